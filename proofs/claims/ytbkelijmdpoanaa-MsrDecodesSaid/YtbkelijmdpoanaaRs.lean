/- The document's Steps, as a contract over memory. -/
import Derived.Test.YtbkelijmdpoanaaRt
import Derived.Test.YtbkelijmdpoanaaRg
import Derived.Test.YtbkelijmdpoanaaSr
namespace Go.Proofs.Ytbkelijmdpoanaa
open Go.RowKit
set_option linter.unusedVariables false
set_option maxRecDepth 20000
set_option linter.unusedSimpArgs false

theorem rect_row {bss : List (List UInt8)} {c k : Nat} {b1 : List UInt8} (hR : ∀ (j : Nat) bs, bss[j]? = some bs → bs.length = c) (h : bss[k]? = some b1) : b1 = rowL c (fnL bss k) := by
  have hl := hR k b1 h
  rw [show fnL bss k = lg b1 from funext fun j => fnL_of h j, ← hl, rowL_lg]
/-- All rows are there. -/
theorem RInv.grd {w wr : World} {s : Nat → List UInt8} {n cp : Nat} {A : Option Addr} {vs : List Value} (h : RInv w s n (.slice A n cp) vs wr) (hn : 0 < n) : ∃ g hv, A = some ⟨g, 0, none⟩ ∧ Grd wr w.heap.size g n hv s := by
  have hl := h.len
  rcases h.own.2 with ⟨e, hz⟩ | ⟨g, cap, cur, e, hb, hg, h1, h2, h3, ht⟩
  · omega
  · injection e with e1 e2 e3
    have cell : ∀ j, j < n → cur[j]? = some (vs.getD j (.slice none 0 0)) := fun j hj => by
      have h4 : (cur.toList.take (vs.length * 1))[j]? = vs[j]? := by rw [ht]
      rw [List.getElem?_take, if_pos (by omega), Array.getElem?_toList] at h4
      rw [h4, List.getD_eq_getElem?_getD, List.getElem?_eq_getElem (by omega)]
      rfl
    refine ⟨g, fun j => vs.getD j (.slice none 0 0), e1, ⟨cur, hg, cell⟩, fun j hj => h.row j _ ?_, hb⟩
    rw [List.getD_eq_getElem?_getD, List.getElem?_eq_getElem (by omega)]
    rfl

/-- What the columns' loop keeps. -/
structure RsI (w : World) (g n c : Nat) (s : RS) (wr : World) : Prop where
  ex : ∃ hv, Grd wr w.heap.size g n hv fun j => rowL c (s.f j)
  kp : Kp No w wr
/-- What the rows' loop keeps: so many are cleared by row a, which is vx. -/
structure R4 (w : World) (g n c : Nat) (f : Nat → Nat → UInt8) (a k : Nat) (vx : Value) (q : Nat) (wr : World) : Prop where
  ex : ∃ hv, Grd wr w.heap.size g n hv (fun j => rowL c (clcF f a k q j)) ∧ hv a = vx
  kp : Kp No w wr
theorem R4.same {w wr : World} {g n c a k q : Nat} {f : Nat → Nat → UInt8} {vx : Value} (h : R4 w g n c f a k vx q wr) (e : q = a) : R4 w g n c f a k vx (q + 1) wr := by
  obtain ⟨hv, h1, h2⟩ := h.ex
  exact ⟨⟨hv, h1.eq fun j _ => rowL_congr fun i _ => clcF_same (.inl e) j i, h2⟩, h.kp⟩
theorem R4.next {w wr w1 : World} {g n c a k q base : Nat} {f : Nat → Nat → UInt8} {vx v : Value} (h : R4 w g n c f a k vx q wr) (hq : q < n) (hne : q ≠ a) (hk : Kp No wr w1) (hb : w.heap.size ≤ base) (ho : Own w1 base 5 v (rowL c fun j => ux (f q j) (um (f a j) (f q k)))) : R4 w g n c f a k vx (q + 1) (w1.setCell ⟨g, q, none⟩ v) := by
  obtain ⟨hv, h1, h2⟩ := h.ex
  have h3 := h1.no hk
  refine ⟨⟨upd hv q v, (h3.put hq (ho.rebase fun p hp => Nat.le_trans hb (ho.ge p hp))).eq fun j _ => ?_, by rw [upd_ne _ _ (Ne.symm hne)]; exact h2⟩, (h.kp.trans' hk).trans (Kp.setCell (p := ⟨g, q, none⟩) (.inr h1.bas) _)⟩
  by_cases e : j = q
  · rw [e, upd_at]
    exact rowL_congr fun i _ => by rw [clcF_new hne, um_comm]
  · rw [upd_ne _ _ e]
    exact rowL_congr fun i _ => clcF_far e i
/-- A row to its place, the pivot to its own. -/
theorem RsI.pivot {w wr w1 : World} {g n c k i base : Nat} {s : RS} {vx va : Value} {hv : Nat → Value} (h : Grd wr w.heap.size g n hv fun j => rowL c (s.f j)) (hkp : Kp No w wr) (ha : s.rk < n) (hi : i < n) (hk : Kp No wr w1) (hb : w.heap.size ≤ base) (ho : Own w1 base 5 vx (rowL c (pivF s.f i k))) (hva : hv s.rk = va) :
    R4 w g n c (upd (swp2 s.f s.rk i) s.rk (pivF s.f i k)) s.rk k vx 0 ((w1.setCell ⟨g, i, none⟩ va).setCell ⟨g, s.rk, none⟩ vx) := by
  have h3 := h.no hk
  subst hva
  have hks : Kp (fun q => q = g) w1 (w1.setCell ⟨g, i, none⟩ (hv s.rk)) := Kp.setCell (p := ⟨g, i, none⟩) (S := fun q => q = g) rfl _
  have ho2 := ho.rebase (b := w.heap.size) fun p hp => Nat.le_trans hb (ho.ge p hp)
  have h4 := (h3.put hi (h3.row s.rk ha)).put ha (ho2.keep hks fun q hq e => outer_ne h3.out ho2 (by rw [hq, e]))
  refine ⟨⟨_, h4.eq fun j _ => ?_, upd_at _ _ _⟩, ((hkp.trans' hk).trans (Kp.setCell (p := ⟨g, i, none⟩) (.inr h.bas) _)).trans (Kp.setCell (p := ⟨g, s.rk, none⟩) (.inr h.bas) _)⟩
  rw [clcF_not (.inl (Nat.zero_le _))]
  unfold upd swp2 swpF
  by_cases e : j = s.rk
  · rw [if_pos e, if_pos e]
  · rw [if_neg e, if_neg e, if_neg e]
    by_cases e2 : j = i
    · rw [if_pos e2, if_pos e2]
    · rw [if_neg e2, if_neg e2]
theorem R4.done {w wr : World} {g n c k i : Nat} {s : RS} {vx : Value} (h : R4 w g n c (upd (swp2 s.f s.rk i) s.rk (pivF s.f i k)) s.rk k vx n wr) (x : UInt8) : RsI w g n c ⟨s.rk + 1, x, elimF s.f s.rk i k⟩ wr := by
  obtain ⟨hv, h1, _⟩ := h.ex
  exact ⟨⟨hv, h1.eq fun j hj => rowL_congr fun q _ => clc_elim s.f hj q⟩, h.kp⟩

/-- The rows come back, brought to steps. -/
def RspPost (w : World) (n c : Nat) (f : Nat → Nat → UInt8) (e : Ending) (w1 : World) : Prop :=
  ∃ g hv cp, e = .returned (.slice (some ⟨g, 0, none⟩) n cp) ∧ Grd w1 w.heap.size g n hv (fun j => rowL c ((redS n f c).f j)) ∧ Kp No w w1

set_option maxHeartbeats 8000000 in
set_option maxRecDepth 100000 in
theorem rsteps_wide {w : World} {A : Option Addr} {n c cp : Nat} {bss : List (List UInt8)} (h : Rws w A n bss) (hR : ∀ (j : Nat) bs, bss[j]? = some bs → bs.length = c) (hn1 : 1 ≤ n) (hn2 : n ≤ 64) (hc1 : 1 ≤ c) (hc2 : c ≤ 100) : Calls Try.prog 37 #[.slice A n cp] w (RspPost w n c (fnL bss)) := by
  obtain ⟨i0, hi0, hz0, hz1, hz2⟩ := byte_parts
  have HR := hide hR
  clear hR
  go_enter Try.func37, Try.ntmps37
  go_wp2_with fail
  go_loopw [3, 4] (fun v i wr => ∃ (k : Nat) (A3 : Option Addr) (n3 cp3 : Nat) (vs : List Value), k ≤ n ∧ i = .int .i64 (k : Int) ∧ v = .slice A3 n3 cp3 ∧ RInv w (fun i => rowL c (fnL bss i)) k (.slice A3 n3 cp3) vs wr) (fun _ i _ => n - (intOf i).toNat)
  case atStart => exact ⟨0, none, 0, 0, [], Nat.zero_le _, rfl, rfl, OwnV.nil _ _, rfl, (fun j u hj => by simp at hj), Kp.refl _ _⟩
  case round =>
    obtain ⟨k, A3, n3, cp3, vs, hk, rfl, rfl, hI⟩ := hrel
    by_cases hlt : k < n
    · obtain ⟨B, off, A1, m1, cp1, b1, rfl, hc1', hb1, hbt1⟩ := (h.no hI.kp).get hlt
      have hc2' : (wr.alloc (.cells #[] 5)).cell? ⟨B, off + k, none⟩ = some (.slice A1 m1 cp1) := (Kp.alloc No _ _).cell hc1' fun f => f
      have hb2 := rect_row HR.out hb1
      clear hb1
      have hkw := hI.kp.size
      have hlen : vs.length ≤ 1000000 := by rw [hI.len]; omega
      have hl1 : b1.length ≤ 1000 := by rw [hb2, rowL_len]; omega
      have HB := hide hb2
      clear hb2
      go_wp2_with (first
        | (at_builtin
           refine wpList_app rfl (.tmp 17) (.tmp 21) _ rfl i0 Try.underlying29 hi0 hz0 hz1 hz2 rfl (own_empty wr) rfl (hbt1.no (Kp.alloc No _ _)) (by simp; omega) (by simp) ?_
           intro A2 n2 c2 w2 ha2
           have hu2 : Own w2 wr.heap.size 5 (.slice A2 n2 c2) (rowL c (fnL bss k)) := by rw [← HB.out]; simpa using ha2.own
           have k2 : Kp No wr w2 := ha2.keeps (own_empty wr) (Kp.alloc No _ _)
           have ho2 : OwnV (w2.alloc (.cells #[.slice A2 n2 c2] 29)) w.heap.size (.slice A3 n3 cp3) vs := (hI.own.no k2).no (Kp.alloc No _ _)
           have hsz2 := k2.size)
        | (at_builtin
           refine wpList_appV rfl (.tmp 16) (.tmp 23) _ rfl Try.underlying26 rfl ho2 _ rfl (fresh_cell _ _ _) rfl rfl hlen ?hs ?_
           case hs => simp; omega
           intro A4 n4 c4 w4 ha4))
      go_round
      case rel => exact ⟨k + 1, A4, n4, c4, _, by omega, by go_num, rfl, hI.step k2 hu2 hkw ha4⟩
      case measure => simp [intOf]; omega
    · obtain rfl : k = n := by omega
      obtain rfl : n3 = k := by rw [hI.own.len, hI.len]
      obtain ⟨g, hv, rfl, hG⟩ := hI.grd hn1
      have hS : RsI w g n3 c (redS n3 (fnL bss) 0) wr := ⟨⟨hv, hG⟩, hI.kp⟩
      clear hI hG
      go_wp2_with fail
      go_loopw [5, 6] (fun at_ i wr => ∃ k : Nat, k ≤ c ∧ at_ = .int .i64 ((redS n3 (fnL bss) k).rk : Int) ∧ i = .int .i64 (k : Int) ∧ RsI w g n3 c (redS n3 (fnL bss) k) wr) (fun _ i _ => c - (intOf i).toNat)
      case atStart => exact ⟨0, Nat.zero_le _, rfl, rfl, hS⟩
      case round =>
        obtain ⟨k, hk, rfl, rfl, hS⟩ := hrel
        obtain ⟨hv, hG⟩ := hS.ex
        obtain ⟨b0, cp0, e0, _, _, _, _⟩ := hG.at_ (j := 0) (by omega) (by omega)
        have x0 := hG.out.cell (j := 0) (by omega)
        rw [e0] at x0
        clear e0
        have hle := (redS_le n3 (fnL bss) k).1
        by_cases hlk : k < c
        · have hstep : Hid (redS n3 (fnL bss) (k + 1) = stepS n3 k (redS n3 (fnL bss) k)) := (rfl : redS n3 (fnL bss) (k + 1) = stepS n3 k (redS n3 (fnL bss) k))
          obtain ⟨s, hs⟩ : ∃ s, s = redS n3 (fnL bss) k := ⟨_, rfl⟩
          rw [← hs] at hS hG hle hstep
          rw [← hs]
          clear hs
          go_wp2_with fail
          go_loop [7] (fun i => ∃ q : Nat, s.rk ≤ q ∧ q ≤ n3 ∧ i = .int .i64 (q : Int) ∧ Hid (∀ p, s.rk ≤ p → p < q → s.f p k = 0)) (fun i => n3 - (intOf i).toNat)
          case atStart => exact ⟨s.rk, Nat.le_refl _, hle, rfl, (fun p h1 h2 => by omega : ∀ p, s.rk ≤ p → p < s.rk → s.f p k = 0)⟩
          case round =>
            obtain ⟨q, hq1, hq2, rfl, hz⟩ := hrel
            by_cases hlq : q < n3
            · obtain ⟨b, cq, e1, eb, hRw, _, _⟩ := hG.at_ (by omega) hlq
              have x1 := hG.out.cell hlq
              rw [e1] at x1
              have x2 := hRw.cell hlk
              by_cases h0 : s.f q k = 0
              · have H0 := hide h0
                have t0 : (((s.f q k).toNat : Int) == 0) = true := by rw [h0]; rfl
                clear h0 e1 eb
                go_wp2_with fail
                go_round
                case rel =>
                  refine ⟨q + 1, by omega, by omega, by go_num, (fun p h1 h2 => ?_ : ∀ p, s.rk ≤ p → p < q + 1 → s.f p k = 0)⟩
                  by_cases e : p = q
                  · rw [e]; exact H0.out
                  · exact hz.out p h1 (by omega)
                case measure => simp [intOf]; omega
              · have H0 := hide h0
                have t0 : (((s.f q k).toNat : Int) == 0) = false := by have := u8_ne h0; simp; exact this
                have hnext : Hid (redS n3 (fnL bss) (k + 1) = ⟨s.rk + 1, um s.pr (s.f q k), elimF s.f s.rk q k⟩) := by
                  show redS n3 (fnL bss) (k + 1) = _
                  rw [hstep.out]
                  exact stepS_at (lead_at hq1 hlq hz.out h0) hlq
                have hra : s.rk < n3 := by omega
                obtain ⟨ba, ca, ea, _, _, _, _⟩ := hG.at_ (by omega) hra
                have xa := hG.out.cell hra
                rw [ea] at xa
                have EA := hide ea
                have E1 := hide e1
                clear h0 e1 eb ea
                go_wp2_with fail
                refine wp_region_still_tail 12 (by kernel_rfl) (by kernel_rfl) ?_
                simp only [List.take_succ_cons, List.take_zero, List.drop_succ_cons, List.drop_zero]
                repeat still_step
                still_call ((refinvU_any (s.f q k) _ H0.out).mono fun _ _ ⟨he, hw⟩ => ⟨he, hw.symm⟩)
                repeat still_step
                refine wpStill_nil ?_
                change wpList _ _ _ _ _ wr.drew
                generalize hgen : wr.drew = w2
                have hs2 : Sm wr w2 := ⟨1, hgen.symm⟩
                clear hgen
                go_wp2_with fail
                refine (times_any (hRw.no hs2.kp).bts (by omega) (ui (s.f q k))).mono ?_
                rintro e w3 ⟨Ax, nx, cx, rfl, hox, hkx⟩
                obtain ⟨bx, cx', ex, _, _⟩ := hox.some_ (by rw [rowL_len]; omega)
                rw [rowL_len] at ex
                injection ex with ex1 ex2 ex3
                subst ex1 ex2 ex3
                have k3 : Kp No wr w3 := hs2.kp.trans' hkx
                have hsz3 : Hid (w.heap.size ≤ w2.heap.size) := Nat.le_trans hS.kp.size (Nat.le_of_eq hs2.size.symm)
                have HP := hide (RsI.pivot (k := k) (va := .slice (some ⟨ba, 0, none⟩) nx ca) hG hS.kp hra hlq k3 hsz3.out hox EA.out)
                have O3 := hG.out.keep k3 fun f => f
                have y1 := O3.cell hlq
                have y2 := O3.cell hra
                rw [E1.out] at y1
                rw [EA.out] at y2
                have f1 := O3.frozen q
                have O4 := O3.set hlq (.slice (some ⟨ba, 0, none⟩) nx ca)
                have y3 := O4.cell hra
                rw [show upd hv q (.slice (some ⟨ba, 0, none⟩) nx ca) s.rk = .slice (some ⟨ba, 0, none⟩) nx ca by unfold upd; rw [EA.out]; split <;> rfl] at y3
                have f2 := O4.frozen s.rk
                clear O3 O4 x0 x1 x2 xa
                go_wp2_with fail
                generalize hg5 : ((w3.setCell ⟨g, q, none⟩ (.slice (some ⟨ba, 0, none⟩) nx ca)).setCell ⟨g, s.rk, none⟩ (.slice (some ⟨bx, 0, none⟩) nx cx)) = w5 at HP ⊢
                clear hg5 y1 y2 y3 f1 f2
                go_loopw [9] (fun i wr => ∃ p : Nat, p ≤ n3 ∧ i = .int .i64 (p : Int) ∧ R4 w g n3 nx (upd (swp2 s.f s.rk q) s.rk (pivF s.f q k)) s.rk k (.slice (some ⟨bx, 0, none⟩) nx cx) p wr) (fun i _ => n3 - (intOf i).toNat)
                case atStart => exact ⟨0, Nat.zero_le _, rfl, HP.out⟩
                case round =>
                  obtain ⟨p, hp, rfl, h4⟩ := hrel
                  by_cases hlp : p < n3
                  · by_cases hpa : p = s.rk
                    · have t1 : ((p : Int) != (s.rk : Int)) = false := by simp; omega
                      have HN := hide (h4.same hpa)
                      clear hpa
                      go_wp2_with fail
                      go_round
                      case rel => exact ⟨p + 1, by omega, by go_num, HN.out⟩
                      case measure => simp [intOf]; omega
                    · have t1 : ((p : Int) != (s.rk : Int)) = true := by simp; omega
                      have HPA := hide hpa
                      clear hpa
                      obtain ⟨f2, hf2⟩ : ∃ f2, f2 = upd (swp2 s.f s.rk q) s.rk (pivF s.f q k) := ⟨_, rfl⟩
                      rw [← hf2] at h4
                      have HF := hide hf2
                      clear hf2
                      obtain ⟨hv4, hG4, e4⟩ := h4.ex
                      have hGd := hG4.no (Sm.drew wr).kp
                      obtain ⟨bp, cpp, e5, _, hRp, _, _⟩ := hGd.at_ (by omega) hlp
                      have hRx : Bts wr.drew (.slice (some ⟨bx, 0, none⟩) nx cx) (rowL nx (f2 s.rk)) := by
                        have := (hGd.row s.rk hra).bts
                        rw [e4, clcF_not (.inr rfl)] at this
                        exact this
                      rw [clcF_not (.inl (Nat.le_refl p))] at hRp
                      have z1 : wr.drew.cell? ⟨g, p, none⟩ = some (.slice (some ⟨bp, 0, none⟩) nx cpp) := by rw [hGd.out.cell hlp, e5]
                      have z2 := hRp.cell hlk
                      have ZZ : Hid (wr.drew.cell? ⟨g, p, none⟩ = some (.slice (some ⟨bp, 0, none⟩) nx cpp) ∧ wr.drew.cell? ⟨bp, k, none⟩ = some (.int .u8 ((f2 p k).toNat : Int))) := ⟨z1, z2⟩
                      have hO4 := hGd.out
                      clear e4 e5 z1 z2
                      go_wp2_with fail
                      refine wp_region_noPanic ?_
                      refine LastR.begin (S := fun w' => w'.cell? ⟨g, p, none⟩ = some (.slice (some ⟨bp, 0, none⟩) nx cpp) ∧ w'.cell? ⟨bp, k, none⟩ = some (.int .u8 ((f2 p k).toNat : Int))) (t := 17) (by kernel_rfl) (ZZ.out) (fun hHeld => ?_)
                      refine LastR.take (i := 0) (v := ?va0) (oi := ?oa0) ?ha0 (by kernel_rfl) (by kernel_rfl) (by kernel_rfl) (by kernel_rfl) (fun _ _ _ h => h) (Or.inl ⟨?wa0, ?ya0⟩) hHeld ?ra0
                      case ha0 => simp only [List.getElem?_toArray, List.getElem?_cons_zero, List.getElem?_cons_succ]; rfl
                      case wa0 => rfl
                      case ya0 => intro w hSw; (try dsimp only at hSw); go_simp; (try with_reducible rfl)
                      simp only [Act.put, List.setIfInBounds_toArray, List.set_cons_zero, List.set_cons_succ]
                      refine LastR.take (i := 1) (v := ?va1) (oi := ?oa1) ?ha1 (by kernel_rfl) (by kernel_rfl) (by kernel_rfl) (by kernel_rfl) (fun _ _ _ h => h) (Or.inl ⟨?wa1, ?ya1⟩) hHeld ?ra1
                      case ha1 => simp only [List.getElem?_toArray, List.getElem?_cons_zero, List.getElem?_cons_succ]; rfl
                      case wa1 => rfl
                      case ya1 => intro w hSw; (try dsimp only at hSw); go_simp; (try with_reducible rfl)
                      simp only [Act.put, List.setIfInBounds_toArray, List.set_cons_zero, List.set_cons_succ]
                      refine LastR.take (i := 2) (v := ?va2) (oi := ?oa2) ?ha2 (by kernel_rfl) (by kernel_rfl) (by kernel_rfl) (by kernel_rfl) (fun _ _ _ h => h) (Or.inl ⟨?wa2, ?ya2⟩) hHeld ?ra2
                      case ha2 => simp only [List.getElem?_toArray, List.getElem?_cons_zero, List.getElem?_cons_succ]; rfl
                      case wa2 => rfl
                      case ya2 => intro w hSw; (try dsimp only at hSw); go_simp; (try with_reducible rfl)
                      simp only [Act.put, List.setIfInBounds_toArray, List.set_cons_zero, List.set_cons_succ]
                      refine LastR.take (i := 3) (v := ?va3) (oi := ?oa3) ?ha3 (by kernel_rfl) (by kernel_rfl) (by kernel_rfl) (by kernel_rfl) (fun _ _ _ h => h) (Or.inl ⟨?wa3, ?ya3⟩) hHeld ?ra3
                      case ha3 => simp only [List.getElem?_toArray, List.getElem?_cons_zero, List.getElem?_cons_succ]; rfl
                      case wa3 => rfl
                      case ya3 => intro w hSw; (try dsimp only at hSw); go_simp; (try with_reducible rfl)
                      simp only [Act.put, List.setIfInBounds_toArray, List.set_cons_zero, List.set_cons_succ]
                      refine LastR.take (i := 4) (v := ?va4) (oi := ?oa4) ?ha4 (by kernel_rfl) (by kernel_rfl) (by kernel_rfl) (by kernel_rfl) (fun _ _ _ h => h) (Or.inl ⟨?wa4, ?ya4⟩) hHeld ?ra4
                      case ha4 => simp only [List.getElem?_toArray, List.getElem?_cons_zero, List.getElem?_cons_succ]; rfl
                      case wa4 => rfl
                      case ya4 => intro w hSw; (try dsimp only at hSw); go_simp; (try with_reducible rfl)
                      simp only [Act.put, List.setIfInBounds_toArray, List.set_cons_zero, List.set_cons_succ]
                      refine LastR.take (i := 5) (v := ?va5) (oi := ?oa5) ?ha5 (by kernel_rfl) (by kernel_rfl) (by kernel_rfl) (by kernel_rfl) (fun _ _ _ h => h) (Or.inl ⟨?wa5, ?ya5⟩) hHeld ?ra5
                      case ha5 => simp only [List.getElem?_toArray, List.getElem?_cons_zero, List.getElem?_cons_succ]; rfl
                      case wa5 => rfl
                      case ya5 => intro w hSw; (try dsimp only at hSw); go_simp; (try with_reducible rfl)
                      simp only [Act.put, List.setIfInBounds_toArray, List.set_cons_zero, List.set_cons_succ]
                      refine LastR.take (i := 6) (v := ?va6) (oi := ?oa6) ?ha6 (by kernel_rfl) (by kernel_rfl) (by kernel_rfl) (by kernel_rfl) (fun _ _ _ h => h) (Or.inl ⟨?wa6, ?ya6⟩) hHeld ?ra6
                      case ha6 => simp only [List.getElem?_toArray, List.getElem?_cons_zero, List.getElem?_cons_succ]; rfl
                      case wa6 => rfl
                      case ya6 => intro w hSw; (try dsimp only at hSw); go_simp; (try with_reducible rfl)
                      simp only [Act.put, List.setIfInBounds_toArray, List.set_cons_zero, List.set_cons_succ]
                      refine LastR.take (i := 7) (v := ?va7) (oi := ?oa7) ?ha7 (by kernel_rfl) (by kernel_rfl) (by kernel_rfl) (by kernel_rfl) (fun _ _ _ h => h) (Or.inl ⟨?wa7, ?ya7⟩) hHeld ?ra7
                      case ha7 => simp only [List.getElem?_toArray, List.getElem?_cons_zero, List.getElem?_cons_succ]; rfl
                      case wa7 => rfl
                      case ya7 => intro w hSw; (try dsimp only at hSw); go_simp; (try with_reducible rfl)
                      simp only [Act.put, List.setIfInBounds_toArray, List.set_cons_zero, List.set_cons_succ]
                      refine LastR.take (i := 8) (v := ?va8) (oi := ?oa8) ?ha8 (by kernel_rfl) (by kernel_rfl) (by kernel_rfl) (by kernel_rfl) (fun _ _ _ h => h) (Or.inl ⟨?wa8, ?ya8⟩) hHeld ?ra8
                      case ha8 => simp only [List.getElem?_toArray, List.getElem?_cons_zero, List.getElem?_cons_succ]; rfl
                      case wa8 => rfl
                      case ya8 => intro w hSw; (try dsimp only at hSw); go_simp; (try with_reducible rfl)
                      simp only [Act.put, List.setIfInBounds_toArray, List.set_cons_zero, List.set_cons_succ]
                      refine LastR.take (i := 9) (v := ?va9) (oi := ?oa9) ?ha9 (by kernel_rfl) (by kernel_rfl) (by kernel_rfl) (by kernel_rfl) (fun _ _ _ h => h) (Or.inl ⟨?wa9, ?ya9⟩) hHeld ?ra9
                      case ha9 => simp only [List.getElem?_toArray, List.getElem?_cons_zero, List.getElem?_cons_succ]; rfl
                      case wa9 => rfl
                      case ya9 => intro w hSw; (try dsimp only at hSw); go_simp; (try with_reducible rfl)
                      simp only [Act.put, List.setIfInBounds_toArray, List.set_cons_zero, List.set_cons_succ]
                      refine LastR.take (i := 10) (v := ?va10) (oi := ?oa10) ?ha10 (by kernel_rfl) (by kernel_rfl) (by kernel_rfl) (by kernel_rfl) (fun _ _ _ h => h) (Or.inl ⟨?wa10, ?ya10⟩) hHeld ?ra10
                      case ha10 => simp only [List.getElem?_toArray, List.getElem?_cons_zero, List.getElem?_cons_succ]; rfl
                      case wa10 => rfl
                      case ya10 => intro w hSw; (try dsimp only at hSw); go_simp; (try with_reducible rfl)
                      simp only [Act.put, List.setIfInBounds_toArray, List.set_cons_zero, List.set_cons_succ]
                      refine LastR.take (i := 11) (v := ?va11) (oi := ?oa11) ?ha11 (by kernel_rfl) (by kernel_rfl) (by kernel_rfl) (by kernel_rfl) (fun _ _ _ h => h) (Or.inl ⟨?wa11, ?ya11⟩) hHeld ?ra11
                      case ha11 => simp only [List.getElem?_toArray, List.getElem?_cons_zero, List.getElem?_cons_succ]; rfl
                      case wa11 => rfl
                      case ya11 => intro w hSw; (try dsimp only at hSw); go_simp; (try with_reducible rfl)
                      simp only [Act.put, List.setIfInBounds_toArray, List.set_cons_zero, List.set_cons_succ]
                      refine LastR.take (i := 12) (v := ?va12) (oi := ?oa12) ?ha12 (by kernel_rfl) (by kernel_rfl) (by kernel_rfl) (by kernel_rfl) (fun _ _ _ h => h) (Or.inl ⟨?wa12, ?ya12⟩) hHeld ?ra12
                      case ha12 => simp only [List.getElem?_toArray, List.getElem?_cons_zero, List.getElem?_cons_succ]; rfl
                      case wa12 => rfl
                      case ya12 => intro w hSw; (try dsimp only at hSw); go_simp; (try with_reducible rfl)
                      simp only [Act.put, List.setIfInBounds_toArray, List.set_cons_zero, List.set_cons_succ]
                      refine LastR.take (i := 13) (v := ?va13) (oi := ?oa13) ?ha13 (by kernel_rfl) (by kernel_rfl) (by kernel_rfl) (by kernel_rfl) (fun _ _ _ h => h) (Or.inl ⟨?wa13, ?ya13⟩) hHeld ?ra13
                      case ha13 => simp only [List.getElem?_toArray, List.getElem?_cons_zero, List.getElem?_cons_succ]; rfl
                      case wa13 => rfl
                      case ya13 => intro w hSw; (try dsimp only at hSw); go_simp; (try with_reducible rfl)
                      simp only [Act.put, List.setIfInBounds_toArray, List.set_cons_zero, List.set_cons_succ]
                      refine LastR.run (i := 14) (o := ?oa14) ?ha14 (by kernel_rfl) (fun K hK => ?sa14)
                      case ha14 => simp only [List.getElem?_toArray, List.getElem?_cons_zero, List.getElem?_cons_succ]; rfl
                      go_simp
                      refine (times_any hRx (by omega) (f2 p k)).mono ?_
                      rintro e w7 ⟨A7, n7, c7, rfl, ho7, hk7⟩
                      obtain rfl : n7 = nx := by rw [ho7.len, rowL_len]
                      have s7 := And.intro (hk7.cell ZZ.out.1 fun f => f) (hk7.cell ZZ.out.2 fun f => f)
                      go_wp2_with fail
                      refine hK.out _ _ (fun _ => s7) (fun hHe => ?_)
                      have hHeld := hHe (by decide)
                      clear hK K hHe
                      try simp only [Act.put, List.setIfInBounds_toArray, List.set_cons_zero, List.set_cons_succ]
                      refine LastR.run (i := 15) (o := ?oa15) ?ha15 (by kernel_rfl) (fun K hK => ?sa15)
                      case ha15 => simp only [List.getElem?_toArray, List.getElem?_cons_zero, List.getElem?_cons_succ]; rfl
                      go_simp
                      refine (plus_any (hRp.no hk7).bts ho7.bts (by omega)).mono ?_
                      rintro e w8 ⟨A8, n8, c8, rfl, ho8, hk8⟩
                      have s8 := And.intro (hk8.cell s7.1 fun f => f) (hk8.cell s7.2 fun f => f)
                      have z8 := s8.1
                      have zf8 := ((hO4.keep hk7 fun f => f).keep hk8 fun f => f).frozen p
                      go_wp2_with fail
                      refine hK.out _ _ (fun _ => s8) (fun hHe => ?_)
                      have hHeld := hHe (by decide)
                      clear hK K hHe
                      try simp only [Act.put, List.setIfInBounds_toArray, List.set_cons_zero, List.set_cons_succ]
                      refine LastR.take (i := 16) (v := ?va16) (oi := ?oa16) ?ha16 (by kernel_rfl) (by kernel_rfl) (by kernel_rfl) (by kernel_rfl) (fun _ _ _ h => h) (Or.inl ⟨?wa16, ?ya16⟩) hHeld ?ra16
                      case ha16 => simp only [List.getElem?_toArray, List.getElem?_cons_zero, List.getElem?_cons_succ]; rfl
                      case wa16 => rfl
                      case ya16 => intro w hSw; (try dsimp only at hSw); go_simp; (try with_reducible rfl)
                      simp only [Act.put, List.setIfInBounds_toArray, List.set_cons_zero, List.set_cons_succ]
                      refine LastR.run (i := 17) (o := ?oa17) ?ha17 (by kernel_rfl) (fun K hK => ?sa17)
                      case ha17 => simp only [List.getElem?_toArray, List.getElem?_cons_zero, List.getElem?_cons_succ]; rfl
                      go_simp
                      refine hK.out _ _ (fun h => absurd rfl h) (fun _ => ?_)
                      clear hK K
                      try simp only [Act.put, List.setIfInBounds_toArray, List.set_cons_zero, List.set_cons_succ]
                      refine LastR.done (by kernel_rfl) ?_ _
                      refine NoPanic.normal ?_
                      have hsz8 : w.heap.size ≤ w7.heap.size := by have := h4.kp.size; have := hk7.size; simp at this; omega
                      have hnx := h4.next hlp HPA.out ((Sm.drew wr).kp.trans' (hk7.trans' hk8)) hsz8 ho8
                      rw [HF.out] at hnx
                      have HN := hide hnx
                      clear hnx
                      go_wp2_with fail
                      go_round
                      case rel => exact ⟨p + 1, by omega, by go_num, HN.out⟩
                      case measure => simp [intOf]; omega
                  · obtain rfl : p = n3 := by omega
                    have HD := hide (h4.done (um s.pr (s.f q k)))
                    go_wp2_with fail
                    go_round
                    case rel => exact ⟨k + 1, by omega, by rw [hnext.out]; go_num, by go_num, by rw [hnext.out]; exact HD.out⟩
                    case measure => simp [intOf]; omega
            · obtain rfl : q = n3 := by omega
              have hsame : Hid (redS q (fnL bss) (k + 1) = s) := by show redS q (fnL bss) (k + 1) = s; rw [hstep.out, stepS_none (lead_none hle hz.out)]
              go_wp2_with fail
              go_round
              case rel => exact ⟨k + 1, by omega, by rw [hsame.out], by go_num, by rw [hsame.out]; exact hS⟩
              case measure => simp [intOf]; omega
        · obtain rfl : k = c := by omega
          go_wp2_with fail
          go_ret
          exact ⟨g, hv, cp3, rfl, hG, hS.kp⟩
theorem rsteps_any {w : World} {A : Option Addr} {n c cp : Nat} {bss : List (List UInt8)} (h : Rws w A n bss) (hR : Rect bss n c) : Calls Try.prog 37 #[.slice A n cp] w (RspPost w n c (fnL bss)) :=
  rsteps_wide h hR.row hR.r1 hR.r2 hR.c1 (Nat.le_trans hR.c2 (by decide))
end Go.Proofs.Ytbkelijmdpoanaa
