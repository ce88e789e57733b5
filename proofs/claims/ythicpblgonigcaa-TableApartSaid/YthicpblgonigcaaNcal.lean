/- Package table's copies of objects: slices.Clone of places, copied, At, Find, Numbered, each as a contract. No condition. -/
import Derived.Test.YthicpblgonigcaaNcak
namespace Go.Proofs.Ythicpblgonigcaa
open Go.RowKit
set_option linter.unusedVariables false
set_option linter.unusedSimpArgs false
set_option maxRecDepth 20000

section
variable {w w1 : World} {G : Nat → Prop} {l : List Pc} {ad : Addr} {n c : Nat}
theorem RdS.nws (h : RdS w G (.slice (some ad) n c) l) : Nws w ad l.length 2 (pcC l) := by
  obtain ⟨A, c', e, _, hat⟩ := h
  injection e with e1 e2 e3
  subst e1
  refine ⟨pcC_len l, fun m u hm => ?_, pcC_one l⟩
  have hml : m < l.length * 2 := by rw [← pcC_len]; exact (List.getElem?_eq_some_iff.1 hm).1
  obtain ⟨p, hp⟩ : ∃ p, l[m / 2]? = some p := ⟨_, List.getElem?_eq_getElem (by omega)⟩
  obtain ⟨B, off, e, _, x0, x1⟩ := hat _ p hp
  injection e with e
  subst e
  rw [add_none]
  obtain ⟨y0, y1⟩ := pcC_get hp
  rcases Nat.mod_two_eq_zero_or_one m with g | g
  · rw [show m = m / 2 * 2 by omega] at hm ⊢
    rw [y0] at hm
    injection hm with hm
    rw [← hm]
    exact x0
  · rw [show m = m / 2 * 2 + 1 by omega] at hm ⊢
    rw [y1] at hm
    injection hm with hm
    rw [← hm, ← Nat.add_assoc]
    exact x1
theorem Nws.noT {ad : Addr} {m sz : Nat} {cs : List Value} (h : Nws w ad m sz cs) (hk : Kp No w w1) : Nws w1 ad m sz cs := ⟨h.len, fun j u hu => hk.cell (h.at_ j u hu) fun f => f, h.one⟩
end
/-- A copy of places comes back. -/
def ClPost (w : World) (l : List Pc) (e : Ending) (w1 : World) : Prop := ∃ A n c, e = .returned (.slice A n c) ∧ OwnT w1 w.heap.size 46 2 (.slice A n c) l.length (pcC l) ∧ Kp No w w1
theorem pc_empty (w : World) : OwnT (w.alloc (.cells #[] 46)) w.heap.size 46 2 (.slice (some ⟨w.heap.size, 0, none⟩) 0 0) 0 [] :=
  World.ownsRow_made w #[] 0 (Nat.le_refl _) (Nat.zero_le _) rfl
theorem tclone_any {w : World} {G : Nat → Prop} {v : Value} {l : List Pc} (hv : RdS w G v l) (hn : l.length ≤ 900000) : Calls Try.prog 51 #[v] w (ClPost w l) := by
  have hq := fun (w : World) (a : Option Addr) (n c : Nat) => Lib.run_eql_slice_nil (P := Try.prog) w 88 46 a n c 0 0 Try.underlying88
  obtain ⟨A, c, rfl⟩ := hv.form
  rcases A with _ | ad
  · have h0 : l = [] ∧ c = 0 := by
      obtain ⟨A', c', e, hz, hat⟩ := hv
      injection e with e1 e2 e3
      subst e1 e3
      refine ⟨?_, hz rfl⟩
      rcases l with _ | ⟨p, l⟩
      · rfl
      · obtain ⟨B, off, e, _⟩ := hat 0 p rfl
        cases e
    obtain ⟨rfl, rfl⟩ := h0
    clear hv hn
    simp only [List.length_nil]
    go_enter Try.func51, Try.ntmps51
    go_wp2
    go_ret
    exact ⟨none, 0, 0, rfl, OwnT.nil _ _ _ _, Kp.refl _ _⟩
  · have hw := hv.nws.noT (Kp.alloc No w (.cells #[] 46))
    obtain ⟨n, hnl⟩ : ∃ n, n = l.length := ⟨_, rfl⟩
    rw [← hnl] at hw hn ⊢
    have HN := hide hnl
    have HW := hide hw
    clear hv hnl hw
    go_enter Try.func51, Try.ntmps51
    go_wp2_with (first
      | (at_builtin
         refine wpList_appT ty_pc rfl (.tmp 5) (.tmp 6) _ rfl Try.underlying88 rfl (pc_empty w) _ c rfl HW.out (by omega) (by simp) ?_
         intro A1 n1 c1 w1 hn1 ha
         have HA := hide ha
         clear ha hn1))
    go_ret
    refine ⟨A1, n1, c1, rfl, ?_, HA.out.keeps (pc_empty w) (Kp.alloc No w _)⟩
    have := HA.out.own
    simp only [List.nil_append, Nat.zero_add] at this
    rw [HN.out] at this
    exact this
/-- A copy of an object comes back. -/
def CpPost (w : World) (o : Ob) (e : Ending) (w1 : World) : Prop := ∃ A n c, e = .returned (obV o (.slice A n c)) ∧ PlR w1 (fun k => w.heap.size ≤ k) (.slice A n c) o.pl ∧ Kp No w w1
/-- Rows of copies so far. -/
structure CpI (w wr : World) (P : List (List Pc)) (k : Nat) (v : Value) : Prop where
  ex : ∃ us, OwnT wr w.heap.size 88 1 v k us ∧ ∀ (j : Nat) u l, us[j]? = some u → P[j]? = some l → PlS wr (fun k => w.heap.size ≤ k) u l
  kp : Kp No w wr
theorem CpI.nil {w wr : World} (P : List (List Pc)) (hk : Kp No w wr) : CpI w wr P 0 (.slice none 0 0) := ⟨⟨[], OwnT.nil _ _ _ _, fun j u l hu => by simp at hu⟩, hk⟩
theorem own1_nws {w : World} {u : Value} {t : TypeId} (h1 : u.oneCell' = true) : Nws (w.alloc (.cells #[u] t)) ⟨w.heap.size, 0, none⟩ 1 1 [u] := nws_one (by simp) h1
theorem CpI.step {w wr w1 w2 : World} {P : List (List Pc)} {k : Nat} {v u v2 : Value} {l : List Pc} {us : List Value} (h1 : OwnT wr w.heap.size 88 1 v k us) (h2 : ∀ (j : Nat) u l, us[j]? = some u → P[j]? = some l → PlS wr (fun k => w.heap.size ≤ k) u l)
    (hk : Kp No w wr) (hl : P[k]? = some l) (hc : OwnT w1 wr.heap.size 46 2 u l.length (pcC l)) (hk1 : Kp No wr w1) (ha : AppT (w1.alloc (.cells #[u] 88)) w.heap.size 88 1 v k us 1 [u] v2 w2) : CpI w w2 P (k + 1) v2 := by
  have hka : Kp No wr (w1.alloc (.cells #[u] 88)) := hk1.al _
  have h1a := h1.no hka
  have hpl : ∀ {x : Value} {q : List Pc}, PlS (w1.alloc (.cells #[u] 88)) (fun k => w.heap.size ≤ k) x q → PlS w2 (fun k => w.heap.size ≤ k) x q := fun {x q} hx =>
    ⟨hx.own.keep ha.kp fun b hb e => ownT_far hx.own h1a (by decide) hb e, hx.fv⟩
  refine ⟨⟨us ++ [u], ha.own, fun j x q hx hq => ?_⟩, ha.keeps h1a (hk.trans' hka)⟩
  have hlen : us.length = k := by have := h1.1; omega
  rcases Nat.lt_or_ge j k with g | g
  · rw [List.getElem?_append_left (by omega)] at hx
    exact hpl ((h2 j x q hx hq).keep hka fun _ _ _ f => f)
  · rw [List.getElem?_append_right (by omega)] at hx
    obtain rfl : j = k := by
      have := (List.getElem?_eq_some_iff.1 hx).1
      simp at this
      omega
    rw [hlen, Nat.sub_self] at hx
    simp at hx
    subst hx
    rw [hl] at hq
    injection hq with hq
    subst hq
    exact hpl ⟨ownT_base0 (hc.no (Kp.alloc No _ _)), fun b hb => Nat.le_trans hk.size (hc.ge b hb)⟩
theorem CpI.fin {w wr W : World} {P : List (List Pc)} {s n : Nat} {v : Value} {xs ys : List Value} (h : CpI w wr P n v) (hl : n = P.length) (hk : Kp (fun q => q = s ∨ q = s + 1) wr W) (b0 : Bx 54 wr s xs) (b1 : Bx 54 wr (s + 1) ys) : PlR W (fun k => w.heap.size ≤ k) v P := by
  subst hl
  obtain ⟨us, h1, h2⟩ := h.ex
  refine ⟨us, ownT_base0 (h1.keep hk fun b hb e => ?_), h1.ge, fun j u l hu hl => ?_⟩
  · rcases e with rfl | rfl
    · exact OwnT.not_at h1 b0 (by decide) hb
    · exact OwnT.not_at h1 b1 (by decide) hb
  · have hp := h2 j u l hu hl
    refine ⟨hp.own.keep hk fun b hb e => ?_, hp.fv⟩
    rcases e with rfl | rfl
    · exact OwnT.not_at hp.own b0 (by decide) hb
    · exact OwnT.not_at hp.own b1 (by decide) hb
set_option maxHeartbeats 2000000 in
theorem tcopied_any {w : World} {G : Nat → Prop} {v : Value} {o : Ob} (hv : RdP w G v o.pl) (hn : o.pl.length ≤ 1000) (hl : ∀ l ∈ o.pl, l.length ≤ 1000) : Calls Try.prog 38 #[obV o v] w (CpPost w o) := by
  obtain ⟨A2, c2, rfl, hz, hat⟩ := hv
  obtain ⟨P, hP⟩ : ∃ P, P = o.pl := ⟨_, rfl⟩
  rw [← hP] at hn hl hat ⊢
  obtain ⟨n, hnl⟩ : ∃ n, n = P.length := ⟨_, rfl⟩
  rw [← hnl] at hn ⊢
  have HL := hide hnl
  have HAT := hide hat
  have HP := hide hP
  have HLL := hide hl
  clear hnl hat hz hP hl
  go_enter Try.func38, Try.ntmps38
  go_wp2_with fail
  obtain ⟨s, hs⟩ : ∃ s, s = w.heap.size := ⟨_, rfl⟩
  have HB2 := hide (Bx.two w 54 54 (obL o (.slice A2 n c2)) obZ)
  rw [← hs] at HB2 ⊢
  have HS := hide hs
  clear hs
  go_loopw [3, 9] (fun rv iv wr => ∃ (k : Nat) (A : Option Addr) (m c : Nat), k ≤ n ∧ iv = .int .i64 (k : Int) ∧ rv = .slice A m c ∧ CpI w wr P k (.slice A m c) ∧ Bx 54 wr s (obL o (.slice A2 n c2)) ∧ Bx 54 wr (s + 1) obZ) (fun _ iv _ => n - (intOf iv).toNat)
  case atStart => exact ⟨0, none, 0, 0, Nat.zero_le _, rfl, rfl, CpI.nil P ((Kp.alloc No _ _).trans' (Kp.alloc No _ _)), HB2.out⟩
  case round =>
    obtain ⟨k, A, m, c, hkn, rfl, rfl, ⟨⟨us, h1, h2⟩, hkw⟩, hb0, hb1⟩ := hrel
    have HB0 := hide hb0
    have HB1 := hide hb1
    clear hb0 hb1
    have HK := hide hkw
    have hm := h1.len
    have H1 := hide h1
    have H2 := hide h2
    by_cases hlt : k < n
    · obtain ⟨l, hp⟩ : ∃ l, P[k]? = some l := ⟨_, List.getElem?_eq_getElem (by rw [← HL.out]; exact hlt)⟩
      obtain ⟨B, off, u, rfl, hB, x0, x1⟩ := HAT.out k l hp
      have y0 := hkw.cell x0 fun f => f
      have hc := tclone_any (x1.no hkw) (by have := HLL.out l (List.mem_of_getElem? hp); omega)
      obtain ⟨Au, cu, rfl⟩ := x1.form
      have HPk := hide hp
      have HC := hide hc
      have hm2 : m ≤ 1000 := by omega
      have HM := hide hm
      clear x0 x1 hp hc h1 h2 hkw hm
      go_wp2_with fail
      refine HC.out.mono ?_
      rintro e w1 ⟨A1, n1, c1, rfl, ho1, hk1⟩
      have HO := hide ho1
      have HK1 := hide hk1
      have hs1 : w.heap.size ≤ (w1.alloc (.cells #[.slice A1 n1 c1] 88)).heap.size := ((HK.out.trans' hk1).al _).size
      have hna := own1_nws (w := w1) (u := .slice A1 n1 c1) (t := 88) rfl
      have hoa := H1.out.no (hk1.al (.cells #[.slice A1 n1 c1] 88))
      clear ho1 hk1
      go_wp2_with (first
        | (at_builtin
           refine wpList_appT ty_pcs rfl (.tmp 13) (.tmp 16) _ rfl Try.underlying45 rfl hoa _ _ rfl hna (by omega) hs1 ?_
           intro A3 n3 c3 w3 hn3 ha
           have HA := hide ha
           clear ha hn3 hna hoa))
      go_round
      case rel =>
        have hcp := CpI.step H1.out H2.out HK.out HPk.out HO.out HK1.out HA.out
        have hfar : ∀ {b : Nat} {xs : List Value}, Bx 54 wr b xs → Bx 54 w3 b xs := fun {b xs} hb =>
          (hb.no (HK1.out.al (.cells #[.slice A1 n1 c1] 88))).keep HA.out.kp (OwnT.not_at (H1.out.no (HK1.out.al (.cells #[.slice A1 n1 c1] 88))) (hb.no (HK1.out.al (.cells #[.slice A1 n1 c1] 88))) (by decide))
        exact ⟨k + 1, A3, n3, c3, by omega, by go_num, rfl, hcp, hfar HB0.out, hfar HB1.out⟩
      case measure => simp [intOf]; omega
    · obtain rfl : k = n := by omega
      obtain ⟨x0, x1, x2, x3, x4, x5⟩ := HB0.out.at_
      have f5 := HB0.out.fz 5
      obtain ⟨y0, y1, y2, y3, y4, y5⟩ : wr.cell? ⟨s + 1, 0, none⟩ = some (.int .u32 0) ∧ wr.cell? ⟨s + 1, 1, none⟩ = some (.string ByteArray.empty) ∧ wr.cell? ⟨s + 1, 2, none⟩ = some (.int .i64 0) ∧ wr.cell? ⟨s + 1, 3, none⟩ = some (.int .i64 0) ∧ wr.cell? ⟨s + 1, 4, none⟩ = some (.int .i64 0) ∧ wr.cell? ⟨s + 1, 5, none⟩ = some (.slice none 0 0) := ⟨HB1.out.cell rfl, HB1.out.cell rfl, HB1.out.cell rfl, HB1.out.cell rfl, HB1.out.cell rfl, HB1.out.cell rfl⟩
      have g0 := HB1.out.fz 0
      have g1 := HB1.out.fz 1
      have g2 := HB1.out.fz 2
      have g3 := HB1.out.fz 3
      have g4 := HB1.out.fz 4
      have g5 := HB1.out.fz 5
      have hkp : ∀ u0 u1 u2 u3 u4 u5 u6 : Value, Kp (fun q => q = s ∨ q = s + 1) wr (((((((wr.setCell ⟨s, 5, none⟩ u0).setCell ⟨s + 1, 0, none⟩ u1).setCell ⟨s + 1, 1, none⟩ u2).setCell ⟨s + 1, 2, none⟩ u3).setCell ⟨s + 1, 3, none⟩ u4).setCell ⟨s + 1, 4, none⟩ u5).setCell ⟨s + 1, 5, none⟩ u6) := fun u0 u1 u2 u3 u4 u5 u6 =>
        (Kp.setCell (p := ⟨s, 5, none⟩) (.inl rfl) u0).trans' (kp6 _ (s + 1) u1 u2 u3 u4 u5 u6 (.inr rfl))
      have hbx : ∀ u0 u1 u2 u3 u4 u5 u6 : Value, Bx 54 (((((((wr.setCell ⟨s, 5, none⟩ u0).setCell ⟨s + 1, 0, none⟩ u1).setCell ⟨s + 1, 1, none⟩ u2).setCell ⟨s + 1, 2, none⟩ u3).setCell ⟨s + 1, 3, none⟩ u4).setCell ⟨s + 1, 4, none⟩ u5).setCell ⟨s + 1, 5, none⟩ u6) (s + 1) [u1, u2, u3, u4, u5, u6] := fun u0 u1 u2 u3 u4 u5 u6 =>
        (HB1.out.keep (Kp.setCell (p := ⟨s, 5, none⟩) (S := fun q => q = s) rfl u0) (by omega)).six u1 u2 u3 u4 u5 u6
      have HKP := hide hkp
      have HBX := hide hbx
      clear h1 h2 hkw hm hkp hbx
      go_wp2_with fail
      have k9 := HKP.out (.slice A m c) (.int .u32 (o.num : Int)) (.string (strOf o.nm)) (.int .i64 o.ln) (.int .i64 o.ct) (.int .i64 o.pc) (.slice A m c)
      have b9 := HBX.out (.slice A m c) (.int .u32 (o.num : Int)) (.string (strOf o.nm)) (.int .i64 o.ln) (.int .i64 o.ct) (.int .i64 o.pc) (.slice A m c)
      generalize (((((((wr.setCell ⟨s, 5, none⟩ (.slice A m c)).setCell ⟨s + 1, 0, none⟩ (.int .u32 (o.num : Int))).setCell ⟨s + 1, 1, none⟩ (.string (strOf o.nm))).setCell ⟨s + 1, 2, none⟩ (.int .i64 o.ln)).setCell ⟨s + 1, 3, none⟩ (.int .i64 o.ct)).setCell ⟨s + 1, 4, none⟩ (.int .i64 o.pc)).setCell ⟨s + 1, 5, none⟩ (.slice A m c)) = W at k9 b9 ⊢
      obtain ⟨r0, r1, r2, r3, r4, r5⟩ := Bx.at_ (o := o) (v := .slice A m c) b9
      simp only [Nat.zero_add] at r1 r2 r3 r4 r5
      refine bodyPost_ret (v := obV o (.slice A m c)) (by simp [results, Try.results38, go_sem, r0, r1, r2, r3, r4, r5]) rfl ⟨A, m, c, rfl, ?_, ?_⟩
      · rw [← HP.out]
        exact CpI.fin ⟨⟨us, H1.out, H2.out⟩, HK.out⟩ HL.out k9 HB0.out HB1.out
      · exact HK.out.trans (k9.mono fun q hq => .inr (by have := HS.out; omega))
end Go.Proofs.Ythicpblgonigcaa
