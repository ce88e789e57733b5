/- Package msr's inverse, as a contract over memory. -/
import Derived.Test.YtbkelijmdpoanaaIn
import Derived.Test.YtbkelijmdpoanaaSd
namespace Go.Proofs.Ytbkelijmdpoanaa
open Go.RowKit
set_option linter.unusedVariables false
set_option linter.unusedSimpArgs false
set_option maxRecDepth 100000

theorem plc_apart : ∀ a, a < 8 → ∀ j, j < a → ∀ r, r < a + a → ∀ s, s < r → plcF a s j ≠ plcF a r j := by decide +kernel
/-- An equation, as far as it was laid. -/
def eqS (a : Nat) (y : UInt8) (j R p : Nat) : UInt8 := us (fun r => if plcF a r j = p then upw y r else 0) R
theorem eqS_step {a j R : Nat} (y : UInt8) (ha : a < 8) (hj : j < a) (hR : R < a + a) (p : Nat) : upd (eqS a y j R) (plcF a R j) (upw y R) p = eqS a y j (R + 1) p := by
  show _ = eqS a y j R p ^^^ (if plcF a R j = p then upw y R else 0)
  unfold upd
  by_cases e : p = plcF a R j
  · subst e
    rw [if_pos rfl, if_pos rfl]
    unfold eqS
    rw [us_congr (t := fun _ => 0) fun r hr => if_neg (plc_apart a ha j hj R hR r hr), us_zero, zero_ux]
  · rw [if_neg e, if_neg (fun e' => e e'.symm), ux_zero]
theorem eqM_at {a d : Nat} (x : Nat → UInt8) {j t : Nat} (hd : d = a + a) (ht : t < a) : eqM a (plcF a) x (j * a + t) = eqS a (x j) t d := by
  funext p
  unfold eqM eqS
  have h1 : (j * a + t) / a = j := by rw [Nat.mul_comm, Nat.mul_add_div (by omega), Nat.div_eq_of_lt ht, Nat.add_zero]
  have h2 : (j * a + t) % a = t := by rw [Nat.mul_comm, Nat.mul_add_mod, Nat.mod_eq_of_lt ht]
  rw [h1, h2, hd]
theorem RInv.no {w wr w2 : World} {s : Nat → List UInt8} {k : Nat} {v : Value} {vs : List Value} (h : RInv w s k v vs wr) (hk : Kp No wr w2) : RInv w s k v vs w2 := ⟨h.own.no hk, h.len, fun j u hj => (h.row j u hj).no hk, h.kp.trans' hk⟩
/-- Rows come back, by which what is known is multiplied. -/
def InvPost (w : World) (q : Nat) (E : Nat → Nat → UInt8) (e : Ending) (w1 : World) : Prop :=
  ∃ g hv G, e = .returned (.slice (some ⟨g, 0, none⟩) q q) ∧ Grd w1 w.heap.size g q hv (fun j => rowL q (G j)) ∧ EqF q q (mulF q E G) oneF ∧ Kp No w w1

set_option maxHeartbeats 8000000 in
theorem inverse_any {w : World} {c n k a d q : Nat} {x : Nat → UInt8} {A : Option Addr} {cp : Nat} {ss : Nat → Nat} {ds : Nat → List UInt8} (h : CodeAt w c n k x) (hD : Dim n k a d q) (hP : Prts w A k (fun j => (ss j : Int)) ds) (hs : ∀ j, j < k → ss j < n) (hU : Uq k fun j => upw (x (ss j)) a) :
    Calls Try.prog 28 #[cptr c, .slice A k cp] w (InvPost w q (eqM a (plcF a) fun j => x (ss j))) := by
  obtain ⟨hq1, hq2, hq3⟩ := hD.q56
  have ha1 := hD.a1
  have ha7 := hD.a7
  have hk8 : k ≤ 8 := by have := hD.k_; omega
  have hk1 : 1 ≤ k := by have := hD.k_; omega
  have hd14 : d ≤ 14 := by have := hD.d_; omega
  have HDD := hide hD.d_
  have HKQ : Hid (k * a = q) := by show k * a = q; rw [hD.k_, hD.q_]
  have HW : Hid ((redS q (eqM a (plcF a) fun j => x (ss j)) q).rk = q) := by
    have := eqM_whole (plc_ok (a := a) (by omega) ha1) ha1 rfl (x := fun j => x (ss j)) (by rw [← hD.k_]; exact hU)
    rw [← hD.q_] at this
    exact this
  have HS := hide hs
  have HD := hide hD
  have HPL : Hid (∀ r j, r < d → j < a → plcF a r j < q) := fun r j hr hj => plc_lt hD hr hj
  have hcol := columns_any h hD
  clear hs hU hD
  go_enter Try.func28, Try.ntmps28
  go_wp2_with fail
  refine hcol.mono ?_
  rintro e w1 ⟨gc, cpc, bl, rfl, hG, hkc⟩
  clear hcol
  go_wp2_with fail
  go_loopw [5, 23] (fun v jv wr => ∃ (j : Nat) (A' : Option Addr) (r cc : Nat) (vs : List Value), j ≤ k ∧ jv = .int .i64 (j : Int) ∧ v = .slice A' r cc ∧ RInv w1 (fun t => rowL q (eqM a (plcF a) (fun j => x (ss j)) t)) (j * a) (.slice A' r cc) vs wr) (fun _ jv _ => k - (intOf jv).toNat)
  case atStart => exact ⟨0, none, 0, 0, [], Nat.zero_le _, rfl, rfl, by rw [Nat.zero_mul]; exact ⟨OwnV.nil _ _, rfl, (fun j u hj => by simp at hj), Kp.refl _ _⟩⟩
  case round =>
    obtain ⟨j, A', r, cc, vs, hj, rfl, rfl, hI⟩ := hrel
    by_cases hlt : j < k
    · obtain ⟨B, off, A1, r1, c1, rfl, z0, z1, hB⟩ := (hP.no (hkc.trans' hI.kp)).at_ j hlt
      have hkb : Kp No wr (wr.alloc (.cells #[.int .i64 (ss j : Int), .slice A1 r1 c1] 45)) := Kp.alloc No _ _
      have hrow := rowo_in (h.no ((hkc.trans' hI.kp).trans' hkb)) HD.out (ss j) (HS.out j hlt)
      have hI2 := hI.no hkb
      clear hB
      go_wp2_with fail
      refine hrow.mono ?_
      rintro e w2 ⟨A5, n5, c5, rfl, ho5, hk5⟩
      obtain rfl : d = n5 := by rw [ho5.len, rowL_len]
      have hI3 := hI2.no hk5
      have hge5 : w1.heap.size ≤ (wr.alloc (.cells #[.int .i64 (ss j : Int), .slice A1 r1 c1] 45)).heap.size := hI2.kp.size
      have ho6 := ho5.rebase (b := w1.heap.size) fun q hq => Nat.le_trans hge5 (ho5.ge q hq)
      clear hrow hI hI2 ho5 hge5 z0 z1 hkb hk5
      go_wp2_with fail
      go_loopw [5, 33] (fun v tv wr => ∃ (t : Nat) (A' : Option Addr) (r cc : Nat) (vs : List Value), t ≤ a ∧ tv = .int .i64 (t : Int) ∧ v = .slice A' r cc ∧ RInv w1 (fun t => rowL q (eqM a (plcF a) (fun j => x (ss j)) t)) (j * a + t) (.slice A' r cc) vs wr ∧ Own wr w1.heap.size 5 (.slice A5 d c5) (rowL d (upw (x (ss j))))) (fun _ tv _ => a - (intOf tv).toNat)
      case atStart => exact ⟨0, A', r, cc, vs, Nat.zero_le _, rfl, rfl, hI3, ho6⟩
      case round =>
        clear hI3 ho6
        obtain ⟨t, A', r, cc, vs, ht, rfl, rfl, hI, ho⟩ := hrel
        by_cases hltt : t < a
        · obtain ⟨wB, rfl⟩ : ∃ wB, wB = wr := ⟨_, rfl⟩
          have zc0 := (hG.no hI.kp).outer hltt
          have hmk := make_bytes wB q (q : Int) rfl (by omega)
          have hst := row_new wB q (by omega)
          have hk0 : Kp No wB (wB.alloc (.cells (zc q) 5)) := Kp.alloc No _ _
          have hqq := qq_any (h.no (hkc.trans' hI.kp)) HD.out
          obtain ⟨g, hg⟩ : ∃ g, g = wB.heap.size := ⟨_, rfl⟩
          have HEQ : Hid (eqM a (plcF a) (fun j => x (ss j)) (j * a + t) = eqS a (x (ss j)) t d) := eqM_at (fun j => x (ss j)) HDD.out hltt
          go_wp2_with fail
          refine hqq.mono ?_
          rintro e w' ⟨rfl, rfl⟩
          go_wp2_with fail
          rw [← hg] at hst ⊢
          have HGG := hide hg
          clear hg hmk hqq zc0
          go_loopw [42] (fun Rv wr => ∃ R : Nat, R ≤ d ∧ Rv = .int .i64 (R : Int) ∧ RowAt wr g g q q (eqS a (x (ss j)) t R) ∧ Kp No wB wr) (fun Rv _ => d - (intOf Rv).toNat)
          case atStart => exact ⟨0, Nat.zero_le _, rfl, hst, hk0⟩
          case round =>
            clear hst hk0
            obtain ⟨R, hR, rfl, hRow, hkw⟩ := hrel
            by_cases hltR : R < d
            · have y1 := ((hG.no hI.kp).no hkw).cell hltt hltR
              obtain ⟨B5, o5, rfl, y2⟩ := (ho.bts.no hkw).cell hltR
              have hp := HPL.out R t hltR hltt
              have y3 := hRow.cell hp
              have y4 := hRow.frozen (plcF a R t)
              have HN := hide ((hRow.set hp (upw (x (ss j)) R) _ rfl).eq fun p _ => eqS_step (x (ss j)) (by omega) hltt (by rw [← HDD.out]; exact hltR) p)
              have HKN : Hid (Kp No wB (wr.setCell ⟨g, plcF a R t, none⟩ (bv (upw (x (ss j)) R)))) := hkw.trans ((RowAt.kpset g (plcF a R t) (bv (upw (x (ss j)) R)) wr).mono fun q hq => .inr (by rw [hq, HGG.out]; exact Nat.le_refl _))
              clear hRow hkw
              generalize plcF a R t = z at *
              go_wp2_with fail
              go_round
              case rel => exact ⟨R + 1, by omega, by go_num, HN.out, HKN.out⟩
              case measure => simp [intOf]; omega
            · obtain rfl : R = d := by omega
              have hRow' : Own wr g 5 (.slice (some ⟨g, 0, none⟩) q q) (rowL q (eqM a (plcF a) (fun j => x (ss j)) (j * a + t))) := by rw [HEQ.out]; exact hRow
              have hlen : vs.length ≤ 1000000 := by
                rw [hI.len]
                have h5 := Nat.mul_le_mul (show j ≤ 8 by omega) (show a ≤ 7 by omega)
                omega
              have hgw : w1.heap.size ≤ g := by rw [HGG.out]; exact hI.kp.size
              have hgw2 := hkw.size
              have hgw3 := hI.kp.size
              have ho2 : OwnV (wr.alloc (.cells #[.slice (some ⟨g, 0, none⟩) q q] 29)) w1.heap.size (.slice A' r cc) vs := (hI.own.no hkw).no (Kp.alloc No _ _)
              have ho3 := (ho.no hkw).alloc (.cells #[.slice (some ⟨g, 0, none⟩) q q] 29)
              clear hRow HEQ
              go_wp2_with (first
                | (at_builtin
                   refine wpList_appV rfl (.tmp 55) (.tmp 57) _ rfl Try.underlying26 rfl ho2 _ rfl (fresh_cell _ _ _) rfl rfl hlen ?hs ?_
                   case hs => simp; omega
                   intro A3 n3 c3 w3 ha))
              go_round
              case rel => exact ⟨t + 1, A3, n3, c3, _, by omega, by go_num, rfl, hI.step hkw hRow' hgw ha, ho3.keep ha.kp fun q hq => own_apart ho3 ho2 hq⟩
              case measure => simp [intOf]; omega
        · obtain rfl : t = a := by omega
          have e : j * t + t = (j + 1) * t := by rw [Nat.add_mul, Nat.one_mul]
          rw [e] at hI
          clear e
          go_wp2_with fail
          go_round
          case rel => exact ⟨j + 1, A', r, cc, vs, by omega, by go_num, rfl, hI⟩
          case measure => simp [intOf]; omega
    · obtain rfl : j = k := by omega
      have hI2 := hI
      rw [HKQ.out] at hI2
      obtain rfl : q = r := by rw [hI2.own.len, hI2.len]
      have hRws := hI2.rws (bss := matL q q (eqM a (plcF a) fun j => x (ss j))) (matL_len _ _ _) fun t ht => matL_get _ ht
      have hof := of_yes (cp := cc) hRws (matL_rect (eqM a (plcF a) fun j => x (ss j)) (by omega) (by omega) (by omega) (by omega))
      have HW2 : Hid ((redS q (fnL (matL q q (eqM a (plcF a) fun j => x (ss j)))) q).rk = q) := (redS_congr (fnL_matL (eqM a (plcF a) fun j => x (ss j))) q (Nat.le_refl _)).1.trans HW.out
      have hk2 := hkc.trans' hI.kp
      have HEQ : Hid (EqF q q (fnL (matL q q (eqM a (plcF a) fun j => x (ss j)))) (eqM a (plcF a) fun j => x (ss j))) := fnL_matL _
      clear hI hI2 hRws
      go_wp2_with fail
      refine hof.mono ?_
      rintro e w2 ⟨M, rfl, hM, _, _, hk3⟩
      have hinv := invert_any hM
      clear hof
      go_wp2_with fail
      refine hinv.mono ?_
      rintro e w3 hsol
      rcases hsol with ⟨hbad, _⟩ | ⟨hgood, M2, rfl, hM2, _, _, hk4⟩
      · exact absurd HW2.out (by omega)
      have hkw := (hk2.trans' hk3).trans' hk4
      have HMul : Hid (EqF q q (mulF q (eqM a (plcF a) fun j => x (ss j)) (offF q (redS q (catF q (fnL (matL q q (eqM a (plcF a) fun j => x (ss j)))) oneF) q).f)) oneF) := by
        have h5 := solve_eq (m := q) (fnL (matL q q (eqM a (plcF a) fun j => x (ss j)))) oneF ((redS_congr (catF_left q _ _ q) q (Nat.le_refl _)).1.trans hgood)
        exact (mulF_congr (EqF.symm HEQ.out) (EqF.refl q q _)).trans h5
      generalize offF q (redS q (catF q (fnL (matL q q (eqM a (plcF a) fun j => x (ss j)))) oneF) q).f = G at *
      clear hgood hinv HW2 HEQ hM
      have hqq := qq_any (h.no hkw) HD.out
      have hmk := make_rows w3 q (q : Int) rfl (by omega)
      go_wp2_with fail
      refine hqq.mono ?_
      rintro e w' ⟨rfl, rfl⟩
      go_wp2_with fail
      obtain ⟨g, hg⟩ : ∃ g, g = w3.heap.size := ⟨_, rfl⟩
      have hR0 : RoI w3 g q q G 0 (w3.alloc (.cells (zr q) 29)) := by
        rw [hg]
        exact ⟨⟨fun _ => .slice none 0 0, ⟨zr q, heap_alloc_new w3 _, fun j hj => zr_get hj⟩, fun j hj => absurd hj (Nat.not_lt_zero _), fun i j hi => absurd hi (Nat.not_lt_zero _)⟩, Kp.alloc No _ _⟩
      rw [← hg]
      have HG3 := hide hg
      clear hg hmk hqq
      go_loopw [76] (fun pv wr => ∃ p : Nat, p ≤ q ∧ pv = .int .i64 (p : Int) ∧ RoI w3 g q q G p wr) (fun pv _ => q - (intOf pv).toNat)
      case atStart => exact ⟨0, Nat.zero_le _, rfl, hR0⟩
      case round =>
        clear hR0
        obtain ⟨p, hp, rfl, hRo⟩ := hrel
        by_cases hltp : p < q
        · go_wp2_with fail
          refine (rowc_in (hM2.no hRo.kp) p hltp).mono ?_
          rintro e w4 ⟨A6, n6, c6, rfl, ho6, hk6⟩
          obtain ⟨hv, hout, _⟩ := hRo.ex
          have y1 := (hout.keep hk6 fun f => f).cell hltp
          have y2 := (hout.keep hk6 fun f => f).frozen p
          have HN := hide (hRo.step (Nat.le_of_eq HG3.out.symm) hltp (by omega) (Nat.le_refl _) ho6 hk6)
          clear hRo hout
          go_wp2_with fail
          go_round
          case rel => exact ⟨p + 1, by omega, by go_num, HN.out⟩
          case measure => simp [intOf]; omega
        · obtain rfl : p = q := by omega
          obtain ⟨hv, hout, hrows, _⟩ := hRo.ex
          have hkp := hRo.kp
          clear hRo
          go_wp2_with fail
          go_ret
          exact ⟨g, hv, G, rfl, ⟨hout, fun i hi => (hrows i hi).rebase fun b hb => Nat.le_trans hkw.size ((hrows i hi).ge b hb), by rw [HG3.out]; exact hkw.size⟩, HMul.out, hkw.trans' hkp⟩
end Go.Proofs.Ytbkelijmdpoanaa
