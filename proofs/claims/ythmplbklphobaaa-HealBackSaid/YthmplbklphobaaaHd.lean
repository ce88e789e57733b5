/- Package heal's Regenerate and Whole, each as a contract over memory. -/
import Derived.Test.YthmplbklphobaaaHc
import Derived.Test.YthmplbklphobaaaMsb
namespace Go.Proofs.Ythmplbklphobaaa
open Go.RowKit
set_option linter.unusedVariables false
set_option linter.unusedSimpArgs false
set_option maxRecDepth 100000

/-- An error comes back, and no bytes. -/
def BadPost (w : World) (z : Int) (e : Ending) (w1 : World) : Prop := e = .returned (.tuple #[.slice none 0 0, .int .i64 z]) ∧ Kp No w w1
/-- A byte of the lost shard: its part's row by what the fragments have there. -/
def rgE (G : Nat → Nat → UInt8) (a d S : Nat) (y : UInt8) (ds : Nat → List UInt8) (t : Nat) : UInt8 := ud (hfF G a y (t / S)) (fun j => lg (ds j) (t % S)) d
def RegPost (w : World) (a d S W : Nat) (p : Nat → UInt8) (y : UInt8) (ds : Nat → List UInt8) (e : Ending) (w1 : World) : Prop :=
  ∃ (G : Nat → Nat → UInt8) (A' : Option Addr) (r cc : Nat), e = .returned (.tuple #[.slice A' r cc, .int .i64 0]) ∧ Own w1 w.heap.size 5 (.slice A' r cc) (rowL W (rgE G a d S y ds)) ∧ EqF d d (mulF d (vF p) G) oneF ∧ Kp No w w1
theorem reg_nil (w : World) (i : Int) (v : Value) : Calls Try.prog 14 #[.pointer none, .int .i64 i, v] w (BadPost w 1) := by
  have hx := hck_nil w i v
  go_enter Try.func14, Try.ntmps14
  go_wp2_with fail
  refine hx.mono ?_
  rintro e w' ⟨rfl, rfl⟩
  go_wp2_with fail
  go_ret2
  exact ⟨rfl, Kp.refl _ _⟩
section
variable {w : World} {c n k a d q m cp : Nat} {x : Nat → UInt8} {A : Option Addr} {sl : Nat → Int} {ds : Nat → List UInt8}
theorem reg_out (h : CodeAt w c n k x) (i : Int) (hi : i < 0 ∨ (n : Int) ≤ i) (v : Value) : Calls Try.prog 14 #[cptr c, .int .i64 i, v] w (BadPost w 1) := by
  have hx := hck_out h i hi v
  clear hi
  go_enter Try.func14, Try.ntmps14
  go_wp2_with fail
  refine hx.mono ?_
  rintro e w' ⟨rfl, rfl⟩
  go_wp2_with fail
  go_ret2
  exact ⟨rfl, Kp.refl _ _⟩
theorem reg_err (h : CodeAt w c n k x) (hD : Dim n k a d q) (hP : Prts w A m sl ds) (hm : m ≤ 1000) (i : Nat) (hi : i < n) (z : Int) (hz : ∀ y, HckV n d m (i : Int) sl ds y → y = z) (h0 : z ≠ 0) : Calls Try.prog 14 #[cptr c, .int .i64 (i : Int), .slice A m cp] w (BadPost w z) := by
  have hck := hck_any (cp := cp) h hD hP hm i hi
  have hz0 : (z != 0) = true := by simpa using h0
  have HZ := hide hz
  clear hz h0 hD hP
  go_enter Try.func14, Try.ntmps14
  go_wp2_with fail
  refine hck.mono ?_
  rintro e w1 ⟨y, rfl, hV, hk⟩
  have hy := HZ.out y hV
  subst hy
  clear hV hck
  go_wp2_with fail
  go_ret2
  exact ⟨rfl, hk⟩
set_option maxHeartbeats 8000000 in
theorem reg_ok {ss : Nat → Nat} {S W i : Nat} (h : CodeAt w c n k x) (hD : Dim n k a d q) (hX : Pts n a x) (hP : Prts w A m sl ds) (hm : m ≤ 1000) (hcp : m ≤ cp) (hdm : d ≤ m) (hgood : ∀ j, j < m → HGood n (i : Int) sl ds j) (hs : ∀ j, j < m → sl j = (ss j : Int)) (hi : i < n) (hS : (ds 0).length = S) (hSb : S ≤ 10000) (hWe : W = a * S) :
    Calls Try.prog 14 #[cptr c, .int .i64 (i : Int), .slice A m cp] w (RegPost w a d S W (fun j => x (ss j)) (x i) ds) := by
  have hck := hck_any (cp := cp) h hD hP hm i hi
  have ha1 := hD.a1
  have ha7 := hD.a7
  have hd1 : 1 ≤ d := by have := hD.d_; omega
  have hd14 : d ≤ 14 := by have := hD.d_; omega
  have hmp : 0 < m := by omega
  have hlen : ∀ j, j < d → (ds j).length = S := fun j hj => by rw [(hgood j (by omega)).1.2.2.2, hS]
  have hS1 : 1 ≤ S := by
    rcases Nat.eq_zero_or_pos S with e | e
    · have := (hgood 0 hmp).1.2.2.1
      rw [hS, e] at this
      exact absurd rfl this
    · exact e
  have hWb : W ≤ 70000 := by rw [hWe]; exact Nat.le_trans (Nat.mul_le_mul ha7 hSb) (by omega)
  have hV0 : ∀ y, HckV n d m (i : Int) sl ds y → y = 0 := fun y hy => by
    rcases hy with ⟨⟨j, hj, hb⟩, _⟩ | ⟨_, ⟨hf, _⟩ | ⟨_, hy⟩⟩
    · exact absurd (hgood j hj) hb
    · omega
    · exact hy
  have hsn : ∀ j, j < d → ss j < n := fun j hj => by
    have h1 := (hgood j (by omega)).1.1
    have h2 := hs j (by omega)
    omega
  have hne : ∀ u j, u < j → j < d → ss u ≠ ss j := fun u j hu hj e => by
    have h1 := (hgood j (by omega)).1.2.1 u hu
    rw [hs u (by omega), hs j (by omega), e] at h1
    exact h1 rfl
  have hPk : Prts w A d (fun j => (ss j : Int)) ds := (hP.less hdm).eq fun j hj => hs j (by omega)
  obtain ⟨B, off, A0, r0, c0, rfl, _, z00, hB0⟩ := hP.at_ 0 hmp
  rw [Nat.zero_mul, Nat.add_zero] at z00
  obtain rfl : r0 = S := by rw [hB0.len, hS]
  have hWi : (a : Int) * (r0 : Int) = (W : Int) := by rw [hWe, Int.natCast_mul]
  have hfac := fun w' (hk : Kp No w w') => factors_any (cp := cp) (h.no hk) hD (hPk.no hk) hsn (uq_of_pow (uq_slots hX.uq hsn hne)) i hi
  have hby := fun w' (hk : Kp No w w') t (ht : t < r0) => hby_any (cp := cp) (i := t) (hPk.no hk) (fun j hj => by rw [hlen j hj]; exact ht) (by omega)
  have HV0 := hide hV0
  have HFAC := hide hfac
  have HBY := hide hby
  have HWE := hide hWe
  have HWI := hide hWi
  have HDD := hide (fun w' (hk : Kp No w w') => dd_any (h.no hk) hD)
  have HAA := hide (fun w' (hk : Kp No w w') => aa_any (h.no hk) hD)
  clear hV0 hfac hby hWe hD hX hsn hne hlen hgood hs hS hP hPk hB0 hWi hi
  go_enter Try.func14, Try.ntmps14
  go_wp2_with fail
  refine hck.mono ?_
  rintro e w1 ⟨y, rfl, hV, hk⟩
  have := HV0.out y hV
  subst this
  clear hV hck
  go_wp2_with fail
  refine (HDD.out w1 hk).mono ?_
  rintro e w' ⟨rfl, rfl⟩
  have y00 := hk.cell z00 fun f => f
  have hdc : d ≤ cp := Nat.le_trans hdm hcp
  go_wp2_with fail
  clear y00
  refine (HFAC.out w1 hk).mono ?_
  rintro e w3 ⟨g, hv, G, rfl, hG, hE, hk3⟩
  have hk3' := hk.trans' hk3
  have hmk := make_bytes w3 W (W : Int) rfl (by omega)
  have hWi := HWI.out
  go_wp2_with fail
  refine (HAA.out w3 hk3').mono ?_
  rintro e w' ⟨rfl, rfl⟩
  go_wp2_with fail
  clear hWi hmk
  have hst := row_big w3 W (by omega)
  have hk0 : Kp No w3 (w3.alloc (.cells (zc W) 5)) := Kp.alloc No _ _
  obtain ⟨gb, hgb⟩ : ∃ gb, gb = w3.heap.size := ⟨_, rfl⟩
  rw [← hgb] at hst ⊢
  have HGB := hide hgb
  have HE := hide hE
  clear hgb hE
  go_loopw [42] (fun iv wr => ∃ t : Nat, t ≤ r0 ∧ iv = .int .i64 (t : Int) ∧ RowAt wr gb gb W W (decP r0 (rgE G a d r0 (x i) ds) t 0) ∧ Kp No w3 wr) (fun iv _ => r0 - (intOf iv).toNat)
  case atStart => exact ⟨0, Nat.zero_le _, rfl, hst.eq fun t _ => (decP_zero _ t).symm, hk0⟩
  case round =>
    clear hst hk0
    obtain ⟨t, ht, rfl, hR, hkw⟩ := hrel
    by_cases hlt : t < r0
    · go_wp2_with fail
      refine (HBY.out wr (hk3'.trans' hkw) t hlt).mono ?_
      rintro e w5 ⟨A5, n5, c5, rfl, ho5, hk5⟩
      have hkw5 := hkw.trans' hk5
      have hR5 := hR.no hk5
      have hsz := hkw.size
      have hge5 : Hid (gb < wr.heap.size) := by
        obtain ⟨_, h1, _⟩ := Own.block hR
        exact (Array.getElem?_eq_some_iff.1 h1).1
      have ho6 := ho5.rebase (b := gb + 1) fun b hb => Nat.le_trans hge5.out (ho5.ge b hb)
      clear ho5 hk5 hkw hR
      go_wp2_with fail
      go_loopw [50] (fun pv wr => ∃ p : Nat, p ≤ a ∧ pv = .int .i64 (p : Int) ∧ RowAt wr gb gb W W (decP r0 (rgE G a d r0 (x i) ds) t p) ∧ Own wr (gb + 1) 5 (.slice A5 n5 c5) (rowL d fun j => lg (ds j) t) ∧ Kp No w3 wr) (fun pv _ => a - (intOf pv).toNat)
      case atStart => exact ⟨0, Nat.zero_le _, rfl, hR5, ho6, hkw5⟩
      case round =>
        clear hR5 ho6 hkw5
        obtain ⟨p, hp, rfl, hR, ho, hkw⟩ := hrel
        by_cases hltp : p < a
        · obtain ⟨b1, c1, e1, _, hR1, _, _⟩ := (hG.no hkw).at_ (by omega) hltp
          have x1 := (hG.no hkw).out.cell hltp
          rw [e1] at x1
          have hdot := dot_any hR1.bts ho.bts d (by rw [rowL_len, rowL_len]; omega) (by rw [rowL_len]; omega) (by rw [rowL_len]; omega)
          obtain ⟨T, hT⟩ : ∃ T, T = p * r0 + t := ⟨_, rfl⟩
          have hTW : T < W := by rw [hT, HWE.out]; exact idx_lt hltp hlt
          have HVal : Hid (ud (lg (rowL d (hfF G a (x i) p))) (lg (rowL d fun j => lg (ds j) t)) d = rgE G a d r0 (x i) ds T) := by
            show ud (lg (rowL d (hfF G a (x i) p))) (lg (rowL d fun j => lg (ds j) t)) d = ud (hfF G a (x i) (T / r0)) (fun j => lg (ds j) (T % r0)) d
            have h1 : T / r0 = p := by rw [hT, Nat.mul_comm, Nat.mul_add_div (by omega), Nat.div_eq_of_lt hlt, Nat.add_zero]
            have h2 : T % r0 = t := by rw [hT, Nat.mul_comm, Nat.mul_add_mod, Nat.mod_eq_of_lt hlt]
            rw [h1, h2]
            exact ud_congr (fun u hu => lg_rowL _ hu) fun u hu => lg_rowL (fun j => lg (ds j) t) hu
          obtain ⟨yy, hyy⟩ : ∃ yy, yy = p * r0 := ⟨_, rfl⟩
          have hyi : (p : Int) * (r0 : Int) = (yy : Int) := by rw [hyy, Int.natCast_mul]
          have hyT : Hid (T = yy + t) := by show T = yy + t; rw [hT, hyy]
          have HT := hide hT
          have hyW : yy + t < W := by have := hyT.out; omega
          clear hT hyy e1
          go_wp2_with fail
          clear hyi
          refine hdot.mono ?_
          rintro e w6 ⟨rfl, hs6⟩
          rw [HVal.out]
          have hR6 := hR.no hs6.kp
          have x3 := hR6.cell hyW
          have x4 := hR6.frozen (yy + t)
          have hstep : ∀ u, upd (decP r0 (rgE G a d r0 (x i) ds) t p) T (rgE G a d r0 (x i) ds T) u = decP r0 (rgE G a d r0 (x i) ds) t (p + 1) u := by
            rw [HT.out]
            exact fun u => decP_step hlt (rgE G a d r0 (x i) ds) p u
          have HN := hide ((hR6.set hTW (rgE G a d r0 (x i) ds T) _ rfl).eq fun u _ => hstep u)
          clear hstep
          have HON := hide (fun v => (ho.no hs6.kp).keep (RowAt.kpset gb T v w6) fun b hb e => by have := ho.ge b hb; omega)
          have HKN := hide (fun v => (hkw.trans' hs6.kp).trans ((RowAt.kpset gb T v w6).mono fun b hb => .inr (by rw [hb, HGB.out]; exact Nat.le_refl _)))
          rw [hyT.out] at HN HON HKN ⊢
          clear hdot hR hR6 ho hkw
          go_wp2_with fail
          go_round
          case rel => exact ⟨p + 1, by omega, by go_num, HN.out, HON.out _, HKN.out _⟩
          case measure => simp [intOf]; omega
        · obtain rfl : p = a := by omega
          have hR2 := hR.eq fun u hu => decP_turn (rgE G p d r0 (x i) ds) t (by rw [← HWE.out]; exact hu)
          clear hR
          go_wp2_with fail
          go_round
          case rel => exact ⟨t + 1, by omega, by go_num, hR2, hkw⟩
          case measure => simp [intOf]; omega
    · obtain rfl : t = r0 := by omega
      have hR2 := hR.eq fun u hu => decP_done (show 0 < t by omega) (rgE G a d t (x i) ds) u
      clear hR
      go_wp2_with fail
      go_ret2
      exact ⟨G, _, _, _, rfl, (show Own _ _ _ _ _ from hR2).rebase fun b hb => by injection hb with hb; rw [← hb, HGB.out]; exact hk3'.size, HE.out, hk3'.trans' hkw⟩
theorem who_err (h : CodeAt w c n k x) (hD : Dim n k a d q) (hP : Prts w A m sl ds) (hm : m ≤ 1000) (i : Int) (z : Int) (hz : ∀ y, CkV n k a m sl ds y → y = z) (h0 : z ≠ 0) : Calls Try.prog 17 #[cptr c, .int .i64 i, .slice A m cp] w (BadPost w z) := by
  have hdec := dec_err (cp := cp) h hD hP hm z hz h0
  have hz0 : (z != 0) = true := by simpa using h0
  clear hz h0 hD hP
  go_enter Try.func17, Try.ntmps17
  go_wp2_with fail
  refine hdec.mono ?_
  rintro e w1 ⟨rfl, hk⟩
  go_wp2_with fail
  go_ret2
  exact ⟨rfl, hk⟩
theorem who_out {ss : Nat → Nat} {L W : Nat} (h : CodeAt w c n k x) (hD : Dim n k a d q) (hX : Pts n a x) (hP : Prts w A m sl ds) (hm : m ≤ 1000) (hcp : m ≤ cp) (hkm : k ≤ m) (hgood : ∀ j, j < m → PGood n sl ds j) (hs : ∀ j, j < m → sl j = (ss j : Int)) (hL : (ds 0).length = a * L) (hWe : W = q * L) (hWb : W ≤ 100000) (i : Int) (hi : i < 0 ∨ (n : Int) ≤ i) : Calls Try.prog 17 #[cptr c, .int .i64 i, .slice A m cp] w (BadPost w 1) := by
  have hdec := dec_ok (cp := cp) h hD hX hP hm hcp hkm hgood hs hL hWe hWb
  have HX := hide (fun w' (hk : Kp No w w') => ex_no (h.no hk) i hi)
  clear hD hX hP hgood hs hL hWe hi
  go_enter Try.func17, Try.ntmps17
  go_wp2_with fail
  refine hdec.mono ?_
  rintro e w1 ⟨X, A5, n5, c5, rfl, ho5, hE5, hk5⟩
  clear hdec ho5 hE5
  go_wp2_with fail
  refine (HX.out w1 hk5).mono ?_
  rintro e w' ⟨rfl, rfl⟩
  go_wp2_with fail
  go_ret2
  exact ⟨rfl, hk5⟩
/-- The lost shard comes back, of the message that was decoded. -/
def WhoPost (w : World) (a d q L W : Nat) (E : Nat → Nat → UInt8) (ds : Nat → List UInt8) (y : UInt8) (e : Ending) (w1 : World) : Prop :=
  ∃ (X : Nat → Nat → UInt8) (A' : Option Addr) (r cc : Nat), e = .returned (.tuple #[.slice A' r cc, .int .i64 0]) ∧ Bts w1 (.slice A' r cc) (rowL (a * L) (shE a d L (rowL W fun t => X (t / L) (t % L)) y)) ∧ EqF q L (mulF q E X) (knF a L ds) ∧ Kp No w w1
set_option maxHeartbeats 1000000 in
theorem who_ok {ss : Nat → Nat} {L W i : Nat} (h : CodeAt w c n k x) (hD : Dim n k a d q) (hX : Pts n a x) (hP : Prts w A m sl ds) (hm : m ≤ 1000) (hcp : m ≤ cp) (hkm : k ≤ m) (hgood : ∀ j, j < m → PGood n sl ds j) (hs : ∀ j, j < m → sl j = (ss j : Int)) (hL : (ds 0).length = a * L) (hL1 : 1 ≤ L) (hWe : W = q * L) (hWb : W ≤ 1000) (hi : i < n) : Calls Try.prog 17 #[cptr c, .int .i64 (i : Int), .slice A m cp] w (WhoPost w a d q L W (eqM a (plcF a) fun j => x (ss j)) ds (x i)) := by
  have hdec := dec_ok (cp := cp) h hD hX hP hm hcp hkm hgood hs hL hWe (by omega)
  have HX := hide (fun w' (hk : Kp No w w') => ex_yes (h.no hk) i hi)
  have HENC := hide (fun w' A' cc bs (hk : Kp No w w') (hb : Bts w' (.slice A' W cc) bs) => enc_yes (L := L) (h.no hk) hD hb hWe hWb hL1)
  clear hD hX hP hgood hs hL hWe
  go_enter Try.func17, Try.ntmps17
  go_wp2_with fail
  refine hdec.mono ?_
  rintro e w1 ⟨X, A5, n5, c5, rfl, ho5, hE5, hk5⟩
  obtain rfl : W = n5 := by rw [ho5.len, rowL_len]
  have HE := hide hE5
  have hb5 := ho5.bts
  clear hdec ho5 hE5
  go_wp2_with fail
  refine (HX.out w1 hk5).mono ?_
  rintro e w' ⟨rfl, rfl⟩
  go_wp2_with fail
  refine (HENC.out w1 _ _ _ hk5 hb5).mono ?_
  rintro e w2 ⟨A2, c2, rfl, hR2, hk2⟩
  obtain ⟨B2, o2, A3, r3, c3, b3, rfl, y2, hb3, hbt⟩ := hR2.get hi
  rw [matL_get _ hi] at hb3
  injection hb3 with hb3
  subst hb3
  clear hb5 hR2
  go_wp2_with fail
  go_ret2
  exact ⟨X, A3, r3, c3, rfl, hbt, HE.out, hk5.trans' hk2⟩
end
end Go.Proofs.Ythmplbklphobaaa
