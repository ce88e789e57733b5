/- MatMakes: which rows are a matrix, its elements, one set, and a copy that stays. -/
import Derived.Test.YtbhocklcopajkaaMw
namespace Go.Proofs.Ytbhocklcopajkaa
open Go.RowKit
set_option linter.unusedVariables false
set_option linter.unusedSimpArgs false

theorem same_eq {w : World} {m m' : MB} {r c : Nat} {f f' : Nat → Nat → UInt8} (h : MatAt w m r c f) (h' : MatAt w m' r c f') (b : Bool) (hb : b = true ↔ EqF r c f f') :
    Calls Try.prog 16 #[m.ptr, m'.ptr] w fun e w' => e = .returned (.bool b) ∧ Sm w w' := by
  have := same_any h h'
  have e : (szB r c r c && eqB (allL r c f) (allL r c f')) = b := by
    rw [Bool.eq_iff_iff, hb, ← allL_eq h.c1]
    simp [szB, eqB]
  rw [e] at this
  exact this
theorem rsame_true {w : World} {A A' : Option Addr} {n n' cp cp' : Nat} {bss bss' : List (List UInt8)} (h : Rws w A n bss) (h' : Rws w A' n' bss') (hn : n ≤ 1000000) (hn' : n' ≤ 1000000) (he : bss = bss') :
    Calls Try.prog 10 #[.slice A n cp, .slice A' n' cp'] w fun e w' => e = .returned (.bool true) ∧ Sm w w' := by
  have := rsame_any (cp := cp) (cp' := cp') h h' hn hn'
  rw [show eqR bss bss' = true by simp [eqR, he]] at this
  exact this

theorem makes_great {w : World} {A : Option Addr} {n cp : Nat} (hn : 100 < n) (i k x : Int) :
    Calls Try.prog 3 #[.slice A n cp, .int .i64 i, .int .i64 k, .int .u8 x] w fun e w' => e = .returned (.bool true) ∧ Below w.heap.size w w' := by
  go_enter Try.func3, Try.ntmps3
  go_wp2_with fail
  refine (awake_any _).mono ?_
  rintro e w1 ⟨rfl, hk⟩
  go_wp2_with fail
  go_ret
  exact ⟨rfl, hk.below0⟩
theorem makes_no {w : World} {A : Option Addr} {n cp : Nat} {bss : List (List UInt8)} (h : Rws w A n bss) (hR : ¬ Rect bss n (len0 bss)) (hn : n ≤ 100) (i k x : Int) :
    Calls Try.prog 3 #[.slice A n cp, .int .i64 i, .int .i64 k, .int .u8 x] w fun e w' => e = .returned (.bool true) ∧ Below w.heap.size w w' := by
  go_enter Try.func3, Try.ntmps3
  go_wp2_with fail
  refine (of_no h hR).mono ?_
  rintro e w1 ⟨rfl, hk⟩
  go_wp2_with fail
  refine (right_no (h.no hk) hR).mono ?_
  rintro e w2 ⟨rfl, hs⟩
  go_wp2_with fail
  refine (awake_any _).mono ?_
  rintro e w3 ⟨rfl, hk3⟩
  go_wp2_with fail
  go_ret
  exact ⟨rfl, ((hk.trans' hs.kp).trans' hk3).below0⟩

set_option maxHeartbeats 4000000 in
set_option maxRecDepth 100000 in
theorem makes_in {w : World} {A : Option Addr} {n c cp : Nat} {bss : List (List UInt8)} (h : Rws w A n bss) (hR : Rect bss n c) (i k : Nat) (x : UInt8) (hi : i < n) (hk : k < c) :
    Calls Try.prog 3 #[.slice A n cp, .int .i64 (i : Int), .int .i64 (k : Int), .int .u8 (x.toNat : Int)] w fun e w' => e = .returned (.bool true) ∧ Below w.heap.size w w' := by
  have hr1 := hR.r1
  have hr2 := hR.r2
  have hc1 := hR.c1
  have hc2 := hR.c2
  obtain ⟨B, off, A0, m0, cp0, b0, rfl, hd0, hb0, hbt0⟩ := h.get (j := 0) (by omega)
  rw [Nat.add_zero] at hd0
  have hm0 : c = m0 := by rw [hbt0.len]; exact (hR.row 0 b0 hb0).symm
  subst hm0
  clear hb0
  obtain ⟨B', off', A1, m1, cp1, b1, hA, hd1, hb1, hbt1⟩ := h.get hi
  injection hA with hA
  injection hA with hA1 hA2
  subst hA1 hA2
  have hm1 : c = m1 := by rw [hbt1.len]; exact (hR.row i b1 hb1).symm
  subst hm1
  obtain ⟨B2, o2, y, rfl, hy, hd2⟩ := hbt1.at_ hk
  have HY : Hid (fnL bss i k = y) := (fnL_of hb1 k).trans (lg_of hy)
  clear hb1 hy
  obtain ⟨b, hb, hxy⟩ : ∃ b : Bool, (b = true ↔ EqF n c (fnL bss) (setF (fnL bss) i k x)) ∧ ((y.toNat : Int) == (x.toNat : Int)) = b := by
    refine ⟨decide (y = x), ?_, ?_⟩
    · rw [decide_eq_true_iff]
      constructor
      · rintro rfl i' k' _ _
        unfold setF
        split
        · rename_i e
          rw [e.1, e.2]
          exact HY.out
        · rfl
      · intro he
        have := he i k hi hk
        unfold setF at this
        rw [if_pos ⟨rfl, rfl⟩, HY.out] at this
        exact this
    · rw [Bool.eq_iff_iff, beq_iff_eq, decide_eq_true_iff]
      constructor
      · intro e
        exact u8_ext (by omega)
      · rintro rfl
        rfl
  have HB := hide hb
  clear hb
  go_enter Try.func3, Try.ntmps3
  go_wp2_with fail
  refine (of_yes h hR).mono ?_
  rintro e w1 ⟨m, rfl, hM1, hg, hb, hk1⟩
  go_wp2_with fail
  refine (right_yes (h.no hk1) hR).mono ?_
  rintro e w2 ⟨rfl, hs2⟩
  have hM2 := hM1.sm hs2
  have hk2 := hk1.trans' hs2.kp
  go_wp2_with fail
  refine (rows_any hM2).mono ?_
  rintro e w3 ⟨A3, cp3, rfl, hR3, hk3⟩
  have hM3 := hM2.no hk3
  have hk3 := hk2.trans' hk3
  go_wp2_with fail
  refine (rsame_true hR3 (h.no hk3) (by omega) (by omega) (matL_fnL hR)).mono ?_
  rintro e w4 ⟨rfl, hs4⟩
  have hM4 := hM3.sm hs4
  have hk4 := hk3.trans' hs4.kp
  go_wp2_with fail
  refine (at_in hM4 i k hi hk).mono ?_
  rintro e w5 ⟨rfl, hs5⟩
  have hM5 := hM4.sm hs5
  have hk5 := hk4.trans' hs5.kp
  go_wp2_with fail
  refine (rat_in (h.no hk5) hR i k hi hk).mono ?_
  rintro e w6 ⟨rfl, rfl⟩
  go_wp2_with fail
  refine (copy_any hM5).mono ?_
  rintro e w6 ⟨m', rfl, hC6, hg6, hb6, hk6⟩
  have hM6 := hM5.no hk6
  have hk6 := hk5.trans' hk6
  have hlt5 := hM5.lt
  have e0 : w6.cell? ⟨B, off, none⟩ = some (.slice A0 c cp0) := hk6.cell hd0 (fun f => f)
  go_wp2_with fail
  refine (set_in hM6 i k x hi hk).mono ?_
  rintro e w7 ⟨rfl, hM7, hk7⟩
  have hC7 := hC6.keep hk7 (by show ¬ m'.g = m.b; omega) (by show ¬ m'.b = m.b; omega)
  have hk7 : Kp No w w7 := hk6.trans (hk7.mono fun q hq => by subst hq; exact .inr hb)
  clear e0
  go_wp2_with fail
  refine (at_in hM7 i k hi hk).mono ?_
  rintro e w8 ⟨rfl, hs8⟩
  rw [show setF (fnL bss) i k x i k = x by unfold setF; rw [if_pos ⟨rfl, rfl⟩]]
  have hM8 := hM7.sm hs8
  have hC8 := hC7.sm hs8
  have hk8 := hk7.trans' hs8.kp
  go_wp2_with fail
  refine (size_any hC8).mono ?_
  rintro e w9 ⟨rfl, hs9⟩
  have hM9 := hM8.sm hs9
  have hC9 := hC8.sm hs9
  have hk9 := hk8.trans' hs9.kp
  go_wp2_with fail
  refine (rows_any hC9).mono ?_
  rintro e w10 ⟨A10, cp10, rfl, hR10, hk10⟩
  have hM10 := hM9.no hk10
  have hC10 := hC9.no hk10
  have hk10 := hk9.trans' hk10
  go_wp2_with fail
  refine (rsame_true hR10 (h.no hk10) (by omega) (by omega) (matL_fnL hR)).mono ?_
  rintro e w11 ⟨rfl, hs11⟩
  have hM11 := hM10.sm hs11
  have hC11 := hC10.sm hs11
  have hk11 := hk10.trans' hs11.kp
  go_wp2_with fail
  refine (same_eq hC11 hM11 b HB.out).mono ?_
  rintro e w12 ⟨rfl, hs12⟩
  have hk12 := hk11.trans' hs12.kp
  have e0 : w12.cell? ⟨B, off, none⟩ = some (.slice A0 c cp0) := hk12.cell hd0 (fun f => f)
  have e1 : w12.cell? ⟨B, off + i, none⟩ = some (.slice (some ⟨B2, o2, none⟩) c cp1) := hk12.cell hd1 (fun f => f)
  have e2 : w12.cell? ⟨B2, o2 + k, none⟩ = some (.int .u8 (y.toNat : Int)) := hk12.cell hd2 (fun f => f)
  go_wp2_with fail
  refine (awake_any _).mono ?_
  rintro e w13 ⟨rfl, hk13⟩
  go_wp2_with fail
  go_ret
  exact ⟨rfl, (hk12.trans' hk13).below0⟩

set_option maxHeartbeats 8000000 in
set_option maxRecDepth 100000 in
theorem makes_out {w : World} {A : Option Addr} {n c cp : Nat} {bss : List (List UInt8)} (h : Rws w A n bss) (hR : Rect bss n c) (i k x : Int) (hout : ¬ (0 ≤ i ∧ i < n ∧ 0 ≤ k ∧ k < c)) :
    Calls Try.prog 3 #[.slice A n cp, .int .i64 i, .int .i64 k, .int .u8 x] w fun e w' => e = .returned (.bool true) ∧ Below w.heap.size w w' := by
  have hr1 := hR.r1
  have hr2 := hR.r2
  have hc1 := hR.c1
  have hc2 := hR.c2
  obtain ⟨B, off, A0, m0, cp0, b0, rfl, hd0, hb0, hbt0⟩ := h.get (j := 0) (by omega)
  rw [Nat.add_zero] at hd0
  have hm0 : c = m0 := by rw [hbt0.len]; exact (hR.row 0 b0 hb0).symm
  subst hm0
  clear hb0
  have HOUT := hide hout
  have hcase : i < 0 ∨ (0 ≤ i ∧ (n : Int) ≤ i) ∨ (0 ≤ i ∧ i < n ∧ k < 0) ∨ (0 ≤ i ∧ i < n ∧ 0 ≤ k ∧ (c : Int) ≤ k) := by omega
  clear hout
  rcases hcase with h1 | ⟨h1, h2⟩ | ⟨h1, h2, h3⟩ | ⟨h1, h2, h3, h4⟩
  all_goals
    go_enter Try.func3, Try.ntmps3
    go_wp2_with fail
    refine (of_yes h hR).mono ?_
    rintro e w1 ⟨m, rfl, hM1, hg, hb, hk1⟩
    go_wp2_with fail
    refine (right_yes (h.no hk1) hR).mono ?_
    rintro e w2 ⟨rfl, hs2⟩
    have hM2 := hM1.sm hs2
    have hk2 := hk1.trans' hs2.kp
    go_wp2_with fail
    refine (rows_any hM2).mono ?_
    rintro e w3 ⟨A3, cp3, rfl, hR3, hk3⟩
    have hM3 := hM2.no hk3
    have hk3 := hk2.trans' hk3
    go_wp2_with fail
    refine (rsame_true hR3 (h.no hk3) (by omega) (by omega) (matL_fnL hR)).mono ?_
    rintro e w4 ⟨rfl, hs4⟩
    have hM4 := hM3.sm hs4
    have hk4 := hk3.trans' hs4.kp
    go_wp2_with fail
    refine (at_out hM4 i k HOUT.out).mono ?_
    rintro e w5 ⟨rfl, hs5⟩
    have hM5 := hM4.sm hs5
    have hk5 := hk4.trans' hs5.kp
    go_wp2_with fail
    refine (rat_out (h.no hk5) hR i k HOUT.out).mono ?_
    rintro e w6 ⟨rfl, rfl⟩
    go_wp2_with fail
    refine (copy_any hM5).mono ?_
    rintro e w6 ⟨m', rfl, hC6, hg6, hb6, hk6⟩
    have hM6 := hM5.no hk6
    have hk6 := hk5.trans' hk6
    have e0 : w6.cell? ⟨B, off, none⟩ = some (.slice A0 c cp0) := hk6.cell hd0 (fun f => f)
    go_wp2_with fail
    refine (set_out hM6 i k x HOUT.out).mono ?_
    rintro e w7 ⟨rfl, hs7⟩
    have hC7 := hC6.sm hs7
    have hM7 := hM6.sm hs7
    have hk7 : Kp No w w7 := hk6.trans' hs7.kp
    clear e0
    go_wp2_with fail
    refine (same_eq hC7 hM7 true (by simp [EqF.refl])).mono ?_
    rintro e w8 ⟨rfl, hs8⟩
    have hM8 := hM7.sm hs8
    have hC8 := hC7.sm hs8
    have hk8 := hk7.trans' hs8.kp
    go_wp2_with fail
    refine (size_any hC8).mono ?_
    rintro e w9 ⟨rfl, hs9⟩
    have hM9 := hM8.sm hs9
    have hC9 := hC8.sm hs9
    have hk9 := hk8.trans' hs9.kp
    go_wp2_with fail
    refine (rows_any hC9).mono ?_
    rintro e w10 ⟨A10, cp10, rfl, hR10, hk10⟩
    have hM10 := hM9.no hk10
    have hC10 := hC9.no hk10
    have hk10 := hk9.trans' hk10
    go_wp2_with fail
    refine (rsame_true hR10 (h.no hk10) (by omega) (by omega) (matL_fnL hR)).mono ?_
    rintro e w11 ⟨rfl, hs11⟩
    have hM11 := hM10.sm hs11
    have hC11 := hC10.sm hs11
    have hk11 := hk10.trans' hs11.kp
    go_wp2_with fail
    refine (same_eq hC11 hM11 true (by simp [EqF.refl])).mono ?_
    rintro e w12 ⟨rfl, hs12⟩
    have hk12 := hk11.trans' hs12.kp
    have e0 : w12.cell? ⟨B, off, none⟩ = some (.slice A0 c cp0) := hk12.cell hd0 (fun f => f)
    go_wp2_with fail
    refine (awake_any _).mono ?_
    rintro e w13 ⟨rfl, hk13⟩
    go_wp2_with fail
    go_ret
    exact ⟨rfl, (hk12.trans' hk13).below0⟩

theorem makes_walk {w : World} {A : Option Addr} {n cp : Nat} {bss : List (List UInt8)} (h : Rws w A n bss) (i k : Int) (x : UInt8) :
    Calls Try.prog 3 #[.slice A n cp, .int .i64 i, .int .i64 k, .int .u8 (x.toNat : Int)] w fun e w' => e = .returned (.bool true) ∧ Below w.heap.size w w' := by
  rcases Nat.lt_or_ge 100 n with hn | hn
  · exact makes_great hn i k _
  · by_cases hR : Rect bss n (len0 bss)
    · by_cases hin : 0 ≤ i ∧ i < n ∧ 0 ≤ k ∧ k < len0 bss
      · obtain ⟨i', rfl⟩ : ∃ j : Nat, i = j := ⟨i.toNat, by omega⟩
        obtain ⟨k', rfl⟩ : ∃ j : Nat, k = j := ⟨k.toNat, by omega⟩
        exact makes_in h hR i' k' x (by omega) (by omega)
      · exact makes_out h hR i k _ hin
    · exact makes_no h hR hn i k _
theorem matmakes_walk {w : World} {A : Option Addr} {n cp : Nat} {bss : List (List UInt8)} (h : Rws w A n bss) (i k x : Int) (hx : (Lit.int .u8 x).wf = true) :
    Calls Try.prog 3 #[.slice A n cp, .int .i64 i, .int .i64 k, .int .u8 x] w fun e w' => e = .returned (.bool true) ∧ Below w.heap.size w w' := by
  obtain ⟨y, rfl, hy⟩ := of_wf_u8 hx
  have := makes_walk (cp := cp) h i k (UInt8.ofNat y)
  rw [UInt8.toNat_ofNat', Nat.mod_eq_of_lt hy] at this
  exact this
end Go.Proofs.Ytbhocklcopajkaa
