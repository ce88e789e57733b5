/- MatSizes: which sizes there are, of noughts and of ones on the diagonal; and that no matrix has anything. -/
import Derived.Test.YtbhocklcopajkaaMg
import Derived.Test.YtbhocklcopajkaaMpk
import Derived.Test.YtbhocklcopajkaaMkw
namespace Go.Proofs.Ytbhocklcopajkaa
open Go.RowKit
set_option linter.unusedVariables false
set_option linter.unusedSimpArgs false

theorem grid_same {w : World} {A A' : Option Addr} {n n' cp cp' base : Nat} {bl : Nat → Nat} {r c : Nat} {f : Nat → Nat → UInt8} (h : Rws w A n (matL r c f)) (h' : GridAt w base (.slice A' n' cp') bl r c f) (hn : n ≤ 1000000) (hn' : n' ≤ 1000000) :
    Calls Try.prog 10 #[.slice A n cp, .slice A' n' cp'] w fun e w' => e = .returned (.bool true) ∧ Sm w w' := rsame_true h h'.rws hn hn' rfl

theorem int_cell (w : World) (z : Int) (t : TypeId) : (w.alloc (.cells #[.int .i64 z] t)).cell? ⟨w.heap.size, 0, none⟩ = some (.int .i64 z) := by simp

set_option maxHeartbeats 8000000 in
set_option maxRecDepth 100000 in
theorem sizes_both {w : World} (r c : Nat) (r1 : 1 ≤ r) (r2 : r ≤ 64) (c1 : 1 ≤ c) (c2 : c ≤ 64) : Calls Try.prog 4 #[.int .i64 (r : Int), .int .i64 (c : Int)] w fun e w' => e = .returned (.bool true) ∧ Below w.heap.size w w' := by
  go_enter Try.func4, Try.ntmps4
  go_wp2_with fail
  refine (new_yes r c _ r1 r2 c1 c2).mono ?_
  rintro e w1 ⟨m, rfl, M1, _, _, j1⟩
  go_wp2_with fail
  refine (rows_any M1).mono ?_
  rintro e w2 ⟨A2, cp2, rfl, R2, j2⟩
  have k2 := j1.trans' j2
  go_wp2_with fail
  refine (rzero_any r c _ (by omega) (by omega)).mono ?_
  rintro e w3 ⟨A3, cp3, bl3, rfl, G3, j3⟩
  have k3 := k2.trans' j3
  have R3 := R2.no j3
  go_wp2_with fail
  refine (grid_same R3 G3 (by omega) (by omega)).mono ?_
  rintro e w4 ⟨rfl, s4⟩
  have kn := k3.trans' s4.kp
  go_wp2_with fail
  refine (one_yes r _ r1 r2).mono ?_
  rintro e w6 ⟨d, rfl, D6, _, _, j6⟩
  have k6 := kn.trans' j6
  go_wp2_with fail
  refine (rows_any D6).mono ?_
  rintro e w7 ⟨A7, cp7, rfl, R7, j7⟩
  have k7 := k6.trans' j7
  go_wp2_with fail
  refine (rone_any r _ r1 (by omega)).mono ?_
  rintro e w8 ⟨A8, cp8, bl8, rfl, G8, j8⟩
  have k8 := k7.trans' j8
  have R8 := R7.no j8
  go_wp2_with fail
  refine (grid_same R8 G8 (by omega) (by omega)).mono ?_
  rintro e w9 ⟨rfl, s9⟩
  have kz := k8.trans' s9.kp
  go_wp2_with fail
  refine (size_nil _).mono ?_
  rintro e w20 ⟨rfl, rfl⟩
  go_wp2_with fail
  refine (mul_nil_left _ (some ⟨m.g, 0, none⟩)).mono ?_
  rintro e w21 ⟨rfl, j21⟩
  have k21 := kz.trans' j21
  go_wp2_with fail
  refine (add_nil_right _ (some ⟨m.g, 0, none⟩)).mono ?_
  rintro e w22 ⟨rfl, j22⟩
  have k22 := k21.trans' j22
  go_wp2_with fail
  refine (pick_nil _ _ 0 (int_cell w22 0 _)).mono ?_
  rintro e w23 ⟨rfl, j23⟩
  have k23 := (k22.trans' (Kp.alloc No _ _)).trans' j23
  go_wp2_with fail
  refine (at_nil _).mono ?_
  rintro e w24 ⟨rfl, s24⟩
  have k24 := k23.trans' s24.kp
  go_wp2_with fail
  refine (set_nil _ 1).mono ?_
  rintro e w25 ⟨rfl, s25⟩
  have k25 := k24.trans' s25.kp
  go_wp2_with fail
  refine (rowc_nil _).mono ?_
  rintro e w26 ⟨A26, n26, c26, rfl, o26, j26⟩
  have k26 := k25.trans' j26
  obtain rfl : n26 = 0 := o26.len
  go_wp2_with fail
  refine (copy_nil _).mono ?_
  rintro e w27 ⟨rfl, rfl⟩
  go_wp2_with fail
  refine (turned_nil _).mono ?_
  rintro e w28 ⟨rfl, j28⟩
  have k28 := k26.trans' j28
  go_wp2_with fail
  refine (same_nil_nil _).mono ?_
  rintro e w29 ⟨rfl, rfl⟩
  go_wp2_with fail
  refine (same_nil _ _).mono ?_
  rintro e w29 ⟨rfl, rfl⟩
  go_wp2_with fail
  refine (awake_any _).mono ?_
  rintro e w30 ⟨rfl, j30⟩
  go_wp2_with fail
  go_ret
  exact ⟨rfl, (k28.trans' j30).below0⟩

set_option maxHeartbeats 8000000 in
set_option maxRecDepth 100000 in
theorem sizes_row {w : World} (r : Nat) (c : Int) (r1 : 1 ≤ r) (r2 : r ≤ 64) (hc : c < 1 ∨ (1 ≤ c ∧ 64 < c)) : Calls Try.prog 4 #[.int .i64 (r : Int), .int .i64 c] w fun e w' => e = .returned (.bool true) ∧ Below w.heap.size w w' := by
  have hno : ¬ (1 ≤ (r : Int) ∧ (r : Int) ≤ 64 ∧ 1 ≤ c ∧ c ≤ 64) := by omega
  have HNO := hide hno
  clear hno
  rcases hc with hc1 | ⟨hc1, hc2⟩
  all_goals
    go_enter Try.func4, Try.ntmps4
    go_wp2_with fail
    refine (new_no r c _ HNO.out).mono ?_
    rintro e w1 ⟨rfl, kn⟩
    go_wp2_with fail
    refine (one_yes r _ r1 r2).mono ?_
    rintro e w6 ⟨d, rfl, D6, _, _, j6⟩
    have k6 := kn.trans' j6
    go_wp2_with fail
    refine (rows_any D6).mono ?_
    rintro e w7 ⟨A7, cp7, rfl, R7, j7⟩
    have k7 := k6.trans' j7
    go_wp2_with fail
    refine (rone_any r _ r1 (by omega)).mono ?_
    rintro e w8 ⟨A8, cp8, bl8, rfl, G8, j8⟩
    have k8 := k7.trans' j8
    have R8 := R7.no j8
    go_wp2_with fail
    refine (grid_same R8 G8 (by omega) (by omega)).mono ?_
    rintro e w9 ⟨rfl, s9⟩
    have kz := k8.trans' s9.kp
    go_wp2_with fail
    refine (size_nil _).mono ?_
    rintro e w20 ⟨rfl, rfl⟩
    go_wp2_with fail
    refine (mul_nil_left _ none).mono ?_
    rintro e w21 ⟨rfl, j21⟩
    have k21 := kz.trans' j21
    go_wp2_with fail
    refine (add_nil_right _ none).mono ?_
    rintro e w22 ⟨rfl, j22⟩
    have k22 := k21.trans' j22
    go_wp2_with fail
    refine (pick_nil _ _ 0 (int_cell w22 0 _)).mono ?_
    rintro e w23 ⟨rfl, j23⟩
    have k23 := (k22.trans' (Kp.alloc No _ _)).trans' j23
    go_wp2_with fail
    refine (at_nil _).mono ?_
    rintro e w24 ⟨rfl, s24⟩
    have k24 := k23.trans' s24.kp
    go_wp2_with fail
    refine (set_nil _ 1).mono ?_
    rintro e w25 ⟨rfl, s25⟩
    have k25 := k24.trans' s25.kp
    go_wp2_with fail
    refine (rowc_nil _).mono ?_
    rintro e w26 ⟨A26, n26, c26, rfl, o26, j26⟩
    have k26 := k25.trans' j26
    obtain rfl : n26 = 0 := o26.len
    go_wp2_with fail
    refine (copy_nil _).mono ?_
    rintro e w27 ⟨rfl, rfl⟩
    go_wp2_with fail
    refine (turned_nil _).mono ?_
    rintro e w28 ⟨rfl, j28⟩
    have k28 := k26.trans' j28
    go_wp2_with fail
    refine (same_nil_nil _).mono ?_
    rintro e w29 ⟨rfl, rfl⟩
    go_wp2_with fail
    refine (same_nil_nil _).mono ?_
    rintro e w29 ⟨rfl, rfl⟩
    go_wp2_with fail
    refine (awake_any _).mono ?_
    rintro e w30 ⟨rfl, j30⟩
    go_wp2_with fail
    go_ret
    exact ⟨rfl, (k28.trans' j30).below0⟩

set_option maxHeartbeats 8000000 in
set_option maxRecDepth 100000 in
theorem sizes_no {w : World} (r c : Int) (hr : r < 1 ∨ (1 ≤ r ∧ 64 < r)) : Calls Try.prog 4 #[.int .i64 r, .int .i64 c] w fun e w' => e = .returned (.bool true) ∧ Below w.heap.size w w' := by
  have hno : ¬ (1 ≤ r ∧ r ≤ 64 ∧ 1 ≤ c ∧ c ≤ 64) := by omega
  have hno2 : ¬ (1 ≤ r ∧ r ≤ 64) := by omega
  have HNO := hide hno
  have HNO2 := hide hno2
  clear hno hno2
  rcases hr with hr1 | ⟨hr1, hr2⟩
  all_goals
    go_enter Try.func4, Try.ntmps4
    go_wp2_with fail
    refine (new_no r c _ HNO.out).mono ?_
    rintro e w1 ⟨rfl, kn⟩
    go_wp2_with fail
    refine (one_no r _ HNO2.out).mono ?_
    rintro e w6 ⟨rfl, j6⟩
    have kz := kn.trans' j6
    go_wp2_with fail
    refine (size_nil _).mono ?_
    rintro e w20 ⟨rfl, rfl⟩
    go_wp2_with fail
    refine (mul_nil_left _ none).mono ?_
    rintro e w21 ⟨rfl, j21⟩
    have k21 := kz.trans' j21
    go_wp2_with fail
    refine (add_nil_right _ none).mono ?_
    rintro e w22 ⟨rfl, j22⟩
    have k22 := k21.trans' j22
    go_wp2_with fail
    refine (pick_nil _ _ 0 (int_cell w22 0 _)).mono ?_
    rintro e w23 ⟨rfl, j23⟩
    have k23 := (k22.trans' (Kp.alloc No _ _)).trans' j23
    go_wp2_with fail
    refine (at_nil _).mono ?_
    rintro e w24 ⟨rfl, s24⟩
    have k24 := k23.trans' s24.kp
    go_wp2_with fail
    refine (set_nil _ 1).mono ?_
    rintro e w25 ⟨rfl, s25⟩
    have k25 := k24.trans' s25.kp
    go_wp2_with fail
    refine (rowc_nil _).mono ?_
    rintro e w26 ⟨A26, n26, c26, rfl, o26, j26⟩
    have k26 := k25.trans' j26
    obtain rfl : n26 = 0 := o26.len
    go_wp2_with fail
    refine (copy_nil _).mono ?_
    rintro e w27 ⟨rfl, rfl⟩
    go_wp2_with fail
    refine (turned_nil _).mono ?_
    rintro e w28 ⟨rfl, j28⟩
    have k28 := k26.trans' j28
    go_wp2_with fail
    refine (same_nil_nil _).mono ?_
    rintro e w29 ⟨rfl, rfl⟩
    go_wp2_with fail
    refine (same_nil_nil _).mono ?_
    rintro e w29 ⟨rfl, rfl⟩
    go_wp2_with fail
    refine (awake_any _).mono ?_
    rintro e w30 ⟨rfl, j30⟩
    go_wp2_with fail
    go_ret
    exact ⟨rfl, (k28.trans' j30).below0⟩

theorem matsizes_walk (r c : Int) (w : World) : Calls Try.prog 4 #[.int .i64 r, .int .i64 c] w fun e w' => e = .returned (.bool true) ∧ Below w.heap.size w w' := by
  by_cases hr : 1 ≤ r ∧ r ≤ 64
  · obtain ⟨r', rfl⟩ : ∃ j : Nat, r = j := ⟨r.toNat, by omega⟩
    by_cases hc : 1 ≤ c ∧ c ≤ 64
    · obtain ⟨c', rfl⟩ : ∃ j : Nat, c = j := ⟨c.toNat, by omega⟩
      exact sizes_both r' c' (by omega) (by omega) (by omega) (by omega)
    · exact sizes_row r' c (by omega) (by omega) (by omega)
  · exact sizes_no r c (by omega)
end Go.Proofs.Ytbhocklcopajkaa
