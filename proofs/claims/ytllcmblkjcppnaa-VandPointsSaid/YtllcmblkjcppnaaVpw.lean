/- VandPoints: the first elements whose powers of any exponent are unlike, or that there are not so many. -/
import Derived.Test.YtllcmblkjcppnaaVq
namespace Go.Proofs.Ytllcmblkjcppnaa
open Go.RowKit
set_option linter.unusedVariables false

/-- The law's end. -/
def PBel (w : World) (e : Ending) (w1 : World) : Prop := e = .returned (.bool true) ∧ Below w.heap.size w w1
section
variable {w : World}
theorem pts_arg (n x : Int) (h : n < 1 ∨ x < 1) : Calls Try.prog 4 #[.int .i64 n, .int .i64 x] w (PBel w) := by
  have hp := points_arg n x w h
  by_cases h1 : n < 1
  · clear h
    go_enter Try.func4, Try.ntmps4
    go_wp2_with fail
    refine hp.mono ?_
    rintro e w1 ⟨rfl, k1⟩
    go_wp2_with fail
    refine (awake5_any _).mono ?_
    rintro e w2 ⟨rfl, j2⟩
    go_wp2_with fail
    go_ret
    exact ⟨rfl, (k1.trans' j2).below0⟩
  · have h2 : x < 1 := by omega
    clear h
    go_enter Try.func4, Try.ntmps4
    go_wp2_with fail
    refine hp.mono ?_
    rintro e w1 ⟨rfl, k1⟩
    go_wp2_with fail
    refine (awake5_any _).mono ?_
    rintro e w2 ⟨rfl, j2⟩
    go_wp2_with fail
    go_ret
    exact ⟨rfl, (k1.trans' j2).below0⟩
theorem pts_many (n x : Int) (h1 : 256 < n) (hx1 : 1 ≤ x) (hx2 : x ≤ 9223372036854775807) : Calls Try.prog 4 #[.int .i64 n, .int .i64 x] w (PBel w) := by
  obtain ⟨N, hN⟩ : ∃ N, N = 256 := ⟨_, rfl⟩
  have hl := fnd_len x.toNat N
  have HP := hide (points_no n x x.toNat N w (by omega) hx1 hx2 (rfl : x.toNat = x.toNat) hN (by show _ < _; omega))
  clear hl hN
  have h0 : ¬ n < 1 := by omega
  go_enter Try.func4, Try.ntmps4
  go_wp2_with fail
  refine HP.out.mono ?_
  rintro e w1 ⟨rfl, k1⟩
  go_wp2_with fail
  refine (awake5_any _).mono ?_
  rintro e w2 ⟨rfl, j2⟩
  go_wp2_with fail
  go_ret
  exact ⟨rfl, (k1.trans' j2).below0⟩
theorem pts_few (n : Nat) (x : Int) (N : Nat) (hN : Hid (N = 256)) (h1 : 1 ≤ n) (h2 : n ≤ 256) (hx1 : 1 ≤ x) (hx2 : x ≤ 9223372036854775807) (hl : (fnd x.toNat N).length < n) : Calls Try.prog 4 #[.int .i64 (n : Int), .int .i64 x] w (PBel w) := by
  have HP := hide (points_no n x x.toNat N w (by omega) hx1 hx2 (rfl : x.toNat = x.toNat) hN (by show _ < _; omega))
  have HQ := hide fun w => rpoints_no n x x.toNat N w h1 h2 hx1 hx2 (rfl : x.toNat = x.toNat) hN hl
  clear hl hN
  go_enter Try.func4, Try.ntmps4
  go_wp2_with fail
  refine HP.out.mono ?_
  rintro e w1 ⟨rfl, k1⟩
  go_wp2_with fail
  refine (HQ.out _).mono ?_
  rintro e w2 ⟨A2, n2, c2, rfl, o2, j2⟩
  obtain rfl : n2 = 0 := o2.len
  have k2 := k1.trans' j2
  go_wp2_with fail
  refine (awake5_any _).mono ?_
  rintro e w3 ⟨rfl, j3⟩
  go_wp2_with fail
  go_ret
  exact ⟨rfl, (k2.trans' j3).below0⟩
theorem pts_yes (n : Nat) (x : Int) (N : Nat) (hN : Hid (N = 256)) (h1 : 1 ≤ n) (h2 : n ≤ 256) (hx1 : 1 ≤ x) (hx2 : x ≤ 9223372036854775807) (hl : n ≤ (fnd x.toNat N).length) : Calls Try.prog 4 #[.int .i64 (n : Int), .int .i64 x] w (PBel w) := by
  have HP := hide (points_yes n x x.toNat N w h1 hx1 hx2 (rfl : x.toNat = x.toNat) hN hl)
  have HQ := hide fun w => rpoints_yes n x x.toNat N w h1 h2 hx1 hx2 (rfl : x.toNat = x.toNat) hN hl
  have HL : Hid (((fnd x.toNat N).take n).length = n) := by show ((fnd x.toNat N).take n).length = n; rw [List.length_take]; omega
  clear hl hN
  go_enter Try.func4, Try.ntmps4
  go_wp2_with fail
  refine HP.out.mono ?_
  rintro e w1 ⟨A1, n1, c1, rfl, o1, k1⟩
  go_wp2_with fail
  refine (HQ.out _).mono ?_
  rintro e w2 ⟨A2, n2, c2, rfl, o2, j2⟩
  have hn2 : ((n2 : Int) == 0) = false := by
    have e2 := o2.len
    rw [HL.out] at e2
    simp
    omega
  have k2 := k1.trans' j2
  have v1 := conv_bts (o1.no j2).bts
  have v2 := conv_bts o2.bts
  generalize strOf ((fnd x.toNat N).take n) = t at *
  clear o1 o2
  go_wp2_with fail
  refine (awake5_any _).mono ?_
  rintro e w3 ⟨rfl, j3⟩
  go_wp2_with fail
  go_ret
  exact ⟨rfl, (k2.trans' j3).below0⟩
theorem vandpoints_walk (n x : Int) (w : World) (hn : (Lit.int .i64 n).wf = true) (hx : (Lit.int .i64 x).wf = true) : Calls Try.prog 4 #[.int .i64 n, .int .i64 x] w fun e w' => e = .returned (.bool true) ∧ Below w.heap.size w w' := by
  show Calls _ _ _ _ (PBel w)
  have hx2 := (of_wf_i64 hx).2
  by_cases h : n < 1 ∨ x < 1
  · exact pts_arg n x h
  · by_cases h2 : 256 < n
    · exact pts_many n x h2 (by omega) hx2
    · obtain ⟨m, rfl⟩ : ∃ m : Nat, n = m := ⟨n.toNat, by omega⟩
      obtain ⟨N, hN⟩ : ∃ N, N = 256 := ⟨_, rfl⟩
      by_cases h3 : m ≤ (fnd x.toNat N).length
      · exact pts_yes m x N hN (by omega) (by omega) (by omega) hx2 h3
      · exact pts_few m x N hN (by omega) (by omega) (by omega) hx2 (by omega)
end
end Go.Proofs.Ytllcmblkjcppnaa
