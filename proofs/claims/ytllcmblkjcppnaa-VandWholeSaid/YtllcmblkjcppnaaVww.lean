/- VandWhole: every square matrix of powers of unlike points has an inverse. -/
import Derived.Test.YtllcmblkjcppnaaVq
import Derived.Test.YtllcmblkjcppnaaVx
import Derived.Test.YtllcmblkjcppnaaMq
namespace Go.Proofs.Ytllcmblkjcppnaa
open Go.RowKit
set_option linter.unusedVariables false

/-- The law's end. -/
def VBel (w : World) (e : Ending) (w1 : World) : Prop := e = .returned (.bool true) ∧ Below w.heap.size w w1
section
variable {w : World} {A : Option Addr} {n c : Nat} {bs : List UInt8}
theorem invert_full {m : MB} {a : Nat → Nat → UInt8} (h : MatAt w m n n a) (hrk : (redS n a n).rk = n) : Calls Try.prog 20 #[m.ptr] w (NewPost w n n (offF n (redS n (catF n a oneF) n).f)) :=
  (invert_any h).mono fun e w1 hp => by
    rcases hp with ⟨h1, _⟩ | ⟨_, h2⟩
    · omega
    · exact h2
theorem invert_eq {a : Nat → Nat → UInt8} (hrk : (redS n a n).rk = n) : EqF n n (mulF n a (offF n (redS n (catF n a oneF) n).f)) oneF := by
  have hc := (redS_congr (catF_left n a oneF n) n (Nat.le_refl _)).1
  exact solve_eq (m := n) a oneF (by omega)
theorem same_yes {m m' : MB} {f f' : Nat → Nat → UInt8} (h : MatAt w m n n f) (h' : MatAt w m' n n f') (he : EqF n n f f') : Calls Try.prog 23 #[m.ptr, m'.ptr] w fun e w' => e = .returned (.bool true) ∧ Sm w w' := by
  have := same_any h h'
  rw [show szB n n n n = true by simp [szB], show eqB (allL n n f) (allL n n f') = true from decide_eq_true ((allL_eq h.c1).2 he)] at this
  exact this

theorem whole_size (hbad : n < 1 ∨ 16 < n) : Calls Try.prog 6 #[.slice A n c] w (VBel w) := by
  rcases hbad with hb | hb
  · go_enter Try.func6, Try.ntmps6
    go_wp2_with fail
    refine (awake5_any _).mono ?_
    rintro e w1 ⟨rfl, k1⟩
    go_wp2_with fail
    go_ret
    exact ⟨rfl, k1.below0⟩
  · have hb1 : 1 ≤ n := by omega
    go_enter Try.func6, Try.ntmps6
    go_wp2_with fail
    refine (awake5_any _).mono ?_
    rintro e w1 ⟨rfl, k1⟩
    go_wp2_with fail
    go_ret
    exact ⟨rfl, k1.below0⟩
theorem whole_twice (h : Bts w (.slice A n c) bs) (h1 : 1 ≤ n) (h2 : n ≤ 16) (hU : ¬ Uq n (lg bs)) : Calls Try.prog 6 #[.slice A n c] w (VBel w) := by
  have ht := twice_yes h (by omega) hU
  clear hU
  go_enter Try.func6, Try.ntmps6
  go_wp2_with fail
  refine ht.mono ?_
  rintro e w1 ⟨rfl, s1⟩
  go_wp2_with fail
  refine (awake5_any _).mono ?_
  rintro e w2 ⟨rfl, k2⟩
  go_wp2_with fail
  go_ret
  exact ⟨rfl, (s1.kp.trans' k2).below0⟩
set_option maxHeartbeats 2000000 in
theorem whole_yes (h : Bts w (.slice A n c) bs) (h1 : 1 ≤ n) (h2 : n ≤ 16) (hU : Uq n (lg bs)) : Calls Try.prog 6 #[.slice A n c] w (VBel w) := by
  have ht := twice_no h (by omega) hU
  have T1 := hide fun w' (hk : Kp No w w') => matrix_yes (h.no hk) n h1 (by omega) h1 (by omega) hU
  have HR := hide (vF_whole hU)
  clear hU
  go_enter Try.func6, Try.ntmps6
  go_wp2_with fail
  refine ht.mono ?_
  rintro e w1 ⟨rfl, s1⟩
  have k1 : Kp No w w1 := s1.kp
  go_wp2_with fail
  refine (T1.out _ k1).mono ?_
  rintro e w2 ⟨m, rfl, M, _, _, j2⟩
  have k2 := k1.trans' j2
  go_wp2_with fail
  refine (invert_full M HR.out).mono ?_
  rintro e w3 ⟨mi, rfl, I, _, _, j3⟩
  have k3 := k2.trans' j3
  have M := M.no j3
  go_wp2_with fail
  refine (mul_yes M I).mono ?_
  rintro e w4 ⟨mp, rfl, P, _, _, j4⟩
  have k4 := k3.trans' j4
  have hlp := P.lt
  go_wp2_with fail
  refine (one_yes n _ h1 (by omega)).mono ?_
  rintro e w5 ⟨mo, rfl, O, _, _, j5⟩
  have k5 := k4.trans' j5
  have P := P.no j5
  go_wp2_with fail
  refine (same_yes P O (invert_eq HR.out)).mono ?_
  rintro e w6 ⟨rfl, s6⟩
  have k6 := k5.trans' s6.kp
  go_wp2_with fail
  refine (awake5_any _).mono ?_
  rintro e w7 ⟨rfl, j7⟩
  have k7 := k6.trans' j7
  go_wp2_with fail
  go_ret
  exact ⟨rfl, k7.below0⟩
theorem vandwhole_walk (h : Bts w (.slice A n c) bs) : Calls Try.prog 6 #[.slice A n c] w fun e w' => e = .returned (.bool true) ∧ Below w.heap.size w w' := by
  show Calls _ _ _ _ (VBel w)
  by_cases hs : 1 ≤ n ∧ n ≤ 16
  · by_cases hU : Uq n (lg bs)
    · exact whole_yes h hs.1 hs.2 hU
    · exact whole_twice h hs.1 hs.2 hU
  · exact whole_size (by omega)
end
end Go.Proofs.Ytllcmblkjcppnaa
