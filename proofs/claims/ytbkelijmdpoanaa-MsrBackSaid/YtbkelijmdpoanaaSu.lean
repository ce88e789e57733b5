/- Package solve's Solve of what doesn't fit, and Invert, each as a contract over memory. -/
import Derived.Test.YtbkelijmdpoanaaSt
namespace Go.Proofs.Ytbkelijmdpoanaa
open Go.RowKit
set_option linter.unusedVariables false
set_option maxRecDepth 20000

section
variable {w : World} {m m' : MB} {r c n q : Nat} {f b : Nat → Nat → UInt8}
theorem ArgPost.later {w0 : World} {e : Ending} {w1 : World} (h : ArgPost w e w1) (hk : Kp No w0 w) : ArgPost w0 e w1 := ⟨h.1, hk.trans' h.2⟩
theorem SngPost.later {w0 : World} {e : Ending} {w1 : World} (h : SngPost w e w1) (hk : Kp No w0 w) : SngPost w0 e w1 := ⟨h.1, hk.trans' h.2⟩
theorem SolPost.later {w0 : World} {e : Ending} {w1 : World} (h : SolPost w n c f b e w1) (hk : Kp No w0 w) : SolPost w0 n c f b e w1 := by
  rcases h with ⟨h1, h2⟩ | ⟨h1, h2⟩
  · exact .inl ⟨h1, h2.later hk⟩
  · exact .inr ⟨h1, h2.later hk⟩
theorem solve_nil (h' : MatAt w m' n c b) : Calls Try.prog 57 #[.pointer none, m'.ptr] w (ArgPost w) := by
  go_enter Try.func57, Try.ntmps57
  go_wp2_with fail
  refine (size_nil w).mono ?_
  rintro e w1 ⟨rfl, rfl⟩
  go_wp2_with fail
  refine (size_any h').mono ?_
  rintro e w2 ⟨rfl, hs2⟩
  go_wp2_with fail
  refine (square_nil _).mono ?_
  rintro e w3 ⟨rfl, hs3⟩
  go_wp2_with fail
  go_ret2
  exact ⟨rfl, (hs2.trans hs3).kp⟩
theorem solve_nsq (h : MatAt w m r c f) (hne : r ≠ c) (h' : MatAt w m' n q b) : Calls Try.prog 57 #[m.ptr, m'.ptr] w (ArgPost w) := by
  have HN := hide hne
  clear hne
  go_enter Try.func57, Try.ntmps57
  go_wp2_with fail
  refine (size_any h).mono ?_
  rintro e w1 ⟨rfl, hs1⟩
  go_wp2_with fail
  refine (size_any (h'.sm hs1)).mono ?_
  rintro e w2 ⟨rfl, hs2⟩
  go_wp2_with fail
  refine (square_no (h.sm (hs1.trans hs2)) HN.out).mono ?_
  rintro e w3 ⟨rfl, hs3⟩
  go_wp2_with fail
  go_ret2
  exact ⟨rfl, ((hs1.trans hs2).trans hs3).kp⟩
theorem solve_high (h : MatAt w m r r f) (h' : MatAt w m' n q b) (hne : n ≠ r) : Calls Try.prog 57 #[m.ptr, m'.ptr] w (ArgPost w) := by
  have t0 : ((n : Int) != (r : Int)) = true := by simp; omega
  clear hne
  go_enter Try.func57, Try.ntmps57
  go_wp2_with fail
  refine (size_any h).mono ?_
  rintro e w1 ⟨rfl, hs1⟩
  go_wp2_with fail
  refine (size_any (h'.sm hs1)).mono ?_
  rintro e w2 ⟨rfl, hs2⟩
  go_wp2_with fail
  refine (square_yes (h.sm (hs1.trans hs2))).mono ?_
  rintro e w3 ⟨rfl, hs3⟩
  go_wp2_with fail
  go_ret2
  exact ⟨rfl, ((hs1.trans hs2).trans hs3).kp⟩
theorem invert_nil (w : World) : Calls Try.prog 43 #[.pointer none] w (ArgPost w) := by
  go_enter Try.func43, Try.ntmps43
  go_wp2_with fail
  refine (size_nil w).mono ?_
  rintro e w1 ⟨rfl, rfl⟩
  go_wp2_with fail
  refine (one_no 0 _ (by omega)).mono ?_
  rintro e w2 ⟨rfl, hk⟩
  go_wp2_with fail
  go_ret2
  exact ⟨rfl, hk⟩
theorem invert_nsq (h : MatAt w m r c f) (hne : r ≠ c) : Calls Try.prog 43 #[m.ptr] w (ArgPost w) := by
  have hr1 := h.r1
  have hr2 := h.r2
  have HN := hide hne
  clear hne
  go_enter Try.func43, Try.ntmps43
  go_wp2_with fail
  refine (size_any h).mono ?_
  rintro e w1 ⟨rfl, hs1⟩
  go_wp2_with fail
  refine (one_yes r _ hr1 hr2).mono ?_
  rintro e w2 ⟨m2, rfl, h2, _, _, hk2⟩
  have k2 := hs1.kp.trans' hk2
  go_wp2_with fail
  refine (solve_nsq (h.no k2) HN.out h2).mono ?_
  rintro e w3 ⟨rfl, hk3⟩
  go_wp2_with fail
  go_ret2
  exact ⟨rfl, k2.trans' hk3⟩
theorem invert_any (h : MatAt w m r r f) : Calls Try.prog 43 #[m.ptr] w (SolPost w r r f oneF) := by
  have hr1 := h.r1
  have hr2 := h.r2
  go_enter Try.func43, Try.ntmps43
  go_wp2_with fail
  refine (size_any h).mono ?_
  rintro e w1 ⟨rfl, hs1⟩
  go_wp2_with fail
  refine (one_yes r _ hr1 hr2).mono ?_
  rintro e w2 ⟨m2, rfl, h2, _, _, hk2⟩
  have k2 := hs1.kp.trans' hk2
  go_wp2_with fail
  refine (solve_any (h.no k2) h2).mono ?_
  intro e w3 hp
  have hp2 := hp.later k2
  clear hp
  rcases hp2 with ⟨hrk, rfl, k3⟩ | ⟨hrk, m3, rfl, h3, g1, g2, k3⟩
  · go_wp2_with fail
    go_ret2
    exact .inl ⟨hrk, rfl, k3⟩
  · have HR := hide hrk
    clear hrk
    go_wp2_with fail
    go_ret2
    exact .inr ⟨HR.out, m3, rfl, h3, g1, g2, k3⟩
end
end Go.Proofs.Ytbkelijmdpoanaa
