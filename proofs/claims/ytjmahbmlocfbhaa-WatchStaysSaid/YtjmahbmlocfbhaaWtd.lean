/- The document's Right, package watch's Name, the chapter's example; WatchNobody and WatchStays walked: they return true for any arguments. No condition. -/
import Derived.Test.YtjmahbmlocfbhaaWtc
import Derived.OpenShut
namespace Go.Proofs.Ytjmahbmlocfbhaa
open Go.RowKit Go.WideShapes Go.ChangeShapes
set_option linter.unusedVariables false
set_option maxRecDepth 20000
set_option linter.unusedSimpArgs false

instance (n a b : Int) : Decidable (Wt.Right n a b) := inferInstanceAs (Decidable (_ ∧ _))
theorem rright17_yes (w : World) (n a b : Int) (h : Wt.Right n a b) : Calls Try.prog 8 #[.int .i64 n, .int .i64 a, .int .i64 b] w fun e w1 => e = .returned (.bool true) ∧ w = w1 := by
  obtain ⟨h1, h2, h3, h4, h5⟩ := h
  go_enter Try.func8, Try.ntmps8
  go_wp2
  go_ret
  exact ⟨rfl, rfl⟩
theorem rright17_no (w : World) (n a b : Int) (h : ¬ Wt.Right n a b) : Calls Try.prog 8 #[.int .i64 n, .int .i64 a, .int .i64 b] w fun e w1 => e = .returned (.bool false) ∧ w = w1 := by
  unfold Wt.Right at h
  by_cases h1 : 1 ≤ n
  rotate_left 1
  · clear h
    go_enter Try.func8, Try.ntmps8
    go_wp2
    go_ret
    exact ⟨rfl, rfl⟩
  by_cases h2 : n ≤ 32
  rotate_left 1
  · clear h
    go_enter Try.func8, Try.ntmps8
    go_wp2
    go_ret
    exact ⟨rfl, rfl⟩
  by_cases h3 : 1 ≤ a
  rotate_left 1
  · clear h
    go_enter Try.func8, Try.ntmps8
    go_wp2
    go_ret
    exact ⟨rfl, rfl⟩
  by_cases h4 : a < b
  rotate_left 1
  · clear h
    go_enter Try.func8, Try.ntmps8
    go_wp2
    go_ret
    exact ⟨rfl, rfl⟩
  have h5 : ¬ b ≤ 1099511627776 := by omega
  clear h
  go_enter Try.func8, Try.ntmps8
  go_wp2
  go_ret
  exact ⟨rfl, rfl⟩

/-- The name of a state. -/
def stNm (s : Int) : ByteArray := if s = 0 then { data := #[116, 104, 101, 114, 101] } else if s = 1 then { data := #[108, 97, 116, 101] } else if s = 2 then { data := #[103, 111, 110, 101] } else { data := #[] }
theorem sname_any (w : World) (s : Int) : Calls Try.prog 18 #[.int .i64 s] w fun e w1 => e = .returned (.string (stNm s)) ∧ w = w1 := by
  by_cases h0 : s = 0
  · subst h0
    go_enter Try.func18, Try.ntmps18
    go_wp2
    go_ret
    exact ⟨rfl, rfl⟩
  by_cases h1 : s = 1
  · subst h1
    go_enter Try.func18, Try.ntmps18
    go_wp2
    go_ret
    exact ⟨rfl, rfl⟩
  by_cases h2 : s = 2
  · subst h2
    go_enter Try.func18, Try.ntmps18
    go_wp2
    go_ret
    exact ⟨rfl, rfl⟩
  have e : stNm s = { data := #[] } := by unfold stNm; rw [if_neg h0, if_neg h1, if_neg h2]
  have HE := hide e
  have t0 : (s == 0) = false := beq_eq_false_iff_ne.2 h0
  have t1 : (s == 1) = false := beq_eq_false_iff_ne.2 h1
  have t2 : (s == 2) = false := beq_eq_false_iff_ne.2 h2
  clear e h0 h1 h2
  go_enter Try.func18, Try.ntmps18
  go_wp2
  go_ret
  exact ⟨by rw [HE.out]; rfl, rfl⟩

theorem awk17_right : Wt.Right 1 2 4 := by unfold Wt.Right; omega
set_option maxHeartbeats 1000000 in
theorem awake17_any (w : World) : Calls Try.prog 6 #[] w (TruePost w) := by
  have HN : Hid (Calls Try.prog 7 #[.int .i64 1, .int .i64 2, .int .i64 4] w (WnPost w (Wt.new 1 2 4))) := wnew_any w 1 2 4 awk17_right
  have HA := hide awk17_all
  go_enter Try.func6, Try.ntmps6
  go_wp2_with fail
  refine HN.out.mono ?_
  rintro e w1 ⟨g, rfl, h1, k1⟩
  have H1 := hide h1.lt
  have HK1 := hide k1
  clear h1 k1
  obtain ⟨F, HF, H1⟩ : ∃ F : Nat → Prop, Hid (∀ k, F k → w.heap.size ≤ k ∧ k < w1.heap.size) ∧ Hid (WtAt w1 F g (Wt.new 1 2 4)) := ⟨_, fun k h => h, H1⟩
  go_wp2_with fail
  refine (wtick_any H1.out (by decide) (fun k f => (HF.out k f).2) 2).mono ?_
  rintro e w2 ⟨rfl, h2, k2⟩
  have H2 := hide (show WtAt w2 F g awk17a from h2)
  have HS2 : Hid (∀ k, F k → k < w2.heap.size) := fun k f => Nat.lt_of_lt_of_le (HF.out k f).2 k2.size
  have HK2 := hide (HK1.out.fr k2 fun q f => (HF.out q f).1)
  clear h2 k2
  go_wp2_with fail
  refine (wof_any H2.out 0).mono ?_
  rintro e w3 ⟨rfl, k3⟩
  have e1 : ((awk17a.st 0 : Nat) : Int) = 1 := by rw [HA.out.1]; rfl
  rw [e1]
  have H3 := hide (H2.out.no k3)
  have HS3 : Hid (∀ k, F k → k < w3.heap.size) := fun k f => Nat.lt_of_lt_of_le (HS2.out k f) k3.size
  have HK3 := hide (HK2.out.trans' k3)
  clear k3 e1
  go_wp2_with fail
  refine (wtick_any H3.out (by decide) HS3.out 2).mono ?_
  rintro e w4 ⟨rfl, h4, k4⟩
  have H4 := hide (show WtAt w4 F g awk17b from h4)
  have HS4 : Hid (∀ k, F k → k < w4.heap.size) := fun k f => Nat.lt_of_lt_of_le (HS3.out k f) k4.size
  have HK4 := hide (HK3.out.fr k4 fun q f => (HF.out q f).1)
  clear h4 k4
  go_wp2_with fail
  refine (wof_any H4.out 0).mono ?_
  rintro e w5 ⟨rfl, k5⟩
  have e1 : ((awk17b.st 0 : Nat) : Int) = 2 := by rw [HA.out.2.1]; rfl
  rw [e1]
  have H5 := hide (H4.out.no k5)
  have HS5 : Hid (∀ k, F k → k < w5.heap.size) := fun k f => Nat.lt_of_lt_of_le (HS4.out k f) k5.size
  have HK5 := hide (HK4.out.trans' k5)
  clear k5 e1
  go_wp2_with fail
  refine (wheard_any H5.out (by decide) HS5.out 0).mono ?_
  rintro e w6 ⟨rfl, h6, k6⟩
  have H6 := hide (show WtAt w6 F g awk17c from h6)
  have HK6 := hide (HK5.out.fr k6 fun q f => (HF.out q f).1)
  clear h6 k6
  go_wp2_with fail
  refine (wnow_any H6.out).mono ?_
  rintro e w7 ⟨rfl, k7⟩
  have e1 : ((awk17c.ep : Nat) : Int) = 3 := by rw [HA.out.2.2.2]; rfl
  rw [e1]
  have H7 := hide (H6.out.no k7)
  have HK7 := hide (HK6.out.trans' k7)
  clear k7 e1
  go_wp2_with fail
  refine (wof_any H7.out 0).mono ?_
  rintro e w8 ⟨rfl, k8⟩
  have e1 : ((awk17c.st 0 : Nat) : Int) = 0 := by rw [HA.out.2.2.1]; rfl
  rw [e1]
  clear e1
  go_wp2_with fail
  go_ret
  exact ⟨rfl, HK7.out.trans' k8⟩
end Go.Proofs.Ytjmahbmlocfbhaa
