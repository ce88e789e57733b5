/- Package vand's Matrix, as a contract over memory. -/
import Derived.Test.YtllcmblkjcppnaaVe
import Derived.Test.YtllcmblkjcppnaaSs
import Derived.Test.YtllcmblkjcppnaaSu
namespace Go.Proofs.Ytllcmblkjcppnaa
open Go.RowKit
set_option linter.unusedVariables false

section
variable {w : World} {A : Option Addr} {n c : Nat} {bs : List UInt8}
theorem matrix_no (h : Bts w (.slice A n c) bs) (q : Int) (hbad : ¬ (1 ≤ q ∧ q ≤ 64 ∧ 1 ≤ n ∧ n ≤ 64 ∧ Uq n (lg bs))) : Calls Try.prog 10 #[.slice A n c, .int .i64 q] w (ArgPost w) := by
  by_cases h1 : q < 1
  · clear hbad
    go_enter Try.func10, Try.ntmps10
    go_wp2_with fail
    go_ret2
    exact ⟨rfl, Kp.refl _ _⟩
  · by_cases h2 : 64 < q
    · clear hbad
      go_enter Try.func10, Try.ntmps10
      go_wp2_with fail
      go_ret2
      exact ⟨rfl, Kp.refl _ _⟩
    · have hf := fit_no h fun hx => hbad ⟨by omega, by omega, hx⟩
      have h3 : 1 ≤ q := by omega
      have h4 : q ≤ 64 := by omega
      clear hbad
      go_enter Try.func10, Try.ntmps10
      go_wp2_with fail
      refine hf.mono ?_
      rintro e w1 ⟨rfl, k1⟩
      go_wp2_with fail
      go_ret2
      exact ⟨rfl, k1⟩

set_option maxHeartbeats 2000000 in
theorem matrix_yes (h : Bts w (.slice A n c) bs) (q : Nat) (q1 : 1 ≤ q) (q2 : q ≤ 64) (n1 : 1 ≤ n) (n2 : n ≤ 64) (hU : Uq n (lg bs)) : Calls Try.prog 10 #[.slice A n c, .int .i64 (q : Int)] w (NewPost w n q (vF (lg bs))) := by
  have hf := fit_yes h n1 n2 hU
  have hmk := fun w => make_rows w n (n : Int) rfl (by omega)
  clear hU
  go_enter Try.func10, Try.ntmps10
  go_wp2_with fail
  refine hf.mono ?_
  rintro e w1 ⟨rfl, k1⟩
  have hstart : RoI w w1.heap.size n q (vF (lg bs)) 0 (w1.alloc (.cells (zr n) 22)) := ⟨⟨fun _ => .slice none 0 0, ⟨zr n, heap_alloc_new w1 _, fun j hj => zr_get hj⟩, fun j hj => absurd hj (Nat.not_lt_zero _), fun i j hi => absurd hi (Nat.not_lt_zero _)⟩, k1.trans' (Kp.alloc No _ _)⟩
  have hsz := k1.size
  obtain ⟨g, hg⟩ : ∃ g, g = w1.heap.size := ⟨_, rfl⟩
  have HG : Hid (w.heap.size ≤ g) := by show w.heap.size ≤ g; omega
  clear hsz
  go_wp2_with fail
  rw [← hg] at hstart ⊢
  clear hg
  go_loopw [25] (fun i wr => ∃ k : Nat, k ≤ n ∧ i = .int .i64 (k : Int) ∧ RoI w g n q (vF (lg bs)) k wr) (fun i _ => n - (intOf i).toNat)
  case atStart => exact ⟨0, Nat.zero_le _, rfl, hstart⟩
  case round =>
    obtain ⟨k, hk, rfl, hI⟩ := hrel
    by_cases hlt : k < n
    · obtain ⟨B1, o1, y, rfl, hy, c1⟩ := (h.no hI.kp).at_ hlt
      have HV : Hid (rowL q (upw y) = rowL q (vF (lg bs) k)) := by show rowL q (upw y) = rowL q (upw (lg bs k)); rw [lg_of hy]
      clear hy
      go_wp2_with fail
      refine (vrow_any y q _ q1 (by omega)).mono ?_
      rintro e w2 ⟨A1, n3, c2, rfl, ho1, hk1⟩
      rw [HV.out] at ho1
      have HS := hide (hI.step HG.out hlt q1 (Nat.le_refl _) ho1 hk1)
      obtain ⟨hv, h1, _, _⟩ := hI.ex
      have h2 := h1.keep hk1 fun f => f
      have x1 := h2.cell hlt
      have x2 := h2.frozen k
      go_wp2_with fail
      go_round
      case rel => exact ⟨k + 1, by omega, by go_num, HS.out⟩
      case measure => simp [intOf]; omega
    · obtain rfl : k = n := by omega
      obtain ⟨hv, h1, h2, h3⟩ := hI.ex
      have hG : Grd wr w.heap.size g k hv fun j => rowL q (vF (lg bs) j) := ⟨h1, h2, HG.out⟩
      have hof := of_yes (bss := matL k q (vF (lg bs))) (cp := k) hG.rws (matL_rect _ n1 n2 q1 q2)
      clear hG h1 h2 h3
      go_wp2_with fail
      refine hof.mono ?_
      rintro e w3 ⟨m, rfl, hM, g1, g2, k3⟩
      have hks := hI.kp.size
      go_wp2_with fail
      go_ret2
      exact ⟨m, rfl, hM.eqF fun i j hi hj => fnL_matL _ i j hi hj, by omega, by omega, hI.kp.trans' k3⟩
end
end Go.Proofs.Ytllcmblkjcppnaa
