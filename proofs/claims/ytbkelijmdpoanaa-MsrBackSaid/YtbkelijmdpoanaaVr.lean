/- Package vand's Row and Value, and the document's Row and Value, each as a contract over memory. -/
import Derived.Test.YtbkelijmdpoanaaVm
import Derived.Test.YtbkelijmdpoanaaRt
import Derived.Test.YtbkelijmdpoanaaGfq
namespace Go.Proofs.Ytbkelijmdpoanaa
open Go.RowKit
set_option linter.unusedVariables false
set_option maxRecDepth 20000

theorem refpowU_any (x : UInt8) (k : Nat) (w : World) (hk : k ≤ 1000) : Calls Try.prog 47 #[.int .u8 (x.toNat : Int), .int .i64 (k : Int)] w fun e w' => e = .returned (.int .u8 ((upw x k).toNat : Int)) ∧ w = w' := by
  rw [upw_nat]
  exact refpow_any x.toNat k w (u8_lt x) (by omega)
theorem refpowU_q (w : World) (n : Nat) (x : UInt8) (k : Nat) (hk : k ≤ 1000) : Calls Try.prog 47 #[.int .u8 (x.toNat : Int), .int .i64 (k : Int)] (w.drewN n) fun e w' => e = .returned (.int .u8 ((upw x k).toNat : Int)) ∧ ∃ k, w' = w.drewN k :=
  (refpowU_any x k _ hk).mono fun _ _ ⟨he, hw⟩ => ⟨he, n, hw.symm⟩
theorem rowL_succ (k : Nat) (s : Nat → UInt8) : rowL (k + 1) s = rowL k s ++ [s k] := by
  unfold rowL
  rw [List.range_succ, List.map_append]
  rfl

theorem vrow_none (x n : Int) (w : World) (h : n < 1) : Calls Try.prog 31 #[.int .u8 x, .int .i64 n] w (OwnPost w []) := by
  go_enter Try.func31, Try.ntmps31
  go_wp2_with fail
  go_ret
  exact ⟨none, 0, 0, rfl, Own.nil _ _ _, Kp.refl _ _⟩

set_option maxHeartbeats 1000000 in
theorem vrow_any (x : UInt8) (n : Nat) (w : World) (h1 : 1 ≤ n) (h2 : n ≤ 1000) : Calls Try.prog 31 #[.int .u8 (x.toNat : Int), .int .i64 (n : Int)] w (OwnPost w (rowL n (upw x))) := by
  have hmk := fun w => make_bytes w n (n : Int) rfl (by omega)
  have hst := row_new w n h2
  have hk0 : Kp No w (w.alloc (.cells (zc n) 5)) := Kp.alloc No _ _
  obtain ⟨g, hg⟩ : ∃ g, g = w.heap.size := ⟨_, rfl⟩
  go_enter Try.func31, Try.ntmps31
  go_wp2_with fail
  rw [← hg] at hst ⊢
  have HG := hide hg
  clear hg
  go_loopw [6, 18] (fun q i wr => ∃ k : Nat, k ≤ n ∧ i = .int .i64 (k : Int) ∧ q = .int .u8 ((upw x k).toNat : Int) ∧ RowAt wr g g n n (upS (upw x) (fun _ => 0) k) ∧ Kp No w wr) (fun _ i _ => n - (intOf i).toNat)
  case atStart => exact ⟨0, Nat.zero_le _, rfl, rfl, hst.eq fun k _ => by simp [upS], hk0⟩
  case round =>
    obtain ⟨k, hk, rfl, rfl, hR, hkw⟩ := hrel
    by_cases hlt : k < n
    · have hy := hR.cell hlt
      have hf := hR.frozen k
      have hstep : Hid (um (upw x k) x = upw x (k + 1)) := (rfl : um (upw x k) x = upw x (k + 1))
      go_wp2_with fail
      refine (mulU_any (upw x k) x _).mono ?_
      rintro e w2 ⟨rfl, rfl⟩
      rw [hstep.out]
      go_wp2_with fail
      go_round
      case rel => exact ⟨k + 1, by omega, by go_num, rfl, (hR.set hlt (upw x k) _ rfl).eq fun j _ => upS_step (upw x) _ k j, hkw.trans ((RowAt.kpset _ _ _ _).mono fun q hq => .inr (by rw [hq, HG.out]; exact Nat.le_refl _))⟩
      case measure => simp [intOf]; omega
    · obtain rfl : k = n := by omega
      go_wp2_with fail
      go_ret
      refine ⟨_, _, _, rfl, ?_, hkw⟩
      rw [← HG.out]
      exact hR.eq fun j hj => by unfold upS; rw [if_pos hj]

theorem rrow_none (x n : Int) (w : World) (h : n < 1) : Calls Try.prog 33 #[.int .u8 x, .int .i64 n] w (OwnPost w []) := by
  go_enter Try.func33, Try.ntmps33
  go_wp2_with fail
  go_loopw [5, 6] (fun v i wr => v = .slice none 0 0 ∧ i = .int .i64 0 ∧ w = wr) (fun _ _ _ => 0)
  case atStart => exact ⟨rfl, rfl, rfl⟩
  case round =>
    obtain ⟨rfl, rfl, rfl⟩ := hrel
    go_wp2_with fail
    go_ret
    exact ⟨none, 0, 0, rfl, Own.nil _ _ _, Kp.refl _ _⟩

set_option maxHeartbeats 1000000 in
theorem rrow_any (x : UInt8) (n : Nat) (w : World) (h2 : n ≤ 1000) : Calls Try.prog 33 #[.int .u8 (x.toNat : Int), .int .i64 (n : Int)] w (OwnPost w (rowL n (upw x))) := by
  obtain ⟨i0, hi0, hz0, hz1, hz2⟩ := byte_parts
  go_enter Try.func33, Try.ntmps33
  go_wp2_with fail
  go_loopw [5, 6] (fun v i wr => ∃ (k : Nat) (A : Option Addr) (m c : Nat), k ≤ n ∧ i = .int .i64 (k : Int) ∧ v = .slice A m c ∧ Own wr w.heap.size 5 (.slice A m c) (rowL k (upw x)) ∧ Kp No w wr) (fun _ i _ => n - (intOf i).toNat)
  case atStart => exact ⟨0, none, 0, 0, Nat.zero_le _, rfl, rfl, Own.nil _ _ _, Kp.refl _ _⟩
  case round =>
    obtain ⟨k, A, m, c, hk, rfl, rfl, ho, hkw⟩ := hrel
    by_cases hlt : k < n
    · have hsz := hkw.size
      have hb := bts_new wr (upw x k) _ rfl
      have ho2 := ho.alloc (.cells #[bv (upw x k)] 5)
      have hl : (rowL k (upw x)).length + [upw x k].length ≤ 1000000000 := by rw [rowL_len]; simp; omega
      go_wp2_with fail
      refine (refpowU_any x k _ (by omega)).mono ?_
      rintro e w' ⟨rfl, rfl⟩
      go_wp2_with (first
        | (at_builtin
           refine wpList_app rfl (.tmp 12) (.tmp 16) _ rfl i0 Try.underlying29 hi0 hz0 hz1 hz2 rfl ho2 rfl hb hl (by simp; omega) ?_
           intro A1 n1 c1 w1 ha))
      go_round
      case rel => exact ⟨k + 1, A1, n1, c1, by omega, by go_num, rfl, by rw [rowL_succ]; exact ha.own, ha.keeps ho2 (hkw.trans' (Kp.alloc No _ _))⟩
      case measure => simp [intOf]; omega
    · obtain rfl : k = n := by omega
      go_wp2_with fail
      go_ret
      exact ⟨A, m, c, rfl, ho, hkw⟩

end Go.Proofs.Ytbkelijmdpoanaa
