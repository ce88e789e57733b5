/- The document's times and plus, each as a contract over memory. -/
import Derived.Test.YtbkelijmdpoanaaSq
import Derived.Test.YtbkelijmdpoanaaRr
import Derived.Test.YtbkelijmdpoanaaGfv
namespace Go.Proofs.Ytbkelijmdpoanaa
open Go.RowKit
set_option linter.unusedVariables false
set_option maxRecDepth 20000

theorem refinvU_any (a : UInt8) (w : World) (h : a ≠ 0) : Calls Try.prog 50 #[.int .u8 (a.toNat : Int)] w fun e w' => e = .returned (.int .u8 ((ui a).toNat : Int)) ∧ w = w' := by
  rw [ui_nat]
  exact refinv_any a.toNat w (u8_lt a) (Nat.pos_of_ne_zero (u8_ne h))

/-- A new row of noughts. -/
theorem row_new (w : World) (L : Nat) (hL : L ≤ 1000) : RowAt (w.alloc (.cells (zc L) 5)) w.heap.size w.heap.size L L fun _ => 0 :=
  Own.mk (heap_alloc_new w _) (rowL_len _ _).symm (Nat.le_refl _) (by simp only [maxLen]; omega) (zc_size L) (Nat.le_refl _) fun k x hk => by
    have hkl : k < L := by have := (List.getElem?_eq_some_iff.1 hk).1; rwa [rowL_len] at this
    rw [rowL_get _ hkl] at hk
    injection hk with hk
    subst hk
    exact zc_get hkl
theorem Bts.cell {w : World} {A : Option Addr} {L c k : Nat} {s : Nat → UInt8} (h : Bts w (.slice A L c) (rowL L s)) (hk : k < L) : ∃ B off, A = some ⟨B, off, none⟩ ∧ w.cell? ⟨B, off + k, none⟩ = some (.int .u8 ((s k).toNat : Int)) := by
  obtain ⟨B, off, b, rfl, hb, hc⟩ := h.at_ hk
  rw [rowL_get _ hk] at hb
  injection hb with hb
  subst hb
  exact ⟨B, off, rfl, hc⟩

set_option maxHeartbeats 1000000 in
theorem times_any {w : World} {A : Option Addr} {L c : Nat} {s : Nat → UInt8} (h : Bts w (.slice A L c) (rowL L s)) (hL : L ≤ 1000) (x : UInt8) :
    Calls Try.prog 49 #[.slice A L c, .int .u8 (x.toNat : Int)] w (OwnPost w (rowL L fun j => um (s j) x)) := by
  have hmk := fun w => make_bytes w L (L : Int) rfl (by omega)
  have hst := row_new w L hL
  have hk0 : Kp No w (w.alloc (.cells (zc L) 5)) := Kp.alloc No _ _
  obtain ⟨g, hg⟩ : ∃ g, g = w.heap.size := ⟨_, rfl⟩
  go_enter Try.func49, Try.ntmps49
  go_wp2_with fail
  rw [← hg] at hst ⊢
  have HG := hide hg
  clear hg
  go_loopw [6] (fun i wr => ∃ k : Nat, k ≤ L ∧ i = .int .i64 (k : Int) ∧ RowAt wr g g L L (upS (fun j => um (s j) x) (fun _ => 0) k) ∧ Kp No w wr) (fun i _ => L - (intOf i).toNat)
  case atStart => exact ⟨0, Nat.zero_le _, rfl, hst.eq fun k _ => by simp [upS], hk0⟩
  case round =>
    obtain ⟨k, hk, rfl, hR, hkw⟩ := hrel
    by_cases hlt : k < L
    · have hy := hR.cell hlt
      have hf := hR.frozen k
      obtain ⟨B, off, rfl, hz⟩ := (h.no hkw).cell hlt
      go_wp2_with fail
      refine (refmulU_any (s k) x _).mono ?_
      rintro e w2 ⟨rfl, rfl⟩
      go_wp2_with fail
      go_round
      case rel => exact ⟨k + 1, by omega, by go_num, (hR.set hlt (um (s k) x) _ rfl).eq fun j _ => upS_step (fun j => um (s j) x) _ k j, hkw.trans ((RowAt.kpset _ _ _ _).mono fun q hq => .inr (by rw [hq, HG.out]; exact Nat.le_refl _))⟩
      case measure => simp [intOf]; omega
    · obtain rfl : k = L := by omega
      go_wp2_with fail
      go_ret
      refine ⟨_, _, _, rfl, ?_, hkw⟩
      rw [← HG.out]
      exact hR.eq fun j hj => by unfold upS; rw [if_pos hj]

set_option maxHeartbeats 1000000 in
theorem plus_any {w : World} {A A' : Option Addr} {L c c' : Nat} {s t : Nat → UInt8} (h : Bts w (.slice A L c) (rowL L s)) (h' : Bts w (.slice A' L c') (rowL L t)) (hL : L ≤ 1000) :
    Calls Try.prog 51 #[.slice A L c, .slice A' L c'] w (OwnPost w (rowL L fun j => ux (s j) (t j))) := by
  have hmk := fun w => make_bytes w L (L : Int) rfl (by omega)
  have hst := row_new w L hL
  have hk0 : Kp No w (w.alloc (.cells (zc L) 5)) := Kp.alloc No _ _
  obtain ⟨g, hg⟩ : ∃ g, g = w.heap.size := ⟨_, rfl⟩
  go_enter Try.func51, Try.ntmps51
  go_wp2_with fail
  rw [← hg] at hst ⊢
  have HG := hide hg
  clear hg
  go_loopw [6] (fun i wr => ∃ k : Nat, k ≤ L ∧ i = .int .i64 (k : Int) ∧ RowAt wr g g L L (upS (fun j => ux (s j) (t j)) (fun _ => 0) k) ∧ Kp No w wr) (fun i _ => L - (intOf i).toNat)
  case atStart => exact ⟨0, Nat.zero_le _, rfl, hst.eq fun k _ => by simp [upS], hk0⟩
  case round =>
    obtain ⟨k, hk, rfl, hR, hkw⟩ := hrel
    by_cases hlt : k < L
    · obtain ⟨B, off, rfl, hz⟩ := (h.no hkw).cell hlt
      obtain ⟨B', off', rfl, hz'⟩ := (h'.no hkw).cell hlt
      have hxor := xorU (s k) (t k)
      go_wp2_with fail
      refine wp_region_still_tail 12 (by kernel_rfl) (by kernel_rfl) ?_
      simp only [List.take_succ_cons, List.take_zero, List.drop_succ_cons, List.drop_zero]
      repeat still_step
      refine wpStill_nil ?_
      change wpList _ _ _ _ _ wr.drew
      generalize hgen : wr.drew = w2
      have hs2 : Sm wr w2 := ⟨1, hgen.symm⟩
      clear hgen
      have hR2 := hR.no hs2.kp
      have hy2 := hR2.cell hlt
      have hf2 := hR2.frozen k
      go_wp2_with fail
      go_round
      case rel => exact ⟨k + 1, by omega, by go_num, (hR2.set hlt (ux (s k) (t k)) _ rfl).eq fun j _ => upS_step (fun j => ux (s j) (t j)) _ k j, (hkw.trans' hs2.kp).trans ((RowAt.kpset _ _ _ _).mono fun q hq => .inr (by rw [hq, HG.out]; exact Nat.le_refl _))⟩
      case measure => simp [intOf]; omega
    · obtain rfl : k = L := by omega
      go_wp2_with fail
      go_ret
      refine ⟨_, _, _, rfl, ?_, hkw⟩
      rw [← HG.out]
      exact hR.eq fun j hj => by unfold upS; rw [if_pos hj]
end Go.Proofs.Ytbkelijmdpoanaa
