/- How two jobs compare: package urgent's compare, the document's Less. No condition. -/
import Derived.Shelf.SlSortCmp.NoneTotal
import Derived.Test.YtjbnbbblafmldaaUbai
import Derived.Test.YtjbnbbblafmldaaUbac
import Derived.Deep.RegionHeld3
namespace Go.Proofs.Ytjbnbbblafmldaa
open Go.RowKit
set_option linter.unusedVariables false
set_option linter.unusedSimpArgs false
set_option maxRecDepth 20000

theorem cmpI_lt {a b : Int} (h : a < b) : cmpI a b = -1 := by unfold cmpI; rw [if_pos h]
theorem cmpI_eq {a b : Int} (h : a = b) : cmpI a b = 0 := by unfold cmpI; rw [if_neg (by omega), if_neg (by omega)]
theorem cmpI_gt {a b : Int} (h : b < a) : cmpI a b = 1 := by unfold cmpI; rw [if_neg (by omega), if_pos h]
theorem ujob_parts (a b : Nat) : orZ [cmpI (jG a) (jG b), cmpN (jO a) (jO b), cmpN (jS a) (jS b)] = cmpN a b := by
  have h1 := lt_job (x := a) (y := b)
  have h2 := lt_job (x := b) (y := a)
  have hne : jG a = jG b → jO a = jO b → jS a = jS b → a = b := j_inj
  simp only [orZ]
  generalize jG a = a0 at *
  generalize jG b = b0 at *
  generalize jO a = a1 at *
  generalize jO b = b1 at *
  generalize jS a = a2 at *
  generalize jS b = b2 at *
  rcases Int.lt_trichotomy a0 b0 with h | h | h
  · rw [cmpI_lt h, if_neg (by omega), cmpN_lt (by omega)]
  · rw [cmpI_eq h, if_pos rfl]
    rcases Nat.lt_trichotomy a1 b1 with g | g | g
    · rw [cmpN_lt g, if_neg (by omega), cmpN_lt (by omega)]
    · rw [cmpN_eq g, if_pos rfl]
      rcases Nat.lt_trichotomy a2 b2 with k | k | k
      · rw [cmpN_lt k, if_neg (by omega), cmpN_lt (by omega)]
      · rw [cmpN_eq k, if_pos rfl, cmpN_eq (hne h g k)]
      · rw [cmpN_gt k, if_neg (by omega), cmpN_gt (by omega)]
    · rw [cmpN_gt g, if_neg (by omega), cmpN_gt (by omega)]
  · rw [cmpI_gt h, if_neg (by omega), cmpN_gt (by omega)]
/-- Draws and new blocks. -/
def LdsU (w w1 : World) : Prop := ∃ q os, w1 = Sort.grow (w.drewN q) os
section
variable {w w1 : World}
theorem LdsU.refl (w : World) : LdsU w w := ⟨0, #[], by simp [Sort.grow, World.drewN]⟩
theorem LdsU.alloc (h : LdsU w w1) (o : Obj) : LdsU w (w1.alloc o) := by
  obtain ⟨q, os, rfl⟩ := h
  exact ⟨q, os.push o, by simp [World.alloc, Sort.grow]⟩
theorem LdsU.drew (h : LdsU w w1) : LdsU w w1.drew := by
  obtain ⟨q, os, rfl⟩ := h
  exact ⟨q + 1, os, by simp [World.drew, World.drewN, Sort.grow, Nat.add_assoc]⟩
theorem LdsU.kp (h : LdsU w w1) : Kp No w w1 := by
  obtain ⟨q, os, rfl⟩ := h
  exact ⟨rfl, rfl, rfl, by simp [Sort.grow, World.drewN], fun k hk _ => Sort.heap_grow_old _ os (by exact hk)⟩
end
theorem three_ints (w : World) (t : TypeId) (x0 x1 x2 : Int) : ∀ k, k < 3 → (w.alloc (.cells #[.int .i64 x0, .int .i64 x1, .int .i64 x2] t)).drew.cell? ⟨w.heap.size, k, none⟩ = some (.int .i64 ([x0, x1, x2].getD k 0)) := fun k hk => by
  obtain ⟨h0, h1, h2⟩ := (Bx3.new w t (.int .i64 x0) (.int .i64 x1) (.int .i64 x2)).cell
  match k, hk with
  | 0, _ => exact h0
  | 1, _ => exact h1
  | 2, _ => exact h2
  | k + 3, hk => omega
theorem or_three (w : World) (A B : Obj) (t : TypeId) (x0 x1 x2 : Int) : Calls Try.prog 30 #[.slice (some ⟨w.heap.size + 1 + 1, 0, none⟩) 3 3] (((w.alloc A).alloc B).alloc (.cells #[.int .i64 x0, .int .i64 x1, .int .i64 x2] t)).drew fun e w1 => e = .returned (.int .i64 (orZ [x0, x1, x2])) ∧ (((w.alloc A).alloc B).alloc (.cells #[.int .i64 x0, .int .i64 x1, .int .i64 x2] t)).drew = w1 :=
  cmpor_any (N := 3) (l := [x0, x1, x2]) rfl (by
    have h := three_ints ((w.alloc A).alloc B) t x0 x1 x2
    rw [show ((w.alloc A).alloc B).heap.size = w.heap.size + 1 + 1 by simp] at h
    exact h) (by omega)
/-- Two boxes of three cells, one behind the other. -/
theorem two3 (w : World) (t s : TypeId) (x0 x1 x2 y0 y1 y2 : Value) : Bx3 t ((w.alloc (.cells #[x0, x1, x2] t)).alloc (.cells #[y0, y1, y2] s)) w.heap.size x0 x1 x2 ∧ Bx3 s ((w.alloc (.cells #[x0, x1, x2] t)).alloc (.cells #[y0, y1, y2] s)) (w.heap.size + 1) y0 y1 y2 := by
  refine ⟨(Bx3.new w t x0 x1 x2).no (Kp.alloc No _ _), ?_⟩
  have h := Bx3.new (w.alloc (.cells #[x0, x1, x2] t)) s y0 y1 y2
  rw [show (w.alloc (.cells #[x0, x1, x2] t)).heap.size = w.heap.size + 1 by simp] at h
  exact h
set_option maxHeartbeats 4000000 in
theorem ucompare_lays (w : World) (a b : Nat) : Calls Try.prog 24 #[jbV a, jbV b] w fun e w1 => e = .returned (.int .i64 (cmpN a b)) ∧ LdsU w w1 := by
  have hp := hide (ujob_parts a b)
  unfold jbV
  generalize jG a = a0 at hp ⊢
  generalize jG b = b0 at hp ⊢
  generalize jO a = a1 at hp ⊢
  generalize jO b = b1 at hp ⊢
  generalize jS a = a2 at hp ⊢
  generalize jS b = b2 at hp ⊢
  go_enter Try.func24, Try.ntmps24
  go_wp2_with fail
  obtain ⟨HP, HQ⟩ := two3 w 36 36 (.int .u32 a1) (.int .u16 a2) (.int .i64 a0) (.int .u32 b1) (.int .u16 b2) (.int .i64 b0)
  obtain ⟨p0, p1, p2⟩ := HP.cell
  obtain ⟨q0, q1, q2⟩ := HQ.cell
  go_region_held3 (fun w' => w'.cell? ⟨w.heap.size, 0, none⟩ = some (.int .u32 a1) ∧ w'.cell? ⟨w.heap.size, 1, none⟩ = some (.int .u16 a2) ∧ w'.cell? ⟨w.heap.size, 2, none⟩ = some (.int .i64 a0) ∧
      w'.cell? ⟨w.heap.size + 1, 0, none⟩ = some (.int .u32 b1) ∧ w'.cell? ⟨w.heap.size + 1, 1, none⟩ = some (.int .u16 b2) ∧ w'.cell? ⟨w.heap.size + 1, 2, none⟩ = some (.int .i64 b0)) (first | assumption | go_keep)
    (first
      | (go_at_call 31; ((with_reducible refine (cmp_i64 _ a0 b0).mono ?_); rintro e w1 ⟨rfl, rfl⟩))
      | (go_at_call 32; ((with_reducible refine (cmp_u32 _ a1 b1).mono ?_); rintro e w1 ⟨rfl, rfl⟩))
      | (go_at_call 33; ((with_reducible refine (cmp_u16 _ a2 b2).mono ?_); rintro e w1 ⟨rfl, rfl⟩))
      | (go_at_call 30; ((with_reducible refine (or_three _ _ _ _ _ _ _).mono ?_); rintro e w1 ⟨rfl, rfl⟩)))
  go_wp2
  go_ret
  exact ⟨ret_int hp.out, (((LdsU.refl w).alloc _ |>.alloc _).drew).alloc _⟩
theorem ucompare_any (w : World) (a b : Nat) : Calls Try.prog 24 #[jbV a, jbV b] w fun e w1 => e = .returned (.int .i64 (cmpN a b)) ∧ Kp No w w1 :=
  (ucompare_lays w a b).mono fun e w1 h => ⟨h.1, h.2.kp⟩
theorem ret_bu {a b : Bool} (h : a = b) : Ending.returned (.bool a) = .returned (.bool b) := by rw [h]
/-- The document's Less. -/
theorem rless_any (w : World) (a b : Nat) : Calls Try.prog 21 #[jbV a, jbV b] w fun e w1 => e = .returned (.bool (decide (a < b))) ∧ Kp No w w1 := by
  have h1 := lt_job (x := a) (y := b)
  unfold jbV
  rcases Int.lt_trichotomy (jG a) (jG b) with h | h | h
  · have hd : Hid (true = decide (a < b)) := (decide_eq_true (h1.2 (.inl h))).symm
    clear h1
    have ht : (jG a != jG b) = true := by simp; omega
    generalize jG a = a0 at *
    generalize jG b = b0 at *
    go_enter Try.func21, Try.ntmps21
    go_wp2
    go_ret
    exact ⟨ret_bu hd.out, (Kp.alloc No w _).trans' (Kp.alloc No _ _)⟩
  · rcases Nat.lt_trichotomy (jO a) (jO b) with g | g | g
    · have hd : Hid (true = decide (a < b)) := (decide_eq_true (h1.2 (.inr ⟨h, .inl g⟩))).symm
      clear h1
      have ht : ((jO a : Int) != (jO b : Int)) = true := by simp; omega
      have hz : (jO a : Int) < jO b := by omega
      rw [h]
      generalize jG b = b0 at *
      generalize jO a = a1 at *
      generalize jO b = b1 at *
      go_enter Try.func21, Try.ntmps21
      go_wp2
      go_ret
      exact ⟨ret_bu hd.out, (Kp.alloc No w _).trans' (Kp.alloc No _ _)⟩
    · have hd : Hid (decide (jS a < jS b) = decide (a < b)) := decide_eq_decide.2 (by rw [h1]; omega)
      clear h1
      rw [h, g]
      clear h g
      generalize jG b = b0 at *
      generalize jO b = b1 at *
      generalize jS a = a2 at *
      generalize jS b = b2 at *
      go_enter Try.func21, Try.ntmps21
      go_wp2
      go_ret
      exact ⟨ret_bu hd.out, (Kp.alloc No w _).trans' (Kp.alloc No _ _)⟩
    · have hd : Hid (false = decide (a < b)) := (decide_eq_false (fun e => by have := h1.1 e; omega)).symm
      clear h1
      have ht : ((jO a : Int) != (jO b : Int)) = true := by simp; omega
      have hz : ¬ (jO a : Int) < jO b := by omega
      rw [h]
      generalize jG b = b0 at *
      generalize jO a = a1 at *
      generalize jO b = b1 at *
      go_enter Try.func21, Try.ntmps21
      go_wp2
      go_ret
      exact ⟨ret_bu hd.out, (Kp.alloc No w _).trans' (Kp.alloc No _ _)⟩
  · have hd : Hid (false = decide (a < b)) := (decide_eq_false (fun e => by have := h1.1 e; omega)).symm
    clear h1
    have ht : (jG a != jG b) = true := by simp; omega
    have hz : ¬ jG a < jG b := by omega
    generalize jG a = a0 at *
    generalize jG b = b0 at *
    go_enter Try.func21, Try.ntmps21
    go_wp2
    go_ret
    exact ⟨ret_bu hd.out, (Kp.alloc No w _).trans' (Kp.alloc No _ _)⟩
end Go.Proofs.Ytjbnbbblafmldaa
