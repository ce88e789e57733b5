/- The document's watch in memory; its State and next, each as a contract. No condition. -/
import Derived.Test.YtjmahbmlocfbhaaWta
import Derived.Deep.RegionHeld3
import Derived.Deep.DeepCutAuto
namespace Go.Proofs.Ytjmahbmlocfbhaa
open Go.RowKit
set_option linter.unusedVariables false
set_option maxRecDepth 20000
set_option linter.unusedSimpArgs false

/-- The document's watch T, its ticks in the block gb. -/
def rwC (T : Wt) (gb c : Nat) : Array Value := #[.int .i64 (T.late : Int), .int .i64 (T.gone : Int), .int .i64 (T.now : Int), .int .i64 (T.ep : Int), .slice (some ⟨gb, 0, none⟩) T.hs.length c]
/-- Its ticks lie in a block from B on. -/
structure RwR (w : World) (B : Nat) (T : Wt) (gb c : Nat) : Prop where
  row : IRow w gb T.hs
  ge : B ≤ gb
  cap : T.hs.length ≤ c
  ok : T.Ok
/-- A box that holds it. -/
def BxW (w : World) (s : Nat) (T : Wt) (gb c : Nat) : Prop := w.heap[s]? = some (.cells (rwC T gb c) 31 (0, 0))
def rwZ : Array Value := #[.int .i64 0, .int .i64 0, .int .i64 0, .int .i64 0, .slice none 0 0]
def BxY (w : World) (s : Nat) : Prop := w.heap[s]? = some (.cells rwZ 31 (0, 0))
section
variable {w w1 : World} {S : Nat → Prop} {B s gb c : Nat} {T T' : Wt}
theorem RwR.keep (h : RwR w B T gb c) (hk : Kp S w w1) (hS : ¬ S gb) : RwR w1 B T gb c := ⟨h.row.keep hk hS, h.ge, h.cap, h.ok⟩
theorem RwR.no (h : RwR w B T gb c) (hk : Kp No w w1) : RwR w1 B T gb c := h.keep hk fun f => f
theorem RwR.next (h : RwR w B T' gb c) (T : Wt) : RwR w B (T.next T') gb c := ⟨h.row, h.ge, h.cap, Wt.next_ok h.ok⟩
theorem BxW.lt (h : BxW w s T gb c) : s < w.heap.size := (Array.getElem?_eq_some_iff.1 h).1
theorem BxW.keep (h : BxW w s T gb c) (hk : Kp S w w1) (hS : ¬ S s) : BxW w1 s T gb c := (hk.block s h.lt hS).trans h
theorem BxW.no (h : BxW w s T gb c) (hk : Kp No w w1) : BxW w1 s T gb c := h.keep hk fun f => f
theorem BxW.c0 (h : BxW w s T gb c) : w.cell? ⟨s, 0, none⟩ = some (.int .i64 (T.late : Int)) := by rw [cell_of_row w s 0 _ _ _ h]; rfl
theorem BxW.c1 (h : BxW w s T gb c) : w.cell? ⟨s, 1, none⟩ = some (.int .i64 (T.gone : Int)) := by rw [cell_of_row w s 1 _ _ _ h]; rfl
theorem BxW.c2 (h : BxW w s T gb c) : w.cell? ⟨s, 2, none⟩ = some (.int .i64 (T.now : Int)) := by rw [cell_of_row w s 2 _ _ _ h]; rfl
theorem BxW.c3 (h : BxW w s T gb c) : w.cell? ⟨s, 3, none⟩ = some (.int .i64 (T.ep : Int)) := by rw [cell_of_row w s 3 _ _ _ h]; rfl
theorem BxW.c4 (h : BxW w s T gb c) : w.cell? ⟨s, 4, none⟩ = some (.slice (some ⟨gb, 0, none⟩) T.hs.length c) := by rw [cell_of_row w s 4 _ _ _ h]; rfl
theorem BxW.fz (h : BxW w s T gb c) (j : Nat) : w.frozen? ⟨s, j, none⟩ = false := frozen_of_row w s j _ _ h
theorem BxW.new (w : World) (T : Wt) (gb c : Nat) : BxW (w.alloc (.cells (rwC T gb c) 31)) w.heap.size T gb c := heap_alloc_new w _
theorem BxW.setEp (h : BxW w s T gb c) (n : Nat) : BxW (w.setCell ⟨s, 3, none⟩ (.int .i64 (n : Int))) s ⟨T.late, T.gone, T.hs, T.now, n⟩ gb c := heap_setCell_same w s 3 _ _ _ h
theorem BxY.new (w : World) : BxY (w.alloc (.cells rwZ 31)) w.heap.size := heap_alloc_new w _
theorem BxY.lt (h : BxY w s) : s < w.heap.size := (Array.getElem?_eq_some_iff.1 h).1
theorem BxY.keep (h : BxY w s) (hk : Kp S w w1) (hS : ¬ S s) : BxY w1 s := (hk.block s h.lt hS).trans h
theorem BxY.no (h : BxY w s) (hk : Kp No w w1) : BxY w1 s := h.keep hk fun f => f
theorem BxY.z0 (h : BxY w s) : w.cell? ⟨s, 0, none⟩ = some (.int .i64 0) := by rw [cell_of_row w s 0 _ _ _ h]; rfl
theorem BxY.z1 (h : BxY w s) : w.cell? ⟨s, 1, none⟩ = some (.int .i64 0) := by rw [cell_of_row w s 1 _ _ _ h]; rfl
theorem BxY.z2 (h : BxY w s) : w.cell? ⟨s, 2, none⟩ = some (.int .i64 0) := by rw [cell_of_row w s 2 _ _ _ h]; rfl
theorem BxY.z3 (h : BxY w s) : w.cell? ⟨s, 3, none⟩ = some (.int .i64 0) := by rw [cell_of_row w s 3 _ _ _ h]; rfl
theorem BxY.z4 (h : BxY w s) : w.cell? ⟨s, 4, none⟩ = some (.slice none 0 0) := by rw [cell_of_row w s 4 _ _ _ h]; rfl
theorem BxY.fz (h : BxY w s) (j : Nat) : w.frozen? ⟨s, j, none⟩ = false := frozen_of_row w s j _ _ h
theorem set5 {cs : Array Value} {a b cc d e : Value} (h : w.heap[s]? = some (.cells #[a, b, cc, d, e] 31 (0, 0))) (T : Wt) (gb c : Nat) :
    BxW (((((w.setCell ⟨s, 0, none⟩ (.int .i64 (T.late : Int))).setCell ⟨s, 1, none⟩ (.int .i64 (T.gone : Int))).setCell ⟨s, 2, none⟩ (.int .i64 (T.now : Int))).setCell ⟨s, 3, none⟩ (.int .i64 (T.ep : Int))).setCell ⟨s, 4, none⟩ (.slice (some ⟨gb, 0, none⟩) T.hs.length c)) s T gb c :=
  heap_setCell_same _ s 4 _ _ _ (heap_setCell_same _ s 3 _ _ _ (heap_setCell_same _ s 2 _ _ _ (heap_setCell_same _ s 1 _ _ _ (heap_setCell_same w s 0 _ _ _ h))))
theorem kp_set5 (w : World) (t : Nat) (u0 u1 u2 u3 u4 : Value) : Kp (fun k => k = t) w (((((w.setCell ⟨t, 0, none⟩ u0).setCell ⟨t, 1, none⟩ u1).setCell ⟨t, 2, none⟩ u2).setCell ⟨t, 3, none⟩ u3).setCell ⟨t, 4, none⟩ u4) :=
  ((((Kp.setCell (p := ⟨t, 0, none⟩) (S := fun k => k = t) rfl u0).trans' (Kp.setCell (p := ⟨t, 1, none⟩) (S := fun k => k = t) rfl u1)).trans' (Kp.setCell (p := ⟨t, 2, none⟩) (S := fun k => k = t) rfl u2)).trans' (Kp.setCell (p := ⟨t, 3, none⟩) (S := fun k => k = t) rfl u3)).trans' (Kp.setCell (p := ⟨t, 4, none⟩) (S := fun k => k = t) rfl u4)
end

section
variable {w : World} {B gb c gb' c' : Nat} {T T' : Wt}
set_option maxHeartbeats 2000000 in
theorem rstate_any (h : RwR w B T gb c) (z : Int) : Calls Try.prog 16 #[.agg (rwC T gb c), .int .i64 z] w fun e w1 => e = .returned (.int .i64 (T.st z : Int)) ∧ Kp No w w1 := by
  by_cases hz : T.In z
  · obtain ⟨k, rfl⟩ : ∃ k : Nat, z = k := ⟨z.toNat, by have := hz.1; omega⟩
    have hk : k < T.hs.length := by have := hz.2; omega
    obtain ⟨x, hx⟩ : ∃ x, T.hs[k]? = some x := ⟨_, List.getElem?_eq_getElem hk⟩
    have hxn := h.ok.heard hx
    have htk := h.ok.tk
    have hs : T.st (k : Int) = T.by_ (T.now - x) := by rw [T.st_nat, T.stN_in hx]
    obtain ⟨d, hdx⟩ : ∃ d, T.now = x + d := Nat.exists_eq_add_of_le hxn
    have hsub : T.now - x = d := by rw [hdx]; exact Nat.add_sub_cancel_left ..
    rw [hsub] at hs
    have hw : (T.now : Int) - (x : Int) = (d : Int) := by omega
    have hwr : IntKind.i64.wrap (d : Int) = (d : Int) := IntWalk.i64_in _ (by omega)
    have hb := BxW.new w T gb c
    have xk : (w.alloc (.cells (rwC T gb c) 31)).cell? ⟨gb, k, none⟩ = some (.int .i64 (x : Int)) := (h.row.no (Kp.alloc No w _)).cell hx
    have HK := hide (Kp.alloc No w (.cells (rwC T gb c) 31))
    have HS := hide hs
    have HD := hide hdx
    clear h hz hs hsub hx hdx hxn htk
    unfold rwC at *
    go_enter Try.func16, Try.ntmps16
    go_wp2_with fail
    have x0 := hb.c0
    have x1 := hb.c1
    have x2 := hb.c2
    have x4 := hb.c4
    clear hb
    generalize w.alloc (.cells #[.int .i64 (T.late : Int), .int .i64 (T.gone : Int), .int .i64 (T.now : Int), .int .i64 (T.ep : Int), .slice (some ⟨gb, 0, none⟩) T.hs.length c] 31) = w2 at HK x0 x1 x2 x4 xk ⊢
    have y0 : w2.drew.cell? ⟨w.heap.size, 0, none⟩ = some (.int .i64 (T.late : Int)) := x0
    have y1 : w2.drew.cell? ⟨w.heap.size, 1, none⟩ = some (.int .i64 (T.gone : Int)) := x1
    have y2 : w2.drew.cell? ⟨w.heap.size, 2, none⟩ = some (.int .i64 (T.now : Int)) := x2
    have y4 : w2.drew.cell? ⟨w.heap.size, 4, none⟩ = some (.slice (some ⟨gb, 0, none⟩) T.hs.length c) := x4
    have yk : w2.drew.cell? ⟨gb, k, none⟩ = some (.int .i64 (x : Int)) := xk
    have v0 : w2.drew.drew.cell? ⟨w.heap.size, 0, none⟩ = some (.int .i64 (T.late : Int)) := x0
    have v2 : w2.drew.drew.cell? ⟨w.heap.size, 2, none⟩ = some (.int .i64 (T.now : Int)) := x2
    have v4 : w2.drew.drew.cell? ⟨w.heap.size, 4, none⟩ = some (.slice (some ⟨gb, 0, none⟩) T.hs.length c) := x4
    have vk : w2.drew.drew.cell? ⟨gb, k, none⟩ = some (.int .i64 (x : Int)) := xk
    generalize w.heap.size = s at x0 x1 x2 x4 y0 y1 y2 y4 v0 v2 v4 ⊢
    by_cases hg : T.gone ≤ d
    · have e : T.by_ d = 2 := by unfold Wt.by_; rw [if_pos hg]
      have HE := hide e
      clear e
      go_wp2_with fail
      go_quiet (fail)
      go_wp2_with fail
      go_ret
      exact ⟨by rw [HS.out, HE.out]; rfl, HK.out.drewN _⟩
    by_cases hl : T.late ≤ d
    · have e : T.by_ d = 1 := by unfold Wt.by_; rw [if_neg hg, if_pos hl]
      have HE := hide e
      clear e
      go_wp2_with fail
      go_quiet (fail)
      go_wp2_with fail
      go_quiet (fail)
      go_wp2_with fail
      go_ret
      exact ⟨by rw [HS.out, HE.out]; rfl, (HK.out.drewN _).drewN _⟩
    · have e : T.by_ d = 0 := by unfold Wt.by_; rw [if_neg hg, if_neg hl]
      have HE := hide e
      clear e
      go_wp2_with fail
      go_quiet (fail)
      go_wp2_with fail
      go_quiet (fail)
      go_wp2_with fail
      go_ret
      exact ⟨by rw [HS.out, HE.out]; rfl, (HK.out.drewN _).drewN _⟩
  · have hs := T.st_out hz
    have hb := BxW.new w T gb c
    have HK := hide (Kp.alloc No w (.cells (rwC T gb c) 31))
    have HS := hide hs
    have hz2 : z < 0 ∨ (T.hs.length : Int) ≤ z := by unfold Wt.In at hz; omega
    clear h hz hs
    unfold rwC at *
    rcases hz2 with hz2 | hz2
    · go_enter Try.func16, Try.ntmps16
      go_wp2_with fail
      go_ret
      exact ⟨by rw [HS.out]; rfl, HK.out⟩
    · have hz3 : ¬ z < 0 := by omega
      have x4 := hb.c4
      clear hb
      go_enter Try.func16, Try.ntmps16
      go_wp2_with fail
      go_ret
      exact ⟨by rw [HS.out]; rfl, HK.out⟩
end
end Go.Proofs.Ytjmahbmlocfbhaa
