/- Package pack's Reader where bytes are missing: it is torn behind a shard's name. -/
import Derived.Test.YtikegnhjnbjclaaRd2
import Derived.Test.YtikegnhjnbjclaaSee
namespace Go.Proofs.Ytikegnhjnbjclaa
open Go.RowKit
set_option linter.unusedVariables false
set_option linter.unusedSimpArgs false
set_option maxRecDepth 20000

/-- At block g lies a Reader, torn or not, that has bs left. -/
def RdQ (w : World) (F : Nat → Prop) (g : Nat) (bs : List UInt8) (tb : Bool) : Prop :=
  ∃ A m c, w.heap[g]? = some (.cells #[.slice A m c, .bool tb] 98 (0, 0)) ∧ Bts w (.slice A m c) bs ∧ m ≤ c ∧ F g ∧ ∀ k, (Value.slice A m c).ownBlock = some k → F k ∧ k ≠ g
section
variable {w w1 : World} {F S : Nat → Prop} {g : Nat} {bs : List UInt8} {tb : Bool}
theorem RdAt.q (h : RdAt w F g bs) : RdQ w F g bs false := h
theorem RdQ.at_ (h : RdQ w F g bs false) : RdAt w F g bs := h
theorem RdQ.keep (h : RdQ w F g bs tb) (hk : Kp S w w1) (hS : ∀ k, F k → ¬ S k) : RdQ w1 F g bs tb := by
  obtain ⟨A, m, c, h1, h2, h3, h4, h5⟩ := h
  exact ⟨A, m, c, (hk.block g (Array.getElem?_eq_some_iff.1 h1).1 (hS g h4)).trans h1, h2.keep hk fun k hk' => hS k (h5 k hk').1, h3, h4, h5⟩
theorem RdQ.no (h : RdQ w F g bs tb) (hk : Kp No w w1) : RdQ w1 F g bs tb := h.keep hk fun _ _ f => f
theorem RdQ.g_lt (h : RdQ w F g bs tb) : g < w.heap.size := by
  obtain ⟨A, m, c, h1, _⟩ := h
  exact (Array.getElem?_eq_some_iff.1 h1).1
theorem RdQ.set {b j : Nat} (h : RdQ w F g bs tb) (hb : ∀ k, F k → k ≠ b) (u : Value) : RdQ (w.setCell ⟨b, j, none⟩ u) F g bs tb :=
  h.keep (Kp.setCell (S := fun k => k = b) (p := ⟨b, j, none⟩) rfl u) fun k hk e => hb k hk e
end
theorem taket_any {w : World} {F : Nat → Prop} {g k : Nat} {bs : List UInt8} {tb : Bool} (h : RdQ w F g bs tb) (hk : bs.length < k) (hl : k ≤ 8) :
    Calls Try.prog 54 #[.pointer (some ⟨g, 0, none⟩), .int .i64 k] w fun e w1 => e = .returned (.slice none 0 0) ∧ RdQ w1 F g [] true ∧ Kp (fun b => b = g) w w1 := by
  obtain ⟨A, m, c, h1, h2, h3, h4, h5⟩ := h
  have hm : m = bs.length := h2.len
  have hkm : (m : Int) < k := by omega
  have hneg : decide ((k : Int) < 0) = false := by simp
  have hc0 : w.cell? ⟨g, 0, none⟩ = some (.slice A m c) := by rw [cell_of_row w g 0 _ _ _ h1]; rfl
  have hf0 : w.frozen? ⟨g, 0, none⟩ = false := frozen_of_row w g 0 _ _ h1
  have b1 : (w.setCell ⟨g, 0, none⟩ (.slice none 0 0)).heap[g]? = some (.cells #[.slice none 0 0, .bool tb] 98 (0, 0)) := heap_setCell_same w g 0 _ 98 (.slice none 0 0) h1
  have hc1 : (w.setCell ⟨g, 0, none⟩ (.slice none 0 0)).cell? ⟨g, 1, none⟩ = some (.bool tb) := by rw [cell_of_row _ g 1 _ _ _ b1]; rfl
  have hf1 : (w.setCell ⟨g, 0, none⟩ (.slice none 0 0)).frozen? ⟨g, 1, none⟩ = false := frozen_of_row _ g 1 _ _ b1
  have b2 := heap_setCell_same _ g 1 _ 98 (.bool true) b1
  have HB := hide b2
  clear h1 b1 b2
  go_enter Try.func54, Try.ntmps54
  go_wp2_with fail
  go_ret
  exact ⟨rfl, ⟨none, 0, 0, HB.out, Bts.nil _, Nat.le_refl _, h4, fun k hk' => by cases hk'⟩, (Kp.setCell (S := fun b => b = g) (p := ⟨g, 0, none⟩) rfl _).trans' (Kp.setCell (S := fun b => b = g) (p := ⟨g, 1, none⟩) rfl _)⟩
/-- What reading a number comes to, torn or not. -/
def NqPost (w : World) (F : Nat → Prop) (g : Nat) (bs : List UInt8) (tb : Bool) (k : Nat) (e : Ending) (w1 : World) : Prop :=
  ∃ (x : Nat) (bs' : List UInt8) (tb' : Bool), e = .returned (.int .u64 (x : Int)) ∧ RdQ w1 F g bs' tb' ∧ bs'.length = bs.length - k ∧ (tb' = true ↔ (tb = true ∨ bs.length < k)) ∧ (tb' = false ∨ bs' = []) ∧ Kp (fun b => b = g) w w1
theorem numz_any {w : World} {F : Nat → Prop} {g k : Nat} {bs : List UInt8} {tb : Bool} (h : RdQ w F g bs tb) (hk : bs.length < k) (hl : k ≤ 8) :
    Calls Try.prog 46 #[.pointer (some ⟨g, 0, none⟩), .int .i64 k] w fun e w1 => e = .returned (.int .u64 0) ∧ RdQ w1 F g [] true ∧ Kp (fun b => b = g) w w1 := by
  have HK := hide hk
  clear hk
  have hk8 : ¬ (8 : Int) < k := by omega
  go_enter Try.func46, Try.ntmps46
  go_wp2_with fail
  refine (taket_any h HK.out hl).mono ?_
  rintro e w1 ⟨rfl, hr, hkp⟩
  go_wp2_with fail
  go_loop [5, 14] (fun s i => i = .int .i64 0 ∧ s = .int .u64 0) (fun _ i => 0)
  case atStart => exact ⟨rfl, rfl⟩
  case round =>
    obtain ⟨rfl, rfl⟩ := hrel
    go_wp2
    go_ret
    exact ⟨rfl, hr, hkp⟩
theorem numt_any {w : World} {F : Nat → Prop} {g k : Nat} {bs : List UInt8} {tb : Bool} (h : RdQ w F g bs tb) (hk : bs.length < k) (hl : k ≤ 8) :
    Calls Try.prog 46 #[.pointer (some ⟨g, 0, none⟩), .int .i64 k] w (NqPost w F g bs tb k) :=
  (numz_any h hk hl).mono fun e w1 ⟨h1, h2, h3⟩ => ⟨0, [], true, h1, h2, by simp; omega, by simp [hk], .inr rfl, h3⟩
theorem numq_any {w : World} {F : Nat → Prop} {g k : Nat} {bs : List UInt8} {tb : Bool} (h : RdQ w F g bs tb) (ht : tb = false ∨ bs = []) (h1 : 1 ≤ k) (hl : k ≤ 8) :
    Calls Try.prog 46 #[.pointer (some ⟨g, 0, none⟩), .int .i64 k] w (NqPost w F g bs tb k) := by
  rcases Nat.lt_or_ge bs.length k with hk | hk
  · exact numt_any h hk hl
  · rcases ht with rfl | rfl
    · have h' : RdAt w F g (bs.take k ++ bs.drop k) := by rw [List.take_append_drop]; exact h.at_
      refine (rdnum_any k (by rw [List.length_take]; omega) hl h').mono ?_
      rintro e w1 ⟨rfl, hr, hk'⟩
      exact ⟨_, _, false, rfl, hr.q, by simp, by simp; exact hk, .inl rfl, hk'⟩
    · simp at hk; omega
end Go.Proofs.Ytikegnhjnbjclaa
