/- The Reader's other calls: bytes, a text, a shard, the rest, and whether it is done. -/
import Derived.Test.YtikegnhjnbjclaaRd
namespace Go.Proofs.Ytikegnhjnbjclaa
open Go.RowKit
set_option linter.unusedVariables false
set_option maxRecDepth 20000
set_option linter.unusedSimpArgs false

/-- What reading bytes comes to: a copy of xs. -/
def RwPost (w : World) (F : Nat → Prop) (g : Nat) (xs ys : List UInt8) (e : Ending) (w1 : World) : Prop :=
  ∃ A m c, e = .returned (.slice A m c) ∧ Own w1 w.heap.size 5 (.slice A m c) xs ∧ RdAt w1 F g ys ∧ Kp (fun b => b = g) w w1

theorem rdraw_any {w : World} {F : Nat → Prop} {g k : Nat} {xs ys : List UInt8} (h : RdAt w F g (xs ++ ys)) (hk : k = xs.length) (hl : k ≤ 900000000) :
    Calls Try.prog 55 #[.pointer (some ⟨g, 0, none⟩), .int .i64 k] w (RwPost w F g xs ys) := by
  have HK := hide hk
  clear hk
  go_enter Try.func55, Try.ntmps55
  go_wp2_with fail
  refine (take_any h HK.out (by omega)).mono ?_
  rintro e w1 ⟨A, m, c, rfl, hb, hr, hkp⟩
  go_wp2_with fail
  refine (clone_any hb (by have := HK.out; omega)).mono ?_
  rintro e w2 ⟨A1, n1, c1, rfl, ho, hk2⟩
  go_wp2
  go_ret
  exact ⟨A1, n1, c1, rfl, ho.rebase fun k hk => Nat.le_trans hkp.size (ho.ge k hk), hr.no hk2, hkp.trans (hk2.of_no _)⟩

theorem rdleft_any {w : World} {F : Nat → Prop} {g : Nat} {ys : List UInt8} (h : RdAt w F g ys) :
    Calls Try.prog 47 #[.pointer (some ⟨g, 0, none⟩)] w fun e w1 => e = .returned (.int .i64 ys.length) ∧ w = w1 := by
  obtain ⟨A, m, c, h1, h2, h3, h4, h5⟩ := h
  have hm := h2.len
  obtain ⟨L, hL⟩ : ∃ L, L = ys.length := ⟨_, rfl⟩
  rw [← hL] at hm ⊢
  subst hm
  have hc0 : w.cell? ⟨g, 0, none⟩ = some (.slice A m c) := by rw [cell_of_row w g 0 _ _ _ h1]; rfl
  have H1 := hide h1
  clear h1 hL
  go_enter Try.func47, Try.ntmps47
  go_wp2
  go_ret
  exact ⟨rfl, rfl⟩

theorem rdrest_any {w : World} {F : Nat → Prop} {g : Nat} {xs : List UInt8} (h : RdAt w F g xs) (hl : xs.length ≤ 900000000) :
    Calls Try.prog 48 #[.pointer (some ⟨g, 0, none⟩)] w (RwPost w F g xs []) := by
  have h' : RdAt w F g (xs ++ []) := by rwa [List.append_nil]
  have HL := hide hl
  clear hl
  have hlf := rdleft_any h
  obtain ⟨L, hL⟩ : ∃ L, L = xs.length := ⟨_, rfl⟩
  rw [← hL] at hlf
  have HLL := hide hL
  clear hL
  go_enter Try.func48, Try.ntmps48
  go_wp2_with fail
  refine hlf.mono ?_
  rintro e w1 ⟨rfl, rfl⟩
  clear hlf
  go_wp2_with fail
  refine (rdraw_any h' HLL.out (by have := HL.out; have := HLL.out; omega)).mono ?_
  rintro e w2 ⟨A1, n1, c1, rfl, ho, hr2, hk2⟩
  go_wp2
  go_ret
  exact ⟨A1, n1, c1, rfl, ho, hr2, hk2⟩

/-- What reading a shard comes to. -/
def ShPost (w : World) (F : Nat → Prop) (g : Nat) (o st sl gn : Nat) (ys : List UInt8) (e : Ending) (w1 : World) : Prop :=
  e = .returned (.agg #[.int .u32 o, .int .u16 st, .int .u16 sl, .int .u32 gn]) ∧ RdAt w1 F g ys ∧ Kp (fun b => b = g) w w1

theorem RdAt.g_lt {w : World} {F : Nat → Prop} {g : Nat} {bs : List UInt8} (h : RdAt w F g bs) : g < w.heap.size := by
  obtain ⟨A, m, c, h1, _⟩ := h
  exact (Array.getElem?_eq_some_iff.1 h1).1

section
variable {w w1 : World} {b : Nat} {x0 x1 x2 x3 : Value}
end
theorem RdAt.set {w : World} {F : Nat → Prop} {g b j : Nat} {bs : List UInt8} (h : RdAt w F g bs) (hb : ∀ k, F k → k ≠ b) (u : Value) : RdAt (w.setCell ⟨b, j, none⟩ u) F g bs :=
  h.keep (Kp.setCell (S := fun k => k = b) (p := ⟨b, j, none⟩) rfl u) fun k hk e => hb k hk e

end Go.Proofs.Ytikegnhjnbjclaa
