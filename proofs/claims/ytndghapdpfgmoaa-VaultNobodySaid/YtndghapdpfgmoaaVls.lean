/- The document's Less, as a contract. -/
import Derived.Test.YtndghapdpfgmoaaVcm
namespace Go.Proofs.Ytndghapdpfgmoaa
open Go.RowKit
set_option linter.unusedVariables false
set_option linter.unusedSimpArgs false
set_option maxRecDepth 20000

theorem less_yes {a b : Nat} (h : a < b) (w : World) : Calls Try.prog 17 #[shV a, shV b] w fun e w1 => e = .returned (.bool true) ∧ Kp No w w1 := by
  have hl := lt_parts (m := a) (n := b)
  unfold shV
  generalize cO a = a0 at hl ⊢
  generalize cO b = b0 at hl ⊢
  generalize cS a = a1 at hl ⊢
  generalize cS b = b1 at hl ⊢
  generalize cL a = a2 at hl ⊢
  generalize cL b = b2 at hl ⊢
  generalize cG a = a3 at hl ⊢
  generalize cG b = b3 at hl ⊢
  have k2 : Kp No w ((w.alloc (.cells #[.int .u32 (a0 : Int), .int .u16 (a1 : Int), .int .u16 (a2 : Int), .int .u32 (a3 : Int)] 26)).alloc (.cells #[.int .u32 (b0 : Int), .int .u16 (b1 : Int), .int .u16 (b2 : Int), .int .u32 (b3 : Int)] 26)) := (Kp.alloc No w _).trans' (Kp.alloc No _ _)
  have HK := hide k2
  clear k2
  by_cases e0 : a0 = b0
  · subst e0
    by_cases e1 : a1 = b1
    · subst e1
      by_cases e2 : a2 = b2
      · subst e2
        have y3 : (a3 : Int) < (b3 : Int) := by omega
        clear hl h
        go_enter Try.func17, Try.ntmps17
        go_wp2
        go_ret
        exact ⟨rfl, HK.out⟩
      · have z2 : ((a2 : Int) == (b2 : Int)) = false := by simp; omega
        have y2 : (a2 : Int) < (b2 : Int) := by omega
        clear hl h
        go_enter Try.func17, Try.ntmps17
        go_wp2
        go_ret
        exact ⟨rfl, HK.out⟩
    · have z1 : ((a1 : Int) == (b1 : Int)) = false := by simp; omega
      have y1 : (a1 : Int) < (b1 : Int) := by omega
      clear hl h
      go_enter Try.func17, Try.ntmps17
      go_wp2
      go_ret
      exact ⟨rfl, HK.out⟩
  · have z0 : ((a0 : Int) == (b0 : Int)) = false := by simp; omega
    have y0 : (a0 : Int) < (b0 : Int) := by omega
    clear hl h
    go_enter Try.func17, Try.ntmps17
    go_wp2
    go_ret
    exact ⟨rfl, HK.out⟩
theorem less_no {a b : Nat} (h : ¬ a < b) (w : World) : Calls Try.prog 17 #[shV a, shV b] w fun e w1 => e = .returned (.bool false) ∧ Kp No w w1 := by
  have hl := lt_parts (m := a) (n := b)
  unfold shV
  generalize cO a = a0 at hl ⊢
  generalize cO b = b0 at hl ⊢
  generalize cS a = a1 at hl ⊢
  generalize cS b = b1 at hl ⊢
  generalize cL a = a2 at hl ⊢
  generalize cL b = b2 at hl ⊢
  generalize cG a = a3 at hl ⊢
  generalize cG b = b3 at hl ⊢
  have k2 : Kp No w ((w.alloc (.cells #[.int .u32 (a0 : Int), .int .u16 (a1 : Int), .int .u16 (a2 : Int), .int .u32 (a3 : Int)] 26)).alloc (.cells #[.int .u32 (b0 : Int), .int .u16 (b1 : Int), .int .u16 (b2 : Int), .int .u32 (b3 : Int)] 26)) := (Kp.alloc No w _).trans' (Kp.alloc No _ _)
  have HK := hide k2
  clear k2
  by_cases e0 : a0 = b0
  · subst e0
    by_cases e1 : a1 = b1
    · subst e1
      by_cases e2 : a2 = b2
      · subst e2
        have y3 : ¬ (a3 : Int) < (b3 : Int) := by omega
        clear hl h
        go_enter Try.func17, Try.ntmps17
        go_wp2
        go_ret
        exact ⟨rfl, HK.out⟩
      · have z2 : ((a2 : Int) == (b2 : Int)) = false := by simp; omega
        have y2 : ¬ (a2 : Int) < (b2 : Int) := by omega
        clear hl h
        go_enter Try.func17, Try.ntmps17
        go_wp2
        go_ret
        exact ⟨rfl, HK.out⟩
    · have z1 : ((a1 : Int) == (b1 : Int)) = false := by simp; omega
      have y1 : ¬ (a1 : Int) < (b1 : Int) := by omega
      clear hl h
      go_enter Try.func17, Try.ntmps17
      go_wp2
      go_ret
      exact ⟨rfl, HK.out⟩
  · have z0 : ((a0 : Int) == (b0 : Int)) = false := by simp; omega
    have y0 : ¬ (a0 : Int) < (b0 : Int) := by omega
    clear hl h
    go_enter Try.func17, Try.ntmps17
    go_wp2
    go_ret
    exact ⟨rfl, HK.out⟩
end Go.Proofs.Ytndghapdpfgmoaa
