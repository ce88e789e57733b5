/- Package math/bits' Len of a small number. No condition. -/
import Derived.Test.YtjbnbbblafmldaaProg
import Derived.Test.YtjbnbbblafmldaaUbaa
import Derived.WalkLawsBesides
import Derived.WalkSpells
import Derived.KernelRfl
namespace Go.Proofs.Ytjbnbbblafmldaa
open Go.RowKit
set_option linter.unusedVariables false
set_option linter.unusedSimpArgs false
set_option maxRecDepth 20000

def LnPost (w : World) (e : Ending) (w1 : World) : Prop := ∃ z, e = .returned (.int .i64 z) ∧ w = w1
set_option maxRecDepth 100000 in
theorem len64_any {w : World} {n : Nat} (hn : n ≤ 12) : Calls Try.prog 44 #[.int .u64 (n : Int)] w (LnPost w) := by
  have z1 : ¬ (4294967296 : Int) ≤ (n : Int) := by omega
  have z2 : ¬ (65536 : Int) ≤ (n : Int) := by omega
  have z3 : ¬ (256 : Int) ≤ (n : Int) := by omega
  have hu : IntKind.u8.wrap (n : Int) = (n : Int) := by rw [IntKind.wrap_u8]; omega
  go_enter Try.func44, Try.ntmps44
  go_wp2_with fail
  go_ret
  exact ⟨_, rfl, rfl⟩
theorem blen_any {w : World} {n : Nat} (hn : n ≤ 12) : Calls Try.prog 29 #[.int .u64 (n : Int)] w (LnPost w) := by
  have hw : IntKind.u64.wrap (n : Int) = (n : Int) := by rw [IntKind.wrap_u64]; omega
  have hl := len64_any (w := w) hn
  go_enter Try.func29, Try.ntmps29
  go_wp2_with fail
  refine hl.mono ?_
  rintro e w' ⟨z, rfl, rfl⟩
  go_wp2_with fail
  go_ret
  exact ⟨z, rfl, rfl⟩
end Go.Proofs.Ytjbnbbblafmldaa
