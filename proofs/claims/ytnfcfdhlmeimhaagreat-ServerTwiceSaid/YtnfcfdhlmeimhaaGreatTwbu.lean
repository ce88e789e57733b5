/- Package math/bits' Len of a small number; package slices' sorts of few names; package vault's List, as contracts over memory. -/
import Derived.Test.YtnfcfdhlmeimhaaGreatTwbt
import Derived.Test.YtnfcfdhlmeimhaaGreatTway
namespace Go.Proofs.YtnfcfdhlmeimhaaGreat
open Go.RowKit
set_option linter.unusedVariables false
set_option linter.unusedSimpArgs false
set_option maxRecDepth 20000

def LnPost (w : World) (e : Ending) (w1 : World) : Prop := ∃ z, e = .returned (.int .i64 z) ∧ w = w1
set_option maxRecDepth 100000 in
theorem len64_any {w : World} {n : Nat} (hn : n ≤ 12) : Calls Tryz.prog 131 #[.int .u64 (n : Int)] w (LnPost w) := by
  have z1 : ¬ (4294967296 : Int) ≤ (n : Int) := by omega
  have z2 : ¬ (65536 : Int) ≤ (n : Int) := by omega
  have z3 : ¬ (256 : Int) ≤ (n : Int) := by omega
  have hu : IntKind.u8.wrap (n : Int) = (n : Int) := by rw [IntKind.wrap_u8]; omega
  go_enter Tryz.func131, Tryz.ntmps131
  go_wp2_with fail
  go_ret
  exact ⟨_, rfl, rfl⟩
theorem blen_any {w : World} {n : Nat} (hn : n ≤ 12) : Calls Tryz.prog 96 #[.int .u64 (n : Int)] w (LnPost w) := by
  have hw : IntKind.u64.wrap (n : Int) = (n : Int) := by rw [IntKind.wrap_u64]; omega
  have hl := len64_any (w := w) hn
  go_enter Tryz.func96, Tryz.ntmps96
  go_wp2_with fail
  refine hl.mono ?_
  rintro e w' ⟨z, rfl, rfl⟩
  go_wp2_with fail
  go_ret
  exact ⟨z, rfl, rfl⟩
/-- The same of no names. -/
theorem insort0 (w : World) : Calls Tryz.prog 122 #[.slice none 0 0, .int .i64 0, .int .i64 0, cmpV] w fun e w1 => e = .returned (.tuple #[]) ∧ w = w1 := by
  unfold cmpV
  go_enter Tryz.func122, Tryz.ntmps122
  go_wp2_with fail
  go_loopw [8] (fun iv wr => iv = .int .i64 1 ∧ w = wr) (fun _ _ => 0)
  case atStart => exact ⟨by go_num, rfl⟩
  case round =>
    obtain ⟨rfl, rfl⟩ := hrel
    go_wp2_with fail
    go_end0
    exact ⟨rfl, rfl⟩
theorem pdq0 (w : World) (z : Int) : Calls Tryz.prog 95 #[.slice none 0 0, .int .i64 0, .int .i64 0, .int .i64 z, cmpV] w fun e w1 => e = .returned (.tuple #[]) ∧ w = w1 := by
  have hi := insort0 w
  unfold cmpV at hi ⊢
  go_enter Tryz.func95, Tryz.ntmps95
  go_wp2_with fail
  go_loopw [1, 2] (fun av bv wr => av = .int .i64 0 ∧ bv = .int .i64 0 ∧ w = wr) (fun _ _ _ => 0)
  case atStart => exact ⟨rfl, rfl, rfl⟩
  case round =>
    obtain ⟨rfl, rfl, rfl⟩ := hrel
    go_wp2_with fail
    refine hi.mono ?_
    rintro e w1 ⟨rfl, rfl⟩
    go_wp2_with fail
    refine bodyPost_ret (results_none rfl _ _ _) rfl ?_
    exact ⟨rfl, rfl⟩
theorem sortf0 (w : World) : Calls Tryz.prog 53 #[.slice none 0 0, cmpV] w fun e w1 => e = .returned (.tuple #[]) ∧ w = w1 := by
  have hp := pdq0 w
  have hb := blen_any (w := w) (n := 0) (by omega)
  unfold cmpV at hp ⊢
  go_enter Tryz.func53, Tryz.ntmps53
  go_wp2_with fail
  refine hb.mono ?_
  rintro e w' ⟨z, rfl, rfl⟩
  go_wp2_with fail
  refine (hp z).mono ?_
  rintro e w1 ⟨rfl, rfl⟩
  go_wp2_with fail
  go_end0
  exact ⟨rfl, rfl⟩
theorem left_kp {S : Nat → Prop} {w w1 : World} {b r : Nat} (hk : Kp S w w1) (hb : ¬ S b) (hr : ¬ S r) (lb : b < w.heap.size) (lr : r < w.heap.size) : w1.rangeLeft b r = w.rangeLeft b r := by
  unfold World.rangeLeft
  rw [hk.block b lb hb, hk.block r lr hr]
/-- The names gone through so far. -/
structure VlI (w : World) (b : Nat) (L : List (Nat × Nat)) (A : Option Addr) (n c : Nat) (wr : World) : Prop where
  ex : ∃ dn left, RgAt wr b w.heap.size L dn left ∧ OwnT wr (w.heap.size + 1) 53 4 (.slice A n c) n (nmC (dn.map Prod.snd)) ∧ n = dn.length
  kp : Kp No w wr
  z : n = 0 → A = none ∧ c = 0
end Go.Proofs.YtnfcfdhlmeimhaaGreat
