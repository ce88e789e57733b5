/- Package stripe's Message, Shard, quotientUp and Of, each as a contract over memory. -/
import Derived.Test.YtcdmljlangbloaaStm
import Derived.BigQuiet
namespace Go.Proofs.Ytcdmljlangbloaa
open Go.RowKit
set_option linter.unusedVariables false
set_option linter.unusedSimpArgs false
set_option maxRecDepth 100000

/-- A plan's value. -/
abbrev plV (l c p : Int) : Value := .agg #[.int .i64 l, .int .i64 c, .int .i64 p]
section
variable {w : World} {g n k a d q : Nat} {x : Nat → UInt8}
theorem qq_q (h : CodeAt w g n k x) (hD : Dim n k a d q) (r : Nat) : Calls Try.prog 24 #[cptr g] (w.drewN r) fun e w' => e = .returned (.int .i64 (q : Int)) ∧ ∃ t, w' = w.drewN t :=
  (qq_any (h.no (Sm.drewN w r).kp) hD).mono fun _ _ ⟨he, hw⟩ => ⟨he, r, hw.symm⟩
theorem ap_q (h : CodeAt w g n k x) (hD : Dim n k a d q) (r : Nat) : Calls Try.prog 26 #[cptr g] (w.drewN r) fun e w' => e = .returned (.int .i64 (a : Int)) ∧ ∃ t, w' = w.drewN t :=
  (aa_any (h.no (Sm.drewN w r).kp) hD).mono fun _ _ ⟨he, hw⟩ => ⟨he, r, hw.symm⟩
theorem quo_any (w : World) (l f : Nat) (hl : l ≤ 100000) (h1 : 1 ≤ f) (h2 : f ≤ 100000) : Calls Try.prog 25 #[.int .i64 (l : Int), .int .i64 (f : Int)] w fun e w' => e = .returned (.int .i64 (cup l f : Int)) ∧ w = w' := by
  have hq : ((l : Int) + (f : Int) - 1).tdiv (f : Int) = (cup l f : Int) := by
    rw [Int.tdiv_eq_ediv_of_nonneg (by omega)]
    have : (l : Int) + (f : Int) - 1 = ((l + f - 1 : Nat) : Int) := by omega
    rw [this, ← Int.natCast_ediv]
    rfl
  have hq2 : ((l : Int) + (f : Int) - 1) / (f : Int) = (cup l f : Int) := by rw [← Int.tdiv_eq_ediv_of_nonneg (by omega), hq]
  have hb : cup l f ≤ l := cup_bnd h1
  generalize cup l f = z at *
  go_enter Try.func25, Try.ntmps25
  go_wp2_with fail
  go_ret
  exact ⟨rfl, rfl⟩
theorem msg_any (h : CodeAt w g n k x) (hD : Dim n k a d q) (l c : Int) (p f : Nat) (hf : f = q * p) (hp : f ≤ 100000) : Calls Try.prog 13 #[plV l c (p : Int), cptr g] w fun e w' => e = .returned (.int .i64 (f : Int)) ∧ Kp No w w' := by
  have hm : (q : Int) * (p : Int) = (f : Int) := by rw [hf, Int.natCast_mul]
  have HQ : Hid (∀ o r, Calls Try.prog 24 #[cptr g] ((w.alloc o).drewN r) fun e w' => e = .returned (.int .i64 (q : Int)) ∧ ∃ t, w' = (w.alloc o).drewN t) := fun o r => qq_q (h.no (Kp.alloc No w o)) hD r
  clear hf hD h
  go_enter Try.func13, Try.ntmps13
  go_wp2_with fail
  go_quiet ((go_at_call 24; exact HQ.out _ _))
  go_wp2_with fail
  go_ret
  exact ⟨rfl, (Kp.alloc No _ _).drewN _⟩
theorem shd_any (h : CodeAt w g n k x) (hD : Dim n k a d q) (l c : Int) (p f : Nat) (hf : f = a * p) (hp : f ≤ 100000) : Calls Try.prog 14 #[plV l c (p : Int), cptr g] w fun e w' => e = .returned (.int .i64 (f : Int)) ∧ Kp No w w' := by
  have hm : (a : Int) * (p : Int) = (f : Int) := by rw [hf, Int.natCast_mul]
  have HQ : Hid (∀ o r, Calls Try.prog 26 #[cptr g] ((w.alloc o).drewN r) fun e w' => e = .returned (.int .i64 (a : Int)) ∧ ∃ t, w' = (w.alloc o).drewN t) := fun o r => ap_q (h.no (Kp.alloc No w o)) hD r
  clear hf hD h
  go_enter Try.func14, Try.ntmps14
  go_wp2_with fail
  go_quiet ((go_at_call 26; exact HQ.out _ _))
  go_wp2_with fail
  go_ret
  exact ⟨rfl, (Kp.alloc No _ _).drewN _⟩
end
end Go.Proofs.Ytcdmljlangbloaa
