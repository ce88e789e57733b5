/- Package wire's Name and Right and the document's, as contracts over memory. -/
import Derived.Test.YtkpongkojkhboaaWim
namespace Go.Proofs.Ytkpongkojkhboaa
open Go.RowKit
set_option linter.unusedVariables false
set_option linter.unusedSimpArgs false
set_option maxRecDepth 20000

/-- A request's value. -/
abbrev rqV (q : Rq) (u : Value) : Value := .agg #[.int .u64 (q.num : Int), .int .i64 q.kind, .int .u32 (cO q.s : Int), .int .u16 (cS q.s : Int), .int .u16 (cL q.s : Int), .int .u32 (cG q.s : Int), .int .u16 (q.lost : Int), u]
def NmPostK (w : World) (k : Int) (e : Ending) (w1 : World) : Prop := e = .returned (.string (nmK k)) ∧ Kp No w w1
theorem name_any {w : World} (k : Int) : Calls Try.prog 12 #[.int .i64 k] w fun e w1 => e = .returned (.string (nmK k)) ∧ w = w1 := by
  by_cases h1 : k = 1
  · subst h1
    go_enter Try.func12, Try.ntmps12
    go_wp2
    go_ret
    exact ⟨rfl, rfl⟩
  by_cases h2 : k = 2
  · subst h2
    go_enter Try.func12, Try.ntmps12
    go_wp2
    go_ret
    exact ⟨rfl, rfl⟩
  by_cases h3 : k = 3
  · subst h3
    go_enter Try.func12, Try.ntmps12
    go_wp2
    go_ret
    exact ⟨rfl, rfl⟩
  by_cases h4 : k = 4
  · subst h4
    go_enter Try.func12, Try.ntmps12
    go_wp2
    go_ret
    exact ⟨rfl, rfl⟩
  by_cases h5 : k = 5
  · subst h5
    go_enter Try.func12, Try.ntmps12
    go_wp2
    go_ret
    exact ⟨rfl, rfl⟩
  by_cases h6 : k = 6
  · subst h6
    go_enter Try.func12, Try.ntmps12
    go_wp2
    go_ret
    exact ⟨rfl, rfl⟩
  have hn : nmK k = ⟨#[]⟩ := nmK_none (by omega)
  have HN := hide hn
  clear hn
  go_enter Try.func12, Try.ntmps12
  go_wp2
  go_ret
  rw [HN.out]
  exact ⟨rfl, rfl⟩
theorem rname_any {w : World} (k : Int) : Calls Try.prog 13 #[.int .i64 k] w (NmPostK w k) := by
  by_cases h0 : k < 0
  · have hn : nmK k = ⟨#[]⟩ := nmK_none (by omega)
    have HN := hide hn
    clear hn
    go_enter Try.func13, Try.ntmps13
    go_wp2
    go_ret
    rw [NmPostK, HN.out]
    exact ⟨rfl, Kp.alloc No w _⟩
  by_cases h6 : 6 < k
  · have hn : nmK k = ⟨#[]⟩ := nmK_none (by omega)
    have HN := hide hn
    clear hn
    go_enter Try.func13, Try.ntmps13
    go_wp2
    go_ret
    rw [NmPostK, HN.out]
    exact ⟨rfl, Kp.alloc No w _⟩
  obtain ⟨j, rfl⟩ : ∃ j : Nat, k = j := ⟨k.toNat, by omega⟩
  have hj : j ≤ 6 := by omega
  clear h0 h6
  match j, hj with
  | 0, _ | 1, _ | 2, _ | 3, _ | 4, _ | 5, _ | 6, _ =>
    go_enter Try.func13, Try.ntmps13
    go_wp2
    go_ret
    exact ⟨rfl, Kp.alloc No w _⟩
  | j + 7, h => omega
end Go.Proofs.Ytkpongkojkhboaa
