/- A region that draws its order and whose last operation stores where the others read: the others may be taken first under a condition that holds up to that store. And append as one step of a region. No condition. -/
import Derived.Test.YthhdhihledmfoaaMem
import Derived.StillTailTactics
import Derived.Deep.RegionHeld3
namespace Go.Proofs.Ythhdhihledmfoaa
open Go.RowKit
set_option linter.unusedVariables false
set_option maxRecDepth 20000

section
variable {P : Program} {ops : Array Oper} {Q : Exit → Act → World → Prop} {md : Region.Mode} {S : World → Prop} {t : Nat}

/-- Whatever comes up next; behind all but number t the condition holds. -/
def LastR (P : Program) (md : Region.Mode) (ops : Array Oper) (Q : Exit → Act → World → Prop) (S : World → Prop) (t : Nat) : Nat → Array Bool → Act → World → Prop
  | 0, listed, a, w => Region.ready md ops listed = [] ∧ Q .normal a w
  | n + 1, listed, a, w => (Region.ready md ops listed = [] → Q .normal a w) ∧
      ∀ i ∈ Region.ready md ops listed, wpOp P ops Q i (fun a1 w1 => (i ≠ t → S w1) ∧ LastR P md ops Q S t n (listed.setIfInBounds i true) a1 w1) a w
theorem LastR.any : ∀ (n : Nat) (listed : Array Bool) (a : Act) (w : World), LastR P md ops Q S t n listed a w → wpAny P md ops Q n listed a w
  | 0, _, _, _, h => h
  | n + 1, _, _, _, h => ⟨h.1, fun i hi => wpOp_mono (fun a1 w1 g => LastR.any n _ a1 w1 g.2) (h.2 i hi)⟩
theorem not_listed {listed : Array Bool} {i : Nat} (h0 : listed.getD i true = false) (h1 : listed.getD i false = true) : False := by
  rw [getD_both h0] at h1
  cases h1
/-- Number i, the only one that may come up, is run. -/
theorem LastR.run {i : Nat} {o : Oper} {n : Nat} {listed : Array Bool} {a : Act} {w : World} (ho : ops[i]? = some o) (hr : Region.ready md ops listed = [i])
    (h : ∀ K : Act → World → Prop, Shut (∀ a1 w1, (i ≠ t → S w1) → ((i ≠ t → S w1) → LastR P md ops Q S t n (listed.setIfInBounds i true) a1 w1) → K a1 w1) → if Region.wanted o (yielded ops a.tmps) = true then Oper.wp P o a w K Q else K (a.put o.dst undef) w) : LastR P md ops Q S t (n + 1) listed a w := by
  refine ⟨fun e => absurd (hr.symm.trans e) (by simp), fun j hj => ?_⟩
  rw [hr] at hj
  obtain rfl : j = i := by simpa using hj
  exact wpOp_step ho (fun K hK => h K fun a1 w1 hS hW => hK a1 w1 ⟨hS, hW hS⟩)
theorem LastR.done {listed : Array Bool} {a : Act} {w : World} (hr : Region.ready md ops listed = []) (h : Q .normal a w) : ∀ n, LastR P md ops Q S t n listed a w
  | 0 => ⟨hr, h⟩
  | _ + 1 => ⟨fun _ => h, by rw [hr]; simp⟩
theorem LastR.begin {id : Nat} {a : Act} {w : World} (hm : P.follows .mixedOrders = true) (hS : S w.drew) (h : S w.drew → LastR P .any ops Q S t ops.size (Array.replicate ops.size false) a w.drew) : (Code.region id ops true).wp P Q a w :=
  wp_region_any hm (LastR.any _ _ _ _ (h hS))

/-- append, as one step of a region. -/
theorem step_app {w : World} {base : Nat} {e : TypeId} {v u : Value} {bs cs : List UInt8} {o : Oper} {a : Act} {K : Act → World → Prop} {E : Prop} (hgd : o.guard = none) (s x : Operand) (t : TypeId)
    (ho : o.op = .call { callee := .builtin .append, args := #[s, x], argTypes := #[t, t] })
    (i : TypeInfo) (ht : P.underlying t = some (.slice e)) (hi : P.info? e = some i) (hz : i.zero = some (.int .u8 0)) (hsize : i.size = 1) (hby : i.bytes = 1)
    (hs : a.eval s = v) (h : Own w base e v bs) (hx : a.eval x = u) (hu : Bts w u cs) (hlen : bs.length + cs.length ≤ 1000000000) (hb : base ≤ w.heap.size)
    (hQ : ∀ A1 n1 c1 w1, App w base e v bs cs (.slice A1 n1 c1) w1 → K (a.put o.dst (.slice A1 n1 c1)) w1) : if Region.wanted o (yielded ops a.tmps) = true then Oper.wp P o a w K Q else E := by
  have hw : Region.wanted o (yielded ops a.tmps) = true := by simp [Region.wanted, hgd]
  rw [if_pos hw]
  obtain ⟨v1, w1, hr, h1⟩ := run_app (P := P) t o.type i ht hi hz hsize hby h hu hlen hb
  obtain ⟨A1, n1, c1, rfl⟩ := h1.own.form
  have := hQ A1 n1 c1 w1 h1
  unfold Oper.wp
  simp [execOp, ho, resolve, invoke, builtin, hs, hx, hr, Result.andThen]
  exact this
end
end Go.Proofs.Ythhdhihledmfoaa
