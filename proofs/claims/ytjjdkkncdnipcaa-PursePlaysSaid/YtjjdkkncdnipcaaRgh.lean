/- A region that draws its order and stores in its midst where others read: those that the store waits for may be taken first under a condition that holds up to it; what reads no memory may be taken first at any time. No condition. -/
import Derived.Test.YtjjdkkncdnipcaaBase
import Derived.StillTailTactics
import Derived.Deep.RegionHeld3
namespace Go.Proofs.Ytjjdkkncdnipcaa
open Go.RowKit
set_option linter.unusedVariables false
set_option maxRecDepth 20000

section
variable {P : Program} {ops : Array Oper} {Q : Exit → Act → World → Prop} {md : Region.Mode} {S : World → Prop} {t : Nat}

/-- Whatever comes up next; as long as number t has not come up the condition holds. -/
def HeldR (P : Program) (md : Region.Mode) (ops : Array Oper) (Q : Exit → Act → World → Prop) (S : World → Prop) (t : Nat) : Nat → Array Bool → Act → World → Prop
  | 0, listed, a, w => Region.ready md ops listed = [] ∧ Q .normal a w
  | n + 1, listed, a, w => (Region.ready md ops listed = [] → Q .normal a w) ∧
      ∀ i ∈ Region.ready md ops listed, wpOp P ops Q i (fun a1 w1 => ((listed.setIfInBounds i true).getD t true = false → S w1) ∧ HeldR P md ops Q S t n (listed.setIfInBounds i true) a1 w1) a w
theorem HeldR.any : ∀ (n : Nat) (listed : Array Bool) (a : Act) (w : World), HeldR P md ops Q S t n listed a w → wpAny P md ops Q n listed a w
  | 0, _, _, _, h => h
  | n + 1, _, _, _, h => ⟨h.1, fun i hi => wpOp_mono (fun a1 w1 g => HeldR.any n _ a1 w1 g.2) (h.2 i hi)⟩
theorem unlisted_no {listed : Array Bool} {i : Nat} (h0 : listed.getD i true = false) (h1 : listed.getD i false = true) : False := by
  rw [getD_both h0] at h1
  cases h1
theorem HeldR.first {i : Nat} {oi : Oper} {v : Value} (hi : ops[i]? = some oi) (hsel : ∀ (j : Nat) (o : Oper) cs b, ops[j]? = some o → o.op ≠ .select cs b) (hQ : ∀ c a w, Q (.panic c) (a.put oi.dst v) w → Q (.panic c) a w) (hwt : Region.waitsFor md ops t i = true) :
    ∀ (n : Nat) (listed : Array Bool) (a : Act) (w : World), (∀ j oj, ops[j]? = some oj → j ≠ i → listed.getD j true = false → (∀ e ∈ oj.after, Region.binds md e = true → e.on ≠ i) → oi.apart ops oj = true) → i ∈ Region.ready md ops listed → listed.getD t true = false → YieldsIf P ops S oi v a → S w →
      HeldR P md ops Q S t n (listed.setIfInBounds i true) (a.put oi.dst v) w → HeldR P md ops Q S t (n + 1) listed a w := by
  intro n
  induction n with
  | zero =>
    intro listed a w _ hr htl hy hS H
    refine ⟨fun e => absurd hr (by rw [e]; simp), fun j hj => ?_⟩
    by_cases e : j = i
    · subst e
      exact hy.wpOp hi hS ⟨fun _ => hS, H⟩
    · exact absurd (ready_mono hj e) (by rw [H.1]; simp)
  | succ n ih =>
    intro listed a w hfree hr htl hy hS H
    refine ⟨fun e => absurd hr (by rw [e]; simp), fun j hj => ?_⟩
    by_cases e : j = i
    · subst e
      exact hy.wpOp hi hS ⟨fun _ => hS, H⟩
    · obtain ⟨hjun, oj, hoj, hall⟩ := mem_ready.1 hj
      have hiun := (mem_ready.1 hr).1
      have hno : ∀ x ∈ oj.after, Region.binds md x = true → x.on ≠ i := fun x hx hb hxe => unlisted_no hiun (hxe ▸ hall x hx hb)
      have hjt : j ≠ t := fun ejt => by
        obtain ⟨o', ho', x, hx, hb, hon⟩ := Region.waitsFor_spec hwt
        subst ejt
        obtain rfl : o' = oj := Option.some.inj (ho'.symm.trans hoj)
        exact hno x hx hb hon
      have hit : i ≠ t := fun eit => by
        obtain ⟨o', ho', x, hx, hb, hon⟩ := Region.waitsFor_spec hwt
        obtain ⟨_, o2, ho2, hall2⟩ := mem_ready.1 hr
        subst eit
        obtain rfl : o' = o2 := Option.some.inj (ho'.symm.trans ho2)
        exact unlisted_no hiun (hon ▸ hall2 x hx hb)
      have h2 := wpOp_putIf hoj (hfree j oj hoj e hjun hno) (fun cs b => hsel i oi cs b hi) (fun cs b => hsel j oj cs b hoj) hQ hy (H.2 j (ready_mono hj e))
      refine wpOp_mono (fun a1 w1 g => ?_) h2
      have hS1 : S w1 := g.2.1 (by rw [getD_set_ne true hjt, getD_set_ne true hit]; exact htl)
      refine ⟨fun _ => hS1, ih (listed.setIfInBounds j true) a1 w1 (fun k ok hk hki hun hn => hfree k ok hk hki ?_ hn) (ready_mono hr (Ne.symm e)) (by rw [getD_set_ne true hjt]; exact htl) g.1 hS1 ?_⟩
      · by_cases ejk : j = k
        · exact ejk ▸ hjun
        · rw [getD_set_ne true ejk] at hun
          exact hun
      · rw [Array.setIfInBounds_comm _ _ e]
        exact g.2.2
/-- Number i, which the store waits for, is taken first. -/
theorem HeldR.take {i : Nat} {oi : Oper} {v : Value} {n : Nat} {listed : Array Bool} {a : Act} {w : World} (hi : ops[i]? = some oi) (hs : Region.noSelect ops = true) (hf : Region.free md ops listed i = true) (hr : (Region.ready md ops listed).contains i = true) (hwt : Region.waitsFor md ops t i = true) (htl : listed.getD t true = false)
    (hQ : ∀ c a w, Q (.panic c) (a.put oi.dst v) w → Q (.panic c) a w) (hy : YieldsIf P ops S oi v a) (hS : S w) (h : HeldR P md ops Q S t n (listed.setIfInBounds i true) (a.put oi.dst v) w) : HeldR P md ops Q S t (n + 1) listed a w :=
  HeldR.first hi (Region.noSelect_spec hs) hQ hwt n listed a w (Region.free_spec hi hf) (by simpa using hr) htl hy hS h
theorem HeldR.firstP {i : Nat} {oi : Oper} {v : Value} (hi : ops[i]? = some oi) (hsel : ∀ (j : Nat) (o : Oper) cs b, ops[j]? = some o → o.op ≠ .select cs b) (hQ : ∀ c a w, Q (.panic c) (a.put oi.dst v) w → Q (.panic c) a w) (hit : i ≠ t) :
    ∀ (n : Nat) (listed : Array Bool) (a : Act) (w : World), (∀ j oj, ops[j]? = some oj → j ≠ i → listed.getD j true = false → (∀ e ∈ oj.after, Region.binds md e = true → e.on ≠ i) → oi.apart ops oj = true) → i ∈ Region.ready md ops listed → YieldsIf P ops (fun _ => True) oi v a → (listed.getD t true = false → S w) →
      HeldR P md ops Q S t n (listed.setIfInBounds i true) (a.put oi.dst v) w → HeldR P md ops Q S t (n + 1) listed a w := by
  intro n
  induction n with
  | zero =>
    intro listed a w _ hr hy hS H
    refine ⟨fun e => absurd hr (by rw [e]; simp), fun j hj => ?_⟩
    by_cases e : j = i
    · subst e
      exact hy.wpOp hi trivial ⟨fun h => hS (by rw [getD_set_ne true hit] at h; exact h), H⟩
    · exact absurd (ready_mono hj e) (by rw [H.1]; simp)
  | succ n ih =>
    intro listed a w hfree hr hy hS H
    refine ⟨fun e => absurd hr (by rw [e]; simp), fun j hj => ?_⟩
    by_cases e : j = i
    · subst e
      exact hy.wpOp hi trivial ⟨fun h => hS (by rw [getD_set_ne true hit] at h; exact h), H⟩
    · obtain ⟨hjun, oj, hoj, hall⟩ := mem_ready.1 hj
      have hiun := (mem_ready.1 hr).1
      have hno : ∀ x ∈ oj.after, Region.binds md x = true → x.on ≠ i := fun x hx hb hxe => unlisted_no hiun (hxe ▸ hall x hx hb)
      have h2 := wpOp_putIf hoj (hfree j oj hoj e hjun hno) (fun cs b => hsel i oi cs b hi) (fun cs b => hsel j oj cs b hoj) hQ hy (H.2 j (ready_mono hj e))
      refine wpOp_mono (fun a1 w1 g => ?_) h2
      have hS1 : (listed.setIfInBounds j true).getD t true = false → S w1 := fun h => g.2.1 (by rw [Array.setIfInBounds_comm _ _ (Ne.symm e), getD_set_ne true hit]; exact h)
      refine ⟨hS1, ih (listed.setIfInBounds j true) a1 w1 (fun k ok hk hki hun hn => hfree k ok hk hki ?_ hn) (ready_mono hr (Ne.symm e)) g.1 hS1 ?_⟩
      · by_cases ejk : j = k
        · exact ejk ▸ hjun
        · rw [getD_set_ne true ejk] at hun
          exact hun
      · rw [Array.setIfInBounds_comm _ _ e]
        exact g.2.2
/-- Number i, which reads no memory, is taken first. -/
theorem HeldR.takeP {i : Nat} {oi : Oper} {v : Value} {n : Nat} {listed : Array Bool} {a : Act} {w : World} (hi : ops[i]? = some oi) (hs : Region.noSelect ops = true) (hf : Region.free md ops listed i = true) (hr : (Region.ready md ops listed).contains i = true) (hit : i ≠ t)
    (hQ : ∀ c a w, Q (.panic c) (a.put oi.dst v) w → Q (.panic c) a w) (hy : YieldsIf P ops (fun _ => True) oi v a) (hS : listed.getD t true = false → S w) (h : HeldR P md ops Q S t n (listed.setIfInBounds i true) (a.put oi.dst v) w) : HeldR P md ops Q S t (n + 1) listed a w :=
  HeldR.firstP hi (Region.noSelect_spec hs) hQ hit n listed a w (Region.free_spec hi hf) (by simpa using hr) hy hS h
/-- Number i, the only one that may come up, is run. -/
theorem HeldR.run {i : Nat} {o : Oper} {n : Nat} {listed : Array Bool} {a : Act} {w : World} (ho : ops[i]? = some o) (hr : Region.ready md ops listed = [i])
    (h : ∀ K : Act → World → Prop, Shut (∀ a1 w1, ((listed.setIfInBounds i true).getD t true = false → S w1) → (((listed.setIfInBounds i true).getD t true = false → S w1) → HeldR P md ops Q S t n (listed.setIfInBounds i true) a1 w1) → K a1 w1) → if Region.wanted o (yielded ops a.tmps) = true then Oper.wp P o a w K Q else K (a.put o.dst undef) w) : HeldR P md ops Q S t (n + 1) listed a w := by
  refine ⟨fun e => absurd (hr.symm.trans e) (by simp), fun j hj => ?_⟩
  rw [hr] at hj
  obtain rfl : j = i := by simpa using hj
  exact wpOp_step ho (fun K hK => h K fun a1 w1 hS hW => hK a1 w1 ⟨hS, hW hS⟩)
/-- Number i, the only one that may come up, and behind it the condition holds. -/
theorem HeldR.runS {i : Nat} {o : Oper} {n : Nat} {listed : Array Bool} {a : Act} {w : World} (ho : ops[i]? = some o) (hr : Region.ready md ops listed = [i])
    (h : ∀ K : Act → World → Prop, Shut (∀ a1 w1, S w1 → (S w1 → HeldR P md ops Q S t n (listed.setIfInBounds i true) a1 w1) → K a1 w1) → if Region.wanted o (yielded ops a.tmps) = true then Oper.wp P o a w K Q else K (a.put o.dst undef) w) : HeldR P md ops Q S t (n + 1) listed a w := by
  refine ⟨fun e => absurd (hr.symm.trans e) (by simp), fun j hj => ?_⟩
  rw [hr] at hj
  obtain rfl : j = i := by simpa using hj
  exact wpOp_step ho (fun K hK => h K fun a1 w1 hS hW => hK a1 w1 ⟨fun _ => hS, hW hS⟩)
/-- Number i, the only one that may come up, where number t has come up by then. -/
theorem HeldR.runD {i : Nat} {o : Oper} {n : Nat} {listed : Array Bool} {a : Act} {w : World} (ho : ops[i]? = some o) (hr : Region.ready md ops listed = [i]) (hd : (listed.setIfInBounds i true).getD t true = true)
    (h : ∀ K : Act → World → Prop, Shut (∀ a1 w1, HeldR P md ops Q S t n (listed.setIfInBounds i true) a1 w1 → K a1 w1) → if Region.wanted o (yielded ops a.tmps) = true then Oper.wp P o a w K Q else K (a.put o.dst undef) w) : HeldR P md ops Q S t (n + 1) listed a w := by
  refine ⟨fun e => absurd (hr.symm.trans e) (by simp), fun j hj => ?_⟩
  rw [hr] at hj
  obtain rfl : j = i := by simpa using hj
  exact wpOp_step ho (fun K hK => h K fun a1 w1 hW => hK a1 w1 ⟨(fun h => by rw [hd] at h; cases h), hW⟩)
/-- Number i, which reads no memory, behind number t. -/
theorem HeldR.takeD {i : Nat} {oi : Oper} {v : Value} {n : Nat} {listed : Array Bool} {a : Act} {w : World} (hi : ops[i]? = some oi) (hs : Region.noSelect ops = true) (hf : Region.free md ops listed i = true) (hr : (Region.ready md ops listed).contains i = true) (hit : i ≠ t) (hd : listed.getD t true = true)
    (hQ : ∀ c a w, Q (.panic c) (a.put oi.dst v) w → Q (.panic c) a w) (hy : YieldsIf P ops (fun _ => True) oi v a) (h : HeldR P md ops Q S t n (listed.setIfInBounds i true) (a.put oi.dst v) w) : HeldR P md ops Q S t (n + 1) listed a w :=
  HeldR.firstP hi (Region.noSelect_spec hs) hQ hit n listed a w (Region.free_spec hi hf) (by simpa using hr) hy (fun h => by rw [hd] at h; cases h) h
theorem HeldR.done {listed : Array Bool} {a : Act} {w : World} (hr : Region.ready md ops listed = []) (h : Q .normal a w) : ∀ n, HeldR P md ops Q S t n listed a w
  | 0 => ⟨hr, h⟩
  | _ + 1 => ⟨fun _ => h, by rw [hr]; simp⟩
theorem HeldR.begin {id : Nat} {a : Act} {w : World} (hm : P.follows .mixedOrders = true) (hS : S w.drew) (h : S w.drew → HeldR P .any ops Q S t ops.size (Array.replicate ops.size false) a w.drew) : (Code.region id ops true).wp P Q a w :=
  wp_region_any hm (HeldR.any _ _ _ _ (h hS))
end
end Go.Proofs.Ytjjdkkncdnipcaa
