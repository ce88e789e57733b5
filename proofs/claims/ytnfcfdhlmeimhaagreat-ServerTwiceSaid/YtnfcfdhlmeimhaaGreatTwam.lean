/- Rows of rows of bytes of the call's own, whose rows are set, swapped and written: what memory holds. No condition; Package solve's leader, divide and addTimes, each as a contract over memory; A region that draws its order and whose last operation stores where the others read: the others may be taken first under a condition that holds up to that store. And append as one step of a region. No condition; The document's times and plus, each as a contract over memory. -/
import Derived.Test.YtnfcfdhlmeimhaaGreatTwaa
import Derived.StillTailTactics
import Derived.Test.YtnfcfdhlmeimhaaGreatTwab
import Derived.Deep.RegionHeld3
namespace Go.Proofs.YtnfcfdhlmeimhaaGreat
open Go.RowKit
set_option linter.unusedVariables false
set_option maxRecDepth 20000

/-- One value is set. -/
def upd {α : Type} (h : Nat → α) (i : Nat) (x : α) (j : Nat) : α := if j = i then x else h j
section
variable {w w1 : World} {base b L c : Nat} {s : Nat → UInt8} {S : Nat → Prop}
/-- A row of the call's own, of L bytes. -/
def RowAt (w : World) (base b L c : Nat) (s : Nat → UInt8) : Prop := Own w base 5 (.slice (some ⟨b, 0, none⟩) L c) (rowL L s)
theorem RowAt.cell (h : RowAt w base b L c s) {k : Nat} (hk : k < L) : w.cell? ⟨b, k, none⟩ = some (.int .u8 ((s k).toNat : Int)) := by
  obtain ⟨cur, h1, _, _, _, _, _, h2⟩ := Own.block h
  rw [cell_of_row w b k _ _ _ h1, h2 k _ (rowL_get s hk)]
  rfl
theorem RowAt.frozen (h : RowAt w base b L c s) (k : Nat) : w.frozen? ⟨b, k, none⟩ = false := by
  obtain ⟨cur, h1, _⟩ := Own.block h
  exact frozen_of_row w b k _ _ h1
theorem RowAt.eq {t : Nat → UInt8} (h : RowAt w base b L c s) (he : ∀ k, k < L → s k = t k) : RowAt w base b L c t := by
  have e : rowL L s = rowL L t := List.map_congr_left fun k hk => he k (List.mem_range.1 hk)
  unfold RowAt
  rw [← e]
  exact h
theorem RowAt.set (h : RowAt w base b L c s) {k : Nat} (hk : k < L) (x : UInt8) (v : Value) (hv : v = bv x) : RowAt (w.setCell ⟨b, k, none⟩ v) base b L c (upd s k x) := by
  subst hv
  obtain ⟨cur, h1, h2, h3, h4, h5, h6, h7⟩ := Own.block h
  refine Own.mk (cur := cur.setIfInBounds k (bv x)) (heap_setCell_same w b k cur _ _ h1) (by rw [rowL_len]) h3 h4 (by rw [Array.size_setIfInBounds]; exact h5) h6 fun j y hj => ?_
  have hjl : j < L := by have := (List.getElem?_eq_some_iff.1 hj).1; rwa [rowL_len] at this
  rw [rowL_get _ hjl] at hj
  injection hj with hj
  subst hj
  rw [Array.getElem?_setIfInBounds]
  unfold upd
  by_cases e : k = j
  · subst e
    rw [if_pos rfl, if_pos (by omega), if_pos rfl]
  · rw [if_neg e, if_neg (fun e' => e e'.symm)]
    exact h7 j _ (rowL_get s hjl)
theorem RowAt.kpset (b k : Nat) (v : Value) (w : World) : Kp (fun q => q = b) w (w.setCell ⟨b, k, none⟩ v) := Kp.setCell (p := ⟨b, k, none⟩) (S := fun q => q = b) rfl v
theorem RowAt.keep (h : RowAt w base b L c s) (hk : Kp S w w1) (hS : ¬ S b) : RowAt w1 base b L c s := Own.keep h hk fun k hk e => by
  injection hk with hk
  subst hk
  exact hS e
theorem RowAt.no (h : RowAt w base b L c s) (hk : Kp No w w1) : RowAt w1 base b L c s := h.keep hk fun f => f
variable {g n : Nat} {hv : Nat → Value} {bs : Nat → List UInt8}
end
end Go.Proofs.YtnfcfdhlmeimhaaGreat
namespace Go.Proofs.YtnfcfdhlmeimhaaGreat
open Go.RowKit
set_option linter.unusedVariables false
set_option maxRecDepth 20000

/-- The first k are t's, the others s's. -/
def upS (t s : Nat → UInt8) (k j : Nat) : UInt8 := if j < k then t j else s j
theorem upS_step (t s : Nat → UInt8) (k j : Nat) : upd (upS t s k) k (t k) j = upS t s (k + 1) j := by
  unfold upd upS
  by_cases e : j = k
  · rw [if_pos e, if_pos (by omega), e]
  · rw [if_neg e]
    by_cases h : j < k
    · rw [if_pos h, if_pos (by omega)]
    · rw [if_neg h, if_neg (by omega)]

end Go.Proofs.YtnfcfdhlmeimhaaGreat
namespace Go.Proofs.YtnfcfdhlmeimhaaGreat
open Go.RowKit
set_option linter.unusedVariables false
set_option maxRecDepth 20000

section
variable {P : Program} {ops : Array Oper} {Q : Exit → Act → World → Prop} {md : Region.Mode} {S : World → Prop} {t : Nat}

/-- Whatever comes up next; behind all but number t the condition holds. -/
def LastR (P : Program) (md : Region.Mode) (ops : Array Oper) (Q : Exit → Act → World → Prop) (S : World → Prop) (t : Nat) : Nat → Array Bool → Act → World → Prop
  | 0, listed, a, w => Region.ready md ops listed = [] ∧ Q .normal a w
  | n + 1, listed, a, w => (Region.ready md ops listed = [] → Q .normal a w) ∧
      ∀ i ∈ Region.ready md ops listed, wpOp P ops Q i (fun a1 w1 => (i ≠ t → S w1) ∧ LastR P md ops Q S t n (listed.setIfInBounds i true) a1 w1) a w
theorem LastR.any : ∀ (n : Nat) (listed : Array Bool) (a : Act) (w : World), LastR P md ops Q S t n listed a w → wpAny P md ops Q n listed a w
  | 0, _, _, _, h => h
  | n + 1, _, _, _, h => ⟨h.1, fun i hi => wpOp_mono (fun a1 w1 g => LastR.any n _ a1 w1 g.2) (h.2 i hi)⟩
theorem not_listed {listed : Array Bool} {i : Nat} (h0 : listed.getD i true = false) (h1 : listed.getD i false = true) : False := by
  rw [getD_both h0] at h1
  cases h1
theorem LastR.first {i : Nat} {oi : Oper} {v : Value} (hi : ops[i]? = some oi) (hsel : ∀ (j : Nat) (o : Oper) cs b, ops[j]? = some o → o.op ≠ .select cs b) (hQ : ∀ c a w, Q (.panic c) (a.put oi.dst v) w → Q (.panic c) a w) (hwt : Region.waitsFor md ops t i = true) :
    ∀ (n : Nat) (listed : Array Bool) (a : Act) (w : World), (∀ j oj, ops[j]? = some oj → j ≠ i → listed.getD j true = false → (∀ e ∈ oj.after, Region.binds md e = true → e.on ≠ i) → oi.apart ops oj = true) → i ∈ Region.ready md ops listed → YieldsIf P ops S oi v a → S w →
      LastR P md ops Q S t n (listed.setIfInBounds i true) (a.put oi.dst v) w → LastR P md ops Q S t (n + 1) listed a w := by
  intro n
  induction n with
  | zero =>
    intro listed a w _ hr hy hS H
    refine ⟨fun e => absurd hr (by rw [e]; simp), fun j hj => ?_⟩
    by_cases e : j = i
    · subst e
      exact hy.wpOp hi hS ⟨fun _ => hS, H⟩
    · exact absurd (ready_mono hj e) (by rw [H.1]; simp)
  | succ n ih =>
    intro listed a w hfree hr hy hS H
    refine ⟨fun e => absurd hr (by rw [e]; simp), fun j hj => ?_⟩
    by_cases e : j = i
    · subst e
      exact hy.wpOp hi hS ⟨fun _ => hS, H⟩
    · obtain ⟨hjun, oj, hoj, hall⟩ := mem_ready.1 hj
      have hiun := (mem_ready.1 hr).1
      have hno : ∀ x ∈ oj.after, Region.binds md x = true → x.on ≠ i := fun x hx hb hxe => not_listed hiun (hxe ▸ hall x hx hb)
      have hjt : j ≠ t := fun ejt => by
        obtain ⟨o', ho', x, hx, hb, hon⟩ := Region.waitsFor_spec hwt
        subst ejt
        obtain rfl : o' = oj := Option.some.inj (ho'.symm.trans hoj)
        exact hno x hx hb hon
      have h2 := wpOp_putIf hoj (hfree j oj hoj e hjun hno) (fun cs b => hsel i oi cs b hi) (fun cs b => hsel j oj cs b hoj) hQ hy (H.2 j (ready_mono hj e))
      refine wpOp_mono (fun a1 w1 g => ⟨g.2.1, ih (listed.setIfInBounds j true) a1 w1 (fun k ok hk hki hun hn => hfree k ok hk hki ?_ hn) (ready_mono hr (Ne.symm e)) g.1 (g.2.1 hjt) ?_⟩) h2
      · by_cases ejk : j = k
        · exact ejk ▸ hjun
        · rw [getD_set_ne true ejk] at hun
          exact hun
      · rw [Array.setIfInBounds_comm _ _ e]
        exact g.2.2
/-- Number i is taken first. -/
theorem LastR.take {i : Nat} {oi : Oper} {v : Value} {n : Nat} {listed : Array Bool} {a : Act} {w : World} (hi : ops[i]? = some oi) (hs : Region.noSelect ops = true) (hf : Region.free md ops listed i = true) (hr : (Region.ready md ops listed).contains i = true) (hwt : Region.waitsFor md ops t i = true)
    (hQ : ∀ c a w, Q (.panic c) (a.put oi.dst v) w → Q (.panic c) a w) (hy : YieldsIf P ops S oi v a) (hS : S w) (h : LastR P md ops Q S t n (listed.setIfInBounds i true) (a.put oi.dst v) w) : LastR P md ops Q S t (n + 1) listed a w :=
  LastR.first hi (Region.noSelect_spec hs) hQ hwt n listed a w (Region.free_spec hi hf) (by simpa using hr) hy hS h
/-- Number i, the only one that may come up, is run. -/
theorem LastR.run {i : Nat} {o : Oper} {n : Nat} {listed : Array Bool} {a : Act} {w : World} (ho : ops[i]? = some o) (hr : Region.ready md ops listed = [i])
    (h : ∀ K : Act → World → Prop, Shut (∀ a1 w1, (i ≠ t → S w1) → ((i ≠ t → S w1) → LastR P md ops Q S t n (listed.setIfInBounds i true) a1 w1) → K a1 w1) → if Region.wanted o (yielded ops a.tmps) = true then Oper.wp P o a w K Q else K (a.put o.dst undef) w) : LastR P md ops Q S t (n + 1) listed a w := by
  refine ⟨fun e => absurd (hr.symm.trans e) (by simp), fun j hj => ?_⟩
  rw [hr] at hj
  obtain rfl : j = i := by simpa using hj
  exact wpOp_step ho (fun K hK => h K fun a1 w1 hS hW => hK a1 w1 ⟨hS, hW hS⟩)
theorem LastR.done {listed : Array Bool} {a : Act} {w : World} (hr : Region.ready md ops listed = []) (h : Q .normal a w) : ∀ n, LastR P md ops Q S t n listed a w
  | 0 => ⟨hr, h⟩
  | _ + 1 => ⟨fun _ => h, by rw [hr]; simp⟩
theorem LastR.begin {id : Nat} {a : Act} {w : World} (hm : P.follows .mixedOrders = true) (hS : S w.drew) (h : S w.drew → LastR P .any ops Q S t ops.size (Array.replicate ops.size false) a w.drew) : (Code.region id ops true).wp P Q a w :=
  wp_region_any hm (LastR.any _ _ _ _ (h hS))

end
end Go.Proofs.YtnfcfdhlmeimhaaGreat
namespace Go.Proofs.YtnfcfdhlmeimhaaGreat
open Go.RowKit
set_option linter.unusedVariables false
set_option maxRecDepth 20000

/-- A new row of noughts. -/
theorem row_new (w : World) (L : Nat) (hL : L ≤ 1000) : RowAt (w.alloc (.cells (zc L) 5)) w.heap.size w.heap.size L L fun _ => 0 :=
  Own.mk (heap_alloc_new w _) (rowL_len _ _).symm (Nat.le_refl _) (by simp only [maxLen]; omega) (zc_size L) (Nat.le_refl _) fun k x hk => by
    have hkl : k < L := by have := (List.getElem?_eq_some_iff.1 hk).1; rwa [rowL_len] at this
    rw [rowL_get _ hkl] at hk
    injection hk with hk
    subst hk
    exact zc_get hkl
theorem Bts.cell {w : World} {A : Option Addr} {L c k : Nat} {s : Nat → UInt8} (h : Bts w (.slice A L c) (rowL L s)) (hk : k < L) : ∃ B off, A = some ⟨B, off, none⟩ ∧ w.cell? ⟨B, off + k, none⟩ = some (.int .u8 ((s k).toNat : Int)) := by
  obtain ⟨B, off, b, rfl, hb, hc⟩ := h.at_ hk
  rw [rowL_get _ hk] at hb
  injection hb with hb
  subst hb
  exact ⟨B, off, rfl, hc⟩

end Go.Proofs.YtnfcfdhlmeimhaaGreat
