/- Readings of arguments opened to cells: bytes, numbers, and structs within slices. No condition; Rows of any type that the call made and appends to. No condition. -/
import Derived.Test.YthicpblgonigcaaNcaa
import Derived.Deep.Slices
import Derived.Deep.Fields
import Derived.ChangeSame
import Derived.ChangeSlices
import Derived.OpenShut
namespace Go.Proofs.Ythicpblgonigcaa
open Go.ChangeShapes Go.WideShapes Go.RowKit Go.Deep
set_option linter.unusedVariables false
set_option maxRecDepth 20000

section
variable {H : Type} {enc : TypeId × Value → H} {P : Program} {w : World} {base : Nat} {spare : Nat → Bool} {held : Bool} {fuel : Nat} {v : Value} {x : DataW H × List MemPlace}

/-- An unsigned number that came in. -/
theorem open_nat {t : TypeId} {k : IntKind} (ht : P.underlying t = some (.int k)) (h0 : ∀ n, (Lit.int k n).wf = true → 0 ≤ n) (h : DataW.trod enc P w base spare held fuel t [v] = some x) :
    ∃ n : Nat, v = .int k (n : Int) ∧ (Lit.int k (n : Int)).wf = true := by
  obtain ⟨n, hcs, _, hwf⟩ := DataW.trod_int ht h
  simp only [List.cons.injEq, and_true] at hcs
  have := h0 n hwf
  obtain ⟨m, rfl⟩ := Int.eq_ofNat_of_zero_le this
  exact ⟨m, hcs, hwf⟩

/-- A struct's fields, one by one. -/
theorem open_parts {t : TypeId} {fs : Array Field} {cs : List Value} (ht : P.underlying t = some (.struct fs)) (h : DataW.trod enc P w base spare held fuel t cs = some x) :
    ∃ n, cs.length = P.cellsOf t ∧ ∀ (i : Nat) (ty : TypeId) (off k : Nat), (fs[i]?).map (fun f => (f.type, f.offset)) = some (ty, off) → P.cellsOf ty = k → ∃ y, DataW.trod enc P w base spare held n ty ((cs.drop off).take k) = some y := by
  obtain ⟨xs, n, _, _, hl, hx, hf⟩ := DataW.trod_struct ht h
  refine ⟨n, hl, fun i ty off k hi hk => ?_⟩
  obtain ⟨f, hfi, he⟩ := Option.map_eq_some_iff.1 hi
  have hlt : i < xs.length := by rw [hx]; exact (Array.getElem?_eq_some_iff.1 hfi).1
  simp only [Prod.mk.injEq] at he
  obtain ⟨rfl, rfl⟩ := he
  subst hk
  exact ⟨xs[i], (hf i f hfi).trans (List.getElem?_eq_getElem hlt)⟩

end
end Go.Proofs.Ythicpblgonigcaa
namespace Go.Proofs.Ythicpblgonigcaa
open Go.RowKit
set_option linter.unusedVariables false
set_option maxRecDepth 20000

/-- The type e takes sz cells and bt bytes, and is z when it is new. -/
structure Ty (e : TypeId) (z : Value) (sz bt : Nat) : Prop where
  ex : ∃ i, Try.prog.info? e = some i ∧ i.zero = some z ∧ i.size = sz ∧ i.bytes = bt
  zs : z.cells.size = sz
  s0 : 0 < sz
  b0 : bt ≤ 100
theorem ty_of {e : TypeId} {z : Value} {sz bt : Nat} (h : (Try.prog.info? e).map (fun i => (i.zero, i.size, i.bytes)) = some (some z, sz, bt)) (h2 : z.cells.size = sz) (h3 : 0 < sz) (h4 : bt ≤ 100) : Ty e z sz bt := by
  refine ⟨?_, h2, h3, h4⟩
  rcases hi : Try.prog.info? e with _ | i
  · rw [hi] at h; cases h
  · rw [hi] at h
    simp only [Option.map_some, Option.some.injEq, Prod.mk.injEq] at h
    exact ⟨i, rfl, h.1, h.2.1, h.2.2⟩
/-- Cells that are appended. -/
structure Nws (w : World) (ad : Addr) (m sz : Nat) (cs : List Value) : Prop where
  len : cs.length = m * sz
  at_ : ∀ (j : Nat) u, cs[j]? = some u → w.cell? (ad.add j) = some u
  one : ∀ u ∈ cs, u.oneCell' = true
def OwnT (w : World) (base : Nat) (e : TypeId) (sz : Nat) (v : Value) (n : Nat) (xs : List Value) : Prop := w.ownsRow base e sz v n xs
section
variable {w w1 w2 : World} {S : Nat → Prop} {base : Nat} {e : TypeId} {sz n m : Nat} {v v1 z : Value} {xs cs : List Value}
theorem OwnT.nil (w : World) (base : Nat) (e : TypeId) (sz : Nat) : OwnT w base e sz (.slice none 0 0) 0 [] := World.ownsRow_nil w base e sz
theorem OwnT.lt (h : OwnT w base e sz v n xs) (k : Nat) (hk : v.ownBlock = some k) : k < w.heap.size := (World.ownsRow.lt h k hk).2
theorem OwnT.ge (h : OwnT w base e sz v n xs) (k : Nat) (hk : v.ownBlock = some k) : base ≤ k := (World.ownsRow.lt h k hk).1
theorem OwnT.keep (h : OwnT w base e sz v n xs) (hk : Kp S w w1) (hS : ∀ k, v.ownBlock = some k → ¬ S k) : OwnT w1 base e sz v n xs := by
  refine ⟨h.1, ?_⟩
  rcases h.2 with hn | ⟨g, cap, cur, rfl, hb, hg, r⟩
  · exact .inl hn
  · exact .inr ⟨g, cap, cur, rfl, hb, by rw [hk.block g (Array.getElem?_eq_some_iff.1 hg).1 (hS g rfl)]; exact hg, r⟩
theorem OwnT.no (h : OwnT w base e sz v n xs) (hk : Kp No w w1) : OwnT w1 base e sz v n xs := h.keep hk fun _ _ f => f
theorem OwnT.form (h : OwnT w base e sz v n xs) : ∃ A c, v = .slice A n c := by
  rcases h.2 with ⟨rfl, rfl⟩ | ⟨g, cap, cur, rfl, _⟩
  · exact ⟨none, 0, rfl⟩
  · exact ⟨_, _, rfl⟩
theorem OwnT.cell {A : Option Addr} {n' c j : Nat} (h : OwnT w base e sz (.slice A n' c) n xs) {u : Value} (hj : xs[j]? = some u) : ∃ g, A = some ⟨g, 0, none⟩ ∧ base ≤ g ∧ g < w.heap.size ∧ n ≤ c ∧ w.cell? ⟨g, j, none⟩ = some u := by
  have hjl : j < xs.length := (List.getElem?_eq_some_iff.1 hj).1
  rcases h.2 with ⟨h1, hn⟩ | ⟨g, cap, cur, h1, hb, hg, hc, _, _, ht⟩
  · have := h.1
    rw [hn, Nat.zero_mul] at this
    omega
  · injection h1 with h1 h2 h3
    subst h3
    refine ⟨g, h1, hb, (Array.getElem?_eq_some_iff.1 hg).1, hc, ?_⟩
    rw [cell_of_row w g j cur _ _ hg]
    have h2 : (cur.toList.take (n * sz))[j]? = xs[j]? := by rw [ht]
    rw [List.getElem?_take, if_pos (by rw [← h.1]; exact hjl), Array.getElem?_toList, hj] at h2
    exact h2
theorem OwnT.kind (h : OwnT w base e sz v n xs) {g : Nat} (hg : v.ownBlock = some g) : ∃ cur, w.heap[g]? = some (.cells cur e (0, 0)) := by
  rcases h.2 with ⟨rfl, _⟩ | ⟨g', cap, cur, rfl, _, h1, _⟩
  · cases hg
  · injection hg with hg
    subst hg
    exact ⟨cur, h1⟩
/-- What append leaves. -/
structure AppT (w : World) (base : Nat) (e : TypeId) (sz : Nat) (v : Value) (n : Nat) (xs : List Value) (m : Nat) (cs : List Value) (v1 : Value) (w1 : World) : Prop where
  own : OwnT w1 base e sz v1 (n + m) (xs ++ cs)
  kp : Kp (fun k => v.ownBlock = some k) w w1
  at_ : v1.ownBlock = v.ownBlock ∨ v1.ownBlock = some w.heap.size
theorem run_appT {bt : Nat} (hT : Ty e z sz bt) (t ty : TypeId) (ht : Try.prog.underlying t = some (.slice e)) (h : OwnT w base e sz v n xs) (ad : Addr) (c : Nat) (hN : Nws w ad m sz cs) (hlen : n + m ≤ 1000000) (hb : base ≤ w.heap.size) :
    ∃ v1 w1, (Builtin.append_ #[t, t] ty #[v, .slice (some ad) m c]).run Try.prog w = .ok v1 w1 ∧ AppT w base e sz v n xs m cs v1 w1 := by
  obtain ⟨⟨i0, hi0, hz0, hz1, hz2⟩, h1, h2, h3⟩ := hT
  have h5 : (n + m) * bt ≤ 1000000 * 100 := Nat.mul_le_mul hlen h3
  obtain ⟨v1, w1, hr, e1, e2, e3, e4⟩ := run_append_own_at (P := Try.prog) w base t ty e i0 z sz bt ht hi0 hz0 hz1 hz2 h1 h2 v n xs h ad m c cs hN.len hN.at_ hN.one (by simp only [maxLen]; omega) (by omega) hb
  exact ⟨v1, w1, hr, ⟨e1, Kp.grown e2, e4⟩⟩
theorem AppT.keeps {w0 : World} (ha : AppT w w0.heap.size e sz v n xs m cs v1 w1) (h : OwnT w w0.heap.size e sz v n xs) (hk : Kp S w0 w) : Kp S w0 w1 :=
  hk.trans (ha.kp.mono fun k hk => .inr (h.ge k hk))
theorem wpList_appT {ops : Array Oper} {rest : List Oper} {o : Oper} {a : Act} {Q : Exit → Act → World → Prop} {bt : Nat} (hT : Ty e z sz bt) (hgd : o.guard = none) (s x : Operand) (t : TypeId)
    (ho : o.op = .call { callee := .builtin .append, args := #[s, x], argTypes := #[t, t] })
    (ht : Try.prog.underlying t = some (.slice e)) (hs : a.eval s = v) (h : OwnT w base e sz v n xs) (ad : Addr) (c : Nat) (hx : a.eval x = .slice (some ad) m c) (hN : Nws w ad m sz cs) (hlen : n + m ≤ 1000000) (hb : base ≤ w.heap.size)
    (hQ : ∀ A1 n1 c1 w1, n1 = n + m → AppT w base e sz v n xs m cs (.slice A1 n1 c1) w1 → wpList Try.prog ops Q rest (a.put o.dst (.slice A1 n1 c1)) w1) : wpList Try.prog ops Q (o :: rest) a w := by
  refine wpList_plain hgd fun K hK => ?_
  obtain ⟨v1, w1, hr, h1⟩ := run_appT hT t o.type ht h ad c hN hlen hb
  unfold Oper.wp execOp
  simp only [ho, resolve, invoke, builtin, Sem.run_bind, Sem.run_pure, Result.andThen_ok, List.map_toArray, List.map_cons, List.map_nil, hs, hx, hr]
  obtain ⟨A1, c1, rfl⟩ := h1.own.form
  exact hK _ _ (hQ A1 _ c1 w1 rfl h1)
theorem nws_one {u : Value} (h : w.cell? ⟨m, 0, none⟩ = some u) (h1 : u.oneCell' = true) : Nws w ⟨m, 0, none⟩ 1 1 [u] := by
  refine ⟨rfl, fun j x hx => ?_, fun x hx => by simp at hx; subst hx; exact h1⟩
  match j, hx with
  | 0, hx =>
    simp at hx
    subst hx
    rw [add_none]
    exact h
  | j + 1, hx => simp at hx
end

theorem nws_two {w : World} {m : Nat} {u0 u1 : Value} (h0 : w.cell? ⟨m, 0, none⟩ = some u0) (h1 : w.cell? ⟨m, 1, none⟩ = some u1) (o0 : u0.oneCell' = true) (o1 : u1.oneCell' = true) : Nws w ⟨m, 0, none⟩ 1 2 [u0, u1] := by
  refine ⟨rfl, fun j x hx => ?_, fun x hx => ?_⟩
  · match j, hx with
    | 0, hx => simp at hx; subst hx; rw [add_none]; exact h0
    | 1, hx => simp at hx; subst hx; rw [add_none]; exact h1
    | j + 2, hx => simp at hx
  · simp at hx
    rcases hx with rfl | rfl
    · exact o0
    · exact o1
theorem ownT_far {w : World} {b b' : Nat} {e e' : TypeId} {sz sz' n n' : Nat} {v v' : Value} {xs xs' : List Value} (h : OwnT w b e sz v n xs) (h' : OwnT w b' e' sz' v' n' xs') (hne : e ≠ e') {k : Nat} (hk : v.ownBlock = some k) : v'.ownBlock ≠ some k := fun hk' => by
  obtain ⟨c1, h1⟩ := h.kind hk
  obtain ⟨c2, h2⟩ := h'.kind hk'
  rw [h1] at h2
  injection h2 with h2
  injection h2 with h3 h4
  exact hne h4
theorem OwnT.len {w : World} {base : Nat} {e : TypeId} {sz r c n : Nat} {A : Option Addr} {xs : List Value} (h : OwnT w base e sz (.slice A r c) n xs) : r = n := by
  obtain ⟨A', c', e'⟩ := h.form
  injection e'
theorem OwnT.cellAt {w : World} {base : Nat} {e : TypeId} {sz r c n g : Nat} {xs : List Value} (h : OwnT w base e sz (.slice (some ⟨g, 0, none⟩) r c) n xs) {j : Nat} {u : Value} (hj : xs[j]? = some u) : w.cell? ⟨g, j, none⟩ = some u := by
  obtain ⟨g', e', _, _, _, hc⟩ := h.cell hj
  injection e' with e'
  injection e' with e'
  subst e'
  exact hc
theorem OwnT.some_ {w : World} {base c r : Nat} {e : TypeId} {A : Option Addr} {xs : List Value} {sz n : Nat} (h : OwnT w base e sz (.slice A r c) n xs) (hn : 0 < n) : ∃ g, A = some ⟨g, 0, none⟩ ∧ n = r := by
  rcases h.2 with ⟨_, e⟩ | ⟨g', cap, cur, e, _⟩
  · omega
  · injection e with e1 e2 e3
    exact ⟨g', e1, e2.symm⟩
theorem ownT_rebase {w : World} {base b n sz : Nat} {e : TypeId} {v : Value} {xs : List Value} (h : OwnT w base e sz v n xs) (hb : ∀ k, v.ownBlock = some k → b ≤ k) : OwnT w b e sz v n xs := by
  refine ⟨h.1, ?_⟩
  rcases h.2 with hn | ⟨g, cap, cur, rfl, _, r⟩
  · exact .inl hn
  · exact .inr ⟨g, cap, cur, rfl, hb g rfl, r⟩
end Go.Proofs.Ythicpblgonigcaa
