/- A row of bytes of the call's own: its block, its cells, one of them set. No condition; Rows of any type that the call made and appends to. No condition; Rows of the call's own, of any type: their block, an element set; rows of slices just made; slices.Clone of bytes. No condition. -/
import Derived.Test.YtndghapdpfgmoaaGreatVga
namespace Go.Proofs.YtndghapdpfgmoaaGreat
open Go.RowKit
set_option linter.unusedVariables false
set_option maxRecDepth 20000
set_option linter.unusedSimpArgs false

theorem Own.block {w : World} {base b L c : Nat} {bs : List UInt8} (h : Own w base 5 (.slice (some ⟨b, 0, none⟩) L c) bs) :
    ∃ cur : Array Value, w.heap[b]? = some (.cells cur 5 (0, 0)) ∧ L = bs.length ∧ L ≤ c ∧ c ≤ maxLen ∧ cur.size = c ∧ base ≤ b ∧ ∀ (k : Nat) x, bs[k]? = some x → cur[k]? = some (bv x) := by
  have hl := h.len
  rcases h.2 with ⟨e, _⟩ | ⟨g, cap, cur, e, hb, hg, h1, h2, h3, ht⟩
  · cases e
  · injection e with e1 e2 e3
    injection e1 with e1
    injection e1 with e1
    subst e1 e3
    refine ⟨cur, hg, hl, by omega, h2, by omega, hb, fun k x hk => ?_⟩
    have hkl : k < bs.length := (List.getElem?_eq_some_iff.1 hk).1
    have h4 : (cur.toList.take (bs.length * 1))[k]? = (bs.map bv)[k]? := by rw [ht]
    rw [List.getElem?_take, if_pos (by omega), Array.getElem?_toList, List.getElem?_map, hk] at h4
    exact h4
theorem Own.mk {w : World} {base b L c : Nat} {bs : List UInt8} {cur : Array Value} (hg : w.heap[b]? = some (.cells cur 5 (0, 0))) (hl : L = bs.length) (h1 : L ≤ c) (h2 : c ≤ maxLen) (h3 : cur.size = c) (hb : base ≤ b) (hx : ∀ (k : Nat) x, bs[k]? = some x → cur[k]? = some (bv x)) :
    Own w base 5 (.slice (some ⟨b, 0, none⟩) L c) bs := by
  refine ⟨by simp, .inr ⟨b, c, cur, by rw [hl], hb, hg, by omega, h2, by omega, ?_⟩⟩
  apply List.ext_getElem?
  intro k
  rw [List.getElem?_take, List.getElem?_map]
  by_cases e : k < bs.length
  · rw [if_pos (by omega), Array.getElem?_toList, hx k _ (List.getElem?_eq_getElem e), List.getElem?_eq_getElem e]
    rfl
  · rw [if_neg (by omega), List.getElem?_eq_none (by omega)]
    rfl
theorem Own.some_ {w : World} {base : Nat} {v : Value} {bs : List UInt8} (h : Own w base 5 v bs) (hn : 0 < bs.length) : ∃ b c, v = .slice (some ⟨b, 0, none⟩) bs.length c ∧ base ≤ b ∧ b < w.heap.size := by
  rcases h.2 with ⟨e, hz⟩ | ⟨g, cap, cur, e, hb, hg, _⟩
  · omega
  · exact ⟨g, cap, e, hb, (Array.getElem?_eq_some_iff.1 hg).1⟩
section
variable {w : World} {base b L c : Nat} {bs : List UInt8}
theorem Own.cellAt (h : Own w base 5 (.slice (some ⟨b, 0, none⟩) L c) bs) {k : Nat} {x : UInt8} (hk : bs[k]? = some x) : w.cell? ⟨b, k, none⟩ = some (.int .u8 (x.toNat : Int)) := by
  obtain ⟨cur, h1, _, _, _, _, _, h2⟩ := Own.block h
  rw [cell_of_row w b k _ _ _ h1, h2 k _ hk]
  rfl
theorem Own.frozenAt (h : Own w base 5 (.slice (some ⟨b, 0, none⟩) L c) bs) (k : Nat) : w.frozen? ⟨b, k, none⟩ = false := by
  obtain ⟨cur, h1, _⟩ := Own.block h
  exact frozen_of_row w b k _ _ h1
theorem Own.set (h : Own w base 5 (.slice (some ⟨b, 0, none⟩) L c) bs) {k : Nat} (hk : k < L) (x : UInt8) (v : Value) (hv : v = bv x) : Own (w.setCell ⟨b, k, none⟩ v) base 5 (.slice (some ⟨b, 0, none⟩) L c) (bs.set k x) := by
  subst hv
  obtain ⟨cur, h1, h2, h3, h4, h5, h6, h7⟩ := Own.block h
  refine Own.mk (cur := cur.setIfInBounds k (bv x)) (heap_setCell_same w b k cur _ _ h1) (by rw [List.length_set]; exact h2) h3 h4 (by rw [Array.size_setIfInBounds]; exact h5) h6 fun j y hj => ?_
  rw [List.getElem?_set] at hj
  rw [Array.getElem?_setIfInBounds]
  by_cases e : k = j
  · subst e
    rw [if_pos rfl, if_pos (by omega)] at hj
    injection hj with hj
    rw [if_pos rfl, if_pos (by omega), hj]
  · rw [if_neg e] at hj
    rw [if_neg e]
    exact h7 j _ hj
end
end Go.Proofs.YtndghapdpfgmoaaGreat
namespace Go.Proofs.YtndghapdpfgmoaaGreat
open Go.RowKit
set_option linter.unusedVariables false
set_option maxRecDepth 20000

/-- The type e takes sz cells and bt bytes, and is z when it is new. -/
structure Ty (e : TypeId) (z : Value) (sz bt : Nat) : Prop where
  ex : ∃ i, Tryz.prog.info? e = some i ∧ i.zero = some z ∧ i.size = sz ∧ i.bytes = bt
  zs : z.cells.size = sz
  s0 : 0 < sz
  b0 : bt ≤ 100
theorem ty_of {e : TypeId} {z : Value} {sz bt : Nat} (h : (Tryz.prog.info? e).map (fun i => (i.zero, i.size, i.bytes)) = some (some z, sz, bt)) (h2 : z.cells.size = sz) (h3 : 0 < sz) (h4 : bt ≤ 100) : Ty e z sz bt := by
  refine ⟨?_, h2, h3, h4⟩
  rcases hi : Tryz.prog.info? e with _ | i
  · rw [hi] at h; cases h
  · rw [hi] at h
    simp only [Option.map_some, Option.some.injEq, Prod.mk.injEq] at h
    exact ⟨i, rfl, h.1, h.2.1, h.2.2⟩
theorem ty_int : Ty 3 (.int .i64 0) 1 8 := ty_of (by kernel_rfl) rfl (by omega) (by omega)

/-- Cells that are appended. -/
structure Nws (w : World) (ad : Addr) (m sz : Nat) (cs : List Value) : Prop where
  len : cs.length = m * sz
  at_ : ∀ (j : Nat) u, cs[j]? = some u → w.cell? (ad.add j) = some u
  one : ∀ u ∈ cs, u.oneCell' = true
def OwnT (w : World) (base : Nat) (e : TypeId) (sz : Nat) (v : Value) (n : Nat) (xs : List Value) : Prop := w.ownsRow base e sz v n xs
section
variable {w w1 w2 : World} {S : Nat → Prop} {base : Nat} {e : TypeId} {sz n m : Nat} {v v1 z : Value} {xs cs : List Value}
theorem OwnT.nil (w : World) (base : Nat) (e : TypeId) (sz : Nat) : OwnT w base e sz (.slice none 0 0) 0 [] := World.ownsRow_nil w base e sz
theorem OwnT.lt (h : OwnT w base e sz v n xs) (k : Nat) (hk : v.ownBlock = some k) : k < w.heap.size := (World.ownsRow.lt h k hk).2
theorem OwnT.ge (h : OwnT w base e sz v n xs) (k : Nat) (hk : v.ownBlock = some k) : base ≤ k := (World.ownsRow.lt h k hk).1
theorem OwnT.keep (h : OwnT w base e sz v n xs) (hk : Kp S w w1) (hS : ∀ k, v.ownBlock = some k → ¬ S k) : OwnT w1 base e sz v n xs := by
  refine ⟨h.1, ?_⟩
  rcases h.2 with hn | ⟨g, cap, cur, rfl, hb, hg, r⟩
  · exact .inl hn
  · exact .inr ⟨g, cap, cur, rfl, hb, by rw [hk.block g (Array.getElem?_eq_some_iff.1 hg).1 (hS g rfl)]; exact hg, r⟩
theorem OwnT.no (h : OwnT w base e sz v n xs) (hk : Kp No w w1) : OwnT w1 base e sz v n xs := h.keep hk fun _ _ f => f
theorem OwnT.form (h : OwnT w base e sz v n xs) : ∃ A c, v = .slice A n c := by
  rcases h.2 with ⟨rfl, rfl⟩ | ⟨g, cap, cur, rfl, _⟩
  · exact ⟨none, 0, rfl⟩
  · exact ⟨_, _, rfl⟩
theorem OwnT.cell {A : Option Addr} {n' c j : Nat} (h : OwnT w base e sz (.slice A n' c) n xs) {u : Value} (hj : xs[j]? = some u) : ∃ g, A = some ⟨g, 0, none⟩ ∧ base ≤ g ∧ g < w.heap.size ∧ n ≤ c ∧ w.cell? ⟨g, j, none⟩ = some u := by
  have hjl : j < xs.length := (List.getElem?_eq_some_iff.1 hj).1
  rcases h.2 with ⟨h1, hn⟩ | ⟨g, cap, cur, h1, hb, hg, hc, _, _, ht⟩
  · have := h.1
    rw [hn, Nat.zero_mul] at this
    omega
  · injection h1 with h1 h2 h3
    subst h3
    refine ⟨g, h1, hb, (Array.getElem?_eq_some_iff.1 hg).1, hc, ?_⟩
    rw [cell_of_row w g j cur _ _ hg]
    have h2 : (cur.toList.take (n * sz))[j]? = xs[j]? := by rw [ht]
    rw [List.getElem?_take, if_pos (by rw [← h.1]; exact hjl), Array.getElem?_toList, hj] at h2
    exact h2
theorem OwnT.kind (h : OwnT w base e sz v n xs) {g : Nat} (hg : v.ownBlock = some g) : ∃ cur, w.heap[g]? = some (.cells cur e (0, 0)) := by
  rcases h.2 with ⟨rfl, _⟩ | ⟨g', cap, cur, rfl, _, h1, _⟩
  · cases hg
  · injection hg with hg
    subst hg
    exact ⟨cur, h1⟩
/-- What append leaves. -/
structure AppT (w : World) (base : Nat) (e : TypeId) (sz : Nat) (v : Value) (n : Nat) (xs : List Value) (m : Nat) (cs : List Value) (v1 : Value) (w1 : World) : Prop where
  own : OwnT w1 base e sz v1 (n + m) (xs ++ cs)
  kp : Kp (fun k => v.ownBlock = some k) w w1
  at_ : v1.ownBlock = v.ownBlock ∨ v1.ownBlock = some w.heap.size
theorem run_appT {bt : Nat} (hT : Ty e z sz bt) (t ty : TypeId) (ht : Tryz.prog.underlying t = some (.slice e)) (h : OwnT w base e sz v n xs) (ad : Addr) (c : Nat) (hN : Nws w ad m sz cs) (hlen : n + m ≤ 1000000) (hb : base ≤ w.heap.size) :
    ∃ v1 w1, (Builtin.append_ #[t, t] ty #[v, .slice (some ad) m c]).run Tryz.prog w = .ok v1 w1 ∧ AppT w base e sz v n xs m cs v1 w1 := by
  obtain ⟨⟨i0, hi0, hz0, hz1, hz2⟩, h1, h2, h3⟩ := hT
  have h5 : (n + m) * bt ≤ 1000000 * 100 := Nat.mul_le_mul hlen h3
  obtain ⟨v1, w1, hr, e1, e2, e3, e4⟩ := run_append_own_at (P := Tryz.prog) w base t ty e i0 z sz bt ht hi0 hz0 hz1 hz2 h1 h2 v n xs h ad m c cs hN.len hN.at_ hN.one (by simp only [maxLen]; omega) (by omega) hb
  exact ⟨v1, w1, hr, ⟨e1, Kp.grown e2, e4⟩⟩
theorem AppT.keeps {w0 : World} (ha : AppT w w0.heap.size e sz v n xs m cs v1 w1) (h : OwnT w w0.heap.size e sz v n xs) (hk : Kp S w0 w) : Kp S w0 w1 :=
  hk.trans (ha.kp.mono fun k hk => .inr (h.ge k hk))
theorem wpList_appT {ops : Array Oper} {rest : List Oper} {o : Oper} {a : Act} {Q : Exit → Act → World → Prop} {bt : Nat} (hT : Ty e z sz bt) (hgd : o.guard = none) (s x : Operand) (t : TypeId)
    (ho : o.op = .call { callee := .builtin .append, args := #[s, x], argTypes := #[t, t] })
    (ht : Tryz.prog.underlying t = some (.slice e)) (hs : a.eval s = v) (h : OwnT w base e sz v n xs) (ad : Addr) (c : Nat) (hx : a.eval x = .slice (some ad) m c) (hN : Nws w ad m sz cs) (hlen : n + m ≤ 1000000) (hb : base ≤ w.heap.size)
    (hQ : ∀ A1 n1 c1 w1, n1 = n + m → AppT w base e sz v n xs m cs (.slice A1 n1 c1) w1 → wpList Tryz.prog ops Q rest (a.put o.dst (.slice A1 n1 c1)) w1) : wpList Tryz.prog ops Q (o :: rest) a w := by
  refine wpList_plain hgd fun K hK => ?_
  obtain ⟨v1, w1, hr, h1⟩ := run_appT hT t o.type ht h ad c hN hlen hb
  unfold Oper.wp execOp
  simp only [ho, resolve, invoke, builtin, Sem.run_bind, Sem.run_pure, Result.andThen_ok, List.map_toArray, List.map_cons, List.map_nil, hs, hx, hr]
  obtain ⟨A1, c1, rfl⟩ := h1.own.form
  exact hK _ _ (hQ A1 _ c1 w1 rfl h1)
theorem step_appT {ops : Array Oper} {o : Oper} {a : Act} {Q : Exit → Act → World → Prop} {K : Act → World → Prop} {E : Prop} {bt : Nat} (hT : Ty e z sz bt) (hgd : o.guard = none) (s x : Operand) (t : TypeId)
    (ho : o.op = .call { callee := .builtin .append, args := #[s, x], argTypes := #[t, t] })
    (ht : Tryz.prog.underlying t = some (.slice e)) (hs : a.eval s = v) (h : OwnT w base e sz v n xs) (ad : Addr) (c : Nat) (hx : a.eval x = .slice (some ad) m c) (hN : Nws w ad m sz cs) (hlen : n + m ≤ 1000000) (hb : base ≤ w.heap.size)
    (hQ : ∀ A1 n1 c1 w1, n1 = n + m → AppT w base e sz v n xs m cs (.slice A1 n1 c1) w1 → K (a.put o.dst (.slice A1 n1 c1)) w1) : if Region.wanted o (yielded ops a.tmps) = true then Oper.wp Tryz.prog o a w K Q else E := by
  have hw : Region.wanted o (yielded ops a.tmps) = true := by simp [Region.wanted, hgd]
  rw [if_pos hw]
  obtain ⟨v1, w1, hr, h1⟩ := run_appT hT t o.type ht h ad c hN hlen hb
  obtain ⟨A1, c1, rfl⟩ := h1.own.form
  have hq := hQ A1 _ c1 w1 rfl h1
  unfold Oper.wp
  simp only [execOp, ho, resolve, invoke, builtin, Sem.run_bind, Sem.run_pure, Result.andThen_ok, List.map_toArray, List.map_cons, List.map_nil, hs, hx, hr]
  exact hq
theorem nws_one {u : Value} (h : w.cell? ⟨m, 0, none⟩ = some u) (h1 : u.oneCell' = true) : Nws w ⟨m, 0, none⟩ 1 1 [u] := by
  refine ⟨rfl, fun j x hx => ?_, fun x hx => by simp at hx; subst hx; exact h1⟩
  match j, hx with
  | 0, hx =>
    simp at hx
    subst hx
    rw [add_none]
    exact h
  | j + 1, hx => simp at hx
end

theorem nws_two {w : World} {m : Nat} {u0 u1 : Value} (h0 : w.cell? ⟨m, 0, none⟩ = some u0) (h1 : w.cell? ⟨m, 1, none⟩ = some u1) (o0 : u0.oneCell' = true) (o1 : u1.oneCell' = true) : Nws w ⟨m, 0, none⟩ 1 2 [u0, u1] := by
  refine ⟨rfl, fun j x hx => ?_, fun x hx => ?_⟩
  · match j, hx with
    | 0, hx => simp at hx; subst hx; rw [add_none]; exact h0
    | 1, hx => simp at hx; subst hx; rw [add_none]; exact h1
    | j + 2, hx => simp at hx
  · simp at hx
    rcases hx with rfl | rfl
    · exact o0
    · exact o1
theorem nws_none {w : World} (ad : Addr) (sz : Nat) : Nws w ad 0 sz [] := ⟨by simp, fun j u hj => by simp at hj, fun u hu => by simp at hu⟩
theorem ownT_far {w : World} {b b' : Nat} {e e' : TypeId} {sz sz' n n' : Nat} {v v' : Value} {xs xs' : List Value} (h : OwnT w b e sz v n xs) (h' : OwnT w b' e' sz' v' n' xs') (hne : e ≠ e') {k : Nat} (hk : v.ownBlock = some k) : v'.ownBlock ≠ some k := fun hk' => by
  obtain ⟨c1, h1⟩ := h.kind hk
  obtain ⟨c2, h2⟩ := h'.kind hk'
  rw [h1] at h2
  injection h2 with h2
  injection h2 with h3 h4
  exact hne h4
theorem nws_three {w : World} {m : Nat} {u0 u1 u2 : Value} (h0 : w.cell? ⟨m, 0, none⟩ = some u0) (h1 : w.cell? ⟨m, 1, none⟩ = some u1) (h2 : w.cell? ⟨m, 2, none⟩ = some u2) (o0 : u0.oneCell' = true) (o1 : u1.oneCell' = true) (o2 : u2.oneCell' = true) : Nws w ⟨m, 0, none⟩ 1 3 [u0, u1, u2] := by
  refine ⟨rfl, fun j x hx => ?_, fun x hx => ?_⟩
  · match j, hx with
    | 0, hx => simp at hx; subst hx; rw [add_none]; exact h0
    | 1, hx => simp at hx; subst hx; rw [add_none]; exact h1
    | 2, hx => simp at hx; subst hx; rw [add_none]; exact h2
    | j + 3, hx => simp at hx
  · simp at hx
    rcases hx with rfl | rfl | rfl
    · exact o0
    · exact o1
    · exact o2
/-- So many noughts. -/
def zi (n : Nat) : Array Value := madeCells (Value.int .i64 0).cells (n * 1)
theorem zi_size (n : Nat) : (zi n).size = n := by unfold zi; rw [size_madeCells, Nat.mul_one]
theorem zi_get {n j : Nat} (h : j < n) : (zi n)[j]? = some (.int .i64 ((0 : Nat) : Int)) := by
  have e : (zi n).toList = List.replicate n (.int .i64 0) := by unfold zi; rw [Nat.mul_one]; exact toList_madeCells_one _ _
  rw [← Array.getElem?_toList, e, List.getElem?_replicate, if_pos h]
  rfl
/-- make([]int, n). -/
theorem make_ints (w : World) (n : Nat) (x : Int) (hx : x = n) (hn : n ≤ 1000) :
    (Instr.makeSlice 157 (.int .i64 x) (.int .i64 x)).run Tryz.prog w = .ok (.slice (some ⟨w.heap.size, 0, none⟩) n n) (w.alloc (.cells (zi n) 3)) := by
  obtain ⟨⟨i0, hi0, hz0, hz1, hz2⟩, _⟩ := ty_int
  subst hx
  have := run_make (P := Tryz.prog) w 157 3 i0 (.int .i64 0) Tryz.underlying157 hi0 hz0 .i64 .i64 n n (by omega) (by omega) (by rw [hz2]; omega) (by omega)
  rw [hz1] at this
  simpa [zi] using this
theorem ty_slc : Ty 47 (.slice none 0 0) 1 24 := ty_of (by kernel_rfl) rfl (by omega) (by omega)
theorem OwnT.len {w : World} {base : Nat} {e : TypeId} {sz r c n : Nat} {A : Option Addr} {xs : List Value} (h : OwnT w base e sz (.slice A r c) n xs) : r = n := by
  obtain ⟨A', c', e'⟩ := h.form
  injection e'
theorem OwnT.cellAt {w : World} {base : Nat} {e : TypeId} {sz r c n g : Nat} {xs : List Value} (h : OwnT w base e sz (.slice (some ⟨g, 0, none⟩) r c) n xs) {j : Nat} {u : Value} (hj : xs[j]? = some u) : w.cell? ⟨g, j, none⟩ = some u := by
  obtain ⟨g', e', _, _, _, hc⟩ := h.cell hj
  injection e' with e'
  injection e' with e'
  subst e'
  exact hc
theorem OwnT.cap {w : World} {base g c r : Nat} {e : TypeId} {xs : List Value} {sz n : Nat} (h : OwnT w base e sz (.slice (some ⟨g, 0, none⟩) r c) n xs) : n ≤ c := by
  rcases h.2 with ⟨e, _⟩ | ⟨g', cap, cur, e, _, _, h1, _⟩
  · cases e
  · injection e with _ _ e3
    omega
theorem OwnT.some_ {w : World} {base c r : Nat} {e : TypeId} {A : Option Addr} {xs : List Value} {sz n : Nat} (h : OwnT w base e sz (.slice A r c) n xs) (hn : 0 < n) : ∃ g, A = some ⟨g, 0, none⟩ ∧ n = r := by
  rcases h.2 with ⟨_, e⟩ | ⟨g', cap, cur, e, _⟩
  · omega
  · injection e with e1 e2 e3
    exact ⟨g', e1, e2.symm⟩
theorem ownT_rebase {w : World} {base b n sz : Nat} {e : TypeId} {v : Value} {xs : List Value} (h : OwnT w base e sz v n xs) (hb : ∀ k, v.ownBlock = some k → b ≤ k) : OwnT w b e sz v n xs := by
  refine ⟨h.1, ?_⟩
  rcases h.2 with hn | ⟨g, cap, cur, rfl, _, r⟩
  · exact .inl hn
  · exact .inr ⟨g, cap, cur, rfl, hb g rfl, r⟩
end Go.Proofs.YtndghapdpfgmoaaGreat
namespace Go.Proofs.YtndghapdpfgmoaaGreat
open Go.RowKit
set_option linter.unusedVariables false
set_option maxRecDepth 20000
set_option linter.unusedSimpArgs false

section
variable {w : World} {base g r c n sz k : Nat} {e : TypeId} {xs : List Value}
theorem OwnT.row (h : OwnT w base e sz (.slice (some ⟨g, 0, none⟩) r c) n xs) : ∃ cur : Array Value, w.heap[g]? = some (.cells cur e (0, 0)) ∧ base ≤ g ∧ n ≤ c ∧ c ≤ maxLen ∧ cur.size = c * sz ∧ cur.toList.take (n * sz) = xs ∧ r = n := by
  rcases h.2 with ⟨e, _⟩ | ⟨g', cap, cur, e, h1, h2, h3, h4, h5, h6⟩
  · cases e
  · injection e with e1 e2 e3
    injection e1 with e1
    injection e1 with e1
    subst e1 e3
    exact ⟨cur, h2, h1, h3, h4, h5, h6, e2⟩
theorem OwnT.frozenAt (h : OwnT w base e sz (.slice (some ⟨g, 0, none⟩) r c) n xs) (k : Nat) : w.frozen? ⟨g, k, none⟩ = false := by
  obtain ⟨cur, h1, _⟩ := h.row
  exact frozen_of_row w g k _ _ h1
theorem OwnT.blk (h : OwnT w base e sz (.slice (some ⟨g, 0, none⟩) r c) n xs) : g < w.heap.size := h.lt g rfl
/-- One element, of one cell, is set. -/
theorem OwnT.set1 (h : OwnT w base e 1 (.slice (some ⟨g, 0, none⟩) r c) n xs) (hk : k < n) (v : Value) : OwnT (w.setCell ⟨g, k, none⟩ v) base e 1 (.slice (some ⟨g, 0, none⟩) r c) n (xs.set k v) := by
  obtain ⟨cur, h2, h1, h3, h4, h5, h6, h7⟩ := h.row
  refine ⟨by rw [List.length_set]; exact h.1, .inr ⟨g, c, cur.setIfInBounds k v, by rw [h7], h1, heap_setCell_same w g k cur _ _ h2, h3, h4, by rw [Array.size_setIfInBounds]; exact h5, ?_⟩⟩
  rw [Array.toList_setIfInBounds, ← h6, List.take_set]
/-- A row of another type lies elsewhere. -/
theorem OwnT.off (h : OwnT w base e sz (.slice (some ⟨g, 0, none⟩) r c) n xs) {b2 sz2 n2 : Nat} {e2 : TypeId} {v2 : Value} {xs2 : List Value} (h2 : OwnT w b2 e2 sz2 v2 n2 xs2) (hne : e2 ≠ e) : v2.ownBlock ≠ some g := fun hk => ownT_far h2 h hne hk rfl
theorem OwnT.offB (h : OwnT w base e sz (.slice (some ⟨g, 0, none⟩) r c) n xs) {b2 : Nat} {v2 : Value} {bs : List UInt8} (h2 : Own w b2 5 v2 bs) (hne : 5 ≠ e) : v2.ownBlock ≠ some g := fun hk => ownT_far (e := 5) (sz := 1) (n := bs.length) (xs := bs.map bv) h2 h hne hk rfl
/-- A row lies in no block of another type. -/
theorem OwnT.not_at {v : Value} {t : TypeId} {cs : Array Value} (h : OwnT w base e sz v n xs) (hg : w.heap[g]? = some (.cells cs t (0, 0))) (ht : t ≠ e) : v.ownBlock ≠ some g := fun hk => by
  obtain ⟨cur, h1⟩ := h.kind hk
  rw [h1] at hg
  injection hg with hg
  injection hg with _ hg _
  exact ht hg.symm
end

theorem own_ne_at {w : World} {base g : Nat} {v : Value} {bs : List UInt8} {t : TypeId} {cs : Array Value} (h : Own w base 5 v bs) (hg : w.heap[g]? = some (.cells cs t (0, 0))) (ht : t ≠ 5) : v.ownBlock ≠ some g :=
  OwnT.not_at (e := 5) (sz := 1) (n := bs.length) (xs := bs.map bv) h hg ht

theorem Own.cap {w : World} {base n c : Nat} {e : TypeId} {A : Option Addr} {bs : List UInt8} (h : Own w base e (.slice A n c) bs) : n ≤ c := by
  rcases h.2 with ⟨e1, hn⟩ | ⟨g, cap, cur, e1, _, _, h1, _⟩
  · injection e1 with _ e2 e3; omega
  · injection e1 with _ e2 e3; omega
/-- So many nil slices. -/
def zsl (n : Nat) : Array Value := madeCells (Value.slice none 0 0).cells (n * 1)
theorem zsl_list (n : Nat) : (zsl n).toList = List.replicate n (.slice none 0 0) := by unfold zsl; rw [Nat.mul_one]; exact toList_madeCells_one _ _
theorem zsl_size (n : Nat) : (zsl n).size = n := by unfold zsl; rw [size_madeCells, Nat.mul_one]
/-- make([][]byte, n). -/
theorem make_slcs (w : World) (n : Nat) (x : Int) (hx : x = n) (hn : n ≤ 100000) :
    (Instr.makeSlice 32 (.int .i64 x) (.int .i64 x)).run Tryz.prog w = .ok (.slice (some ⟨w.heap.size, 0, none⟩) n n) (w.alloc (.cells (zsl n) 47)) := by
  obtain ⟨⟨i0, hi0, hz0, hz1, hz2⟩, _⟩ := ty_slc
  subst hx
  have := run_make (P := Tryz.prog) w 32 47 i0 (.slice none 0 0) Tryz.underlying32 hi0 hz0 .i64 .i64 n n (by omega) (by omega) (by rw [hz2]; omega) (by omega)
  rw [hz1] at this
  simpa [zsl] using this
theorem ownT_slcs (w : World) (base n : Nat) (hb : base ≤ w.heap.size) (hn : n ≤ 100000) : OwnT (w.alloc (.cells (zsl n) 47)) base 47 1 (.slice (some ⟨w.heap.size, 0, none⟩) n n) n (List.replicate n (.slice none 0 0)) :=
  ⟨by simp, .inr ⟨w.heap.size, n, zsl n, rfl, hb, heap_alloc_new w _, Nat.le_refl _, by unfold maxLen; omega, by rw [zsl_size]; omega, by rw [zsl_list, Nat.mul_one, List.take_of_length_le (by simp)]⟩⟩
/-- A row just made with no elements. -/
theorem ownT_none (w : World) (e : TypeId) (sz : Nat) : OwnT (w.alloc (.cells #[] e)) w.heap.size e sz (.slice (some ⟨w.heap.size, 0, none⟩) 0 0) 0 [] := World.ownsRow_made w #[] 0 (Nat.le_refl _) (Nat.zero_le _) (by simp)
theorem ownT_base0 {w : World} {base n sz : Nat} {e : TypeId} {v : Value} {xs : List Value} (h : OwnT w base e sz v n xs) : OwnT w 0 e sz v n xs := ownT_rebase h fun _ _ => Nat.zero_le _

theorem sclone_any {w : World} {bs : List UInt8} {u : Value} (hu : Bts w u bs) (hl : bs.length ≤ 900000000) : Calls Tryz.prog 45 #[u] w (OwnPost w bs) := by
  obtain ⟨i0, hi0, hz0, hz1, hz2⟩ := byte_parts
  obtain ⟨A, n, c, rfl⟩ := hu.form
  have hq := fun (w : World) (a : Option Addr) (n c : Nat) => Lib.run_eql_slice_nil (P := Tryz.prog) w 47 5 a n c 0 0 Tryz.underlying47
  rcases A with _ | ad
  · have hb : bs = [] ∧ n = 0 ∧ c = 0 := by
      obtain ⟨A', c', e, hn, _⟩ := hu
      injection e with e1 e2 e3
      subst e1 e2 e3
      exact ⟨(hn rfl).1, by simp [(hn rfl).1], (hn rfl).2⟩
    obtain ⟨rfl, rfl, rfl⟩ := hb
    go_enter Tryz.func45, Tryz.ntmps45
    go_wp2
    go_ret
    exact ⟨none, 0, 0, rfl, Own.nil _ _ _, Kp.refl _ _⟩
  · go_enter Tryz.func45, Tryz.ntmps45
    go_wp2_with (first
      | (at_builtin
         refine wpList_app rfl (.tmp 5) (.tmp 6) _ rfl i0 Tryz.underlying47 hi0 hz0 hz1 hz2 rfl (own_empty w) rfl (hu.keep (Kp.alloc No w _) fun _ _ f => f) (by simp; omega) (by simp) ?_
         intro A1 n1 c1 w1 ha))
    go_ret
    exact ⟨A1, n1, c1, rfl, by simpa using ha.own, ha.keeps (own_empty w) (Kp.alloc No w _)⟩
end Go.Proofs.YtndghapdpfgmoaaGreat
