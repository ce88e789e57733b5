/- Rows of any type that the call made and appends to, and rows of rows of whole numbers. No condition. -/
import Derived.Test.YtbkelijmdpoanaaSs
import Derived.Test.YtbkelijmdpoanaaOi
namespace Go.Proofs.Ytbkelijmdpoanaa
open Go.RowKit
set_option linter.unusedVariables false
set_option maxRecDepth 20000

/-- The type e takes sz cells and bt bytes, and is z when it is new. -/
structure Ty (e : TypeId) (z : Value) (sz bt : Nat) : Prop where
  ex : ∃ i, Try.prog.info? e = some i ∧ i.zero = some z ∧ i.size = sz ∧ i.bytes = bt
  zs : z.cells.size = sz
  s0 : 0 < sz
  b0 : bt ≤ 100
theorem ty_of {e : TypeId} {z : Value} {sz bt : Nat} (h : (Try.prog.info? e).map (fun i => (i.zero, i.size, i.bytes)) = some (some z, sz, bt)) (h2 : z.cells.size = sz) (h3 : 0 < sz) (h4 : bt ≤ 100) : Ty e z sz bt := by
  refine ⟨?_, h2, h3, h4⟩
  rcases hi : Try.prog.info? e with _ | i
  · rw [hi] at h; cases h
  · rw [hi] at h
    simp only [Option.map_some, Option.some.injEq, Prod.mk.injEq] at h
    exact ⟨i, rfl, h.1, h.2.1, h.2.2⟩
theorem ty_int : Ty 3 (.int .i64 0) 1 8 := ty_of (by kernel_rfl) rfl (by omega) (by omega)
theorem ty_ints : Ty 43 (.slice none 0 0) 1 24 := ty_of (by kernel_rfl) rfl (by omega) (by omega)
theorem ty_slc : Ty 29 (.slice none 0 0) 1 24 := ty_of (by kernel_rfl) rfl (by omega) (by omega)

/-- Cells that are appended. -/
structure Nws (w : World) (ad : Addr) (m sz : Nat) (cs : List Value) : Prop where
  len : cs.length = m * sz
  at_ : ∀ (j : Nat) u, cs[j]? = some u → w.cell? (ad.add j) = some u
  one : ∀ u ∈ cs, u.oneCell' = true
def OwnT (w : World) (base : Nat) (e : TypeId) (sz : Nat) (v : Value) (n : Nat) (xs : List Value) : Prop := w.ownsRow base e sz v n xs
section
variable {w w1 w2 : World} {S : Nat → Prop} {base : Nat} {e : TypeId} {sz n m : Nat} {v v1 z : Value} {xs cs : List Value}
theorem OwnT.nil (w : World) (base : Nat) (e : TypeId) (sz : Nat) : OwnT w base e sz (.slice none 0 0) 0 [] := World.ownsRow_nil w base e sz
theorem OwnT.lt (h : OwnT w base e sz v n xs) (k : Nat) (hk : v.ownBlock = some k) : k < w.heap.size := (World.ownsRow.lt h k hk).2
theorem OwnT.ge (h : OwnT w base e sz v n xs) (k : Nat) (hk : v.ownBlock = some k) : base ≤ k := (World.ownsRow.lt h k hk).1
theorem OwnT.keep (h : OwnT w base e sz v n xs) (hk : Kp S w w1) (hS : ∀ k, v.ownBlock = some k → ¬ S k) : OwnT w1 base e sz v n xs := by
  refine ⟨h.1, ?_⟩
  rcases h.2 with hn | ⟨g, cap, cur, rfl, hb, hg, r⟩
  · exact .inl hn
  · exact .inr ⟨g, cap, cur, rfl, hb, by rw [hk.block g (Array.getElem?_eq_some_iff.1 hg).1 (hS g rfl)]; exact hg, r⟩
theorem OwnT.no (h : OwnT w base e sz v n xs) (hk : Kp No w w1) : OwnT w1 base e sz v n xs := h.keep hk fun _ _ f => f
theorem OwnT.form (h : OwnT w base e sz v n xs) : ∃ A c, v = .slice A n c := by
  rcases h.2 with ⟨rfl, rfl⟩ | ⟨g, cap, cur, rfl, _⟩
  · exact ⟨none, 0, rfl⟩
  · exact ⟨_, _, rfl⟩
theorem OwnT.cell {A : Option Addr} {n' c j : Nat} (h : OwnT w base e sz (.slice A n' c) n xs) {u : Value} (hj : xs[j]? = some u) : ∃ g, A = some ⟨g, 0, none⟩ ∧ base ≤ g ∧ g < w.heap.size ∧ n ≤ c ∧ w.cell? ⟨g, j, none⟩ = some u := by
  have hjl : j < xs.length := (List.getElem?_eq_some_iff.1 hj).1
  rcases h.2 with ⟨h1, hn⟩ | ⟨g, cap, cur, h1, hb, hg, hc, _, _, ht⟩
  · have := h.1
    rw [hn, Nat.zero_mul] at this
    omega
  · injection h1 with h1 h2 h3
    subst h3
    refine ⟨g, h1, hb, (Array.getElem?_eq_some_iff.1 hg).1, hc, ?_⟩
    rw [cell_of_row w g j cur _ _ hg]
    have h2 : (cur.toList.take (n * sz))[j]? = xs[j]? := by rw [ht]
    rw [List.getElem?_take, if_pos (by rw [← h.1]; exact hjl), Array.getElem?_toList, hj] at h2
    exact h2
theorem OwnT.kind (h : OwnT w base e sz v n xs) {g : Nat} (hg : v.ownBlock = some g) : ∃ cur, w.heap[g]? = some (.cells cur e (0, 0)) := by
  rcases h.2 with ⟨rfl, _⟩ | ⟨g', cap, cur, rfl, _, h1, _⟩
  · cases hg
  · injection hg with hg
    subst hg
    exact ⟨cur, h1⟩
/-- What append leaves. -/
structure AppT (w : World) (base : Nat) (e : TypeId) (sz : Nat) (v : Value) (n : Nat) (xs : List Value) (m : Nat) (cs : List Value) (v1 : Value) (w1 : World) : Prop where
  own : OwnT w1 base e sz v1 (n + m) (xs ++ cs)
  kp : Kp (fun k => v.ownBlock = some k) w w1
  at_ : v1.ownBlock = v.ownBlock ∨ v1.ownBlock = some w.heap.size
theorem run_appT {bt : Nat} (hT : Ty e z sz bt) (t ty : TypeId) (ht : Try.prog.underlying t = some (.slice e)) (h : OwnT w base e sz v n xs) (ad : Addr) (c : Nat) (hN : Nws w ad m sz cs) (hlen : n + m ≤ 1000000) (hb : base ≤ w.heap.size) :
    ∃ v1 w1, (Builtin.append_ #[t, t] ty #[v, .slice (some ad) m c]).run Try.prog w = .ok v1 w1 ∧ AppT w base e sz v n xs m cs v1 w1 := by
  obtain ⟨⟨i0, hi0, hz0, hz1, hz2⟩, h1, h2, h3⟩ := hT
  have h5 : (n + m) * bt ≤ 1000000 * 100 := Nat.mul_le_mul hlen h3
  obtain ⟨v1, w1, hr, e1, e2, e3, e4⟩ := run_append_own_at (P := Try.prog) w base t ty e i0 z sz bt ht hi0 hz0 hz1 hz2 h1 h2 v n xs h ad m c cs hN.len hN.at_ hN.one (by simp only [maxLen]; omega) (by omega) hb
  exact ⟨v1, w1, hr, ⟨e1, Kp.grown e2, e4⟩⟩
theorem AppT.keeps {w0 : World} (ha : AppT w w0.heap.size e sz v n xs m cs v1 w1) (h : OwnT w w0.heap.size e sz v n xs) (hk : Kp S w0 w) : Kp S w0 w1 :=
  hk.trans (ha.kp.mono fun k hk => .inr (h.ge k hk))
theorem wpList_appT {ops : Array Oper} {rest : List Oper} {o : Oper} {a : Act} {Q : Exit → Act → World → Prop} {bt : Nat} (hT : Ty e z sz bt) (hgd : o.guard = none) (s x : Operand) (t : TypeId)
    (ho : o.op = .call { callee := .builtin .append, args := #[s, x], argTypes := #[t, t] })
    (ht : Try.prog.underlying t = some (.slice e)) (hs : a.eval s = v) (h : OwnT w base e sz v n xs) (ad : Addr) (c : Nat) (hx : a.eval x = .slice (some ad) m c) (hN : Nws w ad m sz cs) (hlen : n + m ≤ 1000000) (hb : base ≤ w.heap.size)
    (hQ : ∀ A1 n1 c1 w1, n1 = n + m → AppT w base e sz v n xs m cs (.slice A1 n1 c1) w1 → wpList Try.prog ops Q rest (a.put o.dst (.slice A1 n1 c1)) w1) : wpList Try.prog ops Q (o :: rest) a w := by
  refine wpList_plain hgd fun K hK => ?_
  obtain ⟨v1, w1, hr, h1⟩ := run_appT hT t o.type ht h ad c hN hlen hb
  unfold Oper.wp execOp
  simp only [ho, resolve, invoke, builtin, Sem.run_bind, Sem.run_pure, Result.andThen_ok, List.map_toArray, List.map_cons, List.map_nil, hs, hx, hr]
  obtain ⟨A1, c1, rfl⟩ := h1.own.form
  exact hK _ _ (hQ A1 _ c1 w1 rfl h1)
theorem step_appT {ops : Array Oper} {o : Oper} {a : Act} {Q : Exit → Act → World → Prop} {K : Act → World → Prop} {E : Prop} {bt : Nat} (hT : Ty e z sz bt) (hgd : o.guard = none) (s x : Operand) (t : TypeId)
    (ho : o.op = .call { callee := .builtin .append, args := #[s, x], argTypes := #[t, t] })
    (ht : Try.prog.underlying t = some (.slice e)) (hs : a.eval s = v) (h : OwnT w base e sz v n xs) (ad : Addr) (c : Nat) (hx : a.eval x = .slice (some ad) m c) (hN : Nws w ad m sz cs) (hlen : n + m ≤ 1000000) (hb : base ≤ w.heap.size)
    (hQ : ∀ A1 n1 c1 w1, n1 = n + m → AppT w base e sz v n xs m cs (.slice A1 n1 c1) w1 → K (a.put o.dst (.slice A1 n1 c1)) w1) : if Region.wanted o (yielded ops a.tmps) = true then Oper.wp Try.prog o a w K Q else E := by
  have hw : Region.wanted o (yielded ops a.tmps) = true := by simp [Region.wanted, hgd]
  rw [if_pos hw]
  obtain ⟨v1, w1, hr, h1⟩ := run_appT hT t o.type ht h ad c hN hlen hb
  obtain ⟨A1, c1, rfl⟩ := h1.own.form
  have hq := hQ A1 _ c1 w1 rfl h1
  unfold Oper.wp
  simp only [execOp, ho, resolve, invoke, builtin, Sem.run_bind, Sem.run_pure, Result.andThen_ok, List.map_toArray, List.map_cons, List.map_nil, hs, hx, hr]
  exact hq
theorem nws_one {u : Value} (h : w.cell? ⟨m, 0, none⟩ = some u) (h1 : u.oneCell' = true) : Nws w ⟨m, 0, none⟩ 1 1 [u] := by
  refine ⟨rfl, fun j x hx => ?_, fun x hx => by simp at hx; subst hx; exact h1⟩
  match j, hx with
  | 0, hx =>
    simp at hx
    subst hx
    rw [add_none]
    exact h
  | j + 1, hx => simp at hx
end

/-- So many noughts. -/
def zi (n : Nat) : Array Value := madeCells (Value.int .i64 0).cells (n * 1)
theorem zi_size (n : Nat) : (zi n).size = n := by unfold zi; rw [size_madeCells, Nat.mul_one]
theorem zi_get {n j : Nat} (h : j < n) : (zi n)[j]? = some (.int .i64 ((0 : Nat) : Int)) := by
  have e : (zi n).toList = List.replicate n (.int .i64 0) := by unfold zi; rw [Nat.mul_one]; exact toList_madeCells_one _ _
  rw [← Array.getElem?_toList, e, List.getElem?_replicate, if_pos h]
  rfl
theorem zr_size (n : Nat) : (zr n).size = n := by unfold zr; rw [size_madeCells, Nat.mul_one]
/-- make([]int, n). -/
theorem make_ints (w : World) (n : Nat) (x : Int) (hx : x = n) (hn : n ≤ 1000) :
    (Instr.makeSlice 43 (.int .i64 x) (.int .i64 x)).run Try.prog w = .ok (.slice (some ⟨w.heap.size, 0, none⟩) n n) (w.alloc (.cells (zi n) 3)) := by
  obtain ⟨⟨i0, hi0, hz0, hz1, hz2⟩, _⟩ := ty_int
  subst hx
  have := run_make (P := Try.prog) w 43 3 i0 (.int .i64 0) Try.underlying43 hi0 hz0 .i64 .i64 n n (by omega) (by omega) (by rw [hz2]; omega) (by omega)
  rw [hz1] at this
  simpa [zi] using this
/-- make([][]int, n). -/
theorem make_irows (w : World) (n : Nat) (x : Int) (hx : x = n) (hn : n ≤ 1000) :
    (Instr.makeSlice 52 (.int .i64 x) (.int .i64 x)).run Try.prog w = .ok (.slice (some ⟨w.heap.size, 0, none⟩) n n) (w.alloc (.cells (zr n) 43)) := by
  obtain ⟨⟨i0, hi0, hz0, hz1, hz2⟩, _⟩ := ty_ints
  subst hx
  have := run_make (P := Try.prog) w 52 43 i0 (.slice none 0 0) Try.underlying52 hi0 hz0 .i64 .i64 n n (by omega) (by omega) (by rw [hz2]; omega) (by omega)
  rw [hz1] at this
  simpa [zr] using this

/-- Rows of whole numbers, each row a block of its own: the block g (of m slices at least) leads to the first n of them. -/
structure GrI (w : World) (base g m n L : Nat) (bl : Nat → Nat) (f : Nat → Nat → Nat) : Prop where
  out : ∃ cur : Array Value, w.heap[g]? = some (.cells cur 43 (0, 0)) ∧ m ≤ cur.size ∧ ∀ j, j < n → cur[j]? = some (.slice (some ⟨bl j, 0, none⟩) L L)
  row : ∀ j, j < n → ∃ cur : Array Value, w.heap[bl j]? = some (.cells cur 3 (0, 0)) ∧ cur.size = L ∧ ∀ k, k < L → cur[k]? = some (.int .i64 (f j k : Int))
  inj : ∀ i j, i < n → j < n → bl i = bl j → i = j
  bas : ∀ j, j < n → base ≤ bl j
  bg : base ≤ g
def set2 (f : Nat → Nat → Nat) (i k z a b : Nat) : Nat := if a = i ∧ b = k then z else f a b
section
variable {w w1 : World} {S : Nat → Prop} {base g m n L : Nat} {bl : Nat → Nat} {f f' : Nat → Nat → Nat}
theorem GrI.keep (h : GrI w base g m n L bl f) (hk : Kp S w w1) (hg : ¬ S g) (hb : ∀ j, j < n → ¬ S (bl j)) : GrI w1 base g m n L bl f := by
  refine ⟨?_, fun j hj => ?_, h.inj, h.bas, h.bg⟩
  · obtain ⟨cur, h1, h2⟩ := h.out
    exact ⟨cur, by rw [hk.block g (Array.getElem?_eq_some_iff.1 h1).1 hg]; exact h1, h2⟩
  · obtain ⟨cur, h1, h2⟩ := h.row j hj
    exact ⟨cur, by rw [hk.block (bl j) (Array.getElem?_eq_some_iff.1 h1).1 (hb j hj)]; exact h1, h2⟩
theorem GrI.no (h : GrI w base g m n L bl f) (hk : Kp No w w1) : GrI w1 base g m n L bl f := h.keep hk (fun f => f) fun _ _ f => f
theorem GrI.eq (h : GrI w base g m n L bl f) (he : ∀ j k, j < n → k < L → f j k = f' j k) : GrI w base g m n L bl f' :=
  ⟨h.out, fun j hj => by
    obtain ⟨cur, h1, h2, h3⟩ := h.row j hj
    exact ⟨cur, h1, h2, fun k hk => by rw [← he j k hj hk]; exact h3 k hk⟩, h.inj, h.bas, h.bg⟩
theorem GrI.outer (h : GrI w base g m n L bl f) {j : Nat} (hj : j < n) : w.cell? ⟨g, j, none⟩ = some (.slice (some ⟨bl j, 0, none⟩) L L) := by
  obtain ⟨cur, h1, _, h3⟩ := h.out
  rw [cell_of_row w g j cur _ _ h1, h3 j hj]
theorem GrI.cell (h : GrI w base g m n L bl f) {j k : Nat} (hj : j < n) (hk : k < L) : w.cell? ⟨bl j, k, none⟩ = some (.int .i64 (f j k : Int)) := by
  obtain ⟨cur, h1, _, h3⟩ := h.row j hj
  rw [cell_of_row w _ k cur _ _ h1, h3 k hk]
theorem GrI.frozen (h : GrI w base g m n L bl f) {j : Nat} (hj : j < n) (k : Nat) : w.frozen? ⟨bl j, k, none⟩ = false := by
  obtain ⟨cur, h1, _, _⟩ := h.row j hj
  exact frozen_of_row w _ k _ _ h1
theorem GrI.frozen0 (h : GrI w base g m n L bl f) (k : Nat) : w.frozen? ⟨g, k, none⟩ = false := by
  obtain ⟨cur, h1, _, _⟩ := h.out
  exact frozen_of_row w _ k _ _ h1
theorem GrI.cell0 (h : GrI w base g m n L bl f) {j : Nat} (hj : j < m) : ∃ v, w.cell? ⟨g, j, none⟩ = some v := by
  obtain ⟨cur, h1, h2, _⟩ := h.out
  rw [cell_of_row w g j cur _ _ h1]
  exact ⟨_, Array.getElem?_eq_getElem (by omega)⟩
theorem GrI.ne (h : GrI w base g m n L bl f) {j : Nat} (hj : j < n) : bl j ≠ g := by
  intro e
  obtain ⟨cur, h1, _⟩ := h.row j hj
  obtain ⟨cur2, h2, _⟩ := h.out
  rw [e, h2] at h1
  injection h1 with h1
  injection h1 with h3 h4
  exact absurd h4 (by decide)
theorem GrI.lt (h : GrI w base g m n L bl f) {j : Nat} (hj : j < n) : bl j < w.heap.size := by
  obtain ⟨cur, h1, _⟩ := h.row j hj
  exact (Array.getElem?_eq_some_iff.1 h1).1
theorem GrI.glt (h : GrI w base g m n L bl f) : g < w.heap.size := by
  obtain ⟨cur, h1, _⟩ := h.out
  exact (Array.getElem?_eq_some_iff.1 h1).1
theorem GrI.set (h : GrI w base g m n L bl f) {i k : Nat} (hi : i < n) (hk : k < L) (z : Nat) (u : Value) (hu : u = .int .i64 (z : Int)) : GrI (w.setCell ⟨bl i, k, none⟩ u) base g m n L bl (set2 f i k z) := by
  subst hu
  refine ⟨?_, fun j hj => ?_, h.inj, h.bas, h.bg⟩
  · obtain ⟨cur, h1, h2⟩ := h.out
    exact ⟨cur, by rw [heap_setCell_other _ _ _ _ (fun e => h.ne hi e.symm)]; exact h1, h2⟩
  · obtain ⟨cur, h1, h2, h3⟩ := h.row j hj
    by_cases e : j = i
    · subst e
      refine ⟨cur.setIfInBounds k (.int .i64 (z : Int)), heap_setCell_same w _ k cur _ _ h1, by rw [Array.size_setIfInBounds]; exact h2, fun q hq => ?_⟩
      rw [Array.getElem?_setIfInBounds]
      unfold set2
      by_cases e2 : k = q
      · subst e2
        rw [if_pos rfl, if_pos (by omega), if_pos ⟨rfl, rfl⟩]
      · rw [if_neg e2, if_neg (fun e' => e2 e'.2.symm)]
        exact h3 q hq
    · refine ⟨cur, by rw [heap_setCell_other _ _ _ _ (fun e' => e (h.inj j i hj hi e'))]; exact h1, h2, fun q hq => ?_⟩
      unfold set2
      rw [if_neg (fun e' => e e'.1)]
      exact h3 q hq
theorem GrI.kpset (h : GrI w base g m n L bl f) {i : Nat} (hi : i < n) (k : Nat) (u : Value) : Kp (fun q => base ≤ q) w (w.setCell ⟨bl i, k, none⟩ u) := Kp.setCell (p := ⟨bl i, k, none⟩) (S := fun q => base ≤ q) (h.bas i hi) u
/-- One row more, laid into its place. -/
theorem GrI.put (h : GrI w base g m n L bl fun _ _ => 0) (hn : n < m) (hb : base ≤ w.heap.size) :
    GrI ((w.alloc (.cells (zi L) 3)).setCell ⟨g, n, none⟩ (.slice (some ⟨w.heap.size, 0, none⟩) L L)) base g m (n + 1) L (upd bl n w.heap.size) fun _ _ => 0 := by
  have h2 := h.no (Kp.alloc No w (.cells (zi L) 3))
  have hg := h.glt
  have hlt : ∀ j, j < n → bl j < w.heap.size := fun j hj => h.lt hj
  refine ⟨?_, fun j hj => ?_, fun i j hi hj e => ?_, fun j hj => ?_, h.bg⟩
  · obtain ⟨cur, h1, h3, h4⟩ := h2.out
    refine ⟨_, heap_setCell_same _ g n cur _ _ h1, by rw [Array.size_setIfInBounds]; exact h3, fun j hj => ?_⟩
    rw [Array.getElem?_setIfInBounds]
    unfold upd
    by_cases e : n = j
    · subst e
      rw [if_pos rfl, if_pos (by omega), if_pos rfl]
    · rw [if_neg e, if_neg (fun e' => e e'.symm)]
      exact h4 j (by omega)
  · unfold upd
    by_cases e : j = n
    · subst e
      rw [if_pos rfl]
      refine ⟨zi L, ?_, zi_size L, fun k hk => zi_get hk⟩
      rw [heap_setCell_other _ _ _ _ (by show w.heap.size ≠ g; omega)]
      exact heap_alloc_new w _
    · rw [if_neg e]
      obtain ⟨cur, h1, h3, h4⟩ := h2.row j (by omega)
      exact ⟨cur, by rw [heap_setCell_other _ _ _ _ (h2.ne (by omega))]; exact h1, h3, h4⟩
  · unfold upd at e
    by_cases e1 : i = n <;> by_cases e2 : j = n
    · omega
    · rw [if_pos e1, if_neg e2] at e
      have := hlt j (by omega)
      omega
    · rw [if_neg e1, if_pos e2] at e
      have := hlt i (by omega)
      omega
    · rw [if_neg e1, if_neg e2] at e
      exact h.inj i j (by omega) (by omega) e
  · unfold upd
    by_cases e : j = n
    · rw [if_pos e]; exact hb
    · rw [if_neg e]; exact h.bas j (by omega)
theorem GrI.new (w : World) (m L : Nat) : GrI (w.alloc (.cells (zr m) 43)) w.heap.size w.heap.size m 0 L (fun _ => 0) fun _ _ => 0 :=
  ⟨⟨zr m, heap_alloc_new w _, by rw [zr_size]; exact Nat.le_refl _, fun j hj => absurd hj (Nat.not_lt_zero _)⟩, fun j hj => absurd hj (Nat.not_lt_zero _), fun i j hi => absurd hi (Nat.not_lt_zero _), fun j hj => absurd hj (Nat.not_lt_zero _), Nat.le_refl _⟩
end

/-- Rows of whole numbers of the call's own, the slices to them in a row that is appended to. -/
structure GrT (w : World) (base : Nat) (v : Value) (bl : Nat → Nat) (n L : Nat) : Prop where
  own : OwnT w base 43 1 v n ((List.range n).map fun j => .slice (some ⟨bl j, 0, none⟩) L L)
  row : ∀ j, j < n → w.heap[bl j]? = some (.cells (zi L) 3 (0, 0))
  inj : ∀ i j, i < n → j < n → bl i = bl j → i = j
  bas : ∀ j, j < n → base ≤ bl j
section
variable {w w1 w3 : World} {base n L : Nat} {v v1 : Value} {bl : Nat → Nat} {o : Obj}
theorem GrT.nil (w : World) (base : Nat) (bl : Nat → Nat) (L : Nat) : GrT w base (.slice none 0 0) bl 0 L :=
  ⟨OwnT.nil _ _ _ _, fun j hj => absurd hj (Nat.not_lt_zero _), fun i j hi => absurd hi (Nat.not_lt_zero _), fun j hj => absurd hj (Nat.not_lt_zero _)⟩
theorem GrT.step (h : GrT w base v bl n L) (hb : base ≤ w.heap.size)
    (ha : AppT ((w.alloc (.cells (zi L) 3)).alloc o) base 43 1 v n ((List.range n).map fun j => .slice (some ⟨bl j, 0, none⟩) L L) 1 [.slice (some ⟨w.heap.size, 0, none⟩) L L] v1 w3) :
    GrT w3 base v1 (upd bl n w.heap.size) (n + 1) L := by
  have hlt : ∀ j, j < n → bl j < w.heap.size := fun j hj => (Array.getElem?_eq_some_iff.1 (h.row j hj)).1
  have hne : ∀ j, j < n → v.ownBlock ≠ some (bl j) := fun j hj e => by
    obtain ⟨cur, h1⟩ := h.own.kind e
    rw [h.row j hj] at h1
    injection h1 with h1
    injection h1 with h3 h4
    exact absurd h4 (by decide)
  refine ⟨?_, fun j hj => ?_, fun i j hi hj e => ?_, fun j hj => ?_⟩
  · have e : ((List.range (n + 1)).map fun j => Value.slice (some ⟨upd bl n w.heap.size j, 0, none⟩) L L) = ((List.range n).map fun j => .slice (some ⟨bl j, 0, none⟩) L L) ++ [.slice (some ⟨w.heap.size, 0, none⟩) L L] := by
      rw [List.range_succ, List.map_append]
      congr 1
      · refine List.map_congr_left fun j hj => ?_
        have := List.mem_range.1 hj
        rw [upd_ne _ _ (by omega)]
      · simp [upd]
    rw [e]
    exact ha.own
  · by_cases e : j = n
    · subst e
      rw [upd_at, ha.kp.block w.heap.size (by simp; omega) ?_, Below.heap_alloc _ _ _ (by simp)]
      · exact heap_alloc_new w _
      · intro hv
        exact absurd (h.own.lt _ hv) (by omega)
    · rw [upd_ne _ _ e, ha.kp.block (bl j) (by have := hlt j (by omega); simp; omega) (hne j (by omega)), Below.heap_alloc _ _ _ (by have := hlt j (by omega); simp; omega), Below.heap_alloc _ _ _ (hlt j (by omega))]
      exact h.row j (by omega)
  · unfold upd at e
    by_cases e1 : i = n <;> by_cases e2 : j = n
    · omega
    · rw [if_pos e1, if_neg e2] at e
      have := hlt j (by omega)
      omega
    · rw [if_neg e1, if_pos e2] at e
      have := hlt i (by omega)
      omega
    · rw [if_neg e1, if_neg e2] at e
      exact h.inj i j (by omega) (by omega) e
  · unfold upd
    by_cases e : j = n
    · rw [if_pos e]; exact hb
    · rw [if_neg e]; exact h.bas j (by omega)
theorem GrT.gri {A : Option Addr} {m c : Nat} (h : GrT w base (.slice A m c) bl n L) (hn : 0 < n) : ∃ g, A = some ⟨g, 0, none⟩ ∧ m = n ∧ GrI w base g n n L bl fun _ _ => 0 := by
  have hm : m = n := by
    obtain ⟨A', c', e⟩ := h.own.form
    injection e
  rcases h.own.2 with ⟨_, h0⟩ | ⟨g, cap, cur, h1, hb, hg, hc, _, hs, ht⟩
  · omega
  · injection h1 with h1 h2 h3
    refine ⟨g, h1, hm, ⟨⟨cur, hg, by omega, fun j hj => ?_⟩, fun j hj => ⟨zi L, h.row j hj, zi_size L, fun k hk => zi_get hk⟩, h.inj, h.bas, hb⟩⟩
    have h2 : (cur.toList.take (n * 1))[j]? = ((List.range n).map fun j => Value.slice (some ⟨bl j, 0, none⟩) L L)[j]? := by rw [ht]
    rw [List.getElem?_take, if_pos (by omega), Array.getElem?_toList] at h2
    rw [h2]
    simp [hj]
end
/-- Rows of whole numbers of the call's own come back. -/
def GriPost (w : World) (n L : Nat) (f : Nat → Nat → Nat) (e : Ending) (w1 : World) : Prop :=
  ∃ g cp bl, e = .returned (.slice (some ⟨g, 0, none⟩) n cp) ∧ GrI w1 w.heap.size g n n L bl f ∧ Kp No w w1
end Go.Proofs.Ytbkelijmdpoanaa
