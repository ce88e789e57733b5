/- Places, objects and tables in memory: what slices of them read as, rows of the call's own, package table's table. No condition. -/
import Derived.Test.YthicpblgonigcaaNcaf
import Derived.Test.YthicpblgonigcaaNcad
namespace Go.Proofs.Ythicpblgonigcaa
open Go.RowKit
set_option linter.unusedVariables false
set_option linter.unusedSimpArgs false
set_option maxRecDepth 20000

/-! Cells of elements of k cells each. -/
section
variable {α : Type} {f : α → List Value} {k : Nat}
theorem fl_len (hk : ∀ x, (f x).length = k) : ∀ l : List α, (l.flatMap f).length = l.length * k
  | [] => by simp
  | x :: l => by
    have ih := fl_len hk l
    rw [List.flatMap_cons, List.length_append, ih, hk, List.length_cons, Nat.succ_mul]
    omega
theorem fl_get (hk : ∀ x, (f x).length = k) : ∀ {l : List α} {j i : Nat} {x : α}, l[j]? = some x → i < k → (l.flatMap f)[j * k + i]? = (f x)[i]?
  | [], j, i, x, h, _ => by simp at h
  | y :: l, 0, i, x, h, hi => by
    simp at h
    subst h
    rw [List.flatMap_cons, Nat.zero_mul, Nat.zero_add, List.getElem?_append_left (by rw [hk]; exact hi)]
  | y :: l, j + 1, i, x, h, hi => by
    rw [List.getElem?_cons_succ] at h
    have ih := fl_get hk h hi
    rw [List.flatMap_cons, List.getElem?_append_right (by rw [hk, Nat.succ_mul]; omega), hk, show (j + 1) * k + i - k = j * k + i by rw [Nat.succ_mul]; omega]
    exact ih
theorem fl_take (hk : ∀ x, (f x).length = k) : ∀ (l : List α) (n : Nat), (l.flatMap f).take (n * k) = (l.take n).flatMap f
  | [], n => by simp
  | x :: l, 0 => by simp
  | x :: l, n + 1 => by
    have ih := fl_take hk l n
    rw [List.take_succ_cons, List.flatMap_cons, List.flatMap_cons, List.take_append, List.take_of_length_le (by rw [hk, Nat.succ_mul]; omega), hk, show (n + 1) * k - k = n * k by rw [Nat.succ_mul]; omega, ih]
theorem fl_drop (hk : ∀ x, (f x).length = k) : ∀ (l : List α) (n : Nat), (l.flatMap f).drop (n * k) = (l.drop n).flatMap f
  | [], n => by simp
  | x :: l, 0 => by simp
  | x :: l, n + 1 => by
    have ih := fl_drop hk l n
    rw [List.drop_succ_cons, List.flatMap_cons, ← ih, show (n + 1) * k = k + n * k by rw [Nat.succ_mul]; omega, ← List.drop_drop]
    congr 1
    rw [List.drop_append, List.drop_of_length_le (by rw [hk]; exact Nat.le_refl _), hk, Nat.sub_self]
    simp
theorem fl_one {l : List α} (h : ∀ x, ∀ u ∈ f x, u.oneCell' = true) : ∀ u ∈ l.flatMap f, u.oneCell' = true := fun u hu => by
  obtain ⟨x, _, hx⟩ := List.mem_flatMap.1 hu
  exact h x u hx
end

/-- A place's cells; an object's, whose places are the slice v. -/
def pcF (p : Pc) : List Value := [.int .i64 p.1, .int .u32 (p.2 : Int)]
def pcC (l : List Pc) : List Value := l.flatMap pcF
def obF (x : Ob × Value) : List Value := [.int .u32 (x.1.num : Int), .string (strOf x.1.nm), .int .i64 x.1.ln, .int .i64 x.1.ct, .int .i64 x.1.pc, x.2]
def obC (xs : List (Ob × Value)) : List Value := xs.flatMap obF
abbrev obV (o : Ob) (v : Value) : Value := .agg #[.int .u32 (o.num : Int), .string (strOf o.nm), .int .i64 o.ln, .int .i64 o.ct, .int .i64 o.pc, v]
abbrev oqV (q : Oq) (v : Value) : Value := .agg #[.int .i64 q.kd, .int .u32 (q.o.num : Int), .string (strOf q.o.nm), .int .i64 q.o.ln, .int .i64 q.o.ct, .int .i64 q.o.pc, v, .int .i64 q.st, .int .i64 q.so, .int .i64 q.tn, .int .u32 (q.tg : Int)]
theorem pcF_len (p : Pc) : (pcF p).length = 2 := rfl
theorem obF_len (x : Ob × Value) : (obF x).length = 6 := rfl
theorem pcC_len (l : List Pc) : (pcC l).length = l.length * 2 := fl_len pcF_len l
theorem pcC_one (l : List Pc) : ∀ u ∈ pcC l, u.oneCell' = true := fl_one fun p u hu => by
  simp [pcF] at hu
  rcases hu with rfl | rfl <;> rfl
theorem pcC_get {l : List Pc} {j : Nat} {p : Pc} (h : l[j]? = some p) : (pcC l)[j * 2]? = some (.int .i64 p.1) ∧ (pcC l)[j * 2 + 1]? = some (.int .u32 (p.2 : Int)) :=
  ⟨fl_get pcF_len (i := 0) h (by omega), fl_get pcF_len (i := 1) h (by omega)⟩
theorem obC_len (xs : List (Ob × Value)) : (obC xs).length = xs.length * 6 := fl_len obF_len xs
theorem obC_get {xs : List (Ob × Value)} {j i : Nat} {x : Ob × Value} (h : xs[j]? = some x) (hi : i < 6) : (obC xs)[j * 6 + i]? = (obF x)[i]? := fl_get obF_len h hi
theorem obC_one {xs : List (Ob × Value)} (h : ∀ x ∈ xs, x.2.oneCell' = true) : ∀ u ∈ obC xs, u.oneCell' = true := fun u hu => by
  obtain ⟨x, hx, hu⟩ := List.mem_flatMap.1 hu
  simp [obF] at hu
  rcases hu with rfl | rfl | rfl | rfl | rfl | rfl <;> first | rfl | exact h x hx

/-- The slice v reads as these places, in blocks of F. -/
def RdS (w : World) (F : Nat → Prop) (v : Value) (l : List Pc) : Prop :=
  ∃ A c, v = .slice A l.length c ∧ (A = none → c = 0) ∧ ∀ (j : Nat) p, l[j]? = some p → ∃ B off, A = some ⟨B, off, none⟩ ∧ F B ∧ w.cell? ⟨B, off + j * 2, none⟩ = some (.int .i64 p.1) ∧ w.cell? ⟨B, off + j * 2 + 1, none⟩ = some (.int .u32 (p.2 : Int))
/-- The slice v reads as rows of places. -/
def RdP (w : World) (F : Nat → Prop) (v : Value) (P : List (List Pc)) : Prop :=
  ∃ A c, v = .slice A P.length c ∧ (A = none → c = 0) ∧ ∀ (j : Nat) l, P[j]? = some l → ∃ B off u, A = some ⟨B, off, none⟩ ∧ F B ∧ w.cell? ⟨B, off + j, none⟩ = some u ∧ RdS w F u l
/-- The six cells of an object. -/
def ObAt (w : World) (B off : Nat) (o : Ob) (v : Value) : Prop :=
  w.cell? ⟨B, off, none⟩ = some (.int .u32 (o.num : Int)) ∧ w.cell? ⟨B, off + 1, none⟩ = some (.string (strOf o.nm)) ∧ w.cell? ⟨B, off + 2, none⟩ = some (.int .i64 o.ln) ∧ w.cell? ⟨B, off + 3, none⟩ = some (.int .i64 o.ct) ∧ w.cell? ⟨B, off + 4, none⟩ = some (.int .i64 o.pc) ∧ w.cell? ⟨B, off + 5, none⟩ = some v
/-- The slice at A reads as objects. -/
structure RdO (w : World) (F : Nat → Prop) (A : Option Addr) (n c : Nat) (os : List Ob) : Prop where
  len : n = os.length
  cap : n ≤ c
  nil_ : A = none → c = 0
  at_ : ∀ (j : Nat) o, os[j]? = some o → ∃ B off v, A = some ⟨B, off, none⟩ ∧ F B ∧ ObAt w B (off + j * 6) o v ∧ RdP w F v o.pl
section
variable {w w1 : World} {F G S : Nat → Prop} {v : Value} {l : List Pc} {P : List (List Pc)} {A : Option Addr} {n c B off : Nat} {os : List Ob} {o : Ob}
theorem RdS.keep (h : RdS w F v l) (hk : Kp S w w1) (hS : ∀ k, k < w.heap.size → F k → ¬ S k) : RdS w1 F v l := by
  obtain ⟨A, c, rfl, hn, h⟩ := h
  refine ⟨A, c, rfl, hn, fun j p hj => ?_⟩
  obtain ⟨B, off, e, hB, h0, h1⟩ := h j p hj
  have hl := World.block_lt_of_cell? w _ h0
  exact ⟨B, off, e, hB, hk.cell h0 (hS B hl hB), hk.cell h1 (hS B hl hB)⟩
theorem RdS.no (h : RdS w F v l) (hk : Kp No w w1) : RdS w1 F v l := h.keep hk fun _ _ _ f => f
theorem RdS.form (h : RdS w F v l) : ∃ A c, v = .slice A l.length c := by
  obtain ⟨A, c, rfl, _⟩ := h
  exact ⟨A, c, rfl⟩
theorem RdP.keep (h : RdP w F v P) (hk : Kp S w w1) (hS : ∀ k, k < w.heap.size → F k → ¬ S k) : RdP w1 F v P := by
  obtain ⟨A, c, rfl, hn, h⟩ := h
  refine ⟨A, c, rfl, hn, fun j p hj => ?_⟩
  obtain ⟨B, off, u, e, hB, h0, h1⟩ := h j p hj
  exact ⟨B, off, u, e, hB, hk.cell h0 (hS B (World.block_lt_of_cell? w _ h0) hB), h1.keep hk hS⟩
theorem RdP.no (h : RdP w F v P) (hk : Kp No w w1) : RdP w1 F v P := h.keep hk fun _ _ _ f => f
theorem RdP.form (h : RdP w F v P) : ∃ A c, v = .slice A P.length c := by
  obtain ⟨A, c, rfl, _⟩ := h
  exact ⟨A, c, rfl⟩
theorem ObAt.keep {v : Value} (h : ObAt w B off o v) (hk : Kp S w w1) (hS : ¬ S B) : ObAt w1 B off o v :=
  ⟨hk.cell h.1 hS, hk.cell h.2.1 hS, hk.cell h.2.2.1 hS, hk.cell h.2.2.2.1 hS, hk.cell h.2.2.2.2.1 hS, hk.cell h.2.2.2.2.2 hS⟩
theorem ObAt.lt {v : Value} (h : ObAt w B off o v) : B < w.heap.size := World.block_lt_of_cell? w _ h.1
theorem RdO.keep (h : RdO w F A n c os) (hk : Kp S w w1) (hS : ∀ k, k < w.heap.size → F k → ¬ S k) : RdO w1 F A n c os :=
  ⟨h.len, h.cap, h.nil_, fun j o hj => by
    obtain ⟨B, off, v, e, hB, h0, h1⟩ := h.at_ j o hj
    exact ⟨B, off, v, e, hB, h0.keep hk (hS B h0.lt hB), h1.keep hk hS⟩⟩
theorem RdO.no (h : RdO w F A n c os) (hk : Kp No w w1) : RdO w1 F A n c os := h.keep hk fun _ _ _ f => f
end

theorem ty_pc : Ty 46 (.agg #[.int .i64 0, .int .u32 0]) 2 16 := ty_of (by kernel_rfl) rfl (by omega) (by omega)
theorem ty_pcs : Ty 88 (.slice none 0 0) 1 24 := ty_of (by kernel_rfl) rfl (by omega) (by omega)
theorem ty_ob : Ty 54 (.agg #[.int .u32 0, .string ByteArray.empty, .int .i64 0, .int .i64 0, .int .i64 0, .slice none 0 0]) 6 72 := ty_of (by kernel_rfl) rfl (by omega) (by omega)

/-- A row of places of package table, a row of such rows, all in F. -/
structure PlS (w : World) (F : Nat → Prop) (v : Value) (l : List Pc) : Prop where
  own : OwnT w 0 46 2 v l.length (pcC l)
  fv : ∀ k, v.ownBlock = some k → F k
def PlR (w : World) (F : Nat → Prop) (v : Value) (P : List (List Pc)) : Prop :=
  ∃ us, OwnT w 0 88 1 v P.length us ∧ (∀ k, v.ownBlock = some k → F k) ∧ ∀ (j : Nat) u l, us[j]? = some u → P[j]? = some l → PlS w F u l
section
variable {w w1 : World} {F G S : Nat → Prop} {v : Value} {l : List Pc} {P : List (List Pc)} {A : Option Addr} {n c : Nat}
theorem PlS.keep (h : PlS w F v l) (hk : Kp S w w1) (hS : ∀ k, k < w.heap.size → F k → ¬ S k) : PlS w1 F v l := ⟨h.own.keep hk fun k hk' => hS k (h.own.lt k hk') (h.fv k hk'), h.fv⟩
theorem PlS.mono (h : PlS w F v l) (hF : ∀ k, k < w.heap.size → F k → G k) : PlS w G v l := ⟨h.own, fun k hk => hF k (h.own.lt k hk) (h.fv k hk)⟩
theorem OwnT.nil_cap {w : World} {base n sz c r : Nat} {e : TypeId} {xs : List Value} (h : OwnT w base e sz (.slice none r c) n xs) : c = 0 ∧ n = 0 := by
  rcases h.2 with ⟨e, h0⟩ | ⟨g, cap, cur, e, _⟩
  · injection e with e1 e2 e3
    exact ⟨e3, h0⟩
  · cases e
theorem OwnT.le_cap {w : World} {base n sz c r : Nat} {e : TypeId} {A : Option Addr} {xs : List Value} (h : OwnT w base e sz (.slice A r c) n xs) : r ≤ c := by
  have := h.len
  rcases h.2 with ⟨e1, hn⟩ | ⟨g, cap, cur, e1, _, _, h1, _⟩
  · injection e1 with _ e2 e3; omega
  · injection e1 with _ e2 e3; omega
theorem PlS.rd (h : PlS w F v l) : RdS w F v l := by
  obtain ⟨A, c, rfl⟩ := h.own.form
  refine ⟨A, c, rfl, fun e => ?_, fun j p hj => ?_⟩
  · subst e
    exact (OwnT.nil_cap h.own).1
  · obtain ⟨h0, h1⟩ := pcC_get hj
    obtain ⟨g, e, _, _, _, c0⟩ := h.own.cell h0
    obtain ⟨g', e', _, _, _, c1⟩ := h.own.cell h1
    rw [e] at e'
    injection e' with e'
    injection e' with e'
    subst e' e
    exact ⟨g, 0, rfl, h.fv g rfl, by rw [Nat.zero_add]; exact c0, by rw [Nat.zero_add]; exact c1⟩
theorem PlR.keep (h : PlR w F v P) (hk : Kp S w w1) (hS : ∀ k, k < w.heap.size → F k → ¬ S k) : PlR w1 F v P := by
  obtain ⟨us, h1, h2, h3⟩ := h
  exact ⟨us, h1.keep hk fun k hk' => hS k (h1.lt k hk') (h2 k hk'), h2, fun j u l hu hl => (h3 j u l hu hl).keep hk hS⟩
theorem PlR.no (h : PlR w F v P) (hk : Kp No w w1) : PlR w1 F v P := h.keep hk fun _ _ _ f => f
theorem PlR.mono (h : PlR w F v P) (hF : ∀ k, k < w.heap.size → F k → G k) : PlR w G v P := by
  obtain ⟨us, h1, h2, h3⟩ := h
  exact ⟨us, h1, fun k hk' => hF k (h1.lt k hk') (h2 k hk'), fun j u l hu hl => (h3 j u l hu hl).mono hF⟩
theorem PlR.form (h : PlR w F v P) : ∃ A c, v = .slice A P.length c := by
  obtain ⟨us, h1, _⟩ := h
  exact h1.form
theorem PlR.one (h : PlR w F v P) : v.oneCell' = true := by
  obtain ⟨A, c, rfl⟩ := h.form
  rfl
theorem PlR.rd (h : PlR w F v P) : RdP w F v P := by
  obtain ⟨us, h1, h2, h3⟩ := h
  obtain ⟨A, c, rfl⟩ := h1.form
  refine ⟨A, c, rfl, fun e => ?_, fun j l hj => ?_⟩
  · subst e
    exact (OwnT.nil_cap h1).1
  · have hj' := (List.getElem?_eq_some_iff.1 hj).1
    obtain ⟨u, hu⟩ : ∃ u, us[j]? = some u := ⟨_, List.getElem?_eq_getElem (by rw [h1.1]; omega)⟩
    obtain ⟨g, e, _, _, _, c0⟩ := h1.cell hu
    subst e
    exact ⟨g, 0, u, rfl, h2 g rfl, by rw [Nat.zero_add]; exact c0, (h3 j u l hu hj).rd⟩
end

/-- A block of cells of the type t. -/
def Bx (t : TypeId) (w : World) (b : Nat) (xs : List Value) : Prop := w.heap[b]? = some (.cells xs.toArray t (0, 0))
section
variable {t : TypeId} {w w1 : World} {b i : Nat} {xs : List Value} {u : Value} {S : Nat → Prop}
theorem Bx.lt (h : Bx t w b xs) : b < w.heap.size := (Array.getElem?_eq_some_iff.1 h).1
theorem Bx.keep (h : Bx t w b xs) (hk : Kp S w w1) (hb : ¬ S b) : Bx t w1 b xs := (hk.block b h.lt hb).trans h
theorem Bx.no (h : Bx t w b xs) (hk : Kp No w w1) : Bx t w1 b xs := h.keep hk fun f => f
theorem Bx.fz (h : Bx t w b xs) (j : Nat) : w.frozen? ⟨b, j, none⟩ = false := frozen_of_row w b j _ _ h
theorem Bx.new (w : World) (t : TypeId) (xs : List Value) : Bx t (w.alloc (.cells xs.toArray t)) w.heap.size xs := heap_alloc_new w _
theorem Bx.cell (h : Bx t w b xs) (hi : xs[i]? = some u) : w.cell? ⟨b, i, none⟩ = some u := by
  rw [cell_of_row w b i _ _ _ h]
  simpa using hi
theorem Bx.set (h : Bx t w b xs) (i : Nat) (u : Value) : Bx t (w.setCell ⟨b, i, none⟩ u) b (xs.set i u) := by
  have := heap_setCell_same w b i _ t u h
  rw [List.setIfInBounds_toArray] at this
  exact this
theorem Bx.two (w : World) (t t2 : TypeId) (xs ys : List Value) : Bx t ((w.alloc (.cells xs.toArray t)).alloc (.cells ys.toArray t2)) w.heap.size xs ∧ Bx t2 ((w.alloc (.cells xs.toArray t)).alloc (.cells ys.toArray t2)) (w.heap.size + 1) ys := by
  refine ⟨(Bx.new w t xs).no (Kp.alloc No _ _), ?_⟩
  have h := Bx.new (w.alloc (.cells xs.toArray t)) t2 ys
  rw [show (w.alloc (.cells xs.toArray t)).heap.size = w.heap.size + 1 by simp] at h
  exact h
end
/-- The cells of an object, by value. -/
abbrev obL (o : Ob) (v : Value) : List Value := [.int .u32 (o.num : Int), .string (strOf o.nm), .int .i64 o.ln, .int .i64 o.ct, .int .i64 o.pc, v]
abbrev obZ : List Value := [.int .u32 0, .string ByteArray.empty, .int .i64 0, .int .i64 0, .int .i64 0, .slice none 0 0]
theorem Bx.at_ {t : TypeId} {w : World} {b : Nat} {o : Ob} {v : Value} (h : Bx t w b (obL o v)) : ObAt w b 0 o v := ⟨h.cell (i := 0) rfl, h.cell (i := 1) rfl, h.cell (i := 2) rfl, h.cell (i := 3) rfl, h.cell (i := 4) rfl, h.cell (i := 5) rfl⟩

/-- All six cells of a box are set. -/
theorem Bx.six {t : TypeId} {w : World} {b : Nat} {x0 x1 x2 x3 x4 x5 : Value} (h : Bx t w b [x0, x1, x2, x3, x4, x5]) (u0 u1 u2 u3 u4 u5 : Value) :
    Bx t ((((((w.setCell ⟨b, 0, none⟩ u0).setCell ⟨b, 1, none⟩ u1).setCell ⟨b, 2, none⟩ u2).setCell ⟨b, 3, none⟩ u3).setCell ⟨b, 4, none⟩ u4).setCell ⟨b, 5, none⟩ u5) b [u0, u1, u2, u3, u4, u5] :=
  (((((h.set 0 u0).set 1 u1).set 2 u2).set 3 u3).set 4 u4).set 5 u5
theorem kp6 {S : Nat → Prop} (w : World) (b : Nat) (u0 u1 u2 u3 u4 u5 : Value) (hb : S b) : Kp S w ((((((w.setCell ⟨b, 0, none⟩ u0).setCell ⟨b, 1, none⟩ u1).setCell ⟨b, 2, none⟩ u2).setCell ⟨b, 3, none⟩ u3).setCell ⟨b, 4, none⟩ u4).setCell ⟨b, 5, none⟩ u5) :=
  (((((Kp.setCell (p := ⟨b, 0, none⟩) hb u0).trans' (Kp.setCell (p := ⟨b, 1, none⟩) hb u1)).trans' (Kp.setCell (p := ⟨b, 2, none⟩) hb u2)).trans' (Kp.setCell (p := ⟨b, 3, none⟩) hb u3)).trans' (Kp.setCell (p := ⟨b, 4, none⟩) hb u4)).trans' (Kp.setCell (p := ⟨b, 5, none⟩) hb u5)

/-- At block g lies a table T: its row of objects, whose places are the rows vs; all that is its own lies in F. -/
structure TbR (w : World) (F : Nat → Prop) (g : Nat) (A : Option Addr) (n c : Nat) (T : Tb) (vs : List Value) : Prop where
  blk : w.heap[g]? = some (.cells #[.int .i64 (T.sl : Int), .int .i64 (T.nd : Int), .int .u32 (T.nx : Int), .int .u32 (T.lt : Int), .slice A n c] 74 (0, 0))
  row : OwnT w 0 54 6 (.slice A n c) T.os.length (obC (T.os.zip vs))
  len : vs.length = T.os.length
  pls : ∀ (j : Nat) o v, T.os[j]? = some o → vs[j]? = some v → PlR w F v o.pl
  inj : ∀ (i j : Nat) u v k, vs[i]? = some u → vs[j]? = some v → u.ownBlock = some k → v.ownBlock = some k → i = j
  fg : F g
  fv : ∀ k, (Value.slice A n c).ownBlock = some k → F k
  ok : T.Ok
section
variable {w w1 : World} {F G S : Nat → Prop} {g n c : Nat} {A : Option Addr} {T : Tb} {vs : List Value}
theorem TbR.glt (h : TbR w F g A n c T vs) : g < w.heap.size := (Array.getElem?_eq_some_iff.1 h.blk).1
theorem TbR.mono (h : TbR w F g A n c T vs) (hF : ∀ k, k < w.heap.size → F k → G k) : TbR w G g A n c T vs :=
  ⟨h.blk, h.row, h.len, fun j o v ho hv => (h.pls j o v ho hv).mono hF, h.inj, hF g h.glt h.fg, fun k hk => hF k (h.row.lt k hk) (h.fv k hk), h.ok⟩
theorem TbR.keep (h : TbR w F g A n c T vs) (hk : Kp S w w1) (hS : ∀ k, k < w.heap.size → F k → ¬ S k) : TbR w1 F g A n c T vs :=
  ⟨(hk.block g h.glt (hS g h.glt h.fg)).trans h.blk, h.row.keep hk fun k hk' => hS k (h.row.lt k hk') (h.fv k hk'), h.len, fun j o v ho hv => (h.pls j o v ho hv).keep hk hS, h.inj, h.fg, h.fv, h.ok⟩
theorem TbR.no (h : TbR w F g A n c T vs) (hk : Kp No w w1) : TbR w1 F g A n c T vs := h.keep hk fun _ _ _ f => f
theorem TbR.c0 (h : TbR w F g A n c T vs) : w.cell? ⟨g, 0, none⟩ = some (.int .i64 (T.sl : Int)) := by rw [cell_of_row w g 0 _ _ _ h.blk]; rfl
theorem TbR.c1 (h : TbR w F g A n c T vs) : w.cell? ⟨g, 1, none⟩ = some (.int .i64 (T.nd : Int)) := by rw [cell_of_row w g 1 _ _ _ h.blk]; rfl
theorem TbR.c2 (h : TbR w F g A n c T vs) : w.cell? ⟨g, 2, none⟩ = some (.int .u32 (T.nx : Int)) := by rw [cell_of_row w g 2 _ _ _ h.blk]; rfl
theorem TbR.c3 (h : TbR w F g A n c T vs) : w.cell? ⟨g, 3, none⟩ = some (.int .u32 (T.lt : Int)) := by rw [cell_of_row w g 3 _ _ _ h.blk]; rfl
theorem TbR.c4 (h : TbR w F g A n c T vs) : w.cell? ⟨g, 4, none⟩ = some (.slice A n c) := by rw [cell_of_row w g 4 _ _ _ h.blk]; rfl
theorem TbR.fz (h : TbR w F g A n c T vs) (j : Nat) : w.frozen? ⟨g, j, none⟩ = false := frozen_of_row w g j _ _ h.blk
theorem TbR.n_ (h : TbR w F g A n c T vs) : n = T.os.length := OwnT.len h.row
theorem zip_get {os : List Ob} {vs : List Value} {j : Nat} {o : Ob} {v : Value} (ho : os[j]? = some o) (hv : vs[j]? = some v) : (os.zip vs)[j]? = some (o, v) := by
  rw [List.getElem?_zip_eq_some]
  exact ⟨ho, hv⟩
theorem TbR.rd (h : TbR w F g A n c T vs) : RdO w F A n c T.os := by
  refine ⟨h.n_, OwnT.le_cap h.row, fun e => ?_, fun j o ho => ?_⟩
  · subst e
    exact (OwnT.nil_cap h.row).1
  · have hj := (List.getElem?_eq_some_iff.1 ho).1
    obtain ⟨v, hv⟩ : ∃ v, vs[j]? = some v := ⟨_, List.getElem?_eq_getElem (by rw [h.len]; exact hj)⟩
    have hz := zip_get ho hv
    obtain ⟨gg, e, _, _, _, c0⟩ := h.row.cell (obC_get (i := 0) hz (by omega))
    subst e
    have hx : ∀ i u, i < 6 → (obF (o, v))[i]? = some u → w.cell? ⟨gg, 0 + j * 6 + i, none⟩ = some u := fun i u hi hu => by
      rw [Nat.zero_add]
      exact OwnT.cellAt h.row ((obC_get hz hi).trans hu)
    exact ⟨gg, 0, v, rfl, h.fv gg rfl, ⟨hx 0 _ (by omega) rfl, hx 1 _ (by omega) rfl, hx 2 _ (by omega) rfl, hx 3 _ (by omega) rfl, hx 4 _ (by omega) rfl, hx 5 _ (by omega) rfl⟩, (h.pls j o v ho hv).rd⟩
end
/-- The pointer to a table. -/
def TbAt (w : World) (F : Nat → Prop) (g : Nat) (T : Tb) : Prop := ∃ A n c vs, TbR w F g A n c T vs
section
variable {w w1 : World} {F G S : Nat → Prop} {g : Nat} {T : Tb}
theorem TbAt.mono (h : TbAt w F g T) (hF : ∀ k, k < w.heap.size → F k → G k) : TbAt w G g T := by
  obtain ⟨A, n, c, vs, h⟩ := h
  exact ⟨A, n, c, vs, h.mono hF⟩
theorem TbAt.keep (h : TbAt w F g T) (hk : Kp S w w1) (hS : ∀ k, k < w.heap.size → F k → ¬ S k) : TbAt w1 F g T := by
  obtain ⟨A, n, c, vs, h⟩ := h
  exact ⟨A, n, c, vs, h.keep hk hS⟩
theorem TbAt.no (h : TbAt w F g T) (hk : Kp No w w1) : TbAt w1 F g T := h.keep hk fun _ _ _ f => f
theorem TbAt.ok (h : TbAt w F g T) : T.Ok := by
  obtain ⟨A, n, c, vs, h⟩ := h
  exact h.ok
theorem TbAt.glt (h : TbAt w F g T) : g < w.heap.size := by
  obtain ⟨A, n, c, vs, h⟩ := h
  exact h.glt
end
end Go.Proofs.Ythicpblgonigcaa
