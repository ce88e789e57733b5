/- The document's operations of layer 20 as they lie in memory, none of their rows longer than the reach. No condition. -/
import Derived.Test.YthicpblgonigcaaNcat
import Derived.Test.YthicpblgonigcaaNcac
import Derived.SizedLaws
namespace Go.Proofs.Ythicpblgonigcaa
open Go.ChangeShapes Go.WideShapes Go.RowKit Go.Deep
set_option linter.unusedVariables false
set_option linter.unusedSimpArgs false
set_option maxRecDepth 100000

section
variable {H : Type} {P : Program} {enc : TypeId × Value → H} {w : World} {base : Nat} {spare : Nat → Bool} {held : Bool} {fuel : Nat}
/-- A struct's field, with its weights. -/
theorem part_wz {t : TypeId} {fs : Array Field} {cs : List Value} {x : DataW H × List MemPlace} (ht : P.underlying t = some (.struct fs)) (h : DataW.trod enc P w base spare held fuel t cs = some x) (i : Nat) (ty : TypeId) (off k : Nat) (hi : (fs[i]?).map (fun f => (f.type, f.offset)) = some (ty, off)) (hk : P.cellsOf ty = k) :
    ∃ n y, DataW.trod enc P w base spare held n ty ((cs.drop off).take k) = some y ∧ ∀ z ∈ y.1.weights P ty, z ∈ x.1.weights P t := by
  obtain ⟨xs, n, _, hx, hl, hxs, hf⟩ := DataW.trod_struct ht h
  obtain ⟨f, hfi, he⟩ := Option.map_eq_some_iff.1 hi
  have hlt : i < xs.length := by rw [hxs]; exact (Array.getElem?_eq_some_iff.1 hfi).1
  simp only [Prod.mk.injEq] at he
  obtain ⟨rfl, rfl⟩ := he
  subst hk
  refine ⟨n, xs[i], (hf i f hfi).trans (List.getElem?_eq_getElem hlt), fun z hz => ?_⟩
  subst hx
  show z ∈ DataW.weights P t (.agg (xs.map (·.1)))
  unfold DataW.weights
  rw [ht]
  exact DataW.weights_mem_each (j := i) (t := f.type) (d := xs[i].1) (by rw [List.getElem?_map, Array.getElem?_toList, hfi]; rfl) (by rw [List.getElem?_map, List.getElem?_eq_getElem hlt]; rfl) z hz
theorem wz_all {e : TypeId} {D : Nat → DataW H} {n i z : Nat} (hi : i < n) (hz : z ∈ (D i).weights P e) : z ∈ DataW.weightsAll P e ((List.range n).map D) := by
  have key : ∀ (l : List (DataW H)) (d : DataW H), d ∈ l → z ∈ d.weights P e → z ∈ DataW.weightsAll P e l := by
    intro l
    induction l with
    | nil => intro d hd _; cases hd
    | cons y l ih =>
      intro d hd hz
      unfold DataW.weightsAll
      rcases List.mem_cons.1 hd with rfl | hd
      · exact List.mem_append_left _ hz
      · exact List.mem_append_right _ (ih d hd hz)
  exact key _ (D i) (List.mem_map.2 ⟨i, List.mem_range.2 hi, rfl⟩) hz
/-- A slice opened, element by element, each as the law Q says. -/
theorem open_slq {α : Type} {t e : TypeId} {k R : Nat} (Q : Nat → Nat → α → Prop) {v : Value} {x : DataW H × List MemPlace} (ht : P.underlying t = some (.slice e)) (hc : P.cellsOf e = k) (hk : 0 < k) (hb : 1 ≤ P.bytesOf e)
    (hel : ∀ (n : Nat) (cs : List Value) (y : DataW H × List MemPlace), DataW.trod enc P w base spare held n e cs = some y → (∀ z ∈ y.1.weights P e, z ≤ R) → ∀ B off, (∀ (j : Nat) u, cs[j]? = some u → w.cell? ⟨B, off + j, none⟩ = some u) → ∃ a, Q B off a)
    (h : DataW.trod enc P w base spare held fuel t [v] = some x) (hR : ∀ z ∈ x.1.weights P t, z ≤ R) :
    ∃ (A : Option Addr) (n c : Nat) (l : List α), v = .slice A n c ∧ n = l.length ∧ n ≤ c ∧ n * P.bytesOf e ≤ R ∧ n ≤ 9223372036854775807 ∧ (A = none → c = 0) ∧ ∀ (j : Nat) (a : α), l[j]? = some a → ∃ B off, A = some ⟨B, off, none⟩ ∧ Q B (off + j * k) a := by
  rcases open_slice ht h with ⟨hcs, _⟩ | ⟨a, len, cap, m, n, D, Pl, hcs, _, hl, hm, hmm, hx, hi⟩
  · simp only [List.cons.injEq, and_true] at hcs
    exact ⟨none, 0, 0, [], hcs, rfl, Nat.zero_le _, by rw [Nat.zero_mul]; exact Nat.zero_le _, Nat.zero_le _, fun _ => rfl, fun j d hj => by simp at hj⟩
  · simp only [List.cons.injEq, and_true] at hcs
    have hlm : len ≤ m := by rw [hmm]; split <;> omega
    have hwt : len * P.bytesOf e ≤ R := by
      have hmem : (((List.range len).map D).length + ((List.range (m - len)).map fun j => D (len + j)).length) * P.bytesOf e ∈ x.1.weights P t := by
        subst hx
        show _ ∈ DataW.weights P t (.slice _ _)
        unfold DataW.weights
        rw [ht]
        exact List.mem_cons_self
      have := hR _ hmem
      simp only [List.length_map, List.length_range] at this
      exact Nat.le_trans (Nat.mul_le_mul_right _ (Nat.le_add_right len (m - len))) this
    have hch : ∀ i, i < len → ∃ d, ∃ B off, some a = some ⟨B, off, none⟩ ∧ Q B (off + i * k) d := by
      intro i hil
      obtain ⟨cs, hcc, ht'⟩ := hi i (by omega)
      obtain ⟨_, hcl, hat⟩ := World.cells?_some hcc
      rw [hc] at hcl hat
      obtain ⟨B, off, spot⟩ := a
      have hspot : spot = none := by
        obtain ⟨cs', hc', _⟩ := hi 0 (by omega)
        obtain ⟨_, hcl', hat'⟩ := World.cells?_some hc'
        rw [hc] at hcl' hat'
        have := hat' 0 (by omega)
        rw [List.getElem?_eq_getElem (by omega)] at this
        simpa [Addr.add] using World.cell?_spot this
      subst hspot
      obtain ⟨d, hd⟩ := hel n cs _ ht' (fun z hz => hR z (by
        subst hx
        show z ∈ DataW.weights _ _ (.slice _ _)
        unfold DataW.weights
        rw [ht]
        exact List.mem_cons_of_mem _ (List.mem_append_left _ (wz_all hil hz)))) B (off + i * k) fun j u hu => by
          have hj : j < k := by rw [← hcl]; exact (List.getElem?_eq_some_iff.1 hu).1
          have := hat j hj
          rw [add_none, add_none, hu] at this
          exact this
      exact ⟨d, B, off, rfl, hd⟩
    have hlist : ∀ q, q ≤ len → ∃ ds : List α, ds.length = q ∧ ∀ (j : Nat) (d : α), ds[j]? = some d → ∃ B off, some a = some ⟨B, off, none⟩ ∧ Q B (off + j * k) d := by
      intro q
      induction q with
      | zero => exact fun _ => ⟨[], rfl, fun j d hj => by simp at hj⟩
      | succ q ih =>
        intro hq
        obtain ⟨ds, hl', hd⟩ := ih (by omega)
        obtain ⟨d, hd'⟩ := hch q (by omega)
        refine ⟨ds ++ [d], by simp [hl'], fun j e hj => ?_⟩
        rcases Nat.lt_or_ge j q with g | g
        · rw [List.getElem?_append_left (by omega)] at hj
          exact hd j e hj
        · rw [List.getElem?_append_right (by omega)] at hj
          have hj0 : j - ds.length = 0 := by
            have := (List.getElem?_eq_some_iff.1 hj).1
            simp at this
            omega
          rw [hj0] at hj
          simp at hj
          subst hj
          obtain rfl : j = q := by omega
          exact hd'
    obtain ⟨ds, hl', hd⟩ := hlist len (Nat.le_refl _)
    exact ⟨some a, len, cap, ds, hcs, hl'.symm, hl, hwt, by simp only [maxLen] at hm; omega, (fun e => by cases e), hd⟩
end

/-! The document's places and operations. -/
def All (_ : Nat) : Prop := True
theorem cells_20pc : Try.prog.cellsOf 40 = 2 := by kernel_rfl
theorem cells_20s : Try.prog.cellsOf 71 = 1 := by kernel_rfl
theorem cells_20p : Try.prog.cellsOf 38 = 1 := by kernel_rfl
theorem cells_20q : Try.prog.cellsOf 42 = 11 := by kernel_rfl
theorem cells_20l : Try.prog.cellsOf 37 = 3 := by kernel_rfl
theorem cells_20i : Try.prog.cellsOf 3 = 1 := by kernel_rfl
theorem cells_20u : Try.prog.cellsOf 29 = 1 := by kernel_rfl
theorem cells_20t : Try.prog.cellsOf 9 = 1 := by kernel_rfl
/-- What an argument's rows of places keep to. -/
def FitS (l : List Pc) : Prop := l.length * 16 ≤ 0x7ffffffff000 ∧ ∀ p ∈ l, p.2 < 4294967296
def FitP (P : List (List Pc)) : Prop := P.length * 24 ≤ 0x7ffffffff000 ∧ ∀ l ∈ P, FitS l
/-- The eleven cells of an operation. -/
def OqC (w : World) (B off : Nat) (q : Oq) (v : Value) : Prop :=
  w.cell? ⟨B, off, none⟩ = some (.int .i64 q.kd) ∧ w.cell? ⟨B, off + 1, none⟩ = some (.int .u32 (q.o.num : Int)) ∧ w.cell? ⟨B, off + 2, none⟩ = some (.string (strOf q.o.nm)) ∧ w.cell? ⟨B, off + 3, none⟩ = some (.int .i64 q.o.ln) ∧ w.cell? ⟨B, off + 4, none⟩ = some (.int .i64 q.o.ct) ∧ w.cell? ⟨B, off + 5, none⟩ = some (.int .i64 q.o.pc) ∧ w.cell? ⟨B, off + 6, none⟩ = some v ∧ w.cell? ⟨B, off + 7, none⟩ = some (.int .i64 q.st) ∧ w.cell? ⟨B, off + 8, none⟩ = some (.int .i64 q.so) ∧ w.cell? ⟨B, off + 9, none⟩ = some (.int .i64 q.tn) ∧ w.cell? ⟨B, off + 10, none⟩ = some (.int .u32 (q.tg : Int))
def OqF (q : Oq) : Prop := FitP q.o.pl ∧ q.o.num < 4294967296 ∧ q.tg < 4294967296
def OqAt (w : World) (B off : Nat) (q : Oq) : Prop := ∃ v, OqC w B off q v ∧ RdP w All v q.o.pl ∧ OqF q
theorem OqC.no {w w1 : World} {B off : Nat} {q : Oq} {v : Value} (h : OqC w B off q v) (hk : Kp No w w1) : OqC w1 B off q v := by
  obtain ⟨c0, c1, c2, c3, c4, c5, c6, c7, c8, c9, c10⟩ := h
  exact ⟨hk.cell c0 fun f => f, hk.cell c1 fun f => f, hk.cell c2 fun f => f, hk.cell c3 fun f => f, hk.cell c4 fun f => f, hk.cell c5 fun f => f, hk.cell c6 fun f => f, hk.cell c7 fun f => f, hk.cell c8 fun f => f, hk.cell c9 fun f => f, hk.cell c10 fun f => f⟩
theorem OqAt.no {w w1 : World} {B off : Nat} {q : Oq} (h : OqAt w B off q) (hk : Kp No w w1) : OqAt w1 B off q := by
  obtain ⟨v, h1, h2, h3⟩ := h
  exact ⟨v, h1.no hk, h2.no hk, h3⟩
/-- The slice at A holds the operations qs. -/
structure Ops (w : World) (A : Option Addr) (n : Nat) (qs : List Oq) : Prop where
  len : n = qs.length
  big : n ≤ 9223372036854775807
  at_ : ∀ (j : Nat) (q : Oq), qs[j]? = some q → ∃ B off, A = some ⟨B, off, none⟩ ∧ OqAt w B (off + j * 11) q
theorem Ops.no {w w1 : World} {A : Option Addr} {n : Nat} {qs : List Oq} (h : Ops w A n qs) (hk : Kp No w w1) : Ops w1 A n qs :=
  ⟨h.len, h.big, fun j q hj => by
    obtain ⟨B, off, e, ha⟩ := h.at_ j q hj
    exact ⟨B, off, e, ha.no hk⟩⟩
theorem bounds_20u {n : Int} (h : (Lit.int .u32 n).wf = true) : 0 ≤ n ∧ n < 4294967296 := by
  simp [Lit.wf, IntKind.min, IntKind.max, IntKind.signed, IntKind.bits] at h
  omega
section
variable {H : Type} {enc : TypeId × Value → H} {w : World} {base : Nat} {spare : Nat → Bool} {held : Bool} {fuel : Nat}
theorem bytes_20pc : Try.prog.bytesOf 40 = 16 := by kernel_rfl
theorem bytes_20s : Try.prog.bytesOf 71 = 24 := by kernel_rfl
theorem open_20pc {cs : List Value} {y : DataW H × List MemPlace} (h : DataW.trod enc Try.prog w base spare held fuel 40 cs = some y) :
    ∃ p : Pc, cs = [.int .i64 p.1, .int .u32 (p.2 : Int)] ∧ p.2 < 4294967296 := by
  obtain ⟨n, hl, hf⟩ := open_parts Try.underlying40 h
  rw [cells_20pc] at hl
  match cs, hl with
  | [v0, v1], _ =>
    obtain ⟨y0, h0⟩ := hf 0 3 0 _ rfl cells_20i
    obtain ⟨y1, h1⟩ := hf 1 29 1 _ rfl cells_20u
    simp only [List.drop_zero, List.drop_succ_cons, List.take_succ_cons, List.take_zero] at h0 h1
    obtain ⟨k0, e0, _, _⟩ := DataW.trod_int Try.underlying3 h0
    obtain ⟨k1, e1, w1⟩ := open_nat Try.underlying29 (fun _ h => (bounds_20u h).1) h1
    simp only [List.cons.injEq, and_true] at e0
    subst e0 e1
    exact ⟨(k0, k1), rfl, by have := bounds_20u w1; show k1 < _; omega⟩
theorem open_20s {v : Value} {x : DataW H × List MemPlace} (h : DataW.trod enc Try.prog w base spare held fuel 71 [v] = some x) (hR : ∀ z ∈ x.1.weights Try.prog 71, z ≤ 0x7ffffffff000) :
    ∃ l, RdS w All v l ∧ FitS l := by
  obtain ⟨A, n, c, l, rfl, hn, _, hr, _, hz, hat⟩ := open_slq (fun B off (p : Pc) => w.cell? ⟨B, off, none⟩ = some (.int .i64 p.1) ∧ w.cell? ⟨B, off + 1, none⟩ = some (.int .u32 (p.2 : Int)) ∧ p.2 < 4294967296) Try.underlying71 cells_20pc (by omega) (by decide +kernel) (fun n cs y hy _ B off hc => by
    obtain ⟨p, rfl, hp⟩ := open_20pc hy
    exact ⟨p, hc 0 _ rfl, hc 1 _ rfl, hp⟩) h hR
  refine ⟨l, ⟨A, c, by rw [hn], hz, fun j p hj => ?_⟩, by rw [← hn, ← bytes_20pc]; exact hr, fun p hp => ?_⟩
  · obtain ⟨B, off, e, h0, h1, _⟩ := hat j p hj
    exact ⟨B, off, e, trivial, h0, h1⟩
  · obtain ⟨j, hj⟩ := List.getElem?_of_mem hp
    obtain ⟨B, off, e, h0, h1, h2⟩ := hat j p hj
    exact h2
theorem open_20p {v : Value} {x : DataW H × List MemPlace} (h : DataW.trod enc Try.prog w base spare held fuel 38 [v] = some x) (hR : ∀ z ∈ x.1.weights Try.prog 38, z ≤ 0x7ffffffff000) :
    ∃ P, RdP w All v P ∧ FitP P := by
  obtain ⟨A, n, c, l, rfl, hn, _, hr, _, hz, hat⟩ := open_slq (fun B off (l : List Pc) => ∃ u, w.cell? ⟨B, off, none⟩ = some u ∧ RdS w All u l ∧ FitS l) Try.underlying38 cells_20s (by omega) (by decide +kernel) (fun n cs y hy hw B off hc => by
    obtain ⟨u, rfl⟩ : ∃ u, cs = [u] := by
      rcases open_slice Try.underlying71 hy with ⟨hcs, _⟩ | ⟨a, len, cap, m, n, D, Pl, hcs, _⟩
      · exact ⟨_, hcs⟩
      · exact ⟨_, hcs⟩
    obtain ⟨l, h1, h2⟩ := open_20s hy hw
    exact ⟨l, u, hc 0 _ rfl, h1, h2⟩) h hR
  refine ⟨l, ⟨A, c, by rw [hn], hz, fun j p hj => ?_⟩, by rw [← hn, ← bytes_20s]; exact hr, fun p hp => ?_⟩
  · obtain ⟨B, off, e, u, h0, h1, _⟩ := hat j p hj
    exact ⟨B, off, u, e, trivial, by rw [Nat.mul_one] at h0; exact h0, h1⟩
  · obtain ⟨j, hj⟩ := List.getElem?_of_mem hp
    obtain ⟨B, off, e, u, h0, h1, h2⟩ := hat j p hj
    exact h2
theorem open_20q {cs : List Value} {y : DataW H × List MemPlace} (h : DataW.trod enc Try.prog w base spare held fuel 42 cs = some y) (hR : ∀ z ∈ y.1.weights Try.prog 42, z ≤ 0x7ffffffff000) :
    ∃ (q : Oq) (v : Value), cs = [.int .i64 q.kd, .int .u32 (q.o.num : Int), .string (strOf q.o.nm), .int .i64 q.o.ln, .int .i64 q.o.ct, .int .i64 q.o.pc, v, .int .i64 q.st, .int .i64 q.so, .int .i64 q.tn, .int .u32 (q.tg : Int)] ∧ RdP w All v q.o.pl ∧ OqF q := by
  obtain ⟨n, hl, hf⟩ := open_parts Try.underlying42 h
  rw [cells_20q] at hl
  match cs, hl with
  | [v0, v1, v2, v3, v4, v5, v6, v7, v8, v9, v10], _ =>
    obtain ⟨y0, h0⟩ := hf 0 3 0 _ rfl cells_20i
    obtain ⟨y1, h1⟩ := hf 1 29 1 _ rfl cells_20u
    obtain ⟨y2, h2⟩ := hf 2 9 2 _ rfl cells_20t
    obtain ⟨y3, h3⟩ := hf 3 37 3 _ rfl cells_20l
    obtain ⟨n6, y6, h6, w6⟩ := part_wz Try.underlying42 h 4 38 6 _ rfl cells_20p
    obtain ⟨y7, h7⟩ := hf 5 3 7 _ rfl cells_20i
    obtain ⟨y8, h8⟩ := hf 6 3 8 _ rfl cells_20i
    obtain ⟨y9, h9⟩ := hf 7 40 9 _ rfl cells_20pc
    simp only [List.drop_zero, List.drop_succ_cons, List.take_succ_cons, List.take_zero] at h0 h1 h2 h3 h6 h7 h8 h9
    obtain ⟨np, _, hp⟩ := open_parts Try.underlying37 h3
    obtain ⟨z0, p0⟩ := hp 0 3 0 _ rfl cells_20i
    obtain ⟨z1, p1⟩ := hp 1 3 1 _ rfl cells_20i
    obtain ⟨z2, p2⟩ := hp 2 3 2 _ rfl cells_20i
    simp only [List.drop_zero, List.drop_succ_cons, List.take_succ_cons, List.take_zero] at p0 p1 p2
    obtain ⟨k0, e0, _, _⟩ := DataW.trod_int Try.underlying3 h0
    obtain ⟨k1, e1, b1⟩ := open_nat Try.underlying29 (fun _ h => (bounds_20u h).1) h1
    obtain ⟨s2, e2, _, _⟩ := DataW.trod_string Try.underlying9 h2
    obtain ⟨k3, e3, _, _⟩ := DataW.trod_int Try.underlying3 p0
    obtain ⟨k4, e4, _, _⟩ := DataW.trod_int Try.underlying3 p1
    obtain ⟨k5, e5, _, _⟩ := DataW.trod_int Try.underlying3 p2
    obtain ⟨P, r6, f6⟩ := open_20p h6 fun z hz => hR z (w6 z hz)
    obtain ⟨k7, e7, _, _⟩ := DataW.trod_int Try.underlying3 h7
    obtain ⟨k8, e8, _, _⟩ := DataW.trod_int Try.underlying3 h8
    obtain ⟨p9, e9, f9⟩ := open_20pc h9
    simp only [List.cons.injEq, and_true] at e0 e2 e3 e4 e5 e7 e8 e9
    obtain ⟨e9, e10⟩ := e9
    subst e0 e1 e2 e3 e4 e5 e7 e8 e9 e10
    have b1' := bounds_20u b1
    exact ⟨⟨k0, ⟨k1, s2.data.toList, k3, k4, k5, P⟩, k7, k8, p9.1, p9.2⟩, v6, by rfl, r6, f6, by show k1 < _; omega, f9⟩
theorem open_20qs {v : Value} {x : DataW H × List MemPlace} (h : DataW.trod enc Try.prog w base spare held fuel 22 [v] = some x) (hR : ∀ z ∈ x.1.weights Try.prog 22, z ≤ 0x7ffffffff000) :
    ∃ A n c qs, v = .slice A n c ∧ Ops w A n qs := by
  obtain ⟨A, n, c, l, rfl, hn, _, _, hb, _, hat⟩ := open_slq (fun B off (q : Oq) => OqAt w B off q) Try.underlying22 cells_20q (by omega) (by decide +kernel) (fun n cs y hy hw B off hc => by
    obtain ⟨q, v, rfl, h1, h2⟩ := open_20q hy hw
    exact ⟨q, v, ⟨hc 0 _ rfl, hc 1 _ rfl, hc 2 _ rfl, hc 3 _ rfl, hc 4 _ rfl, hc 5 _ rfl, hc 6 _ rfl, hc 7 _ rfl, hc 8 _ rfl, hc 9 _ rfl, hc 10 _ rfl⟩, h1, h2⟩) h hR
  exact ⟨A, n, c, l, rfl, hn, hb, hat⟩
end
end Go.Proofs.Ythicpblgonigcaa
