/- A row of whole numbers that is sorted by a closure: memory, cmp.Compare, site.Near's closure, insertion, swapping and rotating of package slices. -/
import Derived.Test.YthbnomemknnmeaaSpt
import Derived.Test.YthbnomemknnmeaaSrm
import Derived.BigRegion
namespace Go.Proofs.Ythbnomemknnmeaa
open Go.RowKit
set_option linter.unusedVariables false
set_option linter.unusedSimpArgs false
set_option maxRecDepth 100000

/-- The block b holds n numbers. -/
def IRow (w : World) (b n : Nat) (d : Nat → Nat) : Prop := ∃ cur : Array Value, w.heap[b]? = some (.cells cur 3 (0, 0)) ∧ ∀ j, j < n → cur[j]? = some (.int .i64 (d j : Int))
/-- The row's block alone. -/
abbrev On (b : Nat) (q : Nat) : Prop := q = b
section
variable {w w1 : World} {b n : Nat} {d d' : Nat → Nat} {S : Nat → Prop}
theorem IRow.cell (h : IRow w b n d) {j : Nat} (hj : j < n) : w.cell? ⟨b, j, none⟩ = some (.int .i64 (d j : Int)) := by
  obtain ⟨cur, h1, h2⟩ := h
  rw [cell_of_row w b j _ _ _ h1, h2 j hj]
theorem IRow.cellv (h : IRow w b n d) {j u : Nat} (hj : j < n) (hu : d j = u) : w.cell? ⟨b, j, none⟩ = some (.int .i64 (u : Int)) := hu ▸ h.cell hj
theorem IRow.frozen (h : IRow w b n d) (j : Nat) : w.frozen? ⟨b, j, none⟩ = false := by
  obtain ⟨cur, h1, _⟩ := h
  exact frozen_of_row w b j _ _ h1
theorem IRow.lt (h : IRow w b n d) : b < w.heap.size := by
  obtain ⟨cur, h1, _⟩ := h
  exact (Array.getElem?_eq_some_iff.1 h1).1
theorem IRow.keep (h : IRow w b n d) (hk : Kp S w w1) (hS : ¬ S b) : IRow w1 b n d := by
  obtain ⟨cur, h1, h2⟩ := h
  exact ⟨cur, by rw [hk.block b (Array.getElem?_eq_some_iff.1 h1).1 hS]; exact h1, h2⟩
theorem IRow.no (h : IRow w b n d) (hk : Kp No w w1) : IRow w1 b n d := h.keep hk fun f => f
theorem IRow.sm (h : IRow w b n d) (hk : Sm w w1) : IRow w1 b n d := h.no hk.kp
theorem IRow.eq (h : IRow w b n d) (he : ∀ j, j < n → d j = d' j) : IRow w b n d' := by
  obtain ⟨cur, h1, h2⟩ := h
  exact ⟨cur, h1, fun j hj => by rw [← he j hj]; exact h2 j hj⟩
theorem IRow.set (h : IRow w b n d) {i : Nat} (hi : i < n) (x : Nat) : IRow (w.setCell ⟨b, i, none⟩ (.int .i64 (x : Int))) b n fun j => if j = i then x else d j := by
  obtain ⟨cur, h1, h2⟩ := h
  have hsz : i < cur.size := (Array.getElem?_eq_some_iff.1 (h2 i hi)).1
  refine ⟨cur.setIfInBounds i (.int .i64 (x : Int)), heap_setCell_same w b i cur _ _ h1, fun j hj => ?_⟩
  rw [Array.getElem?_setIfInBounds]
  show _ = some (Value.int .i64 (((if j = i then x else d j) : Nat) : Int))
  by_cases e : i = j
  · subst e
    rw [if_pos rfl, if_pos hsz, if_pos rfl]
  · rw [if_neg e, if_neg (fun e' : j = i => e e'.symm)]
    exact h2 j hj
theorem IRow.cell2 (h : IRow w b n d) {p q : Nat} (hp : p < n) (hq : q < n) (x : Nat) : ∃ v, (w.setCell ⟨b, p, none⟩ (.int .i64 (x : Int))).cell? ⟨b, q, none⟩ = some v := ⟨_, (h.set hp x).cell hq⟩
theorem IRow.kp (b p : Nat) (v : Value) (w : World) : Kp (On b) w (w.setCell ⟨b, p, none⟩ v) := Kp.setCell (p := ⟨b, p, none⟩) (S := On b) rfl v
theorem IRow.swap (h : IRow w b n d) {p q x y : Nat} (hp : p < n) (hq : q < n) (hx : d p = x) (hy : d q = y) :
    IRow ((w.setCell ⟨b, p, none⟩ (.int .i64 (y : Int))).setCell ⟨b, q, none⟩ (.int .i64 (x : Int))) b n (soSw d p q) ∧ Kp (On b) w ((w.setCell ⟨b, p, none⟩ (.int .i64 (y : Int))).setCell ⟨b, q, none⟩ (.int .i64 (x : Int))) := by
  subst hx hy
  exact ⟨((h.set hp (d q)).set hq (d p)).eq fun j _ => rfl, (IRow.kp b p _ w).trans' (IRow.kp b q _ _)⟩
end
theorem soE.lt {d d' : Nat → Nat} {a e n : Nat} (h : soE d d' a e) (hd : ∀ i, i < n → d i < n) (he : e ≤ n) : ∀ i, i < n → d' i < n := fun i hi => by
  rcases Nat.lt_or_ge i a with q | q
  · rw [h.out i (.inl q)]; exact hd i hi
  · rcases Nat.lt_or_ge i e with r | r
    · obtain ⟨j, j1, j2, j3⟩ := h.from_ q r
      rw [← j3]; exact hd j (by omega)
    · rw [h.out i (.inr r)]; exact hd i hi

/-- How two numbers compare. -/
def cmpZ (a b : Int) : Int := if a < b then -1 else if b < a then 1 else 0
theorem cmpZ_lt (a b : Int) : decide (cmpZ a b < 0) = decide (a < b) := by
  unfold cmpZ
  by_cases h : a < b
  · rw [if_pos h]; simp [h]
  · rw [if_neg h]
    by_cases g : b < a
    · rw [if_pos g]; simp [h]
    · rw [if_neg g]; simp [h]
theorem isnan_any (w : World) (a : Int) : Calls Try.prog 27 #[.int .i64 a] w fun e w' => e = .returned (.bool false) ∧ w = w' := by
  go_enter Try.func27, Try.ntmps27
  go_wp2
  go_ret
  exact ⟨rfl, rfl⟩
theorem compare_any (w : World) (a b : Int) : Calls Try.prog 25 #[.int .i64 a, .int .i64 b] w fun e w' => e = .returned (.int .i64 (cmpZ a b)) ∧ w = w' := by
  have h1 := isnan_any w a
  have h2 := isnan_any w b
  rcases Int.lt_trichotomy a b with h | h | h
  · have hc : Hid (-1 = cmpZ a b) := by show _ = _; unfold cmpZ; rw [if_pos h]
    go_enter Try.func25, Try.ntmps25
    go_wp2_with fail
    refine h1.mono ?_
    rintro e w' ⟨rfl, rfl⟩
    go_wp2_with fail
    refine h2.mono ?_
    rintro e w' ⟨rfl, rfl⟩
    go_wp2_with fail
    go_ret
    exact ⟨ret_i64 hc.out, rfl⟩
  · have hc : Hid (0 = cmpZ a b) := by show _ = _; unfold cmpZ; rw [if_neg (by omega), if_neg (by omega)]
    subst h
    go_enter Try.func25, Try.ntmps25
    go_wp2_with fail
    refine h1.mono ?_
    rintro e w' ⟨rfl, rfl⟩
    go_wp2_with fail
    refine h2.mono ?_
    rintro e w' ⟨rfl, rfl⟩
    go_wp2_with fail
    go_ret
    exact ⟨ret_i64 hc.out, rfl⟩
  · have hc : Hid (1 = cmpZ a b) := by show _ = _; unfold cmpZ; rw [if_neg (by omega), if_pos h]
    go_enter Try.func25, Try.ntmps25
    go_wp2_with fail
    refine h1.mono ?_
    rintro e w' ⟨rfl, rfl⟩
    go_wp2_with fail
    refine h2.mono ?_
    rintro e w' ⟨rfl, rfl⟩
    go_wp2_with fail
    go_ret
    exact ⟨ret_i64 hc.out, rfl⟩

/-- A slice of points: the cells, and which whole numbers they stand for. -/
structure PtR (w : World) (A : Option Addr) (n : Nat) (re im : Nat → Nat) : Prop where
  at_ : ∀ j, j < n → ∃ g, A = some ⟨g, 0, none⟩ ∧ w.cell? ⟨g, j, none⟩ = some (.complex .f64 (re j) (im j))
theorem PtR.keep {w w1 : World} {A : Option Addr} {n : Nat} {re im : Nat → Nat} {S : Nat → Prop} (h : PtR w A n re im) (hk : Kp S w w1) (hS : ∀ g, A = some ⟨g, 0, none⟩ → ¬ S g) : PtR w1 A n re im := ⟨fun j hj => by
  obtain ⟨g, e, hc⟩ := h.at_ j hj
  exact ⟨g, e, hk.cell hc (hS g e)⟩⟩
theorem PtR.no {w w1 : World} {A : Option Addr} {n : Nat} {re im : Nat → Nat} (h : PtR w A n re im) (hk : Kp No w w1) : PtR w1 A n re im := h.keep hk fun _ _ f => f
/-- site.Near's closure, bound to two boxes. -/
abbrev nearV (bf bl : Nat) : Value := .func (.func 24) #[] #[.pointer (some ⟨bf, 0, none⟩), .pointer (some ⟨bl, 0, none⟩)]
/-- It compares keys, whatever the row b holds. -/
def CmpAt (bf bl : Nat) (k : Nat → Int) (n b : Nat) (w0 : World) : Prop :=
  ∀ W, Kp (On b) w0 W → ∀ x y : Nat, x < n → y < n → Calls Try.prog 24 #[.int .i64 (x : Int), .int .i64 (y : Int), .pointer (some ⟨bf, 0, none⟩), .pointer (some ⟨bl, 0, none⟩)] W fun e w' => e = .returned (.int .i64 (cmpZ (k x) (k y))) ∧ Sm W w'
theorem CmpAt.on {bf bl : Nat} {k : Nat → Int} {n b : Nat} {w0 w1 : World} (h : CmpAt bf bl k n b w0) (hk : Kp (On b) w0 w1) : CmpAt bf bl k n b w1 := fun W hW => h W (hk.trans' hW)
theorem CmpAt.q {bf bl : Nat} {k : Nat → Int} {n b : Nat} {w0 : World} (h : CmpAt bf bl k n b w0) {W : World} (hk : Kp (On b) w0 W) {x y : Nat} (hx : x < n) (hy : y < n) (r : Nat) :
    Calls Try.prog 24 #[.int .i64 (x : Int), .int .i64 (y : Int), .pointer (some ⟨bf, 0, none⟩), .pointer (some ⟨bl, 0, none⟩)] (W.drewN r) fun e w' => e = .returned (.int .i64 (cmpZ (k x) (k y))) ∧ ∃ t, w' = W.drewN t :=
  Calls.quiet_of (h _ (hk.drewN r) x y hx hy)
theorem near1_any {w : World} {bf bl g n c a b i j : Nat} {re im : Nat → Nat} {x y : Int} {X Y : Nat → Int} (hf : w.cell? ⟨bf, 0, none⟩ = some (.complex .f64 a b)) (hl : w.cell? ⟨bl, 0, none⟩ = some (.slice (some ⟨g, 0, none⟩) n c))
    (hi : i < n) (hj : j < n) (ci : w.cell? ⟨g, i, none⟩ = some (.complex .f64 (re i) (im i))) (cj : w.cell? ⟨g, j, none⟩ = some (.complex .f64 (re j) (im j)))
    (hF : ∀ q, q < n → ∀ w, Calls Try.prog 10 #[.complex .f64 a b, .complex .f64 (re q) (im q)] w fun e w' => e = .returned (.int .i64 (farZ x y (X q) (Y q))) ∧ w = w') :
    Calls Try.prog 24 #[.int .i64 (i : Int), .int .i64 (j : Int), .pointer (some ⟨bf, 0, none⟩), .pointer (some ⟨bl, 0, none⟩)] w fun e w' => e = .returned (.int .i64 (cmpZ (farZ x y (X i) (Y i)) (farZ x y (X j) (Y j)))) ∧ Sm w w' := by
  have h1 := hide (fun r => Calls.quiet_of (w := w) (n := r) (by have := hF i hi (w.drewN r); exact this.mono fun e w' ⟨h, hw⟩ => ⟨h, 0, hw.symm⟩))
  have h2 := hide (fun r => Calls.quiet_of (w := w) (n := r) (by have := hF j hj (w.drewN r); exact this.mono fun e w' ⟨h, hw⟩ => ⟨h, 0, hw.symm⟩))
  have h3 := hide (fun r => Calls.quiet_of (w := w) (n := r) (by have := compare_any (w.drewN r) (farZ x y (X i) (Y i)) (farZ x y (X j) (Y j)); exact this.mono fun e w' ⟨h, hw⟩ => ⟨h, 0, hw.symm⟩))
  clear hF
  generalize farZ x y (X i) (Y i) = fi at h1 h3 ⊢
  generalize farZ x y (X j) (Y j) = fj at h2 h3 ⊢
  generalize re i = ri at ci h1
  generalize im i = ii at ci h1
  generalize re j = rj at cj h2
  generalize im j = ij at cj h2
  go_enter Try.func24, Try.ntmps24
  go_wp2_with fail
  go_quiet ((first | (go_at_call 10; first | with_reducible exact h1.out _ | with_reducible exact h2.out _) | (go_at_call 25; with_reducible exact h3.out _)))
  go_wp2_with fail
  go_ret
  exact ⟨rfl, Sm.drewN _ _⟩
end Go.Proofs.Ythbnomemknnmeaa
