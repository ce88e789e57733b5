/- Package msr's Encode, as a contract over memory. -/
import Derived.Test.YtcdmljlangbloaaMsa
import Derived.Test.YtcdmljlangbloaaSol
import Derived.Deep.DeepCutAuto
import Derived.Deep.RegionHeld3
namespace Go.Proofs.Ytcdmljlangbloaa
open Go.RowKit
set_option linter.unusedVariables false
set_option linter.unusedSimpArgs false
set_option maxRecDepth 100000

/-- Rows of powers at g1, rows of noughts at g2, so many of each. -/
structure EnI (w : World) (g1 g2 n d M : Nat) (x : Nat → UInt8) (s : Nat) (wr : World) : Prop where
  ex : ∃ hv1 hv2, Outer wr g1 n hv1 ∧ Outer wr g2 n hv2 ∧ (∀ j, j < s → Own wr w.heap.size 5 (hv1 j) (rowL d (upw (x j)))) ∧ (∀ j, j < s → Own wr w.heap.size 5 (hv2 j) (rowL M fun _ => 0)) ∧ InjV s hv2 ∧ ∀ i j, i < s → j < s → (hv1 i).ownBlock ≠ (hv2 j).ownBlock
  kp : Kp No w wr
  ne : g1 ≠ g2
  ge1 : w.heap.size ≤ g1
  ge2 : w.heap.size ≤ g2
/-- Both places are there, and may be written. -/
structure EnX (g1 g2 n s : Nat) (w : World) : Prop where
  o1 : ∃ hv, Outer w g1 n hv
  o2 : ∃ hv, Outer w g2 n hv
  lt : s < n
  ne : g1 ≠ g2
section
variable {w wr w1 w3 : World} {g1 g2 n d M s : Nat} {x : Nat → UInt8} {v1 v2 : Value}
theorem EnX.no (h : EnX g1 g2 n s wr) (hk : Kp No wr w1) : EnX g1 g2 n s w1 :=
  ⟨h.o1.imp fun _ o => o.keep hk fun f => f, h.o2.imp fun _ o => o.keep hk fun f => f, h.lt, h.ne⟩
theorem EnX.set1 (h : EnX g1 g2 n s wr) (v : Value) : EnX g1 g2 n s (wr.setCell ⟨g1, s, none⟩ v) := by
  obtain ⟨⟨hv1, o1⟩, ⟨hv2, o2⟩, hl, hn⟩ := h
  exact ⟨⟨_, o1.set hl v⟩, ⟨_, o2.keep (Kp.setCell (p := ⟨g1, s, none⟩) (S := fun q => q = g1) rfl v) fun e => hn e.symm⟩, hl, hn⟩
theorem EnX.set2 (h : EnX g1 g2 n s wr) (v : Value) : EnX g1 g2 n s (wr.setCell ⟨g2, s, none⟩ v) := by
  obtain ⟨⟨hv1, o1⟩, ⟨hv2, o2⟩, hl, hn⟩ := h
  exact ⟨⟨_, o1.keep (Kp.setCell (p := ⟨g2, s, none⟩) (S := fun q => q = g2) rfl v) fun e => hn e⟩, ⟨_, o2.set hl v⟩, hl, hn⟩
theorem EnX.ok (h : EnX g1 g2 n s wr) : (∃ v, wr.cell? ⟨g1, s, none⟩ = some v) ∧ wr.frozen? ⟨g1, s, none⟩ = false ∧ (∃ v, wr.cell? ⟨g2, s, none⟩ = some v) ∧ wr.frozen? ⟨g2, s, none⟩ = false := by
  obtain ⟨⟨hv1, o1⟩, ⟨hv2, o2⟩, hl, hn⟩ := h
  exact ⟨⟨_, o1.cell hl⟩, o1.frozen s, ⟨_, o2.cell hl⟩, o2.frozen s⟩
theorem EnI.enx (h : EnI w g1 g2 n d M x s wr) (hs : s < n) : EnX g1 g2 n s wr := by
  obtain ⟨hv1, hv2, a1, a2, _⟩ := h.ex
  exact ⟨⟨_, a1⟩, ⟨_, a2⟩, hs, h.ne⟩
theorem EnI.step {b1 b2 : Nat} (h : EnI w g1 g2 n d M x s wr) (hs : s < n) (hd : 0 < d) (hM : 0 < M) (ho1 : Own w3 b1 5 v1 (rowL d (upw (x s)))) (hb1 : wr.heap.size ≤ b1) (ho2 : Own w3 b2 5 v2 (rowL M fun _ => 0)) (hb2 : wr.heap.size ≤ b2)
    (h12 : v1.ownBlock ≠ v2.ownBlock) (hk : Kp (fun q => q = g1 ∨ q = g2) wr w3) (hx1 : ∀ hv, Outer wr g1 n hv → Outer w3 g1 n (upd hv s v1)) (hx2 : ∀ hv, Outer wr g2 n hv → Outer w3 g2 n (upd hv s v2)) : EnI w g1 g2 n d M x (s + 1) w3 := by
  obtain ⟨hv1, hv2, a1, a2, a3, a4, a5, a6⟩ := h.ex
  have hkk : Kp No w w3 := h.kp.trans (hk.mono fun q hq => .inr (by rcases hq with rfl | rfl; exact h.ge1; exact h.ge2))
  have hsz := h.kp.size
  obtain ⟨p1, q1, e1, f1, _⟩ := ho1.some_ (by rw [rowL_len]; exact hd)
  obtain ⟨p2, q2, e2, f2, _⟩ := ho2.some_ (by rw [rowL_len]; exact hM)
  have r1 : ∀ j, j < s → ∃ p, (hv1 j).ownBlock = some p ∧ p < wr.heap.size ∧ p ≠ g1 ∧ p ≠ g2 := fun j hj => by
    obtain ⟨p, c, e, _, hl⟩ := (a3 j hj).some_ (by rw [rowL_len]; exact hd)
    have e' : (hv1 j).ownBlock = some p := by rw [e]; rfl
    exact ⟨p, e', hl, fun e0 => outer_ne a1 (a3 j hj) (by rw [e', e0]), fun e0 => outer_ne a2 (a3 j hj) (by rw [e', e0])⟩
  have r2 : ∀ j, j < s → ∃ p, (hv2 j).ownBlock = some p ∧ p < wr.heap.size ∧ p ≠ g1 ∧ p ≠ g2 := fun j hj => by
    obtain ⟨p, c, e, _, hl⟩ := (a4 j hj).some_ (by rw [rowL_len]; exact hM)
    have e' : (hv2 j).ownBlock = some p := by rw [e]; rfl
    exact ⟨p, e', hl, fun e0 => outer_ne a1 (a4 j hj) (by rw [e', e0]), fun e0 => outer_ne a2 (a4 j hj) (by rw [e', e0])⟩
  have b1' : v1.ownBlock = some p1 := by rw [e1]; rfl
  have b2' : v2.ownBlock = some p2 := by rw [e2]; rfl
  refine ⟨⟨upd hv1 s v1, upd hv2 s v2, hx1 _ a1, hx2 _ a2, fun j hj => ?_, fun j hj => ?_, fun i j hi hj e => ?_, fun i j hi hj => ?_⟩, hkk, h.ne, h.ge1, h.ge2⟩
  · by_cases e : j = s
    · subst e
      rw [upd_at]
      exact ho1.rebase fun q hq => Nat.le_trans (by omega) (ho1.ge q hq)
    · rw [upd_ne _ _ e]
      obtain ⟨p, e', _, n1, n2⟩ := r1 j (by omega)
      exact (a3 j (by omega)).keep hk fun q hq hS => by rw [e'] at hq; injection hq with hq; subst hq; exact hS.elim n1 n2
  · by_cases e : j = s
    · subst e
      rw [upd_at]
      exact ho2.rebase fun q hq => Nat.le_trans (by omega) (ho2.ge q hq)
    · rw [upd_ne _ _ e]
      obtain ⟨p, e', _, n1, n2⟩ := r2 j (by omega)
      exact (a4 j (by omega)).keep hk fun q hq hS => by rw [e'] at hq; injection hq with hq; subst hq; exact hS.elim n1 n2
  · by_cases ei : i = s <;> by_cases ej : j = s
    · omega
    · rw [ei, upd_at, upd_ne _ _ ej, b2'] at e
      obtain ⟨p, e', hl, _⟩ := r2 j (by omega)
      rw [e'] at e
      injection e with e
      omega
    · rw [ej, upd_at, upd_ne _ _ ei, b2'] at e
      obtain ⟨p, e', hl, _⟩ := r2 i (by omega)
      rw [e'] at e
      injection e with e
      omega
    · rw [upd_ne _ _ ei, upd_ne _ _ ej] at e
      exact a5 i j (by omega) (by omega) e
  · by_cases ei : i = s <;> by_cases ej : j = s
    · rw [ei, ej, upd_at, upd_at]
      exact h12
    · rw [ei, upd_at, upd_ne _ _ ej, b1']
      obtain ⟨p, e', hl, _⟩ := r2 j (by omega)
      rw [e']
      intro e
      injection e with e
      omega
    · rw [ej, upd_at, upd_ne _ _ ei, b2']
      obtain ⟨p, e', hl, _⟩ := r1 i (by omega)
      rw [e']
      intro e
      injection e with e
      omega
    · rw [upd_ne _ _ ei, upd_ne _ _ ej]
      exact a6 i j (by omega) (by omega)
theorem own_zero (w : World) (M : Nat) (hM : M ≤ 1000) : Own (w.alloc (.cells (zc M) 5)) w.heap.size 5 (.slice (some ⟨w.heap.size, 0, none⟩) M M) (rowL M fun _ => 0) := row_new w M hM
theorem EnI.fin1 {b : Nat} {A : Option Addr} {r c : Nat} (h : EnI w g1 g2 n d M x s wr) (hs : s < n) (hX : wr.heap.size ≤ b) (hk : Kp No wr w1) (ho1 : Own w1 b 5 (.slice A r c) (rowL d (upw (x s)))) (hM1 : M ≤ 1000 ∧ 0 < M) (hd : 0 < d) :
    EnI w g1 g2 n d M x (s + 1) (((w1.alloc (.cells (zc M) 5)).setCell ⟨g1, s, none⟩ (.slice A r c)).setCell ⟨g2, s, none⟩ (.slice (some ⟨w1.heap.size, 0, none⟩) M M)) := by
  have hne := h.ne
  have k1 : Kp (fun q => q = g1 ∨ q = g2) (w1.alloc (.cells (zc M) 5)) (((w1.alloc (.cells (zc M) 5)).setCell ⟨g1, s, none⟩ (.slice A r c)).setCell ⟨g2, s, none⟩ (.slice (some ⟨w1.heap.size, 0, none⟩) M M)) :=
    (Kp.setCell (p := ⟨g1, s, none⟩) (S := fun q => q = g1 ∨ q = g2) (.inl rfl) _).trans' (Kp.setCell (p := ⟨g2, s, none⟩) (S := fun q => q = g1 ∨ q = g2) (.inr rfl) _)
  have k0 : Kp No wr (w1.alloc (.cells (zc M) 5)) := hk.trans' (Kp.alloc No _ _)
  obtain ⟨⟨_, o1⟩, ⟨_, o2⟩, _, _⟩ := (h.enx hs).no k0
  have ho1' := ho1.alloc (.cells (zc M) 5)
  have ho2' := own_zero w1 M hM1.1
  have n1 : ∀ q, (Value.slice A r c).ownBlock = some q → ¬ (q = g1 ∨ q = g2) := fun q hq e => by
    rcases e with rfl | rfl
    · exact outer_ne o1 ho1' hq
    · exact outer_ne o2 ho1' hq
  have n2 : ∀ q, (Value.slice (some ⟨w1.heap.size, 0, none⟩) M M).ownBlock = some q → ¬ (q = g1 ∨ q = g2) := fun q hq e => by
    rcases e with rfl | rfl
    · exact outer_ne o1 ho2' hq
    · exact outer_ne o2 ho2' hq
  refine h.step (b2 := w1.heap.size) hs hd hM1.2 (ho1'.keep k1 n1) hX (ho2'.keep k1 n2) hk.size ?_ ((k0.of_no _).trans' k1) (fun hv ho => ?_) fun hv ho => ?_
  · intro e
    have : w1.heap.size < w1.heap.size := ho1.lt _ e
    omega
  · exact ((ho.keep k0 fun f => f).set hs _).keep (Kp.setCell (p := ⟨g2, s, none⟩) (S := fun q => q = g2) rfl _) hne
  · exact ((ho.keep k0 fun f => f).keep (Kp.setCell (p := ⟨g1, s, none⟩) (S := fun q => q = g1) rfl _) fun e => hne e.symm).set hs _
theorem EnI.fin2 {b : Nat} {A : Option Addr} {r c : Nat} (h : EnI w g1 g2 n d M x s wr) (hs : s < n) (hX : wr.heap.size ≤ b) (hk : Kp No wr w1) (ho1 : Own w1 b 5 (.slice A r c) (rowL d (upw (x s)))) (hM1 : M ≤ 1000 ∧ 0 < M) (hd : 0 < d) :
    EnI w g1 g2 n d M x (s + 1) (((w1.setCell ⟨g1, s, none⟩ (.slice A r c)).alloc (.cells (zc M) 5)).setCell ⟨g2, s, none⟩ (.slice (some ⟨w1.heap.size, 0, none⟩) M M)) := by
  have hne := h.ne
  have e0 : (w1.setCell ⟨g1, s, none⟩ (.slice A r c)).heap.size = w1.heap.size := by simp
  have ka : Kp (fun q => q = g1 ∨ q = g2) w1 (w1.setCell ⟨g1, s, none⟩ (.slice A r c)) := Kp.setCell (p := ⟨g1, s, none⟩) (S := fun q => q = g1 ∨ q = g2) (.inl rfl) _
  have kb : Kp (fun q => q = g1 ∨ q = g2) ((w1.setCell ⟨g1, s, none⟩ (.slice A r c)).alloc (.cells (zc M) 5)) (((w1.setCell ⟨g1, s, none⟩ (.slice A r c)).alloc (.cells (zc M) 5)).setCell ⟨g2, s, none⟩ (.slice (some ⟨w1.heap.size, 0, none⟩) M M)) := Kp.setCell (p := ⟨g2, s, none⟩) (S := fun q => q = g1 ∨ q = g2) (.inr rfl) _
  have k1 := (ka.trans' (Kp.alloc _ _ (.cells (zc M) 5))).trans' kb
  have hX1 := (h.enx hs).no hk
  obtain ⟨⟨_, o1⟩, ⟨_, o2⟩, _, _⟩ := hX1
  obtain ⟨⟨_, o1'⟩, ⟨_, o2'⟩, _, _⟩ := (((h.enx hs).no hk).set1 (.slice A r c)).no (Kp.alloc No _ (.cells (zc M) 5))
  have ho2' := own_zero (w1.setCell ⟨g1, s, none⟩ (.slice A r c)) M hM1.1
  rw [e0] at ho2'
  have n1 : ∀ q, (Value.slice A r c).ownBlock = some q → ¬ (q = g1 ∨ q = g2) := fun q hq e => by
    rcases e with rfl | rfl
    · exact outer_ne o1 ho1 hq
    · exact outer_ne o2 ho1 hq
  have n2 : ∀ q, (Value.slice (some ⟨w1.heap.size, 0, none⟩) M M).ownBlock = some q → ¬ (q = g1 ∨ q = g2) := fun q hq e => by
    rcases e with rfl | rfl
    · exact outer_ne o1' ho2' hq
    · exact outer_ne o2' ho2' hq
  refine h.step (b2 := w1.heap.size) hs hd hM1.2 (ho1.keep k1 n1) hX (ho2'.keep kb n2) hk.size ?_ ((hk.of_no _).trans' k1) (fun hv ho => ?_) fun hv ho => ?_
  · intro e
    have : w1.heap.size < w1.heap.size := ho1.lt _ e
    omega
  · exact (((ho.keep hk fun f => f).set hs _).keep (Kp.alloc No _ _) fun f => f).keep (Kp.setCell (p := ⟨g2, s, none⟩) (S := fun q => q = g2) rfl _) hne
  · exact (((ho.keep hk fun f => f).keep (Kp.setCell (p := ⟨g1, s, none⟩) (S := fun q => q = g1) rfl _) fun e => hne e.symm).keep (Kp.alloc No _ _) fun f => f).set hs _
theorem EnI.two {p q : Nat} (hw : Kp No w wr) (h1 : wr.heap[p]? = some (.cells (zr n) 38 (0, 0))) (h2 : wr.heap[q]? = some (.cells (zr n) 38 (0, 0))) (hne : p ≠ q) (hp : w.heap.size ≤ p) (hq : w.heap.size ≤ q) : EnI w p q n d M x 0 wr :=
  ⟨⟨fun _ => .slice none 0 0, fun _ => .slice none 0 0, ⟨_, h1, fun j hj => zr_get hj⟩, ⟨_, h2, fun j hj => zr_get hj⟩, fun j hj => absurd hj (Nat.not_lt_zero _), fun j hj => absurd hj (Nat.not_lt_zero _), fun i j hi => absurd hi (Nat.not_lt_zero _), fun i j hi => absurd hi (Nat.not_lt_zero _)⟩, hw, hne, hp, hq⟩
theorem EnI.start1 (w : World) (x : Nat → UInt8) (d M : Nat) (wx : World) (e : wx = (w.drew.alloc (.cells (zr n) 38)).alloc (.cells (zr n) 38)) (hk : Kp No w wx) : EnI w w.heap.size (w.heap.size + 1) n d M x 0 wx := by
  subst e
  refine EnI.two hk ?_ ?_ (by omega) (Nat.le_refl _) (by omega)
  · rw [Below.heap_alloc _ _ _ (by simp)]
    exact heap_alloc_new w.drew _
  · have := heap_alloc_new (w.drew.alloc (.cells (zr n) 38)) (.cells (zr n) 38)
    simpa using this
theorem EnI.start2 (w : World) (x : Nat → UInt8) (d M : Nat) (wx : World) (e : wx = (w.drew.alloc (.cells (zr n) 38)).alloc (.cells (zr n) 38)) (hk : Kp No w wx) : EnI w (w.heap.size + 1) w.heap.size n d M x 0 wx := by
  subst e
  refine EnI.two hk ?_ ?_ (by omega) (by omega) (Nat.le_refl _)
  · have := heap_alloc_new (w.drew.alloc (.cells (zr n) 38)) (.cells (zr n) 38)
    simpa using this
  · rw [Below.heap_alloc _ _ _ (by simp)]
    exact heap_alloc_new w.drew _
end
/-- What was reckoned ahead of byte T of slot S. -/
def encP (f : Nat → Nat → UInt8) (T S s t : Nat) : UInt8 := if t < T ∨ (t = T ∧ s < S) then f s t else 0
theorem encP_step (f : Nat → Nat → UInt8) (T S s t : Nat) : upd (encP f T S s) T (f s T) t = encP f T (S + 1) s t ∨ s ≠ S := by
  by_cases e : s = S
  · left
    subst e
    unfold upd encP
    by_cases e2 : t = T
    · subst e2
      rw [if_pos rfl, if_pos (by omega)]
    · rw [if_neg e2]
      by_cases e3 : t < T
      · rw [if_pos (by omega), if_pos (by omega)]
      · rw [if_neg (by omega), if_neg (by omega)]
  · exact .inr e
theorem encP_far (f : Nat → Nat → UInt8) (T S : Nat) {s : Nat} (h : s ≠ S) (t : Nat) : encP f T S s t = encP f T (S + 1) s t := by
  unfold encP
  by_cases e : t < T ∨ (t = T ∧ s < S)
  · rw [if_pos e, if_pos (by omega)]
  · rw [if_neg e, if_neg (by omega)]
theorem encP_next (f : Nat → Nat → UInt8) (T n : Nat) {s : Nat} (h : s < n) (t : Nat) : encP f T n s t = encP f (T + 1) 0 s t := by
  unfold encP
  by_cases e : t < T + 1
  · rw [if_pos (by omega), if_pos (by omega)]
  · rw [if_neg (by omega), if_neg (by omega)]
/-- The shards so far. -/
structure EnJ (w : World) (g1 g2 n d M : Nat) (x : Nat → UInt8) (hv1 hv2 : Nat → Value) (f : Nat → Nat → UInt8) (T S : Nat) (wr : World) : Prop where
  rows : Grd wr w.heap.size g1 n hv1 fun s => rowL d (upw (x s))
  shs : Grd wr w.heap.size g2 n hv2 fun s => rowL M (encP f T S s)
  inj : InjV n hv2
  ap : ∀ i j, i < n → j < n → (hv1 i).ownBlock ≠ (hv2 j).ownBlock
  kp : Kp No w wr
section
variable {w wr w1 : World} {g1 g2 n d M T S : Nat} {x : Nat → UInt8} {hv1 hv2 : Nat → Value} {f : Nat → Nat → UInt8}
theorem EnJ.no (h : EnJ w g1 g2 n d M x hv1 hv2 f T S wr) (hk : Kp No wr w1) : EnJ w g1 g2 n d M x hv1 hv2 f T S w1 := ⟨h.rows.no hk, h.shs.no hk, h.inj, h.ap, h.kp.trans' hk⟩
theorem EnJ.turn (h : EnJ w g1 g2 n d M x hv1 hv2 f T n wr) : EnJ w g1 g2 n d M x hv1 hv2 f (T + 1) 0 wr :=
  ⟨h.rows, h.shs.eq fun s hs => rowL_congr fun t _ => encP_next f T n hs t, h.inj, h.ap, h.kp⟩
theorem EnJ.set {b c : Nat} (h : EnJ w g1 g2 n d M x hv1 hv2 f T S wr) (hS : S < n) (hT : T < M) (hb : hv2 S = .slice (some ⟨b, 0, none⟩) M c) (hbb : w.heap.size ≤ b) (hR : RowAt wr w.heap.size b M c (encP f T S S)) (v : Value) (hv : v = bv (f S T)) : EnJ w g1 g2 n d M x hv1 hv2 f T (S + 1) (wr.setCell ⟨b, T, none⟩ v) := by
  have hk : Kp (fun q => q = b) wr (wr.setCell ⟨b, T, none⟩ v) := RowAt.kpset _ _ _ _
  have hob : (hv2 S).ownBlock = some b := by rw [hb]; rfl
  have h2 := h.shs.wrote h.inj hS hob (l := rowL M (upd (encP f T S S) T (f S T))) (by rw [hb]; exact hR.set hT (f S T) v hv) hk
  refine ⟨h.rows.keep hk (fun e => ?_) fun j q hj hq e => ?_, h2.eq fun s hs => ?_, h.inj, h.ap, ?_⟩
  · subst e
    exact outer_ne h.rows.out (h.shs.row S hS) hob
  · subst e
    exact h.ap j S hj hS (by rw [hq, hob])
  · by_cases e : s = S
    · subst e
      rw [upd_at]
      exact rowL_congr fun t _ => (encP_step f T s s t).resolve_right fun h => h rfl
    · rw [upd_ne _ _ e]
      exact rowL_congr fun t _ => encP_far f T S e t
  · exact h.kp.own (hk.mono fun q hq => by rw [hq]; exact hbb)
end
theorem enc_nil {w : World} (A : Option Addr) (m cp : Nat) : Calls Try.prog 28 #[.pointer none, .slice A m cp] w fun e w' => e = .returned (.tuple #[.slice none 0 0, .int .i64 1]) ∧ w = w' := by
  go_enter Try.func28, Try.ntmps28
  go_wp2_with fail
  refine (qq_nil w).mono ?_
  rintro e w' ⟨rfl, rfl⟩
  go_wp2_with fail
  go_ret2
  exact ⟨rfl, rfl⟩
section
variable {w : World} {c n k a d q m cp L : Nat} {x : Nat → UInt8} {A : Option Addr} {bs : List UInt8}
theorem enc_no (h : CodeAt w c n k x) (hD : Dim n k a d q) (hm : m = 0 ∨ m % q ≠ 0) (hm2 : m ≤ 1000) : Calls Try.prog 28 #[cptr c, .slice A m cp] w fun e w' => e = .returned (.tuple #[.slice none 0 0, .int .i64 1]) ∧ w = w' := by
  obtain ⟨hq1, hq2, _⟩ := hD.q56
  have hq0 : ((q : Int) == 0) = false := by simp; omega
  have hc := qq_any h hD
  by_cases h0 : m = 0
  · subst h0
    clear hm hD
    go_enter Try.func28, Try.ntmps28
    go_wp2_with fail
    refine hc.mono ?_
    rintro e w' ⟨rfl, rfl⟩
    go_wp2_with fail
    go_ret2
    exact ⟨rfl, rfl⟩
  · have hm0 : ((m : Int) == 0) = false := by simp; omega
    obtain ⟨r, hr⟩ : ∃ r, r = m % q := ⟨_, rfl⟩
    have hrm : (m : Int) % (q : Int) = (r : Int) := by rw [hr, Int.natCast_emod]
    have hr0 : ((r : Int) != 0) = true := by have : 0 < r := by omega
                                             simp; omega
    clear hm h0 hr hD
    go_enter Try.func28, Try.ntmps28
    go_wp2_with fail
    refine hc.mono ?_
    rintro e w' ⟨rfl, rfl⟩
    go_wp2_with fail
    refine hc.mono ?_
    rintro e w' ⟨rfl, rfl⟩
    go_wp2_with fail
    go_ret2
    exact ⟨rfl, rfl⟩
/-- Rows come back, and no error. -/
def Enc2Post (w : World) (n : Nat) (bss : List (List UInt8)) (e : Ending) (w1 : World) : Prop := ∃ A cp, e = .returned (.tuple #[.slice A n cp, .int .i64 0]) ∧ Rws w1 A n bss ∧ Kp No w w1
/-- Rows of the call's own come back, and a word on them. -/
def GrkPost (w : World) (n : Nat) (F : Nat → List UInt8) (k : Value) (e : Ending) (w1 : World) : Prop := ∃ g cp hv, e = .returned (.tuple #[.slice (some ⟨g, 0, none⟩) n cp, k]) ∧ Grd w1 w.heap.size g n hv F ∧ Kp No w w1
set_option maxHeartbeats 16000000 in
theorem enc_grd (h : CodeAt w c n k x) (hD : Dim n k a d q) (h2 : Bts w (.slice A m cp) bs) (hm : m = q * L) (hm2 : m ≤ 1000) (hL : 1 ≤ L) : Calls Try.prog 28 #[cptr c, .slice A m cp] w (GrkPost w n (fun i => rowL (a * L) (shE a d L bs (x i))) (.int .i64 0)) := by
  obtain ⟨hq1, hq2, hq3⟩ := hD.q56
  have hn2 := hD.n2
  have hn1 := hD.n1
  have ha1 := hD.a1
  have ha7 := hD.a7
  have hd14 : d ≤ 14 := by have := hD.d_; omega
  have hd1 : 0 < d := by have := hD.d_; omega
  have hq0 : ((q : Int) == 0) = false := by simp; omega
  have hmp : 0 < m := by
    rw [hm]
    exact Nat.mul_pos (by omega) (by omega)
  have hm0 : ((m : Int) == 0) = false := by simp; omega
  have hrm : (m : Int) % (q : Int) = 0 := by rw [hm, Int.natCast_mul, Int.mul_emod_right]
  have hmq : (m : Int) / (q : Int) = (L : Int) := by rw [hm, Int.natCast_mul, Int.mul_ediv_cancel_left _ (by omega)]
  obtain ⟨M, hM⟩ : ∃ M, M = a * L := ⟨_, rfl⟩
  have hM1 : M ≤ 1000 ∧ 0 < M := ⟨by rw [hM]; exact Nat.le_trans (Nat.mul_le_mul_right L hq3) (by omega), by rw [hM]; exact Nat.mul_pos (by omega) (by omega)⟩
  have hLM : L ≤ M := by
    rw [hM]
    have := Nat.mul_le_mul_right L ha1
    omega
  have HPL : Hid (∀ r j, r < d → j < a → ∀ i, i < L → plcF a r j * L + i < m) := fun r j hr hj i hi => by
    rw [hm]
    exact idx_lt (plc_lt hD hr hj) hi
  rw [← hM]
  have hc := qq_any h hD
  have hmk := fun w => make_rows w n (n : Int) rfl (by omega)
  have HQ := hide hq0
  have HMM := hide hM
  have HM := hide hm
  have HD := hide hD
  clear hq0 hM hm hD
  have hq0 := HQ.out
  go_enter Try.func28, Try.ntmps28
  go_wp2_with fail
  refine hc.mono ?_
  rintro e w' ⟨rfl, rfl⟩
  go_wp2_with fail
  refine hc.mono ?_
  rintro e w' ⟨rfl, rfl⟩
  go_wp2_with fail
  refine hc.mono ?_
  rintro e w' ⟨rfl, rfl⟩
  go_upto_region 4 with fail
  clear hq0 hrm hm0 hmq hc
  go_cut [7, 8] (fun v7 v8 wx => ∃ g1 g2, v7 = .slice (some ⟨g1, 0, none⟩) n n ∧ v8 = .slice (some ⟨g2, 0, none⟩) n n ∧ EnI w g1 g2 n d M x 0 wx)
  case first =>
    refine wp_region_noPanic ?_
    refine wp_region_held_drew (S := fun w' => CodeAt w' c n k x ∧ Kp No w w') (by kernel_rfl) (⟨h.no (Sm.drew w).kp, (Sm.drew w).kp⟩) (fun hHeld => ?_)
    refine wpAnyH_take (i := 0) (v := ?vax1) (oi := ?oax1) ?hax1 (by kernel_rfl) (by kernel_rfl) (by kernel_rfl) (fun _ _ _ h => h) (Or.inl ⟨?wax1, ?yax1⟩) hHeld ?rax1
    case hax1 => simp only [List.getElem?_toArray, List.getElem?_cons_zero, List.getElem?_cons_succ]; rfl
    case wax1 => rfl
    case yax1 => intro w hSw; (try dsimp only at hSw); go_simp; (try with_reducible rfl)
    simp only [Act.put, List.setIfInBounds_toArray, List.set_cons_zero, List.set_cons_succ]
    refine wpAnyH_take (i := 3) (v := ?vax2) (oi := ?oax2) ?hax2 (by kernel_rfl) (by kernel_rfl) (by kernel_rfl) (fun _ _ _ h => h) (Or.inl ⟨?wax2, ?yax2⟩) hHeld ?rax2
    case hax2 => simp only [List.getElem?_toArray, List.getElem?_cons_zero, List.getElem?_cons_succ]; rfl
    case wax2 => rfl
    case yax2 => intro w hSw; (try dsimp only at hSw); go_simp; (try with_reducible rfl)
    simp only [Act.put, List.setIfInBounds_toArray, List.set_cons_zero, List.set_cons_succ]
    refine wpAnyH_ready (rs := [1]) (by kernel_rfl) (by simp) ?_
    refine AllReadyH.cons (o := ?oax3) ?hax3 (fun K hK => ?sax3) AllReadyH.nil
    case hax3 => simp only [List.getElem?_toArray, List.getElem?_cons_zero, List.getElem?_cons_succ]; rfl
    go_simp
    refine (nn_any hHeld.1).mono ?_
    rintro e w' ⟨rfl, rfl⟩
    go_wp2_with fail
    refine hK.out _ _ (hHeld) (fun hHeld => ?_)
    clear hK K
    try simp only [Act.put, List.setIfInBounds_toArray, List.set_cons_zero, List.set_cons_succ]
    refine wpAnyH_ready (rs := [2, 4]) (by kernel_rfl) (by simp) ?_
    refine (AllReadyH.cons (o := ?oax5) ?hax5 (fun K hK => ?sax5) (AllReadyH.cons (o := ?oax6) ?hax6 (fun K hK => ?sax6) AllReadyH.nil))
    case hax5 => simp only [List.getElem?_toArray, List.getElem?_cons_zero, List.getElem?_cons_succ]; rfl
    case hax6 => simp only [List.getElem?_toArray, List.getElem?_cons_zero, List.getElem?_cons_succ]; rfl
    case sax5 =>
      go_simp
      refine hK.out _ _ (⟨hHeld.1.no (Kp.alloc No _ _), hHeld.2.trans' (Kp.alloc No _ _)⟩) (fun hHeld => ?_)
      clear hK K
      try simp only [Act.put, List.setIfInBounds_toArray, List.set_cons_zero, List.set_cons_succ]
      refine wpAnyH_ready (rs := [4]) (by kernel_rfl) (by simp) ?_
      refine AllReadyH.cons (o := ?oax7) ?hax7 (fun K hK => ?sax7) AllReadyH.nil
      case hax7 => simp only [List.getElem?_toArray, List.getElem?_cons_zero, List.getElem?_cons_succ]; rfl
      go_simp
      refine (nn_any hHeld.1).mono ?_
      rintro e w' ⟨rfl, rfl⟩
      go_wp2_with fail
      refine hK.out _ _ (hHeld) (fun hHeld => ?_)
      clear hK K
      try simp only [Act.put, List.setIfInBounds_toArray, List.set_cons_zero, List.set_cons_succ]
      refine wpAnyH_ready (rs := [5, 6]) (by kernel_rfl) (by simp) ?_
      refine (AllReadyH.cons (o := ?oax9) ?hax9 (fun K hK => ?sax9) (AllReadyH.cons (o := ?oax10) ?hax10 (fun K hK => ?sax10) AllReadyH.nil))
      case hax9 => simp only [List.getElem?_toArray, List.getElem?_cons_zero, List.getElem?_cons_succ]; rfl
      case hax10 => simp only [List.getElem?_toArray, List.getElem?_cons_zero, List.getElem?_cons_succ]; rfl
      case sax9 =>
        go_simp
        refine hK.out _ _ (⟨hHeld.1.no (Kp.alloc No _ _), hHeld.2.trans' (Kp.alloc No _ _)⟩) (fun hHeld => ?_)
        clear hK K
        try simp only [Act.put, List.setIfInBounds_toArray, List.set_cons_zero, List.set_cons_succ]
        refine wpAnyH_ready (rs := [6]) (by kernel_rfl) (by simp) ?_
        refine AllReadyH.cons (o := ?oax11) ?hax11 (fun K hK => ?sax11) AllReadyH.nil
        case hax11 => simp only [List.getElem?_toArray, List.getElem?_cons_zero, List.getElem?_cons_succ]; rfl
        go_simp
        refine hK.out _ _ (hHeld) (fun hHeld => ?_)
        clear hK K
        try simp only [Act.put, List.setIfInBounds_toArray, List.set_cons_zero, List.set_cons_succ]
        refine wpAnyH_ready (rs := [7]) (by kernel_rfl) (by simp) ?_
        refine AllReadyH.cons (o := ?oax12) ?hax12 (fun K hK => ?sax12) AllReadyH.nil
        case hax12 => simp only [List.getElem?_toArray, List.getElem?_cons_zero, List.getElem?_cons_succ]; rfl
        go_simp
        refine hK.out _ _ (hHeld) (fun hHeld => ?_)
        clear hK K
        try simp only [Act.put, List.setIfInBounds_toArray, List.set_cons_zero, List.set_cons_succ]
        refine wpAnyH_done (by kernel_rfl) ?_ _
        refine NoPanic.normal ?_
        go_wp2_with fail
        go_meet
        exact ⟨_, _, by simp, by simp, EnI.start1 w x d M _ rfl hHeld.2⟩
      case sax10 =>
        go_simp
        refine hK.out _ _ (hHeld) (fun hHeld => ?_)
        clear hK K
        try simp only [Act.put, List.setIfInBounds_toArray, List.set_cons_zero, List.set_cons_succ]
        refine wpAnyH_ready (rs := [5]) (by kernel_rfl) (by simp) ?_
        refine AllReadyH.cons (o := ?oax14) ?hax14 (fun K hK => ?sax14) AllReadyH.nil
        case hax14 => simp only [List.getElem?_toArray, List.getElem?_cons_zero, List.getElem?_cons_succ]; rfl
        go_simp
        refine hK.out _ _ (⟨hHeld.1.no (Kp.alloc No _ _), hHeld.2.trans' (Kp.alloc No _ _)⟩) (fun hHeld => ?_)
        clear hK K
        try simp only [Act.put, List.setIfInBounds_toArray, List.set_cons_zero, List.set_cons_succ]
        refine wpAnyH_ready (rs := [7]) (by kernel_rfl) (by simp) ?_
        refine AllReadyH.cons (o := ?oax15) ?hax15 (fun K hK => ?sax15) AllReadyH.nil
        case hax15 => simp only [List.getElem?_toArray, List.getElem?_cons_zero, List.getElem?_cons_succ]; rfl
        go_simp
        refine hK.out _ _ (hHeld) (fun hHeld => ?_)
        clear hK K
        try simp only [Act.put, List.setIfInBounds_toArray, List.set_cons_zero, List.set_cons_succ]
        refine wpAnyH_done (by kernel_rfl) ?_ _
        refine NoPanic.normal ?_
        go_wp2_with fail
        go_meet
        exact ⟨_, _, by simp, by simp, EnI.start1 w x d M _ rfl hHeld.2⟩
    case sax6 =>
      go_simp
      refine (nn_any hHeld.1).mono ?_
      rintro e w' ⟨rfl, rfl⟩
      go_wp2_with fail
      refine hK.out _ _ (hHeld) (fun hHeld => ?_)
      clear hK K
      try simp only [Act.put, List.setIfInBounds_toArray, List.set_cons_zero, List.set_cons_succ]
      refine wpAnyH_ready (rs := [2, 5]) (by kernel_rfl) (by simp) ?_
      refine (AllReadyH.cons (o := ?oax18) ?hax18 (fun K hK => ?sax18) (AllReadyH.cons (o := ?oax19) ?hax19 (fun K hK => ?sax19) AllReadyH.nil))
      case hax18 => simp only [List.getElem?_toArray, List.getElem?_cons_zero, List.getElem?_cons_succ]; rfl
      case hax19 => simp only [List.getElem?_toArray, List.getElem?_cons_zero, List.getElem?_cons_succ]; rfl
      case sax18 =>
        go_simp
        refine hK.out _ _ (⟨hHeld.1.no (Kp.alloc No _ _), hHeld.2.trans' (Kp.alloc No _ _)⟩) (fun hHeld => ?_)
        clear hK K
        try simp only [Act.put, List.setIfInBounds_toArray, List.set_cons_zero, List.set_cons_succ]
        refine wpAnyH_ready (rs := [5, 6]) (by kernel_rfl) (by simp) ?_
        refine (AllReadyH.cons (o := ?oax21) ?hax21 (fun K hK => ?sax21) (AllReadyH.cons (o := ?oax22) ?hax22 (fun K hK => ?sax22) AllReadyH.nil))
        case hax21 => simp only [List.getElem?_toArray, List.getElem?_cons_zero, List.getElem?_cons_succ]; rfl
        case hax22 => simp only [List.getElem?_toArray, List.getElem?_cons_zero, List.getElem?_cons_succ]; rfl
        case sax21 =>
          go_simp
          refine hK.out _ _ (⟨hHeld.1.no (Kp.alloc No _ _), hHeld.2.trans' (Kp.alloc No _ _)⟩) (fun hHeld => ?_)
          clear hK K
          try simp only [Act.put, List.setIfInBounds_toArray, List.set_cons_zero, List.set_cons_succ]
          refine wpAnyH_ready (rs := [6]) (by kernel_rfl) (by simp) ?_
          refine AllReadyH.cons (o := ?oax23) ?hax23 (fun K hK => ?sax23) AllReadyH.nil
          case hax23 => simp only [List.getElem?_toArray, List.getElem?_cons_zero, List.getElem?_cons_succ]; rfl
          go_simp
          refine hK.out _ _ (hHeld) (fun hHeld => ?_)
          clear hK K
          try simp only [Act.put, List.setIfInBounds_toArray, List.set_cons_zero, List.set_cons_succ]
          refine wpAnyH_ready (rs := [7]) (by kernel_rfl) (by simp) ?_
          refine AllReadyH.cons (o := ?oax24) ?hax24 (fun K hK => ?sax24) AllReadyH.nil
          case hax24 => simp only [List.getElem?_toArray, List.getElem?_cons_zero, List.getElem?_cons_succ]; rfl
          go_simp
          refine hK.out _ _ (hHeld) (fun hHeld => ?_)
          clear hK K
          try simp only [Act.put, List.setIfInBounds_toArray, List.set_cons_zero, List.set_cons_succ]
          refine wpAnyH_done (by kernel_rfl) ?_ _
          refine NoPanic.normal ?_
          go_wp2_with fail
          go_meet
          exact ⟨_, _, by simp, by simp, EnI.start1 w x d M _ rfl hHeld.2⟩
        case sax22 =>
          go_simp
          refine hK.out _ _ (hHeld) (fun hHeld => ?_)
          clear hK K
          try simp only [Act.put, List.setIfInBounds_toArray, List.set_cons_zero, List.set_cons_succ]
          refine wpAnyH_ready (rs := [5]) (by kernel_rfl) (by simp) ?_
          refine AllReadyH.cons (o := ?oax26) ?hax26 (fun K hK => ?sax26) AllReadyH.nil
          case hax26 => simp only [List.getElem?_toArray, List.getElem?_cons_zero, List.getElem?_cons_succ]; rfl
          go_simp
          refine hK.out _ _ (⟨hHeld.1.no (Kp.alloc No _ _), hHeld.2.trans' (Kp.alloc No _ _)⟩) (fun hHeld => ?_)
          clear hK K
          try simp only [Act.put, List.setIfInBounds_toArray, List.set_cons_zero, List.set_cons_succ]
          refine wpAnyH_ready (rs := [7]) (by kernel_rfl) (by simp) ?_
          refine AllReadyH.cons (o := ?oax27) ?hax27 (fun K hK => ?sax27) AllReadyH.nil
          case hax27 => simp only [List.getElem?_toArray, List.getElem?_cons_zero, List.getElem?_cons_succ]; rfl
          go_simp
          refine hK.out _ _ (hHeld) (fun hHeld => ?_)
          clear hK K
          try simp only [Act.put, List.setIfInBounds_toArray, List.set_cons_zero, List.set_cons_succ]
          refine wpAnyH_done (by kernel_rfl) ?_ _
          refine NoPanic.normal ?_
          go_wp2_with fail
          go_meet
          exact ⟨_, _, by simp, by simp, EnI.start1 w x d M _ rfl hHeld.2⟩
      case sax19 =>
        go_simp
        refine hK.out _ _ (⟨hHeld.1.no (Kp.alloc No _ _), hHeld.2.trans' (Kp.alloc No _ _)⟩) (fun hHeld => ?_)
        clear hK K
        try simp only [Act.put, List.setIfInBounds_toArray, List.set_cons_zero, List.set_cons_succ]
        refine wpAnyH_ready (rs := [2]) (by kernel_rfl) (by simp) ?_
        refine AllReadyH.cons (o := ?oax29) ?hax29 (fun K hK => ?sax29) AllReadyH.nil
        case hax29 => simp only [List.getElem?_toArray, List.getElem?_cons_zero, List.getElem?_cons_succ]; rfl
        go_simp
        refine hK.out _ _ (⟨hHeld.1.no (Kp.alloc No _ _), hHeld.2.trans' (Kp.alloc No _ _)⟩) (fun hHeld => ?_)
        clear hK K
        try simp only [Act.put, List.setIfInBounds_toArray, List.set_cons_zero, List.set_cons_succ]
        refine wpAnyH_ready (rs := [6]) (by kernel_rfl) (by simp) ?_
        refine AllReadyH.cons (o := ?oax30) ?hax30 (fun K hK => ?sax30) AllReadyH.nil
        case hax30 => simp only [List.getElem?_toArray, List.getElem?_cons_zero, List.getElem?_cons_succ]; rfl
        go_simp
        refine hK.out _ _ (hHeld) (fun hHeld => ?_)
        clear hK K
        try simp only [Act.put, List.setIfInBounds_toArray, List.set_cons_zero, List.set_cons_succ]
        refine wpAnyH_ready (rs := [7]) (by kernel_rfl) (by simp) ?_
        refine AllReadyH.cons (o := ?oax31) ?hax31 (fun K hK => ?sax31) AllReadyH.nil
        case hax31 => simp only [List.getElem?_toArray, List.getElem?_cons_zero, List.getElem?_cons_succ]; rfl
        go_simp
        refine hK.out _ _ (hHeld) (fun hHeld => ?_)
        clear hK K
        try simp only [Act.put, List.setIfInBounds_toArray, List.set_cons_zero, List.set_cons_succ]
        refine wpAnyH_done (by kernel_rfl) ?_ _
        refine NoPanic.normal ?_
        go_wp2_with fail
        go_meet
        exact ⟨_, _, by simp, by simp, EnI.start2 w x d M _ rfl hHeld.2⟩
  case rest =>
    obtain ⟨g1, g2, rfl, rfl, hE⟩ := hcut
    clear hmk
    have hD := HD
    go_wp2_with fail
    refine (nn_any (h.no hE.kp)).mono ?_
    rintro e w' ⟨rfl, rfl⟩
    go_wp2_with fail
    go_loopw [44] (fun i wr => ∃ s : Nat, s ≤ n ∧ i = .int .i64 (s : Int) ∧ EnI w g1 g2 n d M x s wr) (fun i _ => n - (intOf i).toNat)
    case atStart => exact ⟨0, Nat.zero_le _, rfl, hE⟩
    case round =>
      clear hE
      obtain ⟨s, hs, rfl, hI⟩ := hrel
      by_cases hlt : s < n
      · have hCd : CodeAt wr.drew c n k x := (h.no hI.kp).no (Sm.drew wr).kp
        have hXd : EnX g1 g2 n s wr.drew := (hI.enx hlt).no (Sm.drew wr).kp
        have HRow := hide (rowo_in hCd HD.out s hlt)
        have hmk := fun w => make_bytes w M (M : Int) rfl (by omega)
        have hwM : IntKind.i64.wrap ((a : Int) * (L : Int)) = (M : Int) := by
          rw [HMM.out, ← Int.natCast_mul]
          exact IntWalk.i64_in _ (by have := HMM.out; omega)
        have HI : Hid (EnI w g1 g2 n d M x s wr.drew) := by
          obtain ⟨⟨hv1, hv2, e1, e2, e3, e4, e5, e6⟩, e7, e8, e9, e10⟩ := hI
          exact ⟨⟨hv1, hv2, e1, e2, e3, e4, e5, e6⟩, e7.drew, e8, e9, e10⟩
        have HX : Hid (wr.drew.heap.size ≤ wr.drew.heap.size) := Nat.le_refl _
        clear hI
        go_wp2_with fail
        refine wp_region_noPanic ?_
        refine wp_region_held_drew (S := fun w' => (∃ v, w'.cell? ⟨g1, s, none⟩ = some v) ∧ w'.frozen? ⟨g1, s, none⟩ = false ∧ (∃ v, w'.cell? ⟨g2, s, none⟩ = some v) ∧ w'.frozen? ⟨g2, s, none⟩ = false) (by kernel_rfl) (hXd.ok) (fun hHeld => ?_)
        refine wpAnyH_take (i := 0) (v := ?vbx1) (oi := ?obx1) ?hbx1 (by kernel_rfl) (by kernel_rfl) (by kernel_rfl) (fun _ _ _ h => h) (Or.inl ⟨?wbx1, ?ybx1⟩) hHeld ?rbx1
        case hbx1 => simp only [List.getElem?_toArray, List.getElem?_cons_zero, List.getElem?_cons_succ]; rfl
        case wbx1 => rfl
        case ybx1 => intro w hSw; (try dsimp only at hSw); go_simp; (try with_reducible rfl)
        simp only [Act.put, List.setIfInBounds_toArray, List.set_cons_zero, List.set_cons_succ]
        refine wpAnyH_take (i := 1) (v := ?vbx2) (oi := ?obx2) ?hbx2 (by kernel_rfl) (by kernel_rfl) (by kernel_rfl) (fun _ _ _ h => h) (Or.inl ⟨?wbx2, ?ybx2⟩) hHeld ?rbx2
        case hbx2 => simp only [List.getElem?_toArray, List.getElem?_cons_zero, List.getElem?_cons_succ]; rfl
        case wbx2 => rfl
        case ybx2 => intro w hSw; (try dsimp only at hSw); go_simp; (try with_reducible rfl)
        simp only [Act.put, List.setIfInBounds_toArray, List.set_cons_zero, List.set_cons_succ]
        refine wpAnyH_take (i := 2) (v := ?vbx3) (oi := ?obx3) ?hbx3 (by kernel_rfl) (by kernel_rfl) (by kernel_rfl) (fun _ _ _ h => h) (Or.inl ⟨?wbx3, ?ybx3⟩) hHeld ?rbx3
        case hbx3 => simp only [List.getElem?_toArray, List.getElem?_cons_zero, List.getElem?_cons_succ]; rfl
        case wbx3 => rfl
        case ybx3 => intro w hSw; (try dsimp only at hSw); go_simp; (try with_reducible rfl)
        simp only [Act.put, List.setIfInBounds_toArray, List.set_cons_zero, List.set_cons_succ]
        refine wpAnyH_take (i := 3) (v := ?vbx4) (oi := ?obx4) ?hbx4 (by kernel_rfl) (by kernel_rfl) (by kernel_rfl) (fun _ _ _ h => h) (Or.inl ⟨?wbx4, ?ybx4⟩) hHeld ?rbx4
        case hbx4 => simp only [List.getElem?_toArray, List.getElem?_cons_zero, List.getElem?_cons_succ]; rfl
        case wbx4 => rfl
        case ybx4 => intro w hSw; (try dsimp only at hSw); go_simp; (try with_reducible rfl)
        simp only [Act.put, List.setIfInBounds_toArray, List.set_cons_zero, List.set_cons_succ]
        refine wpAnyH_take (i := 4) (v := ?vbx5) (oi := ?obx5) ?hbx5 (by kernel_rfl) (by kernel_rfl) (by kernel_rfl) (fun _ _ _ h => h) (Or.inl ⟨?wbx5, ?ybx5⟩) hHeld ?rbx5
        case hbx5 => simp only [List.getElem?_toArray, List.getElem?_cons_zero, List.getElem?_cons_succ]; rfl
        case wbx5 => rfl
        case ybx5 => intro w hSw; (try dsimp only at hSw); go_simp; (try with_reducible rfl)
        simp only [Act.put, List.setIfInBounds_toArray, List.set_cons_zero, List.set_cons_succ]
        refine wpAnyH_take (i := 5) (v := ?vbx6) (oi := ?obx6) ?hbx6 (by kernel_rfl) (by kernel_rfl) (by kernel_rfl) (fun _ _ _ h => h) (Or.inl ⟨?wbx6, ?ybx6⟩) hHeld ?rbx6
        case hbx6 => simp only [List.getElem?_toArray, List.getElem?_cons_zero, List.getElem?_cons_succ]; rfl
        case wbx6 => rfl
        case ybx6 => intro w hSw; (try dsimp only at hSw); go_simp; (try with_reducible rfl)
        simp only [Act.put, List.setIfInBounds_toArray, List.set_cons_zero, List.set_cons_succ]
        refine wpAnyH_take (i := 7) (v := ?vbx7) (oi := ?obx7) ?hbx7 (by kernel_rfl) (by kernel_rfl) (by kernel_rfl) (fun _ _ _ h => h) (Or.inl ⟨?wbx7, ?ybx7⟩) hHeld ?rbx7
        case hbx7 => simp only [List.getElem?_toArray, List.getElem?_cons_zero, List.getElem?_cons_succ]; rfl
        case wbx7 => rfl
        case ybx7 => intro w hSw; (try dsimp only at hSw); go_simp; (try with_reducible rfl)
        simp only [Act.put, List.setIfInBounds_toArray, List.set_cons_zero, List.set_cons_succ]
        refine wpAnyH_take (i := 9) (v := ?vbx8) (oi := ?obx8) ?hbx8 (by kernel_rfl) (by kernel_rfl) (by kernel_rfl) (fun _ _ _ h => h) (Or.inl ⟨?wbx8, ?ybx8⟩) hHeld ?rbx8
        case hbx8 => simp only [List.getElem?_toArray, List.getElem?_cons_zero, List.getElem?_cons_succ]; rfl
        case wbx8 => rfl
        case ybx8 => intro w hSw; (try dsimp only at hSw); go_simp; (try with_reducible rfl)
        simp only [Act.put, List.setIfInBounds_toArray, List.set_cons_zero, List.set_cons_succ]
        refine wpAnyH_ready (rs := [6]) (by kernel_rfl) (by simp) ?_
        refine AllReadyH.cons (o := ?obx9) ?hbx9 (fun K hK => ?sbx9) AllReadyH.nil
        case hbx9 => simp only [List.getElem?_toArray, List.getElem?_cons_zero, List.getElem?_cons_succ]; rfl
        go_simp
        refine HRow.out.mono ?_
        rintro e w1 ⟨A1, n1, c1, rfl, ho1, hk1⟩
        have hx := EnX.no hXd hk1
        go_wp2_with fail
        refine hK.out _ _ (hx.ok) (fun hHeld => ?_)
        clear hK K
        try simp only [Act.put, List.setIfInBounds_toArray, List.set_cons_zero, List.set_cons_succ]
        refine wpAnyH_ready (rs := [8]) (by kernel_rfl) (by simp) ?_
        refine AllReadyH.cons (o := ?obx10) ?hbx10 (fun K hK => ?sbx10) AllReadyH.nil
        case hbx10 => simp only [List.getElem?_toArray, List.getElem?_cons_zero, List.getElem?_cons_succ]; rfl
        go_simp
        refine (aa_any (hCd.no hk1) hD.out).mono ?_
        rintro e w' ⟨rfl, rfl⟩
        go_wp2_with fail
        refine hK.out _ _ (hx.ok) (fun hHeld => ?_)
        clear hK K
        try simp only [Act.put, List.setIfInBounds_toArray, List.set_cons_zero, List.set_cons_succ]
        refine wpAnyH_take (i := 10) (v := ?vbx11) (oi := ?obx11) ?hbx11 (by kernel_rfl) (by kernel_rfl) (by kernel_rfl) (fun _ _ _ h => h) (Or.inl ⟨?wbx11, ?ybx11⟩) hHeld ?rbx11
        case hbx11 => simp only [List.getElem?_toArray, List.getElem?_cons_zero, List.getElem?_cons_succ]; rfl
        case wbx11 => rfl
        case ybx11 => intro w hSw; (try dsimp only at hSw); go_simp; (try with_reducible rfl)
        simp only [Act.put, List.setIfInBounds_toArray, List.set_cons_zero, List.set_cons_succ]
        refine wpAnyH_take (i := 12) (v := ?vbx12) (oi := ?obx12) ?hbx12 (by kernel_rfl) (by kernel_rfl) (by kernel_rfl) (fun _ _ _ h => h) (Or.inl ⟨?wbx12, ?ybx12⟩) hHeld ?rbx12
        case hbx12 => simp only [List.getElem?_toArray, List.getElem?_cons_zero, List.getElem?_cons_succ]; rfl
        case wbx12 => rfl
        case ybx12 => intro w hSw; (try dsimp only at hSw); go_simp; (try with_reducible rfl)
        simp only [Act.put, List.setIfInBounds_toArray, List.set_cons_zero, List.set_cons_succ]
        refine wpAnyH_ready (rs := [11, 13]) (by kernel_rfl) (by simp) ?_
        refine (AllReadyH.cons (o := ?obx14) ?hbx14 (fun K hK => ?sbx14) (AllReadyH.cons (o := ?obx15) ?hbx15 (fun K hK => ?sbx15) AllReadyH.nil))
        case hbx14 => simp only [List.getElem?_toArray, List.getElem?_cons_zero, List.getElem?_cons_succ]; rfl
        case hbx15 => simp only [List.getElem?_toArray, List.getElem?_cons_zero, List.getElem?_cons_succ]; rfl
        case sbx14 =>
          go_simp
          refine hK.out _ _ ((hx.no (Kp.alloc No _ _)).ok) (fun hHeld => ?_)
          clear hK K
          try simp only [Act.put, List.setIfInBounds_toArray, List.set_cons_zero, List.set_cons_succ]
          refine wpAnyH_ready (rs := [13]) (by kernel_rfl) (by simp) ?_
          refine AllReadyH.cons (o := ?obx16) ?hbx16 (fun K hK => ?sbx16) AllReadyH.nil
          case hbx16 => simp only [List.getElem?_toArray, List.getElem?_cons_zero, List.getElem?_cons_succ]; rfl
          obtain ⟨q1, q2, _, _⟩ := hHeld
          obtain ⟨q0, q1⟩ := q1
          go_simp
          refine hK.out _ _ ((hx.no (Kp.alloc No _ _)).set1 _ |>.ok) (fun hHeld => ?_)
          clear hK K
          try simp only [Act.put, List.setIfInBounds_toArray, List.set_cons_zero, List.set_cons_succ]
          refine wpAnyH_take (i := 14) (v := ?vbx17) (oi := ?obx17) ?hbx17 (by kernel_rfl) (by kernel_rfl) (by kernel_rfl) (fun _ _ _ h => h) (Or.inl ⟨?wbx17, ?ybx17⟩) hHeld ?rbx17
          case hbx17 => simp only [List.getElem?_toArray, List.getElem?_cons_zero, List.getElem?_cons_succ]; rfl
          case wbx17 => rfl
          case ybx17 => intro w hSw; (try dsimp only at hSw); go_simp; (try with_reducible rfl)
          simp only [Act.put, List.setIfInBounds_toArray, List.set_cons_zero, List.set_cons_succ]
          refine wpAnyH_ready (rs := [15]) (by kernel_rfl) (by simp) ?_
          refine AllReadyH.cons (o := ?obx18) ?hbx18 (fun K hK => ?sbx18) AllReadyH.nil
          case hbx18 => simp only [List.getElem?_toArray, List.getElem?_cons_zero, List.getElem?_cons_succ]; rfl
          obtain ⟨_, _, q1, q2⟩ := hHeld
          obtain ⟨q0, q1⟩ := q1
          go_simp
          refine hK.out _ _ (((hx.no (Kp.alloc No _ _)).set1 _).set2 _ |>.ok) (fun hHeld => ?_)
          clear hK K
          try simp only [Act.put, List.setIfInBounds_toArray, List.set_cons_zero, List.set_cons_succ]
          refine wpAnyH_done (by kernel_rfl) ?_ _
          refine NoPanic.normal ?_
          go_wp2_with fail
          go_round
          case rel => exact ⟨s + 1, by omega, by go_num, (HI.out.fin1 hlt HX.out hk1 ho1 hM1 hd1)⟩
          case measure => simp [intOf]; omega
        case sbx15 =>
          obtain ⟨q1, q2, _, _⟩ := hHeld
          obtain ⟨q0, q1⟩ := q1
          go_simp
          refine hK.out _ _ ((hx.set1 _).ok) (fun hHeld => ?_)
          clear hK K
          try simp only [Act.put, List.setIfInBounds_toArray, List.set_cons_zero, List.set_cons_succ]
          refine wpAnyH_ready (rs := [11]) (by kernel_rfl) (by simp) ?_
          refine AllReadyH.cons (o := ?obx20) ?hbx20 (fun K hK => ?sbx20) AllReadyH.nil
          case hbx20 => simp only [List.getElem?_toArray, List.getElem?_cons_zero, List.getElem?_cons_succ]; rfl
          go_simp
          refine hK.out _ _ ((hx.set1 _).no (Kp.alloc No _ _) |>.ok) (fun hHeld => ?_)
          clear hK K
          try simp only [Act.put, List.setIfInBounds_toArray, List.set_cons_zero, List.set_cons_succ]
          refine wpAnyH_take (i := 14) (v := ?vbx21) (oi := ?obx21) ?hbx21 (by kernel_rfl) (by kernel_rfl) (by kernel_rfl) (fun _ _ _ h => h) (Or.inl ⟨?wbx21, ?ybx21⟩) hHeld ?rbx21
          case hbx21 => simp only [List.getElem?_toArray, List.getElem?_cons_zero, List.getElem?_cons_succ]; rfl
          case wbx21 => rfl
          case ybx21 => intro w hSw; (try dsimp only at hSw); go_simp; (try with_reducible rfl)
          simp only [Act.put, List.setIfInBounds_toArray, List.set_cons_zero, List.set_cons_succ]
          refine wpAnyH_ready (rs := [15]) (by kernel_rfl) (by simp) ?_
          refine AllReadyH.cons (o := ?obx22) ?hbx22 (fun K hK => ?sbx22) AllReadyH.nil
          case hbx22 => simp only [List.getElem?_toArray, List.getElem?_cons_zero, List.getElem?_cons_succ]; rfl
          obtain ⟨_, _, q1, q2⟩ := hHeld
          obtain ⟨q0, q1⟩ := q1
          go_simp
          refine hK.out _ _ (((hx.set1 _).no (Kp.alloc No _ _)).set2 _ |>.ok) (fun hHeld => ?_)
          clear hK K
          try simp only [Act.put, List.setIfInBounds_toArray, List.set_cons_zero, List.set_cons_succ]
          refine wpAnyH_done (by kernel_rfl) ?_ _
          refine NoPanic.normal ?_
          go_wp2_with fail
          go_round
          case rel => exact ⟨s + 1, by omega, by go_num, (HI.out.fin2 hlt HX.out hk1 ho1 hM1 hd1)⟩
          case measure => simp [intOf]; omega
      · obtain rfl : s = n := by omega
        obtain ⟨hv1, hv2, a1, a2, a3, a4, a5, a6⟩ := hI.ex
        have hJ : EnJ w g1 g2 s d M x hv1 hv2 (fun i => shE a d L bs (x i)) 0 0 wr := ⟨⟨a1, a3, hI.ge1⟩, ⟨a2, fun j hj => by
          have e : rowL M (encP (fun i => shE a d L bs (x i)) 0 0 j) = rowL M fun _ => 0 := rowL_congr fun t _ => by unfold encP; rw [if_neg (by omega)]
          show Own _ _ _ _ (rowL M (encP (fun i => shE a d L bs (x i)) 0 0 j))
          rw [e]
          exact a4 j hj, hI.ge2⟩, a5, a6, hI.kp⟩
        obtain ⟨NA, hNA⟩ : ∃ NA, NA = wr.heap.size := ⟨_, rfl⟩
        have HB : Hid (∀ j q, j < s → (hv2 j).ownBlock = some q → q < NA) := fun j q hj hq => by rw [hNA]; exact (a4 j hj).lt q hq
        have hcol := columns_any (h.no hJ.kp) HD.out
        clear a1 a2 a3 a4 a5 a6 hI
        go_wp2_with fail
        refine hcol.mono ?_
        rintro e w5 ⟨gc, cpc, bl, rfl, hG, hkc⟩
        rw [← hNA] at hG
        have hJ5 := hJ.no hkc
        clear hJ hcol hNA
        go_wp2_with fail
        go_loopw [65] (fun jv wr => ∃ j : Nat, j ≤ a ∧ jv = .int .i64 (j : Int) ∧ EnJ w g1 g2 s d M x hv1 hv2 (fun i => shE a d L bs (x i)) (j * L) 0 wr ∧ GrI wr NA gc a a d bl fun j r => plcF a r j) (fun jv _ => a - (intOf jv).toNat)
        case atStart => exact ⟨0, Nat.zero_le _, rfl, by rw [Nat.zero_mul]; exact hJ5, hG⟩
        case round =>
          clear hJ5 hG hkc
          obtain ⟨j, hj, rfl, hJ, hG⟩ := hrel
          by_cases hltj : j < a
          · have zc0 := hG.outer hltj
            have HJL : Hid (j * L + L ≤ M) := by
              show j * L + L ≤ M
              have := Nat.mul_le_mul_right L (show j + 1 ≤ a from hltj)
              rw [Nat.add_mul, Nat.one_mul] at this
              rw [HMM.out]
              exact this
            go_wp2_with fail
            clear zc0
            go_loopw [71] (fun iv wr => ∃ i : Nat, i ≤ L ∧ iv = .int .i64 (i : Int) ∧ EnJ w g1 g2 s d M x hv1 hv2 (fun i => shE a d L bs (x i)) (j * L + i) 0 wr ∧ GrI wr NA gc a a d bl fun j r => plcF a r j) (fun iv _ => L - (intOf iv).toNat)
            case atStart => exact ⟨0, Nat.zero_le _, rfl, hJ, hG⟩
            case round =>
              clear hJ hG
              obtain ⟨i, hi, rfl, hJ, hG⟩ := hrel
              by_cases hlti : i < L
              · have hel := elements_any (L := L) (at_ := i) (p := fun r => plcF a r j) (h2.no hJ.kp) (fun r hr => hG.cell hltj hr) (by omega) (by omega) (by omega) fun r hr => HPL.out r j hr hltj i hlti
                go_wp2_with fail
                refine hel.mono ?_
                rintro e w6 ⟨A5, n5, c5, rfl, ho5, hk5⟩
                obtain rfl : d = n5 := by rw [ho5.len, rowL_len]
                have hJ6 := hJ.no hk5
                have hG6 := hG.no hk5
                have ho6 := ho5.rebase (b := NA) fun q hq => Nat.le_trans (Nat.le_trans hG.bg (Nat.le_of_lt hG.glt)) (ho5.ge q hq)
                obtain ⟨T, hT0⟩ : ∃ T, T = j * L + i := ⟨_, rfl⟩
                rw [← hT0] at hJ6
                have HT0 := hide hT0
                clear hJ hG hel ho5 hk5 hT0
                go_wp2_with fail
                refine (nn_any (h.no hJ6.kp)).mono ?_
                rintro e w' ⟨rfl, rfl⟩
                go_wp2_with fail
                go_loopw [81] (fun sv wr => ∃ sl : Nat, sl ≤ s ∧ sv = .int .i64 (sl : Int) ∧ EnJ w g1 g2 s d M x hv1 hv2 (fun i => shE a d L bs (x i)) T sl wr ∧ GrI wr NA gc a a d bl (fun j r => plcF a r j) ∧ Own wr NA 5 (.slice A5 d c5) (rowL d fun r => lg bs (plcF a r j * L + i))) (fun sv _ => s - (intOf sv).toNat)
                case atStart => exact ⟨0, Nat.zero_le _, rfl, hJ6, hG6, ho6⟩
                case round =>
                  clear hJ6 hG6 ho6
                  obtain ⟨sl, hsl, rfl, hJ, hG, ho⟩ := hrel
                  by_cases hltl : sl < s
                  · obtain ⟨b1, c1, e1, _, hR1, _, _⟩ := hJ.rows.at_ hd1 hltl
                    obtain ⟨b2, c2, e2, e2b, hR2, hb2, _⟩ := hJ.shs.at_ hM1.2 hltl
                    have hz1 : wr.drew.cell? ⟨g1, sl, none⟩ = some (.slice (some ⟨b1, 0, none⟩) d c1) := by rw [(Sm.drew wr).cell, ← e1]; exact hJ.rows.out.cell hltl
                    have hz2 : wr.drew.cell? ⟨g2, sl, none⟩ = some (.slice (some ⟨b2, 0, none⟩) M c2) := by rw [(Sm.drew wr).cell, ← e2]; exact hJ.shs.out.cell hltl
                    have hT : T < M := by have := HT0.out; have := HJL.out; omega
                    have HDot := hide (dot_any (hR1.bts.no (Sm.drew wr).kp) (ho.bts.no (Sm.drew wr).kp) d (by rw [rowL_len, rowL_len]; omega) (by rw [rowL_len]; omega) (by rw [rowL_len]; omega))
                    have HV : Hid (ud (lg (rowL d (upw (x sl)))) (lg (rowL d fun r => lg bs (plcF a r j * L + i))) d = shE a d L bs (x sl) T) := by
                      show ud (lg (rowL d (upw (x sl)))) (lg (rowL d fun r => lg bs (plcF a r j * L + i))) d = shE a d L bs (x sl) T
                      rw [HT0.out, shE_at bs (x sl) hlti]
                      exact ud_congr (fun r hr => lg_rowL _ hr) fun r hr => lg_rowL (fun r => lg bs (plcF a r j * L + i)) hr
                    obtain ⟨yy, hyy⟩ : ∃ yy, yy = j * L := ⟨_, rfl⟩
                    have hw1 : IntKind.i64.wrap ((j : Int) * (L : Int)) = (yy : Int) := by
                      rw [hyy, ← Int.natCast_mul]
                      exact IntWalk.i64_in _ (by have := HJL.out; omega)
                    have hw2 : IntKind.i64.wrap ((yy : Int) + (i : Int)) = (T : Int) := by
                      rw [HT0.out, hyy, Int.natCast_add]
                      exact IntWalk.i64_in _ (by have := HJL.out; omega)
                    have HN := hide (fun w3 (hs : Sm wr w3) (v : Value) (hv : v = bv (shE a d L bs (x sl) T)) => (hJ.no hs.kp).set hltl hT e2 hb2 (hR2.no hs.kp) v hv)
                    have hbl : b2 < NA := HB.out sl b2 hltl e2b
                    have HGN := hide (fun w3 (hs : Sm wr w3) (v : Value) => (hG.no hs.kp).keep (RowAt.kpset b2 T v w3) (fun e => by have := hG.bg; omega) fun j hj e => by have := hG.bas j hj; omega)
                    have HON := hide (fun w3 (hs : Sm wr w3) (v : Value) => (ho.no hs.kp).keep (RowAt.kpset b2 T v w3) fun q hq e => by have := ho.ge q hq; omega)
                    clear hyy hJ hG ho hR1 e1 e2 e2b
                    go_wp2_with fail
                    refine wp_region_noPanic ?_
                    refine LastR.begin (S := fun w' => w'.cell? ⟨g2, sl, none⟩ = some (.slice (some ⟨b2, 0, none⟩) M c2) ∧ w'.cell? ⟨g1, sl, none⟩ = some (.slice (some ⟨b1, 0, none⟩) d c1) ∧ Sm wr w') (t := 16) (by kernel_rfl) (⟨hz2, hz1, Sm.drew wr⟩) (fun hHeld => ?_)
                    refine LastR.take (i := 0) (v := ?vc0) (oi := ?oc0) ?hc0 (by kernel_rfl) (by kernel_rfl) (by kernel_rfl) (by kernel_rfl) (fun _ _ _ h => h) (Or.inl ⟨?wc0, ?yc0⟩) hHeld ?rc0
                    case hc0 => simp only [List.getElem?_toArray, List.getElem?_cons_zero, List.getElem?_cons_succ]; rfl
                    case wc0 => rfl
                    case yc0 => intro w hSw; (try dsimp only at hSw); go_simp; (try with_reducible rfl)
                    simp only [Act.put, List.setIfInBounds_toArray, List.set_cons_zero, List.set_cons_succ]
                    refine LastR.take (i := 1) (v := ?vc1) (oi := ?oc1) ?hc1 (by kernel_rfl) (by kernel_rfl) (by kernel_rfl) (by kernel_rfl) (fun _ _ _ h => h) (Or.inl ⟨?wc1, ?yc1⟩) hHeld ?rc1
                    case hc1 => simp only [List.getElem?_toArray, List.getElem?_cons_zero, List.getElem?_cons_succ]; rfl
                    case wc1 => rfl
                    case yc1 => intro w hSw; (try dsimp only at hSw); go_simp; (try with_reducible rfl)
                    simp only [Act.put, List.setIfInBounds_toArray, List.set_cons_zero, List.set_cons_succ]
                    refine LastR.take (i := 2) (v := ?vc2) (oi := ?oc2) ?hc2 (by kernel_rfl) (by kernel_rfl) (by kernel_rfl) (by kernel_rfl) (fun _ _ _ h => h) (Or.inl ⟨?wc2, ?yc2⟩) hHeld ?rc2
                    case hc2 => simp only [List.getElem?_toArray, List.getElem?_cons_zero, List.getElem?_cons_succ]; rfl
                    case wc2 => rfl
                    case yc2 => intro w hSw; (try dsimp only at hSw); go_simp; (try with_reducible rfl)
                    simp only [Act.put, List.setIfInBounds_toArray, List.set_cons_zero, List.set_cons_succ]
                    refine LastR.take (i := 3) (v := ?vc3) (oi := ?oc3) ?hc3 (by kernel_rfl) (by kernel_rfl) (by kernel_rfl) (by kernel_rfl) (fun _ _ _ h => h) (Or.inl ⟨?wc3, ?yc3⟩) hHeld ?rc3
                    case hc3 => simp only [List.getElem?_toArray, List.getElem?_cons_zero, List.getElem?_cons_succ]; rfl
                    case wc3 => rfl
                    case yc3 => intro w hSw; (try dsimp only at hSw); go_simp; (try with_reducible rfl)
                    simp only [Act.put, List.setIfInBounds_toArray, List.set_cons_zero, List.set_cons_succ]
                    refine LastR.take (i := 4) (v := ?vc4) (oi := ?oc4) ?hc4 (by kernel_rfl) (by kernel_rfl) (by kernel_rfl) (by kernel_rfl) (fun _ _ _ h => h) (Or.inl ⟨?wc4, ?yc4⟩) hHeld ?rc4
                    case hc4 => simp only [List.getElem?_toArray, List.getElem?_cons_zero, List.getElem?_cons_succ]; rfl
                    case wc4 => rfl
                    case yc4 => intro w hSw; (try dsimp only at hSw); go_simp; (try with_reducible rfl)
                    simp only [Act.put, List.setIfInBounds_toArray, List.set_cons_zero, List.set_cons_succ]
                    refine LastR.take (i := 5) (v := ?vc5) (oi := ?oc5) ?hc5 (by kernel_rfl) (by kernel_rfl) (by kernel_rfl) (by kernel_rfl) (fun _ _ _ h => h) (Or.inl ⟨?wc5, ?yc5⟩) hHeld ?rc5
                    case hc5 => simp only [List.getElem?_toArray, List.getElem?_cons_zero, List.getElem?_cons_succ]; rfl
                    case wc5 => rfl
                    case yc5 => intro w hSw; (try dsimp only at hSw); go_simp; (try with_reducible rfl)
                    simp only [Act.put, List.setIfInBounds_toArray, List.set_cons_zero, List.set_cons_succ]
                    refine LastR.take (i := 6) (v := ?vc6) (oi := ?oc6) ?hc6 (by kernel_rfl) (by kernel_rfl) (by kernel_rfl) (by kernel_rfl) (fun _ _ _ h => h) (Or.inl ⟨?wc6, ?yc6⟩) hHeld ?rc6
                    case hc6 => simp only [List.getElem?_toArray, List.getElem?_cons_zero, List.getElem?_cons_succ]; rfl
                    case wc6 => rfl
                    case yc6 => intro w hSw; (try dsimp only at hSw); go_simp; (try with_reducible rfl)
                    simp only [Act.put, List.setIfInBounds_toArray, List.set_cons_zero, List.set_cons_succ]
                    refine LastR.take (i := 7) (v := ?vc7) (oi := ?oc7) ?hc7 (by kernel_rfl) (by kernel_rfl) (by kernel_rfl) (by kernel_rfl) (fun _ _ _ h => h) (Or.inl ⟨?wc7, ?yc7⟩) hHeld ?rc7
                    case hc7 => simp only [List.getElem?_toArray, List.getElem?_cons_zero, List.getElem?_cons_succ]; rfl
                    case wc7 => rfl
                    case yc7 => intro w hSw; (try dsimp only at hSw); go_simp; (try with_reducible rfl)
                    simp only [Act.put, List.setIfInBounds_toArray, List.set_cons_zero, List.set_cons_succ]
                    refine LastR.take (i := 8) (v := ?vc8) (oi := ?oc8) ?hc8 (by kernel_rfl) (by kernel_rfl) (by kernel_rfl) (by kernel_rfl) (fun _ _ _ h => h) (Or.inl ⟨?wc8, ?yc8⟩) hHeld ?rc8
                    case hc8 => simp only [List.getElem?_toArray, List.getElem?_cons_zero, List.getElem?_cons_succ]; rfl
                    case wc8 => rfl
                    case yc8 => intro w hSw; (try dsimp only at hSw); go_simp; (try with_reducible rfl)
                    simp only [Act.put, List.setIfInBounds_toArray, List.set_cons_zero, List.set_cons_succ]
                    refine LastR.take (i := 9) (v := ?vc9) (oi := ?oc9) ?hc9 (by kernel_rfl) (by kernel_rfl) (by kernel_rfl) (by kernel_rfl) (fun _ _ _ h => h) (Or.inl ⟨?wc9, ?yc9⟩) hHeld ?rc9
                    case hc9 => simp only [List.getElem?_toArray, List.getElem?_cons_zero, List.getElem?_cons_succ]; rfl
                    case wc9 => rfl
                    case yc9 => intro w hSw; (try dsimp only at hSw); go_simp; (try with_reducible rfl)
                    simp only [Act.put, List.setIfInBounds_toArray, List.set_cons_zero, List.set_cons_succ]
                    refine LastR.take (i := 10) (v := ?vc10) (oi := ?oc10) ?hc10 (by kernel_rfl) (by kernel_rfl) (by kernel_rfl) (by kernel_rfl) (fun _ _ _ h => h) (Or.inl ⟨?wc10, ?yc10⟩) hHeld ?rc10
                    case hc10 => simp only [List.getElem?_toArray, List.getElem?_cons_zero, List.getElem?_cons_succ]; rfl
                    case wc10 => rfl
                    case yc10 => intro w hSw; (try dsimp only at hSw); go_simp; (try with_reducible rfl)
                    simp only [Act.put, List.setIfInBounds_toArray, List.set_cons_zero, List.set_cons_succ]
                    refine LastR.take (i := 11) (v := ?vc11) (oi := ?oc11) ?hc11 (by kernel_rfl) (by kernel_rfl) (by kernel_rfl) (by kernel_rfl) (fun _ _ _ h => h) (Or.inl ⟨?wc11, ?yc11⟩) hHeld ?rc11
                    case hc11 => simp only [List.getElem?_toArray, List.getElem?_cons_zero, List.getElem?_cons_succ]; rfl
                    case wc11 => rfl
                    case yc11 => intro w hSw; (try dsimp only at hSw); go_simp; (try with_reducible rfl)
                    simp only [Act.put, List.setIfInBounds_toArray, List.set_cons_zero, List.set_cons_succ]
                    refine LastR.take (i := 12) (v := ?vc12) (oi := ?oc12) ?hc12 (by kernel_rfl) (by kernel_rfl) (by kernel_rfl) (by kernel_rfl) (fun _ _ _ h => h) (Or.inl ⟨?wc12, ?yc12⟩) hHeld ?rc12
                    case hc12 => simp only [List.getElem?_toArray, List.getElem?_cons_zero, List.getElem?_cons_succ]; rfl
                    case wc12 => rfl
                    case yc12 => intro w hSw; (try dsimp only at hSw); go_simp; (try with_reducible rfl)
                    simp only [Act.put, List.setIfInBounds_toArray, List.set_cons_zero, List.set_cons_succ]
                    refine LastR.take (i := 13) (v := ?vc13) (oi := ?oc13) ?hc13 (by kernel_rfl) (by kernel_rfl) (by kernel_rfl) (by kernel_rfl) (fun _ _ _ h => h) (Or.inl ⟨?wc13, ?yc13⟩) hHeld ?rc13
                    case hc13 => simp only [List.getElem?_toArray, List.getElem?_cons_zero, List.getElem?_cons_succ]; rfl
                    case wc13 => rfl
                    case yc13 => intro w hSw; (try dsimp only at hSw); go_simp; (try with_reducible rfl)
                    simp only [Act.put, List.setIfInBounds_toArray, List.set_cons_zero, List.set_cons_succ]
                    refine LastR.run (i := 14) (o := ?oc14) ?hc14 (by kernel_rfl) (fun K hK => ?sc14)
                    case hc14 => simp only [List.getElem?_toArray, List.getElem?_cons_zero, List.getElem?_cons_succ]; rfl
                    go_simp
                    refine HDot.out.mono ?_
                    rintro e w3 ⟨rfl, hs3⟩
                    rw [HV.out]
                    have z2 := hz2
                    have z1 := hz1
                    rw [← hs3.cell] at z2 z1
                    go_wp2_with fail
                    refine hK.out _ _ (fun _ => ⟨z2, z1, (Sm.drew wr).trans hs3⟩) (fun hHe => ?_)
                    have hHeld := hHe (by decide)
                    clear hK K hHe
                    try simp only [Act.put, List.setIfInBounds_toArray, List.set_cons_zero, List.set_cons_succ]
                    refine LastR.take (i := 15) (v := ?vc15) (oi := ?oc15) ?hc15 (by kernel_rfl) (by kernel_rfl) (by kernel_rfl) (by kernel_rfl) (fun _ _ _ h => h) (Or.inl ⟨?wc15, ?yc15⟩) hHeld ?rc15
                    case hc15 => simp only [List.getElem?_toArray, List.getElem?_cons_zero, List.getElem?_cons_succ]; rfl
                    case wc15 => rfl
                    case yc15 => intro w hSw; (try dsimp only at hSw); go_simp; (try with_reducible rfl)
                    simp only [Act.put, List.setIfInBounds_toArray, List.set_cons_zero, List.set_cons_succ]
                    refine LastR.run (i := 16) (o := ?oc16) ?hc16 (by kernel_rfl) (fun K hK => ?sc16)
                    case hc16 => simp only [List.getElem?_toArray, List.getElem?_cons_zero, List.getElem?_cons_succ]; rfl
                    have zc := (hR2.no ((Sm.drew wr).trans hs3).kp).cell hT
                    have zf := (hR2.no ((Sm.drew wr).trans hs3).kp).frozen T
                    go_simp
                    refine hK.out _ _ (fun h => absurd rfl h) (fun _ => ?_)
                    clear hK K
                    try simp only [Act.put, List.setIfInBounds_toArray, List.set_cons_zero, List.set_cons_succ]
                    refine LastR.done (by kernel_rfl) ?_ _
                    refine NoPanic.normal ?_
                    go_wp2_with fail
                    go_round
                    case rel => exact ⟨sl + 1, by omega, by go_num, HN.out w3 ((Sm.drew wr).trans hs3) _ rfl, HGN.out w3 ((Sm.drew wr).trans hs3) _, HON.out w3 ((Sm.drew wr).trans hs3) _⟩
                    case measure => simp [intOf]; omega
                  · obtain rfl : sl = s := by omega
                    have hJt := hJ.turn
                    have hTi : T + 1 = j * L + (i + 1) := by have := HT0.out; omega
                    rw [hTi] at hJt
                    clear hTi hJ ho
                    go_wp2_with fail
                    go_round
                    case rel => exact ⟨i + 1, by omega, by go_num, hJt, hG⟩
                    case measure => simp [intOf]; omega
              · obtain rfl : i = L := by omega
                have e : j * i + i = (j + 1) * i := by rw [Nat.add_mul, Nat.one_mul]
                rw [e] at hJ
                clear e
                go_wp2_with fail
                go_round
                case rel => exact ⟨j + 1, by omega, by go_num, hJ, hG⟩
                case measure => simp [intOf]; omega
          · obtain rfl : j = a := by omega
            have HF : Hid (∃ hv, Grd wr w.heap.size g2 s hv fun i => rowL M (shE j d L bs (x i))) := by
              have := hJ.shs
              rw [← HMM.out] at this
              exact ⟨_, this.eq fun i _ => rowL_congr fun t ht => by unfold encP; rw [if_pos (by omega)]⟩
            have hkp := hJ.kp
            clear hJ hG
            go_wp2_with fail
            go_ret2
            obtain ⟨hv, hG⟩ := HF.out
            exact ⟨_, _, hv, rfl, hG, hkp⟩
theorem enc_yes (h : CodeAt w c n k x) (hD : Dim n k a d q) (h2 : Bts w (.slice A m cp) bs) (hm : m = q * L) (hm2 : m ≤ 1000) (hL : 1 ≤ L) : Calls Try.prog 28 #[cptr c, .slice A m cp] w (Enc2Post w n (matL n (a * L) fun i => shE a d L bs (x i))) :=
  (enc_grd h hD h2 hm hm2 hL).mono fun _ _ ⟨g, cp, hv, h1, h2, h3⟩ => ⟨_, cp, h1, h2.rws, h3⟩
end
end Go.Proofs.Ytcdmljlangbloaa
