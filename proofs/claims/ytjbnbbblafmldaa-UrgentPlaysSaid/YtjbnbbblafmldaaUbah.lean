/- Jobs in plain words: a job is one number (its Good, then its Object, then its Stripe: the more urgent of two is the smaller number), a queue's jobs are a heap; what Put and Drop come to is said of the list in order. No program is spoken of. -/
import Derived.WalkKit
namespace Go.Proofs.Ytjbnbbblafmldaa
set_option linter.unusedVariables false
set_option linter.unusedSimpArgs false
set_option maxRecDepth 20000

/-- A job's Key, its Object and Stripe, its Good; a job of parts. -/
def ky (x : Nat) : Nat := x % 281474976710656
def kO (k : Nat) : Nat := k / 65536
def kS (k : Nat) : Nat := k % 65536
def mkK (o s : Nat) : Nat := o * 65536 + s
def jO (x : Nat) : Nat := kO (ky x)
def jS (x : Nat) : Nat := kS (ky x)
def jG (x : Nat) : Int := ((x / 281474976710656 : Nat) : Int) - 9223372036854775808
def mkJ (o s : Nat) (g : Int) : Nat := (g + 9223372036854775808).toNat * 281474976710656 + (o * 65536 + s)
def N48 : Nat := 281474976710656
def NJ : Nat := 5192296858534827628530496329220096
section
variable {x y o s k : Nat} {g : Int}
theorem ky_lt (x : Nat) : ky x < N48 := by unfold ky N48; omega
theorem kO_lt (h : k < N48) : kO k < 4294967296 := by unfold kO; unfold N48 at h; omega
theorem kS_lt (k : Nat) : kS k < 65536 := by unfold kS; omega
theorem kO_mk (hs : s < 65536) : kO (mkK o s) = o := by unfold kO mkK; omega
theorem kS_mk (hs : s < 65536) : kS (mkK o s) = s := by unfold kS mkK; omega
theorem k_inj {j k : Nat} (h1 : kO j = kO k) (h2 : kS j = kS k) : j = k := by unfold kO at h1; unfold kS at h2; omega
theorem jO_lt (x : Nat) : jO x < 4294967296 := kO_lt (ky_lt x)
theorem jS_lt (x : Nat) : jS x < 65536 := kS_lt _
theorem jG_in (h : x < NJ) : -9223372036854775808 ≤ jG x ∧ jG x ≤ 9223372036854775807 := by unfold jG; unfold NJ at h; omega
theorem ky_mkJ (ho : o < 4294967296) (hs : s < 65536) : ky (mkJ o s g) = mkK o s := by
  unfold ky mkJ mkK
  generalize (g + 9223372036854775808).toNat = m
  omega
theorem jO_mk (ho : o < 4294967296) (hs : s < 65536) : jO (mkJ o s g) = o := by unfold jO; rw [ky_mkJ ho hs, kO_mk hs]
theorem jS_mk (ho : o < 4294967296) (hs : s < 65536) : jS (mkJ o s g) = s := by unfold jS; rw [ky_mkJ ho hs, kS_mk hs]
theorem jG_mk (ho : o < 4294967296) (hs : s < 65536) (hg : -9223372036854775808 ≤ g) : jG (mkJ o s g) = g := by
  unfold jG mkJ
  obtain ⟨m, hm⟩ : ∃ m : Nat, m = (g + 9223372036854775808).toNat := ⟨_, rfl⟩
  rw [← hm]
  have e : (m * 281474976710656 + (o * 65536 + s)) / 281474976710656 = m := by omega
  rw [e]
  omega
theorem mkJ_lt (ho : o < 4294967296) (hs : s < 65536) (hg : -9223372036854775808 ≤ g) (hg2 : g ≤ 9223372036854775807) : mkJ o s g < NJ := by
  unfold mkJ NJ
  omega
theorem lt_job : x < y ↔ jG x < jG y ∨ jG x = jG y ∧ (jO x < jO y ∨ jO x = jO y ∧ jS x < jS y) := by
  unfold jG jO jS kO kS ky
  omega
theorem j_inj (h0 : jG x = jG y) (h1 : jO x = jO y) (h2 : jS x = jS y) : x = y := by
  rcases Nat.lt_trichotomy x y with h | h | h
  · rw [lt_job] at h; omega
  · exact h
  · rw [lt_job] at h; omega
theorem ky_eq : ky x = k ↔ jO x = kO k ∧ jS x = kS k := by
  constructor
  · rintro rfl
    exact ⟨rfl, rfl⟩
  · rintro ⟨h1, h2⟩
    exact k_inj h1 h2
end

/-- A heap of n jobs; one but for what stands at p; p's job is no more urgent than its parent. -/
def Heap (n : Nat) (f : Nat → Nat) : Prop := ∀ i, 0 < i → i < n → f ((i - 1) / 2) ≤ f i
structure HoleOk (n p : Nat) (f : Nat → Nat) : Prop where
  e1 : ∀ i, 0 < i → i < n → i ≠ p → (i - 1) / 2 ≠ p → f ((i - 1) / 2) ≤ f i
  e2 : ∀ i, 0 < i → i < n → (i - 1) / 2 = p → 0 < p → f ((p - 1) / 2) ≤ f i
def UpOk (p : Nat) (f : Nat → Nat) : Prop := 0 < p → f ((p - 1) / 2) ≤ f p
def swp (f : Nat → Nat) (p q : Nat) (i : Nat) : Nat := if i = p then f q else if i = q then f p else f i
def upd (f : Nat → Nat) (p x : Nat) (i : Nat) : Nat := if i = p then x else f i
section
variable {n p q c j x : Nat} {f : Nat → Nat}
theorem swp_p : swp f p q p = f q := by unfold swp; rw [if_pos rfl]
theorem swp_q : swp f p q q = f p := by unfold swp; split <;> simp_all
theorem swp_o {i : Nat} (h1 : i ≠ p) (h2 : i ≠ q) : swp f p q i = f i := by unfold swp; rw [if_neg h1, if_neg h2]
theorem upd_p : upd f p x p = x := by unfold upd; rw [if_pos rfl]
theorem upd_o {i : Nat} (h : i ≠ p) : upd f p x i = f i := by unfold upd; rw [if_neg h]
theorem swp_at (f : Nat → Nat) (p q i : Nat) : ∃ k, swp f p q i = f k ∧ (i = p → k = q) ∧ (i = q → k = p) ∧ (i ≠ p → i ≠ q → k = i) := by
  by_cases h1 : i = p
  · subst h1
    exact ⟨q, swp_p, fun _ => rfl, fun e => e.symm, fun h => absurd rfl h⟩
  · by_cases h2 : i = q
    · subst h2
      exact ⟨p, swp_q, fun e => e.symm, fun _ => rfl, fun _ h => absurd rfl h⟩
    · exact ⟨i, swp_o h1 h2, fun e => absurd e h1, fun e => absurd e h2, fun _ _ => rfl⟩
theorem HoleOk.rise (h : HoleOk n p f) (hp : p < n) (h0 : 0 < p) (hl : f p < f ((p - 1) / 2)) : HoleOk n ((p - 1) / 2) (swp f p ((p - 1) / 2)) := by
  obtain ⟨q, hq⟩ : ∃ q, q = (p - 1) / 2 := ⟨_, rfl⟩
  rw [← hq] at hl ⊢
  refine ⟨fun i hi hn hne hpar => ?_, fun i hi hn hpar hq0 => ?_⟩
  · by_cases e : (i - 1) / 2 = p
    · rw [e, swp_p, swp_o (by omega) hne]
      have := h.e2 i hi hn e h0
      rw [← hq] at this
      exact this
    · by_cases e2 : i = p
      · subst e2
        exact absurd hq.symm hpar
      · rw [swp_o e hpar, swp_o e2 hne]
        exact h.e1 i hi hn e2 e
  · have hpq : (q - 1) / 2 ≠ p := by omega
    have hqq : (q - 1) / 2 ≠ q := by omega
    rw [swp_o hpq hqq]
    have e0 := h.e1 q hq0 (by omega) (by omega) hpq
    by_cases e : i = p
    · subst e
      rw [swp_p]
      exact e0
    · rw [swp_o e (by omega)]
      have := h.e1 i hi hn e (by omega)
      rw [hpar] at this
      omega
theorem HoleOk.sink (h : HoleOk n p f) (hu : UpOk p f) (hc : c < n) (h0 : 0 < c) (hcp : (c - 1) / 2 = p) (hl : f c < f p) (hm : ∀ i, 0 < i → i < n → (i - 1) / 2 = p → f c ≤ f i) : HoleOk n c (swp f p c) ∧ UpOk c (swp f p c) := by
  refine ⟨⟨fun i hi hn hne hpar => ?_, fun i hi hn hpar hq0 => ?_⟩, fun _ => ?_⟩
  · by_cases e : (i - 1) / 2 = p
    · rw [e, swp_p, swp_o (by omega) hne]
      exact hm i hi hn e
    · by_cases e2 : i = p
      · subst e2
        rw [swp_p, swp_o e hpar]
        exact h.e2 c h0 hc hcp hi
      · rw [swp_o e hpar, swp_o e2 hne]
        exact h.e1 i hi hn e2 e
  · rw [hcp, swp_p, swp_o (by omega) (by omega)]
    have := h.e1 i hi hn (by omega) (by omega)
    rw [hpar] at this
    exact this
  · rw [hcp, swp_p, swp_q]
    omega
theorem HoleOk.done (h : HoleOk n p f) (hu : UpOk p f) (hm : ∀ i, 0 < i → i < n → (i - 1) / 2 = p → f p ≤ f i) : Heap n f := fun i hi hn => by
  by_cases e : i = p
  · subst e
    exact hu hi
  · by_cases e2 : (i - 1) / 2 = p
    · rw [e2]
      exact hm i hi hn e2
    · exact h.e1 i hi hn e e2
theorem Heap.hole (h : Heap n f) (p x : Nat) : HoleOk n p (upd f p x) :=
  ⟨fun i hi hn hne hpar => by rw [upd_o hne, upd_o hpar]; exact h i hi hn, fun i hi hn hpar hp => by
    rw [upd_o (by omega), upd_o (by omega)]
    have h1 := h i hi hn
    have h2 := h p hp (by omega)
    rw [hpar] at h1
    omega⟩
theorem Heap.mono {m : Nat} (h : Heap n f) (hm : m ≤ n) : Heap m f := fun i hi hn => h i hi (by omega)
theorem Heap.first (h : Heap n f) : ∀ i, i < n → f 0 ≤ f i := by
  intro i
  induction i using Nat.strongRecOn with
  | ind i ih =>
    intro hi
    rcases Nat.eq_zero_or_pos i with e | e
    · rw [e]
      exact Nat.le_refl _
    · exact Nat.le_trans (ih ((i - 1) / 2) (by omega) (by omega)) (h i e hi)
end

/-- No two of n jobs have one Key. -/
def InjK (n : Nat) (f : Nat → Nat) : Prop := ∀ i j, i < n → j < n → ky (f i) = ky (f j) → i = j
/-- Each job's place is known, and no other Key's; the same but for the job at p. -/
structure Plc (n : Nat) (f : Nat → Nat) (M : Nat → Option Nat) : Prop where
  at_ : ∀ i, i < n → M (ky (f i)) = some i
  no_ : ∀ k, (∀ i, i < n → ky (f i) ≠ k) → M k = none
structure PlcH (n p : Nat) (f : Nat → Nat) (M : Nat → Option Nat) : Prop where
  at_ : ∀ i, i < n → i ≠ p → M (ky (f i)) = some i
  no_ : ∀ k, (∀ i, i < n → ky (f i) ≠ k) → M k = none
def updM (M : Nat → Option Nat) (k : Nat) (v : Option Nat) (x : Nat) : Option Nat := if x = k then v else M x
section
variable {n p q k x : Nat} {f : Nat → Nat} {M : Nat → Option Nat} {v : Option Nat}
theorem updM_k : updM M k v k = v := by unfold updM; rw [if_pos rfl]
theorem updM_o (h : x ≠ k) : updM M k v x = M x := by unfold updM; rw [if_neg h]
theorem InjK.swp (h : InjK n f) (hp : p < n) (hq : q < n) : InjK n (swp f p q) := fun i j hi hj e => by
  obtain ⟨a, ea, a1, a2, a3⟩ := swp_at f p q i
  obtain ⟨b, eb, b1, b2, b3⟩ := swp_at f p q j
  rw [ea, eb] at e
  have hab := h a b (by by_cases i = p <;> by_cases i = q <;> simp_all) (by by_cases j = p <;> by_cases j = q <;> simp_all) e
  by_cases i = p <;> by_cases i = q <;> by_cases j = p <;> by_cases j = q <;> simp_all
end
/-- A queue whose job at p is still to be laid there: the row R, the places M; f is what they come to, X its jobs. -/
structure HSt (n p j : Nat) (v : Option Nat) (R : List Nat) (M : Nat → Option Nat) (f : Nat → Nat) (X : Nat → Prop) : Prop where
  len : R.length = n
  pl : p < n
  fp : f p = j
  row : ∀ i, i < n → i ≠ p → R[i]? = some (f i)
  inj : InjK n f
  plc : PlcH n p f M
  hole : HoleOk n p f
  mem : ∀ x, X x ↔ ∃ i, i < n ∧ f i = x
  lt : ∀ x, X x → x < NJ
  vj : M (ky j) = v
section
variable {n p q j : Nat} {v : Option Nat} {R : List Nat} {M : Nat → Option Nat} {f : Nat → Nat} {X : Nat → Prop}
/-- One goes to p: its own place is to be laid now. -/
theorem HSt.move (h : HSt n p j v R M f X) (hq : q < n) (hne : q ≠ p) (hh : HoleOk n q (swp f p q)) : HSt n q j v (R.set p (f q)) (updM M (ky (f q)) (some p)) (swp f p q) X := by
  refine ⟨by rw [List.length_set]; exact h.len, hq, by rw [swp_q]; exact h.fp, fun i hi hne2 => ?_, h.inj.swp h.pl hq, ⟨fun i hi hne2 => ?_, fun k hk => ?_⟩, hh, fun x => ?_, h.lt, (updM_o fun e => hne (h.inj q p hq h.pl (by rw [h.fp]; exact e.symm))).trans h.vj⟩
  · rw [List.getElem?_set]
    by_cases e : p = i
    · subst e
      rw [if_pos rfl, if_pos (by rw [h.len]; exact hi), swp_p]
    · rw [if_neg e, swp_o (fun e2 => e e2.symm) hne2]
      exact h.row i hi fun e2 => e e2.symm
  · by_cases e : i = p
    · subst e
      rw [swp_p, updM_k]
    · rw [swp_o e hne2, updM_o fun e2 => hne2 (h.inj i q hi hq e2)]
      exact h.plc.at_ i hi e
  · have h1 : k ≠ ky (f q) := fun e => hk p h.pl (by rw [swp_p, e])
    rw [updM_o h1]
    refine h.plc.no_ k fun i hi e => ?_
    by_cases e1 : i = p
    · subst e1
      exact hk q hq (by rw [swp_q]; exact e)
    · by_cases e2 : i = q
      · subst e2
        exact h1 e.symm
      · exact hk i hi (by rw [swp_o e1 e2]; exact e)
  · rw [h.mem]
    constructor
    · rintro ⟨i, hi, e⟩
      by_cases e1 : i = p
      · subst e1
        exact ⟨q, hq, by rw [swp_q]; exact e⟩
      · by_cases e2 : i = q
        · subst e2
          exact ⟨p, h.pl, by rw [swp_p]; exact e⟩
        · exact ⟨i, hi, by rw [swp_o e1 e2]; exact e⟩
    · rintro ⟨i, hi, e⟩
      by_cases e1 : i = p
      · subst e1
        rw [swp_p] at e
        exact ⟨q, hq, e⟩
      · by_cases e2 : i = q
        · subst e2
          rw [swp_q] at e
          exact ⟨p, h.pl, e⟩
        · rw [swp_o e1 e2] at e
          exact ⟨i, hi, e⟩
theorem HSt.has (h : HSt n p j v R M f X) (hq : q < n) (hne : q ≠ p) : M (ky (f q)) = some q := h.plc.at_ q hq hne
theorem HSt.at_ (h : HSt n p j v R M f X) (hq : q < n) (hne : q ≠ p) : R[q]? = some (f q) := h.row q hq hne
theorem HSt.rise (h : HSt n p j v R M f X) (h0 : 0 < p) (hl : j < f ((p - 1) / 2)) : HSt n ((p - 1) / 2) j v (R.set p (f ((p - 1) / 2))) (updM M (ky (f ((p - 1) / 2))) (some p)) (swp f p ((p - 1) / 2)) X := by
  have hp := h.pl
  exact h.move (by omega) (by omega) (h.hole.rise hp h0 (by rw [h.fp]; exact hl))
theorem HSt.sink (h : HSt n p j v R M f X) (hu : UpOk p f) (hc : q < n) (h0 : 0 < q) (hcp : (q - 1) / 2 = p) (hl : f q < j) (hm : ∀ i, 0 < i → i < n → (i - 1) / 2 = p → f q ≤ f i) :
    HSt n q j v (R.set p (f q)) (updM M (ky (f q)) (some p)) (swp f p q) X ∧ UpOk q (swp f p q) := by
  obtain ⟨h1, h2⟩ := h.hole.sink hu hc h0 hcp (by rw [h.fp]; exact hl) hm
  exact ⟨h.move hc (by omega) h1, h2⟩
end

/-- What reads as a row. -/
def fR (R : List Nat) (i : Nat) : Nat := R.getD i 0
theorem fR_get {R : List Nat} {i x : Nat} (h : R[i]? = some x) : fR R i = x := by unfold fR; rw [List.getD_eq_getElem?_getD, h]; rfl
theorem fR_at {R : List Nat} {i : Nat} (h : i < R.length) : R[i]? = some (fR R i) := by
  have := List.getElem?_eq_getElem h
  rw [fR_get this]
  exact this
/-- A queue's row R and places M are those of the jobs r, the most urgent first. -/
structure QOk (R : List Nat) (M : Nat → Option Nat) (r : List Nat) : Prop where
  heap : Heap R.length (fR R)
  inj : InjK R.length (fR R)
  plc : Plc R.length (fR R) M
  mem : ∀ x, x ∈ r ↔ ∃ i, i < R.length ∧ fR R i = x
  len : R.length = r.length
  sor : r.Pairwise (· < ·)
  lt : ∀ x, x ∈ r → x < NJ
/-- The document's Index, Drop and Put. -/
def rIx (r : List Nat) (k : Nat) : Nat := r.findIdx fun x => ky x == k
def rHas (r : List Nat) (k : Nat) : Bool := r.any fun x => ky x == k
def rJob (r : List Nat) (k : Nat) : Nat := r.getD (rIx r k) 0
def rDrop (r : List Nat) (k : Nat) : List Nat := r.filter fun x => !(ky x == k)
def rAt (l : List Nat) (j : Nat) : Nat := l.findIdx fun x => !decide (x < j)
def rIns (l : List Nat) (j : Nat) : List Nat := l.take (rAt l j) ++ j :: l.drop (rAt l j)
def rPut (r : List Nat) (j : Nat) : List Nat := rIns (rDrop r (ky j)) j
section
variable {r l R : List Nat} {M : Nat → Option Nat} {k j x : Nat}
theorem rHas_iff : rHas r k = true ↔ ∃ x ∈ r, ky x = k := by unfold rHas; simp
theorem rHas_ix : rHas r k = true ↔ rIx r k < r.length := by unfold rHas rIx; rw [List.findIdx_lt_length]; simp
theorem rJob_get (h : rHas r k = true) : r[rIx r k]? = some (rJob r k) ∧ ky (rJob r k) = k := by
  have hl := rHas_ix.1 h
  have h3 : r[rIx r k]? = some (r[rIx r k]'hl) := List.getElem?_eq_getElem hl
  have h4 : rJob r k = r[rIx r k]'hl := by
    unfold rJob
    rw [List.getD_eq_getElem?_getD, h3]
    rfl
  have h2 : (fun x : Nat => ky x == k) (r[rIx r k]'hl) = true := List.findIdx_getElem (xs := r) (p := fun x : Nat => ky x == k) (w := hl)
  rw [h4]
  exact ⟨h3, by simpa using h2⟩
theorem rDrop_mem : x ∈ rDrop r k ↔ x ∈ r ∧ ky x ≠ k := by unfold rDrop; simp
theorem rDrop_sor (h : r.Pairwise (· < ·)) : (rDrop r k).Pairwise (· < ·) := h.sublist List.filter_sublist
theorem rAt_le : rAt l j ≤ l.length := List.findIdx_le_length
theorem rIns_mem : x ∈ rIns l j ↔ x ∈ l ∨ x = j := by
  unfold rIns
  rw [List.mem_append, List.mem_cons]
  have h := List.take_append_drop (rAt l j) l
  constructor
  · rintro (h1 | h1 | h1)
    · exact .inl (List.mem_of_mem_take h1)
    · exact .inr h1
    · exact .inl (List.mem_of_mem_drop h1)
  · rintro (h1 | h1)
    · rw [← h, List.mem_append] at h1
      rcases h1 with h1 | h1
      · exact .inl h1
      · exact .inr (.inr h1)
    · exact .inr (.inl h1)
theorem rAt_before {i : Nat} (h : i < rAt l j) (hx : l[i]? = some x) : x < j := by
  obtain ⟨hi, e⟩ := List.getElem?_eq_some_iff.1 hx
  have := List.not_of_lt_findIdx (xs := l) (p := fun x => !decide (x < j)) h
  rw [e] at this
  simpa using this
theorem rAt_at (h : rAt l j < l.length) (hx : l[rAt l j]? = some x) : j ≤ x := by
  have h2 : (fun x : Nat => !decide (x < j)) (l[rAt l j]'h) = true := List.findIdx_getElem (xs := l) (p := fun x : Nat => !decide (x < j)) (w := h)
  obtain ⟨hi, e⟩ := List.getElem?_eq_some_iff.1 hx
  rw [e] at h2
  simp at h2
  exact h2
theorem rAt_eq {i : Nat} (hb : ∀ (a : Nat) (y : Nat), a < i → l[a]? = some y → y < j) (hx : l[i]? = some x) (hj : j ≤ x) : rAt l j = i := by
  have hi := (List.getElem?_eq_some_iff.1 hx).1
  rcases Nat.lt_trichotomy (rAt l j) i with h | h | h
  · have hl : rAt l j < l.length := by omega
    have h1 := rAt_at hl (List.getElem?_eq_getElem hl)
    have h2 := hb _ _ h (List.getElem?_eq_getElem hl)
    omega
  · exact h
  · have := rAt_before h hx
    omega
theorem rAt_end {i : Nat} (hb : ∀ (a : Nat) (y : Nat), a < i → l[a]? = some y → y < j) (hi : i = l.length) : rAt l j = i := by
  rcases Nat.lt_or_ge (rAt l j) i with h | h
  · have hl : rAt l j < l.length := by omega
    have h1 := rAt_at hl (List.getElem?_eq_getElem hl)
    have h2 := hb _ _ h (List.getElem?_eq_getElem hl)
    omega
  · have := rAt_le (l := l) (j := j)
    omega
theorem rIns_sor (h : l.Pairwise (· < ·)) (hj : j ∉ l) : (rIns l j).Pairwise (· < ·) := by
  unfold rIns
  have hcut := List.take_append_drop (rAt l j) l
  have hlt : ∀ x ∈ l.take (rAt l j), x < j := fun x hx => by
    obtain ⟨i, hi⟩ := List.getElem?_of_mem hx
    rw [List.getElem?_take] at hi
    split at hi
    · rename_i hil
      exact rAt_before hil hi
    · cases hi
  have hgt : ∀ x ∈ l.drop (rAt l j), j < x := fun x hx => by
    obtain ⟨i, hi⟩ := List.getElem?_of_mem hx
    rw [List.getElem?_drop] at hi
    have hil := (List.getElem?_eq_some_iff.1 hi).1
    have hat : rAt l j < l.length := by omega
    have h0 := rAt_at hat (List.getElem?_eq_getElem hat)
    have hxl : x ∈ l := List.mem_of_getElem? hi
    rcases Nat.eq_zero_or_pos i with e | e
    · subst e
      rw [Nat.add_zero, List.getElem?_eq_getElem hat] at hi
      injection hi with hi
      rw [hi] at h0
      exact Nat.lt_of_le_of_ne h0 fun e => hj (e ▸ hxl)
    · have := List.pairwise_iff_getElem.1 h (rAt l j) (rAt l j + i) hat hil (by omega)
      rw [List.getElem?_eq_getElem hil] at hi
      injection hi with hi
      rw [hi] at this
      omega
  rw [List.pairwise_append]
  refine ⟨h.sublist (List.take_sublist _ _), List.pairwise_cons.2 ⟨hgt, h.sublist (List.drop_sublist _ _)⟩, fun a ha b hb => ?_⟩
  rcases List.mem_cons.1 hb with e | e
  · rw [e]
    exact hlt a ha
  · exact Nat.lt_trans (hlt a ha) (hgt b e)
theorem rPut_mem : x ∈ rPut r j ↔ (x ∈ r ∧ ky x ≠ ky j) ∨ x = j := by unfold rPut; rw [rIns_mem, rDrop_mem]
theorem rPut_sor (h : r.Pairwise (· < ·)) : (rPut r j).Pairwise (· < ·) := rIns_sor (rDrop_sor h) fun h => (rDrop_mem.1 h).2 rfl
theorem rIns_len : (rIns l j).length = l.length + 1 := by
  unfold rIns
  have := rAt_le (l := l) (j := j)
  rw [List.length_append, List.length_cons, List.length_take, List.length_drop]
  omega
theorem rDrop_len_le : (rDrop r k).length ≤ r.length := List.length_filter_le _ _
theorem rPut_len_le : (rPut r j).length ≤ r.length + 1 := by
  unfold rPut
  rw [rIns_len]
  exact Nat.succ_le_succ rDrop_len_le
theorem rPut_lt (h : ∀ x, x ∈ r → x < NJ) (hj : j < NJ) : ∀ x, x ∈ rPut r j → x < NJ := fun x hx => by
  rcases rPut_mem.1 hx with ⟨h1, _⟩ | h1
  · exact h x h1
  · rw [h1]; exact hj
theorem rDrop_none (h : rHas r k = false) : rDrop r k = r := by
  unfold rDrop
  refine List.filter_eq_self.2 fun x hx => ?_
  have : ¬ (∃ x ∈ r, ky x = k) := fun e => by rw [rHas_iff.2 e] at h; cases h
  simp
  exact fun e => this ⟨x, hx, e⟩
theorem sor_nodup (h : r.Pairwise (· < ·)) : r.Nodup := h.imp fun h => Nat.ne_of_lt h
/-- Two rows in order of the same numbers are one. -/
theorem sor_one {a b : List Nat} (ha : a.Pairwise (· < ·)) (hb : b.Pairwise (· < ·)) (h : ∀ x, x ∈ a ↔ x ∈ b) : a = b :=
  ((List.perm_ext_iff_of_nodup (sor_nodup ha) (sor_nodup hb)).2 h).eq_of_pairwise (fun x y _ _ h1 h2 => absurd h1 (Nat.lt_asymm h2)) ha hb
end
namespace QOk
variable {r R : List Nat} {M : Nat → Option Nat} {k j x : Nat}
theorem new : QOk [] (fun _ => none) [] := ⟨fun i _ hi => by simp at hi, fun i j hi => by simp at hi, ⟨fun i hi => by simp at hi, fun _ _ => rfl⟩, by simp, rfl, List.Pairwise.nil, by simp⟩
theorem keys (h : QOk R M r) : ∀ x ∈ r, ∀ y ∈ r, ky x = ky y → x = y := fun x hx y hy e => by
  obtain ⟨i, hi, rfl⟩ := (h.mem x).1 hx
  obtain ⟨i', hi', rfl⟩ := (h.mem y).1 hy
  rw [h.inj i i' hi hi' e]
theorem place_yes (h : QOk R M r) (hk : rHas r k = true) : ∃ i, M k = some i ∧ i < R.length ∧ R[i]? = some (rJob r k) := by
  obtain ⟨hg, hk2⟩ := rJob_get hk
  obtain ⟨i, hi, e⟩ := (h.mem _).1 (List.mem_of_getElem? hg)
  refine ⟨i, ?_, hi, ?_⟩
  · have := h.plc.at_ i hi
    rw [e, hk2] at this
    exact this
  · rw [fR_at hi, e]
theorem place_no (h : QOk R M r) (hk : rHas r k = false) : M k = none := h.plc.no_ k fun i hi e => by
  have : rHas r k = true := rHas_iff.2 ⟨_, (h.mem _).2 ⟨i, hi, rfl⟩, e⟩
  rw [hk] at this
  cases this
theorem first (h : QOk R M r) : ∀ x, r.head? = some x → R[0]? = some x := fun x hx => by
  rcases r with _ | ⟨y, t⟩
  · cases hx
  · injection hx with hx
    subst hx
    have hn : 0 < R.length := by rw [h.len]; simp
    have h0 := fR_at hn
    rw [h0]
    congr 1
    obtain ⟨i, hi, e⟩ := (h.mem y).1 (by simp)
    have h1 := h.heap.first i hi
    have h2 : fR R 0 ∈ y :: t := (h.mem _).2 ⟨0, hn, rfl⟩
    rcases List.mem_cons.1 h2 with e2 | e2
    · exact e2
    · have := (List.pairwise_cons.1 h.sor).1 _ e2
      omega
theorem nodup (h : QOk R M r) : R.Nodup := by
  rw [List.nodup_iff_pairwise_ne, List.pairwise_iff_getElem]
  intro i j hi hj hij e
  have h1 := fR_get (List.getElem?_eq_getElem hi)
  have h2 := fR_get (List.getElem?_eq_getElem hj)
  have := h.inj i j hi hj (by rw [h1, h2, e])
  omega
theorem memR (h : QOk R M r) : x ∈ R ↔ x ∈ r := by
  rw [h.mem]
  constructor
  · intro hx
    obtain ⟨i, hi⟩ := List.getElem?_of_mem hx
    exact ⟨i, (List.getElem?_eq_some_iff.1 hi).1, fR_get hi⟩
  · rintro ⟨i, hi, e⟩
    rw [← e]
    exact List.mem_of_getElem? (fR_at hi)
/-- All laid: the row with j at p is a queue of the jobs X. -/
theorem of_hst {n p j : Nat} {v : Option Nat} {f : Nat → Nat} (h : HSt n p j v R M f (· ∈ r)) (hu : UpOk p f) (hm : ∀ i, 0 < i → i < n → (i - 1) / 2 = p → j ≤ f i) (hs : r.Pairwise (· < ·)) (hl : r.length = n) : QOk (R.set p j) (updM M (ky j) (some p)) r := by
  have hlen : (R.set p j).length = n := by rw [List.length_set]; exact h.len
  have hf : ∀ i, i < n → fR (R.set p j) i = f i := fun i hi => by
    refine fR_get ?_
    rw [List.getElem?_set]
    by_cases e : p = i
    · subst e
      rw [if_pos rfl, if_pos (by rw [h.len]; exact hi), h.fp]
    · rw [if_neg e]
      exact h.row i hi fun e2 => e e2.symm
  have hheap := h.hole.done hu (by rw [h.fp]; exact hm)
  refine ⟨?_, ?_, ⟨?_, ?_⟩, ?_, by rw [hlen, hl], hs, h.lt⟩
  · rw [hlen]
    intro i hi hn
    rw [hf i hn, hf _ (by omega)]
    exact hheap i hi hn
  · rw [hlen]
    intro a b ha hb e
    rw [hf a ha, hf b hb] at e
    exact h.inj a b ha hb e
  · rw [hlen]
    intro i hi
    rw [hf i hi]
    by_cases e : i = p
    · subst e
      rw [h.fp, updM_k]
    · rw [updM_o]
      · exact h.plc.at_ i hi e
      · rw [← h.fp]
        exact fun e2 => e (h.inj i p hi h.pl e2)
  · rw [hlen]
    intro k hk
    rw [updM_o]
    · exact h.plc.no_ k fun i hi e => hk i hi (by rw [hf i hi]; exact e)
    · intro e
      exact hk p h.pl (by rw [hf p h.pl, h.fp, e])
  · intro x
    rw [h.mem, hlen]
    exact ⟨fun ⟨i, hi, e⟩ => ⟨i, hi, by rw [hf i hi]; exact e⟩, fun ⟨i, hi, e⟩ => ⟨i, hi, by rw [← hf i hi]; exact e⟩⟩
theorem len_of {n : Nat} {f : Nat → Nat} (hs : r.Pairwise (· < ·)) (hi : InjK n f) (hm : ∀ x, x ∈ r ↔ ∃ i, i < n ∧ f i = x) : r.length = n := by
  have h1 : ((List.range n).map f).Nodup := by
    rw [List.nodup_iff_pairwise_ne, List.pairwise_map]
    refine List.pairwise_iff_getElem.2 fun i j h1 h2 hij e => ?_
    simp at h1 h2 e
    have := hi i j h1 h2 (by rw [e])
    omega
  have h2 : r.Perm ((List.range n).map f) := (List.perm_ext_iff_of_nodup (sor_nodup hs) h1).2 fun x => by
    rw [hm, List.mem_map]
    exact ⟨fun ⟨i, hi, e⟩ => ⟨i, List.mem_range.2 hi, e⟩, fun ⟨i, hi, e⟩ => ⟨i, List.mem_range.1 hi, e⟩⟩
  have := h2.length_eq
  simpa using this
/-- A job more. -/
theorem put_new (h : QOk R M r) (hk : rHas r (ky j) = false) (hj : j < NJ) : HSt (R.length + 1) R.length j none (R ++ [j]) M (fR (R ++ [j])) (· ∈ rPut r j) ∧ (rPut r j).length = R.length + 1 := by
  have hno : ∀ x ∈ r, ky x ≠ ky j := fun x hx e => by rw [rHas_iff.2 ⟨x, hx, e⟩] at hk; cases hk
  have hf : ∀ i, i < R.length → fR (R ++ [j]) i = fR R i := fun i hi => by
    refine fR_get ?_
    rw [List.getElem?_append_left hi]
    exact fR_at hi
  have hl : fR (R ++ [j]) R.length = j := fR_get (by simp)
  have hky : ∀ i, i < R.length → ky (fR R i) ≠ ky j := fun i hi => hno _ ((h.mem _).2 ⟨i, hi, rfl⟩)
  refine ⟨⟨by simp, by omega, hl, fun i hi hne => ?_, fun a b ha hb e => ?_, ⟨fun i hi hne => ?_, fun k hk2 => ?_⟩, ⟨fun i hi hn hne hpar => ?_, fun i hi hn hpar hp => by omega⟩, fun x => ?_, rPut_lt h.lt hj, h.place_no hk⟩, ?_⟩
  · exact fR_at (by simp; omega)
  · rcases Nat.lt_or_ge a R.length with h1 | h1 <;> rcases Nat.lt_or_ge b R.length with h2 | h2
    · rw [hf a h1, hf b h2] at e
      exact h.inj a b h1 h2 e
    · obtain rfl : b = R.length := by omega
      rw [hf a h1, hl] at e
      exact absurd e (hky a h1)
    · obtain rfl : a = R.length := by omega
      rw [hf b h2, hl] at e
      exact absurd e.symm (hky b h2)
    · omega
  · rw [hf i (by omega)]
    exact h.plc.at_ i (by omega)
  · exact h.plc.no_ k fun i hi e => hk2 i (by omega) (by rw [hf i hi]; exact e)
  · rw [hf i (by omega), hf _ (by omega)]
    exact h.heap i hi (by omega)
  · rw [rPut_mem]
    constructor
    · rintro (⟨h1, _⟩ | h1)
      · obtain ⟨i, hi, e⟩ := (h.mem x).1 h1
        exact ⟨i, by omega, by rw [hf i hi]; exact e⟩
      · exact ⟨R.length, by omega, by rw [hl, h1]⟩
    · rintro ⟨i, hi, e⟩
      rcases Nat.lt_or_ge i R.length with h1 | h1
      · rw [hf i h1] at e
        exact .inl ⟨(h.mem x).2 ⟨i, h1, e⟩, by rw [← e]; exact hky i h1⟩
      · obtain rfl : i = R.length := by omega
        rw [hl] at e
        exact .inr e.symm
  · unfold rPut
    rw [rIns_len, rDrop_none hk, h.len]
/-- Another job of a Key that is there. -/
theorem put_old (h : QOk R M r) {i : Nat} (hi : i < R.length) (hk : ky (fR R i) = ky j) (hj : j < NJ) : HSt R.length i j (some i) R M (upd (fR R) i j) (· ∈ rPut r j) ∧ (rPut r j).length = R.length := by
  have hky : ∀ a, ky (upd (fR R) i j a) = ky (fR R a) := fun a => by
    by_cases e : a = i
    · subst e
      rw [upd_p, hk]
    · rw [upd_o e]
  have hinj : InjK R.length (upd (fR R) i j) := fun a b ha hb e => h.inj a b ha hb (by rw [hky, hky] at e; exact e)
  have hmem : ∀ x, x ∈ rPut r j ↔ ∃ a, a < R.length ∧ upd (fR R) i j a = x := fun x => by
    rw [rPut_mem]
    constructor
    · rintro (⟨h1, h2⟩ | h1)
      · obtain ⟨a, ha, e⟩ := (h.mem x).1 h1
        refine ⟨a, ha, ?_⟩
        rw [upd_o, e]
        intro e2
        rw [e2] at e
        rw [← e] at h2
        exact h2 hk
      · exact ⟨i, hi, by rw [upd_p, h1]⟩
    · rintro ⟨a, ha, e⟩
      by_cases e2 : a = i
      · subst e2
        rw [upd_p] at e
        exact .inr e.symm
      · rw [upd_o e2] at e
        refine .inl ⟨(h.mem x).2 ⟨a, ha, e⟩, ?_⟩
        rw [← e, ← hk]
        exact fun e3 => e2 (h.inj a i ha hi e3)
  refine ⟨⟨rfl, hi, upd_p, fun a ha hne => by rw [upd_o hne]; exact fR_at ha, hinj, ⟨fun a ha hne => by rw [hky]; exact h.plc.at_ a ha, fun k hk2 => h.plc.no_ k fun a ha e => hk2 a ha (by rw [hky]; exact e)⟩, h.heap.hole i j, hmem, rPut_lt h.lt hj, by rw [← hk]; exact h.plc.at_ i hi⟩, ?_⟩
  exact len_of (rPut_sor h.sor) hinj hmem
theorem take_f {i : Nat} (hi : i < R.length - 1) : fR (R.take (R.length - 1)) i = fR R i := by
  refine fR_get ?_
  rw [List.getElem?_take, if_pos hi]
  exact fR_at (by omega)
/-- The last one is dropped. -/
theorem drop_last (h : QOk R M r) (h0 : 0 < R.length) (hk : ky (fR R (R.length - 1)) = k) : QOk (R.take (R.length - 1)) (updM M k none) (rDrop r k) := by
  have hlen : (R.take (R.length - 1)).length = R.length - 1 := by rw [List.length_take]; omega
  have hne : ∀ i, i < R.length - 1 → ky (fR R i) ≠ k := fun i hi e => by
    have := h.inj i (R.length - 1) (by omega) (by omega) (by rw [hk, e])
    omega
  have hinj : InjK (R.length - 1) (fR R) := fun a b ha hb e => h.inj a b (by omega) (by omega) e
  have hmem : ∀ x, x ∈ rDrop r k ↔ ∃ a, a < R.length - 1 ∧ fR R a = x := fun x => by
    rw [rDrop_mem, h.mem]
    constructor
    · rintro ⟨⟨i, hi, e⟩, h2⟩
      refine ⟨i, ?_, e⟩
      rcases Nat.lt_or_ge i (R.length - 1) with g | g
      · exact g
      · obtain rfl : i = R.length - 1 := by omega
        rw [e] at hk
        exact absurd hk h2
    · rintro ⟨i, hi, e⟩
      exact ⟨⟨i, by omega, e⟩, by rw [← e]; exact hne i hi⟩
  refine ⟨?_, ?_, ⟨?_, ?_⟩, ?_, ?_, rDrop_sor h.sor, fun x hx => h.lt x (rDrop_mem.1 hx).1⟩
  · rw [hlen]
    intro i hi hn
    rw [take_f hn, take_f (by omega)]
    exact h.heap i hi (by omega)
  · rw [hlen]
    intro a b ha hb e
    rw [take_f ha, take_f hb] at e
    exact hinj a b ha hb e
  · rw [hlen]
    intro i hi
    rw [take_f hi, updM_o (hne i hi)]
    exact h.plc.at_ i (by omega)
  · rw [hlen]
    intro k' hk'
    by_cases e : k' = k
    · rw [e, updM_k]
    · rw [updM_o e]
      refine h.plc.no_ k' fun i hi e2 => ?_
      rcases Nat.lt_or_ge i (R.length - 1) with g | g
      · exact hk' i g (by rw [take_f g]; exact e2)
      · obtain rfl : i = R.length - 1 := by omega
        exact e (by rw [← e2, hk])
  · intro x
    rw [hmem, hlen]
    exact ⟨fun ⟨i, hi, e⟩ => ⟨i, hi, by rw [take_f hi]; exact e⟩, fun ⟨i, hi, e⟩ => ⟨i, hi, by rw [← take_f hi]; exact e⟩⟩
  · rw [hlen]
    exact (len_of (rDrop_sor h.sor) hinj hmem).symm
/-- Another one is dropped: the last one is to be laid in its place. -/
theorem drop_mid (h : QOk R M r) {i : Nat} (hi : i < R.length - 1) (hk : ky (fR R i) = k) :
    HSt (R.length - 1) i (fR R (R.length - 1)) (some (R.length - 1)) (R.take (R.length - 1)) (updM M k none) (upd (fR R) i (fR R (R.length - 1))) (· ∈ rDrop r k) ∧ (rDrop r k).length = R.length - 1 ∧ ky (fR R (R.length - 1)) ≠ k := by
  have hlen : (R.take (R.length - 1)).length = R.length - 1 := by rw [List.length_take]; omega
  have hne : ∀ a, a < R.length → a ≠ i → ky (fR R a) ≠ k := fun a ha h1 e => h1 (h.inj a i ha (by omega) (by rw [hk, e]))
  have hinj : InjK (R.length - 1) (upd (fR R) i (fR R (R.length - 1))) := fun a b ha hb e => by
    by_cases e1 : a = i
    · by_cases e2 : b = i
      · omega
      · rw [e1, upd_p, upd_o e2] at e
        have := h.inj _ b (by omega) (by omega) e
        omega
    · by_cases e2 : b = i
      · rw [e2, upd_p, upd_o e1] at e
        have := h.inj a _ (by omega) (by omega) e
        omega
      · rw [upd_o e1, upd_o e2] at e
        exact h.inj a b (by omega) (by omega) e
  have hmem : ∀ x, x ∈ rDrop r k ↔ ∃ a, a < R.length - 1 ∧ upd (fR R) i (fR R (R.length - 1)) a = x := fun x => by
    rw [rDrop_mem, h.mem]
    constructor
    · rintro ⟨⟨a, ha, e⟩, h2⟩
      have hai : a ≠ i := fun e2 => by rw [e2] at e; rw [← e] at h2; exact h2 hk
      rcases Nat.lt_or_ge a (R.length - 1) with g | g
      · exact ⟨a, g, by rw [upd_o hai]; exact e⟩
      · obtain rfl : a = R.length - 1 := by omega
        exact ⟨i, hi, by rw [upd_p]; exact e⟩
    · rintro ⟨a, ha, e⟩
      by_cases e2 : a = i
      · rw [e2, upd_p] at e
        exact ⟨⟨R.length - 1, by omega, e⟩, by rw [← e]; exact hne _ (by omega) (by omega)⟩
      · rw [upd_o e2] at e
        exact ⟨⟨a, by omega, e⟩, by rw [← e]; exact hne a (by omega) e2⟩
  have hlast := hne (R.length - 1) (by omega) (by omega)
  refine ⟨⟨hlen, hi, upd_p, fun a ha h1 => ?_, hinj, ⟨fun a ha h1 => ?_, fun k' hk' => ?_⟩, (h.heap.mono (by omega)).hole i _, hmem, fun x hx => h.lt x (rDrop_mem.1 hx).1, ?_⟩, len_of (rDrop_sor h.sor) hinj hmem, hlast⟩
  · rw [upd_o h1, List.getElem?_take, if_pos ha]
    exact fR_at (by omega)
  · rw [upd_o h1, updM_o (hne a (by omega) h1)]
    exact h.plc.at_ a (by omega)
  · by_cases e : k' = k
    · rw [e, updM_k]
    · rw [updM_o e]
      refine h.plc.no_ k' fun a ha e2 => ?_
      by_cases e1 : a = i
      · exact e (by rw [← e2, e1, hk])
      · rcases Nat.lt_or_ge a (R.length - 1) with g | g
        · exact hk' a g (by rw [upd_o e1]; exact e2)
        · obtain rfl : a = R.length - 1 := by omega
          exact hk' i hi (by rw [upd_p]; exact e2)
  · rw [updM_o hlast]
    exact h.plc.at_ _ (by omega)
end QOk
end Go.Proofs.Ytjbnbbblafmldaa
