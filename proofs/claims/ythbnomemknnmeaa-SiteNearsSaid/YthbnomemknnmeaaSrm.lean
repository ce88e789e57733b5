/- Sorting whole numbers by keys, in plain words: the order by key and then by number, rotations, what a merge by symmetric comparisons comes to, and that what is sorted is one. No program is spoken of. -/
import Derived.Test.YthbnomemknnmeaaBase
namespace Go.Proofs.Ythbnomemknnmeaa
set_option linter.unusedVariables false
set_option linter.unusedSimpArgs false

/-- By key, and of equal keys by number. -/
def soL (k : Nat → Int) (x y : Nat) : Prop := k x < k y ∨ (k x = k y ∧ x < y)
/-- From a up to b the row ascends. -/
def soS (k : Nat → Int) (d : Nat → Nat) (a b : Nat) : Prop := ∀ i j, a ≤ i → i < j → j < b → soL k (d i) (d j)
/-- x stands from a up to b. -/
def soR (d : Nat → Nat) (a b x : Nat) : Prop := ∃ i, a ≤ i ∧ i < b ∧ d i = x
/-- What stands left is less, as a number, than what stands right. -/
def soB (d : Nat → Nat) (a m b : Nat) : Prop := ∀ i j, a ≤ i → i < m → m ≤ j → j < b → d i < d j
/-- The blocks [a, m) and [m, b) change places. -/
def soRot (d : Nat → Nat) (a m b : Nat) (i : Nat) : Nat := if i < a then d i else if i < a + (b - m) then d (i - a + m) else if i < b then d (i - (b - m)) else d i
/-- Two places are swapped. -/
def soSw (d : Nat → Nat) (p q : Nat) (i : Nat) : Nat := if i = q then d p else if i = p then d q else d i
/-- The same outside, and the same numbers inside. -/
structure soE (d d' : Nat → Nat) (a b : Nat) : Prop where
  out : ∀ i, i < a ∨ b ≤ i → d' i = d i
  rng : ∀ x, soR d' a b x ↔ soR d a b x
/-- From lo up to hi stand the numbers from lo up to hi, in order. -/
structure soK (k : Nat → Int) (d : Nat → Nat) (lo hi : Nat) : Prop where
  srt : soS k d lo hi
  rng : ∀ x, soR d lo hi x ↔ (lo ≤ x ∧ x < hi)

section
variable {k : Nat → Int} {d d' d1 d2 d3 : Nat → Nat} {a b m s e mid lo hi : Nat}
theorem soL.trans {x y z : Nat} (h : soL k x y) (g : soL k y z) : soL k x z := by unfold soL at *; omega
theorem soL.asymm {x y : Nat} (h : soL k x y) (g : soL k y x) : False := by unfold soL at *; omega
theorem soL.irrefl {x : Nat} (h : soL k x x) : False := h.asymm h
theorem soL.total {x y : Nat} (h : ¬ soL k x y) (hn : x ≠ y) : soL k y x := by unfold soL at *; omega
theorem soL.of_lt {x y : Nat} (h : x < y) : soL k y x ↔ k y < k x := by unfold soL; omega
theorem soL.of_not {x y : Nat} (h : x < y) : soL k x y ↔ ¬ k y < k x := by unfold soL; omega
theorem soS.sub {a' b' : Nat} (h : soS k d a b) (h1 : a ≤ a') (h2 : b' ≤ b) : soS k d a' b' := fun i j hi hij hj => h i j (by omega) hij (by omega)
theorem soS.congr (h : soS k d a b) (he : ∀ i, a ≤ i → i < b → d' i = d i) : soS k d' a b := fun i j hi hij hj => by
  rw [he i hi (by omega), he j (by omega) hj]; exact h i j hi hij hj
theorem soS.le (h : soS k d a b) {i j : Nat} (hi : a ≤ i) (hij : i ≤ j) (hj : j < b) : d i = d j ∨ soL k (d i) (d j) := by
  rcases Nat.lt_or_ge i j with g | g
  · exact .inr (h i j hi g hj)
  · exact .inl (by rw [show i = j by omega])
theorem soS.inj (h : soS k d a b) {i j : Nat} (hi : a ≤ i) (hi2 : i < b) (hj : a ≤ j) (hj2 : j < b) (e : d i = d j) : i = j := by
  rcases Nat.lt_trichotomy i j with g | g | g
  · have := h i j hi g hj2; rw [e] at this; exact this.irrefl.elim
  · exact g
  · have := h j i hj g hi2; rw [e] at this; exact this.irrefl.elim
theorem soE.refl (d : Nat → Nat) (a b : Nat) : soE d d a b := ⟨fun _ _ => rfl, fun _ => Iff.rfl⟩
theorem soE.trans (h : soE d d1 a b) (g : soE d1 d2 a b) : soE d d2 a b := ⟨fun i hi => (g.out i hi).trans (h.out i hi), fun x => (g.rng x).trans (h.rng x)⟩
theorem soE.wide {a' b' : Nat} (h : soE d d' a b) (h1 : a' ≤ a) (h2 : b ≤ b') : soE d d' a' b' := by
  refine ⟨fun i hi => h.out i (by omega), fun x => ⟨?_, ?_⟩⟩
  · rintro ⟨i, g1, g2, g3⟩
    rcases Nat.lt_or_ge i a with q | q
    · exact ⟨i, g1, g2, by rw [← h.out i (.inl q)]; exact g3⟩
    · rcases Nat.lt_or_ge i b with r | r
      · obtain ⟨j, j1, j2, j3⟩ := (h.rng x).1 ⟨i, q, r, g3⟩
        exact ⟨j, by omega, by omega, j3⟩
      · exact ⟨i, g1, g2, by rw [← h.out i (.inr r)]; exact g3⟩
  · rintro ⟨i, g1, g2, g3⟩
    rcases Nat.lt_or_ge i a with q | q
    · exact ⟨i, g1, g2, by rw [h.out i (.inl q)]; exact g3⟩
    · rcases Nat.lt_or_ge i b with r | r
      · obtain ⟨j, j1, j2, j3⟩ := (h.rng x).2 ⟨i, q, r, g3⟩
        exact ⟨j, by omega, by omega, j3⟩
      · exact ⟨i, g1, g2, by rw [h.out i (.inr r)]; exact g3⟩
/-- What stands inside stood inside. -/
theorem soE.from_ (h : soE d d' a b) {i : Nat} (h1 : a ≤ i) (h2 : i < b) : ∃ j, a ≤ j ∧ j < b ∧ d j = d' i := (h.rng _).1 ⟨i, h1, h2, rfl⟩

theorem rot_lo {i : Nat} (h : i < a) : soRot d a m b i = d i := by unfold soRot; rw [if_pos h]
theorem rot_hi {i : Nat} (h0 : a ≤ m) (h1 : m ≤ b) (h : b ≤ i) : soRot d a m b i = d i := by
  unfold soRot; rw [if_neg (by omega), if_neg (by omega), if_neg (by omega)]
theorem rot_1 {i : Nat} (h1 : a ≤ i) (h2 : i < a + (b - m)) : soRot d a m b i = d (i - a + m) := by
  unfold soRot; rw [if_neg (by omega), if_pos h2]
theorem rot_2 {i : Nat} (h1 : a + (b - m) ≤ i) (h2 : i < b) : soRot d a m b i = d (i - (b - m)) := by
  unfold soRot; rw [if_neg (by omega), if_neg (by omega), if_pos h2]
theorem rot_same (h1 : a ≤ m) (h2 : m ≤ b) : soE d (soRot d a m b) a b := by
  refine ⟨fun i hi => ?_, fun x => ⟨?_, ?_⟩⟩
  · rcases hi with hi | hi
    · exact rot_lo hi
    · exact rot_hi h1 h2 hi
  · rintro ⟨i, g1, g2, g3⟩
    rcases Nat.lt_or_ge i (a + (b - m)) with q | q
    · rw [rot_1 g1 q] at g3
      exact ⟨_, by omega, by omega, g3⟩
    · rw [rot_2 q g2] at g3
      exact ⟨_, by omega, by omega, g3⟩
  · rintro ⟨i, g1, g2, g3⟩
    rcases Nat.lt_or_ge i m with q | q
    · refine ⟨i + (b - m), by omega, by omega, ?_⟩
      rw [rot_2 (by omega) (by omega), show i + (b - m) - (b - m) = i by omega]
      exact g3
    · refine ⟨i - m + a, by omega, by omega, ?_⟩
      rw [rot_1 (by omega) (by omega), show i - m + a - a + m = i by omega]
      exact g3
theorem rot_none (h : a = m ∨ m = b) (h1 : a ≤ m) (h2 : m ≤ b) : soRot d a m b = d := by
  funext i
  unfold soRot
  rcases h with rfl | rfl
  · split
    · rfl
    · split
      · congr 1; omega
      · split
        · omega
        · rfl
  · split
    · rfl
    · split
      · omega
      · split
        · congr 1; omega
        · rfl
/-- One number more to the right of a block that moves left. -/
theorem sw_rot_down {j i : Nat} (h1 : 0 < j) (h2 : j ≤ i) : soSw (soRot d j i (i + 1)) j (j - 1) = soRot d (j - 1) i (i + 1) := by
  funext x
  unfold soSw
  by_cases e1 : x = j - 1
  · rw [if_pos e1, rot_1 (by omega) (by omega), rot_1 (by omega) (by omega)]
    congr 1
    omega
  · rw [if_neg e1]
    by_cases e2 : x = j
    · rw [if_pos e2, rot_lo (by omega), rot_2 (by omega) (by omega)]
      congr 1
      omega
    · rw [if_neg e2]
      rcases Nat.lt_or_ge x j with q | q
      · rw [rot_lo q, rot_lo (by omega)]
      · rcases Nat.lt_or_ge x (i + 1) with r | r
        · rw [rot_2 (by omega) r, rot_2 (by omega) r]
        · rw [rot_hi (by omega) (by omega) r, rot_hi (by omega) (by omega) r]
theorem sw_rot_up {q : Nat} (h : a < q) : soSw (soRot d a (a + 1) q) (q - 1) q = soRot d a (a + 1) (q + 1) := by
  funext x
  unfold soSw
  by_cases e1 : x = q
  · rw [if_pos e1, rot_2 (by omega) (by omega), rot_2 (by omega) (by omega)]
    congr 1
    omega
  · rw [if_neg e1]
    by_cases e2 : x = q - 1
    · rw [if_pos e2, rot_hi (by omega) (by omega) (by omega), rot_1 (by omega) (by omega)]
      congr 1
      omega
    · rw [if_neg e2]
      rcases Nat.lt_or_ge x a with q1 | q1
      · rw [rot_lo q1, rot_lo q1]
      · rcases Nat.lt_or_ge x (q - 1) with r | r
        · rw [rot_1 (by omega) (by omega), rot_1 (by omega) (by omega)]
        · rw [rot_hi (by omega) (by omega) (by omega), rot_hi (by omega) (by omega) (by omega)]

/-- The one number behind a sorted block goes to its place. -/
theorem ins_right (h : soS k d a m) {i : Nat} (h0 : a ≤ i) (h1 : i ≤ m) (hl : i = a ∨ soL k (d (i - 1)) (d m)) (hr : i = m ∨ soL k (d m) (d i)) : soS k (soRot d i m (m + 1)) a (m + 1) := by
  have hL : ∀ x, a ≤ x → x < i → soL k (d x) (d m) := fun x hx hxi => by
    rcases hl with hl | hl
    · omega
    · rcases h.le hx (show x ≤ i - 1 by omega) (by omega) with e | e
      · rw [e]; exact hl
      · exact e.trans hl
  have hR : ∀ x, i ≤ x → x < m → soL k (d m) (d x) := fun x hx hxm => by
    rcases hr with hr | hr
    · omega
    · rcases h.le h0 hx hxm with e | e
      · rw [← e]; exact hr
      · exact hr.trans e
  intro x y hx hxy hy
  rcases Nat.lt_trichotomy x i with p | p | p
  · rw [rot_lo p]
    rcases Nat.lt_trichotomy y i with q | q | q
    · rw [rot_lo q]; exact h x y hx hxy (by omega)
    · rw [rot_1 (by omega) (by omega), show y - i + m = m by omega]; exact hL x hx p
    · rw [rot_2 (by omega) hy]; exact h x _ hx (by omega) (by omega)
  · rw [rot_1 (by omega) (by omega), show x - i + m = m by omega, rot_2 (by omega) hy]
    exact hR _ (by omega) (by omega)
  · rw [rot_2 (by omega) (by omega), rot_2 (by omega) hy]
    exact h _ _ (by omega) (by omega) (by omega)
/-- The one number ahead of a sorted block goes to its place. -/
theorem ins_left (h : soS k d (a + 1) b) {i : Nat} (h0 : a + 1 ≤ i) (h1 : i ≤ b) (hl : i = a + 1 ∨ soL k (d (i - 1)) (d a)) (hr : i = b ∨ soL k (d a) (d i)) : soS k (soRot d a (a + 1) i) a b := by
  have hL : ∀ x, a + 1 ≤ x → x < i → soL k (d x) (d a) := fun x hx hxi => by
    rcases hl with hl | hl
    · omega
    · rcases h.le hx (show x ≤ i - 1 by omega) (by omega) with e | e
      · rw [e]; exact hl
      · exact e.trans hl
  have hR : ∀ x, i ≤ x → x < b → soL k (d a) (d x) := fun x hx hxm => by
    rcases hr with hr | hr
    · omega
    · rcases h.le h0 hx hxm with e | e
      · rw [← e]; exact hr
      · exact hr.trans e
  intro x y hx hxy hy
  rcases Nat.lt_trichotomy x (i - 1) with p | p | p
  · rw [rot_1 hx (by omega)]
    rcases Nat.lt_trichotomy y (i - 1) with q | q | q
    · rw [rot_1 (by omega) (by omega)]; exact h _ _ (by omega) (by omega) (by omega)
    · rw [rot_2 (by omega) (by omega), show y - (i - (a + 1)) = a by omega]; exact hL _ (by omega) (by omega)
    · rw [rot_hi (by omega) (by omega) (by omega)]; exact h _ _ (by omega) (by omega) (by omega)
  · rw [rot_2 (by omega) (by omega), show x - (i - (a + 1)) = a by omega, rot_hi (by omega) (by omega) (by omega)]
    exact hR _ (by omega) (by omega)
  · rw [rot_hi (by omega) (by omega) (by omega), rot_hi (by omega) (by omega) (by omega)]
    exact h _ _ (by omega) (by omega) (by omega)

/-- Where the search of a merge begins and ends. -/
def soLo (a m b : Nat) : Nat := if m > (a + b) / 2 then (a + b) / 2 + m - b else a
def soHi (a m b : Nat) : Nat := if m > (a + b) / 2 then (a + b) / 2 else m
/-- What the search of a merge found. -/
structure soC (k : Nat → Int) (d : Nat → Nat) (a m b s r : Nat) : Prop where
  lo : soLo a m b ≤ s
  le : s ≤ r
  hi : r ≤ soHi a m b
  yes : s = soLo a m b ∨ soL k (d (s - 1)) (d ((a + b) / 2 + m - 1 - (s - 1)))
  no : r = soHi a m b ∨ soL k (d ((a + b) / 2 + m - 1 - r)) (d r)
/-- What is rotated falls into two merges. -/
structure soT (k : Nat → Int) (d : Nat → Nat) (a s mid e b : Nat) : Prop where
  ord : a ≤ s ∧ s ≤ mid ∧ mid ≤ e ∧ e ≤ b
  s1 : soS k d a s
  s2 : soS k d s mid
  b1 : soB d a s mid
  s3 : soS k d mid e
  s4 : soS k d e b
  b2 : soB d mid e b
  ap : ∀ i j, a ≤ i → i < mid → mid ≤ j → j < b → soL k (d i) (d j)
theorem soC.begin (h1 : a < m) (h2 : m < b) : soC k d a m b (soLo a m b) (soHi a m b) := by
  refine ⟨Nat.le_refl _, ?_, Nat.le_refl _, .inl rfl, .inl rfl⟩
  unfold soLo soHi
  split <;> omega
/-- The two that the search compares lie in the two blocks. -/
theorem soC.in_ {r c : Nat} (h : soC k d a m b s r) (h1 : a < m) (h2 : m < b) (hc : s ≤ c) (hc2 : c < r) : a ≤ c ∧ c < m ∧ m ≤ (a + b) / 2 + m - 1 - c ∧ (a + b) / 2 + m - 1 - c < b ∧ c ≤ (a + b) / 2 + m - 1 := by
  have e1 := h.lo
  have e2 := h.hi
  unfold soLo at e1
  unfold soHi at e2
  split at e1
  · rw [if_pos (by omega)] at e2; omega
  · rw [if_neg (by omega)] at e2; omega
theorem soC.turn (h : soC k d a m b s s) (h1 : a < m) (h2 : m < b) (hA : soS k d a m) (hB : soS k d m b) (hb : soB d a m b) :
    soT k (soRot d s m ((a + b) / 2 + m - s)) a s ((a + b) / 2) ((a + b) / 2 + m - s) b ∧ s ≤ m ∧ m ≤ (a + b) / 2 + m - s := by
  obtain ⟨mid, hmid⟩ : ∃ mid, mid = (a + b) / 2 := ⟨_, rfl⟩
  have hm1 : 2 * mid ≤ a + b := by omega
  have hm2 : a + b ≤ 2 * mid + 1 := by omega
  obtain ⟨g1, _, g3, g4, g5⟩ := h
  unfold soLo at g1 g4
  unfold soHi at g3 g5
  rw [← hmid] at g1 g3 g4 g5 ⊢
  clear hmid
  obtain ⟨e, he⟩ : ∃ e, e = mid + m - s := ⟨_, rfl⟩
  rw [← he]
  have hr : a ≤ s ∧ s ≤ mid ∧ s ≤ m ∧ mid ≤ e ∧ e ≤ b ∧ m ≤ e := by
    split at g1
    · rw [if_pos (by omega)] at g3; omega
    · rw [if_neg (by omega)] at g3; omega
  obtain ⟨r1, r2, r3, r4, r5, r6⟩ := hr
  have hyes : a < s → e < b → soL k (d (s - 1)) (d e) := fun q1 q2 => by
    rcases g4 with g | g
    · split at g <;> omega
    · rw [show mid + m - 1 - (s - 1) = e by omega] at g; exact g
  have hno : s < m → m < e → soL k (d (e - 1)) (d s) := fun q1 q2 => by
    rcases g5 with g | g
    · split at g <;> omega
    · rw [show mid + m - 1 - s = e - 1 by omega] at g; exact g
  have hsum : s + (e - m) = mid := by omega
  clear g1 g3 g4 g5
  -- what stands where
  have v0 : ∀ i, i < s → soRot d s m e i = d i := fun i hi => rot_lo hi
  have v1 : ∀ i, s ≤ i → i < mid → soRot d s m e i = d (i - s + m) := fun i hi h2 => rot_1 hi (by omega)
  have v2 : ∀ i, mid ≤ i → i < e → soRot d s m e i = d (i - (e - m)) := fun i hi h2 => rot_2 (by omega) h2
  have v3 : ∀ i, e ≤ i → soRot d s m e i = d i := fun i hi => rot_hi r3 r6 hi
  refine ⟨⟨⟨r1, r2, r4, r5⟩, ?_, ?_, ?_, ?_, ?_, ?_, ?_⟩, r3, r6⟩
  · intro i j hi hij hj
    rw [v0 i (by omega), v0 j hj]
    exact hA i j hi hij (by omega)
  · intro i j hi hij hj
    rw [v1 i hi (by omega), v1 j (by omega) hj]
    exact hB _ _ (by omega) (by omega) (by omega)
  · intro i j hi hij hj hj2
    rw [v0 i hij, v1 j hj hj2]
    exact hb _ _ hi (by omega) (by omega) (by omega)
  · intro i j hi hij hj
    rw [v2 i hi (by omega), v2 j (by omega) hj]
    exact hA _ _ (by omega) (by omega) (by omega)
  · intro i j hi hij hj
    rw [v3 i hi, v3 j (by omega)]
    exact hB _ _ (by omega) hij hj
  · intro i j hi hij hj hj2
    rw [v2 i hi hij, v3 j hj]
    exact hb _ _ (by omega) (by omega) (by omega) hj2
  · intro i j hi him hj hjb
    rcases Nat.lt_or_ge i s with p | p
    · rw [v0 i p]
      rcases Nat.lt_or_ge j e with q | q
      · rw [v2 j hj q]; exact hA _ _ hi (by omega) (by omega)
      · rw [v3 j q]
        have hy := hyes (by omega) (by omega)
        have f1 := hA.le hi (show i ≤ s - 1 by omega) (by omega)
        have f2 := hB.le (show m ≤ e by omega) q hjb
        rcases f1 with f1 | f1 <;> rcases f2 with f2 | f2
        · rw [f1, ← f2]; exact hy
        · rw [f1]; exact hy.trans f2
        · rw [← f2]; exact f1.trans hy
        · exact (f1.trans hy).trans f2
    · rw [v1 i p him]
      rcases Nat.lt_or_ge j e with q | q
      · rw [v2 j hj q]
        have hy := hno (by omega) (by omega)
        have f1 := hB.le (show m ≤ i - s + m by omega) (show i - s + m ≤ e - 1 by omega) (by omega)
        have f2 := hA.le (show a ≤ s by omega) (show s ≤ j - (e - m) by omega) (by omega)
        rcases f1 with f1 | f1 <;> rcases f2 with f2 | f2
        · rw [f1, ← f2]; exact hy
        · rw [f1]; exact hy.trans f2
        · rw [← f2]; exact f1.trans hy
        · exact (f1.trans hy).trans f2
      · rw [v3 j q]; exact hB _ _ (by omega) (by omega) hjb
/-- The left merge is done: what is left. -/
theorem soT.done (h : soT k d1 a s mid e b) (h2 : soE d1 d2 a mid) (s2 : soS k d2 a mid) (h3 : soE d2 d3 mid b) (s3 : soS k d3 mid b) : soS k d3 a b := by
  have := h.ord
  intro i j hi hij hj
  rcases Nat.lt_or_ge i mid with p | p
  · rcases Nat.lt_or_ge j mid with q | q
    · rw [h3.out i (.inl p), h3.out j (.inl q)]; exact s2 i j hi hij q
    · rw [h3.out i (.inl p)]
      obtain ⟨i', i1, i2, i3⟩ := h2.from_ hi p
      obtain ⟨j', j1, j2, j3⟩ := h3.from_ q hj
      rw [← i3, ← j3, h2.out j' (.inr j1)]
      exact h.ap i' j' i1 i2 j1 j2
  · exact s3 i j p hij hj
theorem soT.right (h : soT k d1 a s mid e b) (h2 : soE d1 d2 a mid) : soS k d2 mid e ∧ soS k d2 e b ∧ soB d2 mid e b := by
  have := h.ord
  refine ⟨h.s3.congr fun i h1 _ => h2.out i (.inr h1), h.s4.congr fun i h1 _ => h2.out i (.inr (by omega)), fun i j hi hij hj hj2 => ?_⟩
  rw [h2.out i (.inr hi), h2.out j (.inr (by omega))]
  exact h.b2 i j hi hij hj hj2

/-- Ranges swap: so many places of two blocks that lie apart. -/
def soX (d : Nat → Nat) (a b n : Nat) (i : Nat) : Nat := if a ≤ i ∧ i < a + n then d (i - a + b) else if b ≤ i ∧ i < b + n then d (i - b + a) else d i
theorem sx_zero (a b : Nat) : soX d a b 0 = d := by
  funext i
  unfold soX
  rw [if_neg (by omega), if_neg (by omega)]
theorem sx_step {n t : Nat} (h : a + n ≤ b) (ht : t < n) : soSw (soX d a b t) (a + t) (b + t) = soX d a b (t + 1) := by
  funext x
  unfold soSw soX
  by_cases e1 : x = b + t
  · subst e1
    rw [if_pos rfl, if_neg (by omega), if_neg (by omega), if_neg (by omega), if_pos (by omega)]
    congr 1
    omega
  · rw [if_neg e1]
    by_cases e2 : x = a + t
    · subst e2
      rw [if_pos rfl, if_neg (by omega), if_neg (by omega), if_pos (by omega)]
      congr 1
      omega
    · rw [if_neg e2]
      by_cases e3 : a ≤ x ∧ x < a + t
      · rw [if_pos e3, if_pos (by omega)]
      · rw [if_neg e3]
        by_cases e4 : b ≤ x ∧ x < b + t
        · rw [if_pos e4, if_neg (by omega), if_pos (by omega)]
        · rw [if_neg e4, if_neg (by omega), if_neg (by omega)]
/-- A rotation, range by range. -/
theorem rot_gt {i j : Nat} (h1 : i ≤ m) (h2 : j < i) (h3 : 0 < j) : soRot (soX d (m - i) m j) (m - (i - j)) m (m + j) = soRot d (m - i) m (m + j) := by
  funext x
  rcases Nat.lt_or_ge x (m - i) with p | p
  · rw [rot_lo (by omega), rot_lo p]; unfold soX; rw [if_neg (by omega), if_neg (by omega)]
  · rcases Nat.lt_or_ge x (m + j) with q | q
    · rcases Nat.lt_or_ge x (m - i + j) with r | r
      · rw [rot_lo (by omega), rot_1 p (by omega)]; unfold soX; rw [if_pos (by omega)]
      · rw [rot_2 (a := m - i) (by omega) q]
        rcases Nat.lt_or_ge x (m - (i - j) + j) with t | t
        · rw [rot_1 (by omega) (by omega)]; unfold soX; rw [if_neg (by omega), if_pos (by omega)]; congr 1; omega
        · rw [rot_2 (by omega) q]; unfold soX; rw [if_neg (by omega), if_neg (by omega)]
    · rw [rot_hi (by omega) (by omega) q, rot_hi (by omega) (by omega) q]; unfold soX; rw [if_neg (by omega), if_neg (by omega)]
theorem rot_lt {i j : Nat} (h1 : i ≤ m) (h2 : i < j) (h3 : 0 < i) : soRot (soX d (m - i) (m + j - i) i) (m - i) m (m + (j - i)) = soRot d (m - i) m (m + j) := by
  funext x
  rcases Nat.lt_or_ge x (m - i) with p | p
  · rw [rot_lo p, rot_lo p]; unfold soX; rw [if_neg (by omega), if_neg (by omega)]
  · rcases Nat.lt_or_ge x (m + j) with q | q
    · rcases Nat.lt_or_ge x (m - i + j) with r | r
      · rw [rot_1 (b := m + j) p (by omega)]
        rcases Nat.lt_or_ge x (m - i + (j - i)) with t | t
        · rw [rot_1 p (by omega)]; unfold soX
          rw [if_neg (by omega), if_neg (by omega)]
        · rw [rot_2 (by omega) (by omega)]; unfold soX
          rw [if_pos (by omega)]; congr 1; omega
      · rw [rot_2 (b := m + j) (by omega) q, rot_hi (by omega) (by omega) (by omega)]; unfold soX; rw [if_neg (by omega), if_pos (by omega)]; congr 1; omega
    · rw [rot_hi (by omega) (by omega) (by omega), rot_hi (by omega) (by omega) q]; unfold soX; rw [if_neg (by omega), if_neg (by omega)]
theorem rot_eq {i : Nat} (h1 : i ≤ m) (h3 : 0 < i) : soX d (m - i) m i = soRot d (m - i) m (m + i) := by
  funext x
  rcases Nat.lt_or_ge x (m - i) with p | p
  · rw [rot_lo p]; unfold soX; rw [if_neg (by omega), if_neg (by omega)]
  · rcases Nat.lt_or_ge x m with q | q
    · rw [rot_1 p (by omega)]; unfold soX; rw [if_pos (by omega)]
    · rcases Nat.lt_or_ge x (m + i) with r | r
      · rw [rot_2 (by omega) r]; unfold soX; rw [if_neg (by omega), if_pos (by omega)]; congr 1; omega
      · rw [rot_hi (by omega) (by omega) r]; unfold soX; rw [if_neg (by omega), if_neg (by omega)]

theorem soK.empty (h : hi ≤ lo) : soK k d lo hi := ⟨fun i j h1 h2 h3 => by omega, fun x => ⟨fun ⟨i, h1, h2, _⟩ => by omega, fun h => by omega⟩⟩
theorem soK.congr (h : soK k d lo hi) (he : ∀ i, lo ≤ i → i < hi → d' i = d i) : soK k d' lo hi := by
  refine ⟨h.srt.congr he, fun x => ?_⟩
  rw [← h.rng x]
  exact ⟨fun ⟨i, h1, h2, h3⟩ => ⟨i, h1, h2, by rw [← he i h1 h2]; exact h3⟩, fun ⟨i, h1, h2, h3⟩ => ⟨i, h1, h2, by rw [he i h1 h2]; exact h3⟩⟩
theorem soK.val (h : soK k d lo hi) {i : Nat} (h1 : lo ≤ i) (h2 : i < hi) : lo ≤ d i ∧ d i < hi := (h.rng _).1 ⟨i, h1, h2, rfl⟩
theorem soK.apart (h1 : soK k d a m) (h2 : soK k d m b) : soB d a m b := fun i j p q r s => by
  have := h1.val p q
  have := h2.val r s
  omega
theorem soK.merged (h1 : soK k d a m) (h2 : soK k d m b) (ha : a ≤ m) (hb : m ≤ b) (he : soE d d' a b) (hs : soS k d' a b) : soK k d' a b := by
  refine ⟨hs, fun x => (he.rng x).trans ⟨?_, ?_⟩⟩
  · rintro ⟨i, g1, g2, rfl⟩
    rcases Nat.lt_or_ge i m with p | p
    · have := h1.val g1 p; omega
    · have := h2.val p g2; omega
  · intro hx
    rcases Nat.lt_or_ge x m with p | p
    · obtain ⟨i, i1, i2, i3⟩ := (h1.rng x).2 ⟨hx.1, p⟩
      exact ⟨i, i1, by omega, i3⟩
    · obtain ⟨i, i1, i2, i3⟩ := (h2.rng x).2 ⟨p, hx.2⟩
      exact ⟨i, by omega, i2, i3⟩
theorem soK.of_id (hid : ∀ i, lo ≤ i → i < hi → d i = i) (he : soE d d' lo hi) (hs : soS k d' lo hi) : soK k d' lo hi := by
  refine ⟨hs, fun x => (he.rng x).trans ⟨?_, ?_⟩⟩
  · rintro ⟨i, g1, g2, rfl⟩
    rw [hid i g1 g2]
    exact ⟨g1, g2⟩
  · exact fun hx => ⟨x, hx.1, hx.2, hid x hx.1 hx.2⟩
/-- What is sorted is one. -/
theorem soK.one {f g : Nat → Nat} {n : Nat} (hf : soK k f 0 n) (hg : soK k g 0 n) : ∀ t, t < n → f t = g t := by
  intro t
  induction t using Nat.strongRecOn with
  | _ t ih =>
    intro ht
    have one : ∀ (p q : Nat → Nat), soK k p 0 n → soK k q 0 n → (∀ s, s < t → p s = q s) → p t = q t ∨ soL k (q t) (p t) := fun p q hp hq he => by
      obtain ⟨j, _, j2, j3⟩ := (hq.rng (p t)).2 (hp.val (Nat.zero_le _) ht)
      rcases Nat.lt_trichotomy j t with c | c | c
      · rw [← he j c] at j3
        exact absurd (hp.srt.inj (Nat.zero_le _) j2 (Nat.zero_le _) ht j3) (by omega)
      · rw [c] at j3; exact .inl j3.symm
      · right; rw [← j3]; exact hq.srt t j (Nat.zero_le _) c j2
    rcases one f g hf hg fun s hs => ih s hs (by omega) with h | h
    · exact h
    · rcases one g f hg hf fun s hs => (ih s hs (by omega)).symm with h2 | h2
      · exact h2.symm
      · exact (h.asymm h2).elim
theorem so_place (P : Nat → Prop) (n : Nat) : ∃ j, j ≤ n ∧ (j = 0 ∨ P (j - 1)) ∧ (j = n ∨ ¬ P j) := by
  induction n with
  | zero => exact ⟨0, Nat.le_refl _, .inl rfl, .inl rfl⟩
  | succ n ih =>
    by_cases h : P n
    · exact ⟨n + 1, Nat.le_refl _, .inr h, .inl rfl⟩
    · obtain ⟨j, h1, h2, h3⟩ := ih
      refine ⟨j, by omega, h2, .inr ?_⟩
      rcases h3 with h3 | h3
      · rw [h3]; exact h
      · exact h3
theorem so_ex (k : Nat → Int) (n : Nat) : ∃ d, soK k d 0 n := by
  induction n with
  | zero => exact ⟨id, soK.empty (Nat.le_refl _)⟩
  | succ n ih =>
    obtain ⟨d0, h0⟩ := ih
    obtain ⟨d, hd⟩ : ∃ d : Nat → Nat, d = fun i => if i = n then n else d0 i := ⟨_, rfl⟩
    have hdn : d n = n := by rw [hd]; simp
    have h : soK k d 0 n := h0.congr fun i _ hi => by rw [hd]; simp; omega
    clear hd h0
    obtain ⟨j, h1, h2, h3⟩ := so_place (fun i => soL k (d i) n) n
    have hs := ins_right (m := n) h.srt (Nat.zero_le j) h1 (by rw [hdn]; exact h2) (by
      rw [hdn]
      rcases h3 with h3 | h3
      · exact .inl h3
      · rcases Nat.lt_or_ge j n with q | q
        · exact .inr (soL.total h3 (by have := h.val (Nat.zero_le j) q; omega))
        · exact .inl (by omega))
    refine ⟨_, hs, fun x => (((rot_same h1 (Nat.le_succ n)).wide (Nat.zero_le _) (Nat.le_refl _)).rng x).trans ⟨?_, ?_⟩⟩
    · rintro ⟨i, g1, g2, rfl⟩
      rcases Nat.lt_or_ge i n with q | q
      · have := h.val g1 q; omega
      · rw [show i = n by omega, hdn]; omega
    · intro hx
      rcases Nat.lt_or_ge x n with q | q
      · obtain ⟨i, i1, i2, i3⟩ := (h.rng x).2 ⟨hx.1, q⟩
        exact ⟨i, i1, by omega, i3⟩
      · exact ⟨n, Nat.zero_le _, by omega, by rw [hdn]; omega⟩
end
/-- The one sorted row. -/
noncomputable def soF (k : Nat → Int) (n : Nat) : Nat → Nat := (so_ex k n).choose
theorem soF_ok (k : Nat → Int) (n : Nat) : soK k (soF k n) 0 n := (so_ex k n).choose_spec
theorem soF_eq {k : Nat → Int} {d : Nat → Nat} {n : Nat} (h : soK k d 0 n) {t : Nat} (ht : t < n) : d t = soF k n t := h.one (soF_ok k n) t ht
end Go.Proofs.Ythbnomemknnmeaa
