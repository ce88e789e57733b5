/- Determinants over the field, in plain words: by the first row's elements; what steps of rows do to them; products. No condition. -/
import Derived.Test.YtbkelijmdpoanaaSvm
namespace Go.Proofs.Ytbkelijmdpoanaa
set_option linter.unusedVariables false

/-- The place of column j once column k is left out. -/
def skp (k j : Nat) : Nat := if j < k then j else j + 1
/-- What is left without the first row and column k. -/
def minF (f : Nat → Nat → UInt8) (k i j : Nat) : UInt8 := f (i + 1) (skp k j)
/-- The determinant, by the first row's elements. -/
def detF : Nat → (Nat → Nat → UInt8) → UInt8
  | 0, _ => 1
  | n + 1, f => us (fun k => um (f 0 k) (detF n (minF f k))) (n + 1)
theorem skp_lt {k j n : Nat} (hj : j < n) : skp k j < n + 1 := by unfold skp; split <;> omega
theorem detF_congr : ∀ {n : Nat} {f g : Nat → Nat → UInt8}, EqF n n f g → detF n f = detF n g
  | 0, _, _, _ => rfl
  | n + 1, f, g, h => by
    rw [detF, detF]
    refine us_congr fun k hk => ?_
    rw [h 0 k (by omega) hk, detF_congr (f := minF f k) (g := minF g k) fun i j hi hj => h (i + 1) _ (by omega) (skp_lt hj)]

/-- Row i is s. -/
def rowF (f : Nat → Nat → UInt8) (i : Nat) (s : Nat → UInt8) (o : Nat) : Nat → UInt8 := if o = i then s else f o
theorem rowF_at (f : Nat → Nat → UInt8) (i : Nat) (s : Nat → UInt8) : rowF f i s i = s := if_pos rfl
theorem rowF_ne (f : Nat → Nat → UInt8) {i o : Nat} (s : Nat → UInt8) (h : o ≠ i) : rowF f i s o = f o := if_neg h
theorem rowF_self (f : Nat → Nat → UInt8) (i : Nat) : rowF f i (f i) = f := by
  funext o
  by_cases e : o = i
  · rw [e, rowF_at]
  · rw [rowF_ne _ _ e]
theorem rowF_two (f : Nat → Nat → UInt8) (i : Nat) (s t : Nat → UInt8) : rowF (rowF f i s) i t = rowF f i t := by
  funext o
  by_cases e : o = i
  · rw [e, rowF_at, rowF_at]
  · rw [rowF_ne _ _ e, rowF_ne _ _ e, rowF_ne _ _ e]
theorem rowF_comm (f : Nat → Nat → UInt8) {i j : Nat} (h : i ≠ j) (s t : Nat → UInt8) : rowF (rowF f i s) j t = rowF (rowF f j t) i s := by
  funext o
  by_cases e : o = i
  · have e2 : o ≠ j := by omega
    rw [rowF_ne _ _ e2, e, rowF_at, rowF_at]
  · by_cases e2 : o = j
    · rw [rowF_ne _ _ e, e2, rowF_at, rowF_at]
    · rw [rowF_ne _ _ e2, rowF_ne _ _ e, rowF_ne _ _ e, rowF_ne _ _ e2]
theorem min_row0 (f : Nat → Nat → UInt8) (s : Nat → UInt8) (k : Nat) : minF (rowF f 0 s) k = minF f k := by
  funext i j
  unfold minF
  rw [rowF_ne _ _ (by omega)]
theorem min_row (f : Nat → Nat → UInt8) (i : Nat) (s : Nat → UInt8) (k : Nat) : minF (rowF f (i + 1) s) k = rowF (minF f k) i fun j => s (skp k j) := by
  funext o j
  unfold minF
  by_cases e : o = i
  · rw [e, rowF_at, rowF_at]
  · rw [rowF_ne _ _ e, rowF_ne _ _ (by omega)]

/-- Each row counts by itself: sums. -/
theorem det_add : ∀ (n : Nat) (f : Nat → Nat → UInt8) (i : Nat) (s t : Nat → UInt8), i < n → detF n (rowF f i fun j => s j ^^^ t j) = detF n (rowF f i s) ^^^ detF n (rowF f i t)
  | 0, _, _, _, _, h => absurd h (Nat.not_lt_zero _)
  | n + 1, f, 0, s, t, _ => by
    rw [detF, detF, detF, ← us_xor]
    refine us_congr fun k _ => ?_
    rw [min_row0, min_row0, min_row0, rowF_at, rowF_at, rowF_at, um_xor_left]
  | n + 1, f, i + 1, s, t, h => by
    rw [detF, detF, detF, ← us_xor]
    refine us_congr fun k _ => ?_
    rw [min_row, min_row, min_row, rowF_ne _ _ (by omega), rowF_ne _ _ (by omega), rowF_ne _ _ (by omega), ← um_xor_right]
    rw [det_add n (minF f k) i (fun j => s (skp k j)) (fun j => t (skp k j)) (by omega)]
/-- Each row counts by itself: multiples. -/
theorem det_mul : ∀ (n : Nat) (f : Nat → Nat → UInt8) (i : Nat) (s : Nat → UInt8) (x : UInt8), i < n → detF n (rowF f i fun j => um (s j) x) = um (detF n (rowF f i s)) x
  | 0, _, _, _, _, h => absurd h (Nat.not_lt_zero _)
  | n + 1, f, 0, s, x, _ => by
    rw [detF, detF, us_um]
    refine us_congr fun k _ => ?_
    rw [min_row0, min_row0, rowF_at, rowF_at, um_assoc, um_assoc, um_comm x]
  | n + 1, f, i + 1, s, x, h => by
    rw [detF, detF, us_um]
    refine us_congr fun k _ => ?_
    rw [min_row, min_row, rowF_ne _ _ (by omega), rowF_ne _ _ (by omega), um_assoc]
    rw [det_mul n (minF f k) i (fun j => s (skp k j)) x (by omega)]

/-- Two columns left out, in either order. -/
theorem skp_skp {k l : Nat} (h : k ≤ l) (j : Nat) : skp k (skp l j) = skp (l + 1) (skp k j) := by
  unfold skp
  by_cases h1 : j < k
  · rw [if_pos (by omega : j < l), if_pos h1, if_pos (by omega)]
  · rw [if_neg h1]
    by_cases h2 : j < l
    · rw [if_pos h2, if_neg h1, if_pos (by omega)]
    · rw [if_neg h2, if_neg (by omega), if_neg (by omega)]
/-- The first two rows' elements. -/
theorem det_two (n : Nat) (f : Nat → Nat → UInt8) : detF (n + 2) f = us (fun k => us (fun l => um (um (f 0 k) (f 1 (skp k l))) (detF n (minF (minF f k) l))) (n + 1)) (n + 2) := by
  rw [detF]
  refine us_congr fun k _ => ?_
  rw [detF, um_us]
  refine us_congr fun l _ => ?_
  rw [um_assoc]
  rfl
theorem us_shift (s : Nat → UInt8) (n : Nat) : us s (n + 1) = s 0 ^^^ us (fun j => s (j + 1)) n := by
  have := us_split s 1 n
  rw [Nat.add_comm 1 n] at this
  rw [this]
  congr 1
  · show us s 0 ^^^ s 0 = s 0
    exact zero_ux _
  · exact us_congr fun j _ => by rw [Nat.add_comm]
theorem us_if (p : Nat → Prop) [DecidablePred p] (s : Nat → UInt8) (n : Nat) : us s n = us (fun j => if p j then s j else 0) n ^^^ us (fun j => if p j then 0 else s j) n := by
  rw [← us_xor]
  refine us_congr fun j _ => ?_
  by_cases e : p j
  · rw [if_pos e, if_pos e, ux_zero]
  · rw [if_neg e, if_neg e, zero_ux]
/-- A sum over unlike pairs in which each comes as the other's twin is nought. -/
theorem us_twins (t : Nat → Nat → UInt8) (n : Nat) (h : ∀ k l, k ≤ l → t k l = t (l + 1) k) : us (fun k => us (fun l => t k l) (n + 1)) (n + 2) = 0 := by
  have e : us (fun k => us (fun l => t k l) (n + 1)) (n + 2) = us (fun k => us (fun l => if k ≤ l then t k l else 0) (n + 1)) (n + 2) ^^^ us (fun k => us (fun l => if k ≤ l then 0 else t k l) (n + 1)) (n + 2) := by
    rw [← us_xor]
    exact us_congr fun k _ => us_if (fun l => k ≤ l) _ _
  have e1 : us (fun k => us (fun l => if k ≤ l then t k l else 0) (n + 1)) (n + 2) = us (fun k => us (fun l => if k ≤ l then t k l else 0) (n + 1)) (n + 1) := by
    show _ ^^^ us (fun l => if n + 1 ≤ l then t (n + 1) l else 0) (n + 1) = _
    rw [us_congr (t := fun _ => 0) fun l hl => if_neg (by omega), us_zero, ux_zero]
  have e2 : us (fun k => us (fun l => if k ≤ l then 0 else t k l) (n + 1)) (n + 2) = us (fun k => us (fun l => if k ≤ l then t k l else 0) (n + 1)) (n + 1) := by
    rw [us_shift, us_congr (n := n + 1) (t := fun _ => 0) fun l hl => if_pos (by omega), us_zero, zero_ux]
    rw [us_swap]
    refine us_congr fun k _ => us_congr fun l _ => ?_
    by_cases hk : k ≤ l
    · rw [if_neg (by omega), if_pos hk, h k l hk]
    · rw [if_pos (by omega), if_neg hk]
  rw [e, e1, e2, ux_self]
theorem det_same01 (n : Nat) (f : Nat → Nat → UInt8) (h : f 0 = f 1) : detF (n + 2) f = 0 := by
  rw [det_two]
  refine us_twins _ n fun k l hkl => ?_
  rw [h]
  have e1 : skp k l = l + 1 := by unfold skp; rw [if_neg (by omega)]
  have e2 : skp (l + 1) k = k := by unfold skp; rw [if_pos (by omega)]
  rw [e1, e2, um_comm (f 1 k)]
  congr 2
  funext i j
  unfold minF
  rw [skp_skp hkl]

/-- Of a pair of rows that make nought when alike, swapping is no matter. -/
theorem det_swap_of {n : Nat} {i j : Nat} (hi : i < n) (hj : j < n) (hne : i ≠ j) (h0 : ∀ f : Nat → Nat → UInt8, f i = f j → detF n f = 0) (f : Nat → Nat → UInt8) (a b : Nat → UInt8) :
    detF n (rowF (rowF f i a) j b) = detF n (rowF (rowF f i b) j a) := by
  have hz : ∀ s, detF n (rowF (rowF f i s) j s) = 0 := fun s => h0 _ (by rw [rowF_at, rowF_ne _ _ hne, rowF_at])
  have e : detF n (rowF (rowF f i fun q => a q ^^^ b q) j fun q => a q ^^^ b q) = (detF n (rowF (rowF f i a) j a) ^^^ detF n (rowF (rowF f i a) j b)) ^^^ (detF n (rowF (rowF f i b) j a) ^^^ detF n (rowF (rowF f i b) j b)) := by
    rw [rowF_comm _ hne, det_add n _ i _ _ hi, rowF_comm _ (Ne.symm hne), rowF_comm _ (Ne.symm hne), det_add n _ j _ _ hj, det_add n _ j _ _ hj]
  rw [hz, hz, hz, zero_ux, ux_zero] at e
  exact ux_eq e.symm
/-- Two rows alike: nought. -/
theorem det_same : ∀ (n : Nat) (f : Nat → Nat → UInt8) (i j : Nat), i < j → j < n → f i = f j → detF n f = 0
  | 0, _, _, _, _, h, _ => absurd h (Nat.not_lt_zero _)
  | n + 1, f, i + 1, j, hij, hj, h => by
    obtain ⟨j', rfl⟩ : ∃ j', j = j' + 1 := ⟨j - 1, by omega⟩
    rw [detF, us_congr (t := fun _ => 0) fun k _ => ?_, us_zero]
    rw [det_same n (minF f k) i j' (by omega) (by omega) (by funext q; unfold minF; rw [h]), um_zero]
  | n + 1, f, 0, j, hij, hj, h => by
    obtain ⟨m, rfl⟩ : ∃ m, n = m + 1 := ⟨n - 1, by omega⟩
    by_cases e : j = 1
    · subst e
      exact det_same01 m f h
    · have low : ∀ g : Nat → Nat → UInt8, g 1 = g j → detF (m + 2) g = 0 := fun g hg => by
        obtain ⟨j', rfl⟩ : ∃ j', j = j' + 1 := ⟨j - 1, by omega⟩
        rw [detF, us_congr (t := fun _ => 0) fun k _ => ?_, us_zero]
        rw [det_same (m + 1) (minF g k) 0 j' (by omega) (by omega) (by funext q; unfold minF; rw [show 0 + 1 = 1 from rfl, hg]), um_zero]
      have sw := det_swap_of (n := m + 2) (i := 1) (j := j) (by omega) hj (by omega) low f (f 1) (f j)
      rw [rowF_self, rowF_self] at sw
      rw [sw]
      refine det_same01 m _ ?_
      rw [rowF_ne _ _ (by omega), rowF_ne _ _ (by omega), rowF_ne _ _ (by omega), rowF_at, h]
theorem det_alike {n : Nat} {f : Nat → Nat → UInt8} {i j : Nat} (hi : i < n) (hj : j < n) (hne : i ≠ j) (h : f i = f j) : detF n f = 0 := by
  rcases Nat.lt_or_ge i j with g | g
  · exact det_same n f i j g hj h
  · exact det_same n f j i (by omega) hi h.symm
theorem det_swap {n : Nat} {i j : Nat} (hi : i < n) (hj : j < n) (hne : i ≠ j) (f : Nat → Nat → UInt8) : detF n (rowF (rowF f i (f j)) j (f i)) = detF n f := by
  rw [det_swap_of hi hj hne (fun g hg => det_alike hi hj hne hg) f (f j) (f i), rowF_self, rowF_self]
/-- Another row's multiple added: no matter. -/
theorem det_addto {n : Nat} {i j : Nat} (hi : i < n) (hj : j < n) (hne : i ≠ j) (f : Nat → Nat → UInt8) (x : UInt8) : detF n (rowF f i fun q => f i q ^^^ um (f j q) x) = detF n f := by
  rw [det_add n f i _ _ hi, rowF_self, det_mul n f i _ x hi, det_alike (f := rowF f i (f j)) hi hj hne (by rw [rowF_at, rowF_ne _ _ (Ne.symm hne)]), zero_um, ux_zero]
theorem det_zero {n i : Nat} (hi : i < n) (f : Nat → Nat → UInt8) (h : ∀ j, j < n → f i j = 0) : detF n f = 0 := by
  have e : detF n f = detF n (rowF f i fun j => um (f i j) 0) := detF_congr fun o j ho hj => by
    by_cases e : o = i
    · rw [e, rowF_at, h j hj, um_zero]
    · rw [rowF_ne _ _ e]
  rw [e, det_mul n f i _ 0 hi, um_zero]
theorem det_one : ∀ n, detF n oneF = 1
  | 0 => rfl
  | n + 1 => by
    rw [detF, us_one _ 0 (n + 1) (by omega) fun j _ hne => by rw [show oneF 0 j = 0 from if_neg (Ne.symm hne), zero_um]]
    rw [show oneF 0 0 = 1 from if_pos rfl, one_um, ← det_one n]
    congr 1
    funext i j
    unfold minF skp oneF
    rw [if_neg (by omega : ¬ j < 0)]
    by_cases e : i = j
    · rw [if_pos e, if_pos (by omega)]
    · rw [if_neg e, if_neg (by omega)]

/-- The first q rows are cleared by row a's multiples. -/
def clrF (f : Nat → Nat → UInt8) (a : Nat) (m : Nat → UInt8) (q o j : Nat) : UInt8 := if o < q ∧ o ≠ a then f o j ^^^ um (f a j) (m o) else f o j
theorem det_clear {n a : Nat} (m : Nat → UInt8) (ha : a < n) (f : Nat → Nat → UInt8) : ∀ q, q ≤ n → detF n (clrF f a m q) = detF n f
  | 0, _ => detF_congr fun o j _ _ => by unfold clrF; rw [if_neg (by omega)]
  | q + 1, hq => by
    rw [← det_clear m ha f q (by omega)]
    by_cases e : q = a
    · refine detF_congr fun o j _ _ => ?_
      unfold clrF
      by_cases h1 : o < q ∧ o ≠ a
      · rw [if_pos h1, if_pos (by omega)]
      · rw [if_neg h1, if_neg (by omega)]
    · rw [← det_addto (i := q) (j := a) (by omega) ha e (clrF f a m q) (m q)]
      refine detF_congr fun o j _ _ => ?_
      by_cases eo : o = q
      · subst eo
        rw [rowF_at]
        unfold clrF
        rw [if_pos ⟨by omega, e⟩, if_neg (by omega), if_neg (by omega)]
      · rw [rowF_ne _ _ eo]
        unfold clrF
        by_cases h1 : o < q ∧ o ≠ a
        · rw [if_pos h1, if_pos (by omega)]
        · rw [if_neg h1, if_neg (by omega)]
/-- A column's step, with any multiples. -/
def elimG (f : Nat → Nat → UInt8) (a i : Nat) (x : UInt8) (m : Nat → UInt8) (o j : Nat) : UInt8 := if o = a then um (f i j) x else swpF f a i o j ^^^ um (um (f i j) x) (m o)
/-- What it does to the determinant. -/
theorem det_elim {n a i : Nat} {x y : UInt8} (ha : a < n) (hi : i < n) (f : Nat → Nat → UInt8) (m : Nat → UInt8) (hx : um x y = 1) : um (detF n (elimG f a i x m)) y = detF n f := by
  obtain ⟨g, hg⟩ : ∃ g, g = rowF (rowF f i (f a)) a (f i) := ⟨_, rfl⟩
  have dg : detF n g = detF n f := by
    rw [hg]
    by_cases e : a = i
    · subst e
      rw [rowF_two, rowF_self]
    · exact det_swap (i := i) (j := a) hi ha (Ne.symm e) f
  have ga : g a = f i := by rw [hg, rowF_at]
  have go : ∀ o, o ≠ a → g o = swpF f a i o := fun o ho => by
    rw [hg, rowF_ne _ _ ho]
    unfold swpF
    by_cases e : o = i
    · rw [if_pos e, e, rowF_at]
    · rw [if_neg e, rowF_ne _ _ e]
  have e : EqF n n (elimG f a i x m) (clrF (rowF g a fun j => um (g a j) x) a m n) := fun o j ho hj => by
    unfold elimG clrF
    by_cases eo : o = a
    · subst eo
      rw [if_pos rfl, if_neg (by omega), rowF_at, ga]
    · rw [if_neg eo, if_pos ⟨ho, eo⟩, rowF_ne _ _ eo, rowF_at, go o eo, ga]
  rw [detF_congr e, det_clear m ha _ n (Nat.le_refl _), det_mul n g a _ _ ha, rowF_self, um_assoc, hx, um_one, dg]
theorem elim_G (f : Nat → Nat → UInt8) (a i k : Nat) : elimF f a i k = elimG f a i (ui (f i k)) fun o => swpF f a i o k := rfl
/-- Steps of a factor's rows are steps of the product's. -/
theorem mul_G {n a i : Nat} (f b : Nat → Nat → UInt8) (x : UInt8) (m : Nat → UInt8) : mulF n (elimG f a i x m) b = elimG (mulF n f b) a i x m := by
  funext o j
  unfold mulF
  by_cases e : o = a
  · rw [show elimG f a i x m o = fun j => um (f i j) x from funext fun j => by unfold elimG; rw [if_pos e], ud_scale]
    unfold elimG
    rw [if_pos e]
  · rw [show elimG f a i x m o = fun j => swpF f a i o j ^^^ um (um (f i j) x) (m o) from funext fun j => by unfold elimG; rw [if_neg e], ud_add, ud_scale, ud_scale]
    unfold elimG
    rw [if_neg e]
    congr 1
    unfold swpF
    by_cases e2 : o = i
    · rw [if_pos e2, if_pos e2]
    · rw [if_neg e2, if_neg e2]
/-- Determinants through a step, and through all. -/
theorem step_det {n k : Nat} {s : RS} (hr : s.rk ≤ n) (f b : Nat → Nat → UInt8) (h1 : um (detF n s.f) s.pr = detF n f) (h2 : um (detF n (mulF n s.f b)) s.pr = detF n (mulF n f b)) (h3 : s.pr ≠ 0) :
    um (detF n (stepS n k s).f) (stepS n k s).pr = detF n f ∧ um (detF n (mulF n (stepS n k s).f b)) (stepS n k s).pr = detF n (mulF n f b) ∧ (stepS n k s).pr ≠ 0 := by
  rcases lead_spec s.f k hr with ⟨e, hz⟩ | ⟨g1, g2, g3, g4⟩
  · rw [stepS_none e]
    exact ⟨h1, h2, h3⟩
  · obtain ⟨i, hi⟩ : ∃ i, i = lead s.f k s.rk n := ⟨_, rfl⟩
    rw [stepS_at hi.symm (by omega)]
    rw [← hi] at g1 g2 g3
    have hx : um (ui (s.f i k)) (s.f i k) = 1 := by rw [um_comm, um_ui g3]
    refine ⟨?_, ?_, um_ne h3 g3⟩
    · show um (detF n (elimF s.f s.rk i k)) (um s.pr (s.f i k)) = _
      rw [um_comm s.pr, ← um_assoc, elim_G, det_elim (by omega) g2 _ _ hx, h1]
    · show um (detF n (mulF n (elimF s.f s.rk i k) b)) (um s.pr (s.f i k)) = _
      rw [um_comm s.pr, ← um_assoc, elim_G, mul_G, det_elim (by omega) g2 _ _ hx, h2]
theorem redS_det (n : Nat) (f b : Nat → Nat → UInt8) : ∀ k, um (detF n (redS n f k).f) (redS n f k).pr = detF n f ∧ um (detF n (mulF n (redS n f k).f b)) (redS n f k).pr = detF n (mulF n f b) ∧ (redS n f k).pr ≠ 0
  | 0 => ⟨um_one _, um_one _, by show (1 : UInt8) ≠ 0; decide⟩
  | k + 1 => by
    obtain ⟨h1, h2, h3⟩ := redS_det n f b k
    exact step_det (redS_le n f k).1 f b h1 h2 h3
/-- What the program answers. -/
def detP (n : Nat) (f : Nat → Nat → UInt8) : UInt8 := if (redS n f n).rk < n then 0 else (redS n f n).pr
theorem detP_eq (n : Nat) (f : Nat → Nat → UInt8) : detP n f = detF n f := by
  obtain ⟨h1, _, h3⟩ := redS_det n f f n
  unfold detP
  by_cases h : (redS n f n).rk < n
  · rw [if_pos h, ← h1, det_zero (i := n - 1) (by omega) _ fun j hj => redS_zero f (by omega) (by omega) hj, zero_um]
  · rw [if_neg h, ← h1]
    have e : (redS n f n).rk = n := by have := (redS_le n f n).1; omega
    rw [detF_congr (redS_one f e), det_one, one_um]
/-- It isn't nought just if the rank is whole. -/
theorem detP_ne (n : Nat) (f : Nat → Nat → UInt8) : detP n f ≠ 0 ↔ (redS n f n).rk = n := by
  obtain ⟨_, _, h3⟩ := redS_det n f f n
  have hle := (redS_le n f n).1
  unfold detP
  by_cases h : (redS n f n).rk < n
  · rw [if_pos h]
    exact ⟨fun g => absurd rfl g, fun g => by omega⟩
  · rw [if_neg h]
    exact ⟨fun _ => by omega, fun _ => h3⟩
/-- A product's determinant. -/
theorem det_prod (n : Nat) (f b : Nat → Nat → UInt8) : detF n (mulF n f b) = um (detF n f) (detF n b) := by
  obtain ⟨h1, h2, h3⟩ := redS_det n f b n
  by_cases h : (redS n f n).rk < n
  · rw [← h1, ← h2, det_zero (n := n) (i := n - 1) (by omega) (redS n f n).f (fun j hj => redS_zero f (by omega) (by omega) hj)]
    rw [det_zero (n := n) (i := n - 1) (by omega) (mulF n (redS n f n).f b) (fun j hj => ?_), zero_um, zero_um]
    unfold mulF
    rw [ud_congr (f' := fun _ => 0) (g' := fun l => b l j) (fun l hl => redS_zero f (by omega) (by omega) hl) (fun _ _ => rfl)]
    unfold ud
    rw [us_congr (t := fun _ => 0) fun l _ => zero_um _, us_zero]
  · have e : (redS n f n).rk = n := by have := (redS_le n f n).1; omega
    have hb : EqF n n (mulF n (redS n f n).f b) b := fun i j hi hj => by
      unfold mulF
      rw [ud_left (q := i) hi]
      · rw [redS_one f e i i hi hi]; exact if_pos rfl
      · intro l hl hne
        rw [redS_one f e i l hi hl]
        exact if_neg (Ne.symm hne)
    rw [← h1, ← h2, detF_congr hb, detF_congr (redS_one f e), det_one, one_um, um_comm]
end Go.Proofs.Ytbkelijmdpoanaa
