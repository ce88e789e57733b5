/- Rows brought to steps, in plain words: a column's step, what it keeps, the rank, and what solves equations. No condition; Determinants over the field, in plain words: by the first row's elements; what steps of rows do to them; products. No condition; Rows of rows of bytes of the call's own, whose rows are set, swapped and written: what memory holds. No condition; Package solve's leader, divide and addTimes, each as a contract over memory; Package solve's clearColumn and reduce, each as a contract over memory; Package solve's reduce, as a contract over memory; A region that draws its order and whose last operation stores where the others read: the others may be taken first under a condition that holds up to that store. And append as one step of a region. No condition; Package solve's rowsOf, square, Rank, Steps and Det, each as a contract over memory; Package solve's Solve and Invert, each as a contract over memory; Package solve's Solve of what doesn't fit, and Invert, each as a contract over memory; The document's times and plus, each as a contract over memory; The document's Steps, as a contract over memory. -/
import Derived.Test.YtcdmljlangbloaaBase
import Derived.StillTailTactics
import Derived.Test.YtcdmljlangbloaaBasf
import Derived.BigRegion
import Derived.Deep.RegionHeld3
namespace Go.Proofs.Ytcdmljlangbloaa
set_option linter.unusedVariables false
set_option maxRecDepth 20000

/-- What a byte comes to 1 with. -/
def ui (a : UInt8) : UInt8 := UInt8.ofNat (ginv a.toNat)
theorem ui_nat (a : UInt8) : (ui a).toNat = ginv a.toNat := by
  unfold ui
  rw [UInt8.toNat_ofNat', Nat.mod_eq_of_lt (ginv_lt _)]
theorem u8_ne {a : UInt8} (h : a ≠ 0) : a.toNat ≠ 0 := fun e => h (u8_ext e)
theorem um_ui {a : UInt8} (h : a ≠ 0) : um a (ui a) = 1 := u8_ext (by rw [um_nat, ui_nat, gmul_ginv (u8_lt a) (u8_ne h)]; rfl)
theorem ux_can (a b : UInt8) : a ^^^ b ^^^ b = a := by rw [ux_assoc, ux_self, ux_zero]
theorem ux_eq {a b : UInt8} (h : a ^^^ b = 0) : a = b := by rw [← ux_can a b, h, zero_ux]
theorem um_ne {a b : UInt8} (ha : a ≠ 0) (hb : b ≠ 0) : um a b ≠ 0 := by
  intro h
  apply hb
  have : um (ui a) (um a b) = b := by rw [← um_assoc, um_comm (ui a), um_ui ha, one_um]
  rw [← this, h, um_zero]

theorem ud_add (a b v : Nat → UInt8) (n : Nat) : ud (fun j => a j ^^^ b j) v n = ud a v n ^^^ ud b v n := by
  unfold ud
  rw [← us_xor]
  exact us_congr fun j _ => um_xor_left _ _ _
theorem ud_scale (a v : Nat → UInt8) (x : UInt8) (n : Nat) : ud (fun j => um (a j) x) v n = um (ud a v n) x := by
  unfold ud
  rw [us_um]
  exact us_congr fun j _ => by rw [um_assoc, um_comm x, ← um_assoc]
theorem us_split (s : Nat → UInt8) (n m : Nat) : us s (n + m) = us s n ^^^ us (fun j => s (n + j)) m := by
  induction m with
  | zero => exact (ux_zero _).symm
  | succ m ih => rw [← Nat.add_assoc, us, us, ih, ux_assoc]
theorem ud_split (f g : Nat → UInt8) (n m : Nat) : ud f g (n + m) = ud f g n ^^^ ud (fun j => f (n + j)) (fun j => g (n + j)) m := us_split _ n m
theorem us_one (s : Nat → UInt8) (q n : Nat) (hq : q < n) (h : ∀ j, j < n → j ≠ q → s j = 0) : us s n = s q := by
  induction n with
  | zero => omega
  | succ n ih =>
    rw [us]
    by_cases e : q = n
    · subst e
      rw [us_congr (t := fun _ => 0) fun j hj => h j (by omega) (by omega), us_zero, zero_ux]
    · rw [ih (by omega) fun j hj hne => h j (by omega) hne, h n (by omega) (by omega), ux_zero]
theorem ud_left {f v : Nat → UInt8} {q n : Nat} (hq : q < n) (h1 : f q = 1) (h : ∀ j, j < n → j ≠ q → f j = 0) : ud f v n = v q := by
  unfold ud
  rw [us_one _ q n hq fun j hj hne => by rw [h j hj hne, zero_um], h1, one_um]
theorem ud_right {f v : Nat → UInt8} {q n : Nat} (hq : q < n) (h1 : v q = 1) (h : ∀ j, j < n → j ≠ q → v j = 0) : ud f v n = f q := by
  rw [ud_comm, ud_left hq h1 h]

/-- The first of n rows, from row i on, whose element in column k isn't 0; else i + n. -/
def ldr (f : Nat → Nat → UInt8) (k i : Nat) : Nat → Nat
  | 0 => i
  | n + 1 => if f i k = 0 then ldr f k (i + 1) n else i
/-- The first row from i on, below r, whose element in column k isn't 0; else r. -/
def lead (f : Nat → Nat → UInt8) (k i r : Nat) : Nat := ldr f k i (r - i)
theorem ldr_at (f : Nat → Nat → UInt8) (k : Nat) : ∀ (n i j : Nat), i ≤ j → j < i + n → (∀ q, i ≤ q → q < j → f q k = 0) → f j k ≠ 0 → ldr f k i n = j
  | 0, i, j, h1, h2, _, _ => by omega
  | n + 1, i, j, h1, h2, h0, h => by
    rw [ldr]
    by_cases e : i = j
    · subst e
      rw [if_neg h]
    · rw [if_pos (h0 i (Nat.le_refl _) (by omega))]
      exact ldr_at f k n (i + 1) j (by omega) (by omega) (fun q hq hq2 => h0 q (by omega) hq2) h
theorem ldr_none (f : Nat → Nat → UInt8) (k : Nat) : ∀ (n i : Nat), (∀ q, i ≤ q → q < i + n → f q k = 0) → ldr f k i n = i + n
  | 0, i, _ => rfl
  | n + 1, i, h0 => by
    rw [ldr, if_pos (h0 i (Nat.le_refl _) (by omega)), ldr_none f k n (i + 1) fun q hq hq2 => h0 q (by omega) (by omega)]
    omega
theorem ldr_spec (f : Nat → Nat → UInt8) (k : Nat) : ∀ (n i : Nat), (∀ q, i ≤ q → q < i + n → f q k = 0) ∨ ∃ j, i ≤ j ∧ j < i + n ∧ (∀ q, i ≤ q → q < j → f q k = 0) ∧ f j k ≠ 0
  | 0, i => .inl fun q h1 h2 => by omega
  | n + 1, i => by
    by_cases h : f i k = 0
    · rcases ldr_spec f k n (i + 1) with g | ⟨j, h1, h2, h3, h4⟩
      · refine .inl fun q h1 h2 => ?_
        by_cases e : q = i
        · subst e; exact h
        · exact g q (by omega) (by omega)
      · refine .inr ⟨j, by omega, by omega, fun q hq hq2 => ?_, h4⟩
        by_cases e : q = i
        · subst e; exact h
        · exact h3 q (by omega) hq2
    · exact .inr ⟨i, Nat.le_refl _, by omega, fun q h1 h2 => by omega, h⟩
theorem lead_at {f : Nat → Nat → UInt8} {k i r j : Nat} (h1 : i ≤ j) (h2 : j < r) (h0 : ∀ q, i ≤ q → q < j → f q k = 0) (h : f j k ≠ 0) : lead f k i r = j := ldr_at f k _ i j h1 (by omega) h0 h
theorem lead_none {f : Nat → Nat → UInt8} {k i r : Nat} (hi : i ≤ r) (h0 : ∀ q, i ≤ q → q < r → f q k = 0) : lead f k i r = r := by
  unfold lead
  rw [ldr_none f k _ i fun q h1 h2 => h0 q h1 (by omega)]
  omega
/-- Either there is none, or there is a first one. -/
theorem lead_spec (f : Nat → Nat → UInt8) (k : Nat) {i r : Nat} (hi : i ≤ r) : (lead f k i r = r ∧ ∀ q, i ≤ q → q < r → f q k = 0) ∨ (i ≤ lead f k i r ∧ lead f k i r < r ∧ f (lead f k i r) k ≠ 0 ∧ ∀ q, i ≤ q → q < lead f k i r → f q k = 0) := by
  rcases ldr_spec f k (r - i) i with g | ⟨j, h1, h2, h3, h4⟩
  · have g' : ∀ q, i ≤ q → q < r → f q k = 0 := fun q h1 h2 => g q h1 (by omega)
    exact .inl ⟨lead_none hi g', g'⟩
  · have e : lead f k i r = j := lead_at h1 (by omega) h3 h4
    exact .inr (by rw [e]; exact ⟨h1, by omega, h4, h3⟩)

/-- Row o, once rows a and i are swapped (o is not a). -/
def swpF (f : Nat → Nat → UInt8) (a i o : Nat) : Nat → UInt8 := if o = i then f a else f o
/-- The row that leads, divided. -/
def pivF (f : Nat → Nat → UInt8) (i k j : Nat) : UInt8 := um (f i j) (ui (f i k))
/-- A column's step: row i to place a, divided; its multiples to all others. -/
def elimF (f : Nat → Nat → UInt8) (a i k o j : Nat) : UInt8 := if o = a then pivF f i k j else swpF f a i o j ^^^ um (pivF f i k j) (swpF f a i o k)
/-- The rank so far, the product of what was divided by, the rows. -/
structure RS where
  rk : Nat
  pr : UInt8
  f : Nat → Nat → UInt8
def stepS (r k : Nat) (s : RS) : RS := if lead s.f k s.rk r < r then ⟨s.rk + 1, um s.pr (s.f (lead s.f k s.rk r) k), elimF s.f s.rk (lead s.f k s.rk r) k⟩ else s
/-- So many columns are brought to steps. -/
def redS (r : Nat) (f : Nat → Nat → UInt8) : Nat → RS
  | 0 => ⟨0, 1, f⟩
  | k + 1 => stepS r k (redS r f k)
theorem stepS_at {r k i : Nat} {s : RS} (h : lead s.f k s.rk r = i) (hi : i < r) : stepS r k s = ⟨s.rk + 1, um s.pr (s.f i k), elimF s.f s.rk i k⟩ := by
  subst h
  unfold stepS
  rw [if_pos hi]
theorem stepS_none {r k : Nat} {s : RS} (h : lead s.f k s.rk r = r) : stepS r k s = s := by
  unfold stepS
  rw [if_neg (by omega)]

/-- What holds behind so many columns; p: where each row's 1 stands. -/
structure SInv (r k : Nat) (s : RS) (p : Nat → Nat) : Prop where
  rk_r : s.rk ≤ r
  rk_k : s.rk ≤ k
  zero : ∀ i j, s.rk ≤ i → i < r → j < k → s.f i j = 0
  lt : ∀ i, i < s.rk → p i < k
  mono : ∀ i, i + 1 < s.rk → p i < p (i + 1)
  one : ∀ i, i < s.rk → s.f i (p i) = 1
  col : ∀ i o, i < s.rk → o < r → o ≠ i → s.f o (p i) = 0
theorem clear_one (x y : UInt8) (h : y ≠ 0) : x ^^^ um (um y (ui y)) x = 0 := by rw [um_ui h, one_um, ux_self]
theorem SInv.step {r k : Nat} {s : RS} {p : Nat → Nat} (h : SInv r k s p) : ∃ p', SInv r (k + 1) (stepS r k s) p' := by
  rcases lead_spec s.f k h.rk_r with ⟨e, hz⟩ | ⟨h1, h2, h3, h4⟩
  · rw [stepS_none e]
    refine ⟨p, h.rk_r, by have := h.rk_k; omega, fun i j hi hr hj => ?_, fun i hi => by have := h.lt i hi; omega, h.mono, h.one, h.col⟩
    by_cases e : j = k
    · subst e
      exact hz i hi hr
    · exact h.zero i j hi hr (by omega)
  · obtain ⟨i, hi⟩ : ∃ i, i = lead s.f k s.rk r := ⟨_, rfl⟩
    rw [stepS_at hi.symm (by omega)]
    rw [← hi] at h1 h2 h3 h4
    have hlt : s.rk < r := by omega
    have sw0 : ∀ o j, s.rk ≤ o → o < r → j < k → swpF s.f s.rk i o j = 0 := fun o j ho hr hj => by
      unfold swpF
      by_cases e : o = i
      · rw [if_pos e]; exact h.zero _ _ (Nat.le_refl _) hlt hj
      · rw [if_neg e]; exact h.zero _ _ ho hr hj
    have pz : ∀ i', i' < s.rk → pivF s.f i k (p i') = 0 := fun i' hi' => by
      unfold pivF
      rw [h.col i' i hi' h2 (by omega), zero_um]
    refine ⟨fun q => if q = s.rk then k else p q, by show s.rk + 1 ≤ r; omega, by show s.rk + 1 ≤ k + 1; have := h.rk_k; omega, fun o j ho hr hj => ?_, fun q hq => ?_, fun q hq => ?_, fun q hq => ?_, fun q o hq ho hne => ?_⟩
    · have ho : s.rk + 1 ≤ o := ho
      show elimF s.f s.rk i k o j = 0
      unfold elimF
      rw [if_neg (by omega)]
      by_cases e : j = k
      · subst e
        exact clear_one _ _ h3
      · rw [sw0 o j (by omega) hr (by omega), zero_ux]
        unfold pivF
        rw [h.zero i j h1 h2 (by omega), zero_um, zero_um]
    · have hq : q < s.rk + 1 := hq
      by_cases e : q = s.rk
      · simp [e]
      · have := h.lt q (by omega)
        simp only [e, if_false]
        omega
    · have hq : q + 1 < s.rk + 1 := hq
      have e1 : q ≠ s.rk := by omega
      by_cases e : q + 1 = s.rk
      · simp only [e1, e, if_false, if_true]
        exact h.lt q (by omega)
      · simp only [e1, e, if_false]
        exact h.mono q (by omega)
    · have hq : q < s.rk + 1 := hq
      show elimF s.f s.rk i k q (if q = s.rk then k else p q) = 1
      unfold elimF
      by_cases e : q = s.rk
      · rw [if_pos e, if_pos e]
        exact um_ui h3
      · rw [if_neg e, if_neg e, pz q (by omega), zero_um, ux_zero]
        unfold swpF
        rw [if_neg (by omega)]
        exact h.one q (by omega)
    · have hq : q < s.rk + 1 := hq
      show elimF s.f s.rk i k o (if q = s.rk then k else p q) = 0
      unfold elimF
      by_cases e : q = s.rk
      · rw [if_pos e, if_neg (by omega)]
        exact clear_one _ _ h3
      · rw [if_neg e, pz q (by omega)]
        by_cases eo : o = s.rk
        · rw [if_pos eo]
        · rw [if_neg eo, zero_um, ux_zero]
          unfold swpF
          by_cases ei : o = i
          · rw [if_pos ei]
            exact h.col q _ (by omega) hlt (by omega)
          · rw [if_neg ei]
            exact h.col q o (by omega) ho hne
theorem redS_inv (r : Nat) (f : Nat → Nat → UInt8) : ∀ k, ∃ p, SInv r k (redS r f k) p
  | 0 => ⟨fun _ => 0, Nat.zero_le _, Nat.le_refl _, fun _ _ _ _ h => absurd h (Nat.not_lt_zero _), fun i h => absurd h (Nat.not_lt_zero _), fun i h => absurd h (Nat.not_lt_zero _), fun i h => absurd h (Nat.not_lt_zero _), fun i o h => absurd h (Nat.not_lt_zero _)⟩
  | k + 1 => by
    obtain ⟨p, h⟩ := redS_inv r f k
    exact h.step
theorem redS_le (r : Nat) (f : Nat → Nat → UInt8) (k : Nat) : (redS r f k).rk ≤ r ∧ (redS r f k).rk ≤ k := by
  obtain ⟨p, h⟩ := redS_inv r f k
  exact ⟨h.rk_r, h.rk_k⟩
/-- The rows from the rank on are noughts. -/
theorem redS_zero {r : Nat} (f : Nat → Nat → UInt8) {k i j : Nat} (h : (redS r f k).rk ≤ i) (hi : i < r) (hj : j < k) : (redS r f k).f i j = 0 := by
  obtain ⟨p, hp⟩ := redS_inv r f k
  exact hp.zero i j h hi hj
/-- Those ahead of it aren't. -/
theorem redS_some {r : Nat} (f : Nat → Nat → UInt8) {k i : Nat} (h : i < (redS r f k).rk) : ∃ j, j < k ∧ (redS r f k).f i j ≠ 0 := by
  obtain ⟨p, hp⟩ := redS_inv r f k
  exact ⟨p i, hp.lt i h, by rw [hp.one i h]; decide⟩
/-- Of whole rank: ones on the diagonal. -/
theorem redS_one {n : Nat} (f : Nat → Nat → UInt8) (h : (redS n f n).rk = n) : EqF n n (redS n f n).f oneF := by
  obtain ⟨p, hp⟩ := redS_inv n f n
  have lo : ∀ i, i < n → i ≤ p i := by
    intro i
    induction i with
    | zero => exact fun _ => Nat.zero_le _
    | succ i ih =>
      intro hi
      have := ih (by omega)
      have := hp.mono i (by omega)
      omega
  have up : ∀ d i, i + d + 1 = n → p i ≤ i := by
    intro d
    induction d with
    | zero =>
      intro i hi
      have := hp.lt i (by omega)
      omega
    | succ d ih =>
      intro i hi
      have := ih (i + 1) (by omega)
      have := hp.mono i (by omega)
      omega
  have pe : ∀ i, i < n → p i = i := fun i hi => Nat.le_antisymm (up (n - 1 - i) i (by omega)) (lo i hi)
  intro i k hi hk
  unfold oneF
  by_cases e : i = k
  · subst e
    rw [if_pos rfl]
    have := hp.one i (by omega)
    rwa [pe i hi] at this
  · rw [if_neg e]
    have := hp.col k i (by omega) hi e
    rwa [pe k hk] at this

/-- The steps hang on what there is alone. -/
theorem lead_congr {f g : Nat → Nat → UInt8} {k i r : Nat} (hi : i ≤ r) (h : ∀ q, q < r → f q k = g q k) : lead f k i r = lead g k i r := by
  rcases lead_spec g k hi with ⟨e, hz⟩ | ⟨h1, h2, h3, h4⟩
  · rw [e]
    exact lead_none hi fun q h1 h2 => by rw [h q h2]; exact hz q h1 h2
  · exact lead_at h1 h2 (fun q hq hq2 => by rw [h q (by omega)]; exact h4 q hq hq2) (by rw [h _ h2]; exact h3)
theorem elimF_congr {r c : Nat} {f g : Nat → Nat → UInt8} {a i k : Nat} (h : EqF r c f g) (ha : a < r) (hi : i < r) (hk : k < c) : EqF r c (elimF f a i k) (elimF g a i k) := by
  intro o j ho hj
  have sw : ∀ j, j < c → swpF f a i o j = swpF g a i o j := fun j hj => by
    unfold swpF
    by_cases e : o = i
    · rw [if_pos e, if_pos e]; exact h a j ha hj
    · rw [if_neg e, if_neg e]; exact h o j ho hj
  have pv : pivF f i k j = pivF g i k j := by unfold pivF; rw [h i j hi hj, h i k hi hk]
  unfold elimF
  rw [sw j hj, sw k hk, pv]
theorem stepS_congr {r c k : Nat} {s t : RS} (hk : k < c) (hr : s.rk ≤ r) (h1 : s.rk = t.rk) (h2 : s.pr = t.pr) (h3 : EqF r c s.f t.f) :
    (stepS r k s).rk = (stepS r k t).rk ∧ (stepS r k s).pr = (stepS r k t).pr ∧ EqF r c (stepS r k s).f (stepS r k t).f := by
  have he : lead s.f k s.rk r = lead t.f k t.rk r := by
    rw [← h1]
    exact lead_congr hr fun q hq => h3 q k hq hk
  rcases lead_spec s.f k hr with ⟨e, hz⟩ | ⟨g1, g2, g3, g4⟩
  · rw [stepS_none e, stepS_none (by rw [← he]; exact e)]
    exact ⟨h1, h2, h3⟩
  · obtain ⟨i, hi⟩ : ∃ i, i = lead s.f k s.rk r := ⟨_, rfl⟩
    rw [stepS_at hi.symm (by omega), stepS_at (i := i) (by rw [← he]; exact hi.symm) (by omega)]
    rw [← hi] at g1 g2
    refine ⟨by show s.rk + 1 = t.rk + 1; omega, by show um s.pr (s.f i k) = um t.pr (t.f i k); rw [h2, h3 i k g2 hk], ?_⟩
    show EqF r c (elimF s.f s.rk i k) (elimF t.f t.rk i k)
    rw [← h1]
    exact elimF_congr h3 (by omega) g2 hk
theorem redS_congr {r c : Nat} {f g : Nat → Nat → UInt8} (h : EqF r c f g) : ∀ k, k ≤ c → (redS r f k).rk = (redS r g k).rk ∧ (redS r f k).pr = (redS r g k).pr ∧ EqF r c (redS r f k).f (redS r g k).f
  | 0, _ => ⟨rfl, rfl, h⟩
  | k + 1, hk => by
    obtain ⟨h1, h2, h3⟩ := redS_congr h k (by omega)
    exact stepS_congr (by omega) (redS_le r f k).1 h1 h2 h3

/-- What a step's rows all come to 0 with, the rows ahead of it come to 0 with, too. -/
theorem ker_step {r k L : Nat} {s : RS} (hr : s.rk ≤ r) (v : Nat → UInt8) (h : ∀ o, o < r → ud ((stepS r k s).f o) v L = 0) : ∀ o, o < r → ud (s.f o) v L = 0 := by
  rcases lead_spec s.f k hr with ⟨e, hz⟩ | ⟨g1, g2, g3, g4⟩
  · rw [stepS_none e] at h
    exact h
  · obtain ⟨i, hi⟩ : ∃ i, i = lead s.f k s.rk r := ⟨_, rfl⟩
    rw [stepS_at hi.symm (by omega)] at h
    rw [← hi] at g1 g2 g3
    have h : ∀ o, o < r → ud (elimF s.f s.rk i k o) v L = 0 := h
    have hp : ud (pivF s.f i k) v L = 0 := by
      have := h s.rk (by omega)
      rwa [show elimF s.f s.rk i k s.rk = pivF s.f i k from funext fun j => by unfold elimF; rw [if_pos rfl]] at this
    have hs : ∀ o, o < r → o ≠ s.rk → ud (swpF s.f s.rk i o) v L = 0 := fun o ho hne => by
      have := h o ho
      rw [show elimF s.f s.rk i k o = fun j => swpF s.f s.rk i o j ^^^ um (pivF s.f i k j) (swpF s.f s.rk i o k) from funext fun j => by unfold elimF; rw [if_neg hne], ud_add, ud_scale, hp, zero_um, ux_zero] at this
      exact this
    have hi0 : ud (s.f i) v L = 0 := by
      have e : ud (pivF s.f i k) v L = um (ud (s.f i) v L) (ui (s.f i k)) := ud_scale _ _ _ _
      rw [hp] at e
      have e2 : um (um (ud (s.f i) v L) (ui (s.f i k))) (s.f i k) = ud (s.f i) v L := by rw [um_assoc, um_comm (ui _), um_ui g3, um_one]
      rw [← e2, ← e, zero_um]
    intro o ho
    by_cases e1 : o = i
    · rw [e1]; exact hi0
    · by_cases e2 : o = s.rk
      · have := hs i g2 (by omega)
        unfold swpF at this
        rw [if_pos rfl] at this
        rw [e2]; exact this
      · have := hs o ho e2
        unfold swpF at this
        rwa [if_neg e1] at this
theorem redS_ker {r L : Nat} (f : Nat → Nat → UInt8) (v : Nat → UInt8) : ∀ k, (∀ o, o < r → ud ((redS r f k).f o) v L = 0) → ∀ o, o < r → ud (f o) v L = 0
  | 0, h => h
  | k + 1, h => redS_ker f v k (ker_step (redS_le r f k).1 v h)

/-- Two matrices side by side. -/
def catF (n : Nat) (a b : Nat → Nat → UInt8) (i j : Nat) : UInt8 := if j < n then a i j else b i (j - n)
theorem catF_left (n : Nat) (a b : Nat → Nat → UInt8) (r : Nat) : EqF r n (catF n a b) a := fun i j _ hj => by unfold catF; rw [if_pos hj]
/-- What stands behind n columns. -/
def offF (n : Nat) (f : Nat → Nat → UInt8) (i j : Nat) : UInt8 := f i (n + j)
/-- What stands behind the ones solves the equations. -/
theorem solve_eq {n m : Nat} (a b : Nat → Nat → UInt8) (h : (redS n (catF n a b) n).rk = n) : EqF n m (mulF n a (offF n (redS n (catF n a b) n).f)) b := by
  intro o q ho hq
  obtain ⟨F, hF⟩ : ∃ F, F = (redS n (catF n a b) n).f := ⟨_, rfl⟩
  obtain ⟨v, hv⟩ : ∃ v : Nat → UInt8, v = fun j => if j < n then F j (n + q) else if j = n + q then 1 else 0 := ⟨_, rfl⟩
  have vr : ∀ f : Nat → UInt8, ud (fun j => f (n + j)) (fun j => v (n + j)) m = f (n + q) := fun f =>
    ud_right (f := fun j => f (n + j)) (v := fun j => v (n + j)) hq (by subst hv; show (if n + q < n then _ else if n + q = n + q then (1 : UInt8) else 0) = 1; rw [if_neg (by omega), if_pos rfl]) (fun j hj hne => by subst hv; show (if n + j < n then _ else if n + j = n + q then (1 : UInt8) else 0) = 0; rw [if_neg (by omega), if_neg (by omega)])
  have vl : ∀ j, j < n → v j = F j (n + q) := fun j hj => by rw [hv]; simp [hj]
  have key := redS_ker (r := n) (L := n + m) (catF n a b) v n fun o ho => by
    rw [← hF, ud_split, vr]
    rw [ud_left (q := o) ho, vl o ho, ux_self]
    · rw [hF, redS_one _ h o o ho ho]; simp [oneF]
    · intro j hj hne
      rw [hF, redS_one _ h o j ho hj]
      unfold oneF
      rw [if_neg (fun e => hne e.symm)]
  have := key o ho
  rw [ud_split, vr] at this
  have := ux_eq this
  rw [show catF n a b o (n + q) = b o q by unfold catF; rw [if_neg (by omega), Nat.add_sub_cancel_left]] at this
  rw [← this, ← hF]
  unfold mulF
  refine ud_congr (fun j hj => ?_) fun j hj => ?_
  · exact (catF_left n a b n o j ho hj).symm
  · rw [vl j hj]
    rfl
end Go.Proofs.Ytcdmljlangbloaa
namespace Go.Proofs.Ytcdmljlangbloaa
set_option linter.unusedVariables false
set_option maxRecDepth 20000

/-- The place of column j once column k is left out. -/
def skp (k j : Nat) : Nat := if j < k then j else j + 1
/-- What is left without the first row and column k. -/
def minF (f : Nat → Nat → UInt8) (k i j : Nat) : UInt8 := f (i + 1) (skp k j)
/-- The determinant, by the first row's elements. -/
def detF : Nat → (Nat → Nat → UInt8) → UInt8
  | 0, _ => 1
  | n + 1, f => us (fun k => um (f 0 k) (detF n (minF f k))) (n + 1)
theorem skp_lt {k j n : Nat} (hj : j < n) : skp k j < n + 1 := by unfold skp; split <;> omega
theorem detF_congr : ∀ {n : Nat} {f g : Nat → Nat → UInt8}, EqF n n f g → detF n f = detF n g
  | 0, _, _, _ => rfl
  | n + 1, f, g, h => by
    rw [detF, detF]
    refine us_congr fun k hk => ?_
    rw [h 0 k (by omega) hk, detF_congr (f := minF f k) (g := minF g k) fun i j hi hj => h (i + 1) _ (by omega) (skp_lt hj)]

/-- Row i is s. -/
def rowF (f : Nat → Nat → UInt8) (i : Nat) (s : Nat → UInt8) (o : Nat) : Nat → UInt8 := if o = i then s else f o
theorem rowF_at (f : Nat → Nat → UInt8) (i : Nat) (s : Nat → UInt8) : rowF f i s i = s := if_pos rfl
theorem rowF_ne (f : Nat → Nat → UInt8) {i o : Nat} (s : Nat → UInt8) (h : o ≠ i) : rowF f i s o = f o := if_neg h
theorem rowF_self (f : Nat → Nat → UInt8) (i : Nat) : rowF f i (f i) = f := by
  funext o
  by_cases e : o = i
  · rw [e, rowF_at]
  · rw [rowF_ne _ _ e]
theorem rowF_two (f : Nat → Nat → UInt8) (i : Nat) (s t : Nat → UInt8) : rowF (rowF f i s) i t = rowF f i t := by
  funext o
  by_cases e : o = i
  · rw [e, rowF_at, rowF_at]
  · rw [rowF_ne _ _ e, rowF_ne _ _ e, rowF_ne _ _ e]
theorem rowF_comm (f : Nat → Nat → UInt8) {i j : Nat} (h : i ≠ j) (s t : Nat → UInt8) : rowF (rowF f i s) j t = rowF (rowF f j t) i s := by
  funext o
  by_cases e : o = i
  · have e2 : o ≠ j := by omega
    rw [rowF_ne _ _ e2, e, rowF_at, rowF_at]
  · by_cases e2 : o = j
    · rw [rowF_ne _ _ e, e2, rowF_at, rowF_at]
    · rw [rowF_ne _ _ e2, rowF_ne _ _ e, rowF_ne _ _ e, rowF_ne _ _ e2]
theorem min_row0 (f : Nat → Nat → UInt8) (s : Nat → UInt8) (k : Nat) : minF (rowF f 0 s) k = minF f k := by
  funext i j
  unfold minF
  rw [rowF_ne _ _ (by omega)]
theorem min_row (f : Nat → Nat → UInt8) (i : Nat) (s : Nat → UInt8) (k : Nat) : minF (rowF f (i + 1) s) k = rowF (minF f k) i fun j => s (skp k j) := by
  funext o j
  unfold minF
  by_cases e : o = i
  · rw [e, rowF_at, rowF_at]
  · rw [rowF_ne _ _ e, rowF_ne _ _ (by omega)]

/-- Each row counts by itself: sums. -/
theorem det_add : ∀ (n : Nat) (f : Nat → Nat → UInt8) (i : Nat) (s t : Nat → UInt8), i < n → detF n (rowF f i fun j => s j ^^^ t j) = detF n (rowF f i s) ^^^ detF n (rowF f i t)
  | 0, _, _, _, _, h => absurd h (Nat.not_lt_zero _)
  | n + 1, f, 0, s, t, _ => by
    rw [detF, detF, detF, ← us_xor]
    refine us_congr fun k _ => ?_
    rw [min_row0, min_row0, min_row0, rowF_at, rowF_at, rowF_at, um_xor_left]
  | n + 1, f, i + 1, s, t, h => by
    rw [detF, detF, detF, ← us_xor]
    refine us_congr fun k _ => ?_
    rw [min_row, min_row, min_row, rowF_ne _ _ (by omega), rowF_ne _ _ (by omega), rowF_ne _ _ (by omega), ← um_xor_right]
    rw [det_add n (minF f k) i (fun j => s (skp k j)) (fun j => t (skp k j)) (by omega)]
/-- Each row counts by itself: multiples. -/
theorem det_mul : ∀ (n : Nat) (f : Nat → Nat → UInt8) (i : Nat) (s : Nat → UInt8) (x : UInt8), i < n → detF n (rowF f i fun j => um (s j) x) = um (detF n (rowF f i s)) x
  | 0, _, _, _, _, h => absurd h (Nat.not_lt_zero _)
  | n + 1, f, 0, s, x, _ => by
    rw [detF, detF, us_um]
    refine us_congr fun k _ => ?_
    rw [min_row0, min_row0, rowF_at, rowF_at, um_assoc, um_assoc, um_comm x]
  | n + 1, f, i + 1, s, x, h => by
    rw [detF, detF, us_um]
    refine us_congr fun k _ => ?_
    rw [min_row, min_row, rowF_ne _ _ (by omega), rowF_ne _ _ (by omega), um_assoc]
    rw [det_mul n (minF f k) i (fun j => s (skp k j)) x (by omega)]

/-- Two columns left out, in either order. -/
theorem skp_skp {k l : Nat} (h : k ≤ l) (j : Nat) : skp k (skp l j) = skp (l + 1) (skp k j) := by
  unfold skp
  by_cases h1 : j < k
  · rw [if_pos (by omega : j < l), if_pos h1, if_pos (by omega)]
  · rw [if_neg h1]
    by_cases h2 : j < l
    · rw [if_pos h2, if_neg h1, if_pos (by omega)]
    · rw [if_neg h2, if_neg (by omega), if_neg (by omega)]
/-- The first two rows' elements. -/
theorem det_two (n : Nat) (f : Nat → Nat → UInt8) : detF (n + 2) f = us (fun k => us (fun l => um (um (f 0 k) (f 1 (skp k l))) (detF n (minF (minF f k) l))) (n + 1)) (n + 2) := by
  rw [detF]
  refine us_congr fun k _ => ?_
  rw [detF, um_us]
  refine us_congr fun l _ => ?_
  rw [um_assoc]
  rfl
theorem us_shift (s : Nat → UInt8) (n : Nat) : us s (n + 1) = s 0 ^^^ us (fun j => s (j + 1)) n := by
  have := us_split s 1 n
  rw [Nat.add_comm 1 n] at this
  rw [this]
  congr 1
  · show us s 0 ^^^ s 0 = s 0
    exact zero_ux _
  · exact us_congr fun j _ => by rw [Nat.add_comm]
theorem us_if (p : Nat → Prop) [DecidablePred p] (s : Nat → UInt8) (n : Nat) : us s n = us (fun j => if p j then s j else 0) n ^^^ us (fun j => if p j then 0 else s j) n := by
  rw [← us_xor]
  refine us_congr fun j _ => ?_
  by_cases e : p j
  · rw [if_pos e, if_pos e, ux_zero]
  · rw [if_neg e, if_neg e, zero_ux]
/-- A sum over unlike pairs in which each comes as the other's twin is nought. -/
theorem us_twins (t : Nat → Nat → UInt8) (n : Nat) (h : ∀ k l, k ≤ l → t k l = t (l + 1) k) : us (fun k => us (fun l => t k l) (n + 1)) (n + 2) = 0 := by
  have e : us (fun k => us (fun l => t k l) (n + 1)) (n + 2) = us (fun k => us (fun l => if k ≤ l then t k l else 0) (n + 1)) (n + 2) ^^^ us (fun k => us (fun l => if k ≤ l then 0 else t k l) (n + 1)) (n + 2) := by
    rw [← us_xor]
    exact us_congr fun k _ => us_if (fun l => k ≤ l) _ _
  have e1 : us (fun k => us (fun l => if k ≤ l then t k l else 0) (n + 1)) (n + 2) = us (fun k => us (fun l => if k ≤ l then t k l else 0) (n + 1)) (n + 1) := by
    show _ ^^^ us (fun l => if n + 1 ≤ l then t (n + 1) l else 0) (n + 1) = _
    rw [us_congr (t := fun _ => 0) fun l hl => if_neg (by omega), us_zero, ux_zero]
  have e2 : us (fun k => us (fun l => if k ≤ l then 0 else t k l) (n + 1)) (n + 2) = us (fun k => us (fun l => if k ≤ l then t k l else 0) (n + 1)) (n + 1) := by
    rw [us_shift, us_congr (n := n + 1) (t := fun _ => 0) fun l hl => if_pos (by omega), us_zero, zero_ux]
    rw [us_swap]
    refine us_congr fun k _ => us_congr fun l _ => ?_
    by_cases hk : k ≤ l
    · rw [if_neg (by omega), if_pos hk, h k l hk]
    · rw [if_pos (by omega), if_neg hk]
  rw [e, e1, e2, ux_self]
theorem det_same01 (n : Nat) (f : Nat → Nat → UInt8) (h : f 0 = f 1) : detF (n + 2) f = 0 := by
  rw [det_two]
  refine us_twins _ n fun k l hkl => ?_
  rw [h]
  have e1 : skp k l = l + 1 := by unfold skp; rw [if_neg (by omega)]
  have e2 : skp (l + 1) k = k := by unfold skp; rw [if_pos (by omega)]
  rw [e1, e2, um_comm (f 1 k)]
  congr 2
  funext i j
  unfold minF
  rw [skp_skp hkl]

/-- Of a pair of rows that make nought when alike, swapping is no matter. -/
theorem det_swap_of {n : Nat} {i j : Nat} (hi : i < n) (hj : j < n) (hne : i ≠ j) (h0 : ∀ f : Nat → Nat → UInt8, f i = f j → detF n f = 0) (f : Nat → Nat → UInt8) (a b : Nat → UInt8) :
    detF n (rowF (rowF f i a) j b) = detF n (rowF (rowF f i b) j a) := by
  have hz : ∀ s, detF n (rowF (rowF f i s) j s) = 0 := fun s => h0 _ (by rw [rowF_at, rowF_ne _ _ hne, rowF_at])
  have e : detF n (rowF (rowF f i fun q => a q ^^^ b q) j fun q => a q ^^^ b q) = (detF n (rowF (rowF f i a) j a) ^^^ detF n (rowF (rowF f i a) j b)) ^^^ (detF n (rowF (rowF f i b) j a) ^^^ detF n (rowF (rowF f i b) j b)) := by
    rw [rowF_comm _ hne, det_add n _ i _ _ hi, rowF_comm _ (Ne.symm hne), rowF_comm _ (Ne.symm hne), det_add n _ j _ _ hj, det_add n _ j _ _ hj]
  rw [hz, hz, hz, zero_ux, ux_zero] at e
  exact ux_eq e.symm
/-- Two rows alike: nought. -/
theorem det_same : ∀ (n : Nat) (f : Nat → Nat → UInt8) (i j : Nat), i < j → j < n → f i = f j → detF n f = 0
  | 0, _, _, _, _, h, _ => absurd h (Nat.not_lt_zero _)
  | n + 1, f, i + 1, j, hij, hj, h => by
    obtain ⟨j', rfl⟩ : ∃ j', j = j' + 1 := ⟨j - 1, by omega⟩
    rw [detF, us_congr (t := fun _ => 0) fun k _ => ?_, us_zero]
    rw [det_same n (minF f k) i j' (by omega) (by omega) (by funext q; unfold minF; rw [h]), um_zero]
  | n + 1, f, 0, j, hij, hj, h => by
    obtain ⟨m, rfl⟩ : ∃ m, n = m + 1 := ⟨n - 1, by omega⟩
    by_cases e : j = 1
    · subst e
      exact det_same01 m f h
    · have low : ∀ g : Nat → Nat → UInt8, g 1 = g j → detF (m + 2) g = 0 := fun g hg => by
        obtain ⟨j', rfl⟩ : ∃ j', j = j' + 1 := ⟨j - 1, by omega⟩
        rw [detF, us_congr (t := fun _ => 0) fun k _ => ?_, us_zero]
        rw [det_same (m + 1) (minF g k) 0 j' (by omega) (by omega) (by funext q; unfold minF; rw [show 0 + 1 = 1 from rfl, hg]), um_zero]
      have sw := det_swap_of (n := m + 2) (i := 1) (j := j) (by omega) hj (by omega) low f (f 1) (f j)
      rw [rowF_self, rowF_self] at sw
      rw [sw]
      refine det_same01 m _ ?_
      rw [rowF_ne _ _ (by omega), rowF_ne _ _ (by omega), rowF_ne _ _ (by omega), rowF_at, h]
theorem det_alike {n : Nat} {f : Nat → Nat → UInt8} {i j : Nat} (hi : i < n) (hj : j < n) (hne : i ≠ j) (h : f i = f j) : detF n f = 0 := by
  rcases Nat.lt_or_ge i j with g | g
  · exact det_same n f i j g hj h
  · exact det_same n f j i (by omega) hi h.symm
theorem det_swap {n : Nat} {i j : Nat} (hi : i < n) (hj : j < n) (hne : i ≠ j) (f : Nat → Nat → UInt8) : detF n (rowF (rowF f i (f j)) j (f i)) = detF n f := by
  rw [det_swap_of hi hj hne (fun g hg => det_alike hi hj hne hg) f (f j) (f i), rowF_self, rowF_self]
/-- Another row's multiple added: no matter. -/
theorem det_addto {n : Nat} {i j : Nat} (hi : i < n) (hj : j < n) (hne : i ≠ j) (f : Nat → Nat → UInt8) (x : UInt8) : detF n (rowF f i fun q => f i q ^^^ um (f j q) x) = detF n f := by
  rw [det_add n f i _ _ hi, rowF_self, det_mul n f i _ x hi, det_alike (f := rowF f i (f j)) hi hj hne (by rw [rowF_at, rowF_ne _ _ (Ne.symm hne)]), zero_um, ux_zero]
theorem det_zero {n i : Nat} (hi : i < n) (f : Nat → Nat → UInt8) (h : ∀ j, j < n → f i j = 0) : detF n f = 0 := by
  have e : detF n f = detF n (rowF f i fun j => um (f i j) 0) := detF_congr fun o j ho hj => by
    by_cases e : o = i
    · rw [e, rowF_at, h j hj, um_zero]
    · rw [rowF_ne _ _ e]
  rw [e, det_mul n f i _ 0 hi, um_zero]
theorem det_one : ∀ n, detF n oneF = 1
  | 0 => rfl
  | n + 1 => by
    rw [detF, us_one _ 0 (n + 1) (by omega) fun j _ hne => by rw [show oneF 0 j = 0 from if_neg (Ne.symm hne), zero_um]]
    rw [show oneF 0 0 = 1 from if_pos rfl, one_um, ← det_one n]
    congr 1
    funext i j
    unfold minF skp oneF
    rw [if_neg (by omega : ¬ j < 0)]
    by_cases e : i = j
    · rw [if_pos e, if_pos (by omega)]
    · rw [if_neg e, if_neg (by omega)]

/-- The first q rows are cleared by row a's multiples. -/
def clrF (f : Nat → Nat → UInt8) (a : Nat) (m : Nat → UInt8) (q o j : Nat) : UInt8 := if o < q ∧ o ≠ a then f o j ^^^ um (f a j) (m o) else f o j
theorem det_clear {n a : Nat} (m : Nat → UInt8) (ha : a < n) (f : Nat → Nat → UInt8) : ∀ q, q ≤ n → detF n (clrF f a m q) = detF n f
  | 0, _ => detF_congr fun o j _ _ => by unfold clrF; rw [if_neg (by omega)]
  | q + 1, hq => by
    rw [← det_clear m ha f q (by omega)]
    by_cases e : q = a
    · refine detF_congr fun o j _ _ => ?_
      unfold clrF
      by_cases h1 : o < q ∧ o ≠ a
      · rw [if_pos h1, if_pos (by omega)]
      · rw [if_neg h1, if_neg (by omega)]
    · rw [← det_addto (i := q) (j := a) (by omega) ha e (clrF f a m q) (m q)]
      refine detF_congr fun o j _ _ => ?_
      by_cases eo : o = q
      · subst eo
        rw [rowF_at]
        unfold clrF
        rw [if_pos ⟨by omega, e⟩, if_neg (by omega), if_neg (by omega)]
      · rw [rowF_ne _ _ eo]
        unfold clrF
        by_cases h1 : o < q ∧ o ≠ a
        · rw [if_pos h1, if_pos (by omega)]
        · rw [if_neg h1, if_neg (by omega)]
/-- A column's step, with any multiples. -/
def elimG (f : Nat → Nat → UInt8) (a i : Nat) (x : UInt8) (m : Nat → UInt8) (o j : Nat) : UInt8 := if o = a then um (f i j) x else swpF f a i o j ^^^ um (um (f i j) x) (m o)
/-- What it does to the determinant. -/
theorem det_elim {n a i : Nat} {x y : UInt8} (ha : a < n) (hi : i < n) (f : Nat → Nat → UInt8) (m : Nat → UInt8) (hx : um x y = 1) : um (detF n (elimG f a i x m)) y = detF n f := by
  obtain ⟨g, hg⟩ : ∃ g, g = rowF (rowF f i (f a)) a (f i) := ⟨_, rfl⟩
  have dg : detF n g = detF n f := by
    rw [hg]
    by_cases e : a = i
    · subst e
      rw [rowF_two, rowF_self]
    · exact det_swap (i := i) (j := a) hi ha (Ne.symm e) f
  have ga : g a = f i := by rw [hg, rowF_at]
  have go : ∀ o, o ≠ a → g o = swpF f a i o := fun o ho => by
    rw [hg, rowF_ne _ _ ho]
    unfold swpF
    by_cases e : o = i
    · rw [if_pos e, e, rowF_at]
    · rw [if_neg e, rowF_ne _ _ e]
  have e : EqF n n (elimG f a i x m) (clrF (rowF g a fun j => um (g a j) x) a m n) := fun o j ho hj => by
    unfold elimG clrF
    by_cases eo : o = a
    · subst eo
      rw [if_pos rfl, if_neg (by omega), rowF_at, ga]
    · rw [if_neg eo, if_pos ⟨ho, eo⟩, rowF_ne _ _ eo, rowF_at, go o eo, ga]
  rw [detF_congr e, det_clear m ha _ n (Nat.le_refl _), det_mul n g a _ _ ha, rowF_self, um_assoc, hx, um_one, dg]
theorem elim_G (f : Nat → Nat → UInt8) (a i k : Nat) : elimF f a i k = elimG f a i (ui (f i k)) fun o => swpF f a i o k := rfl
/-- Steps of a factor's rows are steps of the product's. -/
theorem mul_G {n a i : Nat} (f b : Nat → Nat → UInt8) (x : UInt8) (m : Nat → UInt8) : mulF n (elimG f a i x m) b = elimG (mulF n f b) a i x m := by
  funext o j
  unfold mulF
  by_cases e : o = a
  · rw [show elimG f a i x m o = fun j => um (f i j) x from funext fun j => by unfold elimG; rw [if_pos e], ud_scale]
    unfold elimG
    rw [if_pos e]
  · rw [show elimG f a i x m o = fun j => swpF f a i o j ^^^ um (um (f i j) x) (m o) from funext fun j => by unfold elimG; rw [if_neg e], ud_add, ud_scale, ud_scale]
    unfold elimG
    rw [if_neg e]
    congr 1
    unfold swpF
    by_cases e2 : o = i
    · rw [if_pos e2, if_pos e2]
    · rw [if_neg e2, if_neg e2]
/-- Determinants through a step, and through all. -/
theorem step_det {n k : Nat} {s : RS} (hr : s.rk ≤ n) (f b : Nat → Nat → UInt8) (h1 : um (detF n s.f) s.pr = detF n f) (h2 : um (detF n (mulF n s.f b)) s.pr = detF n (mulF n f b)) (h3 : s.pr ≠ 0) :
    um (detF n (stepS n k s).f) (stepS n k s).pr = detF n f ∧ um (detF n (mulF n (stepS n k s).f b)) (stepS n k s).pr = detF n (mulF n f b) ∧ (stepS n k s).pr ≠ 0 := by
  rcases lead_spec s.f k hr with ⟨e, hz⟩ | ⟨g1, g2, g3, g4⟩
  · rw [stepS_none e]
    exact ⟨h1, h2, h3⟩
  · obtain ⟨i, hi⟩ : ∃ i, i = lead s.f k s.rk n := ⟨_, rfl⟩
    rw [stepS_at hi.symm (by omega)]
    rw [← hi] at g1 g2 g3
    have hx : um (ui (s.f i k)) (s.f i k) = 1 := by rw [um_comm, um_ui g3]
    refine ⟨?_, ?_, um_ne h3 g3⟩
    · show um (detF n (elimF s.f s.rk i k)) (um s.pr (s.f i k)) = _
      rw [um_comm s.pr, ← um_assoc, elim_G, det_elim (by omega) g2 _ _ hx, h1]
    · show um (detF n (mulF n (elimF s.f s.rk i k) b)) (um s.pr (s.f i k)) = _
      rw [um_comm s.pr, ← um_assoc, elim_G, mul_G, det_elim (by omega) g2 _ _ hx, h2]
theorem redS_det (n : Nat) (f b : Nat → Nat → UInt8) : ∀ k, um (detF n (redS n f k).f) (redS n f k).pr = detF n f ∧ um (detF n (mulF n (redS n f k).f b)) (redS n f k).pr = detF n (mulF n f b) ∧ (redS n f k).pr ≠ 0
  | 0 => ⟨um_one _, um_one _, by show (1 : UInt8) ≠ 0; decide⟩
  | k + 1 => by
    obtain ⟨h1, h2, h3⟩ := redS_det n f b k
    exact step_det (redS_le n f k).1 f b h1 h2 h3
/-- What the program answers. -/
def detP (n : Nat) (f : Nat → Nat → UInt8) : UInt8 := if (redS n f n).rk < n then 0 else (redS n f n).pr
theorem detP_eq (n : Nat) (f : Nat → Nat → UInt8) : detP n f = detF n f := by
  obtain ⟨h1, _, h3⟩ := redS_det n f f n
  unfold detP
  by_cases h : (redS n f n).rk < n
  · rw [if_pos h, ← h1, det_zero (i := n - 1) (by omega) _ fun j hj => redS_zero f (by omega) (by omega) hj, zero_um]
  · rw [if_neg h, ← h1]
    have e : (redS n f n).rk = n := by have := (redS_le n f n).1; omega
    rw [detF_congr (redS_one f e), det_one, one_um]
/-- It isn't nought just if the rank is whole. -/
theorem detP_ne (n : Nat) (f : Nat → Nat → UInt8) : detP n f ≠ 0 ↔ (redS n f n).rk = n := by
  obtain ⟨_, _, h3⟩ := redS_det n f f n
  have hle := (redS_le n f n).1
  unfold detP
  by_cases h : (redS n f n).rk < n
  · rw [if_pos h]
    exact ⟨fun g => absurd rfl g, fun g => by omega⟩
  · rw [if_neg h]
    exact ⟨fun _ => by omega, fun _ => h3⟩
/-- A product's determinant. -/
theorem det_prod (n : Nat) (f b : Nat → Nat → UInt8) : detF n (mulF n f b) = um (detF n f) (detF n b) := by
  obtain ⟨h1, h2, h3⟩ := redS_det n f b n
  by_cases h : (redS n f n).rk < n
  · rw [← h1, ← h2, det_zero (n := n) (i := n - 1) (by omega) (redS n f n).f (fun j hj => redS_zero f (by omega) (by omega) hj)]
    rw [det_zero (n := n) (i := n - 1) (by omega) (mulF n (redS n f n).f b) (fun j hj => ?_), zero_um, zero_um]
    unfold mulF
    rw [ud_congr (f' := fun _ => 0) (g' := fun l => b l j) (fun l hl => redS_zero f (by omega) (by omega) hl) (fun _ _ => rfl)]
    unfold ud
    rw [us_congr (t := fun _ => 0) fun l _ => zero_um _, us_zero]
  · have e : (redS n f n).rk = n := by have := (redS_le n f n).1; omega
    have hb : EqF n n (mulF n (redS n f n).f b) b := fun i j hi hj => by
      unfold mulF
      rw [ud_left (q := i) hi]
      · rw [redS_one f e i i hi hi]; exact if_pos rfl
      · intro l hl hne
        rw [redS_one f e i l hi hl]
        exact if_neg (Ne.symm hne)
    rw [← h1, ← h2, detF_congr hb, detF_congr (redS_one f e), det_one, one_um, um_comm]
end Go.Proofs.Ytcdmljlangbloaa
namespace Go.Proofs.Ytcdmljlangbloaa
open Go.RowKit
set_option linter.unusedVariables false
set_option maxRecDepth 20000

/-- One value is set. -/
def upd {α : Type} (h : Nat → α) (i : Nat) (x : α) (j : Nat) : α := if j = i then x else h j
theorem upd_at {α : Type} (h : Nat → α) (i : Nat) (x : α) : upd h i x i = x := if_pos rfl
theorem upd_ne {α : Type} (h : Nat → α) {i j : Nat} (x : α) (e : j ≠ i) : upd h i x j = h j := if_neg e
theorem upd_self {α : Type} (h : Nat → α) (i : Nat) : upd h i (h i) = h := by
  funext j
  by_cases e : j = i
  · rw [e, upd_at]
  · rw [upd_ne _ _ e]

theorem Own.block {w : World} {base b L c : Nat} {bs : List UInt8} (h : Own w base 5 (.slice (some ⟨b, 0, none⟩) L c) bs) :
    ∃ cur : Array Value, w.heap[b]? = some (.cells cur 5 (0, 0)) ∧ L = bs.length ∧ L ≤ c ∧ c ≤ maxLen ∧ cur.size = c ∧ base ≤ b ∧ ∀ (k : Nat) x, bs[k]? = some x → cur[k]? = some (bv x) := by
  have hl := h.len
  rcases h.2 with ⟨e, _⟩ | ⟨g, cap, cur, e, hb, hg, h1, h2, h3, ht⟩
  · cases e
  · injection e with e1 e2 e3
    injection e1 with e1
    injection e1 with e1
    subst e1 e3
    refine ⟨cur, hg, hl, by omega, h2, by omega, hb, fun k x hk => ?_⟩
    have hkl : k < bs.length := (List.getElem?_eq_some_iff.1 hk).1
    have h4 : (cur.toList.take (bs.length * 1))[k]? = (bs.map bv)[k]? := by rw [ht]
    rw [List.getElem?_take, if_pos (by omega), Array.getElem?_toList, List.getElem?_map, hk] at h4
    exact h4
theorem Own.mk {w : World} {base b L c : Nat} {bs : List UInt8} {cur : Array Value} (hg : w.heap[b]? = some (.cells cur 5 (0, 0))) (hl : L = bs.length) (h1 : L ≤ c) (h2 : c ≤ maxLen) (h3 : cur.size = c) (hb : base ≤ b) (hx : ∀ (k : Nat) x, bs[k]? = some x → cur[k]? = some (bv x)) :
    Own w base 5 (.slice (some ⟨b, 0, none⟩) L c) bs := by
  refine ⟨by simp, .inr ⟨b, c, cur, by rw [hl], hb, hg, by omega, h2, by omega, ?_⟩⟩
  apply List.ext_getElem?
  intro k
  rw [List.getElem?_take, List.getElem?_map]
  by_cases e : k < bs.length
  · rw [if_pos (by omega), Array.getElem?_toList, hx k _ (List.getElem?_eq_getElem e), List.getElem?_eq_getElem e]
    rfl
  · rw [if_neg (by omega), List.getElem?_eq_none (by omega)]
    rfl
theorem Own.some_ {w : World} {base : Nat} {v : Value} {bs : List UInt8} (h : Own w base 5 v bs) (hn : 0 < bs.length) : ∃ b c, v = .slice (some ⟨b, 0, none⟩) bs.length c ∧ base ≤ b ∧ b < w.heap.size := by
  rcases h.2 with ⟨e, hz⟩ | ⟨g, cap, cur, e, hb, hg, _⟩
  · omega
  · exact ⟨g, cap, e, hb, (Array.getElem?_eq_some_iff.1 hg).1⟩

section
variable {w w1 : World} {base b L c : Nat} {s : Nat → UInt8} {S : Nat → Prop}
/-- A row of the call's own, of L bytes. -/
def RowAt (w : World) (base b L c : Nat) (s : Nat → UInt8) : Prop := Own w base 5 (.slice (some ⟨b, 0, none⟩) L c) (rowL L s)
theorem RowAt.cell (h : RowAt w base b L c s) {k : Nat} (hk : k < L) : w.cell? ⟨b, k, none⟩ = some (.int .u8 ((s k).toNat : Int)) := by
  obtain ⟨cur, h1, _, _, _, _, _, h2⟩ := Own.block h
  rw [cell_of_row w b k _ _ _ h1, h2 k _ (rowL_get s hk)]
  rfl
theorem RowAt.frozen (h : RowAt w base b L c s) (k : Nat) : w.frozen? ⟨b, k, none⟩ = false := by
  obtain ⟨cur, h1, _⟩ := Own.block h
  exact frozen_of_row w b k _ _ h1
theorem RowAt.eq {t : Nat → UInt8} (h : RowAt w base b L c s) (he : ∀ k, k < L → s k = t k) : RowAt w base b L c t := by
  have e : rowL L s = rowL L t := List.map_congr_left fun k hk => he k (List.mem_range.1 hk)
  unfold RowAt
  rw [← e]
  exact h
theorem RowAt.set (h : RowAt w base b L c s) {k : Nat} (hk : k < L) (x : UInt8) (v : Value) (hv : v = bv x) : RowAt (w.setCell ⟨b, k, none⟩ v) base b L c (upd s k x) := by
  subst hv
  obtain ⟨cur, h1, h2, h3, h4, h5, h6, h7⟩ := Own.block h
  refine Own.mk (cur := cur.setIfInBounds k (bv x)) (heap_setCell_same w b k cur _ _ h1) (by rw [rowL_len]) h3 h4 (by rw [Array.size_setIfInBounds]; exact h5) h6 fun j y hj => ?_
  have hjl : j < L := by have := (List.getElem?_eq_some_iff.1 hj).1; rwa [rowL_len] at this
  rw [rowL_get _ hjl] at hj
  injection hj with hj
  subst hj
  rw [Array.getElem?_setIfInBounds]
  unfold upd
  by_cases e : k = j
  · subst e
    rw [if_pos rfl, if_pos (by omega), if_pos rfl]
  · rw [if_neg e, if_neg (fun e' => e e'.symm)]
    exact h7 j _ (rowL_get s hjl)
theorem RowAt.kpset (b k : Nat) (v : Value) (w : World) : Kp (fun q => q = b) w (w.setCell ⟨b, k, none⟩ v) := Kp.setCell (p := ⟨b, k, none⟩) (S := fun q => q = b) rfl v
theorem RowAt.keep (h : RowAt w base b L c s) (hk : Kp S w w1) (hS : ¬ S b) : RowAt w1 base b L c s := Own.keep h hk fun k hk e => by
  injection hk with hk
  subst hk
  exact hS e
theorem RowAt.no (h : RowAt w base b L c s) (hk : Kp No w w1) : RowAt w1 base b L c s := h.keep hk fun f => f
theorem RowAt.bts (h : RowAt w base b L c s) : Bts w (.slice (some ⟨b, 0, none⟩) L c) (rowL L s) := Own.bts h

/-- The block g holds so many slices. -/
def Outer (w : World) (g n : Nat) (hv : Nat → Value) : Prop := ∃ cur : Array Value, w.heap[g]? = some (.cells cur 38 (0, 0)) ∧ ∀ j, j < n → cur[j]? = some (hv j)
theorem Outer.cell {g n : Nat} {hv : Nat → Value} (h : Outer w g n hv) {j : Nat} (hj : j < n) : w.cell? ⟨g, j, none⟩ = some (hv j) := by
  obtain ⟨cur, h1, h2⟩ := h
  rw [cell_of_row w g j _ _ _ h1, h2 j hj]
theorem Outer.frozen {g n : Nat} {hv : Nat → Value} (h : Outer w g n hv) (j : Nat) : w.frozen? ⟨g, j, none⟩ = false := by
  obtain ⟨cur, h1, h2⟩ := h
  exact frozen_of_row w g j _ _ h1
theorem Outer.keep {g n : Nat} {hv : Nat → Value} (h : Outer w g n hv) (hk : Kp S w w1) (hS : ¬ S g) : Outer w1 g n hv := by
  obtain ⟨cur, h1, h2⟩ := h
  exact ⟨cur, by rw [hk.block g (Array.getElem?_eq_some_iff.1 h1).1 hS]; exact h1, h2⟩
theorem Outer.lt {g n : Nat} {hv : Nat → Value} (h : Outer w g n hv) : g < w.heap.size := by
  obtain ⟨cur, h1, h2⟩ := h
  exact (Array.getElem?_eq_some_iff.1 h1).1
theorem Outer.set {g n : Nat} {hv : Nat → Value} (h : Outer w g n hv) {i : Nat} (hi : i < n) (v : Value) : Outer (w.setCell ⟨g, i, none⟩ v) g n (upd hv i v) := by
  obtain ⟨cur, h1, h2⟩ := h
  have hsz : i < cur.size := (Array.getElem?_eq_some_iff.1 (h2 i hi)).1
  refine ⟨cur.setIfInBounds i v, heap_setCell_same w g i cur _ _ h1, fun j hj => ?_⟩
  rw [Array.getElem?_setIfInBounds]
  unfold upd
  by_cases e : i = j
  · subst e
    rw [if_pos rfl, if_pos hsz, if_pos rfl]
  · rw [if_neg e, if_neg (fun e' => e e'.symm)]
    exact h2 j hj
theorem Outer.eq {g n : Nat} {hv hv' : Nat → Value} (h : Outer w g n hv) (he : ∀ j, j < n → hv j = hv' j) : Outer w g n hv' := by
  obtain ⟨cur, h1, h2⟩ := h
  exact ⟨cur, h1, fun j hj => by rw [← he j hj]; exact h2 j hj⟩
theorem outer_ne {g n : Nat} {hv : Nat → Value} {v : Value} {bs : List UInt8} (h : Outer w g n hv) (ho : Own w base 5 v bs) : v.ownBlock ≠ some g := by
  intro hv'
  obtain ⟨cur, h1, _⟩ := h
  rcases ho.2 with ⟨rfl, _⟩ | ⟨b, cap', cur', rfl, _, hg', _⟩
  · simp [Value.ownBlock] at hv'
  · simp only [Value.ownBlock, Option.some.injEq] at hv'
    subst hv'
    rw [h1] at hg'
    simp only [Option.some.injEq, Obj.cells.injEq] at hg'
    exact absurd hg'.2.1 (by decide)

/-- The block g holds so many rows, each of the call's own. -/
structure Grd (w : World) (base g n : Nat) (hv : Nat → Value) (bs : Nat → List UInt8) : Prop where
  out : Outer w g n hv
  row : ∀ j, j < n → Own w base 5 (hv j) (bs j)
  bas : base ≤ g
/-- No two rows are one. -/
def InjV (n : Nat) (hv : Nat → Value) : Prop := ∀ i j, i < n → j < n → (hv i).ownBlock = (hv j).ownBlock → i = j
variable {g n : Nat} {hv : Nat → Value} {bs : Nat → List UInt8}
theorem Grd.keep (h : Grd w base g n hv bs) (hk : Kp S w w1) (hg : ¬ S g) (hb : ∀ j k, j < n → (hv j).ownBlock = some k → ¬ S k) : Grd w1 base g n hv bs :=
  ⟨h.out.keep hk hg, fun j hj => (h.row j hj).keep hk fun k hk => hb j k hj hk, h.bas⟩
theorem Grd.no (h : Grd w base g n hv bs) (hk : Kp No w w1) : Grd w1 base g n hv bs := h.keep hk (fun f => f) fun _ _ _ _ f => f
theorem Grd.eq {bs' : Nat → List UInt8} (h : Grd w base g n hv bs) (he : ∀ j, j < n → bs j = bs' j) : Grd w base g n hv bs' := ⟨h.out, fun j hj => by rw [← he j hj]; exact h.row j hj, h.bas⟩
theorem Grd.eqV {hv' : Nat → Value} (h : Grd w base g n hv bs) (he : ∀ j, j < n → hv j = hv' j) : Grd w base g n hv' bs := ⟨h.out.eq he, fun j hj => by rw [← he j hj]; exact h.row j hj, h.bas⟩
/-- A row is put at place i. -/
theorem Grd.put (h : Grd w base g n hv bs) {i : Nat} (hi : i < n) {v : Value} {l : List UInt8} (ho : Own w base 5 v l) : Grd (w.setCell ⟨g, i, none⟩ v) base g n (upd hv i v) (upd bs i l) := by
  have hk : Kp (fun q => q = g) w (w.setCell ⟨g, i, none⟩ v) := Kp.setCell (p := ⟨g, i, none⟩) (S := fun q => q = g) rfl v
  refine ⟨h.out.set hi v, fun j hj => ?_, h.bas⟩
  unfold upd
  by_cases e : j = i
  · rw [if_pos e, if_pos e]
    exact ho.keep hk fun k hk e => outer_ne h.out ho (by rw [hk, e])
  · rw [if_neg e, if_neg e]
    exact (h.row j hj).keep hk fun k hk e => outer_ne h.out (h.row j hj) (by rw [hk, e])
theorem Grd.kpput (h : Grd w base g n hv bs) (i : Nat) (v : Value) : Kp (fun q => base ≤ q) w (w.setCell ⟨g, i, none⟩ v) := Kp.setCell (p := ⟨g, i, none⟩) (S := fun q => base ≤ q) h.bas v
/-- A row is written. -/
theorem Grd.wrote (h : Grd w base g n hv bs) (hI : InjV n hv) {i b : Nat} (hi : i < n) (hb : (hv i).ownBlock = some b) {l : List UInt8} (ho : Own w1 base 5 (hv i) l) (hk : Kp (fun q => q = b) w w1) : Grd w1 base g n hv (upd bs i l) := by
  refine ⟨h.out.keep hk fun e => outer_ne h.out (h.row i hi) (by rw [hb, e]), fun j hj => ?_, h.bas⟩
  unfold upd
  by_cases e : j = i
  · rw [if_pos e, e]
    exact ho
  · rw [if_neg e]
    exact (h.row j hj).keep hk fun k hk e' => e (hI j i hj hi (by rw [hk, hb, e']))
theorem Grd.rws (h : Grd w base g n hv bs) : Rws w (some ⟨g, 0, none⟩) n ((List.range n).map bs) := by
  refine ⟨by simp, fun j l hj => ?_⟩
  have hjl : j < n := by have := (List.getElem?_eq_some_iff.1 hj).1; simpa using this
  simp [hjl] at hj
  subst hj
  exact ⟨g, 0, hv j, rfl, by rw [Nat.zero_add]; exact h.out.cell hjl, (h.row j hjl).bts⟩
/-- Where a row lies. -/
theorem Grd.at_ {L : Nat} {f : Nat → Nat → UInt8} (h : Grd w base g n hv fun j => rowL L (f j)) (hL : 0 < L) {j : Nat} (hj : j < n) : ∃ b c, hv j = .slice (some ⟨b, 0, none⟩) L c ∧ (hv j).ownBlock = some b ∧ RowAt w base b L c (f j) ∧ base ≤ b ∧ b < w.heap.size := by
  obtain ⟨b, c, e, h1, h2⟩ := (h.row j hj).some_ (by rw [rowL_len]; exact hL)
  rw [rowL_len] at e
  refine ⟨b, c, e, by rw [e]; rfl, ?_, h1, h2⟩
  have := h.row j hj
  rw [e] at this
  exact this
/-- Two rows are swapped. -/
theorem InjV.swap (hI : InjV n hv) {a i : Nat} (ha : a < n) (hi : i < n) : InjV n (upd (upd hv a (hv i)) i (hv a)) := by
  have key : ∀ j, j < n → ∃ q, q < n ∧ upd (upd hv a (hv i)) i (hv a) j = hv q ∧ ((j = i ∧ q = a) ∨ (j ≠ i ∧ j = a ∧ q = i) ∨ (j ≠ i ∧ j ≠ a ∧ q = j)) := fun j hj => by
    unfold upd
    by_cases e1 : j = i
    · exact ⟨a, ha, by rw [if_pos e1], .inl ⟨e1, rfl⟩⟩
    · by_cases e2 : j = a
      · exact ⟨i, hi, by rw [if_neg e1, if_pos e2], .inr (.inl ⟨e1, e2, rfl⟩)⟩
      · exact ⟨j, hj, by rw [if_neg e1, if_neg e2], .inr (.inr ⟨e1, e2, rfl⟩)⟩
  intro p q hp hq e
  obtain ⟨p', hp', ep, cp⟩ := key p hp
  obtain ⟨q', hq', eq, cq⟩ := key q hq
  rw [ep, eq] at e
  have := hI p' q' hp' hq' e
  omega
theorem Grd.swap (h : Grd w base g n hv bs) {a i : Nat} (ha : a < n) (hi : i < n) : Grd ((w.setCell ⟨g, a, none⟩ (hv i)).setCell ⟨g, i, none⟩ (hv a)) base g n (upd (upd hv a (hv i)) i (hv a)) (upd (upd bs a (bs i)) i (bs a)) := by
  have hk : Kp (fun q => q = g) w (w.setCell ⟨g, a, none⟩ (hv i)) := Kp.setCell (p := ⟨g, a, none⟩) (S := fun q => q = g) rfl _
  exact (h.put ha (h.row i hi)).put hi ((h.row a ha).keep hk fun k hk e => outer_ne h.out (h.row a ha) (by rw [hk, e]))
end
end Go.Proofs.Ytcdmljlangbloaa
namespace Go.Proofs.Ytcdmljlangbloaa
open Go.RowKit
set_option linter.unusedVariables false
set_option maxRecDepth 20000

/-- A row is written, all else is as it was. -/
def WrotePost (w : World) (base b L c : Nat) (s : Nat → UInt8) (e : Ending) (w1 : World) : Prop := e = .returned (.tuple #[]) ∧ RowAt w1 base b L c s ∧ Kp (fun q => q = b) w w1

/-- The first k are t's, the others s's. -/
def upS (t s : Nat → UInt8) (k j : Nat) : UInt8 := if j < k then t j else s j
theorem upS_step (t s : Nat → UInt8) (k j : Nat) : upd (upS t s k) k (t k) j = upS t s (k + 1) j := by
  unfold upd upS
  by_cases e : j = k
  · rw [if_pos e, if_pos (by omega), e]
  · rw [if_neg e]
    by_cases h : j < k
    · rw [if_pos h, if_pos (by omega)]
    · rw [if_neg h, if_neg (by omega)]

/-- A row's number, or -1. -/
def ldI (r i : Nat) : Int := if i < r then (i : Int) else -1
theorem ux_ne0 {a : UInt8} (h : a ≠ 0) : ((a.toNat : Int) != 0) = true := by
  have := u8_ne h
  simp
  exact this
theorem ux_eq0 {a : UInt8} (h : a = 0) : ((a.toNat : Int) != 0) = false := by subst h; rfl

end Go.Proofs.Ytcdmljlangbloaa
namespace Go.Proofs.Ytcdmljlangbloaa
open Go.RowKit
set_option linter.unusedVariables false
set_option maxRecDepth 20000

/-- Rows are written, all else is as it was. -/
def GrdPost (w : World) (base g n : Nat) (hv : Nat → Value) (L : Nat) (f : Nat → Nat → UInt8) (e : Ending) (w1 : World) : Prop := e = .returned (.tuple #[]) ∧ Grd w1 base g n hv (fun j => rowL L (f j)) ∧ Kp (fun q => base ≤ q) w w1
/-- The first q rows are cleared by row a. -/
def clcF (f : Nat → Nat → UInt8) (a k q o j : Nat) : UInt8 := if o < q ∧ o ≠ a then f o j ^^^ um (f o k) (f a j) else f o j
theorem rowL_congr {L : Nat} {s t : Nat → UInt8} (h : ∀ j, j < L → s j = t j) : rowL L s = rowL L t := List.map_congr_left fun k hk => h k (List.mem_range.1 hk)
theorem clcF_same {f : Nat → Nat → UInt8} {a k q : Nat} (h : q = a ∨ f q k = 0) (o j : Nat) : clcF f a k q o j = clcF f a k (q + 1) o j := by
  unfold clcF
  by_cases h1 : o < q ∧ o ≠ a
  · rw [if_pos h1, if_pos (by omega)]
  · rw [if_neg h1]
    by_cases h2 : o < q + 1 ∧ o ≠ a
    · obtain rfl : o = q := by omega
      rw [if_pos h2]
      rcases h with h | h
      · exact absurd h h2.2
      · rw [h, zero_um, ux_zero]
    · rw [if_neg h2]
theorem clcF_new {f : Nat → Nat → UInt8} {a k q : Nat} (h : q ≠ a) (j : Nat) : clcF f a k (q + 1) q j = ux (f q j) (um (f q k) (f a j)) := by
  unfold clcF
  rw [if_pos ⟨by omega, h⟩]
  rfl
theorem clcF_far {f : Nat → Nat → UInt8} {a k q o : Nat} (h : o ≠ q) (j : Nat) : clcF f a k q o j = clcF f a k (q + 1) o j := by
  unfold clcF
  by_cases h1 : o < q ∧ o ≠ a
  · rw [if_pos h1, if_pos (by omega)]
  · rw [if_neg h1, if_neg (by omega)]
theorem clcF_not {f : Nat → Nat → UInt8} {a k q o : Nat} (h : q ≤ o ∨ o = a) : clcF f a k q o = f o := by
  funext j
  unfold clcF
  rw [if_neg (by omega)]

end Go.Proofs.Ytcdmljlangbloaa
namespace Go.Proofs.Ytcdmljlangbloaa
open Go.RowKit
set_option linter.unusedVariables false
set_option maxRecDepth 20000

/-- The rows are brought to steps in so many columns. -/
def RedPost (w : World) (base g n L : Nat) (f : Nat → Nat → UInt8) (k : Nat) (e : Ending) (w1 : World) : Prop :=
  e = .returned (.tuple #[.int .i64 ((redS n f k).rk : Int), .int .u8 ((redS n f k).pr.toNat : Int)]) ∧ ∃ hv, Grd w1 base g n hv (fun j => rowL L ((redS n f k).f j)) ∧ InjV n hv ∧ Kp (fun q => base ≤ q) w w1
/-- So many columns are done. -/
structure RdI (w : World) (base g n L : Nat) (s : RS) (wr : World) : Prop where
  ex : ∃ hv, Grd wr base g n hv (fun j => rowL L (s.f j)) ∧ InjV n hv
  kp : Kp (fun q => base ≤ q) w wr
theorem ldI_no {n i : Nat} (h : i = n) : ldI n i = -1 := by unfold ldI; rw [if_neg (by omega)]
theorem ldI_yes {n i : Nat} (h : i < n) : ldI n i = (i : Int) := by unfold ldI; rw [if_pos h]

/-- Rows a and i are swapped. -/
def swp2 (f : Nat → Nat → UInt8) (a i o : Nat) : Nat → UInt8 := if o = a then f i else swpF f a i o
theorem swp2_at (f : Nat → Nat → UInt8) (a i : Nat) : swp2 f a i a = f i := if_pos rfl
theorem swp2_row (f : Nat → Nat → UInt8) (a i L j : Nat) : upd (upd (fun j => rowL L (f j)) a (rowL L (f i))) i (rowL L (f a)) j = rowL L (swp2 f a i j) := by
  unfold upd swp2 swpF
  by_cases e1 : j = i
  · rw [if_pos e1]
    by_cases e2 : j = a
    · rw [if_pos e2, ← e1, ← e2]
    · rw [if_neg e2, if_pos e1]
  · rw [if_neg e1]
    by_cases e2 : j = a
    · rw [if_pos e2, if_pos e2]
    · rw [if_neg e2, if_neg e2, if_neg e1]
theorem clc_elim (f : Nat → Nat → UInt8) {a i k n o : Nat} (ho : o < n) (j : Nat) : clcF (upd (swp2 f a i) a (pivF f i k)) a k n o j = elimF f a i k o j := by
  unfold clcF elimF
  by_cases e : o = a
  · rw [if_neg (by omega), if_pos e, e, upd_at]
  · rw [if_pos ⟨ho, e⟩, if_neg e, upd_at, upd_ne _ _ e]
    unfold swp2
    rw [if_neg e, um_comm]

end Go.Proofs.Ytcdmljlangbloaa
namespace Go.Proofs.Ytcdmljlangbloaa
open Go.RowKit
set_option linter.unusedVariables false
set_option maxRecDepth 20000

section
variable {P : Program} {ops : Array Oper} {Q : Exit → Act → World → Prop} {md : Region.Mode} {S : World → Prop} {t : Nat}

/-- Whatever comes up next; behind all but number t the condition holds. -/
def LastR (P : Program) (md : Region.Mode) (ops : Array Oper) (Q : Exit → Act → World → Prop) (S : World → Prop) (t : Nat) : Nat → Array Bool → Act → World → Prop
  | 0, listed, a, w => Region.ready md ops listed = [] ∧ Q .normal a w
  | n + 1, listed, a, w => (Region.ready md ops listed = [] → Q .normal a w) ∧
      ∀ i ∈ Region.ready md ops listed, wpOp P ops Q i (fun a1 w1 => (i ≠ t → S w1) ∧ LastR P md ops Q S t n (listed.setIfInBounds i true) a1 w1) a w
theorem LastR.any : ∀ (n : Nat) (listed : Array Bool) (a : Act) (w : World), LastR P md ops Q S t n listed a w → wpAny P md ops Q n listed a w
  | 0, _, _, _, h => h
  | n + 1, _, _, _, h => ⟨h.1, fun i hi => wpOp_mono (fun a1 w1 g => LastR.any n _ a1 w1 g.2) (h.2 i hi)⟩
theorem not_listed {listed : Array Bool} {i : Nat} (h0 : listed.getD i true = false) (h1 : listed.getD i false = true) : False := by
  rw [getD_both h0] at h1
  cases h1
theorem LastR.first {i : Nat} {oi : Oper} {v : Value} (hi : ops[i]? = some oi) (hsel : ∀ (j : Nat) (o : Oper) cs b, ops[j]? = some o → o.op ≠ .select cs b) (hQ : ∀ c a w, Q (.panic c) (a.put oi.dst v) w → Q (.panic c) a w) (hwt : Region.waitsFor md ops t i = true) :
    ∀ (n : Nat) (listed : Array Bool) (a : Act) (w : World), (∀ j oj, ops[j]? = some oj → j ≠ i → listed.getD j true = false → (∀ e ∈ oj.after, Region.binds md e = true → e.on ≠ i) → oi.apart ops oj = true) → i ∈ Region.ready md ops listed → YieldsIf P ops S oi v a → S w →
      LastR P md ops Q S t n (listed.setIfInBounds i true) (a.put oi.dst v) w → LastR P md ops Q S t (n + 1) listed a w := by
  intro n
  induction n with
  | zero =>
    intro listed a w _ hr hy hS H
    refine ⟨fun e => absurd hr (by rw [e]; simp), fun j hj => ?_⟩
    by_cases e : j = i
    · subst e
      exact hy.wpOp hi hS ⟨fun _ => hS, H⟩
    · exact absurd (ready_mono hj e) (by rw [H.1]; simp)
  | succ n ih =>
    intro listed a w hfree hr hy hS H
    refine ⟨fun e => absurd hr (by rw [e]; simp), fun j hj => ?_⟩
    by_cases e : j = i
    · subst e
      exact hy.wpOp hi hS ⟨fun _ => hS, H⟩
    · obtain ⟨hjun, oj, hoj, hall⟩ := mem_ready.1 hj
      have hiun := (mem_ready.1 hr).1
      have hno : ∀ x ∈ oj.after, Region.binds md x = true → x.on ≠ i := fun x hx hb hxe => not_listed hiun (hxe ▸ hall x hx hb)
      have hjt : j ≠ t := fun ejt => by
        obtain ⟨o', ho', x, hx, hb, hon⟩ := Region.waitsFor_spec hwt
        subst ejt
        obtain rfl : o' = oj := Option.some.inj (ho'.symm.trans hoj)
        exact hno x hx hb hon
      have h2 := wpOp_putIf hoj (hfree j oj hoj e hjun hno) (fun cs b => hsel i oi cs b hi) (fun cs b => hsel j oj cs b hoj) hQ hy (H.2 j (ready_mono hj e))
      refine wpOp_mono (fun a1 w1 g => ⟨g.2.1, ih (listed.setIfInBounds j true) a1 w1 (fun k ok hk hki hun hn => hfree k ok hk hki ?_ hn) (ready_mono hr (Ne.symm e)) g.1 (g.2.1 hjt) ?_⟩) h2
      · by_cases ejk : j = k
        · exact ejk ▸ hjun
        · rw [getD_set_ne true ejk] at hun
          exact hun
      · rw [Array.setIfInBounds_comm _ _ e]
        exact g.2.2
/-- Number i is taken first. -/
theorem LastR.take {i : Nat} {oi : Oper} {v : Value} {n : Nat} {listed : Array Bool} {a : Act} {w : World} (hi : ops[i]? = some oi) (hs : Region.noSelect ops = true) (hf : Region.free md ops listed i = true) (hr : (Region.ready md ops listed).contains i = true) (hwt : Region.waitsFor md ops t i = true)
    (hQ : ∀ c a w, Q (.panic c) (a.put oi.dst v) w → Q (.panic c) a w) (hy : YieldsIf P ops S oi v a) (hS : S w) (h : LastR P md ops Q S t n (listed.setIfInBounds i true) (a.put oi.dst v) w) : LastR P md ops Q S t (n + 1) listed a w :=
  LastR.first hi (Region.noSelect_spec hs) hQ hwt n listed a w (Region.free_spec hi hf) (by simpa using hr) hy hS h
/-- Number i, the only one that may come up, is run. -/
theorem LastR.run {i : Nat} {o : Oper} {n : Nat} {listed : Array Bool} {a : Act} {w : World} (ho : ops[i]? = some o) (hr : Region.ready md ops listed = [i])
    (h : ∀ K : Act → World → Prop, Shut (∀ a1 w1, (i ≠ t → S w1) → ((i ≠ t → S w1) → LastR P md ops Q S t n (listed.setIfInBounds i true) a1 w1) → K a1 w1) → if Region.wanted o (yielded ops a.tmps) = true then Oper.wp P o a w K Q else K (a.put o.dst undef) w) : LastR P md ops Q S t (n + 1) listed a w := by
  refine ⟨fun e => absurd (hr.symm.trans e) (by simp), fun j hj => ?_⟩
  rw [hr] at hj
  obtain rfl : j = i := by simpa using hj
  exact wpOp_step ho (fun K hK => h K fun a1 w1 hS hW => hK a1 w1 ⟨hS, hW hS⟩)
theorem LastR.done {listed : Array Bool} {a : Act} {w : World} (hr : Region.ready md ops listed = []) (h : Q .normal a w) : ∀ n, LastR P md ops Q S t n listed a w
  | 0 => ⟨hr, h⟩
  | _ + 1 => ⟨fun _ => h, by rw [hr]; simp⟩
theorem LastR.begin {id : Nat} {a : Act} {w : World} (hm : P.follows .mixedOrders = true) (hS : S w.drew) (h : S w.drew → LastR P .any ops Q S t ops.size (Array.replicate ops.size false) a w.drew) : (Code.region id ops true).wp P Q a w :=
  wp_region_any hm (LastR.any _ _ _ _ (h hS))

/-- append, as one step of a region. -/
theorem step_app {w : World} {base : Nat} {e : TypeId} {v u : Value} {bs cs : List UInt8} {o : Oper} {a : Act} {K : Act → World → Prop} {E : Prop} (hgd : o.guard = none) (s x : Operand) (t : TypeId)
    (ho : o.op = .call { callee := .builtin .append, args := #[s, x], argTypes := #[t, t] })
    (i : TypeInfo) (ht : P.underlying t = some (.slice e)) (hi : P.info? e = some i) (hz : i.zero = some (.int .u8 0)) (hsize : i.size = 1) (hby : i.bytes = 1)
    (hs : a.eval s = v) (h : Own w base e v bs) (hx : a.eval x = u) (hu : Bts w u cs) (hlen : bs.length + cs.length ≤ 1000000000) (hb : base ≤ w.heap.size)
    (hQ : ∀ A1 n1 c1 w1, App w base e v bs cs (.slice A1 n1 c1) w1 → K (a.put o.dst (.slice A1 n1 c1)) w1) : if Region.wanted o (yielded ops a.tmps) = true then Oper.wp P o a w K Q else E := by
  have hw : Region.wanted o (yielded ops a.tmps) = true := by simp [Region.wanted, hgd]
  rw [if_pos hw]
  obtain ⟨v1, w1, hr, h1⟩ := run_app (P := P) t o.type i ht hi hz hsize hby h hu hlen hb
  obtain ⟨A1, n1, c1, rfl⟩ := h1.own.form
  have := hQ A1 n1 c1 w1 h1
  unfold Oper.wp
  simp [execOp, ho, resolve, invoke, builtin, hs, hx, hr, Result.andThen]
  exact this
end
end Go.Proofs.Ytcdmljlangbloaa
namespace Go.Proofs.Ytcdmljlangbloaa
open Go.RowKit
set_option linter.unusedVariables false
set_option maxRecDepth 20000

/-- So many nil slices. -/
def zr (n : Nat) : Array Value := madeCells (Value.slice none 0 0).cells (n * 1)
theorem zr_get {n j : Nat} (h : j < n) : (zr n)[j]? = some (.slice none 0 0) := by
  have e : (zr n).toList = List.replicate n (.slice none 0 0) := by unfold zr; rw [Nat.mul_one]; exact toList_madeCells_one _ _
  rw [← Array.getElem?_toList, e, List.getElem?_replicate, if_pos h]
/-- make([][]byte, n). -/
theorem make_rows (w : World) (n : Nat) (x : Int) (hx : x = n) (hn : n ≤ 1000) :
    (Instr.makeSlice 39 (.int .i64 x) (.int .i64 x)).run Try.prog w = .ok (.slice (some ⟨w.heap.size, 0, none⟩) n n) (w.alloc (.cells (zr n) 38)) := by
  obtain ⟨i0, hi0, hz0, hz1, hz2⟩ := slc_parts
  subst hx
  have := run_make (P := Try.prog) w 39 38 i0 (.slice none 0 0) Try.underlying39 hi0 hz0 .i64 .i64 n n (by omega) (by omega) (by rw [hz2]; omega) (by omega)
  rw [hz1] at this
  simpa [zr] using this

/-- The rows of a matrix come back, each of the call's own. -/
def RofPost (w : World) (r c : Nat) (f : Nat → Nat → UInt8) (e : Ending) (w1 : World) : Prop :=
  ∃ g hv, e = .returned (.slice (some ⟨g, 0, none⟩) r r) ∧ Grd w1 w.heap.size g r hv (fun j => rowL c (f j)) ∧ InjV r hv ∧ Kp No w w1
/-- So many rows are there. -/
structure RoI (w : World) (g r c : Nat) (f : Nat → Nat → UInt8) (k : Nat) (wr : World) : Prop where
  ex : ∃ hv, Outer wr g r hv ∧ (∀ j, j < k → Own wr w.heap.size 5 (hv j) (rowL c (f j))) ∧ InjV k hv
  kp : Kp No w wr
theorem RoI.step {w wr w1 : World} {g r c k base : Nat} {f : Nat → Nat → UInt8} {v : Value} (h : RoI w g r c f k wr) (hg : w.heap.size ≤ g) (hkr : k < r) (hc : 0 < c) (hb : wr.heap.size ≤ base) (ho : Own w1 base 5 v (rowL c (f k))) (hk : Kp No wr w1) : RoI w g r c f (k + 1) (w1.setCell ⟨g, k, none⟩ v) := by
  obtain ⟨hv, h1, h2, h3⟩ := h.ex
  have hO1 := h1.keep hk fun f => f
  have hks : Kp (fun q => q = g) w1 (w1.setCell ⟨g, k, none⟩ v) := Kp.setCell (p := ⟨g, k, none⟩) (S := fun q => q = g) rfl v
  have hwk := h.kp.size
  refine ⟨⟨upd hv k v, hO1.set hkr v, fun j hj => ?_, fun i j hi hj e => ?_⟩, (h.kp.trans' hk).trans (hks.mono fun q hq => .inr (by omega))⟩
  · by_cases e : j = k
    · subst e
      rw [upd_at]
      exact (ho.keep hks fun q hq e => outer_ne hO1 ho (by rw [hq, e])).rebase fun q hq => by have := ho.ge q hq; omega
    · rw [upd_ne _ _ e]
      have := (h2 j (by omega)).no hk
      exact this.keep hks fun q hq e => outer_ne hO1 this (by rw [hq, e])
  · have fresh : ∀ q, q < k → (hv q).ownBlock ≠ v.ownBlock := fun q hq e => by
      obtain ⟨b, c1, e1, g1, g2⟩ := (h2 q hq).some_ (by rw [rowL_len]; exact hc)
      have := ho.ge b (by rw [← e, e1]; rfl)
      omega
    by_cases e1 : i = k <;> by_cases e2 : j = k
    · omega
    · rw [e1, upd_at, upd_ne _ _ e2] at e
      exact absurd e.symm (fresh j (by omega))
    · rw [e2, upd_at, upd_ne _ _ e1] at e
      exact absurd e (fresh i (by omega))
    · rw [upd_ne _ _ e1, upd_ne _ _ e2] at e
      exact h3 i j (by omega) (by omega) e

section
variable {w : World} {m : MB} {r c : Nat} {f : Nat → Nat → UInt8}
/-- What a call changes in memory of its own is no matter. -/
theorem Kp.own {w0 w1 w2 : World} (h : Kp No w0 w1) (k : Kp (fun q => w0.heap.size ≤ q) w1 w2) : Kp No w0 w2 := h.trans (k.mono fun q hq => .inr hq)

theorem fnL_matL {r c : Nat} (f : Nat → Nat → UInt8) : EqF r c (fnL (matL r c f)) f := fun i k hi hk => by
  rw [fnL_of (matL_get f hi), lg_rowL _ hk]
end
end Go.Proofs.Ytcdmljlangbloaa
namespace Go.Proofs.Ytcdmljlangbloaa
open Go.RowKit
set_option linter.unusedVariables false
set_option maxRecDepth 20000
set_option linter.unusedSimpArgs false

/-- A row of the call's own is appended to. -/
theorem Grd.grew {w w2 w3 : World} {base g n i : Nat} {hv : Nat → Value} {bs : Nat → List UInt8} {cs : List UInt8} {v1 : Value} (h : Grd w base g n hv bs) (hI : InjV n hv) (hi : i < n) (hne : ∀ j, j < n → 0 < (bs j).length) (hk : Kp No w w2) (ha : App w2 base 5 (hv i) (bs i) cs v1 w3) :
    Grd (w3.setCell ⟨g, i, none⟩ v1) base g n (upd hv i v1) (upd bs i (bs i ++ cs)) ∧ InjV n (upd hv i v1) ∧ Outer w3 g n hv := by
  have h2 := h.no hk
  have hO3 : Outer w3 g n hv := h2.out.keep ha.kp fun e => outer_ne h2.out (h2.row i hi) e
  have hks : Kp (fun q => q = g) w3 (w3.setCell ⟨g, i, none⟩ v1) := Kp.setCell (p := ⟨g, i, none⟩) (S := fun q => q = g) rfl v1
  refine ⟨⟨hO3.set hi v1, fun j hj => ?_, h.bas⟩, fun p q hp hq e => ?_, hO3⟩
  · by_cases e : j = i
    · rw [e, upd_at, upd_at]
      exact ha.own.keep hks fun q hq e => outer_ne hO3 ha.own (by rw [hq, e])
    · rw [upd_ne _ _ e, upd_ne _ _ e]
      have h3 := (h2.row j hj).keep ha.kp fun q hq e' => e (hI j i hj hi (by rw [hq, e']))
      exact h3.keep hks fun q hq e => outer_ne hO3 h3 (by rw [hq, e])
  · have far : ∀ j, j < n → j ≠ i → (hv j).ownBlock ≠ v1.ownBlock := fun j hj hji e => by
      rcases ha.at_ with e1 | e1
      · exact hji (hI j i hj hi (by rw [e, e1]))
      · rw [e1] at e
        have := (h.row j hj).lt _ e
        have := hk.size
        omega
    by_cases e1 : p = i <;> by_cases e2 : q = i
    · omega
    · rw [e1, upd_at, upd_ne _ _ e2] at e
      exact absurd e.symm (far q hq e2)
    · rw [e2, upd_at, upd_ne _ _ e1] at e
      exact absurd e (far p hp e1)
    · rw [upd_ne _ _ e1, upd_ne _ _ e2] at e
      exact hI p q hp hq e

/-- So many rows are side by side. -/
def sideB (n c : Nat) (a b : Nat → Nat → UInt8) (k j : Nat) : List UInt8 := if j < k then rowL (n + c) (catF n a b j) else rowL n (a j)
theorem rowL_cat (n c : Nat) (a b : Nat → Nat → UInt8) (j : Nat) : rowL n (a j) ++ rowL c (b j) = rowL (n + c) (catF n a b j) := by
  apply List.ext_getElem?
  intro k
  by_cases h : k < n
  · rw [List.getElem?_append_left (by rw [rowL_len]; exact h), rowL_get _ h, rowL_get _ (by omega)]
    unfold catF
    rw [if_pos h]
  · rw [List.getElem?_append_right (by rw [rowL_len]; omega), rowL_len]
    by_cases h2 : k < n + c
    · rw [rowL_get _ (by omega), rowL_get _ h2]
      unfold catF
      rw [if_neg h]
    · rw [List.getElem?_eq_none (by rw [rowL_len]; omega), List.getElem?_eq_none (by rw [rowL_len]; omega)]
theorem side_at (n c : Nat) (a b : Nat → Nat → UInt8) (k : Nat) : sideB n c a b k k = rowL n (a k) := if_neg (Nat.lt_irrefl k)
theorem side_step (n c : Nat) (a b : Nat → Nat → UInt8) (k j : Nat) : upd (sideB n c a b k) k (sideB n c a b k k ++ rowL c (b k)) j = sideB n c a b (k + 1) j := by
  rw [side_at, rowL_cat]
  unfold upd sideB
  by_cases e : j = k
  · rw [if_pos e, if_pos (by omega), e]
  · rw [if_neg e]
    by_cases h : j < k
    · rw [if_pos h, if_pos (by omega)]
    · rw [if_neg h, if_neg (by omega)]
/-- What the first loop keeps. -/
structure SvI (w : World) (g n c : Nat) (a b : Nat → Nat → UInt8) (k : Nat) (wr : World) : Prop where
  ex : ∃ hv, Grd wr w.heap.size g n hv (sideB n c a b k) ∧ InjV n hv
  kp : Kp No w wr
theorem side_pos {n c : Nat} (a b : Nat → Nat → UInt8) (k : Nat) (hn : 0 < n) (j : Nat) : 0 < (sideB n c a b k j).length := by
  unfold sideB
  split
  · rw [rowL_len]; omega
  · rw [rowL_len]; exact hn

/-- The slice behind n elements. -/
def tailV (n c b cp : Nat) : Value := .slice (some ⟨b, n, none⟩) c (cp - n)
theorem RowAt.tail {w : World} {base b n c cp : Nat} {s : Nat → UInt8} (h : RowAt w base b (n + c) cp s) : Bts w (tailV n c b cp) (rowL c fun j => s (n + j)) := by
  refine ⟨_, cp - n, by rw [rowL_len]; rfl, (fun h => by cases h), fun ad ha j u hu => ?_⟩
  injection ha with ha
  subst ha
  have hj : j < c := by have := (List.getElem?_eq_some_iff.1 hu).1; rwa [rowL_len] at this
  rw [rowL_get _ hj] at hu
  injection hu with hu
  subst hu
  rw [add_none]
  exact h.cell (by omega)
/-- What the second loop keeps: so many rows are cut. -/
structure SwI (w : World) (base g n c : Nat) (bl cp : Nat → Nat) (f : Nat → Nat → UInt8) (k : Nat) (wr : World) : Prop where
  out : Outer wr g n fun j => if j < k then tailV n c (bl j) (cp j) else .slice (some ⟨bl j, 0, none⟩) (n + c) (cp j)
  row : ∀ j, j < n → RowAt wr base (bl j) (n + c) (cp j) (f j)
  kp : Kp No w wr
theorem SwI.step {w wr : World} {base g n c k : Nat} {bl cp : Nat → Nat} {f : Nat → Nat → UInt8} (h : SwI w base g n c bl cp f k wr) (hk : k < n) (hg : w.heap.size ≤ g) : SwI w base g n c bl cp f (k + 1) (wr.setCell ⟨g, k, none⟩ (tailV n c (bl k) (cp k))) := by
  have hks : Kp (fun q => q = g) wr (wr.setCell ⟨g, k, none⟩ (tailV n c (bl k) (cp k))) := Kp.setCell (p := ⟨g, k, none⟩) (S := fun q => q = g) rfl _
  refine ⟨(h.out.set hk _).eq fun j _ => ?_, fun j hj => (h.row j hj).keep hks fun e => outer_ne h.out (h.row j hj) (by rw [← e]; rfl), h.kp.trans (hks.mono fun q hq => .inr (by omega))⟩
  unfold upd
  by_cases e : j = k
  · rw [if_pos e, if_pos (by omega), e]
  · rw [if_neg e]
    show (if j < k then _ else _) = _
    by_cases h : j < k
    · rw [if_pos h, if_pos (by omega)]
    · rw [if_neg h, if_neg (by omega)]
theorem SwI.rws {w wr : World} {base g n c : Nat} {bl cp : Nat → Nat} {f : Nat → Nat → UInt8} (h : SwI w base g n c bl cp f n wr) : Rws wr (some ⟨g, 0, none⟩) n (matL n c (offF n f)) := by
  refine ⟨(matL_len _ _ _).symm, fun j l hj => ?_⟩
  have hjl : j < n := by have := (List.getElem?_eq_some_iff.1 hj).1; rwa [matL_len] at this
  rw [matL_get _ hjl] at hj
  injection hj with hj
  subst hj
  refine ⟨g, 0, _, rfl, ?_, (h.row j hjl).tail⟩
  rw [Nat.zero_add, h.out.cell hjl, if_pos hjl]
theorem SwI.start {w wr : World} {base g n c : Nat} {hv : Nat → Value} {f : Nat → Nat → UInt8} (h : Grd wr base g n hv fun j => rowL (n + c) (f j)) (hn : 0 < n) (hk : Kp No w wr) : ∃ bl cp, SwI w base g n c bl cp f 0 wr ∧ ∀ j, j < n → n + c ≤ cp j := by
  have key : ∀ j, ∃ b cp, j < n → hv j = .slice (some ⟨b, 0, none⟩) (n + c) cp ∧ RowAt wr base b (n + c) cp (f j) ∧ n + c ≤ cp := fun j => by
    by_cases hj : j < n
    · obtain ⟨b, cp, e1, _, hR, _, _⟩ := h.at_ (by omega) hj
      obtain ⟨_, _, _, h3, _⟩ := Own.block hR
      exact ⟨b, cp, fun _ => ⟨e1, hR, h3⟩⟩
    · exact ⟨0, 0, fun h => absurd h hj⟩
  refine ⟨fun j => (key j).choose, fun j => (key j).choose_spec.choose, ⟨h.out.eq fun j hj => ?_, fun j hj => ?_, hk⟩, fun j hj => ?_⟩
  · rw [if_neg (Nat.not_lt_zero _)]
    exact ((key j).choose_spec.choose_spec hj).1
  · exact ((key j).choose_spec.choose_spec hj).2.1
  · exact ((key j).choose_spec.choose_spec hj).2.2

/-- No matrix comes back, and ErrSingular. -/
def SngPost (w : World) (e : Ending) (w1 : World) : Prop := e = .returned (.tuple #[.pointer none, .int .i64 23]) ∧ Kp No w w1
end Go.Proofs.Ytcdmljlangbloaa
namespace Go.Proofs.Ytcdmljlangbloaa
open Go.RowKit
set_option linter.unusedVariables false
set_option maxRecDepth 20000

section
variable {w : World} {m m' : MB} {r c n q : Nat} {f b : Nat → Nat → UInt8}
theorem ArgPost.later {w0 : World} {e : Ending} {w1 : World} (h : ArgPost w e w1) (hk : Kp No w0 w) : ArgPost w0 e w1 := ⟨h.1, hk.trans' h.2⟩
theorem SngPost.later {w0 : World} {e : Ending} {w1 : World} (h : SngPost w e w1) (hk : Kp No w0 w) : SngPost w0 e w1 := ⟨h.1, hk.trans' h.2⟩
end
end Go.Proofs.Ytcdmljlangbloaa
namespace Go.Proofs.Ytcdmljlangbloaa
open Go.RowKit
set_option linter.unusedVariables false
set_option maxRecDepth 20000

/-- A new row of noughts. -/
theorem row_new (w : World) (L : Nat) (hL : L ≤ 1000) : RowAt (w.alloc (.cells (zc L) 5)) w.heap.size w.heap.size L L fun _ => 0 :=
  Own.mk (heap_alloc_new w _) (rowL_len _ _).symm (Nat.le_refl _) (by simp only [maxLen]; omega) (zc_size L) (Nat.le_refl _) fun k x hk => by
    have hkl : k < L := by have := (List.getElem?_eq_some_iff.1 hk).1; rwa [rowL_len] at this
    rw [rowL_get _ hkl] at hk
    injection hk with hk
    subst hk
    exact zc_get hkl
theorem Bts.cell {w : World} {A : Option Addr} {L c k : Nat} {s : Nat → UInt8} (h : Bts w (.slice A L c) (rowL L s)) (hk : k < L) : ∃ B off, A = some ⟨B, off, none⟩ ∧ w.cell? ⟨B, off + k, none⟩ = some (.int .u8 ((s k).toNat : Int)) := by
  obtain ⟨B, off, b, rfl, hb, hc⟩ := h.at_ hk
  rw [rowL_get _ hk] at hb
  injection hb with hb
  subst hb
  exact ⟨B, off, rfl, hc⟩

end Go.Proofs.Ytcdmljlangbloaa
namespace Go.Proofs.Ytcdmljlangbloaa
open Go.RowKit
set_option linter.unusedVariables false
set_option maxRecDepth 20000
set_option linter.unusedSimpArgs false

theorem rect_row {bss : List (List UInt8)} {c k : Nat} {b1 : List UInt8} (hR : ∀ (j : Nat) bs, bss[j]? = some bs → bs.length = c) (h : bss[k]? = some b1) : b1 = rowL c (fnL bss k) := by
  have hl := hR k b1 h
  rw [show fnL bss k = lg b1 from funext fun j => fnL_of h j, ← hl, rowL_lg]
/-- All rows are there. -/
theorem RInv.grd {w wr : World} {s : Nat → List UInt8} {n cp : Nat} {A : Option Addr} {vs : List Value} (h : RInv w s n (.slice A n cp) vs wr) (hn : 0 < n) : ∃ g hv, A = some ⟨g, 0, none⟩ ∧ Grd wr w.heap.size g n hv s := by
  have hl := h.len
  rcases h.own.2 with ⟨e, hz⟩ | ⟨g, cap, cur, e, hb, hg, h1, h2, h3, ht⟩
  · omega
  · injection e with e1 e2 e3
    have cell : ∀ j, j < n → cur[j]? = some (vs.getD j (.slice none 0 0)) := fun j hj => by
      have h4 : (cur.toList.take (vs.length * 1))[j]? = vs[j]? := by rw [ht]
      rw [List.getElem?_take, if_pos (by omega), Array.getElem?_toList] at h4
      rw [h4, List.getD_eq_getElem?_getD, List.getElem?_eq_getElem (by omega)]
      rfl
    refine ⟨g, fun j => vs.getD j (.slice none 0 0), e1, ⟨cur, hg, cell⟩, fun j hj => h.row j _ ?_, hb⟩
    rw [List.getD_eq_getElem?_getD, List.getElem?_eq_getElem (by omega)]
    rfl

/-- What the columns' loop keeps. -/
structure RsI (w : World) (g n c : Nat) (s : RS) (wr : World) : Prop where
  ex : ∃ hv, Grd wr w.heap.size g n hv fun j => rowL c (s.f j)
  kp : Kp No w wr
/-- What the rows' loop keeps: so many are cleared by row a, which is vx. -/
structure R4 (w : World) (g n c : Nat) (f : Nat → Nat → UInt8) (a k : Nat) (vx : Value) (q : Nat) (wr : World) : Prop where
  ex : ∃ hv, Grd wr w.heap.size g n hv (fun j => rowL c (clcF f a k q j)) ∧ hv a = vx
  kp : Kp No w wr
theorem R4.same {w wr : World} {g n c a k q : Nat} {f : Nat → Nat → UInt8} {vx : Value} (h : R4 w g n c f a k vx q wr) (e : q = a) : R4 w g n c f a k vx (q + 1) wr := by
  obtain ⟨hv, h1, h2⟩ := h.ex
  exact ⟨⟨hv, h1.eq fun j _ => rowL_congr fun i _ => clcF_same (.inl e) j i, h2⟩, h.kp⟩
theorem R4.next {w wr w1 : World} {g n c a k q base : Nat} {f : Nat → Nat → UInt8} {vx v : Value} (h : R4 w g n c f a k vx q wr) (hq : q < n) (hne : q ≠ a) (hk : Kp No wr w1) (hb : w.heap.size ≤ base) (ho : Own w1 base 5 v (rowL c fun j => ux (f q j) (um (f a j) (f q k)))) : R4 w g n c f a k vx (q + 1) (w1.setCell ⟨g, q, none⟩ v) := by
  obtain ⟨hv, h1, h2⟩ := h.ex
  have h3 := h1.no hk
  refine ⟨⟨upd hv q v, (h3.put hq (ho.rebase fun p hp => Nat.le_trans hb (ho.ge p hp))).eq fun j _ => ?_, by rw [upd_ne _ _ (Ne.symm hne)]; exact h2⟩, (h.kp.trans' hk).trans (Kp.setCell (p := ⟨g, q, none⟩) (.inr h1.bas) _)⟩
  by_cases e : j = q
  · rw [e, upd_at]
    exact rowL_congr fun i _ => by rw [clcF_new hne, um_comm]
  · rw [upd_ne _ _ e]
    exact rowL_congr fun i _ => clcF_far e i
/-- A row to its place, the pivot to its own. -/
theorem RsI.pivot {w wr w1 : World} {g n c k i base : Nat} {s : RS} {vx va : Value} {hv : Nat → Value} (h : Grd wr w.heap.size g n hv fun j => rowL c (s.f j)) (hkp : Kp No w wr) (ha : s.rk < n) (hi : i < n) (hk : Kp No wr w1) (hb : w.heap.size ≤ base) (ho : Own w1 base 5 vx (rowL c (pivF s.f i k))) (hva : hv s.rk = va) :
    R4 w g n c (upd (swp2 s.f s.rk i) s.rk (pivF s.f i k)) s.rk k vx 0 ((w1.setCell ⟨g, i, none⟩ va).setCell ⟨g, s.rk, none⟩ vx) := by
  have h3 := h.no hk
  subst hva
  have hks : Kp (fun q => q = g) w1 (w1.setCell ⟨g, i, none⟩ (hv s.rk)) := Kp.setCell (p := ⟨g, i, none⟩) (S := fun q => q = g) rfl _
  have ho2 := ho.rebase (b := w.heap.size) fun p hp => Nat.le_trans hb (ho.ge p hp)
  have h4 := (h3.put hi (h3.row s.rk ha)).put ha (ho2.keep hks fun q hq e => outer_ne h3.out ho2 (by rw [hq, e]))
  refine ⟨⟨_, h4.eq fun j _ => ?_, upd_at _ _ _⟩, ((hkp.trans' hk).trans (Kp.setCell (p := ⟨g, i, none⟩) (.inr h.bas) _)).trans (Kp.setCell (p := ⟨g, s.rk, none⟩) (.inr h.bas) _)⟩
  rw [clcF_not (.inl (Nat.zero_le _))]
  unfold upd swp2 swpF
  by_cases e : j = s.rk
  · rw [if_pos e, if_pos e]
  · rw [if_neg e, if_neg e, if_neg e]
    by_cases e2 : j = i
    · rw [if_pos e2, if_pos e2]
    · rw [if_neg e2, if_neg e2]
theorem R4.done {w wr : World} {g n c k i : Nat} {s : RS} {vx : Value} (h : R4 w g n c (upd (swp2 s.f s.rk i) s.rk (pivF s.f i k)) s.rk k vx n wr) (x : UInt8) : RsI w g n c ⟨s.rk + 1, x, elimF s.f s.rk i k⟩ wr := by
  obtain ⟨hv, h1, _⟩ := h.ex
  exact ⟨⟨hv, h1.eq fun j hj => rowL_congr fun q _ => clc_elim s.f hj q⟩, h.kp⟩

/-- The rows come back, brought to steps. -/
def RspPost (w : World) (n c : Nat) (f : Nat → Nat → UInt8) (e : Ending) (w1 : World) : Prop :=
  ∃ g hv cp, e = .returned (.slice (some ⟨g, 0, none⟩) n cp) ∧ Grd w1 w.heap.size g n hv (fun j => rowL c ((redS n f c).f j)) ∧ Kp No w w1

end Go.Proofs.Ytcdmljlangbloaa
