/- Rows brought to steps, in plain words: a column's step, what it keeps, the rank, and what solves equations. No condition. -/
import Derived.Test.YtbkelijmdpoanaaMtm
namespace Go.Proofs.Ytbkelijmdpoanaa
set_option linter.unusedVariables false

/-- What a byte comes to 1 with. -/
def ui (a : UInt8) : UInt8 := UInt8.ofNat (ginv a.toNat)
theorem ui_nat (a : UInt8) : (ui a).toNat = ginv a.toNat := by
  unfold ui
  rw [UInt8.toNat_ofNat', Nat.mod_eq_of_lt (ginv_lt _)]
theorem u8_ne {a : UInt8} (h : a ≠ 0) : a.toNat ≠ 0 := fun e => h (u8_ext e)
theorem um_ui {a : UInt8} (h : a ≠ 0) : um a (ui a) = 1 := u8_ext (by rw [um_nat, ui_nat, gmul_ginv (u8_lt a) (u8_ne h)]; rfl)
theorem ux_can (a b : UInt8) : a ^^^ b ^^^ b = a := by rw [ux_assoc, ux_self, ux_zero]
theorem ux_eq {a b : UInt8} (h : a ^^^ b = 0) : a = b := by rw [← ux_can a b, h, zero_ux]
theorem um_ne {a b : UInt8} (ha : a ≠ 0) (hb : b ≠ 0) : um a b ≠ 0 := by
  intro h
  apply hb
  have : um (ui a) (um a b) = b := by rw [← um_assoc, um_comm (ui a), um_ui ha, one_um]
  rw [← this, h, um_zero]

theorem ud_add (a b v : Nat → UInt8) (n : Nat) : ud (fun j => a j ^^^ b j) v n = ud a v n ^^^ ud b v n := by
  unfold ud
  rw [← us_xor]
  exact us_congr fun j _ => um_xor_left _ _ _
theorem ud_scale (a v : Nat → UInt8) (x : UInt8) (n : Nat) : ud (fun j => um (a j) x) v n = um (ud a v n) x := by
  unfold ud
  rw [us_um]
  exact us_congr fun j _ => by rw [um_assoc, um_comm x, ← um_assoc]
theorem us_split (s : Nat → UInt8) (n m : Nat) : us s (n + m) = us s n ^^^ us (fun j => s (n + j)) m := by
  induction m with
  | zero => exact (ux_zero _).symm
  | succ m ih => rw [← Nat.add_assoc, us, us, ih, ux_assoc]
theorem ud_split (f g : Nat → UInt8) (n m : Nat) : ud f g (n + m) = ud f g n ^^^ ud (fun j => f (n + j)) (fun j => g (n + j)) m := us_split _ n m
theorem us_one (s : Nat → UInt8) (q n : Nat) (hq : q < n) (h : ∀ j, j < n → j ≠ q → s j = 0) : us s n = s q := by
  induction n with
  | zero => omega
  | succ n ih =>
    rw [us]
    by_cases e : q = n
    · subst e
      rw [us_congr (t := fun _ => 0) fun j hj => h j (by omega) (by omega), us_zero, zero_ux]
    · rw [ih (by omega) fun j hj hne => h j (by omega) hne, h n (by omega) (by omega), ux_zero]
theorem ud_left {f v : Nat → UInt8} {q n : Nat} (hq : q < n) (h1 : f q = 1) (h : ∀ j, j < n → j ≠ q → f j = 0) : ud f v n = v q := by
  unfold ud
  rw [us_one _ q n hq fun j hj hne => by rw [h j hj hne, zero_um], h1, one_um]
theorem ud_right {f v : Nat → UInt8} {q n : Nat} (hq : q < n) (h1 : v q = 1) (h : ∀ j, j < n → j ≠ q → v j = 0) : ud f v n = f q := by
  rw [ud_comm, ud_left hq h1 h]

/-- The first of n rows, from row i on, whose element in column k isn't 0; else i + n. -/
def ldr (f : Nat → Nat → UInt8) (k i : Nat) : Nat → Nat
  | 0 => i
  | n + 1 => if f i k = 0 then ldr f k (i + 1) n else i
/-- The first row from i on, below r, whose element in column k isn't 0; else r. -/
def lead (f : Nat → Nat → UInt8) (k i r : Nat) : Nat := ldr f k i (r - i)
theorem ldr_at (f : Nat → Nat → UInt8) (k : Nat) : ∀ (n i j : Nat), i ≤ j → j < i + n → (∀ q, i ≤ q → q < j → f q k = 0) → f j k ≠ 0 → ldr f k i n = j
  | 0, i, j, h1, h2, _, _ => by omega
  | n + 1, i, j, h1, h2, h0, h => by
    rw [ldr]
    by_cases e : i = j
    · subst e
      rw [if_neg h]
    · rw [if_pos (h0 i (Nat.le_refl _) (by omega))]
      exact ldr_at f k n (i + 1) j (by omega) (by omega) (fun q hq hq2 => h0 q (by omega) hq2) h
theorem ldr_none (f : Nat → Nat → UInt8) (k : Nat) : ∀ (n i : Nat), (∀ q, i ≤ q → q < i + n → f q k = 0) → ldr f k i n = i + n
  | 0, i, _ => rfl
  | n + 1, i, h0 => by
    rw [ldr, if_pos (h0 i (Nat.le_refl _) (by omega)), ldr_none f k n (i + 1) fun q hq hq2 => h0 q (by omega) (by omega)]
    omega
theorem ldr_spec (f : Nat → Nat → UInt8) (k : Nat) : ∀ (n i : Nat), (∀ q, i ≤ q → q < i + n → f q k = 0) ∨ ∃ j, i ≤ j ∧ j < i + n ∧ (∀ q, i ≤ q → q < j → f q k = 0) ∧ f j k ≠ 0
  | 0, i => .inl fun q h1 h2 => by omega
  | n + 1, i => by
    by_cases h : f i k = 0
    · rcases ldr_spec f k n (i + 1) with g | ⟨j, h1, h2, h3, h4⟩
      · refine .inl fun q h1 h2 => ?_
        by_cases e : q = i
        · subst e; exact h
        · exact g q (by omega) (by omega)
      · refine .inr ⟨j, by omega, by omega, fun q hq hq2 => ?_, h4⟩
        by_cases e : q = i
        · subst e; exact h
        · exact h3 q (by omega) hq2
    · exact .inr ⟨i, Nat.le_refl _, by omega, fun q h1 h2 => by omega, h⟩
theorem lead_at {f : Nat → Nat → UInt8} {k i r j : Nat} (h1 : i ≤ j) (h2 : j < r) (h0 : ∀ q, i ≤ q → q < j → f q k = 0) (h : f j k ≠ 0) : lead f k i r = j := ldr_at f k _ i j h1 (by omega) h0 h
theorem lead_none {f : Nat → Nat → UInt8} {k i r : Nat} (hi : i ≤ r) (h0 : ∀ q, i ≤ q → q < r → f q k = 0) : lead f k i r = r := by
  unfold lead
  rw [ldr_none f k _ i fun q h1 h2 => h0 q h1 (by omega)]
  omega
/-- Either there is none, or there is a first one. -/
theorem lead_spec (f : Nat → Nat → UInt8) (k : Nat) {i r : Nat} (hi : i ≤ r) : (lead f k i r = r ∧ ∀ q, i ≤ q → q < r → f q k = 0) ∨ (i ≤ lead f k i r ∧ lead f k i r < r ∧ f (lead f k i r) k ≠ 0 ∧ ∀ q, i ≤ q → q < lead f k i r → f q k = 0) := by
  rcases ldr_spec f k (r - i) i with g | ⟨j, h1, h2, h3, h4⟩
  · have g' : ∀ q, i ≤ q → q < r → f q k = 0 := fun q h1 h2 => g q h1 (by omega)
    exact .inl ⟨lead_none hi g', g'⟩
  · have e : lead f k i r = j := lead_at h1 (by omega) h3 h4
    exact .inr (by rw [e]; exact ⟨h1, by omega, h4, h3⟩)

/-- Row o, once rows a and i are swapped (o is not a). -/
def swpF (f : Nat → Nat → UInt8) (a i o : Nat) : Nat → UInt8 := if o = i then f a else f o
/-- The row that leads, divided. -/
def pivF (f : Nat → Nat → UInt8) (i k j : Nat) : UInt8 := um (f i j) (ui (f i k))
/-- A column's step: row i to place a, divided; its multiples to all others. -/
def elimF (f : Nat → Nat → UInt8) (a i k o j : Nat) : UInt8 := if o = a then pivF f i k j else swpF f a i o j ^^^ um (pivF f i k j) (swpF f a i o k)
/-- The rank so far, the product of what was divided by, the rows. -/
structure RS where
  rk : Nat
  pr : UInt8
  f : Nat → Nat → UInt8
def stepS (r k : Nat) (s : RS) : RS := if lead s.f k s.rk r < r then ⟨s.rk + 1, um s.pr (s.f (lead s.f k s.rk r) k), elimF s.f s.rk (lead s.f k s.rk r) k⟩ else s
/-- So many columns are brought to steps. -/
def redS (r : Nat) (f : Nat → Nat → UInt8) : Nat → RS
  | 0 => ⟨0, 1, f⟩
  | k + 1 => stepS r k (redS r f k)
theorem stepS_at {r k i : Nat} {s : RS} (h : lead s.f k s.rk r = i) (hi : i < r) : stepS r k s = ⟨s.rk + 1, um s.pr (s.f i k), elimF s.f s.rk i k⟩ := by
  subst h
  unfold stepS
  rw [if_pos hi]
theorem stepS_none {r k : Nat} {s : RS} (h : lead s.f k s.rk r = r) : stepS r k s = s := by
  unfold stepS
  rw [if_neg (by omega)]

/-- What holds behind so many columns; p: where each row's 1 stands. -/
structure SInv (r k : Nat) (s : RS) (p : Nat → Nat) : Prop where
  rk_r : s.rk ≤ r
  rk_k : s.rk ≤ k
  zero : ∀ i j, s.rk ≤ i → i < r → j < k → s.f i j = 0
  lt : ∀ i, i < s.rk → p i < k
  mono : ∀ i, i + 1 < s.rk → p i < p (i + 1)
  one : ∀ i, i < s.rk → s.f i (p i) = 1
  col : ∀ i o, i < s.rk → o < r → o ≠ i → s.f o (p i) = 0
theorem clear_one (x y : UInt8) (h : y ≠ 0) : x ^^^ um (um y (ui y)) x = 0 := by rw [um_ui h, one_um, ux_self]
theorem SInv.step {r k : Nat} {s : RS} {p : Nat → Nat} (h : SInv r k s p) : ∃ p', SInv r (k + 1) (stepS r k s) p' := by
  rcases lead_spec s.f k h.rk_r with ⟨e, hz⟩ | ⟨h1, h2, h3, h4⟩
  · rw [stepS_none e]
    refine ⟨p, h.rk_r, by have := h.rk_k; omega, fun i j hi hr hj => ?_, fun i hi => by have := h.lt i hi; omega, h.mono, h.one, h.col⟩
    by_cases e : j = k
    · subst e
      exact hz i hi hr
    · exact h.zero i j hi hr (by omega)
  · obtain ⟨i, hi⟩ : ∃ i, i = lead s.f k s.rk r := ⟨_, rfl⟩
    rw [stepS_at hi.symm (by omega)]
    rw [← hi] at h1 h2 h3 h4
    have hlt : s.rk < r := by omega
    have sw0 : ∀ o j, s.rk ≤ o → o < r → j < k → swpF s.f s.rk i o j = 0 := fun o j ho hr hj => by
      unfold swpF
      by_cases e : o = i
      · rw [if_pos e]; exact h.zero _ _ (Nat.le_refl _) hlt hj
      · rw [if_neg e]; exact h.zero _ _ ho hr hj
    have pz : ∀ i', i' < s.rk → pivF s.f i k (p i') = 0 := fun i' hi' => by
      unfold pivF
      rw [h.col i' i hi' h2 (by omega), zero_um]
    refine ⟨fun q => if q = s.rk then k else p q, by show s.rk + 1 ≤ r; omega, by show s.rk + 1 ≤ k + 1; have := h.rk_k; omega, fun o j ho hr hj => ?_, fun q hq => ?_, fun q hq => ?_, fun q hq => ?_, fun q o hq ho hne => ?_⟩
    · have ho : s.rk + 1 ≤ o := ho
      show elimF s.f s.rk i k o j = 0
      unfold elimF
      rw [if_neg (by omega)]
      by_cases e : j = k
      · subst e
        exact clear_one _ _ h3
      · rw [sw0 o j (by omega) hr (by omega), zero_ux]
        unfold pivF
        rw [h.zero i j h1 h2 (by omega), zero_um, zero_um]
    · have hq : q < s.rk + 1 := hq
      by_cases e : q = s.rk
      · simp [e]
      · have := h.lt q (by omega)
        simp only [e, if_false]
        omega
    · have hq : q + 1 < s.rk + 1 := hq
      have e1 : q ≠ s.rk := by omega
      by_cases e : q + 1 = s.rk
      · simp only [e1, e, if_false, if_true]
        exact h.lt q (by omega)
      · simp only [e1, e, if_false]
        exact h.mono q (by omega)
    · have hq : q < s.rk + 1 := hq
      show elimF s.f s.rk i k q (if q = s.rk then k else p q) = 1
      unfold elimF
      by_cases e : q = s.rk
      · rw [if_pos e, if_pos e]
        exact um_ui h3
      · rw [if_neg e, if_neg e, pz q (by omega), zero_um, ux_zero]
        unfold swpF
        rw [if_neg (by omega)]
        exact h.one q (by omega)
    · have hq : q < s.rk + 1 := hq
      show elimF s.f s.rk i k o (if q = s.rk then k else p q) = 0
      unfold elimF
      by_cases e : q = s.rk
      · rw [if_pos e, if_neg (by omega)]
        exact clear_one _ _ h3
      · rw [if_neg e, pz q (by omega)]
        by_cases eo : o = s.rk
        · rw [if_pos eo]
        · rw [if_neg eo, zero_um, ux_zero]
          unfold swpF
          by_cases ei : o = i
          · rw [if_pos ei]
            exact h.col q _ (by omega) hlt (by omega)
          · rw [if_neg ei]
            exact h.col q o (by omega) ho hne
theorem redS_inv (r : Nat) (f : Nat → Nat → UInt8) : ∀ k, ∃ p, SInv r k (redS r f k) p
  | 0 => ⟨fun _ => 0, Nat.zero_le _, Nat.le_refl _, fun _ _ _ _ h => absurd h (Nat.not_lt_zero _), fun i h => absurd h (Nat.not_lt_zero _), fun i h => absurd h (Nat.not_lt_zero _), fun i h => absurd h (Nat.not_lt_zero _), fun i o h => absurd h (Nat.not_lt_zero _)⟩
  | k + 1 => by
    obtain ⟨p, h⟩ := redS_inv r f k
    exact h.step
theorem redS_le (r : Nat) (f : Nat → Nat → UInt8) (k : Nat) : (redS r f k).rk ≤ r ∧ (redS r f k).rk ≤ k := by
  obtain ⟨p, h⟩ := redS_inv r f k
  exact ⟨h.rk_r, h.rk_k⟩
/-- The rows from the rank on are noughts. -/
theorem redS_zero {r : Nat} (f : Nat → Nat → UInt8) {k i j : Nat} (h : (redS r f k).rk ≤ i) (hi : i < r) (hj : j < k) : (redS r f k).f i j = 0 := by
  obtain ⟨p, hp⟩ := redS_inv r f k
  exact hp.zero i j h hi hj
/-- Those ahead of it aren't. -/
theorem redS_some {r : Nat} (f : Nat → Nat → UInt8) {k i : Nat} (h : i < (redS r f k).rk) : ∃ j, j < k ∧ (redS r f k).f i j ≠ 0 := by
  obtain ⟨p, hp⟩ := redS_inv r f k
  exact ⟨p i, hp.lt i h, by rw [hp.one i h]; decide⟩
/-- Of whole rank: ones on the diagonal. -/
theorem redS_one {n : Nat} (f : Nat → Nat → UInt8) (h : (redS n f n).rk = n) : EqF n n (redS n f n).f oneF := by
  obtain ⟨p, hp⟩ := redS_inv n f n
  have lo : ∀ i, i < n → i ≤ p i := by
    intro i
    induction i with
    | zero => exact fun _ => Nat.zero_le _
    | succ i ih =>
      intro hi
      have := ih (by omega)
      have := hp.mono i (by omega)
      omega
  have up : ∀ d i, i + d + 1 = n → p i ≤ i := by
    intro d
    induction d with
    | zero =>
      intro i hi
      have := hp.lt i (by omega)
      omega
    | succ d ih =>
      intro i hi
      have := ih (i + 1) (by omega)
      have := hp.mono i (by omega)
      omega
  have pe : ∀ i, i < n → p i = i := fun i hi => Nat.le_antisymm (up (n - 1 - i) i (by omega)) (lo i hi)
  intro i k hi hk
  unfold oneF
  by_cases e : i = k
  · subst e
    rw [if_pos rfl]
    have := hp.one i (by omega)
    rwa [pe i hi] at this
  · rw [if_neg e]
    have := hp.col k i (by omega) hi e
    rwa [pe k hk] at this

/-- The steps hang on what there is alone. -/
theorem lead_congr {f g : Nat → Nat → UInt8} {k i r : Nat} (hi : i ≤ r) (h : ∀ q, q < r → f q k = g q k) : lead f k i r = lead g k i r := by
  rcases lead_spec g k hi with ⟨e, hz⟩ | ⟨h1, h2, h3, h4⟩
  · rw [e]
    exact lead_none hi fun q h1 h2 => by rw [h q h2]; exact hz q h1 h2
  · exact lead_at h1 h2 (fun q hq hq2 => by rw [h q (by omega)]; exact h4 q hq hq2) (by rw [h _ h2]; exact h3)
theorem elimF_congr {r c : Nat} {f g : Nat → Nat → UInt8} {a i k : Nat} (h : EqF r c f g) (ha : a < r) (hi : i < r) (hk : k < c) : EqF r c (elimF f a i k) (elimF g a i k) := by
  intro o j ho hj
  have sw : ∀ j, j < c → swpF f a i o j = swpF g a i o j := fun j hj => by
    unfold swpF
    by_cases e : o = i
    · rw [if_pos e, if_pos e]; exact h a j ha hj
    · rw [if_neg e, if_neg e]; exact h o j ho hj
  have pv : pivF f i k j = pivF g i k j := by unfold pivF; rw [h i j hi hj, h i k hi hk]
  unfold elimF
  rw [sw j hj, sw k hk, pv]
theorem stepS_congr {r c k : Nat} {s t : RS} (hk : k < c) (hr : s.rk ≤ r) (h1 : s.rk = t.rk) (h2 : s.pr = t.pr) (h3 : EqF r c s.f t.f) :
    (stepS r k s).rk = (stepS r k t).rk ∧ (stepS r k s).pr = (stepS r k t).pr ∧ EqF r c (stepS r k s).f (stepS r k t).f := by
  have he : lead s.f k s.rk r = lead t.f k t.rk r := by
    rw [← h1]
    exact lead_congr hr fun q hq => h3 q k hq hk
  rcases lead_spec s.f k hr with ⟨e, hz⟩ | ⟨g1, g2, g3, g4⟩
  · rw [stepS_none e, stepS_none (by rw [← he]; exact e)]
    exact ⟨h1, h2, h3⟩
  · obtain ⟨i, hi⟩ : ∃ i, i = lead s.f k s.rk r := ⟨_, rfl⟩
    rw [stepS_at hi.symm (by omega), stepS_at (i := i) (by rw [← he]; exact hi.symm) (by omega)]
    rw [← hi] at g1 g2
    refine ⟨by show s.rk + 1 = t.rk + 1; omega, by show um s.pr (s.f i k) = um t.pr (t.f i k); rw [h2, h3 i k g2 hk], ?_⟩
    show EqF r c (elimF s.f s.rk i k) (elimF t.f t.rk i k)
    rw [← h1]
    exact elimF_congr h3 (by omega) g2 hk
theorem redS_congr {r c : Nat} {f g : Nat → Nat → UInt8} (h : EqF r c f g) : ∀ k, k ≤ c → (redS r f k).rk = (redS r g k).rk ∧ (redS r f k).pr = (redS r g k).pr ∧ EqF r c (redS r f k).f (redS r g k).f
  | 0, _ => ⟨rfl, rfl, h⟩
  | k + 1, hk => by
    obtain ⟨h1, h2, h3⟩ := redS_congr h k (by omega)
    exact stepS_congr (by omega) (redS_le r f k).1 h1 h2 h3

/-- What a step's rows all come to 0 with, the rows ahead of it come to 0 with, too. -/
theorem ker_step {r k L : Nat} {s : RS} (hr : s.rk ≤ r) (v : Nat → UInt8) (h : ∀ o, o < r → ud ((stepS r k s).f o) v L = 0) : ∀ o, o < r → ud (s.f o) v L = 0 := by
  rcases lead_spec s.f k hr with ⟨e, hz⟩ | ⟨g1, g2, g3, g4⟩
  · rw [stepS_none e] at h
    exact h
  · obtain ⟨i, hi⟩ : ∃ i, i = lead s.f k s.rk r := ⟨_, rfl⟩
    rw [stepS_at hi.symm (by omega)] at h
    rw [← hi] at g1 g2 g3
    have h : ∀ o, o < r → ud (elimF s.f s.rk i k o) v L = 0 := h
    have hp : ud (pivF s.f i k) v L = 0 := by
      have := h s.rk (by omega)
      rwa [show elimF s.f s.rk i k s.rk = pivF s.f i k from funext fun j => by unfold elimF; rw [if_pos rfl]] at this
    have hs : ∀ o, o < r → o ≠ s.rk → ud (swpF s.f s.rk i o) v L = 0 := fun o ho hne => by
      have := h o ho
      rw [show elimF s.f s.rk i k o = fun j => swpF s.f s.rk i o j ^^^ um (pivF s.f i k j) (swpF s.f s.rk i o k) from funext fun j => by unfold elimF; rw [if_neg hne], ud_add, ud_scale, hp, zero_um, ux_zero] at this
      exact this
    have hi0 : ud (s.f i) v L = 0 := by
      have e : ud (pivF s.f i k) v L = um (ud (s.f i) v L) (ui (s.f i k)) := ud_scale _ _ _ _
      rw [hp] at e
      have e2 : um (um (ud (s.f i) v L) (ui (s.f i k))) (s.f i k) = ud (s.f i) v L := by rw [um_assoc, um_comm (ui _), um_ui g3, um_one]
      rw [← e2, ← e, zero_um]
    intro o ho
    by_cases e1 : o = i
    · rw [e1]; exact hi0
    · by_cases e2 : o = s.rk
      · have := hs i g2 (by omega)
        unfold swpF at this
        rw [if_pos rfl] at this
        rw [e2]; exact this
      · have := hs o ho e2
        unfold swpF at this
        rwa [if_neg e1] at this
theorem redS_ker {r L : Nat} (f : Nat → Nat → UInt8) (v : Nat → UInt8) : ∀ k, (∀ o, o < r → ud ((redS r f k).f o) v L = 0) → ∀ o, o < r → ud (f o) v L = 0
  | 0, h => h
  | k + 1, h => redS_ker f v k (ker_step (redS_le r f k).1 v h)

/-- Two matrices side by side. -/
def catF (n : Nat) (a b : Nat → Nat → UInt8) (i j : Nat) : UInt8 := if j < n then a i j else b i (j - n)
theorem catF_left (n : Nat) (a b : Nat → Nat → UInt8) (r : Nat) : EqF r n (catF n a b) a := fun i j _ hj => by unfold catF; rw [if_pos hj]
/-- What stands behind n columns. -/
def offF (n : Nat) (f : Nat → Nat → UInt8) (i j : Nat) : UInt8 := f i (n + j)
/-- What stands behind the ones solves the equations. -/
theorem solve_eq {n m : Nat} (a b : Nat → Nat → UInt8) (h : (redS n (catF n a b) n).rk = n) : EqF n m (mulF n a (offF n (redS n (catF n a b) n).f)) b := by
  intro o q ho hq
  obtain ⟨F, hF⟩ : ∃ F, F = (redS n (catF n a b) n).f := ⟨_, rfl⟩
  obtain ⟨v, hv⟩ : ∃ v : Nat → UInt8, v = fun j => if j < n then F j (n + q) else if j = n + q then 1 else 0 := ⟨_, rfl⟩
  have vr : ∀ f : Nat → UInt8, ud (fun j => f (n + j)) (fun j => v (n + j)) m = f (n + q) := fun f =>
    ud_right (f := fun j => f (n + j)) (v := fun j => v (n + j)) hq (by subst hv; show (if n + q < n then _ else if n + q = n + q then (1 : UInt8) else 0) = 1; rw [if_neg (by omega), if_pos rfl]) (fun j hj hne => by subst hv; show (if n + j < n then _ else if n + j = n + q then (1 : UInt8) else 0) = 0; rw [if_neg (by omega), if_neg (by omega)])
  have vl : ∀ j, j < n → v j = F j (n + q) := fun j hj => by rw [hv]; simp [hj]
  have key := redS_ker (r := n) (L := n + m) (catF n a b) v n fun o ho => by
    rw [← hF, ud_split, vr]
    rw [ud_left (q := o) ho, vl o ho, ux_self]
    · rw [hF, redS_one _ h o o ho ho]; simp [oneF]
    · intro j hj hne
      rw [hF, redS_one _ h o j ho hj]
      unfold oneF
      rw [if_neg (fun e => hne e.symm)]
  have := key o ho
  rw [ud_split, vr] at this
  have := ux_eq this
  rw [show catF n a b o (n + q) = b o q by unfold catF; rw [if_neg (by omega), Nat.add_sub_cancel_left]] at this
  rw [← this, ← hF]
  unfold mulF
  refine ud_congr (fun j hj => ?_) fun j hj => ?_
  · exact (catF_left n a b n o j ho hj).symm
  · rw [vl j hj]
    rfl
end Go.Proofs.Ytbkelijmdpoanaa
