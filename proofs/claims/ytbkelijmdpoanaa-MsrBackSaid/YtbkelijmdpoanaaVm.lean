/- Powers, polynomials, the polynomial through points (Newton's way), matrices of powers, and the elements whose powers are unlike, in plain words. No condition. -/
import Derived.Test.YtbkelijmdpoanaaSvd
namespace Go.Proofs.Ytbkelijmdpoanaa
set_option linter.unusedVariables false
set_option maxRecDepth 20000

/-- A byte's power. -/
def upw (x : UInt8) : Nat → UInt8
  | 0 => 1
  | n + 1 => um (upw x n) x
theorem upw_nat (x : UInt8) : ∀ n, (upw x n).toNat = gpow x.toNat n
  | 0 => rfl
  | n + 1 => by rw [upw, um_nat, upw_nat x n]; rfl
/-- What a polynomial of n coefficients comes to at x. -/
def pv (c : Nat → UInt8) (x : UInt8) (n : Nat) : UInt8 := ud c (upw x) n
theorem pv_congr {c d : Nat → UInt8} {x : UInt8} {n : Nat} (h : ∀ j, j < n → c j = d j) : pv c x n = pv d x n := ud_congr h fun _ _ => rfl
/-- Horner's step. -/
theorem pv_head (c : Nat → UInt8) (x : UInt8) (n : Nat) : pv c x (n + 1) = c 0 ^^^ um (pv (fun j => c (j + 1)) x n) x := by
  unfold pv ud
  rw [us_shift, us_um]
  congr 1
  · exact um_one _
  · exact us_congr fun j _ => by rw [upw, um_assoc]
theorem pv_far {c : Nat → UInt8} (x : UInt8) {m : Nat} (h : ∀ k, m ≤ k → c k = 0) : ∀ {n : Nat}, m ≤ n → pv c x n = pv c x m := by
  intro n hn
  obtain ⟨d, rfl⟩ : ∃ d, n = m + d := ⟨n - m, by omega⟩
  unfold pv
  rw [ud_split]
  have : ud (fun j => c (m + j)) (fun j => upw x (m + j)) d = 0 := by
    unfold ud
    rw [us_congr (t := fun _ => 0) fun j _ => by show um (c (m + j)) _ = 0; rw [h (m + j) (by omega), zero_um], us_zero]
  rw [this, ux_zero]

/-- The polynomial that is nought at the first i points. -/
def zF (p : Nat → UInt8) : Nat → Nat → UInt8
  | 0, k => if k = 0 then 1 else 0
  | i + 1, k => (if k = 0 then 0 else zF p i (k - 1)) ^^^ um (zF p i k) (p i)
theorem zF_far (p : Nat → UInt8) : ∀ i k, i < k → zF p i k = 0
  | 0, k, h => by rw [zF, if_neg (by omega)]
  | i + 1, k, h => by rw [zF, if_neg (by omega), zF_far p i (k - 1) (by omega), zF_far p i k (by omega), zero_um, ux_zero]
/-- What it comes to at x. -/
def zv (p : Nat → UInt8) (x : UInt8) (i : Nat) : UInt8 := pv (zF p i) x (i + 1)
theorem zv_zero (p : Nat → UInt8) (x : UInt8) : zv p x 0 = 1 := by
  unfold zv
  rw [pv_head]
  show zF p 0 0 ^^^ um 0 x = 1
  rw [zero_um, ux_zero]
  rfl
theorem zv_succ (p : Nat → UInt8) (x : UInt8) (i : Nat) : zv p x (i + 1) = um (zv p x i) (x ^^^ p i) := by
  have h1 : zv p x (i + 1) = pv (fun k => if k = 0 then 0 else zF p i (k - 1)) x (i + 2) ^^^ pv (fun k => um (zF p i k) (p i)) x (i + 2) := ud_add _ _ _ _
  have h2 : pv (fun k => if k = 0 then 0 else zF p i (k - 1)) x (i + 2) = um (zv p x i) x := by
    rw [pv_head]
    show (0 : UInt8) ^^^ um (pv (fun j => if j + 1 = 0 then 0 else zF p i (j + 1 - 1)) x (i + 1)) x = _
    rw [zero_ux, pv_congr (d := zF p i) fun j _ => by rw [if_neg (by omega)]; rfl]
    rfl
  have h3 : pv (fun k => um (zF p i k) (p i)) x (i + 2) = um (zv p x i) (p i) := by
    show ud (fun k => um (zF p i k) (p i)) (upw x) (i + 2) = _
    rw [ud_scale]
    congr 1
    exact pv_far x (fun k hk => zF_far p i k (by omega)) (by omega)
  rw [h1, h2, h3, um_xor_right]
theorem zv_at (p : Nat → UInt8) : ∀ i j, j < i → zv p (p j) i = 0
  | 0, j, h => absurd h (Nat.not_lt_zero _)
  | i + 1, j, h => by
    rw [zv_succ]
    by_cases e : j = i
    · rw [e, ux_self, um_zero]
    · rw [zv_at p i j (by omega), zero_um]
theorem zv_ne (p : Nat → UInt8) (x : UInt8) : ∀ i, (∀ j, j < i → x ≠ p j) → zv p x i ≠ 0
  | 0, _ => by rw [zv_zero]; decide
  | i + 1, h => by
    rw [zv_succ]
    exact um_ne (zv_ne p x i fun j hj => h j (by omega)) fun e => h i (by omega) (ux_eq e)

/-- No two of the first n are alike. -/
def Uq (n : Nat) (p : Nat → UInt8) : Prop := ∀ i k, k < i → i < n → p i ≠ p k
theorem Uq.ne {n : Nat} {p : Nat → UInt8} (h : Uq n p) {i : Nat} (hi : i < n) : ∀ j, j < i → p i ≠ p j := fun j hj => h i j hj hi

/-- The factor of Newton's next polynomial. -/
def nfac (p v : Nat → UInt8) (n : Nat) (c : Nat → UInt8) (i : Nat) : UInt8 := um (v i ^^^ pv c (p i) n) (ui (zv p (p i) i))
/-- The coefficients through the first i points. -/
def nF (n : Nat) (p v : Nat → UInt8) : Nat → Nat → UInt8
  | 0, _ => 0
  | i + 1, k => nF n p v i k ^^^ um (nfac p v n (nF n p v i) i) (zF p i k)
theorem nF_pv (n : Nat) (p v : Nat → UInt8) (x : UInt8) {i : Nat} (hi : i < n) : pv (nF n p v (i + 1)) x n = pv (nF n p v i) x n ^^^ um (nfac p v n (nF n p v i) i) (zv p x i) := by
  have h1 : pv (nF n p v (i + 1)) x n = pv (nF n p v i) x n ^^^ pv (fun k => um (nfac p v n (nF n p v i) i) (zF p i k)) x n := ud_add _ _ _ _
  have h2 : pv (fun k => um (nfac p v n (nF n p v i) i) (zF p i k)) x n = um (zv p x i) (nfac p v n (nF n p v i) i) := by
    rw [pv_congr (d := fun k => um (zF p i k) (nfac p v n (nF n p v i) i)) fun j _ => um_comm _ _]
    show ud (fun k => um (zF p i k) _) (upw x) n = _
    rw [ud_scale]
    congr 1
    exact pv_far x (fun k hk => zF_far p i k (by omega)) (by omega)
  rw [h1, h2, um_comm]
theorem nF_at {n : Nat} {p v : Nat → UInt8} (h : Uq n p) : ∀ i, i ≤ n → ∀ j, j < i → pv (nF n p v i) (p j) n = v j
  | 0, _, j, hj => absurd hj (Nat.not_lt_zero _)
  | i + 1, hi, j, hj => by
    rw [nF_pv n p v _ (by omega)]
    by_cases e : j = i
    · subst e
      have hz := zv_ne p (p j) j (h.ne (by omega))
      unfold nfac
      rw [um_assoc, um_comm (ui _), um_ui hz, um_one, ux_comm (v j), ← ux_assoc, ux_self, zero_ux]
    · rw [nF_at h i (by omega) j (by omega), zv_at p i j (by omega), um_zero, ux_zero]

/-- The matrix of powers. -/
def vF (p : Nat → UInt8) (i k : Nat) : UInt8 := upw (p i) k
theorem vF_pv (p c : Nat → UInt8) (i n : Nat) : ud (vF p i) c n = pv c (p i) n := ud_comm _ _ _
/-- What it comes to ones with. -/
def vI (n : Nat) (p : Nat → UInt8) (j q : Nat) : UInt8 := nF n p (fun i => oneF i q) n j
theorem vF_vI {n : Nat} {p : Nat → UInt8} (h : Uq n p) : EqF n n (mulF n (vF p) (vI n p)) oneF := fun i q hi _ => by
  unfold mulF
  rw [vF_pv]
  exact nF_at (v := fun i => oneF i q) h n (Nat.le_refl _) i hi
theorem vF_dets {n : Nat} {p : Nat → UInt8} (h : Uq n p) : um (detF n (vF p)) (detF n (vI n p)) = 1 := by
  rw [← det_prod, detF_congr (vF_vI h), det_one]
theorem whole_of {n : Nat} {f : Nat → Nat → UInt8} (h : detF n f ≠ 0) : (redS n f n).rk = n := (detP_ne n f).1 (by rw [detP_eq]; exact h)
/-- Of unlike points, the matrix is of whole rank. -/
theorem vF_whole {n : Nat} {p : Nat → UInt8} (h : Uq n p) : (redS n (vF p) n).rk = n := whole_of fun e => by
  have := vF_dets h
  rw [e, zero_um] at this
  exact absurd this (by decide)
theorem vI_whole {n : Nat} {p : Nat → UInt8} (h : Uq n p) : (redS n (vI n p) n).rk = n := whole_of fun e => by
  have := vF_dets h
  rw [e, um_zero] at this
  exact absurd this (by decide)
theorem inv_right {n : Nat} {f : Nat → Nat → UInt8} (h : (redS n f n).rk = n) : ∃ g, EqF n n (mulF n f g) oneF := by
  have hc := (redS_congr (catF_left n f oneF n) n (Nat.le_refl _)).1
  exact ⟨_, solve_eq (m := n) f oneF (by omega)⟩
theorem mulF_congr {n r c : Nat} {f f' g g' : Nat → Nat → UInt8} (h : EqF r n f f') (h' : EqF n c g g') : EqF r c (mulF n f g) (mulF n f' g') := fun i k hi hk => ud_congr (fun j hj => h i j hi hj) fun j hj => h' j k hj hk
theorem mulF_one {n c : Nat} (g : Nat → Nat → UInt8) : EqF n c (mulF n oneF g) g := fun i k hi _ => ud_left hi (by simp [oneF]) fun j _ hne => by unfold oneF; rw [if_neg (fun e => hne e.symm)]
theorem one_mulF {n r : Nat} (g : Nat → Nat → UInt8) : EqF r n (mulF n g oneF) g := fun i k _ hk => ud_right hk (by simp [oneF]) fun j _ hne => by unfold oneF; rw [if_neg hne]
theorem vI_vF {n : Nat} {p : Nat → UInt8} (h : Uq n p) : EqF n n (mulF n (vI n p) (vF p)) oneF := by
  obtain ⟨g, hg⟩ := inv_right (vI_whole h)
  have e : EqF n n (vF p) g := fun i k hi hk => by
    have h1 := one_mulF (r := n) (vF p) i k hi hk
    have h2 := mulF_congr (EqF.refl n n (vF p)) hg i k hi hk
    have h3 := mulF_assoc (vF p) (vI n p) g n n i k
    have h4 := mulF_congr (vF_vI h) (EqF.refl n n g) i k hi hk
    have h5 := mulF_one (c := n) g i k hi hk
    rw [← h1, ← h2, ← h3, h4, h5]
  exact (mulF_congr (EqF.refl n n (vI n p)) e).trans hg
/-- Two polynomials of n coefficients that are alike at n unlike points are one. -/
theorem pv_only {n : Nat} {p a b : Nat → UInt8} (h : Uq n p) (hv : ∀ i, i < n → pv a (p i) n = pv b (p i) n) (k : Nat) (hk : k < n) : a k = b k := by
  have key : ∀ c : Nat → UInt8, c k = ud (vI n p k) (fun l => pv c (p l) n) n := fun c => by
    have h1 : ud (oneF k) c n = c k := ud_left hk (by simp [oneF]) fun j _ hne => by unfold oneF; rw [if_neg (fun e => hne e.symm)]
    rw [← h1, ← ud_congr (fun j hj => vI_vF h k j hk hj) (fun _ _ => rfl)]
    show ud (fun j => ud (vI n p k) (fun l => vF p l j) n) c n = _
    rw [ud_assoc]
    exact ud_congr (fun _ _ => rfl) fun l _ => vF_pv p c l n
  rw [key a, key b]
  exact ud_congr (fun _ _ => rfl) hv
/-- The rows of equations. -/
def eqF (n : Nat) (p v : Nat → UInt8) : Nat → Nat → UInt8 := catF n (vF p) fun i _ => v i
/-- What the equations' steps end in is Newton's polynomial. -/
theorem steps_newton {n : Nat} {p v : Nat → UInt8} {f : Nat → Nat → UInt8} (h : Uq n p) (hf : EqF n (n + 1) f (eqF n p v)) (k : Nat) (hk : k < n) : (redS n f (n + 1)).f k n = nF n p v n k := by
  have hc := (redS_congr (catF_left n (vF p) (fun i _ => v i) n) n (Nat.le_refl _)).1
  have hw : (redS n (eqF n p v) n).rk = n := hc.trans (vF_whole h)
  have h1 : redS n (eqF n p v) (n + 1) = redS n (eqF n p v) n := stepS_none (lead_none (by omega) fun q h1 h2 => by omega)
  have h2 := (redS_congr hf (n + 1) (Nat.le_refl _)).2.2 k n hk (by omega)
  rw [h2, h1]
  refine pv_only h (a := fun j => (redS n (eqF n p v) n).f j n) (fun i hi => ?_) k hk
  rw [nF_at h n (Nat.le_refl _) i hi, ← vF_pv]
  exact solve_eq (m := 1) (vF p) (fun i _ => v i) hw i 0 hi (by omega)

/-- The first elements, below x, whose powers are unlike. -/
def fnd (e : Nat) : Nat → List UInt8
  | 0 => []
  | x + 1 => if upw (UInt8.ofNat x) e ∈ (fnd e x).map (fun a => upw a e) then fnd e x else fnd e x ++ [UInt8.ofNat x]
/-- Their powers. -/
def fpw (e x : Nat) : List UInt8 := (fnd e x).map fun a => upw a e
theorem fpw_len (e x : Nat) : (fpw e x).length = (fnd e x).length := by simp [fpw]
theorem fnd_in {e x : Nat} (h : upw (UInt8.ofNat x) e ∈ fpw e x) : fnd e (x + 1) = fnd e x := if_pos h
theorem fnd_new {e x : Nat} (h : upw (UInt8.ofNat x) e ∉ fpw e x) : fnd e (x + 1) = fnd e x ++ [UInt8.ofNat x] := if_neg h
theorem fpw_in {e x : Nat} (h : upw (UInt8.ofNat x) e ∈ fpw e x) : fpw e (x + 1) = fpw e x := by unfold fpw; rw [fnd_in h]
theorem fpw_new {e x : Nat} (h : upw (UInt8.ofNat x) e ∉ fpw e x) : fpw e (x + 1) = fpw e x ++ [upw (UInt8.ofNat x) e] := by
  show (fnd e (x + 1)).map _ = _
  rw [fnd_new h, List.map_append]
  rfl
theorem fnd_pre (e x : Nat) : ∀ d, fnd e x <+: fnd e (x + d)
  | 0 => List.prefix_refl _
  | d + 1 => by
    refine (fnd_pre e x d).trans ?_
    show fnd e (x + d) <+: fnd e (x + d + 1)
    by_cases h : upw (UInt8.ofNat (x + d)) e ∈ fpw e (x + d)
    · rw [fnd_in h]
      exact List.prefix_refl _
    · rw [fnd_new h]
      exact List.prefix_append _ _
theorem fnd_le {e x y : Nat} (h : x ≤ y) : (fnd e x).length ≤ (fnd e y).length := by
  have := (fnd_pre e x (y - x)).length_le
  rwa [show x + (y - x) = y by omega] at this
theorem fnd_take {e x y : Nat} (h : x ≤ y) : (fnd e y).take (fnd e x).length = fnd e x := by
  have := List.prefix_iff_eq_take.1 (fnd_pre e x (y - x))
  rw [show x + (y - x) = y by omega] at this
  exact this.symm
theorem fnd_len (e : Nat) : ∀ x, (fnd e x).length ≤ x
  | 0 => Nat.le_refl _
  | x + 1 => by
    have := fnd_len e x
    by_cases h : upw (UInt8.ofNat x) e ∈ fpw e x
    · rw [fnd_in h]
      omega
    · rw [fnd_new h, List.length_append]
      simp
      omega
theorem fpw_nodup (e : Nat) : ∀ x, (fpw e x).Nodup
  | 0 => List.nodup_nil
  | x + 1 => by
    by_cases h : upw (UInt8.ofNat x) e ∈ fpw e x
    · rw [fpw_in h]
      exact fpw_nodup e x
    · rw [fpw_new h, List.nodup_append]
      exact ⟨fpw_nodup e x, by simp, fun a ha b hb => by
        rw [List.mem_singleton] at hb
        subst hb
        exact fun e' => h (e' ▸ ha)⟩
end Go.Proofs.Ytbkelijmdpoanaa
