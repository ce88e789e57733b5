/- The field of 256 elements in plain words: products, powers, inverses and logarithms of natural numbers below 256, and what holds of them. No condition but the bounds that each line names. -/
namespace Go.Proofs.Ytbkelijmdpoanaa

/-- The product by x. -/
def xt (a : Nat) : Nat := (2 * a) % 256 ^^^ (if a &&& 128 = 0 then 0 else 29)
/-- The product by x, k times. -/
def xts (a : Nat) : Nat → Nat
  | 0 => a
  | k + 1 => xt (xts a k)
/-- The lowest k bits' part of a product. -/
def gacc (a b : Nat) : Nat → Nat
  | 0 => 0
  | k + 1 => gacc a b k ^^^ (if b / 2 ^ k % 2 = 1 then xts a k else 0)
/-- The product. -/
def gmul (a b : Nat) : Nat := gacc a b 8
/-- The power. -/
def gpow (a : Nat) : Nat → Nat
  | 0 => 1
  | n + 1 => gmul (gpow a n) a

theorem xor_lt {a b : Nat} (ha : a < 256) (hb : b < 256) : a ^^^ b < 256 := Nat.xor_lt_two_pow (n := 8) ha hb
theorem xt_lt (a : Nat) : xt a < 256 := by
  unfold xt
  exact xor_lt (Nat.mod_lt _ (by decide)) (by split <;> decide)
theorem xts_lt {a : Nat} (ha : a < 256) (k : Nat) : xts a k < 256 := by
  cases k with
  | zero => exact ha
  | succ k => exact xt_lt _
theorem gacc_lt {a : Nat} (ha : a < 256) (b k : Nat) : gacc a b k < 256 := by
  induction k with
  | zero => exact (by decide : (0 : Nat) < 256)
  | succ k ih =>
    unfold gacc
    refine xor_lt ih ?_
    split
    · exact xts_lt ha k
    · decide
theorem gmul_lt {a : Nat} (ha : a < 256) (b : Nat) : gmul a b < 256 := gacc_lt ha b 8
theorem gpow_lt {a : Nat} (n : Nat) : gpow a n < 256 := by
  induction n with
  | zero => exact (by decide : (1 : Nat) < 256)
  | succ n ih => exact gmul_lt ih a

theorem and_pow (a i : Nat) : a &&& 2 ^ i = if a.testBit i then 2 ^ i else 0 := by
  apply Nat.eq_of_testBit_eq
  intro j
  rw [Nat.testBit_and, Nat.testBit_two_pow]
  by_cases h : i = j
  · subst h
    cases a.testBit i <;> simp
  · cases a.testBit i <;> simp [h]
theorem mod_bit (a : Nat) : a &&& 128 = 0 ↔ a.testBit 7 = false := by
  have h := and_pow a 7
  cases h7 : a.testBit 7 <;> simp [h7] at h ⊢ <;> simp [h]
theorem xt_xor (a b : Nat) : xt (a ^^^ b) = xt a ^^^ xt b := by
  have e : (2 * (a ^^^ b)) % 256 = (2 * a) % 256 ^^^ (2 * b) % 256 := by
    have h : 2 * (a ^^^ b) = (2 * a) ^^^ (2 * b) := by
      have := Nat.shiftLeft_xor_distrib (a := a) (b := b) (i := 1)
      simpa [Nat.shiftLeft_eq, Nat.mul_comm] using this
    rw [h]
    exact Nat.xor_mod_two_pow (n := 8)
  unfold xt
  rw [e]
  have h := Nat.testBit_xor a b 7
  by_cases ha : a &&& 128 = 0 <;> by_cases hb : b &&& 128 = 0
  · have hc : (a ^^^ b) &&& 128 = 0 := by rw [mod_bit] at *; simp [h, ha, hb]
    simp [ha, hb, hc]
  · have hc : ¬ ((a ^^^ b) &&& 128 = 0) := by rw [mod_bit] at *; simp_all
    simp only [ha, hb, hc, if_true, if_false, Nat.xor_zero]
    ac_rfl
  · have hc : ¬ ((a ^^^ b) &&& 128 = 0) := by rw [mod_bit] at *; simp_all
    simp only [ha, hb, hc, if_true, if_false, Nat.xor_zero]
    ac_rfl
  · have hc : (a ^^^ b) &&& 128 = 0 := by rw [mod_bit] at *; simp_all
    simp only [ha, hb, hc, if_true, if_false, Nat.xor_zero]
    have : ∀ x y : Nat, x ^^^ y = x ^^^ 29 ^^^ (y ^^^ 29) := fun x y => by
      have h29 : (29 : Nat) ^^^ 29 = 0 := rfl
      calc x ^^^ y = x ^^^ y ^^^ (29 ^^^ 29) := by rw [h29, Nat.xor_zero]
        _ = _ := by ac_rfl
    exact this _ _
theorem xts_xor (a b k : Nat) : xts (a ^^^ b) k = xts a k ^^^ xts b k := by
  induction k with
  | zero => rfl
  | succ k ih => show xt _ = xt _ ^^^ xt _; rw [ih, xt_xor]
theorem xor4 (a b c d : Nat) : a ^^^ b ^^^ (c ^^^ d) = a ^^^ c ^^^ (b ^^^ d) := by ac_rfl
theorem xor_can (a b : Nat) : a ^^^ b ^^^ b = a := by rw [Nat.xor_assoc, Nat.xor_self, Nat.xor_zero]
theorem gacc_xor_left (a b c k : Nat) : gacc (a ^^^ b) c k = gacc a c k ^^^ gacc b c k := by
  induction k with
  | zero => simp [gacc]
  | succ k ih =>
    unfold gacc
    rw [ih, xts_xor, xor4]
    congr 1
    split <;> simp
theorem bit_xor (a b k : Nat) : ((a ^^^ b) / 2 ^ k % 2 = 1) ↔ ¬ ((a / 2 ^ k % 2 = 1) ↔ (b / 2 ^ k % 2 = 1)) := by
  have h := Nat.testBit_xor a b k
  simp only [Nat.testBit_eq_decide_div_mod_eq] at h
  by_cases h1 : a / 2 ^ k % 2 = 1 <;> by_cases h2 : b / 2 ^ k % 2 = 1 <;> by_cases h3 : (a ^^^ b) / 2 ^ k % 2 = 1 <;> simp [h1, h2, h3] at h ⊢
theorem gacc_xor_right (a b c k : Nat) : gacc a (b ^^^ c) k = gacc a b k ^^^ gacc a c k := by
  induction k with
  | zero => simp [gacc]
  | succ k ih =>
    unfold gacc
    rw [ih, xor4]
    congr 1
    have h := bit_xor b c k
    by_cases h1 : b / 2 ^ k % 2 = 1 <;> by_cases h2 : c / 2 ^ k % 2 = 1 <;> simp [h, h1, h2]
theorem gmul_xor_left (a b c : Nat) : gmul (a ^^^ b) c = gmul a c ^^^ gmul b c := gacc_xor_left a b c 8
theorem gmul_xor_right (a b c : Nat) : gmul a (b ^^^ c) = gmul a b ^^^ gmul a c := gacc_xor_right a b c 8

/-- A number below 256 is the sum of its bits. -/
theorem bits_sum : ∀ a, a < 256 → a = (a &&& 1) ^^^ ((a &&& 2) ^^^ ((a &&& 4) ^^^ ((a &&& 8) ^^^ ((a &&& 16) ^^^ ((a &&& 32) ^^^ ((a &&& 64) ^^^ (a &&& 128))))))) := by decide +kernel
theorem and_bit (a i : Nat) : a &&& 2 ^ i = 0 ∨ a &&& 2 ^ i = 2 ^ i := by
  rw [and_pow]
  cases a.testBit i <;> simp
/-- Two sums of bits are the same if they are so at each bit. -/
theorem lin_ext {f g : Nat → Nat} (hf : ∀ a b, f (a ^^^ b) = f a ^^^ f b) (hg : ∀ a b, g (a ^^^ b) = g a ^^^ g b) (h : ∀ i, i < 8 → f (2 ^ i) = g (2 ^ i)) (a : Nat) (ha : a < 256) : f a = g a := by
  have f0 : f 0 = 0 := by have := hf 0 0; rw [Nat.xor_self] at this; rw [this, Nat.xor_self]
  have g0 : g 0 = 0 := by have := hg 0 0; rw [Nat.xor_self] at this; rw [this, Nat.xor_self]
  have hb : ∀ i, i < 8 → f (a &&& 2 ^ i) = g (a &&& 2 ^ i) := fun i hi => by
    rcases and_bit a i with e | e
    · rw [e, f0, g0]
    · rw [e, h i hi]
  have e := bits_sum a ha
  rw [e]
  simp only [hf, hg]
  have h0 : f (a &&& 1) = g (a &&& 1) := hb 0 (by decide)
  have h1 : f (a &&& 2) = g (a &&& 2) := hb 1 (by decide)
  have h2 : f (a &&& 4) = g (a &&& 4) := hb 2 (by decide)
  have h3 : f (a &&& 8) = g (a &&& 8) := hb 3 (by decide)
  have h4 : f (a &&& 16) = g (a &&& 16) := hb 4 (by decide)
  have h5 : f (a &&& 32) = g (a &&& 32) := hb 5 (by decide)
  have h6 : f (a &&& 64) = g (a &&& 64) := hb 6 (by decide)
  have h7 : f (a &&& 128) = g (a &&& 128) := hb 7 (by decide)
  rw [h0, h1, h2, h3, h4, h5, h6, h7]

theorem comm_bits : ∀ i, i < 8 → ∀ j, j < 8 → gmul (2 ^ i) (2 ^ j) = gmul (2 ^ j) (2 ^ i) := by decide +kernel
theorem gmul_comm {a b : Nat} (ha : a < 256) (hb : b < 256) : gmul a b = gmul b a :=
  lin_ext (f := fun a => gmul a b) (g := fun a => gmul b a) (fun x y => gmul_xor_left x y b) (fun x y => gmul_xor_right b x y)
    (fun i hi => lin_ext (f := fun b => gmul (2 ^ i) b) (g := fun b => gmul b (2 ^ i)) (fun x y => gmul_xor_right _ x y) (fun x y => gmul_xor_left x y _) (fun j hj => comm_bits i hi j hj) b hb) a ha
theorem assoc_bits : ∀ i, i < 8 → ∀ j, j < 8 → ∀ k, k < 8 → gmul (gmul (2 ^ i) (2 ^ j)) (2 ^ k) = gmul (2 ^ i) (gmul (2 ^ j) (2 ^ k)) := by decide +kernel
theorem gmul_assoc {a b c : Nat} (ha : a < 256) (hb : b < 256) (hc : c < 256) : gmul (gmul a b) c = gmul a (gmul b c) :=
  lin_ext (f := fun a => gmul (gmul a b) c) (g := fun a => gmul a (gmul b c)) (fun x y => by simp only [gmul_xor_left]) (fun x y => by simp only [gmul_xor_left])
    (fun i hi => lin_ext (f := fun b => gmul (gmul (2 ^ i) b) c) (g := fun b => gmul (2 ^ i) (gmul b c)) (fun x y => by simp only [gmul_xor_left, gmul_xor_right]) (fun x y => by simp only [gmul_xor_left, gmul_xor_right])
      (fun j hj => lin_ext (f := fun c => gmul (gmul (2 ^ i) (2 ^ j)) c) (g := fun c => gmul (2 ^ i) (gmul (2 ^ j) c)) (fun x y => by simp only [gmul_xor_right]) (fun x y => by simp only [gmul_xor_right])
        (fun k hk => assoc_bits i hi j hj k hk) c hc) b hb) a ha
theorem one_bits : ∀ i, i < 8 → gmul (2 ^ i) 1 = 2 ^ i := by decide +kernel
theorem gmul_one {a : Nat} (ha : a < 256) : gmul a 1 = a := lin_ext (f := fun a => gmul a 1) (g := fun a => a) (fun x y => gmul_xor_left x y 1) (fun _ _ => rfl) one_bits a ha
theorem one_gmul {a : Nat} (ha : a < 256) : gmul 1 a = a := by rw [gmul_comm (by decide) ha, gmul_one ha]
theorem zero_gmul (a : Nat) : gmul 0 a = 0 := by
  have := gmul_xor_left 0 0 a
  rw [Nat.xor_self] at this
  rw [this, Nat.xor_self]
theorem gmul_zero (a : Nat) : gmul a 0 = 0 := by
  have := gmul_xor_right a 0 0
  rw [Nat.xor_self] at this
  rw [this, Nat.xor_self]

theorem gpow_one {a : Nat} (ha : a < 256) : gpow a 1 = a := one_gmul ha
theorem gpow_add {a : Nat} (ha : a < 256) (m n : Nat) : gpow a (m + n) = gmul (gpow a m) (gpow a n) := by
  induction n with
  | zero => rw [Nat.add_zero]; exact (gmul_one (gpow_lt m)).symm
  | succ n ih =>
    show gmul (gpow a (m + n)) a = gmul (gpow a m) (gmul (gpow a n) a)
    rw [ih, gmul_assoc (gpow_lt m) (gpow_lt n) ha]
theorem gpow_mul {a : Nat} (ha : a < 256) (m n : Nat) : gpow a (m * n) = gpow (gpow a m) n := by
  induction n with
  | zero => rfl
  | succ n ih => rw [Nat.mul_succ, gpow_add ha, ih]; rfl
theorem gpow_sq {a : Nat} (ha : a < 256) (n : Nat) : gpow (gmul a a) n = gpow a (2 * n) := by
  have : gpow a 2 = gmul a a := by show gmul (gpow a 1) a = _; rw [gpow_one ha]
  rw [gpow_mul ha, this]
theorem gpow_zero_succ (n : Nat) : gpow 0 (n + 1) = 0 := gmul_zero _
theorem one_gpow (n : Nat) : gpow 1 n = 1 := by
  induction n with
  | zero => rfl
  | succ n ih => show gmul _ 1 = 1; rw [ih]; decide +kernel
/-- a to 255, by squares. -/
def p255 (a : Nat) : Nat :=
  let a2 := gmul a a
  let a4 := gmul a2 a2
  let a8 := gmul a4 a4
  let a16 := gmul a8 a8
  let a32 := gmul a16 a16
  let a64 := gmul a32 a32
  let a128 := gmul a64 a64
  gmul a128 (gmul a64 (gmul a32 (gmul a16 (gmul a8 (gmul a4 (gmul a2 a))))))
theorem p255_eq {a : Nat} (ha : a < 256) : p255 a = gpow a 255 := by
  have h1 := gpow_one ha
  have d : ∀ n, gmul (gpow a n) (gpow a n) = gpow a (n + n) := fun n => (gpow_add ha n n).symm
  have e : ∀ m n, gmul (gpow a m) (gpow a n) = gpow a (m + n) := fun m n => (gpow_add ha m n).symm
  unfold p255
  have : ∀ x, x = gpow a 1 → (let a2 := gmul x x; let a4 := gmul a2 a2; let a8 := gmul a4 a4; let a16 := gmul a8 a8; let a32 := gmul a16 a16; let a64 := gmul a32 a32; let a128 := gmul a64 a64; gmul a128 (gmul a64 (gmul a32 (gmul a16 (gmul a8 (gmul a4 (gmul a2 x))))))) = gpow a 255 := by
    rintro x rfl
    simp only [d, e]
  exact this a h1.symm
theorem p255_one : ∀ a, a < 256 → a ≠ 0 → p255 a = 1 := by decide +kernel
theorem gpow_255 {a : Nat} (ha : a < 256) (h : a ≠ 0) : gpow a 255 = 1 := by rw [← p255_eq ha]; exact p255_one a ha h
theorem gpow_mod {a : Nat} (ha : a < 256) (h : a ≠ 0) (n : Nat) : gpow a (n % 255) = gpow a n := by
  have e := Nat.div_add_mod n 255
  conv => rhs; rw [← e]
  rw [gpow_add ha, gpow_mul ha, gpow_255 ha h, one_gpow, one_gmul (gpow_lt _)]
/-- A power with the exponent brought to 1 .. 255. -/
theorem gpow_low {a : Nat} (ha : a < 256) (n : Nat) (hn : 0 < n) : gpow a ((n - 1) % 255 + 1) = gpow a n := by
  by_cases h : a = 0
  · subst h
    obtain ⟨m, rfl⟩ : ∃ m, n = m + 1 := ⟨n - 1, by omega⟩
    rw [gpow_zero_succ, gpow_zero_succ]
  · obtain ⟨m, rfl⟩ : ∃ m, n = m + 1 := ⟨n - 1, by omega⟩
    show gmul (gpow a (m % 255)) a = gmul (gpow a m) a
    rw [gpow_mod ha h]
/-- The inverse. -/
def ginv (a : Nat) : Nat := gpow a 254
theorem ginv_lt (a : Nat) : ginv a < 256 := gpow_lt 254
theorem ginv_mul {a : Nat} (ha : a < 256) (h : a ≠ 0) : gmul (ginv a) a = 1 := gpow_255 ha h
theorem gmul_ginv {a : Nat} (ha : a < 256) (h : a ≠ 0) : gmul a (ginv a) = 1 := by rw [gmul_comm ha (ginv_lt a), ginv_mul ha h]
theorem ginv_unique {a b : Nat} (ha : a < 256) (hb : b < 256) (h : gmul a b = 1) : b = ginv a := by
  have h0 : a ≠ 0 := by rintro rfl; rw [zero_gmul] at h; cases h
  have : gmul (ginv a) (gmul a b) = gmul (ginv a) 1 := by rw [h]
  rw [← gmul_assoc (ginv_lt a) ha hb, ginv_mul ha h0, one_gmul hb, gmul_one (ginv_lt a)] at this
  exact this
theorem ginv_ne {a : Nat} (ha : a < 256) (h : a ≠ 0) : ginv a ≠ 0 := by
  intro e
  have := gmul_ginv ha h
  rw [e, gmul_zero] at this
  cases this

theorem gmul_two (p : Nat) (hp : p < 256) : gmul p 2 = xt p :=
  lin_ext (f := fun a => gmul a 2) (g := xt) (fun x y => gmul_xor_left x y 2) xt_xor (by decide +kernel) p hp
theorem gpow_two_succ (n : Nat) : gpow 2 (n + 1) = xt (gpow 2 n) := gmul_two _ (gpow_lt n)
theorem gpow_two (n : Nat) : gpow 2 n = xts 1 n := by
  induction n with
  | zero => rfl
  | succ n ih => rw [gpow_two_succ, ih]; rfl
theorem two_order : ∀ d, d < 255 → 0 < d → xts 1 d ≠ 1 := by decide +kernel
theorem gpow_two_ne (i : Nat) : gpow 2 i ≠ 0 := by
  intro z
  have h255 : gpow 2 (255 * (i + 1)) = 1 := by rw [gpow_mul (by decide), gpow_255 (by decide) (by decide), one_gpow]
  have : gpow 2 (255 * (i + 1)) = gmul (gpow 2 i) (gpow 2 (255 * (i + 1) - i)) := by rw [← gpow_add (by decide)]; congr 1; omega
  rw [h255, z, zero_gmul] at this
  cases this
theorem gpow_two_inj {i j : Nat} (hi : i < 255) (hj : j < 255) (h : gpow 2 i = gpow 2 j) : i = j := by
  have key : ∀ i j, i < 255 → j < 255 → gpow 2 i = gpow 2 j → ¬ i < j := by
    intro i j hi hj h hlt
    have hd : gpow 2 (j - i) = 1 := by
      have e : gpow 2 j = gmul (gpow 2 i) (gpow 2 (j - i)) := by rw [← gpow_add (by decide)]; congr 1; omega
      rw [← h] at e
      have h0 := gpow_two_ne i
      have : gmul (ginv (gpow 2 i)) (gpow 2 i) = gmul (ginv (gpow 2 i)) (gmul (gpow 2 i) (gpow 2 (j - i))) := by rw [← e]
      rw [← gmul_assoc (ginv_lt _) (gpow_lt _) (gpow_lt _), ginv_mul (gpow_lt _) h0, one_gmul (gpow_lt _)] at this
      exact this.symm
    rw [gpow_two] at hd
    exact two_order _ (by omega) (by omega) hd
  have h1 := key i j hi hj h
  have h2 := key j i hj hi h.symm
  omega
/-- The exponent, searched from n on, where 2 to n is p. -/
def find (a : Nat) : Nat → Nat → Nat → Nat
  | 0, _, n => n
  | f + 1, p, n => if p = a then n else find a f (xt p) (n + 1)
theorem find_is : ∀ a, a < 256 → a ≠ 0 → find a 255 1 0 < 255 ∧ xts 1 (find a 255 1 0) = a := by decide +kernel
/-- The logarithm of what isn't 0. -/
def glog (a : Nat) : Nat := find a 255 1 0
theorem glog_lt {a : Nat} (ha : a < 256) (h : a ≠ 0) : glog a < 255 := (find_is a ha h).1
theorem gpow_glog {a : Nat} (ha : a < 256) (h : a ≠ 0) : gpow 2 (glog a) = a := by rw [gpow_two]; exact (find_is a ha h).2
theorem glog_gpow {n : Nat} (hn : n < 255) : glog (gpow 2 n) = n :=
  gpow_two_inj (glog_lt (gpow_lt n) (gpow_two_ne n)) hn (gpow_glog (gpow_lt n) (gpow_two_ne n))
/-- The logarithm as the calls tell it: below 0 if there is none. -/
def glogI (a : Nat) : Int := if a = 0 then -1 else (glog a : Int)
theorem gmul_logs {a b : Nat} (ha : a < 256) (hb : b < 256) (h1 : a ≠ 0) (h2 : b ≠ 0) : gpow 2 ((glog a + glog b) % 255) = gmul a b := by
  rw [gpow_mod (by decide) (by decide), gpow_add (by decide), gpow_glog ha h1, gpow_glog hb h2]

/-- What the document's product is ahead of being brought down. -/
def racc (a b : Nat) : Nat → Nat
  | 0 => 0
  | k + 1 => racc a b k ^^^ (if b / 2 ^ k % 2 = 1 then a * 2 ^ k else 0)
/-- Brought down by k steps, from bit 14 on. -/
def rdown (p : Nat) : Nat → Nat
  | 0 => p
  | k + 1 => rdown p k ^^^ (if rdown p k / 2 ^ (14 - k) % 2 = 1 then 285 * 2 ^ (14 - k - 8) else 0)
theorem racc_lt {a : Nat} (ha : a < 256) (b : Nat) : ∀ k, k ≤ 8 → racc a b k < 2 ^ 15 := by
  intro k
  induction k with
  | zero => intro _; exact (by decide : (0 : Nat) < 2 ^ 15)
  | succ k ih =>
    intro hk
    unfold racc
    refine Nat.xor_lt_two_pow (ih (by omega)) ?_
    split
    · have : 2 ^ k ≤ 2 ^ 7 := Nat.pow_le_pow_right (by decide) (by omega)
      have h1 : a * 2 ^ k ≤ 255 * 2 ^ 7 := Nat.mul_le_mul (by omega) this
      exact Nat.lt_of_le_of_lt h1 (by decide)
    · decide
theorem rdown_lt {p : Nat} (hp : p < 2 ^ 15) : ∀ k, k ≤ 7 → rdown p k < 2 ^ 15 := by
  intro k
  induction k with
  | zero => intro _; exact hp
  | succ k ih =>
    intro hk
    unfold rdown
    refine Nat.xor_lt_two_pow (ih (by omega)) ?_
    split
    · have : 2 ^ (14 - k - 8) ≤ 2 ^ 6 := Nat.pow_le_pow_right (by decide) (by omega)
      have h1 : 285 * 2 ^ (14 - k - 8) ≤ 285 * 2 ^ 6 := Nat.mul_le_mul (by omega) this
      exact Nat.lt_of_le_of_lt h1 (by decide)
    · decide
theorem racc_xor_left (a b c k : Nat) : racc (a ^^^ b) c k = racc a c k ^^^ racc b c k := by
  induction k with
  | zero => simp [racc]
  | succ k ih =>
    unfold racc
    rw [ih, xor4]
    congr 1
    split
    · simp only [← Nat.shiftLeft_eq]
      exact Nat.shiftLeft_xor_distrib
    · simp
theorem racc_xor_right (a b c k : Nat) : racc a (b ^^^ c) k = racc a b k ^^^ racc a c k := by
  induction k with
  | zero => simp [racc]
  | succ k ih =>
    unfold racc
    rw [ih, xor4]
    congr 1
    have h := bit_xor b c k
    by_cases h1 : b / 2 ^ k % 2 = 1 <;> by_cases h2 : c / 2 ^ k % 2 = 1 <;> simp [h, h1, h2]
theorem rdown_xor (p q k : Nat) : rdown (p ^^^ q) k = rdown p k ^^^ rdown q k := by
  induction k with
  | zero => rfl
  | succ k ih =>
    show rdown (p ^^^ q) k ^^^ _ = (rdown p k ^^^ _) ^^^ (rdown q k ^^^ _)
    rw [ih, xor4]
    congr 1
    have h := bit_xor (rdown p k) (rdown q k) (14 - k)
    by_cases h1 : rdown p k / 2 ^ (14 - k) % 2 = 1 <;> by_cases h2 : rdown q k / 2 ^ (14 - k) % 2 = 1 <;> simp [h, h1, h2]
/-- The document's product. -/
def rmul (a b : Nat) : Nat := rdown (racc a b 8) 7 % 256
theorem mod_xor (a b : Nat) : (a ^^^ b) % 256 = a % 256 ^^^ b % 256 := Nat.xor_mod_two_pow (n := 8)
theorem rmul_bits : ∀ i, i < 8 → ∀ j, j < 8 → rmul (2 ^ i) (2 ^ j) = gmul (2 ^ i) (2 ^ j) := by decide +kernel
theorem rmul_eq {a b : Nat} (ha : a < 256) (hb : b < 256) : rmul a b = gmul a b :=
  lin_ext (f := fun a => rmul a b) (g := fun a => gmul a b) (fun x y => by simp only [rmul, racc_xor_left, rdown_xor, mod_xor]) (fun x y => gmul_xor_left x y b)
    (fun i hi => lin_ext (f := fun b => rmul (2 ^ i) b) (g := fun b => gmul (2 ^ i) b) (fun x y => by simp only [rmul, racc_xor_right, rdown_xor, mod_xor]) (fun x y => gmul_xor_right _ x y)
      (fun j hj => rmul_bits i hi j hj) b hb) a ha
end Go.Proofs.Ytbkelijmdpoanaa
