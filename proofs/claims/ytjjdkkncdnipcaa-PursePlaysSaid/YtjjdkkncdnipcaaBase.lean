/- The field of 256 elements in plain words: products, powers, inverses and logarithms of natural numbers below 256, and what holds of them. No condition but the bounds that each line names; Bytes as the field's elements, sums of products, and matrices as functions, in plain words. No condition; Memory in plain words, for any program: what a step keeps, bytes that a slice reads as, and a row of bytes that the call made and appends to. No condition; Package gf's sums and products, each as a contract: what the call returns, with memory as it was; A byte's type, rows of bytes of the call's own, make and bytes.Clone, each as a contract over memory; A row of bytes of the call's own: its block, its cells, one of them set. No condition; A matrix in memory, and package mat's New, Size and row, each as a contract over memory; Package mat's At, Set, Row, Copy, Same and Dot, each as a contract over memory; Package mat's Dot and Turned, each as a contract over memory; Slices of slices of bytes: what they read as, and rows of them that the call made and appends to; Package mat's Of and One, each as a contract over memory; The document's product (coldframeref02) as a contract: it returns the same as the field's product, with memory as it was; The document's answers for matrices that only read (Right, Same, At, Dot), and the laws' small and awake, each as a contract over memory; The laws' rows of a matrix, as a contract over memory. -/
import Derived.WalkKit
import Derived.Maps.AppendAt
import Derived.Laws.IdiomStrings
import Derived.Deep.Draws
import Derived.DataReads
import Derived.BigFrame
import Derived.Test.YtjjdkkncdnipcaaProg
import Derived.WalkLawsBesides
import Derived.WalkSpells
import Derived.KernelRfl
import Derived.Laws.BitsAllLaws
import Derived.Laws.OwnMore
import Derived.BigQuiet
import Derived.Deep.RegionHeld3
import Derived.Deep.QuietTactic
import Derived.Laws.CopyOwn
namespace Go.Proofs.Ytjjdkkncdnipcaa

/-- The product by x. -/
def xt (a : Nat) : Nat := (2 * a) % 256 ^^^ (if a &&& 128 = 0 then 0 else 29)
/-- The product by x, k times. -/
def xts (a : Nat) : Nat → Nat
  | 0 => a
  | k + 1 => xt (xts a k)
/-- The lowest k bits' part of a product. -/
def gacc (a b : Nat) : Nat → Nat
  | 0 => 0
  | k + 1 => gacc a b k ^^^ (if b / 2 ^ k % 2 = 1 then xts a k else 0)
/-- The product. -/
def gmul (a b : Nat) : Nat := gacc a b 8
/-- The power. -/
def gpow (a : Nat) : Nat → Nat
  | 0 => 1
  | n + 1 => gmul (gpow a n) a

theorem xor_lt {a b : Nat} (ha : a < 256) (hb : b < 256) : a ^^^ b < 256 := Nat.xor_lt_two_pow (n := 8) ha hb
theorem xt_lt (a : Nat) : xt a < 256 := by
  unfold xt
  exact xor_lt (Nat.mod_lt _ (by decide)) (by split <;> decide)
theorem xts_lt {a : Nat} (ha : a < 256) (k : Nat) : xts a k < 256 := by
  cases k with
  | zero => exact ha
  | succ k => exact xt_lt _
theorem gacc_lt {a : Nat} (ha : a < 256) (b k : Nat) : gacc a b k < 256 := by
  induction k with
  | zero => exact (by decide : (0 : Nat) < 256)
  | succ k ih =>
    unfold gacc
    refine xor_lt ih ?_
    split
    · exact xts_lt ha k
    · decide
theorem gmul_lt {a : Nat} (ha : a < 256) (b : Nat) : gmul a b < 256 := gacc_lt ha b 8
theorem gpow_lt {a : Nat} (n : Nat) : gpow a n < 256 := by
  induction n with
  | zero => exact (by decide : (1 : Nat) < 256)
  | succ n ih => exact gmul_lt ih a

theorem and_pow (a i : Nat) : a &&& 2 ^ i = if a.testBit i then 2 ^ i else 0 := by
  apply Nat.eq_of_testBit_eq
  intro j
  rw [Nat.testBit_and, Nat.testBit_two_pow]
  by_cases h : i = j
  · subst h
    cases a.testBit i <;> simp
  · cases a.testBit i <;> simp [h]
theorem mod_bit (a : Nat) : a &&& 128 = 0 ↔ a.testBit 7 = false := by
  have h := and_pow a 7
  cases h7 : a.testBit 7 <;> simp [h7] at h ⊢ <;> simp [h]
theorem xt_xor (a b : Nat) : xt (a ^^^ b) = xt a ^^^ xt b := by
  have e : (2 * (a ^^^ b)) % 256 = (2 * a) % 256 ^^^ (2 * b) % 256 := by
    have h : 2 * (a ^^^ b) = (2 * a) ^^^ (2 * b) := by
      have := Nat.shiftLeft_xor_distrib (a := a) (b := b) (i := 1)
      simpa [Nat.shiftLeft_eq, Nat.mul_comm] using this
    rw [h]
    exact Nat.xor_mod_two_pow (n := 8)
  unfold xt
  rw [e]
  have h := Nat.testBit_xor a b 7
  by_cases ha : a &&& 128 = 0 <;> by_cases hb : b &&& 128 = 0
  · have hc : (a ^^^ b) &&& 128 = 0 := by rw [mod_bit] at *; simp [h, ha, hb]
    simp [ha, hb, hc]
  · have hc : ¬ ((a ^^^ b) &&& 128 = 0) := by rw [mod_bit] at *; simp_all
    simp only [ha, hb, hc, if_true, if_false, Nat.xor_zero]
    ac_rfl
  · have hc : ¬ ((a ^^^ b) &&& 128 = 0) := by rw [mod_bit] at *; simp_all
    simp only [ha, hb, hc, if_true, if_false, Nat.xor_zero]
    ac_rfl
  · have hc : (a ^^^ b) &&& 128 = 0 := by rw [mod_bit] at *; simp_all
    simp only [ha, hb, hc, if_true, if_false, Nat.xor_zero]
    have : ∀ x y : Nat, x ^^^ y = x ^^^ 29 ^^^ (y ^^^ 29) := fun x y => by
      have h29 : (29 : Nat) ^^^ 29 = 0 := rfl
      calc x ^^^ y = x ^^^ y ^^^ (29 ^^^ 29) := by rw [h29, Nat.xor_zero]
        _ = _ := by ac_rfl
    exact this _ _
theorem xts_xor (a b k : Nat) : xts (a ^^^ b) k = xts a k ^^^ xts b k := by
  induction k with
  | zero => rfl
  | succ k ih => show xt _ = xt _ ^^^ xt _; rw [ih, xt_xor]
theorem xor4 (a b c d : Nat) : a ^^^ b ^^^ (c ^^^ d) = a ^^^ c ^^^ (b ^^^ d) := by ac_rfl
theorem xor_can (a b : Nat) : a ^^^ b ^^^ b = a := by rw [Nat.xor_assoc, Nat.xor_self, Nat.xor_zero]
theorem gacc_xor_left (a b c k : Nat) : gacc (a ^^^ b) c k = gacc a c k ^^^ gacc b c k := by
  induction k with
  | zero => simp [gacc]
  | succ k ih =>
    unfold gacc
    rw [ih, xts_xor, xor4]
    congr 1
    split <;> simp
theorem bit_xor (a b k : Nat) : ((a ^^^ b) / 2 ^ k % 2 = 1) ↔ ¬ ((a / 2 ^ k % 2 = 1) ↔ (b / 2 ^ k % 2 = 1)) := by
  have h := Nat.testBit_xor a b k
  simp only [Nat.testBit_eq_decide_div_mod_eq] at h
  by_cases h1 : a / 2 ^ k % 2 = 1 <;> by_cases h2 : b / 2 ^ k % 2 = 1 <;> by_cases h3 : (a ^^^ b) / 2 ^ k % 2 = 1 <;> simp [h1, h2, h3] at h ⊢
theorem gacc_xor_right (a b c k : Nat) : gacc a (b ^^^ c) k = gacc a b k ^^^ gacc a c k := by
  induction k with
  | zero => simp [gacc]
  | succ k ih =>
    unfold gacc
    rw [ih, xor4]
    congr 1
    have h := bit_xor b c k
    by_cases h1 : b / 2 ^ k % 2 = 1 <;> by_cases h2 : c / 2 ^ k % 2 = 1 <;> simp [h, h1, h2]
theorem gmul_xor_left (a b c : Nat) : gmul (a ^^^ b) c = gmul a c ^^^ gmul b c := gacc_xor_left a b c 8
theorem gmul_xor_right (a b c : Nat) : gmul a (b ^^^ c) = gmul a b ^^^ gmul a c := gacc_xor_right a b c 8

/-- A number below 256 is the sum of its bits. -/
theorem bits_sum : ∀ a, a < 256 → a = (a &&& 1) ^^^ ((a &&& 2) ^^^ ((a &&& 4) ^^^ ((a &&& 8) ^^^ ((a &&& 16) ^^^ ((a &&& 32) ^^^ ((a &&& 64) ^^^ (a &&& 128))))))) := by decide +kernel
theorem and_bit (a i : Nat) : a &&& 2 ^ i = 0 ∨ a &&& 2 ^ i = 2 ^ i := by
  rw [and_pow]
  cases a.testBit i <;> simp
/-- Two sums of bits are the same if they are so at each bit. -/
theorem lin_ext {f g : Nat → Nat} (hf : ∀ a b, f (a ^^^ b) = f a ^^^ f b) (hg : ∀ a b, g (a ^^^ b) = g a ^^^ g b) (h : ∀ i, i < 8 → f (2 ^ i) = g (2 ^ i)) (a : Nat) (ha : a < 256) : f a = g a := by
  have f0 : f 0 = 0 := by have := hf 0 0; rw [Nat.xor_self] at this; rw [this, Nat.xor_self]
  have g0 : g 0 = 0 := by have := hg 0 0; rw [Nat.xor_self] at this; rw [this, Nat.xor_self]
  have hb : ∀ i, i < 8 → f (a &&& 2 ^ i) = g (a &&& 2 ^ i) := fun i hi => by
    rcases and_bit a i with e | e
    · rw [e, f0, g0]
    · rw [e, h i hi]
  have e := bits_sum a ha
  rw [e]
  simp only [hf, hg]
  have h0 : f (a &&& 1) = g (a &&& 1) := hb 0 (by decide)
  have h1 : f (a &&& 2) = g (a &&& 2) := hb 1 (by decide)
  have h2 : f (a &&& 4) = g (a &&& 4) := hb 2 (by decide)
  have h3 : f (a &&& 8) = g (a &&& 8) := hb 3 (by decide)
  have h4 : f (a &&& 16) = g (a &&& 16) := hb 4 (by decide)
  have h5 : f (a &&& 32) = g (a &&& 32) := hb 5 (by decide)
  have h6 : f (a &&& 64) = g (a &&& 64) := hb 6 (by decide)
  have h7 : f (a &&& 128) = g (a &&& 128) := hb 7 (by decide)
  rw [h0, h1, h2, h3, h4, h5, h6, h7]

theorem comm_bits : ∀ i, i < 8 → ∀ j, j < 8 → gmul (2 ^ i) (2 ^ j) = gmul (2 ^ j) (2 ^ i) := by decide +kernel
theorem gmul_comm {a b : Nat} (ha : a < 256) (hb : b < 256) : gmul a b = gmul b a :=
  lin_ext (f := fun a => gmul a b) (g := fun a => gmul b a) (fun x y => gmul_xor_left x y b) (fun x y => gmul_xor_right b x y)
    (fun i hi => lin_ext (f := fun b => gmul (2 ^ i) b) (g := fun b => gmul b (2 ^ i)) (fun x y => gmul_xor_right _ x y) (fun x y => gmul_xor_left x y _) (fun j hj => comm_bits i hi j hj) b hb) a ha
theorem assoc_bits : ∀ i, i < 8 → ∀ j, j < 8 → ∀ k, k < 8 → gmul (gmul (2 ^ i) (2 ^ j)) (2 ^ k) = gmul (2 ^ i) (gmul (2 ^ j) (2 ^ k)) := by decide +kernel
theorem gmul_assoc {a b c : Nat} (ha : a < 256) (hb : b < 256) (hc : c < 256) : gmul (gmul a b) c = gmul a (gmul b c) :=
  lin_ext (f := fun a => gmul (gmul a b) c) (g := fun a => gmul a (gmul b c)) (fun x y => by simp only [gmul_xor_left]) (fun x y => by simp only [gmul_xor_left])
    (fun i hi => lin_ext (f := fun b => gmul (gmul (2 ^ i) b) c) (g := fun b => gmul (2 ^ i) (gmul b c)) (fun x y => by simp only [gmul_xor_left, gmul_xor_right]) (fun x y => by simp only [gmul_xor_left, gmul_xor_right])
      (fun j hj => lin_ext (f := fun c => gmul (gmul (2 ^ i) (2 ^ j)) c) (g := fun c => gmul (2 ^ i) (gmul (2 ^ j) c)) (fun x y => by simp only [gmul_xor_right]) (fun x y => by simp only [gmul_xor_right])
        (fun k hk => assoc_bits i hi j hj k hk) c hc) b hb) a ha
theorem one_bits : ∀ i, i < 8 → gmul (2 ^ i) 1 = 2 ^ i := by decide +kernel
theorem gmul_one {a : Nat} (ha : a < 256) : gmul a 1 = a := lin_ext (f := fun a => gmul a 1) (g := fun a => a) (fun x y => gmul_xor_left x y 1) (fun _ _ => rfl) one_bits a ha
theorem one_gmul {a : Nat} (ha : a < 256) : gmul 1 a = a := by rw [gmul_comm (by decide) ha, gmul_one ha]
theorem zero_gmul (a : Nat) : gmul 0 a = 0 := by
  have := gmul_xor_left 0 0 a
  rw [Nat.xor_self] at this
  rw [this, Nat.xor_self]
theorem gmul_zero (a : Nat) : gmul a 0 = 0 := by
  have := gmul_xor_right a 0 0
  rw [Nat.xor_self] at this
  rw [this, Nat.xor_self]

theorem gpow_one {a : Nat} (ha : a < 256) : gpow a 1 = a := one_gmul ha
theorem gpow_add {a : Nat} (ha : a < 256) (m n : Nat) : gpow a (m + n) = gmul (gpow a m) (gpow a n) := by
  induction n with
  | zero => rw [Nat.add_zero]; exact (gmul_one (gpow_lt m)).symm
  | succ n ih =>
    show gmul (gpow a (m + n)) a = gmul (gpow a m) (gmul (gpow a n) a)
    rw [ih, gmul_assoc (gpow_lt m) (gpow_lt n) ha]
theorem gpow_mul {a : Nat} (ha : a < 256) (m n : Nat) : gpow a (m * n) = gpow (gpow a m) n := by
  induction n with
  | zero => rfl
  | succ n ih => rw [Nat.mul_succ, gpow_add ha, ih]; rfl
theorem gpow_sq {a : Nat} (ha : a < 256) (n : Nat) : gpow (gmul a a) n = gpow a (2 * n) := by
  have : gpow a 2 = gmul a a := by show gmul (gpow a 1) a = _; rw [gpow_one ha]
  rw [gpow_mul ha, this]
theorem gpow_zero_succ (n : Nat) : gpow 0 (n + 1) = 0 := gmul_zero _
theorem one_gpow (n : Nat) : gpow 1 n = 1 := by
  induction n with
  | zero => rfl
  | succ n ih => show gmul _ 1 = 1; rw [ih]; decide +kernel
/-- a to 255, by squares. -/
def p255 (a : Nat) : Nat :=
  let a2 := gmul a a
  let a4 := gmul a2 a2
  let a8 := gmul a4 a4
  let a16 := gmul a8 a8
  let a32 := gmul a16 a16
  let a64 := gmul a32 a32
  let a128 := gmul a64 a64
  gmul a128 (gmul a64 (gmul a32 (gmul a16 (gmul a8 (gmul a4 (gmul a2 a))))))
theorem p255_eq {a : Nat} (ha : a < 256) : p255 a = gpow a 255 := by
  have h1 := gpow_one ha
  have d : ∀ n, gmul (gpow a n) (gpow a n) = gpow a (n + n) := fun n => (gpow_add ha n n).symm
  have e : ∀ m n, gmul (gpow a m) (gpow a n) = gpow a (m + n) := fun m n => (gpow_add ha m n).symm
  unfold p255
  have : ∀ x, x = gpow a 1 → (let a2 := gmul x x; let a4 := gmul a2 a2; let a8 := gmul a4 a4; let a16 := gmul a8 a8; let a32 := gmul a16 a16; let a64 := gmul a32 a32; let a128 := gmul a64 a64; gmul a128 (gmul a64 (gmul a32 (gmul a16 (gmul a8 (gmul a4 (gmul a2 x))))))) = gpow a 255 := by
    rintro x rfl
    simp only [d, e]
  exact this a h1.symm
theorem p255_one : ∀ a, a < 256 → a ≠ 0 → p255 a = 1 := by decide +kernel
theorem gpow_255 {a : Nat} (ha : a < 256) (h : a ≠ 0) : gpow a 255 = 1 := by rw [← p255_eq ha]; exact p255_one a ha h
theorem gpow_mod {a : Nat} (ha : a < 256) (h : a ≠ 0) (n : Nat) : gpow a (n % 255) = gpow a n := by
  have e := Nat.div_add_mod n 255
  conv => rhs; rw [← e]
  rw [gpow_add ha, gpow_mul ha, gpow_255 ha h, one_gpow, one_gmul (gpow_lt _)]
/-- A power with the exponent brought to 1 .. 255. -/
theorem gpow_low {a : Nat} (ha : a < 256) (n : Nat) (hn : 0 < n) : gpow a ((n - 1) % 255 + 1) = gpow a n := by
  by_cases h : a = 0
  · subst h
    obtain ⟨m, rfl⟩ : ∃ m, n = m + 1 := ⟨n - 1, by omega⟩
    rw [gpow_zero_succ, gpow_zero_succ]
  · obtain ⟨m, rfl⟩ : ∃ m, n = m + 1 := ⟨n - 1, by omega⟩
    show gmul (gpow a (m % 255)) a = gmul (gpow a m) a
    rw [gpow_mod ha h]
/-- The inverse. -/
def ginv (a : Nat) : Nat := gpow a 254
theorem ginv_lt (a : Nat) : ginv a < 256 := gpow_lt 254
theorem ginv_mul {a : Nat} (ha : a < 256) (h : a ≠ 0) : gmul (ginv a) a = 1 := gpow_255 ha h
theorem gmul_ginv {a : Nat} (ha : a < 256) (h : a ≠ 0) : gmul a (ginv a) = 1 := by rw [gmul_comm ha (ginv_lt a), ginv_mul ha h]
theorem ginv_unique {a b : Nat} (ha : a < 256) (hb : b < 256) (h : gmul a b = 1) : b = ginv a := by
  have h0 : a ≠ 0 := by rintro rfl; rw [zero_gmul] at h; cases h
  have : gmul (ginv a) (gmul a b) = gmul (ginv a) 1 := by rw [h]
  rw [← gmul_assoc (ginv_lt a) ha hb, ginv_mul ha h0, one_gmul hb, gmul_one (ginv_lt a)] at this
  exact this
theorem ginv_ne {a : Nat} (ha : a < 256) (h : a ≠ 0) : ginv a ≠ 0 := by
  intro e
  have := gmul_ginv ha h
  rw [e, gmul_zero] at this
  cases this

theorem gmul_two (p : Nat) (hp : p < 256) : gmul p 2 = xt p :=
  lin_ext (f := fun a => gmul a 2) (g := xt) (fun x y => gmul_xor_left x y 2) xt_xor (by decide +kernel) p hp
theorem gpow_two_succ (n : Nat) : gpow 2 (n + 1) = xt (gpow 2 n) := gmul_two _ (gpow_lt n)
theorem gpow_two (n : Nat) : gpow 2 n = xts 1 n := by
  induction n with
  | zero => rfl
  | succ n ih => rw [gpow_two_succ, ih]; rfl
theorem two_order : ∀ d, d < 255 → 0 < d → xts 1 d ≠ 1 := by decide +kernel
theorem gpow_two_ne (i : Nat) : gpow 2 i ≠ 0 := by
  intro z
  have h255 : gpow 2 (255 * (i + 1)) = 1 := by rw [gpow_mul (by decide), gpow_255 (by decide) (by decide), one_gpow]
  have : gpow 2 (255 * (i + 1)) = gmul (gpow 2 i) (gpow 2 (255 * (i + 1) - i)) := by rw [← gpow_add (by decide)]; congr 1; omega
  rw [h255, z, zero_gmul] at this
  cases this
theorem gpow_two_inj {i j : Nat} (hi : i < 255) (hj : j < 255) (h : gpow 2 i = gpow 2 j) : i = j := by
  have key : ∀ i j, i < 255 → j < 255 → gpow 2 i = gpow 2 j → ¬ i < j := by
    intro i j hi hj h hlt
    have hd : gpow 2 (j - i) = 1 := by
      have e : gpow 2 j = gmul (gpow 2 i) (gpow 2 (j - i)) := by rw [← gpow_add (by decide)]; congr 1; omega
      rw [← h] at e
      have h0 := gpow_two_ne i
      have : gmul (ginv (gpow 2 i)) (gpow 2 i) = gmul (ginv (gpow 2 i)) (gmul (gpow 2 i) (gpow 2 (j - i))) := by rw [← e]
      rw [← gmul_assoc (ginv_lt _) (gpow_lt _) (gpow_lt _), ginv_mul (gpow_lt _) h0, one_gmul (gpow_lt _)] at this
      exact this.symm
    rw [gpow_two] at hd
    exact two_order _ (by omega) (by omega) hd
  have h1 := key i j hi hj h
  have h2 := key j i hj hi h.symm
  omega
/-- The exponent, searched from n on, where 2 to n is p. -/
def find (a : Nat) : Nat → Nat → Nat → Nat
  | 0, _, n => n
  | f + 1, p, n => if p = a then n else find a f (xt p) (n + 1)
theorem find_is : ∀ a, a < 256 → a ≠ 0 → find a 255 1 0 < 255 ∧ xts 1 (find a 255 1 0) = a := by decide +kernel
/-- The logarithm of what isn't 0. -/
def glog (a : Nat) : Nat := find a 255 1 0
theorem glog_lt {a : Nat} (ha : a < 256) (h : a ≠ 0) : glog a < 255 := (find_is a ha h).1
theorem gpow_glog {a : Nat} (ha : a < 256) (h : a ≠ 0) : gpow 2 (glog a) = a := by rw [gpow_two]; exact (find_is a ha h).2
theorem glog_gpow {n : Nat} (hn : n < 255) : glog (gpow 2 n) = n :=
  gpow_two_inj (glog_lt (gpow_lt n) (gpow_two_ne n)) hn (gpow_glog (gpow_lt n) (gpow_two_ne n))
/-- The logarithm as the calls tell it: below 0 if there is none. -/
def glogI (a : Nat) : Int := if a = 0 then -1 else (glog a : Int)
theorem gmul_logs {a b : Nat} (ha : a < 256) (hb : b < 256) (h1 : a ≠ 0) (h2 : b ≠ 0) : gpow 2 ((glog a + glog b) % 255) = gmul a b := by
  rw [gpow_mod (by decide) (by decide), gpow_add (by decide), gpow_glog ha h1, gpow_glog hb h2]

/-- What the document's product is ahead of being brought down. -/
def racc (a b : Nat) : Nat → Nat
  | 0 => 0
  | k + 1 => racc a b k ^^^ (if b / 2 ^ k % 2 = 1 then a * 2 ^ k else 0)
/-- Brought down by k steps, from bit 14 on. -/
def rdown (p : Nat) : Nat → Nat
  | 0 => p
  | k + 1 => rdown p k ^^^ (if rdown p k / 2 ^ (14 - k) % 2 = 1 then 285 * 2 ^ (14 - k - 8) else 0)
theorem racc_lt {a : Nat} (ha : a < 256) (b : Nat) : ∀ k, k ≤ 8 → racc a b k < 2 ^ 15 := by
  intro k
  induction k with
  | zero => intro _; exact (by decide : (0 : Nat) < 2 ^ 15)
  | succ k ih =>
    intro hk
    unfold racc
    refine Nat.xor_lt_two_pow (ih (by omega)) ?_
    split
    · have : 2 ^ k ≤ 2 ^ 7 := Nat.pow_le_pow_right (by decide) (by omega)
      have h1 : a * 2 ^ k ≤ 255 * 2 ^ 7 := Nat.mul_le_mul (by omega) this
      exact Nat.lt_of_le_of_lt h1 (by decide)
    · decide
theorem rdown_lt {p : Nat} (hp : p < 2 ^ 15) : ∀ k, k ≤ 7 → rdown p k < 2 ^ 15 := by
  intro k
  induction k with
  | zero => intro _; exact hp
  | succ k ih =>
    intro hk
    unfold rdown
    refine Nat.xor_lt_two_pow (ih (by omega)) ?_
    split
    · have : 2 ^ (14 - k - 8) ≤ 2 ^ 6 := Nat.pow_le_pow_right (by decide) (by omega)
      have h1 : 285 * 2 ^ (14 - k - 8) ≤ 285 * 2 ^ 6 := Nat.mul_le_mul (by omega) this
      exact Nat.lt_of_le_of_lt h1 (by decide)
    · decide
theorem racc_xor_left (a b c k : Nat) : racc (a ^^^ b) c k = racc a c k ^^^ racc b c k := by
  induction k with
  | zero => simp [racc]
  | succ k ih =>
    unfold racc
    rw [ih, xor4]
    congr 1
    split
    · simp only [← Nat.shiftLeft_eq]
      exact Nat.shiftLeft_xor_distrib
    · simp
theorem racc_xor_right (a b c k : Nat) : racc a (b ^^^ c) k = racc a b k ^^^ racc a c k := by
  induction k with
  | zero => simp [racc]
  | succ k ih =>
    unfold racc
    rw [ih, xor4]
    congr 1
    have h := bit_xor b c k
    by_cases h1 : b / 2 ^ k % 2 = 1 <;> by_cases h2 : c / 2 ^ k % 2 = 1 <;> simp [h, h1, h2]
theorem rdown_xor (p q k : Nat) : rdown (p ^^^ q) k = rdown p k ^^^ rdown q k := by
  induction k with
  | zero => rfl
  | succ k ih =>
    show rdown (p ^^^ q) k ^^^ _ = (rdown p k ^^^ _) ^^^ (rdown q k ^^^ _)
    rw [ih, xor4]
    congr 1
    have h := bit_xor (rdown p k) (rdown q k) (14 - k)
    by_cases h1 : rdown p k / 2 ^ (14 - k) % 2 = 1 <;> by_cases h2 : rdown q k / 2 ^ (14 - k) % 2 = 1 <;> simp [h, h1, h2]
/-- The document's product. -/
def rmul (a b : Nat) : Nat := rdown (racc a b 8) 7 % 256
theorem mod_xor (a b : Nat) : (a ^^^ b) % 256 = a % 256 ^^^ b % 256 := Nat.xor_mod_two_pow (n := 8)
theorem rmul_bits : ∀ i, i < 8 → ∀ j, j < 8 → rmul (2 ^ i) (2 ^ j) = gmul (2 ^ i) (2 ^ j) := by decide +kernel
theorem rmul_eq {a b : Nat} (ha : a < 256) (hb : b < 256) : rmul a b = gmul a b :=
  lin_ext (f := fun a => rmul a b) (g := fun a => gmul a b) (fun x y => by simp only [rmul, racc_xor_left, rdown_xor, mod_xor]) (fun x y => gmul_xor_left x y b)
    (fun i hi => lin_ext (f := fun b => rmul (2 ^ i) b) (g := fun b => gmul (2 ^ i) b) (fun x y => by simp only [rmul, racc_xor_right, rdown_xor, mod_xor]) (fun x y => gmul_xor_right _ x y)
      (fun j hj => rmul_bits i hi j hj) b hb) a ha
end Go.Proofs.Ytjjdkkncdnipcaa
namespace Go.Proofs.Ytjjdkkncdnipcaa
set_option linter.unusedVariables false

/-- The product of two bytes. -/
def um (a b : UInt8) : UInt8 := UInt8.ofNat (gmul a.toNat b.toNat)
theorem u8_lt (a : UInt8) : a.toNat < 256 := a.toNat_lt
theorem um_nat (a b : UInt8) : (um a b).toNat = gmul a.toNat b.toNat := by
  unfold um
  rw [UInt8.toNat_ofNat', Nat.mod_eq_of_lt (gmul_lt (u8_lt a) _)]
theorem ux_nat (a b : UInt8) : (a ^^^ b).toNat = a.toNat ^^^ b.toNat := UInt8.toNat_xor a b
theorem u8_ext {a b : UInt8} (h : a.toNat = b.toNat) : a = b := UInt8.toNat_inj.1 h
theorem um_comm (a b : UInt8) : um a b = um b a := u8_ext (by rw [um_nat, um_nat, gmul_comm (u8_lt a) (u8_lt b)])
theorem um_assoc (a b c : UInt8) : um (um a b) c = um a (um b c) := u8_ext (by simp only [um_nat]; exact gmul_assoc (u8_lt a) (u8_lt b) (u8_lt c))
theorem um_xor_left (a b c : UInt8) : um (a ^^^ b) c = um a c ^^^ um b c := u8_ext (by simp only [um_nat, ux_nat, gmul_xor_left])
theorem um_xor_right (a b c : UInt8) : um a (b ^^^ c) = um a b ^^^ um a c := u8_ext (by simp only [um_nat, ux_nat, gmul_xor_right])
theorem zero_um (a : UInt8) : um 0 a = 0 := u8_ext (by rw [um_nat]; exact zero_gmul _)
theorem um_zero (a : UInt8) : um a 0 = 0 := u8_ext (by rw [um_nat]; exact gmul_zero _)
theorem one_um (a : UInt8) : um 1 a = a := u8_ext (by rw [um_nat]; exact one_gmul (u8_lt a))
theorem um_one (a : UInt8) : um a 1 = a := by rw [um_comm, one_um]
theorem ux_self (a : UInt8) : a ^^^ a = 0 := UInt8.xor_self
theorem ux_zero (a : UInt8) : a ^^^ 0 = a := UInt8.xor_zero
theorem zero_ux (a : UInt8) : 0 ^^^ a = a := UInt8.zero_xor
theorem ux_comm (a b : UInt8) : a ^^^ b = b ^^^ a := UInt8.xor_comm a b
theorem ux_assoc (a b c : UInt8) : a ^^^ b ^^^ c = a ^^^ (b ^^^ c) := UInt8.xor_assoc a b c
theorem ux4 (a b c d : UInt8) : a ^^^ b ^^^ (c ^^^ d) = a ^^^ c ^^^ (b ^^^ d) := by
  rw [ux_assoc, ux_assoc, ← ux_assoc b, ← ux_assoc c, ux_comm b c]

/-- The sum of the first n. -/
def us (s : Nat → UInt8) : Nat → UInt8
  | 0 => 0
  | n + 1 => us s n ^^^ s n
/-- The sum of products. -/
def ud (f g : Nat → UInt8) (n : Nat) : UInt8 := us (fun j => um (f j) (g j)) n
theorem ud_zero (f g : Nat → UInt8) : ud f g 0 = 0 := rfl
theorem ud_succ (f g : Nat → UInt8) (n : Nat) : ud f g (n + 1) = ud f g n ^^^ um (f n) (g n) := rfl
theorem us_congr {s t : Nat → UInt8} : ∀ {n : Nat}, (∀ j, j < n → s j = t j) → us s n = us t n
  | 0, _ => rfl
  | n + 1, h => by rw [us, us, us_congr fun j hj => h j (by omega), h n (by omega)]
theorem ud_congr {f g f' g' : Nat → UInt8} {n : Nat} (hf : ∀ j, j < n → f j = f' j) (hg : ∀ j, j < n → g j = g' j) : ud f g n = ud f' g' n :=
  us_congr fun j hj => by rw [hf j hj, hg j hj]
theorem us_zero (n : Nat) : us (fun _ => 0) n = 0 := by
  induction n with
  | zero => rfl
  | succ n ih => rw [us, ih, ux_zero]
theorem us_xor (s t : Nat → UInt8) (n : Nat) : us (fun j => s j ^^^ t j) n = us s n ^^^ us t n := by
  induction n with
  | zero => exact (ux_self 0).symm
  | succ n ih => rw [us, us, us, ih, ux4]
theorem us_um (s : Nat → UInt8) (x : UInt8) (n : Nat) : um (us s n) x = us (fun j => um (s j) x) n := by
  induction n with
  | zero => exact zero_um x
  | succ n ih => rw [us, us, um_xor_left, ih]
theorem um_us (s : Nat → UInt8) (x : UInt8) (n : Nat) : um x (us s n) = us (fun j => um x (s j)) n := by
  rw [um_comm, us_um]
  exact us_congr fun j _ => um_comm _ _
theorem us_swap (t : Nat → Nat → UInt8) (m n : Nat) : us (fun i => us (fun j => t i j) n) m = us (fun j => us (fun i => t i j) m) n := by
  induction m with
  | zero => exact (us_zero n).symm
  | succ m ih =>
    show us (fun i => us (fun j => t i j) n) m ^^^ us (fun j => t m j) n = us (fun j => us (fun i => t i j) m ^^^ t m j) n
    rw [us_xor, ih]
theorem ud_comm (f g : Nat → UInt8) (n : Nat) : ud f g n = ud g f n := us_congr fun j _ => um_comm _ _
/-- Products may be taken together in any way. -/
theorem ud_assoc (f : Nat → UInt8) (g : Nat → Nat → UInt8) (h : Nat → UInt8) (m n : Nat) :
    ud (fun j => ud f (fun l => g l j) n) h m = ud f (fun l => ud (g l) h m) n := by
  unfold ud
  rw [us_congr (n := m) (t := fun j => us (fun l => um (f l) (um (g l j) (h j))) n) fun j _ => by rw [us_um]; exact us_congr fun l _ => um_assoc _ _ _]
  rw [us_swap]
  exact us_congr fun l _ => by rw [um_us]

/-- A matrix's product, turned, the matrix of ones on the diagonal. -/
def mulF (n : Nat) (f g : Nat → Nat → UInt8) (i k : Nat) : UInt8 := ud (f i) (fun j => g j k) n
def turnF (f : Nat → Nat → UInt8) (i k : Nat) : UInt8 := f k i
def oneF (i k : Nat) : UInt8 := if i = k then 1 else 0
def addF (f g : Nat → Nat → UInt8) (i k : Nat) : UInt8 := f i k ^^^ g i k
/-- Alike where there are elements. -/
def EqF (r c : Nat) (f g : Nat → Nat → UInt8) : Prop := ∀ i k, i < r → k < c → f i k = g i k
theorem EqF.refl (r c : Nat) (f : Nat → Nat → UInt8) : EqF r c f f := fun _ _ _ _ => rfl
theorem EqF.symm {r c : Nat} {f g : Nat → Nat → UInt8} (h : EqF r c f g) : EqF r c g f := fun i k hi hk => (h i k hi hk).symm
theorem EqF.trans {r c : Nat} {f g h : Nat → Nat → UInt8} (h1 : EqF r c f g) (h2 : EqF r c g h) : EqF r c f h := fun i k hi hk => (h1 i k hi hk).trans (h2 i k hi hk)
theorem mulF_assoc (f g h : Nat → Nat → UInt8) (m n i k : Nat) : mulF m (mulF n f g) h i k = mulF n f (mulF m g h) i k := ud_assoc (f i) g (fun j => h j k) m n
theorem turn_mul (f g : Nat → Nat → UInt8) (n i k : Nat) : turnF (mulF n f g) i k = mulF n (turnF g) (turnF f) i k := ud_comm _ _ n
end Go.Proofs.Ytjjdkkncdnipcaa
namespace Go.Proofs.Ytjjdkkncdnipcaa
open Go.RowKit

/-- A fact laid out of the walk's sight. -/
theorem hide {p : Prop} (h : p) : Hid p := h

/-- The blocks outside S are as they were. -/
structure Kp (S : Nat → Prop) (w w' : World) : Prop where
  os : w'.os = w.os
  tape : w'.tape = w.tape
  output : w'.output = w.output
  size : w.heap.size ≤ w'.heap.size
  block : ∀ k, k < w.heap.size → ¬ S k → w'.heap[k]? = w.heap[k]?

/-- S, and all that is younger than w. -/
def Up (S : Nat → Prop) (w : World) (k : Nat) : Prop := S k ∨ w.heap.size ≤ k
/-- No block. -/
def No (_ : Nat) : Prop := False

section
variable {S T : Nat → Prop} {w w1 w2 : World}
theorem Kp.refl (S : Nat → Prop) (w : World) : Kp S w w := ⟨rfl, rfl, rfl, Nat.le_refl _, fun _ _ _ => rfl⟩
theorem Kp.mono (h : Kp S w w1) (hs : ∀ k, S k → T k) : Kp T w w1 := ⟨h.os, h.tape, h.output, h.size, fun k hk hn => h.block k hk fun s => hn (hs k s)⟩
theorem Kp.of_no (h : Kp No w w1) (S : Nat → Prop) : Kp S w w1 := h.mono fun _ f => f.elim
theorem Kp.trans (h : Kp S w w1) (k : Kp (Up S w) w1 w2) : Kp S w w2 :=
  ⟨k.os.trans h.os, k.tape.trans h.tape, k.output.trans h.output, Nat.le_trans h.size k.size, fun i hi hn =>
    (k.block i (Nat.lt_of_lt_of_le hi h.size) (by rintro (s | s); exact hn s; omega)).trans (h.block i hi hn)⟩
theorem Kp.trans' (h : Kp S w w1) (k : Kp S w1 w2) : Kp S w w2 := h.trans (k.mono fun _ s => .inl s)
theorem Kp.up (h : Kp S w w1) : Kp (Up S w) w w1 := h.mono fun _ s => .inl s
theorem Up.mono (hs : ∀ k, S k → T k) {k : Nat} (h : Up S w k) : Up T w k := h.imp (hs k) id
theorem Up.le (hw : w.heap.size ≤ w1.heap.size) {k : Nat} (h : Up S w1 k) : Up S w k := h.imp id (Nat.le_trans hw)
theorem Up.two (hw : w.heap.size ≤ w1.heap.size) {k : Nat} (h : Up (Up S w) w1 k) : Up S w k := by
  rcases h with h | h
  · exact h
  · exact .inr (Nat.le_trans hw h)
theorem Kp.grown {row : Option Nat} (h : w.grownBy w1 row) : Kp (fun k => row = some k) w w1 := ⟨h.os, h.tape, h.output, h.size, fun k hk hn => h.block k hk fun e => hn e.symm⟩
theorem Kp.alloc (S : Nat → Prop) (w : World) (o : Obj) : Kp S w (w.alloc o) := ⟨rfl, rfl, rfl, by simp, fun k hk _ => Below.heap_alloc w o k hk⟩
theorem Kp.drew (h : Kp S w w1) : Kp S w w1.drew := ⟨h.os, h.tape, h.output, h.size, h.block⟩
theorem Kp.drewN (h : Kp S w w1) (n : Nat) : Kp S w (w1.drewN n) := ⟨h.os, h.tape, h.output, h.size, h.block⟩
theorem Kp.setCell {p : Addr} (hp : S p.block) (u : Value) : Kp S w (w.setCell p u) :=
  ⟨rfl, rfl, rfl, by simp [World.setCell], fun k _ hn => Below.heap_setCell w p u k (fun e => hn (e ▸ hp))⟩
theorem Kp.below {B : Nat} (h : Kp S w w1) (hs : ∀ k, S k → B ≤ k) (hB : B ≤ w.heap.size) : Below B w w1 :=
  ⟨h.os, h.tape, h.output, h.size, fun k hk => h.block k (by omega) fun s => by have := hs k s; omega⟩
theorem Kp.below0 (h : Kp No w w1) : Below w.heap.size w w1 := h.below (fun _ f => f.elim) (Nat.le_refl _)
theorem Kp.of_below {B : Nat} (h : Below B w w1) (hs : ∀ k, B ≤ k → S k) : Kp S w w1 :=
  ⟨h.os, h.tape, h.output, h.size, fun k _ hn => h.block k (by rcases Nat.lt_or_ge k B with g | g; exact g; exact absurd (hs k g) hn)⟩
theorem Kp.cell {p : Addr} {v : Value} (h : Kp S w w1) (hc : w.cell? p = some v) (hn : ¬ S p.block) : w1.cell? p = some v :=
  (World.cell?_of_block (h.block p.block (World.block_lt_of_cell? w p hc) hn)).trans hc
end

/-- A byte's value. -/
def bv (b : UInt8) : Value := .int .u8 (b.toNat : Int)
theorem bv_one (b : UInt8) : (bv b).oneCell' = true := rfl
theorem blk_add (a : Addr) (n : Nat) : (a.add n).block = a.block := by unfold Addr.add; split <;> rfl

/-- The slice v reads as the bytes bs in w. -/
def Bts (w : World) (v : Value) (bs : List UInt8) : Prop :=
  ∃ (A : Option Addr) (c : Nat), v = .slice A bs.length c ∧ (A = none → bs = [] ∧ c = 0) ∧ ∀ ad, A = some ad → ∀ (j : Nat) (u : UInt8), bs[j]? = some u → w.cell? (ad.add j) = some (bv u)

section
variable {S : Nat → Prop} {w w1 : World} {v : Value} {bs : List UInt8}
theorem Bts.nil (w : World) : Bts w (.slice none 0 0) [] := ⟨none, 0, rfl, fun _ => ⟨rfl, rfl⟩, fun _ h => by cases h⟩
theorem Bts.keep (h : Bts w v bs) (hk : Kp S w w1) (hS : ∀ k, v.ownBlock = some k → ¬ S k) : Bts w1 v bs := by
  obtain ⟨A, c, rfl, hn, hc⟩ := h
  refine ⟨A, c, rfl, hn, fun ad ha j u hu => ?_⟩
  subst ha
  exact hk.cell (hc ad rfl j u hu) (by rw [blk_add]; exact hS _ rfl)
theorem Bts.below {B : Nat} (h : Bts w v bs) (hk : Below B w w1) (hS : ∀ k, v.ownBlock = some k → k < B) : Bts w1 v bs :=
  h.keep (Kp.of_below (S := fun k => B ≤ k) hk fun _ g => g) fun k hk => by have := hS k hk; omega
theorem Bts.form (h : Bts w v bs) : ∃ A n c, v = .slice A n c := by
  obtain ⟨A, c, rfl, _⟩ := h
  exact ⟨A, _, c, rfl⟩
theorem Bts.len {A : Option Addr} {n c : Nat} (h : Bts w (.slice A n c) bs) : n = bs.length := by
  obtain ⟨A, c, h1, _⟩ := h
  injection h1
theorem add_none (B off j : Nat) : (⟨B, off, none⟩ : Addr).add j = ⟨B, off + j, none⟩ := by
  unfold Addr.add
  split
  · simp_all
  · rfl
/-- A byte's cell. -/
theorem Bts.at_ {A : Option Addr} {m c j : Nat} (h : Bts w (.slice A m c) bs) (hj : j < m) :
    ∃ B off b, A = some ⟨B, off, none⟩ ∧ bs[j]? = some b ∧ w.cell? ⟨B, off + j, none⟩ = some (.int .u8 (b.toNat : Int)) := by
  have hl : m = bs.length := by
    obtain ⟨_, _, e, _⟩ := h
    injection e
  obtain ⟨A', c', e, hn, hc⟩ := h
  injection e with e1 e2 e3
  subst e1 e3
  rcases A with _ | ⟨B, off, spot⟩
  · have := (hn rfl).1
    subst this
    simp at hl
    omega
  · have h0 := hc _ rfl 0 _ (List.getElem?_eq_getElem (by omega : 0 < bs.length))
    have hs : spot = none := by simpa [Addr.add] using World.cell?_spot h0
    subst hs
    have hjj := hc _ rfl j _ (List.getElem?_eq_getElem (by omega : j < bs.length))
    rw [add_none] at hjj
    exact ⟨B, off, _, rfl, List.getElem?_eq_getElem (by omega), hjj⟩
theorem Bts.no (h : Bts w v bs) (hk : Kp No w w1) : Bts w1 v bs := h.keep hk fun _ _ f => f
theorem Bts.drew (h : Bts w v bs) : Bts w.drew v bs := h
theorem Bts.drewN (h : Bts w v bs) (n : Nat) : Bts (w.drewN n) v bs := h
theorem Bts.alloc (h : Bts w v bs) (o : Obj) (hl : ∀ k, v.ownBlock = some k → k < w.heap.size) : Bts (w.alloc o) v bs :=
  h.below (B := w.heap.size) ((Below.refl _ _).alloc (Nat.le_refl _) o) hl

/-- The bytes as a string. -/
def strOf (bs : List UInt8) : ByteArray := ⟨bs.toArray⟩
theorem strOf_toList (bs : List UInt8) : (strOf bs).data.toList = bs := rfl
theorem Bts.str {P : Program} (h : Bts w v bs) (src dst e : TypeId) (hs : P.underlying src = some (.slice e)) (he : P.underlying e = some (.int .u8)) (hd : P.underlying dst = some .string) :
    (convert src dst v).run P w = .ok (.string (strOf bs)) w := by
  obtain ⟨A, c, rfl, hn, hc⟩ := h
  rcases A with _ | ad
  · obtain ⟨rfl, rfl⟩ := hn rfl
    rw [run_convert_bytes_string w src dst e none _ 0 hs he hd]
    rfl
  · exact run_convert_bytes_back w src dst e ad c bs hs he hd fun j hj => hc ad rfl j _ (List.getElem?_eq_getElem hj)
end

/-- The row of bytes v is the call's own, from block base on. -/
def Own (w : World) (base : Nat) (e : TypeId) (v : Value) (bs : List UInt8) : Prop := w.ownsRow base e 1 v bs.length (bs.map bv)

section
variable {S : Nat → Prop} {w w1 : World} {base : Nat} {e : TypeId} {v : Value} {bs : List UInt8}
theorem Own.nil (w : World) (base : Nat) (e : TypeId) : Own w base e (.slice none 0 0) [] := World.ownsRow_nil w base e 1
theorem Own.lt (h : Own w base e v bs) (k : Nat) (hk : v.ownBlock = some k) : k < w.heap.size := (World.ownsRow.lt h k hk).2
theorem Own.ge (h : Own w base e v bs) (k : Nat) (hk : v.ownBlock = some k) : base ≤ k := (World.ownsRow.lt h k hk).1
theorem Own.keep (h : Own w base e v bs) (hk : Kp S w w1) (hS : ∀ k, v.ownBlock = some k → ¬ S k) : Own w1 base e v bs := by
  refine ⟨h.1, ?_⟩
  rcases h.2 with hn | ⟨g, cap, cur, rfl, hb, hg, r⟩
  · exact .inl hn
  · exact .inr ⟨g, cap, cur, rfl, hb, by rw [hk.block g (Array.getElem?_eq_some_iff.1 hg).1 (hS g rfl)]; exact hg, r⟩
theorem Own.no (h : Own w base e v bs) (hk : Kp No w w1) : Own w1 base e v bs := h.keep hk fun _ _ f => f
theorem Own.rebase {b : Nat} (h : Own w base e v bs) (hb : ∀ k, v.ownBlock = some k → b ≤ k) : Own w b e v bs := by
  refine ⟨h.1, ?_⟩
  rcases h.2 with hn | ⟨g, cap, cur, rfl, _, r⟩
  · exact .inl hn
  · exact .inr ⟨g, cap, cur, rfl, hb g rfl, r⟩
theorem Own.base0 (h : Own w base e v bs) : Own w 0 e v bs := h.rebase fun _ _ => Nat.zero_le _
theorem Own.drew (h : Own w base e v bs) : Own w.drew base e v bs := h
theorem Own.drewN (h : Own w base e v bs) (n : Nat) : Own (w.drewN n) base e v bs := h
theorem Own.alloc (h : Own w base e v bs) (o : Obj) : Own (w.alloc o) base e v bs := h.keep (Kp.alloc No w o) fun _ _ f => f
theorem Own.form (h : Own w base e v bs) : ∃ A n c, v = .slice A n c := by
  rcases h.2 with ⟨rfl, hn⟩ | ⟨g, cap, cur, rfl, _⟩
  · exact ⟨none, 0, 0, rfl⟩
  · exact ⟨_, _, _, rfl⟩
theorem Own.len {A : Option Addr} {n c : Nat} (h : Own w base e (.slice A n c) bs) : n = bs.length := by
  rcases h.2 with ⟨h1, hn⟩ | ⟨g, cap, cur, h1, _⟩
  · injection h1 with _ h1 _
    omega
  · injection h1
theorem Own.bts (h : Own w base e v bs) : Bts w v bs := by
  rcases h.2 with ⟨rfl, hn⟩ | ⟨g, cap, cur, rfl, _, hg, _, _, _, ht⟩
  · have : bs = [] := List.eq_nil_of_length_eq_zero hn
    subst this
    exact Bts.nil w
  · refine ⟨_, cap, rfl, (fun h => by cases h), fun ad ha j u hu => ?_⟩
    injection ha with ha
    subst ha
    have hj : j < bs.length := (List.getElem?_eq_some_iff.1 hu).1
    have hcell : w.cell? ⟨g, j, none⟩ = cur[j]? := cell_of_row w g j cur e (0, 0) hg
    have ha : (⟨g, 0, none⟩ : Addr).add j = ⟨g, j, none⟩ := by
      unfold Addr.add
      split
      · simp_all
      · simp
    rw [ha, hcell]
    have h2 : (cur.toList.take (bs.length * 1))[j]? = (bs.map bv)[j]? := by rw [ht]
    rw [List.getElem?_take, if_pos (by omega)] at h2
    simp only [Array.getElem?_toList, List.getElem?_map, hu, Option.map_some] at h2
    exact h2

/-- What append leaves. -/
structure App (w : World) (base : Nat) (e : TypeId) (v : Value) (bs cs : List UInt8) (v1 : Value) (w1 : World) : Prop where
  own : Own w1 base e v1 (bs ++ cs)
  kp : Kp (fun k => v.ownBlock = some k) w w1
  at_ : v1.ownBlock = v.ownBlock ∨ v1.ownBlock = some w.heap.size
  nil_ : v ≠ .slice none 0 0 → v1 ≠ .slice none 0 0

theorem App.keeps {w0 : World} {cs : List UInt8} {v1 : Value} (ha : App w base e v bs cs v1 w1) (h : Own w w0.heap.size e v bs) (hk : Kp S w0 w) : Kp S w0 w1 :=
  hk.trans (ha.kp.mono fun k hk => .inr (h.ge k hk))

theorem run_app {P : Program} (t ty : TypeId) (i : TypeInfo) (ht : P.underlying t = some (.slice e)) (hi : P.info? e = some i) (hz : i.zero = some (.int .u8 0)) (hsize : i.size = 1) (hby : i.bytes = 1)
    (h : Own w base e v bs) {u : Value} {cs : List UInt8} (hu : Bts w u cs) (hlen : bs.length + cs.length ≤ 1000000000) (hb : base ≤ w.heap.size) :
    ∃ v1 w1, (Builtin.append_ #[t, t] ty #[v, u]).run P w = .ok v1 w1 ∧ App w base e v bs cs v1 w1 := by
  obtain ⟨A, c, rfl, hn, hc⟩ := hu
  rcases A with _ | ad
  · obtain ⟨rfl, rfl⟩ := hn rfl
    exact ⟨v, w, run_append_owned_none w base t ty e i 1 ht hi v bs.length _ h, ⟨by simpa using h, Kp.refl _ _, .inl rfl, fun h => h⟩⟩
  · obtain ⟨v1, w1, hr, h1, h2, h3, h4⟩ := run_append_own_at (P := P) w base t ty e i (.int .u8 0) 1 1 ht hi hz hsize hby rfl (by omega) v bs.length (bs.map bv) h ad cs.length c (cs.map bv) (by simp)
      (fun j x hx => by
        simp only [List.getElem?_map, Option.map_eq_some_iff] at hx
        obtain ⟨y, hy, rfl⟩ := hx
        exact hc ad rfl j y hy) (fun x hx => by
        obtain ⟨y, _, rfl⟩ := List.mem_map.1 hx
        rfl) (by simp only [maxLen]; omega) (by omega) hb
    exact ⟨v1, w1, hr, ⟨by unfold Own; rw [List.length_append, List.map_append]; exact h1, Kp.grown h2, h4, fun hv e => hv (h3.1 e).1⟩⟩

theorem wpList_app {P : Program} {ops : Array Oper} {rest : List Oper} {o : Oper} {a : Act} {Q : Exit → Act → World → Prop} (hgd : o.guard = none) (s x : Operand) (t : TypeId)
    (ho : o.op = .call { callee := .builtin .append, args := #[s, x], argTypes := #[t, t] })
    (i : TypeInfo) (ht : P.underlying t = some (.slice e)) (hi : P.info? e = some i) (hz : i.zero = some (.int .u8 0)) (hsize : i.size = 1) (hby : i.bytes = 1)
    (hs : a.eval s = v) (h : Own w base e v bs) {u : Value} {cs : List UInt8} (hx : a.eval x = u) (hu : Bts w u cs) (hlen : bs.length + cs.length ≤ 1000000000) (hb : base ≤ w.heap.size)
    (hQ : ∀ A1 n1 c1 w1, App w base e v bs cs (.slice A1 n1 c1) w1 → wpList P ops Q rest (a.put o.dst (.slice A1 n1 c1)) w1) : wpList P ops Q (o :: rest) a w := by
  refine wpList_plain hgd fun K hK => ?_
  obtain ⟨v1, w1, hr, h1⟩ := run_app (P := P) t o.type i ht hi hz hsize hby h hu hlen hb
  unfold Oper.wp execOp
  simp only [ho, resolve, invoke, builtin, Sem.run_bind, Sem.run_pure, Result.andThen_ok, List.map_toArray, List.map_cons, List.map_nil, hs, hx, hr]
  obtain ⟨A1, n1, c1, rfl⟩ := h1.own.form
  exact hK _ _ (hQ A1 n1 c1 w1 h1)
/-- The same where a guard says yes. -/
theorem wpList_app_want {P : Program} {ops : Array Oper} {rest : List Oper} {o : Oper} {a : Act} {Q : Exit → Act → World → Prop} (hgd : Region.wanted o (yielded ops a.tmps) = true) (s x : Operand) (t : TypeId)
    (ho : o.op = .call { callee := .builtin .append, args := #[s, x], argTypes := #[t, t] })
    (i : TypeInfo) (ht : P.underlying t = some (.slice e)) (hi : P.info? e = some i) (hz : i.zero = some (.int .u8 0)) (hsize : i.size = 1) (hby : i.bytes = 1)
    (hs : a.eval s = v) (h : Own w base e v bs) {u : Value} {cs : List UInt8} (hx : a.eval x = u) (hu : Bts w u cs) (hlen : bs.length + cs.length ≤ 1000000000) (hb : base ≤ w.heap.size)
    (hQ : ∀ A1 n1 c1 w1, App w base e v bs cs (.slice A1 n1 c1) w1 → wpList P ops Q rest (a.put o.dst (.slice A1 n1 c1)) w1) : wpList P ops Q (o :: rest) a w := by
  refine BigFrame.wpList_want hgd fun K hK => ?_
  obtain ⟨v1, w1, hr, h1⟩ := run_app (P := P) t o.type i ht hi hz hsize hby h hu hlen hb
  unfold Oper.wp execOp
  simp only [ho, resolve, invoke, builtin, Sem.run_bind, Sem.run_pure, Result.andThen_ok, List.map_toArray, List.map_cons, List.map_nil, hs, hx, hr]
  obtain ⟨A1, n1, c1, rfl⟩ := h1.own.form
  exact hK _ _ (hQ A1 n1 c1 w1 h1)
end

theorem Kp.fresh {w w1 : World} {p : Addr} (h : Kp No w w1) (hp : w.heap.size ≤ p.block) (u : Value) : Kp No w (w1.setCell p u) := h.trans (Kp.setCell (S := Up No w) (.inr hp) u)
theorem Kp.al {w w1 : World} (h : Kp No w w1) (o : Obj) : Kp No w (w1.alloc o) := h.trans' (Kp.alloc No _ _)
theorem Kp.rd {W w1 : World} (hk : Kp No W w1) : (∀ b o, b < W.heap.size → w1.cell? ⟨b, o, none⟩ = W.cell? ⟨b, o, none⟩) ∧ (∀ b o, b < W.heap.size → w1.frozen? ⟨b, o, none⟩ = W.frozen? ⟨b, o, none⟩) :=
  ⟨fun b o h => hk.below0.cell (p := ⟨b, o, none⟩) h, fun b o h => hk.below0.frozen (p := ⟨b, o, none⟩) h⟩
/-- A truth value comes back, and no old block is turned. -/
def BoolPost (w : World) (b : Bool) (e : Ending) (w1 : World) : Prop := e = .returned (.bool b) ∧ Kp No w w1
/-- True comes back, and no old block is turned. -/
def TruePost (w : World) (e : Ending) (w1 : World) : Prop := e = .returned (.bool true) ∧ Kp No w w1
theorem Kp.fr {w w1 w2 : World} {F : Nat → Prop} (h : Kp No w w1) (k : Kp F w1 w2) (hF : ∀ q, F q → w.heap.size ≤ q) : Kp No w w2 := h.trans (k.mono fun q hq => .inr (hF q hq))
/-- The blocks from b on. -/
def Frm (b k : Nat) : Prop := b ≤ k
end Go.Proofs.Ytjjdkkncdnipcaa
namespace Go.Proofs.Ytjjdkkncdnipcaa
open Go.RowKit
set_option linter.unusedVariables false

theorem hide2 {p : Prop} (h : p) : Hid p := h
theorem ret_i64 {a b : Int} (h : a = b) : Ending.returned (.int .i64 a) = .returned (.int .i64 b) := by rw [h]
theorem ret_u8 {a b : Int} (h : a = b) : Ending.returned (.int .u8 a) = .returned (.int .u8 b) := by rw [h]

theorem of_wf_u8 {n : Int} (h : (Lit.int .u8 n).wf = true) : ∃ a : Nat, n = (a : Int) ∧ a < 256 := by
  simp [Lit.wf, IntKind.min, IntKind.max, IntKind.signed, IntKind.bits] at h
  exact ⟨n.toNat, by omega, by omega⟩
theorem of_wf_i64 {n : Int} (h : (Lit.int .i64 n).wf = true) : -9223372036854775808 ≤ n ∧ n ≤ 9223372036854775807 := by
  simp [Lit.wf, IntKind.min, IntKind.max, IntKind.signed, IntKind.bits] at h
  exact h

theorem and128 (a : Nat) (ha : a < 256) : bits .and .u8 (a : Int) 128 = ((a &&& 128 : Nat) : Int) := u8_and_nat a 128 ha (by decide)

theorem bit_test (b k : Nat) (hb : b < 256) : (bits .and .u8 ((b : Int) / 2 ^ k) 1 == 1) = decide (b / 2 ^ k % 2 = 1) := by
  have h := u8_and_nat (b / 2 ^ k) 1 (Nat.lt_of_le_of_lt (Nat.div_le_self _ _) hb) (by decide)
  rw [Nat.and_one_is_mod] at h
  have e : (((b / 2 ^ k : Nat)) : Int) = (b : Int) / 2 ^ k := by simp
  rw [e] at h
  rw [show (1 : Int) = ((1 : Nat) : Int) from rfl, h]
  by_cases hx : b / 2 ^ k % 2 = 1
  · rw [hx]; rfl
  · rw [show b / 2 ^ k % 2 = 0 by omega]; rfl

end Go.Proofs.Ytjjdkkncdnipcaa
namespace Go.Proofs.Ytjjdkkncdnipcaa
open Go.RowKit
set_option linter.unusedVariables false
set_option maxRecDepth 20000

theorem byte_info : (Try.prog.info? 5).map (fun i => (i.zero, i.size, i.bytes)) = some (some (.int .u8 0), 1, 1) := by kernel_rfl
theorem cells_u8 : Try.prog.cellsOf 5 = 1 := by kernel_rfl
theorem byte_parts : ∃ i, Try.prog.info? 5 = some i ∧ i.zero = some (.int .u8 0) ∧ i.size = 1 ∧ i.bytes = 1 := by
  have h := byte_info
  rcases hi : Try.prog.info? 5 with _ | i
  · rw [hi] at h; cases h
  · rw [hi] at h
    simp only [Option.map_some, Option.some.injEq, Prod.mk.injEq] at h
    exact ⟨i, rfl, h.1, h.2.1, h.2.2⟩
theorem bts_new (w : World) (u : UInt8) (v : Value) (hv : v = bv u) : Bts (w.alloc (.cells #[v] 5)) (.slice (some ⟨w.heap.size, 0, none⟩) 1 1) [u] := by
  subst hv
  refine ⟨_, 1, rfl, (fun h => by cases h), fun ad ha j x hx => ?_⟩
  injection ha with ha
  subst ha
  match j, hx with
  | 0, hx =>
    simp at hx
    subst hx
    simp [Addr.add]
  | j + 1, hx => simp at hx

theorem bts_row (w : World) (bs : List UInt8) (n : Nat) (fr : Nat × Nat) (hn : n = bs.length) : Bts (w.alloc (.cells (bs.map bv).toArray 5 fr)) (.slice (some ⟨w.heap.size, 0, none⟩) n n) bs := by
  subst hn
  refine ⟨_, _, rfl, (fun h => by cases h), fun ad ha j x hx => ?_⟩
  injection ha with ha
  subst ha
  rw [add_none, Nat.zero_add, World.cell?_alloc_mark]
  simp [hx]
/-- So many noughts. -/
def zc (n : Nat) : Array Value := madeCells (Value.int .u8 0).cells (n * 1)
theorem zc_size (n : Nat) : (zc n).size = n := by unfold zc; rw [size_madeCells, Nat.mul_one]
theorem zc_get {n j : Nat} (h : j < n) : (zc n)[j]? = some (bv 0) := by
  have e : (zc n).toList = List.replicate n (.int .u8 0) := by unfold zc; rw [Nat.mul_one]; exact toList_madeCells_one _ _
  rw [← Array.getElem?_toList, e, List.getElem?_replicate, if_pos h]
  rfl
/-- A row of the call's own comes back. -/
def OwnPost (w : World) (bs : List UInt8) (e : Ending) (w1 : World) : Prop := ∃ A n c, e = .returned (.slice A n c) ∧ Own w1 w.heap.size 5 (.slice A n c) bs ∧ Kp No w w1

theorem own_empty (w : World) : Own (w.alloc (.cells #[] 5)) w.heap.size 5 (.slice (some ⟨w.heap.size, 0, none⟩) 0 0) [] :=
  World.ownsRow_made w #[] 0 (Nat.le_refl _) (Nat.zero_le _) rfl

end Go.Proofs.Ytjjdkkncdnipcaa
namespace Go.Proofs.Ytjjdkkncdnipcaa
open Go.RowKit
set_option linter.unusedVariables false
set_option maxRecDepth 20000
set_option linter.unusedSimpArgs false

theorem Own.block {w : World} {base b L c : Nat} {bs : List UInt8} (h : Own w base 5 (.slice (some ⟨b, 0, none⟩) L c) bs) :
    ∃ cur : Array Value, w.heap[b]? = some (.cells cur 5 (0, 0)) ∧ L = bs.length ∧ L ≤ c ∧ c ≤ maxLen ∧ cur.size = c ∧ base ≤ b ∧ ∀ (k : Nat) x, bs[k]? = some x → cur[k]? = some (bv x) := by
  have hl := h.len
  rcases h.2 with ⟨e, _⟩ | ⟨g, cap, cur, e, hb, hg, h1, h2, h3, ht⟩
  · cases e
  · injection e with e1 e2 e3
    injection e1 with e1
    injection e1 with e1
    subst e1 e3
    refine ⟨cur, hg, hl, by omega, h2, by omega, hb, fun k x hk => ?_⟩
    have hkl : k < bs.length := (List.getElem?_eq_some_iff.1 hk).1
    have h4 : (cur.toList.take (bs.length * 1))[k]? = (bs.map bv)[k]? := by rw [ht]
    rw [List.getElem?_take, if_pos (by omega), Array.getElem?_toList, List.getElem?_map, hk] at h4
    exact h4
theorem Own.mk {w : World} {base b L c : Nat} {bs : List UInt8} {cur : Array Value} (hg : w.heap[b]? = some (.cells cur 5 (0, 0))) (hl : L = bs.length) (h1 : L ≤ c) (h2 : c ≤ maxLen) (h3 : cur.size = c) (hb : base ≤ b) (hx : ∀ (k : Nat) x, bs[k]? = some x → cur[k]? = some (bv x)) :
    Own w base 5 (.slice (some ⟨b, 0, none⟩) L c) bs := by
  refine ⟨by simp, .inr ⟨b, c, cur, by rw [hl], hb, hg, by omega, h2, by omega, ?_⟩⟩
  apply List.ext_getElem?
  intro k
  rw [List.getElem?_take, List.getElem?_map]
  by_cases e : k < bs.length
  · rw [if_pos (by omega), Array.getElem?_toList, hx k _ (List.getElem?_eq_getElem e), List.getElem?_eq_getElem e]
    rfl
  · rw [if_neg (by omega), List.getElem?_eq_none (by omega)]
    rfl
theorem Own.some_ {w : World} {base : Nat} {v : Value} {bs : List UInt8} (h : Own w base 5 v bs) (hn : 0 < bs.length) : ∃ b c, v = .slice (some ⟨b, 0, none⟩) bs.length c ∧ base ≤ b ∧ b < w.heap.size := by
  rcases h.2 with ⟨e, hz⟩ | ⟨g, cap, cur, e, hb, hg, _⟩
  · omega
  · exact ⟨g, cap, e, hb, (Array.getElem?_eq_some_iff.1 hg).1⟩
section
variable {w : World} {base b L c : Nat} {bs : List UInt8}
theorem Own.cellAt (h : Own w base 5 (.slice (some ⟨b, 0, none⟩) L c) bs) {k : Nat} {x : UInt8} (hk : bs[k]? = some x) : w.cell? ⟨b, k, none⟩ = some (.int .u8 (x.toNat : Int)) := by
  obtain ⟨cur, h1, _, _, _, _, _, h2⟩ := Own.block h
  rw [cell_of_row w b k _ _ _ h1, h2 k _ hk]
  rfl
theorem Own.frozenAt (h : Own w base 5 (.slice (some ⟨b, 0, none⟩) L c) bs) (k : Nat) : w.frozen? ⟨b, k, none⟩ = false := by
  obtain ⟨cur, h1, _⟩ := Own.block h
  exact frozen_of_row w b k _ _ h1
theorem Own.set (h : Own w base 5 (.slice (some ⟨b, 0, none⟩) L c) bs) {k : Nat} (hk : k < L) (x : UInt8) (v : Value) (hv : v = bv x) : Own (w.setCell ⟨b, k, none⟩ v) base 5 (.slice (some ⟨b, 0, none⟩) L c) (bs.set k x) := by
  subst hv
  obtain ⟨cur, h1, h2, h3, h4, h5, h6, h7⟩ := Own.block h
  refine Own.mk (cur := cur.setIfInBounds k (bv x)) (heap_setCell_same w b k cur _ _ h1) (by rw [List.length_set]; exact h2) h3 h4 (by rw [Array.size_setIfInBounds]; exact h5) h6 fun j y hj => ?_
  rw [List.getElem?_set] at hj
  rw [Array.getElem?_setIfInBounds]
  by_cases e : k = j
  · subst e
    rw [if_pos rfl, if_pos (by omega)] at hj
    injection hj with hj
    rw [if_pos rfl, if_pos (by omega), hj]
  · rw [if_neg e] at hj
    rw [if_neg e]
    exact h7 j _ hj
end
end Go.Proofs.Ytjjdkkncdnipcaa
namespace Go.Proofs.Ytjjdkkncdnipcaa
open Go.RowKit
set_option linter.unusedVariables false

/-- All but the count of draws is as it was. -/
def Sm (w w' : World) : Prop := ∃ n, w' = w.drewN n
section
variable {w w1 w2 : World} {S : Nat → Prop}
theorem Sm.refl (w : World) : Sm w w := ⟨0, rfl⟩
theorem Sm.trans (h : Sm w w1) (k : Sm w1 w2) : Sm w w2 := by
  obtain ⟨a, rfl⟩ := h
  obtain ⟨b, rfl⟩ := k
  exact ⟨a + b, World.drewN_drewN _ _ _⟩
theorem Sm.drew (w : World) : Sm w w.drew := ⟨1, rfl⟩
theorem Sm.drewN (w : World) (n : Nat) : Sm w (w.drewN n) := ⟨n, rfl⟩
theorem Sm.heap (h : Sm w w1) : w1.heap = w.heap := by obtain ⟨n, rfl⟩ := h; rfl
theorem Sm.kp (h : Sm w w1) : Kp S w w1 := by obtain ⟨n, rfl⟩ := h; exact (Kp.refl S w).drewN n
theorem Sm.block (h : Sm w w1) (k : Nat) : w1.heap[k]? = w.heap[k]? := by rw [h.heap]
theorem Sm.cell (h : Sm w w1) (p : Addr) : w1.cell? p = w.cell? p := World.cell?_of_block (h.block p.block)
theorem Sm.size (h : Sm w w1) : w1.heap.size = w.heap.size := by rw [h.heap]
end

/-- A matrix's two blocks, how many cells it has, and how many there is room for. -/
structure MB where
  g : Nat
  b : Nat
  n : Nat
  cap : Nat

/-- The matrix's pointer. -/
abbrev MB.ptr (m : MB) : Value := .pointer (some ⟨m.g, 0, none⟩)
/-- The matrix's blocks. -/
def MB.In (m : MB) (k : Nat) : Prop := k = m.g ∨ k = m.b

theorem idx_lt {i k r c : Nat} (hi : i < r) (hk : k < c) : i * c + k < r * c := by
  have := Nat.mul_le_mul_right c (show i + 1 ≤ r from hi)
  rw [Nat.add_mul, Nat.one_mul] at this
  omega
theorem mul_le_4096 {r c : Nat} (hr : r ≤ 64) (hc : c ≤ 64) : r * c ≤ 4096 := Nat.mul_le_mul hr hc

section
variable {w w1 : World} {m : MB} {r c : Nat} {f f' : Nat → Nat → UInt8} {S : Nat → Prop}
/-- One element set. -/
def setF (f : Nat → Nat → UInt8) (i0 k0 : Nat) (x : UInt8) (i k : Nat) : UInt8 := if i = i0 ∧ k = k0 then x else f i k
theorem idx_inj {i k i0 k0 c : Nat} (hk : k < c) (hk0 : k0 < c) (h : i * c + k = i0 * c + k0) : i = i0 ∧ k = k0 := by
  have hc : 0 < c := by omega
  have h1 : (i * c + k) / c = i := by rw [Nat.mul_comm, Nat.mul_add_div hc, Nat.div_eq_of_lt hk, Nat.add_zero]
  have h2 : (i0 * c + k0) / c = i0 := by rw [Nat.mul_comm, Nat.mul_add_div hc, Nat.div_eq_of_lt hk0, Nat.add_zero]
  have h3 : (i * c + k) % c = k := by rw [Nat.mul_comm, Nat.mul_add_mod, Nat.mod_eq_of_lt hk]
  have h4 : (i0 * c + k0) % c = k0 := by rw [Nat.mul_comm, Nat.mul_add_mod, Nat.mod_eq_of_lt hk0]
  rw [h] at h1 h3
  omega
theorem kp_set (hS : S m.b) (o : Nat) (v : Value) : Kp S w (w.setCell ⟨m.b, o, none⟩ v) := Kp.setCell (p := ⟨m.b, o, none⟩) hS v
theorem kp_set1 (w : World) (m : MB) (o : Nat) (v : Value) : Kp (fun k => k = m.b) w (w.setCell ⟨m.b, o, none⟩ v) := Kp.setCell (p := ⟨m.b, o, none⟩) (S := fun k => k = m.b) rfl v
/-- A row, as bytes. -/
def rowL (c : Nat) (s : Nat → UInt8) : List UInt8 := (List.range c).map s
theorem rowL_len (c : Nat) (s : Nat → UInt8) : (rowL c s).length = c := by simp [rowL]
theorem rowL_get {c k : Nat} (s : Nat → UInt8) (hk : k < c) : (rowL c s)[k]? = some (s k) := by simp [rowL, hk]
/-- All of it, as bytes. -/
def allL (r c : Nat) (f : Nat → Nat → UInt8) : List UInt8 := (List.range (r * c)).map fun j => f (j / c) (j % c)
theorem allL_len (r c : Nat) (f : Nat → Nat → UInt8) : (allL r c f).length = r * c := by simp [allL]
theorem allL_get {j : Nat} (f : Nat → Nat → UInt8) (hj : j < r * c) : (allL r c f)[j]? = some (f (j / c) (j % c)) := by simp [allL, hj]
theorem div_lt {j : Nat} (hj : j < r * c) : j / c < r := by rw [Nat.mul_comm] at hj; exact Nat.div_lt_of_lt_mul hj
theorem allL_eq (hc : 1 ≤ c) {g : Nat → Nat → UInt8} : allL r c f = allL r c g ↔ EqF r c f g := by
  constructor
  · intro h i k hi hk
    have hj := idx_lt hi hk
    have := allL_get f hj
    rw [h, allL_get g hj] at this
    have e1 : (i * c + k) / c = i := by rw [Nat.mul_comm, Nat.mul_add_div (by omega), Nat.div_eq_of_lt hk, Nat.add_zero]
    have e2 : (i * c + k) % c = k := by rw [Nat.mul_comm, Nat.mul_add_mod, Nat.mod_eq_of_lt hk]
    rw [e1, e2] at this
    injection this with this
    exact this.symm
  · intro h
    refine List.map_congr_left fun j hj => ?_
    have hj := List.mem_range.1 hj
    exact h _ _ (div_lt hj) (Nat.mod_lt _ (by omega))
end

theorem ret_b {a b : Bool} (h : a = b) : Ending.returned (.bool a) = .returned (.bool b) := by rw [h]
/-- No matrix comes back, and ErrArg. -/
def ArgPost (w : World) (e : Ending) (w1 : World) : Prop := e = .returned (.tuple #[.pointer none, .int .i64 1]) ∧ Kp No w w1

/-- A row's slice comes back. -/
def RowPost (w : World) (m : MB) (i c : Nat) (e : Ending) (w1 : World) : Prop := ∃ o cp, e = .returned (.slice (some ⟨m.b, o, none⟩) c cp) ∧ o = i * c ∧ c ≤ cp ∧ Sm w w1

end Go.Proofs.Ytjjdkkncdnipcaa
namespace Go.Proofs.Ytjjdkkncdnipcaa
open Go.RowKit
set_option linter.unusedVariables false

section
variable {w : World} {m : MB} {r c : Nat} {f : Nat → Nat → UInt8}

/-- No slice comes back. -/
def NoRow (w : World) (e : Ending) (w1 : World) : Prop := e = .returned (.slice none 0 0) ∧ Sm w w1
theorem OwnPost.of_sm {w w1 w2 : World} {bs : List UInt8} {e : Ending} (hs : Sm w w1) (h : OwnPost w1 bs e w2) : OwnPost w bs e w2 := by
  obtain ⟨A, n, c, rfl, ho, hk⟩ := h
  exact ⟨A, n, c, rfl, by rw [← hs.size]; exact ho, hs.kp.trans' hk⟩
theorem kept3 {W w1 : World} {b : Nat} {x0 x1 x2 : Value} (hk : Kp No W w1)
    (h : W.cell? ⟨b, 0, none⟩ = some x0 ∧ W.cell? ⟨b, 1, none⟩ = some x1 ∧ W.cell? ⟨b, 2, none⟩ = some x2) :
    w1.cell? ⟨b, 0, none⟩ = some x0 ∧ w1.cell? ⟨b, 1, none⟩ = some x1 ∧ w1.cell? ⟨b, 2, none⟩ = some x2 :=
  ⟨hk.cell h.1 fun f => f, hk.cell h.2.1 fun f => f, hk.cell h.2.2 fun f => f⟩

/-- Are the bytes alike? -/
def eqB (a b : List UInt8) : Bool := decide (a = b)
theorem eqB_str (a b : List UInt8) : ((strOf a).toList == (strOf b).toList) = eqB a b := by
  rw [Bool.eq_iff_iff, beq_iff_eq, ByteArray.toList_eq, ByteArray.toList_eq]
  unfold eqB
  rw [decide_eq_true_iff]
  exact Iff.rfl
/-- Are the sizes alike? -/
def szB (r c r' c' : Nat) : Bool := decide (r = r' ∧ c = c')
end
end Go.Proofs.Ytjjdkkncdnipcaa
namespace Go.Proofs.Ytjjdkkncdnipcaa
open Go.RowKit
set_option linter.unusedVariables false

/-- The sum of two bytes, out of the walk's sight. -/
def ux (a b : UInt8) : UInt8 := a ^^^ b
theorem ux_toNat (a b : UInt8) : (ux a b).toNat = a.toNat ^^^ b.toNat := ux_nat a b
/-- A list as a function. -/
def lg (l : List UInt8) (j : Nat) : UInt8 := l.getD j 0
theorem lg_of {l : List UInt8} {j : Nat} {b : UInt8} (h : l[j]? = some b) : lg l j = b := by simp [lg, h]
theorem lg_rowL {c j : Nat} (s : Nat → UInt8) (h : j < c) : lg (rowL c s) j = s j := lg_of (rowL_get s h)

/-- So many elements, row by row, are turned. -/
def partF (f g : Nat → Nat → UInt8) (i0 k0 i k : Nat) : UInt8 := if k < i0 ∨ (k = i0 ∧ i < k0) then f i k else g i k
theorem partF_step (F g : Nat → Nat → UInt8) (k q i j : Nat) : setF (partF F g k q) q k (F q k) i j = partF F g k (q + 1) i j := by
  unfold setF partF
  by_cases h1 : i = q ∧ j = k
  · obtain ⟨rfl, rfl⟩ := h1
    rw [if_pos ⟨rfl, rfl⟩, if_pos (by omega)]
  · rw [if_neg h1]
    by_cases h2 : j < k ∨ (j = k ∧ i < q)
    · rw [if_pos h2, if_pos (by omega)]
    · rw [if_neg h2, if_neg (by omega)]

end Go.Proofs.Ytjjdkkncdnipcaa
namespace Go.Proofs.Ytjjdkkncdnipcaa
open Go.RowKit
set_option linter.unusedVariables false

/-- The slice at A of n slices reads as the rows bss. -/
structure Rws (w : World) (A : Option Addr) (n : Nat) (bss : List (List UInt8)) : Prop where
  len : n = bss.length
  at_ : ∀ (j : Nat) bs, bss[j]? = some bs → ∃ B off v, A = some ⟨B, off, none⟩ ∧ w.cell? ⟨B, off + j, none⟩ = some v ∧ Bts w v bs

theorem Rws.no {w w1 : World} {A : Option Addr} {n : Nat} {bss : List (List UInt8)} (h : Rws w A n bss) (hk : Kp No w w1) : Rws w1 A n bss := by
  refine ⟨h.len, fun j bs hj => ?_⟩
  obtain ⟨B, off, v, h1, h2, h3⟩ := h.at_ j bs hj
  exact ⟨B, off, v, h1, hk.cell h2 (fun f => f), h3.no hk⟩
theorem Rws.nil (w : World) : Rws w none 0 [] := ⟨rfl, fun j bs hj => by simp at hj⟩
/-- One of the rows. -/
theorem Rws.get {w : World} {A : Option Addr} {n : Nat} {bss : List (List UInt8)} (h : Rws w A n bss) {j : Nat} (hj : j < n) :
    ∃ B off A' m c bs, A = some ⟨B, off, none⟩ ∧ w.cell? ⟨B, off + j, none⟩ = some (.slice A' m c) ∧ bss[j]? = some bs ∧ Bts w (.slice A' m c) bs := by
  have hl := h.len
  obtain ⟨B, off, v, h1, h2, h3⟩ := h.at_ j _ (List.getElem?_eq_getElem (by omega))
  obtain ⟨A', m, c, rfl⟩ := h3.form
  exact ⟨B, off, A', m, c, _, h1, h2, List.getElem?_eq_getElem (by omega), h3⟩

section
variable {w w1 : World} {S : Nat → Prop} {base : Nat} {v u : Value} {vs : List Value}
end
end Go.Proofs.Ytjjdkkncdnipcaa
namespace Go.Proofs.Ytjjdkkncdnipcaa
open Go.RowKit
set_option linter.unusedVariables false

/-- The rows as a function. -/
def fnL (bss : List (List UInt8)) (i k : Nat) : UInt8 := lg (bss.getD i []) k
theorem fnL_of {bss : List (List UInt8)} {i : Nat} {bs : List UInt8} (h : bss[i]? = some bs) (k : Nat) : fnL bss i k = lg bs k := by simp [fnL, h]
/-- May rows be a matrix of r rows and c columns? -/
structure Rect (bss : List (List UInt8)) (r c : Nat) : Prop where
  len : bss.length = r
  row : ∀ (j : Nat) bs, bss[j]? = some bs → bs.length = c
  r1 : 1 ≤ r
  r2 : r ≤ 64
  c1 : 1 ≤ c
  c2 : c ≤ 64
/-- One row set. -/
def setR (f : Nat → Nat → UInt8) (i0 : Nat) (s : Nat → UInt8) (i k : Nat) : UInt8 := if i = i0 then s k else f i k

theorem byte_size : (Try.prog.info? 5).map (·.size) = some 1 := by kernel_rfl
/-- The first rows are f's, the others g's. -/
def upF (f g : Nat → Nat → UInt8) (k i j : Nat) : UInt8 := if i < k then f i j else g i j
theorem upF_step {f g : Nat → Nat → UInt8} {k : Nat} {s : Nat → UInt8} (h : ∀ j, f k j = s j) (i j : Nat) : setR (upF f g k) k s i j = upF f g (k + 1) i j := by
  unfold setR upF
  by_cases e : i = k
  · subst e
    rw [if_pos rfl, if_pos (by omega), h]
  · rw [if_neg e]
    by_cases h1 : i < k
    · rw [if_pos h1, if_pos (by omega)]
    · rw [if_neg h1, if_neg (by omega)]

/-- The length of the first row. -/
def len0 (bss : List (List UInt8)) : Nat := (bss.getD 0 []).length
end Go.Proofs.Ytjjdkkncdnipcaa
namespace Go.Proofs.Ytjjdkkncdnipcaa
open Go.RowKit
set_option linter.unusedVariables false

/-- A bit of a number. -/
def bitN (n i : Nat) : Nat := n / 2 ^ i % 2
/-- 2 to some. -/
def pw2 (i : Nat) : Nat := 2 ^ i
theorem pw2_le {i k : Nat} (h : i ≤ k) : pw2 i ≤ pw2 k := Nat.pow_le_pow_right (by decide) h
theorem xor_i64 (a b : Nat) (ha : a < 32768) (hb : b < 32768) : bits .xor .i64 (a : Int) (b : Int) = ((a ^^^ b : Nat) : Int) := by
  have hx : a ^^^ b < 2 ^ 15 := Nat.xor_lt_two_pow (by omega) (by omega)
  show IntKind.i64.wrap ((BitVec.ofInt 64 (a : Int) ^^^ BitVec.ofInt 64 (b : Int)).toNat : Int) = _
  rw [BitVec.toNat_xor, ofInt_u64 a (by omega), ofInt_u64 b (by omega), IntKind.wrap_i64]
  omega
theorem racc_le {a : Nat} (ha : a < 256) (b k : Nat) (hk : k ≤ 8) : racc a b k < 32768 := racc_lt ha b k hk
theorem rdown_le {p : Nat} (hp : p < 32768) (k : Nat) (hk : k ≤ 7) : rdown p k < 32768 := rdown_lt hp k hk

end Go.Proofs.Ytjjdkkncdnipcaa
namespace Go.Proofs.Ytjjdkkncdnipcaa
open Go.RowKit
set_option linter.unusedVariables false

section
variable {w : World} {A : Option Addr} {n c cp : Nat} {bss : List (List UInt8)}

/-- Are the rows alike? -/
def eqR (a b : List (List UInt8)) : Bool := decide (a = b)
theorem eqR_diff {a b : List (List UInt8)} {k : Nat} {x y : List UInt8} (ha : a[k]? = some x) (hb : b[k]? = some y) (h : eqB x y = false) : eqR a b = false := by
  unfold eqR
  rw [decide_eq_false_iff_not]
  rintro rfl
  rw [ha] at hb
  injection hb with hb
  subst hb
  simp [eqB] at h
theorem take_snoc {a b : List (List UInt8)} {k : Nat} {x y : List UInt8} (ht : a.take k = b.take k) (ha : a[k]? = some x) (hb : b[k]? = some y) (h : eqB x y = true) : a.take (k + 1) = b.take (k + 1) := by
  have : x = y := by simpa [eqB] using h
  subst this
  rw [List.take_add_one, List.take_add_one, ht, ha, hb]

end

theorem xorU (a b : UInt8) : bits .xor .u8 (a.toNat : Int) (b.toNat : Int) = ((ux a b).toNat : Int) := by
  rw [ux_toNat]
  exact u8_xor_nat a.toNat b.toNat (u8_lt a) (u8_lt b)

section
variable {w : World} {A : Option Addr} {n c cp : Nat} {bss : List (List UInt8)}
/-- A matrix of few elements. -/
structure Sml (bss : List (List UInt8)) (r c : Nat) : Prop where
  rect : Rect bss r c
  r9 : r ≤ 9
  c9 : c ≤ 9
end

theorem bts_two (w : World) (x y : UInt8) : Bts (w.alloc (.cells #[bv x, bv y] 5)) (.slice (some ⟨w.heap.size, 0, none⟩) 2 2) [x, y] := by
  refine ⟨_, 2, rfl, (fun h => by cases h), fun ad ha j u hu => ?_⟩
  injection ha with ha
  subst ha
  match j, hu with
  | 0, hu =>
    simp at hu
    subst hu
    simp [Addr.add]
  | 1, hu =>
    simp at hu
    subst hu
    simp [Addr.add]
  | j + 2, hu => simp at hu

end Go.Proofs.Ytjjdkkncdnipcaa
namespace Go.Proofs.Ytjjdkkncdnipcaa
open Go.RowKit
set_option linter.unusedVariables false

/-- A matrix's rows. -/
def matL (r c : Nat) (f : Nat → Nat → UInt8) : List (List UInt8) := (List.range r).map fun i => rowL c (f i)
theorem matL_len (r c : Nat) (f : Nat → Nat → UInt8) : (matL r c f).length = r := by simp [matL]
theorem matL_get {r c i : Nat} (f : Nat → Nat → UInt8) (hi : i < r) : (matL r c f)[i]? = some (rowL c (f i)) := by simp [matL, hi]
theorem matL_congr {r c : Nat} {f g : Nat → Nat → UInt8} (h : EqF r c f g) : matL r c f = matL r c g := by
  unfold matL
  refine List.map_congr_left fun i hi => ?_
  have hi := List.mem_range.1 hi
  unfold rowL
  exact List.map_congr_left fun k hk => h i k hi (List.mem_range.1 hk)
theorem rowL_lg (bs : List UInt8) : rowL bs.length (lg bs) = bs := by
  apply List.ext_getElem
  · simp [rowL]
  · intro j h1 h2
    simp [rowL, lg, h2]
theorem matL_fnL {bss : List (List UInt8)} {r c : Nat} (h : Rect bss r c) : matL r c (fnL bss) = bss := by
  apply List.ext_getElem
  · simp [matL, h.len]
  · intro i h1 h2
    have hg := List.getElem?_eq_getElem h2
    have hl := h.row i _ hg
    simp only [matL, List.getElem_map, List.getElem_range]
    rw [show fnL bss i = lg bss[i] from funext fun k => fnL_of hg k, ← hl, rowL_lg]
theorem matL_rect {r c : Nat} (f : Nat → Nat → UInt8) (r1 : 1 ≤ r) (r2 : r ≤ 64) (c1 : 1 ≤ c) (c2 : c ≤ 64) : Rect (matL r c f) r c := by
  refine ⟨matL_len r c f, fun j bs hj => ?_, r1, r2, c1, c2⟩
  have hjl : j < r := by have := (List.getElem?_eq_some_iff.1 hj).1; rwa [matL_len] at this
  rw [matL_get f hjl] at hj
  injection hj with hj
  subst hj
  exact rowL_len _ _

/-- Rows of the call's own come back. -/
def RowsPost (w : World) (r : Nat) (bss : List (List UInt8)) (e : Ending) (w1 : World) : Prop := ∃ A cp, e = .returned (.slice A r cp) ∧ Rws w1 A r bss ∧ Kp No w w1

theorem fresh_cell (w : World) (u : Value) (t : TypeId) : (w.alloc (.cells #[u] t)).cell? ⟨w.heap.size, 0, none⟩ = some u := by simp

end Go.Proofs.Ytjjdkkncdnipcaa
