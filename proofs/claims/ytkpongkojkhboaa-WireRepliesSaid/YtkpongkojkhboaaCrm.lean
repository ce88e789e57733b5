/- CRC-32C in plain words: the register's step on any number, that it keeps xor, that bytes are fed as one great number, and that bits turned within 32 side by side change what comes out. No program is spoken of. -/
import Derived.Test.YtkpongkojkhboaaMem
namespace Go.Proofs.Ytkpongkojkhboaa
set_option linter.unusedVariables false
set_option maxRecDepth 20000
set_option linter.unusedSimpArgs false

/-- One bit leaves the register. -/
def cb (c : Nat) : Nat := if c % 2 = 1 then c / 2 ^^^ 0x82f63b78 else c / 2
/-- So many bits leave it. -/
def cn : Nat → Nat → Nat
  | 0, c => c
  | k + 1, c => cn k (cb c)
/-- One byte is fed. -/
def cby (c b : Nat) : Nat := cn 8 (c ^^^ b)
/-- Bytes are fed. -/
def cbs (c : Nat) (bs : List UInt8) : Nat := bs.foldl (fun c b => cby c b.toNat) c
/-- All ones. -/
def c1s : Nat := 4294967295
/-- The sum of bytes. -/
def crc (bs : List UInt8) : Nat := c1s - cbs c1s bs
/-- Bytes as one number, the first the least. -/
def bnum : List UInt8 → Nat
  | [] => 0
  | b :: t => b.toNat + 256 * bnum t

theorem xor_half (a b : Nat) : (a ^^^ b) / 2 = a / 2 ^^^ b / 2 := by
  have := Nat.shiftRight_xor_distrib (a := a) (b := b) (i := 1)
  simpa [Nat.shiftRight_succ] using this
theorem xor_odd (a b : Nat) : (a ^^^ b) % 2 = (a % 2 + b % 2) % 2 := by
  have h := Nat.xor_mod_two_pow (a := a) (b := b) (n := 1)
  rw [Nat.pow_one] at h
  rw [h]
  have ha : a % 2 = 0 ∨ a % 2 = 1 := by omega
  have hb : b % 2 = 0 ∨ b % 2 = 1 := by omega
  rcases ha with ha | ha <;> rcases hb with hb | hb <;> rw [ha, hb] <;> decide
theorem cb_xor (a b : Nat) : cb (a ^^^ b) = cb a ^^^ cb b := by
  unfold cb
  rw [xor_odd, xor_half]
  have ha : a % 2 = 0 ∨ a % 2 = 1 := by omega
  have hb : b % 2 = 0 ∨ b % 2 = 1 := by omega
  rcases ha with ha | ha <;> rcases hb with hb | hb <;> rw [ha, hb]
  · simp
  · simp only [Nat.zero_add, if_true, if_false, Nat.reduceMod, Nat.reduceEqDiff]
    rw [← Nat.xor_assoc]
  · simp only [Nat.add_zero, if_true, if_false, Nat.reduceMod, Nat.reduceEqDiff]
    rw [Nat.xor_assoc, Nat.xor_comm (b / 2), ← Nat.xor_assoc]
  · simp only [Nat.reduceAdd, Nat.reduceMod, if_true]
    simp only [Nat.reduceEqDiff, if_false]
    rw [Nat.xor_assoc, ← Nat.xor_assoc 2197175160 (b / 2), Nat.xor_comm 2197175160 (b / 2), Nat.xor_assoc (b / 2), Nat.xor_self, Nat.xor_zero]
theorem cn_xor (k a b : Nat) : cn k (a ^^^ b) = cn k a ^^^ cn k b := by
  induction k generalizing a b with
  | zero => rfl
  | succ k ih => show cn k (cb (a ^^^ b)) = cn k (cb a) ^^^ cn k (cb b); rw [cb_xor, ih]
theorem cn_add (k l c : Nat) : cn (k + l) c = cn l (cn k c) := by
  induction k generalizing c with
  | zero => rw [Nat.zero_add]; rfl
  | succ k ih => rw [Nat.succ_add]; exact ih _
theorem cb_even (x : Nat) : cb (2 * x) = x := by unfold cb; rw [if_neg (by omega)]; omega
theorem cn_up (k x : Nat) : cn k (2 ^ k * x) = x := by
  induction k generalizing x with
  | zero => simp [cn]
  | succ k ih =>
    show cn k (cb (2 ^ (k + 1) * x)) = x
    rw [Nat.pow_succ, Nat.mul_comm (2 ^ k) 2, Nat.mul_assoc, cb_even, ih]
theorem cb_lt {c : Nat} (h : c < 2 ^ 32) : cb c < 2 ^ 32 := by
  unfold cb
  split
  · exact Nat.xor_lt_two_pow (by omega) (by decide)
  · omega
theorem cn_lt {c : Nat} (h : c < 2 ^ 32) (k : Nat) : cn k c < 2 ^ 32 := by
  induction k generalizing c with
  | zero => exact h
  | succ k ih => exact ih (cb_lt h)
theorem xor_zero_eq {a b : Nat} (h : a ^^^ b = 0) : a = b := by
  have : (a ^^^ b) ^^^ b = 0 ^^^ b := by rw [h]
  rw [Nat.xor_assoc, Nat.xor_self, Nat.xor_zero, Nat.zero_xor] at this
  exact this
theorem cb_zero {c : Nat} (h : c < 2 ^ 32) (hz : cb c = 0) : c = 0 := by
  unfold cb at hz
  split at hz
  · have := xor_zero_eq hz
    omega
  · omega
theorem cn_zero {c : Nat} (h : c < 2 ^ 32) (k : Nat) (hz : cn k c = 0) : c = 0 := by
  induction k generalizing c with
  | zero => exact hz
  | succ k ih => exact cb_zero h (ih (cb_lt h) hz)
/-- A great number's low byte and the rest. -/
theorem low_xor {b : Nat} (h : b < 256) (x : Nat) : b + 256 * x = b ^^^ 256 * x := by
  apply Nat.eq_of_testBit_eq
  intro i
  have e : b + 256 * x = 2 ^ 8 * x + b := by omega
  rw [e, Nat.testBit_two_pow_mul_add x h, Nat.testBit_xor]
  have e2 : 256 * x = 2 ^ 8 * x := rfl
  rw [e2, Nat.testBit_two_pow_mul]
  by_cases g : i < 8
  · have : decide (i ≥ 8) = false := decide_eq_false (by omega)
    rw [if_pos g, this]; simp
  · have hd : decide (i ≥ 8) = true := decide_eq_true (by omega)
    rw [if_neg g, hd]
    have : b.testBit i = false := Nat.testBit_lt_two_pow (Nat.lt_of_lt_of_le h (by
      have := Nat.pow_le_pow_right (n := 2) (by omega) (show 8 ≤ i by omega)
      exact this))
    rw [this]; simp
theorem cn8_split (x : Nat) : cn 8 x = cn 8 (x % 256) ^^^ x / 256 := by
  have e : x = x % 256 ^^^ 256 * (x / 256) := by rw [← low_xor (Nat.mod_lt _ (by omega))]; omega
  have h := cn_xor 8 (x % 256) (256 * (x / 256))
  rw [← e] at h
  rw [h]
  congr 1
  exact cn_up 8 (x / 256)
theorem cby_lt {c b : Nat} (h : c < 2 ^ 32) (hb : b < 256) : cby c b < 2 ^ 32 := cn_lt (Nat.xor_lt_two_pow h (by omega)) 8
theorem cbs_lt {c : Nat} (h : c < 2 ^ 32) (bs : List UInt8) : cbs c bs < 2 ^ 32 := by
  induction bs generalizing c with
  | nil => exact h
  | cons b t ih => exact ih (cby_lt h (by have := b.toNat_lt; omega))
theorem cbs_app (c : Nat) (a b : List UInt8) : cbs c (a ++ b) = cbs (cbs c a) b := List.foldl_append
/-- Bytes are fed as one great number. -/
theorem cbs_num (c : Nat) (bs : List UInt8) : cbs c bs = cn (8 * bs.length) (c ^^^ bnum bs) := by
  induction bs generalizing c with
  | nil => simp [cbs, bnum, cn]
  | cons b t ih =>
    have hb := b.toNat_lt
    show cbs (cby c b.toNat) t = _
    rw [ih, show 8 * (b :: t).length = 8 + 8 * t.length by simp; omega, cn_add]
    congr 1
    show cby c b.toNat ^^^ bnum t = cn 8 (c ^^^ (b.toNat + 256 * bnum t))
    rw [low_xor (by omega), ← Nat.xor_assoc, cn_xor]
    unfold cby
    congr 1
    exact (cn_up 8 (bnum t)).symm
/-- Turned bits within 32 side by side, at any place, change the register. -/
theorem cbs_burst {c : Nat} {us bs : List UInt8} {B s : Nat} (hl : us.length = bs.length) (hB : B < 2 ^ 32) (h0 : B ≠ 0) (hs : s + 32 ≤ 8 * us.length) (he : bnum bs = bnum us ^^^ 2 ^ s * B) : cbs c bs ≠ cbs c us := by
  intro e
  rw [cbs_num, cbs_num, ← hl, he, ← Nat.xor_assoc, cn_xor] at e
  have hz : cn (8 * us.length) (2 ^ s * B) = 0 := by
    have : (cn (8 * us.length) (c ^^^ bnum us) ^^^ cn (8 * us.length) (2 ^ s * B)) ^^^ cn (8 * us.length) (c ^^^ bnum us) = 0 := by rw [e, Nat.xor_self]
    rw [Nat.xor_comm, ← Nat.xor_assoc, Nat.xor_self, Nat.zero_xor] at this
    exact this
  rw [show 8 * us.length = s + (8 * us.length - s) by omega, cn_add, cn_up] at hz
  exact h0 (cn_zero hB _ hz)
theorem c1s_lt : c1s < 2 ^ 32 := by decide
/-- The complement. -/
theorem comp_xor {x : Nat} (h : x < 2 ^ 32) : c1s - x = x ^^^ c1s := by
  have e : c1s = 2 ^ 32 - 1 := rfl
  apply Nat.eq_of_testBit_eq
  intro i
  rw [Nat.testBit_xor, e, show 2 ^ 32 - 1 - x = 2 ^ 32 - (x + 1) by omega, Nat.testBit_two_pow_sub_succ h, Nat.testBit_two_pow_sub_one]
  by_cases g : i < 32
  · simp [g]
  · have : x.testBit i = false := Nat.testBit_lt_two_pow (Nat.lt_of_lt_of_le h (Nat.pow_le_pow_right (by omega) (by omega)))
    simp [g, this]
theorem crc_lt (bs : List UInt8) : crc bs < 2 ^ 32 := by unfold crc c1s; omega
/-- Go. -/
theorem crc_go (a b : List UInt8) : c1s - cbs (c1s - crc a) b = crc (a ++ b) := by
  have h := cbs_lt c1s_lt a
  have e : c1s - crc a = cbs c1s a := by unfold crc; have : cbs c1s a ≤ c1s := by unfold c1s; unfold c1s at h; omega
                                         omega
  rw [e]
  unfold crc
  rw [cbs_app]
theorem crc_inj {a b : List UInt8} (h : crc a = crc b) : cbs c1s a = cbs c1s b := by
  have ha := cbs_lt c1s_lt a
  have hb := cbs_lt c1s_lt b
  unfold crc at h
  have e : c1s = 2 ^ 32 - 1 := rfl
  omega
theorem bnum_app (a b : List UInt8) : bnum (a ++ b) = bnum a + 256 ^ a.length * bnum b := by
  induction a with
  | nil => simp [bnum]
  | cons x t ih =>
    show x.toNat + 256 * bnum (t ++ b) = x.toNat + 256 * bnum t + 256 ^ (t.length + 1) * bnum b
    rw [ih, Nat.mul_add, Nat.pow_succ, Nat.mul_comm (256 ^ t.length) 256, Nat.mul_assoc, Nat.add_assoc]
theorem bnum_lt (a : List UInt8) : bnum a < 256 ^ a.length := by
  induction a with
  | nil => simp [bnum]
  | cons x t ih =>
    have := x.toNat_lt
    show x.toNat + 256 * bnum t < 256 ^ (t.length + 1)
    rw [Nat.pow_succ]
    omega
/-- One bit of the bytes is turned. -/
def bflip (bs : List UInt8) (k : Nat) : List UInt8 := bs.set (k / 8) (bs.getD (k / 8) 0 ^^^ UInt8.ofNat (2 ^ (k % 8)))
theorem bflip_len (bs : List UInt8) (k : Nat) : (bflip bs k).length = bs.length := by simp [bflip]
theorem bnum_flip (bs : List UInt8) (k : Nat) (h : k < 8 * bs.length) : bnum (bflip bs k) = bnum bs ^^^ 2 ^ k := by
  induction bs generalizing k with
  | nil => simp at h
  | cons b t ih =>
    have hb := b.toNat_lt
    by_cases g : k < 8
    · have e1 : k / 8 = 0 := by omega
      have e2 : k % 8 = k := by omega
      have hp : 2 ^ k < 256 := by
        have := Nat.pow_lt_pow_right (a := 2) (by omega) g
        exact this
      have e3 : bflip (b :: t) k = (b ^^^ UInt8.ofNat (2 ^ k)) :: t := by unfold bflip; rw [e1, e2]; rfl
      rw [e3]
      show (b ^^^ UInt8.ofNat (2 ^ k)).toNat + 256 * bnum t = (b.toNat + 256 * bnum t) ^^^ 2 ^ k
      have e4 : (b ^^^ UInt8.ofNat (2 ^ k)).toNat = b.toNat ^^^ 2 ^ k := by rw [UInt8.toNat_xor, UInt8.toNat_ofNat', Nat.mod_eq_of_lt hp]
      rw [e4, low_xor (Nat.xor_lt_two_pow (n := 8) (by omega) hp), low_xor (by omega), Nat.xor_assoc, Nat.xor_comm (2 ^ k), ← Nat.xor_assoc]
    · obtain ⟨j, rfl⟩ : ∃ j, k = j + 8 := ⟨k - 8, by omega⟩
      have e1 : (j + 8) / 8 = j / 8 + 1 := by omega
      have e2 : (j + 8) % 8 = j % 8 := by omega
      have e3 : bflip (b :: t) (j + 8) = b :: bflip t j := by unfold bflip; rw [e1, e2]; rfl
      rw [e3]
      show b.toNat + 256 * bnum (bflip t j) = (b.toNat + 256 * bnum t) ^^^ 2 ^ (j + 8)
      rw [ih j (by simp at h; omega), low_xor (by omega), low_xor (by omega), Nat.xor_assoc]
      congr 1
      have e4 : 2 ^ (j + 8) = 256 * 2 ^ j := by rw [Nat.pow_add, Nat.mul_comm]
      rw [e4]
      have := Nat.shiftLeft_xor_distrib (a := bnum t) (b := 2 ^ j) (i := 8)
      simp only [Nat.shiftLeft_eq] at this
      rw [Nat.mul_comm 256, Nat.mul_comm 256, Nat.mul_comm 256]
      exact this
/-- So many of 32 bits are turned, from s on. -/
def bflips (bs : List UInt8) (s B : Nat) : Nat → List UInt8
  | 0 => bs
  | i + 1 => if B / 2 ^ i % 2 = 1 then bflip (bflips bs s B i) (s + i) else bflips bs s B i
theorem bflips_len (bs : List UInt8) (s B i : Nat) : (bflips bs s B i).length = bs.length := by
  induction i with
  | zero => rfl
  | succ i ih => unfold bflips; split; rw [bflip_len, ih]; exact ih
theorem mod_succ (B i : Nat) : B % 2 ^ (i + 1) = B % 2 ^ i + 2 ^ i * (B / 2 ^ i % 2) := by
  rw [Nat.pow_succ, Nat.mod_mul]
theorem bnum_flips (bs : List UInt8) (s B i : Nat) (h : s + i ≤ 8 * bs.length) : bnum (bflips bs s B i) = bnum bs ^^^ 2 ^ s * (B % 2 ^ i) := by
  induction i with
  | zero => simp [bflips, Nat.mod_one]
  | succ i ih =>
    have ih := ih (by omega)
    unfold bflips
    by_cases g : B / 2 ^ i % 2 = 1
    · rw [if_pos g, bnum_flip _ _ (by rw [bflips_len]; omega), ih, Nat.xor_assoc]
      congr 1
      rw [mod_succ, g, Nat.mul_one, Nat.mul_add, ← Nat.pow_add]
      have hlt : 2 ^ s * (B % 2 ^ i) < 2 ^ (s + i) := by
        rw [Nat.pow_add]
        exact Nat.mul_lt_mul_of_pos_left (Nat.mod_lt _ (Nat.two_pow_pos _)) (Nat.two_pow_pos _)
      apply Nat.eq_of_testBit_eq
      intro j
      have e : 2 ^ s * (B % 2 ^ i) + 2 ^ (s + i) = 2 ^ (s + i) * 1 + 2 ^ s * (B % 2 ^ i) := by omega
      rw [e, Nat.testBit_two_pow_mul_add 1 hlt, Nat.testBit_xor, Nat.testBit_two_pow]
      by_cases q : j < s + i
      · have hd : decide (s + i = j) = false := decide_eq_false (by omega)
        rw [if_pos q, hd]; simp
      · rw [if_neg q]
        have : (2 ^ s * (B % 2 ^ i)).testBit j = false := Nat.testBit_lt_two_pow (Nat.lt_of_lt_of_le hlt (Nat.pow_le_pow_right (by omega) (by omega)))
        rw [this]
        by_cases r : s + i = j
        · subst r; simp
        · have : Nat.testBit 1 (j - (s + i)) = false := by
            obtain ⟨u, hu⟩ : ∃ u, j - (s + i) = u + 1 := ⟨j - (s + i) - 1, by omega⟩
            rw [hu, Nat.testBit_succ]; simp
          rw [this]; simp [r]
    · rw [if_neg g, ih, mod_succ, show B / 2 ^ i % 2 = 0 by omega, Nat.mul_zero, Nat.add_zero]
/-- What is turned within 32 bits of what stands behind some bytes is found. -/
theorem crc_finds {hd bs : List UInt8} {s B : Nat} (hB : B < 2 ^ 32) (h0 : B ≠ 0) (hs : s + 32 ≤ 8 * bs.length) : crc (hd ++ bflips bs s B 32) ≠ crc (hd ++ bs) := by
  intro e
  have e := crc_inj e
  rw [cbs_app, cbs_app] at e
  refine cbs_burst (us := bs) (bs := bflips bs s B 32) (B := B) (s := s) (bflips_len _ _ _ _).symm hB h0 hs ?_ e
  rw [bnum_flips _ _ _ _ hs, Nat.mod_eq_of_lt hB]
end Go.Proofs.Ytkpongkojkhboaa
