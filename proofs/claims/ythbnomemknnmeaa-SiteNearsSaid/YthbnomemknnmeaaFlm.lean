/- Which bits of a float stand for which whole number, and that sums, differences, products and conversions of whole numbers below 2^53 are exact. No condition beyond the numbers' size. -/
import Derived.Test.YthbnomemknnmeaaBase
import Derived.WalkLawsBesides
import Derived.Laws.FloatArith
import Derived.Laws.ComplexArith
import Derived.Laws.Cover3
namespace Go.Proofs.Ythbnomemknnmeaa
open Ieee
set_option linter.unusedVariables false
set_option linter.unusedSimpArgs false
set_option maxRecDepth 20000

/-- A whole number of a sign and a size. -/
def sgn (s : Bool) (n : Nat) : Int := if s then -(n : Int) else n
/-- The word of a whole number of that sign and size. -/
def wd (s : Bool) (n : Nat) : Nat := double.nearest s n 0
/-- A datum that stands for a whole number of that sign and size. -/
def Nm (d : Datum) (s : Bool) (n : Nat) : Prop := ∃ k : Nat, d = .number s (n * 2 ^ k) (-(k : Int))
/-- The bits b stand for the whole number n, which is less than 2^53 from 0. -/
def Fl (b : Nat) (n : Int) : Prop := ∃ s m, m < 2 ^ 53 ∧ n = sgn s m ∧ b = wd s m

theorem cut_exact (way : Toward) (h : way = .even ∨ way = .zero) (s : Bool) (n k : Nat) : way.cut s (n * 2 ^ k) k = n := by
  unfold Toward.cut
  by_cases hn : n = 0
  · subst hn
    rcases h with rfl | rfl <;> simp
  · have hl : (n * 2 ^ k).log2 = n.log2 + k := by
      rw [Nat.log2_eq_iff (by have := Nat.two_pow_pos k; exact Nat.mul_ne_zero hn (by omega))]
      have h1 := (Nat.log2_eq_iff hn).1 rfl
      rw [Nat.pow_add, show n.log2 + k + 1 = (n.log2 + 1) + k by omega, Nat.pow_add 2 (n.log2 + 1) k]
      exact ⟨Nat.mul_le_mul_right _ h1.1, Nat.mul_lt_mul_of_pos_right h1.2 (Nat.two_pow_pos _)⟩
    have hm : min k ((n * 2 ^ k).log2 + 2) = k := by rw [hl]; omega
    have hp := Nat.two_pow_pos k
    simp only [hm, Nat.one_shiftLeft]
    rw [Nat.mul_div_cancel _ hp, Nat.mul_mod_left]
    rcases h with rfl | rfl
    · have e1 : decide (2 ^ k < 2 * 0) = false := by simp
      have e2 : (2 ^ k == 2 * 0) = false := by simp
      simp only [e1, e2]
      simp
    · simp

theorem log2_scale {n : Nat} (hn : n ≠ 0) (k : Nat) : (n * 2 ^ k).log2 = n.log2 + k := by
  rw [Nat.log2_eq_iff (by have := Nat.two_pow_pos k; exact Nat.mul_ne_zero hn (by omega))]
  have h1 := (Nat.log2_eq_iff hn).1 rfl
  rw [Nat.pow_add, show n.log2 + k + 1 = (n.log2 + 1) + k by omega, Nat.pow_add 2 (n.log2 + 1) k]
  exact ⟨Nat.mul_le_mul_right _ h1.1, Nat.mul_lt_mul_of_pos_right h1.2 (Nat.two_pow_pos _)⟩
theorem log2_53 {n : Nat} (hn : n ≠ 0) (h : n < 2 ^ 53) : n.log2 ≤ 52 := by
  have h1 := (Nat.log2_eq_iff hn).1 rfl
  rcases Nat.lt_or_ge 52 n.log2 with g | g
  · have := Nat.pow_le_pow_right (n := 2) (by omega) g
    omega
  · exact g

theorem shl_pow (n k : Nat) : n <<< k = n * 2 ^ k := Nat.shiftLeft_eq n k
/-- The word of n at any place below. -/
theorem nearest_at (s : Bool) {n : Nat} (hn : n ≠ 0) (h : n < 2 ^ 53) (k : Nat) :
    double.nearest s (n * 2 ^ k) (-(k : Int)) = double.word s ((n.log2 + 1022) * 2 ^ 52 + n * 2 ^ (52 - n.log2)) := by
  have hl := log2_53 hn h
  have hp := Nat.two_pow_pos k
  have hne : n * 2 ^ k ≠ 0 := Nat.mul_ne_zero hn (by omega)
  have hle : double.leastPlace = -1074 := by decide
  have hfb : double.fractionBits = 52 := rfl
  have hb : double.binade = 2 ^ 52 := rfl
  have hi : double.infRung = 2047 * 2 ^ 52 := rfl
  unfold Format.nearest
  rw [if_neg hne]
  have hlast : max (-(k : Int) + ((n * 2 ^ k).log2 : Int) - (double.fractionBits : Int)) double.leastPlace = (n.log2 : Int) - 52 := by
    rw [log2_scale hn, hle, hfb]
    omega
  simp only [hlast]
  have hkept : Toward.even.cut s ((n * 2 ^ k) <<< (-(k : Int) - ((n.log2 : Int) - 52)).toNat) (((n.log2 : Int) - 52) - -(k : Int)).toNat = n * 2 ^ (52 - n.log2) := by
    rw [shl_pow]
    rcases Nat.le_total k (52 - n.log2) with g | g
    · have e1 : (-(k : Int) - ((n.log2 : Int) - 52)).toNat = 52 - n.log2 - k := by omega
      have e2 : (((n.log2 : Int) - 52) - -(k : Int)).toNat = 0 := by omega
      rw [e1, e2, Nat.mul_assoc, ← Nat.pow_add, show k + (52 - n.log2 - k) = 52 - n.log2 by omega]
      have := cut_exact .even (.inl rfl) s (n * 2 ^ (52 - n.log2)) 0
      rw [Nat.pow_zero, Nat.mul_one] at this
      exact this
    · have e1 : (-(k : Int) - ((n.log2 : Int) - 52)).toNat = 0 := by omega
      have e2 : (((n.log2 : Int) - 52) - -(k : Int)).toNat = k - (52 - n.log2) := by omega
      rw [e1, e2, Nat.pow_zero, Nat.mul_one]
      have e3 : n * 2 ^ k = n * 2 ^ (52 - n.log2) * 2 ^ (k - (52 - n.log2)) := by
        rw [Nat.mul_assoc, ← Nat.pow_add, show 52 - n.log2 + (k - (52 - n.log2)) = k by omega]
      rw [e3]
      exact cut_exact .even (.inl rfl) s _ _
  rw [hkept]
  have e4 : (((n.log2 : Int) - 52) - double.leastPlace).toNat = n.log2 + 1022 := by rw [hle]; omega
  rw [e4, hb, hi]
  congr 1
  apply Nat.min_eq_left
  have h1 := (Nat.log2_eq_iff hn).1 rfl
  have h2 : n * 2 ^ (52 - n.log2) < 2 ^ (n.log2 + 1) * 2 ^ (52 - n.log2) := Nat.mul_lt_mul_of_pos_right h1.2 (Nat.two_pow_pos _)
  rw [← Nat.pow_add, show n.log2 + 1 + (52 - n.log2) = 53 by omega] at h2
  obtain ⟨q, hq⟩ : ∃ q, q = n * 2 ^ (52 - n.log2) := ⟨_, rfl⟩
  obtain ⟨l, hl2⟩ : ∃ l, l = n.log2 := ⟨_, rfl⟩
  rw [← hq] at h2 ⊢
  rw [← hl2] at hl ⊢
  clear hq hl2 h1 hlast hkept e4 hle hfb hb hi hp hne
  have e52 : (2 : Nat) ^ 52 = 4503599627370496 := rfl
  have e53 : (2 : Nat) ^ 53 = 9007199254740992 := rfl
  rw [e52]
  rw [e53] at h2
  omega
theorem nearest_zero (s : Bool) (p : Int) : double.nearest s 0 p = double.word s 0 := by unfold Format.nearest; rw [if_pos rfl]
theorem nearest_scale (s : Bool) {n : Nat} (h : n < 2 ^ 53) (k : Nat) : double.nearest s (n * 2 ^ k) (-(k : Int)) = wd s n := by
  unfold wd
  by_cases hn : n = 0
  · subst hn
    rw [Nat.zero_mul, nearest_zero, nearest_zero]
  · rw [nearest_at s hn h k]
    have := nearest_at s hn h 0
    rw [Nat.pow_zero, Nat.mul_one] at this
    exact this.symm
theorem sw : double.signWeight = 2 ^ 63 := rfl
theorem read_word (s : Bool) {r : Nat} (h : r < 2 ^ 63) : (double.word s r / double.signWeight % 2 == 1) = s ∧ double.word s r % double.signWeight = r := by
  unfold Format.word
  rw [sw]
  cases s
  · simp only [Bool.false_eq_true, if_false]
    rw [Nat.div_eq_of_lt h, Nat.mod_eq_of_lt h]
    exact ⟨rfl, rfl⟩
  · simp only [if_true]
    have e1 : (2 ^ 63 + r) / 2 ^ 63 = 1 := by omega
    have e2 : (2 ^ 63 + r) % 2 ^ 63 = r := by omega
    rw [e1, e2]
    exact ⟨rfl, rfl⟩
theorem nm_zero (s : Bool) (k : Nat) : Nm (.number s 0 (-(k : Int))) s 0 := ⟨k, by rw [Nat.zero_mul]⟩
theorem read_wd (s : Bool) {n : Nat} (h : n < 2 ^ 53) : Nm (double.read (wd s n)) s n := by
  by_cases hn : n = 0
  · subst hn
    have e : double.read (wd s 0) = .number s 0 (-((1074 : Nat) : Int)) := by
      unfold wd
      rw [nearest_zero]
      unfold Format.read
      obtain ⟨e1, e2⟩ := read_word s (r := 0) (by omega)
      simp only [e1, e2]
      rw [if_pos (show 0 < double.binade by decide)]
      rfl
    rw [e]
    exact nm_zero s 1074
  · have hl := log2_53 hn h
    have h1 := (Nat.log2_eq_iff hn).1 rfl
    have h2 : n * 2 ^ (52 - n.log2) < 2 ^ (n.log2 + 1) * 2 ^ (52 - n.log2) := Nat.mul_lt_mul_of_pos_right h1.2 (Nat.two_pow_pos _)
    rw [← Nat.pow_add, show n.log2 + 1 + (52 - n.log2) = 53 by omega] at h2
    have h3 : 2 ^ n.log2 * 2 ^ (52 - n.log2) ≤ n * 2 ^ (52 - n.log2) := Nat.mul_le_mul_right _ h1.1
    rw [← Nat.pow_add, show n.log2 + (52 - n.log2) = 52 by omega] at h3
    have h4 : (n.log2 + 1022) * 2 ^ 52 ≤ (52 + 1022) * 2 ^ 52 := Nat.mul_le_mul_right _ (by omega)
    refine ⟨52 - n.log2, ?_⟩
    have hw : wd s n = double.word s ((n.log2 + 1022) * 2 ^ 52 + n * 2 ^ (52 - n.log2)) := by
      have := nearest_at s hn h 0
      rw [Nat.pow_zero, Nat.mul_one] at this
      exact this
    rw [hw]
    obtain ⟨m, hm⟩ : ∃ m, m = n * 2 ^ (52 - n.log2) := ⟨_, rfl⟩
    rw [← hm] at h2 h3 ⊢
    obtain ⟨r, hr⟩ : ∃ r, r = (n.log2 + 1022) * 2 ^ 52 + m := ⟨_, rfl⟩
    have hr63 : r < 2 ^ 63 := by omega
    rw [← hr]
    unfold Format.read
    obtain ⟨e1, e2⟩ := read_word s hr63
    simp only [e1, e2]
    have hb : double.binade = 2 ^ 52 := rfl
    have hi : double.infRung = 2047 * 2 ^ 52 := rfl
    have hle : double.leastPlace = -1074 := by decide
    rw [hb, hi, hle, if_neg (by omega), if_pos (by omega)]
    have d1 : r / 2 ^ 52 = n.log2 + 1023 := by omega
    have d2 : r % 2 ^ 52 = m - 2 ^ 52 := by omega
    have d3 : 2 ^ 52 + (m - 2 ^ 52) = m := by omega
    have d4 : (-1074 + ((n.log2 + 1023 - 1 : Nat) : Int)) = -((52 - n.log2 : Nat) : Int) := by omega
    rw [d1, d2, d3, d4]
theorem signed_eq (s : Bool) (m up : Nat) : signed s m up = sgn s m * 2 ^ up := by
  unfold signed sgn
  rw [shl_pow]
  cases s
  · simp
  · simp [Int.neg_mul]
theorem sgn_neg (s : Bool) (m : Nat) : sgn (!s) m = - sgn s m := by cases s <;> simp [sgn]
theorem sgn_mul (s t : Bool) (m n : Nat) : sgn (s ^^ t) (m * n) = sgn s m * sgn t n := by cases s <;> cases t <;> simp [sgn, Int.neg_mul, Int.mul_neg]
theorem sgn_abs (s : Bool) (m : Nat) : (sgn s m).natAbs = m := by cases s <;> simp [sgn]
theorem sgn_pow (s : Bool) (m k : Nat) : sgn s (m * 2 ^ k) = sgn s m * 2 ^ k := by cases s <;> simp [sgn, Int.neg_mul]
theorem opp (d : Datum) (s : Bool) (n : Nat) (h : Nm d s n) : Nm d.opposite (!s) n := by obtain ⟨k, rfl⟩ := h; exact ⟨k, rfl⟩
theorem up_to (s : Bool) (m k K : Nat) (h : k ≤ K) : signed s (m * 2 ^ k) (-(k : Int) - -(K : Int)).toNat = sgn s m * 2 ^ K := by
  have e : (-(k : Int) - -(K : Int)).toNat = K - k := by omega
  have e2 : (2 : Int) ^ K = 2 ^ k * 2 ^ (K - k) := by rw [← Int.pow_add, show k + (K - k) = K by omega]
  rw [e, signed_eq, sgn_pow, Int.mul_assoc, e2]
theorem sum_nm {d e : Datum} {s t : Bool} {m n : Nat} (hd : Nm d s m) (he : Nm e t n) : ∃ u, d.sum e = some u ∧ ∃ r, Nm u r (sgn s m + sgn t n).natAbs ∧ sgn r (sgn s m + sgn t n).natAbs = sgn s m + sgn t n := by
  obtain ⟨k, rfl⟩ := hd
  obtain ⟨l, rfl⟩ := he
  have hb : min (-(k : Int)) (-(l : Int)) = -((max k l : Nat) : Int) := by omega
  obtain ⟨K, hK⟩ : ∃ K, K = max k l := ⟨_, rfl⟩
  have e1 := up_to s m k K (by omega)
  have e2 := up_to t n l K (by omega)
  obtain ⟨z, hz⟩ : ∃ z, z = sgn s m + sgn t n := ⟨_, rfl⟩
  have e3 : signed s (m * 2 ^ k) (-(k : Int) - -(K : Int)).toNat + signed t (n * 2 ^ l) (-(l : Int) - -(K : Int)).toNat = z * 2 ^ K := by rw [e1, e2, hz, Int.add_mul]
  have hp : (0 : Int) < 2 ^ K := Int.pow_pos (by omega)
  refine ⟨_, rfl, ?_⟩
  rw [hb, ← hK]
  simp only [e3]
  rw [← hz]
  refine ⟨if z * 2 ^ K = 0 then s && t else decide (z * 2 ^ K < 0), ⟨K, ?_⟩, ?_⟩
  · have : (z * 2 ^ K).natAbs = z.natAbs * 2 ^ K := by
      rw [Int.natAbs_mul, Int.natAbs_pow]
      simp
    rw [this]
  · by_cases h0 : z = 0
    · subst h0
      simp [sgn]
    · have hne : z * 2 ^ K ≠ 0 := Int.mul_ne_zero h0 (by omega)
      rw [if_neg hne]
      rcases Int.lt_or_le z 0 with g | g
      · have : z * 2 ^ K < 0 := Int.mul_neg_of_neg_of_pos g hp
        simp only [this, decide_true, sgn, if_true]
        omega
      · have : ¬ z * 2 ^ K < 0 := by have := Int.mul_nonneg g (Int.le_of_lt hp); omega
        simp only [this, decide_false, sgn, Bool.false_eq_true, if_false]
        omega
theorem write_nm {d : Datum} {s : Bool} {m : Nat} (h : Nm d s m) (hm : m < 2 ^ 53) : double.write d = wd s m := by
  obtain ⟨k, rfl⟩ := h
  exact nearest_scale s hm k
theorem prod_nm {d e : Datum} {s t : Bool} {m n : Nat} (hd : Nm d s m) (he : Nm e t n) : ∃ u, d.product e = some u ∧ Nm u (s ^^ t) (m * n) := by
  obtain ⟨k, rfl⟩ := hd
  obtain ⟨l, rfl⟩ := he
  refine ⟨_, rfl, k + l, ?_⟩
  have e1 : m * 2 ^ k * (n * 2 ^ l) = m * n * 2 ^ (k + l) := by rw [Nat.pow_add]; simp only [Nat.mul_assoc, Nat.mul_left_comm]
  rw [e1]
  congr 1
  omega
theorem fl_lt {x : Int} {s : Bool} {m : Nat} (h : x = sgn s m) (hb : x.natAbs < 2 ^ 53) : m < 2 ^ 53 := by rw [h, sgn_abs] at hb; exact hb

theorem Fl.add {a b : Nat} {x y : Int} (ha : Fl a x) (hb : Fl b y) (h : (x + y).natAbs < 2 ^ 53) : ∃ c, Go.floatBits .add .f64 a b = some c ∧ Fl c (x + y) := by
  obtain ⟨s, m, hm, rfl, rfl⟩ := ha
  obtain ⟨t, n, hn, rfl, rfl⟩ := hb
  obtain ⟨u, h1, r, h2, h3⟩ := sum_nm (read_wd s hm) (read_wd t hn)
  refine ⟨double.write u, ?_, r, _, h, h3.symm, write_nm h2 h⟩
  show double.add _ _ = _
  unfold Format.add
  rw [h1]
  rfl
theorem Fl.sub {a b : Nat} {x y : Int} (ha : Fl a x) (hb : Fl b y) (h : (x - y).natAbs < 2 ^ 53) : ∃ c, Go.floatBits .sub .f64 a b = some c ∧ Fl c (x - y) := by
  obtain ⟨s, m, hm, rfl, rfl⟩ := ha
  obtain ⟨t, n, hn, rfl, rfl⟩ := hb
  obtain ⟨u, h1, r, h2, h3⟩ := sum_nm (read_wd s hm) (opp _ _ _ (read_wd t hn))
  rw [sgn_neg, ← Int.sub_eq_add_neg] at h2 h3
  refine ⟨double.write u, ?_, r, _, h, h3.symm, write_nm h2 h⟩
  show double.sub _ _ = _
  unfold Format.sub
  rw [h1]
  rfl
theorem Fl.mul {a b : Nat} {x y : Int} (ha : Fl a x) (hb : Fl b y) (h : (x * y).natAbs < 2 ^ 53) : ∃ c, Go.floatBits .mul .f64 a b = some c ∧ Fl c (x * y) := by
  obtain ⟨s, m, hm, rfl, rfl⟩ := ha
  obtain ⟨t, n, hn, rfl, rfl⟩ := hb
  obtain ⟨u, h1, h2⟩ := prod_nm (read_wd s hm) (read_wd t hn)
  have hmn : m * n < 2 ^ 53 := by rw [← sgn_mul, sgn_abs] at h; exact h
  refine ⟨double.write u, ?_, s ^^ t, m * n, hmn, (sgn_mul s t m n).symm, write_nm h2 hmn⟩
  show double.mul _ _ = _
  unfold Format.mul
  rw [h1]
  rfl
theorem Fl.ofInt {x : Int} (h : x.natAbs < 2 ^ 53) : Fl (Go.floatOfInt .f64 x) x := by
  refine ⟨decide (x < 0), x.natAbs, h, ?_, rfl⟩
  unfold sgn
  by_cases g : x < 0
  · simp only [g, decide_true, if_true]; omega
  · simp only [g, decide_false, Bool.false_eq_true, if_false]; omega
theorem Fl.toInt {a : Nat} {x : Int} (ha : Fl a x) : Go.floatToIntVal .f64 a .i64 = some x := by
  obtain ⟨s, m, hm, rfl, rfl⟩ := ha
  obtain ⟨k, hk⟩ := read_wd s hm
  unfold Go.floatToIntVal
  have h1 : (Go.FloatKind.f64.decode (wd s m)) = .number s (m * 2 ^ k) (-(k : Int)) := hk
  rw [h1]
  have h2 : (Datum.number s (m * 2 ^ k) (-(k : Int))).toInt .zero = some (sgn s m) := by
    unfold Datum.toInt Datum.integral
    have e1 : (-(k : Int)).toNat = 0 := by omega
    have e2 : (- -(k : Int)).toNat = k := by omega
    simp only [e1, e2, Nat.shiftLeft_zero]
    rw [cut_exact .zero (.inr rfl), signed_eq]
    simp
  rw [h2]
  have hs : -(2 ^ 53 : Int) < sgn s m ∧ sgn s m < 2 ^ 53 := by cases s <;> simp [sgn] <;> omega
  have h3 : Go.IntKind.i64.min ≤ sgn s m ∧ sgn s m ≤ Go.IntKind.i64.max := by
    have e1 : Go.IntKind.i64.min = -(2 ^ 63) := rfl
    have e2 : Go.IntKind.i64.max = 2 ^ 63 - 1 := rfl
    rw [e1, e2]
    omega
  simp only [if_pos h3]
theorem Fl.zero : Fl 0 0 := ⟨false, 0, by omega, rfl, by unfold wd; rw [nearest_zero]; rfl⟩
theorem Fl.one : Fl 4607182418800017408 1 := ⟨false, 1, by omega, rfl, by decide +kernel⟩
theorem Fl.bound {a : Nat} {x : Int} (ha : Fl a x) : x.natAbs < 2 ^ 53 := by obtain ⟨s, m, hm, rfl, rfl⟩ := ha; rw [sgn_abs]; exact hm
theorem Fl.cast {a : Nat} {x y : Int} (ha : Fl a x) (h : x = y) : Fl a y := h ▸ ha
theorem Fl.order {a b : Nat} {x y : Int} (ha : Fl a x) (hb : Fl b y) : (Go.FloatKind.f64.format.order a b == some .eq) = decide (x = y) := by
  obtain ⟨s, m, hm, rfl, rfl⟩ := ha
  obtain ⟨t, n, hn, rfl, rfl⟩ := hb
  obtain ⟨k, hk⟩ := read_wd s hm
  obtain ⟨l, hl⟩ := read_wd t hn
  have h1 : double.order (wd s m) (wd t n) = some (compare (sgn s m * 2 ^ (max k l)) (sgn t n * 2 ^ (max k l))) := by
    unfold Format.order
    rw [hk, hl]
    have hb : min (-(k : Int)) (-(l : Int)) = -((max k l : Nat) : Int) := by omega
    show some (compare (signed s (m * 2 ^ k) (-(k : Int) - min (-(k : Int)) (-(l : Int))).toNat) (signed t (n * 2 ^ l) (-(l : Int) - min (-(k : Int)) (-(l : Int))).toNat)) = _
    rw [hb, up_to s m k _ (by omega), up_to t n l _ (by omega)]
  have h2 : Go.FloatKind.f64.format.order (wd s m) (wd t n) = double.order (wd s m) (wd t n) := rfl
  rw [h2, h1]
  have hp : (2 : Int) ^ (max k l) ≠ 0 := by have : (0 : Int) < 2 ^ (max k l) := Int.pow_pos (by omega); omega
  by_cases g : sgn s m = sgn t n
  · rw [g]
    simp [compare, compareOfLessAndEq]
  · have : sgn s m * 2 ^ (max k l) ≠ sgn t n * 2 ^ (max k l) := fun e => g (Int.eq_of_mul_eq_mul_right hp e)
    simp only [g, decide_false]
    simp only [compare, compareOfLessAndEq, this, if_false]
    by_cases q : sgn s m * 2 ^ (max k l) < sgn t n * 2 ^ (max k l)
    · simp [q]
    · simp [q]

/-- Sums, differences, products of complex numbers with whole parts. -/
theorem Fl.csum {a b c d : Nat} {x y z t : Int} (ha : Fl a x) (hb : Fl b y) (hc : Fl c z) (hd : Fl d t) (h1 : (x + z).natAbs < 2 ^ 53) (h2 : (y + t).natAbs < 2 ^ 53) :
    ∃ re im, Go.cSumBits .add .f64 a b c d = some (re, im) ∧ Fl re (x + z) ∧ Fl im (y + t) := by
  obtain ⟨re, e1, f1⟩ := ha.add hc h1
  obtain ⟨im, e2, f2⟩ := hb.add hd h2
  exact ⟨re, im, by unfold Go.cSumBits; rw [e1, e2]; rfl, f1, f2⟩
theorem Fl.cdiff {a b c d : Nat} {x y z t : Int} (ha : Fl a x) (hb : Fl b y) (hc : Fl c z) (hd : Fl d t) (h1 : (x - z).natAbs < 2 ^ 53) (h2 : (y - t).natAbs < 2 ^ 53) :
    ∃ re im, Go.cSumBits .sub .f64 a b c d = some (re, im) ∧ Fl re (x - z) ∧ Fl im (y - t) := by
  obtain ⟨re, e1, f1⟩ := ha.sub hc h1
  obtain ⟨im, e2, f2⟩ := hb.sub hd h2
  exact ⟨re, im, by unfold Go.cSumBits; rw [e1, e2]; rfl, f1, f2⟩
/-- A number times i. -/
theorem Fl.turn {a b : Nat} {x y : Int} (ha : Fl a x) (hb : Fl b y) :
    ∃ re im, Go.cMulBits a b 0 4607182418800017408 = some (re, im) ∧ Fl re (-y) ∧ Fl im x := by
  have ba := ha.bound
  have bb := hb.bound
  obtain ⟨ac, e1, f1⟩ := ha.mul Fl.zero (by simp)
  obtain ⟨bd, e2, f2⟩ := hb.mul Fl.one (by simpa using bb)
  obtain ⟨re, e3, f3⟩ := f1.sub f2 (by simpa using bb)
  obtain ⟨ad, e4, f4⟩ := ha.mul Fl.one (by simpa using ba)
  obtain ⟨bc, e5, f5⟩ := hb.mul Fl.zero (by simp)
  obtain ⟨im, e6, f6⟩ := f4.add f5 (by simpa using ba)
  refine ⟨re, im, ?_, f3.cast (by omega), f6.cast (by omega)⟩
  unfold Go.cMulBits
  simp only [e1, e2, e3, e4, e5, e6, Option.bind_some]
end Go.Proofs.Ythbnomemknnmeaa
