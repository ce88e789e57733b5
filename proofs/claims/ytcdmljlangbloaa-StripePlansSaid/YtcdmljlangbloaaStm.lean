/- How an object is cut, in plain numbers: a number divided and rounded up, and which plan there is for a length and a piece. No condition. -/
import Derived.Test.YtcdmljlangbloaaMsb
namespace Go.Proofs.Ytcdmljlangbloaa
open Go.RowKit
set_option linter.unusedVariables false

/-- l by f, rounded up. -/
def cup (l f : Nat) : Nat := (l + f - 1) / f
theorem cup_lt {l f i : Nat} (hf : 1 ≤ f) : i < cup l f ↔ i * f < l := by
  unfold cup
  rw [Nat.lt_iff_add_one_le, Nat.le_div_iff_mul_le (by omega), Nat.add_mul, Nat.one_mul]
  omega
theorem cup_le {l f : Nat} (hf : 1 ≤ f) : l ≤ cup l f * f := by
  have h := (cup_lt (l := l) (i := cup l f) hf)
  have := Nat.lt_irrefl (cup l f)
  omega
theorem cup_zero {f : Nat} (hf : 1 ≤ f) : cup 0 f = 0 := by
  unfold cup
  exact Nat.div_eq_of_lt (by omega)
theorem cup_one {l f : Nat} (h1 : 1 ≤ l) (h2 : l ≤ f) : cup l f = 1 := by
  have a := (cup_lt (l := l) (f := f) (i := 0) (by omega))
  have b := (cup_lt (l := l) (f := f) (i := 1) (by omega))
  omega
theorem cup_bnd {l f : Nat} (hf : 1 ≤ f) : cup l f ≤ l := by
  rcases Nat.eq_zero_or_pos (cup l f) with h | h
  · omega
  · have a := (cup_lt (l := l) (f := f) (i := cup l f - 1) (by omega)).1 (by omega)
    have := Nat.mul_le_mul_left (cup l f - 1) hf
    omega
theorem cup_mul {l f : Nat} (hf : 1 ≤ f) : cup l f * f ≤ l + f := by
  unfold cup
  have := Nat.div_mul_le_self (l + f - 1) f
  omega
/-- A plan that there is: an object of l bytes in c stripes of parts of p bytes. -/
structure Pln (q l c p : Nat) : Prop where
  l16 : l ≤ 16384
  c32 : c ≤ 32
  p1 : 1 ≤ p
  p256 : p ≤ 256
  cov : l ≤ c * (q * p)
  low : ∀ i, i < c → i * (q * p) < l
/-- What Of says of a length and a piece: the plan's length, count and piece, and the error's number. -/
inductive OfR (q : Nat) (len pc : Int) : Nat → Nat → Nat → Nat → Prop
  | arg (h : len < 0 ∨ pc < 1 ∨ 256 < pc) : OfR q len pc 0 0 0 1
  | long (h0 : 0 ≤ len) (h1 : 1 ≤ pc) (h2 : pc ≤ 256) (h : 16384 < len) : OfR q len pc 0 0 0 29
  | many (l p : Nat) (hl : len = l) (hp : pc = p) (h0 : l ≤ 16384) (h1 : 1 ≤ p) (h2 : p ≤ 256) (h : 32 < cup l (q * p)) : OfR q len pc 0 0 0 29
  | full (l p : Nat) (hl : len = l) (hp : pc = p) (h0 : l ≤ 16384) (h1 : 1 ≤ p) (h2 : p ≤ 256) (h : cup l (q * p) ≤ 32) (h3 : l = 0 ∨ q * p ≤ l) : OfR q len pc l (cup l (q * p)) p 0
  | short (l p : Nat) (hl : len = l) (hp : pc = p) (h0 : l ≤ 16384) (h1 : 1 ≤ p) (h2 : p ≤ 256) (h : 1 ≤ l) (h3 : l < q * p) : OfR q len pc l 1 (cup l q) 0
theorem ofR_ex (q : Nat) (hq : 2 ≤ q) (len pc : Int) : ∃ l c p e, OfR q len pc l c p e := by
  by_cases h : len < 0 ∨ pc < 1 ∨ 256 < pc
  · exact ⟨_, _, _, _, .arg h⟩
  by_cases h1 : 16384 < len
  · exact ⟨_, _, _, _, .long (by omega) (by omega) (by omega) h1⟩
  obtain ⟨l, rfl⟩ : ∃ l : Nat, len = l := ⟨len.toNat, by omega⟩
  obtain ⟨p, rfl⟩ : ∃ p : Nat, pc = p := ⟨pc.toNat, by omega⟩
  by_cases h2 : 32 < cup l (q * p)
  · exact ⟨_, _, _, _, .many l p rfl rfl (by omega) (by omega) (by omega) h2⟩
  by_cases h3 : l = 0 ∨ q * p ≤ l
  · exact ⟨_, _, _, _, .full l p rfl rfl (by omega) (by omega) (by omega) (by omega) h3⟩
  · exact ⟨_, _, _, _, .short l p rfl rfl (by omega) (by omega) (by omega) (by omega) (by omega)⟩
/-- The error is none, or one of two. -/
theorem OfR.err {q : Nat} {len pc : Int} {l c p e : Nat} (h : OfR q len pc l c p e) : (e = 0 ∧ len = l) ∨ ((e = 1 ∨ e = 29) ∧ l = 0 ∧ c = 0 ∧ p = 0) := by
  cases h with
  | arg h => exact .inr ⟨.inl rfl, rfl, rfl, rfl⟩
  | long h0 h1 h2 h => exact .inr ⟨.inr rfl, rfl, rfl, rfl⟩
  | many l p hl hp h0 h1 h2 h => exact .inr ⟨.inr rfl, rfl, rfl, rfl⟩
  | full l p hl hp h0 h1 h2 h h3 => exact .inl ⟨rfl, hl⟩
  | short l p hl hp h0 h1 h2 h h3 => exact .inl ⟨rfl, hl⟩
theorem OfR.pln {q : Nat} {len pc : Int} {l c p : Nat} (hq : 2 ≤ q) (h : OfR q len pc l c p 0) : Pln q l c p := by
  cases h with
  | full l p hl hp h0 h1 h2 h h3 =>
    have hf : 1 ≤ q * p := Nat.mul_pos (by omega) (by omega)
    exact ⟨h0, h, h1, h2, cup_le hf, fun i hi => (cup_lt hf).1 hi⟩
  | short l p hl hp h0 h1 h2 h h3 =>
    have hq1 : 1 ≤ q := by omega
    have hc := cup_le (l := l) hq1
    have hp1 : 1 ≤ cup l q := by
      have := (cup_lt (l := l) (f := q) (i := 0) hq1)
      omega
    have hp2 : cup l q ≤ p := by
      rcases Nat.lt_or_ge p (cup l q) with g | g
      · have := (cup_lt (l := l) (f := q) hq1).1 g
        rw [Nat.mul_comm] at this
        omega
      · exact g
    refine ⟨h0, by omega, hp1, by omega, ?_, fun i hi => ?_⟩
    · rw [Nat.one_mul, Nat.mul_comm]; exact hc
    · obtain rfl : i = 0 := by omega
      rw [Nat.zero_mul]; omega
/-- Where there are stripes, one has no more bytes than the object and one part of each. -/
theorem OfR.few {q : Nat} {len pc : Int} {l c p : Nat} (hq : 2 ≤ q) (h : OfR q len pc l c p 0) (hc : 1 ≤ c) : q * p ≤ l + q := by
  cases h with
  | full l p hl hp h0 h1 h2 h h3 =>
    rcases h3 with rfl | h3
    · rw [cup_zero (Nat.mul_pos (by omega) (by omega))] at hc
      omega
    · omega
  | short l p hl hp h0 h1 h2 h h3 =>
    rw [Nat.mul_comm]
    exact cup_mul (by omega)
theorem Pln.f1 {q l c p : Nat} (h : Pln q l c p) (hq : 2 ≤ q) : 1 ≤ q * p := Nat.mul_pos (by omega) (by have := h.p1; omega)
theorem Pln.fb {q l c p : Nat} (h : Pln q l c p) (hq : q ≤ 56) : q * p ≤ 14336 := Nat.mul_le_mul hq h.p256
end Go.Proofs.Ytcdmljlangbloaa
