/- How two numbers compare: cmp.Compare of unsigned ones, cmp.Or. No condition. -/
import Derived.Test.YtjbnbbblafmldaaProg
import Derived.Test.YtjbnbbblafmldaaUbaa
import Derived.WalkLawsBesides
import Derived.WalkSpells
import Derived.KernelRfl
import Derived.Deep.QuietTactic
import Derived.BigQuiet
namespace Go.Proofs.Ytjbnbbblafmldaa
open Go.RowKit
set_option linter.unusedVariables false
set_option linter.unusedSimpArgs false
set_option maxRecDepth 20000

/-- How two numbers compare. -/
def cmpN (a b : Nat) : Int := if a < b then -1 else if b < a then 1 else 0
theorem cmpN_lt {a b : Nat} (h : a < b) : cmpN a b = -1 := by unfold cmpN; rw [if_pos h]
theorem cmpN_eq {a b : Nat} (h : a = b) : cmpN a b = 0 := by unfold cmpN; rw [if_neg (by omega), if_neg (by omega)]
theorem cmpN_gt {a b : Nat} (h : b < a) : cmpN a b = 1 := by unfold cmpN; rw [if_neg (by omega), if_pos h]
/-- The first that isn't nought. -/
def orZ : List Int → Int
  | [] => 0
  | x :: l => if x = 0 then orZ l else x
theorem ret_int {a b : Int} (h : a = b) : Ending.returned (.int .i64 a) = .returned (.int .i64 b) := by rw [h]
theorem isnan_u32 (w : World) (a : Nat) : Calls Try.prog 46 #[.int .u32 (a : Int)] w fun e w' => e = .returned (.bool false) ∧ w = w' := by
  go_enter Try.func46, Try.ntmps46
  go_wp2
  go_ret
  exact ⟨rfl, rfl⟩
theorem cmp_u32 (w : World) (a b : Nat) : Calls Try.prog 32 #[.int .u32 (a : Int), .int .u32 (b : Int)] w fun e w' => e = .returned (.int .i64 (cmpN a b)) ∧ w = w' := by
  have h1 := isnan_u32 w a
  have h2 := isnan_u32 w b
  rcases Nat.lt_trichotomy a b with h | h | h
  · have hz : (a : Int) < b := by omega
    have hc : Hid (-1 = cmpN a b) := by show _ = _; unfold cmpN; rw [if_pos h]
    go_enter Try.func32, Try.ntmps32
    go_wp2_with fail
    refine h1.mono ?_
    rintro e w' ⟨rfl, rfl⟩
    go_wp2_with fail
    refine h2.mono ?_
    rintro e w' ⟨rfl, rfl⟩
    go_wp2_with fail
    go_ret
    exact ⟨ret_int hc.out, rfl⟩
  · have hc : Hid (0 = cmpN a b) := by show _ = _; unfold cmpN; rw [if_neg (by omega), if_neg (by omega)]
    subst h
    go_enter Try.func32, Try.ntmps32
    go_wp2_with fail
    refine h1.mono ?_
    rintro e w' ⟨rfl, rfl⟩
    go_wp2_with fail
    refine h2.mono ?_
    rintro e w' ⟨rfl, rfl⟩
    go_wp2_with fail
    go_ret
    exact ⟨ret_int hc.out, rfl⟩
  · have hz : (b : Int) < a := by omega
    have hz2 : ¬ (a : Int) < b := by omega
    have hc : Hid (1 = cmpN a b) := by show _ = _; unfold cmpN; rw [if_neg (by omega), if_pos h]
    go_enter Try.func32, Try.ntmps32
    go_wp2_with fail
    refine h1.mono ?_
    rintro e w' ⟨rfl, rfl⟩
    go_wp2_with fail
    refine h2.mono ?_
    rintro e w' ⟨rfl, rfl⟩
    go_wp2_with fail
    go_ret
    exact ⟨ret_int hc.out, rfl⟩
theorem isnan_u16 (w : World) (a : Nat) : Calls Try.prog 47 #[.int .u16 (a : Int)] w fun e w' => e = .returned (.bool false) ∧ w = w' := by
  go_enter Try.func47, Try.ntmps47
  go_wp2
  go_ret
  exact ⟨rfl, rfl⟩
theorem cmp_u16 (w : World) (a b : Nat) : Calls Try.prog 33 #[.int .u16 (a : Int), .int .u16 (b : Int)] w fun e w' => e = .returned (.int .i64 (cmpN a b)) ∧ w = w' := by
  have h1 := isnan_u16 w a
  have h2 := isnan_u16 w b
  rcases Nat.lt_trichotomy a b with h | h | h
  · have hz : (a : Int) < b := by omega
    have hc : Hid (-1 = cmpN a b) := by show _ = _; unfold cmpN; rw [if_pos h]
    go_enter Try.func33, Try.ntmps33
    go_wp2_with fail
    refine h1.mono ?_
    rintro e w' ⟨rfl, rfl⟩
    go_wp2_with fail
    refine h2.mono ?_
    rintro e w' ⟨rfl, rfl⟩
    go_wp2_with fail
    go_ret
    exact ⟨ret_int hc.out, rfl⟩
  · have hc : Hid (0 = cmpN a b) := by show _ = _; unfold cmpN; rw [if_neg (by omega), if_neg (by omega)]
    subst h
    go_enter Try.func33, Try.ntmps33
    go_wp2_with fail
    refine h1.mono ?_
    rintro e w' ⟨rfl, rfl⟩
    go_wp2_with fail
    refine h2.mono ?_
    rintro e w' ⟨rfl, rfl⟩
    go_wp2_with fail
    go_ret
    exact ⟨ret_int hc.out, rfl⟩
  · have hz : (b : Int) < a := by omega
    have hz2 : ¬ (a : Int) < b := by omega
    have hc : Hid (1 = cmpN a b) := by show _ = _; unfold cmpN; rw [if_neg (by omega), if_pos h]
    go_enter Try.func33, Try.ntmps33
    go_wp2_with fail
    refine h1.mono ?_
    rintro e w' ⟨rfl, rfl⟩
    go_wp2_with fail
    refine h2.mono ?_
    rintro e w' ⟨rfl, rfl⟩
    go_wp2_with fail
    go_ret
    exact ⟨ret_int hc.out, rfl⟩
/-- The first that isn't nought. -/
theorem orZ_at {l : List Int} : ∀ {k : Nat}, k < l.length → l.getD k 0 ≠ 0 → orZ (l.drop k) = l.getD k 0 := fun {k} hk hne => by
  rw [List.drop_eq_getElem_cons hk]
  rw [List.getD_eq_getElem?_getD, List.getElem?_eq_getElem hk] at *
  simp only [Option.getD_some] at *
  unfold orZ
  rw [if_neg hne]
theorem orZ_step {l : List Int} {k : Nat} (hk : k < l.length) (hz : l.getD k 0 = 0) : orZ (l.drop k) = orZ (l.drop (k + 1)) := by
  rw [List.drop_eq_getElem_cons hk]
  rw [List.getD_eq_getElem?_getD, List.getElem?_eq_getElem hk] at hz
  simp only [Option.getD_some] at hz
  conv => lhs; unfold orZ
  rw [if_pos hz]
/-- cmp.Or of whole numbers that stand in a block. -/
theorem cmpor_any {w : World} {s N : Nat} {l : List Int} (hN : l.length = N) (h : ∀ k, k < N → w.cell? ⟨s, k, none⟩ = some (.int .i64 (l.getD k 0))) (hbig : N ≤ 1000) : Calls Try.prog 30 #[.slice (some ⟨s, 0, none⟩) N N] w fun e w1 => e = .returned (.int .i64 (orZ l)) ∧ w = w1 := by
  have H' := hide h
  have HL := hide hN
  clear h hN
  go_enter Try.func30, Try.ntmps30
  go_wp2_with fail
  go_loopw [8] (fun i wr => ∃ k : Nat, k ≤ N ∧ i = .int .i64 (k : Int) ∧ orZ (l.drop k) = orZ l ∧ w = wr) (fun i _ => N - (intOf i).toNat)
  case atStart => exact ⟨0, by omega, rfl, by rw [List.drop_zero], rfl⟩
  case round =>
    obtain ⟨k, hk, rfl, hz, rfl⟩ := hrel
    by_cases hlt : k < N
    · have hc := H'.out k hlt
      have hkz : (k : Int) < N := by omega
      obtain ⟨x, hx⟩ : ∃ x, x = l.getD k 0 := ⟨_, rfl⟩
      rw [← hx] at hc
      have HX := hide hx
      clear hx
      by_cases h0 : x = 0
      · have hN := orZ_step (l := l) (k := k) (by rw [HL.out]; exact hlt) (by rw [← HX.out, h0])
        subst h0
        have HQ := hide (hN.symm.trans hz)
        clear hN hz
        go_wp2_with fail
        go_round
        case rel => exact ⟨k + 1, by omega, by go_num, HQ.out, trivial⟩
        case measure => simp [intOf]; omega
      · have hN := orZ_at (l := l) (k := k) (by rw [HL.out]; exact hlt) (by rw [← HX.out]; exact h0)
        rw [← HX.out] at hN
        have HQ := hide (hN.symm.trans hz)
        have hne : (x == 0) = false := by simp [h0]
        clear hN hz
        go_wp2_with fail
        go_ret
        exact ⟨ret_int HQ.out, rfl⟩
    · have hkz : ¬ (k : Int) < N := by omega
      obtain rfl : k = N := by omega
      have HQ : Hid (0 = orZ l) := by
        show _ = _
        rw [← hz, List.drop_eq_nil_of_le (by rw [HL.out]; exact Nat.le_refl _)]
        rfl
      clear hz
      go_wp2_with fail
      go_ret
      exact ⟨ret_int HQ.out, rfl⟩
/-- How two whole numbers compare. -/
def cmpI (a b : Int) : Int := if a < b then -1 else if b < a then 1 else 0
theorem isnan_i64 (w : World) (a : Int) : Calls Try.prog 45 #[.int .i64 a] w fun e w' => e = .returned (.bool false) ∧ w = w' := by
  go_enter Try.func45, Try.ntmps45
  go_wp2
  go_ret
  exact ⟨rfl, rfl⟩
theorem cmp_i64 (w : World) (a b : Int) : Calls Try.prog 31 #[.int .i64 a, .int .i64 b] w fun e w' => e = .returned (.int .i64 (cmpI a b)) ∧ w = w' := by
  have h1 := isnan_i64 w a
  have h2 := isnan_i64 w b
  rcases Int.lt_trichotomy a b with h | h | h
  · have hc : Hid (-1 = cmpI a b) := by show _ = _; unfold cmpI; rw [if_pos h]
    go_enter Try.func31, Try.ntmps31
    go_wp2_with fail
    refine h1.mono ?_
    rintro e w' ⟨rfl, rfl⟩
    go_wp2_with fail
    refine h2.mono ?_
    rintro e w' ⟨rfl, rfl⟩
    go_wp2_with fail
    go_ret
    exact ⟨ret_int hc.out, rfl⟩
  · have hc : Hid (0 = cmpI a b) := by show _ = _; unfold cmpI; rw [if_neg (by omega), if_neg (by omega)]
    subst h
    go_enter Try.func31, Try.ntmps31
    go_wp2_with fail
    refine h1.mono ?_
    rintro e w' ⟨rfl, rfl⟩
    go_wp2_with fail
    refine h2.mono ?_
    rintro e w' ⟨rfl, rfl⟩
    go_wp2_with fail
    go_ret
    exact ⟨ret_int hc.out, rfl⟩
  · have hz2 : ¬ a < b := by omega
    have hc : Hid (1 = cmpI a b) := by show _ = _; unfold cmpI; rw [if_neg (by omega), if_pos h]
    go_enter Try.func31, Try.ntmps31
    go_wp2_with fail
    refine h1.mono ?_
    rintro e w' ⟨rfl, rfl⟩
    go_wp2_with fail
    refine h2.mono ?_
    rintro e w' ⟨rfl, rfl⟩
    go_wp2_with fail
    go_ret
    exact ⟨ret_int hc.out, rfl⟩
end Go.Proofs.Ytjbnbbblafmldaa
