/- A purse in plain words: what may be spent, what was spent, and what each call makes of both. No condition. -/

namespace Go.Proofs.Ytjjdkkncdnipcaa
set_option linter.unusedVariables false

/-- As far as numbers go. -/
def cutN (n : Nat) : Nat := if n ≤ 18446744073709551615 then n else 18446744073709551615
theorem cutN_le (n : Nat) : cutN n ≤ 18446744073709551615 := by unfold cutN; split <;> omega
theorem cutN_in {n : Nat} (h : n ≤ 18446744073709551615) : cutN n = n := if_pos h
theorem cutN_out {n : Nat} (h : ¬ n ≤ 18446744073709551615) : cutN n = 18446744073709551615 := if_neg h
theorem cutN_cut (a b : Nat) : cutN (a + cutN b) = cutN (a + b) := by unfold cutN; split <;> (try split) <;> (try split) <;> omega
/-- A purse: its rate, its burst; what may be spent, what was spent. -/
structure Pu where
  rate : Nat
  burst : Nat
  level : Nat
  spent : Nat
/-- What holds of each purse. -/
structure Pu.Ok (T : Pu) : Prop where
  rt : T.rate ≤ 1152921504606846976
  bu : T.burst ≤ 1152921504606846976
  lv : T.level ≤ T.burst
  sp : T.spent ≤ 18446744073709551615
def Pu.new (r b : Nat) : Pu := ⟨r, b, b, 0⟩
def Pu.tick (T : Pu) (n : Nat) : Pu := ⟨T.rate, T.burst, if T.level + T.rate * n ≤ T.burst then T.level + T.rate * n else T.burst, T.spent⟩
def Pu.spend (T : Pu) (n : Nat) : Pu := if n ≤ T.level then ⟨T.rate, T.burst, T.level - n, cutN (T.spent + n)⟩ else T
/-- How much comes back. -/
def Pu.bk (T : Pu) (n : Nat) : Nat := min n (min T.spent (T.burst - T.level))
def Pu.back (T : Pu) (n : Nat) : Pu := ⟨T.rate, T.burst, T.level + T.bk n, T.spent - T.bk n⟩
def Pu.bound (T : Pu) (n : Nat) : Nat := cutN (T.burst + T.rate * n)
def Pu.never (T : Pu) (n : Nat) : Prop := T.level < n ∧ (T.burst < n ∨ T.rate = 0)
def Pu.wait (T : Pu) (n : Nat) : Nat := if n ≤ T.level then 0 else (n - T.level - 1) / T.rate + 1
section
variable {T : Pu}
theorem Pu.new_ok {r b : Nat} (hr : r ≤ 1152921504606846976) (hb : b ≤ 1152921504606846976) : (Pu.new r b).Ok := ⟨hr, hb, Nat.le_refl _, Nat.zero_le _⟩
theorem Pu.Ok.tick (h : T.Ok) (n : Nat) : (T.tick n).Ok := ⟨h.rt, h.bu, by unfold Pu.tick; dsimp only; split <;> omega, h.sp⟩
theorem Pu.Ok.spend (h : T.Ok) (n : Nat) : (T.spend n).Ok := by
  unfold Pu.spend
  split
  · exact ⟨h.rt, h.bu, Nat.le_trans (Nat.sub_le ..) h.lv, cutN_le _⟩
  · exact h
theorem Pu.bk_le (T : Pu) (n : Nat) : T.bk n ≤ n ∧ T.bk n ≤ T.spent ∧ T.bk n ≤ T.burst - T.level := by unfold Pu.bk; omega
theorem Pu.Ok.back (h : T.Ok) (n : Nat) : (T.back n).Ok := by
  have h1 := T.bk_le n
  have h2 := h.lv
  have h3 := h.sp
  exact ⟨h.rt, h.bu, by show T.level + T.bk n ≤ T.burst; omega, by show T.spent - T.bk n ≤ _; omega⟩
theorem Pu.bound_le (T : Pu) (n : Nat) : T.bound n ≤ 18446744073709551615 := cutN_le _
/-- The level behind ticks, by way of numbers that end. -/
theorem Pu.tick_cut (h : T.Ok) (n : Nat) : (if cutN (T.level + cutN (T.rate * n)) ≤ T.burst then cutN (T.level + cutN (T.rate * n)) else T.burst) = (T.tick n).level := by
  have h1 := h.bu
  show _ = if T.level + T.rate * n ≤ T.burst then T.level + T.rate * n else T.burst
  generalize T.rate * n = x
  rw [cutN_cut]
  unfold cutN
  split <;> split <;> (try split) <;> omega
theorem Pu.wait_in {n : Nat} (h : n ≤ T.level) : T.wait n = 0 := if_pos h
theorem Pu.wait_out {n : Nat} (h : ¬ n ≤ T.level) : T.wait n = (n - T.level - 1) / T.rate + 1 := if_neg h
/-- Behind so many ticks it is enough. -/
theorem Pu.wait_yes {n : Nat} (h : T.Ok) (hn : ¬ T.never n) : n ≤ (T.tick (T.wait n)).level := by
  have hlv := h.lv
  by_cases hl : n ≤ T.level
  · rw [T.wait_in hl]
    show n ≤ if T.level + T.rate * 0 ≤ T.burst then T.level + T.rate * 0 else T.burst
    rw [Nat.mul_zero]
    split <;> omega
  · unfold Pu.never at hn
    have hr : 0 < T.rate := by omega
    rw [T.wait_out hl]
    show n ≤ if T.level + T.rate * ((n - T.level - 1) / T.rate + 1) ≤ T.burst then T.level + T.rate * ((n - T.level - 1) / T.rate + 1) else T.burst
    have h1 := Nat.div_add_mod (n - T.level - 1) T.rate
    have h2 := Nat.mod_lt (n - T.level - 1) hr
    rw [Nat.mul_add, Nat.mul_one]
    generalize T.rate * ((n - T.level - 1) / T.rate) = x at *
    split <;> omega
/-- One tick ahead it isn't. -/
theorem Pu.wait_no {n : Nat} (h : T.Ok) (hn : ¬ T.never n) (h0 : T.wait n ≠ 0) : (T.tick (T.wait n - 1)).level < n := by
  have hlv := h.lv
  by_cases hl : n ≤ T.level
  · exact absurd (T.wait_in hl) h0
  · rw [T.wait_out hl, Nat.add_sub_cancel]
    show (if T.level + T.rate * ((n - T.level - 1) / T.rate) ≤ T.burst then T.level + T.rate * ((n - T.level - 1) / T.rate) else T.burst) < n
    have h1 := Nat.div_add_mod (n - T.level - 1) T.rate
    unfold Pu.never at hn
    generalize T.rate * ((n - T.level - 1) / T.rate) = x at *
    split <;> omega
theorem Pu.wait_le (h : T.Ok) {n : Nat} (hn : ¬ T.never n) : T.wait n ≤ 1152921504606846977 := by
  have hb := h.bu
  have hlv := h.lv
  by_cases hl : n ≤ T.level
  · rw [T.wait_in hl]
    omega
  · rw [T.wait_out hl]
    have h1 := Nat.div_le_self (n - T.level - 1) T.rate
    unfold Pu.never at hn
    omega
end
/-- What was spent since: behind the k-th of the acts that spent. -/
def sinceN (took : List Nat) (k : Nat) : Nat := (took.drop k).sum
theorem sinceN_len (took : List Nat) : sinceN took took.length = 0 := by unfold sinceN; rw [List.drop_length]; rfl
theorem sinceN_at {took : List Nat} {k x : Nat} (h : took[k]? = some x) : sinceN took k = x + sinceN took (k + 1) := by
  obtain ⟨hk, hx⟩ := List.getElem?_eq_some_iff.1 h
  unfold sinceN
  rw [List.drop_eq_getElem_cons hk, hx, List.sum_cons]
theorem sinceN_app {took : List Nat} {k : Nat} (hk : k ≤ took.length) (n : Nat) : sinceN (took ++ [n]) k = sinceN took k + n := by
  unfold sinceN
  rw [List.drop_append_of_le_length hk, List.sum_append]
  simp
/-- In no stretch of ticks was more spent than the bound says, what may be spent now with it. -/
structure Kept (T : Pu) (now : Nat) (at_ took : List Nat) : Prop where
  len : at_.length = took.length
  bd : ∀ k t, at_[k]? = some t → t ≤ now ∧ sinceN took k + T.level ≤ T.burst + T.rate * (now - t)
theorem Kept.nil (T : Pu) (now : Nat) : Kept T now [] [] := ⟨rfl, fun k t h => by cases h⟩
section
variable {T : Pu} {now : Nat} {at_ took : List Nat}
theorem Kept.tick (h : Kept T now at_ took) (n : Nat) : Kept (T.tick n) (now + n) at_ took := ⟨h.len, fun k t ht => by
  obtain ⟨h1, h2⟩ := h.bd k t ht
  refine ⟨by omega, ?_⟩
  show _ + (if T.level + T.rate * n ≤ T.burst then T.level + T.rate * n else T.burst) ≤ T.burst + T.rate * (now + n - t)
  have e : now + n - t = (now - t) + n := by omega
  rw [e, Nat.mul_add]
  split <;> omega⟩
theorem Kept.spend (hT : T.Ok) (h : Kept T now at_ took) {n : Nat} (hn : n ≤ T.level) : Kept (T.spend n) now (at_ ++ [now]) (took ++ [n]) := by
  have e : T.spend n = ⟨T.rate, T.burst, T.level - n, cutN (T.spent + n)⟩ := if_pos hn
  rw [e]
  refine ⟨by simp [h.len], fun k t ht => ?_⟩
  show _ ∧ sinceN (took ++ [n]) k + (T.level - n) ≤ T.burst + T.rate * (now - t)
  by_cases hk : k < at_.length
  · rw [List.getElem?_append_left hk] at ht
    obtain ⟨h1, h2⟩ := h.bd k t ht
    refine ⟨h1, ?_⟩
    rw [sinceN_app (by rw [← h.len]; omega)]
    omega
  · rw [List.getElem?_append_right (by omega)] at ht
    have hk2 : k = at_.length := by
      rcases Nat.lt_or_ge (k - at_.length) 1 with h3 | h3
      · omega
      · rw [List.getElem?_eq_none (by simpa using h3)] at ht
        cases ht
    subst hk2
    rw [Nat.sub_self] at ht
    injection ht with ht
    subst ht
    refine ⟨Nat.le_refl _, ?_⟩
    have hl := hT.lv
    rw [sinceN_app (by rw [h.len]; exact Nat.le_refl _), h.len, sinceN_len]
    omega
theorem Kept.le (h : Kept T now at_ took) {k t : Nat} (ht : at_[k]? = some t) : sinceN took k ≤ T.burst + T.rate * (now - t) := by
  have := (h.bd k t ht).2
  omega
end
end Go.Proofs.Ytjjdkkncdnipcaa
