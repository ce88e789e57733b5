/- The order of names: the program's Compare and the document's Less. -/
import Derived.Test.YtnfcfdhlmeimhaaGreatTwai
import Derived.Test.YtnfcfdhlmeimhaaGreatTwak
namespace Go.Proofs.YtnfcfdhlmeimhaaGreat
open Go.RowKit
set_option linter.unusedVariables false
set_option linter.unusedSimpArgs false
set_option maxRecDepth 20000

/-- How two numbers compare. -/
def cmpN (a b : Nat) : Int := if a < b then -1 else if b < a then 1 else 0
theorem cmpN_lt {a b : Nat} (h : a < b) : cmpN a b = -1 := by unfold cmpN; rw [if_pos h]
theorem cmpN_eq {a b : Nat} (h : a = b) : cmpN a b = 0 := by unfold cmpN; rw [if_neg (by omega), if_neg (by omega)]
theorem cmpN_gt {a b : Nat} (h : b < a) : cmpN a b = 1 := by unfold cmpN; rw [if_neg (by omega), if_pos h]
/-- The first that isn't nought. -/
def orZ : List Int → Int
  | [] => 0
  | x :: l => if x = 0 then orZ l else x
theorem cmpN_parts (a b : Nat) : orZ [cmpN (cO a) (cO b), cmpN (cS a) (cS b), cmpN (cL a) (cL b), cmpN (cG a) (cG b)] = cmpN a b := by
  have h1 := lt_parts (m := a) (n := b)
  have h2 := lt_parts (m := b) (n := a)
  have hne : cO a = cO b → cS a = cS b → cL a = cL b → cG a = cG b → a = b := c_inj
  simp only [orZ]
  generalize cO a = a0 at *
  generalize cO b = b0 at *
  generalize cS a = a1 at *
  generalize cS b = b1 at *
  generalize cL a = a2 at *
  generalize cL b = b2 at *
  generalize cG a = a3 at *
  generalize cG b = b3 at *
  rcases Nat.lt_trichotomy a0 b0 with h | h | h
  · rw [cmpN_lt h, if_neg (by omega), cmpN_lt (by omega)]
  · rw [cmpN_eq h, if_pos rfl]
    rcases Nat.lt_trichotomy a1 b1 with g | g | g
    · rw [cmpN_lt g, if_neg (by omega), cmpN_lt (by omega)]
    · rw [cmpN_eq g, if_pos rfl]
      rcases Nat.lt_trichotomy a2 b2 with k | k | k
      · rw [cmpN_lt k, if_neg (by omega), cmpN_lt (by omega)]
      · rw [cmpN_eq k, if_pos rfl]
        rcases Nat.lt_trichotomy a3 b3 with l | l | l
        · rw [cmpN_lt l, if_neg (by omega), cmpN_lt (by omega)]
        · rw [cmpN_eq l, if_pos rfl, cmpN_eq (hne h g k l)]
        · rw [cmpN_gt l, if_neg (by omega), cmpN_gt (by omega)]
      · rw [cmpN_gt k, if_neg (by omega), cmpN_gt (by omega)]
    · rw [cmpN_gt g, if_neg (by omega), cmpN_gt (by omega)]
  · rw [cmpN_gt h, if_neg (by omega), cmpN_gt (by omega)]
theorem ret_int {a b : Int} (h : a = b) : Ending.returned (.int .i64 a) = .returned (.int .i64 b) := by rw [h]
theorem isnan_u32 (w : World) (a : Nat) : Calls Tryz.prog 132 #[.int .u32 (a : Int)] w fun e w' => e = .returned (.bool false) ∧ w = w' := by
  go_enter Tryz.func132, Tryz.ntmps132
  go_wp2
  go_ret
  exact ⟨rfl, rfl⟩
theorem cmp_u32 (w : World) (a b : Nat) : Calls Tryz.prog 98 #[.int .u32 (a : Int), .int .u32 (b : Int)] w fun e w' => e = .returned (.int .i64 (cmpN a b)) ∧ w = w' := by
  have h1 := isnan_u32 w a
  have h2 := isnan_u32 w b
  rcases Nat.lt_trichotomy a b with h | h | h
  · have hz : (a : Int) < b := by omega
    have hc : Hid (-1 = cmpN a b) := by show _ = _; unfold cmpN; rw [if_pos h]
    go_enter Tryz.func98, Tryz.ntmps98
    go_wp2_with fail
    refine h1.mono ?_
    rintro e w' ⟨rfl, rfl⟩
    go_wp2_with fail
    refine h2.mono ?_
    rintro e w' ⟨rfl, rfl⟩
    go_wp2_with fail
    go_ret
    exact ⟨ret_int hc.out, rfl⟩
  · have hc : Hid (0 = cmpN a b) := by show _ = _; unfold cmpN; rw [if_neg (by omega), if_neg (by omega)]
    subst h
    go_enter Tryz.func98, Tryz.ntmps98
    go_wp2_with fail
    refine h1.mono ?_
    rintro e w' ⟨rfl, rfl⟩
    go_wp2_with fail
    refine h2.mono ?_
    rintro e w' ⟨rfl, rfl⟩
    go_wp2_with fail
    go_ret
    exact ⟨ret_int hc.out, rfl⟩
  · have hz : (b : Int) < a := by omega
    have hz2 : ¬ (a : Int) < b := by omega
    have hc : Hid (1 = cmpN a b) := by show _ = _; unfold cmpN; rw [if_neg (by omega), if_pos h]
    go_enter Tryz.func98, Tryz.ntmps98
    go_wp2_with fail
    refine h1.mono ?_
    rintro e w' ⟨rfl, rfl⟩
    go_wp2_with fail
    refine h2.mono ?_
    rintro e w' ⟨rfl, rfl⟩
    go_wp2_with fail
    go_ret
    exact ⟨ret_int hc.out, rfl⟩
theorem isnan_u16 (w : World) (a : Nat) : Calls Tryz.prog 133 #[.int .u16 (a : Int)] w fun e w' => e = .returned (.bool false) ∧ w = w' := by
  go_enter Tryz.func133, Tryz.ntmps133
  go_wp2
  go_ret
  exact ⟨rfl, rfl⟩
theorem cmp_u16 (w : World) (a b : Nat) : Calls Tryz.prog 99 #[.int .u16 (a : Int), .int .u16 (b : Int)] w fun e w' => e = .returned (.int .i64 (cmpN a b)) ∧ w = w' := by
  have h1 := isnan_u16 w a
  have h2 := isnan_u16 w b
  rcases Nat.lt_trichotomy a b with h | h | h
  · have hz : (a : Int) < b := by omega
    have hc : Hid (-1 = cmpN a b) := by show _ = _; unfold cmpN; rw [if_pos h]
    go_enter Tryz.func99, Tryz.ntmps99
    go_wp2_with fail
    refine h1.mono ?_
    rintro e w' ⟨rfl, rfl⟩
    go_wp2_with fail
    refine h2.mono ?_
    rintro e w' ⟨rfl, rfl⟩
    go_wp2_with fail
    go_ret
    exact ⟨ret_int hc.out, rfl⟩
  · have hc : Hid (0 = cmpN a b) := by show _ = _; unfold cmpN; rw [if_neg (by omega), if_neg (by omega)]
    subst h
    go_enter Tryz.func99, Tryz.ntmps99
    go_wp2_with fail
    refine h1.mono ?_
    rintro e w' ⟨rfl, rfl⟩
    go_wp2_with fail
    refine h2.mono ?_
    rintro e w' ⟨rfl, rfl⟩
    go_wp2_with fail
    go_ret
    exact ⟨ret_int hc.out, rfl⟩
  · have hz : (b : Int) < a := by omega
    have hz2 : ¬ (a : Int) < b := by omega
    have hc : Hid (1 = cmpN a b) := by show _ = _; unfold cmpN; rw [if_neg (by omega), if_pos h]
    go_enter Tryz.func99, Tryz.ntmps99
    go_wp2_with fail
    refine h1.mono ?_
    rintro e w' ⟨rfl, rfl⟩
    go_wp2_with fail
    refine h2.mono ?_
    rintro e w' ⟨rfl, rfl⟩
    go_wp2_with fail
    go_ret
    exact ⟨ret_int hc.out, rfl⟩
/-- Four whole numbers stand in a block. -/
def Four (w : World) (s : Nat) (x0 x1 x2 x3 : Int) : Prop := w.cell? ⟨s, 0, none⟩ = some (.int .i64 x0) ∧ w.cell? ⟨s, 1, none⟩ = some (.int .i64 x1) ∧ w.cell? ⟨s, 2, none⟩ = some (.int .i64 x2) ∧ w.cell? ⟨s, 3, none⟩ = some (.int .i64 x3)
theorem or_any {w : World} {s : Nat} {x0 x1 x2 x3 : Int} (h : Four w s x0 x1 x2 x3) : Calls Tryz.prog 97 #[.slice (some ⟨s, 0, none⟩) 4 4] w fun e w1 => e = .returned (.int .i64 (orZ [x0, x1, x2, x3])) ∧ w = w1 := by
  obtain ⟨h0, h1, h2, h3⟩ := h
  have H : ∀ k : Nat, k < 4 → w.cell? ⟨s, k, none⟩ = some (.int .i64 ([x0, x1, x2, x3].getD k 0)) := fun k hk => by
    match k, hk with
    | 0, _ => exact h0
    | 1, _ => exact h1
    | 2, _ => exact h2
    | 3, _ => exact h3
    | k + 4, hk => omega
  have HZ : ∀ k : Nat, k < 4 → [x0, x1, x2, x3].getD k 0 ≠ 0 → orZ ([x0, x1, x2, x3].drop k) = [x0, x1, x2, x3].getD k 0 := fun k hk hne => by
    match k, hk with
    | 0, _ => simp [orZ] at hne ⊢; simp [hne]
    | 1, _ => simp [orZ] at hne ⊢; simp [hne]
    | 2, _ => simp [orZ] at hne ⊢; simp [hne]
    | 3, _ => simp [orZ] at hne ⊢; simp [hne]
    | k + 4, hk => omega
  have HN : ∀ k : Nat, k < 4 → [x0, x1, x2, x3].getD k 0 = 0 → orZ ([x0, x1, x2, x3].drop k) = orZ ([x0, x1, x2, x3].drop (k + 1)) := fun k hk hne => by
    match k, hk with
    | 0, _ => simp at hne; simp [orZ, hne]
    | 1, _ => simp at hne; simp [orZ, hne]
    | 2, _ => simp at hne; simp [orZ, hne]
    | 3, _ => simp at hne; simp [orZ, hne]
    | k + 4, hk => omega
  generalize hl : [x0, x1, x2, x3] = l at H HZ HN
  have hlen : l.length = 4 := by rw [← hl]; rfl
  have H' := hide H
  have HZ' := hide HZ
  have HN' := hide HN
  clear h0 h1 h2 h3 H HZ HN hl x0 x1 x2 x3
  go_enter Tryz.func97, Tryz.ntmps97
  go_wp2_with fail
  go_loopw [8] (fun i wr => ∃ k : Nat, k ≤ 4 ∧ i = .int .i64 (k : Int) ∧ orZ (l.drop k) = orZ l ∧ w = wr) (fun i _ => 4 - (intOf i).toNat)
  case atStart => exact ⟨0, by omega, rfl, by rw [List.drop_zero], rfl⟩
  case round =>
    obtain ⟨k, hk, rfl, hz, rfl⟩ := hrel
    by_cases hlt : k < 4
    · have hc := H'.out k hlt
      have hkz : (k : Int) < 4 := by omega
      obtain ⟨x, hx⟩ : ∃ x, x = l.getD k 0 := ⟨_, rfl⟩
      rw [← hx] at hc
      have HX := hide hx
      clear hx
      by_cases h0 : x = 0
      · have hN := HN'.out k hlt (by rw [← HX.out, h0])
        subst h0
        have HQ := hide (hN.symm.trans hz)
        clear hN hz
        go_wp2_with fail
        go_round
        case rel => exact ⟨k + 1, by omega, by go_num, HQ.out, trivial⟩
        case measure => simp [intOf]; omega
      · have hN := HZ'.out k hlt (by rw [← HX.out]; exact h0)
        rw [← HX.out] at hN
        have HQ := hide (hN.symm.trans hz)
        have hne : (x == 0) = false := by simp [h0]
        clear hN hz
        go_wp2_with fail
        go_ret
        exact ⟨ret_int HQ.out, rfl⟩
    · have hkz : ¬ (k : Int) < 4 := by omega
      obtain rfl : k = 4 := by omega
      rw [List.drop_of_length_le (by omega)] at hz
      have HQ := hide hz
      clear hz
      go_wp2_with fail
      go_ret
      exact ⟨ret_int HQ.out, rfl⟩
theorem four_new (w : World) (A B : Obj) (x0 x1 x2 x3 : Int) (t : TypeId) : Four (((w.alloc A).alloc B).alloc (.cells #[.int .i64 x0, .int .i64 x1, .int .i64 x2, .int .i64 x3] t)).drew (w.heap.size + 1 + 1) x0 x1 x2 x3 :=
  ⟨cell_new ((w.alloc A).alloc B) _ t rfl (by simp), cell_new ((w.alloc A).alloc B) _ t rfl (by simp), cell_new ((w.alloc A).alloc B) _ t rfl (by simp), cell_new ((w.alloc A).alloc B) _ t rfl (by simp)⟩
theorem kp_cell {w w1 : World} {p : Addr} {v : Value} (h : w.cell? p = some v) (hk : Kp No w w1) : w1.cell? p = some v := hk.cell h fun f => f
end Go.Proofs.YtnfcfdhlmeimhaaGreat
