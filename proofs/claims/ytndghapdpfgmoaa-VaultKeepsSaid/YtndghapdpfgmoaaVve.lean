/- Package vault's ranging over a vault's map, and slices.Index of truth values. -/
import Derived.Test.YtndghapdpfgmoaaVva
import Derived.Test.YtndghapdpfgmoaaBo
namespace Go.Proofs.Ytndghapdpfgmoaa
open Go.RowKit
set_option linter.unusedVariables false
set_option linter.unusedSimpArgs false
set_option maxRecDepth 20000

section
variable {w : World} {b r : Nat} {L dn left : List (Nat × Nat)} {ops : Array Oper} {rest : List Oper} {o : Oper} {a : Act} {Q : Exit → Act → World → Prop}
/-- 'range m', at the operation. -/
theorem wpList_mrange (hg : o.guard = none) (m : Operand) (hop : o.op = Op.range 49 m) (hm : a.eval m = .map (some b)) (h : MpAt w b L) (r : Nat) (hrz : r = w.heap.size)
    (hK : ∀ w', RgAt w' b r L [] L → Kp No w w' → w'.heap.size = r + 1 → wpList Try.prog ops Q rest (a.put o.dst (.pointer (some ⟨r, 0, none⟩))) w') : wpList Try.prog ops Q (o :: rest) a w := by
  subst hrz
  refine wpList_plain hg fun K' hK' => ?_
  obtain ⟨w', hrun, r1, r2, r3⟩ := h.range
  unfold Oper.wp
  simp [execOp, hop, hm, hrun, Result.andThen]
  exact hK' _ _ (hK w' r1 r2 r3)
/-- The step, at the operation. -/
theorem wpList_mnext (hg : o.guard = none) (it : Operand) (hop : o.op = Op.next it false) (hit : a.eval it = .pointer (some ⟨r, 0, none⟩)) (h : RgAt w b r L dn left)
    (hDone : left = [] → wpList Try.prog ops Q rest (a.put o.dst (.tuple #[.bool false])) w)
    (hMore : ∀ c s w' left', s < N96 → c < 1024 → (c, s) ∈ L → RgAt w' b r L (dn ++ [(c, s)]) left' → w'.rangeLeft b r < w.rangeLeft b r → Kp (fun q => q = r) w w' → (Instr.entry (.pointer (some ⟨r, 0, none⟩))).run Try.prog w' = .ok (.tuple #[shV s, .int .i64 (c : Int)]) w' →
      wpList Try.prog ops Q rest (a.put o.dst (.tuple #[.bool true, shV s, .int .i64 (c : Int)])) w') : wpList Try.prog ops Q (o :: rest) a w := by
  refine wpList_plain hg fun K' hK' => ?_
  unfold Oper.wp
  rcases h.next o.type with ⟨hl, _, hrun⟩ | ⟨c, s, w', left', hs, hc, hm, hrun, hr, hlt, hk, _, he⟩
  · simp [execOp, hop, hit, hrun, Result.andThen]
    exact hK' _ _ (hDone hl)
  · simp [execOp, hop, hit, hrun, Result.andThen]
    exact hK' _ _ (hMore c s w' left' hs hc hm hr hlt hk he)
end
/-- The first that is false. -/
def fstF (n : Nat) (f : Nat → Bool) : Nat := (List.range n).findIdx fun j => !f j
section
variable {n : Nat} {f : Nat → Bool}
theorem fstF_at {k : Nat} (hk : k < n) (h : ∀ j, j < k → f j = true) (hf : f k = false) : fstF n f = k := by
  unfold fstF
  refine (List.findIdx_eq (xs := List.range n) (by rw [List.length_range]; exact hk)).2 ⟨by simp [hf], fun j hj => ?_⟩
  rw [List.getElem_range]
  simp [h j hj]
theorem fstF_none (h : ∀ j, j < n → f j = true) : fstF n f = n := by
  have : (List.range n).findIdx (fun j => !f j) = (List.range n).length := List.findIdx_eq_length.2 fun x hx => by simp [h x (List.mem_range.1 hx)]
  rw [List.length_range] at this
  exact this
end
def fstZ (n : Nat) (f : Nat → Bool) : Int := if fstF n f < n then (fstF n f : Int) else -1
theorem index_any {w : World} {b n c : Nat} {f : Nat → Bool} (h : BRow w b n f) (hn : n ≤ 1000) : Calls Try.prog 47 #[.slice (some ⟨b, 0, none⟩) n c, .bool false] w fun e w1 => e = .returned (.int .i64 (fstZ n f)) ∧ w = w1 := by
  have HB := hide h
  clear h
  go_enter Try.func47, Try.ntmps47
  go_wp2_with fail
  go_loopw [8] (fun i wr => ∃ k : Nat, k ≤ n ∧ i = .int .i64 (k : Int) ∧ (∀ j, j < k → f j = true) ∧ w = wr) (fun i _ => n - (intOf i).toNat)
  case atStart => exact ⟨0, by omega, rfl, fun j hj => by omega, rfl⟩
  case round =>
    obtain ⟨k, hk, rfl, hz, rfl⟩ := hrel
    have HZ := hide hz
    clear hz
    by_cases hlt : k < n
    · have hkz : (k : Int) < n := by omega
      rcases hf : f k with _ | _
      · have hc := HB.out.cellv hlt hf
        have hq : fstZ n f = (k : Int) := by unfold fstZ; rw [fstF_at hlt HZ.out hf, if_pos hlt]
        have HQ := hide hq
        have HF := hide hf
        clear hq hf
        go_wp2_with fail
        go_ret
        exact ⟨ret_int HQ.out.symm, rfl⟩
      · have hc := HB.out.cellv hlt hf
        have HF := hide hf
        clear hf
        go_wp2_with fail
        go_round
        case rel => exact ⟨k + 1, by omega, by go_num, fun j hj => by
          rcases Nat.lt_or_ge j k with g | g
          · exact HZ.out j g
          · rw [show j = k by omega]; exact HF.out, trivial⟩
        case measure => simp [intOf]; omega
    · have hkz : ¬ (k : Int) < n := by omega
      obtain rfl : k = n := by omega
      have hq : fstZ k f = -1 := by unfold fstZ; rw [fstF_none HZ.out, if_neg (by omega)]
      have HQ := hide hq
      clear hq
      go_wp2_with fail
      go_ret
      exact ⟨ret_int HQ.out.symm, rfl⟩
end Go.Proofs.Ytndghapdpfgmoaa
