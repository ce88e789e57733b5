/- Right of package wire and of the document, and the law's to, as contracts over memory. -/
import Derived.Test.YtkpongkojkhboaaWia
namespace Go.Proofs.Ytkpongkojkhboaa
open Go.RowKit
set_option linter.unusedVariables false
set_option linter.unusedSimpArgs false
set_option maxRecDepth 20000

theorem ba_loop (b : ByteArray) : ∀ (m i : Nat) (r : List UInt8), m = b.size - i → (ByteArray.toList.loop b i r).length = r.length + m := by
  intro m
  induction m with
  | zero =>
    intro i r hm
    rw [ByteArray.toList.loop, if_neg (by omega)]
    simp
  | succ m ih =>
    intro i r hm
    rw [ByteArray.toList.loop, if_pos (by omega), ih _ _ (by omega)]
    simp
    omega
theorem ba_empty (b : ByteArray) : b.toList.isEmpty = decide (b.size = 0) := by
  have h := ba_loop b b.size 0 [] (by simp)
  have e : b.toList.length = b.size := by unfold ByteArray.toList; rw [h]; simp
  rw [← e]
  rcases hb : b.toList with _ | ⟨x, l⟩ <;> simp
def RtPostK (w : World) (b : Bool) (e : Ending) (w1 : World) : Prop := e = .returned (.bool b) ∧ Kp No w w1

theorem rright15_any {w : World} (q : Rq) (A : Option Addr) (n c : Nat) : Calls Try.prog 11 #[rqV q (.slice A n c)] w (RtPostK w (RgtB q.kind q.lost n)) := by
  obtain ⟨num, k, s, l, data⟩ := q
  dsimp only
  by_cases h1 : k < 1
  · have hr : RgtB k l n = false := decide_eq_false (by omega)
    have HR := hide hr.symm
    clear hr
    go_enter Try.func11, Try.ntmps11
    go_wp2
    go_ret
    rw [← HR.out]
    exact ⟨rfl, Kp.alloc No w _⟩
  by_cases h6 : 6 < k
  · have hr : RgtB k l n = false := decide_eq_false (by omega)
    have HR := hide hr.symm
    clear hr
    go_enter Try.func11, Try.ntmps11
    go_wp2
    go_ret
    rw [← HR.out]
    exact ⟨rfl, Kp.alloc No w _⟩
  by_cases h2 : k = 2
  · subst h2
    by_cases hl : l = 0
    · subst hl
      have hr : RgtB 2 0 n = true := decide_eq_true (by omega)
      have HR := hide hr.symm
      clear hr
      go_enter Try.func11, Try.ntmps11
      go_wp2
      go_ret
      rw [← HR.out]
      exact ⟨rfl, Kp.alloc No w _⟩
    · have hr : RgtB 2 l n = false := decide_eq_false (by omega)
      have HR := hide hr.symm
      have a5 : ((l : Int) == 0) = false := beq_eq_false_iff_ne.2 (by omega)
      have a6 : ((l : Int) != 0) = true := bne_iff_ne.2 (by omega)
      clear hr
      go_enter Try.func11, Try.ntmps11
      go_wp2
      go_ret
      rw [← HR.out]
      exact ⟨rfl, Kp.alloc No w _⟩
  by_cases hn : n = 0
  · subst hn
    by_cases h4 : k = 4
    · subst h4
      have hr : RgtB 4 l 0 = true := decide_eq_true (by omega)
      have HR := hide hr.symm
      clear hr
      go_enter Try.func11, Try.ntmps11
      go_wp2
      go_ret
      rw [← HR.out]
      exact ⟨rfl, Kp.alloc No w _⟩
    by_cases hl : l = 0
    · subst hl
      have hr : RgtB k 0 0 = true := decide_eq_true (by omega)
      have HR := hide hr.symm
      have a1 : (k == 2) = false := beq_eq_false_iff_ne.2 h2
      have a2 : (k != 2) = true := bne_iff_ne.2 h2
      have a3 : (k == 4) = false := beq_eq_false_iff_ne.2 h4
      have a4 : (k != 4) = true := bne_iff_ne.2 h4
      clear hr
      go_enter Try.func11, Try.ntmps11
      go_wp2
      go_ret
      rw [← HR.out]
      exact ⟨rfl, Kp.alloc No w _⟩
    · have hr : RgtB k l 0 = false := decide_eq_false (by omega)
      have HR := hide hr.symm
      have a1 : (k == 2) = false := beq_eq_false_iff_ne.2 h2
      have a2 : (k != 2) = true := bne_iff_ne.2 h2
      have a3 : (k == 4) = false := beq_eq_false_iff_ne.2 h4
      have a4 : (k != 4) = true := bne_iff_ne.2 h4
      have a5 : ((l : Int) == 0) = false := beq_eq_false_iff_ne.2 (by omega)
      have a6 : ((l : Int) != 0) = true := bne_iff_ne.2 (by omega)
      clear hr
      go_enter Try.func11, Try.ntmps11
      go_wp2
      go_ret
      rw [← HR.out]
      exact ⟨rfl, Kp.alloc No w _⟩
  · have hr : RgtB k l n = false := decide_eq_false (by omega)
    have HR := hide hr.symm
    have a1 : (k == 2) = false := beq_eq_false_iff_ne.2 h2
    have a2 : (k != 2) = true := bne_iff_ne.2 h2
    have a7 : (0 : Int) < (n : Int) := by omega
    have a8 : decide ((0 : Int) < (n : Int)) = true := decide_eq_true a7
    clear hr
    go_enter Try.func11, Try.ntmps11
    go_wp2
    go_ret
    rw [← HR.out]
    exact ⟨rfl, Kp.alloc No w _⟩
theorem right15_any {w : World} (q : Rq) (A : Option Addr) (n c : Nat) : Calls Try.prog 10 #[rqV q (.slice A n c)] w (RtPostK w (RgtB q.kind q.lost n)) := by
  obtain ⟨num, k, s, l, data⟩ := q
  dsimp only
  -- what stands behind both tests
  have hk : ∀ (h : (k = 2 ∨ n = 0) ∧ (k = 4 ∨ l = 0)), (!(nmK k).toList.isEmpty) = RgtB k l n := by
    intro h
    by_cases h1 : k < 1 ∨ 6 < k
    · rw [nmK_none h1, show RgtB k l n = false from decide_eq_false (by omega)]
      rw [ba_empty]
      rfl
    · rw [show RgtB k l n = true from decide_eq_true (by omega)]
      obtain ⟨j, rfl⟩ : ∃ j : Nat, k = j := ⟨k.toNat, by omega⟩
      have hj : j ≤ 6 := by omega
      have hj1 : 1 ≤ j := by omega
      match j, hj, hj1 with
      | 1, _, _ | 2, _, _ | 3, _, _ | 4, _, _ | 5, _, _ | 6, _, _ => rw [ba_empty]; rfl
      | j + 7, h, _ => omega
  by_cases h2 : k = 2
  · subst h2
    by_cases hl : l = 0
    · subst hl
      have hr := hk ⟨.inl rfl, .inr rfl⟩
      have HR := hide hr
      clear hr hk
      go_enter Try.func10, Try.ntmps10
      go_wp2_with (go_at_call 12; refine (name_any _).mono ?_; rintro e w1 ⟨rfl, rfl⟩)
      all_goals (go_ret; rw [← HR.out]; exact ⟨rfl, Kp.alloc No w _⟩)
    · have hr : RgtB 2 l n = false := decide_eq_false (by omega)
      have HR := hide hr.symm
      have a5 : ((l : Int) == 0) = false := beq_eq_false_iff_ne.2 (by omega)
      have a6 : ((l : Int) != 0) = true := bne_iff_ne.2 (by omega)
      clear hr
      go_enter Try.func10, Try.ntmps10
      go_wp2
      all_goals (go_ret; rw [← HR.out]; exact ⟨rfl, Kp.alloc No w _⟩)
  by_cases hn : n = 0
  · subst hn
    by_cases h4 : k = 4
    · subst h4
      have hr := hk ⟨.inr rfl, .inl rfl⟩
      have HR := hide hr
      clear hr hk
      go_enter Try.func10, Try.ntmps10
      go_wp2_with (go_at_call 12; refine (name_any _).mono ?_; rintro e w1 ⟨rfl, rfl⟩)
      all_goals (go_ret; rw [← HR.out]; exact ⟨rfl, Kp.alloc No w _⟩)
    by_cases hl : l = 0
    · subst hl
      have hr := hk ⟨.inr rfl, .inr rfl⟩
      have HR := hide hr
      have a1 : (k == 2) = false := beq_eq_false_iff_ne.2 h2
      have a2 : (k != 2) = true := bne_iff_ne.2 h2
      have a3 : (k == 4) = false := beq_eq_false_iff_ne.2 h4
      have a4 : (k != 4) = true := bne_iff_ne.2 h4
      clear hr hk
      go_enter Try.func10, Try.ntmps10
      go_wp2_with (go_at_call 12; refine (name_any _).mono ?_; rintro e w1 ⟨rfl, rfl⟩)
      all_goals (go_ret; rw [← HR.out]; exact ⟨rfl, Kp.alloc No w _⟩)
    · have hr : RgtB k l 0 = false := decide_eq_false (by omega)
      have HR := hide hr.symm
      have a1 : (k == 2) = false := beq_eq_false_iff_ne.2 h2
      have a2 : (k != 2) = true := bne_iff_ne.2 h2
      have a3 : (k == 4) = false := beq_eq_false_iff_ne.2 h4
      have a4 : (k != 4) = true := bne_iff_ne.2 h4
      have a5 : ((l : Int) == 0) = false := beq_eq_false_iff_ne.2 (by omega)
      have a6 : ((l : Int) != 0) = true := bne_iff_ne.2 (by omega)
      clear hr
      go_enter Try.func10, Try.ntmps10
      go_wp2
      all_goals (go_ret; rw [← HR.out]; exact ⟨rfl, Kp.alloc No w _⟩)
  · have hr : RgtB k l n = false := decide_eq_false (by omega)
    have HR := hide hr.symm
    have a1 : (k == 2) = false := beq_eq_false_iff_ne.2 h2
    have a2 : (k != 2) = true := bne_iff_ne.2 h2
    have a7 : (0 : Int) < (n : Int) := by omega
    have a8 : decide ((0 : Int) < (n : Int)) = true := decide_eq_true a7
    clear hr
    go_enter Try.func10, Try.ntmps10
    go_wp2
    go_ret
    rw [← HR.out]
    exact ⟨rfl, Kp.alloc No w _⟩
end Go.Proofs.Ytkpongkojkhboaa
