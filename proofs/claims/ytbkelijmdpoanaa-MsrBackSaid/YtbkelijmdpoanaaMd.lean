/- Package mat's Dot and Turned, each as a contract over memory. -/
import Derived.Test.YtbkelijmdpoanaaMu
namespace Go.Proofs.Ytbkelijmdpoanaa
open Go.RowKit
set_option linter.unusedVariables false

/-- The sum of two bytes, out of the walk's sight. -/
def ux (a b : UInt8) : UInt8 := a ^^^ b
theorem ux_toNat (a b : UInt8) : (ux a b).toNat = a.toNat ^^^ b.toNat := ux_nat a b
theorem addU_any (a b : UInt8) (w : World) : Calls Try.prog 40 #[.int .u8 (a.toNat : Int), .int .u8 (b.toNat : Int)] w fun e w' => e = .returned (.int .u8 ((ux a b).toNat : Int)) ∧ w = w' := by
  rw [ux_toNat]
  exact add_any a.toNat b.toNat w (u8_lt a) (u8_lt b)
theorem mulU_any (a b : UInt8) (w : World) : Calls Try.prog 41 #[.int .u8 (a.toNat : Int), .int .u8 (b.toNat : Int)] w fun e w' => e = .returned (.int .u8 ((um a b).toNat : Int)) ∧ w = w' := by
  rw [um_nat]
  exact mul_any a.toNat b.toNat w (u8_lt a) (u8_lt b)
theorem addU_q (w : World) (n : Nat) (a b : UInt8) : Calls Try.prog 40 #[.int .u8 (a.toNat : Int), .int .u8 (b.toNat : Int)] (w.drewN n) fun e w' => e = .returned (.int .u8 ((ux a b).toNat : Int)) ∧ ∃ k, w' = w.drewN k :=
  (addU_any a b _).mono fun _ _ ⟨he, hw⟩ => ⟨he, n, hw.symm⟩
theorem mulU_q (w : World) (n : Nat) (a b : UInt8) : Calls Try.prog 41 #[.int .u8 (a.toNat : Int), .int .u8 (b.toNat : Int)] (w.drewN n) fun e w' => e = .returned (.int .u8 ((um a b).toNat : Int)) ∧ ∃ k, w' = w.drewN k :=
  (mulU_any a b _).mono fun _ _ ⟨he, hw⟩ => ⟨he, n, hw.symm⟩

/-- A list as a function. -/
def lg (l : List UInt8) (j : Nat) : UInt8 := l.getD j 0
theorem lg_of {l : List UInt8} {j : Nat} {b : UInt8} (h : l[j]? = some b) : lg l j = b := by simp [lg, h]
theorem lg_rowL {c j : Nat} (s : Nat → UInt8) (h : j < c) : lg (rowL c s) j = s j := lg_of (rowL_get s h)

set_option maxHeartbeats 1000000 in
theorem dot_any {w : World} {u v : Value} {a b : List UInt8} (hu : Bts w u a) (hv : Bts w v b) (q : Nat) (hq : q = min a.length b.length) (ha : a.length ≤ 1000000000000) (hb : b.length ≤ 1000000000000) :
    Calls Try.prog 26 #[u, v] w fun e w' => e = .returned (.int .u8 ((ud (lg a) (lg b) q).toNat : Int)) ∧ Sm w w' := by
  obtain ⟨A, n, c, rfl⟩ := hu.form
  obtain ⟨B, m, d, rfl⟩ := hv.form
  have hn := hu.len
  have hm := hv.len
  have hq1 : q ≤ n := by omega
  have hq2 : q ≤ m := by omega
  have hn2 : n ≤ 1000000000000 := by omega
  have hm2 : m ≤ 1000000000000 := by omega
  have hcase : (m < n ∧ q = m) ∨ (¬ m < n ∧ q = n) := by omega
  clear hq hn hm ha hb
  rcases hcase with ⟨hmn, rfl⟩ | ⟨hmn, rfl⟩
  all_goals
    go_enter Try.func26, Try.ntmps26
    go_wp2_with fail
    go_loopw [5, 12] (fun s i wr => ∃ k : Nat, k ≤ q ∧ i = .int .i64 (k : Int) ∧ s = .int .u8 ((ud (lg a) (lg b) k).toNat : Int) ∧ Sm w wr) (fun _ i _ => q - (intOf i).toNat)
    case atStart => exact ⟨0, Nat.zero_le _, rfl, rfl, Sm.refl _⟩
    case round =>
      obtain ⟨k, hk, rfl, rfl, hs⟩ := hrel
      by_cases hlt : k < q
      · obtain ⟨B1, o1, x, rfl, hx, c1⟩ := hu.at_ (show k < _ by omega)
        obtain ⟨B2, o2, y, rfl, hy, c2⟩ := hv.at_ (show k < _ by omega)
        have hstep : Hid (ud (lg a) (lg b) (k + 1) = ux (ud (lg a) (lg b) k) (um x y)) := by
          show ud (lg a) (lg b) (k + 1) = _
          rw [ud_succ, lg_of hx, lg_of hy]
          rfl
        clear hx hy
        rw [← hs.cell] at c1 c2
        generalize ud (lg a) (lg b) k = s at *
        go_wp2_with fail
        go_quiet ((first | (go_at_call 41; exact mulU_q _ _ x y) | (go_at_call 40; exact addU_q _ _ s (um x y))))
        go_wp2_with fail
        go_round
        case rel => exact ⟨k + 1, by omega, by go_num, by rw [hstep.out], hs.trans (Sm.drewN _ _)⟩
        case measure => simp [intOf]; omega
      · have hkq : k = q := by omega
        subst hkq
        go_wp2_with fail
        go_ret
        exact ⟨rfl, hs⟩

/-- So many elements, row by row, are turned. -/
def partF (f g : Nat → Nat → UInt8) (i0 k0 i k : Nat) : UInt8 := if k < i0 ∨ (k = i0 ∧ i < k0) then f i k else g i k
theorem partF_step (F g : Nat → Nat → UInt8) (k q i j : Nat) : setF (partF F g k q) q k (F q k) i j = partF F g k (q + 1) i j := by
  unfold setF partF
  by_cases h1 : i = q ∧ j = k
  · obtain ⟨rfl, rfl⟩ := h1
    rw [if_pos ⟨rfl, rfl⟩, if_pos (by omega)]
  · rw [if_neg h1]
    by_cases h2 : j < k ∨ (j = k ∧ i < q)
    · rw [if_pos h2, if_pos (by omega)]
    · rw [if_neg h2, if_neg (by omega)]

end Go.Proofs.Ytbkelijmdpoanaa
