/- bytes.Clone, the Writer's Bytes, and the document's own answers for package pack, each as a contract over memory. -/
import Derived.Test.YtkpongkojkhboaaWr
namespace Go.Proofs.Ytkpongkojkhboaa
open Go.RowKit
set_option linter.unusedVariables false
set_option maxRecDepth 20000

/-- The Writer's Bytes: a copy. -/
theorem bytes_any {w : World} {F : Nat → Prop} {g : Nat} {bs : List UInt8} (h : WrAt w F g bs) (hl : bs.length ≤ 900000000) : Calls Try.prog 30 #[.pointer (some ⟨g, 0, none⟩)] w (OwnPost w bs) := by
  obtain ⟨v, h1, h2, h3, h4⟩ := h
  obtain ⟨A, n, c, rfl⟩ := h2.form
  have hc : w.cell? ⟨g, 0, none⟩ = some (.slice A n c) := by rw [cell_of_row w g 0 _ _ _ h1]; rfl
  go_enter Try.func30, Try.ntmps30
  go_wp2_with (go_at_call 36; refine (clone_any h2.bts hl).mono ?_; rintro e w1 ⟨A1, n1, c1, rfl, ho, hk⟩)
  go_ret
  exact ⟨A1, n1, c1, rfl, ho, hk⟩

theorem div_step (n k : Nat) : n / 2 ^ (8 * k) / 256 = n / 2 ^ (8 * (k + 1)) := by
  rw [Nat.div_div_eq_div_mul]
  congr 1
  rw [show 8 * (k + 1) = 8 * k + 8 by omega, Nat.pow_add]

set_option maxHeartbeats 1000000 in
/-- The document's number: so many bytes of n. -/
theorem rnum_any {w : World} (n : Nat) (sz : Int) (K : Nat) (hn : n < 18446744073709551616) (hK : IsK sz K) : Calls Try.prog 32 #[.int .u64 n, .int .i64 sz] w (OwnPost w (numB n K)) := by
  obtain ⟨i0, hi0, hz0, hz1, hz2⟩ := byte_parts
  have h8 := hK.1
  have hcase : (sz < 0 ∧ K ≤ 0) ∨ (8 < sz ∧ 8 ≤ K) ∨ (0 ≤ sz ∧ sz ≤ 8 ∧ sz ≤ K ∧ K ≤ sz) := by have := hK.2; omega
  clear hK
  go_enter Try.func32, Try.ntmps32
  go_wp2
  go_loopw [0, 5, 6] (fun m b i wr => ∃ k A l c q, k ≤ K ∧ i = .int .i64 ((k : Nat) : Int) ∧ m = .int .u64 ((q : Nat) : Int) ∧ q < 18446744073709551616 ∧ Hid (q = n / 2 ^ (8 * k)) ∧ b = .slice A l c ∧ Own wr w.heap.size 5 (.slice A l c) (numB n k) ∧ Kp No w wr) (fun _ _ i _ => 8 - (intOf i).toNat)
  case atStart => exact ⟨0, none, 0, 0, n, Nat.zero_le _, rfl, rfl, hn, by show n = n / 2 ^ 0; simp, rfl, Own.nil _ _ _, Kp.refl _ _⟩
  case round =>
    obtain ⟨k, A, l, c, q, hk, rfl, rfl, hq, HQ, rfl, hb, hkp⟩ := hrel
    by_cases hlt : k < K
    · have ht : (k : Int) < sz := by omega
      have ht8 : (k : Int) < 8 := by omega
      clear hcase
      go_wp2_with (first
        | (at_builtin
           refine wpList_app rfl (.tmp 16) (.tmp 20) _ rfl i0 Try.underlying27 hi0 hz0 hz1 hz2 rfl (hb.alloc _) rfl (bts_new _ (UInt8.ofNat (n / 2 ^ (8 * k))) _ ?hv) ?hl ?hs ?_
           case hv => rw [bv_ofNat, ← HQ.out]
           case hl => simp [numB_length]; omega
           case hs => have := hkp.size; simp; omega
           intro A1 n1 c1 w1 ha))
      go_round
      case rel => exact ⟨k + 1, A1, n1, c1, q / 256, by omega, by go_num, by go_num, by omega, by show q / 256 = _; rw [HQ.out, div_step], rfl, by rw [numB_succ]; exact ha.own, ha.keeps (hb.alloc _) (hkp.trans (Kp.alloc _ _ _))⟩
      case measure => simp [intOf]; omega
    · have hkK : k = K := by omega
      subst hkK
      by_cases ht : (k : Int) < sz
      · have ht8 : ¬ (k : Int) < 8 := by omega
        clear hcase
        go_wp2
        go_ret
        exact ⟨A, l, c, rfl, hb, hkp⟩
      · clear hcase
        go_wp2
        go_ret
        exact ⟨A, l, c, rfl, hb, hkp⟩
end Go.Proofs.Ytkpongkojkhboaa
