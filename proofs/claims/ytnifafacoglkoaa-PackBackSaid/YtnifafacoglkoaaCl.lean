/- bytes.Clone, the Writer's Bytes, and the document's own answers for package pack, each as a contract over memory. -/
import Derived.Test.YtnifafacoglkoaaWr
namespace Go.Proofs.Ytnifafacoglkoaa
open Go.RowKit
set_option linter.unusedVariables false

/-- A row of the call's own comes back. -/
def OwnPost (w : World) (bs : List UInt8) (e : Ending) (w1 : World) : Prop := ∃ A n c, e = .returned (.slice A n c) ∧ Own w1 w.heap.size 5 (.slice A n c) bs ∧ Kp No w w1

theorem own_empty (w : World) : Own (w.alloc (.cells #[] 5)) w.heap.size 5 (.slice (some ⟨w.heap.size, 0, none⟩) 0 0) [] :=
  World.ownsRow_made w #[] 0 (Nat.le_refl _) (Nat.zero_le _) rfl

theorem clone_any {w : World} {bs : List UInt8} {u : Value} (hu : Bts w u bs) (hl : bs.length ≤ 900000000) : Calls Try.prog 23 #[u] w (OwnPost w bs) := by
  obtain ⟨i0, hi0, hz0, hz1, hz2⟩ := byte_parts
  obtain ⟨A, n, c, rfl⟩ := hu.form
  have hq := fun (w : World) (a : Option Addr) (n c : Nat) => Lib.run_eql_slice_nil (P := Try.prog) w 26 5 a n c 0 0 Try.underlying26
  rcases A with _ | ad
  · have hb : bs = [] ∧ n = 0 ∧ c = 0 := by
      obtain ⟨A', c', e, hn, _⟩ := hu
      injection e with e1 e2 e3
      subst e1 e2 e3
      exact ⟨(hn rfl).1, by simp [(hn rfl).1], (hn rfl).2⟩
    obtain ⟨rfl, rfl, rfl⟩ := hb
    go_enter Try.func23, Try.ntmps23
    go_wp2
    go_ret
    exact ⟨none, 0, 0, rfl, Own.nil _ _ _, Kp.refl _ _⟩
  · go_enter Try.func23, Try.ntmps23
    go_wp2_with (first
      | (at_builtin
         refine wpList_app rfl (.tmp 5) (.tmp 6) _ rfl i0 Try.underlying26 hi0 hz0 hz1 hz2 rfl (own_empty w) rfl (hu.keep (Kp.alloc No w _) fun _ _ f => f) (by simp; omega) (by simp) ?_
         intro A1 n1 c1 w1 ha))
    go_ret
    exact ⟨A1, n1, c1, rfl, by simpa using ha.own, ha.keeps (own_empty w) (Kp.alloc No w _)⟩

/-- The Writer's Bytes: a copy. -/
theorem bytes_any {w : World} {F : Nat → Prop} {g : Nat} {bs : List UInt8} (h : WrAt w F g bs) (hl : bs.length ≤ 900000000) : Calls Try.prog 14 #[.pointer (some ⟨g, 0, none⟩)] w (OwnPost w bs) := by
  obtain ⟨v, h1, h2, h3, h4⟩ := h
  obtain ⟨A, n, c, rfl⟩ := h2.form
  have hc : w.cell? ⟨g, 0, none⟩ = some (.slice A n c) := by rw [cell_of_row w g 0 _ _ _ h1]; rfl
  go_enter Try.func14, Try.ntmps14
  go_wp2_with (go_at_call 23; refine (clone_any h2.bts hl).mono ?_; rintro e w1 ⟨A1, n1, c1, rfl, ho, hk⟩)
  go_ret
  exact ⟨A1, n1, c1, rfl, ho, hk⟩

/-- The chapter's example holds. -/
def TruePost (w : World) (e : Ending) (w1 : World) : Prop := e = .returned (.bool true) ∧ Kp No w w1

theorem awake_any (w : World) : Calls Try.prog 6 #[] w (TruePost w) := by
  have hc := fun (w : World) (v : Value) (bs : List UInt8) (h : Bts w v bs) => h.str (P := Try.prog) 26 9 5 Try.underlying26 Try.underlying5 Try.underlying9
  have HC := hide hc
  clear hc
  go_enter Try.func6, Try.ntmps6
  go_wp2_with fail
  refine (num_any (bs := []) (F := fun k => k = w.heap.size) (g := w.heap.size) 258 2 2 (by omega) ⟨by omega, by omega⟩ (WrAt.new w) (by simp)).mono ?_
  rintro e w1 hp
  obtain rfl := hp.1
  go_wp2_with fail
  refine (bytes_any (g := w.heap.size) hp.2.1 (by simp [numB_length])).mono ?_
  rintro e w2 ⟨A1, n1, c1, rfl, ho, hk⟩
  have hcv := HC.out w2 _ _ ho.bts
  go_wp2
  go_ret
  have hex : ((strOf (numB 258 2)).toList == [2, 1]) = true := by kernel_rfl
  refine ⟨?_, ((Kp.alloc No w _).trans (hp.2.2.mono ?_)).trans (hk.of_no _)⟩
  · show Ending.returned (.bool _) = _
    rw [hex]
  · rintro k rfl
    exact .inr (Nat.le_refl _)

theorem div_step (n k : Nat) : n / 2 ^ (8 * k) / 256 = n / 2 ^ (8 * (k + 1)) := by
  rw [Nat.div_div_eq_div_mul]
  congr 1
  rw [show 8 * (k + 1) = 8 * k + 8 by omega, Nat.pow_add]

set_option maxHeartbeats 1000000 in
/-- The document's number: so many bytes of n. -/
theorem rnum_any {w : World} (n : Nat) (sz : Int) (K : Nat) (hn : n < 18446744073709551616) (hK : IsK sz K) : Calls Try.prog 13 #[.int .u64 n, .int .i64 sz] w (OwnPost w (numB n K)) := by
  obtain ⟨i0, hi0, hz0, hz1, hz2⟩ := byte_parts
  have h8 := hK.1
  have hcase : (sz < 0 ∧ K ≤ 0) ∨ (8 < sz ∧ 8 ≤ K) ∨ (0 ≤ sz ∧ sz ≤ 8 ∧ sz ≤ K ∧ K ≤ sz) := by have := hK.2; omega
  clear hK
  go_enter Try.func13, Try.ntmps13
  go_wp2
  go_loopw [0, 5, 6] (fun m b i wr => ∃ k A l c q, k ≤ K ∧ i = .int .i64 ((k : Nat) : Int) ∧ m = .int .u64 ((q : Nat) : Int) ∧ q < 18446744073709551616 ∧ Hid (q = n / 2 ^ (8 * k)) ∧ b = .slice A l c ∧ Own wr w.heap.size 5 (.slice A l c) (numB n k) ∧ Kp No w wr) (fun _ _ i _ => 8 - (intOf i).toNat)
  case atStart => exact ⟨0, none, 0, 0, n, Nat.zero_le _, rfl, rfl, hn, by show n = n / 2 ^ 0; simp, rfl, Own.nil _ _ _, Kp.refl _ _⟩
  case round =>
    obtain ⟨k, A, l, c, q, hk, rfl, rfl, hq, HQ, rfl, hb, hkp⟩ := hrel
    by_cases hlt : k < K
    · have ht : (k : Int) < sz := by omega
      have ht8 : (k : Int) < 8 := by omega
      clear hcase
      go_wp2_with (first
        | (at_builtin
           refine wpList_app rfl (.tmp 16) (.tmp 20) _ rfl i0 Try.underlying26 hi0 hz0 hz1 hz2 rfl (hb.alloc _) rfl (bts_new _ (UInt8.ofNat (n / 2 ^ (8 * k))) _ ?hv) ?hl ?hs ?_
           case hv => rw [bv_ofNat, ← HQ.out]
           case hl => simp [numB_length]; omega
           case hs => have := hkp.size; simp; omega
           intro A1 n1 c1 w1 ha))
      go_round
      case rel => exact ⟨k + 1, A1, n1, c1, q / 256, by omega, by go_num, by go_num, by omega, by show q / 256 = _; rw [HQ.out, div_step], rfl, by rw [numB_succ]; exact ha.own, ha.keeps (hb.alloc _) (hkp.trans (Kp.alloc _ _ _))⟩
      case measure => simp [intOf]; omega
    · have hkK : k = K := by omega
      subst hkK
      by_cases ht : (k : Int) < sz
      · have ht8 : ¬ (k : Int) < 8 := by omega
        clear hcase
        go_wp2
        go_ret
        exact ⟨A, l, c, rfl, hb, hkp⟩
      · clear hcase
        go_wp2
        go_ret
        exact ⟨A, l, c, rfl, hb, hkp⟩
end Go.Proofs.Ytnifafacoglkoaa
