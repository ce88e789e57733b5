/- Package msr's New, N, K, Helpers, Parts, Symbols, has and Row, each as a contract over memory. -/
import Derived.Test.YtbkelijmdpoanaaVq
import Derived.Test.YtbkelijmdpoanaaMsm
namespace Go.Proofs.Ytbkelijmdpoanaa
open Go.RowKit
set_option linter.unusedVariables false
set_option maxRecDepth 20000

theorem kpt2 {W w1 : World} {p q : Addr} {x0 x1 : Value} (hk : Kp No W w1) (h : W.cell? p = some x0 ∧ W.cell? q = some x1) : w1.cell? p = some x0 ∧ w1.cell? q = some x1 := ⟨hk.cell h.1 fun f => f, hk.cell h.2 fun f => f⟩
/-- A code's numbers: n shards, k suffice, a parts, d helpers, q symbols. -/
structure Dim (n k a d q : Nat) : Prop where
  k_ : k = a + 1
  d_ : d = a + a
  q_ : q = (a + 1) * a
  a1 : 1 ≤ a
  a7 : a ≤ 7
  n1 : d < n
  n2 : n ≤ 24
theorem Dim.q56 {n k a d q : Nat} (h : Dim n k a d q) : 2 ≤ q ∧ q ≤ 56 ∧ a ≤ q := by
  have h1 := h.a1
  have h7 := h.a7
  have e := h.q_
  rw [Nat.add_mul, Nat.one_mul] at e
  have := Nat.mul_le_mul h7 h7
  have := Nat.mul_le_mul h1 h1
  omega
theorem dim_of {n k : Nat} (h1 : 2 ≤ k) (h2 : k ≤ 8) (h3 : 2 * k ≤ n + 1) (h4 : n ≤ 24) : ∃ a d q, Dim n k a d q :=
  ⟨k - 1, k - 1 + (k - 1), (k - 1 + 1) * (k - 1), by omega, rfl, rfl, by omega, by omega, by omega, h4⟩

/-- The powers that were found, each reckoned once. -/
def fqs (e : Nat) (l : List UInt8) (x : Nat) : List UInt8 := if upw (UInt8.ofNat x) e ∈ l then l else l ++ [upw (UInt8.ofNat x) e]
theorem fpw_fold (e : Nat) : ∀ x, fpw e x = (List.range x).foldl (fqs e) []
  | 0 => rfl
  | x + 1 => by
    rw [List.range_succ, List.foldl_append, ← fpw_fold e x]
    show fpw e (x + 1) = fqs e (fpw e x) x
    unfold fqs
    by_cases h : upw (UInt8.ofNat x) e ∈ fpw e x
    · rw [fpw_in h, if_pos h]
    · rw [fpw_new h, if_neg h]
theorem enough : ∀ e, e < 8 → 0 < e → 24 ≤ ((List.range 60).foldl (fqs e) []).length := by decide +kernel
theorem fnd_enough {a : Nat} (h1 : 1 ≤ a) (h7 : a ≤ 7) : 24 ≤ (fnd a 256).length := by
  have h := enough a (by omega) (by omega)
  rw [← fpw_fold, fpw_len] at h
  exact Nat.le_trans h (fnd_le (by omega))

/-- The points of the slots: the first ones whose powers are unlike. -/
structure Pts (n a : Nat) (x : Nat → UInt8) : Prop where
  eq : ∃ N, N = 256 ∧ n ≤ (fnd a N).length ∧ (fnd a N).take n = rowL n x
  uq : Uq n fun i => upw (x i) a
theorem lg_take {l : List UInt8} {n i : Nat} (h : i < n) : lg (l.take n) i = lg l i := by
  unfold lg
  rw [List.getD_eq_getElem?_getD, List.getD_eq_getElem?_getD, List.getElem?_take, if_pos h]
theorem pts_ex {n a : Nat} (h1 : 1 ≤ a) (h7 : a ≤ 7) (hn : n ≤ 24) : ∃ x, Pts n a x := by
  have he := fnd_enough h1 h7
  have hu := fpw_uq a 256
  rw [fpw_len] at hu
  refine ⟨lg ((fnd a 256).take n), ⟨256, rfl, by omega, ?_⟩, fun i j hj hi => ?_⟩
  · have h := rowL_lg ((fnd a 256).take n)
    rw [List.length_take, Nat.min_eq_left (by omega)] at h
    exact h.symm
  · have key : ∀ m, m < n → upw (lg ((fnd a 256).take n) m) a = lg (fpw a 256) m := fun m hm => by
      rw [lg_take hm]
      have hl : m < (fnd a 256).length := by omega
      have hl2 : m < (fpw a 256).length := by rw [fpw_len]; exact hl
      rw [lg_of (List.getElem?_eq_getElem hl), lg_of (List.getElem?_eq_getElem hl2)]
      simp [fpw]
    show upw (lg ((fnd a 256).take n) i) a ≠ upw (lg ((fnd a 256).take n) j) a
    rw [key i hi, key j (by omega)]
    exact hu i j hj (by omega)

/-- A code in memory. -/
structure CodeAt (w : World) (g n k : Nat) (x : Nat → UInt8) : Prop where
  head : ∃ A cp, w.heap[g]? = some (.cells #[.int .i64 (k : Int), .slice A n cp] 51 (0, 0)) ∧ Bts w (.slice A n cp) (rowL n x)
section
variable {w w1 : World} {g n k a d q : Nat} {x : Nat → UInt8}
theorem CodeAt.no (h : CodeAt w g n k x) (hk : Kp No w w1) : CodeAt w1 g n k x := by
  obtain ⟨A, cp, h1, h2⟩ := h.head
  exact ⟨A, cp, by rw [hk.block g (Array.getElem?_eq_some_iff.1 h1).1 fun f => f]; exact h1, h2.no hk⟩
theorem CodeAt.c0 (h : CodeAt w g n k x) : w.cell? ⟨g, 0, none⟩ = some (.int .i64 (k : Int)) := by
  obtain ⟨A, cp, h1, h2⟩ := h.head
  rw [cell_of_row w g _ _ _ _ h1]
  rfl
theorem CodeAt.c1 (h : CodeAt w g n k x) : ∃ A cp, w.cell? ⟨g, 1, none⟩ = some (.slice A n cp) ∧ Bts w (.slice A n cp) (rowL n x) := by
  obtain ⟨A, cp, h1, h2⟩ := h.head
  refine ⟨A, cp, ?_, h2⟩
  rw [cell_of_row w g _ _ _ _ h1]
  rfl
abbrev cptr (g : Nat) : Value := .pointer (some ⟨g, 0, none⟩)

theorem kk_any (h : CodeAt w g n k x) : Calls Try.prog 11 #[cptr g] w fun e w' => e = .returned (.int .i64 (k : Int)) ∧ w = w' := by
  have c := h.c0
  go_enter Try.func11, Try.ntmps11
  go_wp2_with fail
  go_ret
  exact ⟨rfl, rfl⟩
theorem kk_nil (w : World) : Calls Try.prog 11 #[.pointer none] w fun e w' => e = .returned (.int .i64 0) ∧ w = w' := by
  go_enter Try.func11, Try.ntmps11
  go_wp2_with fail
  go_ret
  exact ⟨rfl, rfl⟩
theorem nn_any (h : CodeAt w g n k x) : Calls Try.prog 10 #[cptr g] w fun e w' => e = .returned (.int .i64 (n : Int)) ∧ w = w' := by
  obtain ⟨A, cp, c, _⟩ := h.c1
  go_enter Try.func10, Try.ntmps10
  go_wp2_with fail
  go_ret
  exact ⟨rfl, rfl⟩
theorem nn_nil (w : World) : Calls Try.prog 10 #[.pointer none] w fun e w' => e = .returned (.int .i64 0) ∧ w = w' := by
  go_enter Try.func10, Try.ntmps10
  go_wp2_with fail
  go_ret
  exact ⟨rfl, rfl⟩
theorem aa_any (h : CodeAt w g n k x) (hD : Dim n k a d q) : Calls Try.prog 13 #[cptr g] w fun e w' => e = .returned (.int .i64 (a : Int)) ∧ w = w' := by
  have hk := hD.k_
  have ha := hD.a7
  have h1 : 1 ≤ k := by omega
  have h2 : k ≤ 8 := by omega
  have HK := hide hk
  clear hk hD
  go_enter Try.func13, Try.ntmps13
  go_wp2_with fail
  refine (kk_any h).mono ?_
  rintro e w' ⟨rfl, rfl⟩
  go_wp2_with fail
  go_ret
  exact ⟨ret_i64 (by have := HK.out; omega), rfl⟩
theorem aa_nil (w : World) : Calls Try.prog 13 #[.pointer none] w fun e w' => e = .returned (.int .i64 0) ∧ w = w' := by
  go_enter Try.func13, Try.ntmps13
  go_wp2_with fail
  refine (kk_nil w).mono ?_
  rintro e w' ⟨rfl, rfl⟩
  go_wp2_with fail
  go_ret
  exact ⟨rfl, rfl⟩
theorem dd_any (h : CodeAt w g n k x) (hD : Dim n k a d q) : Calls Try.prog 12 #[cptr g] w fun e w' => e = .returned (.int .i64 (d : Int)) ∧ w = w' := by
  have HD := hide hD.d_
  have ha := hD.a7
  have hc := aa_any h hD
  clear hD
  go_enter Try.func12, Try.ntmps12
  go_wp2_with fail
  refine hc.mono ?_
  rintro e w' ⟨rfl, rfl⟩
  go_wp2_with fail
  go_ret
  exact ⟨ret_i64 (by have := HD.out; omega), rfl⟩
theorem dd_nil (w : World) : Calls Try.prog 12 #[.pointer none] w fun e w' => e = .returned (.int .i64 0) ∧ w = w' := by
  go_enter Try.func12, Try.ntmps12
  go_wp2_with fail
  refine (aa_nil w).mono ?_
  rintro e w' ⟨rfl, rfl⟩
  go_wp2_with fail
  go_ret
  exact ⟨rfl, rfl⟩
theorem qq_any (h : CodeAt w g n k x) (hD : Dim n k a d q) : Calls Try.prog 14 #[cptr g] w fun e w' => e = .returned (.int .i64 (q : Int)) ∧ w = w' := by
  have hq : (k : Int) * a = q := by rw [hD.k_, hD.q_, Int.natCast_mul]
  have hb := hD.q56
  have h0 : 0 ≤ (k : Int) * a := by omega
  have h1 : (k : Int) * a ≤ 56 := by omega
  have HQ := hide hq
  have hc := aa_any h hD
  clear hD hq hb
  go_enter Try.func14, Try.ntmps14
  go_wp2_with fail
  refine (kk_any h).mono ?_
  rintro e w' ⟨rfl, rfl⟩
  go_wp2_with fail
  refine hc.mono ?_
  rintro e w' ⟨rfl, rfl⟩
  go_wp2_with fail
  go_ret
  exact ⟨ret_i64 HQ.out, rfl⟩
theorem qq_nil (w : World) : Calls Try.prog 14 #[.pointer none] w fun e w' => e = .returned (.int .i64 0) ∧ w = w' := by
  go_enter Try.func14, Try.ntmps14
  go_wp2_with fail
  refine (kk_nil w).mono ?_
  rintro e w' ⟨rfl, rfl⟩
  go_wp2_with fail
  refine (aa_nil w).mono ?_
  rintro e w' ⟨rfl, rfl⟩
  go_wp2_with fail
  go_ret
  exact ⟨rfl, rfl⟩
theorem has_yes (h : CodeAt w g n k x) (i : Nat) (hi : i < n) : Calls Try.prog 30 #[cptr g, .int .i64 (i : Int)] w fun e w' => e = .returned (.bool true) ∧ w = w' := by
  go_enter Try.func30, Try.ntmps30
  go_wp2_with fail
  refine (nn_any h).mono ?_
  rintro e w' ⟨rfl, rfl⟩
  go_wp2_with fail
  go_ret
  exact ⟨rfl, rfl⟩
theorem has_no (h : CodeAt w g n k x) (i : Int) (hi : i < 0 ∨ (n : Int) ≤ i) : Calls Try.prog 30 #[cptr g, .int .i64 i] w fun e w' => e = .returned (.bool false) ∧ w = w' := by
  rcases Int.lt_or_le i 0 with h0 | h0
  · clear hi
    go_enter Try.func30, Try.ntmps30
    go_wp2_with fail
    go_ret
    exact ⟨rfl, rfl⟩
  · have hi : (n : Int) ≤ i := by omega
    go_enter Try.func30, Try.ntmps30
    go_wp2_with fail
    refine (nn_any h).mono ?_
    rintro e w' ⟨rfl, rfl⟩
    go_wp2_with fail
    go_ret
    exact ⟨ret_b (decide_eq_false (by omega)), rfl⟩
theorem has_nil (w : World) : Calls Try.prog 30 #[.pointer none, .int .i64 0] w fun e w' => e = .returned (.bool false) ∧ w = w' := by
  go_enter Try.func30, Try.ntmps30
  go_wp2_with fail
  refine (nn_nil w).mono ?_
  rintro e w' ⟨rfl, rfl⟩
  go_wp2_with fail
  go_ret
  exact ⟨rfl, rfl⟩
theorem rowo_nil (w : World) : Calls Try.prog 15 #[.pointer none, .int .i64 0] w (OwnPost w []) := by
  go_enter Try.func15, Try.ntmps15
  go_wp2_with fail
  refine (has_nil w).mono ?_
  rintro e w' ⟨rfl, rfl⟩
  go_wp2_with fail
  go_ret
  exact ⟨none, 0, 0, rfl, Own.nil _ _ _, Kp.refl _ _⟩
theorem rowo_out (h : CodeAt w g n k x) (i : Int) (hi : i < 0 ∨ (n : Int) ≤ i) : Calls Try.prog 15 #[cptr g, .int .i64 i] w (OwnPost w []) := by
  have hc := has_no h i hi
  clear hi
  go_enter Try.func15, Try.ntmps15
  go_wp2_with fail
  refine hc.mono ?_
  rintro e w' ⟨rfl, rfl⟩
  go_wp2_with fail
  go_ret
  exact ⟨none, 0, 0, rfl, Own.nil _ _ _, Kp.refl _ _⟩
theorem OwnPost.drew {w w2 : World} {bs : List UInt8} {e : Ending} (m : Nat) (h : OwnPost (w.drewN m) bs e w2) : OwnPost w bs e w2 := OwnPost.of_sm (Sm.drewN w m) h
set_option maxHeartbeats 1000000 in
theorem rowo_in (h : CodeAt w g n k x) (hD : Dim n k a d q) (i : Nat) (hi : i < n) : Calls Try.prog 15 #[cptr g, .int .i64 (i : Int)] w (OwnPost w (rowL d (upw (x i)))) := by
  obtain ⟨A, cp, hc, hb⟩ := h.c1
  obtain ⟨B, off, rfl, hcell⟩ := hb.cell hi
  have hd1 : 1 ≤ d := by have := hD.a1; have := hD.d_; omega
  have hd2 : d ≤ 1000 := by have := hD.a7; have := hD.d_; omega
  go_enter Try.func15, Try.ntmps15
  go_wp2_with fail
  refine (has_yes h i hi).mono ?_
  rintro e w' ⟨rfl, rfl⟩
  go_wp2_with fail
  have hdd := dd_any (h.no (Sm.drew w).kp) hD
  have hvr := vrow_any (x i) d w.drew hd1 hd2
  go_region_held3 (fun w' => w'.cell? ⟨g, 1, none⟩ = some (.slice (some ⟨B, off, none⟩) n cp) ∧ w'.cell? ⟨B, off + i, none⟩ = some (.int .u8 ((x i).toNat : Int))) (first | assumption | exact ⟨hc, hcell⟩ | go_keep)
    (first | (go_at_call 12; ((with_reducible refine hdd.mono ?_); rintro e w' ⟨rfl, rfl⟩)) | (go_at_call 31; ((with_reducible refine hvr.mono ?_); rintro e w2 ⟨A1, n1, c1, rfl, ho, hk⟩); have s1 := kpt2 hk ⟨hc, hcell⟩))
  go_wp2_with fail
  go_ret
  exact ⟨A1, n1, c1, rfl, ho, (Sm.drew w).kp.trans' hk⟩
/-- A code comes back. -/
def CodePost (w : World) (n k : Nat) (x : Nat → UInt8) (e : Ending) (w1 : World) : Prop :=
  ∃ g, e = .returned (.tuple #[cptr g, .int .i64 0]) ∧ CodeAt w1 g n k x ∧ Kp No w w1
theorem mnew_no (n k : Int) (w : World) (h : ¬ (2 ≤ k ∧ k ≤ 8 ∧ 2 * k ≤ n + 1 ∧ n ≤ 24)) (h1 : -9223372036854775808 ≤ k) (h2 : k ≤ 9223372036854775807) : Calls Try.prog 7 #[.int .i64 n, .int .i64 k] w (ArgPost w) := by
  by_cases h3 : k < 2
  · clear h
    go_enter Try.func7, Try.ntmps7
    go_wp2_with fail
    go_ret2
    exact ⟨rfl, Kp.refl _ _⟩
  have h3 : 2 ≤ k := by omega
  by_cases h4 : 8 < k
  · clear h
    go_enter Try.func7, Try.ntmps7
    go_wp2_with fail
    go_ret2
    exact ⟨rfl, Kp.refl _ _⟩
  have h4 : k ≤ 8 := by omega
  by_cases h5 : n < 2 * k - 1
  · clear h
    go_enter Try.func7, Try.ntmps7
    go_wp2_with fail
    go_ret2
    exact ⟨rfl, Kp.refl _ _⟩
  have h5 : 2 * k - 1 ≤ n := by omega
  have h6 : 24 < n := by omega
  clear h
  go_enter Try.func7, Try.ntmps7
  go_wp2_with fail
  go_ret2
  exact ⟨rfl, Kp.refl _ _⟩
set_option maxHeartbeats 1000000 in
theorem mnew_yes (w : World) (hD : Dim n k a d q) (hP : Pts n a x) : Calls Try.prog 7 #[.int .i64 (n : Int), .int .i64 (k : Int)] w (CodePost w n k x) := by
  have hk := hD.k_
  have hd := hD.d_
  have ha1 := hD.a1
  have ha7 := hD.a7
  have hn1 := hD.n1
  have hn2 := hD.n2
  have h2 : 2 ≤ k := by omega
  have h8 : k ≤ 8 := by omega
  have h3 : 2 * (k : Int) - 1 ≤ n := by omega
  have hz : (a : Nat) = ((k : Int) - 1).toNat := by omega
  obtain ⟨N, hN, hN2, hN3⟩ := hP.eq
  have hp := points_yes n ((k : Int) - 1) a N w (by omega) (by omega) (by omega) hz hN hN2
  rw [hN3] at hp
  have HP := hide hp
  clear hk hd hN hN2 hN3 hz hp hD hP
  go_enter Try.func7, Try.ntmps7
  go_wp2_with fail
  refine HP.out.mono ?_
  rintro e w1 ⟨A, m, c, rfl, ho, hkp⟩
  have hm : m = n := by rw [ho.len, rowL_len]
  subst hm
  go_wp2_with fail
  go_ret2
  refine ⟨w1.heap.size, rfl, ⟨A, c, heap_alloc_new w1 _, ho.bts.no (Kp.alloc No _ _)⟩, hkp.trans' (Kp.alloc No _ _)⟩
end
end Go.Proofs.Ytbkelijmdpoanaa
