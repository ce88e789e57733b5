/- Package msr's New, N, K, Helpers, Parts, Symbols, has and Row, each as a contract over memory. -/
import Derived.Test.YtnfcfdhlmeimhaaGreatTwat
namespace Go.Proofs.YtnfcfdhlmeimhaaGreat
open Go.RowKit
set_option linter.unusedVariables false
set_option maxRecDepth 20000

theorem kpt2 {W w1 : World} {p q : Addr} {x0 x1 : Value} (hk : Kp No W w1) (h : W.cell? p = some x0 ∧ W.cell? q = some x1) : w1.cell? p = some x0 ∧ w1.cell? q = some x1 := ⟨hk.cell h.1 fun f => f, hk.cell h.2 fun f => f⟩
/-- A code's numbers: n shards, k suffice, a parts, d helpers, q symbols. -/
structure Dim (n k a d q : Nat) : Prop where
  k_ : k = a + 1
  d_ : d = a + a
  q_ : q = (a + 1) * a
  a1 : 1 ≤ a
  a7 : a ≤ 7
  n1 : d < n
  n2 : n ≤ 24
/-- The powers that were found, each reckoned once. -/
def fqs (e : Nat) (l : List UInt8) (x : Nat) : List UInt8 := if upw (UInt8.ofNat x) e ∈ l then l else l ++ [upw (UInt8.ofNat x) e]
theorem fpw_fold (e : Nat) : ∀ x, fpw e x = (List.range x).foldl (fqs e) []
  | 0 => rfl
  | x + 1 => by
    rw [List.range_succ, List.foldl_append, ← fpw_fold e x]
    show fpw e (x + 1) = fqs e (fpw e x) x
    unfold fqs
    by_cases h : upw (UInt8.ofNat x) e ∈ fpw e x
    · rw [fpw_in h, if_pos h]
    · rw [fpw_new h, if_neg h]
theorem enough : ∀ e, e < 8 → 0 < e → 24 ≤ ((List.range 60).foldl (fqs e) []).length := by decide +kernel
theorem fnd_enough {a : Nat} (h1 : 1 ≤ a) (h7 : a ≤ 7) : 24 ≤ (fnd a 256).length := by
  have h := enough a (by omega) (by omega)
  rw [← fpw_fold, fpw_len] at h
  exact Nat.le_trans h (fnd_le (by omega))

/-- The points of the slots: the first ones whose powers are unlike. -/
structure Pts (n a : Nat) (x : Nat → UInt8) : Prop where
  eq : ∃ N, N = 256 ∧ n ≤ (fnd a N).length ∧ (fnd a N).take n = rowL n x
  uq : Uq n fun i => upw (x i) a
theorem lg_take {l : List UInt8} {n i : Nat} (h : i < n) : lg (l.take n) i = lg l i := by
  unfold lg
  rw [List.getD_eq_getElem?_getD, List.getD_eq_getElem?_getD, List.getElem?_take, if_pos h]
theorem pts_ex {n a : Nat} (h1 : 1 ≤ a) (h7 : a ≤ 7) (hn : n ≤ 24) : ∃ x, Pts n a x := by
  have he := fnd_enough h1 h7
  have hu := fpw_uq a 256
  rw [fpw_len] at hu
  refine ⟨lg ((fnd a 256).take n), ⟨256, rfl, by omega, ?_⟩, fun i j hj hi => ?_⟩
  · have h := rowL_lg ((fnd a 256).take n)
    rw [List.length_take, Nat.min_eq_left (by omega)] at h
    exact h.symm
  · have key : ∀ m, m < n → upw (lg ((fnd a 256).take n) m) a = lg (fpw a 256) m := fun m hm => by
      rw [lg_take hm]
      have hl : m < (fnd a 256).length := by omega
      have hl2 : m < (fpw a 256).length := by rw [fpw_len]; exact hl
      rw [lg_of (List.getElem?_eq_getElem hl), lg_of (List.getElem?_eq_getElem hl2)]
      simp [fpw]
    show upw (lg ((fnd a 256).take n) i) a ≠ upw (lg ((fnd a 256).take n) j) a
    rw [key i hi, key j (by omega)]
    exact hu i j hj (by omega)

/-- A code in memory. -/
structure CodeAt (w : World) (g n k : Nat) (x : Nat → UInt8) : Prop where
  head : ∃ A cp, w.heap[g]? = some (.cells #[.int .i64 (k : Int), .slice A n cp] 89 (0, 0)) ∧ Bts w (.slice A n cp) (rowL n x)
section
variable {w w1 : World} {g n k a d q : Nat} {x : Nat → UInt8}
theorem CodeAt.no (h : CodeAt w g n k x) (hk : Kp No w w1) : CodeAt w1 g n k x := by
  obtain ⟨A, cp, h1, h2⟩ := h.head
  exact ⟨A, cp, by rw [hk.block g (Array.getElem?_eq_some_iff.1 h1).1 fun f => f]; exact h1, h2.no hk⟩
theorem CodeAt.c0 (h : CodeAt w g n k x) : w.cell? ⟨g, 0, none⟩ = some (.int .i64 (k : Int)) := by
  obtain ⟨A, cp, h1, h2⟩ := h.head
  rw [cell_of_row w g _ _ _ _ h1]
  rfl
theorem CodeAt.c1 (h : CodeAt w g n k x) : ∃ A cp, w.cell? ⟨g, 1, none⟩ = some (.slice A n cp) ∧ Bts w (.slice A n cp) (rowL n x) := by
  obtain ⟨A, cp, h1, h2⟩ := h.head
  refine ⟨A, cp, ?_, h2⟩
  rw [cell_of_row w g _ _ _ _ h1]
  rfl
abbrev cptr (g : Nat) : Value := .pointer (some ⟨g, 0, none⟩)

theorem kk_any (h : CodeAt w g n k x) : Calls Tryz.prog 166 #[cptr g] w fun e w' => e = .returned (.int .i64 (k : Int)) ∧ w = w' := by
  have c := h.c0
  go_enter Tryz.func166, Tryz.ntmps166
  go_wp2_with fail
  go_ret
  exact ⟨rfl, rfl⟩
theorem nn_any (h : CodeAt w g n k x) : Calls Tryz.prog 162 #[cptr g] w fun e w' => e = .returned (.int .i64 (n : Int)) ∧ w = w' := by
  obtain ⟨A, cp, c, _⟩ := h.c1
  go_enter Tryz.func162, Tryz.ntmps162
  go_wp2_with fail
  go_ret
  exact ⟨rfl, rfl⟩
theorem aa_any (h : CodeAt w g n k x) (hD : Dim n k a d q) : Calls Tryz.prog 158 #[cptr g] w fun e w' => e = .returned (.int .i64 (a : Int)) ∧ w = w' := by
  have hk := hD.k_
  have ha := hD.a7
  have h1 : 1 ≤ k := by omega
  have h2 : k ≤ 8 := by omega
  have HK := hide hk
  clear hk hD
  go_enter Tryz.func158, Tryz.ntmps158
  go_wp2_with fail
  refine (kk_any h).mono ?_
  rintro e w' ⟨rfl, rfl⟩
  go_wp2_with fail
  go_ret
  exact ⟨ret_i64 (by have := HK.out; omega), rfl⟩
theorem dd_any (h : CodeAt w g n k x) (hD : Dim n k a d q) : Calls Tryz.prog 165 #[cptr g] w fun e w' => e = .returned (.int .i64 (d : Int)) ∧ w = w' := by
  have HD := hide hD.d_
  have ha := hD.a7
  have hc := aa_any h hD
  clear hD
  go_enter Tryz.func165, Tryz.ntmps165
  go_wp2_with fail
  refine hc.mono ?_
  rintro e w' ⟨rfl, rfl⟩
  go_wp2_with fail
  go_ret
  exact ⟨ret_i64 (by have := HD.out; omega), rfl⟩
theorem has_yes (h : CodeAt w g n k x) (i : Nat) (hi : i < n) : Calls Tryz.prog 163 #[cptr g, .int .i64 (i : Int)] w fun e w' => e = .returned (.bool true) ∧ w = w' := by
  go_enter Tryz.func163, Tryz.ntmps163
  go_wp2_with fail
  refine (nn_any h).mono ?_
  rintro e w' ⟨rfl, rfl⟩
  go_wp2_with fail
  go_ret
  exact ⟨rfl, rfl⟩
set_option maxHeartbeats 1000000 in
theorem rowo_in (h : CodeAt w g n k x) (hD : Dim n k a d q) (i : Nat) (hi : i < n) : Calls Tryz.prog 157 #[cptr g, .int .i64 (i : Int)] w (OwnPost w (rowL d (upw (x i)))) := by
  obtain ⟨A, cp, hc, hb⟩ := h.c1
  obtain ⟨B, off, rfl, hcell⟩ := hb.cell hi
  have hd1 : 1 ≤ d := by have := hD.a1; have := hD.d_; omega
  have hd2 : d ≤ 1000 := by have := hD.a7; have := hD.d_; omega
  go_enter Tryz.func157, Tryz.ntmps157
  go_wp2_with fail
  refine (has_yes h i hi).mono ?_
  rintro e w' ⟨rfl, rfl⟩
  go_wp2_with fail
  have hdd := dd_any (h.no (Sm.drew w).kp) hD
  have hvr := vrow_any (x i) d w.drew hd1 hd2
  go_region_held3 (fun w' => w'.cell? ⟨g, 1, none⟩ = some (.slice (some ⟨B, off, none⟩) n cp) ∧ w'.cell? ⟨B, off + i, none⟩ = some (.int .u8 ((x i).toNat : Int))) (first | assumption | exact ⟨hc, hcell⟩ | go_keep)
    (first | (go_at_call 165; ((with_reducible refine hdd.mono ?_); rintro e w' ⟨rfl, rfl⟩)) | (go_at_call 164; ((with_reducible refine hvr.mono ?_); rintro e w2 ⟨A1, n1, c1, rfl, ho, hk⟩); have s1 := kpt2 hk ⟨hc, hcell⟩))
  go_wp2_with fail
  go_ret
  exact ⟨A1, n1, c1, rfl, ho, (Sm.drew w).kp.trans' hk⟩
/-- A code comes back. -/
def CodePost (w : World) (n k : Nat) (x : Nat → UInt8) (e : Ending) (w1 : World) : Prop :=
  ∃ g, e = .returned (.tuple #[cptr g, .int .i64 0]) ∧ CodeAt w1 g n k x ∧ Kp No w w1
set_option maxHeartbeats 1000000 in
theorem mnew_yes (w : World) (hD : Dim n k a d q) (hP : Pts n a x) : Calls Tryz.prog 8 #[.int .i64 (n : Int), .int .i64 (k : Int)] w (CodePost w n k x) := by
  have hk := hD.k_
  have hd := hD.d_
  have ha1 := hD.a1
  have ha7 := hD.a7
  have hn1 := hD.n1
  have hn2 := hD.n2
  have h2 : 2 ≤ k := by omega
  have h8 : k ≤ 8 := by omega
  have h3 : 2 * (k : Int) - 1 ≤ n := by omega
  have hz : (a : Nat) = ((k : Int) - 1).toNat := by omega
  obtain ⟨N, hN, hN2, hN3⟩ := hP.eq
  have hp := points_yes n ((k : Int) - 1) a N w (by omega) (by omega) (by omega) hz hN hN2
  rw [hN3] at hp
  have HP := hide hp
  clear hk hd hN hN2 hN3 hz hp hD hP
  go_enter Tryz.func8, Tryz.ntmps8
  go_wp2_with fail
  refine HP.out.mono ?_
  rintro e w1 ⟨A, m, c, rfl, ho, hkp⟩
  have hm : m = n := by rw [ho.len, rowL_len]
  subst hm
  go_wp2_with fail
  go_ret2
  refine ⟨w1.heap.size, rfl, ⟨A, c, heap_alloc_new w1 _, ho.bts.no (Kp.alloc No _ _)⟩, hkp.trans' (Kp.alloc No _ _)⟩
end
end Go.Proofs.YtnfcfdhlmeimhaaGreat
