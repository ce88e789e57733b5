/- The document's answers for matrices that only read (Right, Same, At, Dot), and the laws' small and awake, each as a contract over memory. -/
import Derived.Test.YtbkelijmdpoanaaMo
import Derived.Test.YtbkelijmdpoanaaGfr
namespace Go.Proofs.Ytbkelijmdpoanaa
open Go.RowKit
set_option linter.unusedVariables false

section
variable {w : World} {A : Option Addr} {n c cp : Nat} {bss : List (List UInt8)}

/-- Are the rows alike? -/
def eqR (a b : List (List UInt8)) : Bool := decide (a = b)
theorem eqR_diff {a b : List (List UInt8)} {k : Nat} {x y : List UInt8} (ha : a[k]? = some x) (hb : b[k]? = some y) (h : eqB x y = false) : eqR a b = false := by
  unfold eqR
  rw [decide_eq_false_iff_not]
  rintro rfl
  rw [ha] at hb
  injection hb with hb
  subst hb
  simp [eqB] at h
theorem take_snoc {a b : List (List UInt8)} {k : Nat} {x y : List UInt8} (ht : a.take k = b.take k) (ha : a[k]? = some x) (hb : b[k]? = some y) (h : eqB x y = true) : a.take (k + 1) = b.take (k + 1) := by
  have : x = y := by simpa [eqB] using h
  subst this
  rw [List.take_add_one, List.take_add_one, ht, ha, hb]

set_option maxHeartbeats 1000000 in
theorem rsame_any {A' : Option Addr} {n' cp' : Nat} {bss' : List (List UInt8)} (h : Rws w A n bss) (h' : Rws w A' n' bss') (hn : n ≤ 1000000) (hn' : n' ≤ 1000000) :
    Calls Try.prog 35 #[.slice A n cp, .slice A' n' cp'] w fun e w' => e = .returned (.bool (eqR bss bss')) ∧ Sm w w' := by
  have HL := hide h.len
  have HL' := hide h'.len
  go_enter Try.func35, Try.ntmps35
  go_wp2_with fail
  go_loopw [5] (fun i wr => ∃ k : Nat, k ≤ n ∧ k ≤ n' ∧ i = .int .i64 (k : Int) ∧ Hid (bss.take k = bss'.take k) ∧ Sm w wr) (fun i _ => n - (intOf i).toNat)
  case atStart => exact ⟨0, Nat.zero_le _, Nat.zero_le _, rfl, (rfl : bss.take 0 = bss'.take 0), Sm.refl _⟩
  case round =>
    obtain ⟨k, hk, hk', rfl, ht, hs⟩ := hrel
    by_cases hlt : k < n
    · by_cases hlt' : k < n'
      · obtain ⟨B, off, A1, m1, cp1, b1, rfl, hc1, hb1, hbt1⟩ := h.get hlt
        obtain ⟨B2, off2, A2, m2, cp2, b2, rfl, hc2, hb2, hbt2⟩ := h'.get hlt'
        have HB1 := hide hb1
        have HB2 := hide hb2
        clear hb1 hb2
        rw [← hs.cell] at hc1 hc2
        have v1 := conv_bts (hbt1.no hs.kp)
        have v2 := conv_bts (hbt2.no hs.kp)
        have v1' : ∀ q, (convert 29 9 (.slice A1 m1 cp1)).run Try.prog (wr.drewN q) = .ok (.string (strOf b1)) (wr.drewN q) := fun q => conv_bts ((hbt1.no hs.kp).drewN q)
        have v2' : ∀ q, (convert 29 9 (.slice A2 m2 cp2)).run Try.prog (wr.drewN q) = .ok (.string (strOf b2)) (wr.drewN q) := fun q => conv_bts ((hbt2.no hs.kp).drewN q)
        have hq := eqB_str b1 b2
        rcases hx : eqB b1 b2 with _ | _
        · have HX := hide hx
          rw [hx] at hq
          clear hx
          have hq' : ((strOf b1).toList != (strOf b2).toList) = true := by rw [bne, hq]; rfl
          go_wp2_with fail
          go_quiet (fail)
          go_wp2_with fail
          go_ret
          exact ⟨ret_b (eqR_diff HB1.out HB2.out HX.out).symm, hs.trans (Sm.drewN _ _)⟩
        · have HX := hide hx
          rw [hx] at hq
          clear hx
          have hq' : ((strOf b1).toList != (strOf b2).toList) = false := by rw [bne, hq]; rfl
          go_wp2_with fail
          go_quiet (fail)
          go_wp2_with fail
          go_round
          case rel => exact ⟨k + 1, by omega, by omega, by go_num, take_snoc ht.out HB1.out HB2.out HX.out, hs.trans (Sm.drewN _ _)⟩
          case measure => simp [intOf]; omega
      · have hkn : k = n' := by omega
        subst hkn
        have hne : ((n : Int) == (k : Int)) = false := by simp; omega
        go_wp2_with fail
        go_ret
        refine ⟨ret_b ?_, hs⟩
        unfold eqR
        have := HL.out
        have := HL'.out
        symm
        rw [decide_eq_false_iff_not]
        rintro rfl
        omega
    · have hkn : k = n := by omega
      subst hkn
      by_cases he : k = n'
      · subst he
        go_wp2_with fail
        go_ret
        refine ⟨ret_b ?_, hs⟩
        unfold eqR
        have h1 := HL.out
        have h2 := HL'.out
        have h3 := ht.out
        rw [List.take_of_length_le (by omega), List.take_of_length_le (by omega)] at h3
        simp [h3]
      · have hne : ((k : Int) == (n' : Int)) = false := by simp; omega
        go_wp2_with fail
        go_ret
        refine ⟨ret_b ?_, hs⟩
        unfold eqR
        have := HL.out
        have := HL'.out
        symm
        rw [decide_eq_false_iff_not]
        rintro rfl
        omega

end

theorem refmulU_any (a b : UInt8) (w : World) : Calls Try.prog 48 #[.int .u8 (a.toNat : Int), .int .u8 (b.toNat : Int)] w fun e w' => e = .returned (.int .u8 ((um a b).toNat : Int)) ∧ w = w' := by
  rw [um_nat]
  exact refmul_any a.toNat b.toNat w (u8_lt a) (u8_lt b)
theorem refmulU_q (w : World) (n : Nat) (a b : UInt8) : Calls Try.prog 48 #[.int .u8 (a.toNat : Int), .int .u8 (b.toNat : Int)] (w.drewN n) fun e w' => e = .returned (.int .u8 ((um a b).toNat : Int)) ∧ ∃ k, w' = w.drewN k :=
  (refmulU_any a b _).mono fun _ _ ⟨he, hw⟩ => ⟨he, n, hw.symm⟩
theorem xorU (a b : UInt8) : bits .xor .u8 (a.toNat : Int) (b.toNat : Int) = ((ux a b).toNat : Int) := by
  rw [ux_toNat]
  exact u8_xor_nat a.toNat b.toNat (u8_lt a) (u8_lt b)

section
variable {w : World} {A : Option Addr} {n c cp : Nat} {bss : List (List UInt8)}
/-- A matrix of few elements. -/
structure Sml (bss : List (List UInt8)) (r c : Nat) : Prop where
  rect : Rect bss r c
  r9 : r ≤ 9
  c9 : c ≤ 9
end

theorem bts_two (w : World) (x y : UInt8) : Bts (w.alloc (.cells #[bv x, bv y] 5)) (.slice (some ⟨w.heap.size, 0, none⟩) 2 2) [x, y] := by
  refine ⟨_, 2, rfl, (fun h => by cases h), fun ad ha j u hu => ?_⟩
  injection ha with ha
  subst ha
  match j, hu with
  | 0, hu =>
    simp at hu
    subst hu
    simp [Addr.add]
  | 1, hu =>
    simp at hu
    subst hu
    simp [Addr.add]
  | j + 2, hu => simp at hu

end Go.Proofs.Ytbkelijmdpoanaa
