/- The document's answers for matrices that only read (Right, Same, At, Dot), and the laws' small and awake, each as a contract over memory. -/
import Derived.Test.YtcjenpkbfahiaaaMo
import Derived.Test.YtcjenpkbfahiaaaGfr
namespace Go.Proofs.Ytcjenpkbfahiaaa
open Go.RowKit
set_option linter.unusedVariables false

section
variable {w : World} {A : Option Addr} {n c cp : Nat} {bss : List (List UInt8)}

set_option maxHeartbeats 1000000 in
theorem right_yes (h : Rws w A n bss) (hR : Rect bss n c) : Calls Try.prog 23 #[.slice A n cp] w fun e w' => e = .returned (.bool true) ∧ Sm w w' := by
  obtain ⟨hlen, hrow, r1, r2, c1, c2⟩ := hR
  obtain ⟨B, off, A0, m0, cp0, b0, rfl, hc0, hb0, hbt0⟩ := h.get (j := 0) (by omega)
  rw [Nat.add_zero] at hc0
  have hm0 : c = m0 := by rw [hbt0.len]; exact (hrow 0 b0 hb0).symm
  subst hm0
  have HR := hide hrow
  clear hb0 hrow hlen
  go_enter Try.func23, Try.ntmps23
  go_wp2_with fail
  go_loopw [3] (fun i wr => ∃ k : Nat, k ≤ n ∧ i = .int .i64 (k : Int) ∧ Sm w wr) (fun i _ => n - (intOf i).toNat)
  case atStart => exact ⟨0, Nat.zero_le _, rfl, Sm.refl _⟩
  case round =>
    obtain ⟨k, hk, rfl, hs⟩ := hrel
    by_cases hlt : k < n
    · obtain ⟨B', off', A1, m1, cp1, b1, hA, hcr, hb1, hbt1⟩ := h.get hlt
      injection hA with hA
      injection hA with hA1 hA2
      subst hA1 hA2
      have hm1 : c = m1 := by rw [hbt1.len]; exact (HR.out k b1 hb1).symm
      subst hm1
      clear hb1
      have c1 : wr.cell? ⟨B, off + k, none⟩ = some (.slice A1 c cp1) := by rw [hs.cell]; exact hcr
      have c0 : wr.cell? ⟨B, off, none⟩ = some (.slice A0 c cp0) := by rw [hs.cell]; exact hc0
      go_wp2_with fail
      go_quiet (fail)
      go_wp2_with fail
      go_round
      case rel => exact ⟨k + 1, by omega, by go_num, hs.trans (Sm.drewN _ _)⟩
      case measure => simp [intOf]; omega
    · have hkn : k = n := by omega
      subst hkn
      go_wp2_with fail
      go_ret
      exact ⟨rfl, hs⟩

set_option maxHeartbeats 1000000 in
theorem right_bad (h : Rws w A n bss) (r1 : 1 ≤ n) (r2 : n ≤ 64) (c1 : 1 ≤ c) (c2 : c ≤ 64) (h0 : ∀ bs, bss[0]? = some bs → bs.length = c) (q : Nat) (bq : List UInt8) (hbq : bss[q]? = some bq) (hq : bq.length ≠ c) :
    Calls Try.prog 23 #[.slice A n cp] w fun e w' => e = .returned (.bool false) ∧ Sm w w' := by
  have hqn : q < n := by rw [h.len]; exact (List.getElem?_eq_some_iff.1 hbq).1
  obtain ⟨B, off, A0, m0, cp0, b0, rfl, hc0, hb0, hbt0⟩ := h.get (j := 0) (by omega)
  rw [Nat.add_zero] at hc0
  have hm0 : c = m0 := by rw [hbt0.len]; exact (h0 b0 hb0).symm
  subst hm0
  have HQ := hide hbq
  have HQ2 := hide hq
  clear hb0 h0 hbq hq
  go_enter Try.func23, Try.ntmps23
  go_wp2_with fail
  go_loopw [3] (fun i wr => ∃ k : Nat, k ≤ q ∧ i = .int .i64 (k : Int) ∧ Sm w wr) (fun i _ => n - (intOf i).toNat)
  case atStart => exact ⟨0, Nat.zero_le _, rfl, Sm.refl _⟩
  case round =>
    obtain ⟨k, hk, rfl, hs⟩ := hrel
    have hlt : k < n := by omega
    obtain ⟨B', off', A1, m1, cp1, b1, hA, hcr, hb1, hbt1⟩ := h.get hlt
    injection hA with hA
    injection hA with hA1 hA2
    subst hA1 hA2
    have hl1 := hbt1.len
    have c0 : wr.cell? ⟨B, off, none⟩ = some (.slice A0 c cp0) := by rw [hs.cell]; exact hc0
    by_cases hc : b1.length = c
    · have hm1 : c = m1 := by omega
      subst hm1
      have hkq : k < q := by
        rcases Nat.lt_or_ge k q with g | g
        · exact g
        · obtain rfl : k = q := by omega
          have := HQ.out
          rw [hb1] at this
          injection this with this
          subst this
          exact absurd hc HQ2.out
      clear hb1 hc hl1
      have c1 : wr.cell? ⟨B, off + k, none⟩ = some (.slice A1 c cp1) := by rw [hs.cell]; exact hcr
      go_wp2_with fail
      go_quiet (fail)
      go_wp2_with fail
      go_round
      case rel => exact ⟨k + 1, by omega, by go_num, hs.trans (Sm.drewN _ _)⟩
      case measure => simp [intOf]; omega
    · have hne : ((m1 : Int) != (c : Int)) = true := by simp; omega
      clear hb1 hc hl1
      have c1 : wr.cell? ⟨B, off + k, none⟩ = some (.slice A1 m1 cp1) := by rw [hs.cell]; exact hcr
      go_wp2_with fail
      go_quiet (fail)
      go_wp2_with fail
      go_ret
      exact ⟨rfl, hs.trans (Sm.drewN _ _)⟩

theorem right_size (h : Rws w A n bss) (h0 : ∀ bs, bss[0]? = some bs → bs.length = c) (hbad : ¬ (1 ≤ n ∧ n ≤ 64 ∧ 1 ≤ c ∧ c ≤ 64)) :
    Calls Try.prog 23 #[.slice A n cp] w fun e w' => e = .returned (.bool false) ∧ Sm w w' := by
  by_cases h1 : n < 1
  · clear hbad
    go_enter Try.func23, Try.ntmps23
    go_wp2_with fail
    go_ret
    exact ⟨rfl, Sm.refl _⟩
  · by_cases h2 : 64 < n
    · clear hbad
      go_enter Try.func23, Try.ntmps23
      go_wp2_with fail
      go_ret
      exact ⟨rfl, Sm.refl _⟩
    · obtain ⟨B, off, A0, m0, cp0, b0, rfl, hc0, hb0, hbt0⟩ := h.get (j := 0) (by omega)
      rw [Nat.add_zero] at hc0
      have hm0 : c = m0 := by rw [hbt0.len]; exact (h0 b0 hb0).symm
      subst hm0
      clear hb0 h0
      have h3 : c < 1 ∨ (¬ c < 1 ∧ 64 < c) := by omega
      clear hbad
      rcases h3 with h3 | ⟨h3, h4⟩
      · go_enter Try.func23, Try.ntmps23
        go_wp2_with fail
        go_ret
        exact ⟨rfl, Sm.refl _⟩
      · go_enter Try.func23, Try.ntmps23
        go_wp2_with fail
        go_ret
        exact ⟨rfl, Sm.refl _⟩
theorem right_no (h : Rws w A n bss) (hR : ¬ Rect bss n (len0 bss)) : Calls Try.prog 23 #[.slice A n cp] w fun e w' => e = .returned (.bool false) ∧ Sm w w' := by
  have h0 : ∀ bs, bss[0]? = some bs → bs.length = len0 bss := fun bs hb => by simp [len0, hb]
  by_cases hs : 1 ≤ n ∧ n ≤ 64 ∧ 1 ≤ len0 bss ∧ len0 bss ≤ 64
  · by_cases hall : ∀ (j : Nat) bs, bss[j]? = some bs → bs.length = len0 bss
    · exact absurd ⟨h.len.symm, hall, hs.1, hs.2.1, hs.2.2.1, hs.2.2.2⟩ hR
    · simp only [Classical.not_forall] at hall
      obtain ⟨j, bs, hj, hne⟩ := hall
      exact right_bad h hs.1 hs.2.1 hs.2.2.1 hs.2.2.2 h0 j bs hj hne
  · exact right_size h h0 hs

/-- Are the rows alike? -/
def eqR (a b : List (List UInt8)) : Bool := decide (a = b)
theorem eqR_diff {a b : List (List UInt8)} {k : Nat} {x y : List UInt8} (ha : a[k]? = some x) (hb : b[k]? = some y) (h : eqB x y = false) : eqR a b = false := by
  unfold eqR
  rw [decide_eq_false_iff_not]
  rintro rfl
  rw [ha] at hb
  injection hb with hb
  subst hb
  simp [eqB] at h
theorem take_snoc {a b : List (List UInt8)} {k : Nat} {x y : List UInt8} (ht : a.take k = b.take k) (ha : a[k]? = some x) (hb : b[k]? = some y) (h : eqB x y = true) : a.take (k + 1) = b.take (k + 1) := by
  have : x = y := by simpa [eqB] using h
  subst this
  rw [List.take_add_one, List.take_add_one, ht, ha, hb]

set_option maxHeartbeats 1000000 in
theorem rsame_any {A' : Option Addr} {n' cp' : Nat} {bss' : List (List UInt8)} (h : Rws w A n bss) (h' : Rws w A' n' bss') (hn : n ≤ 1000000) (hn' : n' ≤ 1000000) :
    Calls Try.prog 10 #[.slice A n cp, .slice A' n' cp'] w fun e w' => e = .returned (.bool (eqR bss bss')) ∧ Sm w w' := by
  have HL := hide h.len
  have HL' := hide h'.len
  go_enter Try.func10, Try.ntmps10
  go_wp2_with fail
  go_loopw [5] (fun i wr => ∃ k : Nat, k ≤ n ∧ k ≤ n' ∧ i = .int .i64 (k : Int) ∧ Hid (bss.take k = bss'.take k) ∧ Sm w wr) (fun i _ => n - (intOf i).toNat)
  case atStart => exact ⟨0, Nat.zero_le _, Nat.zero_le _, rfl, (rfl : bss.take 0 = bss'.take 0), Sm.refl _⟩
  case round =>
    obtain ⟨k, hk, hk', rfl, ht, hs⟩ := hrel
    by_cases hlt : k < n
    · by_cases hlt' : k < n'
      · obtain ⟨B, off, A1, m1, cp1, b1, rfl, hc1, hb1, hbt1⟩ := h.get hlt
        obtain ⟨B2, off2, A2, m2, cp2, b2, rfl, hc2, hb2, hbt2⟩ := h'.get hlt'
        have HB1 := hide hb1
        have HB2 := hide hb2
        clear hb1 hb2
        rw [← hs.cell] at hc1 hc2
        have v1 := conv_bts (hbt1.no hs.kp)
        have v2 := conv_bts (hbt2.no hs.kp)
        have v1' : ∀ q, (convert 36 9 (.slice A1 m1 cp1)).run Try.prog (wr.drewN q) = .ok (.string (strOf b1)) (wr.drewN q) := fun q => conv_bts ((hbt1.no hs.kp).drewN q)
        have v2' : ∀ q, (convert 36 9 (.slice A2 m2 cp2)).run Try.prog (wr.drewN q) = .ok (.string (strOf b2)) (wr.drewN q) := fun q => conv_bts ((hbt2.no hs.kp).drewN q)
        have hq := eqB_str b1 b2
        rcases hx : eqB b1 b2 with _ | _
        · have HX := hide hx
          rw [hx] at hq
          clear hx
          have hq' : ((strOf b1).toList != (strOf b2).toList) = true := by rw [bne, hq]; rfl
          go_wp2_with fail
          go_quiet (fail)
          go_wp2_with fail
          go_ret
          exact ⟨ret_b (eqR_diff HB1.out HB2.out HX.out).symm, hs.trans (Sm.drewN _ _)⟩
        · have HX := hide hx
          rw [hx] at hq
          clear hx
          have hq' : ((strOf b1).toList != (strOf b2).toList) = false := by rw [bne, hq]; rfl
          go_wp2_with fail
          go_quiet (fail)
          go_wp2_with fail
          go_round
          case rel => exact ⟨k + 1, by omega, by omega, by go_num, take_snoc ht.out HB1.out HB2.out HX.out, hs.trans (Sm.drewN _ _)⟩
          case measure => simp [intOf]; omega
      · have hkn : k = n' := by omega
        subst hkn
        have hne : ((n : Int) == (k : Int)) = false := by simp; omega
        go_wp2_with fail
        go_ret
        refine ⟨ret_b ?_, hs⟩
        unfold eqR
        have := HL.out
        have := HL'.out
        symm
        rw [decide_eq_false_iff_not]
        rintro rfl
        omega
    · have hkn : k = n := by omega
      subst hkn
      by_cases he : k = n'
      · subst he
        go_wp2_with fail
        go_ret
        refine ⟨ret_b ?_, hs⟩
        unfold eqR
        have h1 := HL.out
        have h2 := HL'.out
        have h3 := ht.out
        rw [List.take_of_length_le (by omega), List.take_of_length_le (by omega)] at h3
        simp [h3]
      · have hne : ((k : Int) == (n' : Int)) = false := by simp; omega
        go_wp2_with fail
        go_ret
        refine ⟨ret_b ?_, hs⟩
        unfold eqR
        have := HL.out
        have := HL'.out
        symm
        rw [decide_eq_false_iff_not]
        rintro rfl
        omega

end

theorem refmulU_any (a b : UInt8) (w : World) : Calls Try.prog 36 #[.int .u8 (a.toNat : Int), .int .u8 (b.toNat : Int)] w fun e w' => e = .returned (.int .u8 ((um a b).toNat : Int)) ∧ w = w' := by
  rw [um_nat]
  exact refmul_any a.toNat b.toNat w (u8_lt a) (u8_lt b)
theorem refmulU_q (w : World) (n : Nat) (a b : UInt8) : Calls Try.prog 36 #[.int .u8 (a.toNat : Int), .int .u8 (b.toNat : Int)] (w.drewN n) fun e w' => e = .returned (.int .u8 ((um a b).toNat : Int)) ∧ ∃ k, w' = w.drewN k :=
  (refmulU_any a b _).mono fun _ _ ⟨he, hw⟩ => ⟨he, n, hw.symm⟩
theorem xorU (a b : UInt8) : bits .xor .u8 (a.toNat : Int) (b.toNat : Int) = ((ux a b).toNat : Int) := by
  rw [ux_toNat]
  exact u8_xor_nat a.toNat b.toNat (u8_lt a) (u8_lt b)

section
variable {w : World} {A : Option Addr} {n c cp : Nat} {bss : List (List UInt8)}
/-- A matrix of few elements. -/
structure Sml (bss : List (List UInt8)) (r c : Nat) : Prop where
  rect : Rect bss r c
  r9 : r ≤ 9
  c9 : c ≤ 9
end

theorem bts_two (w : World) (x y : UInt8) : Bts (w.alloc (.cells #[bv x, bv y] 5)) (.slice (some ⟨w.heap.size, 0, none⟩) 2 2) [x, y] := by
  refine ⟨_, 2, rfl, (fun h => by cases h), fun ad ha j u hu => ?_⟩
  injection ha with ha
  subst ha
  match j, hu with
  | 0, hu =>
    simp at hu
    subst hu
    simp [Addr.add]
  | 1, hu =>
    simp at hu
    subst hu
    simp [Addr.add]
  | j + 2, hu => simp at hu

end Go.Proofs.Ytcjenpkbfahiaaa
