/- The document's Right and Rows, and law06's small and awake, each as a contract over memory. -/
import Derived.Test.YtbkelijmdpoanaaCo
import Derived.Test.YtbkelijmdpoanaaMw
namespace Go.Proofs.Ytbkelijmdpoanaa
open Go.RowKit
set_option linter.unusedVariables false
set_option maxRecDepth 20000

/-- There is such a code. -/
def Rgt (n k : Int) : Prop := 2 ≤ k ∧ k ≤ 8 ∧ 2 * k ≤ n + 1 ∧ n ≤ 24
theorem rright_yes (n k : Int) (w : World) (h : Rgt n k) : Calls Try.prog 16 #[.int .i64 n, .int .i64 k] w fun e w' => e = .returned (.bool true) ∧ w = w' := by
  obtain ⟨h1, h2, h3, h4⟩ := h
  have h5 : 2 * k - 1 ≤ n := by omega
  clear h3
  go_enter Try.func16, Try.ntmps16
  go_wp2_with fail
  go_ret
  exact ⟨rfl, rfl⟩
theorem rright_no (n k : Int) (w : World) (h : ¬ Rgt n k) : Calls Try.prog 16 #[.int .i64 n, .int .i64 k] w fun e w' => e = .returned (.bool false) ∧ w = w' := by
  unfold Rgt at h
  by_cases h3 : k < 2
  · clear h
    go_enter Try.func16, Try.ntmps16
    go_wp2_with fail
    go_ret
    exact ⟨rfl, rfl⟩
  have h3 : 2 ≤ k := by omega
  by_cases h4 : 8 < k
  · clear h
    go_enter Try.func16, Try.ntmps16
    go_wp2_with fail
    go_ret
    exact ⟨rfl, rfl⟩
  have h4 : k ≤ 8 := by omega
  by_cases h5 : n < 2 * k - 1
  · clear h
    go_enter Try.func16, Try.ntmps16
    go_wp2_with fail
    go_ret
    exact ⟨rfl, rfl⟩
  have h5 : 2 * k - 1 ≤ n := by omega
  have h6 : 24 < n := by omega
  clear h
  go_enter Try.func16, Try.ntmps16
  go_wp2_with fail
  go_ret
  exact ⟨ret_b (decide_eq_false (by omega)), rfl⟩
theorem small6_yes (n k : Int) (w : World) (h : Rgt n k) (h1 : n ≤ 12) (h2 : k ≤ 4) : Calls Try.prog 19 #[.int .i64 n, .int .i64 k] w fun e w' => e = .returned (.bool true) ∧ w = w' := by
  have hr := rright_yes n k w h
  clear h
  go_enter Try.func19, Try.ntmps19
  go_wp2_with fail
  refine hr.mono ?_
  rintro e w' ⟨rfl, rfl⟩
  go_wp2_with fail
  go_ret
  exact ⟨rfl, rfl⟩
theorem small6_no (n k : Int) (w : World) (h : ¬ (Rgt n k ∧ n ≤ 12 ∧ k ≤ 4)) : Calls Try.prog 19 #[.int .i64 n, .int .i64 k] w fun e w' => e = .returned (.bool false) ∧ w = w' := by
  by_cases hr : Rgt n k
  · have hr1 := rright_yes n k w hr
    by_cases h1 : n ≤ 12
    · have h2 : 4 < k := by
        rcases Int.lt_or_le 4 k with g | g
        · exact g
        · exact absurd ⟨hr, h1, g⟩ h
      clear hr h
      go_enter Try.func19, Try.ntmps19
      go_wp2_with fail
      refine hr1.mono ?_
      rintro e w' ⟨rfl, rfl⟩
      go_wp2_with fail
      go_ret
      exact ⟨ret_b (decide_eq_false (by omega)), rfl⟩
    · have h1 : 12 < n := by omega
      clear hr h
      go_enter Try.func19, Try.ntmps19
      go_wp2_with fail
      refine hr1.mono ?_
      rintro e w' ⟨rfl, rfl⟩
      go_wp2_with fail
      go_ret
      exact ⟨rfl, rfl⟩
  · have hr1 := rright_no n k w hr
    clear hr h
    go_enter Try.func19, Try.ntmps19
    go_wp2_with fail
    refine hr1.mono ?_
    rintro e w' ⟨rfl, rfl⟩
    go_wp2_with fail
    go_ret
    exact ⟨rfl, rfl⟩
/-- The chapter's example holds. -/
theorem awake6_any (w : World) : Calls Try.prog 17 #[] w fun e w' => e = .returned (.bool true) ∧ Kp No w w' := by
  obtain ⟨x, hP⟩ := pts_ex (n := 3) (a := 1) (by omega) (by omega) (by omega)
  have hD : Dim 3 2 1 2 2 := ⟨rfl, rfl, rfl, by omega, by omega, by omega, by omega⟩
  have HN := hide (mnew_yes w hD hP)
  have HD := hide hD
  clear hD hP
  go_enter Try.func17, Try.ntmps17
  go_wp2_with fail
  refine HN.out.mono ?_
  rintro e w1 ⟨g, rfl, hC, hk⟩
  go_wp2_with fail
  refine (qq_any hC HD.out).mono ?_
  rintro e w' ⟨rfl, rfl⟩
  go_wp2_with fail
  refine (dd_any hC HD.out).mono ?_
  rintro e w' ⟨rfl, rfl⟩
  go_wp2_with fail
  refine (aa_any hC HD.out).mono ?_
  rintro e w' ⟨rfl, rfl⟩
  go_wp2_with fail
  go_ret
  exact ⟨rfl, hk⟩

set_option maxHeartbeats 1000000 in
theorem rrows_any (w : World) {n k a d q : Nat} {x : Nat → UInt8} (hD : Dim n k a d q) (hP : Pts n a x) : Calls Try.prog 18 #[.int .i64 (n : Int), .int .i64 (k : Int)] w (RowsPost w n (matL n d (vF x))) := by
  have hk := hD.k_
  have hd := hD.d_
  have ha1 := hD.a1
  have ha7 := hD.a7
  have hn1 := hD.n1
  have hn2 := hD.n2
  have h8 : k ≤ 8 := by omega
  have h1 : 1 ≤ k := by omega
  have hz : (a : Nat) = ((k : Int) - 1).toNat := by omega
  have h2k : 2 * (k : Int) - 2 = (d : Int) := by omega
  have hd1000 : d ≤ 1000 := by omega
  obtain ⟨N, hN, hN2, hN3⟩ := hP.eq
  have hp := rpoints_yes n ((k : Int) - 1) a N w (by omega) (by omega) (by omega) (by omega) hz hN hN2
  rw [hN3] at hp
  have HP := hide hp
  have H2 := hide h2k
  clear hk hd hN hN2 hN3 hz hp hD hP h2k
  go_enter Try.func18, Try.ntmps18
  go_wp2_with fail
  refine HP.out.mono ?_
  rintro e w1 ⟨A0, m, c0, rfl, ho, hkp⟩
  have hm : m = n := by rw [ho.len, rowL_len]
  subst hm
  have hbt := ho.bts
  clear ho
  go_wp2_with fail
  go_loopw [6, 7] (fun v i wr => ∃ (j : Nat) (A : Option Addr) (r cp : Nat) (vs : List Value), j ≤ m ∧ i = .int .i64 (j : Int) ∧ v = .slice A r cp ∧ RInv w1 (fun i => rowL d (vF x i)) j (.slice A r cp) vs wr) (fun _ i _ => m - (intOf i).toNat)
  case atStart => exact ⟨0, none, 0, 0, [], Nat.zero_le _, rfl, rfl, OwnV.nil _ _, rfl, (fun j u hj => by simp at hj), Kp.refl _ _⟩
  case round =>
    obtain ⟨j, A, r, cp, vs, hj, rfl, rfl, hI⟩ := hrel
    by_cases hlt : j < m
    · obtain ⟨B, off, rfl, c1⟩ := (hbt.no hI.kp).cell hlt
      have h2k := H2.out
      go_wp2_with fail
      clear h2k
      refine (rrow_any (x j) d _ hd1000).mono ?_
      rintro e w2 ⟨A1, n1, cc1, rfl, ho1, hk1⟩
      have hkw := hI.kp.size
      have hk1s := hk1.size
      have hlen : vs.length ≤ 1000000 := by rw [hI.len]; omega
      have ho2 : OwnV (w2.alloc (.cells #[.slice A1 n1 cc1] 29)) w1.heap.size (.slice A r cp) vs := (hI.own.no hk1).no (Kp.alloc No _ _)
      go_wp2_with (first
        | (at_builtin
           refine wpList_appV rfl (.tmp 18) (.tmp 27) _ rfl Try.underlying26 rfl ho2 _ rfl (fresh_cell _ _ _) rfl rfl hlen ?hs ?_
           case hs => simp; omega
           intro A3 n3 c3 w3 ha))
      go_round
      case rel => exact ⟨j + 1, A3, n3, c3, _, by omega, by go_num, rfl, hI.step hk1 ho1 hkw ha⟩
      case measure => simp [intOf]; omega
    · have hjm : j = m := by omega
      subst hjm
      have hn : r = j := by rw [hI.own.len, hI.len]
      subst hn
      go_wp2_with fail
      go_ret
      exact ⟨A, cp, rfl, hI.rws (matL_len _ _ _) fun i hi => matL_get _ hi, hkp.trans' hI.kp⟩
end Go.Proofs.Ytbkelijmdpoanaa
