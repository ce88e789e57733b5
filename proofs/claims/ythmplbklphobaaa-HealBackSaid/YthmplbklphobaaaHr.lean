/- Law 7's small and awake, and the document's Fragment, each as a contract over memory. -/
import Derived.Test.YthmplbklphobaaaHa
import Derived.Test.YthmplbklphobaaaMsa
namespace Go.Proofs.Ythmplbklphobaaa
open Go.RowKit
set_option linter.unusedVariables false
set_option linter.unusedSimpArgs false
set_option maxRecDepth 100000

/-- A law's end. -/
def R7 (w : World) (e : Ending) (w1 : World) : Prop := e = .returned (.bool true) ∧ Below w.heap.size w w1
theorem small7_yes (n k : Int) (w : World) (h : Rgt n k) (h1 : n ≤ 12) (h2 : k ≤ 4) : Calls Try.prog 7 #[.int .i64 n, .int .i64 k] w fun e w' => e = .returned (.bool true) ∧ w = w' := by
  have hr := rright_yes n k w h
  clear h
  go_enter Try.func7, Try.ntmps7
  go_wp2_with fail
  refine hr.mono ?_
  rintro e w' ⟨rfl, rfl⟩
  go_wp2_with fail
  go_ret
  exact ⟨rfl, rfl⟩
theorem small7_no (n k : Int) (w : World) (h : ¬ (Rgt n k ∧ n ≤ 12 ∧ k ≤ 4)) : Calls Try.prog 7 #[.int .i64 n, .int .i64 k] w fun e w' => e = .returned (.bool false) ∧ w = w' := by
  by_cases hr : Rgt n k
  · have hr1 := rright_yes n k w hr
    by_cases h1 : n ≤ 12
    · have h2 : 4 < k := by
        rcases Int.lt_or_le 4 k with g | g
        · exact g
        · exact absurd ⟨hr, h1, g⟩ h
      clear hr h
      go_enter Try.func7, Try.ntmps7
      go_wp2_with fail
      refine hr1.mono ?_
      rintro e w' ⟨rfl, rfl⟩
      go_wp2_with fail
      go_ret
      exact ⟨ret_b (decide_eq_false (by omega)), rfl⟩
    · have h1 : 12 < n := by omega
      clear hr h
      go_enter Try.func7, Try.ntmps7
      go_wp2_with fail
      refine hr1.mono ?_
      rintro e w' ⟨rfl, rfl⟩
      go_wp2_with fail
      go_ret
      exact ⟨rfl, rfl⟩
  · have hr1 := rright_no n k w hr
    clear hr h
    go_enter Try.func7, Try.ntmps7
    go_wp2_with fail
    refine hr1.mono ?_
    rintro e w' ⟨rfl, rfl⟩
    go_wp2_with fail
    go_ret
    exact ⟨rfl, rfl⟩
/-- The chapter's example holds. -/
theorem awake7_any (w : World) : Calls Try.prog 8 #[] w fun e w' => e = .returned (.bool true) ∧ Kp No w w' := by
  obtain ⟨x, hP⟩ := pts_ex (n := 5) (a := 2) (by omega) (by omega) (by omega)
  have hD : Dim 5 3 2 4 6 := ⟨rfl, rfl, rfl, by omega, by omega, by omega, by omega⟩
  have HN := hide (mnew_yes w hD hP)
  have HC : Hid (∀ w1 g, CodeAt w1 g 5 3 x → Calls Try.prog 11 #[cptr g, .int .i64 4] w1 fun e w' => e = .returned (.tuple #[.int .i64 8, .int .i64 12]) ∧ Sm w1 w') := fun w1 g hC => cost_yes (m := 4) (L := 2) (p1 := 8) (p2 := 12) hC hD rfl (by omega) (by omega) rfl rfl
  clear hD hP
  go_enter Try.func8, Try.ntmps8
  go_wp2_with fail
  refine HN.out.mono ?_
  rintro e w1 ⟨g, rfl, hC, hk⟩
  go_wp2_with fail
  refine (HC.out _ _ hC).mono ?_
  rintro e w2 ⟨rfl, hs⟩
  go_wp2_with fail
  go_ret
  exact ⟨rfl, hk.trans' hs.kp⟩

set_option maxHeartbeats 4000000 in
theorem rfrag_any {w : World} {n k a d q L m cp i : Nat} {x : Nat → UInt8} {A : Option Addr} {bs : List UInt8} (hD : Dim n k a d q) (hX : Pts n a x) (hi : i < n) (hb : Bts w (.slice A m cp) bs) (hm : m = a * L) (hL1 : 1 ≤ L) (hmb : m ≤ 1000) :
    Calls Try.prog 12 #[.int .i64 (n : Int), .int .i64 (k : Int), .int .i64 (i : Int), .slice A m cp] w (OwnPost w (rowL L (frE a L bs (x i)))) := by
  obtain ⟨i0, hi0, hz0, hz1, hz2⟩ := byte_parts
  have ha1 := hD.a1
  have ha7 := hD.a7
  have hk1 : 1 ≤ k := by have := hD.k_; omega
  have hk8 : k ≤ 8 := by have := hD.k_; omega
  have hn24 := hD.n2
  have hLm : L ≤ m := by rw [hm]; have := Nat.mul_le_mul_right L ha1; omega
  have had : Hid (a ≤ d) := by show a ≤ d; have := hD.d_; omega
  have HKA : Hid ((k : Int) - 1 = (a : Int)) := by show (k : Int) - 1 = (a : Int); have := hD.k_; omega
  have HDV : Hid ((m : Int) / (a : Int) = (L : Int)) := by show (m : Int) / (a : Int) = (L : Int); rw [hm, Int.natCast_mul, Int.mul_ediv_cancel_left _ (by omega)]
  have hrows := rrows_any w hD hX
  have HM := hide hm
  clear hm hD hX
  go_enter Try.func12, Try.ntmps12
  go_wp2_with fail
  refine hrows.mono ?_
  rintro e w1 ⟨A1, c1, rfl, hR1, hk⟩
  obtain ⟨B1, o1, A2, r2, c2, b2, rfl, y1, hb2, hbt⟩ := hR1.get hi
  rw [matL_get _ hi] at hb2
  injection hb2 with hb2
  subst hb2
  have hb1 := hb.no hk
  have hka := HKA.out
  have hdv := HDV.out
  clear hrows hR1
  go_wp2_with fail
  clear hdv y1
  go_loopw [11, 12] (fun v jv wr => ∃ (t : Nat) (A' : Option Addr) (r cc : Nat), t ≤ L ∧ jv = .int .i64 (t : Int) ∧ v = .slice A' r cc ∧ Own wr w1.heap.size 5 (.slice A' r cc) (rowL t (frE a L bs (x i))) ∧ Kp No w1 wr) (fun _ jv _ => L - (intOf jv).toNat)
  case atStart => exact ⟨0, none, 0, 0, Nat.zero_le _, rfl, rfl, Own.nil _ _ _, Kp.refl _ _⟩
  case round =>
    obtain ⟨t, A', r, cc, ht, rfl, rfl, ho, hkw⟩ := hrel
    by_cases hlt : t < L
    · go_wp2_with fail
      go_loopw [13, 14] (fun s jv wr => ∃ u : Nat, u ≤ a ∧ jv = .int .i64 (u : Int) ∧ s = .int .u8 ((ud (upw (x i)) (fun j => lg bs (j * L + t)) u).toNat : Int) ∧ Own wr w1.heap.size 5 (.slice A' r cc) (rowL t (frE a L bs (x i))) ∧ Kp No w1 wr) (fun _ jv _ => a - (intOf jv).toNat)
      case atStart => exact ⟨0, Nat.zero_le _, rfl, rfl, ho, hkw⟩
      case round =>
        clear ho hkw
        obtain ⟨u, hu, rfl, rfl, ho, hkw⟩ := hrel
        by_cases hltu : u < a
        · have hr2 : u < r2 := by rw [hbt.len, rowL_len]; have := had.out; omega
          obtain ⟨B3, o3, b3, rfl, hb3, e3⟩ := (hbt.no hkw).at_ hr2
          obtain rfl : b3 = upw (x i) u := by
            rw [rowL_get _ (by have := had.out; omega)] at hb3
            injection hb3 with hb3
            exact hb3.symm
          obtain ⟨yy, hyy⟩ : ∃ yy, yy = u * L := ⟨_, rfl⟩
          obtain ⟨o, hoo⟩ : ∃ o, o = yy + t := ⟨_, rfl⟩
          have hlo : o < m := by rw [hoo, hyy, HM.out]; exact idx_lt hltu hlt
          obtain ⟨B2, o2, b, rfl, hb', e4⟩ := (hb1.no hkw).at_ hlo
          have hstep : Hid (ud (upw (x i)) (fun j => lg bs (j * L + t)) (u + 1) = ux (ud (upw (x i)) (fun j => lg bs (j * L + t)) u) (um (upw (x i) u) b)) := by
            show ud (upw (x i)) (fun j => lg bs (j * L + t)) (u + 1) = _
            rw [ud_succ, ← hyy, ← hoo, lg_of hb']
            rfl
          have hw1 : IntKind.i64.wrap ((u : Int) * (L : Int)) = (yy : Int) := by
            rw [hyy, ← Int.natCast_mul]
            exact IntWalk.i64_in _ (by omega)
          have hw2 : IntKind.i64.wrap ((yy : Int) + (t : Int)) = (o : Int) := by
            rw [hoo, Int.natCast_add]
            exact IntWalk.i64_in _ (by omega)
          have hlz : (0 : Int) ≤ (o : Int) := by omega
          have hlo' : (o : Int) < (m : Int) := by omega
          have hr2' : (u : Int) < (r2 : Int) := by omega
          clear hyy hoo hb' hb3
          generalize ud (upw (x i)) (fun j => lg bs (j * L + t)) u = s at *
          have hxor := xorU s (um (upw (x i) u) b)
          go_wp2_with fail
          go_quiet ((go_at_call 31; exact refmulU_q _ _ (upw (x i) u) b))
          go_wp2_with fail
          go_round
          case rel => exact ⟨u + 1, by omega, by go_num, by rw [hstep.out], ho.drewN _, hkw.drewN _⟩
          case measure => simp [intOf]; omega
        · obtain rfl : u = a := by omega
          have hval : Hid (ud (upw (x i)) (fun j => lg bs (j * L + t)) u = frE u L bs (x i) t) := rfl
          rw [hval.out]
          have hsz := hkw.size
          have hbn := bts_new wr (frE u L bs (x i) t) _ rfl
          have ho2 := ho.alloc (.cells #[bv (frE u L bs (x i) t)] 5)
          have hl : (rowL t (frE u L bs (x i))).length + [frE u L bs (x i) t].length ≤ 1000000000 := by rw [rowL_len]; simp; omega
          go_wp2_with (first
            | (at_builtin
               refine wpList_app rfl (.tmp 52) (.tmp 54) _ rfl i0 Try.underlying22 hi0 hz0 hz1 hz2 rfl ho2 rfl hbn hl (by simp; omega) ?_
               intro A3 n3 c3 w3 ha))
          go_round
          case rel => exact ⟨t + 1, A3, n3, c3, by omega, by go_num, rfl, by rw [rowL_succ]; exact ha.own, ha.keeps ho2 (hkw.trans' (Kp.alloc No _ _))⟩
          case measure => simp [intOf]; omega
    · obtain rfl : t = L := by omega
      go_wp2_with fail
      go_ret
      exact ⟨A', r, cc, rfl, ho.rebase fun q hq => Nat.le_trans hk.size (ho.ge q hq), hk.trans' hkw⟩
end Go.Proofs.Ythmplbklphobaaa
