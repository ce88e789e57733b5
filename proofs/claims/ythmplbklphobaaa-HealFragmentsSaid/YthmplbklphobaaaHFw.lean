/- HealFragments: what every helper sends of any shard, for any lost slot, or why it can't; and how many bytes come from helpers. -/
import Derived.Test.YthmplbklphobaaaHr
import Derived.Deep.DeepCutAuto
import Derived.Deep.RegionHeld3
namespace Go.Proofs.Ythmplbklphobaaa
open Go.RowKit
set_option linter.unusedVariables false
set_option linter.unusedSimpArgs false
set_option maxRecDepth 100000

section
variable {w : World} {A : Option Addr} {m cp : Nat} {bs : List UInt8}
theorem hfw_notsmall (n k i : Int) (h : ¬ (Rgt n k ∧ n ≤ 12 ∧ k ≤ 4)) : Calls Try.prog 3 #[.int .i64 n, .int .i64 k, .int .i64 i, .slice A m cp] w (R7 w) := by
  have hs := small7_no n k w h
  clear h
  go_enter Try.func3, Try.ntmps3
  go_wp2_with fail
  refine hs.mono ?_
  rintro e w' ⟨rfl, rfl⟩
  go_wp2_with fail
  refine (awake7_any _).mono ?_
  rintro e w9 ⟨rfl, k9⟩
  go_wp2_with fail
  go_ret
  exact ⟨rfl, k9.below0⟩
theorem hfw_long (n k i : Int) (h : Rgt n k) (h1 : n ≤ 12) (h2 : k ≤ 4) (hm : 100 < m) : Calls Try.prog 3 #[.int .i64 n, .int .i64 k, .int .i64 i, .slice A m cp] w (R7 w) := by
  have hs := small7_yes n k w h h1 h2
  clear h
  go_enter Try.func3, Try.ntmps3
  go_wp2_with fail
  refine hs.mono ?_
  rintro e w' ⟨rfl, rfl⟩
  go_wp2_with fail
  refine (awake7_any _).mono ?_
  rintro e w9 ⟨rfl, k9⟩
  go_wp2_with fail
  go_ret
  exact ⟨rfl, k9.below0⟩
set_option maxHeartbeats 4000000 in
theorem hfw_unfit {n k a d q : Nat} {x : Nat → UInt8} (i : Int) (hD : Dim n k a d q) (hX : Pts n a x) (h1 : n ≤ 12) (h2 : k ≤ 4) (hm : m ≤ 100) (hf : m = 0 ∨ m % a ≠ 0) : Calls Try.prog 3 #[.int .i64 (n : Int), .int .i64 (k : Int), .int .i64 i, .slice A m cp] w (R7 w) := by
  have hR : Rgt (n : Int) (k : Int) := by have := hD.k_; have := hD.d_; have := hD.n1; have := hD.a1; unfold Rgt; omega
  have hs := small7_yes (n : Int) (k : Int) w hR (by omega) (by omega)
  have HN := hide (mnew_yes w hD hX)
  have HFR : Hid (∀ w' g, CodeAt w' g n k x → Calls Try.prog 10 #[cptr g, .int .i64 i, .slice A m cp] w' fun e w2 => e = .returned (.tuple #[.slice none 0 0, .int .i64 1]) ∧ w' = w2) := fun w' g hC => by
    by_cases hi : 0 ≤ i ∧ i < (n : Int)
    · obtain ⟨j, rfl⟩ : ∃ j : Nat, i = j := ⟨i.toNat, by omega⟩
      exact frag_no hC hD j (by omega) hf
    · exact frag_out hC i (by omega)
  have HC := hide (fun w' g (hC : CodeAt w' g n k x) => cost_no (m := m) hC hD hf)
  have hka : (k : Int) - 1 = (a : Int) := by have := hD.k_; omega
  have ha1 := hD.a1
  have ha7 := hD.a7
  obtain ⟨rr, hrr⟩ : ∃ rr, rr = m % a := ⟨_, rfl⟩
  have hr1 : (m : Int) % (a : Int) = (rr : Int) := by rw [hrr, Int.natCast_emod]
  have hr2 : (m : Int).tmod (a : Int) = (rr : Int) := by rw [Int.tmod_eq_emod_of_nonneg (by omega), hr1]
  have hcase : m = 0 ∨ m ≠ 0 ∧ rr ≠ 0 := by
    rcases hf with h | h
    · exact .inl h
    · by_cases e : m = 0
      · exact .inl e
      · exact .inr ⟨e, by rw [hrr]; exact h⟩
  have HCS := hide hcase
  have HKA := hide hka
  have HR1 := hide hr1
  have HR2 := hide hr2
  clear hD hX hR hf hcase hka hr1 hr2 hrr
  go_enter Try.func3, Try.ntmps3
  go_wp2_with fail
  refine hs.mono ?_
  rintro e w' ⟨rfl, rfl⟩
  go_wp2_with fail
  refine HN.out.mono ?_
  rintro e w1 ⟨g, rfl, hC, hk⟩
  go_wp2_with fail
  refine (HFR.out w1 g hC).mono ?_
  rintro e w' ⟨rfl, rfl⟩
  go_wp2_with fail
  refine (frag_nil (w := w1) 0).mono ?_
  rintro e w' ⟨rfl, rfl⟩
  go_wp2_with fail
  refine (HC.out w1 g hC).mono ?_
  rintro e w' ⟨rfl, rfl⟩
  go_wp2_with fail
  refine (cost_nil w1 9 (by omega)).mono ?_
  rintro e w' ⟨rfl, rfl⟩
  rcases HCS.out with h0 | ⟨h0, h3⟩
  · subst h0
    clear hs
    go_wp2_with fail
    refine (awake7_any _).mono ?_
    rintro e w9 ⟨rfl, k9⟩
    go_wp2_with fail
    go_ret
    exact ⟨rfl, (hk.trans' k9).below0⟩
  · have q0 : ((m : Int) == 0) = false := by simp; omega
    have q3 : ((rr : Int) != 0) = true := by simp; omega
    have hka := HKA.out
    have hr1 := HR1.out
    have hr2 := HR2.out
    clear hs h0 h3
    go_wp2_with fail
    refine (awake7_any _).mono ?_
    rintro e w9 ⟨rfl, k9⟩
    go_wp2_with fail
    go_ret
    exact ⟨rfl, (hk.trans' k9).below0⟩
/-- The numbers of bytes are as the law asks. -/
structure Nms (n k a d m L p1 p2 : Nat) : Prop where
  ka : (k : Int) - 1 = (a : Int)
  kd : 2 * (k : Int) - 2 = (d : Int)
  dv : (m : Int) / (a : Int) = (L : Int)
  dt : (m : Int).tdiv (a : Int) = (L : Int)
  md : (m : Int) % (a : Int) = 0
  mt : (m : Int).tmod (a : Int) = 0
  m1 : (d : Int) * (L : Int) = (p1 : Int)
  m2 : (k : Int) * (m : Int) = (p2 : Int)
  b1 : p1 ≤ 14000
  b2 : p2 ≤ 8000
theorem nms_of {n k a d q m L : Nat} (hD : Dim n k a d q) (hm : m = a * L) (hmb : m ≤ 1000) : Nms n k a d m L (L * d) (m * k) := by
  have ha1 := hD.a1
  have hLm : L ≤ m := by rw [hm]; have := Nat.mul_le_mul_right L ha1; omega
  have hk8 : k ≤ 8 := by have := hD.k_; have := hD.a7; omega
  have hd14 : d ≤ 14 := by have := hD.d_; have := hD.a7; omega
  have e1 : (m : Int) / (a : Int) = (L : Int) := by rw [hm, Int.natCast_mul, Int.mul_ediv_cancel_left _ (by omega)]
  have e2 : (m : Int) % (a : Int) = 0 := by rw [hm, Int.natCast_mul, Int.mul_emod_right]
  refine ⟨by have := hD.k_; omega, by have := hD.k_; have := hD.d_; omega, e1, by rw [Int.tdiv_eq_ediv_of_nonneg (by omega), e1], e2, by rw [Int.tmod_eq_emod_of_nonneg (by omega), e2], by rw [← Int.natCast_mul, Nat.mul_comm], by rw [← Int.natCast_mul, Nat.mul_comm], ?_, ?_⟩
  · exact Nat.le_trans (Nat.mul_le_mul (show L ≤ 1000 by omega) hd14) (by omega)
  · exact Nat.le_trans (Nat.mul_le_mul hmb hk8) (by omega)
set_option maxHeartbeats 4000000 in
theorem hfw_out {n k a d q L : Nat} {x : Nat → UInt8} (i : Int) (hi : i < 0 ∨ (n : Int) ≤ i) (hD : Dim n k a d q) (hX : Pts n a x) (h1 : n ≤ 12) (h2 : k ≤ 4) (hm : m ≤ 100) (hf : m = a * L) (hL : 1 ≤ L) : Calls Try.prog 3 #[.int .i64 (n : Int), .int .i64 (k : Int), .int .i64 i, .slice A m cp] w (R7 w) := by
  have hR : Rgt (n : Int) (k : Int) := by have := hD.k_; have := hD.d_; have := hD.n1; have := hD.a1; unfold Rgt; omega
  have hs := small7_yes (n : Int) (k : Int) w hR (by omega) (by omega)
  have HN := hide (mnew_yes w hD hX)
  have HFR := hide (fun w' g (hC : CodeAt w' g n k x) => frag_out (A := A) (m := m) (cp := cp) hC i hi)
  have HC := hide (fun w' g (hC : CodeAt w' g n k x) => cost_yes (p1 := L * d) (p2 := m * k) hC hD hf hL (by omega) rfl rfl)
  have ha1 := hD.a1
  have ha7 := hD.a7
  have hm1 : 1 ≤ m := by rw [hf]; have := Nat.mul_le_mul ha1 hL; omega
  have hLm : L ≤ m := by rw [hf]; have := Nat.mul_le_mul_right L ha1; omega
  have HNm := hide (nms_of hD hf (by omega))
  have HI := hide hi
  generalize L * d = p1 at *
  generalize m * k = p2 at *
  clear hD hX hR hf hi
  go_enter Try.func3, Try.ntmps3
  go_wp2_with fail
  refine hs.mono ?_
  rintro e w' ⟨rfl, rfl⟩
  go_wp2_with fail
  refine HN.out.mono ?_
  rintro e w1 ⟨g, rfl, hC, hk⟩
  go_wp2_with fail
  refine (HFR.out w1 g hC).mono ?_
  rintro e w' ⟨rfl, rfl⟩
  go_wp2_with fail
  refine (frag_nil (w := w1) 0).mono ?_
  rintro e w' ⟨rfl, rfl⟩
  go_wp2_with fail
  refine (HC.out w1 g hC).mono ?_
  rintro e w2 ⟨rfl, hs2⟩
  have hk2 := hk.trans' hs2.kp
  go_wp2_with fail
  refine (cost_nil w2 9 (by omega)).mono ?_
  rintro e w' ⟨rfl, rfl⟩
  obtain ⟨n1, n2, n3, n4, n5, n6, n7, n8, n9, n10⟩ := HNm.out
  have q0 : ((m : Int) == 0) = false := by simp; omega
  clear hs hs2 hk hC
  rcases HI.out with hi | hi
  · go_wp2_with fail
    refine (awake7_any _).mono ?_
    rintro e w9 ⟨rfl, k9⟩
    go_wp2_with fail
    go_ret
    exact ⟨rfl, (hk2.trans' k9).below0⟩
  · have hi0 : 0 ≤ i := by omega
    go_wp2_with fail
    refine (awake7_any _).mono ?_
    rintro e w9 ⟨rfl, k9⟩
    go_wp2_with fail
    go_ret
    exact ⟨rfl, (hk2.trans' k9).below0⟩
set_option maxHeartbeats 8000000 in
theorem hfw_fit {n k a d q L i : Nat} {x : Nat → UInt8} (hi : i < n) (hB : Bts w (.slice A m cp) bs) (hD : Dim n k a d q) (hX : Pts n a x) (h1 : n ≤ 12) (h2 : k ≤ 4) (hm : m ≤ 100) (hf : m = a * L) (hL : 1 ≤ L) : Calls Try.prog 3 #[.int .i64 (n : Int), .int .i64 (k : Int), .int .i64 (i : Int), .slice A m cp] w (R7 w) := by
  have hR : Rgt (n : Int) (k : Int) := by have := hD.k_; have := hD.d_; have := hD.n1; have := hD.a1; unfold Rgt; omega
  have hs := small7_yes (n : Int) (k : Int) w hR (by omega) (by omega)
  have HN := hide (mnew_yes w hD hX)
  have HFR := hide (fun w' g (hk : Kp No w w') (hC : CodeAt w' g n k x) => frag_yes hC hD i hi (hB.no hk) hf hL (by omega))
  have HC := hide (fun w' g (hC : CodeAt w' g n k x) => cost_yes (p1 := L * d) (p2 := m * k) hC hD hf hL (by omega) rfl rfl)
  have HRD0 := hide (fun w' (hk : Kp No w w') => rfrag_any hD hX hi (hB.no hk) hf hL (by omega))
  have ha1 := hD.a1
  have ha7 := hD.a7
  have hm1 : 1 ≤ m := by rw [hf]; have := Nat.mul_le_mul ha1 hL; omega
  have hLm : L ≤ m := by rw [hf]; have := Nat.mul_le_mul_right L ha1; omega
  have HNm := hide (nms_of hD hf (by omega))
  generalize L * d = p1 at *
  generalize m * k = p2 at *
  clear hD hX hR hf
  go_enter Try.func3, Try.ntmps3
  go_wp2_with fail
  refine hs.mono ?_
  rintro e w' ⟨rfl, rfl⟩
  go_wp2_with fail
  refine HN.out.mono ?_
  rintro e w1 ⟨g, rfl, hC, hk⟩
  go_wp2_with fail
  refine (HFR.out w1 g hk hC).mono ?_
  rintro e w2 ⟨Ab, nb, cb, rfl, hob, hk2⟩
  go_wp2_with fail
  refine (frag_nil (w := w2) 0).mono ?_
  rintro e w' ⟨rfl, rfl⟩
  go_wp2_with fail
  refine (HC.out w2 g (hC.no hk2)).mono ?_
  rintro e w4 ⟨rfl, hs2⟩
  have hk4 := (hk.trans' hk2).trans' hs2.kp
  have hb4 := hob.bts.no hs2.kp
  go_wp2_with fail
  refine (cost_nil w4 9 (by omega)).mono ?_
  rintro e w' ⟨rfl, rfl⟩
  obtain ⟨n1, n2, n3, n4, n5, n6, n7, n8, n9, n10⟩ := HNm.out
  have q0 : ((m : Int) == 0) = false := by simp; omega
  obtain ⟨tt, htt⟩ : ∃ tt, tt = strOf (rowL L (frE a L bs (x i))) := ⟨_, rfl⟩
  have HT := hide htt
  have HRD := hide (fun w' (hk : Kp No w4 w') => HRD0.out w' (hk4.trans' hk))
  have hSno : ∀ {u v : World}, (Kp No w4 u ∧ Bts u (.slice Ab nb cb) (rowL L (frE a L bs (x i)))) → Kp No u v → (Kp No w4 v ∧ Bts v (.slice Ab nb cb) (rowL L (frE a L bs (x i)))) := fun h hk => ⟨h.1.trans' hk, h.2.no hk⟩
  clear hs hs2 hk hC hk2 hob htt HRD0
  go_upto_region 16 with fail
  clear n1 n2 n3 n4 n5 n6 n7 n8 n9 n10 q0
  refine wp_region_noPanic ?_
  refine wp_region_held_drew (S := fun w' => Kp No w4 w' ∧ Bts w' (.slice Ab nb cb) (rowL L (frE a L bs (x i)))) (by kernel_rfl) (⟨(Sm.drew w4).kp, hb4.no (Sm.drew w4).kp⟩) (fun hHeld => ?_)
  refine wpAnyH_take (i := 0) (v := ?vcx1) (oi := ?ocx1) ?hcx1 (by kernel_rfl) (by kernel_rfl) (by kernel_rfl) (fun _ _ _ h => h) (Or.inl ⟨?wcx1, ?ycx1⟩) hHeld ?rcx1
  case hcx1 => simp only [List.getElem?_toArray, List.getElem?_cons_zero, List.getElem?_cons_succ]; rfl
  case wcx1 => rfl
  case ycx1 => intro w hSw; (try dsimp only at hSw); go_simp; (try with_reducible rfl)
  simp only [Act.put, List.setIfInBounds_toArray, List.set_cons_zero, List.set_cons_succ]
  refine wpAnyH_take (i := 2) (v := ?vcx2) (oi := ?ocx2) ?hcx2 (by kernel_rfl) (by kernel_rfl) (by kernel_rfl) (fun _ _ _ h => h) (Or.inl ⟨?wcx2, ?ycx2⟩) hHeld ?rcx2
  case hcx2 => simp only [List.getElem?_toArray, List.getElem?_cons_zero, List.getElem?_cons_succ]; rfl
  case wcx2 => rfl
  case ycx2 => intro w hSw; (try dsimp only at hSw); go_simp; (try with_reducible rfl)
  simp only [Act.put, List.setIfInBounds_toArray, List.set_cons_zero, List.set_cons_succ]
  refine wpAnyH_take (i := 3) (v := ?vcx3) (oi := ?ocx3) ?hcx3 (by kernel_rfl) (by kernel_rfl) (by kernel_rfl) (fun _ _ _ h => h) (Or.inl ⟨?wcx3, ?ycx3⟩) hHeld ?rcx3
  case hcx3 => simp only [List.getElem?_toArray, List.getElem?_cons_zero, List.getElem?_cons_succ]; rfl
  case wcx3 => rfl
  case ycx3 => intro w hSw; (try dsimp only at hSw); go_simp; (try with_reducible rfl)
  simp only [Act.put, List.setIfInBounds_toArray, List.set_cons_zero, List.set_cons_succ]
  refine wpAnyH_take (i := 4) (v := ?vcx4) (oi := ?ocx4) ?hcx4 (by kernel_rfl) (by kernel_rfl) (by kernel_rfl) (fun _ _ _ h => h) (Or.inl ⟨?wcx4, ?ycx4⟩) hHeld ?rcx4
  case hcx4 => simp only [List.getElem?_toArray, List.getElem?_cons_zero, List.getElem?_cons_succ]; rfl
  case wcx4 => rfl
  case ycx4 => intro w hSw; (try dsimp only at hSw); go_simp; (try with_reducible rfl)
  simp only [Act.put, List.setIfInBounds_toArray, List.set_cons_zero, List.set_cons_succ]
  refine wpAnyH_take (i := 5) (v := ?vcx5) (oi := ?ocx5) ?hcx5 (by kernel_rfl) (by kernel_rfl) (by kernel_rfl) (fun _ _ _ h => h) (Or.inl ⟨?wcx5, ?ycx5⟩) hHeld ?rcx5
  case hcx5 => simp only [List.getElem?_toArray, List.getElem?_cons_zero, List.getElem?_cons_succ]; rfl
  case wcx5 => rfl
  case ycx5 => intro w hSw; (try dsimp only at hSw); go_simp; (try with_reducible rfl)
  simp only [Act.put, List.setIfInBounds_toArray, List.set_cons_zero, List.set_cons_succ]
  refine wpAnyH_ready (rs := [1, 6]) (by kernel_rfl) (by simp) ?_
  refine (AllReadyH.cons (o := ?ocx7) ?hcx7 (fun K hK => ?scx7) (AllReadyH.cons (o := ?ocx8) ?hcx8 (fun K hK => ?scx8) AllReadyH.nil))
  case hcx7 => simp only [List.getElem?_toArray, List.getElem?_cons_zero, List.getElem?_cons_succ]; rfl
  case hcx8 => simp only [List.getElem?_toArray, List.getElem?_cons_zero, List.getElem?_cons_succ]; rfl
  case scx7 =>
    have v1 := conv_bts hHeld.2
    rw [← HT.out] at v1
    go_simp
    refine hK.out _ _ (hHeld) (fun hHeld => ?_)
    clear hK K
    try simp only [Act.put, List.setIfInBounds_toArray, List.set_cons_zero, List.set_cons_succ]
    refine wpAnyH_ready (rs := [6]) (by kernel_rfl) (by simp) ?_
    refine AllReadyH.cons (o := ?ocx9) ?hcx9 (fun K hK => ?scx9) AllReadyH.nil
    case hcx9 => simp only [List.getElem?_toArray, List.getElem?_cons_zero, List.getElem?_cons_succ]; rfl
    go_simp
    refine (HRD.out _ hHeld.1).mono ?_
    rintro e w5 ⟨A5, n5, c5, rfl, ho5, hk5⟩
    have hx := hSno hHeld hk5
    go_wp2_with fail
    refine hK.out _ _ (hx) (fun hHeld => ?_)
    clear hK K
    try simp only [Act.put, List.setIfInBounds_toArray, List.set_cons_zero, List.set_cons_succ]
    refine wpAnyH_ready (rs := [7]) (by kernel_rfl) (by simp) ?_
    refine AllReadyH.cons (o := ?ocx10) ?hcx10 (fun K hK => ?scx10) AllReadyH.nil
    case hcx10 => simp only [List.getElem?_toArray, List.getElem?_cons_zero, List.getElem?_cons_succ]; rfl
    have v7 := conv_bts ho5.bts
    rw [← HT.out] at v7
    go_simp
    refine hK.out _ _ (hHeld) (fun hHeld => ?_)
    clear hK K
    try simp only [Act.put, List.setIfInBounds_toArray, List.set_cons_zero, List.set_cons_succ]
    refine wpAnyH_take (i := 8) (v := ?vcx11) (oi := ?ocx11) ?hcx11 (by kernel_rfl) (by kernel_rfl) (by kernel_rfl) (fun _ _ _ h => h) (Or.inl ⟨?wcx11, ?ycx11⟩) hHeld ?rcx11
    case hcx11 => simp only [List.getElem?_toArray, List.getElem?_cons_zero, List.getElem?_cons_succ]; rfl
    case wcx11 => rfl
    case ycx11 => intro w hSw; (try dsimp only at hSw); go_simp; (try with_reducible rfl)
    simp only [Act.put, List.setIfInBounds_toArray, List.set_cons_zero, List.set_cons_succ]
    refine wpAnyH_take (i := 9) (v := ?vcx12) (oi := ?ocx12) ?hcx12 (by kernel_rfl) (by kernel_rfl) (by kernel_rfl) (fun _ _ _ h => h) (Or.inl ⟨?wcx12, ?ycx12⟩) hHeld ?rcx12
    case hcx12 => simp only [List.getElem?_toArray, List.getElem?_cons_zero, List.getElem?_cons_succ]; rfl
    case wcx12 => rfl
    case ycx12 => intro w hSw; (try dsimp only at hSw); go_simp; (try with_reducible rfl)
    simp only [Act.put, List.setIfInBounds_toArray, List.set_cons_zero, List.set_cons_succ]
    refine wpAnyH_ready (rs := [10]) (by kernel_rfl) (by simp) ?_
    refine AllReadyH.cons (o := ?ocx13) ?hcx13 (fun K hK => ?scx13) AllReadyH.nil
    case hcx13 => simp only [List.getElem?_toArray, List.getElem?_cons_zero, List.getElem?_cons_succ]; rfl
    go_simp
    refine hK.out _ _ (hHeld) (fun hHeld => ?_)
    clear hK K
    try simp only [Act.put, List.setIfInBounds_toArray, List.set_cons_zero, List.set_cons_succ]
    refine wpAnyH_ready (rs := [11]) (by kernel_rfl) (by simp) ?_
    refine AllReadyH.cons (o := ?ocx14) ?hcx14 (fun K hK => ?scx14) AllReadyH.nil
    case hcx14 => simp only [List.getElem?_toArray, List.getElem?_cons_zero, List.getElem?_cons_succ]; rfl
    go_simp
    refine hK.out _ _ (hHeld) (fun hHeld => ?_)
    clear hK K
    try simp only [Act.put, List.setIfInBounds_toArray, List.set_cons_zero, List.set_cons_succ]
    refine wpAnyH_take (i := 12) (v := ?vcx15) (oi := ?ocx15) ?hcx15 (by kernel_rfl) (by kernel_rfl) (by kernel_rfl) (fun _ _ _ h => h) (Or.inl ⟨?wcx15, ?ycx15⟩) hHeld ?rcx15
    case hcx15 => simp only [List.getElem?_toArray, List.getElem?_cons_zero, List.getElem?_cons_succ]; rfl
    case wcx15 => rfl
    case ycx15 => intro w hSw; (try dsimp only at hSw); go_simp; (try with_reducible rfl)
    simp only [Act.put, List.setIfInBounds_toArray, List.set_cons_zero, List.set_cons_succ]
    refine wpAnyH_take (i := 13) (v := ?vcx16) (oi := ?ocx16) ?hcx16 (by kernel_rfl) (by kernel_rfl) (by kernel_rfl) (fun _ _ _ h => h) (Or.inl ⟨?wcx16, ?ycx16⟩) hHeld ?rcx16
    case hcx16 => simp only [List.getElem?_toArray, List.getElem?_cons_zero, List.getElem?_cons_succ]; rfl
    case wcx16 => rfl
    case ycx16 => intro w hSw; (try dsimp only at hSw); go_simp; (try with_reducible rfl)
    simp only [Act.put, List.setIfInBounds_toArray, List.set_cons_zero, List.set_cons_succ]
    refine wpAnyH_ready (rs := [14]) (by kernel_rfl) (by simp) ?_
    refine AllReadyH.cons (o := ?ocx17) ?hcx17 (fun K hK => ?scx17) AllReadyH.nil
    case hcx17 => simp only [List.getElem?_toArray, List.getElem?_cons_zero, List.getElem?_cons_succ]; rfl
    go_simp
    refine (awake7_any _).mono ?_
    rintro e w9 ⟨rfl, k9⟩
    have hx9 := hSno hHeld k9
    go_wp2_with fail
    refine hK.out _ _ (hx9) (fun hHeld => ?_)
    clear hK K
    try simp only [Act.put, List.setIfInBounds_toArray, List.set_cons_zero, List.set_cons_succ]
    refine wpAnyH_take (i := 15) (v := ?vcx18) (oi := ?ocx18) ?hcx18 (by kernel_rfl) (by kernel_rfl) (by kernel_rfl) (fun _ _ _ h => h) (Or.inl ⟨?wcx18, ?ycx18⟩) hHeld ?rcx18
    case hcx18 => simp only [List.getElem?_toArray, List.getElem?_cons_zero, List.getElem?_cons_succ]; rfl
    case wcx18 => rfl
    case ycx18 => intro w hSw; (try dsimp only at hSw); go_simp; (try with_reducible rfl)
    simp only [Act.put, List.setIfInBounds_toArray, List.set_cons_zero, List.set_cons_succ]
    refine wpAnyH_ready (rs := [16]) (by kernel_rfl) (by simp) ?_
    refine AllReadyH.cons (o := ?ocx19) ?hcx19 (fun K hK => ?scx19) AllReadyH.nil
    case hcx19 => simp only [List.getElem?_toArray, List.getElem?_cons_zero, List.getElem?_cons_succ]; rfl
    go_simp
    refine hK.out _ _ (hHeld) (fun hHeld => ?_)
    clear hK K
    try simp only [Act.put, List.setIfInBounds_toArray, List.set_cons_zero, List.set_cons_succ]
    refine wpAnyH_done (by kernel_rfl) ?_ _
    refine NoPanic.normal ?_
    go_wp2_with fail
    go_ret
    exact ⟨rfl, (hk4.trans' hHeld.1).below0⟩
  case scx8 =>
    go_simp
    refine (HRD.out _ hHeld.1).mono ?_
    rintro e w5 ⟨A5, n5, c5, rfl, ho5, hk5⟩
    have hx := hSno hHeld hk5
    go_wp2_with fail
    refine hK.out _ _ (hx) (fun hHeld => ?_)
    clear hK K
    try simp only [Act.put, List.setIfInBounds_toArray, List.set_cons_zero, List.set_cons_succ]
    refine wpAnyH_ready (rs := [1, 7]) (by kernel_rfl) (by simp) ?_
    refine (AllReadyH.cons (o := ?ocx22) ?hcx22 (fun K hK => ?scx22) (AllReadyH.cons (o := ?ocx23) ?hcx23 (fun K hK => ?scx23) AllReadyH.nil))
    case hcx22 => simp only [List.getElem?_toArray, List.getElem?_cons_zero, List.getElem?_cons_succ]; rfl
    case hcx23 => simp only [List.getElem?_toArray, List.getElem?_cons_zero, List.getElem?_cons_succ]; rfl
    case scx22 =>
      have v1 := conv_bts hHeld.2
      rw [← HT.out] at v1
      go_simp
      refine hK.out _ _ (hHeld) (fun hHeld => ?_)
      clear hK K
      try simp only [Act.put, List.setIfInBounds_toArray, List.set_cons_zero, List.set_cons_succ]
      refine wpAnyH_ready (rs := [7]) (by kernel_rfl) (by simp) ?_
      refine AllReadyH.cons (o := ?ocx24) ?hcx24 (fun K hK => ?scx24) AllReadyH.nil
      case hcx24 => simp only [List.getElem?_toArray, List.getElem?_cons_zero, List.getElem?_cons_succ]; rfl
      have v7 := conv_bts ho5.bts
      rw [← HT.out] at v7
      go_simp
      refine hK.out _ _ (hHeld) (fun hHeld => ?_)
      clear hK K
      try simp only [Act.put, List.setIfInBounds_toArray, List.set_cons_zero, List.set_cons_succ]
      refine wpAnyH_take (i := 8) (v := ?vcx25) (oi := ?ocx25) ?hcx25 (by kernel_rfl) (by kernel_rfl) (by kernel_rfl) (fun _ _ _ h => h) (Or.inl ⟨?wcx25, ?ycx25⟩) hHeld ?rcx25
      case hcx25 => simp only [List.getElem?_toArray, List.getElem?_cons_zero, List.getElem?_cons_succ]; rfl
      case wcx25 => rfl
      case ycx25 => intro w hSw; (try dsimp only at hSw); go_simp; (try with_reducible rfl)
      simp only [Act.put, List.setIfInBounds_toArray, List.set_cons_zero, List.set_cons_succ]
      refine wpAnyH_take (i := 9) (v := ?vcx26) (oi := ?ocx26) ?hcx26 (by kernel_rfl) (by kernel_rfl) (by kernel_rfl) (fun _ _ _ h => h) (Or.inl ⟨?wcx26, ?ycx26⟩) hHeld ?rcx26
      case hcx26 => simp only [List.getElem?_toArray, List.getElem?_cons_zero, List.getElem?_cons_succ]; rfl
      case wcx26 => rfl
      case ycx26 => intro w hSw; (try dsimp only at hSw); go_simp; (try with_reducible rfl)
      simp only [Act.put, List.setIfInBounds_toArray, List.set_cons_zero, List.set_cons_succ]
      refine wpAnyH_ready (rs := [10]) (by kernel_rfl) (by simp) ?_
      refine AllReadyH.cons (o := ?ocx27) ?hcx27 (fun K hK => ?scx27) AllReadyH.nil
      case hcx27 => simp only [List.getElem?_toArray, List.getElem?_cons_zero, List.getElem?_cons_succ]; rfl
      go_simp
      refine hK.out _ _ (hHeld) (fun hHeld => ?_)
      clear hK K
      try simp only [Act.put, List.setIfInBounds_toArray, List.set_cons_zero, List.set_cons_succ]
      refine wpAnyH_ready (rs := [11]) (by kernel_rfl) (by simp) ?_
      refine AllReadyH.cons (o := ?ocx28) ?hcx28 (fun K hK => ?scx28) AllReadyH.nil
      case hcx28 => simp only [List.getElem?_toArray, List.getElem?_cons_zero, List.getElem?_cons_succ]; rfl
      go_simp
      refine hK.out _ _ (hHeld) (fun hHeld => ?_)
      clear hK K
      try simp only [Act.put, List.setIfInBounds_toArray, List.set_cons_zero, List.set_cons_succ]
      refine wpAnyH_take (i := 12) (v := ?vcx29) (oi := ?ocx29) ?hcx29 (by kernel_rfl) (by kernel_rfl) (by kernel_rfl) (fun _ _ _ h => h) (Or.inl ⟨?wcx29, ?ycx29⟩) hHeld ?rcx29
      case hcx29 => simp only [List.getElem?_toArray, List.getElem?_cons_zero, List.getElem?_cons_succ]; rfl
      case wcx29 => rfl
      case ycx29 => intro w hSw; (try dsimp only at hSw); go_simp; (try with_reducible rfl)
      simp only [Act.put, List.setIfInBounds_toArray, List.set_cons_zero, List.set_cons_succ]
      refine wpAnyH_take (i := 13) (v := ?vcx30) (oi := ?ocx30) ?hcx30 (by kernel_rfl) (by kernel_rfl) (by kernel_rfl) (fun _ _ _ h => h) (Or.inl ⟨?wcx30, ?ycx30⟩) hHeld ?rcx30
      case hcx30 => simp only [List.getElem?_toArray, List.getElem?_cons_zero, List.getElem?_cons_succ]; rfl
      case wcx30 => rfl
      case ycx30 => intro w hSw; (try dsimp only at hSw); go_simp; (try with_reducible rfl)
      simp only [Act.put, List.setIfInBounds_toArray, List.set_cons_zero, List.set_cons_succ]
      refine wpAnyH_ready (rs := [14]) (by kernel_rfl) (by simp) ?_
      refine AllReadyH.cons (o := ?ocx31) ?hcx31 (fun K hK => ?scx31) AllReadyH.nil
      case hcx31 => simp only [List.getElem?_toArray, List.getElem?_cons_zero, List.getElem?_cons_succ]; rfl
      go_simp
      refine (awake7_any _).mono ?_
      rintro e w9 ⟨rfl, k9⟩
      have hx9 := hSno hHeld k9
      go_wp2_with fail
      refine hK.out _ _ (hx9) (fun hHeld => ?_)
      clear hK K
      try simp only [Act.put, List.setIfInBounds_toArray, List.set_cons_zero, List.set_cons_succ]
      refine wpAnyH_take (i := 15) (v := ?vcx32) (oi := ?ocx32) ?hcx32 (by kernel_rfl) (by kernel_rfl) (by kernel_rfl) (fun _ _ _ h => h) (Or.inl ⟨?wcx32, ?ycx32⟩) hHeld ?rcx32
      case hcx32 => simp only [List.getElem?_toArray, List.getElem?_cons_zero, List.getElem?_cons_succ]; rfl
      case wcx32 => rfl
      case ycx32 => intro w hSw; (try dsimp only at hSw); go_simp; (try with_reducible rfl)
      simp only [Act.put, List.setIfInBounds_toArray, List.set_cons_zero, List.set_cons_succ]
      refine wpAnyH_ready (rs := [16]) (by kernel_rfl) (by simp) ?_
      refine AllReadyH.cons (o := ?ocx33) ?hcx33 (fun K hK => ?scx33) AllReadyH.nil
      case hcx33 => simp only [List.getElem?_toArray, List.getElem?_cons_zero, List.getElem?_cons_succ]; rfl
      go_simp
      refine hK.out _ _ (hHeld) (fun hHeld => ?_)
      clear hK K
      try simp only [Act.put, List.setIfInBounds_toArray, List.set_cons_zero, List.set_cons_succ]
      refine wpAnyH_done (by kernel_rfl) ?_ _
      refine NoPanic.normal ?_
      go_wp2_with fail
      go_ret
      exact ⟨rfl, (hk4.trans' hHeld.1).below0⟩
    case scx23 =>
      have v7 := conv_bts ho5.bts
      rw [← HT.out] at v7
      go_simp
      refine hK.out _ _ (hHeld) (fun hHeld => ?_)
      clear hK K
      try simp only [Act.put, List.setIfInBounds_toArray, List.set_cons_zero, List.set_cons_succ]
      refine wpAnyH_ready (rs := [1]) (by kernel_rfl) (by simp) ?_
      refine AllReadyH.cons (o := ?ocx35) ?hcx35 (fun K hK => ?scx35) AllReadyH.nil
      case hcx35 => simp only [List.getElem?_toArray, List.getElem?_cons_zero, List.getElem?_cons_succ]; rfl
      have v1 := conv_bts hHeld.2
      rw [← HT.out] at v1
      go_simp
      refine hK.out _ _ (hHeld) (fun hHeld => ?_)
      clear hK K
      try simp only [Act.put, List.setIfInBounds_toArray, List.set_cons_zero, List.set_cons_succ]
      refine wpAnyH_take (i := 8) (v := ?vcx36) (oi := ?ocx36) ?hcx36 (by kernel_rfl) (by kernel_rfl) (by kernel_rfl) (fun _ _ _ h => h) (Or.inl ⟨?wcx36, ?ycx36⟩) hHeld ?rcx36
      case hcx36 => simp only [List.getElem?_toArray, List.getElem?_cons_zero, List.getElem?_cons_succ]; rfl
      case wcx36 => rfl
      case ycx36 => intro w hSw; (try dsimp only at hSw); go_simp; (try with_reducible rfl)
      simp only [Act.put, List.setIfInBounds_toArray, List.set_cons_zero, List.set_cons_succ]
      refine wpAnyH_take (i := 9) (v := ?vcx37) (oi := ?ocx37) ?hcx37 (by kernel_rfl) (by kernel_rfl) (by kernel_rfl) (fun _ _ _ h => h) (Or.inl ⟨?wcx37, ?ycx37⟩) hHeld ?rcx37
      case hcx37 => simp only [List.getElem?_toArray, List.getElem?_cons_zero, List.getElem?_cons_succ]; rfl
      case wcx37 => rfl
      case ycx37 => intro w hSw; (try dsimp only at hSw); go_simp; (try with_reducible rfl)
      simp only [Act.put, List.setIfInBounds_toArray, List.set_cons_zero, List.set_cons_succ]
      refine wpAnyH_ready (rs := [10]) (by kernel_rfl) (by simp) ?_
      refine AllReadyH.cons (o := ?ocx38) ?hcx38 (fun K hK => ?scx38) AllReadyH.nil
      case hcx38 => simp only [List.getElem?_toArray, List.getElem?_cons_zero, List.getElem?_cons_succ]; rfl
      go_simp
      refine hK.out _ _ (hHeld) (fun hHeld => ?_)
      clear hK K
      try simp only [Act.put, List.setIfInBounds_toArray, List.set_cons_zero, List.set_cons_succ]
      refine wpAnyH_ready (rs := [11]) (by kernel_rfl) (by simp) ?_
      refine AllReadyH.cons (o := ?ocx39) ?hcx39 (fun K hK => ?scx39) AllReadyH.nil
      case hcx39 => simp only [List.getElem?_toArray, List.getElem?_cons_zero, List.getElem?_cons_succ]; rfl
      go_simp
      refine hK.out _ _ (hHeld) (fun hHeld => ?_)
      clear hK K
      try simp only [Act.put, List.setIfInBounds_toArray, List.set_cons_zero, List.set_cons_succ]
      refine wpAnyH_take (i := 12) (v := ?vcx40) (oi := ?ocx40) ?hcx40 (by kernel_rfl) (by kernel_rfl) (by kernel_rfl) (fun _ _ _ h => h) (Or.inl ⟨?wcx40, ?ycx40⟩) hHeld ?rcx40
      case hcx40 => simp only [List.getElem?_toArray, List.getElem?_cons_zero, List.getElem?_cons_succ]; rfl
      case wcx40 => rfl
      case ycx40 => intro w hSw; (try dsimp only at hSw); go_simp; (try with_reducible rfl)
      simp only [Act.put, List.setIfInBounds_toArray, List.set_cons_zero, List.set_cons_succ]
      refine wpAnyH_take (i := 13) (v := ?vcx41) (oi := ?ocx41) ?hcx41 (by kernel_rfl) (by kernel_rfl) (by kernel_rfl) (fun _ _ _ h => h) (Or.inl ⟨?wcx41, ?ycx41⟩) hHeld ?rcx41
      case hcx41 => simp only [List.getElem?_toArray, List.getElem?_cons_zero, List.getElem?_cons_succ]; rfl
      case wcx41 => rfl
      case ycx41 => intro w hSw; (try dsimp only at hSw); go_simp; (try with_reducible rfl)
      simp only [Act.put, List.setIfInBounds_toArray, List.set_cons_zero, List.set_cons_succ]
      refine wpAnyH_ready (rs := [14]) (by kernel_rfl) (by simp) ?_
      refine AllReadyH.cons (o := ?ocx42) ?hcx42 (fun K hK => ?scx42) AllReadyH.nil
      case hcx42 => simp only [List.getElem?_toArray, List.getElem?_cons_zero, List.getElem?_cons_succ]; rfl
      go_simp
      refine (awake7_any _).mono ?_
      rintro e w9 ⟨rfl, k9⟩
      have hx9 := hSno hHeld k9
      go_wp2_with fail
      refine hK.out _ _ (hx9) (fun hHeld => ?_)
      clear hK K
      try simp only [Act.put, List.setIfInBounds_toArray, List.set_cons_zero, List.set_cons_succ]
      refine wpAnyH_take (i := 15) (v := ?vcx43) (oi := ?ocx43) ?hcx43 (by kernel_rfl) (by kernel_rfl) (by kernel_rfl) (fun _ _ _ h => h) (Or.inl ⟨?wcx43, ?ycx43⟩) hHeld ?rcx43
      case hcx43 => simp only [List.getElem?_toArray, List.getElem?_cons_zero, List.getElem?_cons_succ]; rfl
      case wcx43 => rfl
      case ycx43 => intro w hSw; (try dsimp only at hSw); go_simp; (try with_reducible rfl)
      simp only [Act.put, List.setIfInBounds_toArray, List.set_cons_zero, List.set_cons_succ]
      refine wpAnyH_ready (rs := [16]) (by kernel_rfl) (by simp) ?_
      refine AllReadyH.cons (o := ?ocx44) ?hcx44 (fun K hK => ?scx44) AllReadyH.nil
      case hcx44 => simp only [List.getElem?_toArray, List.getElem?_cons_zero, List.getElem?_cons_succ]; rfl
      go_simp
      refine hK.out _ _ (hHeld) (fun hHeld => ?_)
      clear hK K
      try simp only [Act.put, List.setIfInBounds_toArray, List.set_cons_zero, List.set_cons_succ]
      refine wpAnyH_done (by kernel_rfl) ?_ _
      refine NoPanic.normal ?_
      go_wp2_with fail
      go_ret
      exact ⟨rfl, (hk4.trans' hHeld.1).below0⟩
end
theorem healfragments_walk {w : World} {A : Option Addr} {m cp : Nat} {bs : List UInt8} (n k i : Int) (hB : Bts w (.slice A m cp) bs) : Calls Try.prog 3 #[.int .i64 n, .int .i64 k, .int .i64 i, .slice A m cp] w fun e w' => e = .returned (.bool true) ∧ Below w.heap.size w w' := by
  show Calls _ _ _ _ (R7 w)
  by_cases h : Rgt n k ∧ n ≤ 12 ∧ k ≤ 4
  · obtain ⟨hR, h1, h2⟩ := h
    by_cases hm : m ≤ 100
    · obtain ⟨r1, r2, r3, r4⟩ := hR
      obtain ⟨n', rfl⟩ : ∃ n' : Nat, n = n' := ⟨n.toNat, by omega⟩
      obtain ⟨k', rfl⟩ : ∃ k' : Nat, k = k' := ⟨k.toNat, by omega⟩
      obtain ⟨a, d, q, hD⟩ := dim_of (n := n') (k := k') (by omega) (by omega) (by omega) (by omega)
      obtain ⟨x, hX⟩ := pts_ex (n := n') hD.a1 hD.a7 hD.n2
      by_cases hf : m = 0 ∨ m % a ≠ 0
      · exact hfw_unfit i hD hX (by omega) (by omega) hm hf
      · have hf1 : m % a = 0 := by omega
        have hdv : m = a * (m / a) := by have := Nat.div_add_mod m a; omega
        have hL : 1 ≤ m / a := by
          rcases Nat.eq_zero_or_pos (m / a) with e | e
          · rw [e, Nat.mul_zero] at hdv; omega
          · exact e
        by_cases hi : 0 ≤ i ∧ i < (n' : Int)
        · obtain ⟨j, rfl⟩ : ∃ j : Nat, i = j := ⟨i.toNat, by omega⟩
          exact hfw_fit (by omega) hB hD hX (by omega) (by omega) hm hdv hL
        · exact hfw_out i (by omega) hD hX (by omega) (by omega) hm hdv hL
    · exact hfw_long n k i hR h1 h2 (by omega)
  · exact hfw_notsmall n k i h
end Go.Proofs.Ythmplbklphobaaa
