/- StripePlans: how every object is cut, or that it can't be. -/
import Derived.Test.YtcdmljlangbloaaStc
import Derived.Deep.RegionHeld3
namespace Go.Proofs.Ytcdmljlangbloaa
open Go.RowKit
set_option linter.unusedVariables false
set_option linter.unusedSimpArgs false
set_option maxRecDepth 100000

theorem plans_not (w : World) (n k l p : Int) (h : ¬ Rgt n k) : Calls Try.prog 3 #[.int .i64 n, .int .i64 k, .int .i64 l, .int .i64 p] w (R8 w) := by
  have hr := rright_no n k w h
  clear h
  go_enter Try.func3, Try.ntmps3
  go_wp2_with fail
  refine hr.mono ?_
  rintro e w' ⟨rfl, rfl⟩
  go_wp2_with fail
  refine (awake8_any _).mono ?_
  rintro e w9 ⟨rfl, k9⟩
  go_wp2_with fail
  go_ret
  exact ⟨rfl, k9.below0⟩
/-- A plan's three cells. -/
structure PC (w : World) (b : Nat) (l c p : Int) : Prop where
  c0 : w.cell? ⟨b, 0, none⟩ = some (.int .i64 l)
  c1 : w.cell? ⟨b, 1, none⟩ = some (.int .i64 c)
  c2 : w.cell? ⟨b, 2, none⟩ = some (.int .i64 p)
theorem PC.no {w w1 : World} {b : Nat} {l c p : Int} (h : PC w b l c p) (hk : Kp No w w1) : PC w1 b l c p := ⟨hk.cell h.c0 fun f => f, hk.cell h.c1 fun f => f, hk.cell h.c2 fun f => f⟩
theorem PC.new (w : World) (l c p : Int) (t : TypeId) : PC (w.alloc (.cells #[.int .i64 l, .int .i64 c, .int .i64 p] t)) w.heap.size l c p := ⟨by simp [go_sem], by simp [go_sem], by simp [go_sem]⟩
theorem PC.six {W w1 : World} {b b' : Nat} {l c p l' c' p' : Int} (hk : Kp No W w1) (h : PC W b l c p ∧ PC W b' l' c' p') : w1.cell? ⟨b, 0, none⟩ = some (.int .i64 l) ∧ w1.cell? ⟨b, 1, none⟩ = some (.int .i64 c) ∧ w1.cell? ⟨b, 2, none⟩ = some (.int .i64 p) ∧ w1.cell? ⟨b', 0, none⟩ = some (.int .i64 l') ∧ w1.cell? ⟨b', 1, none⟩ = some (.int .i64 c') ∧ w1.cell? ⟨b', 2, none⟩ = some (.int .i64 p') :=
  ⟨(h.1.no hk).c0, (h.1.no hk).c1, (h.1.no hk).c2, (h.2.no hk).c0, (h.2.no hk).c1, (h.2.no hk).c2⟩
set_option maxHeartbeats 4000000 in
theorem plans_ok {n k a d q : Nat} {x : Nat → UInt8} (w : World) (hD : Dim n k a d q) (hX : Pts n a x) (len pc : Int) {l c p f f2 : Nat} (hO : OfR q len pc l c p 0) (hf : f = q * p) (hf2 : f2 = a * p) (hfb : f ≤ 100000) (hf2b : f2 ≤ 100000) : Calls Try.prog 3 #[.int .i64 (n : Int), .int .i64 (k : Int), .int .i64 len, .int .i64 pc] w (R8 w) := by
  have hR : Rgt (n : Int) (k : Int) := by have := hD.k_; have := hD.d_; have := hD.n1; have := hD.n2; have := hD.a7; have := hD.a1; unfold Rgt; omega
  have hr := rright_yes (n : Int) (k : Int) w hR
  have HN := hide (mnew_yes w hD hX)
  have HO := hide (fun w' g (hC : CodeAt w' g n k x) => of_any hC hD hO)
  have HRO := hide (fun w' => rof_any w' hD hO)
  clear hR
  have hka : (k : Int) - 1 = (a : Int) := by have := hD.k_; omega
  have hkb : k ≤ 8 := by have := hD.k_; have := hD.a7; omega
  have W1 : Hid (IntKind.i64.wrap ((k : Int) - 1) = (a : Int)) := by show IntKind.i64.wrap ((k : Int) - 1) = (a : Int); rw [hka]; exact IntWalk.i64_in _ (by omega)
  have W2 : Hid (IntKind.i64.wrap ((k : Int) * (a : Int)) = (q : Int)) := by
    have e : (k : Int) * (a : Int) = (q : Int) := by rw [hD.k_, hD.q_, Int.natCast_mul]
    show IntKind.i64.wrap ((k : Int) * (a : Int)) = (q : Int)
    rw [e]
    exact IntWalk.i64_in _ (by have := hD.q56; omega)
  have W3 : Hid (IntKind.i64.wrap ((q : Int) * (p : Int)) = (f : Int)) := by show IntKind.i64.wrap ((q : Int) * (p : Int)) = (f : Int); rw [← Int.natCast_mul, ← hf]; exact IntWalk.i64_in _ (by omega)
  have W4 : Hid (IntKind.i64.wrap ((a : Int) * (p : Int)) = (f2 : Int)) := by show IntKind.i64.wrap ((a : Int) * (p : Int)) = (f2 : Int); rw [← Int.natCast_mul, ← hf2]; exact IntWalk.i64_in _ (by omega)
  have HM := hide (fun w' g (hC : CodeAt w' g n k x) => msg_any hC hD (l : Int) (c : Int) p f hf (by omega))
  have HS := hide (fun w' g (hC : CodeAt w' g n k x) => shd_any hC hD (l : Int) (c : Int) p f2 hf2 (by omega))
  clear hka hf hf2
  have HD := hide hD
  clear hD hX hO
  go_enter Try.func3, Try.ntmps3
  go_wp2_with fail
  refine hr.mono ?_
  rintro e w' ⟨rfl, rfl⟩
  clear hr
  go_wp2_with fail
  refine HN.out.mono ?_
  rintro e w1 ⟨g, rfl, hC, hk1⟩
  go_wp2_with fail
  refine (HO.out _ _ hC).mono ?_
  rintro e w2 ⟨rfl, hk2⟩
  go_wp2_with fail
  refine (HRO.out _).mono ?_
  rintro e w3 ⟨rfl, hk3⟩
  go_wp2_with fail
  refine (of_nil _ _ _).mono ?_
  rintro e w4 ⟨rfl, hk4⟩
  go_wp2_with fail
  have P1 : PC w4 w2.heap.size l c p := (PC.new w2 l c p _).no ((hk3.al _).trans' hk4)
  have P2 : PC w4 w3.heap.size l c p := (PC.new w3 l c p _).no hk4
  have K4 : Kp No w1 w4 := ((hk2.al _).trans' hk3 |>.al _).trans' hk4
  have PP := hide (And.intro P1 P2)
  clear P1 P2
  go_region_held3 (fun w' => w'.cell? ⟨w2.heap.size, 0, none⟩ = some (.int .i64 (l : Int)) ∧ w'.cell? ⟨w2.heap.size, 1, none⟩ = some (.int .i64 (c : Int)) ∧ w'.cell? ⟨w2.heap.size, 2, none⟩ = some (.int .i64 (p : Int)) ∧ w'.cell? ⟨w3.heap.size, 0, none⟩ = some (.int .i64 (l : Int)) ∧ w'.cell? ⟨w3.heap.size, 1, none⟩ = some (.int .i64 (c : Int)) ∧ w'.cell? ⟨w3.heap.size, 2, none⟩ = some (.int .i64 (p : Int)))
    (first | assumption | exact PC.six (((Kp.refl No w4).al _).drew) PP.out | go_keep)
    (first | (go_at_call 12; ((with_reducible refine (to_any _ _ _ _).mono ?_); rintro e w5 ⟨rfl, hk5⟩); have s5 := PC.six ((((Kp.refl No w4).al _).drew).trans' hk5) PP.out))
  have K5 : Kp No w4 w5 := (((Kp.refl No w4).al _).drew).trans' hk5
  have w1' := W1.out
  have w2' := W2.out
  have w3' := W3.out
  have w4' := W4.out
  go_wp2_with fail
  go_region_held3 (fun w' => w'.cell? ⟨w2.heap.size, 0, none⟩ = some (.int .i64 (l : Int)) ∧ w'.cell? ⟨w2.heap.size, 1, none⟩ = some (.int .i64 (c : Int)) ∧ w'.cell? ⟨w2.heap.size, 2, none⟩ = some (.int .i64 (p : Int)) ∧ w'.cell? ⟨w3.heap.size, 0, none⟩ = some (.int .i64 (l : Int)) ∧ w'.cell? ⟨w3.heap.size, 1, none⟩ = some (.int .i64 (c : Int)) ∧ w'.cell? ⟨w3.heap.size, 2, none⟩ = some (.int .i64 (p : Int)))
    (first | assumption | go_keep)
    (first
      | (go_at_call 13; ((with_reducible refine (HM.out _ _ (hC.no (K4.trans' K5).drew)).mono ?_); rintro e w6 ⟨rfl, hk6⟩); have s6 := PC.six (K5.drew.trans' hk6) PP.out)
      | (go_at_call 14; ((with_reducible refine (HS.out _ _ (hC.no ((K4.trans' K5).drew.trans' hk6))).mono ?_); rintro e w7 ⟨rfl, hk7⟩); have s7 := PC.six ((K5.drew.trans' hk6).trans' hk7) PP.out)
      | (go_at_call 8; ((with_reducible refine (awake8_any _).mono ?_); rintro e w9 ⟨rfl, k9⟩); have s9 := PC.six (((K5.drew.trans' hk6).trans' hk7).trans' k9) PP.out))
  clear w1' w2' w3' w4'
  have K9 : Kp No w4 w9 := ((K5.drew.trans' hk6).trans' hk7).trans' k9
  go_wp2_with fail
  go_ret
  exact ⟨rfl, ((hk1.trans' K4).trans' K9).below0⟩
set_option maxHeartbeats 4000000 in
theorem plans_e1 {n k a d q : Nat} {x : Nat → UInt8} (w : World) (hD : Dim n k a d q) (hX : Pts n a x) (len pc : Int) {l c p : Nat} (hO : OfR q len pc l c p 1) : Calls Try.prog 3 #[.int .i64 (n : Int), .int .i64 (k : Int), .int .i64 len, .int .i64 pc] w (R8 w) := by
  have hR : Rgt (n : Int) (k : Int) := by have := hD.k_; have := hD.d_; have := hD.n1; have := hD.n2; have := hD.a7; have := hD.a1; unfold Rgt; omega
  have hr := rright_yes (n : Int) (k : Int) w hR
  have HN := hide (mnew_yes w hD hX)
  have HO := hide (fun w' g (hC : CodeAt w' g n k x) => of_any hC hD hO)
  have HRO := hide (fun w' => rof_any w' hD hO)
  clear hR
  have HD := hide hD
  clear hD hX hO
  go_enter Try.func3, Try.ntmps3
  go_wp2_with fail
  refine hr.mono ?_
  rintro e w' ⟨rfl, rfl⟩
  clear hr
  go_wp2_with fail
  refine HN.out.mono ?_
  rintro e w1 ⟨g, rfl, hC, hk1⟩
  go_wp2_with fail
  refine (HO.out _ _ hC).mono ?_
  rintro e w2 ⟨rfl, hk2⟩
  go_wp2_with fail
  refine (HRO.out _).mono ?_
  rintro e w3 ⟨rfl, hk3⟩
  go_wp2_with fail
  refine (of_nil _ _ _).mono ?_
  rintro e w4 ⟨rfl, hk4⟩
  go_wp2_with fail
  have P1 : PC w4 w2.heap.size l c p := (PC.new w2 l c p _).no ((hk3.al _).trans' hk4)
  have P2 : PC w4 w3.heap.size l c p := (PC.new w3 l c p _).no hk4
  have K4 : Kp No w1 w4 := ((hk2.al _).trans' hk3 |>.al _).trans' hk4
  have PP := hide (And.intro P1 P2)
  clear P1 P2
  go_region_held3 (fun w' => w'.cell? ⟨w2.heap.size, 0, none⟩ = some (.int .i64 (l : Int)) ∧ w'.cell? ⟨w2.heap.size, 1, none⟩ = some (.int .i64 (c : Int)) ∧ w'.cell? ⟨w2.heap.size, 2, none⟩ = some (.int .i64 (p : Int)) ∧ w'.cell? ⟨w3.heap.size, 0, none⟩ = some (.int .i64 (l : Int)) ∧ w'.cell? ⟨w3.heap.size, 1, none⟩ = some (.int .i64 (c : Int)) ∧ w'.cell? ⟨w3.heap.size, 2, none⟩ = some (.int .i64 (p : Int)))
    (first | assumption | exact PC.six (((Kp.refl No w4).al _).drew) PP.out | go_keep)
    (first | (go_at_call 12; ((with_reducible refine (to_any _ _ _ _).mono ?_); rintro e w5 ⟨rfl, hk5⟩); have s5 := PC.six ((((Kp.refl No w4).al _).drew).trans' hk5) PP.out))
  have K5 : Kp No w4 w5 := (((Kp.refl No w4).al _).drew).trans' hk5
  go_wp2_with fail
  refine wp_region_noPanic ?_
  refine wp_region_held_drew (S := fun w' => Kp No w4 w') (by kernel_rfl) (K5.drew) (fun hHeld => ?_)
  refine wpAnyH_take (i := 0) (v := ?vpex1) (oi := ?opex1) ?hpex1 (by kernel_rfl) (by kernel_rfl) (by kernel_rfl) (fun _ _ _ h => h) (Or.inl ⟨?wpex1, ?ypex1⟩) hHeld ?rpex1
  case hpex1 => simp only [List.getElem?_toArray, List.getElem?_cons_zero, List.getElem?_cons_succ]; rfl
  case wpex1 => rfl
  case ypex1 => intro w hSw; (try dsimp only at hSw); go_simp; (try with_reducible rfl)
  simp only [Act.put, List.setIfInBounds_toArray, List.set_cons_zero, List.set_cons_succ]
  refine wpAnyH_take (i := 1) (v := ?vpex2) (oi := ?opex2) ?hpex2 (by kernel_rfl) (by kernel_rfl) (by kernel_rfl) (fun _ _ _ h => h) (Or.inl ⟨?wpex2, ?ypex2⟩) hHeld ?rpex2
  case hpex2 => simp only [List.getElem?_toArray, List.getElem?_cons_zero, List.getElem?_cons_succ]; rfl
  case wpex2 => rfl
  case ypex2 => intro w hSw; (try dsimp only at hSw); go_simp; (try with_reducible rfl)
  simp only [Act.put, List.setIfInBounds_toArray, List.set_cons_zero, List.set_cons_succ]
  refine wpAnyH_take (i := 2) (v := ?vpex3) (oi := ?opex3) ?hpex3 (by kernel_rfl) (by kernel_rfl) (by kernel_rfl) (fun _ _ _ h => h) (Or.inl ⟨?wpex3, ?ypex3⟩) hHeld ?rpex3
  case hpex3 => simp only [List.getElem?_toArray, List.getElem?_cons_zero, List.getElem?_cons_succ]; rfl
  case wpex3 => rfl
  case ypex3 => intro w hSw; (try dsimp only at hSw); go_simp; (try with_reducible rfl)
  simp only [Act.put, List.setIfInBounds_toArray, List.set_cons_zero, List.set_cons_succ]
  refine wpAnyH_take (i := 3) (v := undef) (oi := ?opex4) ?hpex4 (by kernel_rfl) (by kernel_rfl) (by kernel_rfl) (fun _ _ _ h => h) (Or.inr ⟨?wpex4, rfl⟩) hHeld ?rpex4
  case hpex4 => simp only [List.getElem?_toArray, List.getElem?_cons_zero, List.getElem?_cons_succ]; rfl
  case wpex4 => rfl
  simp only [Act.put, List.setIfInBounds_toArray, List.set_cons_zero, List.set_cons_succ]
  refine wpAnyH_take (i := 4) (v := undef) (oi := ?opex5) ?hpex5 (by kernel_rfl) (by kernel_rfl) (by kernel_rfl) (fun _ _ _ h => h) (Or.inr ⟨?wpex5, rfl⟩) hHeld ?rpex5
  case hpex5 => simp only [List.getElem?_toArray, List.getElem?_cons_zero, List.getElem?_cons_succ]; rfl
  case wpex5 => rfl
  simp only [Act.put, List.setIfInBounds_toArray, List.set_cons_zero, List.set_cons_succ]
  refine wpAnyH_take (i := 5) (v := undef) (oi := ?opex6) ?hpex6 (by kernel_rfl) (by kernel_rfl) (by kernel_rfl) (fun _ _ _ h => h) (Or.inr ⟨?wpex6, rfl⟩) hHeld ?rpex6
  case hpex6 => simp only [List.getElem?_toArray, List.getElem?_cons_zero, List.getElem?_cons_succ]; rfl
  case wpex6 => rfl
  simp only [Act.put, List.setIfInBounds_toArray, List.set_cons_zero, List.set_cons_succ]
  refine wpAnyH_take (i := 6) (v := undef) (oi := ?opex7) ?hpex7 (by kernel_rfl) (by kernel_rfl) (by kernel_rfl) (fun _ _ _ h => h) (Or.inr ⟨?wpex7, rfl⟩) hHeld ?rpex7
  case hpex7 => simp only [List.getElem?_toArray, List.getElem?_cons_zero, List.getElem?_cons_succ]; rfl
  case wpex7 => rfl
  simp only [Act.put, List.setIfInBounds_toArray, List.set_cons_zero, List.set_cons_succ]
  refine wpAnyH_take (i := 7) (v := undef) (oi := ?opex8) ?hpex8 (by kernel_rfl) (by kernel_rfl) (by kernel_rfl) (fun _ _ _ h => h) (Or.inr ⟨?wpex8, rfl⟩) hHeld ?rpex8
  case hpex8 => simp only [List.getElem?_toArray, List.getElem?_cons_zero, List.getElem?_cons_succ]; rfl
  case wpex8 => rfl
  simp only [Act.put, List.setIfInBounds_toArray, List.set_cons_zero, List.set_cons_succ]
  refine wpAnyH_take (i := 8) (v := undef) (oi := ?opex9) ?hpex9 (by kernel_rfl) (by kernel_rfl) (by kernel_rfl) (fun _ _ _ h => h) (Or.inr ⟨?wpex9, rfl⟩) hHeld ?rpex9
  case hpex9 => simp only [List.getElem?_toArray, List.getElem?_cons_zero, List.getElem?_cons_succ]; rfl
  case wpex9 => rfl
  simp only [Act.put, List.setIfInBounds_toArray, List.set_cons_zero, List.set_cons_succ]
  refine wpAnyH_take (i := 9) (v := undef) (oi := ?opex10) ?hpex10 (by kernel_rfl) (by kernel_rfl) (by kernel_rfl) (fun _ _ _ h => h) (Or.inr ⟨?wpex10, rfl⟩) hHeld ?rpex10
  case hpex10 => simp only [List.getElem?_toArray, List.getElem?_cons_zero, List.getElem?_cons_succ]; rfl
  case wpex10 => rfl
  simp only [Act.put, List.setIfInBounds_toArray, List.set_cons_zero, List.set_cons_succ]
  refine wpAnyH_take (i := 10) (v := undef) (oi := ?opex11) ?hpex11 (by kernel_rfl) (by kernel_rfl) (by kernel_rfl) (fun _ _ _ h => h) (Or.inr ⟨?wpex11, rfl⟩) hHeld ?rpex11
  case hpex11 => simp only [List.getElem?_toArray, List.getElem?_cons_zero, List.getElem?_cons_succ]; rfl
  case wpex11 => rfl
  simp only [Act.put, List.setIfInBounds_toArray, List.set_cons_zero, List.set_cons_succ]
  refine wpAnyH_take (i := 11) (v := undef) (oi := ?opex12) ?hpex12 (by kernel_rfl) (by kernel_rfl) (by kernel_rfl) (fun _ _ _ h => h) (Or.inr ⟨?wpex12, rfl⟩) hHeld ?rpex12
  case hpex12 => simp only [List.getElem?_toArray, List.getElem?_cons_zero, List.getElem?_cons_succ]; rfl
  case wpex12 => rfl
  simp only [Act.put, List.setIfInBounds_toArray, List.set_cons_zero, List.set_cons_succ]
  refine wpAnyH_take (i := 12) (v := undef) (oi := ?opex13) ?hpex13 (by kernel_rfl) (by kernel_rfl) (by kernel_rfl) (fun _ _ _ h => h) (Or.inr ⟨?wpex13, rfl⟩) hHeld ?rpex13
  case hpex13 => simp only [List.getElem?_toArray, List.getElem?_cons_zero, List.getElem?_cons_succ]; rfl
  case wpex13 => rfl
  simp only [Act.put, List.setIfInBounds_toArray, List.set_cons_zero, List.set_cons_succ]
  refine wpAnyH_take (i := 13) (v := undef) (oi := ?opex14) ?hpex14 (by kernel_rfl) (by kernel_rfl) (by kernel_rfl) (fun _ _ _ h => h) (Or.inr ⟨?wpex14, rfl⟩) hHeld ?rpex14
  case hpex14 => simp only [List.getElem?_toArray, List.getElem?_cons_zero, List.getElem?_cons_succ]; rfl
  case wpex14 => rfl
  simp only [Act.put, List.setIfInBounds_toArray, List.set_cons_zero, List.set_cons_succ]
  refine wpAnyH_take (i := 14) (v := undef) (oi := ?opex15) ?hpex15 (by kernel_rfl) (by kernel_rfl) (by kernel_rfl) (fun _ _ _ h => h) (Or.inr ⟨?wpex15, rfl⟩) hHeld ?rpex15
  case hpex15 => simp only [List.getElem?_toArray, List.getElem?_cons_zero, List.getElem?_cons_succ]; rfl
  case wpex15 => rfl
  simp only [Act.put, List.setIfInBounds_toArray, List.set_cons_zero, List.set_cons_succ]
  refine wpAnyH_take (i := 15) (v := undef) (oi := ?opex16) ?hpex16 (by kernel_rfl) (by kernel_rfl) (by kernel_rfl) (fun _ _ _ h => h) (Or.inr ⟨?wpex16, rfl⟩) hHeld ?rpex16
  case hpex16 => simp only [List.getElem?_toArray, List.getElem?_cons_zero, List.getElem?_cons_succ]; rfl
  case wpex16 => rfl
  simp only [Act.put, List.setIfInBounds_toArray, List.set_cons_zero, List.set_cons_succ]
  refine wpAnyH_take (i := 16) (v := undef) (oi := ?opex17) ?hpex17 (by kernel_rfl) (by kernel_rfl) (by kernel_rfl) (fun _ _ _ h => h) (Or.inr ⟨?wpex17, rfl⟩) hHeld ?rpex17
  case hpex17 => simp only [List.getElem?_toArray, List.getElem?_cons_zero, List.getElem?_cons_succ]; rfl
  case wpex17 => rfl
  simp only [Act.put, List.setIfInBounds_toArray, List.set_cons_zero, List.set_cons_succ]
  refine wpAnyH_take (i := 17) (v := undef) (oi := ?opex18) ?hpex18 (by kernel_rfl) (by kernel_rfl) (by kernel_rfl) (fun _ _ _ h => h) (Or.inr ⟨?wpex18, rfl⟩) hHeld ?rpex18
  case hpex18 => simp only [List.getElem?_toArray, List.getElem?_cons_zero, List.getElem?_cons_succ]; rfl
  case wpex18 => rfl
  simp only [Act.put, List.setIfInBounds_toArray, List.set_cons_zero, List.set_cons_succ]
  refine wpAnyH_take (i := 18) (v := undef) (oi := ?opex19) ?hpex19 (by kernel_rfl) (by kernel_rfl) (by kernel_rfl) (fun _ _ _ h => h) (Or.inr ⟨?wpex19, rfl⟩) hHeld ?rpex19
  case hpex19 => simp only [List.getElem?_toArray, List.getElem?_cons_zero, List.getElem?_cons_succ]; rfl
  case wpex19 => rfl
  simp only [Act.put, List.setIfInBounds_toArray, List.set_cons_zero, List.set_cons_succ]
  refine wpAnyH_take (i := 19) (v := undef) (oi := ?opex20) ?hpex20 (by kernel_rfl) (by kernel_rfl) (by kernel_rfl) (fun _ _ _ h => h) (Or.inr ⟨?wpex20, rfl⟩) hHeld ?rpex20
  case hpex20 => simp only [List.getElem?_toArray, List.getElem?_cons_zero, List.getElem?_cons_succ]; rfl
  case wpex20 => rfl
  simp only [Act.put, List.setIfInBounds_toArray, List.set_cons_zero, List.set_cons_succ]
  refine wpAnyH_take (i := 20) (v := undef) (oi := ?opex21) ?hpex21 (by kernel_rfl) (by kernel_rfl) (by kernel_rfl) (fun _ _ _ h => h) (Or.inr ⟨?wpex21, rfl⟩) hHeld ?rpex21
  case hpex21 => simp only [List.getElem?_toArray, List.getElem?_cons_zero, List.getElem?_cons_succ]; rfl
  case wpex21 => rfl
  simp only [Act.put, List.setIfInBounds_toArray, List.set_cons_zero, List.set_cons_succ]
  refine wpAnyH_take (i := 21) (v := undef) (oi := ?opex22) ?hpex22 (by kernel_rfl) (by kernel_rfl) (by kernel_rfl) (fun _ _ _ h => h) (Or.inr ⟨?wpex22, rfl⟩) hHeld ?rpex22
  case hpex22 => simp only [List.getElem?_toArray, List.getElem?_cons_zero, List.getElem?_cons_succ]; rfl
  case wpex22 => rfl
  simp only [Act.put, List.setIfInBounds_toArray, List.set_cons_zero, List.set_cons_succ]
  refine wpAnyH_take (i := 22) (v := undef) (oi := ?opex23) ?hpex23 (by kernel_rfl) (by kernel_rfl) (by kernel_rfl) (fun _ _ _ h => h) (Or.inr ⟨?wpex23, rfl⟩) hHeld ?rpex23
  case hpex23 => simp only [List.getElem?_toArray, List.getElem?_cons_zero, List.getElem?_cons_succ]; rfl
  case wpex23 => rfl
  simp only [Act.put, List.setIfInBounds_toArray, List.set_cons_zero, List.set_cons_succ]
  refine wpAnyH_take (i := 23) (v := undef) (oi := ?opex24) ?hpex24 (by kernel_rfl) (by kernel_rfl) (by kernel_rfl) (fun _ _ _ h => h) (Or.inr ⟨?wpex24, rfl⟩) hHeld ?rpex24
  case hpex24 => simp only [List.getElem?_toArray, List.getElem?_cons_zero, List.getElem?_cons_succ]; rfl
  case wpex24 => rfl
  simp only [Act.put, List.setIfInBounds_toArray, List.set_cons_zero, List.set_cons_succ]
  refine wpAnyH_take (i := 24) (v := undef) (oi := ?opex25) ?hpex25 (by kernel_rfl) (by kernel_rfl) (by kernel_rfl) (fun _ _ _ h => h) (Or.inr ⟨?wpex25, rfl⟩) hHeld ?rpex25
  case hpex25 => simp only [List.getElem?_toArray, List.getElem?_cons_zero, List.getElem?_cons_succ]; rfl
  case wpex25 => rfl
  simp only [Act.put, List.setIfInBounds_toArray, List.set_cons_zero, List.set_cons_succ]
  refine wpAnyH_take (i := 25) (v := ?vpex26) (oi := ?opex26) ?hpex26 (by kernel_rfl) (by kernel_rfl) (by kernel_rfl) (fun _ _ _ h => h) (Or.inl ⟨?wpex26, ?ypex26⟩) hHeld ?rpex26
  case hpex26 => simp only [List.getElem?_toArray, List.getElem?_cons_zero, List.getElem?_cons_succ]; rfl
  case wpex26 => rfl
  case ypex26 => intro w hSw; (try dsimp only at hSw); go_simp; (try with_reducible rfl)
  simp only [Act.put, List.setIfInBounds_toArray, List.set_cons_zero, List.set_cons_succ]
  refine wpAnyH_take (i := 26) (v := ?vpex27) (oi := ?opex27) ?hpex27 (by kernel_rfl) (by kernel_rfl) (by kernel_rfl) (fun _ _ _ h => h) (Or.inl ⟨?wpex27, ?ypex27⟩) hHeld ?rpex27
  case hpex27 => simp only [List.getElem?_toArray, List.getElem?_cons_zero, List.getElem?_cons_succ]; rfl
  case wpex27 => rfl
  case ypex27 => intro w hSw; (try dsimp only at hSw); go_simp; (try with_reducible rfl)
  simp only [Act.put, List.setIfInBounds_toArray, List.set_cons_zero, List.set_cons_succ]
  refine wpAnyH_ready (rs := [27]) (by kernel_rfl) (by simp) ?_
  refine AllReadyH.cons (o := ?opex28) ?hpex28 (fun K hK => ?spex28) AllReadyH.nil
  case hpex28 => simp only [List.getElem?_toArray, List.getElem?_cons_zero, List.getElem?_cons_succ]; rfl
  go_simp
  refine (awake8_any _).mono ?_
  rintro e w9 ⟨rfl, k9⟩
  refine hK.out _ _ (K5.drew.trans' k9) (fun hHeld => ?_)
  clear hK K
  try simp only [Act.put, List.setIfInBounds_toArray, List.set_cons_zero, List.set_cons_succ]
  refine wpAnyH_take (i := 28) (v := ?vpex29) (oi := ?opex29) ?hpex29 (by kernel_rfl) (by kernel_rfl) (by kernel_rfl) (fun _ _ _ h => h) (Or.inl ⟨?wpex29, ?ypex29⟩) hHeld ?rpex29
  case hpex29 => simp only [List.getElem?_toArray, List.getElem?_cons_zero, List.getElem?_cons_succ]; rfl
  case wpex29 => rfl
  case ypex29 => intro w hSw; (try dsimp only at hSw); go_simp; (try with_reducible rfl)
  simp only [Act.put, List.setIfInBounds_toArray, List.set_cons_zero, List.set_cons_succ]
  refine wpAnyH_take (i := 29) (v := ?vpex30) (oi := ?opex30) ?hpex30 (by kernel_rfl) (by kernel_rfl) (by kernel_rfl) (fun _ _ _ h => h) (Or.inl ⟨?wpex30, ?ypex30⟩) hHeld ?rpex30
  case hpex30 => simp only [List.getElem?_toArray, List.getElem?_cons_zero, List.getElem?_cons_succ]; rfl
  case wpex30 => rfl
  case ypex30 => intro w hSw; (try dsimp only at hSw); go_simp; (try with_reducible rfl)
  simp only [Act.put, List.setIfInBounds_toArray, List.set_cons_zero, List.set_cons_succ]
  refine wpAnyH_done (by kernel_rfl) ?_ _
  refine NoPanic.normal ?_
  have K9 : Kp No w4 w9 := K5.drew.trans' k9
  go_wp2_with fail
  go_ret
  exact ⟨rfl, ((hk1.trans' K4).trans' K9).below0⟩
set_option maxHeartbeats 4000000 in
theorem plans_e29 {n k a d q : Nat} {x : Nat → UInt8} (w : World) (hD : Dim n k a d q) (hX : Pts n a x) (len pc : Int) {l c p : Nat} (hO : OfR q len pc l c p 29) : Calls Try.prog 3 #[.int .i64 (n : Int), .int .i64 (k : Int), .int .i64 len, .int .i64 pc] w (R8 w) := by
  have hR : Rgt (n : Int) (k : Int) := by have := hD.k_; have := hD.d_; have := hD.n1; have := hD.n2; have := hD.a7; have := hD.a1; unfold Rgt; omega
  have hr := rright_yes (n : Int) (k : Int) w hR
  have HN := hide (mnew_yes w hD hX)
  have HO := hide (fun w' g (hC : CodeAt w' g n k x) => of_any hC hD hO)
  have HRO := hide (fun w' => rof_any w' hD hO)
  clear hR
  have HD := hide hD
  clear hD hX hO
  go_enter Try.func3, Try.ntmps3
  go_wp2_with fail
  refine hr.mono ?_
  rintro e w' ⟨rfl, rfl⟩
  clear hr
  go_wp2_with fail
  refine HN.out.mono ?_
  rintro e w1 ⟨g, rfl, hC, hk1⟩
  go_wp2_with fail
  refine (HO.out _ _ hC).mono ?_
  rintro e w2 ⟨rfl, hk2⟩
  go_wp2_with fail
  refine (HRO.out _).mono ?_
  rintro e w3 ⟨rfl, hk3⟩
  go_wp2_with fail
  refine (of_nil _ _ _).mono ?_
  rintro e w4 ⟨rfl, hk4⟩
  go_wp2_with fail
  have P1 : PC w4 w2.heap.size l c p := (PC.new w2 l c p _).no ((hk3.al _).trans' hk4)
  have P2 : PC w4 w3.heap.size l c p := (PC.new w3 l c p _).no hk4
  have K4 : Kp No w1 w4 := ((hk2.al _).trans' hk3 |>.al _).trans' hk4
  have PP := hide (And.intro P1 P2)
  clear P1 P2
  go_region_held3 (fun w' => w'.cell? ⟨w2.heap.size, 0, none⟩ = some (.int .i64 (l : Int)) ∧ w'.cell? ⟨w2.heap.size, 1, none⟩ = some (.int .i64 (c : Int)) ∧ w'.cell? ⟨w2.heap.size, 2, none⟩ = some (.int .i64 (p : Int)) ∧ w'.cell? ⟨w3.heap.size, 0, none⟩ = some (.int .i64 (l : Int)) ∧ w'.cell? ⟨w3.heap.size, 1, none⟩ = some (.int .i64 (c : Int)) ∧ w'.cell? ⟨w3.heap.size, 2, none⟩ = some (.int .i64 (p : Int)))
    (first | assumption | exact PC.six (((Kp.refl No w4).al _).drew) PP.out | go_keep)
    (first | (go_at_call 12; ((with_reducible refine (to_any _ _ _ _).mono ?_); rintro e w5 ⟨rfl, hk5⟩); have s5 := PC.six ((((Kp.refl No w4).al _).drew).trans' hk5) PP.out))
  have K5 : Kp No w4 w5 := (((Kp.refl No w4).al _).drew).trans' hk5
  go_wp2_with fail
  refine wp_region_noPanic ?_
  refine wp_region_held_drew (S := fun w' => Kp No w4 w') (by kernel_rfl) (K5.drew) (fun hHeld => ?_)
  refine wpAnyH_take (i := 0) (v := ?vpex1) (oi := ?opex1) ?hpex1 (by kernel_rfl) (by kernel_rfl) (by kernel_rfl) (fun _ _ _ h => h) (Or.inl ⟨?wpex1, ?ypex1⟩) hHeld ?rpex1
  case hpex1 => simp only [List.getElem?_toArray, List.getElem?_cons_zero, List.getElem?_cons_succ]; rfl
  case wpex1 => rfl
  case ypex1 => intro w hSw; (try dsimp only at hSw); go_simp; (try with_reducible rfl)
  simp only [Act.put, List.setIfInBounds_toArray, List.set_cons_zero, List.set_cons_succ]
  refine wpAnyH_take (i := 1) (v := ?vpex2) (oi := ?opex2) ?hpex2 (by kernel_rfl) (by kernel_rfl) (by kernel_rfl) (fun _ _ _ h => h) (Or.inl ⟨?wpex2, ?ypex2⟩) hHeld ?rpex2
  case hpex2 => simp only [List.getElem?_toArray, List.getElem?_cons_zero, List.getElem?_cons_succ]; rfl
  case wpex2 => rfl
  case ypex2 => intro w hSw; (try dsimp only at hSw); go_simp; (try with_reducible rfl)
  simp only [Act.put, List.setIfInBounds_toArray, List.set_cons_zero, List.set_cons_succ]
  refine wpAnyH_take (i := 2) (v := ?vpex3) (oi := ?opex3) ?hpex3 (by kernel_rfl) (by kernel_rfl) (by kernel_rfl) (fun _ _ _ h => h) (Or.inl ⟨?wpex3, ?ypex3⟩) hHeld ?rpex3
  case hpex3 => simp only [List.getElem?_toArray, List.getElem?_cons_zero, List.getElem?_cons_succ]; rfl
  case wpex3 => rfl
  case ypex3 => intro w hSw; (try dsimp only at hSw); go_simp; (try with_reducible rfl)
  simp only [Act.put, List.setIfInBounds_toArray, List.set_cons_zero, List.set_cons_succ]
  refine wpAnyH_take (i := 3) (v := undef) (oi := ?opex4) ?hpex4 (by kernel_rfl) (by kernel_rfl) (by kernel_rfl) (fun _ _ _ h => h) (Or.inr ⟨?wpex4, rfl⟩) hHeld ?rpex4
  case hpex4 => simp only [List.getElem?_toArray, List.getElem?_cons_zero, List.getElem?_cons_succ]; rfl
  case wpex4 => rfl
  simp only [Act.put, List.setIfInBounds_toArray, List.set_cons_zero, List.set_cons_succ]
  refine wpAnyH_take (i := 4) (v := undef) (oi := ?opex5) ?hpex5 (by kernel_rfl) (by kernel_rfl) (by kernel_rfl) (fun _ _ _ h => h) (Or.inr ⟨?wpex5, rfl⟩) hHeld ?rpex5
  case hpex5 => simp only [List.getElem?_toArray, List.getElem?_cons_zero, List.getElem?_cons_succ]; rfl
  case wpex5 => rfl
  simp only [Act.put, List.setIfInBounds_toArray, List.set_cons_zero, List.set_cons_succ]
  refine wpAnyH_take (i := 5) (v := undef) (oi := ?opex6) ?hpex6 (by kernel_rfl) (by kernel_rfl) (by kernel_rfl) (fun _ _ _ h => h) (Or.inr ⟨?wpex6, rfl⟩) hHeld ?rpex6
  case hpex6 => simp only [List.getElem?_toArray, List.getElem?_cons_zero, List.getElem?_cons_succ]; rfl
  case wpex6 => rfl
  simp only [Act.put, List.setIfInBounds_toArray, List.set_cons_zero, List.set_cons_succ]
  refine wpAnyH_take (i := 6) (v := undef) (oi := ?opex7) ?hpex7 (by kernel_rfl) (by kernel_rfl) (by kernel_rfl) (fun _ _ _ h => h) (Or.inr ⟨?wpex7, rfl⟩) hHeld ?rpex7
  case hpex7 => simp only [List.getElem?_toArray, List.getElem?_cons_zero, List.getElem?_cons_succ]; rfl
  case wpex7 => rfl
  simp only [Act.put, List.setIfInBounds_toArray, List.set_cons_zero, List.set_cons_succ]
  refine wpAnyH_take (i := 7) (v := undef) (oi := ?opex8) ?hpex8 (by kernel_rfl) (by kernel_rfl) (by kernel_rfl) (fun _ _ _ h => h) (Or.inr ⟨?wpex8, rfl⟩) hHeld ?rpex8
  case hpex8 => simp only [List.getElem?_toArray, List.getElem?_cons_zero, List.getElem?_cons_succ]; rfl
  case wpex8 => rfl
  simp only [Act.put, List.setIfInBounds_toArray, List.set_cons_zero, List.set_cons_succ]
  refine wpAnyH_take (i := 8) (v := undef) (oi := ?opex9) ?hpex9 (by kernel_rfl) (by kernel_rfl) (by kernel_rfl) (fun _ _ _ h => h) (Or.inr ⟨?wpex9, rfl⟩) hHeld ?rpex9
  case hpex9 => simp only [List.getElem?_toArray, List.getElem?_cons_zero, List.getElem?_cons_succ]; rfl
  case wpex9 => rfl
  simp only [Act.put, List.setIfInBounds_toArray, List.set_cons_zero, List.set_cons_succ]
  refine wpAnyH_take (i := 9) (v := undef) (oi := ?opex10) ?hpex10 (by kernel_rfl) (by kernel_rfl) (by kernel_rfl) (fun _ _ _ h => h) (Or.inr ⟨?wpex10, rfl⟩) hHeld ?rpex10
  case hpex10 => simp only [List.getElem?_toArray, List.getElem?_cons_zero, List.getElem?_cons_succ]; rfl
  case wpex10 => rfl
  simp only [Act.put, List.setIfInBounds_toArray, List.set_cons_zero, List.set_cons_succ]
  refine wpAnyH_take (i := 10) (v := undef) (oi := ?opex11) ?hpex11 (by kernel_rfl) (by kernel_rfl) (by kernel_rfl) (fun _ _ _ h => h) (Or.inr ⟨?wpex11, rfl⟩) hHeld ?rpex11
  case hpex11 => simp only [List.getElem?_toArray, List.getElem?_cons_zero, List.getElem?_cons_succ]; rfl
  case wpex11 => rfl
  simp only [Act.put, List.setIfInBounds_toArray, List.set_cons_zero, List.set_cons_succ]
  refine wpAnyH_take (i := 11) (v := undef) (oi := ?opex12) ?hpex12 (by kernel_rfl) (by kernel_rfl) (by kernel_rfl) (fun _ _ _ h => h) (Or.inr ⟨?wpex12, rfl⟩) hHeld ?rpex12
  case hpex12 => simp only [List.getElem?_toArray, List.getElem?_cons_zero, List.getElem?_cons_succ]; rfl
  case wpex12 => rfl
  simp only [Act.put, List.setIfInBounds_toArray, List.set_cons_zero, List.set_cons_succ]
  refine wpAnyH_take (i := 12) (v := undef) (oi := ?opex13) ?hpex13 (by kernel_rfl) (by kernel_rfl) (by kernel_rfl) (fun _ _ _ h => h) (Or.inr ⟨?wpex13, rfl⟩) hHeld ?rpex13
  case hpex13 => simp only [List.getElem?_toArray, List.getElem?_cons_zero, List.getElem?_cons_succ]; rfl
  case wpex13 => rfl
  simp only [Act.put, List.setIfInBounds_toArray, List.set_cons_zero, List.set_cons_succ]
  refine wpAnyH_take (i := 13) (v := undef) (oi := ?opex14) ?hpex14 (by kernel_rfl) (by kernel_rfl) (by kernel_rfl) (fun _ _ _ h => h) (Or.inr ⟨?wpex14, rfl⟩) hHeld ?rpex14
  case hpex14 => simp only [List.getElem?_toArray, List.getElem?_cons_zero, List.getElem?_cons_succ]; rfl
  case wpex14 => rfl
  simp only [Act.put, List.setIfInBounds_toArray, List.set_cons_zero, List.set_cons_succ]
  refine wpAnyH_take (i := 14) (v := undef) (oi := ?opex15) ?hpex15 (by kernel_rfl) (by kernel_rfl) (by kernel_rfl) (fun _ _ _ h => h) (Or.inr ⟨?wpex15, rfl⟩) hHeld ?rpex15
  case hpex15 => simp only [List.getElem?_toArray, List.getElem?_cons_zero, List.getElem?_cons_succ]; rfl
  case wpex15 => rfl
  simp only [Act.put, List.setIfInBounds_toArray, List.set_cons_zero, List.set_cons_succ]
  refine wpAnyH_take (i := 15) (v := undef) (oi := ?opex16) ?hpex16 (by kernel_rfl) (by kernel_rfl) (by kernel_rfl) (fun _ _ _ h => h) (Or.inr ⟨?wpex16, rfl⟩) hHeld ?rpex16
  case hpex16 => simp only [List.getElem?_toArray, List.getElem?_cons_zero, List.getElem?_cons_succ]; rfl
  case wpex16 => rfl
  simp only [Act.put, List.setIfInBounds_toArray, List.set_cons_zero, List.set_cons_succ]
  refine wpAnyH_take (i := 16) (v := undef) (oi := ?opex17) ?hpex17 (by kernel_rfl) (by kernel_rfl) (by kernel_rfl) (fun _ _ _ h => h) (Or.inr ⟨?wpex17, rfl⟩) hHeld ?rpex17
  case hpex17 => simp only [List.getElem?_toArray, List.getElem?_cons_zero, List.getElem?_cons_succ]; rfl
  case wpex17 => rfl
  simp only [Act.put, List.setIfInBounds_toArray, List.set_cons_zero, List.set_cons_succ]
  refine wpAnyH_take (i := 17) (v := undef) (oi := ?opex18) ?hpex18 (by kernel_rfl) (by kernel_rfl) (by kernel_rfl) (fun _ _ _ h => h) (Or.inr ⟨?wpex18, rfl⟩) hHeld ?rpex18
  case hpex18 => simp only [List.getElem?_toArray, List.getElem?_cons_zero, List.getElem?_cons_succ]; rfl
  case wpex18 => rfl
  simp only [Act.put, List.setIfInBounds_toArray, List.set_cons_zero, List.set_cons_succ]
  refine wpAnyH_take (i := 18) (v := undef) (oi := ?opex19) ?hpex19 (by kernel_rfl) (by kernel_rfl) (by kernel_rfl) (fun _ _ _ h => h) (Or.inr ⟨?wpex19, rfl⟩) hHeld ?rpex19
  case hpex19 => simp only [List.getElem?_toArray, List.getElem?_cons_zero, List.getElem?_cons_succ]; rfl
  case wpex19 => rfl
  simp only [Act.put, List.setIfInBounds_toArray, List.set_cons_zero, List.set_cons_succ]
  refine wpAnyH_take (i := 19) (v := undef) (oi := ?opex20) ?hpex20 (by kernel_rfl) (by kernel_rfl) (by kernel_rfl) (fun _ _ _ h => h) (Or.inr ⟨?wpex20, rfl⟩) hHeld ?rpex20
  case hpex20 => simp only [List.getElem?_toArray, List.getElem?_cons_zero, List.getElem?_cons_succ]; rfl
  case wpex20 => rfl
  simp only [Act.put, List.setIfInBounds_toArray, List.set_cons_zero, List.set_cons_succ]
  refine wpAnyH_take (i := 20) (v := undef) (oi := ?opex21) ?hpex21 (by kernel_rfl) (by kernel_rfl) (by kernel_rfl) (fun _ _ _ h => h) (Or.inr ⟨?wpex21, rfl⟩) hHeld ?rpex21
  case hpex21 => simp only [List.getElem?_toArray, List.getElem?_cons_zero, List.getElem?_cons_succ]; rfl
  case wpex21 => rfl
  simp only [Act.put, List.setIfInBounds_toArray, List.set_cons_zero, List.set_cons_succ]
  refine wpAnyH_take (i := 21) (v := undef) (oi := ?opex22) ?hpex22 (by kernel_rfl) (by kernel_rfl) (by kernel_rfl) (fun _ _ _ h => h) (Or.inr ⟨?wpex22, rfl⟩) hHeld ?rpex22
  case hpex22 => simp only [List.getElem?_toArray, List.getElem?_cons_zero, List.getElem?_cons_succ]; rfl
  case wpex22 => rfl
  simp only [Act.put, List.setIfInBounds_toArray, List.set_cons_zero, List.set_cons_succ]
  refine wpAnyH_take (i := 22) (v := undef) (oi := ?opex23) ?hpex23 (by kernel_rfl) (by kernel_rfl) (by kernel_rfl) (fun _ _ _ h => h) (Or.inr ⟨?wpex23, rfl⟩) hHeld ?rpex23
  case hpex23 => simp only [List.getElem?_toArray, List.getElem?_cons_zero, List.getElem?_cons_succ]; rfl
  case wpex23 => rfl
  simp only [Act.put, List.setIfInBounds_toArray, List.set_cons_zero, List.set_cons_succ]
  refine wpAnyH_take (i := 23) (v := undef) (oi := ?opex24) ?hpex24 (by kernel_rfl) (by kernel_rfl) (by kernel_rfl) (fun _ _ _ h => h) (Or.inr ⟨?wpex24, rfl⟩) hHeld ?rpex24
  case hpex24 => simp only [List.getElem?_toArray, List.getElem?_cons_zero, List.getElem?_cons_succ]; rfl
  case wpex24 => rfl
  simp only [Act.put, List.setIfInBounds_toArray, List.set_cons_zero, List.set_cons_succ]
  refine wpAnyH_take (i := 24) (v := undef) (oi := ?opex25) ?hpex25 (by kernel_rfl) (by kernel_rfl) (by kernel_rfl) (fun _ _ _ h => h) (Or.inr ⟨?wpex25, rfl⟩) hHeld ?rpex25
  case hpex25 => simp only [List.getElem?_toArray, List.getElem?_cons_zero, List.getElem?_cons_succ]; rfl
  case wpex25 => rfl
  simp only [Act.put, List.setIfInBounds_toArray, List.set_cons_zero, List.set_cons_succ]
  refine wpAnyH_take (i := 25) (v := ?vpex26) (oi := ?opex26) ?hpex26 (by kernel_rfl) (by kernel_rfl) (by kernel_rfl) (fun _ _ _ h => h) (Or.inl ⟨?wpex26, ?ypex26⟩) hHeld ?rpex26
  case hpex26 => simp only [List.getElem?_toArray, List.getElem?_cons_zero, List.getElem?_cons_succ]; rfl
  case wpex26 => rfl
  case ypex26 => intro w hSw; (try dsimp only at hSw); go_simp; (try with_reducible rfl)
  simp only [Act.put, List.setIfInBounds_toArray, List.set_cons_zero, List.set_cons_succ]
  refine wpAnyH_take (i := 26) (v := ?vpex27) (oi := ?opex27) ?hpex27 (by kernel_rfl) (by kernel_rfl) (by kernel_rfl) (fun _ _ _ h => h) (Or.inl ⟨?wpex27, ?ypex27⟩) hHeld ?rpex27
  case hpex27 => simp only [List.getElem?_toArray, List.getElem?_cons_zero, List.getElem?_cons_succ]; rfl
  case wpex27 => rfl
  case ypex27 => intro w hSw; (try dsimp only at hSw); go_simp; (try with_reducible rfl)
  simp only [Act.put, List.setIfInBounds_toArray, List.set_cons_zero, List.set_cons_succ]
  refine wpAnyH_ready (rs := [27]) (by kernel_rfl) (by simp) ?_
  refine AllReadyH.cons (o := ?opex28) ?hpex28 (fun K hK => ?spex28) AllReadyH.nil
  case hpex28 => simp only [List.getElem?_toArray, List.getElem?_cons_zero, List.getElem?_cons_succ]; rfl
  go_simp
  refine (awake8_any _).mono ?_
  rintro e w9 ⟨rfl, k9⟩
  refine hK.out _ _ (K5.drew.trans' k9) (fun hHeld => ?_)
  clear hK K
  try simp only [Act.put, List.setIfInBounds_toArray, List.set_cons_zero, List.set_cons_succ]
  refine wpAnyH_take (i := 28) (v := ?vpex29) (oi := ?opex29) ?hpex29 (by kernel_rfl) (by kernel_rfl) (by kernel_rfl) (fun _ _ _ h => h) (Or.inl ⟨?wpex29, ?ypex29⟩) hHeld ?rpex29
  case hpex29 => simp only [List.getElem?_toArray, List.getElem?_cons_zero, List.getElem?_cons_succ]; rfl
  case wpex29 => rfl
  case ypex29 => intro w hSw; (try dsimp only at hSw); go_simp; (try with_reducible rfl)
  simp only [Act.put, List.setIfInBounds_toArray, List.set_cons_zero, List.set_cons_succ]
  refine wpAnyH_take (i := 29) (v := ?vpex30) (oi := ?opex30) ?hpex30 (by kernel_rfl) (by kernel_rfl) (by kernel_rfl) (fun _ _ _ h => h) (Or.inl ⟨?wpex30, ?ypex30⟩) hHeld ?rpex30
  case hpex30 => simp only [List.getElem?_toArray, List.getElem?_cons_zero, List.getElem?_cons_succ]; rfl
  case wpex30 => rfl
  case ypex30 => intro w hSw; (try dsimp only at hSw); go_simp; (try with_reducible rfl)
  simp only [Act.put, List.setIfInBounds_toArray, List.set_cons_zero, List.set_cons_succ]
  refine wpAnyH_done (by kernel_rfl) ?_ _
  refine NoPanic.normal ?_
  have K9 : Kp No w4 w9 := K5.drew.trans' k9
  go_wp2_with fail
  go_ret
  exact ⟨rfl, ((hk1.trans' K4).trans' K9).below0⟩
theorem stripeplans_walk {w : World} (n k len pc : Int) : Calls Try.prog 3 #[.int .i64 n, .int .i64 k, .int .i64 len, .int .i64 pc] w fun e w' => e = .returned (.bool true) ∧ Below w.heap.size w w' := by
  show Calls _ _ _ _ (R8 w)
  by_cases hR : Rgt n k
  · obtain ⟨r1, r2, r3, r4⟩ := hR
    obtain ⟨n', rfl⟩ : ∃ n' : Nat, n = n' := ⟨n.toNat, by omega⟩
    obtain ⟨k', rfl⟩ : ∃ k' : Nat, k = k' := ⟨k.toNat, by omega⟩
    obtain ⟨a, d, q, hD⟩ := dim_of (n := n') (k := k') (by omega) (by omega) (by omega) (by omega)
    obtain ⟨x, hX⟩ := pts_ex (n := n') hD.a1 hD.a7 hD.n2
    have hq := hD.q56
    obtain ⟨l, c, p, e, hO⟩ := ofR_ex q (by omega) len pc
    rcases hO.err with ⟨rfl, _⟩ | ⟨rfl | rfl, _⟩
    · have hP := hO.pln hq.1
      have hb := hP.fb hq.2.1
      refine plans_ok w hD hX len pc hO (f := q * p) (f2 := a * p) rfl rfl (by omega) ?_
      have := Nat.mul_le_mul_right p hq.2.2
      omega
    · exact plans_e1 w hD hX len pc hO
    · exact plans_e29 w hD hX len pc hO
  · exact plans_not w n k len pc hR
end Go.Proofs.Ytcdmljlangbloaa
