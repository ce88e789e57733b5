/- Package stripe's Of, as a contract over memory. -/
import Derived.Test.YtcdmljlangbloaaSta
namespace Go.Proofs.Ytcdmljlangbloaa
open Go.RowKit
set_option linter.unusedVariables false
set_option linter.unusedSimpArgs false
set_option maxRecDepth 100000

theorem Kp.fresh {w w1 : World} {p : Addr} (h : Kp No w w1) (hp : w.heap.size ≤ p.block) (u : Value) : Kp No w (w1.setCell p u) := h.trans (Kp.setCell (S := Up No w) (.inr hp) u)
theorem Kp.al {w w1 : World} (h : Kp No w w1) (o : Obj) : Kp No w (w1.alloc o) := h.trans' (Kp.alloc No _ _)
theorem Kp.rd {W w1 : World} (hk : Kp No W w1) : (∀ b o, b < W.heap.size → w1.cell? ⟨b, o, none⟩ = W.cell? ⟨b, o, none⟩) ∧ (∀ b o, b < W.heap.size → w1.frozen? ⟨b, o, none⟩ = W.frozen? ⟨b, o, none⟩) :=
  ⟨fun b o h => hk.below0.cell (p := ⟨b, o, none⟩) h, fun b o h => hk.below0.frozen (p := ⟨b, o, none⟩) h⟩
/-- A plan comes back, and an error's number. -/
def OfPost (w : World) (l c p e : Nat) (en : Ending) (w1 : World) : Prop := en = .returned (.tuple #[plV (l : Int) (c : Int) (p : Int), .int .i64 (e : Int)]) ∧ Kp No w w1
section
variable {w : World} {g n k a d q : Nat} {x : Nat → UInt8}
theorem of_nil (w : World) (l p : Int) : Calls Try.prog 10 #[.pointer none, .int .i64 l, .int .i64 p] w (OfPost w 0 0 0 1) := by
  have HQ := hide (fun w' => qq_nil w')
  go_enter Try.func10, Try.ntmps10
  go_wp2_with fail
  refine (HQ.out _).mono ?_
  rintro e w' ⟨rfl, rfl⟩
  go_wp2_with fail
  exact bodyPost_ret (v := .tuple #[plV 0 0 0, .int .i64 1]) (by simp [results, Try.results10, go_sem]) rfl ⟨rfl, (by repeat (first | exact Kp.refl _ _ | assumption | refine Kp.fresh ?_ (by simp) _ | refine Kp.al ?_ _))⟩
theorem of_arg (h : CodeAt w g n k x) (hD : Dim n k a d q) (l p : Int) (hb : l < 0 ∨ p < 1 ∨ 256 < p) : Calls Try.prog 10 #[cptr g, .int .i64 l, .int .i64 p] w (OfPost w 0 0 0 1) := by
  have hq0 : ((q : Int) == 0) = false := by have := hD.q56; simp; omega
  have HQ := hide (fun w' (hk : Kp No w w') => qq_any (h.no hk) hD)
  have HB := hide hb
  clear h hD hb
  by_cases h1 : l < 0
  · go_enter Try.func10, Try.ntmps10
    go_wp2_with fail
    refine (HQ.out _ ((Kp.refl _ _).al _)).mono ?_
    rintro e w' ⟨rfl, rfl⟩
    go_wp2_with fail
    exact bodyPost_ret (v := .tuple #[plV 0 0 0, .int .i64 1]) (by simp [results, Try.results10, go_sem]) rfl ⟨rfl, (by repeat (first | exact Kp.refl _ _ | assumption | refine Kp.fresh ?_ (by simp) _ | refine Kp.al ?_ _))⟩
  have h1 : 0 ≤ l := by omega
  by_cases h2 : p < 1
  · go_enter Try.func10, Try.ntmps10
    go_wp2_with fail
    refine (HQ.out _ ((Kp.refl _ _).al _)).mono ?_
    rintro e w' ⟨rfl, rfl⟩
    go_wp2_with fail
    exact bodyPost_ret (v := .tuple #[plV 0 0 0, .int .i64 1]) (by simp [results, Try.results10, go_sem]) rfl ⟨rfl, (by repeat (first | exact Kp.refl _ _ | assumption | refine Kp.fresh ?_ (by simp) _ | refine Kp.al ?_ _))⟩
  have h2 : 1 ≤ p := by omega
  have h3 : 256 < p := by have := HB.out; omega
  go_enter Try.func10, Try.ntmps10
  go_wp2_with fail
  refine (HQ.out _ ((Kp.refl _ _).al _)).mono ?_
  rintro e w' ⟨rfl, rfl⟩
  go_wp2_with fail
  exact bodyPost_ret (v := .tuple #[plV 0 0 0, .int .i64 1]) (by simp [results, Try.results10, go_sem]) rfl ⟨rfl, (by repeat (first | exact Kp.refl _ _ | assumption | refine Kp.fresh ?_ (by simp) _ | refine Kp.al ?_ _))⟩
theorem of_long (h : CodeAt w g n k x) (hD : Dim n k a d q) (l p : Int) (h1 : 1 ≤ p) (h2 : p ≤ 256) (h3 : 16384 < l) : Calls Try.prog 10 #[cptr g, .int .i64 l, .int .i64 p] w (OfPost w 0 0 0 29) := by
  have hq0 : ((q : Int) == 0) = false := by have := hD.q56; simp; omega
  have HQ := hide (fun w' (hk : Kp No w w') => qq_any (h.no hk) hD)
  clear h hD
  go_enter Try.func10, Try.ntmps10
  go_wp2_with fail
  refine (HQ.out _ ((Kp.refl _ _).al _)).mono ?_
  rintro e w' ⟨rfl, rfl⟩
  go_wp2_with fail
  exact bodyPost_ret (v := .tuple #[plV 0 0 0, .int .i64 29]) (by simp [results, Try.results10, go_sem]) rfl ⟨rfl, (by repeat (first | exact Kp.refl _ _ | assumption | refine Kp.fresh ?_ (by simp) _ | refine Kp.al ?_ _))⟩
set_option maxHeartbeats 1000000 in
theorem of_many (h : CodeAt w g n k x) (hD : Dim n k a d q) (l p : Nat) (h0 : l ≤ 16384) (h1 : 1 ≤ p) (h2 : p ≤ 256) (h3 : 32 < cup l (q * p)) : Calls Try.prog 10 #[cptr g, .int .i64 (l : Int), .int .i64 (p : Int)] w (OfPost w 0 0 0 29) := by
  have hq0 : ((q : Int) == 0) = false := by have := hD.q56; simp; omega
  have hq2 : 2 ≤ q ∧ q ≤ 56 := by have := hD.q56; omega
  obtain ⟨f, hf⟩ : ∃ f, f = q * p := ⟨_, rfl⟩
  have hf1 : 1 ≤ f ∧ f ≤ 14336 := by rw [hf]; exact ⟨Nat.mul_pos (by omega) (by omega), Nat.mul_le_mul hq2.2 h2⟩
  obtain ⟨hf1, hf2⟩ := hf1
  rw [← hf] at h3
  have HQ := hide (fun w' (hk : Kp No w w') => qq_any (h.no hk) hD)
  have HM := hide (fun w' (hk : Kp No w w') (l c : Int) => msg_any (h.no hk) hD l c p f hf (by omega))
  have HU := hide (fun w' => quo_any w' l f (by omega) hf1 (by omega))
  have hcb : cup l f ≤ l := cup_bnd hf1
  generalize cup l f = z at *
  clear h hD hf
  go_enter Try.func10, Try.ntmps10
  go_wp2_with fail
  refine (HQ.out _ ((Kp.refl _ _).al _)).mono ?_
  rintro e w' ⟨rfl, rfl⟩
  go_wp2_with fail
  refine (HM.out _ ((Kp.refl _ _).al _ |>.al _) _ _).mono ?_
  rintro e w1 ⟨rfl, hk1⟩
  obtain ⟨hc1, hz1⟩ := hk1.rd
  have hs1 : w.heap.size + 1 < w1.heap.size := by have := hk1.size; simp at this; omega
  have e0 : w1.cell? ⟨w.heap.size, 0, none⟩ = some (.int .i64 0) := by simp [hc1, go_sem]
  have e1 : w1.cell? ⟨w.heap.size, 1, none⟩ = some (.int .i64 0) := by simp [hc1, go_sem]
  have e2 : w1.cell? ⟨w.heap.size, 2, none⟩ = some (.int .i64 0) := by simp [hc1, go_sem]
  have e3 : w1.cell? ⟨w.heap.size + 1, 0, none⟩ = some (.int .i64 l) := by simp [hc1, go_sem]
  have e4 : w1.cell? ⟨w.heap.size + 1, 1, none⟩ = some (.int .i64 0) := by simp [hc1, go_sem]
  have e5 : w1.cell? ⟨w.heap.size + 1, 2, none⟩ = some (.int .i64 p) := by simp [hc1, go_sem]
  go_wp2_with fail
  refine (HU.out _).mono ?_
  rintro e w' ⟨rfl, rfl⟩
  go_wp2_with fail
  exact bodyPost_ret (v := .tuple #[plV 0 0 0, .int .i64 29]) (by simp [results, Try.results10, go_sem, e0, e1, e2, e3, e4, e5, hz1]) rfl ⟨rfl, (by have hk := ((Kp.refl No w).al _ |>.al _).trans' hk1; repeat (first | exact Kp.refl _ _ | exact hk | refine Kp.fresh ?_ (by simp) _ | refine Kp.al ?_ _))⟩
set_option maxHeartbeats 1000000 in
theorem of_full (h : CodeAt w g n k x) (hD : Dim n k a d q) (l p : Nat) (h0 : l ≤ 16384) (h1 : 1 ≤ p) (h2 : p ≤ 256) (h3 : cup l (q * p) ≤ 32) (h4 : l = 0 ∨ q * p ≤ l) : Calls Try.prog 10 #[cptr g, .int .i64 (l : Int), .int .i64 (p : Int)] w (OfPost w l (cup l (q * p)) p 0) := by
  have hq0 : ((q : Int) == 0) = false := by have := hD.q56; simp; omega
  have hq2 : 2 ≤ q ∧ q ≤ 56 := by have := hD.q56; omega
  obtain ⟨f, hf⟩ : ∃ f, f = q * p := ⟨_, rfl⟩
  have hf1 : 1 ≤ f ∧ f ≤ 14336 := by rw [hf]; exact ⟨Nat.mul_pos (by omega) (by omega), Nat.mul_le_mul hq2.2 h2⟩
  obtain ⟨hf1, hf2⟩ := hf1
  rw [← hf] at h3 h4 ⊢
  have HQ := hide (fun w' (hk : Kp No w w') => qq_any (h.no hk) hD)
  have HM := hide (fun w' (hk : Kp No w w') (l c : Int) => msg_any (h.no hk) hD l c p f hf (by omega))
  have HU := hide (fun w' => quo_any w' l f (by omega) hf1 (by omega))
  have hcb : cup l f ≤ l := cup_bnd hf1
  generalize cup l f = z at *
  clear h hD hf
  have H4 := hide h4
  clear h4
  by_cases h5 : 0 < l
  · have h4 : f ≤ l := by have := H4.out; omega
    go_enter Try.func10, Try.ntmps10
    go_wp2_with fail
    refine (HQ.out _ ((Kp.refl _ _).al _)).mono ?_
    rintro e w' ⟨rfl, rfl⟩
    go_wp2_with fail
    refine (HM.out _ ((Kp.refl _ _).al _ |>.al _) _ _).mono ?_
    rintro e w1 ⟨rfl, hk1⟩
    obtain ⟨hc1, hz1⟩ := hk1.rd
    have hs1 : w.heap.size + 1 < w1.heap.size := by have := hk1.size; simp at this; omega
    have e0 : w1.cell? ⟨w.heap.size, 0, none⟩ = some (.int .i64 0) := by simp [hc1, go_sem]
    have e1 : w1.cell? ⟨w.heap.size, 1, none⟩ = some (.int .i64 0) := by simp [hc1, go_sem]
    have e2 : w1.cell? ⟨w.heap.size, 2, none⟩ = some (.int .i64 0) := by simp [hc1, go_sem]
    have e3 : w1.cell? ⟨w.heap.size + 1, 0, none⟩ = some (.int .i64 l) := by simp [hc1, go_sem]
    have e4 : w1.cell? ⟨w.heap.size + 1, 1, none⟩ = some (.int .i64 0) := by simp [hc1, go_sem]
    have e5 : w1.cell? ⟨w.heap.size + 1, 2, none⟩ = some (.int .i64 p) := by simp [hc1, go_sem]
    go_wp2_with fail
    refine (HU.out _).mono ?_
    rintro e w' ⟨rfl, rfl⟩
    go_wp2_with fail
    have hk2 : Kp No w (w1.setCell ⟨w.heap.size + 1, 1, none⟩ (.int .i64 (z : Int))) := Kp.fresh (((Kp.refl No w).al _ |>.al _).trans' hk1) (by simp) _
    refine (HM.out _ hk2 _ _).mono ?_
    rintro e w3 ⟨rfl, hk3⟩
    obtain ⟨hc3, hz3⟩ := hk3.rd
    have hs3 : w.heap.size + 1 < w3.heap.size := by have := hk3.size; simp at this; omega
    have y0 : w3.cell? ⟨w.heap.size, 0, none⟩ = some (.int .i64 0) := hk3.cell (by simp [e0, go_sem]) fun f => f
    have y1 : w3.cell? ⟨w.heap.size, 1, none⟩ = some (.int .i64 0) := hk3.cell (by simp [e1, go_sem]) fun f => f
    have y2 : w3.cell? ⟨w.heap.size, 2, none⟩ = some (.int .i64 0) := hk3.cell (by simp [e2, go_sem]) fun f => f
    have y3 : w3.cell? ⟨w.heap.size + 1, 0, none⟩ = some (.int .i64 l) := hk3.cell (by simp [e3, go_sem]) fun f => f
    have y4 : w3.cell? ⟨w.heap.size + 1, 1, none⟩ = some (.int .i64 z) := hk3.cell (by simp [e4, go_sem]) fun f => f
    have y5 : w3.cell? ⟨w.heap.size + 1, 2, none⟩ = some (.int .i64 p) := hk3.cell (by simp [e5, go_sem]) fun f => f
    have z0 : w3.frozen? ⟨w.heap.size, 0, none⟩ = false := (hk3.below0.frozen (p := ⟨w.heap.size, 0, none⟩) (by simp; omega)).trans (by simp [hz1, go_sem])
    have z1 : w3.frozen? ⟨w.heap.size, 1, none⟩ = false := (hk3.below0.frozen (p := ⟨w.heap.size, 1, none⟩) (by simp; omega)).trans (by simp [hz1, go_sem])
    have z2 : w3.frozen? ⟨w.heap.size, 2, none⟩ = false := (hk3.below0.frozen (p := ⟨w.heap.size, 2, none⟩) (by simp; omega)).trans (by simp [hz1, go_sem])
    have z3 : w3.frozen? ⟨w.heap.size + 1, 0, none⟩ = false := (hk3.below0.frozen (p := ⟨w.heap.size + 1, 0, none⟩) (by simp; omega)).trans (by simp [hz1, go_sem])
    have z4 : w3.frozen? ⟨w.heap.size + 1, 1, none⟩ = false := (hk3.below0.frozen (p := ⟨w.heap.size + 1, 1, none⟩) (by simp; omega)).trans (by simp [hz1, go_sem])
    have z5 : w3.frozen? ⟨w.heap.size + 1, 2, none⟩ = false := (hk3.below0.frozen (p := ⟨w.heap.size + 1, 2, none⟩) (by simp; omega)).trans (by simp [hz1, go_sem])
    go_wp2_with fail
    exact bodyPost_ret (v := .tuple #[plV l z p, .int .i64 0]) (by simp [results, Try.results10, go_sem, y0, y1, y2, y3, y4, y5, z0, z1, z2, z3, z4, z5]) rfl ⟨rfl, (by have hk := hk2.trans' hk3; repeat (first | exact hk | refine Kp.fresh ?_ (by simp) _ | refine Kp.al ?_ _))⟩
  · have h5 : l ≤ 0 := by omega
    go_enter Try.func10, Try.ntmps10
    go_wp2_with fail
    refine (HQ.out _ ((Kp.refl _ _).al _)).mono ?_
    rintro e w' ⟨rfl, rfl⟩
    go_wp2_with fail
    refine (HM.out _ ((Kp.refl _ _).al _ |>.al _) _ _).mono ?_
    rintro e w1 ⟨rfl, hk1⟩
    obtain ⟨hc1, hz1⟩ := hk1.rd
    have hs1 : w.heap.size + 1 < w1.heap.size := by have := hk1.size; simp at this; omega
    have e0 : w1.cell? ⟨w.heap.size, 0, none⟩ = some (.int .i64 0) := by simp [hc1, go_sem]
    have e1 : w1.cell? ⟨w.heap.size, 1, none⟩ = some (.int .i64 0) := by simp [hc1, go_sem]
    have e2 : w1.cell? ⟨w.heap.size, 2, none⟩ = some (.int .i64 0) := by simp [hc1, go_sem]
    have e3 : w1.cell? ⟨w.heap.size + 1, 0, none⟩ = some (.int .i64 l) := by simp [hc1, go_sem]
    have e4 : w1.cell? ⟨w.heap.size + 1, 1, none⟩ = some (.int .i64 0) := by simp [hc1, go_sem]
    have e5 : w1.cell? ⟨w.heap.size + 1, 2, none⟩ = some (.int .i64 p) := by simp [hc1, go_sem]
    go_wp2_with fail
    refine (HU.out _).mono ?_
    rintro e w' ⟨rfl, rfl⟩
    go_wp2_with fail
    exact bodyPost_ret (v := .tuple #[plV l z p, .int .i64 0]) (by simp [results, Try.results10, go_sem, e0, e1, e2, e3, e4, e5, hz1]) rfl ⟨rfl, (by have hk := ((Kp.refl No w).al _ |>.al _).trans' hk1; repeat (first | exact Kp.refl _ _ | exact hk | refine Kp.fresh ?_ (by simp) _ | refine Kp.al ?_ _))⟩
set_option maxHeartbeats 1000000 in
theorem of_short (h : CodeAt w g n k x) (hD : Dim n k a d q) (l p : Nat) (h0 : l ≤ 16384) (h1 : 1 ≤ p) (h2 : p ≤ 256) (h3 : 1 ≤ l) (h4 : l < q * p) : Calls Try.prog 10 #[cptr g, .int .i64 (l : Int), .int .i64 (p : Int)] w (OfPost w l 1 (cup l q) 0) := by
  have hq0 : ((q : Int) == 0) = false := by have := hD.q56; simp; omega
  have hq2 : 2 ≤ q ∧ q ≤ 56 := by have := hD.q56; omega
  obtain ⟨f, hf⟩ : ∃ f, f = q * p := ⟨_, rfl⟩
  have hf1 : 1 ≤ f ∧ f ≤ 14336 := by rw [hf]; exact ⟨Nat.mul_pos (by omega) (by omega), Nat.mul_le_mul hq2.2 h2⟩
  obtain ⟨hf1, hf2⟩ := hf1
  rw [← hf] at h4
  have HQ := hide (fun w' (hk : Kp No w w') => qq_any (h.no hk) hD)
  have HM := hide (fun w' (hk : Kp No w w') (l c : Int) => msg_any (h.no hk) hD l c p f hf (by omega))
  have HU := hide (fun w' => quo_any w' l f (by omega) hf1 (by omega))
  have HV := hide (fun w' => quo_any w' l q (by omega) (by omega) (by omega))
  have hz : cup l f = 1 := cup_one h3 (by omega)
  have hub : cup l q ≤ l := cup_bnd (by omega)
  rw [hz] at HU
  obtain ⟨z, hz1⟩ : ∃ z : Nat, z = 1 := ⟨1, rfl⟩
  rw [← hz1] at HU ⊢
  have hzz : z ≤ 32 := by omega
  generalize cup l q = u at *
  clear h hD hf hz hz1
  go_enter Try.func10, Try.ntmps10
  go_wp2_with fail
  refine (HQ.out _ ((Kp.refl _ _).al _)).mono ?_
  rintro e w' ⟨rfl, rfl⟩
  go_wp2_with fail
  refine (HM.out _ ((Kp.refl _ _).al _ |>.al _) _ _).mono ?_
  rintro e w1 ⟨rfl, hk1⟩
  obtain ⟨hc1, hz1⟩ := hk1.rd
  have hs1 : w.heap.size + 1 < w1.heap.size := by have := hk1.size; simp at this; omega
  have e0 : w1.cell? ⟨w.heap.size, 0, none⟩ = some (.int .i64 0) := by simp [hc1, go_sem]
  have e1 : w1.cell? ⟨w.heap.size, 1, none⟩ = some (.int .i64 0) := by simp [hc1, go_sem]
  have e2 : w1.cell? ⟨w.heap.size, 2, none⟩ = some (.int .i64 0) := by simp [hc1, go_sem]
  have e3 : w1.cell? ⟨w.heap.size + 1, 0, none⟩ = some (.int .i64 l) := by simp [hc1, go_sem]
  have e4 : w1.cell? ⟨w.heap.size + 1, 1, none⟩ = some (.int .i64 0) := by simp [hc1, go_sem]
  have e5 : w1.cell? ⟨w.heap.size + 1, 2, none⟩ = some (.int .i64 p) := by simp [hc1, go_sem]
  go_wp2_with fail
  refine (HU.out _).mono ?_
  rintro e w' ⟨rfl, rfl⟩
  go_wp2_with fail
  have hk2 : Kp No w (w1.setCell ⟨w.heap.size + 1, 1, none⟩ (.int .i64 (z : Int))) := Kp.fresh (((Kp.refl No w).al _ |>.al _).trans' hk1) (by simp) _
  refine (HM.out _ hk2 _ _).mono ?_
  rintro e w3 ⟨rfl, hk3⟩
  obtain ⟨hc3, hz3⟩ := hk3.rd
  have hs3 : w.heap.size + 1 < w3.heap.size := by have := hk3.size; simp at this; omega
  have y0 : w3.cell? ⟨w.heap.size, 0, none⟩ = some (.int .i64 0) := hk3.cell (by simp [e0, go_sem]) fun f => f
  have y1 : w3.cell? ⟨w.heap.size, 1, none⟩ = some (.int .i64 0) := hk3.cell (by simp [e1, go_sem]) fun f => f
  have y2 : w3.cell? ⟨w.heap.size, 2, none⟩ = some (.int .i64 0) := hk3.cell (by simp [e2, go_sem]) fun f => f
  have y3 : w3.cell? ⟨w.heap.size + 1, 0, none⟩ = some (.int .i64 l) := hk3.cell (by simp [e3, go_sem]) fun f => f
  have y4 : w3.cell? ⟨w.heap.size + 1, 1, none⟩ = some (.int .i64 z) := hk3.cell (by simp [e4, go_sem]) fun f => f
  have y5 : w3.cell? ⟨w.heap.size + 1, 2, none⟩ = some (.int .i64 p) := hk3.cell (by simp [e5, go_sem]) fun f => f
  have z0 : w3.frozen? ⟨w.heap.size, 0, none⟩ = false := (hk3.below0.frozen (p := ⟨w.heap.size, 0, none⟩) (by simp; omega)).trans (by simp [hz1, go_sem])
  have z1 : w3.frozen? ⟨w.heap.size, 1, none⟩ = false := (hk3.below0.frozen (p := ⟨w.heap.size, 1, none⟩) (by simp; omega)).trans (by simp [hz1, go_sem])
  have z2 : w3.frozen? ⟨w.heap.size, 2, none⟩ = false := (hk3.below0.frozen (p := ⟨w.heap.size, 2, none⟩) (by simp; omega)).trans (by simp [hz1, go_sem])
  have z3 : w3.frozen? ⟨w.heap.size + 1, 0, none⟩ = false := (hk3.below0.frozen (p := ⟨w.heap.size + 1, 0, none⟩) (by simp; omega)).trans (by simp [hz1, go_sem])
  have z4 : w3.frozen? ⟨w.heap.size + 1, 1, none⟩ = false := (hk3.below0.frozen (p := ⟨w.heap.size + 1, 1, none⟩) (by simp; omega)).trans (by simp [hz1, go_sem])
  have z5 : w3.frozen? ⟨w.heap.size + 1, 2, none⟩ = false := (hk3.below0.frozen (p := ⟨w.heap.size + 1, 2, none⟩) (by simp; omega)).trans (by simp [hz1, go_sem])
  go_wp2_with fail
  refine (HQ.out _ (hk2.trans' hk3)).mono ?_
  rintro e w' ⟨rfl, rfl⟩
  go_wp2_with fail
  refine (HV.out _).mono ?_
  rintro e w' ⟨rfl, rfl⟩
  go_wp2_with fail
  exact bodyPost_ret (v := .tuple #[plV l z u, .int .i64 0]) (by simp [results, Try.results10, go_sem, y0, y1, y2, y3, y4, y5, z0, z1, z2, z3, z4, z5]) rfl ⟨rfl, (by have hk := hk2.trans' hk3; repeat (first | exact hk | refine Kp.fresh ?_ (by simp) _ | refine Kp.al ?_ _))⟩
end
end Go.Proofs.Ytcdmljlangbloaa
