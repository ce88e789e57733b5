/- SiteTurns: turned points lie as far from each other as ahead, and four turns are none. -/
import Derived.Test.YthbnomemknnmeaaSpv
namespace Go.Proofs.Ythbnomemknnmeaa
open Go.RowKit
set_option linter.unusedVariables false
set_option linter.unusedSimpArgs false
set_option maxRecDepth 100000

theorem far_turn (m : Nat) (hm : m < 4) (x y z t : Int) : farZ (trX m x y) (trY m x y) (trX m z t) (trY m z t) = farZ x y z t := by
  have e : ∀ a b : Int, (-a + b) * (-a + b) = (a - b) * (a - b) := fun a b => by
    rw [show -a + b = -(a - b) by omega, Int.neg_mul_neg]
  unfold farZ trX trY
  match m, hm with
  | 0, _ => simp
  | 1, _ => simp [e]; exact Int.add_comm _ _
  | 2, _ => simp [e]
  | 3, _ => simp [e]; exact Int.add_comm _ _
theorem tr_bnd (m : Nat) {x y : Int} (hx : Alw x) (hy : Alw y) : Alw (trX m x y) ∧ Alw (trY m x y) := by
  unfold Alw trX trY at *
  constructor <;> repeat' split
  all_goals omega
theorem tr_back (n k : Int) (hk : k = n.tmod 4) (x y : Int) : trX (q4 (4 - k)) (trX (q4 k) x y) (trY (q4 k) x y) = x ∧ trY (q4 (4 - k)) (trX (q4 k) x y) (trY (q4 k) x y) = y := by
  have l1 := Int.lt_tmod_of_pos n (b := 4) (by decide)
  have l2 := Int.tmod_lt_of_pos n (b := 4) (by decide)
  rw [← hk] at l1 l2
  clear hk
  have h : k = 0 ∨ k = 1 ∨ k = 2 ∨ k = 3 ∨ k = -1 ∨ k = -2 ∨ k = -3 := by omega
  rcases h with rfl | rfl | rfl | rfl | rfl | rfl | rfl <;> simp [q4, trX, trY]
section
variable (w : World) (x y z t n : Int)
theorem trn_no (h : ¬ (Alw x ∧ Alw y)) : Calls Try.prog 5 #[rpV x y, rpV z t, .int .i64 n] w (R9 w) := by
  have HR := hide (fun w => rright_no w x y h)
  clear h
  go_enter Try.func5, Try.ntmps5
  go_wp2_with fail
  refine (HR.out _).mono ?_
  rintro e w1 ⟨rfl, hk1⟩
  go_wp2_with fail
  refine (awake9_any _).mono ?_
  rintro e w9 ⟨rfl, rfl⟩
  go_wp2_with fail
  go_ret
  exact ⟨rfl, ((((Kp.refl No _).al _).al _).trans' hk1).below0⟩
theorem trn_b (hx : Alw x) (hy : Alw y) (h : ¬ (Alw z ∧ Alw t)) : Calls Try.prog 5 #[rpV x y, rpV z t, .int .i64 n] w (R9 w) := by
  have HR := hide (fun w => rright_pt w x y hx hy)
  have HRB := hide (fun w => rright_no w z t h)
  have P0 : Pt2 ((w.alloc (.cells #[.int .i64 x, .int .i64 y] 23)).alloc (.cells #[.int .i64 z, .int .i64 t] 23)) w.heap.size x y ∧ Pt2 ((w.alloc (.cells #[.int .i64 x, .int .i64 y] 23)).alloc (.cells #[.int .i64 z, .int .i64 t] 23)) (w.alloc (.cells #[.int .i64 x, .int .i64 y] 23)).heap.size z t :=
    ⟨(Pt2.new w x y _).no (Kp.alloc No _ _), Pt2.new _ z t _⟩
  have K0 := ((Kp.refl No w).al (.cells #[.int .i64 x, .int .i64 y] 23)).al (.cells #[.int .i64 z, .int .i64 t] 23)
  have hwq : (w.alloc (.cells #[.int .i64 x, .int .i64 y] 23)).heap.size = w.heap.size + 1 := by simp
  rw [hwq] at P0
  clear hwq
  clear hx hy h
  go_enter Try.func5, Try.ntmps5
  go_wp2_with fail
  generalize hb1 : w.heap.size = b1 at P0 ⊢
  generalize ((w.alloc (.cells #[.int .i64 x, .int .i64 y] 23)).alloc (.cells #[.int .i64 z, .int .i64 t] 23)) = w0 at P0 K0 ⊢
  clear hb1
  have PP := hide P0
  clear P0
  refine (HR.out _).mono ?_
  rintro e w1 ⟨rfl, hk1⟩
  obtain ⟨c1, c2, c3, c4⟩ := Pt2.four hk1 PP.out
  go_wp2_with fail
  refine (HRB.out _).mono ?_
  rintro e w2 ⟨rfl, hk2⟩
  go_wp2_with fail
  refine (awake9_any _).mono ?_
  rintro e w9 ⟨rfl, rfl⟩
  go_wp2_with fail
  go_ret
  exact ⟨rfl, ((K0.trans' hk1).trans' hk2).below0⟩
set_option maxHeartbeats 2000000 in
theorem trn_two (hx : Alw x) (hy : Alw y) (hz : Alw z) (ht : Alw t) : Calls Try.prog 5 #[rpV x y, rpV z t, .int .i64 n] w (R9 w) := by
  have HR := hide (fun w => rright_pt w x y hx hy)
  have HRB := hide (fun w => rright_pt w z t hz ht)
  have HA := hide (fun w => at_yes w x y hx hy)
  have HB := hide (fun w => at_yes w z t hz ht)
  have HF := hide (fun w => far_any w (Fl.at_ hx) (Fl.at_ hy) (Fl.at_ hz) (Fl.at_ ht) (by unfold Alw at *; omega) (by unfold Alw at *; omega))
  have HT := hide (fun w => turned_any w (Fl.at_ hx) (Fl.at_ hy) n)
  have HU := hide (fun w => turned_any w (Fl.at_ hz) (Fl.at_ ht) n)
  have HF2 := hide (fun w (a b c d : Nat) (h1 : Fl a (trX (q4 n) x y)) (h2 : Fl b (trY (q4 n) x y)) (h3 : Fl c (trX (q4 n) z t)) (h4 : Fl d (trY (q4 n) z t)) => far_any w h1 h2 h3 h4 (by have := tr_bnd (q4 n) hx hy; have := tr_bnd (q4 n) hz ht; unfold Alw at *; omega) (by have := tr_bnd (q4 n) hx hy; have := tr_bnd (q4 n) hz ht; unfold Alw at *; omega))
  rw [far_turn (q4 n) (q4_lt n)] at HF2
  have hk1 := Int.lt_tmod_of_pos n (b := 4) (by decide)
  have hk2 := Int.tmod_lt_of_pos n (b := 4) (by decide)
  obtain ⟨k, hk⟩ : ∃ k, k = n.tmod 4 := ⟨_, rfl⟩
  have HV := hide (fun w => turned_any w (Fl.at_ hx) (Fl.at_ hy) k)
  have hbk := tr_back n k hk x y
  have HX := hide (fun w (a b : Nat) (h1 : Fl a (trX (q4 k) x y)) (h2 : Fl b (trY (q4 k) x y)) => turned_any w h1 h2 (4 - k))
  rw [hbk.1, hbk.2] at HX
  have HO := hide (fun (a b : Nat) (h1 : Fl a x) (h2 : Fl b y) => And.intro (h1.same (Fl.at_ hx)) (h2.same (Fl.at_ hy)))
  rw [← hk] at hk1 hk2
  have hkk : n.tmod 4 = k := hk.symm
  have P0 : Pt2 ((w.alloc (.cells #[.int .i64 x, .int .i64 y] 23)).alloc (.cells #[.int .i64 z, .int .i64 t] 23)) w.heap.size x y ∧ Pt2 ((w.alloc (.cells #[.int .i64 x, .int .i64 y] 23)).alloc (.cells #[.int .i64 z, .int .i64 t] 23)) (w.alloc (.cells #[.int .i64 x, .int .i64 y] 23)).heap.size z t :=
    ⟨(Pt2.new w x y _).no (Kp.alloc No _ _), Pt2.new _ z t _⟩
  have K0 := ((Kp.refl No w).al (.cells #[.int .i64 x, .int .i64 y] 23)).al (.cells #[.int .i64 z, .int .i64 t] 23)
  have hwq : (w.alloc (.cells #[.int .i64 x, .int .i64 y] 23)).heap.size = w.heap.size + 1 := by simp
  rw [hwq] at P0
  clear hwq
  clear hx hy hz ht hbk hk
  generalize floatOfInt .f64 x = fx at HA HF HT HV HO
  generalize floatOfInt .f64 y = fy at HA HF HT HV HO
  generalize floatOfInt .f64 z = fz at HB HF HU
  generalize floatOfInt .f64 t = ft at HB HF HU
  generalize farZ x y z t = far at HF HF2
  generalize trX (q4 n) x y = x1 at HT HF2
  generalize trY (q4 n) x y = y1 at HT HF2
  generalize trX (q4 n) z t = z1 at HU HF2
  generalize trY (q4 n) z t = t1 at HU HF2
  generalize trX (q4 k) x y = x2 at HV HX
  generalize trY (q4 k) x y = y2 at HV HX
  go_enter Try.func5, Try.ntmps5
  go_wp2_with fail
  generalize hb1 : w.heap.size = b1 at P0 ⊢
  generalize ((w.alloc (.cells #[.int .i64 x, .int .i64 y] 23)).alloc (.cells #[.int .i64 z, .int .i64 t] 23)) = w0 at P0 K0 ⊢
  clear hb1
  have PP := hide P0
  clear P0
  refine (HR.out _).mono ?_
  rintro e w1 ⟨rfl, hk1'⟩
  obtain ⟨c1, c2, c3, c4⟩ := Pt2.four hk1' PP.out
  go_wp2_with fail
  refine (HRB.out _).mono ?_
  rintro e w2 ⟨rfl, hk2'⟩
  clear c1 c2 c3 c4
  obtain ⟨c1, c2, c3, c4⟩ := Pt2.four (hk1'.trans' hk2') PP.out
  go_wp2_with fail
  refine (HA.out _).mono ?_
  rintro e w' ⟨rfl, rfl⟩
  go_wp2_with fail
  refine (HB.out _).mono ?_
  rintro e w' ⟨rfl, rfl⟩
  go_wp2_with fail
  refine (HT.out _).mono ?_
  rintro e w' ⟨a1, b1', rfl, f1, f2, rfl⟩
  have G1 := hide (And.intro f1 f2)
  clear f1 f2
  go_wp2_with fail
  refine (HU.out _).mono ?_
  rintro e w' ⟨a2, b2, rfl, f1, f2, rfl⟩
  have G2 := hide (HF2.out w2 _ _ _ _ G1.out.1 G1.out.2 f1 f2)
  clear f1 f2
  go_wp2_with fail
  refine G2.out.mono ?_
  rintro e w' ⟨rfl, rfl⟩
  go_wp2_with fail
  refine (HF.out _).mono ?_
  rintro e w' ⟨rfl, rfl⟩
  go_wp2_with fail
  refine (HV.out _).mono ?_
  rintro e w' ⟨a3, b3, rfl, f1, f2, rfl⟩
  have G3 := hide (HX.out w2 a3 b3 f1 f2)
  clear f1 f2
  go_wp2_with fail
  refine G3.out.mono ?_
  rintro e w' ⟨a4, b4, rfl, f1, f2, rfl⟩
  obtain ⟨o1, o2⟩ := HO.out _ _ f1 f2
  clear f1 f2
  go_wp2_with fail
  refine (awake9_any _).mono ?_
  rintro e w9 ⟨rfl, rfl⟩
  go_wp2_with fail
  go_ret
  exact ⟨rfl, ((K0.trans' hk1').trans' hk2').below0⟩
end
theorem siteturns_walk (x y z t n : Int) (w : World) : Calls Try.prog 5 #[rpV x y, rpV z t, .int .i64 n] w fun e w' => e = .returned (.bool true) ∧ Below w.heap.size w w' := by
  by_cases h1 : Alw x ∧ Alw y
  · by_cases h2 : Alw z ∧ Alw t
    · exact trn_two w x y z t n h1.1 h1.2 h2.1 h2.2
    · exact trn_b w x y z t n h1.1 h1.2 h2
  · exact trn_no w x y z t n h1
end Go.Proofs.Ythbnomemknnmeaa
