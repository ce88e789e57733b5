/- SitePoints: which points there are, how far any two lie from each other, and every one turned. -/
import Derived.Test.YthbnomemknnmeaaSpu
import Derived.Deep.RegionHeld3
namespace Go.Proofs.Ythbnomemknnmeaa
open Go.RowKit
set_option linter.unusedVariables false
set_option linter.unusedSimpArgs false
set_option maxRecDepth 100000

/-- The law's end. -/
def R9 (w : World) (e : Ending) (w1 : World) : Prop := e = .returned (.bool true) ∧ Below w.heap.size w w1
/-- A point of the document's in memory. -/
structure Pt2 (w : World) (b : Nat) (x y : Int) : Prop where
  c0 : w.cell? ⟨b, 0, none⟩ = some (.int .i64 x)
  c1 : w.cell? ⟨b, 1, none⟩ = some (.int .i64 y)
theorem Pt2.no {w w1 : World} {b : Nat} {x y : Int} (h : Pt2 w b x y) (hk : Kp No w w1) : Pt2 w1 b x y := ⟨hk.cell h.c0 (fun f => f), hk.cell h.c1 (fun f => f)⟩
theorem Pt2.new (w : World) (x y : Int) (t : TypeId) : Pt2 (w.alloc (.cells #[.int .i64 x, .int .i64 y] t)) w.heap.size x y := ⟨by simp, by simp⟩
theorem Pt2.four {W w1 : World} {b b' : Nat} {x y z t : Int} (hk : Kp No W w1) (h : Pt2 W b x y ∧ Pt2 W b' z t) : w1.cell? ⟨b, 0, none⟩ = some (.int .i64 x) ∧ w1.cell? ⟨b, 1, none⟩ = some (.int .i64 y) ∧ w1.cell? ⟨b', 0, none⟩ = some (.int .i64 z) ∧ w1.cell? ⟨b', 1, none⟩ = some (.int .i64 t) :=
  ⟨(h.1.no hk).c0, (h.1.no hk).c1, (h.2.no hk).c0, (h.2.no hk).c1⟩
theorem Fl.same {a b : Nat} {x : Int} (ha : Fl a x) (hb : Fl b x) : (FloatKind.f64.format.order a b == some .eq) = true := by rw [ha.order hb]; simp

section
variable (w : World) (x y z t n : Int)
theorem pts_no (h : ¬ (Alw x ∧ Alw y)) : Calls Try.prog 3 #[rpV x y, rpV z t, .int .i64 n] w (R9 w) := by
  have HA := hide (fun w => at_no w x y h)
  have HR := hide (fun w => rright_no w x y h)
  have hz := Fl.same Fl.zero Fl.zero
  clear h
  go_enter Try.func3, Try.ntmps3
  go_wp2_with fail
  refine (HA.out _).mono ?_
  rintro e w' ⟨rfl, rfl⟩
  go_wp2_with fail
  refine (HR.out _).mono ?_
  rintro e w1 ⟨rfl, hk1⟩
  go_wp2_with fail
  refine (awake9_any _).mono ?_
  rintro e w9 ⟨rfl, rfl⟩
  go_wp2_with fail
  go_ret
  exact ⟨rfl, ((((Kp.refl No _).al _).al _).trans' hk1).below0⟩
/-- The first point is one. -/
theorem pts_b (hx : Alw x) (hy : Alw y) (h : ¬ (Alw z ∧ Alw t)) : Calls Try.prog 3 #[rpV x y, rpV z t, .int .i64 n] w (R9 w) := by
  have HA := hide (fun w => at_yes w x y hx hy)
  have HR := hide (fun w => rright_pt w x y hx hy)
  have HB := hide (fun w => at_no w z t h)
  have HRB := hide (fun w => rright_no w z t h)
  have HI := hide (fun w => is_any w x y (Fl.at_ hx) (Fl.at_ hy))
  have P0 : Pt2 ((w.alloc (.cells #[.int .i64 x, .int .i64 y] 23)).alloc (.cells #[.int .i64 z, .int .i64 t] 23)) w.heap.size x y ∧ Pt2 ((w.alloc (.cells #[.int .i64 x, .int .i64 y] 23)).alloc (.cells #[.int .i64 z, .int .i64 t] 23)) (w.alloc (.cells #[.int .i64 x, .int .i64 y] 23)).heap.size z t :=
    ⟨(Pt2.new w x y _).no (Kp.alloc No _ _), Pt2.new _ z t _⟩
  have K0 := ((Kp.refl No w).al (.cells #[.int .i64 x, .int .i64 y] 23)).al (.cells #[.int .i64 z, .int .i64 t] 23)
  have hwq : (w.alloc (.cells #[.int .i64 x, .int .i64 y] 23)).heap.size = w.heap.size + 1 := by simp
  rw [hwq] at P0
  clear hwq
  clear hx hy h
  generalize floatOfInt .f64 x = fx at HA HI
  generalize floatOfInt .f64 y = fy at HA HI
  go_enter Try.func3, Try.ntmps3
  go_wp2_with fail
  generalize hb1 : w.heap.size = b1 at P0 ⊢
  generalize ((w.alloc (.cells #[.int .i64 x, .int .i64 y] 23)).alloc (.cells #[.int .i64 z, .int .i64 t] 23)) = w0 at P0 K0 ⊢
  clear hb1
  have PP := hide P0
  clear P0
  refine (HA.out _).mono ?_
  rintro e w' ⟨rfl, rfl⟩
  obtain ⟨c1, c2, c3, c4⟩ := Pt2.four (Kp.refl No _) PP.out
  go_wp2_with fail
  refine (HR.out _).mono ?_
  rintro e w1 ⟨rfl, hk1⟩
  clear c1 c2 c3 c4
  obtain ⟨c1, c2, c3, c4⟩ := Pt2.four hk1 PP.out
  go_wp2_with fail
  refine (HI.out _).mono ?_
  rintro e w2 ⟨rfl, hk2⟩
  clear c1 c2 c3 c4
  obtain ⟨c1, c2, c3, c4⟩ := Pt2.four (hk1.trans' hk2) PP.out
  go_wp2_with fail
  refine (HB.out _).mono ?_
  rintro e w' ⟨rfl, rfl⟩
  go_wp2_with fail
  refine (HRB.out _).mono ?_
  rintro e w3 ⟨rfl, hk3⟩
  go_wp2_with fail
  refine (awake9_any _).mono ?_
  rintro e w9 ⟨rfl, rfl⟩
  go_wp2_with fail
  go_ret
  exact ⟨rfl, (((K0.trans' hk1).trans' hk2).trans' hk3).below0⟩
set_option maxHeartbeats 2000000 in
/-- Both points are points. -/
theorem pts_two (hx : Alw x) (hy : Alw y) (hz : Alw z) (ht : Alw t) : Calls Try.prog 3 #[rpV x y, rpV z t, .int .i64 n] w (R9 w) := by
  have HA := hide (fun w => at_yes w x y hx hy)
  have HR := hide (fun w => rright_pt w x y hx hy)
  have HB := hide (fun w => at_yes w z t hz ht)
  have HI := hide (fun w => is_any w x y (Fl.at_ hx) (Fl.at_ hy))
  have HF := hide (fun w => far_any w (Fl.at_ hx) (Fl.at_ hy) (Fl.at_ hz) (Fl.at_ ht) (by unfold Alw at *; omega) (by unfold Alw at *; omega))
  have HRF := hide (fun w => rfar_any w x y z t (by unfold Alw at *; omega) (by unfold Alw at *; omega) (by unfold Alw at *; omega))
  have HT := hide (fun w => turned_any w (Fl.at_ hx) (Fl.at_ hy) n)
  have HRT := hide (fun w => rturned_any w x y n hx hy)
  have P0 : Pt2 ((w.alloc (.cells #[.int .i64 x, .int .i64 y] 23)).alloc (.cells #[.int .i64 z, .int .i64 t] 23)) w.heap.size x y ∧ Pt2 ((w.alloc (.cells #[.int .i64 x, .int .i64 y] 23)).alloc (.cells #[.int .i64 z, .int .i64 t] 23)) (w.alloc (.cells #[.int .i64 x, .int .i64 y] 23)).heap.size z t :=
    ⟨(Pt2.new w x y _).no (Kp.alloc No _ _), Pt2.new _ z t _⟩
  have K0 := ((Kp.refl No w).al (.cells #[.int .i64 x, .int .i64 y] 23)).al (.cells #[.int .i64 z, .int .i64 t] 23)
  have hwq : (w.alloc (.cells #[.int .i64 x, .int .i64 y] 23)).heap.size = w.heap.size + 1 := by simp
  rw [hwq] at P0
  clear hwq
  clear hx hy hz ht
  generalize floatOfInt .f64 x = fx at HA HI HF HT
  generalize floatOfInt .f64 y = fy at HA HI HF HT
  generalize floatOfInt .f64 z = fz at HB HF
  generalize floatOfInt .f64 t = ft at HB HF
  generalize farZ x y z t = far at HF HRF
  generalize trX (q4 n) x y = rx at HT HRT
  generalize trY (q4 n) x y = ry at HT HRT
  go_enter Try.func3, Try.ntmps3
  go_wp2_with fail
  generalize hb1 : w.heap.size = b1 at P0 ⊢
  generalize ((w.alloc (.cells #[.int .i64 x, .int .i64 y] 23)).alloc (.cells #[.int .i64 z, .int .i64 t] 23)) = w0 at P0 K0 ⊢
  clear hb1
  have PP := hide P0
  clear P0
  refine (HA.out _).mono ?_
  rintro e w' ⟨rfl, rfl⟩
  obtain ⟨c1, c2, c3, c4⟩ := Pt2.four (Kp.refl No _) PP.out
  go_wp2_with fail
  refine (HR.out _).mono ?_
  rintro e w1 ⟨rfl, hk1⟩
  clear c1 c2 c3 c4
  obtain ⟨c1, c2, c3, c4⟩ := Pt2.four hk1 PP.out
  go_wp2_with fail
  refine (HI.out _).mono ?_
  rintro e w2 ⟨rfl, hk2⟩
  clear c1 c2 c3 c4
  obtain ⟨c1, c2, c3, c4⟩ := Pt2.four (hk1.trans' hk2) PP.out
  go_wp2_with fail
  refine (HB.out _).mono ?_
  rintro e w' ⟨rfl, rfl⟩
  clear c1 c2 c3 c4
  have K2 := hk1.trans' hk2
  have KW := hide (K0.trans' K2)
  have PQ : Hid (Pt2 w2 b1 x y ∧ Pt2 w2 (b1 + 1) z t) := hide ⟨PP.out.1.no K2, PP.out.2.no K2⟩
  clear PP K2 hk1 hk2 HA HR HB
  go_wp2_with fail
  go_region_held3 (fun w' => w'.cell? ⟨b1, 0, none⟩ = some (.int .i64 x) ∧ w'.cell? ⟨b1, 1, none⟩ = some (.int .i64 y) ∧ w'.cell? ⟨b1 + 1, 0, none⟩ = some (.int .i64 z) ∧ w'.cell? ⟨b1 + 1, 1, none⟩ = some (.int .i64 t))
    (first | assumption | exact Pt2.four ((Kp.refl No _).drew) PQ.out | go_keep)
    (first
      | (go_at_call 10; ((with_reducible refine (HF.out _).mono ?_); rintro e w4 ⟨rfl, rfl⟩))
      | (go_at_call 11; ((with_reducible refine (HRF.out _).mono ?_); rintro e w5 ⟨rfl, hk5⟩); have s5 := Pt2.four ((Kp.refl No _).drew.trans' hk5) PQ.out)
      | (go_at_call 12; ((with_reducible refine (HT.out _).mono ?_); rintro e w6 ⟨re, im, rfl, fre, fim, rfl⟩); have HE := hide (And.intro fre fim); clear fre fim)
      | (go_at_call 13; ((with_reducible refine (HRT.out _).mono ?_); rintro e w7 ⟨rfl, hk7⟩); have s7 := Pt2.four (((Kp.refl No _).drew.trans' hk5).trans' hk7) PQ.out)
      | (go_at_call 9; ((with_reducible refine (is_any _ _ _ HE.out.1 HE.out.2).mono ?_); rintro e w8 ⟨rfl, hk8⟩); have s8 := Pt2.four ((((Kp.refl No _).drew.trans' hk5).trans' hk7).trans' hk8) PQ.out)
      | (go_at_call 8; ((with_reducible refine (awake9_any _).mono ?_); rintro e w9 ⟨rfl, rfl⟩)))
  go_wp2_with fail
  go_ret
  exact ⟨rfl, ((((KW.out.drew).trans' hk5).trans' hk7).trans' hk8).below0⟩
end
theorem sitepoints_walk (x y z t n : Int) (w : World) : Calls Try.prog 3 #[rpV x y, rpV z t, .int .i64 n] w fun e w' => e = .returned (.bool true) ∧ Below w.heap.size w w' := by
  by_cases h1 : Alw x ∧ Alw y
  · by_cases h2 : Alw z ∧ Alw t
    · exact pts_two w x y z t n h1.1 h1.2 h2.1 h2.2
    · exact pts_b w x y z t n h1.1 h1.2 h2
  · exact pts_no w x y z t n h1
end Go.Proofs.Ythbnomemknnmeaa
