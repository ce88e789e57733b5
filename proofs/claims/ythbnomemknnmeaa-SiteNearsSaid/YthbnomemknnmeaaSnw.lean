/- SiteNears: which of any points are nearest, how far any two lie from each other at least, and all added. -/
import Derived.Test.YthbnomemknnmeaaSnt
import Derived.Test.YthbnomemknnmeaaSpv
namespace Go.Proofs.Ythbnomemknnmeaa
open Go.RowKit
set_option linter.unusedVariables false
set_option linter.unusedSimpArgs false
set_option maxRecDepth 100000

/-- The document's point in a block of the call's own. -/
def Bx2 (w : World) (b : Nat) (x y : Int) : Prop := w.heap[b]? = some (.cells #[.int .i64 x, .int .i64 y] 23 (0, 0))
section
variable {w w1 : World} {b : Nat} {x y z t : Int} {S : Nat → Prop}
theorem Bx2.c0 (h : Bx2 w b x y) : w.cell? ⟨b, 0, none⟩ = some (.int .i64 x) := by rw [cell_of_row w b 0 _ _ _ h]; rfl
theorem Bx2.c1 (h : Bx2 w b x y) : w.cell? ⟨b, 1, none⟩ = some (.int .i64 y) := by rw [cell_of_row w b 1 _ _ _ h]; rfl
theorem Bx2.frozen (h : Bx2 w b x y) (j : Nat) : w.frozen? ⟨b, j, none⟩ = false := frozen_of_row w b j _ _ h
theorem Bx2.keep (h : Bx2 w b x y) (hk : Kp S w w1) (hS : ¬ S b) : Bx2 w1 b x y := by
  unfold Bx2 at *
  rw [hk.block b (Array.getElem?_eq_some_iff.1 h).1 hS]
  exact h
theorem Bx2.new (w : World) (x y : Int) : Bx2 (w.alloc (.cells #[.int .i64 x, .int .i64 y] 23)) w.heap.size x y := heap_alloc_new w _
theorem Bx2.set (h : Bx2 w b x y) (z t : Int) : Bx2 ((w.setCell ⟨b, 0, none⟩ (.int .i64 z)).setCell ⟨b, 1, none⟩ (.int .i64 t)) b z t := by
  have h1 := heap_setCell_same w b 0 _ _ (.int .i64 z) h
  have h2 := heap_setCell_same _ b 1 _ _ (.int .i64 t) h1
  exact h2
theorem Bx2.kp (w : World) (b : Nat) (u v : Value) : Kp (On b) w ((w.setCell ⟨b, 0, none⟩ u).setCell ⟨b, 1, none⟩ v) := (IRow.kp b 0 u w).trans' (IRow.kp b 1 v _)
end
theorem two_keep {W w1 : World} {b : Nat} {x y : Int} (hk : Kp No W w1) (h : W.cell? ⟨b, 0, none⟩ = some (.int .i64 x) ∧ W.cell? ⟨b, 1, none⟩ = some (.int .i64 y)) : w1.cell? ⟨b, 0, none⟩ = some (.int .i64 x) ∧ w1.cell? ⟨b, 1, none⟩ = some (.int .i64 y) :=
  ⟨hk.cell h.1 fun f => f, hk.cell h.2 fun f => f⟩
/-- The program's points, as a slice reads them. -/
theorem OwnT.pts {w : World} {base n c : Nat} {A : Option Addr} {X Y : Nat → Int} (h : OwnT w base 25 1 (.slice A n c) n (ptL X Y n)) : PtR w A n (fun j => floatOfInt .f64 (X j)) (fun j => floatOfInt .f64 (Y j)) ∧ n ≤ c := by
  refine ⟨⟨fun j hj => ?_⟩, ?_⟩
  · obtain ⟨g, hg, _, _, _, hc⟩ := h.cell (ptL_get X Y hj)
    exact ⟨g, hg, hc⟩
  · rcases Nat.lt_or_ge 0 n with g | g
    · obtain ⟨_, _, _, _, hc, _⟩ := h.cell (ptL_get X Y g)
      exact hc
    · omega
section
variable {w : World} {A : Option Addr} {n c : Nat} {X Y : Nat → Int} (x y : Int)
theorem nears_from (h : ¬ (Alw x ∧ Alw y)) : Calls Try.prog 4 #[rpV x y, .slice A n c] w (R9 w) := by
  have HR := hide (fun w => rright_no w x y h)
  clear h
  go_enter Try.func4, Try.ntmps4
  go_wp2_with fail
  refine (HR.out _).mono ?_
  rintro e w1 ⟨rfl, hk1⟩
  go_wp2_with fail
  refine (awake9_any _).mono ?_
  rintro e w9 ⟨rfl, rfl⟩
  go_wp2_with fail
  go_ret
  exact ⟨rfl, (((Kp.refl No _).al _).trans' hk1).below0⟩
theorem nears_l (hP : Rpts w A n X Y) (hx : Alw x) (hy : Alw y) (h : ¬ ((∀ j, j < n → Alw (X j) ∧ Alw (Y j)) ∧ n ≤ 60)) : Calls Try.prog 4 #[rpV x y, .slice A n c] w (R9 w) := by
  have HR := hide (fun w => rright_pt w x y hx hy)
  have HL := hide (fun w' (hk : Kp No w w') => right_no (c := c) (hP.no hk) h)
  clear h hx hy hP
  go_enter Try.func4, Try.ntmps4
  go_wp2_with fail
  refine (HR.out _).mono ?_
  rintro e w1 ⟨rfl, hk1⟩
  go_wp2_with fail
  refine (HL.out _ (((Kp.refl No _).al _).trans' hk1)).mono ?_
  rintro e w2 ⟨rfl, hk2⟩
  go_wp2_with fail
  refine (awake9_any _).mono ?_
  rintro e w9 ⟨rfl, rfl⟩
  go_wp2_with fail
  go_ret
  exact ⟨rfl, ((((Kp.refl No _).al _).trans' hk1).trans' hk2).below0⟩
/-- What the loop of the law knows. -/
structure NwI (w8 : World) (b i : Nat) (X Y : Nat → Int) (wr : World) : Prop where
  box : Bx2 wr b (smF X i) (smF Y i)
  kp : Kp (On b) w8 wr
set_option maxHeartbeats 8000000 in
theorem nears_main (hP : Rpts w A n X Y) (hx : Alw x) (hy : Alw y) (hG : ∀ j, j < n → Alw (X j) ∧ Alw (Y j)) (hn : n ≤ 60) : Calls Try.prog 4 #[rpV x y, .slice A n c] w (R9 w) := by
  have HR := hide (fun w => rright_pt w x y hx hy)
  have HL := hide (fun w' (hk : Kp No w w') => right_yes (c := c) (hP.no hk) hG hn)
  have HA := hide (fun w => at_yes w x y hx hy)
  have HT := hide (fun w' (hk : Kp No w w') => to_any (c := c) (hP.no hk) hG hn)
  have hGx : ∀ j, j < n → Alw (X j) := fun j hj => (hG j hj).1
  have hGy : ∀ j, j < n → Alw (Y j) := fun j hj => (hG j hj).2
  have HN := hide (fun w' A1 c1 (hq : PtR w' A1 n (fun j => floatOfInt .f64 (X j)) (fun j => floatOfInt .f64 (Y j))) => near_any (c := c1) hq (Fl.at_ hx) (Fl.at_ hy) (fun j hj => Fl.at_ (hGx j hj)) (fun j hj => Fl.at_ (hGy j hj)) hx hy hGx hGy hn)
  have HRN := hide (fun w' (hk : Kp No w w') => rnear_any (c := c) (hP.no hk) hx hy hGx hGy hn)
  have HSP := hide (fun w' A1 c1 (hq : PtR w' A1 n (fun j => floatOfInt .f64 (X j)) (fun j => floatOfInt .f64 (Y j))) (hc : n ≤ c1) => spread_any hq hc (fun j hj => Fl.at_ (hGx j hj)) (fun j hj => Fl.at_ (hGy j hj)) hGx hGy hn)
  have HRS := hide (fun w' (hk : Kp No w w') => rspread_any (c := c) (hP.no hk) hG hn)
  have HMD := hide (fun w' A1 c1 (hq : PtR w' A1 n (fun j => floatOfInt .f64 (X j)) (fun j => floatOfInt .f64 (Y j))) => mid_any (c := c1) hq (fun j hj => Fl.at_ (hGx j hj)) (fun j hj => Fl.at_ (hGy j hj)) hGx hGy hn)
  have HBX := hide (fun i (hi : i ≤ n) => smF_bnd (f := X) (n := i) fun j hj => hGx j (by omega))
  have HBY := hide (fun i (hi : i ≤ n) => smF_bnd (f := Y) (n := i) fun j hj => hGy j (by omega))
  have HGG := hide hG
  have HP := hide hP
  obtain ⟨w0, hw0⟩ : ∃ w0, w0 = w.alloc (.cells #[.int .i64 x, .int .i64 y] 23) := ⟨_, rfl⟩
  obtain ⟨b1, hb1⟩ : ∃ b1, b1 = w.heap.size := ⟨_, rfl⟩
  have hB := Bx2.new w x y
  have hK0 := (Kp.refl No w).al (.cells #[.int .i64 x, .int .i64 y] 23)
  rw [← hw0, ← hb1] at hB
  rw [← hw0] at hK0
  have HB := hide hB
  have HK0 := hide hK0
  have HW0 := hide hw0
  have HB1 := hide hb1
  generalize hsp : spO (fun i j => farZ (X i) (Y i) (X j) (Y j)) n n = sp at HSP HRS
  generalize hkk : (fun j => farZ x y (X j) (Y j)) = kk at HN HRN
  generalize floatOfInt .f64 x = fx at HA HN
  generalize floatOfInt .f64 y = fy at HA HN
  clear hP hx hy hG hGx hGy hB hK0 hw0 hb1 hsp hkk
  go_enter Try.func4, Try.ntmps4
  go_wp2_with fail
  rw [← HW0.out, ← HB1.out]
  refine (HR.out _).mono ?_
  rintro e w1 ⟨rfl, hk1⟩
  go_wp2_with fail
  refine (HL.out _ (HK0.out.trans' hk1)).mono ?_
  rintro e w2 ⟨rfl, hk2⟩
  have hk12 := hk1.trans' hk2
  have c0 := (HB.out.keep hk12 fun f => f).c0
  have c1 := (HB.out.keep hk12 fun f => f).c1
  clear hk1 hk2
  have HK12 := hide hk12
  clear hk12
  go_wp2_with fail
  refine (HA.out _).mono ?_
  rintro e w' ⟨rfl, rfl⟩
  go_wp2_with fail
  refine (HT.out _ (HK0.out.trans' HK12.out)).mono ?_
  rintro e w3 ⟨A1, cc1, rfl, hO1, hk3⟩
  clear c0 c1
  have K3 := hide (HK12.out.trans' hk3)
  have HB3 := hide (HB.out.keep K3.out fun f => f)
  have c01 := And.intro HB3.out.c0 HB3.out.c1
  have HC := hide c01
  have HPT := hide hO1.pts
  clear hO1 hk3 HK12 c01
  go_wp2_with fail
  go_region_held3 (fun w' => w'.cell? ⟨b1, 0, none⟩ = some (.int .i64 x) ∧ w'.cell? ⟨b1, 1, none⟩ = some (.int .i64 y))
    (first | assumption | exact two_keep ((Kp.refl No _).drew) HC.out | go_keep)
    (first
      | (go_at_call 16; ((with_reducible refine (HN.out _ _ _ (HPT.out.1.no ((Kp.refl No _).drew))).mono ?_); rintro e w4 ⟨g, rfl, hg, hI4, hk4⟩); have s4 := two_keep ((Kp.refl No _).drew.trans' hk4) HC.out; have HI4 := hide hI4; clear hI4)
      | (go_at_call 17; ((with_reducible refine (HRN.out _ (((HK0.out.trans' K3.out).drew).trans' hk4)).mono ?_); rintro e w5 ⟨A2, cc2, rfl, hO5, hk5⟩); have s5 := two_keep (((Kp.refl No _).drew.trans' hk4).trans' hk5) HC.out; have HO5 := hide hO5; clear hO5))
  have K35 : Kp No w3 w5 := ((Kp.refl No _).drew.trans' hk4).trans' hk5
  have HI := hide (HI4.out.no hk5)
  have HPT5 : Hid (PtR w5 A1 n (fun j => floatOfInt .f64 (X j)) (fun j => floatOfInt .f64 (Y j)) ∧ n ≤ cc1) := hide ⟨HPT.out.1.no K35, HPT.out.2⟩
  have KN5 := hide ((HK0.out.trans' K3.out).trans' K35)
  clear K35 hk4 hk5 s4 s5 hg
  go_wp2_with fail
  have hB8 := Bx2.new w5 0 0
  have hK8 : Kp No w5 (w5.alloc (.cells #[.int .i64 0, .int .i64 0] 23)) := Kp.alloc No _ _
  have hb8 : Hid (w5.heap.size = w5.heap.size) := hide rfl
  obtain ⟨b8, hbb⟩ : ∃ b8, b8 = w5.heap.size := ⟨_, rfl⟩
  rw [← hbb] at hB8 ⊢
  have HB8 := hide hbb
  clear hb8 hbb
  generalize hw8 : (w5.alloc (.cells #[.int .i64 0, .int .i64 0] 23)) = w8 at hB8 hK8 ⊢
  clear hw8
  have h0 : NwI w8 b8 0 X Y w8 := ⟨hB8, Kp.refl _ _⟩
  have HK8 := hide hK8
  clear hB8 hK8
  go_loopw [12] (fun iv wr => ∃ i : Nat, i ≤ n ∧ iv = .int .i64 (i : Int) ∧ NwI w8 b8 i X Y wr) (fun iv _ => n - (intOf iv).toNat)
  case atStart => exact ⟨0, Nat.zero_le _, rfl, h0⟩
  case round =>
    clear h0
    obtain ⟨i, hin, rfl, hS⟩ := hrel
    have HK58 : Hid (Kp No w5 wr) := hide (HK8.out.trans (hS.kp.mono fun q e => .inr (by have := HB8.out; have e' : q = b8 := e; omega)))
    by_cases hlt : i < n
    · have x1 := (HI.out.no HK58.out).cell hlt
      obtain ⟨g2, hg2, _, _, _, x2⟩ := (HO5.out.no HK58.out).cell (outL_get (soF kk n) hlt)
      subst hg2
      generalize soF kk n i = u at x1 x2
      have HS := hide hS
      clear hS
      go_wp2_with fail
      go_quiet (fail)
      clear x1 x2
      have hS1 : NwI w8 b8 i X Y (wr.drewN nq) := ⟨HS.out.box.keep ((Kp.refl No _).drewN nq) fun f => f, HS.out.kp.drewN nq⟩
      have hk1 : Kp No w5 (wr.drewN nq) := HK58.out.drewN nq
      generalize wr.drewN nq = w9 at hS1 hk1 ⊢
      obtain ⟨B, off, hA, p1, p2⟩ := (HP.out.no (KN5.out.trans' hk1)).at_ i hlt
      subst hA
      have c0 := hS1.box.c0
      have c1 := hS1.box.c1
      have f0 := hS1.box.frozen 0
      have f1 := hS1.box.frozen 1
      have bx := HBX.out i (by omega)
      have bY := HBY.out i (by omega)
      have gg := HGG.out i hlt
      obtain ⟨⟨gx1, gx2⟩, gy1, gy2⟩ := gg
      have HNX : Hid (smF X (i + 1) = smF X i + X i) := hide rfl
      have HNY : Hid (smF Y (i + 1) = smF Y i + Y i) := hide rfl
      have HW := hide (And.intro hS1.box hS1.kp)
      generalize smF X i = sx at c0 bx HNX HW
      generalize smF Y i = sy at c1 bY HNY HW
      generalize X i = xi at p1 gx1 gx2 HNX
      generalize Y i = yi at p2 gy1 gy2 HNY
      have HBS := hide (HW.out.1.set (sx + xi) (sy + yi))
      have HKS := hide (HW.out.2.trans' (Bx2.kp w9 b8 (.int .i64 (sx + xi)) (.int .i64 (sy + yi))))
      clear hS1 hk1 HW HS
      go_wp2_with fail
      go_region
      clear c0 c1 f0 f1 p1 p2
      generalize ((w9.setCell ⟨b8, 0, none⟩ (.int .i64 (sx + xi))).setCell ⟨b8, 1, none⟩ (.int .i64 (sy + yi))) = w10 at *
      go_wp2_with fail
      go_round
      case rel => exact ⟨i + 1, by omega, by go_num, ⟨by rw [HNX.out, HNY.out]; exact HBS.out.keep ((Kp.refl No _).drew) fun f => f, HKS.out.drew⟩⟩
      case measure => simp [intOf]; omega
    · obtain rfl : i = n := by omega
      have HC8 := hide (And.intro hS.box.c0 hS.box.c1)
      have HPT8 := hide (HPT5.out.1.no HK58.out)
      have HKW := hide (KN5.out.trans' HK58.out)
      generalize smF X i = sx at HC8 HMD
      generalize smF Y i = sy at HC8 HMD
      clear hS hlt
      go_wp2_with fail
      go_region_held3 (fun w' => w'.cell? ⟨b8, 0, none⟩ = some (.int .i64 sx) ∧ w'.cell? ⟨b8, 1, none⟩ = some (.int .i64 sy))
        (first | assumption | exact two_keep ((Kp.refl No _).drew) HC8.out | go_keep)
        (first
          | (go_at_call 18; ((with_reducible refine (HSP.out _ _ _ (HPT8.out.no ((Kp.refl No _).drew)) HPT5.out.2).mono ?_); rintro e w4 ⟨rfl, rfl⟩))
          | (go_at_call 19; ((with_reducible refine (HRS.out _ (HKW.out.drew)).mono ?_); rintro e w5 ⟨rfl, hk5⟩); have s5 := two_keep ((Kp.refl No _).drew.trans' hk5) HC8.out)
          | (go_at_call 20; ((with_reducible refine (HMD.out _ _ _ (HPT8.out.no ((Kp.refl No _).drew.trans' hk5))).mono ?_); rintro e w6 ⟨a, b, rfl, fa, fb, rfl⟩); have HF := hide (And.intro fa fb); clear fa fb)
          | (go_at_call 9; ((with_reducible refine (is_any _ _ _ HF.out.1 HF.out.2).mono ?_); rintro e w7 ⟨rfl, hk7⟩); have s7 := two_keep (((Kp.refl No _).drew.trans' hk5).trans' hk7) HC8.out)
          | (go_at_call 8; ((with_reducible refine (awake9_any _).mono ?_); rintro e w9 ⟨rfl, rfl⟩)))
      go_wp2_with fail
      go_ret
      exact ⟨rfl, (((HKW.out.drew).trans' hk5).trans' hk7).below0⟩
theorem sitenears_walk (hP : Rpts w A n X Y) : Calls Try.prog 4 #[rpV x y, .slice A n c] w fun e w' => e = .returned (.bool true) ∧ Below w.heap.size w w' := by
  by_cases h1 : Alw x ∧ Alw y
  · by_cases h2 : (∀ j, j < n → Alw (X j) ∧ Alw (Y j)) ∧ n ≤ 60
    · exact nears_main x y hP h1.1 h1.2 h2.1 h2.2
    · exact nears_l x y hP h1.1 h1.2 h2
  · exact nears_from x y h1
end
end Go.Proofs.Ythbnomemknnmeaa
