/- WireReplies walked: it returns true for any reply and any bytes (printed by tools/gen_wjd.py SEAT F). No condition. -/
import Derived.Test.YtkpongkojkhboaaWjb
import Derived.Test.YtkpongkojkhboaaWjc
import Derived.Deep.RegionHeld3
import Derived.OpenShut
namespace Go.Proofs.Ytkpongkojkhboaa
open Go.RowKit Go.WideShapes Go.ChangeShapes
set_option linter.unusedVariables false
set_option linter.unusedSimpArgs false
set_option maxRecDepth 20000

theorem kept6 {W w1 : World} {b0 b1 : Nat} {x0 x1 x2 x3 x4 x5 : Value} (hk : Kp No W w1) (h : W.cell? ⟨b0, 0, none⟩ = some x0 ∧ W.cell? ⟨b0, 1, none⟩ = some x1 ∧ W.cell? ⟨b0, 2, none⟩ = some x2 ∧ W.cell? ⟨b1, 0, none⟩ = some x3 ∧ W.cell? ⟨b1, 1, none⟩ = some x4 ∧ W.cell? ⟨b1, 2, none⟩ = some x5) :
    w1.cell? ⟨b0, 0, none⟩ = some x0 ∧ w1.cell? ⟨b0, 1, none⟩ = some x1 ∧ w1.cell? ⟨b0, 2, none⟩ = some x2 ∧ w1.cell? ⟨b1, 0, none⟩ = some x3 ∧ w1.cell? ⟨b1, 1, none⟩ = some x4 ∧ w1.cell? ⟨b1, 2, none⟩ = some x5 := by
  obtain ⟨a0, a1, a2, a3, a4, a5⟩ := h
  exact ⟨hk.cell a0 (fun f => f), hk.cell a1 (fun f => f), hk.cell a2 (fun f => f), hk.cell a3 (fun f => f), hk.cell a4 (fun f => f), hk.cell a5 (fun f => f)⟩
theorem all9 {a0 a1 a2 a3 a4 a5 p q r : Prop} (h : a0 ∧ a1 ∧ a2 ∧ a3 ∧ a4 ∧ a5) (h' : p ∧ q ∧ r) : a0 ∧ a1 ∧ a2 ∧ a3 ∧ a4 ∧ a5 ∧ p ∧ q ∧ r := ⟨h.1, h.2.1, h.2.2.1, h.2.2.2.1, h.2.2.2.2.1, h.2.2.2.2.2, h'⟩
theorem cells6 {w : World} {b0 b1 : Nat} {x0 x1 x2 x3 x4 x5 : Value} {t0 t1 : TypeId} (h0 : Bx3 t0 w b0 x0 x1 x2) (h1 : Bx3 t1 w b1 x3 x4 x5) :
    w.cell? ⟨b0, 0, none⟩ = some x0 ∧ w.cell? ⟨b0, 1, none⟩ = some x1 ∧ w.cell? ⟨b0, 2, none⟩ = some x2 ∧ w.cell? ⟨b1, 0, none⟩ = some x3 ∧ w.cell? ⟨b1, 1, none⟩ = some x4 ∧ w.cell? ⟨b1, 2, none⟩ = some x5 :=
  ⟨h0.cell.1, h0.cell.2.1, h0.cell.2.2, h1.cell.1, h1.cell.2.1, h1.cell.2.2⟩

set_option maxHeartbeats 8000000 in
theorem wirereplies_bad_true (W : World) {A0 A1 : Option Addr} {n0 c0 n1 c1 : Nat} (p P1 : Rp) (hn : p.num < 18446744073709551616) (hq : Bts W (.slice A0 n0 c0) p.data) (hn0 : n0 ≤ 300) (hn1 : n1 ≤ 500) (hr : RpB p.e n0 = false)
    (HP : Hid (∀ w', Kp No W w' → Calls Try.prog 16 #[.slice A1 n1 c1] w' (PpPost w' P1 0)))
    (HR : Hid (∀ w', Kp No W w' → Calls Try.prog 17 #[.slice A1 n1 c1] w' (PgPost w' P1 true))) :
    Calls Try.prog 4 #[rpV p (.slice A0 n0 c0), .slice A1 n1 c1] W (TruePost W) := by
  obtain ⟨num, e, data⟩ := p
  obtain ⟨num1, e1, d1⟩ := P1
  have HL0 := hide hq.len
  have HQ := hide (fun w' (kk : Kp No W w') => hq.no kk)
  have HN := hide hn
  have HD0 : Hid (data.length ≤ 300) := by show _ ≤ _; have := hq.len; dsimp only at this; omega
  clear hq hn
  have B0 : Bx3 45 (W.alloc (.cells #[.int .u64 (num : Int), .int .i64 e, .slice A0 n0 c0] 45)) W.heap.size (.int .u64 (num : Int)) (.int .i64 e) (.slice A0 n0 c0) := Bx3.new W _ _ _ _
  have K0 : Kp No W (W.alloc (.cells #[.int .u64 (num : Int), .int .i64 e, .slice A0 n0 c0] 45)) := Kp.alloc No W _
  have HB0 := hide (And.intro B0 K0)
  clear B0 K0
  have q0 : ¬ (300 : Int) < (n0 : Int) := by omega
  have q1 : ¬ (500 : Int) < (n1 : Int) := by omega
  obtain ⟨td, htd⟩ : ∃ td, td = strOf d1 := ⟨_, rfl⟩
  have HTD := hide htd
  clear htd
  go_enter Try.func4, Try.ntmps4
  go_wp2_with fail
  refine (HP.out _ HB0.out.2).mono ?_
  rintro e w1 ⟨A2, n2, c2, rfl, hB1, h1⟩
  have kx := Kp.alloc No w1 (.cells #[.int .u64 (num1 : Int), .int .i64 e1, .slice A2 n2 c2] 47)
  have X1 : Bx3 47 (w1.alloc (.cells #[.int .u64 (num1 : Int), .int .i64 e1, .slice A2 n2 c2] 47)) w1.heap.size (.int .u64 (num1 : Int)) (.int .i64 e1) (.slice A2 n2 c2) := Bx3.new w1 _ _ _ _
  have HX := hide (And.intro X1 (And.intro ((HB0.out.1.no h1).no kx) (And.intro ((HB0.out.2.trans' h1).trans' kx) (hB1.no kx))))
  clear hB1 h1 kx X1 HB0
  go_wp2_with fail
  refine (HR.out _ HX.out.2.2.1).mono ?_
  rintro e w2 ⟨A3, n3, c3, rfl, hB2, h2⟩
  have ky := Kp.alloc No w2 (.cells #[.int .u64 (num1 : Int), .int .i64 e1, .slice A3 n3 c3] 45)
  have Y1 : Bx3 45 (w2.alloc (.cells #[.int .u64 (num1 : Int), .int .i64 e1, .slice A3 n3 c3] 45)) w2.heap.size (.int .u64 (num1 : Int)) (.int .i64 e1) (.slice A3 n3 c3) := Bx3.new w2 _ _ _ _
  have kk := h2.trans' ky
  have QB := HX.out.2.1.no kk
  have XB := HX.out.1.no kk
  have HQB := hide QB
  have HK3 := hide (HX.out.2.2.1.trans' kk)
  have v1 := conv_bts (HX.out.2.2.2.no kk)
  have v2 := conv_bts (hB2.no ky)
  rw [← HTD.out] at v1 v2
  obtain ⟨x0, x1, x2⟩ := XB.cell
  obtain ⟨y0, y1, y2⟩ := Y1.cell
  obtain ⟨p0, p1, p2⟩ := QB.cell
  clear hB2 h2 ky Y1 kk HX XB QB
  try dsimp only at hr
  have hcase : e < 0 ∨ (¬ e < 0 ∧ 255 < e) ∨ (¬ e < 0 ∧ ¬ 255 < e ∧ e ≠ 0 ∧ 0 < n0) := by
    have := of_decide_eq_false hr
    omega
  clear hr
  rcases hcase with h1 | ⟨h1, h2⟩ | ⟨h1, h2, h3, h4⟩
  · go_wp2_with fail
    refine (awake15_any _).mono ?_
    rintro e w13 ⟨rfl, k13⟩
    go_wp2_with fail
    go_ret
    exact ⟨rfl, HK3.out.trans' k13⟩
  · go_wp2_with fail
    refine (awake15_any _).mono ?_
    rintro e w13 ⟨rfl, k13⟩
    go_wp2_with fail
    go_ret
    exact ⟨rfl, HK3.out.trans' k13⟩
  · have a1 : (e == 0) = false := beq_eq_false_iff_ne.2 h3
    have a2 : (e != 0) = true := bne_iff_ne.2 h3
    have a3 : (0 : Int) < (n0 : Int) := by omega
    have a4 : decide ((0 : Int) < (n0 : Int)) = true := decide_eq_true a3
    go_wp2_with fail
    refine (awake15_any _).mono ?_
    rintro e w13 ⟨rfl, k13⟩
    go_wp2_with fail
    go_ret
    exact ⟨rfl, HK3.out.trans' k13⟩

set_option maxHeartbeats 8000000 in
theorem wirereplies_good_true (W : World) {A0 A1 : Option Addr} {n0 c0 n1 c1 : Nat} (p P1 : Rp) (hn : p.num < 18446744073709551616) (hq : Bts W (.slice A0 n0 c0) p.data) (hn0 : n0 ≤ 300) (hn1 : n1 ≤ 500) (hr : RpB p.e n0 = true)
    (HP : Hid (∀ w', Kp No W w' → Calls Try.prog 16 #[.slice A1 n1 c1] w' (PpPost w' P1 0)))
    (HR : Hid (∀ w', Kp No W w' → Calls Try.prog 17 #[.slice A1 n1 c1] w' (PgPost w' P1 true))) :
    Calls Try.prog 4 #[rpV p (.slice A0 n0 c0), .slice A1 n1 c1] W (TruePost W) := by
  have hrg : p.rgt = true := by have := hq.len; unfold Rp.rgt; rw [← this]; exact hr
  have HRG : Hid (p.rgt = true) := hrg
  have HBY := hide (fun w' (kk : Kp No W w') => pbytes_any p hn hrg (hq.no kk) (Nat.le_trans hn0 (by decide)))
  clear hrg
  obtain ⟨num, e, data⟩ := p
  obtain ⟨num1, e1, d1⟩ := P1
  have HL0 := hide hq.len
  have HQ := hide (fun w' (kk : Kp No W w') => hq.no kk)
  have HN := hide hn
  have HD0 : Hid (data.length ≤ 300) := by show _ ≤ _; have := hq.len; dsimp only at this; omega
  clear hq hn
  have B0 : Bx3 45 (W.alloc (.cells #[.int .u64 (num : Int), .int .i64 e, .slice A0 n0 c0] 45)) W.heap.size (.int .u64 (num : Int)) (.int .i64 e) (.slice A0 n0 c0) := Bx3.new W _ _ _ _
  have K0 : Kp No W (W.alloc (.cells #[.int .u64 (num : Int), .int .i64 e, .slice A0 n0 c0] 45)) := Kp.alloc No W _
  have HB0 := hide (And.intro B0 K0)
  clear B0 K0
  have q0 : ¬ (300 : Int) < (n0 : Int) := by omega
  have q1 : ¬ (500 : Int) < (n1 : Int) := by omega
  obtain ⟨td, htd⟩ : ∃ td, td = strOf d1 := ⟨_, rfl⟩
  have HTD := hide htd
  clear htd
  go_enter Try.func4, Try.ntmps4
  go_wp2_with fail
  refine (HP.out _ HB0.out.2).mono ?_
  rintro e w1 ⟨A2, n2, c2, rfl, hB1, h1⟩
  have kx := Kp.alloc No w1 (.cells #[.int .u64 (num1 : Int), .int .i64 e1, .slice A2 n2 c2] 47)
  have X1 : Bx3 47 (w1.alloc (.cells #[.int .u64 (num1 : Int), .int .i64 e1, .slice A2 n2 c2] 47)) w1.heap.size (.int .u64 (num1 : Int)) (.int .i64 e1) (.slice A2 n2 c2) := Bx3.new w1 _ _ _ _
  have HX := hide (And.intro X1 (And.intro ((HB0.out.1.no h1).no kx) (And.intro ((HB0.out.2.trans' h1).trans' kx) (hB1.no kx))))
  clear hB1 h1 kx X1 HB0
  go_wp2_with fail
  refine (HR.out _ HX.out.2.2.1).mono ?_
  rintro e w2 ⟨A3, n3, c3, rfl, hB2, h2⟩
  have ky := Kp.alloc No w2 (.cells #[.int .u64 (num1 : Int), .int .i64 e1, .slice A3 n3 c3] 45)
  have Y1 : Bx3 45 (w2.alloc (.cells #[.int .u64 (num1 : Int), .int .i64 e1, .slice A3 n3 c3] 45)) w2.heap.size (.int .u64 (num1 : Int)) (.int .i64 e1) (.slice A3 n3 c3) := Bx3.new w2 _ _ _ _
  have kk := h2.trans' ky
  have QB := HX.out.2.1.no kk
  have XB := HX.out.1.no kk
  have HQB := hide QB
  have HK3 := hide (HX.out.2.2.1.trans' kk)
  have v1 := conv_bts (HX.out.2.2.2.no kk)
  have v2 := conv_bts (hB2.no ky)
  rw [← HTD.out] at v1 v2
  obtain ⟨x0, x1, x2⟩ := XB.cell
  obtain ⟨y0, y1, y2⟩ := Y1.cell
  obtain ⟨p0, p1, p2⟩ := QB.cell
  clear hB2 h2 ky Y1 kk HX XB QB
  try dsimp only at hr
  have hcase : ¬ e < 0 ∧ ¬ 255 < e ∧ (e = 0 ∨ (e ≠ 0 ∧ n0 = 0)) := by
    have := of_decide_eq_true hr
    omega
  clear hr
  obtain ⟨h1, h2, h3⟩ := hcase
  have hg : (e != 0) = false ∨ ((e != 0) = true ∧ ¬ (0 : Int) < (n0 : Int)) := by
    rcases h3 with h | ⟨h, h'⟩
    · left; simp [h]
    · right; exact ⟨bne_iff_ne.2 h, by omega⟩
  clear h3
  rcases hg with hg | ⟨hg, hg2⟩
  · go_wp2_with fail
    refine (HBY.out _ HK3.out).mono ?_
    rintro e w11 ⟨A7, n7, c7, rfl, ho, k11⟩
    have HK11 := hide (HK3.out.trans' k11)
    have HQ11 := hide (HQB.out.no k11)
    have HO11 := hide ho
    clear k11 ho HQB HK3 p0 p1 p2 x0 x1 x2 y0 y1 y2 v1 v2
    go_wp2_with fail
    refine (parsep_any HO11.out.bts (by rw [Rp.bytes_len]; have := HD0.out; dsimp only; omega) ⟨num, e, data⟩ 0 (fun _ => ⟨(Rp.back HN.out HRG.out).symm, rfl⟩) (fun h => by rw [Rp.read HN.out HRG.out] at h; cases h)).mono ?_
    rintro e w13 ⟨A8, n8, c8, rfl, hB8, k13⟩
    have kz := Kp.alloc No w13 (.cells #[.int .u64 (num : Int), .int .i64 e, .slice A8 n8 c8] 47)
    have Z14 : Bx3 47 (w13.alloc (.cells #[.int .u64 (num : Int), .int .i64 e, .slice A8 n8 c8] 47)) w13.heap.size (.int .u64 (num : Int)) (.int .i64 e) (.slice A8 n8 c8) := Bx3.new w13 _ _ _ _
    have HC14 := hide (cells6 Z14 ((HQ11.out.no k13).no kz))
    have HK14 := hide ((HK11.out.trans' k13).trans' kz)
    have HO := hide ((HO11.out.no k13).no kz)
    have HB8 := hide (hB8.no kz)
    clear hB8 k13 kz Z14 HO11 HQ11 HK11
    go_wp2_with fail
    obtain ⟨b0, hb0⟩ : ∃ b0, b0 = W.heap.size := ⟨_, rfl⟩
    obtain ⟨b3, hb3⟩ : ∃ b3, b3 = w13.heap.size := ⟨_, rfl⟩
    rw [← hb3, ← hb0] at HC14
    rw [← hb3, ← hb0]
    generalize w13.alloc (.cells #[.int .u64 (num : Int), .int .i64 e, .slice A8 n8 c8] 47) = w14 at *
    clear hb3 hb0
    obtain ⟨tb, htb⟩ : ∃ tb, tb = strOf (Rp.bytes ⟨num, e, data⟩) := ⟨_, rfl⟩
    have HTB := hide htb
    obtain ⟨tc, htc⟩ : ∃ tc, tc = strOf data := ⟨_, rfl⟩
    have HTC := hide htc
    clear htb htc
    have HCV : Hid (∀ w', Kp No w14 w' → (convert 27 9 (.slice A7 n7 c7)).run Try.prog w' = .ok (.string tb) w' ∧ (convert 27 9 (.slice A8 n8 c8)).run Try.prog w' = .ok (.string tc) w' ∧ (convert 27 9 (.slice A0 n0 c0)).run Try.prog w' = .ok (.string tc) w') := fun w' kk => by
      have v1 := conv_bts (HO.out.no kk).bts
      have v3 := conv_bts (HB8.out.no kk)
      have v4 := conv_bts (HQ.out _ (HK14.out.trans' kk))
      rw [← HTB.out] at v1
      rw [← HTC.out] at v3 v4
      exact ⟨v1, v3, v4⟩
    refine wp_region_noPanic ?_
    refine wp_region_held_drew (S := fun w' => w'.cell? ⟨b3, 0, none⟩ = some (.int .u64 (num : Int)) ∧ w'.cell? ⟨b3, 1, none⟩ = some (.int .i64 e) ∧ w'.cell? ⟨b3, 2, none⟩ = some (.slice A8 n8 c8) ∧ w'.cell? ⟨b0, 0, none⟩ = some (.int .u64 (num : Int)) ∧ w'.cell? ⟨b0, 1, none⟩ = some (.int .i64 e) ∧ w'.cell? ⟨b0, 2, none⟩ = some (.slice A0 n0 c0) ∧ (convert 27 9 (.slice A7 n7 c7)).run Try.prog w' = .ok (.string tb) w' ∧ (convert 27 9 (.slice A8 n8 c8)).run Try.prog w' = .ok (.string tc) w' ∧ (convert 27 9 (.slice A0 n0 c0)).run Try.prog w' = .ok (.string tc) w') (by kernel_rfl) (all9 (kept6 ((Kp.refl No w14).drew) HC14.out) (HCV.out _ ((Kp.refl No w14).drew))) (fun hHeld => ?_)
    refine wpAnyH_take (i := 0) (v := ?vrx1) (oi := ?orx1) ?hrx1 (by kernel_rfl) (by kernel_rfl) (by kernel_rfl) (fun _ _ _ h => h) (Or.inl ⟨?wrx1, ?yrx1⟩) hHeld ?rrx1
    case hrx1 => simp only [List.getElem?_toArray, List.getElem?_cons_zero, List.getElem?_cons_succ]; rfl
    case wrx1 => rfl
    case yrx1 => intro w hSw; (try dsimp only at hSw); go_simp; (try with_reducible rfl)
    simp only [Act.put, List.setIfInBounds_toArray, List.set_cons_zero, List.set_cons_succ]
    refine wpAnyH_take (i := 1) (v := ?vrx2) (oi := ?orx2) ?hrx2 (by kernel_rfl) (by kernel_rfl) (by kernel_rfl) (fun _ _ _ h => h) (Or.inl ⟨?wrx2, ?yrx2⟩) hHeld ?rrx2
    case hrx2 => simp only [List.getElem?_toArray, List.getElem?_cons_zero, List.getElem?_cons_succ]; rfl
    case wrx2 => rfl
    case yrx2 => intro w hSw; (try dsimp only at hSw); go_simp; (try with_reducible rfl)
    simp only [Act.put, List.setIfInBounds_toArray, List.set_cons_zero, List.set_cons_succ]
    refine wpAnyH_take (i := 2) (v := ?vrx3) (oi := ?orx3) ?hrx3 (by kernel_rfl) (by kernel_rfl) (by kernel_rfl) (fun _ _ _ h => h) (Or.inl ⟨?wrx3, ?yrx3⟩) hHeld ?rrx3
    case hrx3 => simp only [List.getElem?_toArray, List.getElem?_cons_zero, List.getElem?_cons_succ]; rfl
    case wrx3 => rfl
    case yrx3 => intro w hSw; (try dsimp only at hSw); go_simp; (try with_reducible rfl)
    simp only [Act.put, List.setIfInBounds_toArray, List.set_cons_zero, List.set_cons_succ]
    refine wpAnyH_ready (rs := [3]) (by kernel_rfl) (by simp) ?_
    refine AllReadyH.cons (o := ?orx4) ?hrx4 (fun K hK => ?srx4) AllReadyH.nil
    case hrx4 => simp only [List.getElem?_toArray, List.getElem?_cons_zero, List.getElem?_cons_succ]; rfl
    go_simp
    refine (rpbytes_any ⟨num, e, data⟩ HN.out HRG.out (HQ.out _ (HK14.out.drew)) (Nat.le_trans hn0 (by decide))).mono ?_
    rintro e w15 ⟨A9, n9, c9, rfl, o9, k15⟩
    have K15 : Kp No w14 w15 := ((Kp.refl No w14).drew).trans' k15
    have v2 := conv_bts o9.bts
    rw [← HTB.out] at v2
    go_wp2_with fail
    refine hK.out _ _ (all9 (kept6 k15 ⟨hHeld.1, hHeld.2.1, hHeld.2.2.1, hHeld.2.2.2.1, hHeld.2.2.2.2.1, hHeld.2.2.2.2.2.1⟩) (HCV.out _ (K15))) (fun hHeld => ?_)
    clear hK K
    try simp only [Act.put, List.setIfInBounds_toArray, List.set_cons_zero, List.set_cons_succ]
    refine wpAnyH_ready (rs := [4]) (by kernel_rfl) (by simp) ?_
    refine AllReadyH.cons (o := ?orx5) ?hrx5 (fun K hK => ?srx5) AllReadyH.nil
    case hrx5 => simp only [List.getElem?_toArray, List.getElem?_cons_zero, List.getElem?_cons_succ]; rfl
    go_simp
    refine hK.out _ _ (hHeld) (fun hHeld => ?_)
    clear hK K
    try simp only [Act.put, List.setIfInBounds_toArray, List.set_cons_zero, List.set_cons_succ]
    refine wpAnyH_take (i := 5) (v := ?vrx6) (oi := ?orx6) ?hrx6 (by kernel_rfl) (by kernel_rfl) (by kernel_rfl) (fun _ _ _ h => h) (Or.inl ⟨?wrx6, ?yrx6⟩) hHeld ?rrx6
    case hrx6 => simp only [List.getElem?_toArray, List.getElem?_cons_zero, List.getElem?_cons_succ]; rfl
    case wrx6 => rfl
    case yrx6 => intro w hSw; (try dsimp only at hSw); go_simp; (try with_reducible rfl)
    simp only [Act.put, List.setIfInBounds_toArray, List.set_cons_zero, List.set_cons_succ]
    refine wpAnyH_take (i := 6) (v := ?vrx7) (oi := ?orx7) ?hrx7 (by kernel_rfl) (by kernel_rfl) (by kernel_rfl) (fun _ _ _ h => h) (Or.inl ⟨?wrx7, ?yrx7⟩) hHeld ?rrx7
    case hrx7 => simp only [List.getElem?_toArray, List.getElem?_cons_zero, List.getElem?_cons_succ]; rfl
    case wrx7 => rfl
    case yrx7 => intro w hSw; (try dsimp only at hSw); go_simp; (try with_reducible rfl)
    simp only [Act.put, List.setIfInBounds_toArray, List.set_cons_zero, List.set_cons_succ]
    refine wpAnyH_take (i := 7) (v := ?vrx8) (oi := ?orx8) ?hrx8 (by kernel_rfl) (by kernel_rfl) (by kernel_rfl) (fun _ _ _ h => h) (Or.inl ⟨?wrx8, ?yrx8⟩) hHeld ?rrx8
    case hrx8 => simp only [List.getElem?_toArray, List.getElem?_cons_zero, List.getElem?_cons_succ]; rfl
    case wrx8 => rfl
    case yrx8 => intro w hSw; (try dsimp only at hSw); go_simp; (try with_reducible rfl)
    simp only [Act.put, List.setIfInBounds_toArray, List.set_cons_zero, List.set_cons_succ]
    refine wpAnyH_take (i := 8) (v := ?vrx9) (oi := ?orx9) ?hrx9 (by kernel_rfl) (by kernel_rfl) (by kernel_rfl) (fun _ _ _ h => h) (Or.inl ⟨?wrx9, ?yrx9⟩) hHeld ?rrx9
    case hrx9 => simp only [List.getElem?_toArray, List.getElem?_cons_zero, List.getElem?_cons_succ]; rfl
    case wrx9 => rfl
    case yrx9 => intro w hSw; (try dsimp only at hSw); go_simp; (try with_reducible rfl)
    simp only [Act.put, List.setIfInBounds_toArray, List.set_cons_zero, List.set_cons_succ]
    refine wpAnyH_take (i := 9) (v := ?vrx10) (oi := ?orx10) ?hrx10 (by kernel_rfl) (by kernel_rfl) (by kernel_rfl) (fun _ _ _ h => h) (Or.inl ⟨?wrx10, ?yrx10⟩) hHeld ?rrx10
    case hrx10 => simp only [List.getElem?_toArray, List.getElem?_cons_zero, List.getElem?_cons_succ]; rfl
    case wrx10 => rfl
    case yrx10 => intro w hSw; (try dsimp only at hSw); go_simp; (try with_reducible rfl)
    simp only [Act.put, List.setIfInBounds_toArray, List.set_cons_zero, List.set_cons_succ]
    refine wpAnyH_take (i := 10) (v := ?vrx11) (oi := ?orx11) ?hrx11 (by kernel_rfl) (by kernel_rfl) (by kernel_rfl) (fun _ _ _ h => h) (Or.inl ⟨?wrx11, ?yrx11⟩) hHeld ?rrx11
    case hrx11 => simp only [List.getElem?_toArray, List.getElem?_cons_zero, List.getElem?_cons_succ]; rfl
    case wrx11 => rfl
    case yrx11 => intro w hSw; (try dsimp only at hSw); go_simp; (try with_reducible rfl)
    simp only [Act.put, List.setIfInBounds_toArray, List.set_cons_zero, List.set_cons_succ]
    refine wpAnyH_take (i := 11) (v := ?vrx12) (oi := ?orx12) ?hrx12 (by kernel_rfl) (by kernel_rfl) (by kernel_rfl) (fun _ _ _ h => h) (Or.inl ⟨?wrx12, ?yrx12⟩) hHeld ?rrx12
    case hrx12 => simp only [List.getElem?_toArray, List.getElem?_cons_zero, List.getElem?_cons_succ]; rfl
    case wrx12 => rfl
    case yrx12 => intro w hSw; (try dsimp only at hSw); go_simp; (try with_reducible rfl)
    simp only [Act.put, List.setIfInBounds_toArray, List.set_cons_zero, List.set_cons_succ]
    refine wpAnyH_take (i := 12) (v := ?vrx13) (oi := ?orx13) ?hrx13 (by kernel_rfl) (by kernel_rfl) (by kernel_rfl) (fun _ _ _ h => h) (Or.inl ⟨?wrx13, ?yrx13⟩) hHeld ?rrx13
    case hrx13 => simp only [List.getElem?_toArray, List.getElem?_cons_zero, List.getElem?_cons_succ]; rfl
    case wrx13 => rfl
    case yrx13 => intro w hSw; (try dsimp only at hSw); go_simp; (try with_reducible rfl)
    simp only [Act.put, List.setIfInBounds_toArray, List.set_cons_zero, List.set_cons_succ]
    refine wpAnyH_take (i := 13) (v := ?vrx14) (oi := ?orx14) ?hrx14 (by kernel_rfl) (by kernel_rfl) (by kernel_rfl) (fun _ _ _ h => h) (Or.inl ⟨?wrx14, ?yrx14⟩) hHeld ?rrx14
    case hrx14 => simp only [List.getElem?_toArray, List.getElem?_cons_zero, List.getElem?_cons_succ]; rfl
    case wrx14 => rfl
    case yrx14 => intro w hSw; (try dsimp only at hSw); go_simp; (try with_reducible rfl)
    simp only [Act.put, List.setIfInBounds_toArray, List.set_cons_zero, List.set_cons_succ]
    refine wpAnyH_take (i := 14) (v := ?vrx15) (oi := ?orx15) ?hrx15 (by kernel_rfl) (by kernel_rfl) (by kernel_rfl) (fun _ _ _ h => h) (Or.inl ⟨?wrx15, ?yrx15⟩) hHeld ?rrx15
    case hrx15 => simp only [List.getElem?_toArray, List.getElem?_cons_zero, List.getElem?_cons_succ]; rfl
    case wrx15 => rfl
    case yrx15 => intro w hSw; (try dsimp only at hSw); go_simp; (try with_reducible rfl)
    simp only [Act.put, List.setIfInBounds_toArray, List.set_cons_zero, List.set_cons_succ]
    refine wpAnyH_take (i := 15) (v := ?vrx16) (oi := ?orx16) ?hrx16 (by kernel_rfl) (by kernel_rfl) (by kernel_rfl) (fun _ _ _ h => h) (Or.inl ⟨?wrx16, ?yrx16⟩) hHeld ?rrx16
    case hrx16 => simp only [List.getElem?_toArray, List.getElem?_cons_zero, List.getElem?_cons_succ]; rfl
    case wrx16 => rfl
    case yrx16 => intro w hSw; (try dsimp only at hSw); go_simp; (try with_reducible rfl)
    simp only [Act.put, List.setIfInBounds_toArray, List.set_cons_zero, List.set_cons_succ]
    refine wpAnyH_take (i := 16) (v := ?vrx17) (oi := ?orx17) ?hrx17 (by kernel_rfl) (by kernel_rfl) (by kernel_rfl) (fun _ _ _ h => h) (Or.inl ⟨?wrx17, ?yrx17⟩) hHeld ?rrx17
    case hrx17 => simp only [List.getElem?_toArray, List.getElem?_cons_zero, List.getElem?_cons_succ]; rfl
    case wrx17 => rfl
    case yrx17 => intro w hSw; (try dsimp only at hSw); go_simp; (try with_reducible rfl)
    simp only [Act.put, List.setIfInBounds_toArray, List.set_cons_zero, List.set_cons_succ]
    refine wpAnyH_take (i := 17) (v := ?vrx18) (oi := ?orx18) ?hrx18 (by kernel_rfl) (by kernel_rfl) (by kernel_rfl) (fun _ _ _ h => h) (Or.inl ⟨?wrx18, ?yrx18⟩) hHeld ?rrx18
    case hrx18 => simp only [List.getElem?_toArray, List.getElem?_cons_zero, List.getElem?_cons_succ]; rfl
    case wrx18 => rfl
    case yrx18 => intro w hSw; (try dsimp only at hSw); go_simp; (try with_reducible rfl)
    simp only [Act.put, List.setIfInBounds_toArray, List.set_cons_zero, List.set_cons_succ]
    refine wpAnyH_take (i := 18) (v := ?vrx19) (oi := ?orx19) ?hrx19 (by kernel_rfl) (by kernel_rfl) (by kernel_rfl) (fun _ _ _ h => h) (Or.inl ⟨?wrx19, ?yrx19⟩) hHeld ?rrx19
    case hrx19 => simp only [List.getElem?_toArray, List.getElem?_cons_zero, List.getElem?_cons_succ]; rfl
    case wrx19 => rfl
    case yrx19 => intro w hSw; (try dsimp only at hSw); go_simp; (try with_reducible rfl)
    simp only [Act.put, List.setIfInBounds_toArray, List.set_cons_zero, List.set_cons_succ]
    refine wpAnyH_take (i := 19) (v := ?vrx20) (oi := ?orx20) ?hrx20 (by kernel_rfl) (by kernel_rfl) (by kernel_rfl) (fun _ _ _ h => h) (Or.inl ⟨?wrx20, ?yrx20⟩) hHeld ?rrx20
    case hrx20 => simp only [List.getElem?_toArray, List.getElem?_cons_zero, List.getElem?_cons_succ]; rfl
    case wrx20 => rfl
    case yrx20 => intro w hSw; (try dsimp only at hSw); go_simp; (try with_reducible rfl)
    simp only [Act.put, List.setIfInBounds_toArray, List.set_cons_zero, List.set_cons_succ]
    refine wpAnyH_take (i := 20) (v := ?vrx21) (oi := ?orx21) ?hrx21 (by kernel_rfl) (by kernel_rfl) (by kernel_rfl) (fun _ _ _ h => h) (Or.inl ⟨?wrx21, ?yrx21⟩) hHeld ?rrx21
    case hrx21 => simp only [List.getElem?_toArray, List.getElem?_cons_zero, List.getElem?_cons_succ]; rfl
    case wrx21 => rfl
    case yrx21 => intro w hSw; (try dsimp only at hSw); go_simp; (try with_reducible rfl)
    simp only [Act.put, List.setIfInBounds_toArray, List.set_cons_zero, List.set_cons_succ]
    refine wpAnyH_take (i := 21) (v := ?vrx22) (oi := ?orx22) ?hrx22 (by kernel_rfl) (by kernel_rfl) (by kernel_rfl) (fun _ _ _ h => h) (Or.inl ⟨?wrx22, ?yrx22⟩) hHeld ?rrx22
    case hrx22 => simp only [List.getElem?_toArray, List.getElem?_cons_zero, List.getElem?_cons_succ]; rfl
    case wrx22 => rfl
    case yrx22 => intro w hSw; (try dsimp only at hSw); go_simp; (try with_reducible rfl)
    simp only [Act.put, List.setIfInBounds_toArray, List.set_cons_zero, List.set_cons_succ]
    refine wpAnyH_take (i := 22) (v := ?vrx23) (oi := ?orx23) ?hrx23 (by kernel_rfl) (by kernel_rfl) (by kernel_rfl) (fun _ _ _ h => h) (Or.inl ⟨?wrx23, ?yrx23⟩) hHeld ?rrx23
    case hrx23 => simp only [List.getElem?_toArray, List.getElem?_cons_zero, List.getElem?_cons_succ]; rfl
    case wrx23 => rfl
    case yrx23 => intro w hSw; (try dsimp only at hSw); go_simp; (try with_reducible rfl)
    simp only [Act.put, List.setIfInBounds_toArray, List.set_cons_zero, List.set_cons_succ]
    refine wpAnyH_take (i := 23) (v := ?vrx24) (oi := ?orx24) ?hrx24 (by kernel_rfl) (by kernel_rfl) (by kernel_rfl) (fun _ _ _ h => h) (Or.inl ⟨?wrx24, ?yrx24⟩) hHeld ?rrx24
    case hrx24 => simp only [List.getElem?_toArray, List.getElem?_cons_zero, List.getElem?_cons_succ]; rfl
    case wrx24 => rfl
    case yrx24 => intro w hSw; (try dsimp only at hSw); go_simp; (try with_reducible rfl)
    simp only [Act.put, List.setIfInBounds_toArray, List.set_cons_zero, List.set_cons_succ]
    refine wpAnyH_take (i := 24) (v := ?vrx25) (oi := ?orx25) ?hrx25 (by kernel_rfl) (by kernel_rfl) (by kernel_rfl) (fun _ _ _ h => h) (Or.inl ⟨?wrx25, ?yrx25⟩) hHeld ?rrx25
    case hrx25 => simp only [List.getElem?_toArray, List.getElem?_cons_zero, List.getElem?_cons_succ]; rfl
    case wrx25 => rfl
    case yrx25 => intro w hSw; (try dsimp only at hSw); go_simp; (try with_reducible rfl)
    simp only [Act.put, List.setIfInBounds_toArray, List.set_cons_zero, List.set_cons_succ]
    refine wpAnyH_take (i := 25) (v := ?vrx26) (oi := ?orx26) ?hrx26 (by kernel_rfl) (by kernel_rfl) (by kernel_rfl) (fun _ _ _ h => h) (Or.inl ⟨?wrx26, ?yrx26⟩) hHeld ?rrx26
    case hrx26 => simp only [List.getElem?_toArray, List.getElem?_cons_zero, List.getElem?_cons_succ]; rfl
    case wrx26 => rfl
    case yrx26 => intro w hSw; (try dsimp only at hSw); go_simp; (try with_reducible rfl)
    simp only [Act.put, List.setIfInBounds_toArray, List.set_cons_zero, List.set_cons_succ]
    refine wpAnyH_take (i := 26) (v := ?vrx27) (oi := ?orx27) ?hrx27 (by kernel_rfl) (by kernel_rfl) (by kernel_rfl) (fun _ _ _ h => h) (Or.inl ⟨?wrx27, ?yrx27⟩) hHeld ?rrx27
    case hrx27 => simp only [List.getElem?_toArray, List.getElem?_cons_zero, List.getElem?_cons_succ]; rfl
    case wrx27 => rfl
    case yrx27 => intro w hSw; (try dsimp only at hSw); go_simp; (try with_reducible rfl)
    simp only [Act.put, List.setIfInBounds_toArray, List.set_cons_zero, List.set_cons_succ]
    refine wpAnyH_take (i := 27) (v := ?vrx28) (oi := ?orx28) ?hrx28 (by kernel_rfl) (by kernel_rfl) (by kernel_rfl) (fun _ _ _ h => h) (Or.inl ⟨?wrx28, ?yrx28⟩) hHeld ?rrx28
    case hrx28 => simp only [List.getElem?_toArray, List.getElem?_cons_zero, List.getElem?_cons_succ]; rfl
    case wrx28 => rfl
    case yrx28 => intro w hSw; (try dsimp only at hSw); go_simp; (try with_reducible rfl)
    simp only [Act.put, List.setIfInBounds_toArray, List.set_cons_zero, List.set_cons_succ]
    refine wpAnyH_take (i := 28) (v := ?vrx29) (oi := ?orx29) ?hrx29 (by kernel_rfl) (by kernel_rfl) (by kernel_rfl) (fun _ _ _ h => h) (Or.inl ⟨?wrx29, ?yrx29⟩) hHeld ?rrx29
    case hrx29 => simp only [List.getElem?_toArray, List.getElem?_cons_zero, List.getElem?_cons_succ]; rfl
    case wrx29 => rfl
    case yrx29 => intro w hSw; (try dsimp only at hSw); go_simp; (try with_reducible rfl)
    simp only [Act.put, List.setIfInBounds_toArray, List.set_cons_zero, List.set_cons_succ]
    refine wpAnyH_take (i := 29) (v := ?vrx30) (oi := ?orx30) ?hrx30 (by kernel_rfl) (by kernel_rfl) (by kernel_rfl) (fun _ _ _ h => h) (Or.inl ⟨?wrx30, ?yrx30⟩) hHeld ?rrx30
    case hrx30 => simp only [List.getElem?_toArray, List.getElem?_cons_zero, List.getElem?_cons_succ]; rfl
    case wrx30 => rfl
    case yrx30 => intro w hSw; (try dsimp only at hSw); go_simp; (try with_reducible rfl)
    simp only [Act.put, List.setIfInBounds_toArray, List.set_cons_zero, List.set_cons_succ]
    refine wpAnyH_take (i := 30) (v := ?vrx31) (oi := ?orx31) ?hrx31 (by kernel_rfl) (by kernel_rfl) (by kernel_rfl) (fun _ _ _ h => h) (Or.inl ⟨?wrx31, ?yrx31⟩) hHeld ?rrx31
    case hrx31 => simp only [List.getElem?_toArray, List.getElem?_cons_zero, List.getElem?_cons_succ]; rfl
    case wrx31 => rfl
    case yrx31 => intro w hSw; (try dsimp only at hSw); go_simp; (try with_reducible rfl)
    simp only [Act.put, List.setIfInBounds_toArray, List.set_cons_zero, List.set_cons_succ]
    refine wpAnyH_take (i := 31) (v := ?vrx32) (oi := ?orx32) ?hrx32 (by kernel_rfl) (by kernel_rfl) (by kernel_rfl) (fun _ _ _ h => h) (Or.inl ⟨?wrx32, ?yrx32⟩) hHeld ?rrx32
    case hrx32 => simp only [List.getElem?_toArray, List.getElem?_cons_zero, List.getElem?_cons_succ]; rfl
    case wrx32 => rfl
    case yrx32 => intro w hSw; (try dsimp only at hSw); go_simp; (try with_reducible rfl)
    simp only [Act.put, List.setIfInBounds_toArray, List.set_cons_zero, List.set_cons_succ]
    refine wpAnyH_take (i := 32) (v := ?vrx33) (oi := ?orx33) ?hrx33 (by kernel_rfl) (by kernel_rfl) (by kernel_rfl) (fun _ _ _ h => h) (Or.inl ⟨?wrx33, ?yrx33⟩) hHeld ?rrx33
    case hrx33 => simp only [List.getElem?_toArray, List.getElem?_cons_zero, List.getElem?_cons_succ]; rfl
    case wrx33 => rfl
    case yrx33 => intro w hSw; (try dsimp only at hSw); go_simp; (try with_reducible rfl)
    simp only [Act.put, List.setIfInBounds_toArray, List.set_cons_zero, List.set_cons_succ]
    refine wpAnyH_take (i := 33) (v := ?vrx34) (oi := ?orx34) ?hrx34 (by kernel_rfl) (by kernel_rfl) (by kernel_rfl) (fun _ _ _ h => h) (Or.inl ⟨?wrx34, ?yrx34⟩) hHeld ?rrx34
    case hrx34 => simp only [List.getElem?_toArray, List.getElem?_cons_zero, List.getElem?_cons_succ]; rfl
    case wrx34 => rfl
    case yrx34 => intro w hSw; (try dsimp only at hSw); go_simp; (try with_reducible rfl)
    simp only [Act.put, List.setIfInBounds_toArray, List.set_cons_zero, List.set_cons_succ]
    refine wpAnyH_ready (rs := [34]) (by kernel_rfl) (by simp) ?_
    refine AllReadyH.cons (o := ?orx35) ?hrx35 (fun K hK => ?srx35) AllReadyH.nil
    case hrx35 => simp only [List.getElem?_toArray, List.getElem?_cons_zero, List.getElem?_cons_succ]; rfl
    go_simp
    refine (awake15_any _).mono ?_
    rintro e w17 ⟨rfl, k17⟩
    have K17 := K15.trans' k17
    go_wp2_with fail
    refine hK.out _ _ (all9 (kept6 k17 ⟨hHeld.1, hHeld.2.1, hHeld.2.2.1, hHeld.2.2.2.1, hHeld.2.2.2.2.1, hHeld.2.2.2.2.2.1⟩) (HCV.out _ (K17))) (fun hHeld => ?_)
    clear hK K
    try simp only [Act.put, List.setIfInBounds_toArray, List.set_cons_zero, List.set_cons_succ]
    refine wpAnyH_take (i := 35) (v := ?vrx36) (oi := ?orx36) ?hrx36 (by kernel_rfl) (by kernel_rfl) (by kernel_rfl) (fun _ _ _ h => h) (Or.inl ⟨?wrx36, ?yrx36⟩) hHeld ?rrx36
    case hrx36 => simp only [List.getElem?_toArray, List.getElem?_cons_zero, List.getElem?_cons_succ]; rfl
    case wrx36 => rfl
    case yrx36 => intro w hSw; (try dsimp only at hSw); go_simp; (try with_reducible rfl)
    simp only [Act.put, List.setIfInBounds_toArray, List.set_cons_zero, List.set_cons_succ]
    refine wpAnyH_take (i := 36) (v := ?vrx37) (oi := ?orx37) ?hrx37 (by kernel_rfl) (by kernel_rfl) (by kernel_rfl) (fun _ _ _ h => h) (Or.inl ⟨?wrx37, ?yrx37⟩) hHeld ?rrx37
    case hrx37 => simp only [List.getElem?_toArray, List.getElem?_cons_zero, List.getElem?_cons_succ]; rfl
    case wrx37 => rfl
    case yrx37 => intro w hSw; (try dsimp only at hSw); go_simp; (try with_reducible rfl)
    simp only [Act.put, List.setIfInBounds_toArray, List.set_cons_zero, List.set_cons_succ]
    refine wpAnyH_done (by kernel_rfl) ?_ _
    refine NoPanic.normal ?_
    go_wp2_with fail
    go_ret
    exact ⟨rfl, HK14.out.trans' K17⟩
  · go_wp2_with fail
    refine (HBY.out _ HK3.out).mono ?_
    rintro e w11 ⟨A7, n7, c7, rfl, ho, k11⟩
    have HK11 := hide (HK3.out.trans' k11)
    have HQ11 := hide (HQB.out.no k11)
    have HO11 := hide ho
    clear k11 ho HQB HK3 p0 p1 p2 x0 x1 x2 y0 y1 y2 v1 v2
    go_wp2_with fail
    refine (parsep_any HO11.out.bts (by rw [Rp.bytes_len]; have := HD0.out; dsimp only; omega) ⟨num, e, data⟩ 0 (fun _ => ⟨(Rp.back HN.out HRG.out).symm, rfl⟩) (fun h => by rw [Rp.read HN.out HRG.out] at h; cases h)).mono ?_
    rintro e w13 ⟨A8, n8, c8, rfl, hB8, k13⟩
    have kz := Kp.alloc No w13 (.cells #[.int .u64 (num : Int), .int .i64 e, .slice A8 n8 c8] 47)
    have Z14 : Bx3 47 (w13.alloc (.cells #[.int .u64 (num : Int), .int .i64 e, .slice A8 n8 c8] 47)) w13.heap.size (.int .u64 (num : Int)) (.int .i64 e) (.slice A8 n8 c8) := Bx3.new w13 _ _ _ _
    have HC14 := hide (cells6 Z14 ((HQ11.out.no k13).no kz))
    have HK14 := hide ((HK11.out.trans' k13).trans' kz)
    have HO := hide ((HO11.out.no k13).no kz)
    have HB8 := hide (hB8.no kz)
    clear hB8 k13 kz Z14 HO11 HQ11 HK11
    go_wp2_with fail
    obtain ⟨b0, hb0⟩ : ∃ b0, b0 = W.heap.size := ⟨_, rfl⟩
    obtain ⟨b3, hb3⟩ : ∃ b3, b3 = w13.heap.size := ⟨_, rfl⟩
    rw [← hb3, ← hb0] at HC14
    rw [← hb3, ← hb0]
    generalize w13.alloc (.cells #[.int .u64 (num : Int), .int .i64 e, .slice A8 n8 c8] 47) = w14 at *
    clear hb3 hb0
    obtain ⟨tb, htb⟩ : ∃ tb, tb = strOf (Rp.bytes ⟨num, e, data⟩) := ⟨_, rfl⟩
    have HTB := hide htb
    obtain ⟨tc, htc⟩ : ∃ tc, tc = strOf data := ⟨_, rfl⟩
    have HTC := hide htc
    clear htb htc
    have HCV : Hid (∀ w', Kp No w14 w' → (convert 27 9 (.slice A7 n7 c7)).run Try.prog w' = .ok (.string tb) w' ∧ (convert 27 9 (.slice A8 n8 c8)).run Try.prog w' = .ok (.string tc) w' ∧ (convert 27 9 (.slice A0 n0 c0)).run Try.prog w' = .ok (.string tc) w') := fun w' kk => by
      have v1 := conv_bts (HO.out.no kk).bts
      have v3 := conv_bts (HB8.out.no kk)
      have v4 := conv_bts (HQ.out _ (HK14.out.trans' kk))
      rw [← HTB.out] at v1
      rw [← HTC.out] at v3 v4
      exact ⟨v1, v3, v4⟩
    refine wp_region_noPanic ?_
    refine wp_region_held_drew (S := fun w' => w'.cell? ⟨b3, 0, none⟩ = some (.int .u64 (num : Int)) ∧ w'.cell? ⟨b3, 1, none⟩ = some (.int .i64 e) ∧ w'.cell? ⟨b3, 2, none⟩ = some (.slice A8 n8 c8) ∧ w'.cell? ⟨b0, 0, none⟩ = some (.int .u64 (num : Int)) ∧ w'.cell? ⟨b0, 1, none⟩ = some (.int .i64 e) ∧ w'.cell? ⟨b0, 2, none⟩ = some (.slice A0 n0 c0) ∧ (convert 27 9 (.slice A7 n7 c7)).run Try.prog w' = .ok (.string tb) w' ∧ (convert 27 9 (.slice A8 n8 c8)).run Try.prog w' = .ok (.string tc) w' ∧ (convert 27 9 (.slice A0 n0 c0)).run Try.prog w' = .ok (.string tc) w') (by kernel_rfl) (all9 (kept6 ((Kp.refl No w14).drew) HC14.out) (HCV.out _ ((Kp.refl No w14).drew))) (fun hHeld => ?_)
    refine wpAnyH_take (i := 0) (v := ?vsx1) (oi := ?osx1) ?hsx1 (by kernel_rfl) (by kernel_rfl) (by kernel_rfl) (fun _ _ _ h => h) (Or.inl ⟨?wsx1, ?ysx1⟩) hHeld ?rsx1
    case hsx1 => simp only [List.getElem?_toArray, List.getElem?_cons_zero, List.getElem?_cons_succ]; rfl
    case wsx1 => rfl
    case ysx1 => intro w hSw; (try dsimp only at hSw); go_simp; (try with_reducible rfl)
    simp only [Act.put, List.setIfInBounds_toArray, List.set_cons_zero, List.set_cons_succ]
    refine wpAnyH_take (i := 1) (v := ?vsx2) (oi := ?osx2) ?hsx2 (by kernel_rfl) (by kernel_rfl) (by kernel_rfl) (fun _ _ _ h => h) (Or.inl ⟨?wsx2, ?ysx2⟩) hHeld ?rsx2
    case hsx2 => simp only [List.getElem?_toArray, List.getElem?_cons_zero, List.getElem?_cons_succ]; rfl
    case wsx2 => rfl
    case ysx2 => intro w hSw; (try dsimp only at hSw); go_simp; (try with_reducible rfl)
    simp only [Act.put, List.setIfInBounds_toArray, List.set_cons_zero, List.set_cons_succ]
    refine wpAnyH_take (i := 2) (v := ?vsx3) (oi := ?osx3) ?hsx3 (by kernel_rfl) (by kernel_rfl) (by kernel_rfl) (fun _ _ _ h => h) (Or.inl ⟨?wsx3, ?ysx3⟩) hHeld ?rsx3
    case hsx3 => simp only [List.getElem?_toArray, List.getElem?_cons_zero, List.getElem?_cons_succ]; rfl
    case wsx3 => rfl
    case ysx3 => intro w hSw; (try dsimp only at hSw); go_simp; (try with_reducible rfl)
    simp only [Act.put, List.setIfInBounds_toArray, List.set_cons_zero, List.set_cons_succ]
    refine wpAnyH_ready (rs := [3]) (by kernel_rfl) (by simp) ?_
    refine AllReadyH.cons (o := ?osx4) ?hsx4 (fun K hK => ?ssx4) AllReadyH.nil
    case hsx4 => simp only [List.getElem?_toArray, List.getElem?_cons_zero, List.getElem?_cons_succ]; rfl
    go_simp
    refine (rpbytes_any ⟨num, e, data⟩ HN.out HRG.out (HQ.out _ (HK14.out.drew)) (Nat.le_trans hn0 (by decide))).mono ?_
    rintro e w15 ⟨A9, n9, c9, rfl, o9, k15⟩
    have K15 : Kp No w14 w15 := ((Kp.refl No w14).drew).trans' k15
    have v2 := conv_bts o9.bts
    rw [← HTB.out] at v2
    go_wp2_with fail
    refine hK.out _ _ (all9 (kept6 k15 ⟨hHeld.1, hHeld.2.1, hHeld.2.2.1, hHeld.2.2.2.1, hHeld.2.2.2.2.1, hHeld.2.2.2.2.2.1⟩) (HCV.out _ (K15))) (fun hHeld => ?_)
    clear hK K
    try simp only [Act.put, List.setIfInBounds_toArray, List.set_cons_zero, List.set_cons_succ]
    refine wpAnyH_ready (rs := [4]) (by kernel_rfl) (by simp) ?_
    refine AllReadyH.cons (o := ?osx5) ?hsx5 (fun K hK => ?ssx5) AllReadyH.nil
    case hsx5 => simp only [List.getElem?_toArray, List.getElem?_cons_zero, List.getElem?_cons_succ]; rfl
    go_simp
    refine hK.out _ _ (hHeld) (fun hHeld => ?_)
    clear hK K
    try simp only [Act.put, List.setIfInBounds_toArray, List.set_cons_zero, List.set_cons_succ]
    refine wpAnyH_take (i := 5) (v := ?vsx6) (oi := ?osx6) ?hsx6 (by kernel_rfl) (by kernel_rfl) (by kernel_rfl) (fun _ _ _ h => h) (Or.inl ⟨?wsx6, ?ysx6⟩) hHeld ?rsx6
    case hsx6 => simp only [List.getElem?_toArray, List.getElem?_cons_zero, List.getElem?_cons_succ]; rfl
    case wsx6 => rfl
    case ysx6 => intro w hSw; (try dsimp only at hSw); go_simp; (try with_reducible rfl)
    simp only [Act.put, List.setIfInBounds_toArray, List.set_cons_zero, List.set_cons_succ]
    refine wpAnyH_take (i := 6) (v := ?vsx7) (oi := ?osx7) ?hsx7 (by kernel_rfl) (by kernel_rfl) (by kernel_rfl) (fun _ _ _ h => h) (Or.inl ⟨?wsx7, ?ysx7⟩) hHeld ?rsx7
    case hsx7 => simp only [List.getElem?_toArray, List.getElem?_cons_zero, List.getElem?_cons_succ]; rfl
    case wsx7 => rfl
    case ysx7 => intro w hSw; (try dsimp only at hSw); go_simp; (try with_reducible rfl)
    simp only [Act.put, List.setIfInBounds_toArray, List.set_cons_zero, List.set_cons_succ]
    refine wpAnyH_take (i := 7) (v := ?vsx8) (oi := ?osx8) ?hsx8 (by kernel_rfl) (by kernel_rfl) (by kernel_rfl) (fun _ _ _ h => h) (Or.inl ⟨?wsx8, ?ysx8⟩) hHeld ?rsx8
    case hsx8 => simp only [List.getElem?_toArray, List.getElem?_cons_zero, List.getElem?_cons_succ]; rfl
    case wsx8 => rfl
    case ysx8 => intro w hSw; (try dsimp only at hSw); go_simp; (try with_reducible rfl)
    simp only [Act.put, List.setIfInBounds_toArray, List.set_cons_zero, List.set_cons_succ]
    refine wpAnyH_take (i := 8) (v := ?vsx9) (oi := ?osx9) ?hsx9 (by kernel_rfl) (by kernel_rfl) (by kernel_rfl) (fun _ _ _ h => h) (Or.inl ⟨?wsx9, ?ysx9⟩) hHeld ?rsx9
    case hsx9 => simp only [List.getElem?_toArray, List.getElem?_cons_zero, List.getElem?_cons_succ]; rfl
    case wsx9 => rfl
    case ysx9 => intro w hSw; (try dsimp only at hSw); go_simp; (try with_reducible rfl)
    simp only [Act.put, List.setIfInBounds_toArray, List.set_cons_zero, List.set_cons_succ]
    refine wpAnyH_take (i := 9) (v := ?vsx10) (oi := ?osx10) ?hsx10 (by kernel_rfl) (by kernel_rfl) (by kernel_rfl) (fun _ _ _ h => h) (Or.inl ⟨?wsx10, ?ysx10⟩) hHeld ?rsx10
    case hsx10 => simp only [List.getElem?_toArray, List.getElem?_cons_zero, List.getElem?_cons_succ]; rfl
    case wsx10 => rfl
    case ysx10 => intro w hSw; (try dsimp only at hSw); go_simp; (try with_reducible rfl)
    simp only [Act.put, List.setIfInBounds_toArray, List.set_cons_zero, List.set_cons_succ]
    refine wpAnyH_take (i := 10) (v := ?vsx11) (oi := ?osx11) ?hsx11 (by kernel_rfl) (by kernel_rfl) (by kernel_rfl) (fun _ _ _ h => h) (Or.inl ⟨?wsx11, ?ysx11⟩) hHeld ?rsx11
    case hsx11 => simp only [List.getElem?_toArray, List.getElem?_cons_zero, List.getElem?_cons_succ]; rfl
    case wsx11 => rfl
    case ysx11 => intro w hSw; (try dsimp only at hSw); go_simp; (try with_reducible rfl)
    simp only [Act.put, List.setIfInBounds_toArray, List.set_cons_zero, List.set_cons_succ]
    refine wpAnyH_take (i := 11) (v := ?vsx12) (oi := ?osx12) ?hsx12 (by kernel_rfl) (by kernel_rfl) (by kernel_rfl) (fun _ _ _ h => h) (Or.inl ⟨?wsx12, ?ysx12⟩) hHeld ?rsx12
    case hsx12 => simp only [List.getElem?_toArray, List.getElem?_cons_zero, List.getElem?_cons_succ]; rfl
    case wsx12 => rfl
    case ysx12 => intro w hSw; (try dsimp only at hSw); go_simp; (try with_reducible rfl)
    simp only [Act.put, List.setIfInBounds_toArray, List.set_cons_zero, List.set_cons_succ]
    refine wpAnyH_take (i := 12) (v := ?vsx13) (oi := ?osx13) ?hsx13 (by kernel_rfl) (by kernel_rfl) (by kernel_rfl) (fun _ _ _ h => h) (Or.inl ⟨?wsx13, ?ysx13⟩) hHeld ?rsx13
    case hsx13 => simp only [List.getElem?_toArray, List.getElem?_cons_zero, List.getElem?_cons_succ]; rfl
    case wsx13 => rfl
    case ysx13 => intro w hSw; (try dsimp only at hSw); go_simp; (try with_reducible rfl)
    simp only [Act.put, List.setIfInBounds_toArray, List.set_cons_zero, List.set_cons_succ]
    refine wpAnyH_take (i := 13) (v := ?vsx14) (oi := ?osx14) ?hsx14 (by kernel_rfl) (by kernel_rfl) (by kernel_rfl) (fun _ _ _ h => h) (Or.inl ⟨?wsx14, ?ysx14⟩) hHeld ?rsx14
    case hsx14 => simp only [List.getElem?_toArray, List.getElem?_cons_zero, List.getElem?_cons_succ]; rfl
    case wsx14 => rfl
    case ysx14 => intro w hSw; (try dsimp only at hSw); go_simp; (try with_reducible rfl)
    simp only [Act.put, List.setIfInBounds_toArray, List.set_cons_zero, List.set_cons_succ]
    refine wpAnyH_take (i := 14) (v := ?vsx15) (oi := ?osx15) ?hsx15 (by kernel_rfl) (by kernel_rfl) (by kernel_rfl) (fun _ _ _ h => h) (Or.inl ⟨?wsx15, ?ysx15⟩) hHeld ?rsx15
    case hsx15 => simp only [List.getElem?_toArray, List.getElem?_cons_zero, List.getElem?_cons_succ]; rfl
    case wsx15 => rfl
    case ysx15 => intro w hSw; (try dsimp only at hSw); go_simp; (try with_reducible rfl)
    simp only [Act.put, List.setIfInBounds_toArray, List.set_cons_zero, List.set_cons_succ]
    refine wpAnyH_take (i := 15) (v := ?vsx16) (oi := ?osx16) ?hsx16 (by kernel_rfl) (by kernel_rfl) (by kernel_rfl) (fun _ _ _ h => h) (Or.inl ⟨?wsx16, ?ysx16⟩) hHeld ?rsx16
    case hsx16 => simp only [List.getElem?_toArray, List.getElem?_cons_zero, List.getElem?_cons_succ]; rfl
    case wsx16 => rfl
    case ysx16 => intro w hSw; (try dsimp only at hSw); go_simp; (try with_reducible rfl)
    simp only [Act.put, List.setIfInBounds_toArray, List.set_cons_zero, List.set_cons_succ]
    refine wpAnyH_take (i := 16) (v := ?vsx17) (oi := ?osx17) ?hsx17 (by kernel_rfl) (by kernel_rfl) (by kernel_rfl) (fun _ _ _ h => h) (Or.inl ⟨?wsx17, ?ysx17⟩) hHeld ?rsx17
    case hsx17 => simp only [List.getElem?_toArray, List.getElem?_cons_zero, List.getElem?_cons_succ]; rfl
    case wsx17 => rfl
    case ysx17 => intro w hSw; (try dsimp only at hSw); go_simp; (try with_reducible rfl)
    simp only [Act.put, List.setIfInBounds_toArray, List.set_cons_zero, List.set_cons_succ]
    refine wpAnyH_take (i := 17) (v := ?vsx18) (oi := ?osx18) ?hsx18 (by kernel_rfl) (by kernel_rfl) (by kernel_rfl) (fun _ _ _ h => h) (Or.inl ⟨?wsx18, ?ysx18⟩) hHeld ?rsx18
    case hsx18 => simp only [List.getElem?_toArray, List.getElem?_cons_zero, List.getElem?_cons_succ]; rfl
    case wsx18 => rfl
    case ysx18 => intro w hSw; (try dsimp only at hSw); go_simp; (try with_reducible rfl)
    simp only [Act.put, List.setIfInBounds_toArray, List.set_cons_zero, List.set_cons_succ]
    refine wpAnyH_take (i := 18) (v := ?vsx19) (oi := ?osx19) ?hsx19 (by kernel_rfl) (by kernel_rfl) (by kernel_rfl) (fun _ _ _ h => h) (Or.inl ⟨?wsx19, ?ysx19⟩) hHeld ?rsx19
    case hsx19 => simp only [List.getElem?_toArray, List.getElem?_cons_zero, List.getElem?_cons_succ]; rfl
    case wsx19 => rfl
    case ysx19 => intro w hSw; (try dsimp only at hSw); go_simp; (try with_reducible rfl)
    simp only [Act.put, List.setIfInBounds_toArray, List.set_cons_zero, List.set_cons_succ]
    refine wpAnyH_take (i := 19) (v := ?vsx20) (oi := ?osx20) ?hsx20 (by kernel_rfl) (by kernel_rfl) (by kernel_rfl) (fun _ _ _ h => h) (Or.inl ⟨?wsx20, ?ysx20⟩) hHeld ?rsx20
    case hsx20 => simp only [List.getElem?_toArray, List.getElem?_cons_zero, List.getElem?_cons_succ]; rfl
    case wsx20 => rfl
    case ysx20 => intro w hSw; (try dsimp only at hSw); go_simp; (try with_reducible rfl)
    simp only [Act.put, List.setIfInBounds_toArray, List.set_cons_zero, List.set_cons_succ]
    refine wpAnyH_take (i := 20) (v := ?vsx21) (oi := ?osx21) ?hsx21 (by kernel_rfl) (by kernel_rfl) (by kernel_rfl) (fun _ _ _ h => h) (Or.inl ⟨?wsx21, ?ysx21⟩) hHeld ?rsx21
    case hsx21 => simp only [List.getElem?_toArray, List.getElem?_cons_zero, List.getElem?_cons_succ]; rfl
    case wsx21 => rfl
    case ysx21 => intro w hSw; (try dsimp only at hSw); go_simp; (try with_reducible rfl)
    simp only [Act.put, List.setIfInBounds_toArray, List.set_cons_zero, List.set_cons_succ]
    refine wpAnyH_take (i := 21) (v := ?vsx22) (oi := ?osx22) ?hsx22 (by kernel_rfl) (by kernel_rfl) (by kernel_rfl) (fun _ _ _ h => h) (Or.inl ⟨?wsx22, ?ysx22⟩) hHeld ?rsx22
    case hsx22 => simp only [List.getElem?_toArray, List.getElem?_cons_zero, List.getElem?_cons_succ]; rfl
    case wsx22 => rfl
    case ysx22 => intro w hSw; (try dsimp only at hSw); go_simp; (try with_reducible rfl)
    simp only [Act.put, List.setIfInBounds_toArray, List.set_cons_zero, List.set_cons_succ]
    refine wpAnyH_take (i := 22) (v := ?vsx23) (oi := ?osx23) ?hsx23 (by kernel_rfl) (by kernel_rfl) (by kernel_rfl) (fun _ _ _ h => h) (Or.inl ⟨?wsx23, ?ysx23⟩) hHeld ?rsx23
    case hsx23 => simp only [List.getElem?_toArray, List.getElem?_cons_zero, List.getElem?_cons_succ]; rfl
    case wsx23 => rfl
    case ysx23 => intro w hSw; (try dsimp only at hSw); go_simp; (try with_reducible rfl)
    simp only [Act.put, List.setIfInBounds_toArray, List.set_cons_zero, List.set_cons_succ]
    refine wpAnyH_take (i := 23) (v := ?vsx24) (oi := ?osx24) ?hsx24 (by kernel_rfl) (by kernel_rfl) (by kernel_rfl) (fun _ _ _ h => h) (Or.inl ⟨?wsx24, ?ysx24⟩) hHeld ?rsx24
    case hsx24 => simp only [List.getElem?_toArray, List.getElem?_cons_zero, List.getElem?_cons_succ]; rfl
    case wsx24 => rfl
    case ysx24 => intro w hSw; (try dsimp only at hSw); go_simp; (try with_reducible rfl)
    simp only [Act.put, List.setIfInBounds_toArray, List.set_cons_zero, List.set_cons_succ]
    refine wpAnyH_take (i := 24) (v := ?vsx25) (oi := ?osx25) ?hsx25 (by kernel_rfl) (by kernel_rfl) (by kernel_rfl) (fun _ _ _ h => h) (Or.inl ⟨?wsx25, ?ysx25⟩) hHeld ?rsx25
    case hsx25 => simp only [List.getElem?_toArray, List.getElem?_cons_zero, List.getElem?_cons_succ]; rfl
    case wsx25 => rfl
    case ysx25 => intro w hSw; (try dsimp only at hSw); go_simp; (try with_reducible rfl)
    simp only [Act.put, List.setIfInBounds_toArray, List.set_cons_zero, List.set_cons_succ]
    refine wpAnyH_take (i := 25) (v := ?vsx26) (oi := ?osx26) ?hsx26 (by kernel_rfl) (by kernel_rfl) (by kernel_rfl) (fun _ _ _ h => h) (Or.inl ⟨?wsx26, ?ysx26⟩) hHeld ?rsx26
    case hsx26 => simp only [List.getElem?_toArray, List.getElem?_cons_zero, List.getElem?_cons_succ]; rfl
    case wsx26 => rfl
    case ysx26 => intro w hSw; (try dsimp only at hSw); go_simp; (try with_reducible rfl)
    simp only [Act.put, List.setIfInBounds_toArray, List.set_cons_zero, List.set_cons_succ]
    refine wpAnyH_take (i := 26) (v := ?vsx27) (oi := ?osx27) ?hsx27 (by kernel_rfl) (by kernel_rfl) (by kernel_rfl) (fun _ _ _ h => h) (Or.inl ⟨?wsx27, ?ysx27⟩) hHeld ?rsx27
    case hsx27 => simp only [List.getElem?_toArray, List.getElem?_cons_zero, List.getElem?_cons_succ]; rfl
    case wsx27 => rfl
    case ysx27 => intro w hSw; (try dsimp only at hSw); go_simp; (try with_reducible rfl)
    simp only [Act.put, List.setIfInBounds_toArray, List.set_cons_zero, List.set_cons_succ]
    refine wpAnyH_take (i := 27) (v := ?vsx28) (oi := ?osx28) ?hsx28 (by kernel_rfl) (by kernel_rfl) (by kernel_rfl) (fun _ _ _ h => h) (Or.inl ⟨?wsx28, ?ysx28⟩) hHeld ?rsx28
    case hsx28 => simp only [List.getElem?_toArray, List.getElem?_cons_zero, List.getElem?_cons_succ]; rfl
    case wsx28 => rfl
    case ysx28 => intro w hSw; (try dsimp only at hSw); go_simp; (try with_reducible rfl)
    simp only [Act.put, List.setIfInBounds_toArray, List.set_cons_zero, List.set_cons_succ]
    refine wpAnyH_take (i := 28) (v := ?vsx29) (oi := ?osx29) ?hsx29 (by kernel_rfl) (by kernel_rfl) (by kernel_rfl) (fun _ _ _ h => h) (Or.inl ⟨?wsx29, ?ysx29⟩) hHeld ?rsx29
    case hsx29 => simp only [List.getElem?_toArray, List.getElem?_cons_zero, List.getElem?_cons_succ]; rfl
    case wsx29 => rfl
    case ysx29 => intro w hSw; (try dsimp only at hSw); go_simp; (try with_reducible rfl)
    simp only [Act.put, List.setIfInBounds_toArray, List.set_cons_zero, List.set_cons_succ]
    refine wpAnyH_take (i := 29) (v := ?vsx30) (oi := ?osx30) ?hsx30 (by kernel_rfl) (by kernel_rfl) (by kernel_rfl) (fun _ _ _ h => h) (Or.inl ⟨?wsx30, ?ysx30⟩) hHeld ?rsx30
    case hsx30 => simp only [List.getElem?_toArray, List.getElem?_cons_zero, List.getElem?_cons_succ]; rfl
    case wsx30 => rfl
    case ysx30 => intro w hSw; (try dsimp only at hSw); go_simp; (try with_reducible rfl)
    simp only [Act.put, List.setIfInBounds_toArray, List.set_cons_zero, List.set_cons_succ]
    refine wpAnyH_take (i := 30) (v := ?vsx31) (oi := ?osx31) ?hsx31 (by kernel_rfl) (by kernel_rfl) (by kernel_rfl) (fun _ _ _ h => h) (Or.inl ⟨?wsx31, ?ysx31⟩) hHeld ?rsx31
    case hsx31 => simp only [List.getElem?_toArray, List.getElem?_cons_zero, List.getElem?_cons_succ]; rfl
    case wsx31 => rfl
    case ysx31 => intro w hSw; (try dsimp only at hSw); go_simp; (try with_reducible rfl)
    simp only [Act.put, List.setIfInBounds_toArray, List.set_cons_zero, List.set_cons_succ]
    refine wpAnyH_take (i := 31) (v := ?vsx32) (oi := ?osx32) ?hsx32 (by kernel_rfl) (by kernel_rfl) (by kernel_rfl) (fun _ _ _ h => h) (Or.inl ⟨?wsx32, ?ysx32⟩) hHeld ?rsx32
    case hsx32 => simp only [List.getElem?_toArray, List.getElem?_cons_zero, List.getElem?_cons_succ]; rfl
    case wsx32 => rfl
    case ysx32 => intro w hSw; (try dsimp only at hSw); go_simp; (try with_reducible rfl)
    simp only [Act.put, List.setIfInBounds_toArray, List.set_cons_zero, List.set_cons_succ]
    refine wpAnyH_take (i := 32) (v := ?vsx33) (oi := ?osx33) ?hsx33 (by kernel_rfl) (by kernel_rfl) (by kernel_rfl) (fun _ _ _ h => h) (Or.inl ⟨?wsx33, ?ysx33⟩) hHeld ?rsx33
    case hsx33 => simp only [List.getElem?_toArray, List.getElem?_cons_zero, List.getElem?_cons_succ]; rfl
    case wsx33 => rfl
    case ysx33 => intro w hSw; (try dsimp only at hSw); go_simp; (try with_reducible rfl)
    simp only [Act.put, List.setIfInBounds_toArray, List.set_cons_zero, List.set_cons_succ]
    refine wpAnyH_take (i := 33) (v := ?vsx34) (oi := ?osx34) ?hsx34 (by kernel_rfl) (by kernel_rfl) (by kernel_rfl) (fun _ _ _ h => h) (Or.inl ⟨?wsx34, ?ysx34⟩) hHeld ?rsx34
    case hsx34 => simp only [List.getElem?_toArray, List.getElem?_cons_zero, List.getElem?_cons_succ]; rfl
    case wsx34 => rfl
    case ysx34 => intro w hSw; (try dsimp only at hSw); go_simp; (try with_reducible rfl)
    simp only [Act.put, List.setIfInBounds_toArray, List.set_cons_zero, List.set_cons_succ]
    refine wpAnyH_ready (rs := [34]) (by kernel_rfl) (by simp) ?_
    refine AllReadyH.cons (o := ?osx35) ?hsx35 (fun K hK => ?ssx35) AllReadyH.nil
    case hsx35 => simp only [List.getElem?_toArray, List.getElem?_cons_zero, List.getElem?_cons_succ]; rfl
    go_simp
    refine (awake15_any _).mono ?_
    rintro e w17 ⟨rfl, k17⟩
    have K17 := K15.trans' k17
    go_wp2_with fail
    refine hK.out _ _ (all9 (kept6 k17 ⟨hHeld.1, hHeld.2.1, hHeld.2.2.1, hHeld.2.2.2.1, hHeld.2.2.2.2.1, hHeld.2.2.2.2.2.1⟩) (HCV.out _ (K17))) (fun hHeld => ?_)
    clear hK K
    try simp only [Act.put, List.setIfInBounds_toArray, List.set_cons_zero, List.set_cons_succ]
    refine wpAnyH_take (i := 35) (v := ?vsx36) (oi := ?osx36) ?hsx36 (by kernel_rfl) (by kernel_rfl) (by kernel_rfl) (fun _ _ _ h => h) (Or.inl ⟨?wsx36, ?ysx36⟩) hHeld ?rsx36
    case hsx36 => simp only [List.getElem?_toArray, List.getElem?_cons_zero, List.getElem?_cons_succ]; rfl
    case wsx36 => rfl
    case ysx36 => intro w hSw; (try dsimp only at hSw); go_simp; (try with_reducible rfl)
    simp only [Act.put, List.setIfInBounds_toArray, List.set_cons_zero, List.set_cons_succ]
    refine wpAnyH_take (i := 36) (v := ?vsx37) (oi := ?osx37) ?hsx37 (by kernel_rfl) (by kernel_rfl) (by kernel_rfl) (fun _ _ _ h => h) (Or.inl ⟨?wsx37, ?ysx37⟩) hHeld ?rsx37
    case hsx37 => simp only [List.getElem?_toArray, List.getElem?_cons_zero, List.getElem?_cons_succ]; rfl
    case wsx37 => rfl
    case ysx37 => intro w hSw; (try dsimp only at hSw); go_simp; (try with_reducible rfl)
    simp only [Act.put, List.setIfInBounds_toArray, List.set_cons_zero, List.set_cons_succ]
    refine wpAnyH_done (by kernel_rfl) ?_ _
    refine NoPanic.normal ?_
    go_wp2_with fail
    go_ret
    exact ⟨rfl, HK14.out.trans' K17⟩

set_option maxHeartbeats 8000000 in
theorem wirereplies_bad_false (W : World) {A0 A1 : Option Addr} {n0 c0 n1 c1 : Nat} (p P1 : Rp) (hn : p.num < 18446744073709551616) (hq : Bts W (.slice A0 n0 c0) p.data) (hn0 : n0 ≤ 300) (hn1 : n1 ≤ 500) (hr : RpB p.e n0 = false)
    (HP : Hid (∀ w', Kp No W w' → Calls Try.prog 16 #[.slice A1 n1 c1] w' (PpPost w' P1 21)))
    (HR : Hid (∀ w', Kp No W w' → Calls Try.prog 17 #[.slice A1 n1 c1] w' (PgPost w' P1 false))) :
    Calls Try.prog 4 #[rpV p (.slice A0 n0 c0), .slice A1 n1 c1] W (TruePost W) := by
  obtain ⟨num, e, data⟩ := p
  obtain ⟨num1, e1, d1⟩ := P1
  have HL0 := hide hq.len
  have HQ := hide (fun w' (kk : Kp No W w') => hq.no kk)
  have HN := hide hn
  have HD0 : Hid (data.length ≤ 300) := by show _ ≤ _; have := hq.len; dsimp only at this; omega
  clear hq hn
  have B0 : Bx3 45 (W.alloc (.cells #[.int .u64 (num : Int), .int .i64 e, .slice A0 n0 c0] 45)) W.heap.size (.int .u64 (num : Int)) (.int .i64 e) (.slice A0 n0 c0) := Bx3.new W _ _ _ _
  have K0 : Kp No W (W.alloc (.cells #[.int .u64 (num : Int), .int .i64 e, .slice A0 n0 c0] 45)) := Kp.alloc No W _
  have HB0 := hide (And.intro B0 K0)
  clear B0 K0
  have q0 : ¬ (300 : Int) < (n0 : Int) := by omega
  have q1 : ¬ (500 : Int) < (n1 : Int) := by omega
  obtain ⟨td, htd⟩ : ∃ td, td = strOf d1 := ⟨_, rfl⟩
  have HTD := hide htd
  clear htd
  go_enter Try.func4, Try.ntmps4
  go_wp2_with fail
  refine (HP.out _ HB0.out.2).mono ?_
  rintro e w1 ⟨A2, n2, c2, rfl, hB1, h1⟩
  have kx := Kp.alloc No w1 (.cells #[.int .u64 (num1 : Int), .int .i64 e1, .slice A2 n2 c2] 47)
  have X1 : Bx3 47 (w1.alloc (.cells #[.int .u64 (num1 : Int), .int .i64 e1, .slice A2 n2 c2] 47)) w1.heap.size (.int .u64 (num1 : Int)) (.int .i64 e1) (.slice A2 n2 c2) := Bx3.new w1 _ _ _ _
  have HX := hide (And.intro X1 (And.intro ((HB0.out.1.no h1).no kx) (And.intro ((HB0.out.2.trans' h1).trans' kx) (hB1.no kx))))
  clear hB1 h1 kx X1 HB0
  go_wp2_with fail
  refine (HR.out _ HX.out.2.2.1).mono ?_
  rintro e w2 ⟨A3, n3, c3, rfl, hB2, h2⟩
  have ky := Kp.alloc No w2 (.cells #[.int .u64 (num1 : Int), .int .i64 e1, .slice A3 n3 c3] 45)
  have Y1 : Bx3 45 (w2.alloc (.cells #[.int .u64 (num1 : Int), .int .i64 e1, .slice A3 n3 c3] 45)) w2.heap.size (.int .u64 (num1 : Int)) (.int .i64 e1) (.slice A3 n3 c3) := Bx3.new w2 _ _ _ _
  have kk := h2.trans' ky
  have QB := HX.out.2.1.no kk
  have XB := HX.out.1.no kk
  have HQB := hide QB
  have HK3 := hide (HX.out.2.2.1.trans' kk)
  have v1 := conv_bts (HX.out.2.2.2.no kk)
  have v2 := conv_bts (hB2.no ky)
  rw [← HTD.out] at v1 v2
  obtain ⟨x0, x1, x2⟩ := XB.cell
  obtain ⟨y0, y1, y2⟩ := Y1.cell
  obtain ⟨p0, p1, p2⟩ := QB.cell
  clear hB2 h2 ky Y1 kk HX XB QB
  try dsimp only at hr
  have hcase : e < 0 ∨ (¬ e < 0 ∧ 255 < e) ∨ (¬ e < 0 ∧ ¬ 255 < e ∧ e ≠ 0 ∧ 0 < n0) := by
    have := of_decide_eq_false hr
    omega
  clear hr
  rcases hcase with h1 | ⟨h1, h2⟩ | ⟨h1, h2, h3, h4⟩
  · go_wp2_with fail
    refine (awake15_any _).mono ?_
    rintro e w13 ⟨rfl, k13⟩
    go_wp2_with fail
    go_ret
    exact ⟨rfl, HK3.out.trans' k13⟩
  · go_wp2_with fail
    refine (awake15_any _).mono ?_
    rintro e w13 ⟨rfl, k13⟩
    go_wp2_with fail
    go_ret
    exact ⟨rfl, HK3.out.trans' k13⟩
  · have a1 : (e == 0) = false := beq_eq_false_iff_ne.2 h3
    have a2 : (e != 0) = true := bne_iff_ne.2 h3
    have a3 : (0 : Int) < (n0 : Int) := by omega
    have a4 : decide ((0 : Int) < (n0 : Int)) = true := decide_eq_true a3
    go_wp2_with fail
    refine (awake15_any _).mono ?_
    rintro e w13 ⟨rfl, k13⟩
    go_wp2_with fail
    go_ret
    exact ⟨rfl, HK3.out.trans' k13⟩

set_option maxHeartbeats 8000000 in
theorem wirereplies_good_false (W : World) {A0 A1 : Option Addr} {n0 c0 n1 c1 : Nat} (p P1 : Rp) (hn : p.num < 18446744073709551616) (hq : Bts W (.slice A0 n0 c0) p.data) (hn0 : n0 ≤ 300) (hn1 : n1 ≤ 500) (hr : RpB p.e n0 = true)
    (HP : Hid (∀ w', Kp No W w' → Calls Try.prog 16 #[.slice A1 n1 c1] w' (PpPost w' P1 21)))
    (HR : Hid (∀ w', Kp No W w' → Calls Try.prog 17 #[.slice A1 n1 c1] w' (PgPost w' P1 false))) :
    Calls Try.prog 4 #[rpV p (.slice A0 n0 c0), .slice A1 n1 c1] W (TruePost W) := by
  have hrg : p.rgt = true := by have := hq.len; unfold Rp.rgt; rw [← this]; exact hr
  have HRG : Hid (p.rgt = true) := hrg
  have HBY := hide (fun w' (kk : Kp No W w') => pbytes_any p hn hrg (hq.no kk) (Nat.le_trans hn0 (by decide)))
  clear hrg
  obtain ⟨num, e, data⟩ := p
  obtain ⟨num1, e1, d1⟩ := P1
  have HL0 := hide hq.len
  have HQ := hide (fun w' (kk : Kp No W w') => hq.no kk)
  have HN := hide hn
  have HD0 : Hid (data.length ≤ 300) := by show _ ≤ _; have := hq.len; dsimp only at this; omega
  clear hq hn
  have B0 : Bx3 45 (W.alloc (.cells #[.int .u64 (num : Int), .int .i64 e, .slice A0 n0 c0] 45)) W.heap.size (.int .u64 (num : Int)) (.int .i64 e) (.slice A0 n0 c0) := Bx3.new W _ _ _ _
  have K0 : Kp No W (W.alloc (.cells #[.int .u64 (num : Int), .int .i64 e, .slice A0 n0 c0] 45)) := Kp.alloc No W _
  have HB0 := hide (And.intro B0 K0)
  clear B0 K0
  have q0 : ¬ (300 : Int) < (n0 : Int) := by omega
  have q1 : ¬ (500 : Int) < (n1 : Int) := by omega
  obtain ⟨td, htd⟩ : ∃ td, td = strOf d1 := ⟨_, rfl⟩
  have HTD := hide htd
  clear htd
  go_enter Try.func4, Try.ntmps4
  go_wp2_with fail
  refine (HP.out _ HB0.out.2).mono ?_
  rintro e w1 ⟨A2, n2, c2, rfl, hB1, h1⟩
  have kx := Kp.alloc No w1 (.cells #[.int .u64 (num1 : Int), .int .i64 e1, .slice A2 n2 c2] 47)
  have X1 : Bx3 47 (w1.alloc (.cells #[.int .u64 (num1 : Int), .int .i64 e1, .slice A2 n2 c2] 47)) w1.heap.size (.int .u64 (num1 : Int)) (.int .i64 e1) (.slice A2 n2 c2) := Bx3.new w1 _ _ _ _
  have HX := hide (And.intro X1 (And.intro ((HB0.out.1.no h1).no kx) (And.intro ((HB0.out.2.trans' h1).trans' kx) (hB1.no kx))))
  clear hB1 h1 kx X1 HB0
  go_wp2_with fail
  refine (HR.out _ HX.out.2.2.1).mono ?_
  rintro e w2 ⟨A3, n3, c3, rfl, hB2, h2⟩
  have ky := Kp.alloc No w2 (.cells #[.int .u64 (num1 : Int), .int .i64 e1, .slice A3 n3 c3] 45)
  have Y1 : Bx3 45 (w2.alloc (.cells #[.int .u64 (num1 : Int), .int .i64 e1, .slice A3 n3 c3] 45)) w2.heap.size (.int .u64 (num1 : Int)) (.int .i64 e1) (.slice A3 n3 c3) := Bx3.new w2 _ _ _ _
  have kk := h2.trans' ky
  have QB := HX.out.2.1.no kk
  have XB := HX.out.1.no kk
  have HQB := hide QB
  have HK3 := hide (HX.out.2.2.1.trans' kk)
  have v1 := conv_bts (HX.out.2.2.2.no kk)
  have v2 := conv_bts (hB2.no ky)
  rw [← HTD.out] at v1 v2
  obtain ⟨x0, x1, x2⟩ := XB.cell
  obtain ⟨y0, y1, y2⟩ := Y1.cell
  obtain ⟨p0, p1, p2⟩ := QB.cell
  clear hB2 h2 ky Y1 kk HX XB QB
  try dsimp only at hr
  have hcase : ¬ e < 0 ∧ ¬ 255 < e ∧ (e = 0 ∨ (e ≠ 0 ∧ n0 = 0)) := by
    have := of_decide_eq_true hr
    omega
  clear hr
  obtain ⟨h1, h2, h3⟩ := hcase
  have hg : (e != 0) = false ∨ ((e != 0) = true ∧ ¬ (0 : Int) < (n0 : Int)) := by
    rcases h3 with h | ⟨h, h'⟩
    · left; simp [h]
    · right; exact ⟨bne_iff_ne.2 h, by omega⟩
  clear h3
  rcases hg with hg | ⟨hg, hg2⟩
  · go_wp2_with fail
    refine (HBY.out _ HK3.out).mono ?_
    rintro e w11 ⟨A7, n7, c7, rfl, ho, k11⟩
    have HK11 := hide (HK3.out.trans' k11)
    have HQ11 := hide (HQB.out.no k11)
    have HO11 := hide ho
    clear k11 ho HQB HK3 p0 p1 p2 x0 x1 x2 y0 y1 y2 v1 v2
    go_wp2_with fail
    refine (parsep_any HO11.out.bts (by rw [Rp.bytes_len]; have := HD0.out; dsimp only; omega) ⟨num, e, data⟩ 0 (fun _ => ⟨(Rp.back HN.out HRG.out).symm, rfl⟩) (fun h => by rw [Rp.read HN.out HRG.out] at h; cases h)).mono ?_
    rintro e w13 ⟨A8, n8, c8, rfl, hB8, k13⟩
    have kz := Kp.alloc No w13 (.cells #[.int .u64 (num : Int), .int .i64 e, .slice A8 n8 c8] 47)
    have Z14 : Bx3 47 (w13.alloc (.cells #[.int .u64 (num : Int), .int .i64 e, .slice A8 n8 c8] 47)) w13.heap.size (.int .u64 (num : Int)) (.int .i64 e) (.slice A8 n8 c8) := Bx3.new w13 _ _ _ _
    have HC14 := hide (cells6 Z14 ((HQ11.out.no k13).no kz))
    have HK14 := hide ((HK11.out.trans' k13).trans' kz)
    have HO := hide ((HO11.out.no k13).no kz)
    have HB8 := hide (hB8.no kz)
    clear hB8 k13 kz Z14 HO11 HQ11 HK11
    go_wp2_with fail
    obtain ⟨b0, hb0⟩ : ∃ b0, b0 = W.heap.size := ⟨_, rfl⟩
    obtain ⟨b3, hb3⟩ : ∃ b3, b3 = w13.heap.size := ⟨_, rfl⟩
    rw [← hb3, ← hb0] at HC14
    rw [← hb3, ← hb0]
    generalize w13.alloc (.cells #[.int .u64 (num : Int), .int .i64 e, .slice A8 n8 c8] 47) = w14 at *
    clear hb3 hb0
    obtain ⟨tb, htb⟩ : ∃ tb, tb = strOf (Rp.bytes ⟨num, e, data⟩) := ⟨_, rfl⟩
    have HTB := hide htb
    obtain ⟨tc, htc⟩ : ∃ tc, tc = strOf data := ⟨_, rfl⟩
    have HTC := hide htc
    clear htb htc
    have HCV : Hid (∀ w', Kp No w14 w' → (convert 27 9 (.slice A7 n7 c7)).run Try.prog w' = .ok (.string tb) w' ∧ (convert 27 9 (.slice A8 n8 c8)).run Try.prog w' = .ok (.string tc) w' ∧ (convert 27 9 (.slice A0 n0 c0)).run Try.prog w' = .ok (.string tc) w') := fun w' kk => by
      have v1 := conv_bts (HO.out.no kk).bts
      have v3 := conv_bts (HB8.out.no kk)
      have v4 := conv_bts (HQ.out _ (HK14.out.trans' kk))
      rw [← HTB.out] at v1
      rw [← HTC.out] at v3 v4
      exact ⟨v1, v3, v4⟩
    refine wp_region_noPanic ?_
    refine wp_region_held_drew (S := fun w' => w'.cell? ⟨b3, 0, none⟩ = some (.int .u64 (num : Int)) ∧ w'.cell? ⟨b3, 1, none⟩ = some (.int .i64 e) ∧ w'.cell? ⟨b3, 2, none⟩ = some (.slice A8 n8 c8) ∧ w'.cell? ⟨b0, 0, none⟩ = some (.int .u64 (num : Int)) ∧ w'.cell? ⟨b0, 1, none⟩ = some (.int .i64 e) ∧ w'.cell? ⟨b0, 2, none⟩ = some (.slice A0 n0 c0) ∧ (convert 27 9 (.slice A7 n7 c7)).run Try.prog w' = .ok (.string tb) w' ∧ (convert 27 9 (.slice A8 n8 c8)).run Try.prog w' = .ok (.string tc) w' ∧ (convert 27 9 (.slice A0 n0 c0)).run Try.prog w' = .ok (.string tc) w') (by kernel_rfl) (all9 (kept6 ((Kp.refl No w14).drew) HC14.out) (HCV.out _ ((Kp.refl No w14).drew))) (fun hHeld => ?_)
    refine wpAnyH_take (i := 0) (v := ?vrx1) (oi := ?orx1) ?hrx1 (by kernel_rfl) (by kernel_rfl) (by kernel_rfl) (fun _ _ _ h => h) (Or.inl ⟨?wrx1, ?yrx1⟩) hHeld ?rrx1
    case hrx1 => simp only [List.getElem?_toArray, List.getElem?_cons_zero, List.getElem?_cons_succ]; rfl
    case wrx1 => rfl
    case yrx1 => intro w hSw; (try dsimp only at hSw); go_simp; (try with_reducible rfl)
    simp only [Act.put, List.setIfInBounds_toArray, List.set_cons_zero, List.set_cons_succ]
    refine wpAnyH_take (i := 1) (v := ?vrx2) (oi := ?orx2) ?hrx2 (by kernel_rfl) (by kernel_rfl) (by kernel_rfl) (fun _ _ _ h => h) (Or.inl ⟨?wrx2, ?yrx2⟩) hHeld ?rrx2
    case hrx2 => simp only [List.getElem?_toArray, List.getElem?_cons_zero, List.getElem?_cons_succ]; rfl
    case wrx2 => rfl
    case yrx2 => intro w hSw; (try dsimp only at hSw); go_simp; (try with_reducible rfl)
    simp only [Act.put, List.setIfInBounds_toArray, List.set_cons_zero, List.set_cons_succ]
    refine wpAnyH_take (i := 2) (v := ?vrx3) (oi := ?orx3) ?hrx3 (by kernel_rfl) (by kernel_rfl) (by kernel_rfl) (fun _ _ _ h => h) (Or.inl ⟨?wrx3, ?yrx3⟩) hHeld ?rrx3
    case hrx3 => simp only [List.getElem?_toArray, List.getElem?_cons_zero, List.getElem?_cons_succ]; rfl
    case wrx3 => rfl
    case yrx3 => intro w hSw; (try dsimp only at hSw); go_simp; (try with_reducible rfl)
    simp only [Act.put, List.setIfInBounds_toArray, List.set_cons_zero, List.set_cons_succ]
    refine wpAnyH_ready (rs := [3]) (by kernel_rfl) (by simp) ?_
    refine AllReadyH.cons (o := ?orx4) ?hrx4 (fun K hK => ?srx4) AllReadyH.nil
    case hrx4 => simp only [List.getElem?_toArray, List.getElem?_cons_zero, List.getElem?_cons_succ]; rfl
    go_simp
    refine (rpbytes_any ⟨num, e, data⟩ HN.out HRG.out (HQ.out _ (HK14.out.drew)) (Nat.le_trans hn0 (by decide))).mono ?_
    rintro e w15 ⟨A9, n9, c9, rfl, o9, k15⟩
    have K15 : Kp No w14 w15 := ((Kp.refl No w14).drew).trans' k15
    have v2 := conv_bts o9.bts
    rw [← HTB.out] at v2
    go_wp2_with fail
    refine hK.out _ _ (all9 (kept6 k15 ⟨hHeld.1, hHeld.2.1, hHeld.2.2.1, hHeld.2.2.2.1, hHeld.2.2.2.2.1, hHeld.2.2.2.2.2.1⟩) (HCV.out _ (K15))) (fun hHeld => ?_)
    clear hK K
    try simp only [Act.put, List.setIfInBounds_toArray, List.set_cons_zero, List.set_cons_succ]
    refine wpAnyH_ready (rs := [4]) (by kernel_rfl) (by simp) ?_
    refine AllReadyH.cons (o := ?orx5) ?hrx5 (fun K hK => ?srx5) AllReadyH.nil
    case hrx5 => simp only [List.getElem?_toArray, List.getElem?_cons_zero, List.getElem?_cons_succ]; rfl
    go_simp
    refine hK.out _ _ (hHeld) (fun hHeld => ?_)
    clear hK K
    try simp only [Act.put, List.setIfInBounds_toArray, List.set_cons_zero, List.set_cons_succ]
    refine wpAnyH_take (i := 5) (v := ?vrx6) (oi := ?orx6) ?hrx6 (by kernel_rfl) (by kernel_rfl) (by kernel_rfl) (fun _ _ _ h => h) (Or.inl ⟨?wrx6, ?yrx6⟩) hHeld ?rrx6
    case hrx6 => simp only [List.getElem?_toArray, List.getElem?_cons_zero, List.getElem?_cons_succ]; rfl
    case wrx6 => rfl
    case yrx6 => intro w hSw; (try dsimp only at hSw); go_simp; (try with_reducible rfl)
    simp only [Act.put, List.setIfInBounds_toArray, List.set_cons_zero, List.set_cons_succ]
    refine wpAnyH_take (i := 6) (v := ?vrx7) (oi := ?orx7) ?hrx7 (by kernel_rfl) (by kernel_rfl) (by kernel_rfl) (fun _ _ _ h => h) (Or.inl ⟨?wrx7, ?yrx7⟩) hHeld ?rrx7
    case hrx7 => simp only [List.getElem?_toArray, List.getElem?_cons_zero, List.getElem?_cons_succ]; rfl
    case wrx7 => rfl
    case yrx7 => intro w hSw; (try dsimp only at hSw); go_simp; (try with_reducible rfl)
    simp only [Act.put, List.setIfInBounds_toArray, List.set_cons_zero, List.set_cons_succ]
    refine wpAnyH_take (i := 7) (v := ?vrx8) (oi := ?orx8) ?hrx8 (by kernel_rfl) (by kernel_rfl) (by kernel_rfl) (fun _ _ _ h => h) (Or.inl ⟨?wrx8, ?yrx8⟩) hHeld ?rrx8
    case hrx8 => simp only [List.getElem?_toArray, List.getElem?_cons_zero, List.getElem?_cons_succ]; rfl
    case wrx8 => rfl
    case yrx8 => intro w hSw; (try dsimp only at hSw); go_simp; (try with_reducible rfl)
    simp only [Act.put, List.setIfInBounds_toArray, List.set_cons_zero, List.set_cons_succ]
    refine wpAnyH_take (i := 8) (v := ?vrx9) (oi := ?orx9) ?hrx9 (by kernel_rfl) (by kernel_rfl) (by kernel_rfl) (fun _ _ _ h => h) (Or.inl ⟨?wrx9, ?yrx9⟩) hHeld ?rrx9
    case hrx9 => simp only [List.getElem?_toArray, List.getElem?_cons_zero, List.getElem?_cons_succ]; rfl
    case wrx9 => rfl
    case yrx9 => intro w hSw; (try dsimp only at hSw); go_simp; (try with_reducible rfl)
    simp only [Act.put, List.setIfInBounds_toArray, List.set_cons_zero, List.set_cons_succ]
    refine wpAnyH_take (i := 9) (v := ?vrx10) (oi := ?orx10) ?hrx10 (by kernel_rfl) (by kernel_rfl) (by kernel_rfl) (fun _ _ _ h => h) (Or.inl ⟨?wrx10, ?yrx10⟩) hHeld ?rrx10
    case hrx10 => simp only [List.getElem?_toArray, List.getElem?_cons_zero, List.getElem?_cons_succ]; rfl
    case wrx10 => rfl
    case yrx10 => intro w hSw; (try dsimp only at hSw); go_simp; (try with_reducible rfl)
    simp only [Act.put, List.setIfInBounds_toArray, List.set_cons_zero, List.set_cons_succ]
    refine wpAnyH_take (i := 10) (v := ?vrx11) (oi := ?orx11) ?hrx11 (by kernel_rfl) (by kernel_rfl) (by kernel_rfl) (fun _ _ _ h => h) (Or.inl ⟨?wrx11, ?yrx11⟩) hHeld ?rrx11
    case hrx11 => simp only [List.getElem?_toArray, List.getElem?_cons_zero, List.getElem?_cons_succ]; rfl
    case wrx11 => rfl
    case yrx11 => intro w hSw; (try dsimp only at hSw); go_simp; (try with_reducible rfl)
    simp only [Act.put, List.setIfInBounds_toArray, List.set_cons_zero, List.set_cons_succ]
    refine wpAnyH_take (i := 11) (v := ?vrx12) (oi := ?orx12) ?hrx12 (by kernel_rfl) (by kernel_rfl) (by kernel_rfl) (fun _ _ _ h => h) (Or.inl ⟨?wrx12, ?yrx12⟩) hHeld ?rrx12
    case hrx12 => simp only [List.getElem?_toArray, List.getElem?_cons_zero, List.getElem?_cons_succ]; rfl
    case wrx12 => rfl
    case yrx12 => intro w hSw; (try dsimp only at hSw); go_simp; (try with_reducible rfl)
    simp only [Act.put, List.setIfInBounds_toArray, List.set_cons_zero, List.set_cons_succ]
    refine wpAnyH_take (i := 12) (v := ?vrx13) (oi := ?orx13) ?hrx13 (by kernel_rfl) (by kernel_rfl) (by kernel_rfl) (fun _ _ _ h => h) (Or.inl ⟨?wrx13, ?yrx13⟩) hHeld ?rrx13
    case hrx13 => simp only [List.getElem?_toArray, List.getElem?_cons_zero, List.getElem?_cons_succ]; rfl
    case wrx13 => rfl
    case yrx13 => intro w hSw; (try dsimp only at hSw); go_simp; (try with_reducible rfl)
    simp only [Act.put, List.setIfInBounds_toArray, List.set_cons_zero, List.set_cons_succ]
    refine wpAnyH_take (i := 13) (v := ?vrx14) (oi := ?orx14) ?hrx14 (by kernel_rfl) (by kernel_rfl) (by kernel_rfl) (fun _ _ _ h => h) (Or.inl ⟨?wrx14, ?yrx14⟩) hHeld ?rrx14
    case hrx14 => simp only [List.getElem?_toArray, List.getElem?_cons_zero, List.getElem?_cons_succ]; rfl
    case wrx14 => rfl
    case yrx14 => intro w hSw; (try dsimp only at hSw); go_simp; (try with_reducible rfl)
    simp only [Act.put, List.setIfInBounds_toArray, List.set_cons_zero, List.set_cons_succ]
    refine wpAnyH_take (i := 14) (v := ?vrx15) (oi := ?orx15) ?hrx15 (by kernel_rfl) (by kernel_rfl) (by kernel_rfl) (fun _ _ _ h => h) (Or.inl ⟨?wrx15, ?yrx15⟩) hHeld ?rrx15
    case hrx15 => simp only [List.getElem?_toArray, List.getElem?_cons_zero, List.getElem?_cons_succ]; rfl
    case wrx15 => rfl
    case yrx15 => intro w hSw; (try dsimp only at hSw); go_simp; (try with_reducible rfl)
    simp only [Act.put, List.setIfInBounds_toArray, List.set_cons_zero, List.set_cons_succ]
    refine wpAnyH_take (i := 15) (v := ?vrx16) (oi := ?orx16) ?hrx16 (by kernel_rfl) (by kernel_rfl) (by kernel_rfl) (fun _ _ _ h => h) (Or.inl ⟨?wrx16, ?yrx16⟩) hHeld ?rrx16
    case hrx16 => simp only [List.getElem?_toArray, List.getElem?_cons_zero, List.getElem?_cons_succ]; rfl
    case wrx16 => rfl
    case yrx16 => intro w hSw; (try dsimp only at hSw); go_simp; (try with_reducible rfl)
    simp only [Act.put, List.setIfInBounds_toArray, List.set_cons_zero, List.set_cons_succ]
    refine wpAnyH_take (i := 16) (v := ?vrx17) (oi := ?orx17) ?hrx17 (by kernel_rfl) (by kernel_rfl) (by kernel_rfl) (fun _ _ _ h => h) (Or.inl ⟨?wrx17, ?yrx17⟩) hHeld ?rrx17
    case hrx17 => simp only [List.getElem?_toArray, List.getElem?_cons_zero, List.getElem?_cons_succ]; rfl
    case wrx17 => rfl
    case yrx17 => intro w hSw; (try dsimp only at hSw); go_simp; (try with_reducible rfl)
    simp only [Act.put, List.setIfInBounds_toArray, List.set_cons_zero, List.set_cons_succ]
    refine wpAnyH_take (i := 17) (v := ?vrx18) (oi := ?orx18) ?hrx18 (by kernel_rfl) (by kernel_rfl) (by kernel_rfl) (fun _ _ _ h => h) (Or.inl ⟨?wrx18, ?yrx18⟩) hHeld ?rrx18
    case hrx18 => simp only [List.getElem?_toArray, List.getElem?_cons_zero, List.getElem?_cons_succ]; rfl
    case wrx18 => rfl
    case yrx18 => intro w hSw; (try dsimp only at hSw); go_simp; (try with_reducible rfl)
    simp only [Act.put, List.setIfInBounds_toArray, List.set_cons_zero, List.set_cons_succ]
    refine wpAnyH_take (i := 18) (v := ?vrx19) (oi := ?orx19) ?hrx19 (by kernel_rfl) (by kernel_rfl) (by kernel_rfl) (fun _ _ _ h => h) (Or.inl ⟨?wrx19, ?yrx19⟩) hHeld ?rrx19
    case hrx19 => simp only [List.getElem?_toArray, List.getElem?_cons_zero, List.getElem?_cons_succ]; rfl
    case wrx19 => rfl
    case yrx19 => intro w hSw; (try dsimp only at hSw); go_simp; (try with_reducible rfl)
    simp only [Act.put, List.setIfInBounds_toArray, List.set_cons_zero, List.set_cons_succ]
    refine wpAnyH_take (i := 19) (v := ?vrx20) (oi := ?orx20) ?hrx20 (by kernel_rfl) (by kernel_rfl) (by kernel_rfl) (fun _ _ _ h => h) (Or.inl ⟨?wrx20, ?yrx20⟩) hHeld ?rrx20
    case hrx20 => simp only [List.getElem?_toArray, List.getElem?_cons_zero, List.getElem?_cons_succ]; rfl
    case wrx20 => rfl
    case yrx20 => intro w hSw; (try dsimp only at hSw); go_simp; (try with_reducible rfl)
    simp only [Act.put, List.setIfInBounds_toArray, List.set_cons_zero, List.set_cons_succ]
    refine wpAnyH_take (i := 20) (v := ?vrx21) (oi := ?orx21) ?hrx21 (by kernel_rfl) (by kernel_rfl) (by kernel_rfl) (fun _ _ _ h => h) (Or.inl ⟨?wrx21, ?yrx21⟩) hHeld ?rrx21
    case hrx21 => simp only [List.getElem?_toArray, List.getElem?_cons_zero, List.getElem?_cons_succ]; rfl
    case wrx21 => rfl
    case yrx21 => intro w hSw; (try dsimp only at hSw); go_simp; (try with_reducible rfl)
    simp only [Act.put, List.setIfInBounds_toArray, List.set_cons_zero, List.set_cons_succ]
    refine wpAnyH_take (i := 21) (v := ?vrx22) (oi := ?orx22) ?hrx22 (by kernel_rfl) (by kernel_rfl) (by kernel_rfl) (fun _ _ _ h => h) (Or.inl ⟨?wrx22, ?yrx22⟩) hHeld ?rrx22
    case hrx22 => simp only [List.getElem?_toArray, List.getElem?_cons_zero, List.getElem?_cons_succ]; rfl
    case wrx22 => rfl
    case yrx22 => intro w hSw; (try dsimp only at hSw); go_simp; (try with_reducible rfl)
    simp only [Act.put, List.setIfInBounds_toArray, List.set_cons_zero, List.set_cons_succ]
    refine wpAnyH_take (i := 22) (v := ?vrx23) (oi := ?orx23) ?hrx23 (by kernel_rfl) (by kernel_rfl) (by kernel_rfl) (fun _ _ _ h => h) (Or.inl ⟨?wrx23, ?yrx23⟩) hHeld ?rrx23
    case hrx23 => simp only [List.getElem?_toArray, List.getElem?_cons_zero, List.getElem?_cons_succ]; rfl
    case wrx23 => rfl
    case yrx23 => intro w hSw; (try dsimp only at hSw); go_simp; (try with_reducible rfl)
    simp only [Act.put, List.setIfInBounds_toArray, List.set_cons_zero, List.set_cons_succ]
    refine wpAnyH_take (i := 23) (v := ?vrx24) (oi := ?orx24) ?hrx24 (by kernel_rfl) (by kernel_rfl) (by kernel_rfl) (fun _ _ _ h => h) (Or.inl ⟨?wrx24, ?yrx24⟩) hHeld ?rrx24
    case hrx24 => simp only [List.getElem?_toArray, List.getElem?_cons_zero, List.getElem?_cons_succ]; rfl
    case wrx24 => rfl
    case yrx24 => intro w hSw; (try dsimp only at hSw); go_simp; (try with_reducible rfl)
    simp only [Act.put, List.setIfInBounds_toArray, List.set_cons_zero, List.set_cons_succ]
    refine wpAnyH_take (i := 24) (v := ?vrx25) (oi := ?orx25) ?hrx25 (by kernel_rfl) (by kernel_rfl) (by kernel_rfl) (fun _ _ _ h => h) (Or.inl ⟨?wrx25, ?yrx25⟩) hHeld ?rrx25
    case hrx25 => simp only [List.getElem?_toArray, List.getElem?_cons_zero, List.getElem?_cons_succ]; rfl
    case wrx25 => rfl
    case yrx25 => intro w hSw; (try dsimp only at hSw); go_simp; (try with_reducible rfl)
    simp only [Act.put, List.setIfInBounds_toArray, List.set_cons_zero, List.set_cons_succ]
    refine wpAnyH_take (i := 25) (v := ?vrx26) (oi := ?orx26) ?hrx26 (by kernel_rfl) (by kernel_rfl) (by kernel_rfl) (fun _ _ _ h => h) (Or.inl ⟨?wrx26, ?yrx26⟩) hHeld ?rrx26
    case hrx26 => simp only [List.getElem?_toArray, List.getElem?_cons_zero, List.getElem?_cons_succ]; rfl
    case wrx26 => rfl
    case yrx26 => intro w hSw; (try dsimp only at hSw); go_simp; (try with_reducible rfl)
    simp only [Act.put, List.setIfInBounds_toArray, List.set_cons_zero, List.set_cons_succ]
    refine wpAnyH_take (i := 26) (v := ?vrx27) (oi := ?orx27) ?hrx27 (by kernel_rfl) (by kernel_rfl) (by kernel_rfl) (fun _ _ _ h => h) (Or.inl ⟨?wrx27, ?yrx27⟩) hHeld ?rrx27
    case hrx27 => simp only [List.getElem?_toArray, List.getElem?_cons_zero, List.getElem?_cons_succ]; rfl
    case wrx27 => rfl
    case yrx27 => intro w hSw; (try dsimp only at hSw); go_simp; (try with_reducible rfl)
    simp only [Act.put, List.setIfInBounds_toArray, List.set_cons_zero, List.set_cons_succ]
    refine wpAnyH_take (i := 27) (v := ?vrx28) (oi := ?orx28) ?hrx28 (by kernel_rfl) (by kernel_rfl) (by kernel_rfl) (fun _ _ _ h => h) (Or.inl ⟨?wrx28, ?yrx28⟩) hHeld ?rrx28
    case hrx28 => simp only [List.getElem?_toArray, List.getElem?_cons_zero, List.getElem?_cons_succ]; rfl
    case wrx28 => rfl
    case yrx28 => intro w hSw; (try dsimp only at hSw); go_simp; (try with_reducible rfl)
    simp only [Act.put, List.setIfInBounds_toArray, List.set_cons_zero, List.set_cons_succ]
    refine wpAnyH_take (i := 28) (v := ?vrx29) (oi := ?orx29) ?hrx29 (by kernel_rfl) (by kernel_rfl) (by kernel_rfl) (fun _ _ _ h => h) (Or.inl ⟨?wrx29, ?yrx29⟩) hHeld ?rrx29
    case hrx29 => simp only [List.getElem?_toArray, List.getElem?_cons_zero, List.getElem?_cons_succ]; rfl
    case wrx29 => rfl
    case yrx29 => intro w hSw; (try dsimp only at hSw); go_simp; (try with_reducible rfl)
    simp only [Act.put, List.setIfInBounds_toArray, List.set_cons_zero, List.set_cons_succ]
    refine wpAnyH_take (i := 29) (v := ?vrx30) (oi := ?orx30) ?hrx30 (by kernel_rfl) (by kernel_rfl) (by kernel_rfl) (fun _ _ _ h => h) (Or.inl ⟨?wrx30, ?yrx30⟩) hHeld ?rrx30
    case hrx30 => simp only [List.getElem?_toArray, List.getElem?_cons_zero, List.getElem?_cons_succ]; rfl
    case wrx30 => rfl
    case yrx30 => intro w hSw; (try dsimp only at hSw); go_simp; (try with_reducible rfl)
    simp only [Act.put, List.setIfInBounds_toArray, List.set_cons_zero, List.set_cons_succ]
    refine wpAnyH_take (i := 30) (v := ?vrx31) (oi := ?orx31) ?hrx31 (by kernel_rfl) (by kernel_rfl) (by kernel_rfl) (fun _ _ _ h => h) (Or.inl ⟨?wrx31, ?yrx31⟩) hHeld ?rrx31
    case hrx31 => simp only [List.getElem?_toArray, List.getElem?_cons_zero, List.getElem?_cons_succ]; rfl
    case wrx31 => rfl
    case yrx31 => intro w hSw; (try dsimp only at hSw); go_simp; (try with_reducible rfl)
    simp only [Act.put, List.setIfInBounds_toArray, List.set_cons_zero, List.set_cons_succ]
    refine wpAnyH_take (i := 31) (v := ?vrx32) (oi := ?orx32) ?hrx32 (by kernel_rfl) (by kernel_rfl) (by kernel_rfl) (fun _ _ _ h => h) (Or.inl ⟨?wrx32, ?yrx32⟩) hHeld ?rrx32
    case hrx32 => simp only [List.getElem?_toArray, List.getElem?_cons_zero, List.getElem?_cons_succ]; rfl
    case wrx32 => rfl
    case yrx32 => intro w hSw; (try dsimp only at hSw); go_simp; (try with_reducible rfl)
    simp only [Act.put, List.setIfInBounds_toArray, List.set_cons_zero, List.set_cons_succ]
    refine wpAnyH_take (i := 32) (v := ?vrx33) (oi := ?orx33) ?hrx33 (by kernel_rfl) (by kernel_rfl) (by kernel_rfl) (fun _ _ _ h => h) (Or.inl ⟨?wrx33, ?yrx33⟩) hHeld ?rrx33
    case hrx33 => simp only [List.getElem?_toArray, List.getElem?_cons_zero, List.getElem?_cons_succ]; rfl
    case wrx33 => rfl
    case yrx33 => intro w hSw; (try dsimp only at hSw); go_simp; (try with_reducible rfl)
    simp only [Act.put, List.setIfInBounds_toArray, List.set_cons_zero, List.set_cons_succ]
    refine wpAnyH_take (i := 33) (v := ?vrx34) (oi := ?orx34) ?hrx34 (by kernel_rfl) (by kernel_rfl) (by kernel_rfl) (fun _ _ _ h => h) (Or.inl ⟨?wrx34, ?yrx34⟩) hHeld ?rrx34
    case hrx34 => simp only [List.getElem?_toArray, List.getElem?_cons_zero, List.getElem?_cons_succ]; rfl
    case wrx34 => rfl
    case yrx34 => intro w hSw; (try dsimp only at hSw); go_simp; (try with_reducible rfl)
    simp only [Act.put, List.setIfInBounds_toArray, List.set_cons_zero, List.set_cons_succ]
    refine wpAnyH_ready (rs := [34]) (by kernel_rfl) (by simp) ?_
    refine AllReadyH.cons (o := ?orx35) ?hrx35 (fun K hK => ?srx35) AllReadyH.nil
    case hrx35 => simp only [List.getElem?_toArray, List.getElem?_cons_zero, List.getElem?_cons_succ]; rfl
    go_simp
    refine (awake15_any _).mono ?_
    rintro e w17 ⟨rfl, k17⟩
    have K17 := K15.trans' k17
    go_wp2_with fail
    refine hK.out _ _ (all9 (kept6 k17 ⟨hHeld.1, hHeld.2.1, hHeld.2.2.1, hHeld.2.2.2.1, hHeld.2.2.2.2.1, hHeld.2.2.2.2.2.1⟩) (HCV.out _ (K17))) (fun hHeld => ?_)
    clear hK K
    try simp only [Act.put, List.setIfInBounds_toArray, List.set_cons_zero, List.set_cons_succ]
    refine wpAnyH_take (i := 35) (v := ?vrx36) (oi := ?orx36) ?hrx36 (by kernel_rfl) (by kernel_rfl) (by kernel_rfl) (fun _ _ _ h => h) (Or.inl ⟨?wrx36, ?yrx36⟩) hHeld ?rrx36
    case hrx36 => simp only [List.getElem?_toArray, List.getElem?_cons_zero, List.getElem?_cons_succ]; rfl
    case wrx36 => rfl
    case yrx36 => intro w hSw; (try dsimp only at hSw); go_simp; (try with_reducible rfl)
    simp only [Act.put, List.setIfInBounds_toArray, List.set_cons_zero, List.set_cons_succ]
    refine wpAnyH_take (i := 36) (v := ?vrx37) (oi := ?orx37) ?hrx37 (by kernel_rfl) (by kernel_rfl) (by kernel_rfl) (fun _ _ _ h => h) (Or.inl ⟨?wrx37, ?yrx37⟩) hHeld ?rrx37
    case hrx37 => simp only [List.getElem?_toArray, List.getElem?_cons_zero, List.getElem?_cons_succ]; rfl
    case wrx37 => rfl
    case yrx37 => intro w hSw; (try dsimp only at hSw); go_simp; (try with_reducible rfl)
    simp only [Act.put, List.setIfInBounds_toArray, List.set_cons_zero, List.set_cons_succ]
    refine wpAnyH_done (by kernel_rfl) ?_ _
    refine NoPanic.normal ?_
    go_wp2_with fail
    go_ret
    exact ⟨rfl, HK14.out.trans' K17⟩
  · go_wp2_with fail
    refine (HBY.out _ HK3.out).mono ?_
    rintro e w11 ⟨A7, n7, c7, rfl, ho, k11⟩
    have HK11 := hide (HK3.out.trans' k11)
    have HQ11 := hide (HQB.out.no k11)
    have HO11 := hide ho
    clear k11 ho HQB HK3 p0 p1 p2 x0 x1 x2 y0 y1 y2 v1 v2
    go_wp2_with fail
    refine (parsep_any HO11.out.bts (by rw [Rp.bytes_len]; have := HD0.out; dsimp only; omega) ⟨num, e, data⟩ 0 (fun _ => ⟨(Rp.back HN.out HRG.out).symm, rfl⟩) (fun h => by rw [Rp.read HN.out HRG.out] at h; cases h)).mono ?_
    rintro e w13 ⟨A8, n8, c8, rfl, hB8, k13⟩
    have kz := Kp.alloc No w13 (.cells #[.int .u64 (num : Int), .int .i64 e, .slice A8 n8 c8] 47)
    have Z14 : Bx3 47 (w13.alloc (.cells #[.int .u64 (num : Int), .int .i64 e, .slice A8 n8 c8] 47)) w13.heap.size (.int .u64 (num : Int)) (.int .i64 e) (.slice A8 n8 c8) := Bx3.new w13 _ _ _ _
    have HC14 := hide (cells6 Z14 ((HQ11.out.no k13).no kz))
    have HK14 := hide ((HK11.out.trans' k13).trans' kz)
    have HO := hide ((HO11.out.no k13).no kz)
    have HB8 := hide (hB8.no kz)
    clear hB8 k13 kz Z14 HO11 HQ11 HK11
    go_wp2_with fail
    obtain ⟨b0, hb0⟩ : ∃ b0, b0 = W.heap.size := ⟨_, rfl⟩
    obtain ⟨b3, hb3⟩ : ∃ b3, b3 = w13.heap.size := ⟨_, rfl⟩
    rw [← hb3, ← hb0] at HC14
    rw [← hb3, ← hb0]
    generalize w13.alloc (.cells #[.int .u64 (num : Int), .int .i64 e, .slice A8 n8 c8] 47) = w14 at *
    clear hb3 hb0
    obtain ⟨tb, htb⟩ : ∃ tb, tb = strOf (Rp.bytes ⟨num, e, data⟩) := ⟨_, rfl⟩
    have HTB := hide htb
    obtain ⟨tc, htc⟩ : ∃ tc, tc = strOf data := ⟨_, rfl⟩
    have HTC := hide htc
    clear htb htc
    have HCV : Hid (∀ w', Kp No w14 w' → (convert 27 9 (.slice A7 n7 c7)).run Try.prog w' = .ok (.string tb) w' ∧ (convert 27 9 (.slice A8 n8 c8)).run Try.prog w' = .ok (.string tc) w' ∧ (convert 27 9 (.slice A0 n0 c0)).run Try.prog w' = .ok (.string tc) w') := fun w' kk => by
      have v1 := conv_bts (HO.out.no kk).bts
      have v3 := conv_bts (HB8.out.no kk)
      have v4 := conv_bts (HQ.out _ (HK14.out.trans' kk))
      rw [← HTB.out] at v1
      rw [← HTC.out] at v3 v4
      exact ⟨v1, v3, v4⟩
    refine wp_region_noPanic ?_
    refine wp_region_held_drew (S := fun w' => w'.cell? ⟨b3, 0, none⟩ = some (.int .u64 (num : Int)) ∧ w'.cell? ⟨b3, 1, none⟩ = some (.int .i64 e) ∧ w'.cell? ⟨b3, 2, none⟩ = some (.slice A8 n8 c8) ∧ w'.cell? ⟨b0, 0, none⟩ = some (.int .u64 (num : Int)) ∧ w'.cell? ⟨b0, 1, none⟩ = some (.int .i64 e) ∧ w'.cell? ⟨b0, 2, none⟩ = some (.slice A0 n0 c0) ∧ (convert 27 9 (.slice A7 n7 c7)).run Try.prog w' = .ok (.string tb) w' ∧ (convert 27 9 (.slice A8 n8 c8)).run Try.prog w' = .ok (.string tc) w' ∧ (convert 27 9 (.slice A0 n0 c0)).run Try.prog w' = .ok (.string tc) w') (by kernel_rfl) (all9 (kept6 ((Kp.refl No w14).drew) HC14.out) (HCV.out _ ((Kp.refl No w14).drew))) (fun hHeld => ?_)
    refine wpAnyH_take (i := 0) (v := ?vsx1) (oi := ?osx1) ?hsx1 (by kernel_rfl) (by kernel_rfl) (by kernel_rfl) (fun _ _ _ h => h) (Or.inl ⟨?wsx1, ?ysx1⟩) hHeld ?rsx1
    case hsx1 => simp only [List.getElem?_toArray, List.getElem?_cons_zero, List.getElem?_cons_succ]; rfl
    case wsx1 => rfl
    case ysx1 => intro w hSw; (try dsimp only at hSw); go_simp; (try with_reducible rfl)
    simp only [Act.put, List.setIfInBounds_toArray, List.set_cons_zero, List.set_cons_succ]
    refine wpAnyH_take (i := 1) (v := ?vsx2) (oi := ?osx2) ?hsx2 (by kernel_rfl) (by kernel_rfl) (by kernel_rfl) (fun _ _ _ h => h) (Or.inl ⟨?wsx2, ?ysx2⟩) hHeld ?rsx2
    case hsx2 => simp only [List.getElem?_toArray, List.getElem?_cons_zero, List.getElem?_cons_succ]; rfl
    case wsx2 => rfl
    case ysx2 => intro w hSw; (try dsimp only at hSw); go_simp; (try with_reducible rfl)
    simp only [Act.put, List.setIfInBounds_toArray, List.set_cons_zero, List.set_cons_succ]
    refine wpAnyH_take (i := 2) (v := ?vsx3) (oi := ?osx3) ?hsx3 (by kernel_rfl) (by kernel_rfl) (by kernel_rfl) (fun _ _ _ h => h) (Or.inl ⟨?wsx3, ?ysx3⟩) hHeld ?rsx3
    case hsx3 => simp only [List.getElem?_toArray, List.getElem?_cons_zero, List.getElem?_cons_succ]; rfl
    case wsx3 => rfl
    case ysx3 => intro w hSw; (try dsimp only at hSw); go_simp; (try with_reducible rfl)
    simp only [Act.put, List.setIfInBounds_toArray, List.set_cons_zero, List.set_cons_succ]
    refine wpAnyH_ready (rs := [3]) (by kernel_rfl) (by simp) ?_
    refine AllReadyH.cons (o := ?osx4) ?hsx4 (fun K hK => ?ssx4) AllReadyH.nil
    case hsx4 => simp only [List.getElem?_toArray, List.getElem?_cons_zero, List.getElem?_cons_succ]; rfl
    go_simp
    refine (rpbytes_any ⟨num, e, data⟩ HN.out HRG.out (HQ.out _ (HK14.out.drew)) (Nat.le_trans hn0 (by decide))).mono ?_
    rintro e w15 ⟨A9, n9, c9, rfl, o9, k15⟩
    have K15 : Kp No w14 w15 := ((Kp.refl No w14).drew).trans' k15
    have v2 := conv_bts o9.bts
    rw [← HTB.out] at v2
    go_wp2_with fail
    refine hK.out _ _ (all9 (kept6 k15 ⟨hHeld.1, hHeld.2.1, hHeld.2.2.1, hHeld.2.2.2.1, hHeld.2.2.2.2.1, hHeld.2.2.2.2.2.1⟩) (HCV.out _ (K15))) (fun hHeld => ?_)
    clear hK K
    try simp only [Act.put, List.setIfInBounds_toArray, List.set_cons_zero, List.set_cons_succ]
    refine wpAnyH_ready (rs := [4]) (by kernel_rfl) (by simp) ?_
    refine AllReadyH.cons (o := ?osx5) ?hsx5 (fun K hK => ?ssx5) AllReadyH.nil
    case hsx5 => simp only [List.getElem?_toArray, List.getElem?_cons_zero, List.getElem?_cons_succ]; rfl
    go_simp
    refine hK.out _ _ (hHeld) (fun hHeld => ?_)
    clear hK K
    try simp only [Act.put, List.setIfInBounds_toArray, List.set_cons_zero, List.set_cons_succ]
    refine wpAnyH_take (i := 5) (v := ?vsx6) (oi := ?osx6) ?hsx6 (by kernel_rfl) (by kernel_rfl) (by kernel_rfl) (fun _ _ _ h => h) (Or.inl ⟨?wsx6, ?ysx6⟩) hHeld ?rsx6
    case hsx6 => simp only [List.getElem?_toArray, List.getElem?_cons_zero, List.getElem?_cons_succ]; rfl
    case wsx6 => rfl
    case ysx6 => intro w hSw; (try dsimp only at hSw); go_simp; (try with_reducible rfl)
    simp only [Act.put, List.setIfInBounds_toArray, List.set_cons_zero, List.set_cons_succ]
    refine wpAnyH_take (i := 6) (v := ?vsx7) (oi := ?osx7) ?hsx7 (by kernel_rfl) (by kernel_rfl) (by kernel_rfl) (fun _ _ _ h => h) (Or.inl ⟨?wsx7, ?ysx7⟩) hHeld ?rsx7
    case hsx7 => simp only [List.getElem?_toArray, List.getElem?_cons_zero, List.getElem?_cons_succ]; rfl
    case wsx7 => rfl
    case ysx7 => intro w hSw; (try dsimp only at hSw); go_simp; (try with_reducible rfl)
    simp only [Act.put, List.setIfInBounds_toArray, List.set_cons_zero, List.set_cons_succ]
    refine wpAnyH_take (i := 7) (v := ?vsx8) (oi := ?osx8) ?hsx8 (by kernel_rfl) (by kernel_rfl) (by kernel_rfl) (fun _ _ _ h => h) (Or.inl ⟨?wsx8, ?ysx8⟩) hHeld ?rsx8
    case hsx8 => simp only [List.getElem?_toArray, List.getElem?_cons_zero, List.getElem?_cons_succ]; rfl
    case wsx8 => rfl
    case ysx8 => intro w hSw; (try dsimp only at hSw); go_simp; (try with_reducible rfl)
    simp only [Act.put, List.setIfInBounds_toArray, List.set_cons_zero, List.set_cons_succ]
    refine wpAnyH_take (i := 8) (v := ?vsx9) (oi := ?osx9) ?hsx9 (by kernel_rfl) (by kernel_rfl) (by kernel_rfl) (fun _ _ _ h => h) (Or.inl ⟨?wsx9, ?ysx9⟩) hHeld ?rsx9
    case hsx9 => simp only [List.getElem?_toArray, List.getElem?_cons_zero, List.getElem?_cons_succ]; rfl
    case wsx9 => rfl
    case ysx9 => intro w hSw; (try dsimp only at hSw); go_simp; (try with_reducible rfl)
    simp only [Act.put, List.setIfInBounds_toArray, List.set_cons_zero, List.set_cons_succ]
    refine wpAnyH_take (i := 9) (v := ?vsx10) (oi := ?osx10) ?hsx10 (by kernel_rfl) (by kernel_rfl) (by kernel_rfl) (fun _ _ _ h => h) (Or.inl ⟨?wsx10, ?ysx10⟩) hHeld ?rsx10
    case hsx10 => simp only [List.getElem?_toArray, List.getElem?_cons_zero, List.getElem?_cons_succ]; rfl
    case wsx10 => rfl
    case ysx10 => intro w hSw; (try dsimp only at hSw); go_simp; (try with_reducible rfl)
    simp only [Act.put, List.setIfInBounds_toArray, List.set_cons_zero, List.set_cons_succ]
    refine wpAnyH_take (i := 10) (v := ?vsx11) (oi := ?osx11) ?hsx11 (by kernel_rfl) (by kernel_rfl) (by kernel_rfl) (fun _ _ _ h => h) (Or.inl ⟨?wsx11, ?ysx11⟩) hHeld ?rsx11
    case hsx11 => simp only [List.getElem?_toArray, List.getElem?_cons_zero, List.getElem?_cons_succ]; rfl
    case wsx11 => rfl
    case ysx11 => intro w hSw; (try dsimp only at hSw); go_simp; (try with_reducible rfl)
    simp only [Act.put, List.setIfInBounds_toArray, List.set_cons_zero, List.set_cons_succ]
    refine wpAnyH_take (i := 11) (v := ?vsx12) (oi := ?osx12) ?hsx12 (by kernel_rfl) (by kernel_rfl) (by kernel_rfl) (fun _ _ _ h => h) (Or.inl ⟨?wsx12, ?ysx12⟩) hHeld ?rsx12
    case hsx12 => simp only [List.getElem?_toArray, List.getElem?_cons_zero, List.getElem?_cons_succ]; rfl
    case wsx12 => rfl
    case ysx12 => intro w hSw; (try dsimp only at hSw); go_simp; (try with_reducible rfl)
    simp only [Act.put, List.setIfInBounds_toArray, List.set_cons_zero, List.set_cons_succ]
    refine wpAnyH_take (i := 12) (v := ?vsx13) (oi := ?osx13) ?hsx13 (by kernel_rfl) (by kernel_rfl) (by kernel_rfl) (fun _ _ _ h => h) (Or.inl ⟨?wsx13, ?ysx13⟩) hHeld ?rsx13
    case hsx13 => simp only [List.getElem?_toArray, List.getElem?_cons_zero, List.getElem?_cons_succ]; rfl
    case wsx13 => rfl
    case ysx13 => intro w hSw; (try dsimp only at hSw); go_simp; (try with_reducible rfl)
    simp only [Act.put, List.setIfInBounds_toArray, List.set_cons_zero, List.set_cons_succ]
    refine wpAnyH_take (i := 13) (v := ?vsx14) (oi := ?osx14) ?hsx14 (by kernel_rfl) (by kernel_rfl) (by kernel_rfl) (fun _ _ _ h => h) (Or.inl ⟨?wsx14, ?ysx14⟩) hHeld ?rsx14
    case hsx14 => simp only [List.getElem?_toArray, List.getElem?_cons_zero, List.getElem?_cons_succ]; rfl
    case wsx14 => rfl
    case ysx14 => intro w hSw; (try dsimp only at hSw); go_simp; (try with_reducible rfl)
    simp only [Act.put, List.setIfInBounds_toArray, List.set_cons_zero, List.set_cons_succ]
    refine wpAnyH_take (i := 14) (v := ?vsx15) (oi := ?osx15) ?hsx15 (by kernel_rfl) (by kernel_rfl) (by kernel_rfl) (fun _ _ _ h => h) (Or.inl ⟨?wsx15, ?ysx15⟩) hHeld ?rsx15
    case hsx15 => simp only [List.getElem?_toArray, List.getElem?_cons_zero, List.getElem?_cons_succ]; rfl
    case wsx15 => rfl
    case ysx15 => intro w hSw; (try dsimp only at hSw); go_simp; (try with_reducible rfl)
    simp only [Act.put, List.setIfInBounds_toArray, List.set_cons_zero, List.set_cons_succ]
    refine wpAnyH_take (i := 15) (v := ?vsx16) (oi := ?osx16) ?hsx16 (by kernel_rfl) (by kernel_rfl) (by kernel_rfl) (fun _ _ _ h => h) (Or.inl ⟨?wsx16, ?ysx16⟩) hHeld ?rsx16
    case hsx16 => simp only [List.getElem?_toArray, List.getElem?_cons_zero, List.getElem?_cons_succ]; rfl
    case wsx16 => rfl
    case ysx16 => intro w hSw; (try dsimp only at hSw); go_simp; (try with_reducible rfl)
    simp only [Act.put, List.setIfInBounds_toArray, List.set_cons_zero, List.set_cons_succ]
    refine wpAnyH_take (i := 16) (v := ?vsx17) (oi := ?osx17) ?hsx17 (by kernel_rfl) (by kernel_rfl) (by kernel_rfl) (fun _ _ _ h => h) (Or.inl ⟨?wsx17, ?ysx17⟩) hHeld ?rsx17
    case hsx17 => simp only [List.getElem?_toArray, List.getElem?_cons_zero, List.getElem?_cons_succ]; rfl
    case wsx17 => rfl
    case ysx17 => intro w hSw; (try dsimp only at hSw); go_simp; (try with_reducible rfl)
    simp only [Act.put, List.setIfInBounds_toArray, List.set_cons_zero, List.set_cons_succ]
    refine wpAnyH_take (i := 17) (v := ?vsx18) (oi := ?osx18) ?hsx18 (by kernel_rfl) (by kernel_rfl) (by kernel_rfl) (fun _ _ _ h => h) (Or.inl ⟨?wsx18, ?ysx18⟩) hHeld ?rsx18
    case hsx18 => simp only [List.getElem?_toArray, List.getElem?_cons_zero, List.getElem?_cons_succ]; rfl
    case wsx18 => rfl
    case ysx18 => intro w hSw; (try dsimp only at hSw); go_simp; (try with_reducible rfl)
    simp only [Act.put, List.setIfInBounds_toArray, List.set_cons_zero, List.set_cons_succ]
    refine wpAnyH_take (i := 18) (v := ?vsx19) (oi := ?osx19) ?hsx19 (by kernel_rfl) (by kernel_rfl) (by kernel_rfl) (fun _ _ _ h => h) (Or.inl ⟨?wsx19, ?ysx19⟩) hHeld ?rsx19
    case hsx19 => simp only [List.getElem?_toArray, List.getElem?_cons_zero, List.getElem?_cons_succ]; rfl
    case wsx19 => rfl
    case ysx19 => intro w hSw; (try dsimp only at hSw); go_simp; (try with_reducible rfl)
    simp only [Act.put, List.setIfInBounds_toArray, List.set_cons_zero, List.set_cons_succ]
    refine wpAnyH_take (i := 19) (v := ?vsx20) (oi := ?osx20) ?hsx20 (by kernel_rfl) (by kernel_rfl) (by kernel_rfl) (fun _ _ _ h => h) (Or.inl ⟨?wsx20, ?ysx20⟩) hHeld ?rsx20
    case hsx20 => simp only [List.getElem?_toArray, List.getElem?_cons_zero, List.getElem?_cons_succ]; rfl
    case wsx20 => rfl
    case ysx20 => intro w hSw; (try dsimp only at hSw); go_simp; (try with_reducible rfl)
    simp only [Act.put, List.setIfInBounds_toArray, List.set_cons_zero, List.set_cons_succ]
    refine wpAnyH_take (i := 20) (v := ?vsx21) (oi := ?osx21) ?hsx21 (by kernel_rfl) (by kernel_rfl) (by kernel_rfl) (fun _ _ _ h => h) (Or.inl ⟨?wsx21, ?ysx21⟩) hHeld ?rsx21
    case hsx21 => simp only [List.getElem?_toArray, List.getElem?_cons_zero, List.getElem?_cons_succ]; rfl
    case wsx21 => rfl
    case ysx21 => intro w hSw; (try dsimp only at hSw); go_simp; (try with_reducible rfl)
    simp only [Act.put, List.setIfInBounds_toArray, List.set_cons_zero, List.set_cons_succ]
    refine wpAnyH_take (i := 21) (v := ?vsx22) (oi := ?osx22) ?hsx22 (by kernel_rfl) (by kernel_rfl) (by kernel_rfl) (fun _ _ _ h => h) (Or.inl ⟨?wsx22, ?ysx22⟩) hHeld ?rsx22
    case hsx22 => simp only [List.getElem?_toArray, List.getElem?_cons_zero, List.getElem?_cons_succ]; rfl
    case wsx22 => rfl
    case ysx22 => intro w hSw; (try dsimp only at hSw); go_simp; (try with_reducible rfl)
    simp only [Act.put, List.setIfInBounds_toArray, List.set_cons_zero, List.set_cons_succ]
    refine wpAnyH_take (i := 22) (v := ?vsx23) (oi := ?osx23) ?hsx23 (by kernel_rfl) (by kernel_rfl) (by kernel_rfl) (fun _ _ _ h => h) (Or.inl ⟨?wsx23, ?ysx23⟩) hHeld ?rsx23
    case hsx23 => simp only [List.getElem?_toArray, List.getElem?_cons_zero, List.getElem?_cons_succ]; rfl
    case wsx23 => rfl
    case ysx23 => intro w hSw; (try dsimp only at hSw); go_simp; (try with_reducible rfl)
    simp only [Act.put, List.setIfInBounds_toArray, List.set_cons_zero, List.set_cons_succ]
    refine wpAnyH_take (i := 23) (v := ?vsx24) (oi := ?osx24) ?hsx24 (by kernel_rfl) (by kernel_rfl) (by kernel_rfl) (fun _ _ _ h => h) (Or.inl ⟨?wsx24, ?ysx24⟩) hHeld ?rsx24
    case hsx24 => simp only [List.getElem?_toArray, List.getElem?_cons_zero, List.getElem?_cons_succ]; rfl
    case wsx24 => rfl
    case ysx24 => intro w hSw; (try dsimp only at hSw); go_simp; (try with_reducible rfl)
    simp only [Act.put, List.setIfInBounds_toArray, List.set_cons_zero, List.set_cons_succ]
    refine wpAnyH_take (i := 24) (v := ?vsx25) (oi := ?osx25) ?hsx25 (by kernel_rfl) (by kernel_rfl) (by kernel_rfl) (fun _ _ _ h => h) (Or.inl ⟨?wsx25, ?ysx25⟩) hHeld ?rsx25
    case hsx25 => simp only [List.getElem?_toArray, List.getElem?_cons_zero, List.getElem?_cons_succ]; rfl
    case wsx25 => rfl
    case ysx25 => intro w hSw; (try dsimp only at hSw); go_simp; (try with_reducible rfl)
    simp only [Act.put, List.setIfInBounds_toArray, List.set_cons_zero, List.set_cons_succ]
    refine wpAnyH_take (i := 25) (v := ?vsx26) (oi := ?osx26) ?hsx26 (by kernel_rfl) (by kernel_rfl) (by kernel_rfl) (fun _ _ _ h => h) (Or.inl ⟨?wsx26, ?ysx26⟩) hHeld ?rsx26
    case hsx26 => simp only [List.getElem?_toArray, List.getElem?_cons_zero, List.getElem?_cons_succ]; rfl
    case wsx26 => rfl
    case ysx26 => intro w hSw; (try dsimp only at hSw); go_simp; (try with_reducible rfl)
    simp only [Act.put, List.setIfInBounds_toArray, List.set_cons_zero, List.set_cons_succ]
    refine wpAnyH_take (i := 26) (v := ?vsx27) (oi := ?osx27) ?hsx27 (by kernel_rfl) (by kernel_rfl) (by kernel_rfl) (fun _ _ _ h => h) (Or.inl ⟨?wsx27, ?ysx27⟩) hHeld ?rsx27
    case hsx27 => simp only [List.getElem?_toArray, List.getElem?_cons_zero, List.getElem?_cons_succ]; rfl
    case wsx27 => rfl
    case ysx27 => intro w hSw; (try dsimp only at hSw); go_simp; (try with_reducible rfl)
    simp only [Act.put, List.setIfInBounds_toArray, List.set_cons_zero, List.set_cons_succ]
    refine wpAnyH_take (i := 27) (v := ?vsx28) (oi := ?osx28) ?hsx28 (by kernel_rfl) (by kernel_rfl) (by kernel_rfl) (fun _ _ _ h => h) (Or.inl ⟨?wsx28, ?ysx28⟩) hHeld ?rsx28
    case hsx28 => simp only [List.getElem?_toArray, List.getElem?_cons_zero, List.getElem?_cons_succ]; rfl
    case wsx28 => rfl
    case ysx28 => intro w hSw; (try dsimp only at hSw); go_simp; (try with_reducible rfl)
    simp only [Act.put, List.setIfInBounds_toArray, List.set_cons_zero, List.set_cons_succ]
    refine wpAnyH_take (i := 28) (v := ?vsx29) (oi := ?osx29) ?hsx29 (by kernel_rfl) (by kernel_rfl) (by kernel_rfl) (fun _ _ _ h => h) (Or.inl ⟨?wsx29, ?ysx29⟩) hHeld ?rsx29
    case hsx29 => simp only [List.getElem?_toArray, List.getElem?_cons_zero, List.getElem?_cons_succ]; rfl
    case wsx29 => rfl
    case ysx29 => intro w hSw; (try dsimp only at hSw); go_simp; (try with_reducible rfl)
    simp only [Act.put, List.setIfInBounds_toArray, List.set_cons_zero, List.set_cons_succ]
    refine wpAnyH_take (i := 29) (v := ?vsx30) (oi := ?osx30) ?hsx30 (by kernel_rfl) (by kernel_rfl) (by kernel_rfl) (fun _ _ _ h => h) (Or.inl ⟨?wsx30, ?ysx30⟩) hHeld ?rsx30
    case hsx30 => simp only [List.getElem?_toArray, List.getElem?_cons_zero, List.getElem?_cons_succ]; rfl
    case wsx30 => rfl
    case ysx30 => intro w hSw; (try dsimp only at hSw); go_simp; (try with_reducible rfl)
    simp only [Act.put, List.setIfInBounds_toArray, List.set_cons_zero, List.set_cons_succ]
    refine wpAnyH_take (i := 30) (v := ?vsx31) (oi := ?osx31) ?hsx31 (by kernel_rfl) (by kernel_rfl) (by kernel_rfl) (fun _ _ _ h => h) (Or.inl ⟨?wsx31, ?ysx31⟩) hHeld ?rsx31
    case hsx31 => simp only [List.getElem?_toArray, List.getElem?_cons_zero, List.getElem?_cons_succ]; rfl
    case wsx31 => rfl
    case ysx31 => intro w hSw; (try dsimp only at hSw); go_simp; (try with_reducible rfl)
    simp only [Act.put, List.setIfInBounds_toArray, List.set_cons_zero, List.set_cons_succ]
    refine wpAnyH_take (i := 31) (v := ?vsx32) (oi := ?osx32) ?hsx32 (by kernel_rfl) (by kernel_rfl) (by kernel_rfl) (fun _ _ _ h => h) (Or.inl ⟨?wsx32, ?ysx32⟩) hHeld ?rsx32
    case hsx32 => simp only [List.getElem?_toArray, List.getElem?_cons_zero, List.getElem?_cons_succ]; rfl
    case wsx32 => rfl
    case ysx32 => intro w hSw; (try dsimp only at hSw); go_simp; (try with_reducible rfl)
    simp only [Act.put, List.setIfInBounds_toArray, List.set_cons_zero, List.set_cons_succ]
    refine wpAnyH_take (i := 32) (v := ?vsx33) (oi := ?osx33) ?hsx33 (by kernel_rfl) (by kernel_rfl) (by kernel_rfl) (fun _ _ _ h => h) (Or.inl ⟨?wsx33, ?ysx33⟩) hHeld ?rsx33
    case hsx33 => simp only [List.getElem?_toArray, List.getElem?_cons_zero, List.getElem?_cons_succ]; rfl
    case wsx33 => rfl
    case ysx33 => intro w hSw; (try dsimp only at hSw); go_simp; (try with_reducible rfl)
    simp only [Act.put, List.setIfInBounds_toArray, List.set_cons_zero, List.set_cons_succ]
    refine wpAnyH_take (i := 33) (v := ?vsx34) (oi := ?osx34) ?hsx34 (by kernel_rfl) (by kernel_rfl) (by kernel_rfl) (fun _ _ _ h => h) (Or.inl ⟨?wsx34, ?ysx34⟩) hHeld ?rsx34
    case hsx34 => simp only [List.getElem?_toArray, List.getElem?_cons_zero, List.getElem?_cons_succ]; rfl
    case wsx34 => rfl
    case ysx34 => intro w hSw; (try dsimp only at hSw); go_simp; (try with_reducible rfl)
    simp only [Act.put, List.setIfInBounds_toArray, List.set_cons_zero, List.set_cons_succ]
    refine wpAnyH_ready (rs := [34]) (by kernel_rfl) (by simp) ?_
    refine AllReadyH.cons (o := ?osx35) ?hsx35 (fun K hK => ?ssx35) AllReadyH.nil
    case hsx35 => simp only [List.getElem?_toArray, List.getElem?_cons_zero, List.getElem?_cons_succ]; rfl
    go_simp
    refine (awake15_any _).mono ?_
    rintro e w17 ⟨rfl, k17⟩
    have K17 := K15.trans' k17
    go_wp2_with fail
    refine hK.out _ _ (all9 (kept6 k17 ⟨hHeld.1, hHeld.2.1, hHeld.2.2.1, hHeld.2.2.2.1, hHeld.2.2.2.2.1, hHeld.2.2.2.2.2.1⟩) (HCV.out _ (K17))) (fun hHeld => ?_)
    clear hK K
    try simp only [Act.put, List.setIfInBounds_toArray, List.set_cons_zero, List.set_cons_succ]
    refine wpAnyH_take (i := 35) (v := ?vsx36) (oi := ?osx36) ?hsx36 (by kernel_rfl) (by kernel_rfl) (by kernel_rfl) (fun _ _ _ h => h) (Or.inl ⟨?wsx36, ?ysx36⟩) hHeld ?rsx36
    case hsx36 => simp only [List.getElem?_toArray, List.getElem?_cons_zero, List.getElem?_cons_succ]; rfl
    case wsx36 => rfl
    case ysx36 => intro w hSw; (try dsimp only at hSw); go_simp; (try with_reducible rfl)
    simp only [Act.put, List.setIfInBounds_toArray, List.set_cons_zero, List.set_cons_succ]
    refine wpAnyH_take (i := 36) (v := ?vsx37) (oi := ?osx37) ?hsx37 (by kernel_rfl) (by kernel_rfl) (by kernel_rfl) (fun _ _ _ h => h) (Or.inl ⟨?wsx37, ?ysx37⟩) hHeld ?rsx37
    case hsx37 => simp only [List.getElem?_toArray, List.getElem?_cons_zero, List.getElem?_cons_succ]; rfl
    case wsx37 => rfl
    case ysx37 => intro w hSw; (try dsimp only at hSw); go_simp; (try with_reducible rfl)
    simp only [Act.put, List.setIfInBounds_toArray, List.set_cons_zero, List.set_cons_succ]
    refine wpAnyH_done (by kernel_rfl) ?_ _
    refine NoPanic.normal ?_
    go_wp2_with fail
    go_ret
    exact ⟨rfl, HK14.out.trans' K17⟩

theorem wirereplies_no (W : World) {A0 A1 : Option Addr} {n0 c0 n1 c1 : Nat} (p : Rp) (h : 300 < n0 ∨ (n0 ≤ 300 ∧ 500 < n1)) :
    Calls Try.prog 4 #[rpV p (.slice A0 n0 c0), .slice A1 n1 c1] W (TruePost W) := by
  obtain ⟨num, e, data⟩ := p
  rcases h with h | ⟨h1, h⟩
  · have q0 : (300 : Int) < (n0 : Int) := by omega
    go_enter Try.func4, Try.ntmps4
    go_wp2_with fail
    refine (awake15_any _).mono ?_
    rintro e w1 ⟨rfl, k1⟩
    go_wp2_with fail
    go_ret
    exact ⟨rfl, (Kp.alloc No W _).trans' k1⟩
  · have q0 : ¬ (300 : Int) < (n0 : Int) := by omega
    have q1 : (500 : Int) < (n1 : Int) := by omega
    go_enter Try.func4, Try.ntmps4
    go_wp2_with fail
    refine (awake15_any _).mono ?_
    rintro e w1 ⟨rfl, k1⟩
    go_wp2_with fail
    go_ret
    exact ⟨rfl, (Kp.alloc No W _).trans' k1⟩
/-- WireReplies. -/
theorem wirereplies_walk (W : World) {A1 : Option Addr} {n1 c1 : Nat} {bs : List UInt8} (p : Rp) {u : Value} (hn : p.num < 18446744073709551616) (hq : Bts W u p.data) (hb : Bts W (.slice A1 n1 c1) bs) (hnc : n1 ≤ c1) :
    Calls Try.prog 4 #[rpV p u, .slice A1 n1 c1] W fun e W' => e = .returned (.bool true) ∧ Below W.heap.size W W' := by
  obtain ⟨A0, n0, c0, rfl⟩ := hq.form
  refine Calls.mono (R := TruePost W) ?_ fun e W' p => ⟨p.1, p.2.below0⟩
  by_cases h : n0 ≤ 300 ∧ n1 ≤ 500
  · have hl : bs.length ≤ 1000 := by have := hb.len; omega
    rcases hE : rpE bs with _ | _
    · have h1 := hide fun w' (k : Kp No W w') => parsep_any (hb.no k) hl rp0 21 (fun h => by rw [hE] at h; cases h) fun _ => ⟨rfl, rfl⟩
      have h2 := hide fun w' (k : Kp No W w') => rparsep_any (hb.no k) hnc hl rp0 false (fun h => by rw [hE] at h; cases h) fun _ => ⟨rfl, rfl⟩
      rcases hr : RpB p.e n0 with _ | _
      · exact wirereplies_bad_false W p rp0 hn hq h.1 h.2 hr h1 h2
      · exact wirereplies_good_false W p rp0 hn hq h.1 h.2 hr h1 h2
    · have h1 := hide fun w' (k : Kp No W w') => parsep_any (hb.no k) hl (rpO bs) 0 (fun _ => ⟨rfl, rfl⟩) (fun h => by rw [hE] at h; cases h)
      have h2 := hide fun w' (k : Kp No W w') => rparsep_any (hb.no k) hnc hl (rpO bs) true (fun _ => ⟨rfl, rfl⟩) (fun h => by rw [hE] at h; cases h)
      rcases hr : RpB p.e n0 with _ | _
      · exact wirereplies_bad_true W p (rpO bs) hn hq h.1 h.2 hr h1 h2
      · exact wirereplies_good_true W p (rpO bs) hn hq h.1 h.2 hr h1 h2
  · exact wirereplies_no W p (by omega)
end Go.Proofs.Ytkpongkojkhboaa
