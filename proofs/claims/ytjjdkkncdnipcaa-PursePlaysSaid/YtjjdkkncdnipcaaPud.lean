/- The document's purse by value: Bound, Spend, Back and Tick, each as a contract. No condition. -/
import Derived.Test.YtjjdkkncdnipcaaPuc
import Derived.Deep.DeepCutAuto
import Derived.Deep.CutBlock
namespace Go.Proofs.Ytjjdkkncdnipcaa
open Go.RowKit
set_option linter.unusedVariables false
set_option maxRecDepth 20000
set_option linter.unusedSimpArgs false

/-- A purse's numbers are small beside what two words hold. -/
theorem Pu.Ok.mul {T : Pu} (h : T.Ok) {n : Nat} (hn : n ≤ 18446744073709551615) : T.rate * n ≤ 21267647932558653965307991459878666240 := by
  have h1 := Nat.mul_le_mul h.rt hn
  omega
section
variable {w : World} {T : Pu}
theorem rbound_any (w : World) (h : T.Ok) (n : Nat) (hn : n ≤ 18446744073709551615) : Calls Try.prog 18 #[.agg (puC T), .int .u64 (n : Int)] w (RnPost w (T.bound n)) := by
  have HB := hide (BxP.new w T)
  have HK := hide (Kp.alloc No w (.cells (puC T) 36))
  have C1 := hide (fun w => rtimes_any w T.rate n (by have := h.rt; omega) hn)
  have HL : Hid (Wd 0 T.burst T.burst) := Wd.low (by have := h.bu; omega)
  have HX : Hid (T.burst + T.rate * n < 340282366920938463463374607431768211456) := by
    have h1 := h.mul hn
    have h2 := h.bu
    show _ < _
    omega
  have HE : Hid (T.bound n = cutN (T.burst + T.rate * n)) := rfl
  clear h hn
  unfold puC at *
  go_enter Try.func18, Try.ntmps18
  go_upto_region 1 with fail
  generalize w.alloc (.cells #[.int .u64 (T.rate : Int), .int .u64 (T.burst : Int), .int .u64 (T.level : Int), .int .u64 (T.spent : Int)] 36) = w2 at HB HK ⊢
  obtain ⟨s, hs⟩ : ∃ s, s = w.heap.size := ⟨_, rfl⟩
  rw [← hs] at HB ⊢
  clear hs
  refine wp_region_noPanic ?_
  refine wp_region_held_drew (S := fun w' => Kp No w2 w') (by kernel_rfl) ((Kp.refl No _).drew) (fun hHeld => ?_)
  refine wpAnyH_take (i := 0) (v := ?vrbx1) (oi := ?orbx1) ?hrbx1 (by kernel_rfl) (by kernel_rfl) (by kernel_rfl) (fun _ _ _ h => h) (Or.inl ⟨?wrbx1, ?yrbx1⟩) hHeld ?rrbx1
  case hrbx1 => simp only [List.getElem?_toArray, List.getElem?_cons_zero, List.getElem?_cons_succ]; rfl
  case wrbx1 => rfl
  case yrbx1 => intro w hSw; (try dsimp only at hSw); go_simp; (try with_reducible rfl)
  simp only [Act.put, List.setIfInBounds_toArray, List.set_cons_zero, List.set_cons_succ]
  refine wpAnyH_take (i := 1) (v := ?vrbx2) (oi := ?orbx2) ?hrbx2 (by kernel_rfl) (by kernel_rfl) (by kernel_rfl) (fun _ _ _ h => h) (Or.inl ⟨?wrbx2, ?yrbx2⟩) hHeld ?rrbx2
  case hrbx2 => simp only [List.getElem?_toArray, List.getElem?_cons_zero, List.getElem?_cons_succ]; rfl
  case wrbx2 => rfl
  case yrbx2 =>
    intro w hSw
    (try dsimp only at hSw)
    have i0 := (HB.out.no hSw).c1
    go_simp
    try with_reducible rfl
  simp only [Act.put, List.setIfInBounds_toArray, List.set_cons_zero, List.set_cons_succ]
  refine wpAnyH_take (i := 2) (v := ?vrbx3) (oi := ?orbx3) ?hrbx3 (by kernel_rfl) (by kernel_rfl) (by kernel_rfl) (fun _ _ _ h => h) (Or.inl ⟨?wrbx3, ?yrbx3⟩) hHeld ?rrbx3
  case hrbx3 => simp only [List.getElem?_toArray, List.getElem?_cons_zero, List.getElem?_cons_succ]; rfl
  case wrbx3 => rfl
  case yrbx3 => intro w hSw; (try dsimp only at hSw); go_simp; (try with_reducible rfl)
  simp only [Act.put, List.setIfInBounds_toArray, List.set_cons_zero, List.set_cons_succ]
  refine wpAnyH_take (i := 3) (v := ?vrbx4) (oi := ?orbx4) ?hrbx4 (by kernel_rfl) (by kernel_rfl) (by kernel_rfl) (fun _ _ _ h => h) (Or.inl ⟨?wrbx4, ?yrbx4⟩) hHeld ?rrbx4
  case hrbx4 => simp only [List.getElem?_toArray, List.getElem?_cons_zero, List.getElem?_cons_succ]; rfl
  case wrbx4 => rfl
  case yrbx4 => intro w hSw; (try dsimp only at hSw); go_simp; (try with_reducible rfl)
  simp only [Act.put, List.setIfInBounds_toArray, List.set_cons_zero, List.set_cons_succ]
  refine wpAnyH_take (i := 4) (v := ?vrbx5) (oi := ?orbx5) ?hrbx5 (by kernel_rfl) (by kernel_rfl) (by kernel_rfl) (fun _ _ _ h => h) (Or.inl ⟨?wrbx5, ?yrbx5⟩) hHeld ?rrbx5
  case hrbx5 => simp only [List.getElem?_toArray, List.getElem?_cons_zero, List.getElem?_cons_succ]; rfl
  case wrbx5 => rfl
  case yrbx5 =>
    intro w hSw
    (try dsimp only at hSw)
    have i0 := (HB.out.no hSw).c0
    go_simp
    try with_reducible rfl
  simp only [Act.put, List.setIfInBounds_toArray, List.set_cons_zero, List.set_cons_succ]
  refine wpAnyH_take (i := 5) (v := ?vrbx6) (oi := ?orbx6) ?hrbx6 (by kernel_rfl) (by kernel_rfl) (by kernel_rfl) (fun _ _ _ h => h) (Or.inl ⟨?wrbx6, ?yrbx6⟩) hHeld ?rrbx6
  case hrbx6 => simp only [List.getElem?_toArray, List.getElem?_cons_zero, List.getElem?_cons_succ]; rfl
  case wrbx6 => rfl
  case yrbx6 => intro w hSw; (try dsimp only at hSw); go_simp; (try with_reducible rfl)
  simp only [Act.put, List.setIfInBounds_toArray, List.set_cons_zero, List.set_cons_succ]
  refine wpAnyH_ready (rs := [6]) (by kernel_rfl) (by simp) ?_
  refine AllReadyH.cons (o := ?orbx7) ?hrbx7 (fun K hK => ?srbx7) AllReadyH.nil
  case hrbx7 => simp only [List.getElem?_toArray, List.getElem?_cons_zero, List.getElem?_cons_succ]; rfl
  go_simp
  refine (C1.out _).mono ?_
  rintro e w7 ⟨h7, l7, rfl, hw7, k7⟩
  refine hK.out _ _ (hHeld.trans' k7) (fun hHeld => ?_)
  clear hK K
  try simp only [Act.put, List.setIfInBounds_toArray, List.set_cons_zero, List.set_cons_succ]
  refine wpAnyH_ready (rs := [7]) (by kernel_rfl) (by simp) ?_
  refine AllReadyH.cons (o := ?orbx8) ?hrbx8 (fun K hK => ?srbx8) AllReadyH.nil
  case hrbx8 => simp only [List.getElem?_toArray, List.getElem?_cons_zero, List.getElem?_cons_succ]; rfl
  go_simp
  refine (rplus_any _ HL.out hw7).mono ?_
  rintro e w8 ⟨h8, l8, rfl, hw8, k8⟩
  refine hK.out _ _ (hHeld.trans' k8) (fun hHeld => ?_)
  clear hK K
  try simp only [Act.put, List.setIfInBounds_toArray, List.set_cons_zero, List.set_cons_succ]
  refine wpAnyH_ready (rs := [8]) (by kernel_rfl) (by simp) ?_
  refine AllReadyH.cons (o := ?orbx9) ?hrbx9 (fun K hK => ?srbx9) AllReadyH.nil
  case hrbx9 => simp only [List.getElem?_toArray, List.getElem?_cons_zero, List.getElem?_cons_succ]; rfl
  go_simp
  refine (rcut_any _ hw8 HX.out).mono ?_
  rintro e w9 ⟨rfl, k9⟩
  refine hK.out _ _ (hHeld.trans' k9) (fun hHeld => ?_)
  clear hK K
  try simp only [Act.put, List.setIfInBounds_toArray, List.set_cons_zero, List.set_cons_succ]
  refine wpAnyH_take (i := 9) (v := ?vrbx10) (oi := ?orbx10) ?hrbx10 (by kernel_rfl) (by kernel_rfl) (by kernel_rfl) (fun _ _ _ h => h) (Or.inl ⟨?wrbx10, ?yrbx10⟩) hHeld ?rrbx10
  case hrbx10 => simp only [List.getElem?_toArray, List.getElem?_cons_zero, List.getElem?_cons_succ]; rfl
  case wrbx10 => rfl
  case yrbx10 => intro w hSw; (try dsimp only at hSw); go_simp; (try with_reducible rfl)
  simp only [Act.put, List.setIfInBounds_toArray, List.set_cons_zero, List.set_cons_succ]
  refine wpAnyH_done (by kernel_rfl) ?_ _
  refine NoPanic.normal ?_
  have K9 := hide (HK.out.trans' hHeld)
  clear hHeld
  go_wp2_with fail
  go_ret
  exact ⟨by rw [HE.out]; rfl, K9.out⟩
/-- What the document's calls that return a purse come to. -/
def RpPost (w : World) (T' : Pu) (f : Value → Value) (e : Ending) (w1 : World) : Prop := e = .returned (f (.agg (puC T'))) ∧ Kp No w w1
theorem puC_zero : puC ⟨0, 0, 0, 0⟩ = #[.int .u64 0, .int .u64 0, .int .u64 0, .int .u64 0] := rfl
theorem rspend_no (w : World) (h : T.Ok) {n : Nat} (hn : ¬ n ≤ T.level) : Calls Try.prog 17 #[.agg (puC T), .int .u64 (n : Int)] w (RpPost w (T.spend n) (fun v => .tuple #[v, .bool false])) := by
  have hn2 : T.level < n := by omega
  have e : T.spend n = T := if_neg hn
  rw [e]
  clear hn e h
  have K1 := Kp.alloc No w (.cells (puC T) 36)
  have K2 := Kp.alloc No (w.alloc (.cells (puC T) 36)) (.cells (puC ⟨0, 0, 0, 0⟩) 36)
  have e1 : (w.alloc (.cells (puC T) 36)).heap.size = w.heap.size + 1 := by simp
  have HB := hide ((BxP.new w T).no K2)
  have q2 := BxP.new (w.alloc (.cells (puC T) 36)) ⟨0, 0, 0, 0⟩
  rw [e1] at q2
  have HR := hide q2
  have HK := hide (K1.trans' K2)
  clear K1 K2 e1 q2
  simp only [puC_zero] at HB HK HR
  have y2 := HB.out.c2
  unfold puC at *
  go_enter Try.func17, Try.ntmps17
  go_upto_region 2 with fail
  clear y2
  generalize (w.alloc (.cells #[.int .u64 (T.rate : Int), .int .u64 (T.burst : Int), .int .u64 (T.level : Int), .int .u64 (T.spent : Int)] 36)).alloc (.cells #[.int .u64 0, .int .u64 0, .int .u64 0, .int .u64 0] 36) = w2 at HB HR HK ⊢
  obtain ⟨s, hs⟩ : ∃ s, s = w.heap.size := ⟨_, rfl⟩
  rw [← hs] at HB HR ⊢
  have HSZ := hide hs
  clear hs
  have x0 := HB.out.c0
  have x1 := HB.out.c1
  have x2 := HB.out.c2
  have x3 := HB.out.c3
  have z0 := HR.out.c0
  have z1 := HR.out.c1
  have z2 := HR.out.c2
  have z3 := HR.out.c3
  have f0 := HR.out.fz 0
  have f1 := HR.out.fz 1
  have f2 := HR.out.fz 2
  have f3 := HR.out.fz 3
  go_wp2_with fail
  have hf := HR.out.set4 T
  have kf := kp_bxp w2 (s + 1) (.int .u64 (T.rate : Int)) (.int .u64 (T.burst : Int)) (.int .u64 (T.level : Int)) (.int .u64 (T.spent : Int))
  clear x0 z0 f0 x1 z1 f1 x2 z2 f2 x3 z3 f3
  generalize ((((w2.setCell ⟨s + 1, 0, none⟩ (.int .u64 (T.rate : Int))).setCell ⟨s + 1, 1, none⟩ (.int .u64 (T.burst : Int))).setCell ⟨s + 1, 2, none⟩ (.int .u64 (T.level : Int))).setCell ⟨s + 1, 3, none⟩ (.int .u64 (T.spent : Int))) = w9 at hf kf ⊢
  have q0 := hf.c0
  have q1 := hf.c1
  have q2 := hf.c2
  have q3 := hf.c3
  refine bodyPost_ret (v := .tuple #[.agg (puC T), .bool false]) (by simp [results, Try.results17, go_sem, puC, q0, q1, q2, q3]) rfl ?_
  exact ⟨rfl, HK.out.trans (kf.mono fun q hq => .inr (by rw [hq, ← HSZ.out]; exact Nat.le_succ _))⟩
theorem rspend_yes (w : World) (h : T.Ok) {n : Nat} (hn : n ≤ T.level) : Calls Try.prog 17 #[.agg (puC T), .int .u64 (n : Int)] w (RpPost w (T.spend n) (fun v => .tuple #[v, .bool true])) := by
  have e : T.spend n = ⟨T.rate, T.burst, T.level - n, cutN (T.spent + n)⟩ := if_pos hn
  have HE := hide e
  have hlv := h.lv
  have hbu := h.bu
  have hsp := h.sp
  obtain ⟨m, hm⟩ : ∃ m, m = T.level - n := ⟨_, rfl⟩
  have e2 : IntKind.u64.wrap ((T.level : Int) - (n : Int)) = (m : Int) := by rw [IntKind.wrap_u64]; omega
  have C2 := hide (fun w => rplus_any w (Wd.low (l := T.spent) hsp) (Wd.low (l := n) (by omega)))
  have HX : Hid (T.spent + n < 340282366920938463463374607431768211456) := by show _ < _; omega
  rw [← hm] at HE
  clear e h hlv hbu hsp hm
  have K1 := Kp.alloc No w (.cells (puC T) 36)
  have K2 := Kp.alloc No (w.alloc (.cells (puC T) 36)) (.cells (puC ⟨0, 0, 0, 0⟩) 36)
  have e1 : (w.alloc (.cells (puC T) 36)).heap.size = w.heap.size + 1 := by simp
  have HB := hide ((BxP.new w T).no K2)
  have q2 := BxP.new (w.alloc (.cells (puC T) 36)) ⟨0, 0, 0, 0⟩
  rw [e1] at q2
  have HR := hide q2
  have HK := hide (K1.trans' K2)
  clear K1 K2 e1 q2
  simp only [puC_zero] at HB HK HR
  have y2 := HB.out.c2
  unfold puC at *
  go_enter Try.func17, Try.ntmps17
  go_upto_region 3 with fail
  clear y2
  generalize (w.alloc (.cells #[.int .u64 (T.rate : Int), .int .u64 (T.burst : Int), .int .u64 (T.level : Int), .int .u64 (T.spent : Int)] 36)).alloc (.cells #[.int .u64 0, .int .u64 0, .int .u64 0, .int .u64 0] 36) = w2 at HB HR HK ⊢
  obtain ⟨s, hs⟩ : ∃ s, s = w.heap.size := ⟨_, rfl⟩
  rw [← hs] at HB HR ⊢
  have HSZ := hide hs
  clear hs
  have y2 : w2.cell? ⟨s, 2, none⟩ = some (.int .u64 (T.level : Int)) := HB.out.c2
  have g2 := HB.out.fz 2
  go_upto_region 4 with fail
  have HB3 := hide (HB.out.setLevel m)
  have k3 := kp_pu w2 s 2 (.int .u64 (m : Int))
  have HR3 := hide (HR.out.keep k3 (by show ¬ s + 1 = s; omega))
  have HK3 := hide (HK.out.trans (k3.mono fun q hq => .inr (by rw [hq, ← HSZ.out]; exact Nat.le_refl _)))
  clear y2 g2 HB HR HK k3
  generalize w2.setCell ⟨s, 2, none⟩ (.int .u64 (m : Int)) = w3 at HB3 HR3 HK3 ⊢
  clear e2
  have y3 : w3.cell? ⟨s, 3, none⟩ = some (.int .u64 (T.spent : Int)) := HB3.out.c3
  go_wp2_with fail
  refine (C2.out _).mono ?_
  rintro e w8 ⟨h8, l8, rfl, hw8, k8⟩
  have HW8 := hide hw8
  have HB8 := hide (HB3.out.no k8)
  have HR8 := hide (HR3.out.no k8)
  have HK8 := hide (HK3.out.trans' k8)
  clear hw8 k8 y3 HB3 HR3 HK3
  go_wp2_with fail
  refine (rcut_any _ HW8.out HX.out).mono ?_
  rintro e w9 ⟨rfl, k9⟩
  have HB9 := hide (HB8.out.no k9)
  have HR9 := hide (HR8.out.no k9)
  have HK9 := hide (HK8.out.trans' k9)
  clear k9 HB8 HR8 HK8 HW8
  have y3 : w9.cell? ⟨s, 3, none⟩ = some (.int .u64 (T.spent : Int)) := HB9.out.c3
  have g3 := HB9.out.fz 3
  go_upto_region 5 with fail
  have k4 := kp_pu w9 s 3 (.int .u64 ((cutN (T.spent + n) : Nat) : Int))
  have HB4 := hide (HB9.out.setSpent (cutN (T.spent + n)))
  have HR4 := hide (HR9.out.keep k4 (by show ¬ s + 1 = s; omega))
  have HK4 := hide (HK9.out.trans (k4.mono fun q hq => .inr (by rw [hq, ← HSZ.out]; exact Nat.le_refl _)))
  clear k4 y3 g3 HB9 HR9 HK9
  generalize w9.setCell ⟨s, 3, none⟩ (.int .u64 ((cutN (T.spent + n) : Nat) : Int)) = w4 at HB4 HR4 HK4 ⊢
  rw [← HE.out] at HB4
  obtain ⟨U, hU⟩ : ∃ U, U = T.spend n := ⟨_, rfl⟩
  rw [← hU] at HB4 HE
  have HU := hide hU
  clear hU
  have x0 := HB4.out.c0
  have x1 := HB4.out.c1
  have x2 := HB4.out.c2
  have x3 := HB4.out.c3
  have z0 := HR4.out.c0
  have z1 := HR4.out.c1
  have z2 := HR4.out.c2
  have z3 := HR4.out.c3
  have f0 := HR4.out.fz 0
  have f1 := HR4.out.fz 1
  have f2 := HR4.out.fz 2
  have f3 := HR4.out.fz 3
  go_wp2_with fail
  have hf := HR4.out.set4 U
  have kf := kp_bxp w4 (s + 1) (.int .u64 (U.rate : Int)) (.int .u64 (U.burst : Int)) (.int .u64 (U.level : Int)) (.int .u64 (U.spent : Int))
  clear x0 z0 f0 x1 z1 f1 x2 z2 f2 x3 z3 f3
  generalize ((((w4.setCell ⟨s + 1, 0, none⟩ (.int .u64 (U.rate : Int))).setCell ⟨s + 1, 1, none⟩ (.int .u64 (U.burst : Int))).setCell ⟨s + 1, 2, none⟩ (.int .u64 (U.level : Int))).setCell ⟨s + 1, 3, none⟩ (.int .u64 (U.spent : Int))) = w9 at hf kf ⊢
  have q0 := hf.c0
  have q1 := hf.c1
  have q2 := hf.c2
  have q3 := hf.c3
  refine bodyPost_ret (v := .tuple #[.agg (puC U), .bool true]) (by simp [results, Try.results17, go_sem, puC, q0, q1, q2, q3]) rfl ?_
  exact ⟨by rw [HU.out], HK4.out.trans (kf.mono fun q hq => .inr (by rw [hq, ← HSZ.out]; exact Nat.le_succ _))⟩
theorem rback_any (w : World) (h : T.Ok) {n : Nat} (hn : n ≤ 18446744073709551615) : Calls Try.prog 16 #[.agg (puC T), .int .u64 (n : Int)] w (RpPost w (T.back n) id) := by
  have hlv := h.lv
  have hbu := h.bu
  have hsp := h.sp
  have hb := T.bk_le n
  obtain ⟨m, hm⟩ : ∃ m, m = T.bk n := ⟨_, rfl⟩
  obtain ⟨d, hd⟩ : ∃ d, d = T.burst - T.level := ⟨_, rfl⟩
  obtain ⟨q, hq⟩ : ∃ q, q = T.level + m := ⟨_, rfl⟩
  obtain ⟨q3, hq3⟩ : ∃ q3, q3 = T.spent - m := ⟨_, rfl⟩
  have e : T.back n = ⟨T.rate, T.burst, q, q3⟩ := by rw [hq, hq3, hm]; rfl
  rw [← hm] at hb
  have e1 : IntKind.u64.wrap ((T.burst : Int) - (T.level : Int)) = (d : Int) := by rw [IntKind.wrap_u64]; omega
  have e2 : IntKind.u64.wrap ((T.level : Int) + (m : Int)) = (q : Int) := by rw [IntKind.wrap_u64]; omega
  have e3 : IntKind.u64.wrap ((T.spent : Int) - (m : Int)) = (q3 : Int) := by rw [IntKind.wrap_u64]; omega
  have e4 : m = if d < (if T.spent < n then T.spent else n) then d else (if T.spent < n then T.spent else n) := by
    rw [hm, hd]
    unfold Pu.bk
    split <;> split <;> omega
  have HE := hide e
  clear e h hlv hbu hsp hb hm hd hq hq3
  by_cases c1 : T.spent < n
  · rw [if_pos c1] at e4
    by_cases c2 : d < T.spent
    · rw [if_pos c2] at e4
      subst e4
      have K1 := Kp.alloc No w (.cells (puC T) 36)
      have K2 := Kp.alloc No (w.alloc (.cells (puC T) 36)) (.cells (puC ⟨0, 0, 0, 0⟩) 36)
      have e1 : (w.alloc (.cells (puC T) 36)).heap.size = w.heap.size + 1 := by simp
      have HB := hide ((BxP.new w T).no K2)
      have q2 := BxP.new (w.alloc (.cells (puC T) 36)) ⟨0, 0, 0, 0⟩
      rw [e1] at q2
      have HR := hide q2
      have HK := hide (K1.trans' K2)
      clear K1 K2 e1 q2
      simp only [puC_zero] at HB HK HR
      unfold puC at *
      go_enter Try.func16, Try.ntmps16
      go_upto_region 1 with fail
      generalize (w.alloc (.cells #[.int .u64 (T.rate : Int), .int .u64 (T.burst : Int), .int .u64 (T.level : Int), .int .u64 (T.spent : Int)] 36)).alloc (.cells #[.int .u64 0, .int .u64 0, .int .u64 0, .int .u64 0] 36) = w2 at HB HR HK ⊢
      obtain ⟨s, hs⟩ : ∃ s, s = w.heap.size := ⟨_, rfl⟩
      rw [← hs] at HB HR ⊢
      have HSZ := hide hs
      clear hs
      have y1 : w2.cell? ⟨s, 1, none⟩ = some (.int .u64 (T.burst : Int)) := HB.out.c1
      have y2 : w2.cell? ⟨s, 2, none⟩ = some (.int .u64 (T.level : Int)) := HB.out.c2
      have y3 : w2.cell? ⟨s, 3, none⟩ = some (.int .u64 (T.spent : Int)) := HB.out.c3
      have g2 := HB.out.fz 2
      go_upto_region 6 with fail
      have HB3 := hide (HB.out.setLevel q)
      have k3 := kp_pu w2 s 2 (.int .u64 (q : Int))
      have HR3 := hide (HR.out.keep k3 (by show ¬ s + 1 = s; omega))
      have HK3 := hide (HK.out.trans (k3.mono fun q hq => .inr (by rw [hq, ← HSZ.out]; exact Nat.le_refl _)))
      clear y1 y2 y3 g2 HB HR HK k3 e2
      generalize w2.setCell ⟨s, 2, none⟩ (.int .u64 (q : Int)) = w3 at HB3 HR3 HK3 ⊢
      have y3 : w3.cell? ⟨s, 3, none⟩ = some (.int .u64 (T.spent : Int)) := HB3.out.c3
      have g3 := HB3.out.fz 3
      go_upto_region 7 with fail
      have k4 := kp_pu w3 s 3 (.int .u64 (q3 : Int))
      have HB4 := hide (HB3.out.setSpent q3)
      have HR4 := hide (HR3.out.keep k4 (by show ¬ s + 1 = s; omega))
      have HK4 := hide (HK3.out.trans (k4.mono fun q hq => .inr (by rw [hq, ← HSZ.out]; exact Nat.le_refl _)))
      clear k4 y3 g3 HB3 HR3 HK3 e3
      generalize w3.setCell ⟨s, 3, none⟩ (.int .u64 (q3 : Int)) = w4 at HB4 HR4 HK4 ⊢
      rw [← HE.out] at HB4
      obtain ⟨U, hU⟩ : ∃ U, U = T.back n := ⟨_, rfl⟩
      rw [← hU] at HB4 HE
      have HU := hide hU
      clear hU
      have x0 := HB4.out.c0
      have x1 := HB4.out.c1
      have x2 := HB4.out.c2
      have x3 := HB4.out.c3
      have z0 := HR4.out.c0
      have z1 := HR4.out.c1
      have z2 := HR4.out.c2
      have z3 := HR4.out.c3
      have f0 := HR4.out.fz 0
      have f1 := HR4.out.fz 1
      have f2 := HR4.out.fz 2
      have f3 := HR4.out.fz 3
      go_wp2_with fail
      have hf := HR4.out.set4 U
      have kf := kp_bxp w4 (s + 1) (.int .u64 (U.rate : Int)) (.int .u64 (U.burst : Int)) (.int .u64 (U.level : Int)) (.int .u64 (U.spent : Int))
      clear x0 z0 f0 x1 z1 f1 x2 z2 f2 x3 z3 f3
      generalize ((((w4.setCell ⟨s + 1, 0, none⟩ (.int .u64 (U.rate : Int))).setCell ⟨s + 1, 1, none⟩ (.int .u64 (U.burst : Int))).setCell ⟨s + 1, 2, none⟩ (.int .u64 (U.level : Int))).setCell ⟨s + 1, 3, none⟩ (.int .u64 (U.spent : Int))) = w9 at hf kf ⊢
      have q0 := hf.c0
      have q1 := hf.c1
      have q2 := hf.c2
      have q3 := hf.c3
      refine bodyPost_ret (v := .agg (puC U)) (by simp [results, Try.results16, go_sem, puC, q0, q1, q2, q3]) rfl ?_
      exact ⟨by rw [HU.out]; rfl, HK4.out.trans (kf.mono fun q hq => .inr (by rw [hq, ← HSZ.out]; exact Nat.le_succ _))⟩
    · rw [if_neg c2] at e4
      rw [← e4] at c1 c2
      have HM3 := hide e4.symm
      clear e4
      have K1 := Kp.alloc No w (.cells (puC T) 36)
      have K2 := Kp.alloc No (w.alloc (.cells (puC T) 36)) (.cells (puC ⟨0, 0, 0, 0⟩) 36)
      have e1 : (w.alloc (.cells (puC T) 36)).heap.size = w.heap.size + 1 := by simp
      have HB := hide ((BxP.new w T).no K2)
      have q2 := BxP.new (w.alloc (.cells (puC T) 36)) ⟨0, 0, 0, 0⟩
      rw [e1] at q2
      have HR := hide q2
      have HK := hide (K1.trans' K2)
      clear K1 K2 e1 q2
      simp only [puC_zero] at HB HK HR
      unfold puC at *
      go_enter Try.func16, Try.ntmps16
      go_upto_region 1 with fail
      generalize (w.alloc (.cells #[.int .u64 (T.rate : Int), .int .u64 (T.burst : Int), .int .u64 (T.level : Int), .int .u64 (T.spent : Int)] 36)).alloc (.cells #[.int .u64 0, .int .u64 0, .int .u64 0, .int .u64 0] 36) = w2 at HB HR HK ⊢
      obtain ⟨s, hs⟩ : ∃ s, s = w.heap.size := ⟨_, rfl⟩
      rw [← hs] at HB HR ⊢
      have HSZ := hide hs
      clear hs
      have y1 : w2.cell? ⟨s, 1, none⟩ = some (.int .u64 (T.burst : Int)) := HB.out.c1
      have y2 : w2.cell? ⟨s, 2, none⟩ = some (.int .u64 (T.level : Int)) := HB.out.c2
      have y3 : w2.cell? ⟨s, 3, none⟩ = some (.int .u64 (m : Int)) := (HB.out.c3).trans (by rw [HM3.out])
      have g2 := HB.out.fz 2
      go_upto_region 6 with fail
      have HB3 := hide (HB.out.setLevel q)
      have k3 := kp_pu w2 s 2 (.int .u64 (q : Int))
      have HR3 := hide (HR.out.keep k3 (by show ¬ s + 1 = s; omega))
      have HK3 := hide (HK.out.trans (k3.mono fun q hq => .inr (by rw [hq, ← HSZ.out]; exact Nat.le_refl _)))
      clear y1 y2 y3 g2 HB HR HK k3 e2
      generalize w2.setCell ⟨s, 2, none⟩ (.int .u64 (q : Int)) = w3 at HB3 HR3 HK3 ⊢
      have y3 : w3.cell? ⟨s, 3, none⟩ = some (.int .u64 (T.spent : Int)) := HB3.out.c3
      have g3 := HB3.out.fz 3
      go_upto_region 7 with fail
      have k4 := kp_pu w3 s 3 (.int .u64 (q3 : Int))
      have HB4 := hide (HB3.out.setSpent q3)
      have HR4 := hide (HR3.out.keep k4 (by show ¬ s + 1 = s; omega))
      have HK4 := hide (HK3.out.trans (k4.mono fun q hq => .inr (by rw [hq, ← HSZ.out]; exact Nat.le_refl _)))
      clear k4 y3 g3 HB3 HR3 HK3 e3
      generalize w3.setCell ⟨s, 3, none⟩ (.int .u64 (q3 : Int)) = w4 at HB4 HR4 HK4 ⊢
      rw [← HE.out] at HB4
      obtain ⟨U, hU⟩ : ∃ U, U = T.back n := ⟨_, rfl⟩
      rw [← hU] at HB4 HE
      have HU := hide hU
      clear hU
      have x0 := HB4.out.c0
      have x1 := HB4.out.c1
      have x2 := HB4.out.c2
      have x3 := HB4.out.c3
      have z0 := HR4.out.c0
      have z1 := HR4.out.c1
      have z2 := HR4.out.c2
      have z3 := HR4.out.c3
      have f0 := HR4.out.fz 0
      have f1 := HR4.out.fz 1
      have f2 := HR4.out.fz 2
      have f3 := HR4.out.fz 3
      go_wp2_with fail
      have hf := HR4.out.set4 U
      have kf := kp_bxp w4 (s + 1) (.int .u64 (U.rate : Int)) (.int .u64 (U.burst : Int)) (.int .u64 (U.level : Int)) (.int .u64 (U.spent : Int))
      clear x0 z0 f0 x1 z1 f1 x2 z2 f2 x3 z3 f3
      generalize ((((w4.setCell ⟨s + 1, 0, none⟩ (.int .u64 (U.rate : Int))).setCell ⟨s + 1, 1, none⟩ (.int .u64 (U.burst : Int))).setCell ⟨s + 1, 2, none⟩ (.int .u64 (U.level : Int))).setCell ⟨s + 1, 3, none⟩ (.int .u64 (U.spent : Int))) = w9 at hf kf ⊢
      have q0 := hf.c0
      have q1 := hf.c1
      have q2 := hf.c2
      have q3 := hf.c3
      refine bodyPost_ret (v := .agg (puC U)) (by simp [results, Try.results16, go_sem, puC, q0, q1, q2, q3]) rfl ?_
      exact ⟨by rw [HU.out]; rfl, HK4.out.trans (kf.mono fun q hq => .inr (by rw [hq, ← HSZ.out]; exact Nat.le_succ _))⟩
  · rw [if_neg c1] at e4
    by_cases c2 : d < n
    · rw [if_pos c2] at e4
      subst e4
      have K1 := Kp.alloc No w (.cells (puC T) 36)
      have K2 := Kp.alloc No (w.alloc (.cells (puC T) 36)) (.cells (puC ⟨0, 0, 0, 0⟩) 36)
      have e1 : (w.alloc (.cells (puC T) 36)).heap.size = w.heap.size + 1 := by simp
      have HB := hide ((BxP.new w T).no K2)
      have q2 := BxP.new (w.alloc (.cells (puC T) 36)) ⟨0, 0, 0, 0⟩
      rw [e1] at q2
      have HR := hide q2
      have HK := hide (K1.trans' K2)
      clear K1 K2 e1 q2
      simp only [puC_zero] at HB HK HR
      unfold puC at *
      go_enter Try.func16, Try.ntmps16
      go_upto_region 1 with fail
      generalize (w.alloc (.cells #[.int .u64 (T.rate : Int), .int .u64 (T.burst : Int), .int .u64 (T.level : Int), .int .u64 (T.spent : Int)] 36)).alloc (.cells #[.int .u64 0, .int .u64 0, .int .u64 0, .int .u64 0] 36) = w2 at HB HR HK ⊢
      obtain ⟨s, hs⟩ : ∃ s, s = w.heap.size := ⟨_, rfl⟩
      rw [← hs] at HB HR ⊢
      have HSZ := hide hs
      clear hs
      have y1 : w2.cell? ⟨s, 1, none⟩ = some (.int .u64 (T.burst : Int)) := HB.out.c1
      have y2 : w2.cell? ⟨s, 2, none⟩ = some (.int .u64 (T.level : Int)) := HB.out.c2
      have y3 : w2.cell? ⟨s, 3, none⟩ = some (.int .u64 (T.spent : Int)) := HB.out.c3
      have g2 := HB.out.fz 2
      go_upto_region 6 with fail
      have HB3 := hide (HB.out.setLevel q)
      have k3 := kp_pu w2 s 2 (.int .u64 (q : Int))
      have HR3 := hide (HR.out.keep k3 (by show ¬ s + 1 = s; omega))
      have HK3 := hide (HK.out.trans (k3.mono fun q hq => .inr (by rw [hq, ← HSZ.out]; exact Nat.le_refl _)))
      clear y1 y2 y3 g2 HB HR HK k3 e2
      generalize w2.setCell ⟨s, 2, none⟩ (.int .u64 (q : Int)) = w3 at HB3 HR3 HK3 ⊢
      have y3 : w3.cell? ⟨s, 3, none⟩ = some (.int .u64 (T.spent : Int)) := HB3.out.c3
      have g3 := HB3.out.fz 3
      go_upto_region 7 with fail
      have k4 := kp_pu w3 s 3 (.int .u64 (q3 : Int))
      have HB4 := hide (HB3.out.setSpent q3)
      have HR4 := hide (HR3.out.keep k4 (by show ¬ s + 1 = s; omega))
      have HK4 := hide (HK3.out.trans (k4.mono fun q hq => .inr (by rw [hq, ← HSZ.out]; exact Nat.le_refl _)))
      clear k4 y3 g3 HB3 HR3 HK3 e3
      generalize w3.setCell ⟨s, 3, none⟩ (.int .u64 (q3 : Int)) = w4 at HB4 HR4 HK4 ⊢
      rw [← HE.out] at HB4
      obtain ⟨U, hU⟩ : ∃ U, U = T.back n := ⟨_, rfl⟩
      rw [← hU] at HB4 HE
      have HU := hide hU
      clear hU
      have x0 := HB4.out.c0
      have x1 := HB4.out.c1
      have x2 := HB4.out.c2
      have x3 := HB4.out.c3
      have z0 := HR4.out.c0
      have z1 := HR4.out.c1
      have z2 := HR4.out.c2
      have z3 := HR4.out.c3
      have f0 := HR4.out.fz 0
      have f1 := HR4.out.fz 1
      have f2 := HR4.out.fz 2
      have f3 := HR4.out.fz 3
      go_wp2_with fail
      have hf := HR4.out.set4 U
      have kf := kp_bxp w4 (s + 1) (.int .u64 (U.rate : Int)) (.int .u64 (U.burst : Int)) (.int .u64 (U.level : Int)) (.int .u64 (U.spent : Int))
      clear x0 z0 f0 x1 z1 f1 x2 z2 f2 x3 z3 f3
      generalize ((((w4.setCell ⟨s + 1, 0, none⟩ (.int .u64 (U.rate : Int))).setCell ⟨s + 1, 1, none⟩ (.int .u64 (U.burst : Int))).setCell ⟨s + 1, 2, none⟩ (.int .u64 (U.level : Int))).setCell ⟨s + 1, 3, none⟩ (.int .u64 (U.spent : Int))) = w9 at hf kf ⊢
      have q0 := hf.c0
      have q1 := hf.c1
      have q2 := hf.c2
      have q3 := hf.c3
      refine bodyPost_ret (v := .agg (puC U)) (by simp [results, Try.results16, go_sem, puC, q0, q1, q2, q3]) rfl ?_
      exact ⟨by rw [HU.out]; rfl, HK4.out.trans (kf.mono fun q hq => .inr (by rw [hq, ← HSZ.out]; exact Nat.le_succ _))⟩
    · rw [if_neg c2] at e4
      have e5 := e4.symm
      subst e5
      have K1 := Kp.alloc No w (.cells (puC T) 36)
      have K2 := Kp.alloc No (w.alloc (.cells (puC T) 36)) (.cells (puC ⟨0, 0, 0, 0⟩) 36)
      have e1 : (w.alloc (.cells (puC T) 36)).heap.size = w.heap.size + 1 := by simp
      have HB := hide ((BxP.new w T).no K2)
      have q2 := BxP.new (w.alloc (.cells (puC T) 36)) ⟨0, 0, 0, 0⟩
      rw [e1] at q2
      have HR := hide q2
      have HK := hide (K1.trans' K2)
      clear K1 K2 e1 q2
      simp only [puC_zero] at HB HK HR
      unfold puC at *
      go_enter Try.func16, Try.ntmps16
      go_upto_region 1 with fail
      generalize (w.alloc (.cells #[.int .u64 (T.rate : Int), .int .u64 (T.burst : Int), .int .u64 (T.level : Int), .int .u64 (T.spent : Int)] 36)).alloc (.cells #[.int .u64 0, .int .u64 0, .int .u64 0, .int .u64 0] 36) = w2 at HB HR HK ⊢
      obtain ⟨s, hs⟩ : ∃ s, s = w.heap.size := ⟨_, rfl⟩
      rw [← hs] at HB HR ⊢
      have HSZ := hide hs
      clear hs
      have y1 : w2.cell? ⟨s, 1, none⟩ = some (.int .u64 (T.burst : Int)) := HB.out.c1
      have y2 : w2.cell? ⟨s, 2, none⟩ = some (.int .u64 (T.level : Int)) := HB.out.c2
      have y3 : w2.cell? ⟨s, 3, none⟩ = some (.int .u64 (T.spent : Int)) := HB.out.c3
      have g2 := HB.out.fz 2
      go_upto_region 6 with fail
      have HB3 := hide (HB.out.setLevel q)
      have k3 := kp_pu w2 s 2 (.int .u64 (q : Int))
      have HR3 := hide (HR.out.keep k3 (by show ¬ s + 1 = s; omega))
      have HK3 := hide (HK.out.trans (k3.mono fun q hq => .inr (by rw [hq, ← HSZ.out]; exact Nat.le_refl _)))
      clear y1 y2 y3 g2 HB HR HK k3 e2
      generalize w2.setCell ⟨s, 2, none⟩ (.int .u64 (q : Int)) = w3 at HB3 HR3 HK3 ⊢
      have y3 : w3.cell? ⟨s, 3, none⟩ = some (.int .u64 (T.spent : Int)) := HB3.out.c3
      have g3 := HB3.out.fz 3
      go_upto_region 7 with fail
      have k4 := kp_pu w3 s 3 (.int .u64 (q3 : Int))
      have HB4 := hide (HB3.out.setSpent q3)
      have HR4 := hide (HR3.out.keep k4 (by show ¬ s + 1 = s; omega))
      have HK4 := hide (HK3.out.trans (k4.mono fun q hq => .inr (by rw [hq, ← HSZ.out]; exact Nat.le_refl _)))
      clear k4 y3 g3 HB3 HR3 HK3 e3
      generalize w3.setCell ⟨s, 3, none⟩ (.int .u64 (q3 : Int)) = w4 at HB4 HR4 HK4 ⊢
      rw [← HE.out] at HB4
      obtain ⟨U, hU⟩ : ∃ U, U = T.back n := ⟨_, rfl⟩
      rw [← hU] at HB4 HE
      have HU := hide hU
      clear hU
      have x0 := HB4.out.c0
      have x1 := HB4.out.c1
      have x2 := HB4.out.c2
      have x3 := HB4.out.c3
      have z0 := HR4.out.c0
      have z1 := HR4.out.c1
      have z2 := HR4.out.c2
      have z3 := HR4.out.c3
      have f0 := HR4.out.fz 0
      have f1 := HR4.out.fz 1
      have f2 := HR4.out.fz 2
      have f3 := HR4.out.fz 3
      go_wp2_with fail
      have hf := HR4.out.set4 U
      have kf := kp_bxp w4 (s + 1) (.int .u64 (U.rate : Int)) (.int .u64 (U.burst : Int)) (.int .u64 (U.level : Int)) (.int .u64 (U.spent : Int))
      clear x0 z0 f0 x1 z1 f1 x2 z2 f2 x3 z3 f3
      generalize ((((w4.setCell ⟨s + 1, 0, none⟩ (.int .u64 (U.rate : Int))).setCell ⟨s + 1, 1, none⟩ (.int .u64 (U.burst : Int))).setCell ⟨s + 1, 2, none⟩ (.int .u64 (U.level : Int))).setCell ⟨s + 1, 3, none⟩ (.int .u64 (U.spent : Int))) = w9 at hf kf ⊢
      have q0 := hf.c0
      have q1 := hf.c1
      have q2 := hf.c2
      have q3 := hf.c3
      refine bodyPost_ret (v := .agg (puC U)) (by simp [results, Try.results16, go_sem, puC, q0, q1, q2, q3]) rfl ?_
      exact ⟨by rw [HU.out]; rfl, HK4.out.trans (kf.mono fun q hq => .inr (by rw [hq, ← HSZ.out]; exact Nat.le_succ _))⟩
set_option maxHeartbeats 1000000 in
theorem rtick_any (w : World) (h : T.Ok) {n : Nat} (hn : n ≤ 18446744073709551615) : Calls Try.prog 15 #[.agg (puC T), .int .u64 (n : Int)] w (RpPost w (T.tick n) id) := by
  have hlv := h.lv
  have hbu := h.bu
  have C1 := hide (fun w => rtimes_any w T.rate n (by have := h.rt; omega) hn)
  have HL : Hid (Wd 0 T.level T.level) := Wd.low (by omega)
  have hX := h.mul hn
  clear h
  have K1 := Kp.alloc No w (.cells (puC T) 36)
  have K2 := Kp.alloc No (w.alloc (.cells (puC T) 36)) (.cells (puC ⟨0, 0, 0, 0⟩) 36)
  have e1 : (w.alloc (.cells (puC T) 36)).heap.size = w.heap.size + 1 := by simp
  have HB := hide ((BxP.new w T).no K2)
  have q2 := BxP.new (w.alloc (.cells (puC T) 36)) ⟨0, 0, 0, 0⟩
  rw [e1] at q2
  have HR := hide q2
  have HK := hide (K1.trans' K2)
  clear K1 K2 e1 q2
  simp only [puC_zero] at HB HK HR
  unfold puC at *
  go_enter Try.func15, Try.ntmps15
  go_upto_region 1 with fail
  generalize (w.alloc (.cells #[.int .u64 (T.rate : Int), .int .u64 (T.burst : Int), .int .u64 (T.level : Int), .int .u64 (T.spent : Int)] 36)).alloc (.cells #[.int .u64 0, .int .u64 0, .int .u64 0, .int .u64 0] 36) = w2 at HB HR HK ⊢
  obtain ⟨s, hs⟩ : ∃ s, s = w.heap.size := ⟨_, rfl⟩
  rw [← hs] at HB HR ⊢
  have HSZ := hide hs
  clear hs
  go_cut [5] (fun v wx => ∃ q h l : Nat, v = .pointer (some ⟨q, 0, none⟩) ∧ Bx2 wx q h l ∧ Wd h l (T.level + T.rate * n) ∧ Kp No w2 wx)
  case first =>
    refine wp_region_noPanic ?_
    refine wp_region_held_drew (S := fun w' => Kp No w2 w') (by kernel_rfl) ((Kp.refl No _).drew) (fun hHeld => ?_)
    refine wpAnyH_take (i := 0) (v := ?vtkx1) (oi := ?otkx1) ?htkx1 (by kernel_rfl) (by kernel_rfl) (by kernel_rfl) (fun _ _ _ h => h) (Or.inl ⟨?wtkx1, ?ytkx1⟩) hHeld ?rtkx1
    case htkx1 => simp only [List.getElem?_toArray, List.getElem?_cons_zero, List.getElem?_cons_succ]; rfl
    case wtkx1 => rfl
    case ytkx1 => intro w hSw; (try dsimp only at hSw); go_simp; (try with_reducible rfl)
    simp only [Act.put, List.setIfInBounds_toArray, List.set_cons_zero, List.set_cons_succ]
    refine wpAnyH_take (i := 1) (v := ?vtkx2) (oi := ?otkx2) ?htkx2 (by kernel_rfl) (by kernel_rfl) (by kernel_rfl) (fun _ _ _ h => h) (Or.inl ⟨?wtkx2, ?ytkx2⟩) hHeld ?rtkx2
    case htkx2 => simp only [List.getElem?_toArray, List.getElem?_cons_zero, List.getElem?_cons_succ]; rfl
    case wtkx2 => rfl
    case ytkx2 =>
      intro w hSw
      (try dsimp only at hSw)
      have i0 := (HB.out.no hSw).c2
      go_simp
      try with_reducible rfl
    simp only [Act.put, List.setIfInBounds_toArray, List.set_cons_zero, List.set_cons_succ]
    refine wpAnyH_take (i := 2) (v := ?vtkx3) (oi := ?otkx3) ?htkx3 (by kernel_rfl) (by kernel_rfl) (by kernel_rfl) (fun _ _ _ h => h) (Or.inl ⟨?wtkx3, ?ytkx3⟩) hHeld ?rtkx3
    case htkx3 => simp only [List.getElem?_toArray, List.getElem?_cons_zero, List.getElem?_cons_succ]; rfl
    case wtkx3 => rfl
    case ytkx3 => intro w hSw; (try dsimp only at hSw); go_simp; (try with_reducible rfl)
    simp only [Act.put, List.setIfInBounds_toArray, List.set_cons_zero, List.set_cons_succ]
    refine wpAnyH_take (i := 3) (v := ?vtkx4) (oi := ?otkx4) ?htkx4 (by kernel_rfl) (by kernel_rfl) (by kernel_rfl) (fun _ _ _ h => h) (Or.inl ⟨?wtkx4, ?ytkx4⟩) hHeld ?rtkx4
    case htkx4 => simp only [List.getElem?_toArray, List.getElem?_cons_zero, List.getElem?_cons_succ]; rfl
    case wtkx4 => rfl
    case ytkx4 => intro w hSw; (try dsimp only at hSw); go_simp; (try with_reducible rfl)
    simp only [Act.put, List.setIfInBounds_toArray, List.set_cons_zero, List.set_cons_succ]
    refine wpAnyH_take (i := 4) (v := ?vtkx5) (oi := ?otkx5) ?htkx5 (by kernel_rfl) (by kernel_rfl) (by kernel_rfl) (fun _ _ _ h => h) (Or.inl ⟨?wtkx5, ?ytkx5⟩) hHeld ?rtkx5
    case htkx5 => simp only [List.getElem?_toArray, List.getElem?_cons_zero, List.getElem?_cons_succ]; rfl
    case wtkx5 => rfl
    case ytkx5 =>
      intro w hSw
      (try dsimp only at hSw)
      have i0 := (HB.out.no hSw).c0
      go_simp
      try with_reducible rfl
    simp only [Act.put, List.setIfInBounds_toArray, List.set_cons_zero, List.set_cons_succ]
    refine wpAnyH_take (i := 5) (v := ?vtkx6) (oi := ?otkx6) ?htkx6 (by kernel_rfl) (by kernel_rfl) (by kernel_rfl) (fun _ _ _ h => h) (Or.inl ⟨?wtkx6, ?ytkx6⟩) hHeld ?rtkx6
    case htkx6 => simp only [List.getElem?_toArray, List.getElem?_cons_zero, List.getElem?_cons_succ]; rfl
    case wtkx6 => rfl
    case ytkx6 => intro w hSw; (try dsimp only at hSw); go_simp; (try with_reducible rfl)
    simp only [Act.put, List.setIfInBounds_toArray, List.set_cons_zero, List.set_cons_succ]
    refine wpAnyH_ready (rs := [6, 8]) (by kernel_rfl) (by simp) ?_
    refine (AllReadyH.cons (o := ?otkx8) ?htkx8 (fun K hK => ?stkx8) (AllReadyH.cons (o := ?otkx9) ?htkx9 (fun K hK => ?stkx9) AllReadyH.nil))
    case htkx8 => simp only [List.getElem?_toArray, List.getElem?_cons_zero, List.getElem?_cons_succ]; rfl
    case htkx9 => simp only [List.getElem?_toArray, List.getElem?_cons_zero, List.getElem?_cons_succ]; rfl
    case stkx8 =>
      go_simp
      refine (C1.out _).mono ?_
      rintro e w7 ⟨h7, l7, rfl, hw7, k7⟩
      refine hK.out _ _ (hHeld.trans' k7) (fun hHeld => ?_)
      clear hK K
      try simp only [Act.put, List.setIfInBounds_toArray, List.set_cons_zero, List.set_cons_succ]
      refine wpAnyH_ready (rs := [7, 8]) (by kernel_rfl) (by simp) ?_
      refine (AllReadyH.cons (o := ?otkx11) ?htkx11 (fun K hK => ?stkx11) (AllReadyH.cons (o := ?otkx12) ?htkx12 (fun K hK => ?stkx12) AllReadyH.nil))
      case htkx11 => simp only [List.getElem?_toArray, List.getElem?_cons_zero, List.getElem?_cons_succ]; rfl
      case htkx12 => simp only [List.getElem?_toArray, List.getElem?_cons_zero, List.getElem?_cons_succ]; rfl
      case stkx11 =>
        go_simp
        refine (rplus_any _ HL.out hw7).mono ?_
        rintro e w8 ⟨h8, l8, rfl, hw8, k8⟩
        refine hK.out _ _ (hHeld.trans' k8) (fun hHeld => ?_)
        clear hK K
        try simp only [Act.put, List.setIfInBounds_toArray, List.set_cons_zero, List.set_cons_succ]
        refine wpAnyH_ready (rs := [8]) (by kernel_rfl) (by simp) ?_
        refine AllReadyH.cons (o := ?otkx13) ?htkx13 (fun K hK => ?stkx13) AllReadyH.nil
        case htkx13 => simp only [List.getElem?_toArray, List.getElem?_cons_zero, List.getElem?_cons_succ]; rfl
        go_simp
        have hq5 : Bx2 (w8.alloc (.cells #[.int .u64 0, .int .u64 0] 52)) w8.heap.size 0 0 := Bx2.new w8 0 0
        have hge : w2.heap.size ≤ w8.heap.size := hHeld.size
        have hkb := hHeld
        refine hK.out _ _ (hHeld.al _) (fun hHeld => ?_)
        clear hK K
        try simp only [Act.put, List.setIfInBounds_toArray, List.set_cons_zero, List.set_cons_succ]
        refine wpAnyH_ready (rs := [9]) (by kernel_rfl) (by simp) ?_
        refine AllReadyH.cons (o := ?otkx14) ?htkx14 (fun K hK => ?stkx14) AllReadyH.nil
        case htkx14 => simp only [List.getElem?_toArray, List.getElem?_cons_zero, List.getElem?_cons_succ]; rfl
        go_simp
        have hs5 : Bx2 (w8.alloc (.cells #[.int .u64 (h8 : Int), .int .u64 (l8 : Int)] 52)) w8.heap.size h8 l8 := Bx2.new w8 h8 l8
        refine hK.out _ _ (hkb.al _) (fun hHeld => ?_)
        clear hK K
        try simp only [Act.put, List.setIfInBounds_toArray, List.set_cons_zero, List.set_cons_succ]
        refine wpAnyH_done (by kernel_rfl) ?_ _
        refine NoPanic.normal ?_
        go_wp2_with fail
        go_meet
        exact ⟨_, h8, l8, rfl, hs5, hw8, hHeld⟩
      case stkx12 =>
        go_simp
        have hq5 : Bx2 (w7.alloc (.cells #[.int .u64 0, .int .u64 0] 52)) w7.heap.size 0 0 := Bx2.new w7 0 0
        have hge : w2.heap.size ≤ w7.heap.size := hHeld.size
        have hkb := hHeld
        refine hK.out _ _ (hHeld.al _) (fun hHeld => ?_)
        clear hK K
        try simp only [Act.put, List.setIfInBounds_toArray, List.set_cons_zero, List.set_cons_succ]
        refine wpAnyH_ready (rs := [7]) (by kernel_rfl) (by simp) ?_
        refine AllReadyH.cons (o := ?otkx16) ?htkx16 (fun K hK => ?stkx16) AllReadyH.nil
        case htkx16 => simp only [List.getElem?_toArray, List.getElem?_cons_zero, List.getElem?_cons_succ]; rfl
        go_simp
        refine (rplus_any _ HL.out hw7).mono ?_
        rintro e w8 ⟨h8, l8, rfl, hw8, k8⟩
        have hq5 := hq5.no k8
        refine hK.out _ _ (hHeld.trans' k8) (fun hHeld => ?_)
        clear hK K
        try simp only [Act.put, List.setIfInBounds_toArray, List.set_cons_zero, List.set_cons_succ]
        refine wpAnyH_ready (rs := [9]) (by kernel_rfl) (by simp) ?_
        refine AllReadyH.cons (o := ?otkx17) ?htkx17 (fun K hK => ?stkx17) AllReadyH.nil
        case htkx17 => simp only [List.getElem?_toArray, List.getElem?_cons_zero, List.getElem?_cons_succ]; rfl
        go_simp
        have z0 := hq5.c0
        have z1 := hq5.c1
        have f0 := hq5.fz 0
        have f1 := hq5.fz 1
        go_simp
        have hs5 := hq5.set h8 l8
        clear z0 z1 f0 f1
        refine hK.out _ _ (hHeld.trans ((kp_bx2 _ _ _ _).mono fun k e => .inr (by rw [e]; exact hge))) (fun hHeld => ?_)
        clear hK K
        try simp only [Act.put, List.setIfInBounds_toArray, List.set_cons_zero, List.set_cons_succ]
        refine wpAnyH_done (by kernel_rfl) ?_ _
        refine NoPanic.normal ?_
        go_wp2_with fail
        go_meet
        exact ⟨_, h8, l8, rfl, hs5, hw8, hHeld⟩
    case stkx9 =>
      go_simp
      have hq5 : Bx2 (w2.alloc (.cells #[.int .u64 0, .int .u64 0] 52)).drew w2.heap.size 0 0 := Bx2.new w2 0 0
      have hge : w2.heap.size ≤ w2.heap.size := hHeld.size
      have hkb := hHeld
      refine hK.out _ _ (hHeld.al _) (fun hHeld => ?_)
      clear hK K
      try simp only [Act.put, List.setIfInBounds_toArray, List.set_cons_zero, List.set_cons_succ]
      refine wpAnyH_ready (rs := [6]) (by kernel_rfl) (by simp) ?_
      refine AllReadyH.cons (o := ?otkx19) ?htkx19 (fun K hK => ?stkx19) AllReadyH.nil
      case htkx19 => simp only [List.getElem?_toArray, List.getElem?_cons_zero, List.getElem?_cons_succ]; rfl
      go_simp
      refine (C1.out _).mono ?_
      rintro e w7 ⟨h7, l7, rfl, hw7, k7⟩
      have hq5 := hq5.no k7
      refine hK.out _ _ (hHeld.trans' k7) (fun hHeld => ?_)
      clear hK K
      try simp only [Act.put, List.setIfInBounds_toArray, List.set_cons_zero, List.set_cons_succ]
      refine wpAnyH_ready (rs := [7]) (by kernel_rfl) (by simp) ?_
      refine AllReadyH.cons (o := ?otkx20) ?htkx20 (fun K hK => ?stkx20) AllReadyH.nil
      case htkx20 => simp only [List.getElem?_toArray, List.getElem?_cons_zero, List.getElem?_cons_succ]; rfl
      go_simp
      refine (rplus_any _ HL.out hw7).mono ?_
      rintro e w8 ⟨h8, l8, rfl, hw8, k8⟩
      have hq5 := hq5.no k8
      refine hK.out _ _ (hHeld.trans' k8) (fun hHeld => ?_)
      clear hK K
      try simp only [Act.put, List.setIfInBounds_toArray, List.set_cons_zero, List.set_cons_succ]
      refine wpAnyH_ready (rs := [9]) (by kernel_rfl) (by simp) ?_
      refine AllReadyH.cons (o := ?otkx21) ?htkx21 (fun K hK => ?stkx21) AllReadyH.nil
      case htkx21 => simp only [List.getElem?_toArray, List.getElem?_cons_zero, List.getElem?_cons_succ]; rfl
      go_simp
      have z0 := hq5.c0
      have z1 := hq5.c1
      have f0 := hq5.fz 0
      have f1 := hq5.fz 1
      go_simp
      have hs5 := hq5.set h8 l8
      clear z0 z1 f0 f1
      refine hK.out _ _ (hHeld.trans ((kp_bx2 _ _ _ _).mono fun k e => .inr (by rw [e]; exact hge))) (fun hHeld => ?_)
      clear hK K
      try simp only [Act.put, List.setIfInBounds_toArray, List.set_cons_zero, List.set_cons_succ]
      refine wpAnyH_done (by kernel_rfl) ?_ _
      refine NoPanic.normal ?_
      go_wp2_with fail
      go_meet
      exact ⟨_, h8, l8, rfl, hs5, hw8, hHeld⟩
  case rest =>
    obtain ⟨q, h, l, rfl, hbx, hwd, hkx⟩ := hcut
    have HBX := hide (HB.out.no hkx)
    have HRX := hide (HR.out.no hkx)
    have HKX := hide (HK.out.trans' hkx)
    have x0 := hbx.c0
    have x1 := hbx.c1
    have y1 : wc.cell? ⟨s, 1, none⟩ = some (.int .u64 (T.burst : Int)) := HBX.out.c1
    have y2 : wc.cell? ⟨s, 2, none⟩ = some (.int .u64 (T.level : Int)) := HBX.out.c2
    have g2 := HBX.out.fz 2
    obtain ⟨w1, w2'⟩ := hwd
    clear hkx C1 HL HB HR HK
    have e : T.tick n = ⟨T.rate, T.burst, if T.level + T.rate * n ≤ T.burst then T.level + T.rate * n else T.burst, T.spent⟩ := rfl
    by_cases hle : T.level + T.rate * n ≤ T.burst
    · rw [if_pos hle] at e
      have e3 : T.level + T.rate * n = l := by omega
      have e4 : h = 0 := by omega
      rw [e3] at e hle
      subst e4
      have HE := hide e
      clear e w1 w2' hX hn e3
      have c1 : ¬ T.burst < l := by omega
      have c2 : decide (T.burst < l) = false := decide_eq_false c1
      go_upto_region 5 with fail
      have HB3 := hide (HBX.out.setLevel l)
      have k3 := kp_pu wc s 2 (.int .u64 (l : Int))
      have HR3 := hide (HRX.out.keep k3 (by show ¬ s + 1 = s; omega))
      have HK3 := hide (HKX.out.trans (k3.mono fun q hq => .inr (by rw [hq, ← HSZ.out]; exact Nat.le_refl _)))
      clear y1 y2 g2 HBX HRX HKX k3 x0 x1 hbx
      generalize wc.setCell ⟨s, 2, none⟩ (.int .u64 (l : Int)) = w4 at HB3 HR3 HK3 ⊢
      rw [← HE.out] at HB3
      obtain ⟨U, hU⟩ : ∃ U, U = T.tick n := ⟨_, rfl⟩
      rw [← hU] at HB3 HE
      have HU := hide hU
      clear hU
      have x0 := HB3.out.c0
      have x1 := HB3.out.c1
      have x2 := HB3.out.c2
      have x3 := HB3.out.c3
      have z0 := HR3.out.c0
      have z1 := HR3.out.c1
      have z2 := HR3.out.c2
      have z3 := HR3.out.c3
      have f0 := HR3.out.fz 0
      have f1 := HR3.out.fz 1
      have f2 := HR3.out.fz 2
      have f3 := HR3.out.fz 3
      go_wp2_with fail
      have hf := HR3.out.set4 U
      have kf := kp_bxp w4 (s + 1) (.int .u64 (U.rate : Int)) (.int .u64 (U.burst : Int)) (.int .u64 (U.level : Int)) (.int .u64 (U.spent : Int))
      clear x0 z0 f0 x1 z1 f1 x2 z2 f2 x3 z3 f3
      generalize ((((w4.setCell ⟨s + 1, 0, none⟩ (.int .u64 (U.rate : Int))).setCell ⟨s + 1, 1, none⟩ (.int .u64 (U.burst : Int))).setCell ⟨s + 1, 2, none⟩ (.int .u64 (U.level : Int))).setCell ⟨s + 1, 3, none⟩ (.int .u64 (U.spent : Int))) = w9 at hf kf ⊢
      have q0 := hf.c0
      have q1 := hf.c1
      have q2 := hf.c2
      have q3 := hf.c3
      refine bodyPost_ret (v := .agg (puC U)) (by simp [results, Try.results15, go_sem, puC, q0, q1, q2, q3]) rfl ?_
      exact ⟨by rw [HU.out]; rfl, HK3.out.trans (kf.mono fun q hq => .inr (by rw [hq, ← HSZ.out]; exact Nat.le_succ _))⟩
    · rw [if_neg hle] at e
      have HE := hide e
      by_cases hp : 0 < h
      · clear e w1 w2' hX hn hle
        have c2 : decide (0 < h) = true := decide_eq_true hp
        go_upto_region 5 with fail
        have HB3 := hide (HBX.out.setLevel T.burst)
        have k3 := kp_pu wc s 2 (.int .u64 (T.burst : Int))
        have HR3 := hide (HRX.out.keep k3 (by show ¬ s + 1 = s; omega))
        have HK3 := hide (HKX.out.trans (k3.mono fun q hq => .inr (by rw [hq, ← HSZ.out]; exact Nat.le_refl _)))
        clear y1 y2 g2 HBX HRX HKX k3 x0 x1 hbx
        generalize wc.setCell ⟨s, 2, none⟩ (.int .u64 (T.burst : Int)) = w4 at HB3 HR3 HK3 ⊢
        rw [← HE.out] at HB3
        obtain ⟨U, hU⟩ : ∃ U, U = T.tick n := ⟨_, rfl⟩
        rw [← hU] at HB3 HE
        have HU := hide hU
        clear hU
        have x0 := HB3.out.c0
        have x1 := HB3.out.c1
        have x2 := HB3.out.c2
        have x3 := HB3.out.c3
        have z0 := HR3.out.c0
        have z1 := HR3.out.c1
        have z2 := HR3.out.c2
        have z3 := HR3.out.c3
        have f0 := HR3.out.fz 0
        have f1 := HR3.out.fz 1
        have f2 := HR3.out.fz 2
        have f3 := HR3.out.fz 3
        go_wp2_with fail
        have hf := HR3.out.set4 U
        have kf := kp_bxp w4 (s + 1) (.int .u64 (U.rate : Int)) (.int .u64 (U.burst : Int)) (.int .u64 (U.level : Int)) (.int .u64 (U.spent : Int))
        clear x0 z0 f0 x1 z1 f1 x2 z2 f2 x3 z3 f3
        generalize ((((w4.setCell ⟨s + 1, 0, none⟩ (.int .u64 (U.rate : Int))).setCell ⟨s + 1, 1, none⟩ (.int .u64 (U.burst : Int))).setCell ⟨s + 1, 2, none⟩ (.int .u64 (U.level : Int))).setCell ⟨s + 1, 3, none⟩ (.int .u64 (U.spent : Int))) = w9 at hf kf ⊢
        have q0 := hf.c0
        have q1 := hf.c1
        have q2 := hf.c2
        have q3 := hf.c3
        refine bodyPost_ret (v := .agg (puC U)) (by simp [results, Try.results15, go_sem, puC, q0, q1, q2, q3]) rfl ?_
        exact ⟨by rw [HU.out]; rfl, HK3.out.trans (kf.mono fun q hq => .inr (by rw [hq, ← HSZ.out]; exact Nat.le_succ _))⟩
      · obtain rfl : h = 0 := by omega
        have hl : T.burst < l := by omega
        have c2 : decide (T.burst < l) = true := decide_eq_true hl
        clear e w1 w2' hX hn hle hp
        go_upto_region 5 with fail
        have HB3 := hide (HBX.out.setLevel T.burst)
        have k3 := kp_pu wc s 2 (.int .u64 (T.burst : Int))
        have HR3 := hide (HRX.out.keep k3 (by show ¬ s + 1 = s; omega))
        have HK3 := hide (HKX.out.trans (k3.mono fun q hq => .inr (by rw [hq, ← HSZ.out]; exact Nat.le_refl _)))
        clear y1 y2 g2 HBX HRX HKX k3 x0 x1 hbx
        generalize wc.setCell ⟨s, 2, none⟩ (.int .u64 (T.burst : Int)) = w4 at HB3 HR3 HK3 ⊢
        rw [← HE.out] at HB3
        obtain ⟨U, hU⟩ : ∃ U, U = T.tick n := ⟨_, rfl⟩
        rw [← hU] at HB3 HE
        have HU := hide hU
        clear hU
        have x0 := HB3.out.c0
        have x1 := HB3.out.c1
        have x2 := HB3.out.c2
        have x3 := HB3.out.c3
        have z0 := HR3.out.c0
        have z1 := HR3.out.c1
        have z2 := HR3.out.c2
        have z3 := HR3.out.c3
        have f0 := HR3.out.fz 0
        have f1 := HR3.out.fz 1
        have f2 := HR3.out.fz 2
        have f3 := HR3.out.fz 3
        go_wp2_with fail
        have hf := HR3.out.set4 U
        have kf := kp_bxp w4 (s + 1) (.int .u64 (U.rate : Int)) (.int .u64 (U.burst : Int)) (.int .u64 (U.level : Int)) (.int .u64 (U.spent : Int))
        clear x0 z0 f0 x1 z1 f1 x2 z2 f2 x3 z3 f3
        generalize ((((w4.setCell ⟨s + 1, 0, none⟩ (.int .u64 (U.rate : Int))).setCell ⟨s + 1, 1, none⟩ (.int .u64 (U.burst : Int))).setCell ⟨s + 1, 2, none⟩ (.int .u64 (U.level : Int))).setCell ⟨s + 1, 3, none⟩ (.int .u64 (U.spent : Int))) = w9 at hf kf ⊢
        have q0 := hf.c0
        have q1 := hf.c1
        have q2 := hf.c2
        have q3 := hf.c3
        refine bodyPost_ret (v := .agg (puC U)) (by simp [results, Try.results15, go_sem, puC, q0, q1, q2, q3]) rfl ?_
        exact ⟨by rw [HU.out]; rfl, HK3.out.trans (kf.mono fun q hq => .inr (by rw [hq, ← HSZ.out]; exact Nat.le_succ _))⟩
end
end Go.Proofs.Ytjjdkkncdnipcaa
