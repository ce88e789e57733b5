/- The example of layer 18's statements; PurseWaits walked: it returns true for any numbers. No condition. -/
import Derived.Test.YtjjdkkncdnipcaaPud
import Derived.OpenShut
namespace Go.Proofs.Ytjjdkkncdnipcaa
open Go.RowKit Go.WideShapes Go.ChangeShapes
set_option linter.unusedVariables false
set_option maxRecDepth 20000
set_option linter.unusedSimpArgs false

def awkP : Pu := ⟨2, 5, 0, 5⟩
theorem awk_spend : (Pu.new 2 5).spend 5 = awkP := rfl
theorem awk_never : ¬ awkP.never 3 := by unfold Pu.never awkP; decide
theorem awk_wait : awkP.wait 3 = 2 := rfl
theorem awake18_any (w : World) : Calls Try.prog 6 #[] w (TruePost w) := by
  have HN : Hid (Calls Try.prog 7 #[.int .u64 2, .int .u64 5] w (PnPost w (Pu.new 2 5))) := pnew_any w 2 5 (by decide) (by decide)
  go_enter Try.func6, Try.ntmps6
  go_wp2_with fail
  refine HN.out.mono ?_
  rintro e w1 ⟨g, rfl, h1, hg, k1⟩
  have HS := hide (pspend_yes h1 5 (by decide))
  have HG : Hid (w.heap.size ≤ g) := hg
  have HK1 := hide k1
  clear h1 hg k1 HN
  go_wp2_with fail
  refine HS.out.mono ?_
  rintro e w2 ⟨rfl, h2, k2⟩
  rw [awk_spend] at h2
  have HW : Hid (Calls Try.prog 10 #[.pointer (some ⟨g, 0, none⟩), .int .u64 3] w2 (PwPost w2 2 true)) := pwait_any h2 awk_never
  have HK2 := hide (HK1.out.trans (k2.mono fun q hq => .inr (by rw [hq]; exact HG.out)))
  clear h2 k2 HS HK1
  go_wp2_with fail
  refine HW.out.mono ?_
  rintro e w3 ⟨rfl, rfl⟩
  go_wp2_with fail
  go_ret
  exact ⟨rfl, HK2.out⟩

/-- What both hold: package purse's purse at g, the document's in the box s. -/
structure PqS (W : World) (g s : Nat) (T : Pu) (wr : World) : Prop where
  pr : PuAt wr g T
  bx : BxP wr s T
  kp : Kp No W wr
  ge : W.heap.size ≤ g
  se : W.heap.size ≤ s
  ne : g ≠ s
section
variable {W wr w1 w2 : World} {g s : Nat} {T T' : Pu} {S : Nat → Prop}
theorem PqS.no (h : PqS W g s T wr) (hk : Kp No wr w1) : PqS W g s T w1 := ⟨h.pr.no hk, h.bx.no hk, h.kp.trans' hk, h.ge, h.se, h.ne⟩
theorem PqS.ok (h : PqS W g s T wr) : T.Ok := h.pr.ok
end

theorem pspend_any {w : World} {g : Nat} {T : Pu} (h : PuAt w g T) (n : Nat) : Calls Try.prog 14 #[.pointer (some ⟨g, 0, none⟩), .int .u64 (n : Int)] w (PkPost w g (T.spend n) (.bool (decide (n ≤ T.level)))) := by
  by_cases hn : n ≤ T.level
  · rw [decide_eq_true hn]
    exact pspend_yes h n hn
  · rw [decide_eq_false hn]
    exact pspend_no h n hn
theorem rspend_any (w : World) {T : Pu} (h : T.Ok) (n : Nat) : Calls Try.prog 17 #[.agg (puC T), .int .u64 (n : Int)] w (RpPost w (T.spend n) (fun v => .tuple #[v, .bool (decide (n ≤ T.level))])) := by
  by_cases hn : n ≤ T.level
  · rw [decide_eq_true hn]
    exact rspend_yes w h hn
  · rw [decide_eq_false hn]
    exact rspend_no w h hn
/-- The document's purse is written into its box. -/
theorem PqS.write {W w1 : World} {g s : Nat} {T T' : Pu} (hp : PuAt w1 g T') (hb : BxP w1 s T) (hk : Kp No W w1) (hg : W.heap.size ≤ g) (hs : W.heap.size ≤ s) (hn : g ≠ s) :
    PqS W g s T' ((((w1.setCell ⟨s, 0, none⟩ (.int .u64 (T'.rate : Int))).setCell ⟨s, 1, none⟩ (.int .u64 (T'.burst : Int))).setCell ⟨s, 2, none⟩ (.int .u64 (T'.level : Int))).setCell ⟨s, 3, none⟩ (.int .u64 (T'.spent : Int))) :=
  ⟨hp.keep (kp_bxp w1 s _ _ _ _) hn, hb.set4 T', hk.trans ((kp_bxp w1 s _ _ _ _).mono fun q hq => .inr (by rw [hq]; exact hs)), hg, hs, hn⟩
theorem fld_two (a b c d : Int) (w : World) : (Instr.field 36 (.agg #[.int .u64 a, .int .u64 b, .int .u64 c, .int .u64 d]) 2).run Try.prog w = .ok (.int .u64 c) w := by kernel_rfl
theorem new_box (w : World) (r b : Nat) : BxP (w.alloc (.cells #[.int .u64 (r : Int), .int .u64 (b : Int), .int .u64 (b : Int), .int .u64 0] 36)) w.heap.size (Pu.new r b) := heap_alloc_new w _
set_option maxHeartbeats 2000000 in
theorem pursewaits_any (W : World) (r b x n : Nat) (hr : r ≤ 18446744073709551615) (hb : b ≤ 18446744073709551615) (hx : x ≤ 18446744073709551615) (hn : n ≤ 18446744073709551615) :
    Calls Try.prog 4 #[.int .u64 (r : Int), .int .u64 (b : Int), .int .u64 (x : Int), .int .u64 (n : Int)] W (TruePost W) := by
  by_cases hR : r ≤ 1152921504606846976 ∧ b ≤ 1152921504606846976
  rotate_left 1
  · by_cases h1 : 1152921504606846976 < r
    · have c1 : decide ((1152921504606846976 : Int) < (r : Int)) = true := decide_eq_true (by omega)
      clear hR
      go_enter Try.func4, Try.ntmps4
      go_wp2_with fail
      refine (awake18_any _).mono ?_
      rintro e w1 ⟨rfl, k1⟩
      have HK1 := hide k1
      clear k1
      go_wp2_with fail
      refine (awake18_any _).mono ?_
      rintro e w2 ⟨rfl, k2⟩
      go_wp2_with fail
      go_ret
      exact ⟨rfl, HK1.out.trans' k2⟩
    · have h2 : 1152921504606846976 < b := by omega
      have c2 : decide ((1152921504606846976 : Int) < (b : Int)) = true := decide_eq_true (by omega)
      clear hR
      go_enter Try.func4, Try.ntmps4
      go_wp2_with fail
      refine (awake18_any _).mono ?_
      rintro e w1 ⟨rfl, k1⟩
      have HK1 := hide k1
      clear k1
      go_wp2_with fail
      refine (awake18_any _).mono ?_
      rintro e w2 ⟨rfl, k2⟩
      go_wp2_with fail
      go_ret
      exact ⟨rfl, HK1.out.trans' k2⟩
  obtain ⟨hr2, hb2⟩ := hR
  have c1 : decide ((1152921504606846976 : Int) < (r : Int)) = false := decide_eq_false (by omega)
  have c2 : decide ((1152921504606846976 : Int) < (b : Int)) = false := decide_eq_false (by omega)
  have HNEW := hide (fun w => pnew_any w r b hr2 hb2)
  clear hr hb hr2 hb2
  go_enter Try.func4, Try.ntmps4
  go_wp2_with fail
  refine (awake18_any _).mono ?_
  rintro e w1 ⟨rfl, k1⟩
  have HK1 := hide k1
  clear k1
  go_wp2_with fail
  refine (HNEW.out _).mono ?_
  rintro e w2 ⟨g, rfl, h2, hg, k2⟩
  have HS2 : Hid (PqS W g w2.heap.size (Pu.new r b) (w2.alloc (.cells #[.int .u64 (r : Int), .int .u64 (b : Int), .int .u64 (b : Int), .int .u64 0] 36))) :=
    ⟨h2.no (Kp.alloc No _ _), new_box w2 r b, (HK1.out.trans' k2).al _, Nat.le_trans HK1.out.size hg, Nat.le_trans HK1.out.size k2.size, by have := h2.lt; omega⟩
  clear h2 hg k2 c1 c2
  go_upto_region 7 with fail
  generalize w2.alloc (.cells #[.int .u64 (r : Int), .int .u64 (b : Int), .int .u64 (b : Int), .int .u64 0] 36) = w3 at HS2 ⊢
  generalize w2.heap.size = s at HS2 ⊢
  obtain ⟨T, hT⟩ : ∃ T, T = Pu.new r b := ⟨_, rfl⟩
  have HBR : Hid (T.burst = b ∧ T.rate = r) := by rw [hT]; exact ⟨rfl, rfl⟩
  rw [← hT] at HS2
  clear hT HK1 HNEW
  obtain ⟨U, hU⟩ : ∃ U, U = T.spend x := ⟨_, rfl⟩
  obtain ⟨q0, hq0⟩ : ∃ q0, q0 = decide (x ≤ T.level) := ⟨_, rfl⟩
  have HBU : Hid (U.burst = b ∧ U.rate = r) := by
    rw [hU]
    unfold Pu.spend
    split
    · exact HBR.out
    · exact HBR.out
  have HC := hide (pspend_any HS2.out.pr x)
  have HCR := hide (fun w => rspend_any w HS2.out.ok x)
  rw [← hU, ← hq0] at HC HCR
  have HUO : Hid U.Ok := by rw [hU]; exact HS2.out.ok.spend x
  clear hU hq0 HBR
  go_wp2_with fail
  refine HC.out.mono ?_
  rintro e w4 ⟨rfl, h4, k4⟩
  have HP4 := hide h4
  have HB4 := hide (HS2.out.bx.keep k4 (by have := HS2.out.ne; omega))
  have HK4 := hide (HS2.out.kp.trans (k4.mono fun q hq => .inr (by rw [hq]; exact HS2.out.ge)))
  clear h4 k4 HC
  have y0 := HB4.out.c0
  have y1 := HB4.out.c1
  have y2 := HB4.out.c2
  have y3 := HB4.out.c3
  go_wp2_with fail
  refine (HCR.out _).mono ?_
  rintro e w5 ⟨rfl, k5⟩
  have HP5 := hide (HP4.out.no k5)
  have HB5 := hide (HB4.out.no k5)
  have HK5 := hide (HK4.out.trans' k5)
  clear k5 y0 y1 y2 y3 HP4 HB4 HK4 HCR
  have y0 := HB5.out.c0
  have y1 := HB5.out.c1
  have y2 := HB5.out.c2
  have y3 := HB5.out.c3
  have f0 := HB5.out.fz 0
  have f1 := HB5.out.fz 1
  have f2 := HB5.out.fz 2
  have f3 := HB5.out.fz 3
  unfold puC
  go_upto_region 9 with fail
  have HS6 := hide (PqS.write HP5.out HB5.out HK5.out HS2.out.ge HS2.out.se HS2.out.ne)
  clear y0 y1 y2 y3 f0 f1 f2 f3 HP5 HB5 HK5 HS2
  generalize (((w5.setCell ⟨s, 0, none⟩ (.int .u64 (U.rate : Int))).setCell ⟨s, 1, none⟩ (.int .u64 (U.burst : Int))).setCell ⟨s, 2, none⟩ (.int .u64 (U.level : Int))).setCell ⟨s, 3, none⟩ (.int .u64 (U.spent : Int)) = w6 at HS6 ⊢
  have z2 := HS6.out.bx.c2
  have hlv := HS6.out.ok.lv
  obtain ⟨hbb, hbr⟩ := HBU.out
  by_cases hnv : U.never n
  · have HW := hide (pwait_never HS6.out.pr hnv)
    obtain ⟨v1, v2⟩ := hnv
    have g3 : decide (U.level < n) = true := decide_eq_true v1
    by_cases hbn : b < n
    · have g1 : decide (b < n) = true := decide_eq_true hbn
      clear v2 v1 hlv hbb hbr hbn
      go_wp2_with fail
      refine HW.out.mono ?_
      rintro e w7 ⟨rfl, rfl⟩
      go_wp2_with fail
      refine (awake18_any _).mono ?_
      rintro e w8 ⟨rfl, k8⟩
      go_wp2_with fail
      go_ret
      exact ⟨rfl, HS6.out.kp.trans' k8⟩
    · have g1 : decide (b < n) = false := decide_eq_false hbn
      have hr0 : r = 0 := by omega
      have g2 : ((r : Int) == 0) = true := by rw [hr0]; rfl
      clear v2 v1 hlv hbb hbr hbn hr0
      go_wp2_with fail
      refine HW.out.mono ?_
      rintro e w7 ⟨rfl, rfl⟩
      go_wp2_with fail
      refine (awake18_any _).mono ?_
      rintro e w8 ⟨rfl, k8⟩
      go_wp2_with fail
      go_ret
      exact ⟨rfl, HS6.out.kp.trans' k8⟩
  · have HW := hide (pwait_any HS6.out.pr hnv)
    have h1 := Pu.wait_yes HS6.out.ok hnv
    have h2 := fun h => Pu.wait_no HS6.out.ok hnv h
    have h3 := Pu.wait_le HS6.out.ok hnv
    unfold Pu.never at hnv
    generalize U.wait n = k at HW h1 h2 h3
    have H2 := hide h2
    have HT := hide (fun w => rtick_any w HS6.out.ok (n := k) (by omega))
    have c5 : decide ((U.tick k).level < n) = false := decide_eq_false (by omega)
    have g1 : decide (b < n) = false := decide_eq_false (by omega)
    clear h1 h2
    by_cases hr0 : r = 0
    · have g2 : ((r : Int) == 0) = true := by rw [hr0]; rfl
      have g3 : decide (U.level < n) = false := decide_eq_false (by omega)
      clear hnv hlv hbb hbr hr0
      have y0 := HS6.out.bx.c0
      have y1 := HS6.out.bx.c1
      have y3 := HS6.out.bx.c3
      have hfd := fun w => fld_two ((U.tick k).rate : Int) ((U.tick k).burst : Int) ((U.tick k).level : Int) ((U.tick k).spent : Int) w
      go_wp2_with fail
      refine HW.out.mono ?_
      rintro e w7 ⟨rfl, rfl⟩
      go_wp2_with fail
      refine (HT.out _).mono ?_
      rintro e w8 ⟨rfl, k8⟩
      have HS8 := hide (HS6.out.no k8)
      clear k8 y0 y1 z2 y3
      unfold puC id
      have y0 := HS8.out.bx.c0
      have y1 := HS8.out.bx.c1
      have y2 := HS8.out.bx.c2
      have y3 := HS8.out.bx.c3
      by_cases hk0 : k = 0
      · have c6 : ((k : Int) == 0) = true := by rw [hk0]; rfl
        clear hk0
        go_wp2_with (simp only [hfd])
        refine (awake18_any _).mono ?_
        rintro e w9 ⟨rfl, k9⟩
        go_wp2_with fail
        go_ret
        exact ⟨rfl, HS8.out.kp.trans' k9⟩
      · have c6 : ((k : Int) == 0) = false := by simp; omega
        have h4 := H2.out hk0
        obtain ⟨j, hj⟩ : ∃ j, j = k - 1 := ⟨_, rfl⟩
        rw [← hj] at h4
        have e1 : IntKind.u64.wrap ((k : Int) - 1) = (j : Int) := by rw [IntKind.wrap_u64]; omega
        have c7 : decide ((U.tick j).level < n) = true := decide_eq_true h4
        have hfj := fun w => fld_two ((U.tick j).rate : Int) ((U.tick j).burst : Int) ((U.tick j).level : Int) ((U.tick j).spent : Int) w
        have HTJ := hide (fun w => rtick_any w HS8.out.ok (n := j) (by omega))
        clear hk0 hj h4
        go_wp2_with (simp only [hfd])
        refine (HTJ.out _).mono ?_
        rintro e w9 ⟨rfl, k9⟩
        have HS9 := hide (HS8.out.no k9)
        clear k9 y0 y1 y2 y3
        unfold puC id
        go_wp2_with (simp only [hfj])
        refine (awake18_any _).mono ?_
        rintro e w10 ⟨rfl, k10⟩
        go_wp2_with fail
        go_ret
        exact ⟨rfl, HS9.out.kp.trans' k10⟩
    · have g2 : ((r : Int) == 0) = false := by simp; omega
      clear hnv hlv hbb hbr hr0
      have y0 := HS6.out.bx.c0
      have y1 := HS6.out.bx.c1
      have y3 := HS6.out.bx.c3
      have hfd := fun w => fld_two ((U.tick k).rate : Int) ((U.tick k).burst : Int) ((U.tick k).level : Int) ((U.tick k).spent : Int) w
      go_wp2_with fail
      refine HW.out.mono ?_
      rintro e w7 ⟨rfl, rfl⟩
      go_wp2_with fail
      refine (HT.out _).mono ?_
      rintro e w8 ⟨rfl, k8⟩
      have HS8 := hide (HS6.out.no k8)
      clear k8 y0 y1 z2 y3
      unfold puC id
      have y0 := HS8.out.bx.c0
      have y1 := HS8.out.bx.c1
      have y2 := HS8.out.bx.c2
      have y3 := HS8.out.bx.c3
      by_cases hk0 : k = 0
      · have c6 : ((k : Int) == 0) = true := by rw [hk0]; rfl
        clear hk0
        go_wp2_with (simp only [hfd])
        refine (awake18_any _).mono ?_
        rintro e w9 ⟨rfl, k9⟩
        go_wp2_with fail
        go_ret
        exact ⟨rfl, HS8.out.kp.trans' k9⟩
      · have c6 : ((k : Int) == 0) = false := by simp; omega
        have h4 := H2.out hk0
        obtain ⟨j, hj⟩ : ∃ j, j = k - 1 := ⟨_, rfl⟩
        rw [← hj] at h4
        have e1 : IntKind.u64.wrap ((k : Int) - 1) = (j : Int) := by rw [IntKind.wrap_u64]; omega
        have c7 : decide ((U.tick j).level < n) = true := decide_eq_true h4
        have hfj := fun w => fld_two ((U.tick j).rate : Int) ((U.tick j).burst : Int) ((U.tick j).level : Int) ((U.tick j).spent : Int) w
        have HTJ := hide (fun w => rtick_any w HS8.out.ok (n := j) (by omega))
        clear hk0 hj h4
        go_wp2_with (simp only [hfd])
        refine (HTJ.out _).mono ?_
        rintro e w9 ⟨rfl, k9⟩
        have HS9 := hide (HS8.out.no k9)
        clear k9 y0 y1 y2 y3
        unfold puC id
        go_wp2_with (simp only [hfj])
        refine (awake18_any _).mono ?_
        rintro e w10 ⟨rfl, k10⟩
        go_wp2_with fail
        go_ret
        exact ⟨rfl, HS9.out.kp.trans' k10⟩
theorem pursewaits_walk (W : World) (r b x n : Int) (hr : (Lit.int .u64 r).wf = true) (hb : (Lit.int .u64 b).wf = true) (hx : (Lit.int .u64 x).wf = true) (hn : (Lit.int .u64 n).wf = true) :
    Calls Try.prog 4 #[.int .u64 r, .int .u64 b, .int .u64 x, .int .u64 n] W fun e W' => e = .returned (.bool true) ∧ Below W.heap.size W W' := by
  have h1 := bounds_u64 hr
  have h2 := bounds_u64 hb
  have h3 := bounds_u64 hx
  have h4 := bounds_u64 hn
  obtain ⟨r', rfl⟩ : ∃ y : Nat, r = y := ⟨r.toNat, by omega⟩
  obtain ⟨b', rfl⟩ : ∃ y : Nat, b = y := ⟨b.toNat, by omega⟩
  obtain ⟨x', rfl⟩ : ∃ y : Nat, x = y := ⟨x.toNat, by omega⟩
  obtain ⟨n', rfl⟩ : ∃ y : Nat, n = y := ⟨n.toNat, by omega⟩
  exact (pursewaits_any W r' b' x' n' (by omega) (by omega) (by omega) (by omega)).mono fun e W' p => ⟨p.1, p.2.below0⟩
end Go.Proofs.Ytjjdkkncdnipcaa
