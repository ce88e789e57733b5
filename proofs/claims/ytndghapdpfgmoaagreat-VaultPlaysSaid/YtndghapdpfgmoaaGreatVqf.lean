/- Law 12's does, as a contract over memory: each act, done to both, says the same and leaves the same. -/
import Derived.Test.YtndghapdpfgmoaaGreatVqe
import Derived.Test.YtndghapdpfgmoaaGreatVvl
import Derived.Test.YtndghapdpfgmoaaGreatPlh
import Derived.Deep.DeepCutAuto
import Derived.Deep.CutBlock
namespace Go.Proofs.YtndghapdpfgmoaaGreat
open Go.RowKit
set_option linter.unusedVariables false
set_option linter.unusedSimpArgs false
set_option maxRecDepth 20000

set_option maxHeartbeats 8000000 in
theorem does12_any {w : World} {F X0 : Nat → Prop} {g gd b m c : Nat} {V : Vt} {v : Value} {d : ActV} {A : Option Addr} (h : VtR w F g gd b V) (hr : RvAt w (fun k => F k ∨ X0 k) V v) (hX : ∀ k, F k → ¬ X0 k) (hb : BtF w (fun k => F k ∨ X0 k) (.slice A m c) d.b) (hm : m ≤ 200) (hs : d.s < N96) (hcn : V.D.cells.length ≤ 1000) (hlo : V.D.loose.length + 2 ≤ 1000000) (hsy : V.D.syncs + 1 ≤ 1000000000) :
    Calls Tryz.prog 10 #[.pointer (some ⟨gd, 0, none⟩), .pointer (some ⟨g, 0, none⟩), v, .agg #[.int .i64 d.kind, .int .u32 (cO d.s : Int), .int .u16 (cS d.s : Int), .int .u16 (cL d.s : Int), .int .u32 (cG d.s : Int), .slice A m c, .int .i64 d.n, .int .i64 d.m, .int .u8 (d.bits.toNat : Int)]] w (DoPost w F X0 gd V) := by
  obtain ⟨vc, vl, vk, cs, ls, rfl, hr⟩ := hr
  obtain ⟨gc, cc, A1, cl, A2, ck, rfl, rfl, rfl⟩ := hr.forms
  have HS := hide (DsR.begin h hr hX hb)
  have HSN := hide hs
  have hbl : d.b.length ≤ 200 := by have := hb.bts.len; omega
  have HBL := hide hbl
  clear h hr hX hb hbl hs
  unfold rvV
  go_enter Tryz.func10, Tryz.ntmps10
  go_upto_region 1 with (fail)
  generalize (((w.alloc (.cells #[.int .i64 (V.D.size : Int), .slice (some ⟨gc, 0, none⟩) V.D.cells.length cc, .slice A1 V.D.loose.length cl, .int .i64 (V.D.syncs : Int), .slice A2 V.L.length ck] 38)).alloc (.cells #[.int .i64 d.kind, .int .u32 (cO d.s : Int), .int .u16 (cS d.s : Int), .int .u16 (cL d.s : Int), .int .u32 (cG d.s : Int), .slice A m c, .int .i64 d.n, .int .i64 d.m, .int .u8 (d.bits.toNat : Int)] 49)).alloc (.cells #[.int .i64 0, .slice none 0 0, .slice none 0 0, .int .i64 0, .slice none 0 0] 38)) = w0 at HS ⊢
  obtain ⟨s0, hs0⟩ : ∃ s0, s0 = w.heap.size := ⟨_, rfl⟩
  rw [← hs0] at HS ⊢
  clear hs0
  have a0 := HS.out.ba.cell.1
  go_upto_block 0 with fail
  clear a0
  go_cut [1, 11, 12] (fun v1 v11 v12 wx => ∃ (q g1 b1 : Nat), v1 = .pointer (some ⟨g1, 0, none⟩) ∧ v11 = .int .i64 (q : Int) ∧ v12 = .int .i64 (q : Int) ∧ DsE w F X0 gd s0 d A m c V g1 b1 wx)
  case first =>
    by_cases e1 : d.kind = 1
    · have t1 : (d.kind == 1) = true := by simp [e1]
      clear e1
      obtain ⟨px0, px1, px2, px3, px4⟩ := HS.out.bx.cell
      obtain ⟨pa0, pa1, pa2, pa3, pa4, pa5, pa6, pa7, pa8⟩ := HS.out.ba.cell
      go_wp2_with fail
      refine (begin_any HS.out.vt HSN.out HS.out.bt.bts (by have := HBL.out; omega) hcn (by omega)).mono ?_
      rintro e w1 ⟨rfl, ⟨b1, hv1⟩, hk1⟩
      have HS1 := hide (HS.out.prog hv1 hk1)
      clear px0 px1 px2 px3 px4 pa0 pa1 pa2 pa3 pa4 pa5 pa6 pa7 pa8
      clear hv1 hk1
      obtain ⟨qx0, qx1, qx2, qx3, qx4⟩ := HS1.out.bx.cell
      obtain ⟨qa0, qa1, qa2, qa3, qa4, qa5, qa6, qa7, qa8⟩ := HS1.out.ba.cell
      go_wp2_with fail
      refine (rbegin12_any ⟨_, _, _, _, _, rfl, HS1.out.rv⟩ HSN.out HS1.out.bt.bts (by omega) (by omega)).mono ?_
      rintro e w2 ⟨v2, rfl, ⟨vc2, vl2, vk2, cs2, ls2, rfl, hr2⟩, k2⟩
      obtain ⟨gc2, cc2, B2, cl2, B3, ck2, rfl, rfl, rfl⟩ := hr2.forms
      have HS2 := hide (HS1.out.doc hr2 k2)
      clear qx0 qx1 qx2 qx3 qx4 qa0 qa1 qa2 qa3 qa4 qa5 qa6 qa7 qa8
      obtain ⟨rx0, rx1, rx2, rx3, rx4⟩ := (HS1.out.no k2).bx.cell
      obtain ⟨ra0, ra1, ra2, ra3, ra4, ra5, ra6, ra7, ra8⟩ := (HS1.out.no k2).ba.cell
      have rf0 := (HS1.out.no k2).bx.frozen 0
      have rf1 := (HS1.out.no k2).bx.frozen 1
      have rf2 := (HS1.out.no k2).bx.frozen 2
      have rf3 := (HS1.out.no k2).bx.frozen 3
      have rf4 := (HS1.out.no k2).bx.frozen 4
      clear hr2 k2
      unfold tupE rvV
      go_wp2_with fail
      go_meet
      exact ⟨_, _, _, rfl, rfl, rfl, ⟨_, _, _, _, _, _, _, _, _, _, HS2.out, V.nbg d.s d.b⟩⟩
    by_cases e2 : d.kind = 2
    · have t2 : (d.kind == 2) = true := by simp [e2]
      have t1 : (d.kind == 1) = false := by simp [e1]
      clear e2
      obtain ⟨px0, px1, px2, px3, px4⟩ := HS.out.bx.cell
      obtain ⟨pa0, pa1, pa2, pa3, pa4, pa5, pa6, pa7, pa8⟩ := HS.out.ba.cell
      go_wp2_with fail
      refine (vdrop_any HS.out.vt HSN.out (by omega) hsy).mono ?_
      rintro e w1 ⟨rfl, ⟨b1, hv1⟩, hk1⟩
      have HS1 := hide (HS.out.prog hv1 hk1)
      clear px0 px1 px2 px3 px4 pa0 pa1 pa2 pa3 pa4 pa5 pa6 pa7 pa8
      clear hv1 hk1
      obtain ⟨qx0, qx1, qx2, qx3, qx4⟩ := HS1.out.bx.cell
      obtain ⟨qa0, qa1, qa2, qa3, qa4, qa5, qa6, qa7, qa8⟩ := HS1.out.ba.cell
      go_wp2_with fail
      refine (rdrop12_any ⟨_, _, _, _, _, rfl, HS1.out.rv⟩ HSN.out (by omega) hsy).mono ?_
      rintro e w2 ⟨v2, rfl, ⟨vc2, vl2, vk2, cs2, ls2, rfl, hr2⟩, k2⟩
      obtain ⟨gc2, cc2, B2, cl2, B3, ck2, rfl, rfl, rfl⟩ := hr2.forms
      have HS2 := hide (HS1.out.doc hr2 k2)
      clear qx0 qx1 qx2 qx3 qx4 qa0 qa1 qa2 qa3 qa4 qa5 qa6 qa7 qa8
      obtain ⟨rx0, rx1, rx2, rx3, rx4⟩ := (HS1.out.no k2).bx.cell
      obtain ⟨ra0, ra1, ra2, ra3, ra4, ra5, ra6, ra7, ra8⟩ := (HS1.out.no k2).ba.cell
      have rf0 := (HS1.out.no k2).bx.frozen 0
      have rf1 := (HS1.out.no k2).bx.frozen 1
      have rf2 := (HS1.out.no k2).bx.frozen 2
      have rf3 := (HS1.out.no k2).bx.frozen 3
      have rf4 := (HS1.out.no k2).bx.frozen 4
      clear hr2 k2
      unfold tupE rvV
      go_wp2_with fail
      go_meet
      exact ⟨_, _, _, rfl, rfl, rfl, ⟨_, _, _, _, _, _, _, _, _, _, HS2.out, V.ndr d.s⟩⟩
    by_cases e3 : d.kind = 3
    · have t3 : (d.kind == 3) = true := by simp [e3]
      have t1 : (d.kind == 1) = false := by simp [e1]
      have t2 : (d.kind == 2) = false := by simp [e2]
      clear e3
      obtain ⟨px0, px1, px2, px3, px4⟩ := HS.out.bx.cell
      obtain ⟨pa0, pa1, pa2, pa3, pa4, pa5, pa6, pa7, pa8⟩ := HS.out.ba.cell
      go_wp2_with fail
      refine (psync_any HS.out.vt.dk (by omega) hsy).mono ?_
      rintro e w1 ⟨rfl, hd1, hk1⟩
      have HS1 := hide (HS.out.disk (sync_n _) hd1 hk1)
      clear px0 px1 px2 px3 px4 pa0 pa1 pa2 pa3 pa4 pa5 pa6 pa7 pa8
      clear hd1 hk1
      obtain ⟨qx0, qx1, qx2, qx3, qx4⟩ := HS1.out.bx.cell
      obtain ⟨qa0, qa1, qa2, qa3, qa4, qa5, qa6, qa7, qa8⟩ := HS1.out.ba.cell
      go_wp2_with fail
      refine (rsync_any ⟨_, _, _, _, rfl, HS1.out.rv.rf⟩ (by omega) hsy).mono ?_
      rintro e w2 ⟨v2, rfl, ⟨vc2, vl2, cs2, ls2, rfl, hr2⟩, k2⟩
      obtain ⟨gc2, cc2, rfl, _⟩ := hr2.vc_
      obtain ⟨B2, cl2, rfl, _, _⟩ := hr2.vl_
      have HS2 := hide (HS1.out.doc4 hr2 (sync_n _) k2)
      clear qx0 qx1 qx2 qx3 qx4 qa0 qa1 qa2 qa3 qa4 qa5 qa6 qa7 qa8
      obtain ⟨rx0, rx1, rx2, rx3, rx4⟩ := (HS1.out.no k2).bx.cell
      obtain ⟨ra0, ra1, ra2, ra3, ra4, ra5, ra6, ra7, ra8⟩ := (HS1.out.no k2).ba.cell
      have rf0 := (HS1.out.no k2).bx.frozen 0
      have rf1 := (HS1.out.no k2).bx.frozen 1
      have rf2 := (HS1.out.no k2).bx.frozen 2
      have rf3 := (HS1.out.no k2).bx.frozen 3
      have rf4 := (HS1.out.no k2).bx.frozen 4
      clear hr2 k2
      unfold rfV id
      go_wp2_with fail
      go_meet
      exact ⟨0, _, _, rfl, rfl, rfl, ⟨_, _, _, _, _, _, _, _, _, _, HS2.out, V.nsync⟩⟩
    by_cases e4 : d.kind = 4
    · have t4 : (d.kind == 4) = true := by simp [e4]
      have t1 : (d.kind == 1) = false := by simp [e1]
      have t2 : (d.kind == 2) = false := by simp [e2]
      have t3 : (d.kind == 3) = false := by simp [e3]
      clear e4
      obtain ⟨px0, px1, px2, px3, px4⟩ := HS.out.bx.cell
      obtain ⟨pa0, pa1, pa2, pa3, pa4, pa5, pa6, pa7, pa8⟩ := HS.out.ba.cell
      go_wp2_with fail
      refine (pcrash_any HS.out.vt.dk (by omega) d.n d.m).mono ?_
      rintro e w1 ⟨rfl, hd1, hk1⟩
      have HS1 := hide (HS.out.disk (Dk.torn_len _ _ _) hd1 hk1)
      clear px0 px1 px2 px3 px4 pa0 pa1 pa2 pa3 pa4 pa5 pa6 pa7 pa8
      clear hd1 hk1
      obtain ⟨qx0, qx1, qx2, qx3, qx4⟩ := HS1.out.bx.cell
      obtain ⟨qa0, qa1, qa2, qa3, qa4, qa5, qa6, qa7, qa8⟩ := HS1.out.ba.cell
      go_wp2_with fail
      refine (rcrash_any ⟨_, _, _, _, rfl, HS1.out.rv.rf⟩ (by omega) d.n d.m).mono ?_
      rintro e w2 ⟨v2, rfl, ⟨vc2, vl2, cs2, ls2, rfl, hr2⟩, k2⟩
      obtain ⟨gc2, cc2, rfl, _⟩ := hr2.vc_
      obtain ⟨B2, cl2, rfl, _, _⟩ := hr2.vl_
      have HS2 := hide (HS1.out.doc4 hr2 (Dk.torn_len _ _ _) k2)
      clear qx0 qx1 qx2 qx3 qx4 qa0 qa1 qa2 qa3 qa4 qa5 qa6 qa7 qa8
      obtain ⟨rx0, rx1, rx2, rx3, rx4⟩ := (HS1.out.no k2).bx.cell
      obtain ⟨ra0, ra1, ra2, ra3, ra4, ra5, ra6, ra7, ra8⟩ := (HS1.out.no k2).ba.cell
      have rf0 := (HS1.out.no k2).bx.frozen 0
      have rf1 := (HS1.out.no k2).bx.frozen 1
      have rf2 := (HS1.out.no k2).bx.frozen 2
      have rf3 := (HS1.out.no k2).bx.frozen 3
      have rf4 := (HS1.out.no k2).bx.frozen 4
      clear hr2 k2
      unfold tupE rfV
      go_upto_region 19 with (fail)
      generalize ((((w2.setCell ⟨s0, 0, none⟩ (.int .i64 ((V.D.crash d.n d.m).size : Int))).setCell ⟨s0, 1, none⟩ (.slice (some ⟨gc2, 0, none⟩) (V.D.crash d.n d.m).cells.length cc2)).setCell ⟨s0, 2, none⟩ (.slice B2 (V.D.crash d.n d.m).loose.length cl2)).setCell ⟨s0, 3, none⟩ (.int .i64 ((V.D.crash d.n d.m).syncs : Int))) = w5 at HS2 ⊢
      clear rx0 rx1 rx2 rx3 rx4 ra0 ra1 ra2 ra3 ra4 ra5 ra6 ra7 ra8 rf0 rf1 rf2 rf3 rf4
      obtain ⟨sx0, sx1, sx2, sx3, sx4⟩ := HS2.out.bx.cell
      obtain ⟨sa0, sa1, sa2, sa3, sa4, sa5, sa6, sa7, sa8⟩ := HS2.out.ba.cell
      go_wp2_with fail
      refine (vopen_any HS2.out.vt.dk).mono ?_
      rintro e w3 ⟨g3, b3, rfl, _, _, hv3, hk3⟩
      have HS3 := hide (HS2.out.open_ hv3 hk3)
      clear sx0 sx1 sx2 sx3 sx4 sa0 sa1 sa2 sa3 sa4 sa5 sa6 sa7 sa8
      clear hv3 hk3
      obtain ⟨tx0, tx1, tx2, tx3, tx4⟩ := HS3.out.bx.cell
      obtain ⟨ta0, ta1, ta2, ta3, ta4, ta5, ta6, ta7, ta8⟩ := HS3.out.ba.cell
      go_wp2_with fail
      refine (ropen12_any (D := V.D.crash d.n d.m) ⟨_, _, _, _, rfl, HS3.out.rv.rf⟩).mono ?_
      rintro e w4 ⟨v4, rfl, ⟨vc4, vl4, vk4, cs4, ls4, rfl, hr4⟩, k4⟩
      obtain ⟨gc4, cc4, B4, cl4, B5, ck4, rfl, rfl, rfl⟩ := hr4.forms
      have HS4 := hide (HS3.out.doc hr4 k4)
      clear tx0 tx1 tx2 tx3 tx4 ta0 ta1 ta2 ta3 ta4 ta5 ta6 ta7 ta8
      obtain ⟨ux0, ux1, ux2, ux3, ux4⟩ := (HS3.out.no k4).bx.cell
      obtain ⟨ua0, ua1, ua2, ua3, ua4, ua5, ua6, ua7, ua8⟩ := (HS3.out.no k4).ba.cell
      have uf0 := (HS3.out.no k4).bx.frozen 0
      have uf1 := (HS3.out.no k4).bx.frozen 1
      have uf2 := (HS3.out.no k4).bx.frozen 2
      have uf3 := (HS3.out.no k4).bx.frozen 3
      have uf4 := (HS3.out.no k4).bx.frozen 4
      clear hr4 k4
      unfold rvV id
      go_wp2_with fail
      go_meet
      exact ⟨0, _, _, rfl, rfl, rfl, ⟨_, _, _, _, _, _, _, _, _, _, HS4.out, V.ncrash d.n d.m⟩⟩
    by_cases e6 : d.kind = 6
    · have t6 : (d.kind == 6) = true := by simp [e6]
      have t1 : (d.kind == 1) = false := by simp [e1]
      have t2 : (d.kind == 2) = false := by simp [e2]
      have t3 : (d.kind == 3) = false := by simp [e3]
      have t4 : (d.kind == 4) = false := by simp [e4]
      clear e6
      obtain ⟨sx0, sx1, sx2, sx3, sx4⟩ := HS.out.bx.cell
      obtain ⟨sa0, sa1, sa2, sa3, sa4, sa5, sa6, sa7, sa8⟩ := HS.out.ba.cell
      go_wp2_with fail
      refine (vopen_any HS.out.vt.dk).mono ?_
      rintro e w3 ⟨g3, b3, rfl, _, _, hv3, hk3⟩
      have HS3 := hide (HS.out.open_ hv3 hk3)
      clear sx0 sx1 sx2 sx3 sx4 sa0 sa1 sa2 sa3 sa4 sa5 sa6 sa7 sa8
      clear hv3 hk3
      obtain ⟨tx0, tx1, tx2, tx3, tx4⟩ := HS3.out.bx.cell
      obtain ⟨ta0, ta1, ta2, ta3, ta4, ta5, ta6, ta7, ta8⟩ := HS3.out.ba.cell
      go_wp2_with fail
      refine (ropen12_any (D := V.D) ⟨_, _, _, _, rfl, HS3.out.rv.rf⟩).mono ?_
      rintro e w4 ⟨v4, rfl, ⟨vc4, vl4, vk4, cs4, ls4, rfl, hr4⟩, k4⟩
      obtain ⟨gc4, cc4, B4, cl4, B5, ck4, rfl, rfl, rfl⟩ := hr4.forms
      have HS4 := hide (HS3.out.doc hr4 k4)
      clear tx0 tx1 tx2 tx3 tx4 ta0 ta1 ta2 ta3 ta4 ta5 ta6 ta7 ta8
      obtain ⟨ux0, ux1, ux2, ux3, ux4⟩ := (HS3.out.no k4).bx.cell
      obtain ⟨ua0, ua1, ua2, ua3, ua4, ua5, ua6, ua7, ua8⟩ := (HS3.out.no k4).ba.cell
      have uf0 := (HS3.out.no k4).bx.frozen 0
      have uf1 := (HS3.out.no k4).bx.frozen 1
      have uf2 := (HS3.out.no k4).bx.frozen 2
      have uf3 := (HS3.out.no k4).bx.frozen 3
      have uf4 := (HS3.out.no k4).bx.frozen 4
      clear hr4 k4
      unfold rvV id
      go_wp2_with fail
      go_meet
      exact ⟨0, _, _, rfl, rfl, rfl, ⟨_, _, _, _, _, _, _, _, _, _, HS4.out, V.nopen⟩⟩
    by_cases e5 : d.kind = 5
    · have t5 : (d.kind == 5) = true := by simp [e5]
      have t1 : (d.kind == 1) = false := by simp [e1]
      have t2 : (d.kind == 2) = false := by simp [e2]
      have t3 : (d.kind == 3) = false := by simp [e3]
      have t4 : (d.kind == 4) = false := by simp [e4]
      have t6 : (d.kind == 6) = false := by simp [e6]
      clear e5
      obtain ⟨px0, px1, px2, px3, px4⟩ := HS.out.bx.cell
      obtain ⟨pa0, pa1, pa2, pa3, pa4, pa5, pa6, pa7, pa8⟩ := HS.out.ba.cell
      go_wp2_with fail
      refine (pspoil_any HS.out.vt.dk d.n d.m d.bits).mono ?_
      rintro e w1 ⟨rfl, hd1, hk1⟩
      have HS1 := hide (HS.out.disk (spoil_n _ _ _ _) hd1 hk1)
      clear px0 px1 px2 px3 px4 pa0 pa1 pa2 pa3 pa4 pa5 pa6 pa7 pa8
      clear hd1 hk1
      obtain ⟨qx0, qx1, qx2, qx3, qx4⟩ := HS1.out.bx.cell
      obtain ⟨qa0, qa1, qa2, qa3, qa4, qa5, qa6, qa7, qa8⟩ := HS1.out.ba.cell
      go_wp2_with fail
      refine (rspoil_any ⟨_, _, _, _, rfl, HS1.out.rv.rf⟩ d.n d.m d.bits).mono ?_
      rintro e w2 ⟨v2, rfl, ⟨vc2, vl2, cs2, ls2, rfl, hr2⟩, k2⟩
      obtain ⟨gc2, cc2, rfl, _⟩ := hr2.vc_
      obtain ⟨B2, cl2, rfl, _, _⟩ := hr2.vl_
      have HS2 := hide (HS1.out.doc4 hr2 (spoil_n _ _ _ _) k2)
      clear qx0 qx1 qx2 qx3 qx4 qa0 qa1 qa2 qa3 qa4 qa5 qa6 qa7 qa8
      obtain ⟨rx0, rx1, rx2, rx3, rx4⟩ := (HS1.out.no k2).bx.cell
      obtain ⟨ra0, ra1, ra2, ra3, ra4, ra5, ra6, ra7, ra8⟩ := (HS1.out.no k2).ba.cell
      have rf0 := (HS1.out.no k2).bx.frozen 0
      have rf1 := (HS1.out.no k2).bx.frozen 1
      have rf2 := (HS1.out.no k2).bx.frozen 2
      have rf3 := (HS1.out.no k2).bx.frozen 3
      have rf4 := (HS1.out.no k2).bx.frozen 4
      clear hr2 k2
      unfold tupE rfV
      go_wp2_with fail
      go_meet
      exact ⟨_, _, _, rfl, rfl, rfl, ⟨_, _, _, _, _, _, _, _, _, _, HS2.out, V.nspoil d.n d.m d.bits⟩⟩
    by_cases e7 : d.kind = 7
    · have t7 : (d.kind == 7) = true := by simp [e7]
      have t1 : (d.kind == 1) = false := by simp [e1]
      have t2 : (d.kind == 2) = false := by simp [e2]
      have t3 : (d.kind == 3) = false := by simp [e3]
      have t4 : (d.kind == 4) = false := by simp [e4]
      have t6 : (d.kind == 6) = false := by simp [e6]
      have t5 : (d.kind == 5) = false := by simp [e5]
      clear e7
      obtain ⟨px0, px1, px2, px3, px4⟩ := HS.out.bx.cell
      obtain ⟨pa0, pa1, pa2, pa3, pa4, pa5, pa6, pa7, pa8⟩ := HS.out.ba.cell
      go_wp2_with fail
      refine (pwrite_any HS.out.vt.dk HS.out.bt.bts (by omega) d.n).mono ?_
      rintro e w1 ⟨rfl, hd1, hk1⟩
      have HS1 := hide (HS.out.disk (put_n _ _ _) hd1 hk1)
      clear px0 px1 px2 px3 px4 pa0 pa1 pa2 pa3 pa4 pa5 pa6 pa7 pa8
      clear hd1 hk1
      obtain ⟨qx0, qx1, qx2, qx3, qx4⟩ := HS1.out.bx.cell
      obtain ⟨qa0, qa1, qa2, qa3, qa4, qa5, qa6, qa7, qa8⟩ := HS1.out.ba.cell
      go_wp2_with fail
      refine (rput_any ⟨_, _, _, _, rfl, HS1.out.rv.rf⟩ HS1.out.bt (by omega) d.n).mono ?_
      rintro e w2 ⟨v2, rfl, ⟨vc2, vl2, cs2, ls2, rfl, hr2⟩, k2⟩
      obtain ⟨gc2, cc2, rfl, _⟩ := hr2.vc_
      obtain ⟨B2, cl2, rfl, _, _⟩ := hr2.vl_
      have HS2 := hide (HS1.out.doc4 hr2 (put_n _ _ _) k2)
      clear qx0 qx1 qx2 qx3 qx4 qa0 qa1 qa2 qa3 qa4 qa5 qa6 qa7 qa8
      obtain ⟨rx0, rx1, rx2, rx3, rx4⟩ := (HS1.out.no k2).bx.cell
      obtain ⟨ra0, ra1, ra2, ra3, ra4, ra5, ra6, ra7, ra8⟩ := (HS1.out.no k2).ba.cell
      have rf0 := (HS1.out.no k2).bx.frozen 0
      have rf1 := (HS1.out.no k2).bx.frozen 1
      have rf2 := (HS1.out.no k2).bx.frozen 2
      have rf3 := (HS1.out.no k2).bx.frozen 3
      have rf4 := (HS1.out.no k2).bx.frozen 4
      clear hr2 k2
      unfold tupE rfV
      go_wp2_with fail
      go_meet
      exact ⟨_, _, _, rfl, rfl, rfl, ⟨_, _, _, _, _, _, _, _, _, _, HS2.out, V.nput d.b d.n⟩⟩
    have t1 : (d.kind == 1) = false := by simp [e1]
    have t2 : (d.kind == 2) = false := by simp [e2]
    have t3 : (d.kind == 3) = false := by simp [e3]
    have t4 : (d.kind == 4) = false := by simp [e4]
    have t6 : (d.kind == 6) = false := by simp [e6]
    have t5 : (d.kind == 5) = false := by simp [e5]
    have t7 : (d.kind == 7) = false := by simp [e7]
    clear e1 e2 e3 e4 e6 e5 e7
    obtain ⟨px0, px1, px2, px3, px4⟩ := HS.out.bx.cell
    obtain ⟨pa0, pa1, pa2, pa3, pa4, pa5, pa6, pa7, pa8⟩ := HS.out.ba.cell
    go_wp2_with fail
    refine (vput_any HS.out.vt HSN.out HS.out.bt.bts (by have := HBL.out; omega) hcn (by omega) hsy).mono ?_
    rintro e w1 ⟨rfl, ⟨b1, hv1⟩, hk1⟩
    have HS1 := hide (HS.out.prog hv1 hk1)
    clear px0 px1 px2 px3 px4 pa0 pa1 pa2 pa3 pa4 pa5 pa6 pa7 pa8
    clear hv1 hk1
    obtain ⟨qx0, qx1, qx2, qx3, qx4⟩ := HS1.out.bx.cell
    obtain ⟨qa0, qa1, qa2, qa3, qa4, qa5, qa6, qa7, qa8⟩ := HS1.out.ba.cell
    go_wp2_with fail
    refine (rput12_any ⟨_, _, _, _, _, rfl, HS1.out.rv⟩ HSN.out HS1.out.bt.bts (by omega) (by omega) hsy).mono ?_
    rintro e w2 ⟨v2, rfl, ⟨vc2, vl2, vk2, cs2, ls2, rfl, hr2⟩, k2⟩
    obtain ⟨gc2, cc2, B2, cl2, B3, ck2, rfl, rfl, rfl⟩ := hr2.forms
    have HS2 := hide (HS1.out.doc hr2 k2)
    clear qx0 qx1 qx2 qx3 qx4 qa0 qa1 qa2 qa3 qa4 qa5 qa6 qa7 qa8
    obtain ⟨rx0, rx1, rx2, rx3, rx4⟩ := (HS1.out.no k2).bx.cell
    obtain ⟨ra0, ra1, ra2, ra3, ra4, ra5, ra6, ra7, ra8⟩ := (HS1.out.no k2).ba.cell
    have rf0 := (HS1.out.no k2).bx.frozen 0
    have rf1 := (HS1.out.no k2).bx.frozen 1
    have rf2 := (HS1.out.no k2).bx.frozen 2
    have rf3 := (HS1.out.no k2).bx.frozen 3
    have rf4 := (HS1.out.no k2).bx.frozen 4
    clear hr2 k2
    unfold tupE rvV
    go_wp2_with fail
    go_meet
    exact ⟨_, _, _, rfl, rfl, rfl, ⟨_, _, _, _, _, _, _, _, _, _, HS2.out, V.npt d.s d.b⟩⟩
  case rest =>
  obtain ⟨q, g1, b1, rfl, rfl, rfl, V1, gc1, cc1, A3, cl1, A4, ck1, cs1, ls1, G, hS, hN⟩ := hcut
  have HN := hide hN
  have HSS := hide hS
  clear hS hN
  have HS1 := hide (HSS.out.no (Kp.refl No wc).drew)
  clear HSS
  go_wp2_with fail
  refine wp_region_noPanic ?_
  refine wp_region_held_drew (S := fun w' => w'.cell? ⟨s0, 0, none⟩ = some (.int .i64 (V1.D.size : Int)) ∧ w'.cell? ⟨s0, 1, none⟩ = some (.slice (some ⟨gc1, 0, none⟩) V1.D.cells.length cc1) ∧ w'.cell? ⟨s0, 2, none⟩ = some (.slice A3 V1.D.loose.length cl1) ∧ w'.cell? ⟨s0, 3, none⟩ = some (.int .i64 (V1.D.syncs : Int)) ∧ w'.cell? ⟨s0, 4, none⟩ = some (.slice A4 V1.L.length ck1)) (by kernel_rfl) (HS1.out.bx.cell) (fun hHeld => ?_)
  generalize wc.drew = wd at HS1 hHeld ⊢
  have HFI := hide (HS1.out.fin HN.out)
  have HRC := hide ((show Bx5 wd (s0 + 1 + 1) (.int .i64 0) (.slice none 0 0) (.slice none 0 0) (.int .i64 0) (.slice none 0 0) from HS1.out.br).all (.int .i64 (V1.D.size : Int)) (.slice (some ⟨gc1, 0, none⟩) V1.D.cells.length cc1) (.slice A3 V1.D.loose.length cl1) (.int .i64 (V1.D.syncs : Int)) (.slice A4 V1.L.length ck1)).cell
  have HK5 := hide (HS1.out.bx.keep (kp5 (S := fun q => q = s0 + 1 + 1) wd (s0 + 1 + 1) (.int .i64 (V1.D.size : Int)) (.slice (some ⟨gc1, 0, none⟩) V1.D.cells.length cc1) (.slice A3 V1.D.loose.length cl1) (.int .i64 (V1.D.syncs : Int)) (.slice A4 V1.L.length ck1) rfl) (by omega)).cell
  refine wpAnyH_take (i := 0) (v := ?vzx1) (oi := ?ozx1) ?hzx1 (by kernel_rfl) (by kernel_rfl) (by kernel_rfl) (fun _ _ _ h => h) (Or.inl ⟨?wzx1, ?yzx1⟩) hHeld ?rzx1
  case hzx1 => simp only [List.getElem?_toArray, List.getElem?_cons_zero, List.getElem?_cons_succ]; rfl
  case wzx1 => rfl
  case yzx1 => intro w hSw; (try dsimp only at hSw); go_simp; (try with_reducible rfl)
  simp only [Act.put, List.setIfInBounds_toArray, List.set_cons_zero, List.set_cons_succ]
  refine wpAnyH_take (i := 1) (v := ?vzx2) (oi := ?ozx2) ?hzx2 (by kernel_rfl) (by kernel_rfl) (by kernel_rfl) (fun _ _ _ h => h) (Or.inl ⟨?wzx2, ?yzx2⟩) hHeld ?rzx2
  case hzx2 => simp only [List.getElem?_toArray, List.getElem?_cons_zero, List.getElem?_cons_succ]; rfl
  case wzx2 => rfl
  case yzx2 => intro w hSw; (try dsimp only at hSw); go_simp; (try with_reducible rfl)
  simp only [Act.put, List.setIfInBounds_toArray, List.set_cons_zero, List.set_cons_succ]
  refine wpAnyH_take (i := 2) (v := ?vzx3) (oi := ?ozx3) ?hzx3 (by kernel_rfl) (by kernel_rfl) (by kernel_rfl) (fun _ _ _ h => h) (Or.inl ⟨?wzx3, ?yzx3⟩) hHeld ?rzx3
  case hzx3 => simp only [List.getElem?_toArray, List.getElem?_cons_zero, List.getElem?_cons_succ]; rfl
  case wzx3 => rfl
  case yzx3 => intro w hSw; (try dsimp only at hSw); go_simp; (try with_reducible rfl)
  simp only [Act.put, List.setIfInBounds_toArray, List.set_cons_zero, List.set_cons_succ]
  refine wpAnyH_take (i := 3) (v := ?vzx4) (oi := ?ozx4) ?hzx4 (by kernel_rfl) (by kernel_rfl) (by kernel_rfl) (fun _ _ _ h => h) (Or.inl ⟨?wzx4, ?yzx4⟩) hHeld ?rzx4
  case hzx4 => simp only [List.getElem?_toArray, List.getElem?_cons_zero, List.getElem?_cons_succ]; rfl
  case wzx4 => rfl
  case yzx4 => intro w hSw; (try dsimp only at hSw); go_simp; (try with_reducible rfl)
  simp only [Act.put, List.setIfInBounds_toArray, List.set_cons_zero, List.set_cons_succ]
  refine wpAnyH_take (i := 4) (v := ?vzx5) (oi := ?ozx5) ?hzx5 (by kernel_rfl) (by kernel_rfl) (by kernel_rfl) (fun _ _ _ h => h) (Or.inl ⟨?wzx5, ?yzx5⟩) hHeld ?rzx5
  case hzx5 => simp only [List.getElem?_toArray, List.getElem?_cons_zero, List.getElem?_cons_succ]; rfl
  case wzx5 => rfl
  case yzx5 => intro w hSw; (try dsimp only at hSw); go_simp; (try with_reducible rfl)
  simp only [Act.put, List.setIfInBounds_toArray, List.set_cons_zero, List.set_cons_succ]
  refine wpAnyH_take (i := 5) (v := ?vzx6) (oi := ?ozx6) ?hzx6 (by kernel_rfl) (by kernel_rfl) (by kernel_rfl) (fun _ _ _ h => h) (Or.inl ⟨?wzx6, ?yzx6⟩) hHeld ?rzx6
  case hzx6 => simp only [List.getElem?_toArray, List.getElem?_cons_zero, List.getElem?_cons_succ]; rfl
  case wzx6 => rfl
  case yzx6 => intro w hSw; (try dsimp only at hSw); go_simp; (try with_reducible rfl)
  simp only [Act.put, List.setIfInBounds_toArray, List.set_cons_zero, List.set_cons_succ]
  refine wpAnyH_ready (rs := [6]) (by kernel_rfl) (by simp) ?_
  refine AllReadyH.cons (o := ?ozx7) ?hzx7 (fun K hK => ?szx7) AllReadyH.nil
  case hzx7 => simp only [List.getElem?_toArray, List.getElem?_cons_zero, List.getElem?_cons_succ]; rfl
  have z0 : wd.cell? ⟨s0 + 1 + 1, 0, none⟩ = some (.int .i64 0) := HS1.out.br.cell.1
  have z1 : wd.cell? ⟨s0 + 1 + 1, 1, none⟩ = some (.slice none 0 0) := HS1.out.br.cell.2.1
  have z2 : wd.cell? ⟨s0 + 1 + 1, 2, none⟩ = some (.slice none 0 0) := HS1.out.br.cell.2.2.1
  have z3 : wd.cell? ⟨s0 + 1 + 1, 3, none⟩ = some (.int .i64 0) := HS1.out.br.cell.2.2.2.1
  have z4 : wd.cell? ⟨s0 + 1 + 1, 4, none⟩ = some (.slice none 0 0) := HS1.out.br.cell.2.2.2.2
  have f0 : wd.frozen? ⟨s0 + 1 + 1, 0, none⟩ = false := HS1.out.br.frozen 0
  have f1 : wd.frozen? ⟨s0 + 1 + 1, 1, none⟩ = false := HS1.out.br.frozen 1
  have f2 : wd.frozen? ⟨s0 + 1 + 1, 2, none⟩ = false := HS1.out.br.frozen 2
  have f3 : wd.frozen? ⟨s0 + 1 + 1, 3, none⟩ = false := HS1.out.br.frozen 3
  have f4 : wd.frozen? ⟨s0 + 1 + 1, 4, none⟩ = false := HS1.out.br.frozen 4
  go_simp
  refine hK.out _ _ (HK5.out) (fun hHeld => ?_)
  clear hK K
  try simp only [Act.put, List.setIfInBounds_toArray, List.set_cons_zero, List.set_cons_succ]
  refine wpAnyH_take (i := 7) (v := ?vzx8) (oi := ?ozx8) ?hzx8 (by kernel_rfl) (by kernel_rfl) (by kernel_rfl) (fun _ _ _ h => h) (Or.inl ⟨?wzx8, ?yzx8⟩) hHeld ?rzx8
  case hzx8 => simp only [List.getElem?_toArray, List.getElem?_cons_zero, List.getElem?_cons_succ]; rfl
  case wzx8 => rfl
  case yzx8 => intro w hSw; (try dsimp only at hSw); go_simp; (try with_reducible rfl)
  simp only [Act.put, List.setIfInBounds_toArray, List.set_cons_zero, List.set_cons_succ]
  refine wpAnyH_done (by kernel_rfl) ?_ _
  refine NoPanic.normal ?_
  clear hHeld z0 z1 z2 z3 z4 f0 f1 f2 f3 f4
  obtain ⟨r0, r1, r2, r3, r4⟩ := HRC.out
  go_wp2_with fail
  refine bodyPost_ret (v := .tuple #[.pointer (some ⟨g1, 0, none⟩), rvV V1.D (.slice (some ⟨gc1, 0, none⟩) V1.D.cells.length cc1) (.slice A3 V1.D.loose.length cl1) (.slice A4 V1.L.length ck1), .bool true]) (by simp [results, Tryz.results10, go_sem, rvV, r0, r1, r2, r3, r4]) rfl ?_
  exact ⟨g1, b1, V1, _, G, rfl, HFI.out.1, HFI.out.2.1, HFI.out.2.2.1, HFI.out.2.2.2, HN.out⟩
end Go.Proofs.YtndghapdpfgmoaaGreat
