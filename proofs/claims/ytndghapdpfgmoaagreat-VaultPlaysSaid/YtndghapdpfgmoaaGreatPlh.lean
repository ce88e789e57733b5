/- The document's Sync and Crash of layer 11, each as a contract over memory. No condition. -/
import Derived.Test.YtndghapdpfgmoaaGreatPlg
import Derived.Test.YtndghapdpfgmoaaGreatVgb
import Derived.Deep.DeepCutAuto
namespace Go.Proofs.YtndghapdpfgmoaaGreat
open Go.RowKit
set_option linter.unusedVariables false
set_option maxRecDepth 20000
set_option linter.unusedSimpArgs false

/-- No loose write any more. -/
theorem RfR.noloose {w : World} {F : Nat → Prop} {D : Dk} {vc vl : Value} {cs : List (Value × List UInt8)} {ls : List (Nat × (Value × List UInt8))} (h : RfR w F D vc vl cs ls) (n : Nat) : RfR w F ⟨D.size, D.cells, [], n⟩ vc (.slice none 0 0) cs [] :=
  ⟨h.oc, OwnT.nil _ _ _ _, h.rc, (fun p hp => by simp at hp), h.dc, rfl, h.fc, (fun k hk => by cases hk), h.bd, ⟨h.ok.n0, h.ok.n1, h.ok.s0, h.ok.s1, h.ok.cl, fun p hp => by simp at hp⟩⟩
set_option maxHeartbeats 4000000 in
theorem rsync_any {w : World} {F : Nat → Prop} {D : Dk} {v0 : Value} (h : RfAt w F D v0) (hL : D.loose.length ≤ 1000000) (hsy : D.syncs + 1 ≤ 1000000000) :
    Calls Tryz.prog 30 #[v0] w (RfPost w F D.sync id) := by
  obtain ⟨vc, vl, cs, ls, rfl, h⟩ := h
  obtain ⟨gc, c, rfl, hc⟩ := h.vc_
  obtain ⟨A, cl, rfl, hcl, hL1⟩ := h.vl_
  have hs1 := h.ok.s1
  have hn1 := h.ok.n1
  have HI := hide (BxS.begin h)
  have HH := hide h
  clear h
  unfold maxLen at hL1
  unfold rfV
  go_enter Tryz.func30, Tryz.ntmps30
  go_wp2_with fail
  generalize hw2 : ((w.alloc (.cells #[.int .i64 (D.size : Int), .slice (some ⟨gc, 0, none⟩) D.cells.length c, .slice A D.loose.length cl, .int .i64 (D.syncs : Int)] 35)).alloc (.cells #[.int .i64 0, .slice none 0 0, .slice none 0 0, .int .i64 0] 35)) = w2 at HI ⊢
  clear hw2
  generalize w.heap.size = s at HI ⊢
  have ax0 := HI.out.bx.c0
  have ax1 := HI.out.bx.c1
  have ax2 := HI.out.bx.c2
  have ax3 := HI.out.bx.c3
  have af0 := HI.out.rz.fz 0
  have af1 := HI.out.rz.fz 1
  have af2 := HI.out.rz.fz 2
  have af3 := HI.out.rz.fz 3
  have az0 := HI.out.rz.c0
  have az1 := HI.out.rz.c1
  have az2 := HI.out.rz.c2
  have az3 := HI.out.rz.c3
  have ag0 := HI.out.bx.fz 0
  have ag1 := HI.out.bx.fz 1
  have ag2 := HI.out.bx.fz 2
  have ag3 := HI.out.bx.fz 3
  go_wp2_with fail
  refine (rdone_any (n := D.loose.length) HI.out.rf (Nat.le_refl _) hL).mono ?_
  rintro e w3 ⟨g5, c5, cs5, rfl, hR, k3⟩
  have HS := hide (HI.out.no k3)
  have HR := hide hR
  clear hR k3
  clear ax0 ax1 ax2 ax3 af0 af1 af2 af3 az0 az1 az2 az3 ag0 ag1 ag2 ag3
  unfold rfV
  have bx0 := HS.out.bx.c0
  have bx1 := HS.out.bx.c1
  have bx2 := HS.out.bx.c2
  have bx3 := HS.out.bx.c3
  have bf0 := HS.out.rz.fz 0
  have bf1 := HS.out.rz.fz 1
  have bf2 := HS.out.rz.fz 2
  have bf3 := HS.out.rz.fz 3
  have bz0 := HS.out.rz.c0
  have bz1 := HS.out.rz.c1
  have bz2 := HS.out.rz.c2
  have bz3 := HS.out.rz.c3
  have bg0 := HS.out.bx.fz 0
  have bg1 := HS.out.bx.fz 1
  have bg2 := HS.out.bx.fz 2
  have bg3 := HS.out.bx.fz 3
  go_upto_region 2 with (fail)
  have hb4 := HS.out.bx.set4 (D := D) (vc := .slice (some ⟨g5, 0, none⟩) D.cells.length c5) (vl := .slice A D.loose.length cl)
  have HS4 := hide (HS.out.upd HR.out (kp_set4 w3 s (.int .i64 (D.size : Int)) (.slice (some ⟨g5, 0, none⟩) D.cells.length c5) (.slice A D.loose.length cl) (.int .i64 (D.syncs : Int))) (hb4.eqD (E := D.upto D.loose.length) rfl rfl))
  clear bx0 bx1 bx2 bx3 bf0 bf1 bf2 bf3 bz0 bz1 bz2 bz3 bg0 bg1 bg2 bg3
  generalize ((((w3.setCell ⟨s, 0, none⟩ (.int .i64 (D.size : Int))).setCell ⟨s, 1, none⟩ (.slice (some ⟨g5, 0, none⟩) D.cells.length c5)).setCell ⟨s, 2, none⟩ (.slice A D.loose.length cl)).setCell ⟨s, 3, none⟩ (.int .i64 (D.syncs : Int))) = w4 at hb4 HS4 ⊢
  have dx0 := hb4.c0
  have dx1 := hb4.c1
  have dx2 := hb4.c2
  have dx3 := hb4.c3
  have df0 := HS4.out.rz.fz 0
  have df1 := HS4.out.rz.fz 1
  have df2 := HS4.out.rz.fz 2
  have df3 := HS4.out.rz.fz 3
  have dz0 := HS4.out.rz.c0
  have dz1 := HS4.out.rz.c1
  have dz2 := HS4.out.rz.c2
  have dz3 := HS4.out.rz.c3
  have dg2 := hb4.fz 2
  have dg3 := hb4.fz 3
  have HB4 := hide hb4
  clear hb4
  go_wp2_with fail
  clear dx0 dx1 dx2 dx3 df0 df1 df2 df3 dz0 dz1 dz2 dz3 dg2 dg3
  have hR8 := HS4.out.rf.noloose (D.syncs + 1)
  have hS8 := HS4.out.upd hR8 ((Kp.setCell (p := ⟨s, 2, none⟩) (S := fun k => k = s) rfl (.slice none 0 0)).trans' (Kp.setCell (p := ⟨s, 3, none⟩) (S := fun k => k = s) rfl (.int .i64 ((D.syncs : Int) + 1)))) (((HB4.out.set2 (.slice none 0 0)).set3 (D.syncs + 1)).eqD rfl rfl)
  have hbx : BxD ((((((w4.setCell ⟨s, 2, none⟩ (.slice none 0 0)).setCell ⟨s, 3, none⟩ (.int .i64 ((D.syncs : Int) + 1))).setCell ⟨s + 1, 0, none⟩ (.int .i64 (D.size : Int))).setCell ⟨s + 1, 1, none⟩ (.slice (some ⟨g5, 0, none⟩) D.cells.length c5)).setCell ⟨s + 1, 2, none⟩ (.slice none 0 0)).setCell ⟨s + 1, 3, none⟩ (.int .i64 ((D.syncs : Int) + 1))) (s + 1) D.sync (.slice (some ⟨g5, 0, none⟩) D.cells.length c5) (.slice none 0 0) := hS8.rz.set4 (D := D.sync) (vc := .slice (some ⟨g5, 0, none⟩) D.cells.length c5) (vl := .slice none 0 0)
  have HF := hide (hS8.fin (kp_set4 ((w4.setCell ⟨s, 2, none⟩ (.slice none 0 0)).setCell ⟨s, 3, none⟩ (.int .i64 ((D.syncs : Int) + 1))) (s + 1) (.int .i64 (D.size : Int)) (.slice (some ⟨g5, 0, none⟩) D.cells.length c5) (.slice none 0 0) (.int .i64 ((D.syncs : Int) + 1))))
  have r0 := hbx.c0
  have r1 := hbx.c1
  have r2 := hbx.c2
  have r3 := hbx.c3
  clear hbx
  generalize ((((((w4.setCell ⟨s, 2, none⟩ (.slice none 0 0)).setCell ⟨s, 3, none⟩ (.int .i64 ((D.syncs : Int) + 1))).setCell ⟨s + 1, 0, none⟩ (.int .i64 (D.size : Int))).setCell ⟨s + 1, 1, none⟩ (.slice (some ⟨g5, 0, none⟩) D.cells.length c5)).setCell ⟨s + 1, 2, none⟩ (.slice none 0 0)).setCell ⟨s + 1, 3, none⟩ (.int .i64 ((D.syncs : Int) + 1))) = w9 at HF r0 r1 r2 r3 ⊢
  refine bodyPost_ret (v := rfV D.sync (.slice (some ⟨g5, 0, none⟩) D.cells.length c5) (.slice none 0 0)) (by simp [results, Tryz.results30, go_sem, rfV, r0, r1, r2, r3]) rfl ?_
  exact ⟨_, rfl, ⟨_, _, _, _, rfl, HF.out.1⟩, HF.out.2⟩
set_option maxHeartbeats 4000000 in
theorem rcrash_any {w : World} {F : Nat → Prop} {D : Dk} {v0 : Value} (h : RfAt w F D v0) (hL : D.loose.length ≤ 1000000) (z y : Int) :
    Calls Tryz.prog 32 #[v0, .int .i64 z, .int .i64 y] w (RfPost w F (D.crash z y) (tupE (D.lost z))) := by
  obtain ⟨i0, hi0, hz0, hz1, hz2⟩ := byte_parts
  obtain ⟨k, hk⟩ : ∃ k, k = clm z D.loose.length := ⟨_, rfl⟩
  have hkL : k ≤ D.loose.length := hk ▸ clm_le _ _
  obtain ⟨r, hr⟩ : ∃ r, r = D.loose.length - k := ⟨_, rfl⟩
  have hC : D.crash z y = ⟨D.size, D.torn k y, [], D.syncs⟩ := by rw [hk]; rfl
  have hLo : D.lost z = r := by rw [hr, hk]; rfl
  have hokc : (D.crash z y).Ok := by
    obtain ⟨_, _, _, _, _, h⟩ := h
    exact h.ok.crash z y
  rw [hC] at hokc
  rw [hC, hLo]
  have HK := hide hk
  have HOK := hide hokc
  have HR := hide hr
  clear hk hC hLo hokc hr
  obtain ⟨vc, vl, cs, ls, rfl, h⟩ := h
  obtain ⟨gc, c, rfl, hc⟩ := h.vc_
  obtain ⟨A, cl, rfl, hcl, hL1⟩ := h.vl_
  have hs1 := h.ok.s1
  have hn1 := h.ok.n1
  have HI := hide (BxS.begin h)
  have HH := hide h
  clear h
  unfold maxLen at hL1
  unfold rfV
  go_enter Tryz.func32, Tryz.ntmps32
  go_upto_if 16 with (fail)
  generalize hw2 : ((w.alloc (.cells #[.int .i64 (D.size : Int), .slice (some ⟨gc, 0, none⟩) D.cells.length c, .slice A D.loose.length cl, .int .i64 (D.syncs : Int)] 35)).alloc (.cells #[.int .i64 0, .slice none 0 0, .slice none 0 0, .int .i64 0] 35)) = w2 at HI ⊢
  clear hw2
  generalize w.heap.size = s at HI ⊢
  go_cut [8] (fun v wx => v = .int .i64 (if z < 0 then 0 else z) ∧ wx = w2)
  case first =>
    by_cases h0 : z < 0
    · go_wp2_with fail
      go_meet
      exact ⟨by rw [if_pos h0], rfl⟩
    · go_wp2_with fail
      go_meet
      exact ⟨by rw [if_neg (by omega)], rfl⟩
  case rest =>
    obtain ⟨rfl, rfl⟩ := hcut
    obtain ⟨z1, hz1⟩ : ∃ z1, z1 = (if z < 0 then 0 else z) := ⟨_, rfl⟩
    rw [← hz1]
    have hk1 : k = clm z1 D.loose.length := by
      rw [HK.out, hz1]
      unfold clm
      split <;> omega
    have hz0 : 0 ≤ z1 := by rw [hz1]; split <;> omega
    have HK1 := hide hk1
    clear hz1 hk1
    have ax0 := HI.out.bx.c0
    have ax1 := HI.out.bx.c1
    have ax2 := HI.out.bx.c2
    have ax3 := HI.out.bx.c3
    have af0 := HI.out.rz.fz 0
    have af1 := HI.out.rz.fz 1
    have af2 := HI.out.rz.fz 2
    have af3 := HI.out.rz.fz 3
    have az0 := HI.out.rz.c0
    have az1 := HI.out.rz.c1
    have az2 := HI.out.rz.c2
    have az3 := HI.out.rz.c3
    have ag0 := HI.out.bx.fz 0
    have ag1 := HI.out.bx.fz 1
    have ag2 := HI.out.bx.fz 2
    have ag3 := HI.out.bx.fz 3
    go_upto_if 21 with (fail)
    go_cut [8] (fun v wx => v = .int .i64 (k : Int) ∧ wx = wc)
    case first =>
      by_cases h1 : (D.loose.length : Int) < z1
      · have e1 : k = D.loose.length := by rw [HK1.out, clm_hi (by omega)]
        have E1 := hide e1
        clear e1
        go_wp2_with fail
        go_meet
        exact ⟨by rw [E1.out], rfl⟩
      · have e1 : (k : Int) = z1 := by rw [HK1.out]; unfold clm; omega
        have E1 := hide e1
        clear e1
        go_wp2_with fail
        go_meet
        exact ⟨by rw [E1.out], rfl⟩
    case rest =>
      obtain ⟨rfl, rfl⟩ := hcut
      clear hz0 HK1 z1
      go_wp2_with fail
      refine (rdone_any (n := k) HI.out.rf hkL hL).mono ?_
      rintro e w3 ⟨g5, c5, cs5, rfl, hR, k3⟩
      have HS := hide (HI.out.no k3)
      have HR5 := hide hR
      clear hR k3
      clear ax0 ax1 ax2 ax3 af0 af1 af2 af3 az0 az1 az2 az3 ag0 ag1 ag2 ag3
      unfold rfV
      have bx0 := HS.out.bx.c0
      have bx1 := HS.out.bx.c1
      have bx2 := HS.out.bx.c2
      have bx3 := HS.out.bx.c3
      have bf0 := HS.out.rz.fz 0
      have bf1 := HS.out.rz.fz 1
      have bf2 := HS.out.rz.fz 2
      have bf3 := HS.out.rz.fz 3
      have bz0 := HS.out.rz.c0
      have bz1 := HS.out.rz.c1
      have bz2 := HS.out.rz.c2
      have bz3 := HS.out.rz.c3
      have bg0 := HS.out.bx.fz 0
      have bg1 := HS.out.bx.fz 1
      have bg2 := HS.out.bx.fz 2
      have bg3 := HS.out.bx.fz 3
      go_upto_region 7 with (fail)
      have hb4 := HS.out.bx.set4 (D := D) (vc := .slice (some ⟨g5, 0, none⟩) D.cells.length c5) (vl := .slice A D.loose.length cl)
      have HS4 := hide (HS.out.upd HR5.out (kp_set4 w3 s (.int .i64 (D.size : Int)) (.slice (some ⟨g5, 0, none⟩) D.cells.length c5) (.slice A D.loose.length cl) (.int .i64 (D.syncs : Int))) (hb4.eqD (E := D.upto k) rfl rfl))
      clear bx0 bx1 bx2 bx3 bf0 bf1 bf2 bf3 bz0 bz1 bz2 bz3 bg0 bg1 bg2 bg3
      generalize ((((w3.setCell ⟨s, 0, none⟩ (.int .i64 (D.size : Int))).setCell ⟨s, 1, none⟩ (.slice (some ⟨g5, 0, none⟩) D.cells.length c5)).setCell ⟨s, 2, none⟩ (.slice A D.loose.length cl)).setCell ⟨s, 3, none⟩ (.int .i64 (D.syncs : Int))) = w4 at hb4 HS4 ⊢
      clear HS HR5
      have dx0 : w4.cell? ⟨s, 0, none⟩ = some (.int .i64 (D.size : Int)) := hb4.c0
      have dx1 := hb4.c1
      have dx2 := hb4.c2
      have dx3 : w4.cell? ⟨s, 3, none⟩ = some (.int .i64 (D.syncs : Int)) := hb4.c3
      clear hb4
      by_cases hlt : k < D.loose.length
      · obtain ⟨gl, q, A', m', c', bs, rfl, hp, hls, y0, y1, hob, hqn0, hbl0⟩ := HS4.out.rf.lw rfl (j := k) (by show k < D.loose.length; omega)
        have hkr : (D.loose.length : Int) - (k : Int) = (r : Int) := by have := HR.out; omega
        have hr0 : 0 < r := by have := HR.out; omega
        go_upto_if 42 with (fail)
        have wb0 : (w4.alloc (.cells #[.int .i64 (q : Int), .slice A' m' c'] 111)).cell? ⟨w4.heap.size, 0, none⟩ = some (.int .i64 (q : Int)) := cell_new _ _ _ rfl rfl
        have wb1 : (w4.alloc (.cells #[.int .i64 (q : Int), .slice A' m' c'] 111)).cell? ⟨w4.heap.size, 1, none⟩ = some (.slice A' m' c') := cell_new _ _ _ rfl rfl
        have hS5 := HS4.out.no (Kp.alloc No w4 (.cells #[.int .i64 (q : Int), .slice A' m' c'] 111))
        have hob5 := hob.no (Kp.alloc No w4 (.cells #[.int .i64 (q : Int), .slice A' m' c'] 111))
        have hsb : w4.heap.size < (w4.alloc (.cells #[.int .i64 (q : Int), .slice A' m' c'] 111)).heap.size := by simp
        have HS5 := hide hS5
        have HOB := hide hob5
        have HM' := hide hob.1.len
        have HHP : Hid (D.loose[k]? = some (q, bs)) := hp
        have HSB := hide hsb
        have hcn : (D.upto k).cells.length = D.cells.length := Dk.don_len _ _
        rw [hcn] at hqn0
        have hbl1 : bs.length ≤ D.size := hbl0
        clear hS5 hob5 hob hp hls y0 y1 dx0 dx1 dx2 dx3 HS4 hcn hsb hbl0
        generalize w4.alloc (.cells #[.int .i64 (q : Int), .slice A' m' c'] 111) = w5 at wb0 wb1 HS5 HOB HSB ⊢
        generalize w4.heap.size = sb at wb0 wb1 HSB ⊢
        go_cut [11] (fun v wx => v = .int .i64 (if y < 0 then 0 else y) ∧ wx = w5)
        case first =>
          by_cases h0 : y < 0
          · go_wp2_with fail
            go_meet
            exact ⟨by rw [if_pos h0], rfl⟩
          · go_wp2_with fail
            go_meet
            exact ⟨by rw [if_neg (by omega)], rfl⟩
        case rest =>
        obtain ⟨rfl, rfl⟩ := hcut
        obtain ⟨y1, hy1⟩ : ∃ y1, y1 = (if y < 0 then 0 else y) := ⟨_, rfl⟩
        obtain ⟨t, ht⟩ : ∃ t, t = clm y m' := ⟨_, rfl⟩
        have htm : t ≤ m' := ht ▸ clm_le _ _
        rw [← hy1]
        have ht1 : t = clm y1 m' := by
          rw [ht, hy1]
          unfold clm
          split <;> omega
        have hy0 : 0 ≤ y1 := by rw [hy1]; split <;> omega
        have HT := hide ht
        have HT1 := hide ht1
        clear hy1 ht1 ht
        go_upto_if 47 with (fail)
        go_cut [11] (fun v wx => v = .int .i64 (t : Int) ∧ wx = wc)
        case first =>
          by_cases h1 : (m' : Int) < y1
          · have e1 : t = m' := by rw [HT1.out, clm_hi (by omega)]
            have E1 := hide e1
            clear e1
            go_wp2_with fail
            go_meet
            exact ⟨by rw [E1.out], rfl⟩
          · have e1 : (t : Int) = y1 := by rw [HT1.out]; unfold clm; omega
            have E1 := hide e1
            clear e1
            go_wp2_with fail
            go_meet
            exact ⟨by rw [E1.out], rfl⟩
        case rest =>
        obtain ⟨rfl, rfl⟩ := hcut
        clear hy0 HT1 y1
        have hmc' : m' ≤ c' := HOB.out.3 _ _ _ rfl
        obtain ⟨su, bu, _⟩ := slice_u HOB.out.1 hmc' t (t : Int) rfl htm
        have hsl := HS5.out.bx.lt
        have hsl1 := HS5.out.rz.lt
        have hsb := HSB.out
        have BU := hide bu
        clear bu
        go_upto_region 16 with (first
          | (at_builtin
             refine wpList_app rfl (.tmp 51) (.tmp 55) _ rfl i0 Tryz.underlying47 hi0 hz0 hz1 hz2 rfl (own_empty wc) rfl (BU.out.no (Kp.alloc No wc _)) (by have := HM'.out; simp; omega) (by simp) ?_
             intro A6 n6 c6 w6 ha6
             have k6 : Kp No wc w6 := ha6.keeps (own_empty wc) (Kp.alloc No wc _)))
        have HS6 := hide (HS5.out.no k6)
        have HA6 : Hid (Own w6 wc.heap.size 5 (.slice A6 n6 c6) (bs.take t)) := by show Own _ _ _ _ _; simpa using ha6.own
        have HK6 := hide k6
        obtain ⟨A8, m8, c8, hcs8, xk8, hok8, hm8⟩ := HS6.out.rf.cell rfl (k := q) (by show q < (D.upto k).cells.length; rw [show (D.upto k).cells.length = D.cells.length from Dk.don_len _ _]; exact hqn0)
        have x1 : w6.cell? ⟨s, 1, none⟩ = some (.slice (some ⟨g5, 0, none⟩) D.cells.length c5) := HS6.out.bx.c1
        have wv0 := k6.cell wb0 (fun f => f)
        have wv1 := k6.cell wb1 (fun f => f)
        have hm8c : m8 ≤ c8 := hok8.3 _ _ _ rfl
        have hm8s : m8 ≤ 4096 := by have h1 := HS6.out.rf.ok.cell_le q; have : (D.upto k).size = D.size := rfl; omega
        have HOK8 := hide hok8
        have HM8 := hide hm8
        have HD8 : Hid ((D.upto k).cell q = (D.don k).getD q []) := rfl
        have HWB0 := hide wb0
        have HWB1 := hide wb1
        clear hok8 hm8 hcs8 ha6 k6 wb0 wb1 hsb
        have hc5 : D.cells.length ≤ c5 := by have h1 := HS6.out.rf.oc.cap; have h2 := HS6.out.rf.ncs; rw [show (D.upto k).cells.length = D.cells.length from Dk.don_len _ _] at h2; omega
        go_upto_if 66 with (fail)
        go_cut [12] (fun v wx => ∃ A9 n9 c9, v = .slice A9 n9 c9 ∧ Own wx wc.heap.size 5 (.slice A9 n9 c9) (tornB bs ((D.don k).getD q []) t) ∧ Kp No wc wx)
        case first =>
          by_cases hmt : t < m8
          · obtain ⟨r1, hr1⟩ : ∃ r1, r1 = m8 - t := ⟨_, rfl⟩
            obtain ⟨r2, hr2⟩ : ∃ r2, r2 = c8 - t := ⟨_, rfl⟩
            obtain ⟨Al, sl, bl, _⟩ := slice_l HOK8.out.1 hm8c t r1 r2 (t : Int) rfl (by omega) hr1 hr2
            have BL := hide bl
            have HR1 := hide hr1
            clear bl hr1 hr2
            go_wp2_with (first
              | (at_builtin
                 refine wpList_app rfl (.tmp 67) (.tmp 70) _ rfl i0 Tryz.underlying47 hi0 hz0 hz1 hz2 rfl HA6.out rfl BL.out (by have h1 := HM8.out; have h2 := HM'.out; rw [List.length_take, List.length_drop]; omega) HK6.out.size ?_
                 intro A7 n7 c7 w7 ha7
                 have HA7 := hide ha7
                 clear ha7))
            go_meet
            refine ⟨A7, n7, c7, rfl, ?_, HA7.out.keeps HA6.out HK6.out⟩
            have := HA7.out.own
            rw [HD8.out] at this
            exact this
          · go_wp2_with fail
            go_meet
            refine ⟨A6, n6, c6, rfl, ?_, HK6.out⟩
            have e : tornB bs ((D.don k).getD q []) t = bs.take t := by
              unfold tornB
              rw [List.drop_eq_nil_of_le (by rw [← HD8.out, ← HM8.out]; omega), List.append_nil]
            rw [e]
            exact HA6.out
        case rest =>
        obtain ⟨A9, n9, c9, rfl, ho9, k9⟩ := hcut
        have hv0 := k9.cell HWB0.out (fun f => f)
        have hS9 := HS5.out.no k9
        have hx0 : wc.cell? ⟨s, 0, none⟩ = some (.int .i64 (D.size : Int)) := hS9.bx.c0
        have hx1 : wc.cell? ⟨s, 1, none⟩ = some (.slice (some ⟨g5, 0, none⟩) D.cells.length c5) := hS9.bx.c1
        have hoc := hS9.rf.oc
        rw [hS9.rf.ncs, show (D.upto k).cells.length = D.cells.length from Dk.don_len _ _] at hoc
        have hone := hS9.rf.one
        have hts : (tornB bs ((D.don k).getD q []) t).length ≤ D.size := tornB_len hbl1 (by have h1 := hS9.rf.ok.cell_le q; exact h1) (by have h1 := HM'.out; omega)
        have ET : Hid (D.torn k y = (D.don k).set q (tornB bs ((D.don k).getD q []) t)) := by
          show _ = _
          unfold Dk.torn
          rw [HHP.out]
          show (D.don k).set q (tornB bs ((D.don k).getD q []) (clm y bs.length)) = _
          rw [← HM'.out, ← HT.out]
        have HB9 := hide ho9.bts
        have HS9 := hide hS9
        have HTS := hide hts
        clear ho9 k9 hS9 x1 wv0 wv1 xk8
        go_wp2_with fail
        refine (rwith_any hoc hone hqn0 hn1 HB9.out (by have h1 := HTS.out; omega)).mono ?_
        rintro e wf ⟨gf, cf, vf, rfl, of, bf, kf⟩
        have hSf := HS9.out.no kf
        have hRf := (HS9.out.rf.setc kf (q := q) (v := vf) (by rw [show (D.upto k).cells.length = D.cells.length from Dk.don_len _ _]; exact of) bf HTS.out).noloose D.syncs
        have hS10 := hSf.upd hRf ((Kp.setCell (p := ⟨s, 1, none⟩) (S := fun k => k = s) rfl (.slice (some ⟨gf, 0, none⟩) D.cells.length cf)).trans' (Kp.setCell (p := ⟨s, 2, none⟩) (S := fun k => k = s) rfl (.slice none 0 0))) (((hSf.bx.set1 (.slice (some ⟨gf, 0, none⟩) D.cells.length cf)).set2 (.slice none 0 0)).eqD rfl rfl)
        have HS10 := hide hS10
        have ex0 : wf.cell? ⟨s, 0, none⟩ = some (.int .i64 (D.size : Int)) := hSf.bx.c0
        have ex1 : wf.cell? ⟨s, 1, none⟩ = some (.slice (some ⟨g5, 0, none⟩) D.cells.length c5) := hSf.bx.c1
        have ex2 : wf.cell? ⟨s, 2, none⟩ = some (.slice (some ⟨gl, 0, none⟩) D.loose.length cl) := hSf.bx.c2
        have ex3 : wf.cell? ⟨s, 3, none⟩ = some (.int .i64 (D.syncs : Int)) := hSf.bx.c3
        have ef0 := hSf.rz.fz 0
        have ef1 := hSf.rz.fz 1
        have ef2 := hSf.rz.fz 2
        have ef3 := hSf.rz.fz 3
        have ez0 := hSf.rz.c0
        have ez1 := hSf.rz.c1
        have ez2 := hSf.rz.c2
        have ez3 := hSf.rz.c3
        have eg1 := hSf.bx.fz 1
        have eg2 := hSf.bx.fz 2
        clear hoc hone hts hx0 hx1 hv0 of bf kf hRf hS10 hSf
        go_wp2_with fail
        clear ex0 ex1 ex2 ex3 ef0 ef1 ef2 ef3 ez0 ez1 ez2 ez3 eg1 eg2
        rw [ET.out]
        have hbx : BxD ((((((wf.setCell ⟨s, 1, none⟩ (.slice (some ⟨gf, 0, none⟩) D.cells.length cf)).setCell ⟨s, 2, none⟩ (.slice none 0 0)).setCell ⟨s + 1, 0, none⟩ (.int .i64 (D.size : Int))).setCell ⟨s + 1, 1, none⟩ (.slice (some ⟨gf, 0, none⟩) D.cells.length cf)).setCell ⟨s + 1, 2, none⟩ (.slice none 0 0)).setCell ⟨s + 1, 3, none⟩ (.int .i64 (D.syncs : Int))) (s + 1) (Dk.mk D.size ((D.don k).set q (tornB bs ((D.don k).getD q []) t)) [] D.syncs) (.slice (some ⟨gf, 0, none⟩) D.cells.length cf) (.slice none 0 0) := HS10.out.rz.set4 (D := (Dk.mk D.size ((D.don k).set q (tornB bs ((D.don k).getD q []) t)) [] D.syncs)) (vc := .slice (some ⟨gf, 0, none⟩) D.cells.length cf) (vl := .slice none 0 0)
        have HF := hide (HS10.out.fin (kp_set4 ((wf.setCell ⟨s, 1, none⟩ (.slice (some ⟨gf, 0, none⟩) D.cells.length cf)).setCell ⟨s, 2, none⟩ (.slice none 0 0)) (s + 1) (.int .i64 (D.size : Int)) (.slice (some ⟨gf, 0, none⟩) D.cells.length cf) (.slice none 0 0) (.int .i64 (D.syncs : Int))))
        have r0 := hbx.c0
        have r1 := hbx.c1
        have r2 := hbx.c2
        have r3 := hbx.c3
        clear hbx
        generalize ((((((wf.setCell ⟨s, 1, none⟩ (.slice (some ⟨gf, 0, none⟩) D.cells.length cf)).setCell ⟨s, 2, none⟩ (.slice none 0 0)).setCell ⟨s + 1, 0, none⟩ (.int .i64 (D.size : Int))).setCell ⟨s + 1, 1, none⟩ (.slice (some ⟨gf, 0, none⟩) D.cells.length cf)).setCell ⟨s + 1, 2, none⟩ (.slice none 0 0)).setCell ⟨s + 1, 3, none⟩ (.int .i64 (D.syncs : Int))) = w9 at HF r0 r1 r2 r3 ⊢
        refine bodyPost_ret (v := tupE r (rfV (Dk.mk D.size ((D.don k).set q (tornB bs ((D.don k).getD q []) t)) [] D.syncs) (.slice (some ⟨gf, 0, none⟩) D.cells.length cf) (.slice none 0 0))) (by simp [results, Tryz.results32, go_sem, rfV, tupE, r0, r1, r2, r3]) rfl ?_
        exact ⟨_, rfl, ⟨_, _, _, _, rfl, HF.out.1⟩, HF.out.2⟩
      · have hr0 : r = 0 := by have := HR.out; omega
        subst hr0
        have hkr : (D.loose.length : Int) - (k : Int) = 0 := by omega
        have ET : Hid (D.torn k y = D.don k) := by
          show _ = _
          unfold Dk.torn
          rw [List.getElem?_eq_none (by omega)]
        have df0 := HS4.out.rz.fz 0
        have df1 := HS4.out.rz.fz 1
        have df2 := HS4.out.rz.fz 2
        have df3 := HS4.out.rz.fz 3
        have dz0 := HS4.out.rz.c0
        have dz1 := HS4.out.rz.c1
        have dz2 := HS4.out.rz.c2
        have dz3 := HS4.out.rz.c3
        have dg2 := HS4.out.bx.fz 2
        go_wp2_with fail
        clear dx0 dx1 dx2 dx3 df0 df1 df2 df3 dz0 dz1 dz2 dz3 dg2 hkr
        rw [ET.out]
        have hR8 := HS4.out.rf.noloose D.syncs
        have hS8 := HS4.out.upd hR8 (Kp.setCell (p := ⟨s, 2, none⟩) (S := fun k => k = s) rfl (.slice none 0 0)) ((HS4.out.bx.set2 (.slice none 0 0)).eqD rfl rfl)
        have hbx : BxD (((((w4.setCell ⟨s, 2, none⟩ (.slice none 0 0)).setCell ⟨s + 1, 0, none⟩ (.int .i64 (D.size : Int))).setCell ⟨s + 1, 1, none⟩ (.slice (some ⟨g5, 0, none⟩) D.cells.length c5)).setCell ⟨s + 1, 2, none⟩ (.slice none 0 0)).setCell ⟨s + 1, 3, none⟩ (.int .i64 (D.syncs : Int))) (s + 1) (Dk.mk D.size (D.don k) [] D.syncs) (.slice (some ⟨g5, 0, none⟩) D.cells.length c5) (.slice none 0 0) := hS8.rz.set4 (D := (Dk.mk D.size (D.don k) [] D.syncs)) (vc := .slice (some ⟨g5, 0, none⟩) D.cells.length c5) (vl := .slice none 0 0)
        have HF := hide (hS8.fin (kp_set4 (w4.setCell ⟨s, 2, none⟩ (.slice none 0 0)) (s + 1) (.int .i64 (D.size : Int)) (.slice (some ⟨g5, 0, none⟩) D.cells.length c5) (.slice none 0 0) (.int .i64 (D.syncs : Int))))
        have r0 := hbx.c0
        have r1 := hbx.c1
        have r2 := hbx.c2
        have r3 := hbx.c3
        clear hbx
        generalize (((((w4.setCell ⟨s, 2, none⟩ (.slice none 0 0)).setCell ⟨s + 1, 0, none⟩ (.int .i64 (D.size : Int))).setCell ⟨s + 1, 1, none⟩ (.slice (some ⟨g5, 0, none⟩) D.cells.length c5)).setCell ⟨s + 1, 2, none⟩ (.slice none 0 0)).setCell ⟨s + 1, 3, none⟩ (.int .i64 (D.syncs : Int))) = w9 at HF r0 r1 r2 r3 ⊢
        refine bodyPost_ret (v := tupE 0 (rfV (Dk.mk D.size (D.don k) [] D.syncs) (.slice (some ⟨g5, 0, none⟩) D.cells.length c5) (.slice none 0 0))) (by simp [results, Tryz.results32, go_sem, rfV, tupE, r0, r1, r2, r3]) rfl ?_
        exact ⟨_, rfl, ⟨_, _, _, _, rfl, HF.out.1⟩, HF.out.2⟩
end Go.Proofs.YtndghapdpfgmoaaGreat
