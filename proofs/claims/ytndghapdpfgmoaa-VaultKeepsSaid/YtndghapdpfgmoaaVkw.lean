/- VaultKeeps walked: it returns true for any acts, name, bytes and numbers. No condition. -/
import Derived.Test.YtndghapdpfgmoaaVkn
import Derived.Deep.DeepCutAuto
import Derived.Deep.CutBlock
namespace Go.Proofs.Ytndghapdpfgmoaa
open Go.RowKit
set_option linter.unusedVariables false
set_option maxRecDepth 20000
set_option linter.unusedSimpArgs false

set_option maxRecDepth 100000 in
set_option maxHeartbeats 8000000 in
theorem vaultkeeps_any (W : World) {A0 A1 : Option Addr} {n0 c0 n1 c1 s : Nat} {ds : List ActV} {bs : List UInt8} (h0 : ActsV W A0 n0 ds) (hs : s < N96) (hb : Bts W (.slice A1 n1 c1) bs) (z y : Int) :
    Calls Try.prog 3 #[.slice A0 n0 c0, shV s, .slice A1 n1 c1, .int .i64 z, .int .i64 y] W (TruePost W) := by
  have hbx := Bx4.new W (.int .u32 (cO s : Int)) (.int .u16 (cS s : Int)) (.int .u16 (cL s : Int)) (.int .u32 (cG s : Int))
  have ka := Kp.alloc No W (.cells #[.int .u32 (cO s : Int), .int .u16 (cS s : Int), .int .u16 (cL s : Int), .int .u32 (cG s : Int)] 26)
  have HA0 := hide (h0.no ka)
  have HB0 := hide (hb.no ka)
  have HS := hide hs
  have hn1 := hb.len
  have HN1 := hide hn1
  have HKA := hide ka
  clear h0 hb hn1 ka hs
  go_enter Try.func3, Try.ntmps3
  go_wp2_with fail
  refine (awake12_any _).mono ?_
  rintro e w0 ⟨rfl, k0⟩
  have K0 := hide (HKA.out.trans' k0)
  have HBX := hide (hbx.keep k0 fun f => f)
  have HA := hide (HA0.out.no k0)
  have HB := hide (HB0.out.no k0)
  clear hbx k0 HA0 HB0 HKA
  go_wp2_with fail
  refine (light12_any HA.out).mono ?_
  rintro e w' ⟨bl, rfl, rfl, hl⟩
  rcases bl with _ | _
  · clear hl
    go_wp2_with fail
    refine (awake12_any _).mono ?_
    rintro e w1 ⟨rfl, k1⟩
    go_wp2_with fail
    go_ret
    exact ⟨rfl, K0.out.trans' k1⟩
  obtain ⟨hl1, hl2⟩ := hl rfl
  have HL1 : Hid (n0 ≤ 30) := by show _ ≤ _; rw [HA.out.len]; exact hl1
  have HL2 := hide hl2
  have hn30 : n0 ≤ 30 := HL1.out
  clear hl hl1 hl2
  by_cases hlen : 200 < n1
  · have hz : (200 : Int) < n1 := by omega
    go_wp2_with fail
    refine (awake12_any _).mono ?_
    rintro e w1 ⟨rfl, k1⟩
    go_wp2_with fail
    go_ret
    exact ⟨rfl, K0.out.trans' k1⟩
  have hz : ¬ (200 : Int) < n1 := by omega
  have HBL : Hid (bs.length ≤ 200) := by show _ ≤ _; have := HN1.out; omega
  go_wp2_with fail
  clear hz hlen
  refine (pnew_yes w0 40 300 (by omega) (by omega) (by omega) (by omega)).mono ?_
  rintro e w1 ⟨gd, rfl, hg, hD1, k1⟩
  have HD1 := hide hD1
  have HK1 := hide k1
  clear hg hD1 k1
  go_wp2_with fail
  refine (vopen_any HD1.out).mono ?_
  rintro e w2 ⟨g, b, rfl, hg2, hb2, h2, k2⟩
  have hM : KvM w0 (fun q => Up (fun k => w0.heap.size ≤ k) w1 q ∧ q < w2.heap.size) g gd b (Vt.opened (Dk.new 40 300)) (.slice none 0 0) (.slice none 0 0) [] [] w2 :=
    ⟨h2.lt, OwnT.nil _ _ _ _, OwnT.nil _ _ _ _, fun q hq => ⟨by have h1 := HK1.out.size; have h3 := hq.1; unfold Up at h3; omega, hq.2, (fun e => by cases e), (fun e => by cases e)⟩, HK1.out.trans' k2⟩
  have HI0 : Hid (KvL w0 g gd 0 (.slice none 0 0) (.slice none 0 0) w2) := ⟨_, _, _, [], [], [], hM, VkP.new, rfl, (fun j u hj => by simp at hj), Nat.le_refl _, (show (0 : Nat) ≤ 0 from Nat.le_refl _)⟩
  clear hg2 hb2 h2 k2 hM HD1 HK1
  go_wp2_with fail
  go_loopw [15, 16, 17] (fun vn vd i wr => ∃ (k : Nat) (A2 : Option Addr) (n2 c2 : Nat) (A3 : Option Addr) (n3 c3 : Nat), k ≤ n0 ∧ i = .int .i64 (k : Int) ∧ vn = .slice A2 n2 c2 ∧ vd = .slice A3 n3 c3 ∧ KvL w0 g gd k (.slice A2 n2 c2) (.slice A3 n3 c3) wr) (fun _ _ i _ => n0 - (intOf i).toNat)
  case atStart => exact ⟨0, none, 0, 0, none, 0, 0, by omega, rfl, rfl, rfl, HI0.out⟩
  case round =>
    obtain ⟨k, A2, n2, c2, A3, n3, c3, hk, rfl, rfl, rfl, hI⟩ := hrel
    by_cases hlt : k < n0
    · have hlz : (k : Int) < n0 := by omega
      obtain ⟨d, hd⟩ : ∃ d, ds[k]? = some d := ⟨_, List.getElem?_eq_getElem (by have := HA.out.len; omega)⟩
      obtain ⟨F, b5, V, ns, dt, vs, hM, hV, hvl, hvb, hnk, hsy⟩ := hI
      obtain ⟨B, off, A', m, c', rfl, ha⟩ := HA.out.at_ k d hd
      have HBD : Hid (d.b.length ≤ 200) := HL2.out d (List.mem_of_getElem? hd)
      have ha2 := ha.no (hM.kp.trans' (Kp.refl No wr).drew)
      have x1 := ha2.c1
      have x2 := ha2.c2
      have x3 := ha2.c3
      have x4 := ha2.c4
      have x5 := ha2.c5
      have HMM := hide (hM.no (Kp.refl No wr).drew)
      have HV := hide hV
      have HVL := hide hvl
      have HVB := hide hvb
      have HNK := hide hnk
      have HVN : Hid (vs.length ≤ 30) := by show _ ≤ _; rw [hvl, hV.od.len]; have := HL1.out; omega
      have HSY := hide hsy
      have HHA := hide ha
      have h30 := HL1.out
      have hput := vput_any HMM.out.vt ha2.nm ha2.bts (by have := HBD.out; omega) (by rw [hV.od.n]; omega) (by rw [hV.lo]; show 0 + 1 ≤ _; omega) (by omega)
      have hE := hV.bgE (s := d.s) (b := d.b) (by omega) HBD.out
      have hP := hV.put (s := d.s) (b := d.b) (by omega) HBD.out ha.nm
      clear hd ha ha2 hM hV hvl hvb hnk hsy h30
      by_cases hm : d.s ∈ ns
      · rw [if_pos hm] at hE
        rw [hE, hP.1 hm] at hput
        have HPUT := hide hput
        clear hE hP hm hput
        go_wp2_with fail
        refine wp_region_noPanic ?_
        refine wp_region_held_drew (S := fun w' => w'.cell? ⟨B, off + k * 9 + 1, none⟩ = some (.int .u32 (cO d.s : Int)) ∧ w'.cell? ⟨B, off + k * 9 + 2, none⟩ = some (.int .u16 (cS d.s : Int)) ∧ w'.cell? ⟨B, off + k * 9 + 3, none⟩ = some (.int .u16 (cL d.s : Int)) ∧ w'.cell? ⟨B, off + k * 9 + 4, none⟩ = some (.int .u32 (cG d.s : Int)) ∧ w'.cell? ⟨B, off + k * 9 + 5, none⟩ = some (.slice A' m c')) (by kernel_rfl) (⟨x1, x2, x3, x4, x5⟩) (fun hHeld => ?_)
        refine wpAnyH_take (i := 0) (v := ?va0) (oi := ?oa0) ?ha0 (by kernel_rfl) (by kernel_rfl) (by kernel_rfl) (fun _ _ _ h => h) (Or.inl ⟨?wa0, ?ya0⟩) hHeld ?ra0
        case ha0 => simp only [List.getElem?_toArray, List.getElem?_cons_zero, List.getElem?_cons_succ]; rfl
        case wa0 => rfl
        case ya0 => intro w hSw; (try dsimp only at hSw); go_simp; (try with_reducible rfl)
        simp only [Act.put, List.setIfInBounds_toArray, List.set_cons_zero, List.set_cons_succ]
        refine wpAnyH_take (i := 1) (v := ?va1) (oi := ?oa1) ?ha1 (by kernel_rfl) (by kernel_rfl) (by kernel_rfl) (fun _ _ _ h => h) (Or.inl ⟨?wa1, ?ya1⟩) hHeld ?ra1
        case ha1 => simp only [List.getElem?_toArray, List.getElem?_cons_zero, List.getElem?_cons_succ]; rfl
        case wa1 => rfl
        case ya1 => intro w hSw; (try dsimp only at hSw); go_simp; (try with_reducible rfl)
        simp only [Act.put, List.setIfInBounds_toArray, List.set_cons_zero, List.set_cons_succ]
        refine wpAnyH_take (i := 2) (v := ?va2) (oi := ?oa2) ?ha2 (by kernel_rfl) (by kernel_rfl) (by kernel_rfl) (fun _ _ _ h => h) (Or.inl ⟨?wa2, ?ya2⟩) hHeld ?ra2
        case ha2 => simp only [List.getElem?_toArray, List.getElem?_cons_zero, List.getElem?_cons_succ]; rfl
        case wa2 => rfl
        case ya2 => intro w hSw; (try dsimp only at hSw); go_simp; (try with_reducible rfl)
        simp only [Act.put, List.setIfInBounds_toArray, List.set_cons_zero, List.set_cons_succ]
        refine wpAnyH_take (i := 3) (v := ?va3) (oi := ?oa3) ?ha3 (by kernel_rfl) (by kernel_rfl) (by kernel_rfl) (fun _ _ _ h => h) (Or.inl ⟨?wa3, ?ya3⟩) hHeld ?ra3
        case ha3 => simp only [List.getElem?_toArray, List.getElem?_cons_zero, List.getElem?_cons_succ]; rfl
        case wa3 => rfl
        case ya3 => intro w hSw; (try dsimp only at hSw); go_simp; (try with_reducible rfl)
        simp only [Act.put, List.setIfInBounds_toArray, List.set_cons_zero, List.set_cons_succ]
        refine wpAnyH_take (i := 4) (v := ?va4) (oi := ?oa4) ?ha4 (by kernel_rfl) (by kernel_rfl) (by kernel_rfl) (fun _ _ _ h => h) (Or.inl ⟨?wa4, ?ya4⟩) hHeld ?ra4
        case ha4 => simp only [List.getElem?_toArray, List.getElem?_cons_zero, List.getElem?_cons_succ]; rfl
        case wa4 => rfl
        case ya4 => intro w hSw; (try dsimp only at hSw); go_simp; (try with_reducible rfl)
        simp only [Act.put, List.setIfInBounds_toArray, List.set_cons_zero, List.set_cons_succ]
        refine wpAnyH_take (i := 5) (v := ?va5) (oi := ?oa5) ?ha5 (by kernel_rfl) (by kernel_rfl) (by kernel_rfl) (fun _ _ _ h => h) (Or.inl ⟨?wa5, ?ya5⟩) hHeld ?ra5
        case ha5 => simp only [List.getElem?_toArray, List.getElem?_cons_zero, List.getElem?_cons_succ]; rfl
        case wa5 => rfl
        case ya5 => intro w hSw; (try dsimp only at hSw); go_simp; (try with_reducible rfl)
        simp only [Act.put, List.setIfInBounds_toArray, List.set_cons_zero, List.set_cons_succ]
        refine wpAnyH_take (i := 6) (v := ?va6) (oi := ?oa6) ?ha6 (by kernel_rfl) (by kernel_rfl) (by kernel_rfl) (fun _ _ _ h => h) (Or.inl ⟨?wa6, ?ya6⟩) hHeld ?ra6
        case ha6 => simp only [List.getElem?_toArray, List.getElem?_cons_zero, List.getElem?_cons_succ]; rfl
        case wa6 => rfl
        case ya6 => intro w hSw; (try dsimp only at hSw); go_simp; (try with_reducible rfl)
        simp only [Act.put, List.setIfInBounds_toArray, List.set_cons_zero, List.set_cons_succ]
        refine wpAnyH_take (i := 7) (v := ?va7) (oi := ?oa7) ?ha7 (by kernel_rfl) (by kernel_rfl) (by kernel_rfl) (fun _ _ _ h => h) (Or.inl ⟨?wa7, ?ya7⟩) hHeld ?ra7
        case ha7 => simp only [List.getElem?_toArray, List.getElem?_cons_zero, List.getElem?_cons_succ]; rfl
        case wa7 => rfl
        case ya7 => intro w hSw; (try dsimp only at hSw); go_simp; (try with_reducible rfl)
        simp only [Act.put, List.setIfInBounds_toArray, List.set_cons_zero, List.set_cons_succ]
        refine wpAnyH_take (i := 8) (v := ?va8) (oi := ?oa8) ?ha8 (by kernel_rfl) (by kernel_rfl) (by kernel_rfl) (fun _ _ _ h => h) (Or.inl ⟨?wa8, ?ya8⟩) hHeld ?ra8
        case ha8 => simp only [List.getElem?_toArray, List.getElem?_cons_zero, List.getElem?_cons_succ]; rfl
        case wa8 => rfl
        case ya8 => intro w hSw; (try dsimp only at hSw); go_simp; (try with_reducible rfl)
        simp only [Act.put, List.setIfInBounds_toArray, List.set_cons_zero, List.set_cons_succ]
        refine wpAnyH_take (i := 9) (v := ?va9) (oi := ?oa9) ?ha9 (by kernel_rfl) (by kernel_rfl) (by kernel_rfl) (fun _ _ _ h => h) (Or.inl ⟨?wa9, ?ya9⟩) hHeld ?ra9
        case ha9 => simp only [List.getElem?_toArray, List.getElem?_cons_zero, List.getElem?_cons_succ]; rfl
        case wa9 => rfl
        case ya9 => intro w hSw; (try dsimp only at hSw); go_simp; (try with_reducible rfl)
        simp only [Act.put, List.setIfInBounds_toArray, List.set_cons_zero, List.set_cons_succ]
        refine wpAnyH_take (i := 10) (v := ?va10) (oi := ?oa10) ?ha10 (by kernel_rfl) (by kernel_rfl) (by kernel_rfl) (fun _ _ _ h => h) (Or.inl ⟨?wa10, ?ya10⟩) hHeld ?ra10
        case ha10 => simp only [List.getElem?_toArray, List.getElem?_cons_zero, List.getElem?_cons_succ]; rfl
        case wa10 => rfl
        case ya10 => intro w hSw; (try dsimp only at hSw); go_simp; (try with_reducible rfl)
        simp only [Act.put, List.setIfInBounds_toArray, List.set_cons_zero, List.set_cons_succ]
        refine wpAnyH_ready (rs := [11]) (by kernel_rfl) (by simp) ?_
        refine AllReadyH.cons (o := ?oa11) ?ha11 (fun K hK => ?sa11) AllReadyH.nil
        case ha11 => simp only [List.getElem?_toArray, List.getElem?_cons_zero, List.getElem?_cons_succ]; rfl
        go_simp
        refine HPUT.out.mono ?_
        rintro e w5 ⟨rfl, ⟨b7, h7⟩, k7⟩
        have HM5 := hide (HMM.out.vault h7 k7)
        have ha5 := HHA.out.no HM5.out.kp
        have u1 := ha5.c1
        have u2 := ha5.c2
        have u3 := ha5.c3
        have u4 := ha5.c4
        have u5 := ha5.c5
        clear HPUT h7 k7 ha5
        go_wp2_with fail
        refine hK.out _ _ (⟨u1, u2, u3, u4, u5⟩) (fun hHeld => ?_)
        clear hK K
        try simp only [Act.put, List.setIfInBounds_toArray, List.set_cons_zero, List.set_cons_succ]
        refine wpAnyH_take (i := 12) (v := ?va12) (oi := ?oa12) ?ha12 (by kernel_rfl) (by kernel_rfl) (by kernel_rfl) (fun _ _ _ h => h) (Or.inl ⟨?wa12, ?ya12⟩) hHeld ?ra12
        case ha12 => simp only [List.getElem?_toArray, List.getElem?_cons_zero, List.getElem?_cons_succ]; rfl
        case wa12 => rfl
        case ya12 => intro w hSw; (try dsimp only at hSw); go_simp; (try with_reducible rfl)
        simp only [Act.put, List.setIfInBounds_toArray, List.set_cons_zero, List.set_cons_succ]
        refine wpAnyH_done (by kernel_rfl) ?_ _
        refine NoPanic.normal ?_
        clear x1 x2 x3 x4 x5 u1 u2 u3 u4 u5
        go_wp2_with fail
        go_round
        case rel => exact ⟨k + 1, A2, n2, c2, A3, n3, c3, by omega, by go_num, rfl, rfl, ⟨_, _, _, _, _, _, HM5.out, HV.out, HVL.out, HVB.out, by have := HNK.out; omega, by have := HSY.out; omega⟩⟩
        case measure => simp [intOf]; omega
      · rw [if_neg hm] at hE
        have hV2 := hP.2 hm
        have hsy2 : (V.pt d.s d.b).D.syncs ≤ k + 1 := by have := @vt_pt_syncs V d.s d.b; have := HSY.out; omega
        rw [hE] at hput
        generalize V.pt d.s d.b = V2 at hput hV2 hsy2
        have HV2 := hide hV2
        have HSY2 := hide hsy2
        have HPUT := hide hput
        have HVB2 := hide (vb_snoc HVL.out HVB.out HHA.out.bts)
        clear hE hP hm hput hV2 hsy2
        go_wp2_with fail
        refine wp_region_noPanic ?_
        refine wp_region_held_drew (S := fun w' => w'.cell? ⟨B, off + k * 9 + 1, none⟩ = some (.int .u32 (cO d.s : Int)) ∧ w'.cell? ⟨B, off + k * 9 + 2, none⟩ = some (.int .u16 (cS d.s : Int)) ∧ w'.cell? ⟨B, off + k * 9 + 3, none⟩ = some (.int .u16 (cL d.s : Int)) ∧ w'.cell? ⟨B, off + k * 9 + 4, none⟩ = some (.int .u32 (cG d.s : Int)) ∧ w'.cell? ⟨B, off + k * 9 + 5, none⟩ = some (.slice A' m c')) (by kernel_rfl) (⟨x1, x2, x3, x4, x5⟩) (fun hHeld => ?_)
        refine wpAnyH_take (i := 0) (v := ?vb0) (oi := ?ob0) ?hb0 (by kernel_rfl) (by kernel_rfl) (by kernel_rfl) (fun _ _ _ h => h) (Or.inl ⟨?wb0, ?yb0⟩) hHeld ?rb0
        case hb0 => simp only [List.getElem?_toArray, List.getElem?_cons_zero, List.getElem?_cons_succ]; rfl
        case wb0 => rfl
        case yb0 => intro w hSw; (try dsimp only at hSw); go_simp; (try with_reducible rfl)
        simp only [Act.put, List.setIfInBounds_toArray, List.set_cons_zero, List.set_cons_succ]
        refine wpAnyH_take (i := 1) (v := ?vb1) (oi := ?ob1) ?hb1 (by kernel_rfl) (by kernel_rfl) (by kernel_rfl) (fun _ _ _ h => h) (Or.inl ⟨?wb1, ?yb1⟩) hHeld ?rb1
        case hb1 => simp only [List.getElem?_toArray, List.getElem?_cons_zero, List.getElem?_cons_succ]; rfl
        case wb1 => rfl
        case yb1 => intro w hSw; (try dsimp only at hSw); go_simp; (try with_reducible rfl)
        simp only [Act.put, List.setIfInBounds_toArray, List.set_cons_zero, List.set_cons_succ]
        refine wpAnyH_take (i := 2) (v := ?vb2) (oi := ?ob2) ?hb2 (by kernel_rfl) (by kernel_rfl) (by kernel_rfl) (fun _ _ _ h => h) (Or.inl ⟨?wb2, ?yb2⟩) hHeld ?rb2
        case hb2 => simp only [List.getElem?_toArray, List.getElem?_cons_zero, List.getElem?_cons_succ]; rfl
        case wb2 => rfl
        case yb2 => intro w hSw; (try dsimp only at hSw); go_simp; (try with_reducible rfl)
        simp only [Act.put, List.setIfInBounds_toArray, List.set_cons_zero, List.set_cons_succ]
        refine wpAnyH_take (i := 3) (v := ?vb3) (oi := ?ob3) ?hb3 (by kernel_rfl) (by kernel_rfl) (by kernel_rfl) (fun _ _ _ h => h) (Or.inl ⟨?wb3, ?yb3⟩) hHeld ?rb3
        case hb3 => simp only [List.getElem?_toArray, List.getElem?_cons_zero, List.getElem?_cons_succ]; rfl
        case wb3 => rfl
        case yb3 => intro w hSw; (try dsimp only at hSw); go_simp; (try with_reducible rfl)
        simp only [Act.put, List.setIfInBounds_toArray, List.set_cons_zero, List.set_cons_succ]
        refine wpAnyH_take (i := 4) (v := ?vb4) (oi := ?ob4) ?hb4 (by kernel_rfl) (by kernel_rfl) (by kernel_rfl) (fun _ _ _ h => h) (Or.inl ⟨?wb4, ?yb4⟩) hHeld ?rb4
        case hb4 => simp only [List.getElem?_toArray, List.getElem?_cons_zero, List.getElem?_cons_succ]; rfl
        case wb4 => rfl
        case yb4 => intro w hSw; (try dsimp only at hSw); go_simp; (try with_reducible rfl)
        simp only [Act.put, List.setIfInBounds_toArray, List.set_cons_zero, List.set_cons_succ]
        refine wpAnyH_take (i := 5) (v := ?vb5) (oi := ?ob5) ?hb5 (by kernel_rfl) (by kernel_rfl) (by kernel_rfl) (fun _ _ _ h => h) (Or.inl ⟨?wb5, ?yb5⟩) hHeld ?rb5
        case hb5 => simp only [List.getElem?_toArray, List.getElem?_cons_zero, List.getElem?_cons_succ]; rfl
        case wb5 => rfl
        case yb5 => intro w hSw; (try dsimp only at hSw); go_simp; (try with_reducible rfl)
        simp only [Act.put, List.setIfInBounds_toArray, List.set_cons_zero, List.set_cons_succ]
        refine wpAnyH_take (i := 6) (v := ?vb6) (oi := ?ob6) ?hb6 (by kernel_rfl) (by kernel_rfl) (by kernel_rfl) (fun _ _ _ h => h) (Or.inl ⟨?wb6, ?yb6⟩) hHeld ?rb6
        case hb6 => simp only [List.getElem?_toArray, List.getElem?_cons_zero, List.getElem?_cons_succ]; rfl
        case wb6 => rfl
        case yb6 => intro w hSw; (try dsimp only at hSw); go_simp; (try with_reducible rfl)
        simp only [Act.put, List.setIfInBounds_toArray, List.set_cons_zero, List.set_cons_succ]
        refine wpAnyH_take (i := 7) (v := ?vb7) (oi := ?ob7) ?hb7 (by kernel_rfl) (by kernel_rfl) (by kernel_rfl) (fun _ _ _ h => h) (Or.inl ⟨?wb7, ?yb7⟩) hHeld ?rb7
        case hb7 => simp only [List.getElem?_toArray, List.getElem?_cons_zero, List.getElem?_cons_succ]; rfl
        case wb7 => rfl
        case yb7 => intro w hSw; (try dsimp only at hSw); go_simp; (try with_reducible rfl)
        simp only [Act.put, List.setIfInBounds_toArray, List.set_cons_zero, List.set_cons_succ]
        refine wpAnyH_take (i := 8) (v := ?vb8) (oi := ?ob8) ?hb8 (by kernel_rfl) (by kernel_rfl) (by kernel_rfl) (fun _ _ _ h => h) (Or.inl ⟨?wb8, ?yb8⟩) hHeld ?rb8
        case hb8 => simp only [List.getElem?_toArray, List.getElem?_cons_zero, List.getElem?_cons_succ]; rfl
        case wb8 => rfl
        case yb8 => intro w hSw; (try dsimp only at hSw); go_simp; (try with_reducible rfl)
        simp only [Act.put, List.setIfInBounds_toArray, List.set_cons_zero, List.set_cons_succ]
        refine wpAnyH_take (i := 9) (v := ?vb9) (oi := ?ob9) ?hb9 (by kernel_rfl) (by kernel_rfl) (by kernel_rfl) (fun _ _ _ h => h) (Or.inl ⟨?wb9, ?yb9⟩) hHeld ?rb9
        case hb9 => simp only [List.getElem?_toArray, List.getElem?_cons_zero, List.getElem?_cons_succ]; rfl
        case wb9 => rfl
        case yb9 => intro w hSw; (try dsimp only at hSw); go_simp; (try with_reducible rfl)
        simp only [Act.put, List.setIfInBounds_toArray, List.set_cons_zero, List.set_cons_succ]
        refine wpAnyH_take (i := 10) (v := ?vb10) (oi := ?ob10) ?hb10 (by kernel_rfl) (by kernel_rfl) (by kernel_rfl) (fun _ _ _ h => h) (Or.inl ⟨?wb10, ?yb10⟩) hHeld ?rb10
        case hb10 => simp only [List.getElem?_toArray, List.getElem?_cons_zero, List.getElem?_cons_succ]; rfl
        case wb10 => rfl
        case yb10 => intro w hSw; (try dsimp only at hSw); go_simp; (try with_reducible rfl)
        simp only [Act.put, List.setIfInBounds_toArray, List.set_cons_zero, List.set_cons_succ]
        refine wpAnyH_ready (rs := [11]) (by kernel_rfl) (by simp) ?_
        refine AllReadyH.cons (o := ?ob11) ?hb11 (fun K hK => ?sb11) AllReadyH.nil
        case hb11 => simp only [List.getElem?_toArray, List.getElem?_cons_zero, List.getElem?_cons_succ]; rfl
        go_simp
        refine HPUT.out.mono ?_
        rintro e w5 ⟨rfl, ⟨b7, h7⟩, k7⟩
        have HM5 := hide (HMM.out.vault h7 k7)
        have ha5 := HHA.out.no HM5.out.kp
        have u1 := ha5.c1
        have u2 := ha5.c2
        have u3 := ha5.c3
        have u4 := ha5.c4
        have u5 := ha5.c5
        clear HPUT h7 k7 ha5
        go_wp2_with fail
        refine hK.out _ _ (⟨u1, u2, u3, u4, u5⟩) (fun hHeld => ?_)
        clear hK K
        try simp only [Act.put, List.setIfInBounds_toArray, List.set_cons_zero, List.set_cons_succ]
        refine wpAnyH_take (i := 12) (v := ?vb12) (oi := ?ob12) ?hb12 (by kernel_rfl) (by kernel_rfl) (by kernel_rfl) (fun _ _ _ h => h) (Or.inl ⟨?wb12, ?yb12⟩) hHeld ?rb12
        case hb12 => simp only [List.getElem?_toArray, List.getElem?_cons_zero, List.getElem?_cons_succ]; rfl
        case wb12 => rfl
        case yb12 => intro w hSw; (try dsimp only at hSw); go_simp; (try with_reducible rfl)
        simp only [Act.put, List.setIfInBounds_toArray, List.set_cons_zero, List.set_cons_succ]
        refine wpAnyH_done (by kernel_rfl) ?_ _
        refine NoPanic.normal ?_
        clear x1 x2 x3 x4 x5 u1 u2 u3 u4 u5
        have ha6 := HHA.out.no (HM5.out.kp.trans' (Kp.refl No w5).drew)
        have x1 := ha6.c1
        have x2 := ha6.c2
        have x3 := ha6.c3
        have x4 := ha6.c4
        have x5 := ha6.c5
        have HM6 := hide (HM5.out.no (Kp.refl No w5).drew)
        have hS13 : ∀ w', Kp No w0 w' → Kp No w0 w' ∧ w'.cell? ⟨B, off + k * 9 + 1, none⟩ = some (.int .u32 (cO d.s : Int)) ∧ w'.cell? ⟨B, off + k * 9 + 2, none⟩ = some (.int .u16 (cS d.s : Int)) ∧ w'.cell? ⟨B, off + k * 9 + 3, none⟩ = some (.int .u16 (cL d.s : Int)) ∧ w'.cell? ⟨B, off + k * 9 + 4, none⟩ = some (.int .u32 (cG d.s : Int)) ∧ w'.cell? ⟨B, off + k * 9 + 5, none⟩ = some (.slice A' m c') := fun w' hk => ⟨hk, (HHA.out.no hk).c1, (HHA.out.no hk).c2, (HHA.out.no hk).c3, (HHA.out.no hk).c4, (HHA.out.no hk).c5⟩
        clear ha6
        go_wp2_with fail
        refine wp_region_noPanic ?_
        refine wp_region_held_drew (S := fun w' => Kp No w0 w' ∧ w'.cell? ⟨B, off + k * 9 + 1, none⟩ = some (.int .u32 (cO d.s : Int)) ∧ w'.cell? ⟨B, off + k * 9 + 2, none⟩ = some (.int .u16 (cS d.s : Int)) ∧ w'.cell? ⟨B, off + k * 9 + 3, none⟩ = some (.int .u16 (cL d.s : Int)) ∧ w'.cell? ⟨B, off + k * 9 + 4, none⟩ = some (.int .u32 (cG d.s : Int)) ∧ w'.cell? ⟨B, off + k * 9 + 5, none⟩ = some (.slice A' m c')) (by kernel_rfl) (hS13 _ HM6.out.kp) (fun hHeld => ?_)
        refine wpAnyH_take (i := 0) (v := ?vcx1) (oi := ?ocx1) ?hcx1 (by kernel_rfl) (by kernel_rfl) (by kernel_rfl) (fun _ _ _ h => h) (Or.inl ⟨?wcx1, ?ycx1⟩) hHeld ?rcx1
        case hcx1 => simp only [List.getElem?_toArray, List.getElem?_cons_zero, List.getElem?_cons_succ]; rfl
        case wcx1 => rfl
        case ycx1 => intro w hSw; (try dsimp only at hSw); go_simp; (try with_reducible rfl)
        simp only [Act.put, List.setIfInBounds_toArray, List.set_cons_zero, List.set_cons_succ]
        refine wpAnyH_take (i := 1) (v := ?vcx2) (oi := ?ocx2) ?hcx2 (by kernel_rfl) (by kernel_rfl) (by kernel_rfl) (fun _ _ _ h => h) (Or.inl ⟨?wcx2, ?ycx2⟩) hHeld ?rcx2
        case hcx2 => simp only [List.getElem?_toArray, List.getElem?_cons_zero, List.getElem?_cons_succ]; rfl
        case wcx2 => rfl
        case ycx2 => intro w hSw; (try dsimp only at hSw); go_simp; (try with_reducible rfl)
        simp only [Act.put, List.setIfInBounds_toArray, List.set_cons_zero, List.set_cons_succ]
        refine wpAnyH_take (i := 2) (v := ?vcx3) (oi := ?ocx3) ?hcx3 (by kernel_rfl) (by kernel_rfl) (by kernel_rfl) (fun _ _ _ h => h) (Or.inl ⟨?wcx3, ?ycx3⟩) hHeld ?rcx3
        case hcx3 => simp only [List.getElem?_toArray, List.getElem?_cons_zero, List.getElem?_cons_succ]; rfl
        case wcx3 => rfl
        case ycx3 => intro w hSw; (try dsimp only at hSw); go_simp; (try with_reducible rfl)
        simp only [Act.put, List.setIfInBounds_toArray, List.set_cons_zero, List.set_cons_succ]
        refine wpAnyH_take (i := 3) (v := ?vcx4) (oi := ?ocx4) ?hcx4 (by kernel_rfl) (by kernel_rfl) (by kernel_rfl) (fun _ _ _ h => h) (Or.inl ⟨?wcx4, ?ycx4⟩) hHeld ?rcx4
        case hcx4 => simp only [List.getElem?_toArray, List.getElem?_cons_zero, List.getElem?_cons_succ]; rfl
        case wcx4 => rfl
        case ycx4 => intro w hSw; (try dsimp only at hSw); go_simp; (try with_reducible rfl)
        simp only [Act.put, List.setIfInBounds_toArray, List.set_cons_zero, List.set_cons_succ]
        refine wpAnyH_take (i := 4) (v := ?vcx5) (oi := ?ocx5) ?hcx5 (by kernel_rfl) (by kernel_rfl) (by kernel_rfl) (fun _ _ _ h => h) (Or.inl ⟨?wcx5, ?ycx5⟩) hHeld ?rcx5
        case hcx5 => simp only [List.getElem?_toArray, List.getElem?_cons_zero, List.getElem?_cons_succ]; rfl
        case wcx5 => rfl
        case ycx5 => intro w hSw; (try dsimp only at hSw); go_simp; (try with_reducible rfl)
        simp only [Act.put, List.setIfInBounds_toArray, List.set_cons_zero, List.set_cons_succ]
        refine wpAnyH_take (i := 5) (v := ?vcx6) (oi := ?ocx6) ?hcx6 (by kernel_rfl) (by kernel_rfl) (by kernel_rfl) (fun _ _ _ h => h) (Or.inl ⟨?wcx6, ?ycx6⟩) hHeld ?rcx6
        case hcx6 => simp only [List.getElem?_toArray, List.getElem?_cons_zero, List.getElem?_cons_succ]; rfl
        case wcx6 => rfl
        case ycx6 => intro w hSw; (try dsimp only at hSw); go_simp; (try with_reducible rfl)
        simp only [Act.put, List.setIfInBounds_toArray, List.set_cons_zero, List.set_cons_succ]
        refine wpAnyH_take (i := 8) (v := ?vcx7) (oi := ?ocx7) ?hcx7 (by kernel_rfl) (by kernel_rfl) (by kernel_rfl) (fun _ _ _ h => h) (Or.inl ⟨?wcx7, ?ycx7⟩) hHeld ?rcx7
        case hcx7 => simp only [List.getElem?_toArray, List.getElem?_cons_zero, List.getElem?_cons_succ]; rfl
        case wcx7 => rfl
        case ycx7 => intro w hSw; (try dsimp only at hSw); go_simp; (try with_reducible rfl)
        simp only [Act.put, List.setIfInBounds_toArray, List.set_cons_zero, List.set_cons_succ]
        refine wpAnyH_take (i := 9) (v := ?vcx8) (oi := ?ocx8) ?hcx8 (by kernel_rfl) (by kernel_rfl) (by kernel_rfl) (fun _ _ _ h => h) (Or.inl ⟨?wcx8, ?ycx8⟩) hHeld ?rcx8
        case hcx8 => simp only [List.getElem?_toArray, List.getElem?_cons_zero, List.getElem?_cons_succ]; rfl
        case wcx8 => rfl
        case ycx8 => intro w hSw; (try dsimp only at hSw); go_simp; (try with_reducible rfl)
        simp only [Act.put, List.setIfInBounds_toArray, List.set_cons_zero, List.set_cons_succ]
        refine wpAnyH_take (i := 10) (v := ?vcx9) (oi := ?ocx9) ?hcx9 (by kernel_rfl) (by kernel_rfl) (by kernel_rfl) (fun _ _ _ h => h) (Or.inl ⟨?wcx9, ?ycx9⟩) hHeld ?rcx9
        case hcx9 => simp only [List.getElem?_toArray, List.getElem?_cons_zero, List.getElem?_cons_succ]; rfl
        case wcx9 => rfl
        case ycx9 => intro w hSw; (try dsimp only at hSw); go_simp; (try with_reducible rfl)
        simp only [Act.put, List.setIfInBounds_toArray, List.set_cons_zero, List.set_cons_succ]
        refine wpAnyH_take (i := 11) (v := ?vcx10) (oi := ?ocx10) ?hcx10 (by kernel_rfl) (by kernel_rfl) (by kernel_rfl) (fun _ _ _ h => h) (Or.inl ⟨?wcx10, ?ycx10⟩) hHeld ?rcx10
        case hcx10 => simp only [List.getElem?_toArray, List.getElem?_cons_zero, List.getElem?_cons_succ]; rfl
        case wcx10 => rfl
        case ycx10 => intro w hSw; (try dsimp only at hSw); go_simp; (try with_reducible rfl)
        simp only [Act.put, List.setIfInBounds_toArray, List.set_cons_zero, List.set_cons_succ]
        refine wpAnyH_take (i := 12) (v := ?vcx11) (oi := ?ocx11) ?hcx11 (by kernel_rfl) (by kernel_rfl) (by kernel_rfl) (fun _ _ _ h => h) (Or.inl ⟨?wcx11, ?ycx11⟩) hHeld ?rcx11
        case hcx11 => simp only [List.getElem?_toArray, List.getElem?_cons_zero, List.getElem?_cons_succ]; rfl
        case wcx11 => rfl
        case ycx11 => intro w hSw; (try dsimp only at hSw); go_simp; (try with_reducible rfl)
        simp only [Act.put, List.setIfInBounds_toArray, List.set_cons_zero, List.set_cons_succ]
        refine wpAnyH_take (i := 13) (v := ?vcx12) (oi := ?ocx12) ?hcx12 (by kernel_rfl) (by kernel_rfl) (by kernel_rfl) (fun _ _ _ h => h) (Or.inl ⟨?wcx12, ?ycx12⟩) hHeld ?rcx12
        case hcx12 => simp only [List.getElem?_toArray, List.getElem?_cons_zero, List.getElem?_cons_succ]; rfl
        case wcx12 => rfl
        case ycx12 => intro w hSw; (try dsimp only at hSw); go_simp; (try with_reducible rfl)
        simp only [Act.put, List.setIfInBounds_toArray, List.set_cons_zero, List.set_cons_succ]
        refine wpAnyH_ready (rs := [6, 14]) (by kernel_rfl) (by simp) ?_
        refine (AllReadyH.cons (o := ?ocx14) ?hcx14 (fun K hK => ?scx14) (AllReadyH.cons (o := ?ocx15) ?hcx15 (fun K hK => ?scx15) AllReadyH.nil))
        case hcx14 => simp only [List.getElem?_toArray, List.getElem?_cons_zero, List.getElem?_cons_succ]; rfl
        case hcx15 => simp only [List.getElem?_toArray, List.getElem?_cons_zero, List.getElem?_cons_succ]; rfl
        case scx14 =>
          go_simp
          refine hK.out _ _ (hS13 _ (hHeld.1.trans' (Kp.alloc No _ _))) (fun hHeld => ?_)
          clear hK K
          try simp only [Act.put, List.setIfInBounds_toArray, List.set_cons_zero, List.set_cons_succ]
          refine wpAnyH_ready (rs := [7, 14]) (by kernel_rfl) (by simp) ?_
          refine (AllReadyH.cons (o := ?ocx17) ?hcx17 (fun K hK => ?scx17) (AllReadyH.cons (o := ?ocx18) ?hcx18 (fun K hK => ?scx18) AllReadyH.nil))
          case hcx17 => simp only [List.getElem?_toArray, List.getElem?_cons_zero, List.getElem?_cons_succ]; rfl
          case hcx18 => simp only [List.getElem?_toArray, List.getElem?_cons_zero, List.getElem?_cons_succ]; rfl
          case scx17 =>
            have o7 := HM6.out.nv.no (Kp.alloc No _ (.cells #[.int .u32 (cO d.s : Int), .int .u16 (cS d.s : Int), .int .u16 (cL d.s : Int), .int .u32 (cG d.s : Int)] 26))
            refine step_appT ty_sh rfl (.tmp 67) (.tmp 73) _ rfl Try.underlying37 rfl o7 _ _ rfl (nws_box (Bx4.new _ _ _ _ _) rfl rfl rfl rfl) (by have := HNK.out; have := HL1.out; omega) hHeld.1.size ?_
            intro A4 n4 c4 w7 hn4 ha1
            have HN4 := hide hn4
            clear hn4
            refine hK.out _ _ (hS13 _ (ha1.keeps o7 hHeld.1)) (fun hHeld => ?_)
            clear hK K
            try simp only [Act.put, List.setIfInBounds_toArray, List.set_cons_zero, List.set_cons_succ]
            refine wpAnyH_ready (rs := [14]) (by kernel_rfl) (by simp) ?_
            refine AllReadyH.cons (o := ?ocx19) ?hcx19 (fun K hK => ?scx19) AllReadyH.nil
            case hcx19 => simp only [List.getElem?_toArray, List.getElem?_cons_zero, List.getElem?_cons_succ]; rfl
            go_simp
            refine hK.out _ _ (hS13 _ (hHeld.1.trans' (Kp.alloc No _ _))) (fun hHeld => ?_)
            clear hK K
            try simp only [Act.put, List.setIfInBounds_toArray, List.set_cons_zero, List.set_cons_succ]
            refine wpAnyH_ready (rs := [15]) (by kernel_rfl) (by simp) ?_
            refine AllReadyH.cons (o := ?ocx20) ?hcx20 (fun K hK => ?scx20) AllReadyH.nil
            case hcx20 => simp only [List.getElem?_toArray, List.getElem?_cons_zero, List.getElem?_cons_succ]; rfl
            have o15 := HM6.out.mid (Kp.alloc No _ (.cells #[.int .u32 (cO d.s : Int), .int .u16 (cS d.s : Int), .int .u16 (cL d.s : Int), .int .u32 (cG d.s : Int)] 26)) ha1 (Kp.alloc No w7 (.cells #[.slice A' m c'] 27))
            have n15 : Nws (w7.alloc (.cells #[.slice A' m c'] 27)) ⟨w7.heap.size, 0, none⟩ 1 1 [.slice A' m c'] := nws_one (by simp) rfl
            refine step_appT ty_slc rfl (.tmp 75) (.tmp 81) _ rfl Try.underlying38 rfl o15 _ _ rfl n15 (by have := HVN.out; omega) hHeld.1.size ?_
            intro A5 n5 c5 w8 hn5 ha2
            have HN5 := hide hn5
            clear hn5
            refine hK.out _ _ (hS13 _ (ha2.keeps o15 hHeld.1)) (fun hHeld => ?_)
            clear hK K
            try simp only [Act.put, List.setIfInBounds_toArray, List.set_cons_zero, List.set_cons_succ]
            refine wpAnyH_ready (rs := [16]) (by kernel_rfl) (by simp) ?_
            refine AllReadyH.cons (o := ?ocx21) ?hcx21 (fun K hK => ?scx21) AllReadyH.nil
            case hcx21 => simp only [List.getElem?_toArray, List.getElem?_cons_zero, List.getElem?_cons_succ]; rfl
            go_simp
            refine hK.out _ _ (hHeld) (fun hHeld => ?_)
            clear hK K
            try simp only [Act.put, List.setIfInBounds_toArray, List.set_cons_zero, List.set_cons_succ]
            refine wpAnyH_ready (rs := [17]) (by kernel_rfl) (by simp) ?_
            refine AllReadyH.cons (o := ?ocx22) ?hcx22 (fun K hK => ?scx22) AllReadyH.nil
            case hcx22 => simp only [List.getElem?_toArray, List.getElem?_cons_zero, List.getElem?_cons_succ]; rfl
            go_simp
            refine hK.out _ _ (hHeld) (fun hHeld => ?_)
            clear hK K
            try simp only [Act.put, List.setIfInBounds_toArray, List.set_cons_zero, List.set_cons_succ]
            refine wpAnyH_done (by kernel_rfl) ?_ _
            refine NoPanic.normal ?_
            have HF := hide (HM6.out.fin (Kp.alloc No _ (.cells #[.int .u32 (cO d.s : Int), .int .u16 (cS d.s : Int), .int .u16 (cL d.s : Int), .int .u32 (cG d.s : Int)] 26)) ha1 (Kp.alloc No w7 (.cells #[.slice A' m c'] 27)) ha2)
            clear hHeld ha1 ha2 x1 x2 x3 x4 x5 hS13
            go_wp2_with fail
            go_round
            case rel => exact ⟨k + 1, A4, n4, c4, A5, n5, c5, by omega, by go_num, rfl, rfl, ⟨_, _, _, _, _, _, HF.out, HV2.out, by have := HVL.out; simp [this], HVB2.out, by have := HNK.out; simp; omega, HSY2.out⟩⟩
            case measure => simp [intOf]; omega
          case scx18 =>
            go_simp
            refine hK.out _ _ (hS13 _ (hHeld.1.trans' (Kp.alloc No _ _))) (fun hHeld => ?_)
            clear hK K
            try simp only [Act.put, List.setIfInBounds_toArray, List.set_cons_zero, List.set_cons_succ]
            refine wpAnyH_ready (rs := [7]) (by kernel_rfl) (by simp) ?_
            refine AllReadyH.cons (o := ?ocx24) ?hcx24 (fun K hK => ?scx24) AllReadyH.nil
            case hcx24 => simp only [List.getElem?_toArray, List.getElem?_cons_zero, List.getElem?_cons_succ]; rfl
            have o7 := HM6.out.nv.no ((Kp.alloc No _ (.cells #[.int .u32 (cO d.s : Int), .int .u16 (cS d.s : Int), .int .u16 (cL d.s : Int), .int .u32 (cG d.s : Int)] 26)).trans' (Kp.alloc No _ (.cells #[.slice A' m c'] 27)))
            refine step_appT ty_sh rfl (.tmp 67) (.tmp 73) _ rfl Try.underlying37 rfl o7 _ _ rfl (nws_box (Box4.new1 _ _ _ _ _ _) rfl rfl rfl rfl) (by have := HNK.out; have := HL1.out; omega) hHeld.1.size ?_
            intro A4 n4 c4 w7 hn4 ha1
            have HN4 := hide hn4
            clear hn4
            refine hK.out _ _ (hS13 _ (ha1.keeps o7 hHeld.1)) (fun hHeld => ?_)
            clear hK K
            try simp only [Act.put, List.setIfInBounds_toArray, List.set_cons_zero, List.set_cons_succ]
            refine wpAnyH_ready (rs := [15]) (by kernel_rfl) (by simp) ?_
            refine AllReadyH.cons (o := ?ocx25) ?hcx25 (fun K hK => ?scx25) AllReadyH.nil
            case hcx25 => simp only [List.getElem?_toArray, List.getElem?_cons_zero, List.getElem?_cons_succ]; rfl
            have o15 := HM6.out.mid ((Kp.alloc No _ (.cells #[.int .u32 (cO d.s : Int), .int .u16 (cS d.s : Int), .int .u16 (cL d.s : Int), .int .u32 (cG d.s : Int)] 26)).trans' (Kp.alloc No _ (.cells #[.slice A' m c'] 27))) ha1 (Kp.refl No w7)
            have c15 := ha1.kp.cell (p := ⟨w5.drew.heap.size + 1, 0, none⟩) (v := .slice A' m c') (by simp) (fun e => by have : w5.drew.heap.size + 1 < w5.drew.heap.size := HM6.out.nv.lt _ e; omega)
            have n15 := nws_one c15 rfl
            refine step_appT ty_slc rfl (.tmp 75) (.tmp 81) _ rfl Try.underlying38 rfl o15 _ _ rfl n15 (by have := HVN.out; omega) hHeld.1.size ?_
            intro A5 n5 c5 w8 hn5 ha2
            have HN5 := hide hn5
            clear hn5
            refine hK.out _ _ (hS13 _ (ha2.keeps o15 hHeld.1)) (fun hHeld => ?_)
            clear hK K
            try simp only [Act.put, List.setIfInBounds_toArray, List.set_cons_zero, List.set_cons_succ]
            refine wpAnyH_ready (rs := [16]) (by kernel_rfl) (by simp) ?_
            refine AllReadyH.cons (o := ?ocx26) ?hcx26 (fun K hK => ?scx26) AllReadyH.nil
            case hcx26 => simp only [List.getElem?_toArray, List.getElem?_cons_zero, List.getElem?_cons_succ]; rfl
            go_simp
            refine hK.out _ _ (hHeld) (fun hHeld => ?_)
            clear hK K
            try simp only [Act.put, List.setIfInBounds_toArray, List.set_cons_zero, List.set_cons_succ]
            refine wpAnyH_ready (rs := [17]) (by kernel_rfl) (by simp) ?_
            refine AllReadyH.cons (o := ?ocx27) ?hcx27 (fun K hK => ?scx27) AllReadyH.nil
            case hcx27 => simp only [List.getElem?_toArray, List.getElem?_cons_zero, List.getElem?_cons_succ]; rfl
            go_simp
            refine hK.out _ _ (hHeld) (fun hHeld => ?_)
            clear hK K
            try simp only [Act.put, List.setIfInBounds_toArray, List.set_cons_zero, List.set_cons_succ]
            refine wpAnyH_done (by kernel_rfl) ?_ _
            refine NoPanic.normal ?_
            have HF := hide (HM6.out.fin ((Kp.alloc No _ (.cells #[.int .u32 (cO d.s : Int), .int .u16 (cS d.s : Int), .int .u16 (cL d.s : Int), .int .u32 (cG d.s : Int)] 26)).trans' (Kp.alloc No _ (.cells #[.slice A' m c'] 27))) ha1 (Kp.refl No w7) ha2)
            clear hHeld ha1 ha2 x1 x2 x3 x4 x5 hS13
            go_wp2_with fail
            go_round
            case rel => exact ⟨k + 1, A4, n4, c4, A5, n5, c5, by omega, by go_num, rfl, rfl, ⟨_, _, _, _, _, _, HF.out, HV2.out, by have := HVL.out; simp [this], HVB2.out, by have := HNK.out; simp; omega, HSY2.out⟩⟩
            case measure => simp [intOf]; omega
        case scx15 =>
          go_simp
          refine hK.out _ _ (hS13 _ (hHeld.1.trans' (Kp.alloc No _ _))) (fun hHeld => ?_)
          clear hK K
          try simp only [Act.put, List.setIfInBounds_toArray, List.set_cons_zero, List.set_cons_succ]
          refine wpAnyH_ready (rs := [6]) (by kernel_rfl) (by simp) ?_
          refine AllReadyH.cons (o := ?ocx29) ?hcx29 (fun K hK => ?scx29) AllReadyH.nil
          case hcx29 => simp only [List.getElem?_toArray, List.getElem?_cons_zero, List.getElem?_cons_succ]; rfl
          go_simp
          refine hK.out _ _ (hS13 _ (hHeld.1.trans' (Kp.alloc No _ _))) (fun hHeld => ?_)
          clear hK K
          try simp only [Act.put, List.setIfInBounds_toArray, List.set_cons_zero, List.set_cons_succ]
          refine wpAnyH_ready (rs := [7]) (by kernel_rfl) (by simp) ?_
          refine AllReadyH.cons (o := ?ocx30) ?hcx30 (fun K hK => ?scx30) AllReadyH.nil
          case hcx30 => simp only [List.getElem?_toArray, List.getElem?_cons_zero, List.getElem?_cons_succ]; rfl
          have o7 := HM6.out.nv.no ((Kp.alloc No _ (.cells #[.slice A' m c'] 27)).trans' (Kp.alloc No _ (.cells #[.int .u32 (cO d.s : Int), .int .u16 (cS d.s : Int), .int .u16 (cL d.s : Int), .int .u32 (cG d.s : Int)] 26)))
          refine step_appT ty_sh rfl (.tmp 67) (.tmp 73) _ rfl Try.underlying37 rfl o7 _ _ rfl (nws_box (Box4.new2 _ _ _ _ _ _) rfl rfl rfl rfl) (by have := HNK.out; have := HL1.out; omega) hHeld.1.size ?_
          intro A4 n4 c4 w7 hn4 ha1
          have HN4 := hide hn4
          clear hn4
          refine hK.out _ _ (hS13 _ (ha1.keeps o7 hHeld.1)) (fun hHeld => ?_)
          clear hK K
          try simp only [Act.put, List.setIfInBounds_toArray, List.set_cons_zero, List.set_cons_succ]
          refine wpAnyH_ready (rs := [15]) (by kernel_rfl) (by simp) ?_
          refine AllReadyH.cons (o := ?ocx31) ?hcx31 (fun K hK => ?scx31) AllReadyH.nil
          case hcx31 => simp only [List.getElem?_toArray, List.getElem?_cons_zero, List.getElem?_cons_succ]; rfl
          have o15 := HM6.out.mid ((Kp.alloc No _ (.cells #[.slice A' m c'] 27)).trans' (Kp.alloc No _ (.cells #[.int .u32 (cO d.s : Int), .int .u16 (cS d.s : Int), .int .u16 (cL d.s : Int), .int .u32 (cG d.s : Int)] 26))) ha1 (Kp.refl No w7)
          have c15 := ha1.kp.cell (p := ⟨w5.drew.heap.size, 0, none⟩) (v := .slice A' m c') (by simp) (fun e => by have : w5.drew.heap.size < w5.drew.heap.size := HM6.out.nv.lt _ e; omega)
          have n15 := nws_one c15 rfl
          refine step_appT ty_slc rfl (.tmp 75) (.tmp 81) _ rfl Try.underlying38 rfl o15 _ _ rfl n15 (by have := HVN.out; omega) hHeld.1.size ?_
          intro A5 n5 c5 w8 hn5 ha2
          have HN5 := hide hn5
          clear hn5
          refine hK.out _ _ (hS13 _ (ha2.keeps o15 hHeld.1)) (fun hHeld => ?_)
          clear hK K
          try simp only [Act.put, List.setIfInBounds_toArray, List.set_cons_zero, List.set_cons_succ]
          refine wpAnyH_ready (rs := [16]) (by kernel_rfl) (by simp) ?_
          refine AllReadyH.cons (o := ?ocx32) ?hcx32 (fun K hK => ?scx32) AllReadyH.nil
          case hcx32 => simp only [List.getElem?_toArray, List.getElem?_cons_zero, List.getElem?_cons_succ]; rfl
          go_simp
          refine hK.out _ _ (hHeld) (fun hHeld => ?_)
          clear hK K
          try simp only [Act.put, List.setIfInBounds_toArray, List.set_cons_zero, List.set_cons_succ]
          refine wpAnyH_ready (rs := [17]) (by kernel_rfl) (by simp) ?_
          refine AllReadyH.cons (o := ?ocx33) ?hcx33 (fun K hK => ?scx33) AllReadyH.nil
          case hcx33 => simp only [List.getElem?_toArray, List.getElem?_cons_zero, List.getElem?_cons_succ]; rfl
          go_simp
          refine hK.out _ _ (hHeld) (fun hHeld => ?_)
          clear hK K
          try simp only [Act.put, List.setIfInBounds_toArray, List.set_cons_zero, List.set_cons_succ]
          refine wpAnyH_done (by kernel_rfl) ?_ _
          refine NoPanic.normal ?_
          have HF := hide (HM6.out.fin ((Kp.alloc No _ (.cells #[.slice A' m c'] 27)).trans' (Kp.alloc No _ (.cells #[.int .u32 (cO d.s : Int), .int .u16 (cS d.s : Int), .int .u16 (cL d.s : Int), .int .u32 (cG d.s : Int)] 26))) ha1 (Kp.refl No w7) ha2)
          clear hHeld ha1 ha2 x1 x2 x3 x4 x5 hS13
          go_wp2_with fail
          go_round
          case rel => exact ⟨k + 1, A4, n4, c4, A5, n5, c5, by omega, by go_num, rfl, rfl, ⟨_, _, _, _, _, _, HF.out, HV2.out, by have := HVL.out; simp [this], HVB2.out, by have := HNK.out; simp; omega, HSY2.out⟩⟩
          case measure => simp [intOf]; omega
    · obtain rfl : k = n0 := by omega
      have hlz : ¬ (k : Int) < k := by omega
      obtain ⟨F, b5, V, ns, dt, vs, hM, hV, hvl, hvb, hnk, hsy⟩ := hI
      have h30 := HL1.out
      have hbox := HBX.out.keep hM.kp fun f => f
      have hbeg := begin_any hM.vt HS.out (HB.out.no hM.kp) (by have := HBL.out; omega) (by rw [hV.od.n]; omega) (by rw [hV.lo]; show 0 + 1 ≤ _; omega)
      have hcr := hV.crashed (s := s) (b := bs) (by omega) HBL.out HS.out z y
      have hlo : (V.bg s bs).D.loose.length ≤ 1000000 := by
        by_cases hE : V.bgE s bs = 0
        · rw [Vt.bg_yes hE]
          have := put_loose V.D (V.free : Int) (frV s bs)
          rw [hV.lo] at this
          have e0 : ([] : List (Nat × List UInt8)).length = 0 := rfl
          show (Dk.put _ _ _).loose.length ≤ _
          omega
        · rw [Vt.bg_no hE, hV.lo]
          show 0 ≤ _
          omega
      have hn200 := fun x hx => hV.od.dl x hx
      have HN200 := hide hn200
      have HNM := hide hV.od.nm
      have HDL := hide hV.od.len
      have HNN : Hid (ns.length ≤ 30) := by show _ ≤ _; omega
      obtain ⟨f, hf⟩ : ∃ f, f = (V.bgE s bs == 0) := ⟨_, rfl⟩
      have hfz : ((V.bgE s bs : Int) == 0) = f := by rw [hf]; exact zero_beq _
      rw [← hf] at hcr
      generalize V.bgE s bs = E at hbeg hfz
      generalize V.bg s bs = V1 at hbeg hcr hlo
      have HCR := hide hcr
      have HLO := hide hlo
      have HBEG := hide hbeg
      have HMM := hide hM
      have HVL := hide hvl
      have HVB := hide hvb
      obtain ⟨p0, p1, p2, p3⟩ := hbox.cell
      clear hM hV hvl hvb hnk hsy h30 hbox hbeg hcr hlo hf hn200 hlz hlt
      unfold shV at HBEG
      go_wp2_with fail
      refine HBEG.out.mono ?_
      rintro e w3 ⟨rfl, ⟨b6, h6⟩, k6⟩
      have HM3 := hide (HMM.out.vault h6 k6)
      clear HBEG h6 k6 p0 p1 p2 p3 HMM
      go_wp2_with fail
      refine (pcrash_any HM3.out.vt.dk HLO.out z y).mono ?_
      rintro e w4 ⟨rfl, hd4, k4⟩
      obtain ⟨ns2, dt2, hO, hFin⟩ := HCR.out
      generalize V1.D.crash z y = D2 at hd4 hO
      have hnv := HM3.out.nv.keep k4 fun q hq hF => (HM3.out.fo q hF.1).2.2.1 hq
      have hdv := HM3.out.dv.keep k4 fun q hq hF => (HM3.out.fo q hF.1).2.2.2 hq
      have K4 : Kp No w0 w4 := HM3.out.kp.trans (k4.mono fun q hF => .inr (HM3.out.fo q hF.1).1)
      have HNV := hide hnv
      have HDV := hide hdv
      have HK4 := hide K4
      have HO := hide hO
      have HFIN := hide hFin
      have HD4 := hide hd4
      clear hnv hdv K4 hO hFin hd4 k4 HM3 HCR HLO
      go_wp2_with fail
      refine (vopen_any HD4.out).mono ?_
      rintro e w5 ⟨g5, b5', rfl, hg5, hb5, h5, k5⟩
      have h5' := hide h5
      have HK5 := hide k5
      clear hg5 hb5 h5 k5
      go_wp2_with fail
      refine (vopen_any (HD4.out.no HK5.out)).mono ?_
      rintro e w6 ⟨g6, b6', rfl, hg6, hb6, h6, k6⟩
      have hlen2 : ns2.length ≤ 40 := by have := HFIN.out.len; have := HL1.out; have := HNN.out; omega
      have hop := HO.out.opened hlen2
      have hkn : KnOk 40 (mkL ns2) := by
        have := (Vt.opened_ok HO.out.ok).kn
        unfold Vt.n at this
        rw [hop] at this
        have e : (Vt.mk D2 (mkL ns2)).D.cells.length = 40 := HO.out.n
        rw [e] at this
        exact this
      rw [hop] at h6
      have h5 := h5'.out
      rw [hop] at h5
      have HE : Hid (KvE w0 gd g5 b5' g6 b6' ⟨D2, mkL ns2⟩ (.slice A2 n2 c2) (.slice A3 n3 c3) ns vs w6) := ⟨⟨_, h5.no k6⟩, ⟨_, h6⟩, (HNV.out.no HK5.out).no k6, (HDV.out.no HK5.out).no k6, (HK4.out.trans' HK5.out).trans' k6⟩
      have HKN := hide hkn
      clear hg6 hb6 h6 k6 hop hkn h5 h5' HNV HDV HK4 HK5 HD4 hlen2
      have hl1 := vlen_any (L := mkL ns2) HE.out.v1.choose_spec.blk HE.out.v1.choose_spec.mp
      have hl2 := vlen_any (L := mkL ns2) HE.out.v2.choose_spec.blk HE.out.v2.choose_spec.mp
      rw [mkL_len] at hl1 hl2
      go_wp2_with fail
      refine hl1.mono ?_
      rintro e w' ⟨rfl, rfl⟩
      go_wp2_with fail
      refine hl2.mono ?_
      rintro e w' ⟨rfl, rfl⟩
      clear hl1 hl2
      have hnl : n2 = ns.length := HE.out.nv.len
      have hdl : n3 = vs.length := HE.out.dv.len
      have hnd : n2 = n3 := by rw [hnl, hdl, HVL.out, HDL.out]
      have HNL := hide hnl
      have hn230 : n2 ≤ 30 := by rw [hnl]; exact HNN.out
      subst hnd
      clear hnl hdl
      go_wp2_with fail
      go_loopw [23] (fun i wr => ∃ k : Nat, k ≤ n2 ∧ i = .int .i64 (k : Int) ∧ Kp No w6 wr) (fun i _ => n2 - (intOf i).toNat)
      case atStart => exact ⟨0, Nat.zero_le _, rfl, Kp.refl _ _⟩
      case round =>
        obtain ⟨k', hk', rfl, hkr⟩ := hrel
        by_cases hlt : k' < n2
        · have hlz : (k' : Int) < n2 := by omega
          have hEr := HE.out.no hkr
          have hkn' : k' < ns.length := by rw [← HNL.out]; exact hlt
          obtain ⟨t, ht⟩ : ∃ t, t = ns.getD k' 0 := ⟨_, rfl⟩
          have htq : ns[k']? = some t := by rw [ht, List.getD_eq_getElem?_getD, List.getElem?_eq_getElem hkn']; rfl
          obtain ⟨q1, q2, q3⟩ := HFIN.out.at_ HDL.out hkn'
          obtain ⟨r0, r1, r2, r3⟩ := HO.out.get q1 HKN.out
          rw [q2, ← ht] at r0 r1 r2 r3
          rw [q3] at r3
          have htN : t < N96 := HNM.out t (List.mem_of_getElem? htq)
          obtain ⟨gn, hgn, _, _, _, y0⟩ := hEr.nv.cell (nmC_get htq).1
          obtain ⟨gn1, hgn1, _, _, _, y1⟩ := hEr.nv.cell (nmC_get htq).2.1
          obtain ⟨gn2, hgn2, _, _, _, y2⟩ := hEr.nv.cell (nmC_get htq).2.2.1
          obtain ⟨gn3, hgn3, _, _, _, y3⟩ := hEr.nv.cell (nmC_get htq).2.2.2
          rw [hgn] at hgn1 hgn2 hgn3
          injection hgn1 with hgn1
          injection hgn2 with hgn2
          injection hgn3 with hgn3
          injection hgn1 with hgn1
          injection hgn2 with hgn2
          injection hgn3 with hgn3
          subst hgn1 hgn2 hgn3 hgn
          obtain ⟨u, hu⟩ : ∃ u, vs[k']? = some u := ⟨_, List.getElem?_eq_getElem (by have := HVL.out; have := HDL.out; omega)⟩
          obtain ⟨gv, hgv, _, _, _, yv⟩ := hEr.dv.cell hu
          subst hgv
          have hub := (HVB.out k' u hu).no hEr.kp
          obtain ⟨Au, nu, cu, rfl⟩ := hub.form
          obtain ⟨bt, hbt⟩ : ∃ bt, bt = dt.getD k' [] := ⟨_, rfl⟩
          rw [← hbt] at hub r3
          have hget := vget_any hEr.v1.choose_spec htN
          rw [r2, r3] at hget
          have HG := hide hget
          have HER := hide hEr
          have HUB := hide hub
          have HTN := hide htN
          have HR0 := hide r0
          have HR1 := hide r1
          obtain ⟨tb, htb⟩ : ∃ tb, tb = strOf bt := ⟨_, rfl⟩
          have HTB := hide htb
          have HHR := hide hkr
          have HYN : Hid (∀ w', Kp No wr w' → w'.cell? ⟨gn, k' * 4, none⟩ = some (.int .u32 (cO t : Int)) ∧ w'.cell? ⟨gn, k' * 4 + 1, none⟩ = some (.int .u16 (cS t : Int)) ∧ w'.cell? ⟨gn, k' * 4 + 2, none⟩ = some (.int .u16 (cL t : Int)) ∧ w'.cell? ⟨gn, k' * 4 + 3, none⟩ = some (.int .u32 (cG t : Int)) ∧ w'.cell? ⟨gv, k', none⟩ = some (.slice Au nu cu)) := fun w' hk => ⟨kp_cell y0 hk, kp_cell y1 hk, kp_cell y2 hk, kp_cell y3 hk, kp_cell yv hk⟩
          clear ht htq q1 q2 q3 r0 r1 r2 r3 hbt hget hEr hub htN hu htb hkr yv hkn'
          have HVV : Hid (∀ w', Kp No wr w' → Calls Try.prog 14 #[.pointer (some ⟨g5, 0, none⟩), shV t] w' (CelPost w' (k' : Int)) ∧ Calls Try.prog 14 #[.pointer (some ⟨g6, 0, none⟩), shV t] w' (CelPost w' (k' : Int))) := fun w' hk => by
            have e1 := (HER.out.no hk).v1.choose_spec
            have e2 := (HER.out.no hk).v2.choose_spec
            have c1 := vcell_any (L := mkL ns2) e1.blk e1.mp HTN.out
            have c2 := vcell_any (L := mkL ns2) e2.blk e2.mp HTN.out
            have ez : celZ (mkL ns2) t = (k' : Int) := by rw [celZ_yes HR0.out, HR1.out]
            rw [ez] at c1 c2
            exact ⟨c1, c2⟩
          unfold shV at HG HVV
          go_wp2_with fail
          refine HG.out.mono ?_
          rintro e w7 ⟨A7, n7, c7, rfl, ho7, k7⟩
          have HB7 := hide ho7.bts
          have HK7 := hide k7
          have HU7 := hide (HUB.out.no k7)
          clear y0 y1 y2 y3 HG ho7 k7
          go_wp2_with fail
          have hS24 : ∀ w', Kp No w7 w' → Kp No w7 w' ∧ Bts w' (.slice A7 n7 c7) bt ∧ Bts w' (.slice Au nu cu) bt ∧ w'.cell? ⟨gn, k' * 4, none⟩ = some (.int .u32 (cO t : Int)) ∧ w'.cell? ⟨gn, k' * 4 + 1, none⟩ = some (.int .u16 (cS t : Int)) ∧ w'.cell? ⟨gn, k' * 4 + 2, none⟩ = some (.int .u16 (cL t : Int)) ∧ w'.cell? ⟨gn, k' * 4 + 3, none⟩ = some (.int .u32 (cG t : Int)) ∧ w'.cell? ⟨gv, k', none⟩ = some (.slice Au nu cu) := fun w' hk => ⟨hk, HB7.out.no hk, HU7.out.no hk, HYN.out w' (HK7.out.trans' hk)⟩
          refine wp_region_noPanic ?_
          refine wp_region_held_drew (S := fun w' => Kp No w7 w' ∧ Bts w' (.slice A7 n7 c7) bt ∧ Bts w' (.slice Au nu cu) bt ∧ w'.cell? ⟨gn, k' * 4, none⟩ = some (.int .u32 (cO t : Int)) ∧ w'.cell? ⟨gn, k' * 4 + 1, none⟩ = some (.int .u16 (cS t : Int)) ∧ w'.cell? ⟨gn, k' * 4 + 2, none⟩ = some (.int .u16 (cL t : Int)) ∧ w'.cell? ⟨gn, k' * 4 + 3, none⟩ = some (.int .u32 (cG t : Int)) ∧ w'.cell? ⟨gv, k', none⟩ = some (.slice Au nu cu)) (by kernel_rfl) (hS24 _ (Kp.refl No w7).drew) (fun hHeld => ?_)
          refine wpAnyH_take (i := 0) (v := ?vex1) (oi := ?oex1) ?hex1 (by kernel_rfl) (by kernel_rfl) (by kernel_rfl) (fun _ _ _ h => h) (Or.inl ⟨?wex1, ?yex1⟩) hHeld ?rex1
          case hex1 => simp only [List.getElem?_toArray, List.getElem?_cons_zero, List.getElem?_cons_succ]; rfl
          case wex1 => rfl
          case yex1 => intro w hSw; (try dsimp only at hSw); go_simp; (try with_reducible rfl)
          simp only [Act.put, List.setIfInBounds_toArray, List.set_cons_zero, List.set_cons_succ]
          refine wpAnyH_take (i := 1) (v := ?vex2) (oi := ?oex2) ?hex2 (by kernel_rfl) (by kernel_rfl) (by kernel_rfl) (fun _ _ _ h => h) (Or.inl ⟨?wex2, ?yex2⟩) hHeld ?rex2
          case hex2 => simp only [List.getElem?_toArray, List.getElem?_cons_zero, List.getElem?_cons_succ]; rfl
          case wex2 => rfl
          case yex2 => intro w hSw; (try dsimp only at hSw); go_simp; (try with_reducible rfl)
          simp only [Act.put, List.setIfInBounds_toArray, List.set_cons_zero, List.set_cons_succ]
          refine wpAnyH_take (i := 2) (v := ?vex3) (oi := ?oex3) ?hex3 (by kernel_rfl) (by kernel_rfl) (by kernel_rfl) (fun _ _ _ h => h) (Or.inl ⟨?wex3, ?yex3⟩) hHeld ?rex3
          case hex3 => simp only [List.getElem?_toArray, List.getElem?_cons_zero, List.getElem?_cons_succ]; rfl
          case wex3 => rfl
          case yex3 => intro w hSw; (try dsimp only at hSw); go_simp; (try with_reducible rfl)
          simp only [Act.put, List.setIfInBounds_toArray, List.set_cons_zero, List.set_cons_succ]
          refine wpAnyH_take (i := 3) (v := ?vex4) (oi := ?oex4) ?hex4 (by kernel_rfl) (by kernel_rfl) (by kernel_rfl) (fun _ _ _ h => h) (Or.inl ⟨?wex4, ?yex4⟩) hHeld ?rex4
          case hex4 => simp only [List.getElem?_toArray, List.getElem?_cons_zero, List.getElem?_cons_succ]; rfl
          case wex4 => rfl
          case yex4 => intro w hSw; (try dsimp only at hSw); go_simp; (try with_reducible rfl)
          simp only [Act.put, List.setIfInBounds_toArray, List.set_cons_zero, List.set_cons_succ]
          refine wpAnyH_take (i := 4) (v := ?vex5) (oi := ?oex5) ?hex5 (by kernel_rfl) (by kernel_rfl) (by kernel_rfl) (fun _ _ _ h => h) (Or.inl ⟨?wex5, ?yex5⟩) hHeld ?rex5
          case hex5 => simp only [List.getElem?_toArray, List.getElem?_cons_zero, List.getElem?_cons_succ]; rfl
          case wex5 => rfl
          case yex5 =>
            intro w hSw
            (try dsimp only at hSw)
            have vv := conv_bts hSw.2.1
            rw [← HTB.out] at vv
            go_simp
            (try with_reducible rfl)
          simp only [Act.put, List.setIfInBounds_toArray, List.set_cons_zero, List.set_cons_succ]
          refine wpAnyH_take (i := 5) (v := ?vex6) (oi := ?oex6) ?hex6 (by kernel_rfl) (by kernel_rfl) (by kernel_rfl) (fun _ _ _ h => h) (Or.inl ⟨?wex6, ?yex6⟩) hHeld ?rex6
          case hex6 => simp only [List.getElem?_toArray, List.getElem?_cons_zero, List.getElem?_cons_succ]; rfl
          case wex6 => rfl
          case yex6 => intro w hSw; (try dsimp only at hSw); go_simp; (try with_reducible rfl)
          simp only [Act.put, List.setIfInBounds_toArray, List.set_cons_zero, List.set_cons_succ]
          refine wpAnyH_take (i := 6) (v := ?vex7) (oi := ?oex7) ?hex7 (by kernel_rfl) (by kernel_rfl) (by kernel_rfl) (fun _ _ _ h => h) (Or.inl ⟨?wex7, ?yex7⟩) hHeld ?rex7
          case hex7 => simp only [List.getElem?_toArray, List.getElem?_cons_zero, List.getElem?_cons_succ]; rfl
          case wex7 => rfl
          case yex7 => intro w hSw; (try dsimp only at hSw); go_simp; (try with_reducible rfl)
          simp only [Act.put, List.setIfInBounds_toArray, List.set_cons_zero, List.set_cons_succ]
          refine wpAnyH_take (i := 7) (v := ?vex8) (oi := ?oex8) ?hex8 (by kernel_rfl) (by kernel_rfl) (by kernel_rfl) (fun _ _ _ h => h) (Or.inl ⟨?wex8, ?yex8⟩) hHeld ?rex8
          case hex8 => simp only [List.getElem?_toArray, List.getElem?_cons_zero, List.getElem?_cons_succ]; rfl
          case wex8 => rfl
          case yex8 => intro w hSw; (try dsimp only at hSw); go_simp; (try with_reducible rfl)
          simp only [Act.put, List.setIfInBounds_toArray, List.set_cons_zero, List.set_cons_succ]
          refine wpAnyH_take (i := 8) (v := ?vex9) (oi := ?oex9) ?hex9 (by kernel_rfl) (by kernel_rfl) (by kernel_rfl) (fun _ _ _ h => h) (Or.inl ⟨?wex9, ?yex9⟩) hHeld ?rex9
          case hex9 => simp only [List.getElem?_toArray, List.getElem?_cons_zero, List.getElem?_cons_succ]; rfl
          case wex9 => rfl
          case yex9 => intro w hSw; (try dsimp only at hSw); go_simp; (try with_reducible rfl)
          simp only [Act.put, List.setIfInBounds_toArray, List.set_cons_zero, List.set_cons_succ]
          refine wpAnyH_take (i := 9) (v := ?vex10) (oi := ?oex10) ?hex10 (by kernel_rfl) (by kernel_rfl) (by kernel_rfl) (fun _ _ _ h => h) (Or.inl ⟨?wex10, ?yex10⟩) hHeld ?rex10
          case hex10 => simp only [List.getElem?_toArray, List.getElem?_cons_zero, List.getElem?_cons_succ]; rfl
          case wex10 => rfl
          case yex10 =>
            intro w hSw
            (try dsimp only at hSw)
            have vv := conv_bts hSw.2.2.1
            rw [← HTB.out] at vv
            go_simp
            (try with_reducible rfl)
          simp only [Act.put, List.setIfInBounds_toArray, List.set_cons_zero, List.set_cons_succ]
          refine wpAnyH_take (i := 10) (v := ?vex11) (oi := ?oex11) ?hex11 (by kernel_rfl) (by kernel_rfl) (by kernel_rfl) (fun _ _ _ h => h) (Or.inl ⟨?wex11, ?yex11⟩) hHeld ?rex11
          case hex11 => simp only [List.getElem?_toArray, List.getElem?_cons_zero, List.getElem?_cons_succ]; rfl
          case wex11 => rfl
          case yex11 => intro w hSw; (try dsimp only at hSw); go_simp; (try with_reducible rfl)
          simp only [Act.put, List.setIfInBounds_toArray, List.set_cons_zero, List.set_cons_succ]
          refine wpAnyH_take (i := 11) (v := ?vex12) (oi := ?oex12) ?hex12 (by kernel_rfl) (by kernel_rfl) (by kernel_rfl) (fun _ _ _ h => h) (Or.inl ⟨?wex12, ?yex12⟩) hHeld ?rex12
          case hex12 => simp only [List.getElem?_toArray, List.getElem?_cons_zero, List.getElem?_cons_succ]; rfl
          case wex12 => rfl
          case yex12 => intro w hSw; (try dsimp only at hSw); go_simp; (try with_reducible rfl)
          simp only [Act.put, List.setIfInBounds_toArray, List.set_cons_zero, List.set_cons_succ]
          refine wpAnyH_take (i := 12) (v := ?vex13) (oi := ?oex13) ?hex13 (by kernel_rfl) (by kernel_rfl) (by kernel_rfl) (fun _ _ _ h => h) (Or.inl ⟨?wex13, ?yex13⟩) hHeld ?rex13
          case hex13 => simp only [List.getElem?_toArray, List.getElem?_cons_zero, List.getElem?_cons_succ]; rfl
          case wex13 => rfl
          case yex13 => intro w hSw; (try dsimp only at hSw); go_simp; (try with_reducible rfl)
          simp only [Act.put, List.setIfInBounds_toArray, List.set_cons_zero, List.set_cons_succ]
          refine wpAnyH_take (i := 13) (v := ?vex14) (oi := ?oex14) ?hex14 (by kernel_rfl) (by kernel_rfl) (by kernel_rfl) (fun _ _ _ h => h) (Or.inl ⟨?wex14, ?yex14⟩) hHeld ?rex14
          case hex14 => simp only [List.getElem?_toArray, List.getElem?_cons_zero, List.getElem?_cons_succ]; rfl
          case wex14 => rfl
          case yex14 => intro w hSw; (try dsimp only at hSw); go_simp; (try with_reducible rfl)
          simp only [Act.put, List.setIfInBounds_toArray, List.set_cons_zero, List.set_cons_succ]
          refine wpAnyH_take (i := 14) (v := ?vex15) (oi := ?oex15) ?hex15 (by kernel_rfl) (by kernel_rfl) (by kernel_rfl) (fun _ _ _ h => h) (Or.inl ⟨?wex15, ?yex15⟩) hHeld ?rex15
          case hex15 => simp only [List.getElem?_toArray, List.getElem?_cons_zero, List.getElem?_cons_succ]; rfl
          case wex15 => rfl
          case yex15 => intro w hSw; (try dsimp only at hSw); go_simp; (try with_reducible rfl)
          simp only [Act.put, List.setIfInBounds_toArray, List.set_cons_zero, List.set_cons_succ]
          refine wpAnyH_take (i := 15) (v := ?vex16) (oi := ?oex16) ?hex16 (by kernel_rfl) (by kernel_rfl) (by kernel_rfl) (fun _ _ _ h => h) (Or.inl ⟨?wex16, ?yex16⟩) hHeld ?rex16
          case hex16 => simp only [List.getElem?_toArray, List.getElem?_cons_zero, List.getElem?_cons_succ]; rfl
          case wex16 => rfl
          case yex16 => intro w hSw; (try dsimp only at hSw); go_simp; (try with_reducible rfl)
          simp only [Act.put, List.setIfInBounds_toArray, List.set_cons_zero, List.set_cons_succ]
          refine wpAnyH_take (i := 16) (v := ?vex17) (oi := ?oex17) ?hex17 (by kernel_rfl) (by kernel_rfl) (by kernel_rfl) (fun _ _ _ h => h) (Or.inl ⟨?wex17, ?yex17⟩) hHeld ?rex17
          case hex17 => simp only [List.getElem?_toArray, List.getElem?_cons_zero, List.getElem?_cons_succ]; rfl
          case wex17 => rfl
          case yex17 => intro w hSw; (try dsimp only at hSw); go_simp; (try with_reducible rfl)
          simp only [Act.put, List.setIfInBounds_toArray, List.set_cons_zero, List.set_cons_succ]
          refine wpAnyH_take (i := 17) (v := ?vex18) (oi := ?oex18) ?hex18 (by kernel_rfl) (by kernel_rfl) (by kernel_rfl) (fun _ _ _ h => h) (Or.inl ⟨?wex18, ?yex18⟩) hHeld ?rex18
          case hex18 => simp only [List.getElem?_toArray, List.getElem?_cons_zero, List.getElem?_cons_succ]; rfl
          case wex18 => rfl
          case yex18 => intro w hSw; (try dsimp only at hSw); go_simp; (try with_reducible rfl)
          simp only [Act.put, List.setIfInBounds_toArray, List.set_cons_zero, List.set_cons_succ]
          refine wpAnyH_take (i := 19) (v := ?vex19) (oi := ?oex19) ?hex19 (by kernel_rfl) (by kernel_rfl) (by kernel_rfl) (fun _ _ _ h => h) (Or.inl ⟨?wex19, ?yex19⟩) hHeld ?rex19
          case hex19 => simp only [List.getElem?_toArray, List.getElem?_cons_zero, List.getElem?_cons_succ]; rfl
          case wex19 => rfl
          case yex19 => intro w hSw; (try dsimp only at hSw); go_simp; (try with_reducible rfl)
          simp only [Act.put, List.setIfInBounds_toArray, List.set_cons_zero, List.set_cons_succ]
          refine wpAnyH_take (i := 20) (v := ?vex20) (oi := ?oex20) ?hex20 (by kernel_rfl) (by kernel_rfl) (by kernel_rfl) (fun _ _ _ h => h) (Or.inl ⟨?wex20, ?yex20⟩) hHeld ?rex20
          case hex20 => simp only [List.getElem?_toArray, List.getElem?_cons_zero, List.getElem?_cons_succ]; rfl
          case wex20 => rfl
          case yex20 => intro w hSw; (try dsimp only at hSw); go_simp; (try with_reducible rfl)
          simp only [Act.put, List.setIfInBounds_toArray, List.set_cons_zero, List.set_cons_succ]
          refine wpAnyH_take (i := 21) (v := ?vex21) (oi := ?oex21) ?hex21 (by kernel_rfl) (by kernel_rfl) (by kernel_rfl) (fun _ _ _ h => h) (Or.inl ⟨?wex21, ?yex21⟩) hHeld ?rex21
          case hex21 => simp only [List.getElem?_toArray, List.getElem?_cons_zero, List.getElem?_cons_succ]; rfl
          case wex21 => rfl
          case yex21 => intro w hSw; (try dsimp only at hSw); go_simp; (try with_reducible rfl)
          simp only [Act.put, List.setIfInBounds_toArray, List.set_cons_zero, List.set_cons_succ]
          refine wpAnyH_take (i := 22) (v := ?vex22) (oi := ?oex22) ?hex22 (by kernel_rfl) (by kernel_rfl) (by kernel_rfl) (fun _ _ _ h => h) (Or.inl ⟨?wex22, ?yex22⟩) hHeld ?rex22
          case hex22 => simp only [List.getElem?_toArray, List.getElem?_cons_zero, List.getElem?_cons_succ]; rfl
          case wex22 => rfl
          case yex22 => intro w hSw; (try dsimp only at hSw); go_simp; (try with_reducible rfl)
          simp only [Act.put, List.setIfInBounds_toArray, List.set_cons_zero, List.set_cons_succ]
          refine wpAnyH_take (i := 23) (v := ?vex23) (oi := ?oex23) ?hex23 (by kernel_rfl) (by kernel_rfl) (by kernel_rfl) (fun _ _ _ h => h) (Or.inl ⟨?wex23, ?yex23⟩) hHeld ?rex23
          case hex23 => simp only [List.getElem?_toArray, List.getElem?_cons_zero, List.getElem?_cons_succ]; rfl
          case wex23 => rfl
          case yex23 => intro w hSw; (try dsimp only at hSw); go_simp; (try with_reducible rfl)
          simp only [Act.put, List.setIfInBounds_toArray, List.set_cons_zero, List.set_cons_succ]
          refine wpAnyH_ready (rs := [18]) (by kernel_rfl) (by simp) ?_
          refine AllReadyH.cons (o := ?oex24) ?hex24 (fun K hK => ?sex24) AllReadyH.nil
          case hex24 => simp only [List.getElem?_toArray, List.getElem?_cons_zero, List.getElem?_cons_succ]; rfl
          go_simp
          refine (HVV.out _ (HK7.out.trans' hHeld.1)).2.mono ?_
          rintro e w8 ⟨rfl, kw8⟩
          have Hw8 := hS24 _ (hHeld.1.trans' kw8)
          go_wp2_with fail
          refine hK.out _ _ (Hw8) (fun hHeld => ?_)
          clear hK K
          try simp only [Act.put, List.setIfInBounds_toArray, List.set_cons_zero, List.set_cons_succ]
          refine wpAnyH_ready (rs := [24]) (by kernel_rfl) (by simp) ?_
          refine AllReadyH.cons (o := ?oex25) ?hex25 (fun K hK => ?sex25) AllReadyH.nil
          case hex25 => simp only [List.getElem?_toArray, List.getElem?_cons_zero, List.getElem?_cons_succ]; rfl
          go_simp
          refine (HVV.out _ (HK7.out.trans' hHeld.1)).1.mono ?_
          rintro e w9 ⟨rfl, kw9⟩
          have Hw9 := hS24 _ (hHeld.1.trans' kw9)
          go_wp2_with fail
          refine hK.out _ _ (Hw9) (fun hHeld => ?_)
          clear hK K
          try simp only [Act.put, List.setIfInBounds_toArray, List.set_cons_zero, List.set_cons_succ]
          refine wpAnyH_take (i := 25) (v := ?vex26) (oi := ?oex26) ?hex26 (by kernel_rfl) (by kernel_rfl) (by kernel_rfl) (fun _ _ _ h => h) (Or.inl ⟨?wex26, ?yex26⟩) hHeld ?rex26
          case hex26 => simp only [List.getElem?_toArray, List.getElem?_cons_zero, List.getElem?_cons_succ]; rfl
          case wex26 => rfl
          case yex26 => intro w hSw; (try dsimp only at hSw); go_simp; (try with_reducible rfl)
          simp only [Act.put, List.setIfInBounds_toArray, List.set_cons_zero, List.set_cons_succ]
          refine wpAnyH_take (i := 26) (v := ?vex27) (oi := ?oex27) ?hex27 (by kernel_rfl) (by kernel_rfl) (by kernel_rfl) (fun _ _ _ h => h) (Or.inl ⟨?wex27, ?yex27⟩) hHeld ?rex27
          case hex27 => simp only [List.getElem?_toArray, List.getElem?_cons_zero, List.getElem?_cons_succ]; rfl
          case wex27 => rfl
          case yex27 => intro w hSw; (try dsimp only at hSw); go_simp; (try with_reducible rfl)
          simp only [Act.put, List.setIfInBounds_toArray, List.set_cons_zero, List.set_cons_succ]
          refine wpAnyH_done (by kernel_rfl) ?_ _
          refine NoPanic.normal ?_
          have HH9 := hide hHeld.1
          clear hHeld Hw8 Hw9 hS24
          go_wp2_with fail
          go_round
          case rel => exact ⟨k' + 1, by omega, by go_num, (HHR.out.trans' HK7.out).trans' HH9.out⟩
          case measure => simp [intOf]; omega
        · obtain rfl : k' = n2 := by omega
          have hlz : ¬ (k' : Int) < k' := by omega
          have HE2 := hide (HE.out.no hkr)
          have HHR := hide hkr
          have hlw := vlen_any (L := mkL ns2) HE2.out.v1.choose_spec.blk HE2.out.v1.choose_spec.mp
          rw [mkL_len] at hlw
          rcases f with _ | _
          · have e1 := HFIN.out.no (.inl rfl)
            rw [e1, ← HNL.out] at hlw
            clear e1 hkr
            go_wp2_with fail
            refine hlw.mono ?_
            rintro e w' ⟨rfl, rfl⟩
            go_wp2_with fail
            refine (awake12_any _).mono ?_
            rintro e w9 ⟨rfl, k9⟩
            go_wp2_with fail
            go_ret
            exact ⟨rfl, (K0.out.trans' HE2.out.kp).trans' k9⟩
          · have hbox := HBX.out.keep HE2.out.kp fun f => f
            obtain ⟨p0, p1, p2, p3⟩ := hbox.cell
            have hhas := vhas_any (L := mkL ns2) HE2.out.v1.choose_spec.blk HE2.out.v1.choose_spec.mp HS.out
            clear hlw hkr
            rcases hkk : kn (mkL ns2) s with _ | _
            · rw [hkk] at hhas
              have e1 := HFIN.out.no (.inr hkk)
              have HH := hide hhas
              unfold shV at HH
              clear hhas hkk hbox
              go_wp2_with fail
              refine HH.out.mono ?_
              rintro e w7 ⟨rfl, k7⟩
              have HE7 := hide (HE2.out.no k7)
              have hlw := vlen_any (L := mkL ns2) HE7.out.v1.choose_spec.blk HE7.out.v1.choose_spec.mp
              rw [mkL_len, e1, ← HNL.out] at hlw
              clear p0 p1 p2 p3 HH k7 e1
              go_wp2_with fail
              refine hlw.mono ?_
              rintro e w' ⟨rfl, rfl⟩
              go_wp2_with fail
              refine (awake12_any _).mono ?_
              rintro e w9 ⟨rfl, k9⟩
              go_wp2_with fail
              go_ret
              exact ⟨rfl, (K0.out.trans' HE7.out.kp).trans' k9⟩
            · rw [hkk] at hhas
              obtain ⟨e1, e2, e3⟩ := HFIN.out.yes HDL.out hkk
              obtain ⟨r0, r1, r2, r3⟩ := HO.out.get (show ns.length < ns2.length by omega) HKN.out
              rw [e2] at r2 r3
              rw [e3] at r3
              have HH := hide hhas
              unfold shV at HH
              obtain ⟨l2, hl2⟩ : ∃ l2 : Nat, (k' : Int) + 1 = (l2 : Int) := ⟨k' + 1, by omega⟩
              have hlz2 : ns2.length = l2 := by have := HNL.out; omega
              obtain ⟨tb, htb⟩ : ∃ tb, tb = strOf bs := ⟨_, rfl⟩
              have HTB := hide htb
              have HL2 := hide hl2
              clear hhas hkk e1 e2 e3 r0 r1 hbox htb hl2
              go_wp2_with fail
              refine HH.out.mono ?_
              rintro e w7 ⟨rfl, k7⟩
              have HE7 := hide (HE2.out.no k7)
              have hbox7 := HBX.out.keep HE7.out.kp fun f => f
              have hget := vget_any HE7.out.v1.choose_spec HS.out
              rw [r2, r3] at hget
              have HG := hide hget
              unfold shV at HG
              clear p0 p1 p2 p3 HH k7 hget r2 r3
              obtain ⟨p0, p1, p2, p3⟩ := hbox7.cell
              go_wp2_with fail
              refine HG.out.mono ?_
              rintro e w8 ⟨A7, n7, c7, rfl, ho7, k8⟩
              have HE8 := hide (HE7.out.no k8)
              have hlw := vlen_any (L := mkL ns2) HE8.out.v1.choose_spec.blk HE8.out.v1.choose_spec.mp
              rw [mkL_len, hlz2] at hlw
              have v7 := conv_bts ho7.bts
              have v8 := conv_bts (HB.out.no HE8.out.kp)
              rw [← HTB.out] at v7 v8
              have hl2 : IntKind.i64.wrap ((k' : Int) + 1) = (l2 : Int) := by rw [HL2.out, IntKind.wrap_i64]; have := HL2.out; omega
              have hlb : l2 ≤ 31 := by have := HL2.out; omega
              clear p0 p1 p2 p3 HG k8 ho7 hbox7 hlz2
              go_wp2_with fail
              refine hlw.mono ?_
              rintro e w' ⟨rfl, rfl⟩
              go_wp2_with fail
              refine (awake12_any _).mono ?_
              rintro e w9 ⟨rfl, k9⟩
              go_wp2_with fail
              go_ret
              exact ⟨rfl, (K0.out.trans' HE8.out.kp).trans' k9⟩
theorem vaultkeeps_below (W : World) {A0 A1 : Option Addr} {n0 c0 n1 c1 s : Nat} {ds : List ActV} {bs : List UInt8} (h0 : ActsV W A0 n0 ds) (hs : s < N96) (hb : Bts W (.slice A1 n1 c1) bs) (z y : Int) :
    Calls Try.prog 3 #[.slice A0 n0 c0, shV s, .slice A1 n1 c1, .int .i64 z, .int .i64 y] W fun e W' => e = .returned (.bool true) ∧ Below W.heap.size W W' :=
  (vaultkeeps_any W h0 hs hb z y).mono fun e W' p => ⟨p.1, p.2.below0⟩
end Go.Proofs.Ytndghapdpfgmoaa
