/- VaultPlays walked: it returns true for any numbers and any acts. No condition. -/
import Derived.Test.YtndghapdpfgmoaaGreatVqf
import Derived.Test.YtndghapdpfgmoaaGreatVqd
import Derived.Test.YtndghapdpfgmoaaGreatVgo
import Derived.Test.YtndghapdpfgmoaaGreatVgm
namespace Go.Proofs.YtndghapdpfgmoaaGreat
open Go.RowKit
set_option linter.unusedVariables false
set_option maxRecDepth 20000
set_option linter.unusedSimpArgs false

theorem ActVAt.all {w : World} {B off m c' : Nat} {A' : Option Addr} {d : ActV} (h : ActVAt w B off d A' m c') : w.cell? ⟨B, off, none⟩ = some (.int .i64 d.kind) ∧ w.cell? ⟨B, off + 1, none⟩ = some (.int .u32 (cO d.s : Int)) ∧ w.cell? ⟨B, off + 2, none⟩ = some (.int .u16 (cS d.s : Int)) ∧ w.cell? ⟨B, off + 3, none⟩ = some (.int .u16 (cL d.s : Int)) ∧ w.cell? ⟨B, off + 4, none⟩ = some (.int .u32 (cG d.s : Int)) ∧ w.cell? ⟨B, off + 5, none⟩ = some (.slice A' m c') ∧ w.cell? ⟨B, off + 6, none⟩ = some (.int .i64 d.n) ∧ w.cell? ⟨B, off + 7, none⟩ = some (.int .i64 d.m) ∧ w.cell? ⟨B, off + 8, none⟩ = some (.int .u8 (d.bits.toNat : Int)) := ⟨h.c0, h.c1, h.c2, h.c3, h.c4, h.c5, h.c6, h.c7, h.c8⟩
set_option maxRecDepth 100000 in
set_option maxHeartbeats 8000000 in
theorem vaultplays_any (W : World) (x y : Nat) (hx : x < 256) (hy : y < 256) {A0 : Option Addr} {n0 c0 : Nat} {ds : List ActV} (h0 : ActsV W A0 n0 ds) :
    Calls Tryz.prog 3 #[.int .u8 (x : Int), .int .u8 (y : Int), .slice A0 n0 c0] W (TruePost W) := by
  have HA0 := hide h0
  clear h0
  go_enter Tryz.func3, Tryz.ntmps3
  go_wp2_with fail
  refine (awake12_any _).mono ?_
  rintro e w0 ⟨rfl, k0⟩
  have K0 := hide k0
  clear k0
  go_wp2_with fail
  refine (light12_any (HA0.out.no K0.out)).mono ?_
  rintro e w' ⟨bl, rfl, rfl, hl⟩
  rcases bl with _ | _
  · clear hl
    go_wp2_with fail
    refine (awake12_any _).mono ?_
    rintro e w1 ⟨rfl, k1⟩
    go_wp2_with fail
    go_ret
    exact ⟨rfl, K0.out.trans' k1⟩
  obtain ⟨hl1, hl2⟩ := hl rfl
  have HL2 := hide hl2
  have hn30 : n0 ≤ 30 := by rw [HA0.out.len]; exact hl1
  clear hl hl1 hl2
  obtain ⟨n, hn⟩ : ∃ n, n = 1 + x % 9 := ⟨_, rfl⟩
  obtain ⟨z, hz⟩ : ∃ z, z = 1 + y := ⟨_, rfl⟩
  have e1 : (1 : Int) + (x : Int) % 9 = (n : Int) := by omega
  have e2 : (1 : Int) + (y : Int) = (z : Int) := by omega
  have hn1 : 1 ≤ n := by omega
  have hn9 : n ≤ 9 := by omega
  have hn2 : n ≤ 1024 := by omega
  have hz1 : 1 ≤ z := by omega
  have hz2 : z ≤ 4096 := by omega
  clear hn hz
  go_wp2_with fail
  clear e1 e2 hx hy
  refine (pnew_yes w0 n z hn1 hn2 hz1 hz2).mono ?_
  rintro e w1 ⟨gd, rfl, _, hD1, k1⟩
  have HD1 := hide hD1
  have HK1 := hide (K0.out.trans' k1)
  have HW0 : Hid (W.heap.size ≤ w0.heap.size) := K0.out.size
  have HW1 : Hid (w0.heap.size ≤ w1.heap.size) := k1.size
  clear hD1 k1
  go_wp2_with fail
  refine (vopen_any HD1.out).mono ?_
  rintro e w2 ⟨g, b, rfl, _, _, hv2, k2⟩
  have HV2 : Hid (VtR w2 (fun k => w0.heap.size ≤ k ∧ k < w2.heap.size) g gd b (Vt.opened (Dk.new n z))) := hv2.lt.mono fun k f => ⟨f.1.elim (fun f => f) fun f => Nat.le_trans HW1.out f, f.2⟩
  have HK2 := hide (HK1.out.trans' k2)
  clear hv2 k2
  go_wp2_with fail
  refine (rnew_any w2 (fun k => w0.heap.size ≤ k ∧ k < w2.heap.size) (fun k f => f.2) n z hn1 hn2 hz1 hz2).mono ?_
  rintro e w3 ⟨v3, rfl, hR3, k3⟩
  have HR3 := hide hR3
  have HK3 := hide k3
  clear hR3 k3
  go_wp2_with fail
  refine (ropen12_any HR3.out).mono ?_
  rintro e w4 ⟨v4, rfl, ⟨vc, vl, vk, cs, ls, rfl, hR4⟩, k4⟩
  obtain ⟨gc, cc, Ax, cl, Bx, ck, rfl, rfl, rfl⟩ := hR4.forms
  have hI0 := VpS.begin ((HV2.out.no HK3.out).no k4) hR4 (fun k f => Nat.le_trans HW0.out f.1) ((HK2.out.trans' HK3.out).trans' k4)
  have HI0 := hide (show VpE W gd g b w4.heap.size 0 _ from ⟨_, _, _, _, _, _, _, _, _, _, hI0, by show (List.replicate n []).length ≤ 9; simpa using hn9, Nat.zero_le _, Nat.zero_le _⟩)
  clear hI0 hR4 k4 hn9
  unfold rvV id
  go_upto_region 9 with (fail)
  generalize w4.alloc (.cells #[.int .i64 ((Vt.opened (Dk.new n z)).D.size : Int), .slice (some ⟨gc, 0, none⟩) (Vt.opened (Dk.new n z)).D.cells.length cc, .slice Ax (Vt.opened (Dk.new n z)).D.loose.length cl, .int .i64 ((Vt.opened (Dk.new n z)).D.syncs : Int), .slice Bx (Vt.opened (Dk.new n z)).L.length ck] 38) = w5 at HI0 ⊢
  generalize w4.heap.size = s at HI0 ⊢
  go_wp2_with fail
  go_loopw [11, 14] (fun v i wr => ∃ k g b : Nat, k ≤ n0 ∧ v = .pointer (some ⟨g, 0, none⟩) ∧ i = .int .i64 (k : Int) ∧ VpE W gd g b s k wr) (fun _ i _ => n0 - (intOf i).toNat)
  case atStart => exact ⟨0, g, b, Nat.zero_le _, rfl, rfl, HI0.out⟩
  case round =>
    obtain ⟨k, g, b, hk, rfl, rfl, hI⟩ := hrel
    by_cases hlt : k < n0
    · have hi : (k : Int) < (n0 : Int) := by omega
      obtain ⟨d, hd⟩ : ∃ d, ds[k]? = some d := ⟨_, List.getElem?_eq_getElem (by have := HA0.out.len; omega)⟩
      obtain ⟨V, gc, cc, Ax, cl, Bx, ck, cs, ls, G, hS, hc9, hlo, hsy⟩ := hI
      obtain ⟨B, off, A', m, c', rfl, ha⟩ := HA0.out.at_ k d hd
      have HBD : Hid (d.b.length ≤ 200) := HL2.out d (List.mem_of_getElem? hd)
      have hms : m ≤ 200 := by have h1 := ha.bts.len; have h2 := HBD.out; omega
      have HC9 := hide hc9
      have HLO := hide hlo
      have HSY := hide hsy
      have HBT := hide ha.bts
      have HRM := hide ha.room
      have HNM := hide ha.nm
      have HAC : Hid (∀ w', Kp No W w' → ActVAt w' B (off + k * 9) d A' m c') := fun w' hk => ha.no hk
      have HSD := hide (hS.no (Kp.refl No wr).drew)
      clear hd ha hS hc9 hlo hsy HI0
      go_wp2_with fail
      refine wp_region_noPanic ?_
      refine wp_region_held_drew (S := fun w' => w'.cell? ⟨B, off + k * 9, none⟩ = some (.int .i64 d.kind) ∧ w'.cell? ⟨B, off + k * 9 + 1, none⟩ = some (.int .u32 (cO d.s : Int)) ∧ w'.cell? ⟨B, off + k * 9 + 2, none⟩ = some (.int .u16 (cS d.s : Int)) ∧ w'.cell? ⟨B, off + k * 9 + 3, none⟩ = some (.int .u16 (cL d.s : Int)) ∧ w'.cell? ⟨B, off + k * 9 + 4, none⟩ = some (.int .u32 (cG d.s : Int)) ∧ w'.cell? ⟨B, off + k * 9 + 5, none⟩ = some (.slice A' m c') ∧ w'.cell? ⟨B, off + k * 9 + 6, none⟩ = some (.int .i64 d.n) ∧ w'.cell? ⟨B, off + k * 9 + 7, none⟩ = some (.int .i64 d.m) ∧ w'.cell? ⟨B, off + k * 9 + 8, none⟩ = some (.int .u8 (d.bits.toNat : Int))) (by kernel_rfl) ((HAC.out _ HSD.out.kp).all) (fun hHeld => ?_)
      generalize wr.drew = wd at HSD hHeld ⊢
      refine wpAnyH_take (i := 0) (v := ?vcx1) (oi := ?ocx1) ?hcx1 (by kernel_rfl) (by kernel_rfl) (by kernel_rfl) (fun _ _ _ h => h) (Or.inl ⟨?wcx1, ?ycx1⟩) hHeld ?rcx1
      case hcx1 => simp only [List.getElem?_toArray, List.getElem?_cons_zero, List.getElem?_cons_succ]; rfl
      case wcx1 => rfl
      case ycx1 => intro w hSw; (try dsimp only at hSw); go_simp; (try with_reducible rfl)
      simp only [Act.put, List.setIfInBounds_toArray, List.set_cons_zero, List.set_cons_succ]
      refine wpAnyH_take (i := 1) (v := ?vcx2) (oi := ?ocx2) ?hcx2 (by kernel_rfl) (by kernel_rfl) (by kernel_rfl) (fun _ _ _ h => h) (Or.inl ⟨?wcx2, ?ycx2⟩) hHeld ?rcx2
      case hcx2 => simp only [List.getElem?_toArray, List.getElem?_cons_zero, List.getElem?_cons_succ]; rfl
      case wcx2 => rfl
      case ycx2 => intro w hSw; (try dsimp only at hSw); go_simp; (try with_reducible rfl)
      simp only [Act.put, List.setIfInBounds_toArray, List.set_cons_zero, List.set_cons_succ]
      refine wpAnyH_take (i := 3) (v := ?vcx3) (oi := ?ocx3) ?hcx3 (by kernel_rfl) (by kernel_rfl) (by kernel_rfl) (fun _ _ _ h => h) (Or.inl ⟨?wcx3, ?ycx3⟩) hHeld ?rcx3
      case hcx3 => simp only [List.getElem?_toArray, List.getElem?_cons_zero, List.getElem?_cons_succ]; rfl
      case wcx3 => rfl
      case ycx3 => intro w hSw; (try dsimp only at hSw); go_simp; (try with_reducible rfl)
      simp only [Act.put, List.setIfInBounds_toArray, List.set_cons_zero, List.set_cons_succ]
      refine wpAnyH_take (i := 4) (v := ?vcx4) (oi := ?ocx4) ?hcx4 (by kernel_rfl) (by kernel_rfl) (by kernel_rfl) (fun _ _ _ h => h) (Or.inl ⟨?wcx4, ?ycx4⟩) hHeld ?rcx4
      case hcx4 => simp only [List.getElem?_toArray, List.getElem?_cons_zero, List.getElem?_cons_succ]; rfl
      case wcx4 => rfl
      case ycx4 => intro w hSw; (try dsimp only at hSw); go_simp; (try with_reducible rfl)
      simp only [Act.put, List.setIfInBounds_toArray, List.set_cons_zero, List.set_cons_succ]
      refine wpAnyH_take (i := 5) (v := ?vcx5) (oi := ?ocx5) ?hcx5 (by kernel_rfl) (by kernel_rfl) (by kernel_rfl) (fun _ _ _ h => h) (Or.inl ⟨?wcx5, ?ycx5⟩) hHeld ?rcx5
      case hcx5 => simp only [List.getElem?_toArray, List.getElem?_cons_zero, List.getElem?_cons_succ]; rfl
      case wcx5 => rfl
      case ycx5 => intro w hSw; (try dsimp only at hSw); go_simp; (try with_reducible rfl)
      simp only [Act.put, List.setIfInBounds_toArray, List.set_cons_zero, List.set_cons_succ]
      refine wpAnyH_take (i := 6) (v := ?vcx6) (oi := ?ocx6) ?hcx6 (by kernel_rfl) (by kernel_rfl) (by kernel_rfl) (fun _ _ _ h => h) (Or.inl ⟨?wcx6, ?ycx6⟩) hHeld ?rcx6
      case hcx6 => simp only [List.getElem?_toArray, List.getElem?_cons_zero, List.getElem?_cons_succ]; rfl
      case wcx6 => rfl
      case ycx6 => intro w hSw; (try dsimp only at hSw); go_simp; (try with_reducible rfl)
      simp only [Act.put, List.setIfInBounds_toArray, List.set_cons_zero, List.set_cons_succ]
      refine wpAnyH_ready (rs := [2]) (by kernel_rfl) (by simp) ?_
      refine AllReadyH.cons (o := ?ocx7) ?hcx7 (fun K hK => ?scx7) AllReadyH.nil
      case hcx7 => simp only [List.getElem?_toArray, List.getElem?_cons_zero, List.getElem?_cons_succ]; rfl
      obtain ⟨x0, x1, x2, x3, x4⟩ := HSD.out.bx.cell
      go_simp
      refine hK.out _ _ (hHeld) (fun hHeld => ?_)
      clear hK K
      try simp only [Act.put, List.setIfInBounds_toArray, List.set_cons_zero, List.set_cons_succ]
      refine wpAnyH_ready (rs := [7]) (by kernel_rfl) (by simp) ?_
      refine AllReadyH.cons (o := ?ocx8) ?hcx8 (fun K hK => ?scx8) AllReadyH.nil
      case hcx8 => simp only [List.getElem?_toArray, List.getElem?_cons_zero, List.getElem?_cons_succ]; rfl
      go_simp
      clear x0 x1 x2 x3 x4
      refine (does12_any (X0 := fun k => k = s) HSD.out.vt ⟨_, _, _, _, _, rfl, HSD.out.rv⟩ (fun k f => (HSD.out.far k f).2.2) (HSD.out.bt HBT.out HRM.out) hms HNM.out (by have := HC9.out; omega) (by have := HLO.out; omega) (by have := HSY.out; omega)).mono ?_
      rintro e w5 ⟨g1, b1, V1, v1, G1, rfl, hv1, ⟨vc1, vl1, vk1, cs1, ls1, rfl, hr1⟩, hG1, hk1, hN1⟩
      obtain ⟨gc1, cc1, A1, cl1, B1, ck1, rfl, rfl, rfl⟩ := hr1.forms
      have ha5 := (HAC.out _ (HSD.out.mid hk1)).all
      have hbx5 := HSD.out.box hk1
      have HS6 := hide (HSD.out.does hv1 hr1 hG1 hk1)
      have HN := hide hN1
      clear hv1 hr1 hG1 hk1 hN1
      unfold rvV
      go_wp2_with fail
      refine hK.out _ _ (ha5) (fun hHeld => ?_)
      clear hK K
      try simp only [Act.put, List.setIfInBounds_toArray, List.set_cons_zero, List.set_cons_succ]
      refine wpAnyH_take (i := 8) (v := ?vcx9) (oi := ?ocx9) ?hcx9 (by kernel_rfl) (by kernel_rfl) (by kernel_rfl) (fun _ _ _ h => h) (Or.inl ⟨?wcx9, ?ycx9⟩) hHeld ?rcx9
      case hcx9 => simp only [List.getElem?_toArray, List.getElem?_cons_zero, List.getElem?_cons_succ]; rfl
      case wcx9 => rfl
      case ycx9 => intro w hSw; (try dsimp only at hSw); go_simp; (try with_reducible rfl)
      simp only [Act.put, List.setIfInBounds_toArray, List.set_cons_zero, List.set_cons_succ]
      refine wpAnyH_take (i := 9) (v := ?vcx10) (oi := ?ocx10) ?hcx10 (by kernel_rfl) (by kernel_rfl) (by kernel_rfl) (fun _ _ _ h => h) (Or.inl ⟨?wcx10, ?ycx10⟩) hHeld ?rcx10
      case hcx10 => simp only [List.getElem?_toArray, List.getElem?_cons_zero, List.getElem?_cons_succ]; rfl
      case wcx10 => rfl
      case ycx10 => intro w hSw; (try dsimp only at hSw); go_simp; (try with_reducible rfl)
      simp only [Act.put, List.setIfInBounds_toArray, List.set_cons_zero, List.set_cons_succ]
      refine wpAnyH_take (i := 10) (v := ?vcx11) (oi := ?ocx11) ?hcx11 (by kernel_rfl) (by kernel_rfl) (by kernel_rfl) (fun _ _ _ h => h) (Or.inl ⟨?wcx11, ?ycx11⟩) hHeld ?rcx11
      case hcx11 => simp only [List.getElem?_toArray, List.getElem?_cons_zero, List.getElem?_cons_succ]; rfl
      case wcx11 => rfl
      case ycx11 => intro w hSw; (try dsimp only at hSw); go_simp; (try with_reducible rfl)
      simp only [Act.put, List.setIfInBounds_toArray, List.set_cons_zero, List.set_cons_succ]
      refine wpAnyH_take (i := 11) (v := ?vcx12) (oi := ?ocx12) ?hcx12 (by kernel_rfl) (by kernel_rfl) (by kernel_rfl) (fun _ _ _ h => h) (Or.inl ⟨?wcx12, ?ycx12⟩) hHeld ?rcx12
      case hcx12 => simp only [List.getElem?_toArray, List.getElem?_cons_zero, List.getElem?_cons_succ]; rfl
      case wcx12 => rfl
      case ycx12 => intro w hSw; (try dsimp only at hSw); go_simp; (try with_reducible rfl)
      simp only [Act.put, List.setIfInBounds_toArray, List.set_cons_zero, List.set_cons_succ]
      refine wpAnyH_take (i := 12) (v := ?vcx13) (oi := ?ocx13) ?hcx13 (by kernel_rfl) (by kernel_rfl) (by kernel_rfl) (fun _ _ _ h => h) (Or.inl ⟨?wcx13, ?ycx13⟩) hHeld ?rcx13
      case hcx13 => simp only [List.getElem?_toArray, List.getElem?_cons_zero, List.getElem?_cons_succ]; rfl
      case wcx13 => rfl
      case ycx13 => intro w hSw; (try dsimp only at hSw); go_simp; (try with_reducible rfl)
      simp only [Act.put, List.setIfInBounds_toArray, List.set_cons_zero, List.set_cons_succ]
      refine wpAnyH_ready (rs := [13]) (by kernel_rfl) (by simp) ?_
      refine AllReadyH.cons (o := ?ocx14) ?hcx14 (fun K hK => ?scx14) AllReadyH.nil
      case hcx14 => simp only [List.getElem?_toArray, List.getElem?_cons_zero, List.getElem?_cons_succ]; rfl
      obtain ⟨y0, y1, y2, y3, y4⟩ := hbx5.cell
      have f0 := hbx5.frozen 0
      have f1 := hbx5.frozen 1
      have f2 := hbx5.frozen 2
      have f3 := hbx5.frozen 3
      have f4 := hbx5.frozen 4
      go_simp
      refine hK.out _ _ ((HAC.out _ HS6.out.kp).all) (fun hHeld => ?_)
      clear hK K
      try simp only [Act.put, List.setIfInBounds_toArray, List.set_cons_zero, List.set_cons_succ]
      refine wpAnyH_take (i := 14) (v := ?vcx15) (oi := ?ocx15) ?hcx15 (by kernel_rfl) (by kernel_rfl) (by kernel_rfl) (fun _ _ _ h => h) (Or.inl ⟨?wcx15, ?ycx15⟩) hHeld ?rcx15
      case hcx15 => simp only [List.getElem?_toArray, List.getElem?_cons_zero, List.getElem?_cons_succ]; rfl
      case wcx15 => rfl
      case ycx15 => intro w hSw; (try dsimp only at hSw); go_simp; (try with_reducible rfl)
      simp only [Act.put, List.setIfInBounds_toArray, List.set_cons_zero, List.set_cons_succ]
      refine wpAnyH_done (by kernel_rfl) ?_ _
      refine NoPanic.normal ?_
      clear hHeld ha5 hbx5 y0 y1 y2 y3 y4 f0 f1 f2 f3 f4 HSD
      generalize (((((w5.setCell ⟨s, 0, none⟩ (.int .i64 (V1.D.size : Int))).setCell ⟨s, 1, none⟩ (.slice (some ⟨gc1, 0, none⟩) V1.D.cells.length cc1)).setCell ⟨s, 2, none⟩ (.slice A1 V1.D.loose.length cl1)).setCell ⟨s, 3, none⟩ (.int .i64 (V1.D.syncs : Int))).setCell ⟨s, 4, none⟩ (.slice B1 V1.L.length ck1)) = w6 at HS6 ⊢
      obtain ⟨x0, x1, x2, x3, x4⟩ := HS6.out.bx.cell
      go_wp2_with fail
      refine (same12_any HS6.out.vt ⟨_, _, _, _, _, rfl, HS6.out.rv⟩ (by rw [HN.out.n]; have := HC9.out; omega)).mono ?_
      rintro e w7 ⟨rfl, k7⟩
      have HS7 := hide (HS6.out.no k7)
      clear x0 x1 x2 x3 x4 k7 HS6
      have q1 := (HAC.out _ HS7.out.kp).c1
      have q2 := (HAC.out _ HS7.out.kp).c2
      have q3 := (HAC.out _ HS7.out.kp).c3
      have q4 := (HAC.out _ HS7.out.kp).c4
      go_wp2_with fail
      refine (vget_any HS7.out.vt HNM.out).mono ?_
      rintro e w8 ⟨A8, n8, c8, rfl, _, k8⟩
      have HS8 := hide (HS7.out.no k8)
      clear q1 q2 q3 q4 k8 HS7
      have hS19 : ∀ w', Kp No w8 w' → Kp No w8 w' ∧ w'.cell? ⟨s, 0, none⟩ = some (.int .i64 (V1.D.size : Int)) ∧ w'.cell? ⟨s, 1, none⟩ = some (.slice (some ⟨gc1, 0, none⟩) V1.D.cells.length cc1) ∧ w'.cell? ⟨s, 2, none⟩ = some (.slice A1 V1.D.loose.length cl1) ∧ w'.cell? ⟨s, 3, none⟩ = some (.int .i64 (V1.D.syncs : Int)) ∧ w'.cell? ⟨s, 4, none⟩ = some (.slice B1 V1.L.length ck1) ∧ w'.cell? ⟨B, off + k * 9 + 1, none⟩ = some (.int .u32 (cO d.s : Int)) ∧ w'.cell? ⟨B, off + k * 9 + 2, none⟩ = some (.int .u16 (cS d.s : Int)) ∧ w'.cell? ⟨B, off + k * 9 + 3, none⟩ = some (.int .u16 (cL d.s : Int)) ∧ w'.cell? ⟨B, off + k * 9 + 4, none⟩ = some (.int .u32 (cG d.s : Int)) := fun w' hk => by
        obtain ⟨z0, z1, z2, z3, z4⟩ := (HS8.out.no hk).bx.cell
        have ha := HAC.out _ (HS8.out.no hk).kp
        exact ⟨hk, z0, z1, z2, z3, z4, ha.c1, ha.c2, ha.c3, ha.c4⟩
      go_wp2_with fail
      refine wp_region_noPanic ?_
      refine wp_region_held_drew (S := fun w' => Kp No w8 w' ∧ w'.cell? ⟨s, 0, none⟩ = some (.int .i64 (V1.D.size : Int)) ∧ w'.cell? ⟨s, 1, none⟩ = some (.slice (some ⟨gc1, 0, none⟩) V1.D.cells.length cc1) ∧ w'.cell? ⟨s, 2, none⟩ = some (.slice A1 V1.D.loose.length cl1) ∧ w'.cell? ⟨s, 3, none⟩ = some (.int .i64 (V1.D.syncs : Int)) ∧ w'.cell? ⟨s, 4, none⟩ = some (.slice B1 V1.L.length ck1) ∧ w'.cell? ⟨B, off + k * 9 + 1, none⟩ = some (.int .u32 (cO d.s : Int)) ∧ w'.cell? ⟨B, off + k * 9 + 2, none⟩ = some (.int .u16 (cS d.s : Int)) ∧ w'.cell? ⟨B, off + k * 9 + 3, none⟩ = some (.int .u16 (cL d.s : Int)) ∧ w'.cell? ⟨B, off + k * 9 + 4, none⟩ = some (.int .u32 (cG d.s : Int))) (by kernel_rfl) (hS19 _ (Kp.refl No w8).drew) (fun hHeld => ?_)
      refine wpAnyH_take (i := 0) (v := ?vdx1) (oi := ?odx1) ?hdx1 (by kernel_rfl) (by kernel_rfl) (by kernel_rfl) (fun _ _ _ h => h) (Or.inl ⟨?wdx1, ?ydx1⟩) hHeld ?rdx1
      case hdx1 => simp only [List.getElem?_toArray, List.getElem?_cons_zero, List.getElem?_cons_succ]; rfl
      case wdx1 => rfl
      case ydx1 => intro w hSw; (try dsimp only at hSw); go_simp; (try with_reducible rfl)
      simp only [Act.put, List.setIfInBounds_toArray, List.set_cons_zero, List.set_cons_succ]
      refine wpAnyH_take (i := 1) (v := ?vdx2) (oi := ?odx2) ?hdx2 (by kernel_rfl) (by kernel_rfl) (by kernel_rfl) (fun _ _ _ h => h) (Or.inl ⟨?wdx2, ?ydx2⟩) hHeld ?rdx2
      case hdx2 => simp only [List.getElem?_toArray, List.getElem?_cons_zero, List.getElem?_cons_succ]; rfl
      case wdx2 => rfl
      case ydx2 => intro w hSw; (try dsimp only at hSw); go_simp; (try with_reducible rfl)
      simp only [Act.put, List.setIfInBounds_toArray, List.set_cons_zero, List.set_cons_succ]
      refine wpAnyH_take (i := 2) (v := ?vdx3) (oi := ?odx3) ?hdx3 (by kernel_rfl) (by kernel_rfl) (by kernel_rfl) (fun _ _ _ h => h) (Or.inl ⟨?wdx3, ?ydx3⟩) hHeld ?rdx3
      case hdx3 => simp only [List.getElem?_toArray, List.getElem?_cons_zero, List.getElem?_cons_succ]; rfl
      case wdx3 => rfl
      case ydx3 => intro w hSw; (try dsimp only at hSw); go_simp; (try with_reducible rfl)
      simp only [Act.put, List.setIfInBounds_toArray, List.set_cons_zero, List.set_cons_succ]
      refine wpAnyH_take (i := 3) (v := ?vdx4) (oi := ?odx4) ?hdx4 (by kernel_rfl) (by kernel_rfl) (by kernel_rfl) (fun _ _ _ h => h) (Or.inl ⟨?wdx4, ?ydx4⟩) hHeld ?rdx4
      case hdx4 => simp only [List.getElem?_toArray, List.getElem?_cons_zero, List.getElem?_cons_succ]; rfl
      case wdx4 => rfl
      case ydx4 => intro w hSw; (try dsimp only at hSw); go_simp; (try with_reducible rfl)
      simp only [Act.put, List.setIfInBounds_toArray, List.set_cons_zero, List.set_cons_succ]
      refine wpAnyH_take (i := 4) (v := ?vdx5) (oi := ?odx5) ?hdx5 (by kernel_rfl) (by kernel_rfl) (by kernel_rfl) (fun _ _ _ h => h) (Or.inl ⟨?wdx5, ?ydx5⟩) hHeld ?rdx5
      case hdx5 => simp only [List.getElem?_toArray, List.getElem?_cons_zero, List.getElem?_cons_succ]; rfl
      case wdx5 => rfl
      case ydx5 => intro w hSw; (try dsimp only at hSw); go_simp; (try with_reducible rfl)
      simp only [Act.put, List.setIfInBounds_toArray, List.set_cons_zero, List.set_cons_succ]
      refine wpAnyH_take (i := 5) (v := ?vdx6) (oi := ?odx6) ?hdx6 (by kernel_rfl) (by kernel_rfl) (by kernel_rfl) (fun _ _ _ h => h) (Or.inl ⟨?wdx6, ?ydx6⟩) hHeld ?rdx6
      case hdx6 => simp only [List.getElem?_toArray, List.getElem?_cons_zero, List.getElem?_cons_succ]; rfl
      case wdx6 => rfl
      case ydx6 => intro w hSw; (try dsimp only at hSw); go_simp; (try with_reducible rfl)
      simp only [Act.put, List.setIfInBounds_toArray, List.set_cons_zero, List.set_cons_succ]
      refine wpAnyH_ready (rs := [6]) (by kernel_rfl) (by simp) ?_
      refine AllReadyH.cons (o := ?odx7) ?hdx7 (fun K hK => ?sdx7) AllReadyH.nil
      case hdx7 => simp only [List.getElem?_toArray, List.getElem?_cons_zero, List.getElem?_cons_succ]; rfl
      go_simp
      refine (rget12_any (V := V1) ⟨_, _, _, _, _, rfl, (HS8.out.no hHeld.1).rv⟩ HNM.out).mono ?_
      rintro e w9 ⟨A9, n9, c9, rfl, _, k9⟩
      have h9 := hS19 _ (hHeld.1.trans' k9)
      go_wp2_with fail
      refine hK.out _ _ (h9) (fun hHeld => ?_)
      clear hK K
      try simp only [Act.put, List.setIfInBounds_toArray, List.set_cons_zero, List.set_cons_succ]
      refine wpAnyH_take (i := 7) (v := ?vdx8) (oi := ?odx8) ?hdx8 (by kernel_rfl) (by kernel_rfl) (by kernel_rfl) (fun _ _ _ h => h) (Or.inl ⟨?wdx8, ?ydx8⟩) hHeld ?rdx8
      case hdx8 => simp only [List.getElem?_toArray, List.getElem?_cons_zero, List.getElem?_cons_succ]; rfl
      case wdx8 => rfl
      case ydx8 => intro w hSw; (try dsimp only at hSw); go_simp; (try with_reducible rfl)
      simp only [Act.put, List.setIfInBounds_toArray, List.set_cons_zero, List.set_cons_succ]
      refine wpAnyH_take (i := 8) (v := ?vdx9) (oi := ?odx9) ?hdx9 (by kernel_rfl) (by kernel_rfl) (by kernel_rfl) (fun _ _ _ h => h) (Or.inl ⟨?wdx9, ?ydx9⟩) hHeld ?rdx9
      case hdx9 => simp only [List.getElem?_toArray, List.getElem?_cons_zero, List.getElem?_cons_succ]; rfl
      case wdx9 => rfl
      case ydx9 => intro w hSw; (try dsimp only at hSw); go_simp; (try with_reducible rfl)
      simp only [Act.put, List.setIfInBounds_toArray, List.set_cons_zero, List.set_cons_succ]
      refine wpAnyH_take (i := 9) (v := ?vdx10) (oi := ?odx10) ?hdx10 (by kernel_rfl) (by kernel_rfl) (by kernel_rfl) (fun _ _ _ h => h) (Or.inl ⟨?wdx10, ?ydx10⟩) hHeld ?rdx10
      case hdx10 => simp only [List.getElem?_toArray, List.getElem?_cons_zero, List.getElem?_cons_succ]; rfl
      case wdx10 => rfl
      case ydx10 => intro w hSw; (try dsimp only at hSw); go_simp; (try with_reducible rfl)
      simp only [Act.put, List.setIfInBounds_toArray, List.set_cons_zero, List.set_cons_succ]
      refine wpAnyH_take (i := 10) (v := ?vdx11) (oi := ?odx11) ?hdx11 (by kernel_rfl) (by kernel_rfl) (by kernel_rfl) (fun _ _ _ h => h) (Or.inl ⟨?wdx11, ?ydx11⟩) hHeld ?rdx11
      case hdx11 => simp only [List.getElem?_toArray, List.getElem?_cons_zero, List.getElem?_cons_succ]; rfl
      case wdx11 => rfl
      case ydx11 => intro w hSw; (try dsimp only at hSw); go_simp; (try with_reducible rfl)
      simp only [Act.put, List.setIfInBounds_toArray, List.set_cons_zero, List.set_cons_succ]
      refine wpAnyH_take (i := 11) (v := ?vdx12) (oi := ?odx12) ?hdx12 (by kernel_rfl) (by kernel_rfl) (by kernel_rfl) (fun _ _ _ h => h) (Or.inl ⟨?wdx12, ?ydx12⟩) hHeld ?rdx12
      case hdx12 => simp only [List.getElem?_toArray, List.getElem?_cons_zero, List.getElem?_cons_succ]; rfl
      case wdx12 => rfl
      case ydx12 => intro w hSw; (try dsimp only at hSw); go_simp; (try with_reducible rfl)
      simp only [Act.put, List.setIfInBounds_toArray, List.set_cons_zero, List.set_cons_succ]
      refine wpAnyH_done (by kernel_rfl) ?_ _
      refine NoPanic.normal ?_
      have HS9 := hide (HS8.out.no h9.1)
      clear hHeld h9 hS19
      have hS20 : ∀ w', Kp No w9 w' → Kp No w9 w' ∧ w'.cell? ⟨s, 0, none⟩ = some (.int .i64 (V1.D.size : Int)) ∧ w'.cell? ⟨s, 1, none⟩ = some (.slice (some ⟨gc1, 0, none⟩) V1.D.cells.length cc1) ∧ w'.cell? ⟨s, 2, none⟩ = some (.slice A1 V1.D.loose.length cl1) ∧ w'.cell? ⟨s, 3, none⟩ = some (.int .i64 (V1.D.syncs : Int)) ∧ w'.cell? ⟨s, 4, none⟩ = some (.slice B1 V1.L.length ck1) ∧ w'.cell? ⟨B, off + k * 9 + 1, none⟩ = some (.int .u32 (cO d.s : Int)) ∧ w'.cell? ⟨B, off + k * 9 + 2, none⟩ = some (.int .u16 (cS d.s : Int)) ∧ w'.cell? ⟨B, off + k * 9 + 3, none⟩ = some (.int .u16 (cL d.s : Int)) ∧ w'.cell? ⟨B, off + k * 9 + 4, none⟩ = some (.int .u32 (cG d.s : Int)) := fun w' hk => by
        obtain ⟨z0, z1, z2, z3, z4⟩ := (HS9.out.no hk).bx.cell
        have ha := HAC.out _ (HS9.out.no hk).kp
        exact ⟨hk, z0, z1, z2, z3, z4, ha.c1, ha.c2, ha.c3, ha.c4⟩
      obtain ⟨zc, zi, HCEL, HIX, ht⟩ : ∃ zc zi : Int, Hid (∀ w', Kp No w9 w' → Calls Tryz.prog 14 #[.pointer (some ⟨g1, 0, none⟩), .agg #[.int .u32 (cO d.s : Int), .int .u16 (cS d.s : Int), .int .u16 (cL d.s : Int), .int .u32 (cG d.s : Int)]] w' (CelPost w' zc)) ∧ Hid (∀ w', Kp No w9 w' → Calls Tryz.prog 15 #[.agg #[.int .i64 (V1.D.size : Int), .slice (some ⟨gc1, 0, none⟩) V1.D.cells.length cc1, .slice A1 V1.D.loose.length cl1, .int .i64 (V1.D.syncs : Int), .slice B1 V1.L.length ck1], .agg #[.int .u32 (cO d.s : Int), .int .u16 (cS d.s : Int), .int .u16 (cL d.s : Int), .int .u32 (cG d.s : Int)]] w' (CelPost w' zi)) ∧ ((zc < 0 ∧ zi < 0) ∨ (¬ zc < 0 ∧ ¬ zi < 0)) := by
        refine ⟨celZ V1.L d.s, ixZ V1.L d.s, fun w' hk => vcell_any (HS9.out.no hk).vt.blk (HS9.out.no hk).vt.mp HNM.out, fun w' hk => rindex_any (HS9.out.no hk).rv.kn HNM.out (HS9.out.no hk).rv.ok.kn.nm rfl rfl rfl rfl, ?_⟩
        cases hkn : kn V1.L d.s
        · rw [celZ_no hkn, ixZ_no hkn]
          exact .inl ⟨by decide, by decide⟩
        · rw [celZ_yes hkn, ixZ_yes hkn]
          exact .inr ⟨by omega, by omega⟩
      generalize V1.gtE d.s = er
      have hne : ((er : Int) != (er : Int)) = false := by simp
      rcases ht with ⟨hzc, hzi⟩ | ⟨hzc, hzi⟩
      · go_wp2_with fail
        refine wp_region_noPanic ?_
        refine wp_region_held_drew (S := fun w' => Kp No w9 w' ∧ w'.cell? ⟨s, 0, none⟩ = some (.int .i64 (V1.D.size : Int)) ∧ w'.cell? ⟨s, 1, none⟩ = some (.slice (some ⟨gc1, 0, none⟩) V1.D.cells.length cc1) ∧ w'.cell? ⟨s, 2, none⟩ = some (.slice A1 V1.D.loose.length cl1) ∧ w'.cell? ⟨s, 3, none⟩ = some (.int .i64 (V1.D.syncs : Int)) ∧ w'.cell? ⟨s, 4, none⟩ = some (.slice B1 V1.L.length ck1) ∧ w'.cell? ⟨B, off + k * 9 + 1, none⟩ = some (.int .u32 (cO d.s : Int)) ∧ w'.cell? ⟨B, off + k * 9 + 2, none⟩ = some (.int .u16 (cS d.s : Int)) ∧ w'.cell? ⟨B, off + k * 9 + 3, none⟩ = some (.int .u16 (cL d.s : Int)) ∧ w'.cell? ⟨B, off + k * 9 + 4, none⟩ = some (.int .u32 (cG d.s : Int))) (by kernel_rfl) (hS20 _ (Kp.refl No w9).drew) (fun hHeld => ?_)
        refine wpAnyH_take (i := 0) (v := ?vex1) (oi := ?oex1) ?hex1 (by kernel_rfl) (by kernel_rfl) (by kernel_rfl) (fun _ _ _ h => h) (Or.inl ⟨?wex1, ?yex1⟩) hHeld ?rex1
        case hex1 => simp only [List.getElem?_toArray, List.getElem?_cons_zero, List.getElem?_cons_succ]; rfl
        case wex1 => rfl
        case yex1 => intro w hSw; (try dsimp only at hSw); go_simp; (try with_reducible rfl)
        simp only [Act.put, List.setIfInBounds_toArray, List.set_cons_zero, List.set_cons_succ]
        refine wpAnyH_take (i := 1) (v := ?vex2) (oi := ?oex2) ?hex2 (by kernel_rfl) (by kernel_rfl) (by kernel_rfl) (fun _ _ _ h => h) (Or.inl ⟨?wex2, ?yex2⟩) hHeld ?rex2
        case hex2 => simp only [List.getElem?_toArray, List.getElem?_cons_zero, List.getElem?_cons_succ]; rfl
        case wex2 => rfl
        case yex2 => intro w hSw; (try dsimp only at hSw); go_simp; (try with_reducible rfl)
        simp only [Act.put, List.setIfInBounds_toArray, List.set_cons_zero, List.set_cons_succ]
        refine wpAnyH_take (i := 2) (v := ?vex3) (oi := ?oex3) ?hex3 (by kernel_rfl) (by kernel_rfl) (by kernel_rfl) (fun _ _ _ h => h) (Or.inl ⟨?wex3, ?yex3⟩) hHeld ?rex3
        case hex3 => simp only [List.getElem?_toArray, List.getElem?_cons_zero, List.getElem?_cons_succ]; rfl
        case wex3 => rfl
        case yex3 => intro w hSw; (try dsimp only at hSw); go_simp; (try with_reducible rfl)
        simp only [Act.put, List.setIfInBounds_toArray, List.set_cons_zero, List.set_cons_succ]
        refine wpAnyH_take (i := 3) (v := ?vex4) (oi := ?oex4) ?hex4 (by kernel_rfl) (by kernel_rfl) (by kernel_rfl) (fun _ _ _ h => h) (Or.inl ⟨?wex4, ?yex4⟩) hHeld ?rex4
        case hex4 => simp only [List.getElem?_toArray, List.getElem?_cons_zero, List.getElem?_cons_succ]; rfl
        case wex4 => rfl
        case yex4 => intro w hSw; (try dsimp only at hSw); go_simp; (try with_reducible rfl)
        simp only [Act.put, List.setIfInBounds_toArray, List.set_cons_zero, List.set_cons_succ]
        refine wpAnyH_take (i := 4) (v := ?vex5) (oi := ?oex5) ?hex5 (by kernel_rfl) (by kernel_rfl) (by kernel_rfl) (fun _ _ _ h => h) (Or.inl ⟨?wex5, ?yex5⟩) hHeld ?rex5
        case hex5 => simp only [List.getElem?_toArray, List.getElem?_cons_zero, List.getElem?_cons_succ]; rfl
        case wex5 => rfl
        case yex5 => intro w hSw; (try dsimp only at hSw); go_simp; (try with_reducible rfl)
        simp only [Act.put, List.setIfInBounds_toArray, List.set_cons_zero, List.set_cons_succ]
        refine wpAnyH_take (i := 5) (v := ?vex6) (oi := ?oex6) ?hex6 (by kernel_rfl) (by kernel_rfl) (by kernel_rfl) (fun _ _ _ h => h) (Or.inl ⟨?wex6, ?yex6⟩) hHeld ?rex6
        case hex6 => simp only [List.getElem?_toArray, List.getElem?_cons_zero, List.getElem?_cons_succ]; rfl
        case wex6 => rfl
        case yex6 => intro w hSw; (try dsimp only at hSw); go_simp; (try with_reducible rfl)
        simp only [Act.put, List.setIfInBounds_toArray, List.set_cons_zero, List.set_cons_succ]
        refine wpAnyH_take (i := 6) (v := ?vex7) (oi := ?oex7) ?hex7 (by kernel_rfl) (by kernel_rfl) (by kernel_rfl) (fun _ _ _ h => h) (Or.inl ⟨?wex7, ?yex7⟩) hHeld ?rex7
        case hex7 => simp only [List.getElem?_toArray, List.getElem?_cons_zero, List.getElem?_cons_succ]; rfl
        case wex7 => rfl
        case yex7 => intro w hSw; (try dsimp only at hSw); go_simp; (try with_reducible rfl)
        simp only [Act.put, List.setIfInBounds_toArray, List.set_cons_zero, List.set_cons_succ]
        refine wpAnyH_take (i := 7) (v := ?vex8) (oi := ?oex8) ?hex8 (by kernel_rfl) (by kernel_rfl) (by kernel_rfl) (fun _ _ _ h => h) (Or.inl ⟨?wex8, ?yex8⟩) hHeld ?rex8
        case hex8 => simp only [List.getElem?_toArray, List.getElem?_cons_zero, List.getElem?_cons_succ]; rfl
        case wex8 => rfl
        case yex8 => intro w hSw; (try dsimp only at hSw); go_simp; (try with_reducible rfl)
        simp only [Act.put, List.setIfInBounds_toArray, List.set_cons_zero, List.set_cons_succ]
        refine wpAnyH_take (i := 8) (v := ?vex9) (oi := ?oex9) ?hex9 (by kernel_rfl) (by kernel_rfl) (by kernel_rfl) (fun _ _ _ h => h) (Or.inl ⟨?wex9, ?yex9⟩) hHeld ?rex9
        case hex9 => simp only [List.getElem?_toArray, List.getElem?_cons_zero, List.getElem?_cons_succ]; rfl
        case wex9 => rfl
        case yex9 => intro w hSw; (try dsimp only at hSw); go_simp; (try with_reducible rfl)
        simp only [Act.put, List.setIfInBounds_toArray, List.set_cons_zero, List.set_cons_succ]
        refine wpAnyH_take (i := 9) (v := ?vex10) (oi := ?oex10) ?hex10 (by kernel_rfl) (by kernel_rfl) (by kernel_rfl) (fun _ _ _ h => h) (Or.inl ⟨?wex10, ?yex10⟩) hHeld ?rex10
        case hex10 => simp only [List.getElem?_toArray, List.getElem?_cons_zero, List.getElem?_cons_succ]; rfl
        case wex10 => rfl
        case yex10 => intro w hSw; (try dsimp only at hSw); go_simp; (try with_reducible rfl)
        simp only [Act.put, List.setIfInBounds_toArray, List.set_cons_zero, List.set_cons_succ]
        refine wpAnyH_take (i := 12) (v := ?vex11) (oi := ?oex11) ?hex11 (by kernel_rfl) (by kernel_rfl) (by kernel_rfl) (fun _ _ _ h => h) (Or.inl ⟨?wex11, ?yex11⟩) hHeld ?rex11
        case hex11 => simp only [List.getElem?_toArray, List.getElem?_cons_zero, List.getElem?_cons_succ]; rfl
        case wex11 => rfl
        case yex11 => intro w hSw; (try dsimp only at hSw); go_simp; (try with_reducible rfl)
        simp only [Act.put, List.setIfInBounds_toArray, List.set_cons_zero, List.set_cons_succ]
        refine wpAnyH_take (i := 13) (v := ?vex12) (oi := ?oex12) ?hex12 (by kernel_rfl) (by kernel_rfl) (by kernel_rfl) (fun _ _ _ h => h) (Or.inl ⟨?wex12, ?yex12⟩) hHeld ?rex12
        case hex12 => simp only [List.getElem?_toArray, List.getElem?_cons_zero, List.getElem?_cons_succ]; rfl
        case wex12 => rfl
        case yex12 => intro w hSw; (try dsimp only at hSw); go_simp; (try with_reducible rfl)
        simp only [Act.put, List.setIfInBounds_toArray, List.set_cons_zero, List.set_cons_succ]
        refine wpAnyH_take (i := 14) (v := ?vex13) (oi := ?oex13) ?hex13 (by kernel_rfl) (by kernel_rfl) (by kernel_rfl) (fun _ _ _ h => h) (Or.inl ⟨?wex13, ?yex13⟩) hHeld ?rex13
        case hex13 => simp only [List.getElem?_toArray, List.getElem?_cons_zero, List.getElem?_cons_succ]; rfl
        case wex13 => rfl
        case yex13 => intro w hSw; (try dsimp only at hSw); go_simp; (try with_reducible rfl)
        simp only [Act.put, List.setIfInBounds_toArray, List.set_cons_zero, List.set_cons_succ]
        refine wpAnyH_take (i := 15) (v := ?vex14) (oi := ?oex14) ?hex14 (by kernel_rfl) (by kernel_rfl) (by kernel_rfl) (fun _ _ _ h => h) (Or.inl ⟨?wex14, ?yex14⟩) hHeld ?rex14
        case hex14 => simp only [List.getElem?_toArray, List.getElem?_cons_zero, List.getElem?_cons_succ]; rfl
        case wex14 => rfl
        case yex14 => intro w hSw; (try dsimp only at hSw); go_simp; (try with_reducible rfl)
        simp only [Act.put, List.setIfInBounds_toArray, List.set_cons_zero, List.set_cons_succ]
        refine wpAnyH_take (i := 16) (v := ?vex15) (oi := ?oex15) ?hex15 (by kernel_rfl) (by kernel_rfl) (by kernel_rfl) (fun _ _ _ h => h) (Or.inl ⟨?wex15, ?yex15⟩) hHeld ?rex15
        case hex15 => simp only [List.getElem?_toArray, List.getElem?_cons_zero, List.getElem?_cons_succ]; rfl
        case wex15 => rfl
        case yex15 => intro w hSw; (try dsimp only at hSw); go_simp; (try with_reducible rfl)
        simp only [Act.put, List.setIfInBounds_toArray, List.set_cons_zero, List.set_cons_succ]
        refine wpAnyH_take (i := 17) (v := ?vex16) (oi := ?oex16) ?hex16 (by kernel_rfl) (by kernel_rfl) (by kernel_rfl) (fun _ _ _ h => h) (Or.inl ⟨?wex16, ?yex16⟩) hHeld ?rex16
        case hex16 => simp only [List.getElem?_toArray, List.getElem?_cons_zero, List.getElem?_cons_succ]; rfl
        case wex16 => rfl
        case yex16 => intro w hSw; (try dsimp only at hSw); go_simp; (try with_reducible rfl)
        simp only [Act.put, List.setIfInBounds_toArray, List.set_cons_zero, List.set_cons_succ]
        refine wpAnyH_ready (rs := [10]) (by kernel_rfl) (by simp) ?_
        refine AllReadyH.cons (o := ?oex17) ?hex17 (fun K hK => ?sex17) AllReadyH.nil
        case hex17 => simp only [List.getElem?_toArray, List.getElem?_cons_zero, List.getElem?_cons_succ]; rfl
        go_simp
        refine (HCEL.out _ hHeld.1).mono ?_
        rintro e wA ⟨rfl, kA⟩
        have hA := hS20 _ (hHeld.1.trans' kA)
        go_wp2_with fail
        refine hK.out _ _ (hA) (fun hHeld => ?_)
        clear hK K
        try simp only [Act.put, List.setIfInBounds_toArray, List.set_cons_zero, List.set_cons_succ]
        refine wpAnyH_take (i := 11) (v := ?vex18) (oi := ?oex18) ?hex18 (by kernel_rfl) (by kernel_rfl) (by kernel_rfl) (fun _ _ _ h => h) (Or.inl ⟨?wex18, ?yex18⟩) hHeld ?rex18
        case hex18 => simp only [List.getElem?_toArray, List.getElem?_cons_zero, List.getElem?_cons_succ]; rfl
        case wex18 => rfl
        case yex18 => intro w hSw; (try dsimp only at hSw); go_simp; (try with_reducible rfl)
        simp only [Act.put, List.setIfInBounds_toArray, List.set_cons_zero, List.set_cons_succ]
        refine wpAnyH_ready (rs := [18]) (by kernel_rfl) (by simp) ?_
        refine AllReadyH.cons (o := ?oex19) ?hex19 (fun K hK => ?sex19) AllReadyH.nil
        case hex19 => simp only [List.getElem?_toArray, List.getElem?_cons_zero, List.getElem?_cons_succ]; rfl
        go_simp
        refine (HIX.out _ hHeld.1).mono ?_
        rintro e wB ⟨rfl, kB⟩
        have hB := hS20 _ (hHeld.1.trans' kB)
        go_wp2_with fail
        refine hK.out _ _ (hB) (fun hHeld => ?_)
        clear hK K
        try simp only [Act.put, List.setIfInBounds_toArray, List.set_cons_zero, List.set_cons_succ]
        refine wpAnyH_take (i := 19) (v := ?vex20) (oi := ?oex20) ?hex20 (by kernel_rfl) (by kernel_rfl) (by kernel_rfl) (fun _ _ _ h => h) (Or.inl ⟨?wex20, ?yex20⟩) hHeld ?rex20
        case hex20 => simp only [List.getElem?_toArray, List.getElem?_cons_zero, List.getElem?_cons_succ]; rfl
        case wex20 => rfl
        case yex20 => intro w hSw; (try dsimp only at hSw); go_simp; (try with_reducible rfl)
        simp only [Act.put, List.setIfInBounds_toArray, List.set_cons_zero, List.set_cons_succ]
        refine wpAnyH_take (i := 20) (v := ?vex21) (oi := ?oex21) ?hex21 (by kernel_rfl) (by kernel_rfl) (by kernel_rfl) (fun _ _ _ h => h) (Or.inl ⟨?wex21, ?yex21⟩) hHeld ?rex21
        case hex21 => simp only [List.getElem?_toArray, List.getElem?_cons_zero, List.getElem?_cons_succ]; rfl
        case wex21 => rfl
        case yex21 => intro w hSw; (try dsimp only at hSw); go_simp; (try with_reducible rfl)
        simp only [Act.put, List.setIfInBounds_toArray, List.set_cons_zero, List.set_cons_succ]
        refine wpAnyH_take (i := 21) (v := ?vex22) (oi := ?oex22) ?hex22 (by kernel_rfl) (by kernel_rfl) (by kernel_rfl) (fun _ _ _ h => h) (Or.inl ⟨?wex22, ?yex22⟩) hHeld ?rex22
        case hex22 => simp only [List.getElem?_toArray, List.getElem?_cons_zero, List.getElem?_cons_succ]; rfl
        case wex22 => rfl
        case yex22 => intro w hSw; (try dsimp only at hSw); go_simp; (try with_reducible rfl)
        simp only [Act.put, List.setIfInBounds_toArray, List.set_cons_zero, List.set_cons_succ]
        refine wpAnyH_done (by kernel_rfl) ?_ _
        refine NoPanic.normal ?_
        have HSB := hide (HS9.out.no hHeld.1)
        clear hHeld hA hB hS20
        have hcc : (!decide (zc < 0) == decide (zi < 0)) = false := by by_cases h1 : zc < 0 <;> by_cases h2 : zi < 0 <;> first | (exfalso; omega) | simp [h1, h2]
        go_wp2_with fail
        all_goals (try (rename_i hh; rw [hcc] at hh; cases hh))
        go_round
        case rel => exact ⟨k + 1, g1, b1, by omega, rfl, by go_num, ⟨V1, _, _, _, _, _, _, _, _, G1, HSB.out, by rw [HN.out.n]; exact HC9.out, by have h1 := HN.out.l; have h2 := HLO.out; omega, by have h1 := HN.out.s; have h2 := HSY.out; omega⟩⟩
        case measure => simp [intOf]; omega
      · go_wp2_with fail
        refine wp_region_noPanic ?_
        refine wp_region_held_drew (S := fun w' => Kp No w9 w' ∧ w'.cell? ⟨s, 0, none⟩ = some (.int .i64 (V1.D.size : Int)) ∧ w'.cell? ⟨s, 1, none⟩ = some (.slice (some ⟨gc1, 0, none⟩) V1.D.cells.length cc1) ∧ w'.cell? ⟨s, 2, none⟩ = some (.slice A1 V1.D.loose.length cl1) ∧ w'.cell? ⟨s, 3, none⟩ = some (.int .i64 (V1.D.syncs : Int)) ∧ w'.cell? ⟨s, 4, none⟩ = some (.slice B1 V1.L.length ck1) ∧ w'.cell? ⟨B, off + k * 9 + 1, none⟩ = some (.int .u32 (cO d.s : Int)) ∧ w'.cell? ⟨B, off + k * 9 + 2, none⟩ = some (.int .u16 (cS d.s : Int)) ∧ w'.cell? ⟨B, off + k * 9 + 3, none⟩ = some (.int .u16 (cL d.s : Int)) ∧ w'.cell? ⟨B, off + k * 9 + 4, none⟩ = some (.int .u32 (cG d.s : Int))) (by kernel_rfl) (hS20 _ (Kp.refl No w9).drew) (fun hHeld => ?_)
        refine wpAnyH_take (i := 0) (v := ?vfx1) (oi := ?ofx1) ?hfx1 (by kernel_rfl) (by kernel_rfl) (by kernel_rfl) (fun _ _ _ h => h) (Or.inl ⟨?wfx1, ?yfx1⟩) hHeld ?rfx1
        case hfx1 => simp only [List.getElem?_toArray, List.getElem?_cons_zero, List.getElem?_cons_succ]; rfl
        case wfx1 => rfl
        case yfx1 => intro w hSw; (try dsimp only at hSw); go_simp; (try with_reducible rfl)
        simp only [Act.put, List.setIfInBounds_toArray, List.set_cons_zero, List.set_cons_succ]
        refine wpAnyH_take (i := 1) (v := ?vfx2) (oi := ?ofx2) ?hfx2 (by kernel_rfl) (by kernel_rfl) (by kernel_rfl) (fun _ _ _ h => h) (Or.inl ⟨?wfx2, ?yfx2⟩) hHeld ?rfx2
        case hfx2 => simp only [List.getElem?_toArray, List.getElem?_cons_zero, List.getElem?_cons_succ]; rfl
        case wfx2 => rfl
        case yfx2 => intro w hSw; (try dsimp only at hSw); go_simp; (try with_reducible rfl)
        simp only [Act.put, List.setIfInBounds_toArray, List.set_cons_zero, List.set_cons_succ]
        refine wpAnyH_take (i := 2) (v := ?vfx3) (oi := ?ofx3) ?hfx3 (by kernel_rfl) (by kernel_rfl) (by kernel_rfl) (fun _ _ _ h => h) (Or.inl ⟨?wfx3, ?yfx3⟩) hHeld ?rfx3
        case hfx3 => simp only [List.getElem?_toArray, List.getElem?_cons_zero, List.getElem?_cons_succ]; rfl
        case wfx3 => rfl
        case yfx3 => intro w hSw; (try dsimp only at hSw); go_simp; (try with_reducible rfl)
        simp only [Act.put, List.setIfInBounds_toArray, List.set_cons_zero, List.set_cons_succ]
        refine wpAnyH_take (i := 3) (v := ?vfx4) (oi := ?ofx4) ?hfx4 (by kernel_rfl) (by kernel_rfl) (by kernel_rfl) (fun _ _ _ h => h) (Or.inl ⟨?wfx4, ?yfx4⟩) hHeld ?rfx4
        case hfx4 => simp only [List.getElem?_toArray, List.getElem?_cons_zero, List.getElem?_cons_succ]; rfl
        case wfx4 => rfl
        case yfx4 => intro w hSw; (try dsimp only at hSw); go_simp; (try with_reducible rfl)
        simp only [Act.put, List.setIfInBounds_toArray, List.set_cons_zero, List.set_cons_succ]
        refine wpAnyH_take (i := 4) (v := ?vfx5) (oi := ?ofx5) ?hfx5 (by kernel_rfl) (by kernel_rfl) (by kernel_rfl) (fun _ _ _ h => h) (Or.inl ⟨?wfx5, ?yfx5⟩) hHeld ?rfx5
        case hfx5 => simp only [List.getElem?_toArray, List.getElem?_cons_zero, List.getElem?_cons_succ]; rfl
        case wfx5 => rfl
        case yfx5 => intro w hSw; (try dsimp only at hSw); go_simp; (try with_reducible rfl)
        simp only [Act.put, List.setIfInBounds_toArray, List.set_cons_zero, List.set_cons_succ]
        refine wpAnyH_take (i := 5) (v := ?vfx6) (oi := ?ofx6) ?hfx6 (by kernel_rfl) (by kernel_rfl) (by kernel_rfl) (fun _ _ _ h => h) (Or.inl ⟨?wfx6, ?yfx6⟩) hHeld ?rfx6
        case hfx6 => simp only [List.getElem?_toArray, List.getElem?_cons_zero, List.getElem?_cons_succ]; rfl
        case wfx6 => rfl
        case yfx6 => intro w hSw; (try dsimp only at hSw); go_simp; (try with_reducible rfl)
        simp only [Act.put, List.setIfInBounds_toArray, List.set_cons_zero, List.set_cons_succ]
        refine wpAnyH_take (i := 6) (v := ?vfx7) (oi := ?ofx7) ?hfx7 (by kernel_rfl) (by kernel_rfl) (by kernel_rfl) (fun _ _ _ h => h) (Or.inl ⟨?wfx7, ?yfx7⟩) hHeld ?rfx7
        case hfx7 => simp only [List.getElem?_toArray, List.getElem?_cons_zero, List.getElem?_cons_succ]; rfl
        case wfx7 => rfl
        case yfx7 => intro w hSw; (try dsimp only at hSw); go_simp; (try with_reducible rfl)
        simp only [Act.put, List.setIfInBounds_toArray, List.set_cons_zero, List.set_cons_succ]
        refine wpAnyH_take (i := 7) (v := ?vfx8) (oi := ?ofx8) ?hfx8 (by kernel_rfl) (by kernel_rfl) (by kernel_rfl) (fun _ _ _ h => h) (Or.inl ⟨?wfx8, ?yfx8⟩) hHeld ?rfx8
        case hfx8 => simp only [List.getElem?_toArray, List.getElem?_cons_zero, List.getElem?_cons_succ]; rfl
        case wfx8 => rfl
        case yfx8 => intro w hSw; (try dsimp only at hSw); go_simp; (try with_reducible rfl)
        simp only [Act.put, List.setIfInBounds_toArray, List.set_cons_zero, List.set_cons_succ]
        refine wpAnyH_take (i := 8) (v := ?vfx9) (oi := ?ofx9) ?hfx9 (by kernel_rfl) (by kernel_rfl) (by kernel_rfl) (fun _ _ _ h => h) (Or.inl ⟨?wfx9, ?yfx9⟩) hHeld ?rfx9
        case hfx9 => simp only [List.getElem?_toArray, List.getElem?_cons_zero, List.getElem?_cons_succ]; rfl
        case wfx9 => rfl
        case yfx9 => intro w hSw; (try dsimp only at hSw); go_simp; (try with_reducible rfl)
        simp only [Act.put, List.setIfInBounds_toArray, List.set_cons_zero, List.set_cons_succ]
        refine wpAnyH_take (i := 9) (v := ?vfx10) (oi := ?ofx10) ?hfx10 (by kernel_rfl) (by kernel_rfl) (by kernel_rfl) (fun _ _ _ h => h) (Or.inl ⟨?wfx10, ?yfx10⟩) hHeld ?rfx10
        case hfx10 => simp only [List.getElem?_toArray, List.getElem?_cons_zero, List.getElem?_cons_succ]; rfl
        case wfx10 => rfl
        case yfx10 => intro w hSw; (try dsimp only at hSw); go_simp; (try with_reducible rfl)
        simp only [Act.put, List.setIfInBounds_toArray, List.set_cons_zero, List.set_cons_succ]
        refine wpAnyH_take (i := 12) (v := ?vfx11) (oi := ?ofx11) ?hfx11 (by kernel_rfl) (by kernel_rfl) (by kernel_rfl) (fun _ _ _ h => h) (Or.inl ⟨?wfx11, ?yfx11⟩) hHeld ?rfx11
        case hfx11 => simp only [List.getElem?_toArray, List.getElem?_cons_zero, List.getElem?_cons_succ]; rfl
        case wfx11 => rfl
        case yfx11 => intro w hSw; (try dsimp only at hSw); go_simp; (try with_reducible rfl)
        simp only [Act.put, List.setIfInBounds_toArray, List.set_cons_zero, List.set_cons_succ]
        refine wpAnyH_take (i := 13) (v := ?vfx12) (oi := ?ofx12) ?hfx12 (by kernel_rfl) (by kernel_rfl) (by kernel_rfl) (fun _ _ _ h => h) (Or.inl ⟨?wfx12, ?yfx12⟩) hHeld ?rfx12
        case hfx12 => simp only [List.getElem?_toArray, List.getElem?_cons_zero, List.getElem?_cons_succ]; rfl
        case wfx12 => rfl
        case yfx12 => intro w hSw; (try dsimp only at hSw); go_simp; (try with_reducible rfl)
        simp only [Act.put, List.setIfInBounds_toArray, List.set_cons_zero, List.set_cons_succ]
        refine wpAnyH_take (i := 14) (v := ?vfx13) (oi := ?ofx13) ?hfx13 (by kernel_rfl) (by kernel_rfl) (by kernel_rfl) (fun _ _ _ h => h) (Or.inl ⟨?wfx13, ?yfx13⟩) hHeld ?rfx13
        case hfx13 => simp only [List.getElem?_toArray, List.getElem?_cons_zero, List.getElem?_cons_succ]; rfl
        case wfx13 => rfl
        case yfx13 => intro w hSw; (try dsimp only at hSw); go_simp; (try with_reducible rfl)
        simp only [Act.put, List.setIfInBounds_toArray, List.set_cons_zero, List.set_cons_succ]
        refine wpAnyH_take (i := 15) (v := ?vfx14) (oi := ?ofx14) ?hfx14 (by kernel_rfl) (by kernel_rfl) (by kernel_rfl) (fun _ _ _ h => h) (Or.inl ⟨?wfx14, ?yfx14⟩) hHeld ?rfx14
        case hfx14 => simp only [List.getElem?_toArray, List.getElem?_cons_zero, List.getElem?_cons_succ]; rfl
        case wfx14 => rfl
        case yfx14 => intro w hSw; (try dsimp only at hSw); go_simp; (try with_reducible rfl)
        simp only [Act.put, List.setIfInBounds_toArray, List.set_cons_zero, List.set_cons_succ]
        refine wpAnyH_take (i := 16) (v := ?vfx15) (oi := ?ofx15) ?hfx15 (by kernel_rfl) (by kernel_rfl) (by kernel_rfl) (fun _ _ _ h => h) (Or.inl ⟨?wfx15, ?yfx15⟩) hHeld ?rfx15
        case hfx15 => simp only [List.getElem?_toArray, List.getElem?_cons_zero, List.getElem?_cons_succ]; rfl
        case wfx15 => rfl
        case yfx15 => intro w hSw; (try dsimp only at hSw); go_simp; (try with_reducible rfl)
        simp only [Act.put, List.setIfInBounds_toArray, List.set_cons_zero, List.set_cons_succ]
        refine wpAnyH_take (i := 17) (v := ?vfx16) (oi := ?ofx16) ?hfx16 (by kernel_rfl) (by kernel_rfl) (by kernel_rfl) (fun _ _ _ h => h) (Or.inl ⟨?wfx16, ?yfx16⟩) hHeld ?rfx16
        case hfx16 => simp only [List.getElem?_toArray, List.getElem?_cons_zero, List.getElem?_cons_succ]; rfl
        case wfx16 => rfl
        case yfx16 => intro w hSw; (try dsimp only at hSw); go_simp; (try with_reducible rfl)
        simp only [Act.put, List.setIfInBounds_toArray, List.set_cons_zero, List.set_cons_succ]
        refine wpAnyH_ready (rs := [10]) (by kernel_rfl) (by simp) ?_
        refine AllReadyH.cons (o := ?ofx17) ?hfx17 (fun K hK => ?sfx17) AllReadyH.nil
        case hfx17 => simp only [List.getElem?_toArray, List.getElem?_cons_zero, List.getElem?_cons_succ]; rfl
        go_simp
        refine (HCEL.out _ hHeld.1).mono ?_
        rintro e wA ⟨rfl, kA⟩
        have hA := hS20 _ (hHeld.1.trans' kA)
        go_wp2_with fail
        refine hK.out _ _ (hA) (fun hHeld => ?_)
        clear hK K
        try simp only [Act.put, List.setIfInBounds_toArray, List.set_cons_zero, List.set_cons_succ]
        refine wpAnyH_take (i := 11) (v := ?vfx18) (oi := ?ofx18) ?hfx18 (by kernel_rfl) (by kernel_rfl) (by kernel_rfl) (fun _ _ _ h => h) (Or.inl ⟨?wfx18, ?yfx18⟩) hHeld ?rfx18
        case hfx18 => simp only [List.getElem?_toArray, List.getElem?_cons_zero, List.getElem?_cons_succ]; rfl
        case wfx18 => rfl
        case yfx18 => intro w hSw; (try dsimp only at hSw); go_simp; (try with_reducible rfl)
        simp only [Act.put, List.setIfInBounds_toArray, List.set_cons_zero, List.set_cons_succ]
        refine wpAnyH_ready (rs := [18]) (by kernel_rfl) (by simp) ?_
        refine AllReadyH.cons (o := ?ofx19) ?hfx19 (fun K hK => ?sfx19) AllReadyH.nil
        case hfx19 => simp only [List.getElem?_toArray, List.getElem?_cons_zero, List.getElem?_cons_succ]; rfl
        go_simp
        refine (HIX.out _ hHeld.1).mono ?_
        rintro e wB ⟨rfl, kB⟩
        have hB := hS20 _ (hHeld.1.trans' kB)
        go_wp2_with fail
        refine hK.out _ _ (hB) (fun hHeld => ?_)
        clear hK K
        try simp only [Act.put, List.setIfInBounds_toArray, List.set_cons_zero, List.set_cons_succ]
        refine wpAnyH_take (i := 19) (v := ?vfx20) (oi := ?ofx20) ?hfx20 (by kernel_rfl) (by kernel_rfl) (by kernel_rfl) (fun _ _ _ h => h) (Or.inl ⟨?wfx20, ?yfx20⟩) hHeld ?rfx20
        case hfx20 => simp only [List.getElem?_toArray, List.getElem?_cons_zero, List.getElem?_cons_succ]; rfl
        case wfx20 => rfl
        case yfx20 => intro w hSw; (try dsimp only at hSw); go_simp; (try with_reducible rfl)
        simp only [Act.put, List.setIfInBounds_toArray, List.set_cons_zero, List.set_cons_succ]
        refine wpAnyH_take (i := 20) (v := ?vfx21) (oi := ?ofx21) ?hfx21 (by kernel_rfl) (by kernel_rfl) (by kernel_rfl) (fun _ _ _ h => h) (Or.inl ⟨?wfx21, ?yfx21⟩) hHeld ?rfx21
        case hfx21 => simp only [List.getElem?_toArray, List.getElem?_cons_zero, List.getElem?_cons_succ]; rfl
        case wfx21 => rfl
        case yfx21 => intro w hSw; (try dsimp only at hSw); go_simp; (try with_reducible rfl)
        simp only [Act.put, List.setIfInBounds_toArray, List.set_cons_zero, List.set_cons_succ]
        refine wpAnyH_take (i := 21) (v := ?vfx22) (oi := ?ofx22) ?hfx22 (by kernel_rfl) (by kernel_rfl) (by kernel_rfl) (fun _ _ _ h => h) (Or.inl ⟨?wfx22, ?yfx22⟩) hHeld ?rfx22
        case hfx22 => simp only [List.getElem?_toArray, List.getElem?_cons_zero, List.getElem?_cons_succ]; rfl
        case wfx22 => rfl
        case yfx22 => intro w hSw; (try dsimp only at hSw); go_simp; (try with_reducible rfl)
        simp only [Act.put, List.setIfInBounds_toArray, List.set_cons_zero, List.set_cons_succ]
        refine wpAnyH_done (by kernel_rfl) ?_ _
        refine NoPanic.normal ?_
        have HSB := hide (HS9.out.no hHeld.1)
        clear hHeld hA hB hS20
        have hcc : (!decide (zc < 0) == decide (zi < 0)) = false := by by_cases h1 : zc < 0 <;> by_cases h2 : zi < 0 <;> first | (exfalso; omega) | simp [h1, h2]
        go_wp2_with fail
        all_goals (try (rename_i hh; rw [hcc] at hh; cases hh))
        go_round
        case rel => exact ⟨k + 1, g1, b1, by omega, rfl, by go_num, ⟨V1, _, _, _, _, _, _, _, _, G1, HSB.out, by rw [HN.out.n]; exact HC9.out, by have h1 := HN.out.l; have h2 := HLO.out; omega, by have h1 := HN.out.s; have h2 := HSY.out; omega⟩⟩
        case measure => simp [intOf]; omega
    · have hi : ¬ (k : Int) < (n0 : Int) := by omega
      have HK := hide hI.kp
      clear hI
      go_wp2_with fail
      refine (awake12_any _).mono ?_
      rintro e w9 ⟨rfl, k9⟩
      go_wp2_with fail
      go_ret
      exact ⟨rfl, HK.out.trans' k9⟩
theorem vaultplays_walk (W : World) (x y : Int) (hx : (Lit.int .u8 x).wf = true) (hy : (Lit.int .u8 y).wf = true) {A0 : Option Addr} {n0 c0 : Nat} {ds : List ActV} (h0 : ActsV W A0 n0 ds) :
    Calls Tryz.prog 3 #[.int .u8 x, .int .u8 y, .slice A0 n0 c0] W fun e W' => e = .returned (.bool true) ∧ Below W.heap.size W W' := by
  have h1 := bounds_u8 hx
  have h2 := bounds_u8 hy
  obtain ⟨x, rfl⟩ := Int.eq_ofNat_of_zero_le h1.1
  obtain ⟨y, rfl⟩ := Int.eq_ofNat_of_zero_le h2.1
  exact (vaultplays_any W x y (by omega) (by omega) h0).mono fun e W' p => ⟨p.1, p.2.below0⟩
end Go.Proofs.YtndghapdpfgmoaaGreat
