/- Law 12's same, as a contract over memory: it says yes of a vault and the document's of the same plain one. -/
import Derived.Test.YtndghapdpfgmoaaGreatVqc
import Derived.Test.YtndghapdpfgmoaaGreatVgm
namespace Go.Proofs.YtndghapdpfgmoaaGreat
open Go.RowKit
set_option linter.unusedVariables false
set_option linter.unusedSimpArgs false
set_option maxRecDepth 20000

set_option maxHeartbeats 8000000 in
theorem same12_any {w : World} {F F2 : Nat → Prop} {g gd b : Nat} {V : Vt} {v : Value} (h : VtR w F g gd b V) (hr : RvAt w F2 V v) (h12 : V.D.cells.length ≤ 12) : Calls Tryz.prog 11 #[.pointer (some ⟨g, 0, none⟩), v] w (TruePost w) := by
  obtain ⟨vc, vl, vk, cs, ls, rfl, hr⟩ := hr
  obtain ⟨gc, cc, A, cl, A2, ck, rfl, rfl, rfl⟩ := hr.forms
  have hv := Bx5.new w (.int .i64 (V.D.size : Int)) (.slice (some ⟨gc, 0, none⟩) V.D.cells.length cc) (.slice A V.D.loose.length cl) (.int .i64 (V.D.syncs : Int)) (.slice A2 V.L.length ck)
  have k0 := Kp.alloc No w (.cells #[.int .i64 (V.D.size : Int), .slice (some ⟨gc, 0, none⟩) V.D.cells.length cc, .slice A V.D.loose.length cl, .int .i64 (V.D.syncs : Int), .slice A2 V.L.length ck] 38)
  have HV := hide (h.no k0)
  have HR := hide (hr.no k0)
  have HBX := hide hv
  have HK0 := hide k0
  have hLn : V.L.length ≤ 12 := Nat.le_trans h.ok.kn.len h12
  have hll : V.lst.length = V.L.length := lst_len _ _
  have HLL := hide hll
  clear h hr hv k0 hll
  unfold rvV
  go_enter Tryz.func11, Tryz.ntmps11
  go_upto_region 1 with fail
  generalize w.alloc (.cells #[.int .i64 (V.D.size : Int), .slice (some ⟨gc, 0, none⟩) V.D.cells.length cc, .slice A V.D.loose.length cl, .int .i64 (V.D.syncs : Int), .slice A2 V.L.length ck] 38) = w0 at HV HR HBX HK0 ⊢
  generalize w.heap.size = s0 at HBX ⊢
  have HVL : Hid (∀ w', Kp No w0 w' → Calls Tryz.prog 37 #[.pointer (some ⟨g, 0, none⟩)] w' (RlPost w' V.lst)) := fun w' hk => vlist_any (HV.out.no hk) h12
  have HRL : Hid (∀ w', Kp No w0 w' → Calls Tryz.prog 38 #[.agg #[.int .i64 (V.D.size : Int), .slice (some ⟨gc, 0, none⟩) V.D.cells.length cc, .slice A V.D.loose.length cl, .int .i64 (V.D.syncs : Int), .slice A2 V.L.length ck]] w' (RlPost w' V.lst)) := fun w' hk => rlist12_any ⟨_, _, _, _, _, rfl, HR.out.no hk⟩
  have hS : ∀ w', Kp No w0 w' → Kp No w0 w' ∧ w'.cell? ⟨s0, 0, none⟩ = some (.int .i64 (V.D.size : Int)) ∧ w'.cell? ⟨s0, 1, none⟩ = some (.slice (some ⟨gc, 0, none⟩) V.D.cells.length cc) ∧ w'.cell? ⟨s0, 2, none⟩ = some (.slice A V.D.loose.length cl) ∧ w'.cell? ⟨s0, 3, none⟩ = some (.int .i64 (V.D.syncs : Int)) ∧ w'.cell? ⟨s0, 4, none⟩ = some (.slice A2 V.L.length ck) := fun w' hk => by
    obtain ⟨z0, z1, z2, z3, z4⟩ := (HBX.out.no hk).cell
    exact ⟨hk, z0, z1, z2, z3, z4⟩
  go_wp2_with fail
  refine wp_region_noPanic ?_
  refine wp_region_held_drew (S := fun w' => Kp No w0 w' ∧ w'.cell? ⟨s0, 0, none⟩ = some (.int .i64 (V.D.size : Int)) ∧ w'.cell? ⟨s0, 1, none⟩ = some (.slice (some ⟨gc, 0, none⟩) V.D.cells.length cc) ∧ w'.cell? ⟨s0, 2, none⟩ = some (.slice A V.D.loose.length cl) ∧ w'.cell? ⟨s0, 3, none⟩ = some (.int .i64 (V.D.syncs : Int)) ∧ w'.cell? ⟨s0, 4, none⟩ = some (.slice A2 V.L.length ck)) (by kernel_rfl) (hS _ (Kp.refl No w0).drew) (fun hHeld => ?_)
  refine wpAnyH_take (i := 0) (v := ?vax1) (oi := ?oax1) ?hax1 (by kernel_rfl) (by kernel_rfl) (by kernel_rfl) (fun _ _ _ h => h) (Or.inl ⟨?wax1, ?yax1⟩) hHeld ?rax1
  case hax1 => simp only [List.getElem?_toArray, List.getElem?_cons_zero, List.getElem?_cons_succ]; rfl
  case wax1 => rfl
  case yax1 => intro w hSw; (try dsimp only at hSw); go_simp; (try with_reducible rfl)
  simp only [Act.put, List.setIfInBounds_toArray, List.set_cons_zero, List.set_cons_succ]
  refine wpAnyH_take (i := 2) (v := ?vax2) (oi := ?oax2) ?hax2 (by kernel_rfl) (by kernel_rfl) (by kernel_rfl) (fun _ _ _ h => h) (Or.inl ⟨?wax2, ?yax2⟩) hHeld ?rax2
  case hax2 => simp only [List.getElem?_toArray, List.getElem?_cons_zero, List.getElem?_cons_succ]; rfl
  case wax2 => rfl
  case yax2 => intro w hSw; (try dsimp only at hSw); go_simp; (try with_reducible rfl)
  simp only [Act.put, List.setIfInBounds_toArray, List.set_cons_zero, List.set_cons_succ]
  refine wpAnyH_ready (rs := [1]) (by kernel_rfl) (by simp) ?_
  refine AllReadyH.cons (o := ?oax3) ?hax3 (fun K hK => ?sax3) AllReadyH.nil
  case hax3 => simp only [List.getElem?_toArray, List.getElem?_cons_zero, List.getElem?_cons_succ]; rfl
  go_simp
  refine (HVL.out _ hHeld.1).mono ?_
  rintro e w2 ⟨A3, n3, c3, rfl, ho2, hl2, k2⟩
  have HL2 := hide hl2
  clear hl2
  have h2 := hS _ (hHeld.1.trans' k2)
  go_wp2_with fail
  refine hK.out _ _ (h2) (fun hHeld => ?_)
  clear hK K
  try simp only [Act.put, List.setIfInBounds_toArray, List.set_cons_zero, List.set_cons_succ]
  refine wpAnyH_ready (rs := [3]) (by kernel_rfl) (by simp) ?_
  refine AllReadyH.cons (o := ?oax4) ?hax4 (fun K hK => ?sax4) AllReadyH.nil
  case hax4 => simp only [List.getElem?_toArray, List.getElem?_cons_zero, List.getElem?_cons_succ]; rfl
  go_simp
  refine (HRL.out _ hHeld.1).mono ?_
  rintro e w3 ⟨A4, n4, c4, rfl, ho3, hl3, k3⟩
  have HL3 := hide hl3
  clear hl3
  have h3 := hS _ (hHeld.1.trans' k3)
  go_wp2_with fail
  refine hK.out _ _ (h3) (fun hHeld => ?_)
  clear hK K
  try simp only [Act.put, List.setIfInBounds_toArray, List.set_cons_zero, List.set_cons_succ]
  refine wpAnyH_ready (rs := [4]) (by kernel_rfl) (by simp) ?_
  refine AllReadyH.cons (o := ?oax5) ?hax5 (fun K hK => ?sax5) AllReadyH.nil
  case hax5 => simp only [List.getElem?_toArray, List.getElem?_cons_zero, List.getElem?_cons_succ]; rfl
  go_simp
  refine hK.out _ _ (hHeld) (fun hHeld => ?_)
  clear hK K
  try simp only [Act.put, List.setIfInBounds_toArray, List.set_cons_zero, List.set_cons_succ]
  refine wpAnyH_ready (rs := [5]) (by kernel_rfl) (by simp) ?_
  refine AllReadyH.cons (o := ?oax6) ?hax6 (fun K hK => ?sax6) AllReadyH.nil
  case hax6 => simp only [List.getElem?_toArray, List.getElem?_cons_zero, List.getElem?_cons_succ]; rfl
  go_simp
  refine hK.out _ _ (hHeld) (fun hHeld => ?_)
  clear hK K
  try simp only [Act.put, List.setIfInBounds_toArray, List.set_cons_zero, List.set_cons_succ]
  refine wpAnyH_done (by kernel_rfl) ?_ _
  refine NoPanic.normal ?_
  have HK3 := hide hHeld.1
  have HO2 := hide (ho2.no k3)
  have HO3 := hide ho3
  clear hHeld h2 h3 ho2 ho3 k2 k3 hS
  have hlen := vlen_any (HV.out.no HK3.out).blk (HV.out.no HK3.out).mp
  have HLEN := hide hlen
  clear hlen
  have hn3 : n3 = V.L.length := by rw [HL2.out, HLL.out]
  have hn4 : n4 = n3 := by rw [hn3, HL3.out, HLL.out]
  subst hn4
  have HNN := hide hn3
  have hLn2 : n4 ≤ 12 := by rw [hn3]; exact hLn
  rw [← hn3] at HLEN
  clear HL2 HL3 hLn hn3
  go_wp2_with fail
  refine HLEN.out.mono ?_
  rintro e w' ⟨rfl, rfl⟩
  go_wp2_with fail
  go_loopw [7] (fun iv wr => ∃ i : Nat, i ≤ n4 ∧ iv = .int .i64 (i : Int) ∧ Kp No w3 wr) (fun iv _ => n4 - (intOf iv).toNat)
  case atStart => exact ⟨0, Nat.zero_le _, rfl, Kp.refl _ _⟩
  case round =>
    obtain ⟨i, hi, rfl, hkr⟩ := hrel
    have HKR := hide hkr
    clear hkr
    by_cases hlt : i < n4
    · have hlz : (i : Int) < n4 := by omega
      obtain ⟨t, ht⟩ : ∃ t, V.lst[i]? = some t := ⟨_, List.getElem?_eq_getElem (by have := HLL.out; have := HNN.out; omega)⟩
      have hkn : kn V.L t = true := (Vt.lst_mem t).1 (List.mem_of_getElem? ht)
      have hol := HO2.out.no HKR.out
      have how := HO3.out.no HKR.out
      have hlN : V.lst.length = n4 := by rw [HLL.out, HNN.out]
      rw [← hlN] at hol how
      obtain ⟨gl, rfl, _, l0, l1, l2, l3⟩ := nm_cell hol ht
      obtain ⟨gw, rfl, _, m0, m1, m2, m3⟩ := nm_cell how ht
      have htN : t < N96 := by
        obtain ⟨p, hp, e⟩ := kn_iff.1 hkn
        rw [← e]
        exact HV.out.ok.kn.nm p hp
      have hKB : Kp No w0 wr := HK3.out.trans' HKR.out
      have HKB := hide hKB
      have hget := vget_any (HV.out.no hKB) htN
      obtain ⟨ix, hix⟩ : ∃ ix, ix = ixl V.L t := ⟨_, rfl⟩
      obtain ⟨q, hq⟩ : ∃ q, q = cel V.L t := ⟨_, rfl⟩
      have hgx := ix_get hkn
      rw [← hix, ← hq] at hgx
      obtain ⟨gk, hgk, kc, _⟩ := (HR.out.no hKB).kn.cell hgx
      subst hgk
      have hixn : (ix : Int) < n4 := by have := kn_ix.1 hkn; rw [← hix] at this; have := HNN.out; omega
      have hixz : ¬ (ix : Int) < 0 := by omega
      have hixl : ix < V.L.length := by rw [hix]; exact kn_ix.1 hkn
      have hixm : (ix : Int) < (V.L.length : Int) := Int.ofNat_lt.2 hixl
      obtain ⟨bt, hbt⟩ : ∃ bt, bt = V.gtB t := ⟨_, rfl⟩
      obtain ⟨er, her⟩ : ∃ er, er = V.gtE t := ⟨_, rfl⟩
      obtain ⟨tb, htb⟩ : ∃ tb, tb = strOf bt := ⟨_, rfl⟩
      rw [← hbt, ← her] at hget
      have HTB := hide htb
      have HGET := hide hget
      have HTN := hide htN
      have HKC := hide kc
      have HRG0 : Hid (∀ w', Kp No wr w' → Calls Tryz.prog 13 #[.agg #[.int .i64 (V.D.size : Int), .slice (some ⟨gc, 0, none⟩) V.D.cells.length cc, .slice A V.D.loose.length cl, .int .i64 (V.D.syncs : Int), .slice (some ⟨gk, 0, none⟩) V.L.length ck], shV t] w' (RgPost w' er bt)) := fun w' hk => by
        rw [her, hbt]
        exact rget12_any ⟨_, _, _, _, _, rfl, (HR.out.no HKB.out).no hk⟩ HTN.out
      have HHAS0 : Hid (∀ w', Kp No wr w' → Calls Tryz.prog 22 #[.pointer (some ⟨g, 0, none⟩), shV t] w' (BoolPost w' true)) := fun w' hk => by
        have hv' := (HV.out.no HKB.out).no hk
        have := vhas_any hv'.blk hv'.mp HTN.out
        rwa [hkn] at this
      have HCEL0 : Hid (∀ w', Kp No wr w' → Calls Tryz.prog 14 #[.pointer (some ⟨g, 0, none⟩), shV t] w' (CelPost w' (q : Int))) := fun w' hk => by
        have hv' := (HV.out.no HKB.out).no hk
        have := vcell_any hv'.blk hv'.mp HTN.out
        rwa [celZ_yes hkn, ← hq] at this
      have HIX0 : Hid (∀ w', Kp No wr w' → Calls Tryz.prog 15 #[.agg #[.int .i64 (V.D.size : Int), .slice (some ⟨gc, 0, none⟩) V.D.cells.length cc, .slice A V.D.loose.length cl, .int .i64 (V.D.syncs : Int), .slice (some ⟨gk, 0, none⟩) V.L.length ck], shV t] w' (CelPost w' (ix : Int))) := fun w' hk => by
        have hr' := (HR.out.no HKB.out).no hk
        have := rindex_any (x0 := .int .i64 (V.D.size : Int)) (x1 := .slice (some ⟨gc, 0, none⟩) V.D.cells.length cc) (x2 := .slice A V.D.loose.length cl) (x3 := .int .i64 (V.D.syncs : Int)) hr'.kn HTN.out hr'.ok.kn.nm rfl rfl rfl rfl
        rwa [ixZ_yes hkn, ← hix] at this
      have HNM : Hid (∀ w', Kp No wr w' → w'.cell? ⟨gw, i * 4, none⟩ = some (.int .u32 (cO t : Int)) ∧ w'.cell? ⟨gw, i * 4 + 1, none⟩ = some (.int .u16 (cS t : Int)) ∧ w'.cell? ⟨gw, i * 4 + 2, none⟩ = some (.int .u16 (cL t : Int)) ∧ w'.cell? ⟨gw, i * 4 + 3, none⟩ = some (.int .u32 (cG t : Int)) ∧ w'.cell? ⟨gl, i * 4, none⟩ = some (.int .u32 (cO t : Int)) ∧ w'.cell? ⟨gl, i * 4 + 1, none⟩ = some (.int .u16 (cS t : Int)) ∧ w'.cell? ⟨gl, i * 4 + 2, none⟩ = some (.int .u16 (cL t : Int)) ∧ w'.cell? ⟨gl, i * 4 + 3, none⟩ = some (.int .u32 (cG t : Int))) := fun w' hk => ⟨kp_cell m0 hk, kp_cell m1 hk, kp_cell m2 hk, kp_cell m3 hk, kp_cell l0 hk, kp_cell l1 hk, kp_cell l2 hk, kp_cell l3 hk⟩
      unfold shV at HGET HRG0 HHAS0 HCEL0 HIX0
      clear ht hkn hol how hlN l0 l1 l2 l3 hKB hget hix hq hgx kc hbt her htb htN
      go_wp2_with fail
      refine HGET.out.mono ?_
      rintro e w5 ⟨A5, n5, c5, rfl, ho5, hk5⟩
      have HB5 := hide ho5.bts
      have HK5 := hide hk5
      have HRG : Hid (∀ w', Kp No w5 w' → Calls Tryz.prog 13 #[.agg #[.int .i64 (V.D.size : Int), .slice (some ⟨gc, 0, none⟩) V.D.cells.length cc, .slice A V.D.loose.length cl, .int .i64 (V.D.syncs : Int), .slice (some ⟨gk, 0, none⟩) V.L.length ck], .agg #[.int .u32 (cO t : Int), .int .u16 (cS t : Int), .int .u16 (cL t : Int), .int .u32 (cG t : Int)]] w' (RgPost w' er bt)) := fun w' hk => HRG0.out w' (HK5.out.trans' hk)
      have hS8 : ∀ w', Kp No w5 w' → Kp No w5 w' ∧ w'.cell? ⟨s0, 0, none⟩ = some (.int .i64 (V.D.size : Int)) ∧ w'.cell? ⟨s0, 1, none⟩ = some (.slice (some ⟨gc, 0, none⟩) V.D.cells.length cc) ∧ w'.cell? ⟨s0, 2, none⟩ = some (.slice A V.D.loose.length cl) ∧ w'.cell? ⟨s0, 3, none⟩ = some (.int .i64 (V.D.syncs : Int)) ∧ w'.cell? ⟨s0, 4, none⟩ = some (.slice (some ⟨gk, 0, none⟩) V.L.length ck) ∧ w'.cell? ⟨gw, i * 4, none⟩ = some (.int .u32 (cO t : Int)) ∧ w'.cell? ⟨gw, i * 4 + 1, none⟩ = some (.int .u16 (cS t : Int)) ∧ w'.cell? ⟨gw, i * 4 + 2, none⟩ = some (.int .u16 (cL t : Int)) ∧ w'.cell? ⟨gw, i * 4 + 3, none⟩ = some (.int .u32 (cG t : Int)) := fun w' hk => by
        obtain ⟨z0, z1, z2, z3, z4⟩ := (HBX.out.no ((HKB.out.trans' HK5.out).trans' hk)).cell
        obtain ⟨y0, y1, y2, y3, _⟩ := HNM.out w' (HK5.out.trans' hk)
        exact ⟨hk, z0, z1, z2, z3, z4, y0, y1, y2, y3⟩
      clear m0 m1 m2 m3 ho5 hk5
      go_wp2_with fail
      refine wp_region_noPanic ?_
      refine wp_region_held_drew (S := fun w' => Kp No w5 w' ∧ w'.cell? ⟨s0, 0, none⟩ = some (.int .i64 (V.D.size : Int)) ∧ w'.cell? ⟨s0, 1, none⟩ = some (.slice (some ⟨gc, 0, none⟩) V.D.cells.length cc) ∧ w'.cell? ⟨s0, 2, none⟩ = some (.slice A V.D.loose.length cl) ∧ w'.cell? ⟨s0, 3, none⟩ = some (.int .i64 (V.D.syncs : Int)) ∧ w'.cell? ⟨s0, 4, none⟩ = some (.slice (some ⟨gk, 0, none⟩) V.L.length ck) ∧ w'.cell? ⟨gw, i * 4, none⟩ = some (.int .u32 (cO t : Int)) ∧ w'.cell? ⟨gw, i * 4 + 1, none⟩ = some (.int .u16 (cS t : Int)) ∧ w'.cell? ⟨gw, i * 4 + 2, none⟩ = some (.int .u16 (cL t : Int)) ∧ w'.cell? ⟨gw, i * 4 + 3, none⟩ = some (.int .u32 (cG t : Int))) (by kernel_rfl) (hS8 _ (Kp.refl No w5).drew) (fun hHeld => ?_)
      refine wpAnyH_take (i := 0) (v := ?vbx1) (oi := ?obx1) ?hbx1 (by kernel_rfl) (by kernel_rfl) (by kernel_rfl) (fun _ _ _ h => h) (Or.inl ⟨?wbx1, ?ybx1⟩) hHeld ?rbx1
      case hbx1 => simp only [List.getElem?_toArray, List.getElem?_cons_zero, List.getElem?_cons_succ]; rfl
      case wbx1 => rfl
      case ybx1 => intro w hSw; (try dsimp only at hSw); go_simp; (try with_reducible rfl)
      simp only [Act.put, List.setIfInBounds_toArray, List.set_cons_zero, List.set_cons_succ]
      refine wpAnyH_take (i := 1) (v := ?vbx2) (oi := ?obx2) ?hbx2 (by kernel_rfl) (by kernel_rfl) (by kernel_rfl) (fun _ _ _ h => h) (Or.inl ⟨?wbx2, ?ybx2⟩) hHeld ?rbx2
      case hbx2 => simp only [List.getElem?_toArray, List.getElem?_cons_zero, List.getElem?_cons_succ]; rfl
      case wbx2 => rfl
      case ybx2 => intro w hSw; (try dsimp only at hSw); go_simp; (try with_reducible rfl)
      simp only [Act.put, List.setIfInBounds_toArray, List.set_cons_zero, List.set_cons_succ]
      refine wpAnyH_take (i := 2) (v := ?vbx3) (oi := ?obx3) ?hbx3 (by kernel_rfl) (by kernel_rfl) (by kernel_rfl) (fun _ _ _ h => h) (Or.inl ⟨?wbx3, ?ybx3⟩) hHeld ?rbx3
      case hbx3 => simp only [List.getElem?_toArray, List.getElem?_cons_zero, List.getElem?_cons_succ]; rfl
      case wbx3 => rfl
      case ybx3 => intro w hSw; (try dsimp only at hSw); go_simp; (try with_reducible rfl)
      simp only [Act.put, List.setIfInBounds_toArray, List.set_cons_zero, List.set_cons_succ]
      refine wpAnyH_take (i := 3) (v := ?vbx4) (oi := ?obx4) ?hbx4 (by kernel_rfl) (by kernel_rfl) (by kernel_rfl) (fun _ _ _ h => h) (Or.inl ⟨?wbx4, ?ybx4⟩) hHeld ?rbx4
      case hbx4 => simp only [List.getElem?_toArray, List.getElem?_cons_zero, List.getElem?_cons_succ]; rfl
      case wbx4 => rfl
      case ybx4 => intro w hSw; (try dsimp only at hSw); go_simp; (try with_reducible rfl)
      simp only [Act.put, List.setIfInBounds_toArray, List.set_cons_zero, List.set_cons_succ]
      refine wpAnyH_take (i := 4) (v := ?vbx5) (oi := ?obx5) ?hbx5 (by kernel_rfl) (by kernel_rfl) (by kernel_rfl) (fun _ _ _ h => h) (Or.inl ⟨?wbx5, ?ybx5⟩) hHeld ?rbx5
      case hbx5 => simp only [List.getElem?_toArray, List.getElem?_cons_zero, List.getElem?_cons_succ]; rfl
      case wbx5 => rfl
      case ybx5 => intro w hSw; (try dsimp only at hSw); go_simp; (try with_reducible rfl)
      simp only [Act.put, List.setIfInBounds_toArray, List.set_cons_zero, List.set_cons_succ]
      refine wpAnyH_ready (rs := [5]) (by kernel_rfl) (by simp) ?_
      refine AllReadyH.cons (o := ?obx6) ?hbx6 (fun K hK => ?sbx6) AllReadyH.nil
      case hbx6 => simp only [List.getElem?_toArray, List.getElem?_cons_zero, List.getElem?_cons_succ]; rfl
      go_simp
      refine (HRG.out _ hHeld.1).mono ?_
      rintro e w6 ⟨A6, n6, c6, rfl, b6, k6⟩
      have h6 := hS8 _ (hHeld.1.trans' k6)
      go_wp2_with fail
      refine hK.out _ _ (h6) (fun hHeld => ?_)
      clear hK K
      try simp only [Act.put, List.setIfInBounds_toArray, List.set_cons_zero, List.set_cons_succ]
      refine wpAnyH_take (i := 6) (v := ?vbx7) (oi := ?obx7) ?hbx7 (by kernel_rfl) (by kernel_rfl) (by kernel_rfl) (fun _ _ _ h => h) (Or.inl ⟨?wbx7, ?ybx7⟩) hHeld ?rbx7
      case hbx7 => simp only [List.getElem?_toArray, List.getElem?_cons_zero, List.getElem?_cons_succ]; rfl
      case wbx7 => rfl
      case ybx7 => intro w hSw; (try dsimp only at hSw); go_simp; (try with_reducible rfl)
      simp only [Act.put, List.setIfInBounds_toArray, List.set_cons_zero, List.set_cons_succ]
      refine wpAnyH_take (i := 7) (v := ?vbx8) (oi := ?obx8) ?hbx8 (by kernel_rfl) (by kernel_rfl) (by kernel_rfl) (fun _ _ _ h => h) (Or.inl ⟨?wbx8, ?ybx8⟩) hHeld ?rbx8
      case hbx8 => simp only [List.getElem?_toArray, List.getElem?_cons_zero, List.getElem?_cons_succ]; rfl
      case wbx8 => rfl
      case ybx8 => intro w hSw; (try dsimp only at hSw); go_simp; (try with_reducible rfl)
      simp only [Act.put, List.setIfInBounds_toArray, List.set_cons_zero, List.set_cons_succ]
      refine wpAnyH_take (i := 8) (v := ?vbx9) (oi := ?obx9) ?hbx9 (by kernel_rfl) (by kernel_rfl) (by kernel_rfl) (fun _ _ _ h => h) (Or.inl ⟨?wbx9, ?ybx9⟩) hHeld ?rbx9
      case hbx9 => simp only [List.getElem?_toArray, List.getElem?_cons_zero, List.getElem?_cons_succ]; rfl
      case wbx9 => rfl
      case ybx9 => intro w hSw; (try dsimp only at hSw); go_simp; (try with_reducible rfl)
      simp only [Act.put, List.setIfInBounds_toArray, List.set_cons_zero, List.set_cons_succ]
      refine wpAnyH_ready (rs := [9]) (by kernel_rfl) (by simp) ?_
      refine AllReadyH.cons (o := ?obx10) ?hbx10 (fun K hK => ?sbx10) AllReadyH.nil
      case hbx10 => simp only [List.getElem?_toArray, List.getElem?_cons_zero, List.getElem?_cons_succ]; rfl
      go_simp
      refine hK.out _ _ (hHeld) (fun hHeld => ?_)
      clear hK K
      try simp only [Act.put, List.setIfInBounds_toArray, List.set_cons_zero, List.set_cons_succ]
      refine wpAnyH_ready (rs := [10]) (by kernel_rfl) (by simp) ?_
      refine AllReadyH.cons (o := ?obx11) ?hbx11 (fun K hK => ?sbx11) AllReadyH.nil
      case hbx11 => simp only [List.getElem?_toArray, List.getElem?_cons_zero, List.getElem?_cons_succ]; rfl
      go_simp
      refine hK.out _ _ (hHeld) (fun hHeld => ?_)
      clear hK K
      try simp only [Act.put, List.setIfInBounds_toArray, List.set_cons_zero, List.set_cons_succ]
      refine wpAnyH_done (by kernel_rfl) ?_ _
      refine NoPanic.normal ?_
      have HK6 := hide hHeld.1
      have HB6 := hide b6
      clear hHeld h6 b6 k6 hS8
      have HHAS : Hid (∀ w', Kp No w6 w' → Calls Tryz.prog 22 #[.pointer (some ⟨g, 0, none⟩), .agg #[.int .u32 (cO t : Int), .int .u16 (cS t : Int), .int .u16 (cL t : Int), .int .u32 (cG t : Int)]] w' (BoolPost w' true)) := fun w' hk => HHAS0.out w' ((HK5.out.trans' HK6.out).trans' hk)
      have HCEL : Hid (∀ w', Kp No w6 w' → Calls Tryz.prog 14 #[.pointer (some ⟨g, 0, none⟩), .agg #[.int .u32 (cO t : Int), .int .u16 (cS t : Int), .int .u16 (cL t : Int), .int .u32 (cG t : Int)]] w' (CelPost w' (q : Int))) := fun w' hk => HCEL0.out w' ((HK5.out.trans' HK6.out).trans' hk)
      have HIX : Hid (∀ w', Kp No w6 w' → Calls Tryz.prog 15 #[.agg #[.int .i64 (V.D.size : Int), .slice (some ⟨gc, 0, none⟩) V.D.cells.length cc, .slice A V.D.loose.length cl, .int .i64 (V.D.syncs : Int), .slice (some ⟨gk, 0, none⟩) V.L.length ck], .agg #[.int .u32 (cO t : Int), .int .u16 (cS t : Int), .int .u16 (cL t : Int), .int .u32 (cG t : Int)]] w' (CelPost w' (ix : Int))) := fun w' hk => HIX0.out w' ((HK5.out.trans' HK6.out).trans' hk)
      have hS9 : ∀ w', Kp No w6 w' → Kp No w6 w' ∧ Bts w' (.slice A5 n5 c5) bt ∧ Bts w' (.slice A6 n6 c6) bt ∧ w'.cell? ⟨gk, ix * 5, none⟩ = some (.int .i64 (q : Int)) ∧ w'.cell? ⟨s0, 0, none⟩ = some (.int .i64 (V.D.size : Int)) ∧ w'.cell? ⟨s0, 1, none⟩ = some (.slice (some ⟨gc, 0, none⟩) V.D.cells.length cc) ∧ w'.cell? ⟨s0, 2, none⟩ = some (.slice A V.D.loose.length cl) ∧ w'.cell? ⟨s0, 3, none⟩ = some (.int .i64 (V.D.syncs : Int)) ∧ w'.cell? ⟨s0, 4, none⟩ = some (.slice (some ⟨gk, 0, none⟩) V.L.length ck) ∧ w'.cell? ⟨gw, i * 4, none⟩ = some (.int .u32 (cO t : Int)) ∧ w'.cell? ⟨gw, i * 4 + 1, none⟩ = some (.int .u16 (cS t : Int)) ∧ w'.cell? ⟨gw, i * 4 + 2, none⟩ = some (.int .u16 (cL t : Int)) ∧ w'.cell? ⟨gw, i * 4 + 3, none⟩ = some (.int .u32 (cG t : Int)) ∧ w'.cell? ⟨gl, i * 4, none⟩ = some (.int .u32 (cO t : Int)) ∧ w'.cell? ⟨gl, i * 4 + 1, none⟩ = some (.int .u16 (cS t : Int)) ∧ w'.cell? ⟨gl, i * 4 + 2, none⟩ = some (.int .u16 (cL t : Int)) ∧ w'.cell? ⟨gl, i * 4 + 3, none⟩ = some (.int .u32 (cG t : Int)) := fun w' hk => by
        obtain ⟨z0, z1, z2, z3, z4⟩ := (HBX.out.no (((HKB.out.trans' HK5.out).trans' HK6.out).trans' hk)).cell
        obtain ⟨y0, y1, y2, y3, x0, x1, x2, x3⟩ := HNM.out w' ((HK5.out.trans' HK6.out).trans' hk)
        exact ⟨hk, (HB5.out.no HK6.out).no hk, HB6.out.no hk, kp_cell HKC.out ((HK5.out.trans' HK6.out).trans' hk), z0, z1, z2, z3, z4, y0, y1, y2, y3, x0, x1, x2, x3⟩
      go_wp2_with fail
      refine wp_region_noPanic ?_
      refine wp_region_held_drew (S := fun w' => Kp No w6 w' ∧ Bts w' (.slice A5 n5 c5) bt ∧ Bts w' (.slice A6 n6 c6) bt ∧ w'.cell? ⟨gk, ix * 5, none⟩ = some (.int .i64 (q : Int)) ∧ w'.cell? ⟨s0, 0, none⟩ = some (.int .i64 (V.D.size : Int)) ∧ w'.cell? ⟨s0, 1, none⟩ = some (.slice (some ⟨gc, 0, none⟩) V.D.cells.length cc) ∧ w'.cell? ⟨s0, 2, none⟩ = some (.slice A V.D.loose.length cl) ∧ w'.cell? ⟨s0, 3, none⟩ = some (.int .i64 (V.D.syncs : Int)) ∧ w'.cell? ⟨s0, 4, none⟩ = some (.slice (some ⟨gk, 0, none⟩) V.L.length ck) ∧ w'.cell? ⟨gw, i * 4, none⟩ = some (.int .u32 (cO t : Int)) ∧ w'.cell? ⟨gw, i * 4 + 1, none⟩ = some (.int .u16 (cS t : Int)) ∧ w'.cell? ⟨gw, i * 4 + 2, none⟩ = some (.int .u16 (cL t : Int)) ∧ w'.cell? ⟨gw, i * 4 + 3, none⟩ = some (.int .u32 (cG t : Int)) ∧ w'.cell? ⟨gl, i * 4, none⟩ = some (.int .u32 (cO t : Int)) ∧ w'.cell? ⟨gl, i * 4 + 1, none⟩ = some (.int .u16 (cS t : Int)) ∧ w'.cell? ⟨gl, i * 4 + 2, none⟩ = some (.int .u16 (cL t : Int)) ∧ w'.cell? ⟨gl, i * 4 + 3, none⟩ = some (.int .u32 (cG t : Int))) (by kernel_rfl) (hS9 _ (Kp.refl No w6).drew) (fun hHeld => ?_)
      refine wpAnyH_take (i := 0) (v := ?vcx1) (oi := ?ocx1) ?hcx1 (by kernel_rfl) (by kernel_rfl) (by kernel_rfl) (fun _ _ _ h => h) (Or.inl ⟨?wcx1, ?ycx1⟩) hHeld ?rcx1
      case hcx1 => simp only [List.getElem?_toArray, List.getElem?_cons_zero, List.getElem?_cons_succ]; rfl
      case wcx1 => rfl
      case ycx1 => intro w hSw; (try dsimp only at hSw); go_simp; (try with_reducible rfl)
      simp only [Act.put, List.setIfInBounds_toArray, List.set_cons_zero, List.set_cons_succ]
      refine wpAnyH_take (i := 1) (v := ?vcx2) (oi := ?ocx2) ?hcx2 (by kernel_rfl) (by kernel_rfl) (by kernel_rfl) (fun _ _ _ h => h) (Or.inl ⟨?wcx2, ?ycx2⟩) hHeld ?rcx2
      case hcx2 => simp only [List.getElem?_toArray, List.getElem?_cons_zero, List.getElem?_cons_succ]; rfl
      case wcx2 => rfl
      case ycx2 => intro w hSw; (try dsimp only at hSw); go_simp; (try with_reducible rfl)
      simp only [Act.put, List.setIfInBounds_toArray, List.set_cons_zero, List.set_cons_succ]
      refine wpAnyH_take (i := 2) (v := ?vcx3) (oi := ?ocx3) ?hcx3 (by kernel_rfl) (by kernel_rfl) (by kernel_rfl) (fun _ _ _ h => h) (Or.inl ⟨?wcx3, ?ycx3⟩) hHeld ?rcx3
      case hcx3 => simp only [List.getElem?_toArray, List.getElem?_cons_zero, List.getElem?_cons_succ]; rfl
      case wcx3 => rfl
      case ycx3 => intro w hSw; (try dsimp only at hSw); go_simp; (try with_reducible rfl)
      simp only [Act.put, List.setIfInBounds_toArray, List.set_cons_zero, List.set_cons_succ]
      refine wpAnyH_take (i := 3) (v := ?vcx4) (oi := ?ocx4) ?hcx4 (by kernel_rfl) (by kernel_rfl) (by kernel_rfl) (fun _ _ _ h => h) (Or.inl ⟨?wcx4, ?ycx4⟩) hHeld ?rcx4
      case hcx4 => simp only [List.getElem?_toArray, List.getElem?_cons_zero, List.getElem?_cons_succ]; rfl
      case wcx4 => rfl
      case ycx4 => intro w hSw; (try dsimp only at hSw); go_simp; (try with_reducible rfl)
      simp only [Act.put, List.setIfInBounds_toArray, List.set_cons_zero, List.set_cons_succ]
      refine wpAnyH_take (i := 4) (v := ?vcx5) (oi := ?ocx5) ?hcx5 (by kernel_rfl) (by kernel_rfl) (by kernel_rfl) (fun _ _ _ h => h) (Or.inl ⟨?wcx5, ?ycx5⟩) hHeld ?rcx5
      case hcx5 => simp only [List.getElem?_toArray, List.getElem?_cons_zero, List.getElem?_cons_succ]; rfl
      case wcx5 => rfl
      case ycx5 => intro w hSw; (try dsimp only at hSw); go_simp; (try with_reducible rfl)
      simp only [Act.put, List.setIfInBounds_toArray, List.set_cons_zero, List.set_cons_succ]
      refine wpAnyH_take (i := 5) (v := ?vcx6) (oi := ?ocx6) ?hcx6 (by kernel_rfl) (by kernel_rfl) (by kernel_rfl) (fun _ _ _ h => h) (Or.inl ⟨?wcx6, ?ycx6⟩) hHeld ?rcx6
      case hcx6 => simp only [List.getElem?_toArray, List.getElem?_cons_zero, List.getElem?_cons_succ]; rfl
      case wcx6 => rfl
      case ycx6 => intro w hSw; (try dsimp only at hSw); go_simp; (try with_reducible rfl)
      simp only [Act.put, List.setIfInBounds_toArray, List.set_cons_zero, List.set_cons_succ]
      refine wpAnyH_take (i := 6) (v := ?vcx7) (oi := ?ocx7) ?hcx7 (by kernel_rfl) (by kernel_rfl) (by kernel_rfl) (fun _ _ _ h => h) (Or.inl ⟨?wcx7, ?ycx7⟩) hHeld ?rcx7
      case hcx7 => simp only [List.getElem?_toArray, List.getElem?_cons_zero, List.getElem?_cons_succ]; rfl
      case wcx7 => rfl
      case ycx7 => intro w hSw; (try dsimp only at hSw); go_simp; (try with_reducible rfl)
      simp only [Act.put, List.setIfInBounds_toArray, List.set_cons_zero, List.set_cons_succ]
      refine wpAnyH_take (i := 7) (v := ?vcx8) (oi := ?ocx8) ?hcx8 (by kernel_rfl) (by kernel_rfl) (by kernel_rfl) (fun _ _ _ h => h) (Or.inl ⟨?wcx8, ?ycx8⟩) hHeld ?rcx8
      case hcx8 => simp only [List.getElem?_toArray, List.getElem?_cons_zero, List.getElem?_cons_succ]; rfl
      case wcx8 => rfl
      case ycx8 => intro w hSw; (try dsimp only at hSw); go_simp; (try with_reducible rfl)
      simp only [Act.put, List.setIfInBounds_toArray, List.set_cons_zero, List.set_cons_succ]
      refine wpAnyH_take (i := 8) (v := ?vcx9) (oi := ?ocx9) ?hcx9 (by kernel_rfl) (by kernel_rfl) (by kernel_rfl) (fun _ _ _ h => h) (Or.inl ⟨?wcx9, ?ycx9⟩) hHeld ?rcx9
      case hcx9 => simp only [List.getElem?_toArray, List.getElem?_cons_zero, List.getElem?_cons_succ]; rfl
      case wcx9 => rfl
      case ycx9 => intro w hSw; (try dsimp only at hSw); go_simp; (try with_reducible rfl)
      simp only [Act.put, List.setIfInBounds_toArray, List.set_cons_zero, List.set_cons_succ]
      refine wpAnyH_take (i := 9) (v := ?vcx10) (oi := ?ocx10) ?hcx10 (by kernel_rfl) (by kernel_rfl) (by kernel_rfl) (fun _ _ _ h => h) (Or.inl ⟨?wcx10, ?ycx10⟩) hHeld ?rcx10
      case hcx10 => simp only [List.getElem?_toArray, List.getElem?_cons_zero, List.getElem?_cons_succ]; rfl
      case wcx10 => rfl
      case ycx10 => intro w hSw; (try dsimp only at hSw); go_simp; (try with_reducible rfl)
      simp only [Act.put, List.setIfInBounds_toArray, List.set_cons_zero, List.set_cons_succ]
      refine wpAnyH_take (i := 10) (v := ?vcx11) (oi := ?ocx11) ?hcx11 (by kernel_rfl) (by kernel_rfl) (by kernel_rfl) (fun _ _ _ h => h) (Or.inl ⟨?wcx11, ?ycx11⟩) hHeld ?rcx11
      case hcx11 => simp only [List.getElem?_toArray, List.getElem?_cons_zero, List.getElem?_cons_succ]; rfl
      case wcx11 => rfl
      case ycx11 => intro w hSw; (try dsimp only at hSw); go_simp; (try with_reducible rfl)
      simp only [Act.put, List.setIfInBounds_toArray, List.set_cons_zero, List.set_cons_succ]
      refine wpAnyH_take (i := 11) (v := ?vcx12) (oi := ?ocx12) ?hcx12 (by kernel_rfl) (by kernel_rfl) (by kernel_rfl) (fun _ _ _ h => h) (Or.inl ⟨?wcx12, ?ycx12⟩) hHeld ?rcx12
      case hcx12 => simp only [List.getElem?_toArray, List.getElem?_cons_zero, List.getElem?_cons_succ]; rfl
      case wcx12 => rfl
      case ycx12 =>
        intro w hSw
        (try dsimp only at hSw)
        have vv := conv_bts hSw.2.1
        rw [← HTB.out] at vv
        go_simp
        (try with_reducible rfl)
      simp only [Act.put, List.setIfInBounds_toArray, List.set_cons_zero, List.set_cons_succ]
      refine wpAnyH_take (i := 12) (v := ?vcx13) (oi := ?ocx13) ?hcx13 (by kernel_rfl) (by kernel_rfl) (by kernel_rfl) (fun _ _ _ h => h) (Or.inl ⟨?wcx13, ?ycx13⟩) hHeld ?rcx13
      case hcx13 => simp only [List.getElem?_toArray, List.getElem?_cons_zero, List.getElem?_cons_succ]; rfl
      case wcx13 => rfl
      case ycx13 => intro w hSw; (try dsimp only at hSw); go_simp; (try with_reducible rfl)
      simp only [Act.put, List.setIfInBounds_toArray, List.set_cons_zero, List.set_cons_succ]
      refine wpAnyH_take (i := 13) (v := ?vcx14) (oi := ?ocx14) ?hcx14 (by kernel_rfl) (by kernel_rfl) (by kernel_rfl) (fun _ _ _ h => h) (Or.inl ⟨?wcx14, ?ycx14⟩) hHeld ?rcx14
      case hcx14 => simp only [List.getElem?_toArray, List.getElem?_cons_zero, List.getElem?_cons_succ]; rfl
      case wcx14 => rfl
      case ycx14 =>
        intro w hSw
        (try dsimp only at hSw)
        have vv := conv_bts hSw.2.2.1
        rw [← HTB.out] at vv
        go_simp
        (try with_reducible rfl)
      simp only [Act.put, List.setIfInBounds_toArray, List.set_cons_zero, List.set_cons_succ]
      refine wpAnyH_take (i := 14) (v := ?vcx15) (oi := ?ocx15) ?hcx15 (by kernel_rfl) (by kernel_rfl) (by kernel_rfl) (fun _ _ _ h => h) (Or.inl ⟨?wcx15, ?ycx15⟩) hHeld ?rcx15
      case hcx15 => simp only [List.getElem?_toArray, List.getElem?_cons_zero, List.getElem?_cons_succ]; rfl
      case wcx15 => rfl
      case ycx15 => intro w hSw; (try dsimp only at hSw); go_simp; (try with_reducible rfl)
      simp only [Act.put, List.setIfInBounds_toArray, List.set_cons_zero, List.set_cons_succ]
      refine wpAnyH_take (i := 15) (v := ?vcx16) (oi := ?ocx16) ?hcx16 (by kernel_rfl) (by kernel_rfl) (by kernel_rfl) (fun _ _ _ h => h) (Or.inl ⟨?wcx16, ?ycx16⟩) hHeld ?rcx16
      case hcx16 => simp only [List.getElem?_toArray, List.getElem?_cons_zero, List.getElem?_cons_succ]; rfl
      case wcx16 => rfl
      case ycx16 => intro w hSw; (try dsimp only at hSw); go_simp; (try with_reducible rfl)
      simp only [Act.put, List.setIfInBounds_toArray, List.set_cons_zero, List.set_cons_succ]
      refine wpAnyH_take (i := 16) (v := ?vcx17) (oi := ?ocx17) ?hcx17 (by kernel_rfl) (by kernel_rfl) (by kernel_rfl) (fun _ _ _ h => h) (Or.inl ⟨?wcx17, ?ycx17⟩) hHeld ?rcx17
      case hcx17 => simp only [List.getElem?_toArray, List.getElem?_cons_zero, List.getElem?_cons_succ]; rfl
      case wcx17 => rfl
      case ycx17 => intro w hSw; (try dsimp only at hSw); go_simp; (try with_reducible rfl)
      simp only [Act.put, List.setIfInBounds_toArray, List.set_cons_zero, List.set_cons_succ]
      refine wpAnyH_take (i := 17) (v := ?vcx18) (oi := ?ocx18) ?hcx18 (by kernel_rfl) (by kernel_rfl) (by kernel_rfl) (fun _ _ _ h => h) (Or.inl ⟨?wcx18, ?ycx18⟩) hHeld ?rcx18
      case hcx18 => simp only [List.getElem?_toArray, List.getElem?_cons_zero, List.getElem?_cons_succ]; rfl
      case wcx18 => rfl
      case ycx18 => intro w hSw; (try dsimp only at hSw); go_simp; (try with_reducible rfl)
      simp only [Act.put, List.setIfInBounds_toArray, List.set_cons_zero, List.set_cons_succ]
      refine wpAnyH_take (i := 18) (v := ?vcx19) (oi := ?ocx19) ?hcx19 (by kernel_rfl) (by kernel_rfl) (by kernel_rfl) (fun _ _ _ h => h) (Or.inl ⟨?wcx19, ?ycx19⟩) hHeld ?rcx19
      case hcx19 => simp only [List.getElem?_toArray, List.getElem?_cons_zero, List.getElem?_cons_succ]; rfl
      case wcx19 => rfl
      case ycx19 => intro w hSw; (try dsimp only at hSw); go_simp; (try with_reducible rfl)
      simp only [Act.put, List.setIfInBounds_toArray, List.set_cons_zero, List.set_cons_succ]
      refine wpAnyH_take (i := 19) (v := ?vcx20) (oi := ?ocx20) ?hcx20 (by kernel_rfl) (by kernel_rfl) (by kernel_rfl) (fun _ _ _ h => h) (Or.inl ⟨?wcx20, ?ycx20⟩) hHeld ?rcx20
      case hcx20 => simp only [List.getElem?_toArray, List.getElem?_cons_zero, List.getElem?_cons_succ]; rfl
      case wcx20 => rfl
      case ycx20 => intro w hSw; (try dsimp only at hSw); go_simp; (try with_reducible rfl)
      simp only [Act.put, List.setIfInBounds_toArray, List.set_cons_zero, List.set_cons_succ]
      refine wpAnyH_take (i := 20) (v := ?vcx21) (oi := ?ocx21) ?hcx21 (by kernel_rfl) (by kernel_rfl) (by kernel_rfl) (fun _ _ _ h => h) (Or.inl ⟨?wcx21, ?ycx21⟩) hHeld ?rcx21
      case hcx21 => simp only [List.getElem?_toArray, List.getElem?_cons_zero, List.getElem?_cons_succ]; rfl
      case wcx21 => rfl
      case ycx21 => intro w hSw; (try dsimp only at hSw); go_simp; (try with_reducible rfl)
      simp only [Act.put, List.setIfInBounds_toArray, List.set_cons_zero, List.set_cons_succ]
      refine wpAnyH_take (i := 21) (v := ?vcx22) (oi := ?ocx22) ?hcx22 (by kernel_rfl) (by kernel_rfl) (by kernel_rfl) (fun _ _ _ h => h) (Or.inl ⟨?wcx22, ?ycx22⟩) hHeld ?rcx22
      case hcx22 => simp only [List.getElem?_toArray, List.getElem?_cons_zero, List.getElem?_cons_succ]; rfl
      case wcx22 => rfl
      case ycx22 => intro w hSw; (try dsimp only at hSw); go_simp; (try with_reducible rfl)
      simp only [Act.put, List.setIfInBounds_toArray, List.set_cons_zero, List.set_cons_succ]
      refine wpAnyH_take (i := 22) (v := ?vcx23) (oi := ?ocx23) ?hcx23 (by kernel_rfl) (by kernel_rfl) (by kernel_rfl) (fun _ _ _ h => h) (Or.inl ⟨?wcx23, ?ycx23⟩) hHeld ?rcx23
      case hcx23 => simp only [List.getElem?_toArray, List.getElem?_cons_zero, List.getElem?_cons_succ]; rfl
      case wcx23 => rfl
      case ycx23 => intro w hSw; (try dsimp only at hSw); go_simp; (try with_reducible rfl)
      simp only [Act.put, List.setIfInBounds_toArray, List.set_cons_zero, List.set_cons_succ]
      refine wpAnyH_take (i := 23) (v := ?vcx24) (oi := ?ocx24) ?hcx24 (by kernel_rfl) (by kernel_rfl) (by kernel_rfl) (fun _ _ _ h => h) (Or.inl ⟨?wcx24, ?ycx24⟩) hHeld ?rcx24
      case hcx24 => simp only [List.getElem?_toArray, List.getElem?_cons_zero, List.getElem?_cons_succ]; rfl
      case wcx24 => rfl
      case ycx24 => intro w hSw; (try dsimp only at hSw); go_simp; (try with_reducible rfl)
      simp only [Act.put, List.setIfInBounds_toArray, List.set_cons_zero, List.set_cons_succ]
      refine wpAnyH_take (i := 24) (v := ?vcx25) (oi := ?ocx25) ?hcx25 (by kernel_rfl) (by kernel_rfl) (by kernel_rfl) (fun _ _ _ h => h) (Or.inl ⟨?wcx25, ?ycx25⟩) hHeld ?rcx25
      case hcx25 => simp only [List.getElem?_toArray, List.getElem?_cons_zero, List.getElem?_cons_succ]; rfl
      case wcx25 => rfl
      case ycx25 => intro w hSw; (try dsimp only at hSw); go_simp; (try with_reducible rfl)
      simp only [Act.put, List.setIfInBounds_toArray, List.set_cons_zero, List.set_cons_succ]
      refine wpAnyH_take (i := 25) (v := ?vcx26) (oi := ?ocx26) ?hcx26 (by kernel_rfl) (by kernel_rfl) (by kernel_rfl) (fun _ _ _ h => h) (Or.inl ⟨?wcx26, ?ycx26⟩) hHeld ?rcx26
      case hcx26 => simp only [List.getElem?_toArray, List.getElem?_cons_zero, List.getElem?_cons_succ]; rfl
      case wcx26 => rfl
      case ycx26 => intro w hSw; (try dsimp only at hSw); go_simp; (try with_reducible rfl)
      simp only [Act.put, List.setIfInBounds_toArray, List.set_cons_zero, List.set_cons_succ]
      refine wpAnyH_take (i := 26) (v := ?vcx27) (oi := ?ocx27) ?hcx27 (by kernel_rfl) (by kernel_rfl) (by kernel_rfl) (fun _ _ _ h => h) (Or.inl ⟨?wcx27, ?ycx27⟩) hHeld ?rcx27
      case hcx27 => simp only [List.getElem?_toArray, List.getElem?_cons_zero, List.getElem?_cons_succ]; rfl
      case wcx27 => rfl
      case ycx27 => intro w hSw; (try dsimp only at hSw); go_simp; (try with_reducible rfl)
      simp only [Act.put, List.setIfInBounds_toArray, List.set_cons_zero, List.set_cons_succ]
      refine wpAnyH_ready (rs := [27]) (by kernel_rfl) (by simp) ?_
      refine AllReadyH.cons (o := ?ocx28) ?hcx28 (fun K hK => ?scx28) AllReadyH.nil
      case hcx28 => simp only [List.getElem?_toArray, List.getElem?_cons_zero, List.getElem?_cons_succ]; rfl
      go_simp
      refine (HHAS.out _ hHeld.1).mono ?_
      rintro e w7 ⟨rfl, kw7⟩
      have hw7 := hS9 _ (hHeld.1.trans' kw7)
      go_wp2_with fail
      refine hK.out _ _ (hw7) (fun hHeld => ?_)
      clear hK K
      try simp only [Act.put, List.setIfInBounds_toArray, List.set_cons_zero, List.set_cons_succ]
      refine wpAnyH_take (i := 28) (v := ?vcx29) (oi := ?ocx29) ?hcx29 (by kernel_rfl) (by kernel_rfl) (by kernel_rfl) (fun _ _ _ h => h) (Or.inl ⟨?wcx29, ?ycx29⟩) hHeld ?rcx29
      case hcx29 => simp only [List.getElem?_toArray, List.getElem?_cons_zero, List.getElem?_cons_succ]; rfl
      case wcx29 => rfl
      case ycx29 => intro w hSw; (try dsimp only at hSw); go_simp; (try with_reducible rfl)
      simp only [Act.put, List.setIfInBounds_toArray, List.set_cons_zero, List.set_cons_succ]
      refine wpAnyH_take (i := 29) (v := ?vcx30) (oi := ?ocx30) ?hcx30 (by kernel_rfl) (by kernel_rfl) (by kernel_rfl) (fun _ _ _ h => h) (Or.inl ⟨?wcx30, ?ycx30⟩) hHeld ?rcx30
      case hcx30 => simp only [List.getElem?_toArray, List.getElem?_cons_zero, List.getElem?_cons_succ]; rfl
      case wcx30 => rfl
      case ycx30 => intro w hSw; (try dsimp only at hSw); go_simp; (try with_reducible rfl)
      simp only [Act.put, List.setIfInBounds_toArray, List.set_cons_zero, List.set_cons_succ]
      refine wpAnyH_take (i := 30) (v := ?vcx31) (oi := ?ocx31) ?hcx31 (by kernel_rfl) (by kernel_rfl) (by kernel_rfl) (fun _ _ _ h => h) (Or.inl ⟨?wcx31, ?ycx31⟩) hHeld ?rcx31
      case hcx31 => simp only [List.getElem?_toArray, List.getElem?_cons_zero, List.getElem?_cons_succ]; rfl
      case wcx31 => rfl
      case ycx31 => intro w hSw; (try dsimp only at hSw); go_simp; (try with_reducible rfl)
      simp only [Act.put, List.setIfInBounds_toArray, List.set_cons_zero, List.set_cons_succ]
      refine wpAnyH_take (i := 31) (v := ?vcx32) (oi := ?ocx32) ?hcx32 (by kernel_rfl) (by kernel_rfl) (by kernel_rfl) (fun _ _ _ h => h) (Or.inl ⟨?wcx32, ?ycx32⟩) hHeld ?rcx32
      case hcx32 => simp only [List.getElem?_toArray, List.getElem?_cons_zero, List.getElem?_cons_succ]; rfl
      case wcx32 => rfl
      case ycx32 => intro w hSw; (try dsimp only at hSw); go_simp; (try with_reducible rfl)
      simp only [Act.put, List.setIfInBounds_toArray, List.set_cons_zero, List.set_cons_succ]
      refine wpAnyH_take (i := 32) (v := ?vcx33) (oi := ?ocx33) ?hcx33 (by kernel_rfl) (by kernel_rfl) (by kernel_rfl) (fun _ _ _ h => h) (Or.inl ⟨?wcx33, ?ycx33⟩) hHeld ?rcx33
      case hcx33 => simp only [List.getElem?_toArray, List.getElem?_cons_zero, List.getElem?_cons_succ]; rfl
      case wcx33 => rfl
      case ycx33 => intro w hSw; (try dsimp only at hSw); go_simp; (try with_reducible rfl)
      simp only [Act.put, List.setIfInBounds_toArray, List.set_cons_zero, List.set_cons_succ]
      refine wpAnyH_take (i := 33) (v := ?vcx34) (oi := ?ocx34) ?hcx34 (by kernel_rfl) (by kernel_rfl) (by kernel_rfl) (fun _ _ _ h => h) (Or.inl ⟨?wcx34, ?ycx34⟩) hHeld ?rcx34
      case hcx34 => simp only [List.getElem?_toArray, List.getElem?_cons_zero, List.getElem?_cons_succ]; rfl
      case wcx34 => rfl
      case ycx34 => intro w hSw; (try dsimp only at hSw); go_simp; (try with_reducible rfl)
      simp only [Act.put, List.setIfInBounds_toArray, List.set_cons_zero, List.set_cons_succ]
      refine wpAnyH_take (i := 34) (v := ?vcx35) (oi := ?ocx35) ?hcx35 (by kernel_rfl) (by kernel_rfl) (by kernel_rfl) (fun _ _ _ h => h) (Or.inl ⟨?wcx35, ?ycx35⟩) hHeld ?rcx35
      case hcx35 => simp only [List.getElem?_toArray, List.getElem?_cons_zero, List.getElem?_cons_succ]; rfl
      case wcx35 => rfl
      case ycx35 => intro w hSw; (try dsimp only at hSw); go_simp; (try with_reducible rfl)
      simp only [Act.put, List.setIfInBounds_toArray, List.set_cons_zero, List.set_cons_succ]
      refine wpAnyH_take (i := 35) (v := ?vcx36) (oi := ?ocx36) ?hcx36 (by kernel_rfl) (by kernel_rfl) (by kernel_rfl) (fun _ _ _ h => h) (Or.inl ⟨?wcx36, ?ycx36⟩) hHeld ?rcx36
      case hcx36 => simp only [List.getElem?_toArray, List.getElem?_cons_zero, List.getElem?_cons_succ]; rfl
      case wcx36 => rfl
      case ycx36 => intro w hSw; (try dsimp only at hSw); go_simp; (try with_reducible rfl)
      simp only [Act.put, List.setIfInBounds_toArray, List.set_cons_zero, List.set_cons_succ]
      refine wpAnyH_take (i := 37) (v := ?vcx37) (oi := ?ocx37) ?hcx37 (by kernel_rfl) (by kernel_rfl) (by kernel_rfl) (fun _ _ _ h => h) (Or.inl ⟨?wcx37, ?ycx37⟩) hHeld ?rcx37
      case hcx37 => simp only [List.getElem?_toArray, List.getElem?_cons_zero, List.getElem?_cons_succ]; rfl
      case wcx37 => rfl
      case ycx37 => intro w hSw; (try dsimp only at hSw); go_simp; (try with_reducible rfl)
      simp only [Act.put, List.setIfInBounds_toArray, List.set_cons_zero, List.set_cons_succ]
      refine wpAnyH_take (i := 38) (v := ?vcx38) (oi := ?ocx38) ?hcx38 (by kernel_rfl) (by kernel_rfl) (by kernel_rfl) (fun _ _ _ h => h) (Or.inl ⟨?wcx38, ?ycx38⟩) hHeld ?rcx38
      case hcx38 => simp only [List.getElem?_toArray, List.getElem?_cons_zero, List.getElem?_cons_succ]; rfl
      case wcx38 => rfl
      case ycx38 => intro w hSw; (try dsimp only at hSw); go_simp; (try with_reducible rfl)
      simp only [Act.put, List.setIfInBounds_toArray, List.set_cons_zero, List.set_cons_succ]
      refine wpAnyH_take (i := 39) (v := ?vcx39) (oi := ?ocx39) ?hcx39 (by kernel_rfl) (by kernel_rfl) (by kernel_rfl) (fun _ _ _ h => h) (Or.inl ⟨?wcx39, ?ycx39⟩) hHeld ?rcx39
      case hcx39 => simp only [List.getElem?_toArray, List.getElem?_cons_zero, List.getElem?_cons_succ]; rfl
      case wcx39 => rfl
      case ycx39 => intro w hSw; (try dsimp only at hSw); go_simp; (try with_reducible rfl)
      simp only [Act.put, List.setIfInBounds_toArray, List.set_cons_zero, List.set_cons_succ]
      refine wpAnyH_take (i := 40) (v := ?vcx40) (oi := ?ocx40) ?hcx40 (by kernel_rfl) (by kernel_rfl) (by kernel_rfl) (fun _ _ _ h => h) (Or.inl ⟨?wcx40, ?ycx40⟩) hHeld ?rcx40
      case hcx40 => simp only [List.getElem?_toArray, List.getElem?_cons_zero, List.getElem?_cons_succ]; rfl
      case wcx40 => rfl
      case ycx40 => intro w hSw; (try dsimp only at hSw); go_simp; (try with_reducible rfl)
      simp only [Act.put, List.setIfInBounds_toArray, List.set_cons_zero, List.set_cons_succ]
      refine wpAnyH_take (i := 41) (v := ?vcx41) (oi := ?ocx41) ?hcx41 (by kernel_rfl) (by kernel_rfl) (by kernel_rfl) (fun _ _ _ h => h) (Or.inl ⟨?wcx41, ?ycx41⟩) hHeld ?rcx41
      case hcx41 => simp only [List.getElem?_toArray, List.getElem?_cons_zero, List.getElem?_cons_succ]; rfl
      case wcx41 => rfl
      case ycx41 => intro w hSw; (try dsimp only at hSw); go_simp; (try with_reducible rfl)
      simp only [Act.put, List.setIfInBounds_toArray, List.set_cons_zero, List.set_cons_succ]
      refine wpAnyH_take (i := 42) (v := ?vcx42) (oi := ?ocx42) ?hcx42 (by kernel_rfl) (by kernel_rfl) (by kernel_rfl) (fun _ _ _ h => h) (Or.inl ⟨?wcx42, ?ycx42⟩) hHeld ?rcx42
      case hcx42 => simp only [List.getElem?_toArray, List.getElem?_cons_zero, List.getElem?_cons_succ]; rfl
      case wcx42 => rfl
      case ycx42 => intro w hSw; (try dsimp only at hSw); go_simp; (try with_reducible rfl)
      simp only [Act.put, List.setIfInBounds_toArray, List.set_cons_zero, List.set_cons_succ]
      refine wpAnyH_take (i := 43) (v := ?vcx43) (oi := ?ocx43) ?hcx43 (by kernel_rfl) (by kernel_rfl) (by kernel_rfl) (fun _ _ _ h => h) (Or.inl ⟨?wcx43, ?ycx43⟩) hHeld ?rcx43
      case hcx43 => simp only [List.getElem?_toArray, List.getElem?_cons_zero, List.getElem?_cons_succ]; rfl
      case wcx43 => rfl
      case ycx43 => intro w hSw; (try dsimp only at hSw); go_simp; (try with_reducible rfl)
      simp only [Act.put, List.setIfInBounds_toArray, List.set_cons_zero, List.set_cons_succ]
      refine wpAnyH_ready (rs := [36]) (by kernel_rfl) (by simp) ?_
      refine AllReadyH.cons (o := ?ocx44) ?hcx44 (fun K hK => ?scx44) AllReadyH.nil
      case hcx44 => simp only [List.getElem?_toArray, List.getElem?_cons_zero, List.getElem?_cons_succ]; rfl
      go_simp
      refine (HCEL.out _ hHeld.1).mono ?_
      rintro e w8 ⟨rfl, kw8⟩
      have hw8 := hS9 _ (hHeld.1.trans' kw8)
      go_wp2_with fail
      refine hK.out _ _ (hw8) (fun hHeld => ?_)
      clear hK K
      try simp only [Act.put, List.setIfInBounds_toArray, List.set_cons_zero, List.set_cons_succ]
      refine wpAnyH_ready (rs := [44]) (by kernel_rfl) (by simp) ?_
      refine AllReadyH.cons (o := ?ocx45) ?hcx45 (fun K hK => ?scx45) AllReadyH.nil
      case hcx45 => simp only [List.getElem?_toArray, List.getElem?_cons_zero, List.getElem?_cons_succ]; rfl
      go_simp
      refine (HIX.out _ hHeld.1).mono ?_
      rintro e w9 ⟨rfl, kw9⟩
      have hw9 := hS9 _ (hHeld.1.trans' kw9)
      go_wp2_with fail
      refine hK.out _ _ (hw9) (fun hHeld => ?_)
      clear hK K
      try simp only [Act.put, List.setIfInBounds_toArray, List.set_cons_zero, List.set_cons_succ]
      refine wpAnyH_take (i := 45) (v := ?vcx46) (oi := ?ocx46) ?hcx46 (by kernel_rfl) (by kernel_rfl) (by kernel_rfl) (fun _ _ _ h => h) (Or.inl ⟨?wcx46, ?ycx46⟩) hHeld ?rcx46
      case hcx46 => simp only [List.getElem?_toArray, List.getElem?_cons_zero, List.getElem?_cons_succ]; rfl
      case wcx46 => rfl
      case ycx46 => intro w hSw; (try dsimp only at hSw); go_simp; (try with_reducible rfl)
      simp only [Act.put, List.setIfInBounds_toArray, List.set_cons_zero, List.set_cons_succ]
      refine wpAnyH_take (i := 46) (v := ?vcx47) (oi := ?ocx47) ?hcx47 (by kernel_rfl) (by kernel_rfl) (by kernel_rfl) (fun _ _ _ h => h) (Or.inl ⟨?wcx47, ?ycx47⟩) hHeld ?rcx47
      case hcx47 => simp only [List.getElem?_toArray, List.getElem?_cons_zero, List.getElem?_cons_succ]; rfl
      case wcx47 => rfl
      case ycx47 => intro w hSw; (try dsimp only at hSw); go_simp; (try with_reducible rfl)
      simp only [Act.put, List.setIfInBounds_toArray, List.set_cons_zero, List.set_cons_succ]
      refine wpAnyH_take (i := 47) (v := ?vcx48) (oi := ?ocx48) ?hcx48 (by kernel_rfl) (by kernel_rfl) (by kernel_rfl) (fun _ _ _ h => h) (Or.inl ⟨?wcx48, ?ycx48⟩) hHeld ?rcx48
      case hcx48 => simp only [List.getElem?_toArray, List.getElem?_cons_zero, List.getElem?_cons_succ]; rfl
      case wcx48 => rfl
      case ycx48 => intro w hSw; (try dsimp only at hSw); go_simp; (try with_reducible rfl)
      simp only [Act.put, List.setIfInBounds_toArray, List.set_cons_zero, List.set_cons_succ]
      refine wpAnyH_take (i := 48) (v := ?vcx49) (oi := ?ocx49) ?hcx49 (by kernel_rfl) (by kernel_rfl) (by kernel_rfl) (fun _ _ _ h => h) (Or.inl ⟨?wcx49, ?ycx49⟩) hHeld ?rcx49
      case hcx49 => simp only [List.getElem?_toArray, List.getElem?_cons_zero, List.getElem?_cons_succ]; rfl
      case wcx49 => rfl
      case ycx49 => intro w hSw; (try dsimp only at hSw); go_simp; (try with_reducible rfl)
      simp only [Act.put, List.setIfInBounds_toArray, List.set_cons_zero, List.set_cons_succ]
      refine wpAnyH_take (i := 49) (v := ?vcx50) (oi := ?ocx50) ?hcx50 (by kernel_rfl) (by kernel_rfl) (by kernel_rfl) (fun _ _ _ h => h) (Or.inl ⟨?wcx50, ?ycx50⟩) hHeld ?rcx50
      case hcx50 => simp only [List.getElem?_toArray, List.getElem?_cons_zero, List.getElem?_cons_succ]; rfl
      case wcx50 => rfl
      case ycx50 => intro w hSw; (try dsimp only at hSw); go_simp; (try with_reducible rfl)
      simp only [Act.put, List.setIfInBounds_toArray, List.set_cons_zero, List.set_cons_succ]
      refine wpAnyH_done (by kernel_rfl) ?_ _
      refine NoPanic.normal ?_
      have HK9 := hide hHeld.1
      clear hHeld hw7 hw8 hw9 hS9
      go_wp2_with fail
      go_round
      case rel => exact ⟨i + 1, by omega, by go_num, ((HKR.out.trans' HK5.out).trans' HK6.out).trans' HK9.out⟩
      case measure => simp [intOf]; omega
    · obtain rfl : i = n4 := by omega
      have hlz : ¬ (i : Int) < i := by omega
      go_wp2_with fail
      go_ret
      exact ⟨rfl, (HK0.out.trans' HK3.out).trans' HKR.out⟩
end Go.Proofs.YtndghapdpfgmoaaGreat
