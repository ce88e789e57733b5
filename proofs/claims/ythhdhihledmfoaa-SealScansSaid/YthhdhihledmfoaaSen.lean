/- SealScans walked: it returns true for any bytes; no condition. -/
import Derived.Test.YthhdhihledmfoaaSel
import Derived.Deep.QuietTactic
import Derived.BigQuiet
namespace Go.Proofs.Ythhdhihledmfoaa
open Go.RowKit
set_option linter.unusedVariables false
set_option linter.unusedSimpArgs false

theorem sealscans_no (W : World) {A0 : Option Addr} {n0 c0 : Nat} (h : 1500 < n0) :
    Calls Try.prog 5 #[.slice A0 n0 c0] W (TruePost W) := by
  go_enter Try.func5, Try.ntmps5
  go_wp2_with (go_at_call 8; refine (awake10_any _).mono ?_; rintro e w1 hp; obtain rfl := hp.1)
  go_ret
  exact ⟨rfl, hp.2⟩

theorem OwnT.len {w : World} {base : Nat} {e : TypeId} {sz r c n : Nat} {A : Option Addr} {xs : List Value} (h : OwnT w base e sz (.slice A r c) n xs) : r = n := by
  obtain ⟨A', c', e'⟩ := h.form
  injection e'
theorem OwnT.cellAt {w : World} {base : Nat} {e : TypeId} {sz r c n g : Nat} {xs : List Value} (h : OwnT w base e sz (.slice (some ⟨g, 0, none⟩) r c) n xs) {j : Nat} {u : Value} (hj : xs[j]? = some u) : w.cell? ⟨g, j, none⟩ = some u := by
  obtain ⟨g', e', _, _, _, hc⟩ := h.cell hj
  injection e' with e'
  injection e' with e'
  subst e'
  exact hc
theorem maps_len {ps qs : List (ItD × Value)} (h : ps.map Prod.fst = qs.map Prod.fst) : ps.length = qs.length := by
  have := congrArg List.length h
  rwa [List.length_map, List.length_map] at this
theorem maps_at {ps qs : List (ItD × Value)} (h : ps.map Prod.fst = qs.map Prod.fst) {j : Nat} {p q : ItD × Value} (hp : ps[j]? = some p) (hq : qs[j]? = some q) : p.1 = q.1 := by
  have e : (ps.map Prod.fst)[j]? = (qs.map Prod.fst)[j]? := by rw [h]
  rw [List.getElem?_map, List.getElem?_map, hp, hq] at e
  exact Option.some.inj e

set_option maxRecDepth 100000 in
set_option maxHeartbeats 8000000 in
theorem sealscans_yes (W : World) {A0 : Option Addr} {n0 c0 : Nat} {bs : List UInt8} (hb : Bts W (.slice A0 n0 c0) bs) (hnc : n0 ≤ c0) (h : n0 ≤ 1500) :
    Calls Try.prog 5 #[.slice A0 n0 c0] W (TruePost W) := by
  obtain ⟨er, her⟩ : ∃ q, q = opE bs := ⟨_, rfl⟩
  obtain ⟨kd, hkd⟩ : ∃ q, q = opK bs := ⟨_, rfl⟩
  obtain ⟨sz, hsz⟩ : ∃ q, q = opN bs := ⟨_, rfl⟩
  obtain ⟨tb, htb⟩ : ∃ t, t = strOf (opL bs) := ⟨_, rfl⟩
  have HER := hide her
  have HKD := hide hkd
  have HSZ := hide hsz
  have HTB := hide htb
  have HB := hide hb
  clear her hkd hsz htb
  go_enter Try.func5, Try.ntmps5
  go_wp2_with fail
  refine (sopen_any hb hnc (by omega)).mono ?_
  rintro e w1 ⟨A1, n1, c1, rfl, ho1, k1⟩
  rw [← HER.out, ← HKD.out, ← HSZ.out]
  go_wp2_with fail
  refine (ropen_any (HB.out.no k1) hnc (by omega)).mono ?_
  rintro e w2 ⟨A2, n2, c2, rfl, hall, k2⟩
  rw [← HER.out, ← HKD.out]
  have v1 := conv_bts (ho1.bts.no k2)
  rw [← HTB.out] at v1
  have hl2 := hall _ (HB.out.no (k1.trans' k2))
  have v2 := conv_bts hl2
  rw [← HTB.out] at v2
  have HL2 := hide hl2.len
  clear hall hl2 ho1 hb
  have K2 := hide (k1.trans' k2)
  clear k1 k2
  by_cases h0 : er = 0
  · subst h0
    have hN := opN_le HER.out.symm
    have hn2 : n2 ≤ 1500 := by have := HL2.out; have := HB.out.len; omega
    have hz : ((sz : Int) != 12 + (n2 : Int)) = false := by
      have := HSZ.out; have := HL2.out
      simp; omega
    clear hN
    go_wp2_with fail
    refine (sscan_any (HB.out.no K2.out) hnc (by omega)).mono ?_
    rintro e w3 ⟨ps, a, r, cc, A3, rfl, hI, hS, hE, k3⟩
    go_wp2_with fail
    refine (rscan_any (HB.out.no (K2.out.trans' k3)) hnc (by omega)).mono ?_
    rintro e w4 ⟨qs, a', r', cc', A4, rfl, hJ, hS', hE', k4⟩
    obtain ⟨ea, em⟩ := hS.one hS' hE hE'
    subst ea
    have hl1 := hI.own.len
    have hl2 := hJ.own.len
    have hl3 := maps_len em
    obtain rfl : r = r' := by omega
    have HM := hide hl1
    have HM2 : Hid (r = qs.length) := by show r = qs.length; omega
    have HEM := hide em
    have HI := hide (hI.no k4)
    have HJ := hide hJ
    have K4 := hide ((K2.out.trans' k3).trans' k4)
    have K34 := hide k4
    have hr : r ≤ 1500 := by have := hS.bound; rw [List.length_map] at this; have := HB.out.len; omega
    clear hl1 hl2 hl3 em hI hJ hS hS' hE hE' k3 k4
    go_wp2_with fail
    go_loopw [15] (fun i wr => ∃ j : Nat, j ≤ r ∧ i = .int .i64 (j : Int) ∧ Kp No w4 wr) (fun i _ => r - (intOf i).toNat)
    case atStart => exact ⟨0, by omega, rfl, Kp.refl _ _⟩
    case round =>
      obtain ⟨j, hj, rfl, hkr⟩ := hrel
      by_cases hlt : j < r
      · obtain ⟨⟨d, vp⟩, hp⟩ : ∃ p, ps[j]? = some p := ⟨_, List.getElem?_eq_getElem (by have := HM.out; omega)⟩
        obtain ⟨⟨d', vq⟩, hq⟩ : ∃ q, qs[j]? = some q := ⟨_, List.getElem?_eq_getElem (by have := HM2.out; omega)⟩
        obtain rfl : d = d' := maps_at HEM.out hp hq
        have op := HI.out.ld _ (List.mem_of_getElem? hp)
        have oq := HJ.out.ld _ (List.mem_of_getElem? hq)
        obtain ⟨Ap, np, cp, rfl⟩ := op.form
        obtain ⟨Aq, nq, cq, rfl⟩ := oq.form
        obtain ⟨p0, p1, p2⟩ := itC_get hp
        obtain ⟨q0, q1, q2⟩ := itC_get hq
        obtain ⟨g3, e3, _, hg3, _, _⟩ := HI.out.own.cell p0
        subst e3
        obtain ⟨g4, e4, _, hg4, _, _⟩ := HJ.out.own.cell q0
        subst e4
        have cp0 := hkr.cell (HI.out.own.cellAt p0) fun f => f
        have cp1 := hkr.cell (HI.out.own.cellAt p1) fun f => f
        have cp2 := hkr.cell (HI.out.own.cellAt p2) fun f => f
        have cq0 := hkr.cell (HJ.out.own.cellAt q0) fun f => f
        have cq1 := hkr.cell (HJ.out.own.cellAt q1) fun f => f
        have cq2 := hkr.cell (HJ.out.own.cellAt q2) fun f => f
        obtain ⟨tl, htl⟩ : ∃ t, t = strOf d.ld := ⟨_, rfl⟩
        have va := fun k => conv_bts ((op.bts.no hkr).drewN k)
        have vb := fun k => conv_bts ((oq.no (K34.out.trans' hkr)).drewN k)
        simp only at va vb
        simp only [← htl] at va vb
        obtain ⟨da, hda⟩ : ∃ t, t = d.at_ := ⟨_, rfl⟩
        obtain ⟨dk, hdk⟩ : ∃ t, t = d.kd := ⟨_, rfl⟩
        simp only at cp0 cp1 cp2 cq0 cq1 cq2
        rw [← hda] at cp0 cq0
        rw [← hdk] at cp1 cq1
        clear htl hda hdk op oq p0 p1 p2 q0 q1 q2 hp hq hg3 hg4
        go_wp2_with fail
        go_quiet (fail)
        go_wp2_with fail
        go_round
        case rel => exact ⟨j + 1, by omega, by go_num, hkr.drewN _⟩
        case measure => simp [intOf]; omega
      · obtain rfl : r = j := by omega
        go_wp2_with fail
        refine (awake10_any _).mono ?_
        rintro e w5 hp
        obtain rfl := hp.1
        go_wp2
        go_ret
        exact ⟨rfl, (K4.out.trans' hkr).trans' hp.2⟩
  · have hne : ((er : Int) == 0) = false := by simp; omega
    obtain rfl : sz = 0 := by rw [HSZ.out]; unfold opN; rw [if_neg (by rw [← HER.out]; exact h0)]
    go_wp2_with fail
    refine (sscan_any (HB.out.no K2.out) hnc (by omega)).mono ?_
    rintro e w3 ⟨ps, a, r, cc, A3, rfl, hI, hS, hE, k3⟩
    go_wp2_with fail
    refine (rscan_any (HB.out.no (K2.out.trans' k3)) hnc (by omega)).mono ?_
    rintro e w4 ⟨qs, a', r', cc', A4, rfl, hJ, hS', hE', k4⟩
    obtain ⟨ea, em⟩ := hS.one hS' hE hE'
    subst ea
    have hl1 := hI.own.len
    have hl2 := hJ.own.len
    have hl3 := maps_len em
    obtain rfl : r = r' := by omega
    have HM := hide hl1
    have HM2 : Hid (r = qs.length) := by show r = qs.length; omega
    have HEM := hide em
    have HI := hide (hI.no k4)
    have HJ := hide hJ
    have K4 := hide ((K2.out.trans' k3).trans' k4)
    have K34 := hide k4
    have hr : r ≤ 1500 := by have := hS.bound; rw [List.length_map] at this; have := HB.out.len; omega
    clear hl1 hl2 hl3 em hI hJ hS hS' hE hE' k3 k4
    go_wp2_with fail
    go_loopw [15] (fun i wr => ∃ j : Nat, j ≤ r ∧ i = .int .i64 (j : Int) ∧ Kp No w4 wr) (fun i _ => r - (intOf i).toNat)
    case atStart => exact ⟨0, by omega, rfl, Kp.refl _ _⟩
    case round =>
      obtain ⟨j, hj, rfl, hkr⟩ := hrel
      by_cases hlt : j < r
      · obtain ⟨⟨d, vp⟩, hp⟩ : ∃ p, ps[j]? = some p := ⟨_, List.getElem?_eq_getElem (by have := HM.out; omega)⟩
        obtain ⟨⟨d', vq⟩, hq⟩ : ∃ q, qs[j]? = some q := ⟨_, List.getElem?_eq_getElem (by have := HM2.out; omega)⟩
        obtain rfl : d = d' := maps_at HEM.out hp hq
        have op := HI.out.ld _ (List.mem_of_getElem? hp)
        have oq := HJ.out.ld _ (List.mem_of_getElem? hq)
        obtain ⟨Ap, np, cp, rfl⟩ := op.form
        obtain ⟨Aq, nq, cq, rfl⟩ := oq.form
        obtain ⟨p0, p1, p2⟩ := itC_get hp
        obtain ⟨q0, q1, q2⟩ := itC_get hq
        obtain ⟨g3, e3, _, hg3, _, _⟩ := HI.out.own.cell p0
        subst e3
        obtain ⟨g4, e4, _, hg4, _, _⟩ := HJ.out.own.cell q0
        subst e4
        have cp0 := hkr.cell (HI.out.own.cellAt p0) fun f => f
        have cp1 := hkr.cell (HI.out.own.cellAt p1) fun f => f
        have cp2 := hkr.cell (HI.out.own.cellAt p2) fun f => f
        have cq0 := hkr.cell (HJ.out.own.cellAt q0) fun f => f
        have cq1 := hkr.cell (HJ.out.own.cellAt q1) fun f => f
        have cq2 := hkr.cell (HJ.out.own.cellAt q2) fun f => f
        obtain ⟨tl, htl⟩ : ∃ t, t = strOf d.ld := ⟨_, rfl⟩
        have va := fun k => conv_bts ((op.bts.no hkr).drewN k)
        have vb := fun k => conv_bts ((oq.no (K34.out.trans' hkr)).drewN k)
        simp only at va vb
        simp only [← htl] at va vb
        obtain ⟨da, hda⟩ : ∃ t, t = d.at_ := ⟨_, rfl⟩
        obtain ⟨dk, hdk⟩ : ∃ t, t = d.kd := ⟨_, rfl⟩
        simp only at cp0 cp1 cp2 cq0 cq1 cq2
        rw [← hda] at cp0 cq0
        rw [← hdk] at cp1 cq1
        clear htl hda hdk op oq p0 p1 p2 q0 q1 q2 hp hq hg3 hg4
        go_wp2_with fail
        go_quiet (fail)
        go_wp2_with fail
        go_round
        case rel => exact ⟨j + 1, by omega, by go_num, hkr.drewN _⟩
        case measure => simp [intOf]; omega
      · obtain rfl : r = j := by omega
        go_wp2_with fail
        refine (awake10_any _).mono ?_
        rintro e w5 hp
        obtain rfl := hp.1
        go_wp2
        go_ret
        exact ⟨rfl, (K4.out.trans' hkr).trans' hp.2⟩
theorem sealscans_walk (W : World) {A0 : Option Addr} {n0 c0 : Nat} {bs : List UInt8} (hb : Bts W (.slice A0 n0 c0) bs ∧ n0 ≤ c0) :
    Calls Try.prog 5 #[.slice A0 n0 c0] W fun e W' => e = .returned (.bool true) ∧ Below W.heap.size W W' := by
  by_cases h : 1500 < n0
  · exact (sealscans_no W h).mono fun e W' p => ⟨p.1, p.2.below0⟩
  · exact (sealscans_yes W hb.1 hb.2 (by omega)).mono fun e W' p => ⟨p.1, p.2.below0⟩
end Go.Proofs.Ythhdhihledmfoaa
