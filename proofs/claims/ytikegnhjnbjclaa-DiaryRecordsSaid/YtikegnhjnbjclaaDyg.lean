/- DiaryRecords walked: it returns true for any bytes and any number. No condition. -/
import Derived.Test.YtikegnhjnbjclaaDyf
import Derived.Deep.RegionHeld3
import Derived.OpenShut
namespace Go.Proofs.Ytikegnhjnbjclaa
open Go.RowKit Go.WideShapes Go.ChangeShapes
set_option linter.unusedVariables false
set_option maxRecDepth 20000
set_option linter.unusedSimpArgs false

theorem RwD.rws {v0 : Value} {bs : List UInt8} {w : World} {base : Nat} {A : Option Addr} {n c : Nat} {ps : List (Value × List UInt8)} (h : RwD v0 bs w base (.slice A n c) ps) (hb : Bts w v0 bs) : Rws w A n (rws ps) := by
  refine ⟨by rw [rws_len]; exact h.own.len, fun j bs hj => ?_⟩
  have hl : j < ps.length := by have := (List.getElem?_eq_some_iff.1 hj).1; rwa [rws_len] at this
  obtain ⟨p, hp⟩ : ∃ p, ps[j]? = some p := ⟨_, List.getElem?_eq_getElem hl⟩
  obtain rfl : bs = p.2 := by have := rws_get hp; rw [hj] at this; exact Option.some.inj this
  obtain ⟨g, e, _, hg, _, hc⟩ := h.own.cell (sls_get hp)
  subst e
  exact ⟨g, 0, p.1, rfl, by rw [Nat.zero_add]; exact hc, h.all p (List.mem_of_getElem? hp) w hb⟩

set_option maxRecDepth 100000 in
set_option maxHeartbeats 4000000 in
theorem diaryrecords_yes (W : World) {A0 A2 : Option Addr} {n0 c0 n2 c2 x : Nat} {bs cs : List UInt8} (hb : Bts W (.slice A0 n0 c0) bs) (hnc : n0 ≤ c0) (h : n0 ≤ 2000) (hx : x < 18446744073709551616) (hc : Bts W (.slice A2 n2 c2) cs) (h2 : n2 ≤ 2000) :
    Calls Try.prog 3 #[.slice A0 n0 c0, .int .u64 (x : Int), .slice A2 n2 c2] W (TruePost W) := by
  have HB := hide hb
  have HC := hide hc
  have q1 : ¬ (2000 : Int) < (n0 : Int) := by omega
  have q2 : ¬ (2000 : Int) < (n2 : Int) := by omega
  have hfr : ∀ w', Kp No W w' → Calls Try.prog 10 #[.int .u64 (x : Int), .slice A2 n2 c2] w' (OwnPost w' (rcF x cs)) := fun w' hk => dfr_any hx (hc.no hk) (by omega)
  have hrf : ∀ w', Kp No W w' → Calls Try.prog 11 #[.int .u64 (x : Int), .slice A2 n2 c2] w' (OwnPost w' (rcF x cs)) := fun w' hk => rdfr_any hx (hc.no hk) (by omega)
  have HFR := hide hfr
  have HRF := hide hrf
  obtain ⟨tb, htb⟩ : ∃ t, t = strOf (rcF x cs) := ⟨_, rfl⟩
  have HTB := hide htb
  clear hb hc hfr hrf htb
  go_enter Try.func3, Try.ntmps3
  go_wp2_with fail
  refine (drecs_any HB.out hnc (by omega)).mono ?_
  rintro e w1 ⟨ps, sz, A3, r3, c3, rfl, hrc, hR, k1⟩
  have HR := hide hR
  have HRC := hide hrc
  have HK1 := hide k1
  clear hrc hR k1
  go_wp2_with fail
  refine (rdrecs_any (HB.out.no HK1.out) hnc (by omega)).mono ?_
  rintro e w2 ⟨qs, sz', A4, r4, c4, rfl, hrc, hD, k2⟩
  obtain ⟨e1, rfl⟩ := HRC.out.one hrc
  have HK2 := hide (HK1.out.trans' k2)
  have HR1 := hide ((HR.out.no k2).rws)
  have HR2 := hide (hD.rws (HB.out.no HK2.out))
  have HE := hide e1
  have hr3 : r3 ≤ 1000000 := by
    have h1 := HR1.out.len
    have h2 := HRC.out.bound.2
    have h3 := HB.out.len
    omega
  clear hrc hD k2 e1 HR
  go_wp2_with fail
  refine wp_region_noPanic ?_
  refine wp_region_held_drew (S := fun _ => True) (by kernel_rfl) (trivial) (fun hHeld => ?_)
  refine wpAnyH_take (i := 0) (v := ?vax1) (oi := ?oax1) ?hax1 (by kernel_rfl) (by kernel_rfl) (by kernel_rfl) (fun _ _ _ h => h) (Or.inl ⟨?wax1, ?yax1⟩) hHeld ?rax1
  case hax1 => simp only [List.getElem?_toArray, List.getElem?_cons_zero, List.getElem?_cons_succ]; rfl
  case wax1 => rfl
  case yax1 => intro w hSw; (try dsimp only at hSw); go_simp; (try with_reducible rfl)
  simp only [Act.put, List.setIfInBounds_toArray, List.set_cons_zero, List.set_cons_succ]
  refine wpAnyH_take (i := 1) (v := ?vax2) (oi := ?oax2) ?hax2 (by kernel_rfl) (by kernel_rfl) (by kernel_rfl) (fun _ _ _ h => h) (Or.inl ⟨?wax2, ?yax2⟩) hHeld ?rax2
  case hax2 => simp only [List.getElem?_toArray, List.getElem?_cons_zero, List.getElem?_cons_succ]; rfl
  case wax2 => rfl
  case yax2 => intro w hSw; (try dsimp only at hSw); go_simp; (try with_reducible rfl)
  simp only [Act.put, List.setIfInBounds_toArray, List.set_cons_zero, List.set_cons_succ]
  refine wpAnyH_ready (rs := [2]) (by kernel_rfl) (by simp) ?_
  refine AllReadyH.cons (o := ?oax3) ?hax3 (fun K hK => ?sax3) AllReadyH.nil
  case hax3 => simp only [List.getElem?_toArray, List.getElem?_cons_zero, List.getElem?_cons_succ]; rfl
  go_simp
  refine (same14_any (HR1.out.no (Kp.refl No w2).drew) (HR2.out.no (Kp.refl No w2).drew) hr3 HE.out).mono ?_
  rintro e w3 ⟨rfl, k3⟩
  have K3 : Kp No W w3 := (HK2.out.drew).trans' k3
  go_wp2_with fail
  refine hK.out _ _ (trivial) (fun hHeld => ?_)
  clear hK K
  try simp only [Act.put, List.setIfInBounds_toArray, List.set_cons_zero, List.set_cons_succ]
  refine wpAnyH_take (i := 3) (v := ?vax4) (oi := ?oax4) ?hax4 (by kernel_rfl) (by kernel_rfl) (by kernel_rfl) (fun _ _ _ h => h) (Or.inl ⟨?wax4, ?yax4⟩) hHeld ?rax4
  case hax4 => simp only [List.getElem?_toArray, List.getElem?_cons_zero, List.getElem?_cons_succ]; rfl
  case wax4 => rfl
  case yax4 => intro w hSw; (try dsimp only at hSw); go_simp; (try with_reducible rfl)
  simp only [Act.put, List.setIfInBounds_toArray, List.set_cons_zero, List.set_cons_succ]
  refine wpAnyH_take (i := 4) (v := ?vax5) (oi := ?oax5) ?hax5 (by kernel_rfl) (by kernel_rfl) (by kernel_rfl) (fun _ _ _ h => h) (Or.inl ⟨?wax5, ?yax5⟩) hHeld ?rax5
  case hax5 => simp only [List.getElem?_toArray, List.getElem?_cons_zero, List.getElem?_cons_succ]; rfl
  case wax5 => rfl
  case yax5 => intro w hSw; (try dsimp only at hSw); go_simp; (try with_reducible rfl)
  simp only [Act.put, List.setIfInBounds_toArray, List.set_cons_zero, List.set_cons_succ]
  refine wpAnyH_take (i := 5) (v := ?vax6) (oi := ?oax6) ?hax6 (by kernel_rfl) (by kernel_rfl) (by kernel_rfl) (fun _ _ _ h => h) (Or.inl ⟨?wax6, ?yax6⟩) hHeld ?rax6
  case hax6 => simp only [List.getElem?_toArray, List.getElem?_cons_zero, List.getElem?_cons_succ]; rfl
  case wax6 => rfl
  case yax6 => intro w hSw; (try dsimp only at hSw); go_simp; (try with_reducible rfl)
  simp only [Act.put, List.setIfInBounds_toArray, List.set_cons_zero, List.set_cons_succ]
  refine wpAnyH_take (i := 6) (v := ?vax7) (oi := ?oax7) ?hax7 (by kernel_rfl) (by kernel_rfl) (by kernel_rfl) (fun _ _ _ h => h) (Or.inl ⟨?wax7, ?yax7⟩) hHeld ?rax7
  case hax7 => simp only [List.getElem?_toArray, List.getElem?_cons_zero, List.getElem?_cons_succ]; rfl
  case wax7 => rfl
  case yax7 => intro w hSw; (try dsimp only at hSw); go_simp; (try with_reducible rfl)
  simp only [Act.put, List.setIfInBounds_toArray, List.set_cons_zero, List.set_cons_succ]
  refine wpAnyH_take (i := 7) (v := ?vax8) (oi := ?oax8) ?hax8 (by kernel_rfl) (by kernel_rfl) (by kernel_rfl) (fun _ _ _ h => h) (Or.inl ⟨?wax8, ?yax8⟩) hHeld ?rax8
  case hax8 => simp only [List.getElem?_toArray, List.getElem?_cons_zero, List.getElem?_cons_succ]; rfl
  case wax8 => rfl
  case yax8 => intro w hSw; (try dsimp only at hSw); go_simp; (try with_reducible rfl)
  simp only [Act.put, List.setIfInBounds_toArray, List.set_cons_zero, List.set_cons_succ]
  refine wpAnyH_take (i := 8) (v := ?vax9) (oi := ?oax9) ?hax9 (by kernel_rfl) (by kernel_rfl) (by kernel_rfl) (fun _ _ _ h => h) (Or.inl ⟨?wax9, ?yax9⟩) hHeld ?rax9
  case hax9 => simp only [List.getElem?_toArray, List.getElem?_cons_zero, List.getElem?_cons_succ]; rfl
  case wax9 => rfl
  case yax9 => intro w hSw; (try dsimp only at hSw); go_simp; (try with_reducible rfl)
  simp only [Act.put, List.setIfInBounds_toArray, List.set_cons_zero, List.set_cons_succ]
  refine wpAnyH_take (i := 9) (v := ?vax10) (oi := ?oax10) ?hax10 (by kernel_rfl) (by kernel_rfl) (by kernel_rfl) (fun _ _ _ h => h) (Or.inl ⟨?wax10, ?yax10⟩) hHeld ?rax10
  case hax10 => simp only [List.getElem?_toArray, List.getElem?_cons_zero, List.getElem?_cons_succ]; rfl
  case wax10 => rfl
  case yax10 => intro w hSw; (try dsimp only at hSw); go_simp; (try with_reducible rfl)
  simp only [Act.put, List.setIfInBounds_toArray, List.set_cons_zero, List.set_cons_succ]
  refine wpAnyH_take (i := 10) (v := ?vax11) (oi := ?oax11) ?hax11 (by kernel_rfl) (by kernel_rfl) (by kernel_rfl) (fun _ _ _ h => h) (Or.inl ⟨?wax11, ?yax11⟩) hHeld ?rax11
  case hax11 => simp only [List.getElem?_toArray, List.getElem?_cons_zero, List.getElem?_cons_succ]; rfl
  case wax11 => rfl
  case yax11 => intro w hSw; (try dsimp only at hSw); go_simp; (try with_reducible rfl)
  simp only [Act.put, List.setIfInBounds_toArray, List.set_cons_zero, List.set_cons_succ]
  refine wpAnyH_take (i := 13) (v := ?vax12) (oi := ?oax12) ?hax12 (by kernel_rfl) (by kernel_rfl) (by kernel_rfl) (fun _ _ _ h => h) (Or.inl ⟨?wax12, ?yax12⟩) hHeld ?rax12
  case hax12 => simp only [List.getElem?_toArray, List.getElem?_cons_zero, List.getElem?_cons_succ]; rfl
  case wax12 => rfl
  case yax12 => intro w hSw; (try dsimp only at hSw); go_simp; (try with_reducible rfl)
  simp only [Act.put, List.setIfInBounds_toArray, List.set_cons_zero, List.set_cons_succ]
  refine wpAnyH_take (i := 14) (v := ?vax13) (oi := ?oax13) ?hax13 (by kernel_rfl) (by kernel_rfl) (by kernel_rfl) (fun _ _ _ h => h) (Or.inl ⟨?wax13, ?yax13⟩) hHeld ?rax13
  case hax13 => simp only [List.getElem?_toArray, List.getElem?_cons_zero, List.getElem?_cons_succ]; rfl
  case wax13 => rfl
  case yax13 => intro w hSw; (try dsimp only at hSw); go_simp; (try with_reducible rfl)
  simp only [Act.put, List.setIfInBounds_toArray, List.set_cons_zero, List.set_cons_succ]
  refine wpAnyH_ready (rs := [11]) (by kernel_rfl) (by simp) ?_
  refine AllReadyH.cons (o := ?oax14) ?hax14 (fun K hK => ?sax14) AllReadyH.nil
  case hax14 => simp only [List.getElem?_toArray, List.getElem?_cons_zero, List.getElem?_cons_succ]; rfl
  go_simp
  refine (HFR.out _ K3).mono ?_
  rintro e w4 ⟨A5, n5, c5, rfl, o5, k4⟩
  have K4 := K3.trans' k4
  have v5 := conv_bts o5.bts
  rw [← HTB.out] at v5
  go_wp2_with fail
  refine hK.out _ _ (trivial) (fun hHeld => ?_)
  clear hK K
  try simp only [Act.put, List.setIfInBounds_toArray, List.set_cons_zero, List.set_cons_succ]
  refine wpAnyH_ready (rs := [12, 15]) (by kernel_rfl) (by simp) ?_
  refine (AllReadyH.cons (o := ?oax16) ?hax16 (fun K hK => ?sax16) (AllReadyH.cons (o := ?oax17) ?hax17 (fun K hK => ?sax17) AllReadyH.nil))
  case hax16 => simp only [List.getElem?_toArray, List.getElem?_cons_zero, List.getElem?_cons_succ]; rfl
  case hax17 => simp only [List.getElem?_toArray, List.getElem?_cons_zero, List.getElem?_cons_succ]; rfl
  case sax16 =>
    go_simp
    refine hK.out _ _ (trivial) (fun hHeld => ?_)
    clear hK K
    try simp only [Act.put, List.setIfInBounds_toArray, List.set_cons_zero, List.set_cons_succ]
    refine wpAnyH_ready (rs := [15]) (by kernel_rfl) (by simp) ?_
    refine AllReadyH.cons (o := ?oax18) ?hax18 (fun K hK => ?sax18) AllReadyH.nil
    case hax18 => simp only [List.getElem?_toArray, List.getElem?_cons_zero, List.getElem?_cons_succ]; rfl
    go_simp
    refine (HRF.out _ K4).mono ?_
    rintro e w5 ⟨A6, n6, c6, rfl, o6, k5⟩
    have K5 := K4.trans' k5
    have v6 := conv_bts o6.bts
    rw [← HTB.out] at v6
    go_wp2_with fail
    refine hK.out _ _ (trivial) (fun hHeld => ?_)
    clear hK K
    try simp only [Act.put, List.setIfInBounds_toArray, List.set_cons_zero, List.set_cons_succ]
    refine wpAnyH_ready (rs := [16]) (by kernel_rfl) (by simp) ?_
    refine AllReadyH.cons (o := ?oax19) ?hax19 (fun K hK => ?sax19) AllReadyH.nil
    case hax19 => simp only [List.getElem?_toArray, List.getElem?_cons_zero, List.getElem?_cons_succ]; rfl
    go_simp
    refine hK.out _ _ (trivial) (fun hHeld => ?_)
    clear hK K
    try simp only [Act.put, List.setIfInBounds_toArray, List.set_cons_zero, List.set_cons_succ]
    refine wpAnyH_take (i := 17) (v := ?vax20) (oi := ?oax20) ?hax20 (by kernel_rfl) (by kernel_rfl) (by kernel_rfl) (fun _ _ _ h => h) (Or.inl ⟨?wax20, ?yax20⟩) hHeld ?rax20
    case hax20 => simp only [List.getElem?_toArray, List.getElem?_cons_zero, List.getElem?_cons_succ]; rfl
    case wax20 => rfl
    case yax20 => intro w hSw; (try dsimp only at hSw); go_simp; (try with_reducible rfl)
    simp only [Act.put, List.setIfInBounds_toArray, List.set_cons_zero, List.set_cons_succ]
    refine wpAnyH_take (i := 18) (v := ?vax21) (oi := ?oax21) ?hax21 (by kernel_rfl) (by kernel_rfl) (by kernel_rfl) (fun _ _ _ h => h) (Or.inl ⟨?wax21, ?yax21⟩) hHeld ?rax21
    case hax21 => simp only [List.getElem?_toArray, List.getElem?_cons_zero, List.getElem?_cons_succ]; rfl
    case wax21 => rfl
    case yax21 => intro w hSw; (try dsimp only at hSw); go_simp; (try with_reducible rfl)
    simp only [Act.put, List.setIfInBounds_toArray, List.set_cons_zero, List.set_cons_succ]
    refine wpAnyH_take (i := 19) (v := ?vax22) (oi := ?oax22) ?hax22 (by kernel_rfl) (by kernel_rfl) (by kernel_rfl) (fun _ _ _ h => h) (Or.inl ⟨?wax22, ?yax22⟩) hHeld ?rax22
    case hax22 => simp only [List.getElem?_toArray, List.getElem?_cons_zero, List.getElem?_cons_succ]; rfl
    case wax22 => rfl
    case yax22 => intro w hSw; (try dsimp only at hSw); go_simp; (try with_reducible rfl)
    simp only [Act.put, List.setIfInBounds_toArray, List.set_cons_zero, List.set_cons_succ]
    refine wpAnyH_ready (rs := [20]) (by kernel_rfl) (by simp) ?_
    refine AllReadyH.cons (o := ?oax23) ?hax23 (fun K hK => ?sax23) AllReadyH.nil
    case hax23 => simp only [List.getElem?_toArray, List.getElem?_cons_zero, List.getElem?_cons_succ]; rfl
    go_simp
    refine (awake14_any _).mono ?_
    rintro e w6 ⟨rfl, k6⟩
    go_wp2_with fail
    refine hK.out _ _ (trivial) (fun hHeld => ?_)
    clear hK K
    try simp only [Act.put, List.setIfInBounds_toArray, List.set_cons_zero, List.set_cons_succ]
    refine wpAnyH_take (i := 21) (v := ?vax24) (oi := ?oax24) ?hax24 (by kernel_rfl) (by kernel_rfl) (by kernel_rfl) (fun _ _ _ h => h) (Or.inl ⟨?wax24, ?yax24⟩) hHeld ?rax24
    case hax24 => simp only [List.getElem?_toArray, List.getElem?_cons_zero, List.getElem?_cons_succ]; rfl
    case wax24 => rfl
    case yax24 => intro w hSw; (try dsimp only at hSw); go_simp; (try with_reducible rfl)
    simp only [Act.put, List.setIfInBounds_toArray, List.set_cons_zero, List.set_cons_succ]
    refine wpAnyH_take (i := 22) (v := ?vax25) (oi := ?oax25) ?hax25 (by kernel_rfl) (by kernel_rfl) (by kernel_rfl) (fun _ _ _ h => h) (Or.inl ⟨?wax25, ?yax25⟩) hHeld ?rax25
    case hax25 => simp only [List.getElem?_toArray, List.getElem?_cons_zero, List.getElem?_cons_succ]; rfl
    case wax25 => rfl
    case yax25 => intro w hSw; (try dsimp only at hSw); go_simp; (try with_reducible rfl)
    simp only [Act.put, List.setIfInBounds_toArray, List.set_cons_zero, List.set_cons_succ]
    refine wpAnyH_done (by kernel_rfl) ?_ _
    refine NoPanic.normal ?_
    go_wp2_with fail
    go_ret
    exact ⟨rfl, K5.trans' k6⟩
  case sax17 =>
    go_simp
    refine (HRF.out _ K4).mono ?_
    rintro e w5 ⟨A6, n6, c6, rfl, o6, k5⟩
    have K5 := K4.trans' k5
    have v6 := conv_bts o6.bts
    rw [← HTB.out] at v6
    have v5 := conv_bts (o5.no k5).bts
    rw [← HTB.out] at v5
    go_wp2_with fail
    refine hK.out _ _ (trivial) (fun hHeld => ?_)
    clear hK K
    try simp only [Act.put, List.setIfInBounds_toArray, List.set_cons_zero, List.set_cons_succ]
    refine wpAnyH_ready (rs := [12, 16]) (by kernel_rfl) (by simp) ?_
    refine (AllReadyH.cons (o := ?oax28) ?hax28 (fun K hK => ?sax28) (AllReadyH.cons (o := ?oax29) ?hax29 (fun K hK => ?sax29) AllReadyH.nil))
    case hax28 => simp only [List.getElem?_toArray, List.getElem?_cons_zero, List.getElem?_cons_succ]; rfl
    case hax29 => simp only [List.getElem?_toArray, List.getElem?_cons_zero, List.getElem?_cons_succ]; rfl
    case sax28 =>
      go_simp
      refine hK.out _ _ (trivial) (fun hHeld => ?_)
      clear hK K
      try simp only [Act.put, List.setIfInBounds_toArray, List.set_cons_zero, List.set_cons_succ]
      refine wpAnyH_ready (rs := [16]) (by kernel_rfl) (by simp) ?_
      refine AllReadyH.cons (o := ?oax30) ?hax30 (fun K hK => ?sax30) AllReadyH.nil
      case hax30 => simp only [List.getElem?_toArray, List.getElem?_cons_zero, List.getElem?_cons_succ]; rfl
      go_simp
      refine hK.out _ _ (trivial) (fun hHeld => ?_)
      clear hK K
      try simp only [Act.put, List.setIfInBounds_toArray, List.set_cons_zero, List.set_cons_succ]
      refine wpAnyH_take (i := 17) (v := ?vax31) (oi := ?oax31) ?hax31 (by kernel_rfl) (by kernel_rfl) (by kernel_rfl) (fun _ _ _ h => h) (Or.inl ⟨?wax31, ?yax31⟩) hHeld ?rax31
      case hax31 => simp only [List.getElem?_toArray, List.getElem?_cons_zero, List.getElem?_cons_succ]; rfl
      case wax31 => rfl
      case yax31 => intro w hSw; (try dsimp only at hSw); go_simp; (try with_reducible rfl)
      simp only [Act.put, List.setIfInBounds_toArray, List.set_cons_zero, List.set_cons_succ]
      refine wpAnyH_take (i := 18) (v := ?vax32) (oi := ?oax32) ?hax32 (by kernel_rfl) (by kernel_rfl) (by kernel_rfl) (fun _ _ _ h => h) (Or.inl ⟨?wax32, ?yax32⟩) hHeld ?rax32
      case hax32 => simp only [List.getElem?_toArray, List.getElem?_cons_zero, List.getElem?_cons_succ]; rfl
      case wax32 => rfl
      case yax32 => intro w hSw; (try dsimp only at hSw); go_simp; (try with_reducible rfl)
      simp only [Act.put, List.setIfInBounds_toArray, List.set_cons_zero, List.set_cons_succ]
      refine wpAnyH_take (i := 19) (v := ?vax33) (oi := ?oax33) ?hax33 (by kernel_rfl) (by kernel_rfl) (by kernel_rfl) (fun _ _ _ h => h) (Or.inl ⟨?wax33, ?yax33⟩) hHeld ?rax33
      case hax33 => simp only [List.getElem?_toArray, List.getElem?_cons_zero, List.getElem?_cons_succ]; rfl
      case wax33 => rfl
      case yax33 => intro w hSw; (try dsimp only at hSw); go_simp; (try with_reducible rfl)
      simp only [Act.put, List.setIfInBounds_toArray, List.set_cons_zero, List.set_cons_succ]
      refine wpAnyH_ready (rs := [20]) (by kernel_rfl) (by simp) ?_
      refine AllReadyH.cons (o := ?oax34) ?hax34 (fun K hK => ?sax34) AllReadyH.nil
      case hax34 => simp only [List.getElem?_toArray, List.getElem?_cons_zero, List.getElem?_cons_succ]; rfl
      go_simp
      refine (awake14_any _).mono ?_
      rintro e w6 ⟨rfl, k6⟩
      go_wp2_with fail
      refine hK.out _ _ (trivial) (fun hHeld => ?_)
      clear hK K
      try simp only [Act.put, List.setIfInBounds_toArray, List.set_cons_zero, List.set_cons_succ]
      refine wpAnyH_take (i := 21) (v := ?vax35) (oi := ?oax35) ?hax35 (by kernel_rfl) (by kernel_rfl) (by kernel_rfl) (fun _ _ _ h => h) (Or.inl ⟨?wax35, ?yax35⟩) hHeld ?rax35
      case hax35 => simp only [List.getElem?_toArray, List.getElem?_cons_zero, List.getElem?_cons_succ]; rfl
      case wax35 => rfl
      case yax35 => intro w hSw; (try dsimp only at hSw); go_simp; (try with_reducible rfl)
      simp only [Act.put, List.setIfInBounds_toArray, List.set_cons_zero, List.set_cons_succ]
      refine wpAnyH_take (i := 22) (v := ?vax36) (oi := ?oax36) ?hax36 (by kernel_rfl) (by kernel_rfl) (by kernel_rfl) (fun _ _ _ h => h) (Or.inl ⟨?wax36, ?yax36⟩) hHeld ?rax36
      case hax36 => simp only [List.getElem?_toArray, List.getElem?_cons_zero, List.getElem?_cons_succ]; rfl
      case wax36 => rfl
      case yax36 => intro w hSw; (try dsimp only at hSw); go_simp; (try with_reducible rfl)
      simp only [Act.put, List.setIfInBounds_toArray, List.set_cons_zero, List.set_cons_succ]
      refine wpAnyH_done (by kernel_rfl) ?_ _
      refine NoPanic.normal ?_
      go_wp2_with fail
      go_ret
      exact ⟨rfl, K5.trans' k6⟩
    case sax29 =>
      go_simp
      refine hK.out _ _ (trivial) (fun hHeld => ?_)
      clear hK K
      try simp only [Act.put, List.setIfInBounds_toArray, List.set_cons_zero, List.set_cons_succ]
      refine wpAnyH_ready (rs := [12]) (by kernel_rfl) (by simp) ?_
      refine AllReadyH.cons (o := ?oax38) ?hax38 (fun K hK => ?sax38) AllReadyH.nil
      case hax38 => simp only [List.getElem?_toArray, List.getElem?_cons_zero, List.getElem?_cons_succ]; rfl
      go_simp
      refine hK.out _ _ (trivial) (fun hHeld => ?_)
      clear hK K
      try simp only [Act.put, List.setIfInBounds_toArray, List.set_cons_zero, List.set_cons_succ]
      refine wpAnyH_take (i := 17) (v := ?vax39) (oi := ?oax39) ?hax39 (by kernel_rfl) (by kernel_rfl) (by kernel_rfl) (fun _ _ _ h => h) (Or.inl ⟨?wax39, ?yax39⟩) hHeld ?rax39
      case hax39 => simp only [List.getElem?_toArray, List.getElem?_cons_zero, List.getElem?_cons_succ]; rfl
      case wax39 => rfl
      case yax39 => intro w hSw; (try dsimp only at hSw); go_simp; (try with_reducible rfl)
      simp only [Act.put, List.setIfInBounds_toArray, List.set_cons_zero, List.set_cons_succ]
      refine wpAnyH_take (i := 18) (v := ?vax40) (oi := ?oax40) ?hax40 (by kernel_rfl) (by kernel_rfl) (by kernel_rfl) (fun _ _ _ h => h) (Or.inl ⟨?wax40, ?yax40⟩) hHeld ?rax40
      case hax40 => simp only [List.getElem?_toArray, List.getElem?_cons_zero, List.getElem?_cons_succ]; rfl
      case wax40 => rfl
      case yax40 => intro w hSw; (try dsimp only at hSw); go_simp; (try with_reducible rfl)
      simp only [Act.put, List.setIfInBounds_toArray, List.set_cons_zero, List.set_cons_succ]
      refine wpAnyH_take (i := 19) (v := ?vax41) (oi := ?oax41) ?hax41 (by kernel_rfl) (by kernel_rfl) (by kernel_rfl) (fun _ _ _ h => h) (Or.inl ⟨?wax41, ?yax41⟩) hHeld ?rax41
      case hax41 => simp only [List.getElem?_toArray, List.getElem?_cons_zero, List.getElem?_cons_succ]; rfl
      case wax41 => rfl
      case yax41 => intro w hSw; (try dsimp only at hSw); go_simp; (try with_reducible rfl)
      simp only [Act.put, List.setIfInBounds_toArray, List.set_cons_zero, List.set_cons_succ]
      refine wpAnyH_ready (rs := [20]) (by kernel_rfl) (by simp) ?_
      refine AllReadyH.cons (o := ?oax42) ?hax42 (fun K hK => ?sax42) AllReadyH.nil
      case hax42 => simp only [List.getElem?_toArray, List.getElem?_cons_zero, List.getElem?_cons_succ]; rfl
      go_simp
      refine (awake14_any _).mono ?_
      rintro e w6 ⟨rfl, k6⟩
      go_wp2_with fail
      refine hK.out _ _ (trivial) (fun hHeld => ?_)
      clear hK K
      try simp only [Act.put, List.setIfInBounds_toArray, List.set_cons_zero, List.set_cons_succ]
      refine wpAnyH_take (i := 21) (v := ?vax43) (oi := ?oax43) ?hax43 (by kernel_rfl) (by kernel_rfl) (by kernel_rfl) (fun _ _ _ h => h) (Or.inl ⟨?wax43, ?yax43⟩) hHeld ?rax43
      case hax43 => simp only [List.getElem?_toArray, List.getElem?_cons_zero, List.getElem?_cons_succ]; rfl
      case wax43 => rfl
      case yax43 => intro w hSw; (try dsimp only at hSw); go_simp; (try with_reducible rfl)
      simp only [Act.put, List.setIfInBounds_toArray, List.set_cons_zero, List.set_cons_succ]
      refine wpAnyH_take (i := 22) (v := ?vax44) (oi := ?oax44) ?hax44 (by kernel_rfl) (by kernel_rfl) (by kernel_rfl) (fun _ _ _ h => h) (Or.inl ⟨?wax44, ?yax44⟩) hHeld ?rax44
      case hax44 => simp only [List.getElem?_toArray, List.getElem?_cons_zero, List.getElem?_cons_succ]; rfl
      case wax44 => rfl
      case yax44 => intro w hSw; (try dsimp only at hSw); go_simp; (try with_reducible rfl)
      simp only [Act.put, List.setIfInBounds_toArray, List.set_cons_zero, List.set_cons_succ]
      refine wpAnyH_done (by kernel_rfl) ?_ _
      refine NoPanic.normal ?_
      go_wp2_with fail
      go_ret
      exact ⟨rfl, K5.trans' k6⟩
theorem diaryrecords_no (W : World) {A0 A2 : Option Addr} {n0 c0 n2 c2 : Nat} {x : Int} (h : 2000 < n0 ∨ (n0 ≤ 2000 ∧ 2000 < n2)) :
    Calls Try.prog 3 #[.slice A0 n0 c0, .int .u64 x, .slice A2 n2 c2] W (TruePost W) := by
  rcases h with h | ⟨h1, h⟩
  · have q1 : (2000 : Int) < (n0 : Int) := by omega
    go_enter Try.func3, Try.ntmps3
    go_wp2_with fail
    refine (awake14_any _).mono ?_
    rintro e w1 ⟨rfl, k1⟩
    go_wp2_with fail
    go_ret
    exact ⟨rfl, k1⟩
  · have q1 : ¬ (2000 : Int) < (n0 : Int) := by omega
    have q2 : (2000 : Int) < (n2 : Int) := by omega
    go_enter Try.func3, Try.ntmps3
    go_wp2_with fail
    refine (awake14_any _).mono ?_
    rintro e w1 ⟨rfl, k1⟩
    go_wp2_with fail
    go_ret
    exact ⟨rfl, k1⟩
theorem diaryrecords_walk (W : World) {A0 A2 : Option Addr} {n0 c0 n2 c2 : Nat} {bs cs : List UInt8} (hb : Bts W (.slice A0 n0 c0) bs) (hnc : n0 ≤ c0) (x : Int) (hx : (Lit.int .u64 x).wf = true) (hc : Bts W (.slice A2 n2 c2) cs) :
    Calls Try.prog 3 #[.slice A0 n0 c0, .int .u64 x, .slice A2 n2 c2] W fun e W' => e = .returned (.bool true) ∧ Below W.heap.size W W' := by
  by_cases h : n0 ≤ 2000 ∧ n2 ≤ 2000
  · have h1 := bounds_u64 hx
    obtain ⟨y, rfl⟩ : ∃ y : Nat, x = y := ⟨x.toNat, by omega⟩
    exact (diaryrecords_yes W hb hnc h.1 (by omega) hc h.2).mono fun e W' p => ⟨p.1, p.2.below0⟩
  · exact (diaryrecords_no W (by omega)).mono fun e W' p => ⟨p.1, p.2.below0⟩
end Go.Proofs.Ytikegnhjnbjclaa
