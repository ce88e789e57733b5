/- VandRows: the powers of every element, and the matrix of any points, or that there is none. -/
import Derived.Test.YtllcmblkjcppnaaVq
import Derived.Test.YtllcmblkjcppnaaVx
import Derived.Deep.DeepCutAuto
import Derived.Deep.RegionHeld3
namespace Go.Proofs.Ytllcmblkjcppnaa
open Go.RowKit
set_option linter.unusedVariables false
set_option linter.unusedSimpArgs false

/-- The law's end. -/
def RBel (w : World) (e : Ending) (w1 : World) : Prop := e = .returned (.bool true) ∧ Below w.heap.size w w1
section
variable {w : World} {A : Option Addr} {m c : Nat} {bs : List UInt8} {x : UInt8}
theorem rows_long (hm : 100 < m) (n : Int) : Calls Try.prog 3 #[.slice A m c, .int .u8 (x.toNat : Int), .int .i64 n] w (RBel w) := by
  go_enter Try.func3, Try.ntmps3
  go_wp2_with fail
  refine (awake5_any _).mono ?_
  rintro e w9 ⟨rfl, k9⟩
  go_wp2_with fail
  go_ret
  exact ⟨rfl, k9.below0⟩
theorem rows_wide (hm : m ≤ 100) (n : Int) (hn : 100 < n) : Calls Try.prog 3 #[.slice A m c, .int .u8 (x.toNat : Int), .int .i64 n] w (RBel w) := by
  go_enter Try.func3, Try.ntmps3
  go_wp2_with fail
  refine (awake5_any _).mono ?_
  rintro e w9 ⟨rfl, k9⟩
  go_wp2_with fail
  go_ret
  exact ⟨rfl, k9.below0⟩
set_option maxHeartbeats 8000000 in
set_option maxRecDepth 100000 in
theorem rows_none (h : Bts w (.slice A m c) bs) (hm : m ≤ 100) (n : Int) (hn : n < 1) : Calls Try.prog 3 #[.slice A m c, .int .u8 (x.toNat : Int), .int .i64 n] w (RBel w) := by
  have HV := hide fun w => vrow_none (x.toNat : Int) n w hn
  have HW := hide fun w => rrow_none (x.toNat : Int) n w hn
  obtain ⟨t, ht⟩ : ∃ t, t = strOf [] := ⟨_, rfl⟩
  have HT := hide ht
  clear ht
  have HM := hide fun w' (hk : Kp No w w') => matrix_no (h.no hk) n (by omega)
  go_enter Try.func3, Try.ntmps3
  go_upto_region 3 with fail
  go_cut [28] (fun s wx => s = .bool false ∧ Kp No w wx)
  case first =>
    refine wp_region_noPanic ?_
    refine wp_region_held_drew (S := fun _ => True) (by kernel_rfl) (trivial) (fun hHeld => ?_)
    refine wpAnyH_take (i := 0) (v := ?vax1) (oi := ?oax1) ?hax1 (by kernel_rfl) (by kernel_rfl) (by kernel_rfl) (fun _ _ _ h => h) (Or.inl ⟨?wax1, ?yax1⟩) hHeld ?rax1
    case hax1 => simp only [List.getElem?_toArray, List.getElem?_cons_zero, List.getElem?_cons_succ]; rfl
    case wax1 => rfl
    case yax1 => intro w hSw; (try dsimp only at hSw); go_simp; (try with_reducible rfl)
    simp only [Act.put, List.setIfInBounds_toArray, List.set_cons_zero, List.set_cons_succ]
    refine wpAnyH_take (i := 1) (v := ?vax2) (oi := ?oax2) ?hax2 (by kernel_rfl) (by kernel_rfl) (by kernel_rfl) (fun _ _ _ h => h) (Or.inl ⟨?wax2, ?yax2⟩) hHeld ?rax2
    case hax2 => simp only [List.getElem?_toArray, List.getElem?_cons_zero, List.getElem?_cons_succ]; rfl
    case wax2 => rfl
    case yax2 => intro w hSw; (try dsimp only at hSw); go_simp; (try with_reducible rfl)
    simp only [Act.put, List.setIfInBounds_toArray, List.set_cons_zero, List.set_cons_succ]
    refine wpAnyH_take (i := 4) (v := ?vax3) (oi := ?oax3) ?hax3 (by kernel_rfl) (by kernel_rfl) (by kernel_rfl) (fun _ _ _ h => h) (Or.inl ⟨?wax3, ?yax3⟩) hHeld ?rax3
    case hax3 => simp only [List.getElem?_toArray, List.getElem?_cons_zero, List.getElem?_cons_succ]; rfl
    case wax3 => rfl
    case yax3 => intro w hSw; (try dsimp only at hSw); go_simp; (try with_reducible rfl)
    simp only [Act.put, List.setIfInBounds_toArray, List.set_cons_zero, List.set_cons_succ]
    refine wpAnyH_take (i := 5) (v := ?vax4) (oi := ?oax4) ?hax4 (by kernel_rfl) (by kernel_rfl) (by kernel_rfl) (fun _ _ _ h => h) (Or.inl ⟨?wax4, ?yax4⟩) hHeld ?rax4
    case hax4 => simp only [List.getElem?_toArray, List.getElem?_cons_zero, List.getElem?_cons_succ]; rfl
    case wax4 => rfl
    case yax4 => intro w hSw; (try dsimp only at hSw); go_simp; (try with_reducible rfl)
    simp only [Act.put, List.setIfInBounds_toArray, List.set_cons_zero, List.set_cons_succ]
    refine wpAnyH_ready (rs := [2]) (by kernel_rfl) (by simp) ?_
    refine AllReadyH.cons (o := ?oax5) ?hax5 (fun K hK => ?sax5) AllReadyH.nil
    case hax5 => simp only [List.getElem?_toArray, List.getElem?_cons_zero, List.getElem?_cons_succ]; rfl
    go_simp
    refine (HV.out _).mono ?_
    rintro e w2 ⟨A2, n2, c2, rfl, o2, k2⟩
    have v2 := conv_bts o2.bts
    rw [← HT.out] at v2
    go_wp2_with fail
    refine hK.out _ _ (trivial) (fun hHeld => ?_)
    clear hK K
    try simp only [Act.put, List.setIfInBounds_toArray, List.set_cons_zero, List.set_cons_succ]
    refine wpAnyH_ready (rs := [3, 6]) (by kernel_rfl) (by simp) ?_
    refine (AllReadyH.cons (o := ?oax7) ?hax7 (fun K hK => ?sax7) (AllReadyH.cons (o := ?oax8) ?hax8 (fun K hK => ?sax8) AllReadyH.nil))
    case hax7 => simp only [List.getElem?_toArray, List.getElem?_cons_zero, List.getElem?_cons_succ]; rfl
    case hax8 => simp only [List.getElem?_toArray, List.getElem?_cons_zero, List.getElem?_cons_succ]; rfl
    case sax7 =>
      go_simp
      refine hK.out _ _ (trivial) (fun hHeld => ?_)
      clear hK K
      try simp only [Act.put, List.setIfInBounds_toArray, List.set_cons_zero, List.set_cons_succ]
      refine wpAnyH_ready (rs := [6]) (by kernel_rfl) (by simp) ?_
      refine AllReadyH.cons (o := ?oax9) ?hax9 (fun K hK => ?sax9) AllReadyH.nil
      case hax9 => simp only [List.getElem?_toArray, List.getElem?_cons_zero, List.getElem?_cons_succ]; rfl
      go_simp
      refine (HW.out _).mono ?_
      rintro e w3 ⟨A3, n3, c3, rfl, o3, k3⟩
      have v3 := conv_bts o3.bts
      rw [← HT.out] at v3
      go_wp2_with fail
      refine hK.out _ _ (trivial) (fun hHeld => ?_)
      clear hK K
      try simp only [Act.put, List.setIfInBounds_toArray, List.set_cons_zero, List.set_cons_succ]
      refine wpAnyH_ready (rs := [7]) (by kernel_rfl) (by simp) ?_
      refine AllReadyH.cons (o := ?oax10) ?hax10 (fun K hK => ?sax10) AllReadyH.nil
      case hax10 => simp only [List.getElem?_toArray, List.getElem?_cons_zero, List.getElem?_cons_succ]; rfl
      go_simp
      refine hK.out _ _ (trivial) (fun hHeld => ?_)
      clear hK K
      try simp only [Act.put, List.setIfInBounds_toArray, List.set_cons_zero, List.set_cons_succ]
      refine wpAnyH_take (i := 8) (v := ?vax11) (oi := ?oax11) ?hax11 (by kernel_rfl) (by kernel_rfl) (by kernel_rfl) (fun _ _ _ h => h) (Or.inl ⟨?wax11, ?yax11⟩) hHeld ?rax11
      case hax11 => simp only [List.getElem?_toArray, List.getElem?_cons_zero, List.getElem?_cons_succ]; rfl
      case wax11 => rfl
      case yax11 => intro w hSw; (try dsimp only at hSw); go_simp; (try with_reducible rfl)
      simp only [Act.put, List.setIfInBounds_toArray, List.set_cons_zero, List.set_cons_succ]
      refine wpAnyH_done (by kernel_rfl) ?_ _
      refine NoPanic.normal ?_
      go_wp2_with fail
      go_meet
      exact ⟨by simp, (((Sm.drew w).kp.trans' k2).trans' k3)⟩
    case sax8 =>
      go_simp
      refine (HW.out _).mono ?_
      rintro e w3 ⟨A3, n3, c3, rfl, o3, k3⟩
      have v3 := conv_bts o3.bts
      rw [← HT.out] at v3
      have v2 := conv_bts (o2.no k3).bts
      rw [← HT.out] at v2
      go_wp2_with fail
      refine hK.out _ _ (trivial) (fun hHeld => ?_)
      clear hK K
      try simp only [Act.put, List.setIfInBounds_toArray, List.set_cons_zero, List.set_cons_succ]
      refine wpAnyH_ready (rs := [3, 7]) (by kernel_rfl) (by simp) ?_
      refine (AllReadyH.cons (o := ?oax14) ?hax14 (fun K hK => ?sax14) (AllReadyH.cons (o := ?oax15) ?hax15 (fun K hK => ?sax15) AllReadyH.nil))
      case hax14 => simp only [List.getElem?_toArray, List.getElem?_cons_zero, List.getElem?_cons_succ]; rfl
      case hax15 => simp only [List.getElem?_toArray, List.getElem?_cons_zero, List.getElem?_cons_succ]; rfl
      case sax14 =>
        go_simp
        refine hK.out _ _ (trivial) (fun hHeld => ?_)
        clear hK K
        try simp only [Act.put, List.setIfInBounds_toArray, List.set_cons_zero, List.set_cons_succ]
        refine wpAnyH_ready (rs := [7]) (by kernel_rfl) (by simp) ?_
        refine AllReadyH.cons (o := ?oax16) ?hax16 (fun K hK => ?sax16) AllReadyH.nil
        case hax16 => simp only [List.getElem?_toArray, List.getElem?_cons_zero, List.getElem?_cons_succ]; rfl
        go_simp
        refine hK.out _ _ (trivial) (fun hHeld => ?_)
        clear hK K
        try simp only [Act.put, List.setIfInBounds_toArray, List.set_cons_zero, List.set_cons_succ]
        refine wpAnyH_take (i := 8) (v := ?vax17) (oi := ?oax17) ?hax17 (by kernel_rfl) (by kernel_rfl) (by kernel_rfl) (fun _ _ _ h => h) (Or.inl ⟨?wax17, ?yax17⟩) hHeld ?rax17
        case hax17 => simp only [List.getElem?_toArray, List.getElem?_cons_zero, List.getElem?_cons_succ]; rfl
        case wax17 => rfl
        case yax17 => intro w hSw; (try dsimp only at hSw); go_simp; (try with_reducible rfl)
        simp only [Act.put, List.setIfInBounds_toArray, List.set_cons_zero, List.set_cons_succ]
        refine wpAnyH_done (by kernel_rfl) ?_ _
        refine NoPanic.normal ?_
        go_wp2_with fail
        go_meet
        exact ⟨by simp, (((Sm.drew w).kp.trans' k2).trans' k3)⟩
      case sax15 =>
        go_simp
        refine hK.out _ _ (trivial) (fun hHeld => ?_)
        clear hK K
        try simp only [Act.put, List.setIfInBounds_toArray, List.set_cons_zero, List.set_cons_succ]
        refine wpAnyH_ready (rs := [3]) (by kernel_rfl) (by simp) ?_
        refine AllReadyH.cons (o := ?oax19) ?hax19 (fun K hK => ?sax19) AllReadyH.nil
        case hax19 => simp only [List.getElem?_toArray, List.getElem?_cons_zero, List.getElem?_cons_succ]; rfl
        go_simp
        refine hK.out _ _ (trivial) (fun hHeld => ?_)
        clear hK K
        try simp only [Act.put, List.setIfInBounds_toArray, List.set_cons_zero, List.set_cons_succ]
        refine wpAnyH_take (i := 8) (v := ?vax20) (oi := ?oax20) ?hax20 (by kernel_rfl) (by kernel_rfl) (by kernel_rfl) (fun _ _ _ h => h) (Or.inl ⟨?wax20, ?yax20⟩) hHeld ?rax20
        case hax20 => simp only [List.getElem?_toArray, List.getElem?_cons_zero, List.getElem?_cons_succ]; rfl
        case wax20 => rfl
        case yax20 => intro w hSw; (try dsimp only at hSw); go_simp; (try with_reducible rfl)
        simp only [Act.put, List.setIfInBounds_toArray, List.set_cons_zero, List.set_cons_succ]
        refine wpAnyH_done (by kernel_rfl) ?_ _
        refine NoPanic.normal ?_
        go_wp2_with fail
        go_meet
        exact ⟨by simp, (((Sm.drew w).kp.trans' k2).trans' k3)⟩
  case rest =>
    obtain ⟨rfl, kc⟩ := hcut
    go_wp2_with fail
    refine (HM.out _ kc).mono ?_
    rintro e w4 ⟨rfl, j4⟩
    have k4 := kc.trans' j4
    go_wp2_with fail
    refine (awake5_any _).mono ?_
    rintro e w9 ⟨rfl, k9⟩
    go_wp2_with fail
    go_ret
    exact ⟨rfl, (k4.trans' k9).below0⟩
set_option maxHeartbeats 8000000 in
set_option maxRecDepth 100000 in
theorem rows_q (h : Bts w (.slice A m c) bs) (hm : m ≤ 100) (q : Nat) (hq1 : 1 ≤ q) (hq : q ≤ 100) (hb : 64 < q) : Calls Try.prog 3 #[.slice A m c, .int .u8 (x.toNat : Int), .int .i64 (q : Int)] w (RBel w) := by
  have HV := hide fun w => vrow_any x q w hq1 (by omega)
  have HW := hide fun w => rrow_any x q w (by omega)
  obtain ⟨t, ht⟩ : ∃ t, t = strOf (rowL q (upw x)) := ⟨_, rfl⟩
  have HT := hide ht
  clear ht
  have HM := hide fun w' (hk : Kp No w w') => matrix_no (h.no hk) (q : Int) (by omega)
  go_enter Try.func3, Try.ntmps3
  go_upto_region 3 with fail
  go_cut [28] (fun s wx => s = .bool false ∧ Kp No w wx)
  case first =>
    refine wp_region_noPanic ?_
    refine wp_region_held_drew (S := fun _ => True) (by kernel_rfl) (trivial) (fun hHeld => ?_)
    refine wpAnyH_take (i := 0) (v := ?vax1) (oi := ?oax1) ?hax1 (by kernel_rfl) (by kernel_rfl) (by kernel_rfl) (fun _ _ _ h => h) (Or.inl ⟨?wax1, ?yax1⟩) hHeld ?rax1
    case hax1 => simp only [List.getElem?_toArray, List.getElem?_cons_zero, List.getElem?_cons_succ]; rfl
    case wax1 => rfl
    case yax1 => intro w hSw; (try dsimp only at hSw); go_simp; (try with_reducible rfl)
    simp only [Act.put, List.setIfInBounds_toArray, List.set_cons_zero, List.set_cons_succ]
    refine wpAnyH_take (i := 1) (v := ?vax2) (oi := ?oax2) ?hax2 (by kernel_rfl) (by kernel_rfl) (by kernel_rfl) (fun _ _ _ h => h) (Or.inl ⟨?wax2, ?yax2⟩) hHeld ?rax2
    case hax2 => simp only [List.getElem?_toArray, List.getElem?_cons_zero, List.getElem?_cons_succ]; rfl
    case wax2 => rfl
    case yax2 => intro w hSw; (try dsimp only at hSw); go_simp; (try with_reducible rfl)
    simp only [Act.put, List.setIfInBounds_toArray, List.set_cons_zero, List.set_cons_succ]
    refine wpAnyH_take (i := 4) (v := ?vax3) (oi := ?oax3) ?hax3 (by kernel_rfl) (by kernel_rfl) (by kernel_rfl) (fun _ _ _ h => h) (Or.inl ⟨?wax3, ?yax3⟩) hHeld ?rax3
    case hax3 => simp only [List.getElem?_toArray, List.getElem?_cons_zero, List.getElem?_cons_succ]; rfl
    case wax3 => rfl
    case yax3 => intro w hSw; (try dsimp only at hSw); go_simp; (try with_reducible rfl)
    simp only [Act.put, List.setIfInBounds_toArray, List.set_cons_zero, List.set_cons_succ]
    refine wpAnyH_take (i := 5) (v := ?vax4) (oi := ?oax4) ?hax4 (by kernel_rfl) (by kernel_rfl) (by kernel_rfl) (fun _ _ _ h => h) (Or.inl ⟨?wax4, ?yax4⟩) hHeld ?rax4
    case hax4 => simp only [List.getElem?_toArray, List.getElem?_cons_zero, List.getElem?_cons_succ]; rfl
    case wax4 => rfl
    case yax4 => intro w hSw; (try dsimp only at hSw); go_simp; (try with_reducible rfl)
    simp only [Act.put, List.setIfInBounds_toArray, List.set_cons_zero, List.set_cons_succ]
    refine wpAnyH_ready (rs := [2]) (by kernel_rfl) (by simp) ?_
    refine AllReadyH.cons (o := ?oax5) ?hax5 (fun K hK => ?sax5) AllReadyH.nil
    case hax5 => simp only [List.getElem?_toArray, List.getElem?_cons_zero, List.getElem?_cons_succ]; rfl
    go_simp
    refine (HV.out _).mono ?_
    rintro e w2 ⟨A2, n2, c2, rfl, o2, k2⟩
    have v2 := conv_bts o2.bts
    rw [← HT.out] at v2
    go_wp2_with fail
    refine hK.out _ _ (trivial) (fun hHeld => ?_)
    clear hK K
    try simp only [Act.put, List.setIfInBounds_toArray, List.set_cons_zero, List.set_cons_succ]
    refine wpAnyH_ready (rs := [3, 6]) (by kernel_rfl) (by simp) ?_
    refine (AllReadyH.cons (o := ?oax7) ?hax7 (fun K hK => ?sax7) (AllReadyH.cons (o := ?oax8) ?hax8 (fun K hK => ?sax8) AllReadyH.nil))
    case hax7 => simp only [List.getElem?_toArray, List.getElem?_cons_zero, List.getElem?_cons_succ]; rfl
    case hax8 => simp only [List.getElem?_toArray, List.getElem?_cons_zero, List.getElem?_cons_succ]; rfl
    case sax7 =>
      go_simp
      refine hK.out _ _ (trivial) (fun hHeld => ?_)
      clear hK K
      try simp only [Act.put, List.setIfInBounds_toArray, List.set_cons_zero, List.set_cons_succ]
      refine wpAnyH_ready (rs := [6]) (by kernel_rfl) (by simp) ?_
      refine AllReadyH.cons (o := ?oax9) ?hax9 (fun K hK => ?sax9) AllReadyH.nil
      case hax9 => simp only [List.getElem?_toArray, List.getElem?_cons_zero, List.getElem?_cons_succ]; rfl
      go_simp
      refine (HW.out _).mono ?_
      rintro e w3 ⟨A3, n3, c3, rfl, o3, k3⟩
      have v3 := conv_bts o3.bts
      rw [← HT.out] at v3
      go_wp2_with fail
      refine hK.out _ _ (trivial) (fun hHeld => ?_)
      clear hK K
      try simp only [Act.put, List.setIfInBounds_toArray, List.set_cons_zero, List.set_cons_succ]
      refine wpAnyH_ready (rs := [7]) (by kernel_rfl) (by simp) ?_
      refine AllReadyH.cons (o := ?oax10) ?hax10 (fun K hK => ?sax10) AllReadyH.nil
      case hax10 => simp only [List.getElem?_toArray, List.getElem?_cons_zero, List.getElem?_cons_succ]; rfl
      go_simp
      refine hK.out _ _ (trivial) (fun hHeld => ?_)
      clear hK K
      try simp only [Act.put, List.setIfInBounds_toArray, List.set_cons_zero, List.set_cons_succ]
      refine wpAnyH_take (i := 8) (v := ?vax11) (oi := ?oax11) ?hax11 (by kernel_rfl) (by kernel_rfl) (by kernel_rfl) (fun _ _ _ h => h) (Or.inl ⟨?wax11, ?yax11⟩) hHeld ?rax11
      case hax11 => simp only [List.getElem?_toArray, List.getElem?_cons_zero, List.getElem?_cons_succ]; rfl
      case wax11 => rfl
      case yax11 => intro w hSw; (try dsimp only at hSw); go_simp; (try with_reducible rfl)
      simp only [Act.put, List.setIfInBounds_toArray, List.set_cons_zero, List.set_cons_succ]
      refine wpAnyH_done (by kernel_rfl) ?_ _
      refine NoPanic.normal ?_
      go_wp2_with fail
      go_meet
      exact ⟨by simp, (((Sm.drew w).kp.trans' k2).trans' k3)⟩
    case sax8 =>
      go_simp
      refine (HW.out _).mono ?_
      rintro e w3 ⟨A3, n3, c3, rfl, o3, k3⟩
      have v3 := conv_bts o3.bts
      rw [← HT.out] at v3
      have v2 := conv_bts (o2.no k3).bts
      rw [← HT.out] at v2
      go_wp2_with fail
      refine hK.out _ _ (trivial) (fun hHeld => ?_)
      clear hK K
      try simp only [Act.put, List.setIfInBounds_toArray, List.set_cons_zero, List.set_cons_succ]
      refine wpAnyH_ready (rs := [3, 7]) (by kernel_rfl) (by simp) ?_
      refine (AllReadyH.cons (o := ?oax14) ?hax14 (fun K hK => ?sax14) (AllReadyH.cons (o := ?oax15) ?hax15 (fun K hK => ?sax15) AllReadyH.nil))
      case hax14 => simp only [List.getElem?_toArray, List.getElem?_cons_zero, List.getElem?_cons_succ]; rfl
      case hax15 => simp only [List.getElem?_toArray, List.getElem?_cons_zero, List.getElem?_cons_succ]; rfl
      case sax14 =>
        go_simp
        refine hK.out _ _ (trivial) (fun hHeld => ?_)
        clear hK K
        try simp only [Act.put, List.setIfInBounds_toArray, List.set_cons_zero, List.set_cons_succ]
        refine wpAnyH_ready (rs := [7]) (by kernel_rfl) (by simp) ?_
        refine AllReadyH.cons (o := ?oax16) ?hax16 (fun K hK => ?sax16) AllReadyH.nil
        case hax16 => simp only [List.getElem?_toArray, List.getElem?_cons_zero, List.getElem?_cons_succ]; rfl
        go_simp
        refine hK.out _ _ (trivial) (fun hHeld => ?_)
        clear hK K
        try simp only [Act.put, List.setIfInBounds_toArray, List.set_cons_zero, List.set_cons_succ]
        refine wpAnyH_take (i := 8) (v := ?vax17) (oi := ?oax17) ?hax17 (by kernel_rfl) (by kernel_rfl) (by kernel_rfl) (fun _ _ _ h => h) (Or.inl ⟨?wax17, ?yax17⟩) hHeld ?rax17
        case hax17 => simp only [List.getElem?_toArray, List.getElem?_cons_zero, List.getElem?_cons_succ]; rfl
        case wax17 => rfl
        case yax17 => intro w hSw; (try dsimp only at hSw); go_simp; (try with_reducible rfl)
        simp only [Act.put, List.setIfInBounds_toArray, List.set_cons_zero, List.set_cons_succ]
        refine wpAnyH_done (by kernel_rfl) ?_ _
        refine NoPanic.normal ?_
        go_wp2_with fail
        go_meet
        exact ⟨by simp, (((Sm.drew w).kp.trans' k2).trans' k3)⟩
      case sax15 =>
        go_simp
        refine hK.out _ _ (trivial) (fun hHeld => ?_)
        clear hK K
        try simp only [Act.put, List.setIfInBounds_toArray, List.set_cons_zero, List.set_cons_succ]
        refine wpAnyH_ready (rs := [3]) (by kernel_rfl) (by simp) ?_
        refine AllReadyH.cons (o := ?oax19) ?hax19 (fun K hK => ?sax19) AllReadyH.nil
        case hax19 => simp only [List.getElem?_toArray, List.getElem?_cons_zero, List.getElem?_cons_succ]; rfl
        go_simp
        refine hK.out _ _ (trivial) (fun hHeld => ?_)
        clear hK K
        try simp only [Act.put, List.setIfInBounds_toArray, List.set_cons_zero, List.set_cons_succ]
        refine wpAnyH_take (i := 8) (v := ?vax20) (oi := ?oax20) ?hax20 (by kernel_rfl) (by kernel_rfl) (by kernel_rfl) (fun _ _ _ h => h) (Or.inl ⟨?wax20, ?yax20⟩) hHeld ?rax20
        case hax20 => simp only [List.getElem?_toArray, List.getElem?_cons_zero, List.getElem?_cons_succ]; rfl
        case wax20 => rfl
        case yax20 => intro w hSw; (try dsimp only at hSw); go_simp; (try with_reducible rfl)
        simp only [Act.put, List.setIfInBounds_toArray, List.set_cons_zero, List.set_cons_succ]
        refine wpAnyH_done (by kernel_rfl) ?_ _
        refine NoPanic.normal ?_
        go_wp2_with fail
        go_meet
        exact ⟨by simp, (((Sm.drew w).kp.trans' k2).trans' k3)⟩
  case rest =>
    obtain ⟨rfl, kc⟩ := hcut
    go_wp2_with fail
    refine (HM.out _ kc).mono ?_
    rintro e w4 ⟨rfl, j4⟩
    have k4 := kc.trans' j4
    go_wp2_with fail
    refine (awake5_any _).mono ?_
    rintro e w9 ⟨rfl, k9⟩
    go_wp2_with fail
    go_ret
    exact ⟨rfl, (k4.trans' k9).below0⟩
set_option maxHeartbeats 8000000 in
set_option maxRecDepth 100000 in
theorem rows_m0 (h : Bts w (.slice A m c) bs) (hm : m ≤ 100) (q : Nat) (hq1 : 1 ≤ q) (hq : q ≤ 100) (hq2 : q ≤ 64) (hb : m < 1) : Calls Try.prog 3 #[.slice A m c, .int .u8 (x.toNat : Int), .int .i64 (q : Int)] w (RBel w) := by
  have HV := hide fun w => vrow_any x q w hq1 (by omega)
  have HW := hide fun w => rrow_any x q w (by omega)
  obtain ⟨t, ht⟩ : ∃ t, t = strOf (rowL q (upw x)) := ⟨_, rfl⟩
  have HT := hide ht
  clear ht
  have HM := hide fun w' (hk : Kp No w w') => matrix_no (h.no hk) (q : Int) (by omega)
  go_enter Try.func3, Try.ntmps3
  go_upto_region 3 with fail
  go_cut [28] (fun s wx => s = .bool false ∧ Kp No w wx)
  case first =>
    refine wp_region_noPanic ?_
    refine wp_region_held_drew (S := fun _ => True) (by kernel_rfl) (trivial) (fun hHeld => ?_)
    refine wpAnyH_take (i := 0) (v := ?vax1) (oi := ?oax1) ?hax1 (by kernel_rfl) (by kernel_rfl) (by kernel_rfl) (fun _ _ _ h => h) (Or.inl ⟨?wax1, ?yax1⟩) hHeld ?rax1
    case hax1 => simp only [List.getElem?_toArray, List.getElem?_cons_zero, List.getElem?_cons_succ]; rfl
    case wax1 => rfl
    case yax1 => intro w hSw; (try dsimp only at hSw); go_simp; (try with_reducible rfl)
    simp only [Act.put, List.setIfInBounds_toArray, List.set_cons_zero, List.set_cons_succ]
    refine wpAnyH_take (i := 1) (v := ?vax2) (oi := ?oax2) ?hax2 (by kernel_rfl) (by kernel_rfl) (by kernel_rfl) (fun _ _ _ h => h) (Or.inl ⟨?wax2, ?yax2⟩) hHeld ?rax2
    case hax2 => simp only [List.getElem?_toArray, List.getElem?_cons_zero, List.getElem?_cons_succ]; rfl
    case wax2 => rfl
    case yax2 => intro w hSw; (try dsimp only at hSw); go_simp; (try with_reducible rfl)
    simp only [Act.put, List.setIfInBounds_toArray, List.set_cons_zero, List.set_cons_succ]
    refine wpAnyH_take (i := 4) (v := ?vax3) (oi := ?oax3) ?hax3 (by kernel_rfl) (by kernel_rfl) (by kernel_rfl) (fun _ _ _ h => h) (Or.inl ⟨?wax3, ?yax3⟩) hHeld ?rax3
    case hax3 => simp only [List.getElem?_toArray, List.getElem?_cons_zero, List.getElem?_cons_succ]; rfl
    case wax3 => rfl
    case yax3 => intro w hSw; (try dsimp only at hSw); go_simp; (try with_reducible rfl)
    simp only [Act.put, List.setIfInBounds_toArray, List.set_cons_zero, List.set_cons_succ]
    refine wpAnyH_take (i := 5) (v := ?vax4) (oi := ?oax4) ?hax4 (by kernel_rfl) (by kernel_rfl) (by kernel_rfl) (fun _ _ _ h => h) (Or.inl ⟨?wax4, ?yax4⟩) hHeld ?rax4
    case hax4 => simp only [List.getElem?_toArray, List.getElem?_cons_zero, List.getElem?_cons_succ]; rfl
    case wax4 => rfl
    case yax4 => intro w hSw; (try dsimp only at hSw); go_simp; (try with_reducible rfl)
    simp only [Act.put, List.setIfInBounds_toArray, List.set_cons_zero, List.set_cons_succ]
    refine wpAnyH_ready (rs := [2]) (by kernel_rfl) (by simp) ?_
    refine AllReadyH.cons (o := ?oax5) ?hax5 (fun K hK => ?sax5) AllReadyH.nil
    case hax5 => simp only [List.getElem?_toArray, List.getElem?_cons_zero, List.getElem?_cons_succ]; rfl
    go_simp
    refine (HV.out _).mono ?_
    rintro e w2 ⟨A2, n2, c2, rfl, o2, k2⟩
    have v2 := conv_bts o2.bts
    rw [← HT.out] at v2
    go_wp2_with fail
    refine hK.out _ _ (trivial) (fun hHeld => ?_)
    clear hK K
    try simp only [Act.put, List.setIfInBounds_toArray, List.set_cons_zero, List.set_cons_succ]
    refine wpAnyH_ready (rs := [3, 6]) (by kernel_rfl) (by simp) ?_
    refine (AllReadyH.cons (o := ?oax7) ?hax7 (fun K hK => ?sax7) (AllReadyH.cons (o := ?oax8) ?hax8 (fun K hK => ?sax8) AllReadyH.nil))
    case hax7 => simp only [List.getElem?_toArray, List.getElem?_cons_zero, List.getElem?_cons_succ]; rfl
    case hax8 => simp only [List.getElem?_toArray, List.getElem?_cons_zero, List.getElem?_cons_succ]; rfl
    case sax7 =>
      go_simp
      refine hK.out _ _ (trivial) (fun hHeld => ?_)
      clear hK K
      try simp only [Act.put, List.setIfInBounds_toArray, List.set_cons_zero, List.set_cons_succ]
      refine wpAnyH_ready (rs := [6]) (by kernel_rfl) (by simp) ?_
      refine AllReadyH.cons (o := ?oax9) ?hax9 (fun K hK => ?sax9) AllReadyH.nil
      case hax9 => simp only [List.getElem?_toArray, List.getElem?_cons_zero, List.getElem?_cons_succ]; rfl
      go_simp
      refine (HW.out _).mono ?_
      rintro e w3 ⟨A3, n3, c3, rfl, o3, k3⟩
      have v3 := conv_bts o3.bts
      rw [← HT.out] at v3
      go_wp2_with fail
      refine hK.out _ _ (trivial) (fun hHeld => ?_)
      clear hK K
      try simp only [Act.put, List.setIfInBounds_toArray, List.set_cons_zero, List.set_cons_succ]
      refine wpAnyH_ready (rs := [7]) (by kernel_rfl) (by simp) ?_
      refine AllReadyH.cons (o := ?oax10) ?hax10 (fun K hK => ?sax10) AllReadyH.nil
      case hax10 => simp only [List.getElem?_toArray, List.getElem?_cons_zero, List.getElem?_cons_succ]; rfl
      go_simp
      refine hK.out _ _ (trivial) (fun hHeld => ?_)
      clear hK K
      try simp only [Act.put, List.setIfInBounds_toArray, List.set_cons_zero, List.set_cons_succ]
      refine wpAnyH_take (i := 8) (v := ?vax11) (oi := ?oax11) ?hax11 (by kernel_rfl) (by kernel_rfl) (by kernel_rfl) (fun _ _ _ h => h) (Or.inl ⟨?wax11, ?yax11⟩) hHeld ?rax11
      case hax11 => simp only [List.getElem?_toArray, List.getElem?_cons_zero, List.getElem?_cons_succ]; rfl
      case wax11 => rfl
      case yax11 => intro w hSw; (try dsimp only at hSw); go_simp; (try with_reducible rfl)
      simp only [Act.put, List.setIfInBounds_toArray, List.set_cons_zero, List.set_cons_succ]
      refine wpAnyH_done (by kernel_rfl) ?_ _
      refine NoPanic.normal ?_
      go_wp2_with fail
      go_meet
      exact ⟨by simp, (((Sm.drew w).kp.trans' k2).trans' k3)⟩
    case sax8 =>
      go_simp
      refine (HW.out _).mono ?_
      rintro e w3 ⟨A3, n3, c3, rfl, o3, k3⟩
      have v3 := conv_bts o3.bts
      rw [← HT.out] at v3
      have v2 := conv_bts (o2.no k3).bts
      rw [← HT.out] at v2
      go_wp2_with fail
      refine hK.out _ _ (trivial) (fun hHeld => ?_)
      clear hK K
      try simp only [Act.put, List.setIfInBounds_toArray, List.set_cons_zero, List.set_cons_succ]
      refine wpAnyH_ready (rs := [3, 7]) (by kernel_rfl) (by simp) ?_
      refine (AllReadyH.cons (o := ?oax14) ?hax14 (fun K hK => ?sax14) (AllReadyH.cons (o := ?oax15) ?hax15 (fun K hK => ?sax15) AllReadyH.nil))
      case hax14 => simp only [List.getElem?_toArray, List.getElem?_cons_zero, List.getElem?_cons_succ]; rfl
      case hax15 => simp only [List.getElem?_toArray, List.getElem?_cons_zero, List.getElem?_cons_succ]; rfl
      case sax14 =>
        go_simp
        refine hK.out _ _ (trivial) (fun hHeld => ?_)
        clear hK K
        try simp only [Act.put, List.setIfInBounds_toArray, List.set_cons_zero, List.set_cons_succ]
        refine wpAnyH_ready (rs := [7]) (by kernel_rfl) (by simp) ?_
        refine AllReadyH.cons (o := ?oax16) ?hax16 (fun K hK => ?sax16) AllReadyH.nil
        case hax16 => simp only [List.getElem?_toArray, List.getElem?_cons_zero, List.getElem?_cons_succ]; rfl
        go_simp
        refine hK.out _ _ (trivial) (fun hHeld => ?_)
        clear hK K
        try simp only [Act.put, List.setIfInBounds_toArray, List.set_cons_zero, List.set_cons_succ]
        refine wpAnyH_take (i := 8) (v := ?vax17) (oi := ?oax17) ?hax17 (by kernel_rfl) (by kernel_rfl) (by kernel_rfl) (fun _ _ _ h => h) (Or.inl ⟨?wax17, ?yax17⟩) hHeld ?rax17
        case hax17 => simp only [List.getElem?_toArray, List.getElem?_cons_zero, List.getElem?_cons_succ]; rfl
        case wax17 => rfl
        case yax17 => intro w hSw; (try dsimp only at hSw); go_simp; (try with_reducible rfl)
        simp only [Act.put, List.setIfInBounds_toArray, List.set_cons_zero, List.set_cons_succ]
        refine wpAnyH_done (by kernel_rfl) ?_ _
        refine NoPanic.normal ?_
        go_wp2_with fail
        go_meet
        exact ⟨by simp, (((Sm.drew w).kp.trans' k2).trans' k3)⟩
      case sax15 =>
        go_simp
        refine hK.out _ _ (trivial) (fun hHeld => ?_)
        clear hK K
        try simp only [Act.put, List.setIfInBounds_toArray, List.set_cons_zero, List.set_cons_succ]
        refine wpAnyH_ready (rs := [3]) (by kernel_rfl) (by simp) ?_
        refine AllReadyH.cons (o := ?oax19) ?hax19 (fun K hK => ?sax19) AllReadyH.nil
        case hax19 => simp only [List.getElem?_toArray, List.getElem?_cons_zero, List.getElem?_cons_succ]; rfl
        go_simp
        refine hK.out _ _ (trivial) (fun hHeld => ?_)
        clear hK K
        try simp only [Act.put, List.setIfInBounds_toArray, List.set_cons_zero, List.set_cons_succ]
        refine wpAnyH_take (i := 8) (v := ?vax20) (oi := ?oax20) ?hax20 (by kernel_rfl) (by kernel_rfl) (by kernel_rfl) (fun _ _ _ h => h) (Or.inl ⟨?wax20, ?yax20⟩) hHeld ?rax20
        case hax20 => simp only [List.getElem?_toArray, List.getElem?_cons_zero, List.getElem?_cons_succ]; rfl
        case wax20 => rfl
        case yax20 => intro w hSw; (try dsimp only at hSw); go_simp; (try with_reducible rfl)
        simp only [Act.put, List.setIfInBounds_toArray, List.set_cons_zero, List.set_cons_succ]
        refine wpAnyH_done (by kernel_rfl) ?_ _
        refine NoPanic.normal ?_
        go_wp2_with fail
        go_meet
        exact ⟨by simp, (((Sm.drew w).kp.trans' k2).trans' k3)⟩
  case rest =>
    obtain ⟨rfl, kc⟩ := hcut
    go_wp2_with fail
    refine (HM.out _ kc).mono ?_
    rintro e w4 ⟨rfl, j4⟩
    have k4 := kc.trans' j4
    go_wp2_with fail
    refine (awake5_any _).mono ?_
    rintro e w9 ⟨rfl, k9⟩
    go_wp2_with fail
    go_ret
    exact ⟨rfl, (k4.trans' k9).below0⟩
set_option maxHeartbeats 8000000 in
set_option maxRecDepth 100000 in
theorem rows_m64 (h : Bts w (.slice A m c) bs) (hm : m ≤ 100) (q : Nat) (hq1 : 1 ≤ q) (hq : q ≤ 100) (hq2 : q ≤ 64) (hb1 : 1 ≤ m) (hb : 64 < m) : Calls Try.prog 3 #[.slice A m c, .int .u8 (x.toNat : Int), .int .i64 (q : Int)] w (RBel w) := by
  have HV := hide fun w => vrow_any x q w hq1 (by omega)
  have HW := hide fun w => rrow_any x q w (by omega)
  obtain ⟨t, ht⟩ : ∃ t, t = strOf (rowL q (upw x)) := ⟨_, rfl⟩
  have HT := hide ht
  clear ht
  have HM := hide fun w' (hk : Kp No w w') => matrix_no (h.no hk) (q : Int) (by omega)
  go_enter Try.func3, Try.ntmps3
  go_upto_region 3 with fail
  go_cut [28] (fun s wx => s = .bool false ∧ Kp No w wx)
  case first =>
    refine wp_region_noPanic ?_
    refine wp_region_held_drew (S := fun _ => True) (by kernel_rfl) (trivial) (fun hHeld => ?_)
    refine wpAnyH_take (i := 0) (v := ?vax1) (oi := ?oax1) ?hax1 (by kernel_rfl) (by kernel_rfl) (by kernel_rfl) (fun _ _ _ h => h) (Or.inl ⟨?wax1, ?yax1⟩) hHeld ?rax1
    case hax1 => simp only [List.getElem?_toArray, List.getElem?_cons_zero, List.getElem?_cons_succ]; rfl
    case wax1 => rfl
    case yax1 => intro w hSw; (try dsimp only at hSw); go_simp; (try with_reducible rfl)
    simp only [Act.put, List.setIfInBounds_toArray, List.set_cons_zero, List.set_cons_succ]
    refine wpAnyH_take (i := 1) (v := ?vax2) (oi := ?oax2) ?hax2 (by kernel_rfl) (by kernel_rfl) (by kernel_rfl) (fun _ _ _ h => h) (Or.inl ⟨?wax2, ?yax2⟩) hHeld ?rax2
    case hax2 => simp only [List.getElem?_toArray, List.getElem?_cons_zero, List.getElem?_cons_succ]; rfl
    case wax2 => rfl
    case yax2 => intro w hSw; (try dsimp only at hSw); go_simp; (try with_reducible rfl)
    simp only [Act.put, List.setIfInBounds_toArray, List.set_cons_zero, List.set_cons_succ]
    refine wpAnyH_take (i := 4) (v := ?vax3) (oi := ?oax3) ?hax3 (by kernel_rfl) (by kernel_rfl) (by kernel_rfl) (fun _ _ _ h => h) (Or.inl ⟨?wax3, ?yax3⟩) hHeld ?rax3
    case hax3 => simp only [List.getElem?_toArray, List.getElem?_cons_zero, List.getElem?_cons_succ]; rfl
    case wax3 => rfl
    case yax3 => intro w hSw; (try dsimp only at hSw); go_simp; (try with_reducible rfl)
    simp only [Act.put, List.setIfInBounds_toArray, List.set_cons_zero, List.set_cons_succ]
    refine wpAnyH_take (i := 5) (v := ?vax4) (oi := ?oax4) ?hax4 (by kernel_rfl) (by kernel_rfl) (by kernel_rfl) (fun _ _ _ h => h) (Or.inl ⟨?wax4, ?yax4⟩) hHeld ?rax4
    case hax4 => simp only [List.getElem?_toArray, List.getElem?_cons_zero, List.getElem?_cons_succ]; rfl
    case wax4 => rfl
    case yax4 => intro w hSw; (try dsimp only at hSw); go_simp; (try with_reducible rfl)
    simp only [Act.put, List.setIfInBounds_toArray, List.set_cons_zero, List.set_cons_succ]
    refine wpAnyH_ready (rs := [2]) (by kernel_rfl) (by simp) ?_
    refine AllReadyH.cons (o := ?oax5) ?hax5 (fun K hK => ?sax5) AllReadyH.nil
    case hax5 => simp only [List.getElem?_toArray, List.getElem?_cons_zero, List.getElem?_cons_succ]; rfl
    go_simp
    refine (HV.out _).mono ?_
    rintro e w2 ⟨A2, n2, c2, rfl, o2, k2⟩
    have v2 := conv_bts o2.bts
    rw [← HT.out] at v2
    go_wp2_with fail
    refine hK.out _ _ (trivial) (fun hHeld => ?_)
    clear hK K
    try simp only [Act.put, List.setIfInBounds_toArray, List.set_cons_zero, List.set_cons_succ]
    refine wpAnyH_ready (rs := [3, 6]) (by kernel_rfl) (by simp) ?_
    refine (AllReadyH.cons (o := ?oax7) ?hax7 (fun K hK => ?sax7) (AllReadyH.cons (o := ?oax8) ?hax8 (fun K hK => ?sax8) AllReadyH.nil))
    case hax7 => simp only [List.getElem?_toArray, List.getElem?_cons_zero, List.getElem?_cons_succ]; rfl
    case hax8 => simp only [List.getElem?_toArray, List.getElem?_cons_zero, List.getElem?_cons_succ]; rfl
    case sax7 =>
      go_simp
      refine hK.out _ _ (trivial) (fun hHeld => ?_)
      clear hK K
      try simp only [Act.put, List.setIfInBounds_toArray, List.set_cons_zero, List.set_cons_succ]
      refine wpAnyH_ready (rs := [6]) (by kernel_rfl) (by simp) ?_
      refine AllReadyH.cons (o := ?oax9) ?hax9 (fun K hK => ?sax9) AllReadyH.nil
      case hax9 => simp only [List.getElem?_toArray, List.getElem?_cons_zero, List.getElem?_cons_succ]; rfl
      go_simp
      refine (HW.out _).mono ?_
      rintro e w3 ⟨A3, n3, c3, rfl, o3, k3⟩
      have v3 := conv_bts o3.bts
      rw [← HT.out] at v3
      go_wp2_with fail
      refine hK.out _ _ (trivial) (fun hHeld => ?_)
      clear hK K
      try simp only [Act.put, List.setIfInBounds_toArray, List.set_cons_zero, List.set_cons_succ]
      refine wpAnyH_ready (rs := [7]) (by kernel_rfl) (by simp) ?_
      refine AllReadyH.cons (o := ?oax10) ?hax10 (fun K hK => ?sax10) AllReadyH.nil
      case hax10 => simp only [List.getElem?_toArray, List.getElem?_cons_zero, List.getElem?_cons_succ]; rfl
      go_simp
      refine hK.out _ _ (trivial) (fun hHeld => ?_)
      clear hK K
      try simp only [Act.put, List.setIfInBounds_toArray, List.set_cons_zero, List.set_cons_succ]
      refine wpAnyH_take (i := 8) (v := ?vax11) (oi := ?oax11) ?hax11 (by kernel_rfl) (by kernel_rfl) (by kernel_rfl) (fun _ _ _ h => h) (Or.inl ⟨?wax11, ?yax11⟩) hHeld ?rax11
      case hax11 => simp only [List.getElem?_toArray, List.getElem?_cons_zero, List.getElem?_cons_succ]; rfl
      case wax11 => rfl
      case yax11 => intro w hSw; (try dsimp only at hSw); go_simp; (try with_reducible rfl)
      simp only [Act.put, List.setIfInBounds_toArray, List.set_cons_zero, List.set_cons_succ]
      refine wpAnyH_done (by kernel_rfl) ?_ _
      refine NoPanic.normal ?_
      go_wp2_with fail
      go_meet
      exact ⟨by simp, (((Sm.drew w).kp.trans' k2).trans' k3)⟩
    case sax8 =>
      go_simp
      refine (HW.out _).mono ?_
      rintro e w3 ⟨A3, n3, c3, rfl, o3, k3⟩
      have v3 := conv_bts o3.bts
      rw [← HT.out] at v3
      have v2 := conv_bts (o2.no k3).bts
      rw [← HT.out] at v2
      go_wp2_with fail
      refine hK.out _ _ (trivial) (fun hHeld => ?_)
      clear hK K
      try simp only [Act.put, List.setIfInBounds_toArray, List.set_cons_zero, List.set_cons_succ]
      refine wpAnyH_ready (rs := [3, 7]) (by kernel_rfl) (by simp) ?_
      refine (AllReadyH.cons (o := ?oax14) ?hax14 (fun K hK => ?sax14) (AllReadyH.cons (o := ?oax15) ?hax15 (fun K hK => ?sax15) AllReadyH.nil))
      case hax14 => simp only [List.getElem?_toArray, List.getElem?_cons_zero, List.getElem?_cons_succ]; rfl
      case hax15 => simp only [List.getElem?_toArray, List.getElem?_cons_zero, List.getElem?_cons_succ]; rfl
      case sax14 =>
        go_simp
        refine hK.out _ _ (trivial) (fun hHeld => ?_)
        clear hK K
        try simp only [Act.put, List.setIfInBounds_toArray, List.set_cons_zero, List.set_cons_succ]
        refine wpAnyH_ready (rs := [7]) (by kernel_rfl) (by simp) ?_
        refine AllReadyH.cons (o := ?oax16) ?hax16 (fun K hK => ?sax16) AllReadyH.nil
        case hax16 => simp only [List.getElem?_toArray, List.getElem?_cons_zero, List.getElem?_cons_succ]; rfl
        go_simp
        refine hK.out _ _ (trivial) (fun hHeld => ?_)
        clear hK K
        try simp only [Act.put, List.setIfInBounds_toArray, List.set_cons_zero, List.set_cons_succ]
        refine wpAnyH_take (i := 8) (v := ?vax17) (oi := ?oax17) ?hax17 (by kernel_rfl) (by kernel_rfl) (by kernel_rfl) (fun _ _ _ h => h) (Or.inl ⟨?wax17, ?yax17⟩) hHeld ?rax17
        case hax17 => simp only [List.getElem?_toArray, List.getElem?_cons_zero, List.getElem?_cons_succ]; rfl
        case wax17 => rfl
        case yax17 => intro w hSw; (try dsimp only at hSw); go_simp; (try with_reducible rfl)
        simp only [Act.put, List.setIfInBounds_toArray, List.set_cons_zero, List.set_cons_succ]
        refine wpAnyH_done (by kernel_rfl) ?_ _
        refine NoPanic.normal ?_
        go_wp2_with fail
        go_meet
        exact ⟨by simp, (((Sm.drew w).kp.trans' k2).trans' k3)⟩
      case sax15 =>
        go_simp
        refine hK.out _ _ (trivial) (fun hHeld => ?_)
        clear hK K
        try simp only [Act.put, List.setIfInBounds_toArray, List.set_cons_zero, List.set_cons_succ]
        refine wpAnyH_ready (rs := [3]) (by kernel_rfl) (by simp) ?_
        refine AllReadyH.cons (o := ?oax19) ?hax19 (fun K hK => ?sax19) AllReadyH.nil
        case hax19 => simp only [List.getElem?_toArray, List.getElem?_cons_zero, List.getElem?_cons_succ]; rfl
        go_simp
        refine hK.out _ _ (trivial) (fun hHeld => ?_)
        clear hK K
        try simp only [Act.put, List.setIfInBounds_toArray, List.set_cons_zero, List.set_cons_succ]
        refine wpAnyH_take (i := 8) (v := ?vax20) (oi := ?oax20) ?hax20 (by kernel_rfl) (by kernel_rfl) (by kernel_rfl) (fun _ _ _ h => h) (Or.inl ⟨?wax20, ?yax20⟩) hHeld ?rax20
        case hax20 => simp only [List.getElem?_toArray, List.getElem?_cons_zero, List.getElem?_cons_succ]; rfl
        case wax20 => rfl
        case yax20 => intro w hSw; (try dsimp only at hSw); go_simp; (try with_reducible rfl)
        simp only [Act.put, List.setIfInBounds_toArray, List.set_cons_zero, List.set_cons_succ]
        refine wpAnyH_done (by kernel_rfl) ?_ _
        refine NoPanic.normal ?_
        go_wp2_with fail
        go_meet
        exact ⟨by simp, (((Sm.drew w).kp.trans' k2).trans' k3)⟩
  case rest =>
    obtain ⟨rfl, kc⟩ := hcut
    go_wp2_with fail
    refine (HM.out _ kc).mono ?_
    rintro e w4 ⟨rfl, j4⟩
    have k4 := kc.trans' j4
    go_wp2_with fail
    refine (awake5_any _).mono ?_
    rintro e w9 ⟨rfl, k9⟩
    go_wp2_with fail
    go_ret
    exact ⟨rfl, (k4.trans' k9).below0⟩
set_option maxHeartbeats 8000000 in
set_option maxRecDepth 100000 in
theorem rows_twice (h : Bts w (.slice A m c) bs) (hm : m ≤ 100) (q : Nat) (hq1 : 1 ≤ q) (hq : q ≤ 100) (hq2 : q ≤ 64) (hb1 : 1 ≤ m) (hb2 : m ≤ 64) (hU : ¬ Uq m (lg bs)) : Calls Try.prog 3 #[.slice A m c, .int .u8 (x.toNat : Int), .int .i64 (q : Int)] w (RBel w) := by
  have HV := hide fun w => vrow_any x q w hq1 (by omega)
  have HW := hide fun w => rrow_any x q w (by omega)
  obtain ⟨t, ht⟩ : ∃ t, t = strOf (rowL q (upw x)) := ⟨_, rfl⟩
  have HT := hide ht
  clear ht
  have HM := hide fun w' (hk : Kp No w w') => matrix_no (h.no hk) (q : Int) fun hx => hU hx.2.2.2.2
  have HX := hide fun w' (hk : Kp No w w') => twice_yes (h.no hk) (by omega) hU
  clear hU
  go_enter Try.func3, Try.ntmps3
  go_upto_region 3 with fail
  go_cut [28] (fun s wx => s = .bool false ∧ Kp No w wx)
  case first =>
    refine wp_region_noPanic ?_
    refine wp_region_held_drew (S := fun _ => True) (by kernel_rfl) (trivial) (fun hHeld => ?_)
    refine wpAnyH_take (i := 0) (v := ?vax1) (oi := ?oax1) ?hax1 (by kernel_rfl) (by kernel_rfl) (by kernel_rfl) (fun _ _ _ h => h) (Or.inl ⟨?wax1, ?yax1⟩) hHeld ?rax1
    case hax1 => simp only [List.getElem?_toArray, List.getElem?_cons_zero, List.getElem?_cons_succ]; rfl
    case wax1 => rfl
    case yax1 => intro w hSw; (try dsimp only at hSw); go_simp; (try with_reducible rfl)
    simp only [Act.put, List.setIfInBounds_toArray, List.set_cons_zero, List.set_cons_succ]
    refine wpAnyH_take (i := 1) (v := ?vax2) (oi := ?oax2) ?hax2 (by kernel_rfl) (by kernel_rfl) (by kernel_rfl) (fun _ _ _ h => h) (Or.inl ⟨?wax2, ?yax2⟩) hHeld ?rax2
    case hax2 => simp only [List.getElem?_toArray, List.getElem?_cons_zero, List.getElem?_cons_succ]; rfl
    case wax2 => rfl
    case yax2 => intro w hSw; (try dsimp only at hSw); go_simp; (try with_reducible rfl)
    simp only [Act.put, List.setIfInBounds_toArray, List.set_cons_zero, List.set_cons_succ]
    refine wpAnyH_take (i := 4) (v := ?vax3) (oi := ?oax3) ?hax3 (by kernel_rfl) (by kernel_rfl) (by kernel_rfl) (fun _ _ _ h => h) (Or.inl ⟨?wax3, ?yax3⟩) hHeld ?rax3
    case hax3 => simp only [List.getElem?_toArray, List.getElem?_cons_zero, List.getElem?_cons_succ]; rfl
    case wax3 => rfl
    case yax3 => intro w hSw; (try dsimp only at hSw); go_simp; (try with_reducible rfl)
    simp only [Act.put, List.setIfInBounds_toArray, List.set_cons_zero, List.set_cons_succ]
    refine wpAnyH_take (i := 5) (v := ?vax4) (oi := ?oax4) ?hax4 (by kernel_rfl) (by kernel_rfl) (by kernel_rfl) (fun _ _ _ h => h) (Or.inl ⟨?wax4, ?yax4⟩) hHeld ?rax4
    case hax4 => simp only [List.getElem?_toArray, List.getElem?_cons_zero, List.getElem?_cons_succ]; rfl
    case wax4 => rfl
    case yax4 => intro w hSw; (try dsimp only at hSw); go_simp; (try with_reducible rfl)
    simp only [Act.put, List.setIfInBounds_toArray, List.set_cons_zero, List.set_cons_succ]
    refine wpAnyH_ready (rs := [2]) (by kernel_rfl) (by simp) ?_
    refine AllReadyH.cons (o := ?oax5) ?hax5 (fun K hK => ?sax5) AllReadyH.nil
    case hax5 => simp only [List.getElem?_toArray, List.getElem?_cons_zero, List.getElem?_cons_succ]; rfl
    go_simp
    refine (HV.out _).mono ?_
    rintro e w2 ⟨A2, n2, c2, rfl, o2, k2⟩
    have v2 := conv_bts o2.bts
    rw [← HT.out] at v2
    go_wp2_with fail
    refine hK.out _ _ (trivial) (fun hHeld => ?_)
    clear hK K
    try simp only [Act.put, List.setIfInBounds_toArray, List.set_cons_zero, List.set_cons_succ]
    refine wpAnyH_ready (rs := [3, 6]) (by kernel_rfl) (by simp) ?_
    refine (AllReadyH.cons (o := ?oax7) ?hax7 (fun K hK => ?sax7) (AllReadyH.cons (o := ?oax8) ?hax8 (fun K hK => ?sax8) AllReadyH.nil))
    case hax7 => simp only [List.getElem?_toArray, List.getElem?_cons_zero, List.getElem?_cons_succ]; rfl
    case hax8 => simp only [List.getElem?_toArray, List.getElem?_cons_zero, List.getElem?_cons_succ]; rfl
    case sax7 =>
      go_simp
      refine hK.out _ _ (trivial) (fun hHeld => ?_)
      clear hK K
      try simp only [Act.put, List.setIfInBounds_toArray, List.set_cons_zero, List.set_cons_succ]
      refine wpAnyH_ready (rs := [6]) (by kernel_rfl) (by simp) ?_
      refine AllReadyH.cons (o := ?oax9) ?hax9 (fun K hK => ?sax9) AllReadyH.nil
      case hax9 => simp only [List.getElem?_toArray, List.getElem?_cons_zero, List.getElem?_cons_succ]; rfl
      go_simp
      refine (HW.out _).mono ?_
      rintro e w3 ⟨A3, n3, c3, rfl, o3, k3⟩
      have v3 := conv_bts o3.bts
      rw [← HT.out] at v3
      go_wp2_with fail
      refine hK.out _ _ (trivial) (fun hHeld => ?_)
      clear hK K
      try simp only [Act.put, List.setIfInBounds_toArray, List.set_cons_zero, List.set_cons_succ]
      refine wpAnyH_ready (rs := [7]) (by kernel_rfl) (by simp) ?_
      refine AllReadyH.cons (o := ?oax10) ?hax10 (fun K hK => ?sax10) AllReadyH.nil
      case hax10 => simp only [List.getElem?_toArray, List.getElem?_cons_zero, List.getElem?_cons_succ]; rfl
      go_simp
      refine hK.out _ _ (trivial) (fun hHeld => ?_)
      clear hK K
      try simp only [Act.put, List.setIfInBounds_toArray, List.set_cons_zero, List.set_cons_succ]
      refine wpAnyH_take (i := 8) (v := ?vax11) (oi := ?oax11) ?hax11 (by kernel_rfl) (by kernel_rfl) (by kernel_rfl) (fun _ _ _ h => h) (Or.inl ⟨?wax11, ?yax11⟩) hHeld ?rax11
      case hax11 => simp only [List.getElem?_toArray, List.getElem?_cons_zero, List.getElem?_cons_succ]; rfl
      case wax11 => rfl
      case yax11 => intro w hSw; (try dsimp only at hSw); go_simp; (try with_reducible rfl)
      simp only [Act.put, List.setIfInBounds_toArray, List.set_cons_zero, List.set_cons_succ]
      refine wpAnyH_done (by kernel_rfl) ?_ _
      refine NoPanic.normal ?_
      go_wp2_with fail
      go_meet
      exact ⟨by simp, (((Sm.drew w).kp.trans' k2).trans' k3)⟩
    case sax8 =>
      go_simp
      refine (HW.out _).mono ?_
      rintro e w3 ⟨A3, n3, c3, rfl, o3, k3⟩
      have v3 := conv_bts o3.bts
      rw [← HT.out] at v3
      have v2 := conv_bts (o2.no k3).bts
      rw [← HT.out] at v2
      go_wp2_with fail
      refine hK.out _ _ (trivial) (fun hHeld => ?_)
      clear hK K
      try simp only [Act.put, List.setIfInBounds_toArray, List.set_cons_zero, List.set_cons_succ]
      refine wpAnyH_ready (rs := [3, 7]) (by kernel_rfl) (by simp) ?_
      refine (AllReadyH.cons (o := ?oax14) ?hax14 (fun K hK => ?sax14) (AllReadyH.cons (o := ?oax15) ?hax15 (fun K hK => ?sax15) AllReadyH.nil))
      case hax14 => simp only [List.getElem?_toArray, List.getElem?_cons_zero, List.getElem?_cons_succ]; rfl
      case hax15 => simp only [List.getElem?_toArray, List.getElem?_cons_zero, List.getElem?_cons_succ]; rfl
      case sax14 =>
        go_simp
        refine hK.out _ _ (trivial) (fun hHeld => ?_)
        clear hK K
        try simp only [Act.put, List.setIfInBounds_toArray, List.set_cons_zero, List.set_cons_succ]
        refine wpAnyH_ready (rs := [7]) (by kernel_rfl) (by simp) ?_
        refine AllReadyH.cons (o := ?oax16) ?hax16 (fun K hK => ?sax16) AllReadyH.nil
        case hax16 => simp only [List.getElem?_toArray, List.getElem?_cons_zero, List.getElem?_cons_succ]; rfl
        go_simp
        refine hK.out _ _ (trivial) (fun hHeld => ?_)
        clear hK K
        try simp only [Act.put, List.setIfInBounds_toArray, List.set_cons_zero, List.set_cons_succ]
        refine wpAnyH_take (i := 8) (v := ?vax17) (oi := ?oax17) ?hax17 (by kernel_rfl) (by kernel_rfl) (by kernel_rfl) (fun _ _ _ h => h) (Or.inl ⟨?wax17, ?yax17⟩) hHeld ?rax17
        case hax17 => simp only [List.getElem?_toArray, List.getElem?_cons_zero, List.getElem?_cons_succ]; rfl
        case wax17 => rfl
        case yax17 => intro w hSw; (try dsimp only at hSw); go_simp; (try with_reducible rfl)
        simp only [Act.put, List.setIfInBounds_toArray, List.set_cons_zero, List.set_cons_succ]
        refine wpAnyH_done (by kernel_rfl) ?_ _
        refine NoPanic.normal ?_
        go_wp2_with fail
        go_meet
        exact ⟨by simp, (((Sm.drew w).kp.trans' k2).trans' k3)⟩
      case sax15 =>
        go_simp
        refine hK.out _ _ (trivial) (fun hHeld => ?_)
        clear hK K
        try simp only [Act.put, List.setIfInBounds_toArray, List.set_cons_zero, List.set_cons_succ]
        refine wpAnyH_ready (rs := [3]) (by kernel_rfl) (by simp) ?_
        refine AllReadyH.cons (o := ?oax19) ?hax19 (fun K hK => ?sax19) AllReadyH.nil
        case hax19 => simp only [List.getElem?_toArray, List.getElem?_cons_zero, List.getElem?_cons_succ]; rfl
        go_simp
        refine hK.out _ _ (trivial) (fun hHeld => ?_)
        clear hK K
        try simp only [Act.put, List.setIfInBounds_toArray, List.set_cons_zero, List.set_cons_succ]
        refine wpAnyH_take (i := 8) (v := ?vax20) (oi := ?oax20) ?hax20 (by kernel_rfl) (by kernel_rfl) (by kernel_rfl) (fun _ _ _ h => h) (Or.inl ⟨?wax20, ?yax20⟩) hHeld ?rax20
        case hax20 => simp only [List.getElem?_toArray, List.getElem?_cons_zero, List.getElem?_cons_succ]; rfl
        case wax20 => rfl
        case yax20 => intro w hSw; (try dsimp only at hSw); go_simp; (try with_reducible rfl)
        simp only [Act.put, List.setIfInBounds_toArray, List.set_cons_zero, List.set_cons_succ]
        refine wpAnyH_done (by kernel_rfl) ?_ _
        refine NoPanic.normal ?_
        go_wp2_with fail
        go_meet
        exact ⟨by simp, (((Sm.drew w).kp.trans' k2).trans' k3)⟩
  case rest =>
    obtain ⟨rfl, kc⟩ := hcut
    go_wp2_with fail
    refine (HM.out _ kc).mono ?_
    rintro e w4 ⟨rfl, j4⟩
    have k4 := kc.trans' j4
    go_wp2_with fail
    refine (HX.out _ k4).mono ?_
    rintro e w5 ⟨rfl, s5⟩
    have k4 := k4.trans' s5.kp
    go_wp2_with fail
    refine (awake5_any _).mono ?_
    rintro e w9 ⟨rfl, k9⟩
    go_wp2_with fail
    go_ret
    exact ⟨rfl, (k4.trans' k9).below0⟩
set_option maxHeartbeats 8000000 in
set_option maxRecDepth 100000 in
theorem rows_good (h : Bts w (.slice A m c) bs) (hm : m ≤ 100) (q : Nat) (hq1 : 1 ≤ q) (hq : q ≤ 100) (hq2 : q ≤ 64) (hb1 : 1 ≤ m) (hb2 : m ≤ 64) (hU : Uq m (lg bs)) : Calls Try.prog 3 #[.slice A m c, .int .u8 (x.toNat : Int), .int .i64 (q : Int)] w (RBel w) := by
  have HV := hide fun w => vrow_any x q w hq1 (by omega)
  have HW := hide fun w => rrow_any x q w (by omega)
  obtain ⟨t, ht⟩ : ∃ t, t = strOf (rowL q (upw x)) := ⟨_, rfl⟩
  have HT := hide ht
  clear ht
  have HM := hide fun w' (hk : Kp No w w') => matrix_yes (h.no hk) q hq1 hq2 hb1 hb2 hU
  have HX := hide fun w' (hk : Kp No w w') => twice_no (h.no hk) (by omega) hU
  clear hU
  go_enter Try.func3, Try.ntmps3
  go_upto_region 3 with fail
  go_cut [28] (fun s wx => s = .bool false ∧ Kp No w wx)
  case first =>
    refine wp_region_noPanic ?_
    refine wp_region_held_drew (S := fun _ => True) (by kernel_rfl) (trivial) (fun hHeld => ?_)
    refine wpAnyH_take (i := 0) (v := ?vax1) (oi := ?oax1) ?hax1 (by kernel_rfl) (by kernel_rfl) (by kernel_rfl) (fun _ _ _ h => h) (Or.inl ⟨?wax1, ?yax1⟩) hHeld ?rax1
    case hax1 => simp only [List.getElem?_toArray, List.getElem?_cons_zero, List.getElem?_cons_succ]; rfl
    case wax1 => rfl
    case yax1 => intro w hSw; (try dsimp only at hSw); go_simp; (try with_reducible rfl)
    simp only [Act.put, List.setIfInBounds_toArray, List.set_cons_zero, List.set_cons_succ]
    refine wpAnyH_take (i := 1) (v := ?vax2) (oi := ?oax2) ?hax2 (by kernel_rfl) (by kernel_rfl) (by kernel_rfl) (fun _ _ _ h => h) (Or.inl ⟨?wax2, ?yax2⟩) hHeld ?rax2
    case hax2 => simp only [List.getElem?_toArray, List.getElem?_cons_zero, List.getElem?_cons_succ]; rfl
    case wax2 => rfl
    case yax2 => intro w hSw; (try dsimp only at hSw); go_simp; (try with_reducible rfl)
    simp only [Act.put, List.setIfInBounds_toArray, List.set_cons_zero, List.set_cons_succ]
    refine wpAnyH_take (i := 4) (v := ?vax3) (oi := ?oax3) ?hax3 (by kernel_rfl) (by kernel_rfl) (by kernel_rfl) (fun _ _ _ h => h) (Or.inl ⟨?wax3, ?yax3⟩) hHeld ?rax3
    case hax3 => simp only [List.getElem?_toArray, List.getElem?_cons_zero, List.getElem?_cons_succ]; rfl
    case wax3 => rfl
    case yax3 => intro w hSw; (try dsimp only at hSw); go_simp; (try with_reducible rfl)
    simp only [Act.put, List.setIfInBounds_toArray, List.set_cons_zero, List.set_cons_succ]
    refine wpAnyH_take (i := 5) (v := ?vax4) (oi := ?oax4) ?hax4 (by kernel_rfl) (by kernel_rfl) (by kernel_rfl) (fun _ _ _ h => h) (Or.inl ⟨?wax4, ?yax4⟩) hHeld ?rax4
    case hax4 => simp only [List.getElem?_toArray, List.getElem?_cons_zero, List.getElem?_cons_succ]; rfl
    case wax4 => rfl
    case yax4 => intro w hSw; (try dsimp only at hSw); go_simp; (try with_reducible rfl)
    simp only [Act.put, List.setIfInBounds_toArray, List.set_cons_zero, List.set_cons_succ]
    refine wpAnyH_ready (rs := [2]) (by kernel_rfl) (by simp) ?_
    refine AllReadyH.cons (o := ?oax5) ?hax5 (fun K hK => ?sax5) AllReadyH.nil
    case hax5 => simp only [List.getElem?_toArray, List.getElem?_cons_zero, List.getElem?_cons_succ]; rfl
    go_simp
    refine (HV.out _).mono ?_
    rintro e w2 ⟨A2, n2, c2, rfl, o2, k2⟩
    have v2 := conv_bts o2.bts
    rw [← HT.out] at v2
    go_wp2_with fail
    refine hK.out _ _ (trivial) (fun hHeld => ?_)
    clear hK K
    try simp only [Act.put, List.setIfInBounds_toArray, List.set_cons_zero, List.set_cons_succ]
    refine wpAnyH_ready (rs := [3, 6]) (by kernel_rfl) (by simp) ?_
    refine (AllReadyH.cons (o := ?oax7) ?hax7 (fun K hK => ?sax7) (AllReadyH.cons (o := ?oax8) ?hax8 (fun K hK => ?sax8) AllReadyH.nil))
    case hax7 => simp only [List.getElem?_toArray, List.getElem?_cons_zero, List.getElem?_cons_succ]; rfl
    case hax8 => simp only [List.getElem?_toArray, List.getElem?_cons_zero, List.getElem?_cons_succ]; rfl
    case sax7 =>
      go_simp
      refine hK.out _ _ (trivial) (fun hHeld => ?_)
      clear hK K
      try simp only [Act.put, List.setIfInBounds_toArray, List.set_cons_zero, List.set_cons_succ]
      refine wpAnyH_ready (rs := [6]) (by kernel_rfl) (by simp) ?_
      refine AllReadyH.cons (o := ?oax9) ?hax9 (fun K hK => ?sax9) AllReadyH.nil
      case hax9 => simp only [List.getElem?_toArray, List.getElem?_cons_zero, List.getElem?_cons_succ]; rfl
      go_simp
      refine (HW.out _).mono ?_
      rintro e w3 ⟨A3, n3, c3, rfl, o3, k3⟩
      have v3 := conv_bts o3.bts
      rw [← HT.out] at v3
      go_wp2_with fail
      refine hK.out _ _ (trivial) (fun hHeld => ?_)
      clear hK K
      try simp only [Act.put, List.setIfInBounds_toArray, List.set_cons_zero, List.set_cons_succ]
      refine wpAnyH_ready (rs := [7]) (by kernel_rfl) (by simp) ?_
      refine AllReadyH.cons (o := ?oax10) ?hax10 (fun K hK => ?sax10) AllReadyH.nil
      case hax10 => simp only [List.getElem?_toArray, List.getElem?_cons_zero, List.getElem?_cons_succ]; rfl
      go_simp
      refine hK.out _ _ (trivial) (fun hHeld => ?_)
      clear hK K
      try simp only [Act.put, List.setIfInBounds_toArray, List.set_cons_zero, List.set_cons_succ]
      refine wpAnyH_take (i := 8) (v := ?vax11) (oi := ?oax11) ?hax11 (by kernel_rfl) (by kernel_rfl) (by kernel_rfl) (fun _ _ _ h => h) (Or.inl ⟨?wax11, ?yax11⟩) hHeld ?rax11
      case hax11 => simp only [List.getElem?_toArray, List.getElem?_cons_zero, List.getElem?_cons_succ]; rfl
      case wax11 => rfl
      case yax11 => intro w hSw; (try dsimp only at hSw); go_simp; (try with_reducible rfl)
      simp only [Act.put, List.setIfInBounds_toArray, List.set_cons_zero, List.set_cons_succ]
      refine wpAnyH_done (by kernel_rfl) ?_ _
      refine NoPanic.normal ?_
      go_wp2_with fail
      go_meet
      exact ⟨by simp, (((Sm.drew w).kp.trans' k2).trans' k3)⟩
    case sax8 =>
      go_simp
      refine (HW.out _).mono ?_
      rintro e w3 ⟨A3, n3, c3, rfl, o3, k3⟩
      have v3 := conv_bts o3.bts
      rw [← HT.out] at v3
      have v2 := conv_bts (o2.no k3).bts
      rw [← HT.out] at v2
      go_wp2_with fail
      refine hK.out _ _ (trivial) (fun hHeld => ?_)
      clear hK K
      try simp only [Act.put, List.setIfInBounds_toArray, List.set_cons_zero, List.set_cons_succ]
      refine wpAnyH_ready (rs := [3, 7]) (by kernel_rfl) (by simp) ?_
      refine (AllReadyH.cons (o := ?oax14) ?hax14 (fun K hK => ?sax14) (AllReadyH.cons (o := ?oax15) ?hax15 (fun K hK => ?sax15) AllReadyH.nil))
      case hax14 => simp only [List.getElem?_toArray, List.getElem?_cons_zero, List.getElem?_cons_succ]; rfl
      case hax15 => simp only [List.getElem?_toArray, List.getElem?_cons_zero, List.getElem?_cons_succ]; rfl
      case sax14 =>
        go_simp
        refine hK.out _ _ (trivial) (fun hHeld => ?_)
        clear hK K
        try simp only [Act.put, List.setIfInBounds_toArray, List.set_cons_zero, List.set_cons_succ]
        refine wpAnyH_ready (rs := [7]) (by kernel_rfl) (by simp) ?_
        refine AllReadyH.cons (o := ?oax16) ?hax16 (fun K hK => ?sax16) AllReadyH.nil
        case hax16 => simp only [List.getElem?_toArray, List.getElem?_cons_zero, List.getElem?_cons_succ]; rfl
        go_simp
        refine hK.out _ _ (trivial) (fun hHeld => ?_)
        clear hK K
        try simp only [Act.put, List.setIfInBounds_toArray, List.set_cons_zero, List.set_cons_succ]
        refine wpAnyH_take (i := 8) (v := ?vax17) (oi := ?oax17) ?hax17 (by kernel_rfl) (by kernel_rfl) (by kernel_rfl) (fun _ _ _ h => h) (Or.inl ⟨?wax17, ?yax17⟩) hHeld ?rax17
        case hax17 => simp only [List.getElem?_toArray, List.getElem?_cons_zero, List.getElem?_cons_succ]; rfl
        case wax17 => rfl
        case yax17 => intro w hSw; (try dsimp only at hSw); go_simp; (try with_reducible rfl)
        simp only [Act.put, List.setIfInBounds_toArray, List.set_cons_zero, List.set_cons_succ]
        refine wpAnyH_done (by kernel_rfl) ?_ _
        refine NoPanic.normal ?_
        go_wp2_with fail
        go_meet
        exact ⟨by simp, (((Sm.drew w).kp.trans' k2).trans' k3)⟩
      case sax15 =>
        go_simp
        refine hK.out _ _ (trivial) (fun hHeld => ?_)
        clear hK K
        try simp only [Act.put, List.setIfInBounds_toArray, List.set_cons_zero, List.set_cons_succ]
        refine wpAnyH_ready (rs := [3]) (by kernel_rfl) (by simp) ?_
        refine AllReadyH.cons (o := ?oax19) ?hax19 (fun K hK => ?sax19) AllReadyH.nil
        case hax19 => simp only [List.getElem?_toArray, List.getElem?_cons_zero, List.getElem?_cons_succ]; rfl
        go_simp
        refine hK.out _ _ (trivial) (fun hHeld => ?_)
        clear hK K
        try simp only [Act.put, List.setIfInBounds_toArray, List.set_cons_zero, List.set_cons_succ]
        refine wpAnyH_take (i := 8) (v := ?vax20) (oi := ?oax20) ?hax20 (by kernel_rfl) (by kernel_rfl) (by kernel_rfl) (fun _ _ _ h => h) (Or.inl ⟨?wax20, ?yax20⟩) hHeld ?rax20
        case hax20 => simp only [List.getElem?_toArray, List.getElem?_cons_zero, List.getElem?_cons_succ]; rfl
        case wax20 => rfl
        case yax20 => intro w hSw; (try dsimp only at hSw); go_simp; (try with_reducible rfl)
        simp only [Act.put, List.setIfInBounds_toArray, List.set_cons_zero, List.set_cons_succ]
        refine wpAnyH_done (by kernel_rfl) ?_ _
        refine NoPanic.normal ?_
        go_wp2_with fail
        go_meet
        exact ⟨by simp, (((Sm.drew w).kp.trans' k2).trans' k3)⟩
  case rest =>
    obtain ⟨rfl, kc⟩ := hcut
    go_wp2_with fail
    refine (HM.out _ kc).mono ?_
    rintro e w4 ⟨M, rfl, hM, _, _, j4⟩
    have k4 := kc.trans' j4
    go_wp2_with fail
    refine (HX.out _ k4).mono ?_
    rintro e w5 ⟨rfl, s5⟩
    have k5 := k4.trans' s5.kp
    have hM5 := hM.sm s5
    go_wp2_with fail
    refine (size_any hM5).mono ?_
    rintro e w6 ⟨rfl, s6⟩
    have k6 := k5.trans' s6.kp
    have hM6 := hM5.sm s6
    clear HV HW HX HM HT hM hM5
    go_wp2_with fail
    go_loopw [11] (fun i wr => ∃ k : Nat, k ≤ m ∧ i = .int .i64 (k : Int) ∧ MatAt wr M m q (vF (lg bs)) ∧ Kp No w wr) (fun i _ => m - (intOf i).toNat)
    case atStart => exact ⟨0, Nat.zero_le _, rfl, hM6, k6⟩
    case round =>
      obtain ⟨k, hk, rfl, hMr, hkw⟩ := hrel
      by_cases hlt : k < m
      · obtain ⟨B1, o1, y, rfl, hy, z1⟩ := (h.no hkw).at_ hlt
        have HRL : Hid (rowL q (vF (lg bs) k) = rowL q (upw y)) := by show rowL q (upw (lg bs k)) = rowL q (upw y); rw [lg_of hy]
        obtain ⟨tk, htk⟩ : ∃ tk, tk = strOf (rowL q (upw y)) := ⟨_, rfl⟩
        have HTK := hide htk
        have hq2 : q ≤ 1000 := by omega
        clear hy htk
        have hMd : MatAt wr.drew M m q (vF (lg bs)) := hMr.sm (Sm.drew wr)
        have zd : wr.drew.cell? ⟨B1, o1 + k, none⟩ = some (.int .u8 (y.toNat : Int)) := by rw [(Sm.drew wr).cell]; exact z1
        go_wp2_with fail
        refine wp_region_noPanic ?_
        refine wp_region_held_drew (S := fun w' => w'.cell? ⟨B1, o1 + k, none⟩ = some (.int .u8 (y.toNat : Int))) (by kernel_rfl) (zd) (fun hHeld => ?_)
        generalize hgen : wr.drew = wd at *
        have hsd : Sm wr wd := ⟨1, hgen.symm⟩
        clear hgen
        refine wpAnyH_take (i := 0) (v := ?vbx1) (oi := ?obx1) ?hbx1 (by kernel_rfl) (by kernel_rfl) (by kernel_rfl) (fun _ _ _ h => h) (Or.inl ⟨?wbx1, ?ybx1⟩) hHeld ?rbx1
        case hbx1 => simp only [List.getElem?_toArray, List.getElem?_cons_zero, List.getElem?_cons_succ]; rfl
        case wbx1 => rfl
        case ybx1 => intro w hSw; (try dsimp only at hSw); go_simp; (try with_reducible rfl)
        simp only [Act.put, List.setIfInBounds_toArray, List.set_cons_zero, List.set_cons_succ]
        refine wpAnyH_take (i := 1) (v := ?vbx2) (oi := ?obx2) ?hbx2 (by kernel_rfl) (by kernel_rfl) (by kernel_rfl) (fun _ _ _ h => h) (Or.inl ⟨?wbx2, ?ybx2⟩) hHeld ?rbx2
        case hbx2 => simp only [List.getElem?_toArray, List.getElem?_cons_zero, List.getElem?_cons_succ]; rfl
        case wbx2 => rfl
        case ybx2 => intro w hSw; (try dsimp only at hSw); go_simp; (try with_reducible rfl)
        simp only [Act.put, List.setIfInBounds_toArray, List.set_cons_zero, List.set_cons_succ]
        refine wpAnyH_take (i := 4) (v := ?vbx3) (oi := ?obx3) ?hbx3 (by kernel_rfl) (by kernel_rfl) (by kernel_rfl) (fun _ _ _ h => h) (Or.inl ⟨?wbx3, ?ybx3⟩) hHeld ?rbx3
        case hbx3 => simp only [List.getElem?_toArray, List.getElem?_cons_zero, List.getElem?_cons_succ]; rfl
        case wbx3 => rfl
        case ybx3 => intro w hSw; (try dsimp only at hSw); go_simp; (try with_reducible rfl)
        simp only [Act.put, List.setIfInBounds_toArray, List.set_cons_zero, List.set_cons_succ]
        refine wpAnyH_take (i := 5) (v := ?vbx4) (oi := ?obx4) ?hbx4 (by kernel_rfl) (by kernel_rfl) (by kernel_rfl) (fun _ _ _ h => h) (Or.inl ⟨?wbx4, ?ybx4⟩) hHeld ?rbx4
        case hbx4 => simp only [List.getElem?_toArray, List.getElem?_cons_zero, List.getElem?_cons_succ]; rfl
        case wbx4 => rfl
        case ybx4 => intro w hSw; (try dsimp only at hSw); go_simp; (try with_reducible rfl)
        simp only [Act.put, List.setIfInBounds_toArray, List.set_cons_zero, List.set_cons_succ]
        refine wpAnyH_take (i := 6) (v := ?vbx5) (oi := ?obx5) ?hbx5 (by kernel_rfl) (by kernel_rfl) (by kernel_rfl) (fun _ _ _ h => h) (Or.inl ⟨?wbx5, ?ybx5⟩) hHeld ?rbx5
        case hbx5 => simp only [List.getElem?_toArray, List.getElem?_cons_zero, List.getElem?_cons_succ]; rfl
        case wbx5 => rfl
        case ybx5 => intro w hSw; (try dsimp only at hSw); go_simp; (try with_reducible rfl)
        simp only [Act.put, List.setIfInBounds_toArray, List.set_cons_zero, List.set_cons_succ]
        refine wpAnyH_take (i := 7) (v := ?vbx6) (oi := ?obx6) ?hbx6 (by kernel_rfl) (by kernel_rfl) (by kernel_rfl) (fun _ _ _ h => h) (Or.inl ⟨?wbx6, ?ybx6⟩) hHeld ?rbx6
        case hbx6 => simp only [List.getElem?_toArray, List.getElem?_cons_zero, List.getElem?_cons_succ]; rfl
        case wbx6 => rfl
        case ybx6 => intro w hSw; (try dsimp only at hSw); go_simp; (try with_reducible rfl)
        simp only [Act.put, List.setIfInBounds_toArray, List.set_cons_zero, List.set_cons_succ]
        refine wpAnyH_take (i := 8) (v := ?vbx7) (oi := ?obx7) ?hbx7 (by kernel_rfl) (by kernel_rfl) (by kernel_rfl) (fun _ _ _ h => h) (Or.inl ⟨?wbx7, ?ybx7⟩) hHeld ?rbx7
        case hbx7 => simp only [List.getElem?_toArray, List.getElem?_cons_zero, List.getElem?_cons_succ]; rfl
        case wbx7 => rfl
        case ybx7 => intro w hSw; (try dsimp only at hSw); go_simp; (try with_reducible rfl)
        simp only [Act.put, List.setIfInBounds_toArray, List.set_cons_zero, List.set_cons_succ]
        refine wpAnyH_ready (rs := [2]) (by kernel_rfl) (by simp) ?_
        refine AllReadyH.cons (o := ?obx8) ?hbx8 (fun K hK => ?sbx8) AllReadyH.nil
        case hbx8 => simp only [List.getElem?_toArray, List.getElem?_cons_zero, List.getElem?_cons_succ]; rfl
        go_simp
        refine (rowc_in hMd k hlt).mono ?_
        rintro e w2 ⟨A2, n2, c2, rfl, o2, k2⟩
        have v2 := conv_bts o2.bts
        rw [HRL.out, ← HTK.out] at v2
        have z2 := k2.cell zd fun f => f
        go_wp2_with fail
        refine hK.out _ _ (z2) (fun hHeld => ?_)
        clear hK K
        try simp only [Act.put, List.setIfInBounds_toArray, List.set_cons_zero, List.set_cons_succ]
        refine wpAnyH_ready (rs := [3, 9]) (by kernel_rfl) (by simp) ?_
        refine (AllReadyH.cons (o := ?obx10) ?hbx10 (fun K hK => ?sbx10) (AllReadyH.cons (o := ?obx11) ?hbx11 (fun K hK => ?sbx11) AllReadyH.nil))
        case hbx10 => simp only [List.getElem?_toArray, List.getElem?_cons_zero, List.getElem?_cons_succ]; rfl
        case hbx11 => simp only [List.getElem?_toArray, List.getElem?_cons_zero, List.getElem?_cons_succ]; rfl
        case sbx10 =>
          go_simp
          refine hK.out _ _ (z2) (fun hHeld => ?_)
          clear hK K
          try simp only [Act.put, List.setIfInBounds_toArray, List.set_cons_zero, List.set_cons_succ]
          refine wpAnyH_ready (rs := [9]) (by kernel_rfl) (by simp) ?_
          refine AllReadyH.cons (o := ?obx12) ?hbx12 (fun K hK => ?sbx12) AllReadyH.nil
          case hbx12 => simp only [List.getElem?_toArray, List.getElem?_cons_zero, List.getElem?_cons_succ]; rfl
          go_simp
          refine (rrow_any y q _ hq2).mono ?_
          rintro e w3 ⟨A3, n3, c3, rfl, o3, k3⟩
          have v3 := conv_bts o3.bts
          rw [← HTK.out] at v3
          have z3 := k3.cell z2 fun f => f
          go_wp2_with fail
          refine hK.out _ _ (z3) (fun hHeld => ?_)
          clear hK K
          try simp only [Act.put, List.setIfInBounds_toArray, List.set_cons_zero, List.set_cons_succ]
          refine wpAnyH_ready (rs := [10]) (by kernel_rfl) (by simp) ?_
          refine AllReadyH.cons (o := ?obx13) ?hbx13 (fun K hK => ?sbx13) AllReadyH.nil
          case hbx13 => simp only [List.getElem?_toArray, List.getElem?_cons_zero, List.getElem?_cons_succ]; rfl
          go_simp
          refine hK.out _ _ (z3) (fun hHeld => ?_)
          clear hK K
          try simp only [Act.put, List.setIfInBounds_toArray, List.set_cons_zero, List.set_cons_succ]
          refine wpAnyH_take (i := 11) (v := ?vbx14) (oi := ?obx14) ?hbx14 (by kernel_rfl) (by kernel_rfl) (by kernel_rfl) (fun _ _ _ h => h) (Or.inl ⟨?wbx14, ?ybx14⟩) hHeld ?rbx14
          case hbx14 => simp only [List.getElem?_toArray, List.getElem?_cons_zero, List.getElem?_cons_succ]; rfl
          case wbx14 => rfl
          case ybx14 => intro w hSw; (try dsimp only at hSw); go_simp; (try with_reducible rfl)
          simp only [Act.put, List.setIfInBounds_toArray, List.set_cons_zero, List.set_cons_succ]
          refine wpAnyH_done (by kernel_rfl) ?_ _
          refine NoPanic.normal ?_
          go_wp2_with fail
          go_round
          case rel => exact ⟨k + 1, by omega, by go_num, (hMd.no k2).no k3, ((hkw.trans' hsd.kp).trans' k2).trans' k3⟩
          case measure => simp [intOf]; omega
        case sbx11 =>
          go_simp
          refine (rrow_any y q _ hq2).mono ?_
          rintro e w3 ⟨A3, n3, c3, rfl, o3, k3⟩
          have v3 := conv_bts o3.bts
          rw [← HTK.out] at v3
          have z3 := k3.cell z2 fun f => f
          have v2 := conv_bts (o2.no k3).bts
          rw [HRL.out, ← HTK.out] at v2
          go_wp2_with fail
          refine hK.out _ _ (z3) (fun hHeld => ?_)
          clear hK K
          try simp only [Act.put, List.setIfInBounds_toArray, List.set_cons_zero, List.set_cons_succ]
          refine wpAnyH_ready (rs := [3, 10]) (by kernel_rfl) (by simp) ?_
          refine (AllReadyH.cons (o := ?obx17) ?hbx17 (fun K hK => ?sbx17) (AllReadyH.cons (o := ?obx18) ?hbx18 (fun K hK => ?sbx18) AllReadyH.nil))
          case hbx17 => simp only [List.getElem?_toArray, List.getElem?_cons_zero, List.getElem?_cons_succ]; rfl
          case hbx18 => simp only [List.getElem?_toArray, List.getElem?_cons_zero, List.getElem?_cons_succ]; rfl
          case sbx17 =>
            go_simp
            refine hK.out _ _ (z3) (fun hHeld => ?_)
            clear hK K
            try simp only [Act.put, List.setIfInBounds_toArray, List.set_cons_zero, List.set_cons_succ]
            refine wpAnyH_ready (rs := [10]) (by kernel_rfl) (by simp) ?_
            refine AllReadyH.cons (o := ?obx19) ?hbx19 (fun K hK => ?sbx19) AllReadyH.nil
            case hbx19 => simp only [List.getElem?_toArray, List.getElem?_cons_zero, List.getElem?_cons_succ]; rfl
            go_simp
            refine hK.out _ _ (z3) (fun hHeld => ?_)
            clear hK K
            try simp only [Act.put, List.setIfInBounds_toArray, List.set_cons_zero, List.set_cons_succ]
            refine wpAnyH_take (i := 11) (v := ?vbx20) (oi := ?obx20) ?hbx20 (by kernel_rfl) (by kernel_rfl) (by kernel_rfl) (fun _ _ _ h => h) (Or.inl ⟨?wbx20, ?ybx20⟩) hHeld ?rbx20
            case hbx20 => simp only [List.getElem?_toArray, List.getElem?_cons_zero, List.getElem?_cons_succ]; rfl
            case wbx20 => rfl
            case ybx20 => intro w hSw; (try dsimp only at hSw); go_simp; (try with_reducible rfl)
            simp only [Act.put, List.setIfInBounds_toArray, List.set_cons_zero, List.set_cons_succ]
            refine wpAnyH_done (by kernel_rfl) ?_ _
            refine NoPanic.normal ?_
            go_wp2_with fail
            go_round
            case rel => exact ⟨k + 1, by omega, by go_num, (hMd.no k2).no k3, ((hkw.trans' hsd.kp).trans' k2).trans' k3⟩
            case measure => simp [intOf]; omega
          case sbx18 =>
            go_simp
            refine hK.out _ _ (z3) (fun hHeld => ?_)
            clear hK K
            try simp only [Act.put, List.setIfInBounds_toArray, List.set_cons_zero, List.set_cons_succ]
            refine wpAnyH_ready (rs := [3]) (by kernel_rfl) (by simp) ?_
            refine AllReadyH.cons (o := ?obx22) ?hbx22 (fun K hK => ?sbx22) AllReadyH.nil
            case hbx22 => simp only [List.getElem?_toArray, List.getElem?_cons_zero, List.getElem?_cons_succ]; rfl
            go_simp
            refine hK.out _ _ (z3) (fun hHeld => ?_)
            clear hK K
            try simp only [Act.put, List.setIfInBounds_toArray, List.set_cons_zero, List.set_cons_succ]
            refine wpAnyH_take (i := 11) (v := ?vbx23) (oi := ?obx23) ?hbx23 (by kernel_rfl) (by kernel_rfl) (by kernel_rfl) (fun _ _ _ h => h) (Or.inl ⟨?wbx23, ?ybx23⟩) hHeld ?rbx23
            case hbx23 => simp only [List.getElem?_toArray, List.getElem?_cons_zero, List.getElem?_cons_succ]; rfl
            case wbx23 => rfl
            case ybx23 => intro w hSw; (try dsimp only at hSw); go_simp; (try with_reducible rfl)
            simp only [Act.put, List.setIfInBounds_toArray, List.set_cons_zero, List.set_cons_succ]
            refine wpAnyH_done (by kernel_rfl) ?_ _
            refine NoPanic.normal ?_
            go_wp2_with fail
            go_round
            case rel => exact ⟨k + 1, by omega, by go_num, (hMd.no k2).no k3, ((hkw.trans' hsd.kp).trans' k2).trans' k3⟩
            case measure => simp [intOf]; omega
      · obtain rfl : k = m := by omega
        go_wp2_with fail
        refine (awake5_any _).mono ?_
        rintro e w9 ⟨rfl, k9⟩
        go_wp2_with fail
        go_ret
        exact ⟨rfl, (hkw.trans' k9).below0⟩

theorem vandrows_walk (h : Bts w (.slice A m c) bs) (a n : Int) (ha : (Lit.int .u8 a).wf = true) : Calls Try.prog 3 #[.slice A m c, .int .u8 a, .int .i64 n] w fun e w' => e = .returned (.bool true) ∧ Below w.heap.size w w' := by
  obtain ⟨a', rfl, ha'⟩ := of_wf_u8 ha
  obtain ⟨x, hx⟩ : ∃ x : UInt8, (a' : Int) = (x.toNat : Int) := ⟨UInt8.ofNat a', (ofNat_nat ha').symm⟩
  rw [hx]
  show Calls _ _ _ _ (RBel w)
  by_cases hm : m ≤ 100
  · by_cases hn : n ≤ 100
    · by_cases hn1 : n < 1
      · exact rows_none h hm n hn1
      · obtain ⟨q, rfl⟩ : ∃ q : Nat, n = q := ⟨n.toNat, by omega⟩
        have g1 : 1 ≤ q := by omega
        have g2 : q ≤ 100 := by omega
        by_cases g3 : q ≤ 64
        · by_cases g4 : 1 ≤ m
          · by_cases g5 : m ≤ 64
            · by_cases hU : Uq m (lg bs)
              · exact rows_good h hm q g1 g2 g3 g4 g5 hU
              · exact rows_twice h hm q g1 g2 g3 g4 g5 hU
            · exact rows_m64 h hm q g1 g2 g3 g4 (by omega)
          · exact rows_m0 h hm q g1 g2 g3 (by omega)
        · exact rows_q h hm q g1 g2 (by omega)
    · exact rows_wide hm n (by omega)
  · exact rows_long (by omega) n
end
end Go.Proofs.Ytllcmblkjcppnaa
