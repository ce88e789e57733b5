/- Layer 11's awake, and its same: a disk that is the document's is told to be. No condition. -/
import Derived.Test.YtgdlcijohedbhaaPld
import Derived.Test.YtgdlcijohedbhaaPlh
import Derived.Lib.SlBytesConst
import Derived.Deep.RegionHeld3
namespace Go.Proofs.Ytgdlcijohedbhaa
open Go.RowKit
set_option linter.unusedVariables false
set_option maxRecDepth 20000
set_option linter.unusedSimpArgs false

theorem Kp.fr {w w1 w2 : World} {F : Nat → Prop} (h : Kp No w w1) (k : Kp F w1 w2) (hF : ∀ q, F q → w.heap.size ≤ q) : Kp No w w2 := h.trans (k.mono fun q hq => .inr (hF q hq))
/-- The blocks from b on. -/
def Frm (b k : Nat) : Prop := b ≤ k
theorem DkAt.frm {w w1 : World} {b g : Nat} {D : Dk} (h : DkAt w1 (Up (Frm b) w) g D) (hb : b ≤ w.heap.size) : DkAt w1 (Frm b) g D := h.mono fun k hk => by
  rcases hk with hk | hk
  · exact hk
  · exact Nat.le_trans hb hk

def abc : List UInt8 := [97, 98, 99]
theorem abc_put : (Dk.new 2 9).putE 0 abc = 0 := by decide
theorem abc_lost : ((Dk.new 2 9).put 0 abc).lost 0 = 1 := by decide
theorem abc_rd : (((Dk.new 2 9).put 0 abc).crash 0 2).rd 0 = [97, 98] := by decide
theorem abc_n : ((Dk.new 2 9).put 0 abc).loose.length = 1 := by decide
theorem awake11_any (w : World) : Calls Try.prog 6 #[] w (TruePost w) := by
  have kc := fun (w : World) (C : Array Value) (n c : Nat) => Lib.run_convert_bytes_const (P := Try.prog) w 33 5 C n c Try.underlying33 Try.underlying5
  have HE := hide abc_put
  have HL := hide abc_lost
  have HR := hide abc_rd
  go_enter Try.func6, Try.ntmps6
  go_wp2_with fail
  refine (pnew_yes w 2 9 (by omega) (by omega) (by omega) (by omega)).mono ?_
  rintro e w1 ⟨g, rfl, hg, hD1, k1⟩
  have hb := bts_row w1 abc 3 (3, 4) rfl
  have HB := hide hb
  have HD1 := hide hD1
  clear hb hD1
  go_wp2_with fail
  refine (pwrite_any (b := abc) (HD1.out.no (Kp.alloc No w1 _)) HB.out (by decide) 0).mono ?_
  rintro e w2 ⟨rfl, hD2, k2⟩
  rw [HE.out]
  have K2 : Kp No w w2 := (k1.al _).fr k2 fun q hq => hq
  have hD2' := DkAt.frm (b := w.heap.size) hD2 (by have := k1.size; simp; omega)
  have HD2 := hide hD2'
  clear hD2 hD2' k2
  go_wp2_with fail
  refine (pcrash_any HD2.out (by rw [abc_n]; omega) 0 2).mono ?_
  rintro e w3 ⟨rfl, hD3, k3⟩
  rw [HL.out]
  have K3 : Kp No w w3 := K2.fr k3 fun q hq => hq
  have HD3 := hide hD3
  clear hD3 k3
  go_wp2_with fail
  refine (pread_any HD3.out 0).mono ?_
  rintro e w4 ⟨A4, n4, c4, rfl, ho4, k4⟩
  have v4 := conv_bts ho4.bts
  rw [HR.out, show strOf [97, 98] = { data := #[97, 98] } from rfl] at v4
  clear ho4
  go_wp2_with fail
  go_ret
  exact ⟨rfl, K3.trans' k4⟩

set_option maxHeartbeats 4000000 in
theorem psame_any {w : World} {F F' : Nat → Prop} {g : Nat} {D : Dk} {vc vl : Value} {cs : List (Value × List UInt8)} {ls : List (Nat × (Value × List UInt8))} (h : DkAt w F g D) (hr : RfR w F' D vc vl cs ls) :
    Calls Try.prog 19 #[.pointer (some ⟨g, 0, none⟩), rfV D vc vl] w (TruePost w) := by
  have HD := hide (show ∀ w', Kp No w w' → DkAt w' F g D from fun w' hk => h.no hk)
  have HRf := hide (show ∀ w', Kp No w w' → RfAt w' F' D (rfV D vc vl) from fun w' hk => ⟨_, _, _, _, rfl, hr.no hk⟩)
  obtain ⟨gc, c, rfl, hc⟩ := hr.vc_
  obtain ⟨A, cl, rfl, hcl, _⟩ := hr.vl_
  have hn1 := hr.ok.n1
  clear h hr
  unfold rfV at *
  go_enter Try.func19, Try.ntmps19
  go_wp2_with fail
  refine (ploose_any (HD.out _ (Kp.alloc No w _))).mono ?_
  rintro e w1 ⟨rfl, k1⟩
  have hbx := (BxD.new w D (.slice (some ⟨gc, 0, none⟩) D.cells.length c) (.slice A D.loose.length cl)).no k1
  have K1 : Kp No w w1 := (Kp.alloc No w _).trans' k1
  clear k1
  generalize w.heap.size = s at hbx ⊢
  have x0 := hbx.c0
  have x1 := hbx.c1
  have x2 := hbx.c2
  have x3 := hbx.c3
  go_wp2_with fail
  go_loopw [7] (fun i wr => ∃ k : Nat, k ≤ D.cells.length ∧ i = .int .i64 (k : Int) ∧ Kp No w1 wr) (fun i _ => D.cells.length - (intOf i).toNat)
  case atStart => exact ⟨0, Nat.zero_le _, rfl, Kp.refl _ _⟩
  case round =>
    obtain ⟨k, hk, rfl, hkp⟩ := hrel
    have z1 := hkp.cell x1 (fun f => f)
    by_cases hlt : k < D.cells.length
    · have hkd : Kp No w1 wr.drew := hkp.drew
      have y0 : wr.drew.cell? ⟨s, 0, none⟩ = some (.int .i64 (D.size : Int)) := hkd.cell x0 (fun f => f)
      have y1 : wr.drew.cell? ⟨s, 1, none⟩ = some (.slice (some ⟨gc, 0, none⟩) D.cells.length c) := hkd.cell x1 (fun f => f)
      have y2 : wr.drew.cell? ⟨s, 2, none⟩ = some (.slice A D.loose.length cl) := hkd.cell x2 (fun f => f)
      have y3 : wr.drew.cell? ⟨s, 3, none⟩ = some (.int .i64 (D.syncs : Int)) := hkd.cell x3 (fun f => f)
      have HKD := hide (K1.trans' hkd)
      obtain ⟨tb, htb⟩ : ∃ t, t = strOf (D.rd (k : Int)) := ⟨_, rfl⟩
      have HTB := hide htb
      clear htb x0 x1 x2 x3 hkp
      go_wp2_with fail
      refine wp_region_noPanic ?_
      refine wp_region_held_drew (S := fun w' => w'.cell? ⟨s, 0, none⟩ = some (.int .i64 (D.size : Int)) ∧ w'.cell? ⟨s, 1, none⟩ = some (.slice (some ⟨gc, 0, none⟩) D.cells.length c) ∧ w'.cell? ⟨s, 2, none⟩ = some (.slice A D.loose.length cl) ∧ w'.cell? ⟨s, 3, none⟩ = some (.int .i64 (D.syncs : Int))) (by kernel_rfl) (⟨y0, y1, y2, y3⟩) (fun hHeld => ?_)
      refine wpAnyH_take (i := 0) (v := ?vax1) (oi := ?oax1) ?hax1 (by kernel_rfl) (by kernel_rfl) (by kernel_rfl) (fun _ _ _ h => h) (Or.inl ⟨?wax1, ?yax1⟩) hHeld ?rax1
      case hax1 => simp only [List.getElem?_toArray, List.getElem?_cons_zero, List.getElem?_cons_succ]; rfl
      case wax1 => rfl
      case yax1 => intro w hSw; (try dsimp only at hSw); go_simp; (try with_reducible rfl)
      simp only [Act.put, List.setIfInBounds_toArray, List.set_cons_zero, List.set_cons_succ]
      refine wpAnyH_take (i := 1) (v := ?vax2) (oi := ?oax2) ?hax2 (by kernel_rfl) (by kernel_rfl) (by kernel_rfl) (fun _ _ _ h => h) (Or.inl ⟨?wax2, ?yax2⟩) hHeld ?rax2
      case hax2 => simp only [List.getElem?_toArray, List.getElem?_cons_zero, List.getElem?_cons_succ]; rfl
      case wax2 => rfl
      case yax2 => intro w hSw; (try dsimp only at hSw); go_simp; (try with_reducible rfl)
      simp only [Act.put, List.setIfInBounds_toArray, List.set_cons_zero, List.set_cons_succ]
      refine wpAnyH_take (i := 4) (v := ?vax3) (oi := ?oax3) ?hax3 (by kernel_rfl) (by kernel_rfl) (by kernel_rfl) (fun _ _ _ h => h) (Or.inl ⟨?wax3, ?yax3⟩) hHeld ?rax3
      case hax3 => simp only [List.getElem?_toArray, List.getElem?_cons_zero, List.getElem?_cons_succ]; rfl
      case wax3 => rfl
      case yax3 => intro w hSw; (try dsimp only at hSw); go_simp; (try with_reducible rfl)
      simp only [Act.put, List.setIfInBounds_toArray, List.set_cons_zero, List.set_cons_succ]
      refine wpAnyH_take (i := 5) (v := ?vax4) (oi := ?oax4) ?hax4 (by kernel_rfl) (by kernel_rfl) (by kernel_rfl) (fun _ _ _ h => h) (Or.inl ⟨?wax4, ?yax4⟩) hHeld ?rax4
      case hax4 => simp only [List.getElem?_toArray, List.getElem?_cons_zero, List.getElem?_cons_succ]; rfl
      case wax4 => rfl
      case yax4 => intro w hSw; (try dsimp only at hSw); go_simp; (try with_reducible rfl)
      simp only [Act.put, List.setIfInBounds_toArray, List.set_cons_zero, List.set_cons_succ]
      refine wpAnyH_ready (rs := [2]) (by kernel_rfl) (by simp) ?_
      refine AllReadyH.cons (o := ?oax5) ?hax5 (fun K hK => ?sax5) AllReadyH.nil
      case hax5 => simp only [List.getElem?_toArray, List.getElem?_cons_zero, List.getElem?_cons_succ]; rfl
      go_simp
      refine (pread_any (HD.out _ HKD.out) (k : Int)).mono ?_
      rintro e w2 ⟨A2, n2, c2, rfl, o2, k2⟩
      have v2 := conv_bts o2.bts
      rw [← HTB.out] at v2
      have u0 := k2.cell y0 (fun f => f)
      have u1 := k2.cell y1 (fun f => f)
      have u2 := k2.cell y2 (fun f => f)
      have u3 := k2.cell y3 (fun f => f)
      go_wp2_with fail
      refine hK.out _ _ (⟨u0, u1, u2, u3⟩) (fun hHeld => ?_)
      clear hK K
      try simp only [Act.put, List.setIfInBounds_toArray, List.set_cons_zero, List.set_cons_succ]
      refine wpAnyH_ready (rs := [3, 6]) (by kernel_rfl) (by simp) ?_
      refine (AllReadyH.cons (o := ?oax7) ?hax7 (fun K hK => ?sax7) (AllReadyH.cons (o := ?oax8) ?hax8 (fun K hK => ?sax8) AllReadyH.nil))
      case hax7 => simp only [List.getElem?_toArray, List.getElem?_cons_zero, List.getElem?_cons_succ]; rfl
      case hax8 => simp only [List.getElem?_toArray, List.getElem?_cons_zero, List.getElem?_cons_succ]; rfl
      case sax7 =>
        go_simp
        refine hK.out _ _ (⟨u0, u1, u2, u3⟩) (fun hHeld => ?_)
        clear hK K
        try simp only [Act.put, List.setIfInBounds_toArray, List.set_cons_zero, List.set_cons_succ]
        refine wpAnyH_ready (rs := [6]) (by kernel_rfl) (by simp) ?_
        refine AllReadyH.cons (o := ?oax9) ?hax9 (fun K hK => ?sax9) AllReadyH.nil
        case hax9 => simp only [List.getElem?_toArray, List.getElem?_cons_zero, List.getElem?_cons_succ]; rfl
        go_simp
        refine (rread_any (HRf.out _ (HKD.out.trans' k2)) (k : Int)).mono ?_
        rintro e w3 ⟨A3, n3, c3, rfl, b3, k3⟩
        have v3 := conv_bts b3
        rw [← HTB.out] at v3
        have t0 := k3.cell u0 (fun f => f)
        have t1 := k3.cell u1 (fun f => f)
        have t2 := k3.cell u2 (fun f => f)
        have t3 := k3.cell u3 (fun f => f)
        go_wp2_with fail
        refine hK.out _ _ (⟨t0, t1, t2, t3⟩) (fun hHeld => ?_)
        clear hK K
        try simp only [Act.put, List.setIfInBounds_toArray, List.set_cons_zero, List.set_cons_succ]
        refine wpAnyH_ready (rs := [7]) (by kernel_rfl) (by simp) ?_
        refine AllReadyH.cons (o := ?oax10) ?hax10 (fun K hK => ?sax10) AllReadyH.nil
        case hax10 => simp only [List.getElem?_toArray, List.getElem?_cons_zero, List.getElem?_cons_succ]; rfl
        go_simp
        refine hK.out _ _ (⟨t0, t1, t2, t3⟩) (fun hHeld => ?_)
        clear hK K
        try simp only [Act.put, List.setIfInBounds_toArray, List.set_cons_zero, List.set_cons_succ]
        refine wpAnyH_take (i := 8) (v := ?vax11) (oi := ?oax11) ?hax11 (by kernel_rfl) (by kernel_rfl) (by kernel_rfl) (fun _ _ _ h => h) (Or.inl ⟨?wax11, ?yax11⟩) hHeld ?rax11
        case hax11 => simp only [List.getElem?_toArray, List.getElem?_cons_zero, List.getElem?_cons_succ]; rfl
        case wax11 => rfl
        case yax11 => intro w hSw; (try dsimp only at hSw); go_simp; (try with_reducible rfl)
        simp only [Act.put, List.setIfInBounds_toArray, List.set_cons_zero, List.set_cons_succ]
        refine wpAnyH_done (by kernel_rfl) ?_ _
        refine NoPanic.normal ?_
        have KN := (hkd.trans' k2).trans' k3
        clear y0 y1 y2 y3 u0 u1 u2 u3 t0 t1 t2 t3
        go_wp2_with fail
        go_round
        case rel => exact ⟨k + 1, by omega, by go_num, KN⟩
        case measure => simp [intOf]; omega
      case sax8 =>
        go_simp
        refine (rread_any (HRf.out _ (HKD.out.trans' k2)) (k : Int)).mono ?_
        rintro e w3 ⟨A3, n3, c3, rfl, b3, k3⟩
        have v3 := conv_bts b3
        rw [← HTB.out] at v3
        have t0 := k3.cell u0 (fun f => f)
        have t1 := k3.cell u1 (fun f => f)
        have t2 := k3.cell u2 (fun f => f)
        have t3 := k3.cell u3 (fun f => f)
        have v2 := conv_bts (o2.no k3).bts
        rw [← HTB.out] at v2
        go_wp2_with fail
        refine hK.out _ _ (⟨t0, t1, t2, t3⟩) (fun hHeld => ?_)
        clear hK K
        try simp only [Act.put, List.setIfInBounds_toArray, List.set_cons_zero, List.set_cons_succ]
        refine wpAnyH_ready (rs := [3, 7]) (by kernel_rfl) (by simp) ?_
        refine (AllReadyH.cons (o := ?oax14) ?hax14 (fun K hK => ?sax14) (AllReadyH.cons (o := ?oax15) ?hax15 (fun K hK => ?sax15) AllReadyH.nil))
        case hax14 => simp only [List.getElem?_toArray, List.getElem?_cons_zero, List.getElem?_cons_succ]; rfl
        case hax15 => simp only [List.getElem?_toArray, List.getElem?_cons_zero, List.getElem?_cons_succ]; rfl
        case sax14 =>
          go_simp
          refine hK.out _ _ (⟨t0, t1, t2, t3⟩) (fun hHeld => ?_)
          clear hK K
          try simp only [Act.put, List.setIfInBounds_toArray, List.set_cons_zero, List.set_cons_succ]
          refine wpAnyH_ready (rs := [7]) (by kernel_rfl) (by simp) ?_
          refine AllReadyH.cons (o := ?oax16) ?hax16 (fun K hK => ?sax16) AllReadyH.nil
          case hax16 => simp only [List.getElem?_toArray, List.getElem?_cons_zero, List.getElem?_cons_succ]; rfl
          go_simp
          refine hK.out _ _ (⟨t0, t1, t2, t3⟩) (fun hHeld => ?_)
          clear hK K
          try simp only [Act.put, List.setIfInBounds_toArray, List.set_cons_zero, List.set_cons_succ]
          refine wpAnyH_take (i := 8) (v := ?vax17) (oi := ?oax17) ?hax17 (by kernel_rfl) (by kernel_rfl) (by kernel_rfl) (fun _ _ _ h => h) (Or.inl ⟨?wax17, ?yax17⟩) hHeld ?rax17
          case hax17 => simp only [List.getElem?_toArray, List.getElem?_cons_zero, List.getElem?_cons_succ]; rfl
          case wax17 => rfl
          case yax17 => intro w hSw; (try dsimp only at hSw); go_simp; (try with_reducible rfl)
          simp only [Act.put, List.setIfInBounds_toArray, List.set_cons_zero, List.set_cons_succ]
          refine wpAnyH_done (by kernel_rfl) ?_ _
          refine NoPanic.normal ?_
          have KN := (hkd.trans' k2).trans' k3
          clear y0 y1 y2 y3 u0 u1 u2 u3 t0 t1 t2 t3
          go_wp2_with fail
          go_round
          case rel => exact ⟨k + 1, by omega, by go_num, KN⟩
          case measure => simp [intOf]; omega
        case sax15 =>
          go_simp
          refine hK.out _ _ (⟨t0, t1, t2, t3⟩) (fun hHeld => ?_)
          clear hK K
          try simp only [Act.put, List.setIfInBounds_toArray, List.set_cons_zero, List.set_cons_succ]
          refine wpAnyH_ready (rs := [3]) (by kernel_rfl) (by simp) ?_
          refine AllReadyH.cons (o := ?oax19) ?hax19 (fun K hK => ?sax19) AllReadyH.nil
          case hax19 => simp only [List.getElem?_toArray, List.getElem?_cons_zero, List.getElem?_cons_succ]; rfl
          go_simp
          refine hK.out _ _ (⟨t0, t1, t2, t3⟩) (fun hHeld => ?_)
          clear hK K
          try simp only [Act.put, List.setIfInBounds_toArray, List.set_cons_zero, List.set_cons_succ]
          refine wpAnyH_take (i := 8) (v := ?vax20) (oi := ?oax20) ?hax20 (by kernel_rfl) (by kernel_rfl) (by kernel_rfl) (fun _ _ _ h => h) (Or.inl ⟨?wax20, ?yax20⟩) hHeld ?rax20
          case hax20 => simp only [List.getElem?_toArray, List.getElem?_cons_zero, List.getElem?_cons_succ]; rfl
          case wax20 => rfl
          case yax20 => intro w hSw; (try dsimp only at hSw); go_simp; (try with_reducible rfl)
          simp only [Act.put, List.setIfInBounds_toArray, List.set_cons_zero, List.set_cons_succ]
          refine wpAnyH_done (by kernel_rfl) ?_ _
          refine NoPanic.normal ?_
          have KN := (hkd.trans' k2).trans' k3
          clear y0 y1 y2 y3 u0 u1 u2 u3 t0 t1 t2 t3
          go_wp2_with fail
          go_round
          case rel => exact ⟨k + 1, by omega, by go_num, KN⟩
          case measure => simp [intOf]; omega
    · obtain rfl : k = D.cells.length := by omega
      have K9 := K1.trans' hkp
      clear x0 x1 x2 x3 hbx
      go_wp2_with fail
      go_ret
      exact ⟨rfl, K9⟩
end Go.Proofs.Ytgdlcijohedbhaa
