/- Package server's remember, as a contract over memory (printed by tools/gen_ndg.py). -/
import Derived.Test.YtnfcfdhlmeimhaaGreatTwbg
import Derived.Test.YtnfcfdhlmeimhaaGreatTwbk
import Derived.Test.YtnfcfdhlmeimhaaGreatTwam
import Derived.Deep.DeepCutAuto
namespace Go.Proofs.YtnfcfdhlmeimhaaGreat
open Go.RowKit
set_option linter.unusedVariables false
set_option linter.unusedSimpArgs false
set_option maxRecDepth 20000

/-- What remember knows: there is room for one more; the reply's box at B0. -/
structure RmW (w : World) (F F1 : Nat → Prop) (B n k : Nat) (x : Nat → UInt8) (g gc gd gv b : Nat) (rv : Value) (N : Nd) (sn : List Rp) (p : Rp) (B0 : Nat) (wr : World) : Prop where
  sv : SvR wr F1 B n k x g gc gd gv b rv ⟨N.V, sn, N.done⟩
  up : ∀ z, F1 z → Up F w z ∧ z ≠ B0
  few : sn.length ≤ 31
  eq : remL N.sn p = sn ++ [p]
  bp : Bx3 81 wr B0 (.int .u64 (p.num : Int)) (.int .i64 p.e) (.slice none 0 0)
  kp : Kp F w wr
  le : w.heap.size ≤ B0
  bb : B ≤ w.heap.size
  fb : ∀ z, F z → B ≤ z
  po : Nd.RpOk p
section
variable {w wr w1 w5 : World} {F F1 : Nat → Prop} {B n k g gc gd gv b B0 : Nat} {x : Nat → UInt8} {rv : Value} {N : Nd} {sn : List Rp} {p : Rp}
theorem RmW.no (h : RmW w F F1 B n k x g gc gd gv b rv N sn p B0 wr) (hk : Kp No wr w1) : RmW w F F1 B n k x g gc gd gv b rv N sn p B0 w1 :=
  ⟨h.sv.no hk, h.up, h.few, h.eq, h.bp.no hk, h.kp.trans' (hk.of_no F), h.le, h.bb, h.fb, h.po⟩
theorem RmW.blk3 (h : RmW w F F1 B n k x g gc gd gv b rv N sn p B0 wr) : wr.cell? ⟨g, 3, none⟩ = some rv := h.sv.blk.cell.2.2.2.1
/-- The reply has been appended; the node's cell is to be written. -/
theorem RmW.done {A1 : Option Addr} {n1 c1 n5 c5 : Nat} {A5 : Option Addr} (h : RmW w F F1 B n k x g gc gd gv b (.slice A1 n1 c1) N sn p B0 wr) (hn : n1 = sn.length) (hn5 : n5 = n1 + 1) (ha : AppT (wr.alloc (.cells #[.int .u64 (p.num : Int), .int .i64 p.e, .slice none 0 0] 81)) 0 81 3 (.slice A1 n1 c1) n1 (rpC sn) 1 [.int .u64 (p.num : Int), .int .i64 p.e, .slice none 0 0] (.slice A5 n5 c5) w5) :
    (w5.cell? ⟨g, 3, none⟩ = some (.slice A1 n1 c1) ∧ w5.frozen? ⟨g, 3, none⟩ = false ∧ (w5.cell? ⟨g, 3, none⟩ = some (.slice A1 n1 c1) ∧ w5.cell? ⟨B0, 0, none⟩ = some (.int .u64 (p.num : Int)) ∧ w5.cell? ⟨B0, 1, none⟩ = some (.int .i64 p.e) ∧ w5.cell? ⟨B0, 2, none⟩ = some (.slice none 0 0))) ∧ ((w5.setCell ⟨g, 3, none⟩ (.slice A5 n5 c5)).cell? ⟨B0, 0, none⟩ = some (.int .u64 (p.num : Int)) ∧ (w5.setCell ⟨g, 3, none⟩ (.slice A5 n5 c5)).cell? ⟨B0, 1, none⟩ = some (.int .i64 p.e) ∧ (w5.setCell ⟨g, 3, none⟩ (.slice A5 n5 c5)).cell? ⟨B0, 2, none⟩ = some (.slice none 0 0)) ∧
    SvPost w F B n k x g gc gd ⟨N.V, remL N.sn p, N.done⟩ (.returned (.tuple #[])) (.returned (.tuple #[])) (w5.setCell ⟨g, 3, none⟩ (.slice A5 n5 c5)) := by
  have q1 := Kp.alloc No wr (.cells #[.int .u64 (p.num : Int), .int .i64 p.e, .slice none 0 0] 81)
  generalize hw4 : wr.alloc (.cells #[.int .u64 (p.num : Int), .int .i64 p.e, .slice none 0 0] 81) = w4 at ha q1
  have h1 := h.no q1
  have hbp := h1.bp
  have hsz : ∀ q, (Value.slice A1 n1 c1).ownBlock = some q → q ≠ B0 := fun q e => (h.up q (h.sv.rf q e)).2
  have b5 := h1.sv.blk.keep ha.kp h1.sv.ng
  have p5 := h1.bp.keep ha.kp fun e => hsz _ e rfl
  have hc : rpC sn ++ [.int .u64 (p.num : Int), .int .i64 p.e, .slice none 0 0] = rpC (sn ++ [p]) := by rw [rpC_app]; rfl
  have hr := ha.own
  rw [hc, hn, show sn.length + 1 = (sn ++ [p]).length by simp] at hr
  have hsv := h1.sv.reps (sn := sn ++ [p]) hr ha.kp (fun q e => by
    rcases ha.at_ with f | f
    · exact .inl (by rw [← f]; exact e)
    · rw [f] at e
      injection e with e
      exact .inr (by omega)) (by simp; exact h.few) (fun r hr => by
    rcases List.mem_append.1 hr with m | m
    · exact h.sv.ok.all r m
    · simp at m
      subst m
      exact h.po)
  have K : Kp (fun z => z = g) w5 (w5.setCell ⟨g, 3, none⟩ (.slice A5 n5 c5)) := Kp.setCell (S := fun z => z = g) (p := ⟨g, 3, none⟩) rfl _
  have hle := h.le
  have hbb := h.bb
  have hz := h1.kp.size
  refine ⟨⟨b5.cell.2.2.2.1, b5.fz 3, b5.cell.2.2.2.1, p5.cell⟩, (p5.keep K fun e => (h.up g h.sv.fg).2 e.symm).cell, rfl, ⟨gv, b, .slice A5 n5 c5, ?_⟩, ?_⟩
  · rw [h.eq]
    refine hsv.mono (fun z f => ?_) fun z f => ?_
    · rcases f with f | f
      · exact (h.up z f).1
      · exact .inr (by omega)
    · rcases f with f | f
      · exact h.fb z f
      · omega
  · exact h1.kp.trans ((ha.kp.mono fun z e => (h.up z (h.sv.rf z e)).1).trans' (K.mono fun z e => by subst e; exact (h.up z h.sv.fg).1))
end
set_option maxHeartbeats 4000000 in
theorem srem_any {w : World} {F : Nat → Prop} {B n k g gc gd gv b : Nat} {x : Nat → UInt8} {rv : Value} {N : Nd} {p : Rp} (h : SvR w F B n k x g gc gd gv b rv N) (hp : Nd.RpOk p) :
    Calls Tryz.prog 90 #[.pointer (some ⟨g, 0, none⟩), rplV p (.slice none 0 0)] w (SvPost w F B n k x g gc gd ⟨N.V, remL N.sn p, N.done⟩ (.returned (.tuple #[]))) := by
  have k0 := Kp.alloc No w (.cells #[.int .u64 (p.num : Int), .int .i64 p.e, .slice none 0 0] 81)
  have HB := hide (Bx3.new w 81 (.int .u64 (p.num : Int)) (.int .i64 p.e) (.slice none 0 0))
  have HS := hide (h.lt.no k0)
  have HK := hide k0
  have HX : Hid (B ≤ w.heap.size ∧ (∀ z, F z → B ≤ z) ∧ Nd.RpOk p ∧ F g) := ⟨h.cd.bw, h.fb, hp, h.fg⟩
  obtain ⟨A, c, rfl⟩ := h.rp.form
  have hfew := h.ok.few
  have HOW := hide (h.rp.no k0)
  clear h hp k0
  go_enter Tryz.func90, Tryz.ntmps90
  go_upto_region 1 with (fail)
  generalize w.alloc (.cells #[.int .u64 (p.num : Int), .int .i64 p.e, .slice none 0 0] 81) = w0 at HB HS HK HOW ⊢
  obtain ⟨B0, hB0⟩ : ∃ B0, B0 = w.heap.size := ⟨_, rfl⟩
  rw [← hB0] at HB ⊢
  have HB0 := hide hB0
  clear hB0
  obtain ⟨ln, hln⟩ : ∃ ln, ln = N.sn.length := ⟨_, rfl⟩
  rw [← hln] at HS HOW hfew
  have HLN := hide hln
  clear hln
  have z3 := HS.out.blk.cell.2.2.2.1
  have zf := HS.out.blk.fz 3
  go_upto_if 9 with (fail)
  go_cut [8] (fun v8 wx => v8 = .int .i64 (ln : Int) ∧ ∃ F1 rv1 sn1, RmW w F F1 B n k x g gc gd gv b rv1 N sn1 p B0 wx)
  case first =>
    by_cases hl : ln = 32
    · subst hl
      obtain ⟨r, rfl, _⟩ := HOW.out.some_ (by have := HLN.out; omega)
      have HLL : Hid (N.sn.length = 32) := HLN.out.symm
      have HOW2 : Hid (OwnT w0 0 81 3 (.slice (some ⟨r, 0, none⟩) 32 c) 32 (rpC N.sn)) := HOW.out
      go_wp2_with fail
      refine (sdel_any HOW2.out HLL.out).mono ?_
      rintro e w2 ⟨rfl, ho, hk⟩
      have y3 := (HS.out.blk.keep hk fun e => HS.out.ng (by rw [e]; rfl)).cell.2.2.2.1
      have yf := (HS.out.blk.keep hk fun e => HS.out.ng (by rw [e]; rfl)).fz 3
      have hl31 : (N.sn.drop 1).length = 31 := by rw [List.length_drop, HLL.out]
      have hk' : Kp (fun q => (Value.slice (some ⟨r, 0, none⟩) 32 c).ownBlock = some q) w0 w2 := hk.mono fun q e => by subst e; rfl
      have hsv := HS.out.reps (sn := N.sn.drop 1) (rv1 := .slice (some ⟨r, 0, none⟩) 31 c) (by rw [hl31]; exact ho) hk' (fun q e => .inl e) (by omega) (fun q hq => HS.out.ok.all q (List.mem_of_mem_drop hq))
      have K : Kp (fun z => z = g) w2 (w2.setCell ⟨g, 3, none⟩ (.slice (some ⟨r, 0, none⟩) 31 c)) := Kp.setCell (S := fun z => z = g) (p := ⟨g, 3, none⟩) rfl _
      have hg := HS.out.fg
      have hrF := HS.out.rf r rfl
      have hb0 := HB0.out
      have hzz := HK.out.size
      have hblt := HB.out.lt
      have HRM : Hid (RmW w F (Up (fun z => F z ∧ z < w.heap.size) w0) B n k x g gc gd gv b (.slice (some ⟨r, 0, none⟩) 31 c) N (N.sn.drop 1) p B0 (w2.setCell ⟨g, 3, none⟩ (.slice (some ⟨r, 0, none⟩) 31 c))) := by
        refine ⟨hsv, fun z f => ?_, by omega, by unfold remL; rw [if_pos HLL.out], ((HB.out.keep hk (by omega)).keep K (by omega)), ((HK.out.of_no F).trans (hk.mono fun z e => .inl (by subst e; exact hrF.1))).trans (K.mono fun z e => .inl (by subst e; exact hg.1)), by omega, HX.out.1, HX.out.2.1, HX.out.2.2.1⟩
        rcases f with f | f
        · exact ⟨.inl f.1, by omega⟩
        · exact ⟨.inr (by omega), by omega⟩
      clear hsv K hg hrF hb0 hzz hblt hk' hl31 ho hk z3 zf
      go_wp2_with fail
      go_meet
      exact ⟨rfl, _, _, _, HRM.out⟩
    · have hne : ((ln : Int) == 32) = false := beq_eq_false_iff_ne.2 (by omega)
      have hb0 := HB0.out
      have hll := HLN.out
      have HRM : Hid (RmW w F (fun z => F z ∧ z < w.heap.size) B n k x g gc gd gv b (.slice A ln c) N N.sn p B0 w0) :=
        ⟨HS.out, fun z f => ⟨.inl f.1, by omega⟩, by omega, by unfold remL; rw [if_neg (by omega)], HB.out, HK.out.of_no F, by omega, HX.out.1, HX.out.2.1, HX.out.2.2.1⟩
      clear hb0 hll
      go_wp2_with fail
      go_meet
      exact ⟨rfl, _, _, _, HRM.out⟩
  case rest =>
  obtain ⟨rfl, F1, rv1, sn1, hR⟩ := hcut
  obtain ⟨A1, c1, rfl⟩ := hR.sv.rp.form
  obtain ⟨n1, hn1⟩ : ∃ n1, n1 = sn1.length := ⟨_, rfl⟩
  have HN1 : Hid (n1 = (⟨N.V, sn1, N.done⟩ : Nd).sn.length) := hn1
  have HLT : Hid (n1 ≤ 31) := by show n1 ≤ 31; rw [hn1]; exact hR.few
  rw [show (⟨N.V, sn1, N.done⟩ : Nd).sn.length = n1 from hn1.symm] at hR
  have HR := hide (hR.no (Kp.refl No wc).drew)
  clear hR hn1
  go_wp2_with fail
  refine wp_region_noPanic ?_
  refine wp_region_held_drew (S := fun w' => w'.cell? ⟨B0, 0, none⟩ = some (.int .u64 (p.num : Int)) ∧ w'.cell? ⟨B0, 1, none⟩ = some (.int .i64 p.e) ∧ w'.cell? ⟨B0, 2, none⟩ = some (.slice none 0 0)) (by kernel_rfl) (⟨HR.out.bp.cell.1, HR.out.bp.cell.2.1, HR.out.bp.cell.2.2⟩) (fun hHeld => ?_)
  generalize wc.drew = wd at HR hHeld ⊢
  refine wpAnyH_take (i := 0) (v := ?vdx1) (oi := ?odx1) ?hdx1 (by kernel_rfl) (by kernel_rfl) (by kernel_rfl) (fun _ _ _ h => h) (Or.inl ⟨?wdx1, ?ydx1⟩) hHeld ?rdx1
  case hdx1 => simp only [List.getElem?_toArray, List.getElem?_cons_zero, List.getElem?_cons_succ]; rfl
  case wdx1 => rfl
  case ydx1 => intro w hSw; (try dsimp only at hSw); go_simp; (try with_reducible rfl)
  simp only [Act.put, List.setIfInBounds_toArray, List.set_cons_zero, List.set_cons_succ]
  refine wpAnyH_take (i := 1) (v := ?vdx2) (oi := ?odx2) ?hdx2 (by kernel_rfl) (by kernel_rfl) (by kernel_rfl) (fun _ _ _ h => h) (Or.inl ⟨?wdx2, ?ydx2⟩) hHeld ?rdx2
  case hdx2 => simp only [List.getElem?_toArray, List.getElem?_cons_zero, List.getElem?_cons_succ]; rfl
  case wdx2 => rfl
  case ydx2 => intro w hSw; (try dsimp only at hSw); go_simp; (try with_reducible rfl)
  simp only [Act.put, List.setIfInBounds_toArray, List.set_cons_zero, List.set_cons_succ]
  refine wpAnyH_take (i := 2) (v := ?vdx3) (oi := ?odx3) ?hdx3 (by kernel_rfl) (by kernel_rfl) (by kernel_rfl) (fun _ _ _ h => h) (Or.inl ⟨?wdx3, ?ydx3⟩) hHeld ?rdx3
  case hdx3 => simp only [List.getElem?_toArray, List.getElem?_cons_zero, List.getElem?_cons_succ]; rfl
  case wdx3 => rfl
  case ydx3 => intro w hSw; (try dsimp only at hSw); go_simp; (try with_reducible rfl)
  simp only [Act.put, List.setIfInBounds_toArray, List.set_cons_zero, List.set_cons_succ]
  refine wpAnyH_take (i := 3) (v := ?vdx4) (oi := ?odx4) ?hdx4 (by kernel_rfl) (by kernel_rfl) (by kernel_rfl) (fun _ _ _ h => h) (Or.inl ⟨?wdx4, ?ydx4⟩) hHeld ?rdx4
  case hdx4 => simp only [List.getElem?_toArray, List.getElem?_cons_zero, List.getElem?_cons_succ]; rfl
  case wdx4 => rfl
  case ydx4 => intro w hSw; (try dsimp only at hSw); go_simp; (try with_reducible rfl)
  simp only [Act.put, List.setIfInBounds_toArray, List.set_cons_zero, List.set_cons_succ]
  refine wpAnyH_take (i := 5) (v := ?vdx5) (oi := ?odx5) ?hdx5 (by kernel_rfl) (by kernel_rfl) (by kernel_rfl) (fun _ _ _ h => h) (Or.inl ⟨?wdx5, ?ydx5⟩) hHeld ?rdx5
  case hdx5 => simp only [List.getElem?_toArray, List.getElem?_cons_zero, List.getElem?_cons_succ]; rfl
  case wdx5 => rfl
  case ydx5 => intro w hSw; (try dsimp only at hSw); go_simp; (try with_reducible rfl)
  simp only [Act.put, List.setIfInBounds_toArray, List.set_cons_zero, List.set_cons_succ]
  refine wpAnyH_ready (rs := [4, 6]) (by kernel_rfl) (by simp) ?_
  refine (AllReadyH.cons (o := ?odx7) ?hdx7 (fun K hK => ?sdx7) (AllReadyH.cons (o := ?odx8) ?hdx8 (fun K hK => ?sdx8) AllReadyH.nil))
  case hdx7 => simp only [List.getElem?_toArray, List.getElem?_cons_zero, List.getElem?_cons_succ]; rfl
  case hdx8 => simp only [List.getElem?_toArray, List.getElem?_cons_zero, List.getElem?_cons_succ]; rfl
  case sdx7 =>
    have x3 : wd.cell? ⟨g, 3, none⟩ = some (.slice A1 n1 c1) := HR.out.blk3
    go_simp
    refine hK.out _ _ (hHeld) (fun hHeld => ?_)
    clear hK K
    try simp only [Act.put, List.setIfInBounds_toArray, List.set_cons_zero, List.set_cons_succ]
    refine wpAnyH_ready (rs := [6]) (by kernel_rfl) (by simp) ?_
    refine AllReadyH.cons (o := ?odx9) ?hdx9 (fun K hK => ?sdx9) AllReadyH.nil
    case hdx9 => simp only [List.getElem?_toArray, List.getElem?_cons_zero, List.getElem?_cons_succ]; rfl
    go_simp
    refine hK.out _ _ (⟨(Kp.alloc No wd (.cells #[.int .u64 (p.num : Int), .int .i64 p.e, .slice none 0 0] 81)).cell HR.out.bp.cell.1 (fun f => f), (Kp.alloc No wd (.cells #[.int .u64 (p.num : Int), .int .i64 p.e, .slice none 0 0] 81)).cell HR.out.bp.cell.2.1 (fun f => f), (Kp.alloc No wd (.cells #[.int .u64 (p.num : Int), .int .i64 p.e, .slice none 0 0] 81)).cell HR.out.bp.cell.2.2 (fun f => f)⟩) (fun hHeld => ?_)
    clear hK K
    try simp only [Act.put, List.setIfInBounds_toArray, List.set_cons_zero, List.set_cons_succ]
    refine wpAnyH_ready (rs := [7]) (by kernel_rfl) (by simp) ?_
    refine AllReadyH.cons (o := ?odx10) ?hdx10 (fun K hK => ?sdx10) AllReadyH.nil
    case hdx10 => simp only [List.getElem?_toArray, List.getElem?_cons_zero, List.getElem?_cons_succ]; rfl
    have hI : OwnT (wd.alloc (.cells #[.int .u64 (p.num : Int), .int .i64 p.e, .slice none 0 0] 81)) 0 81 3 (.slice A1 n1 c1) n1 (rpC sn1) := by have := HR.out.sv.rp.no (Kp.alloc No wd (.cells #[.int .u64 (p.num : Int), .int .i64 p.e, .slice none 0 0] 81)); rw [← HN1.out] at this; exact this
    refine step_appT ty_rp rfl (.tmp 22) (.tmp 24) _ rfl Tryz.underlying93 rfl hI _ _ rfl (nws_three (u0 := .int .u64 (p.num : Int)) (u1 := .int .i64 p.e) (u2 := .slice none 0 0) (by rw [World.cell?_alloc_mark]; rfl) (by rw [World.cell?_alloc_mark]; rfl) (by rw [World.cell?_alloc_mark]; rfl) rfl rfl rfl) (by have := HLT.out; omega) (Nat.zero_le _) ?_
    intro A5 n5 c5 w5 hn5 ha5
    have HE5 := hide (HR.out.done HN1.out hn5 ha5)
    clear hI ha5 hn5
    have y3 := HE5.out.1.1
    have yf := HE5.out.1.2.1
    refine hK.out _ _ (HE5.out.1.2.2.2) (fun hHeld => ?_)
    clear hK K
    try simp only [Act.put, List.setIfInBounds_toArray, List.set_cons_zero, List.set_cons_succ]
    refine wpAnyH_take (i := 8) (v := ?vdx11) (oi := ?odx11) ?hdx11 (by kernel_rfl) (by kernel_rfl) (by kernel_rfl) (fun _ _ _ h => h) (Or.inl ⟨?wdx11, ?ydx11⟩) hHeld ?rdx11
    case hdx11 => simp only [List.getElem?_toArray, List.getElem?_cons_zero, List.getElem?_cons_succ]; rfl
    case wdx11 => rfl
    case ydx11 => intro w hSw; (try dsimp only at hSw); go_simp; (try with_reducible rfl)
    simp only [Act.put, List.setIfInBounds_toArray, List.set_cons_zero, List.set_cons_succ]
    refine wpAnyH_take (i := 9) (v := ?vdx12) (oi := ?odx12) ?hdx12 (by kernel_rfl) (by kernel_rfl) (by kernel_rfl) (fun _ _ _ h => h) (Or.inl ⟨?wdx12, ?ydx12⟩) hHeld ?rdx12
    case hdx12 => simp only [List.getElem?_toArray, List.getElem?_cons_zero, List.getElem?_cons_succ]; rfl
    case wdx12 => rfl
    case ydx12 => intro w hSw; (try dsimp only at hSw); go_simp; (try with_reducible rfl)
    simp only [Act.put, List.setIfInBounds_toArray, List.set_cons_zero, List.set_cons_succ]
    refine wpAnyH_ready (rs := [10]) (by kernel_rfl) (by simp) ?_
    refine AllReadyH.cons (o := ?odx13) ?hdx13 (fun K hK => ?sdx13) AllReadyH.nil
    case hdx13 => simp only [List.getElem?_toArray, List.getElem?_cons_zero, List.getElem?_cons_succ]; rfl
    go_simp
    refine hK.out _ _ (HE5.out.2.1) (fun hHeld => ?_)
    clear hK K
    try simp only [Act.put, List.setIfInBounds_toArray, List.set_cons_zero, List.set_cons_succ]
    refine wpAnyH_done (by kernel_rfl) ?_ _
    refine NoPanic.normal ?_
    clear hHeld y3 yf
    go_wp2
    (first | go_end0 | refine bodyPost_ret (results_none rfl _ _ _) rfl ?_)
    exact HE5.out.2.2
  case sdx8 =>
    go_simp
    refine hK.out _ _ (⟨(Kp.alloc No wd (.cells #[.int .u64 (p.num : Int), .int .i64 p.e, .slice none 0 0] 81)).cell HR.out.bp.cell.1 (fun f => f), (Kp.alloc No wd (.cells #[.int .u64 (p.num : Int), .int .i64 p.e, .slice none 0 0] 81)).cell HR.out.bp.cell.2.1 (fun f => f), (Kp.alloc No wd (.cells #[.int .u64 (p.num : Int), .int .i64 p.e, .slice none 0 0] 81)).cell HR.out.bp.cell.2.2 (fun f => f)⟩) (fun hHeld => ?_)
    clear hK K
    try simp only [Act.put, List.setIfInBounds_toArray, List.set_cons_zero, List.set_cons_succ]
    refine wpAnyH_ready (rs := [4]) (by kernel_rfl) (by simp) ?_
    refine AllReadyH.cons (o := ?odx15) ?hdx15 (fun K hK => ?sdx15) AllReadyH.nil
    case hdx15 => simp only [List.getElem?_toArray, List.getElem?_cons_zero, List.getElem?_cons_succ]; rfl
    have x3 : (wd.alloc (.cells #[.int .u64 (p.num : Int), .int .i64 p.e, .slice none 0 0] 81)).cell? ⟨g, 3, none⟩ = some (.slice A1 n1 c1) := (Kp.alloc No wd (.cells #[.int .u64 (p.num : Int), .int .i64 p.e, .slice none 0 0] 81)).cell HR.out.blk3 (fun f => f)
    go_simp
    refine hK.out _ _ (hHeld) (fun hHeld => ?_)
    clear hK K
    try simp only [Act.put, List.setIfInBounds_toArray, List.set_cons_zero, List.set_cons_succ]
    refine wpAnyH_ready (rs := [7]) (by kernel_rfl) (by simp) ?_
    refine AllReadyH.cons (o := ?odx16) ?hdx16 (fun K hK => ?sdx16) AllReadyH.nil
    case hdx16 => simp only [List.getElem?_toArray, List.getElem?_cons_zero, List.getElem?_cons_succ]; rfl
    have hI : OwnT (wd.alloc (.cells #[.int .u64 (p.num : Int), .int .i64 p.e, .slice none 0 0] 81)) 0 81 3 (.slice A1 n1 c1) n1 (rpC sn1) := by have := HR.out.sv.rp.no (Kp.alloc No wd (.cells #[.int .u64 (p.num : Int), .int .i64 p.e, .slice none 0 0] 81)); rw [← HN1.out] at this; exact this
    refine step_appT ty_rp rfl (.tmp 22) (.tmp 24) _ rfl Tryz.underlying93 rfl hI _ _ rfl (nws_three (u0 := .int .u64 (p.num : Int)) (u1 := .int .i64 p.e) (u2 := .slice none 0 0) (by rw [World.cell?_alloc_mark]; rfl) (by rw [World.cell?_alloc_mark]; rfl) (by rw [World.cell?_alloc_mark]; rfl) rfl rfl rfl) (by have := HLT.out; omega) (Nat.zero_le _) ?_
    intro A5 n5 c5 w5 hn5 ha5
    have HE5 := hide (HR.out.done HN1.out hn5 ha5)
    clear hI ha5 hn5
    have y3 := HE5.out.1.1
    have yf := HE5.out.1.2.1
    refine hK.out _ _ (HE5.out.1.2.2.2) (fun hHeld => ?_)
    clear hK K
    try simp only [Act.put, List.setIfInBounds_toArray, List.set_cons_zero, List.set_cons_succ]
    refine wpAnyH_take (i := 8) (v := ?vdx17) (oi := ?odx17) ?hdx17 (by kernel_rfl) (by kernel_rfl) (by kernel_rfl) (fun _ _ _ h => h) (Or.inl ⟨?wdx17, ?ydx17⟩) hHeld ?rdx17
    case hdx17 => simp only [List.getElem?_toArray, List.getElem?_cons_zero, List.getElem?_cons_succ]; rfl
    case wdx17 => rfl
    case ydx17 => intro w hSw; (try dsimp only at hSw); go_simp; (try with_reducible rfl)
    simp only [Act.put, List.setIfInBounds_toArray, List.set_cons_zero, List.set_cons_succ]
    refine wpAnyH_take (i := 9) (v := ?vdx18) (oi := ?odx18) ?hdx18 (by kernel_rfl) (by kernel_rfl) (by kernel_rfl) (fun _ _ _ h => h) (Or.inl ⟨?wdx18, ?ydx18⟩) hHeld ?rdx18
    case hdx18 => simp only [List.getElem?_toArray, List.getElem?_cons_zero, List.getElem?_cons_succ]; rfl
    case wdx18 => rfl
    case ydx18 => intro w hSw; (try dsimp only at hSw); go_simp; (try with_reducible rfl)
    simp only [Act.put, List.setIfInBounds_toArray, List.set_cons_zero, List.set_cons_succ]
    refine wpAnyH_ready (rs := [10]) (by kernel_rfl) (by simp) ?_
    refine AllReadyH.cons (o := ?odx19) ?hdx19 (fun K hK => ?sdx19) AllReadyH.nil
    case hdx19 => simp only [List.getElem?_toArray, List.getElem?_cons_zero, List.getElem?_cons_succ]; rfl
    go_simp
    refine hK.out _ _ (HE5.out.2.1) (fun hHeld => ?_)
    clear hK K
    try simp only [Act.put, List.setIfInBounds_toArray, List.set_cons_zero, List.set_cons_succ]
    refine wpAnyH_done (by kernel_rfl) ?_ _
    refine NoPanic.normal ?_
    clear hHeld y3 yf
    go_wp2
    (first | go_end0 | refine bodyPost_ret (results_none rfl _ _ _) rfl ?_)
    exact HE5.out.2.2
end Go.Proofs.YtnfcfdhlmeimhaaGreat
