/- Package server's answer, as a contract over memory. -/
import Derived.Test.YtnfcfdhlmeimhaaGreatTwbl
import Derived.Test.YtnfcfdhlmeimhaaGreatTwbm
namespace Go.Proofs.YtnfcfdhlmeimhaaGreat
open Go.RowKit
set_option linter.unusedVariables false
set_option linter.unusedSimpArgs false
set_option maxRecDepth 20000

/-- What a call on a node with a reply knows: the result's box at R0. -/
structure ResW (w : World) (F : Nat → Prop) (B n k : Nat) (x : Nat → UInt8) (g gc gd : Nat) (N1 : Nd) (R0 : Nat) (u : Value) (bs : List UInt8) (wr : World) : Prop where
  sv : ∃ F2 gv b rv, SvR wr F2 B n k x g gc gd gv b rv N1 ∧ ∀ z, F2 z → Up F w z ∧ z ≠ R0
  rb : Bx3 81 wr R0 (.int .u64 0) (.int .i64 0) (.slice none 0 0)
  ow : Own wr w.heap.size 5 u bs
  kp : Kp F w wr
  le : w.heap.size ≤ R0
  bb : B ≤ w.heap.size
  fb : ∀ z, F z → B ≤ z
/-- What answer comes to. -/
def AnsPost (w : World) (F : Nat → Prop) (B n k : Nat) (x : Nat → UInt8) (g gc gd : Nat) (N1 : Nd) (p : Rp) (e : Ending) (w1 : World) : Prop :=
  ∃ u, e = .returned (rplV p u) ∧ Own w1 w.heap.size 5 u p.data ∧ SvAt w1 (Up F w) B n k x g gc gd N1 ∧ Kp F w w1
section
variable {w wr w1 : World} {F : Nat → Prop} {B n k g gc gd R0 : Nat} {x : Nat → UInt8} {N1 : Nd} {u : Value} {bs : List UInt8}
theorem ResW.fin (h : ResW w F B n k x g gc gd N1 R0 u bs wr) (p : Rp) (hb : p.data = bs) :
    AnsPost w F B n k x g gc gd N1 p (.returned (rplV p u)) (((wr.setCell ⟨R0, 0, none⟩ (.int .u64 (p.num : Int))).setCell ⟨R0, 1, none⟩ (.int .i64 p.e)).setCell ⟨R0, 2, none⟩ u) := by
  subst hb
  have K := kp3 (S := fun z => z = R0) wr R0 (.int .u64 (p.num : Int)) (.int .i64 p.e) u rfl
  obtain ⟨F2, gv, b, rv, hs, hu⟩ := h.sv
  have hp : wr.heap[R0]? = _ := h.rb
  have hle := h.le
  have hbb := h.bb
  have h1 := hs.keep K (fun z _ f e => (hu z f).2 e) (fun z e => by omega)
  refine ⟨u, rfl, h.ow.keep K fun z hz e => own_ne_at h.ow hp (by decide) (by rw [hz, e]), ⟨gv, b, rv, h1.mono (fun z f => (hu z f).1) fun z f => ?_⟩, h.kp.trans (K.mono fun z e => .inr (by omega))⟩
  rcases f with f | f
  · exact h.fb z f
  · omega
end
theorem ResW.fin2 {w wr : World} {F : Nat → Prop} {B n k g gc gd R0 : Nat} {x : Nat → UInt8} {N1 N' : Nd} {u : Value} {bs : List UInt8} (h : ResW w F B n k x g gc gd N1 R0 u bs wr) (p : Rp) (hb : p.data = bs) {p' : Rp} (hN : N' = N1) (hp : p' = p) :
    AnsPost w F B n k x g gc gd N' p' (.returned (rplV p u)) (((wr.setCell ⟨R0, 0, none⟩ (.int .u64 (p.num : Int))).setCell ⟨R0, 1, none⟩ (.int .i64 p.e)).setCell ⟨R0, 2, none⟩ u) := by
  subst hN hp
  exact h.fin p' hb
/-- What answer knows: the request's box at B0, the result's box behind it. -/
structure AnW (w : World) (F1 : Nat → Prop) (B n k : Nat) (x : Nat → UInt8) (g gc gd gv b : Nat) (rv : Value) (N : Nd) (q : Rq) (A : Option Addr) (m c B0 : Nat) (wr : World) : Prop where
  sv : SvR wr F1 B n k x g gc gd gv b rv N
  lt : ∀ z, F1 z → z < w.heap.size
  qb : Bx8 84 wr B0 (.int .u64 (q.num : Int)) (.int .i64 q.kind) (.int .u32 (cO q.s : Int)) (.int .u16 (cS q.s : Int)) (.int .u16 (cL q.s : Int)) (.int .u32 (cG q.s : Int)) (.int .u16 (q.lost : Int)) (.slice A m c)
  rb : Bx3 81 wr (B0 + 1) (.int .u64 0) (.int .i64 0) (.slice none 0 0)
  bt : Bts wr (.slice A m c) q.data
  kp : Kp No w wr
  le : w.heap.size ≤ B0
section
variable {w wr w1 w2 : World} {F F1 : Nat → Prop} {B n k a g gc gd gv b m c B0 : Nat} {x : Nat → UInt8} {rv : Value} {N : Nd} {q : Rq} {A : Option Addr}
theorem ResW.no {R0 : Nat} {N1 : Nd} {u : Value} {bs : List UInt8} (h : ResW w F B n k x g gc gd N1 R0 u bs wr) (hk : Kp No wr w1) : ResW w F B n k x g gc gd N1 R0 u bs w1 := by
  obtain ⟨F2, gv, b, rv, hs, hu⟩ := h.sv
  exact ⟨⟨F2, gv, b, rv, hs.no hk, hu⟩, h.rb.no hk, h.ow.keep hk (fun _ _ f => f), h.kp.trans' (hk.of_no F), h.le, h.bb, h.fb⟩
theorem AnW.no (h : AnW w F1 B n k x g gc gd gv b rv N q A m c B0 wr) (hk : Kp No wr w1) : AnW w F1 B n k x g gc gd gv b rv N q A m c B0 w1 :=
  ⟨h.sv.no hk, h.lt, h.qb.no hk, h.rb.no hk, h.bt.no hk, h.kp.trans' hk, h.le⟩
theorem AnW.begin (h : SvR w F B n k x g gc gd gv b rv N) (hb : Bts w (.slice A m c) q.data) :
    AnW w (fun z => F z ∧ z < w.heap.size) B n k x g gc gd gv b rv N q A m c w.heap.size ((w.alloc (.cells #[.int .u64 (q.num : Int), .int .i64 q.kind, .int .u32 (cO q.s : Int), .int .u16 (cS q.s : Int), .int .u16 (cL q.s : Int), .int .u32 (cG q.s : Int), .int .u16 (q.lost : Int), .slice A m c] 84)).alloc (.cells #[.int .u64 0, .int .i64 0, .slice none 0 0] 81)) := by
  have e1 : ∀ (w : World) (o : Obj), (w.alloc o).heap.size = w.heap.size + 1 := fun w o => by simp
  generalize hw1 : (w.alloc (.cells #[.int .u64 (q.num : Int), .int .i64 q.kind, .int .u32 (cO q.s : Int), .int .u16 (cS q.s : Int), .int .u16 (cL q.s : Int), .int .u32 (cG q.s : Int), .int .u16 (q.lost : Int), .slice A m c] 84)) = w1
  have q1 : Kp No w w1 := by rw [← hw1]; exact Kp.alloc No _ _
  have z1 : w1.heap.size = w.heap.size + 1 := by rw [← hw1]; exact e1 _ _
  have b1 : Bx8 84 w1 w.heap.size (.int .u64 (q.num : Int)) (.int .i64 q.kind) (.int .u32 (cO q.s : Int)) (.int .u16 (cS q.s : Int)) (.int .u16 (cL q.s : Int)) (.int .u32 (cG q.s : Int)) (.int .u16 (q.lost : Int)) (.slice A m c) := by rw [← hw1]; exact Bx8.new _ _ _ _ _ _ _ _ _ _
  generalize hw2 : w1.alloc (.cells #[.int .u64 0, .int .i64 0, .slice none 0 0] 81) = w2
  have q2 : Kp No w1 w2 := by rw [← hw2]; exact Kp.alloc No _ _
  have b2 : Bx3 81 w2 (w.heap.size + 1) (.int .u64 0) (.int .i64 0) (.slice none 0 0) := by rw [← z1, ← hw2]; exact Bx3.new _ _ _ _ _
  have q := q1.trans' q2
  exact ⟨h.lt.no q, fun z f => f.2, b1.no q2, b2, hb.no q, q, Nat.le_refl _⟩
/-- An old reply is the result. -/
theorem AnW.same (h : AnW w F1 B n k x g gc gd gv b rv N q A m c B0 wr) (hF : ∀ z, F1 z → F z) (hbb : B ≤ w.heap.size) (hfb : ∀ z, F z → B ≤ z) : ResW w F B n k x g gc gd N (B0 + 1) (.slice none 0 0) [] wr :=
  ⟨⟨F1, gv, b, rv, h.sv, fun z f => ⟨.inl (hF z f), by have := h.lt z f; have := h.le; omega⟩⟩, h.rb, Own.nil _ _ _, h.kp.of_no F, by have := h.le; omega, hbb, hfb⟩
/-- do has been called. -/
theorem AnW.did {u : Value} {bs : List UInt8} {N1 : Nd} (h : AnW w F1 B n k x g gc gd gv b rv N q A m c B0 wr) (hF : ∀ z, F1 z → F z) (hbb : B ≤ w.heap.size) (hfb : ∀ z, F z → B ≤ z) (hs : SvAt w1 (Up F1 wr) B n k x g gc gd N1) (hk : Kp F1 wr w1) (ho : Own w1 wr.heap.size 5 u bs) :
    ResW w F B n k x g gc gd N1 (B0 + 1) u bs w1 := by
  obtain ⟨gv', b', rv', hs⟩ := hs
  have hle := h.le
  have hrl := h.rb.lt
  have hz := h.kp.size
  refine ⟨⟨_, gv', b', rv', hs, fun z f => ?_⟩, h.rb.keep hk fun f => (by have := h.lt _ f; omega), ho.rebase fun i hi => (by have := ho.ge i hi; omega), (h.kp.of_no F).trans' (hk.mono hF), by omega, hbb, hfb⟩
  rcases f with f | f
  · exact ⟨.inl (hF z f), by have := h.lt z f; omega⟩
  · exact ⟨.inr (by omega), by omega⟩
/-- remember has been called. -/
theorem ResW.rem {R0 : Nat} {N1 N2 : Nd} {u : Value} {bs : List UInt8} {F2 : Nat → Prop} (h : ResW w F B n k x g gc gd N1 R0 u bs wr) (hF2 : ∀ z, F2 z → Up F w z ∧ z ≠ R0) (hs : SvAt w1 (Up F2 wr) B n k x g gc gd N2) (hk : Kp F2 wr w1) (hn : bs = []) (hu : u = .slice none 0 0) : ResW w F B n k x g gc gd N2 R0 u bs w1 := by
  subst hn hu
  obtain ⟨gv', b', rv', hs⟩ := hs
  have hl := h.rb.lt
  have hz := h.kp.size
  refine ⟨⟨_, gv', b', rv', hs, fun z f => ?_⟩, h.rb.keep hk fun f => (hF2 _ f).2 rfl, Own.nil _ _ _, h.kp.trans (hk.mono fun z f => (hF2 z f).1), h.le, h.bb, h.fb⟩
  rcases f with f | f
  · exact hF2 z f
  · exact ⟨.inr (by omega), by omega⟩
end
theorem find_at {sn : List Rp} {num i : Nat} {p : Rp} (hp : sn[i]? = some p) (he : p.num = num) (hb : ∀ (j : Nat) (r : Rp), j < i → sn[j]? = some r → r.num ≠ num) : sn.find? (fun p => p.num == num) = some p := by
  induction sn generalizing i with
  | nil => simp at hp
  | cons r l ih =>
    cases i with
    | zero =>
      simp at hp
      subst hp
      simp [he]
    | succ i =>
      have h0 := hb 0 r (by omega) rfl
      rw [List.find?_cons_of_neg (by simpa using h0)]
      exact ih (by simpa using hp) fun j s hj hs => hb (j + 1) s (by omega) (by simpa using hs)
theorem find_none {sn : List Rp} {num : Nat} (hb : ∀ (j : Nat) (r : Rp), sn[j]? = some r → r.num ≠ num) : sn.find? (fun p => p.num == num) = none := by
  rw [List.find?_eq_none]
  intro r hr
  obtain ⟨j, hj⟩ := List.getElem?_of_mem hr
  simpa using hb j r hj
section
variable {n a : Nat} {x : Nat → UInt8} {N : Nd} {q : Rq} {p : Rp}
theorem Nd.hand_none (h : N.old q = none) : N.hand n a x q = N.did n a x q ∧ N.out n a x q = ndP n a x N.V q := by unfold Nd.hand Nd.out; rw [h]; exact ⟨rfl, rfl⟩
theorem Nd.hand_some (h : N.old q = some p) : N.hand n a x q = N ∧ N.out n a x q = p := by unfold Nd.hand Nd.out; rw [h]; exact ⟨rfl, rfl⟩
theorem Nd.did_no (h : chgK q.kind = false) : N.did n a x q = ⟨ndV N.V q, N.sn, N.done + 1⟩ := by unfold Nd.did; rw [h]; rfl
theorem Nd.did_yes (h : chgK q.kind = true) : N.did n a x q = ⟨ndV N.V q, remL N.sn (ndP n a x N.V q), N.done + 1⟩ := by unfold Nd.did; rw [h]; rfl
theorem Nd.old_yes (h : chgK q.kind = true) : N.old q = N.sn.find? fun p => p.num == q.num := by unfold Nd.old; rw [h]; rfl
end
set_option maxHeartbeats 8000000 in
theorem sans_any {w : World} {F : Nat → Prop} {B n k a d qq g gc gd gv b m c : Nat} {x : Nat → UInt8} {rv : Value} {N : Nd} {q : Rq} {A : Option Addr} (h : SvR w F B n k x g gc gd gv b rv N) (hD : Dim n k a d qq) (hf : q.Fit) (hz : SzK N.V) (hb : Bts w (.slice A m c) q.data) (hl : m ≤ 100000) (hdn : N.done + 1 < 18446744073709551616) :
    Calls Tryz.prog 48 #[.pointer (some ⟨g, 0, none⟩), rqV q (.slice A m c)] w (AnsPost w F B n k x g gc gd (N.hand n a x q) (N.out n a x q)) := by
  have HX := hide (AnW.begin h hb)
  have HFB : Hid (∀ z, F z → B ≤ z) := h.fb
  have HBB : Hid (B ≤ w.heap.size) := h.cd.bw
  have HD := hide hD
  have HF := hide hf
  have HZ := hide hz
  have HO := hide h.ok
  have HDO : Hid (∀ w' F', SvR w' F' B n k x g gc gd gv b rv N → Bts w' (.slice A m c) q.data → Calls Tryz.prog 89 #[.pointer (some ⟨g, 0, none⟩), rqV q (.slice A m c)] w' (DidPost w' F' B n k a x g gc gd N q)) := fun w' F' h' hb' => sdo_any h' hD hf hz hb' hl hdn
  obtain ⟨A2, c2, rfl⟩ := h.rp.form
  obtain ⟨ln, hln⟩ : ∃ ln, ln = N.sn.length := ⟨_, rfl⟩
  rw [← hln] at HX HDO
  have HLN := hide hln
  have hl32 : ln ≤ 32 := by rw [hln]; exact h.ok.few
  clear h hD hf hz hb hl hdn hln
  go_enter Tryz.func48, Tryz.ntmps48
  go_upto_region 1 with (fail)
  generalize (w.alloc (.cells #[.int .u64 (q.num : Int), .int .i64 q.kind, .int .u32 (cO q.s : Int), .int .u16 (cS q.s : Int), .int .u16 (cL q.s : Int), .int .u32 (cG q.s : Int), .int .u16 (q.lost : Int), .slice A m c] 84)).alloc (.cells #[.int .u64 0, .int .i64 0, .slice none 0 0] 81) = w0 at HX ⊢
  obtain ⟨B0, hB0⟩ : ∃ B0, B0 = w.heap.size := ⟨_, rfl⟩
  rw [← hB0] at HX ⊢
  clear hB0
  obtain ⟨z0, z1, z2, z3, z4, z5, z6, z7⟩ := HX.out.qb.cell
  by_cases hc : chgK q.kind = true
  · rcases chgK_iff.1 hc with ek | ek
    · skip
      have HC := hide hc
      have x3 := HX.out.sv.blk.cell.2.2.2.1
      clear hc
      have t2 : (q.kind != 2) = false := by simp [ek]
      clear ek
      go_wp2_with fail
      clear x3 z0 z1 z2 z3 z4 z5 z6 z7
      go_loopw [24] (fun iv wr => ∃ i : Nat, i ≤ ln ∧ iv = .int .i64 (i : Int) ∧ Hid (∀ (j : Nat) (r : Rp), j < i → N.sn[j]? = some r → r.num ≠ q.num) ∧ Hid (AnW w (fun z => F z ∧ z < B0) B n k x g gc gd gv b (.slice A2 ln c2) N q A m c B0 wr)) (fun iv _ => ln - (intOf iv).toNat)
      case atStart => exact ⟨0, Nat.zero_le _, rfl, fun j r hj => by omega, HX⟩
      case round =>
        obtain ⟨i, hi, rfl, HQ, HW⟩ := hrel
        rename World => wr
        by_cases hlt : i < ln
        · have hiz : (i : Int) < ln := by omega
          obtain ⟨r, hr⟩ : ∃ r, N.sn[i]? = some r := ⟨_, List.getElem?_eq_getElem (by have := HLN.out; omega)⟩
          obtain ⟨e0, e1, e2⟩ := rpC_get hr
          obtain ⟨gr, hA2, _, _, _, c0⟩ := HW.out.sv.rp.cell e0
          subst hA2
          have c1 := HW.out.sv.rp.cellAt e1
          have c2' := HW.out.sv.rp.cellAt e2
          have HRR := hide hr
          have HRO := hide (HO.out.all r (List.mem_of_getElem? hr))
          clear e0 e1 e2 hr
          have HW4 := hide (HW.out.no (Kp.alloc No wr (.cells #[.int .u64 (r.num : Int), .int .i64 r.e, .slice none 0 0] 81)))
          have HP4 := hide (Bx3.new wr 81 (.int .u64 (r.num : Int)) (.int .i64 r.e) (.slice none 0 0))
          go_upto_region 6 with (fail)
          generalize wr.alloc (.cells #[.int .u64 (r.num : Int), .int .i64 r.e, .slice none 0 0] 81) = w4 at HW4 HP4 ⊢
          generalize wr.heap.size = P0 at HP4 ⊢
          clear c0 c1 c2' HW
          obtain ⟨p0, p1, p2⟩ := HP4.out.cell
          have y0 := HW4.out.qb.cell.1
          by_cases hnum : r.num = q.num
          · have tq : ((r.num : Int) == (q.num : Int)) = true := by simp [hnum]
            have HFI : Hid (N.old q = some r) := by show N.old q = some r; rw [Nd.old_yes HC.out]; exact find_at HRR.out hnum HQ.out
            have HR := hide (HW4.out.same (F := F) (fun z f => f.1) HBB.out HFB.out)
            have HFN := hide (HR.out.fin2 r HRO.out.nil (Nd.hand_some (n := n) (a := a) (x := x) HFI.out).1 (Nd.hand_some (n := n) (a := a) (x := x) HFI.out).2)
            have HCL := hide (HR.out.rb.all (.int .u64 (r.num : Int)) (.int .i64 r.e) (.slice none 0 0)).cell
            obtain ⟨v0, v1, v2⟩ := HR.out.rb.cell
            have f0 := HR.out.rb.fz 0
            have f1 := HR.out.rb.fz 1
            have f2 := HR.out.rb.fz 2
            clear hnum
            go_wp2_with fail
            clear v0 v1 v2 f0 f1 f2 p0 p1 p2 y0
            obtain ⟨q0, q1, q2⟩ := HCL.out
            refine bodyPost_ret (v := rplV r (.slice none 0 0)) (by simp [results, Tryz.results48, go_sem, q0, q1, q2]) rfl ?_
            exact HFN.out
          · have HNM := hide hnum
            have tq : ((r.num : Int) == (q.num : Int)) = false := beq_eq_false_iff_ne.2 (by omega)
            clear hnum
            go_wp2_with fail
            go_round
            case rel => exact ⟨i + 1, by omega, by go_num, (fun j r' hj hr' => by
                rcases Nat.lt_or_ge j i with g1 | g1
                · exact HQ.out j r' g1 hr'
                · obtain rfl : j = i := by omega
                  rw [HRR.out] at hr'
                  injection hr' with hr'
                  subst hr'
                  exact HNM.out), HW4⟩
            case measure => simp [intOf]; omega
        · obtain rfl : i = ln := by omega
          have hiz : ¬ (i : Int) < i := by omega
          have HFI : Hid (N.old q = none) := by
            show N.old q = none
            rw [Nd.old_yes HC.out]
            exact find_none fun j r hr => HQ.out j r (by have h1 := (List.getElem?_eq_some_iff.1 hr).1; have := HLN.out; omega) hr
          have HR0 := hide (Nd.hand_none (n := n) (a := a) (x := x) HFI.out)
          obtain ⟨z0, z1, z2, z3, z4, z5, z6, z7⟩ := HW.out.qb.cell
          go_wp2_with fail
          refine (HDO.out _ _ HW.out.sv HW.out.bt).mono ?_
          rintro e w1 ⟨u, rfl, ho, hu, hs, hk⟩
          obtain rfl := hu HC.out
          have HPO : Hid (Nd.RpOk (ndP n a x N.V q)) := ndP_ok HF.out.num HC.out
          have HR := hide (HW.out.did (F := F) (fun z f => f.1) HBB.out HFB.out hs hk ho)
          have HE1 : Hid (N.did n a x q = ⟨ndV N.V q, remL N.sn (ndP n a x N.V q), N.done + 1⟩) := Nd.did_yes HC.out
          have HND : Hid (ndB n a x N.V q = []) := HPO.out.nil
          clear ho hs hk hu z0 z1 z2 z3 z4 z5 z6 z7
          generalize hP : ndP n a x N.V q = P at *
          generalize hVV : ndV N.V q = VV at *
          have HR4 := hide (HR.out.no (Kp.alloc No w1 (.cells #[.int .u64 (P.num : Int), .int .i64 P.e, .slice none 0 0] 81)))
          have HP4 := hide (Bx3.new w1 81 (.int .u64 (P.num : Int)) (.int .i64 P.e) (.slice none 0 0))
          have HX4 : Hid (∃ F2 gv b rv, SvR (w1.alloc (.cells #[.int .u64 (P.num : Int), .int .i64 P.e, .slice none 0 0] 81)) F2 B n k x g gc gd gv b rv ⟨VV, N.sn, N.done + 1⟩ ∧ (∀ z, F2 z → Up F w z ∧ z ≠ B0 + 1) ∧ ∀ z, F2 z → z ≠ w1.heap.size) := by
            obtain ⟨F2, gv2, b2, rv2, hs, hu⟩ := HR.out.sv
            exact ⟨_, gv2, b2, rv2, hs.lt.no (Kp.alloc No _ _), fun z f => hu z f.1, fun z f => by omega⟩
          go_upto_region 10 with (fail)
          generalize w1.alloc (.cells #[.int .u64 (P.num : Int), .int .i64 P.e, .slice none 0 0] 81) = w4 at HR4 HP4 HX4 ⊢
          generalize w1.heap.size = P0 at HP4 HX4 ⊢
          obtain ⟨F2, gv2, b2, rv2, hs2, hu2, hp2⟩ := HX4.out
          obtain ⟨p0, p1, p2⟩ := HP4.out.cell
          go_wp2_with fail
          refine (srem_any hs2 HPO.out).mono ?_
          rintro e w5 ⟨rfl, hs5, hk5⟩
          have HR5 := hide (HR4.out.rem hu2 hs5 hk5 HND.out rfl)
          have HP5 := hide (HP4.out.keep hk5 fun f => hp2 _ f rfl)
          have HFN := hide (HR5.out.fin2 P (by rw [HPO.out.nil]; exact HND.out.symm) (HR0.out.1.trans HE1.out) HR0.out.2)
          clear hs2 hu2 hp2 hs5 hk5 p0 p1 p2 HX4
          obtain ⟨y0, y1, y2⟩ := HP5.out.cell
          obtain ⟨v0, v1, v2⟩ := HR5.out.rb.cell
          have f0 := HR5.out.rb.fz 0
          have f1 := HR5.out.rb.fz 1
          have f2 := HR5.out.rb.fz 2
          have HCL := hide (HR5.out.rb.all (.int .u64 (P.num : Int)) (.int .i64 P.e) (.slice none 0 0)).cell
          go_wp2_with fail
          clear v0 v1 v2 f0 f1 f2 y0 y1 y2
          obtain ⟨q0, q1, q2⟩ := HCL.out
          refine bodyPost_ret (v := rplV P (.slice none 0 0)) (by simp [results, Tryz.results48, go_sem, q0, q1, q2]) rfl ?_
          exact HFN.out
    · skip
      have HC := hide hc
      have x3 := HX.out.sv.blk.cell.2.2.2.1
      clear hc
      have t2 : (q.kind != 2) = true := by simp [ek]
      have t5 : (q.kind != 5) = false := by simp [ek]
      clear ek
      go_wp2_with fail
      clear x3 z0 z1 z2 z3 z4 z5 z6 z7
      go_loopw [24] (fun iv wr => ∃ i : Nat, i ≤ ln ∧ iv = .int .i64 (i : Int) ∧ Hid (∀ (j : Nat) (r : Rp), j < i → N.sn[j]? = some r → r.num ≠ q.num) ∧ Hid (AnW w (fun z => F z ∧ z < B0) B n k x g gc gd gv b (.slice A2 ln c2) N q A m c B0 wr)) (fun iv _ => ln - (intOf iv).toNat)
      case atStart => exact ⟨0, Nat.zero_le _, rfl, fun j r hj => by omega, HX⟩
      case round =>
        obtain ⟨i, hi, rfl, HQ, HW⟩ := hrel
        rename World => wr
        by_cases hlt : i < ln
        · have hiz : (i : Int) < ln := by omega
          obtain ⟨r, hr⟩ : ∃ r, N.sn[i]? = some r := ⟨_, List.getElem?_eq_getElem (by have := HLN.out; omega)⟩
          obtain ⟨e0, e1, e2⟩ := rpC_get hr
          obtain ⟨gr, hA2, _, _, _, c0⟩ := HW.out.sv.rp.cell e0
          subst hA2
          have c1 := HW.out.sv.rp.cellAt e1
          have c2' := HW.out.sv.rp.cellAt e2
          have HRR := hide hr
          have HRO := hide (HO.out.all r (List.mem_of_getElem? hr))
          clear e0 e1 e2 hr
          have HW4 := hide (HW.out.no (Kp.alloc No wr (.cells #[.int .u64 (r.num : Int), .int .i64 r.e, .slice none 0 0] 81)))
          have HP4 := hide (Bx3.new wr 81 (.int .u64 (r.num : Int)) (.int .i64 r.e) (.slice none 0 0))
          go_upto_region 6 with (fail)
          generalize wr.alloc (.cells #[.int .u64 (r.num : Int), .int .i64 r.e, .slice none 0 0] 81) = w4 at HW4 HP4 ⊢
          generalize wr.heap.size = P0 at HP4 ⊢
          clear c0 c1 c2' HW
          obtain ⟨p0, p1, p2⟩ := HP4.out.cell
          have y0 := HW4.out.qb.cell.1
          by_cases hnum : r.num = q.num
          · have tq : ((r.num : Int) == (q.num : Int)) = true := by simp [hnum]
            have HFI : Hid (N.old q = some r) := by show N.old q = some r; rw [Nd.old_yes HC.out]; exact find_at HRR.out hnum HQ.out
            have HR := hide (HW4.out.same (F := F) (fun z f => f.1) HBB.out HFB.out)
            have HFN := hide (HR.out.fin2 r HRO.out.nil (Nd.hand_some (n := n) (a := a) (x := x) HFI.out).1 (Nd.hand_some (n := n) (a := a) (x := x) HFI.out).2)
            have HCL := hide (HR.out.rb.all (.int .u64 (r.num : Int)) (.int .i64 r.e) (.slice none 0 0)).cell
            obtain ⟨v0, v1, v2⟩ := HR.out.rb.cell
            have f0 := HR.out.rb.fz 0
            have f1 := HR.out.rb.fz 1
            have f2 := HR.out.rb.fz 2
            clear hnum
            go_wp2_with fail
            clear v0 v1 v2 f0 f1 f2 p0 p1 p2 y0
            obtain ⟨q0, q1, q2⟩ := HCL.out
            refine bodyPost_ret (v := rplV r (.slice none 0 0)) (by simp [results, Tryz.results48, go_sem, q0, q1, q2]) rfl ?_
            exact HFN.out
          · have HNM := hide hnum
            have tq : ((r.num : Int) == (q.num : Int)) = false := beq_eq_false_iff_ne.2 (by omega)
            clear hnum
            go_wp2_with fail
            go_round
            case rel => exact ⟨i + 1, by omega, by go_num, (fun j r' hj hr' => by
                rcases Nat.lt_or_ge j i with g1 | g1
                · exact HQ.out j r' g1 hr'
                · obtain rfl : j = i := by omega
                  rw [HRR.out] at hr'
                  injection hr' with hr'
                  subst hr'
                  exact HNM.out), HW4⟩
            case measure => simp [intOf]; omega
        · obtain rfl : i = ln := by omega
          have hiz : ¬ (i : Int) < i := by omega
          have HFI : Hid (N.old q = none) := by
            show N.old q = none
            rw [Nd.old_yes HC.out]
            exact find_none fun j r hr => HQ.out j r (by have h1 := (List.getElem?_eq_some_iff.1 hr).1; have := HLN.out; omega) hr
          have HR0 := hide (Nd.hand_none (n := n) (a := a) (x := x) HFI.out)
          obtain ⟨z0, z1, z2, z3, z4, z5, z6, z7⟩ := HW.out.qb.cell
          go_wp2_with fail
          refine (HDO.out _ _ HW.out.sv HW.out.bt).mono ?_
          rintro e w1 ⟨u, rfl, ho, hu, hs, hk⟩
          obtain rfl := hu HC.out
          have HPO : Hid (Nd.RpOk (ndP n a x N.V q)) := ndP_ok HF.out.num HC.out
          have HR := hide (HW.out.did (F := F) (fun z f => f.1) HBB.out HFB.out hs hk ho)
          have HE1 : Hid (N.did n a x q = ⟨ndV N.V q, remL N.sn (ndP n a x N.V q), N.done + 1⟩) := Nd.did_yes HC.out
          have HND : Hid (ndB n a x N.V q = []) := HPO.out.nil
          clear ho hs hk hu z0 z1 z2 z3 z4 z5 z6 z7
          generalize hP : ndP n a x N.V q = P at *
          generalize hVV : ndV N.V q = VV at *
          have HR4 := hide (HR.out.no (Kp.alloc No w1 (.cells #[.int .u64 (P.num : Int), .int .i64 P.e, .slice none 0 0] 81)))
          have HP4 := hide (Bx3.new w1 81 (.int .u64 (P.num : Int)) (.int .i64 P.e) (.slice none 0 0))
          have HX4 : Hid (∃ F2 gv b rv, SvR (w1.alloc (.cells #[.int .u64 (P.num : Int), .int .i64 P.e, .slice none 0 0] 81)) F2 B n k x g gc gd gv b rv ⟨VV, N.sn, N.done + 1⟩ ∧ (∀ z, F2 z → Up F w z ∧ z ≠ B0 + 1) ∧ ∀ z, F2 z → z ≠ w1.heap.size) := by
            obtain ⟨F2, gv2, b2, rv2, hs, hu⟩ := HR.out.sv
            exact ⟨_, gv2, b2, rv2, hs.lt.no (Kp.alloc No _ _), fun z f => hu z f.1, fun z f => by omega⟩
          go_upto_region 10 with (fail)
          generalize w1.alloc (.cells #[.int .u64 (P.num : Int), .int .i64 P.e, .slice none 0 0] 81) = w4 at HR4 HP4 HX4 ⊢
          generalize w1.heap.size = P0 at HP4 HX4 ⊢
          obtain ⟨F2, gv2, b2, rv2, hs2, hu2, hp2⟩ := HX4.out
          obtain ⟨p0, p1, p2⟩ := HP4.out.cell
          go_wp2_with fail
          refine (srem_any hs2 HPO.out).mono ?_
          rintro e w5 ⟨rfl, hs5, hk5⟩
          have HR5 := hide (HR4.out.rem hu2 hs5 hk5 HND.out rfl)
          have HP5 := hide (HP4.out.keep hk5 fun f => hp2 _ f rfl)
          have HFN := hide (HR5.out.fin2 P (by rw [HPO.out.nil]; exact HND.out.symm) (HR0.out.1.trans HE1.out) HR0.out.2)
          clear hs2 hu2 hp2 hs5 hk5 p0 p1 p2 HX4
          obtain ⟨y0, y1, y2⟩ := HP5.out.cell
          obtain ⟨v0, v1, v2⟩ := HR5.out.rb.cell
          have f0 := HR5.out.rb.fz 0
          have f1 := HR5.out.rb.fz 1
          have f2 := HR5.out.rb.fz 2
          have HCL := hide (HR5.out.rb.all (.int .u64 (P.num : Int)) (.int .i64 P.e) (.slice none 0 0)).cell
          go_wp2_with fail
          clear v0 v1 v2 f0 f1 f2 y0 y1 y2
          obtain ⟨q0, q1, q2⟩ := HCL.out
          refine bodyPost_ret (v := rplV P (.slice none 0 0)) (by simp [results, Tryz.results48, go_sem, q0, q1, q2]) rfl ?_
          exact HFN.out
  · have hc' : chgK q.kind = false := by simpa using hc
    have t2 : (q.kind != 2) = true := by
      refine bne_iff_ne.2 fun e => hc (chgK_iff.2 (.inl e))
    have t5 : (q.kind != 5) = true := by
      refine bne_iff_ne.2 fun e => hc (chgK_iff.2 (.inr e))
    have HC := hide hc'
    clear hc hc'
    have HR0 := hide (Nd.hand_none (n := n) (a := a) (x := x) (Nd.old_none (N := N) HC.out))
    go_wp2_with fail
    refine (HDO.out _ _ HX.out.sv HX.out.bt).mono ?_
    rintro e w1 ⟨u, rfl, ho, _, hs, hk⟩
    have HR := hide (HX.out.did (F := F) (fun z f => f.1) HBB.out HFB.out hs hk ho)
    clear ho hs hk z0 z1 z2 z3 z4 z5 z6 z7
    obtain ⟨A5, n5, c5, rfl⟩ := HR.out.ow.bts.form
    obtain ⟨y0, y1, y2⟩ := HR.out.rb.cell
    have f0 := HR.out.rb.fz 0
    have f1 := HR.out.rb.fz 1
    have f2 := HR.out.rb.fz 2
    have HCL := hide (HR.out.rb.all (.int .u64 ((ndP n a x N.V q).num : Int)) (.int .i64 (ndP n a x N.V q).e) (.slice A5 n5 c5)).cell
    have HFN := hide (HR.out.fin2 (ndP n a x N.V q) rfl (HR0.out.1.trans (Nd.did_no HC.out)) HR0.out.2)
    generalize ndP n a x N.V q = P at HCL HFN ⊢
    go_wp2_with fail
    clear y0 y1 y2 f0 f1 f2
    obtain ⟨q0, q1, q2⟩ := HCL.out
    refine bodyPost_ret (v := rplV P (.slice A5 n5 c5)) (by simp [results, Tryz.results48, go_sem, q0, q1, q2]) rfl ?_
    exact HFN.out
end Go.Proofs.YtnfcfdhlmeimhaaGreat
