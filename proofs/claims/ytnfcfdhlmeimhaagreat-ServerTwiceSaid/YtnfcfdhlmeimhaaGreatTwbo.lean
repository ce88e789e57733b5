/- Package server's Handle and Trip, as contracts over memory (printed by tools/gen_ndi.py). -/
import Derived.Test.YtnfcfdhlmeimhaaGreatTwbn
import Derived.Test.YtnfcfdhlmeimhaaGreatTwbh
import Derived.Test.YtnfcfdhlmeimhaaGreatTwbi
namespace Go.Proofs.YtnfcfdhlmeimhaaGreat
open Go.RowKit
set_option linter.unusedVariables false
set_option linter.unusedSimpArgs false
set_option maxRecDepth 20000

section
variable {n k a d qq : Nat} {x : Nat → UInt8} {N : Nd} {q : Rq}
theorem ndB_len (hD : Dim n k a d qq) (h : N.V.Ok) (q : Rq) : (ndB n a x N.V q).length ≤ N.V.D.size := by
  unfold ndB
  split
  · exact h.gtB_len _
  · split
    · unfold hlpB
      split
      · rw [rowL_len]
        exact Nat.le_trans (Nat.div_le_self _ _) (h.gtB_len _)
      · exact Nat.zero_le _
    · exact Nat.zero_le _
theorem Nd.out_ok (hD : Dim n k a d qq) (h : N.Ok) (hq : q.Fit) (hz : N.V.D.size ≤ 1000) : (N.out n a x q).num < 18446744073709551616 ∧ (N.out n a x q).rgt = true ∧ (N.out n a x q).data.length ≤ 1000 := by
  rcases ho : N.old q with _ | p
  · rw [(Nd.hand_none (n := n) (a := a) (x := x) ho).2]
    exact ⟨hq.num, ndP_rgt _ _ _ _ _, Nat.le_trans (ndB_len hD h.v q) hz⟩
  · rw [(Nd.hand_some (n := n) (a := a) (x := x) ho).2]
    have hp : p ∈ N.sn := by
      unfold Nd.old at ho
      split at ho
      · exact List.mem_of_find?_eq_some ho
      · cases ho
    have := h.all p hp
    exact ⟨this.num, this.rgt, by rw [this.nil]; exact Nat.zero_le _⟩
theorem Nd.handB_yes {bs : List UInt8} (h : rqE bs = true) : N.handB n a x bs = N.hand n a x (rqO bs) ∧ N.outB n a x bs = (N.out n a x (rqO bs)).bytes := by unfold Nd.handB Nd.outB; rw [h]; exact ⟨rfl, rfl⟩
theorem Nd.handB_no {bs : List UInt8} (h : rqE bs = false) : N.handB n a x bs = N ∧ N.outB n a x bs = [] := by unfold Nd.handB Nd.outB; rw [h]; exact ⟨rfl, rfl⟩
end
/-- What Handle comes to. -/
def HanPost (w : World) (F : Nat → Prop) (B n k : Nat) (x : Nat → UInt8) (g gc gd : Nat) (N1 : Nd) (bs : List UInt8) (e : Ending) (w1 : World) : Prop :=
  ∃ A m c, e = .returned (.slice A m c) ∧ Own w1 w.heap.size 5 (.slice A m c) bs ∧ (∃ F1, SvAt w1 F1 B n k x g gc gd N1 ∧ (∀ z, F1 z → Up F w z) ∧ ∀ z, (Value.slice A m c).ownBlock = some z → ¬ F1 z) ∧ Kp F w w1
set_option maxHeartbeats 4000000 in
theorem shandle_any {w : World} {F : Nat → Prop} {B n k a d qq g gc gd gv b : Nat} {x : Nat → UInt8} {rv u : Value} {N : Nd} {bs : List UInt8} (h : SvR w F B n k x g gc gd gv b rv N) (hD : Dim n k a d qq) (hz : SzK N.V) (hb : Bts w u bs) (hl : bs.length ≤ 100000) (hdn : N.done + 1 < 18446744073709551616) :
    Calls Tryz.prog 23 #[.pointer (some ⟨g, 0, none⟩), u] w (HanPost w F B n k x g gc gd (N.handB n a x bs) (N.outB n a x bs)) := by
  have HM := hide h.blk.made
  have HS := hide h
  have HZ := hide hz
  have HD := hide hD
  rcases hE : rqE bs with _ | _
  · have HP := hide (parse15_any hb hl rq0 21 (fun e => by rw [hE] at e; cases e) fun _ => ⟨rfl, rfl⟩)
    have HR := hide (Nd.handB_no (n := n) (a := a) (x := x) (N := N) hE)
    clear h hD hz hb hl hdn hE
    go_enter Tryz.func23, Tryz.ntmps23
    go_wp2_with fail
    refine HM.out.mono ?_
    rintro e w' ⟨rfl, rfl⟩
    go_wp2_with fail
    refine HP.out.mono ?_
    rintro e w1 ⟨A1, n1, c1, rfl, _, hk1⟩
    have HK := hide (hk1.trans' (Kp.alloc No w1 (.cells #[.int .u64 (rq0.num : Int), .int .i64 rq0.kind, .int .u32 (cO rq0.s : Int), .int .u16 (cS rq0.s : Int), .int .u16 (cL rq0.s : Int), .int .u32 (cG rq0.s : Int), .int .u16 (rq0.lost : Int), .slice A1 n1 c1] 84)))
    clear hk1
    go_wp2
    go_ret
    refine ⟨none, 0, 0, rfl, by rw [HR.out.2]; exact Own.nil _ _ _, ?_, HK.out.of_no F⟩
    rw [HR.out.1]
    exact ⟨F, ⟨gv, b, rv, HS.out.no HK.out⟩, fun z f => .inl f, fun z e => by cases e⟩
  · have HP := hide (parse15_any hb hl (rqO bs) 0 (fun _ => ⟨rfl, rfl⟩) fun e => by rw [hE] at e; cases e)
    have HR := hide (Nd.handB_yes (n := n) (a := a) (x := x) (N := N) hE)
    have hf := rqO_fit bs
    have hdl : (rqO bs).data.length ≤ 100000 := by show (bs.drop 23).length ≤ _; rw [List.length_drop]; omega
    generalize rqO bs = q at *
    have HOK := hide (Nd.out_ok (x := x) hD h.ok hf hz.z)
    have HA : Hid (∀ w' A1 n1 c1, Kp No w w' → Bts w' (.slice A1 n1 c1) q.data → Calls Tryz.prog 48 #[.pointer (some ⟨g, 0, none⟩), rqV q (.slice A1 n1 c1)] w' (AnsPost w' F B n k x g gc gd (N.hand n a x q) (N.out n a x q))) := fun w' A1 n1 c1 hk' hb' => sans_any (h.no hk') hD hf hz hb' (by have := hb'.len; omega) hdn
    clear h hD hz hb hl hdn hE hf hdl
    go_enter Tryz.func23, Tryz.ntmps23
    go_wp2_with fail
    refine HM.out.mono ?_
    rintro e w' ⟨rfl, rfl⟩
    go_wp2_with fail
    refine HP.out.mono ?_
    rintro e w1 ⟨A1, n1, c1, rfl, hb1, hk1⟩
    have hka := Kp.alloc No w1 (.cells #[.int .u64 (q.num : Int), .int .i64 q.kind, .int .u32 (cO q.s : Int), .int .u16 (cS q.s : Int), .int .u16 (cL q.s : Int), .int .u32 (cG q.s : Int), .int .u16 (q.lost : Int), .slice A1 n1 c1] 84)
    have HK := hide (hk1.trans' hka)
    have HB := hide (hb1.no hka)
    have HQ := hide (Bx8.new w1 84 (.int .u64 (q.num : Int)) (.int .i64 q.kind) (.int .u32 (cO q.s : Int)) (.int .u16 (cS q.s : Int)) (.int .u16 (cL q.s : Int)) (.int .u32 (cG q.s : Int)) (.int .u16 (q.lost : Int)) (.slice A1 n1 c1))
    clear hk1 hb1 hka
    go_upto_region 6 with (fail)
    generalize w1.alloc (.cells #[.int .u64 (q.num : Int), .int .i64 q.kind, .int .u32 (cO q.s : Int), .int .u16 (cS q.s : Int), .int .u16 (cL q.s : Int), .int .u32 (cG q.s : Int), .int .u16 (q.lost : Int), .slice A1 n1 c1] 84) = w2 at HK HB HQ ⊢
    generalize w1.heap.size = B0 at HQ ⊢
    obtain ⟨z0, z1, z2, z3, z4, z5, z6, z7⟩ := HQ.out.cell
    go_wp2_with fail
    refine (HA.out _ _ _ _ HK.out HB.out).mono ?_
    rintro e w3 ⟨u3, rfl, ho3, hs3, hk3⟩
    obtain ⟨A3, n3, c3, rfl⟩ := ho3.bts.form
    have HS3 := hide hs3
    have HK3 := hide hk3
    have HO3 := hide ho3
    clear ho3 hs3 hk3 z0 z1 z2 z3 z4 z5 z6 z7
    generalize N.out n a x q = P at *
    go_wp2_with fail
    refine (pbytes_any P HOK.out.1 HOK.out.2.1 HO3.out.bts (by have h1 := HO3.out.len; have h2 := HOK.out.2.2; omega)).mono ?_
    rintro e w4 ⟨A4, n4, c4, rfl, ho4, hk4⟩
    have HO4 := hide ho4
    have HK4 := hide hk4
    clear ho4 hk4
    go_wp2
    go_ret
    have h1 := HK.out.size
    have h2 := HK3.out.size
    refine ⟨A4, n4, c4, rfl, by rw [HR.out.2]; exact HO4.out.rebase fun i hi => (by have := HO4.out.ge i hi; omega), ?_, (((HK.out.of_no F).trans' HK3.out).trans' (HK4.out.of_no F))⟩
    rw [HR.out.1]
    obtain ⟨gv3, b3, rv3, hs⟩ := HS3.out
    exact ⟨_, ⟨gv3, b3, rv3, hs.lt.no HK4.out⟩, fun z f => f.1.imp (fun f => f) fun f => Nat.le_trans h1 f, fun z e f => by have := HO4.out.ge z e; have := f.2; omega⟩
end Go.Proofs.YtnfcfdhlmeimhaaGreat
