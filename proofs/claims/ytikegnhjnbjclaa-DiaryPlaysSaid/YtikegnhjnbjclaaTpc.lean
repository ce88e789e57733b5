/- The document's tape of layer 13 in memory; its All, Append, Sync, Cut and Crash, each as a contract. No condition. -/
import Derived.Test.YtikegnhjnbjclaaTpb
import Derived.Test.YtikegnhjnbjclaaRg
import Derived.Deep.RegionHeld3
import Derived.Deep.DeepCutAuto
namespace Go.Proofs.Ytikegnhjnbjclaa
open Go.RowKit
set_option linter.unusedVariables false
set_option maxRecDepth 20000
set_option linter.unusedSimpArgs false

/-- The document's tape T, in the value of its three fields; its slices lie outside F. -/
structure RtR (w : World) (F : Nat → Prop) (T : Tp) (vs vl : Value) : Prop where
  s : BtF w F vs T.sf
  l : BtF w F vl T.ls
  bd : ∀ k, F k → k < w.heap.size
def rtV (T : Tp) (vs vl : Value) : Value := .agg #[vs, vl, .int .i64 (T.most : Int)]
def RtAt (w : World) (F : Nat → Prop) (T : Tp) (v : Value) : Prop := ∃ vs vl, v = rtV T vs vl ∧ RtR w F T vs vl
section
variable {w w1 : World} {F F1 S : Nat → Prop} {T : Tp} {vs vl v : Value}
theorem RtR.keep (h : RtR w F T vs vl) (hk : Kp S w w1) (hS : ∀ k, k < w.heap.size → ¬ F k → ¬ S k) : RtR w1 F T vs vl := ⟨h.s.keep hk hS, h.l.keep hk hS, fun k hF => Nat.lt_of_lt_of_le (h.bd k hF) hk.size⟩
theorem RtR.no (h : RtR w F T vs vl) (hk : Kp No w w1) : RtR w1 F T vs vl := h.keep hk fun _ _ _ f => f
theorem RtR.step (h : RtR w F T vs vl) (hk : Kp F w w1) (hF : ∀ k, F1 k → Up F w k ∧ k < w1.heap.size) : RtR w1 F1 T vs vl := ⟨h.s.step hk fun k g => (hF k g).1, h.l.step hk fun k g => (hF k g).1, fun k g => (hF k g).2⟩
theorem RtR.less (h : RtR w F T vs vl) (hF : ∀ k, F1 k → F k) : RtR w F1 T vs vl := ⟨h.s.up fun k _ g => hF k g, h.l.up fun k _ g => hF k g, fun k g => h.bd k (hF k g)⟩
theorem RtR.forms (h : RtR w F T vs vl) : ∃ As ns cs Al nl cl, vs = .slice As ns cs ∧ vl = .slice Al nl cl ∧ ns = T.sf.length ∧ nl = T.ls.length ∧ ns ≤ cs ∧ nl ≤ cl := by
  obtain ⟨As, ns, cs, e1⟩ := h.s.bts.form
  obtain ⟨Al, nl, cl, e2⟩ := h.l.bts.form
  have h1 := h.s.bts
  have h2 := h.l.bts
  rw [e1] at h1
  rw [e2] at h2
  exact ⟨As, ns, cs, Al, nl, cl, e1, e2, h1.len, h2.len, h.s.room _ _ _ e1, h.l.room _ _ _ e2⟩
end
/-- A box of a tape of the document's. -/
def BxT (w : World) (s : Nat) (vs vl : Value) (m : Nat) : Prop := w.heap[s]? = some (.cells #[vs, vl, .int .i64 (m : Int)] 35 (0, 0))
section
variable {w w1 : World} {S : Nat → Prop} {s m : Nat} {vs vl v : Value}
theorem BxT.lt (h : BxT w s vs vl m) : s < w.heap.size := (Array.getElem?_eq_some_iff.1 h).1
theorem BxT.keep (h : BxT w s vs vl m) (hk : Kp S w w1) (hS : ¬ S s) : BxT w1 s vs vl m := (hk.block s h.lt hS).trans h
theorem BxT.no (h : BxT w s vs vl m) (hk : Kp No w w1) : BxT w1 s vs vl m := h.keep hk fun f => f
theorem BxT.c0 (h : BxT w s vs vl m) : w.cell? ⟨s, 0, none⟩ = some vs := by rw [cell_of_row w s 0 _ _ _ h]; rfl
theorem BxT.c1 (h : BxT w s vs vl m) : w.cell? ⟨s, 1, none⟩ = some vl := by rw [cell_of_row w s 1 _ _ _ h]; rfl
theorem BxT.c2 (h : BxT w s vs vl m) : w.cell? ⟨s, 2, none⟩ = some (.int .i64 (m : Int)) := by rw [cell_of_row w s 2 _ _ _ h]; rfl
theorem BxT.fz (h : BxT w s vs vl m) (j : Nat) : w.frozen? ⟨s, j, none⟩ = false := frozen_of_row w s j _ _ h
theorem BxT.new (w : World) (vs vl : Value) (m : Nat) : BxT (w.alloc (.cells #[vs, vl, .int .i64 (m : Int)] 35)) w.heap.size vs vl m := heap_alloc_new w _
theorem BxT.set1 (h : BxT w s vs vl m) (v : Value) : BxT (w.setCell ⟨s, 1, none⟩ v) s vs v m := heap_setCell_same w s 1 _ _ v h
theorem BxT.set3 {a b : Value} {z : Nat} (h : BxT w s a b z) (vs vl : Value) (m : Nat) : BxT (((w.setCell ⟨s, 0, none⟩ vs).setCell ⟨s, 1, none⟩ vl).setCell ⟨s, 2, none⟩ (.int .i64 (m : Int))) s vs vl m :=
  heap_setCell_same _ s 2 _ _ _ (heap_setCell_same _ s 1 _ _ _ (heap_setCell_same w s 0 _ _ _ h))
theorem kp_set3 (w : World) (t : Nat) (u0 u1 u2 : Value) : Kp (fun k => k = t) w (((w.setCell ⟨t, 0, none⟩ u0).setCell ⟨t, 1, none⟩ u1).setCell ⟨t, 2, none⟩ u2) :=
  ((Kp.setCell (p := ⟨t, 0, none⟩) (S := fun k => k = t) rfl u0).trans' (Kp.setCell (p := ⟨t, 1, none⟩) (S := fun k => k = t) rfl u1)).trans' (Kp.setCell (p := ⟨t, 2, none⟩) (S := fun k => k = t) rfl u2)
end
/-- F, the box s and the result's cell behind it. -/
def Ft (F : Nat → Prop) (s k : Nat) : Prop := F k ∨ k = s ∨ k = s + 1
/-- A call on the document's tape: its box s holds T, the result's cell is new. -/
structure BxU (w : World) (F : Nat → Prop) (T : Tp) (vs vl : Value) (s : Nat) (wr : World) : Prop where
  bx : BxT wr s vs vl T.most
  rz : BxT wr (s + 1) (.slice none 0 0) (.slice none 0 0) 0
  rf : RtR wr (Ft F s) T vs vl
  kp : Kp No w wr
  sl : w.heap.size ≤ s
section
variable {w wr w1 : World} {F : Nat → Prop} {T T' : Tp} {vs vl vs' vl' : Value} {s : Nat}
theorem BxU.no (h : BxU w F T vs vl s wr) (hk : Kp No wr w1) : BxU w F T vs vl s w1 := ⟨h.bx.no hk, h.rz.no hk, h.rf.no hk, h.kp.trans' hk, h.sl⟩
theorem BxU.begin (h : RtR w F T vs vl) : BxU w F T vs vl w.heap.size ((w.alloc (.cells #[vs, vl, .int .i64 (T.most : Int)] 35)).alloc (.cells #[.slice none 0 0, .slice none 0 0, .int .i64 0] 35)) := by
  have K2 : Kp No w ((w.alloc (.cells #[vs, vl, .int .i64 (T.most : Int)] 35)).alloc (.cells #[.slice none 0 0, .slice none 0 0, .int .i64 0] 35)) := (Kp.alloc No w _).al _
  have hBx := (BxT.new w vs vl T.most).no (Kp.alloc No _ (.cells #[.slice none 0 0, .slice none 0 0, .int .i64 0] 35))
  have hZ := BxT.new (w.alloc (.cells #[vs, vl, .int .i64 (T.most : Int)] 35)) (.slice none 0 0) (.slice none 0 0) 0
  have e1 : (w.alloc (.cells #[vs, vl, .int .i64 (T.most : Int)] 35)).heap.size = w.heap.size + 1 := by simp
  rw [e1] at hZ
  refine ⟨hBx, hZ, h.step (K2.of_no F) fun k hk => ?_, K2, Nat.le_refl _⟩
  rcases hk with hk | rfl | rfl
  · exact ⟨.inl hk, by have := h.bd k hk; simp; omega⟩
  · exact ⟨.inr (Nat.le_refl _), by simp; omega⟩
  · exact ⟨.inr (by omega), by simp⟩
/-- The result's cell is written. -/
theorem BxU.fin (h : BxU w F T vs vl s wr) (hr : RtR wr (Ft F s) T' vs' vl') (hk : Kp (fun k => k = s + 1) wr w1) : RtR w1 F T' vs' vl' ∧ Kp No w w1 :=
  ⟨(hr.keep hk fun k _ hn e => hn (.inr (.inr e))).less fun k hk => .inl hk, h.kp.trans (hk.mono fun k e => .inr (by have := h.sl; omega))⟩
/-- A slice that was just made. -/
theorem BxU.fresh (h : BxU w F T vs vl s wr) {w0 : World} {e : TypeId} {v : Value} {bs : List UInt8} (hw : wr.heap.size ≤ w0.heap.size) (ho : Own w1 w0.heap.size e v bs) : BtF w1 (Ft F s) v bs := BtF.new ho fun k hk => Nat.lt_of_lt_of_le (h.rf.bd k hk) hw
theorem BtF.none (w : World) (F : Nat → Prop) : BtF w F (.slice none 0 0) [] := ⟨Bts.nil w, fun h => absurd rfl h, fun A n c e => by injection e with _ e1 e2; omega⟩
end
/-- What a call on the document's tape comes to. -/
def RtPost (w : World) (F : Nat → Prop) (T' : Tp) (f : Value → Value) (e : Ending) (w1 : World) : Prop := ∃ v, e = .returned (f v) ∧ RtAt w1 F T' v ∧ Kp No w w1
def tupT (n : Nat) (v : Value) : Value := .tuple #[v, .int .i64 (n : Int)]

section
variable {w : World} {F : Nat → Prop} {T : Tp} {v0 : Value}
set_option maxHeartbeats 2000000 in
theorem rall_any (h : RtAt w F T v0) (hL : T.len ≤ 900000000) : Calls Try.prog 19 #[v0] w (OwnPost w (T.sf ++ T.ls)) := by
  obtain ⟨i0, hi0, hz0, hz1, hz2⟩ := byte_parts
  obtain ⟨vs, vl, rfl, h⟩ := h
  obtain ⟨As, ns, cs, Al, nl, cl, rfl, rfl, hns, hnl, hcs, hcl⟩ := h.forms
  have hLL : T.sf.length + T.ls.length ≤ 900000000 := hL
  have hB := BxT.new w (.slice As ns cs) (.slice Al nl cl) T.most
  have x0 : (w.alloc (.cells #[.slice As ns cs, .slice Al nl cl, .int .i64 (T.most : Int)] 35)).drew.cell? ⟨w.heap.size, 0, none⟩ = some (.slice As ns cs) := hB.c0
  have x1 : (w.alloc (.cells #[.slice As ns cs, .slice Al nl cl, .int .i64 (T.most : Int)] 35)).drew.cell? ⟨w.heap.size, 1, none⟩ = some (.slice Al nl cl) := hB.c1
  have HS := hide (show Bts (w.alloc (.cells #[.slice As ns cs, .slice Al nl cl, .int .i64 (T.most : Int)] 35)).drew (.slice As ns cs) T.sf from h.s.bts.no (Kp.alloc No w _).drew)
  have HLs := hide (show Bts (w.alloc (.cells #[.slice As ns cs, .slice Al nl cl, .int .i64 (T.most : Int)] 35)).drew (.slice Al nl cl) T.ls from h.l.bts.no (Kp.alloc No w _).drew)
  have HK : Hid (Kp No w (w.alloc (.cells #[.slice As ns cs, .slice Al nl cl, .int .i64 (T.most : Int)] 35)).drew) := (Kp.alloc No w _).drew
  have HNS := hide hns
  have HNL := hide hnl
  clear h hB hns hnl hL
  unfold rtV
  go_enter Try.func19, Try.ntmps19
  go_wp2_with fail
  generalize w.alloc (.cells #[.slice As ns cs, .slice Al nl cl, .int .i64 (T.most : Int)] 35) = w2 at x0 x1 HS HLs HK ⊢
  generalize w.heap.size = s at x0 x1 ⊢
  refine wp_region_noPanic ?_
  refine wp_region_held_drew (S := fun w' => w'.cell? ⟨s, 0, none⟩ = some (.slice As ns cs) ∧ w'.cell? ⟨s, 1, none⟩ = some (.slice Al nl cl)) (by kernel_rfl) (⟨x0, x1⟩) (fun hHeld => ?_)
  refine wpAnyH_take (i := 1) (v := ?va1) (oi := ?oa1) ?ha1 (by kernel_rfl) (by kernel_rfl) (by kernel_rfl) (fun _ _ _ h => h) (Or.inl ⟨?wa1, ?ya1⟩) hHeld ?ra1
  case ha1 => simp only [List.getElem?_toArray, List.getElem?_cons_zero, List.getElem?_cons_succ]; rfl
  case wa1 => rfl
  case ya1 => intro w hSw; (try dsimp only at hSw); go_simp; (try with_reducible rfl)
  simp only [Act.put, List.setIfInBounds_toArray, List.set_cons_zero, List.set_cons_succ]
  refine wpAnyH_take (i := 2) (v := ?va2) (oi := ?oa2) ?ha2 (by kernel_rfl) (by kernel_rfl) (by kernel_rfl) (fun _ _ _ h => h) (Or.inl ⟨?wa2, ?ya2⟩) hHeld ?ra2
  case ha2 => simp only [List.getElem?_toArray, List.getElem?_cons_zero, List.getElem?_cons_succ]; rfl
  case wa2 => rfl
  case ya2 => intro w hSw; (try dsimp only at hSw); go_simp; (try with_reducible rfl)
  simp only [Act.put, List.setIfInBounds_toArray, List.set_cons_zero, List.set_cons_succ]
  refine wpAnyH_take (i := 4) (v := ?va4) (oi := ?oa4) ?ha4 (by kernel_rfl) (by kernel_rfl) (by kernel_rfl) (fun _ _ _ h => h) (Or.inl ⟨?wa4, ?ya4⟩) hHeld ?ra4
  case ha4 => simp only [List.getElem?_toArray, List.getElem?_cons_zero, List.getElem?_cons_succ]; rfl
  case wa4 => rfl
  case ya4 => intro w hSw; (try dsimp only at hSw); go_simp; (try with_reducible rfl)
  simp only [Act.put, List.setIfInBounds_toArray, List.set_cons_zero, List.set_cons_succ]
  refine wpAnyH_take (i := 5) (v := ?va5) (oi := ?oa5) ?ha5 (by kernel_rfl) (by kernel_rfl) (by kernel_rfl) (fun _ _ _ h => h) (Or.inl ⟨?wa5, ?ya5⟩) hHeld ?ra5
  case ha5 => simp only [List.getElem?_toArray, List.getElem?_cons_zero, List.getElem?_cons_succ]; rfl
  case wa5 => rfl
  case ya5 => intro w hSw; (try dsimp only at hSw); go_simp; (try with_reducible rfl)
  simp only [Act.put, List.setIfInBounds_toArray, List.set_cons_zero, List.set_cons_succ]
  refine wpAnyH_ready (rs := [0]) (by kernel_rfl) (by simp) ?_
  refine AllReadyH.cons (o := ?oa0) ?ha0 (fun K hK => ?sa0) AllReadyH.nil
  case ha0 => simp only [List.getElem?_toArray, List.getElem?_cons_zero, List.getElem?_cons_succ]; rfl
  go_simp
  refine hK.out _ _ (⟨(Kp.alloc No _ _).cell hHeld.1 (fun f => f), (Kp.alloc No _ _).cell hHeld.2 (fun f => f)⟩) (fun hHeld => ?_)
  clear hK K
  try simp only [Act.put, List.setIfInBounds_toArray, List.set_cons_zero, List.set_cons_succ]
  refine wpAnyH_ready (rs := [3]) (by kernel_rfl) (by simp) ?_
  refine AllReadyH.cons (o := ?oa3) ?ha3 (fun K hK => ?sa3) AllReadyH.nil
  case ha3 => simp only [List.getElem?_toArray, List.getElem?_cons_zero, List.getElem?_cons_succ]; rfl
  have o3 := own_empty w2.drew
  refine step_app rfl (.tmp 3) (.tmp 5) _ rfl i0 Try.underlying22 hi0 hz0 hz1 hz2 rfl o3 rfl (HS.out.no (Kp.alloc No _ _)) ?l3 ?b3 ?_
  case l3 => simp; omega
  case b3 => simp
  intro A5 n5 c5 w5 ha5
  have k5 : Kp No w2.drew w5 := ha5.keeps o3 (Kp.alloc No _ _)
  have y0 := k5.cell x0 (fun f => f)
  have y1 := k5.cell x1 (fun f => f)
  refine hK.out _ _ (⟨y0, y1⟩) (fun hHeld => ?_)
  clear hK K
  try simp only [Act.put, List.setIfInBounds_toArray, List.set_cons_zero, List.set_cons_succ]
  refine wpAnyH_ready (rs := [6]) (by kernel_rfl) (by simp) ?_
  refine AllReadyH.cons (o := ?oa6) ?ha6 (fun K hK => ?sa6) AllReadyH.nil
  case ha6 => simp only [List.getElem?_toArray, List.getElem?_cons_zero, List.getElem?_cons_succ]; rfl
  refine step_app rfl (.tmp 6) (.tmp 8) _ rfl i0 Try.underlying22 hi0 hz0 hz1 hz2 rfl ha5.own rfl (HLs.out.no k5) ?l6 ?b6 ?_
  case l6 => simp; omega
  case b6 => exact k5.size
  intro A6 n6 c6 w6 ha6
  have k6 : Kp No w2.drew w6 := ha6.keeps ha5.own k5
  have u0 := k6.cell x0 (fun f => f)
  have u1 := k6.cell x1 (fun f => f)
  have HO6 : Hid (Own w6 w2.drew.heap.size 5 (.slice A6 n6 c6) (T.sf ++ T.ls)) := by show Own _ _ _ _ _; simpa using ha6.own
  refine hK.out _ _ (⟨u0, u1⟩) (fun hHeld => ?_)
  clear hK K
  try simp only [Act.put, List.setIfInBounds_toArray, List.set_cons_zero, List.set_cons_succ]
  refine wpAnyH_take (i := 7) (v := ?va7) (oi := ?oa7) ?ha7 (by kernel_rfl) (by kernel_rfl) (by kernel_rfl) (fun _ _ _ h => h) (Or.inl ⟨?wa7, ?ya7⟩) hHeld ?ra7
  case ha7 => simp only [List.getElem?_toArray, List.getElem?_cons_zero, List.getElem?_cons_succ]; rfl
  case wa7 => rfl
  case ya7 => intro w hSw; (try dsimp only at hSw); go_simp; (try with_reducible rfl)
  simp only [Act.put, List.setIfInBounds_toArray, List.set_cons_zero, List.set_cons_succ]
  refine wpAnyH_done (by kernel_rfl) ?_ _
  refine NoPanic.normal ?_
  have HK6 := hide k6
  clear x0 x1 y0 y1 u0 u1 k5 k6 ha5 ha6
  go_wp2_with fail
  go_ret
  exact ⟨A6, n6, c6, rfl, HO6.out.rebase fun k hk => Nat.le_trans HK.out.size (HO6.out.ge k hk), HK.out.trans' HK6.out⟩

set_option maxHeartbeats 4000000 in
theorem rput13_any (h : RtAt w F T v0) {u : Value} {b : List UInt8} (hu : Bts w u b) (hL : T.len ≤ 900000000) (hbl : T.len + b.length ≤ 900000000) (hm : T.most ≤ 9223372036854775807) : Calls Try.prog 21 #[v0, u] w (RtPost w F (T.put b) (tupT (T.putE b))) := by
  obtain ⟨i0, hi0, hz0, hz1, hz2⟩ := byte_parts
  obtain ⟨B, m, d, rfl⟩ := hu.form
  have HM := hide hu.len
  have hbl2 : T.sf.length + T.ls.length + b.length ≤ 900000000 := hbl
  have hm9 : m ≤ 900000000 := by have := HM.out; omega
  have HU := hide hu
  clear hu
  obtain ⟨vs, vl, rfl, h⟩ := h
  obtain ⟨As, ns, cs, Al, nl, cl, rfl, rfl, hns, hnl, hcs, hcl⟩ := h.forms
  have hLL : T.sf.length + T.ls.length ≤ 900000000 := hL
  have HI := hide (BxU.begin h)
  have HNS := hide hns
  have HNL := hide hnl
  have hns9 : ns ≤ 900000000 := by omega
  have hnl9 : nl ≤ 900000000 := by omega
  clear h hns hnl
  obtain ⟨tt, htt⟩ : ∃ t, t = ns + nl + m := ⟨_, rfl⟩
  have hsum : (ns : Int) + (nl : Int) + (m : Int) = (tt : Int) := by omega
  have ht9 : tt ≤ 900000000 := by have := HM.out; have := HNS.out; have := HNL.out; omega
  have HTT := hide htt
  clear htt
  by_cases hf : T.most < tt
  · have hE : T.putE b = 20 := by unfold Tp.putE Tp.len; rw [if_pos (by have := HNS.out; have := HNL.out; have := HM.out; have := HTT.out; omega)]
    have hP : T.put b = T := by unfold Tp.put; rw [if_neg (by omega)]
    rw [hE, hP]
    clear hE hP
    unfold rtV
    go_enter Try.func21, Try.ntmps21
    go_upto_region 1 with (fail)
    generalize hw2 : (w.alloc (.cells #[.slice As ns cs, .slice Al nl cl, .int .i64 (T.most : Int)] 35)).alloc (.cells #[.slice none 0 0, .slice none 0 0, .int .i64 0] 35) = w2 at HI ⊢
    clear hw2
    generalize w.heap.size = s at HI ⊢
    have ax0 := HI.out.bx.c0
    have ax1 := HI.out.bx.c1
    have ax2 := HI.out.bx.c2
    have af0 := HI.out.rz.fz 0
    have af1 := HI.out.rz.fz 1
    have af2 := HI.out.rz.fz 2
    have az0 := HI.out.rz.c0
    have az1 := HI.out.rz.c1
    have az2 := HI.out.rz.c2
    have ag1 := HI.out.bx.fz 1
    go_wp2_with fail
    clear ax0 af0 az0 ax1 af1 az1 ax2 af2 az2 ag1
    have hbx := HI.out.rz.set3 (.slice As ns cs) (.slice Al nl cl) T.most
    have HFN := hide (HI.out.fin (T' := T) (HI.out.rf) (kp_set3 w2 (s + 1) (.slice As ns cs) (.slice Al nl cl) (.int .i64 (T.most : Int))))
    have r0 := hbx.c0
    have r1 := hbx.c1
    have r2 := hbx.c2
    clear hbx
    generalize (((w2.setCell ⟨s + 1, 0, none⟩ (.slice As ns cs)).setCell ⟨s + 1, 1, none⟩ (.slice Al nl cl)).setCell ⟨s + 1, 2, none⟩ (.int .i64 (T.most : Int))) = w9 at HFN r0 r1 r2 ⊢
    refine bodyPost_ret (v := tupT (20) (rtV (T) (.slice As ns cs) (.slice Al nl cl))) (by simp [results, Try.results21, go_sem, rtV, tupT, r0, r1, r2]) rfl ?_
    exact ⟨_, rfl, ⟨_, _, rfl, HFN.out.1⟩, HFN.out.2⟩
  · have hE : T.putE b = 0 := by unfold Tp.putE Tp.len; rw [if_neg (by have := HNS.out; have := HNL.out; have := HM.out; have := HTT.out; omega)]
    have hP : T.put b = ⟨T.sf, T.ls ++ b, T.most⟩ := by unfold Tp.put; rw [if_pos hE]
    rw [hE, hP]
    clear hE hP
    have HUI := hide (HU.out.no HI.out.kp)
    have HLB : Hid (T.ls.length + b.length ≤ 900000000) := by show _ ≤ _; omega
    unfold rtV
    go_enter Try.func21, Try.ntmps21
    go_upto_region 1 with (fail)
    generalize hw2 : (w.alloc (.cells #[.slice As ns cs, .slice Al nl cl, .int .i64 (T.most : Int)] 35)).alloc (.cells #[.slice none 0 0, .slice none 0 0, .int .i64 0] 35) = w2 at HI HUI ⊢
    clear hw2
    generalize w.heap.size = s at HI ⊢
    have ax0 := HI.out.bx.c0
    have ax1 := HI.out.bx.c1
    have ax2 := HI.out.bx.c2
    have af0 := HI.out.rz.fz 0
    have af1 := HI.out.rz.fz 1
    have af2 := HI.out.rz.fz 2
    have az0 := HI.out.rz.c0
    have az1 := HI.out.rz.c1
    have az2 := HI.out.rz.c2
    have ag1 := HI.out.bx.fz 1
    have hsl := HI.out.bx.lt
    have hsl1 := HI.out.rz.lt
    go_wp2_with (first
      | (at_builtin
         refine wpList_app rfl (.tmp 20) (.tmp 22) _ rfl i0 Try.underlying22 hi0 hz0 hz1 hz2 rfl (own_empty w2) rfl (HI.out.rf.l.bts.no (Kp.alloc No w2 _)) (by have := HLB.out; simp; omega) (by simp) ?_
         intro A5 n5 c5 w5 ha5
         have k5 : Kp No w2 w5 := ha5.keeps (own_empty w2) (Kp.alloc No w2 _)
         have HA5 := hide ha5.own
         have HK5 := hide k5
         have hS5 := HI.out.no k5
         have b5x1 := hS5.bx.c1
         have b5f1 := hS5.bx.fz 1
         clear ha5 k5 hS5)
      | (at_builtin
         refine wpList_app rfl (.tmp 23) (.tmp 24) _ rfl i0 Try.underlying22 hi0 hz0 hz1 hz2 rfl HA5.out rfl (HUI.out.no HK5.out) (by have := HLB.out; simp; omega) HK5.out.size ?_
         intro A6 n6 c6 w6 ha6
         have k6 : Kp No w2 w6 := ha6.keeps HA5.out HK5.out
         have HO6 : Hid (Own w6 w2.heap.size 5 (.slice A6 n6 c6) (T.ls ++ b)) := by show Own _ _ _ _ _; simpa using ha6.own
         have HS6 := hide (HI.out.no k6)
         have hS7 : BxU w F ⟨T.sf, T.ls ++ b, T.most⟩ (.slice As ns cs) (.slice A6 n6 c6) s (w6.setCell ⟨s, 1, none⟩ (.slice A6 n6 c6)) := by
           have hk := Kp.setCell (w := w6) (p := ⟨s, 1, none⟩) (S := fun k => k = s) rfl (.slice A6 n6 c6)
           have hw := k6.size
           refine ⟨HS6.out.bx.set1 _, HS6.out.rz.keep hk (by show ¬ s + 1 = s; omega), ⟨HS6.out.rf.s.keep hk fun k _ hn e => hn (.inr (.inl e)), (HI.out.fresh (Nat.le_refl _) HO6.out).keep hk fun k _ hn e => hn (.inr (.inl e)), fun k hk' => Nat.lt_of_lt_of_le (HS6.out.rf.bd k hk') hk.size⟩, HS6.out.kp.trans (hk.mono fun k e => .inr (by have := HI.out.sl; omega)), HI.out.sl⟩
         have b6x0 := HS6.out.bx.c0
         have b6x1 := HS6.out.bx.c1
         have b6x2 := HS6.out.bx.c2
         have b6g1 := HS6.out.bx.fz 1
         have b6f0 := HS6.out.rz.fz 0
         have b6f1 := HS6.out.rz.fz 1
         have b6f2 := HS6.out.rz.fz 2
         have b6z0 := HS6.out.rz.c0
         have b6z1 := HS6.out.rz.c1
         have b6z2 := HS6.out.rz.c2
         have HS7 := hide hS7
         clear ha6 k6 hS7))
    clear ax0 af0 az0 ax1 af1 az1 ax2 af2 az2 ag1
    clear b6x0 b6x1 b6x2 b6g1 b6f0 b6f1 b6f2 b6z0 b6z1 b6z2
    have hbx := HS7.out.rz.set3 (.slice As ns cs) (.slice A6 n6 c6) T.most
    have HFN := hide (HS7.out.fin (T' := ⟨T.sf, T.ls ++ b, T.most⟩) (HS7.out.rf) (kp_set3 (w6.setCell ⟨s, 1, none⟩ (.slice A6 n6 c6)) (s + 1) (.slice As ns cs) (.slice A6 n6 c6) (.int .i64 (T.most : Int))))
    have r0 := hbx.c0
    have r1 := hbx.c1
    have r2 := hbx.c2
    clear hbx
    generalize ((((w6.setCell ⟨s, 1, none⟩ (.slice A6 n6 c6)).setCell ⟨s + 1, 0, none⟩ (.slice As ns cs)).setCell ⟨s + 1, 1, none⟩ (.slice A6 n6 c6)).setCell ⟨s + 1, 2, none⟩ (.int .i64 (T.most : Int))) = w9 at HFN r0 r1 r2 ⊢
    refine bodyPost_ret (v := tupT (0) (rtV (⟨T.sf, T.ls ++ b, T.most⟩) (.slice As ns cs) (.slice A6 n6 c6))) (by simp [results, Try.results21, go_sem, rtV, tupT, r0, r1, r2]) rfl ?_
    exact ⟨_, rfl, ⟨_, _, rfl, HFN.out.1⟩, HFN.out.2⟩

set_option maxHeartbeats 4000000 in
theorem rsync13_any (h : RtAt w F T v0) (hL : T.len ≤ 900000000) : Calls Try.prog 15 #[v0] w (RtPost w F T.sync id) := by
  obtain ⟨vs, vl, rfl, h⟩ := h
  obtain ⟨As, ns, cs, Al, nl, cl, rfl, rfl, hns, hnl, hcs, hcl⟩ := h.forms
  have hLL : T.sf.length + T.ls.length ≤ 900000000 := hL
  have HI := hide (BxU.begin h)
  have HNS := hide hns
  have HNL := hide hnl
  have hns9 : ns ≤ 900000000 := by omega
  have hnl9 : nl ≤ 900000000 := by omega
  clear h hns hnl
  unfold rtV
  go_enter Try.func15, Try.ntmps15
  go_upto_region 1 with (fail)
  generalize hw2 : (w.alloc (.cells #[.slice As ns cs, .slice Al nl cl, .int .i64 (T.most : Int)] 35)).alloc (.cells #[.slice none 0 0, .slice none 0 0, .int .i64 0] 35) = w2 at HI ⊢
  clear hw2
  generalize w.heap.size = s at HI ⊢
  have HID := hide (HI.out.no (Kp.refl No w2).drew)
  have ax0 : w2.drew.cell? ⟨s, 0, none⟩ = some (.slice As ns cs) := HI.out.bx.c0
  have ax1 : w2.drew.cell? ⟨s, 1, none⟩ = some (.slice Al nl cl) := HI.out.bx.c1
  have ax2 : w2.drew.cell? ⟨s, 2, none⟩ = some (.int .i64 (T.most : Int)) := HI.out.bx.c2
  refine wp_region_noPanic ?_
  refine wp_region_held_drew (S := fun w' => w'.cell? ⟨s, 0, none⟩ = some (.slice As ns cs) ∧ w'.cell? ⟨s, 1, none⟩ = some (.slice Al nl cl) ∧ w'.cell? ⟨s, 2, none⟩ = some (.int .i64 (T.most : Int))) (by kernel_rfl) (⟨ax0, ax1, ax2⟩) (fun hHeld => ?_)
  refine wpAnyH_take (i := 0) (v := ?vs0) (oi := ?os0) ?hs0 (by kernel_rfl) (by kernel_rfl) (by kernel_rfl) (fun _ _ _ h => h) (Or.inl ⟨?ws0, ?ys0⟩) hHeld ?rs0
  case hs0 => simp only [List.getElem?_toArray, List.getElem?_cons_zero, List.getElem?_cons_succ]; rfl
  case ws0 => rfl
  case ys0 => intro w hSw; (try dsimp only at hSw); go_simp; (try with_reducible rfl)
  simp only [Act.put, List.setIfInBounds_toArray, List.set_cons_zero, List.set_cons_succ]
  refine wpAnyH_take (i := 2) (v := ?vs2) (oi := ?os2) ?hs2 (by kernel_rfl) (by kernel_rfl) (by kernel_rfl) (fun _ _ _ h => h) (Or.inl ⟨?ws2, ?ys2⟩) hHeld ?rs2
  case hs2 => simp only [List.getElem?_toArray, List.getElem?_cons_zero, List.getElem?_cons_succ]; rfl
  case ws2 => rfl
  case ys2 => intro w hSw; (try dsimp only at hSw); go_simp; (try with_reducible rfl)
  simp only [Act.put, List.setIfInBounds_toArray, List.set_cons_zero, List.set_cons_succ]
  refine wpAnyH_take (i := 3) (v := ?vs3) (oi := ?os3) ?hs3 (by kernel_rfl) (by kernel_rfl) (by kernel_rfl) (fun _ _ _ h => h) (Or.inl ⟨?ws3, ?ys3⟩) hHeld ?rs3
  case hs3 => simp only [List.getElem?_toArray, List.getElem?_cons_zero, List.getElem?_cons_succ]; rfl
  case ws3 => rfl
  case ys3 => intro w hSw; (try dsimp only at hSw); go_simp; (try with_reducible rfl)
  simp only [Act.put, List.setIfInBounds_toArray, List.set_cons_zero, List.set_cons_succ]
  refine wpAnyH_ready (rs := [1]) (by kernel_rfl) (by simp) ?_
  refine AllReadyH.cons (o := ?os1) ?hs1 (fun K hK => ?ss1) AllReadyH.nil
  case hs1 => simp only [List.getElem?_toArray, List.getElem?_cons_zero, List.getElem?_cons_succ]; rfl
  go_simp
  refine (rall_any ⟨_, _, rfl, HID.out.rf⟩ hL).mono ?_
  rintro e w5 ⟨A5, n5, c5, rfl, ho5, k5⟩
  have HS5 := hide (HID.out.no k5)
  have HO5 := hide ho5
  have HK5 := hide k5
  clear ho5 k5
  have bx0 := HS5.out.bx.c0
  have bx1 := HS5.out.bx.c1
  have bx2 := HS5.out.bx.c2
  have bf0 := HS5.out.rz.fz 0
  have bf1 := HS5.out.rz.fz 1
  have bf2 := HS5.out.rz.fz 2
  have bz0 := HS5.out.rz.c0
  have bz1 := HS5.out.rz.c1
  have bz2 := HS5.out.rz.c2
  have bg1 := HS5.out.bx.fz 1
  go_wp2_with fail
  refine hK.out _ _ (⟨bx0, bx1, bx2⟩) (fun hHeld => ?_)
  clear hK K
  try simp only [Act.put, List.setIfInBounds_toArray, List.set_cons_zero, List.set_cons_succ]
  refine wpAnyH_take (i := 4) (v := ?vs4) (oi := ?os4) ?hs4 (by kernel_rfl) (by kernel_rfl) (by kernel_rfl) (fun _ _ _ h => h) (Or.inl ⟨?ws4, ?ys4⟩) hHeld ?rs4
  case hs4 => simp only [List.getElem?_toArray, List.getElem?_cons_zero, List.getElem?_cons_succ]; rfl
  case ws4 => rfl
  case ys4 => intro w hSw; (try dsimp only at hSw); go_simp; (try with_reducible rfl)
  simp only [Act.put, List.setIfInBounds_toArray, List.set_cons_zero, List.set_cons_succ]
  refine wpAnyH_ready (rs := [5]) (by kernel_rfl) (by simp) ?_
  refine AllReadyH.cons (o := ?os5) ?hs5 (fun K hK => ?ss5) AllReadyH.nil
  case hs5 => simp only [List.getElem?_toArray, List.getElem?_cons_zero, List.getElem?_cons_succ]; rfl
  go_simp
  refine hK.out _ _ (⟨(kp_set3 w5 (s + 1) _ _ _).cell hHeld.1 (by show ¬ s = s + 1; omega), (kp_set3 w5 (s + 1) _ _ _).cell hHeld.2.1 (by show ¬ s = s + 1; omega), (kp_set3 w5 (s + 1) _ _ _).cell hHeld.2.2 (by show ¬ s = s + 1; omega)⟩) (fun hHeld => ?_)
  clear hK K
  try simp only [Act.put, List.setIfInBounds_toArray, List.set_cons_zero, List.set_cons_succ]
  refine wpAnyH_done (by kernel_rfl) ?_ _
  refine NoPanic.normal ?_
  go_wp2_with fail
  clear bx0 bf0 bz0 bx1 bf1 bz1 bx2 bf2 bz2 bg1
  have hbx := HS5.out.rz.set3 (.slice A5 n5 c5) (.slice none 0 0) T.most
  have HFN := hide (HS5.out.fin (T' := ⟨T.sf ++ T.ls, [], T.most⟩) (⟨HID.out.fresh (Nat.le_refl _) HO5.out, BtF.none _ _, HS5.out.rf.bd⟩) (kp_set3 w5 (s + 1) (.slice A5 n5 c5) (.slice none 0 0) (.int .i64 (T.most : Int))))
  have r0 := hbx.c0
  have r1 := hbx.c1
  have r2 := hbx.c2
  clear hbx
  generalize (((w5.setCell ⟨s + 1, 0, none⟩ (.slice A5 n5 c5)).setCell ⟨s + 1, 1, none⟩ (.slice none 0 0)).setCell ⟨s + 1, 2, none⟩ (.int .i64 (T.most : Int))) = w9 at HFN r0 r1 r2 ⊢
  refine bodyPost_ret (v := id (rtV (⟨T.sf ++ T.ls, [], T.most⟩) (.slice A5 n5 c5) (.slice none 0 0))) (by simp [results, Try.results15, go_sem, rtV, tupT, r0, r1, r2]) rfl ?_
  exact ⟨_, rfl, ⟨_, _, rfl, HFN.out.1⟩, HFN.out.2⟩

set_option maxHeartbeats 4000000 in
theorem rcut13_any (h : RtAt w F T v0) (hL : T.len ≤ 900000000) (z : Int) : Calls Try.prog 20 #[v0, .int .i64 z] w (RtPost w F (T.cut z) (tupT (T.cutE z))) := by
  obtain ⟨vs, vl, rfl, h⟩ := h
  obtain ⟨As, ns, cs, Al, nl, cl, rfl, rfl, hns, hnl, hcs, hcl⟩ := h.forms
  have hLL : T.sf.length + T.ls.length ≤ 900000000 := hL
  have HI := hide (BxU.begin h)
  have HNS := hide hns
  have HNL := hide hnl
  have hns9 : ns ≤ 900000000 := by omega
  have hnl9 : nl ≤ 900000000 := by omega
  clear h hns hnl
  by_cases h0 : z < 0
  · have hE : T.cutE z = 1 := by unfold Tp.cutE; rw [if_pos (.inl h0)]
    have hP : T.cut z = T := by unfold Tp.cut; rw [if_neg (by omega)]
    rw [hE, hP]
    clear hE hP
    unfold rtV
    go_enter Try.func20, Try.ntmps20
    go_upto_region 1 with (fail)
    generalize hw2 : (w.alloc (.cells #[.slice As ns cs, .slice Al nl cl, .int .i64 (T.most : Int)] 35)).alloc (.cells #[.slice none 0 0, .slice none 0 0, .int .i64 0] 35) = w2 at HI ⊢
    clear hw2
    generalize w.heap.size = s at HI ⊢
    have ax0 := HI.out.bx.c0
    have ax1 := HI.out.bx.c1
    have ax2 := HI.out.bx.c2
    have af0 := HI.out.rz.fz 0
    have af1 := HI.out.rz.fz 1
    have af2 := HI.out.rz.fz 2
    have az0 := HI.out.rz.c0
    have az1 := HI.out.rz.c1
    have az2 := HI.out.rz.c2
    have ag1 := HI.out.bx.fz 1
    go_wp2_with fail
    clear ax0 af0 az0 ax1 af1 az1 ax2 af2 az2 ag1
    have hbx := HI.out.rz.set3 (.slice As ns cs) (.slice Al nl cl) T.most
    have HFN := hide (HI.out.fin (T' := T) (HI.out.rf) (kp_set3 w2 (s + 1) (.slice As ns cs) (.slice Al nl cl) (.int .i64 (T.most : Int))))
    have r0 := hbx.c0
    have r1 := hbx.c1
    have r2 := hbx.c2
    clear hbx
    generalize (((w2.setCell ⟨s + 1, 0, none⟩ (.slice As ns cs)).setCell ⟨s + 1, 1, none⟩ (.slice Al nl cl)).setCell ⟨s + 1, 2, none⟩ (.int .i64 (T.most : Int))) = w9 at HFN r0 r1 r2 ⊢
    refine bodyPost_ret (v := tupT (1) (rtV (T) (.slice As ns cs) (.slice Al nl cl))) (by simp [results, Try.results20, go_sem, rtV, tupT, r0, r1, r2]) rfl ?_
    exact ⟨_, rfl, ⟨_, _, rfl, HFN.out.1⟩, HFN.out.2⟩
  by_cases h1 : (ns : Int) + (nl : Int) < z
  · have hE : T.cutE z = 1 := by unfold Tp.cutE Tp.len; rw [if_pos (.inr (by have := HNS.out; have := HNL.out; omega))]
    have hP : T.cut z = T := by unfold Tp.cut; rw [if_neg (by omega)]
    rw [hE, hP]
    clear hE hP
    unfold rtV
    go_enter Try.func20, Try.ntmps20
    go_upto_region 1 with (fail)
    generalize hw2 : (w.alloc (.cells #[.slice As ns cs, .slice Al nl cl, .int .i64 (T.most : Int)] 35)).alloc (.cells #[.slice none 0 0, .slice none 0 0, .int .i64 0] 35) = w2 at HI ⊢
    clear hw2
    generalize w.heap.size = s at HI ⊢
    have ax0 := HI.out.bx.c0
    have ax1 := HI.out.bx.c1
    have ax2 := HI.out.bx.c2
    have af0 := HI.out.rz.fz 0
    have af1 := HI.out.rz.fz 1
    have af2 := HI.out.rz.fz 2
    have az0 := HI.out.rz.c0
    have az1 := HI.out.rz.c1
    have az2 := HI.out.rz.c2
    have ag1 := HI.out.bx.fz 1
    go_wp2_with fail
    clear ax0 af0 az0 ax1 af1 az1 ax2 af2 az2 ag1
    have hbx := HI.out.rz.set3 (.slice As ns cs) (.slice Al nl cl) T.most
    have HFN := hide (HI.out.fin (T' := T) (HI.out.rf) (kp_set3 w2 (s + 1) (.slice As ns cs) (.slice Al nl cl) (.int .i64 (T.most : Int))))
    have r0 := hbx.c0
    have r1 := hbx.c1
    have r2 := hbx.c2
    clear hbx
    generalize (((w2.setCell ⟨s + 1, 0, none⟩ (.slice As ns cs)).setCell ⟨s + 1, 1, none⟩ (.slice Al nl cl)).setCell ⟨s + 1, 2, none⟩ (.int .i64 (T.most : Int))) = w9 at HFN r0 r1 r2 ⊢
    refine bodyPost_ret (v := tupT (1) (rtV (T) (.slice As ns cs) (.slice Al nl cl))) (by simp [results, Try.results20, go_sem, rtV, tupT, r0, r1, r2]) rfl ?_
    exact ⟨_, rfl, ⟨_, _, rfl, HFN.out.1⟩, HFN.out.2⟩
  obtain ⟨k, rfl⟩ : ∃ k : Nat, z = k := ⟨z.toNat, by omega⟩
  have hkn : k ≤ ns + nl := by omega
  have hE : T.cutE (k : Int) = 0 := by unfold Tp.cutE Tp.len; rw [if_neg (by have := HNS.out; have := HNL.out; omega)]
  have hP : T.cut (k : Int) = ⟨(T.sf ++ T.ls).take k, [], T.most⟩ := by unfold Tp.cut; rw [if_pos hE, Int.toNat_natCast]
  rw [hE, hP]
  clear hE hP
  unfold rtV
  go_enter Try.func20, Try.ntmps20
  go_upto_region 1 with (fail)
  generalize hw2 : (w.alloc (.cells #[.slice As ns cs, .slice Al nl cl, .int .i64 (T.most : Int)] 35)).alloc (.cells #[.slice none 0 0, .slice none 0 0, .int .i64 0] 35) = w2 at HI ⊢
  clear hw2
  generalize w.heap.size = s at HI ⊢
  have yx0 := HI.out.bx.c0
  have yx1 := HI.out.bx.c1
  have yx2 := HI.out.bx.c2
  go_upto_region 3 with (fail)
  clear yx0 yx1 yx2
  have HID := hide (HI.out.no (Kp.refl No w2).drew)
  have ax0 : w2.drew.cell? ⟨s, 0, none⟩ = some (.slice As ns cs) := HI.out.bx.c0
  have ax1 : w2.drew.cell? ⟨s, 1, none⟩ = some (.slice Al nl cl) := HI.out.bx.c1
  have ax2 : w2.drew.cell? ⟨s, 2, none⟩ = some (.int .i64 (T.most : Int)) := HI.out.bx.c2
  refine wp_region_noPanic ?_
  refine wp_region_held_drew (S := fun w' => w'.cell? ⟨s, 0, none⟩ = some (.slice As ns cs) ∧ w'.cell? ⟨s, 1, none⟩ = some (.slice Al nl cl) ∧ w'.cell? ⟨s, 2, none⟩ = some (.int .i64 (T.most : Int))) (by kernel_rfl) (⟨ax0, ax1, ax2⟩) (fun hHeld => ?_)
  refine wpAnyH_take (i := 0) (v := ?vc0) (oi := ?oc0) ?hc0 (by kernel_rfl) (by kernel_rfl) (by kernel_rfl) (fun _ _ _ h => h) (Or.inl ⟨?wc0, ?yc0⟩) hHeld ?rc0
  case hc0 => simp only [List.getElem?_toArray, List.getElem?_cons_zero, List.getElem?_cons_succ]; rfl
  case wc0 => rfl
  case yc0 => intro w hSw; (try dsimp only at hSw); go_simp; (try with_reducible rfl)
  simp only [Act.put, List.setIfInBounds_toArray, List.set_cons_zero, List.set_cons_succ]
  refine wpAnyH_take (i := 2) (v := ?vc2) (oi := ?oc2) ?hc2 (by kernel_rfl) (by kernel_rfl) (by kernel_rfl) (fun _ _ _ h => h) (Or.inl ⟨?wc2, ?yc2⟩) hHeld ?rc2
  case hc2 => simp only [List.getElem?_toArray, List.getElem?_cons_zero, List.getElem?_cons_succ]; rfl
  case wc2 => rfl
  case yc2 => intro w hSw; (try dsimp only at hSw); go_simp; (try with_reducible rfl)
  simp only [Act.put, List.setIfInBounds_toArray, List.set_cons_zero, List.set_cons_succ]
  refine wpAnyH_take (i := 4) (v := ?vc4) (oi := ?oc4) ?hc4 (by kernel_rfl) (by kernel_rfl) (by kernel_rfl) (fun _ _ _ h => h) (Or.inl ⟨?wc4, ?yc4⟩) hHeld ?rc4
  case hc4 => simp only [List.getElem?_toArray, List.getElem?_cons_zero, List.getElem?_cons_succ]; rfl
  case wc4 => rfl
  case yc4 => intro w hSw; (try dsimp only at hSw); go_simp; (try with_reducible rfl)
  simp only [Act.put, List.setIfInBounds_toArray, List.set_cons_zero, List.set_cons_succ]
  refine wpAnyH_take (i := 5) (v := ?vc5) (oi := ?oc5) ?hc5 (by kernel_rfl) (by kernel_rfl) (by kernel_rfl) (fun _ _ _ h => h) (Or.inl ⟨?wc5, ?yc5⟩) hHeld ?rc5
  case hc5 => simp only [List.getElem?_toArray, List.getElem?_cons_zero, List.getElem?_cons_succ]; rfl
  case wc5 => rfl
  case yc5 => intro w hSw; (try dsimp only at hSw); go_simp; (try with_reducible rfl)
  simp only [Act.put, List.setIfInBounds_toArray, List.set_cons_zero, List.set_cons_succ]
  refine wpAnyH_ready (rs := [1]) (by kernel_rfl) (by simp) ?_
  refine AllReadyH.cons (o := ?oc1) ?hc1 (fun K hK => ?sc1) AllReadyH.nil
  case hc1 => simp only [List.getElem?_toArray, List.getElem?_cons_zero, List.getElem?_cons_succ]; rfl
  go_simp
  refine (rall_any ⟨_, _, rfl, HID.out.rf⟩ hL).mono ?_
  rintro e w5 ⟨A5, n5, c5, rfl, ho5, k5⟩
  have HS5 := hide (HID.out.no k5)
  have HO5 := hide ho5
  have HK5 := hide k5
  clear ho5 k5
  have bx0 := HS5.out.bx.c0
  have bx1 := HS5.out.bx.c1
  have bx2 := HS5.out.bx.c2
  have bf0 := HS5.out.rz.fz 0
  have bf1 := HS5.out.rz.fz 1
  have bf2 := HS5.out.rz.fz 2
  have bz0 := HS5.out.rz.c0
  have bz1 := HS5.out.rz.c1
  have bz2 := HS5.out.rz.c2
  have bg1 := HS5.out.bx.fz 1
  have hnc5 := HO5.out.cap
  have hn5 : n5 = ns + nl := by have h1 := HO5.out.len; have h2 := HNS.out; have h3 := HNL.out; rw [List.length_append] at h1; omega
  have hkc5 : k ≤ c5 := by omega
  have hsl5 := (slice_u HO5.out.bts hnc5 k (k : Int) rfl (by omega)).1
  have HC5 := hide (HO5.out.upto (k := k) (by omega))
  go_wp2_with fail
  refine hK.out _ _ (⟨bx0, bx1, bx2⟩) (fun hHeld => ?_)
  clear hK K
  try simp only [Act.put, List.setIfInBounds_toArray, List.set_cons_zero, List.set_cons_succ]
  refine wpAnyH_take (i := 3) (v := ?vc3) (oi := ?oc3) ?hc3 (by kernel_rfl) (by kernel_rfl) (by kernel_rfl) (fun _ _ _ h => h) (Or.inl ⟨?wc3, ?yc3⟩) hHeld ?rc3
  case hc3 => simp only [List.getElem?_toArray, List.getElem?_cons_zero, List.getElem?_cons_succ]; rfl
  case wc3 => rfl
  case yc3 => intro w hSw; (try dsimp only at hSw); go_simp; (try with_reducible rfl)
  simp only [Act.put, List.setIfInBounds_toArray, List.set_cons_zero, List.set_cons_succ]
  refine wpAnyH_take (i := 6) (v := ?vc6) (oi := ?oc6) ?hc6 (by kernel_rfl) (by kernel_rfl) (by kernel_rfl) (fun _ _ _ h => h) (Or.inl ⟨?wc6, ?yc6⟩) hHeld ?rc6
  case hc6 => simp only [List.getElem?_toArray, List.getElem?_cons_zero, List.getElem?_cons_succ]; rfl
  case wc6 => rfl
  case yc6 => intro w hSw; (try dsimp only at hSw); go_simp; (try with_reducible rfl)
  simp only [Act.put, List.setIfInBounds_toArray, List.set_cons_zero, List.set_cons_succ]
  refine wpAnyH_ready (rs := [7]) (by kernel_rfl) (by simp) ?_
  refine AllReadyH.cons (o := ?oc7) ?hc7 (fun K hK => ?sc7) AllReadyH.nil
  case hc7 => simp only [List.getElem?_toArray, List.getElem?_cons_zero, List.getElem?_cons_succ]; rfl
  go_simp
  refine hK.out _ _ (⟨(kp_set3 w5 (s + 1) _ _ _).cell hHeld.1 (by show ¬ s = s + 1; omega), (kp_set3 w5 (s + 1) _ _ _).cell hHeld.2.1 (by show ¬ s = s + 1; omega), (kp_set3 w5 (s + 1) _ _ _).cell hHeld.2.2 (by show ¬ s = s + 1; omega)⟩) (fun hHeld => ?_)
  clear hK K
  try simp only [Act.put, List.setIfInBounds_toArray, List.set_cons_zero, List.set_cons_succ]
  refine wpAnyH_take (i := 8) (v := ?vc8) (oi := ?oc8) ?hc8 (by kernel_rfl) (by kernel_rfl) (by kernel_rfl) (fun _ _ _ h => h) (Or.inl ⟨?wc8, ?yc8⟩) hHeld ?rc8
  case hc8 => simp only [List.getElem?_toArray, List.getElem?_cons_zero, List.getElem?_cons_succ]; rfl
  case wc8 => rfl
  case yc8 => intro w hSw; (try dsimp only at hSw); go_simp; (try with_reducible rfl)
  simp only [Act.put, List.setIfInBounds_toArray, List.set_cons_zero, List.set_cons_succ]
  refine wpAnyH_done (by kernel_rfl) ?_ _
  refine NoPanic.normal ?_
  go_wp2_with fail
  clear bx0 bf0 bz0 bx1 bf1 bz1 bx2 bf2 bz2 bg1
  have hbx := HS5.out.rz.set3 (.slice A5 k c5) (.slice none 0 0) T.most
  have HFN := hide (HS5.out.fin (T' := ⟨(T.sf ++ T.ls).take k, [], T.most⟩) (⟨HID.out.fresh (Nat.le_refl _) HC5.out, BtF.none _ _, HS5.out.rf.bd⟩) (kp_set3 w5 (s + 1) (.slice A5 k c5) (.slice none 0 0) (.int .i64 (T.most : Int))))
  have r0 := hbx.c0
  have r1 := hbx.c1
  have r2 := hbx.c2
  clear hbx
  generalize (((w5.setCell ⟨s + 1, 0, none⟩ (.slice A5 k c5)).setCell ⟨s + 1, 1, none⟩ (.slice none 0 0)).setCell ⟨s + 1, 2, none⟩ (.int .i64 (T.most : Int))) = w9 at HFN r0 r1 r2 ⊢
  refine bodyPost_ret (v := tupT (0) (rtV (⟨(T.sf ++ T.ls).take k, [], T.most⟩) (.slice A5 k c5) (.slice none 0 0))) (by simp [results, Try.results20, go_sem, rtV, tupT, r0, r1, r2]) rfl ?_
  exact ⟨_, rfl, ⟨_, _, rfl, HFN.out.1⟩, HFN.out.2⟩

set_option maxHeartbeats 4000000 in
theorem rcrash13_any (h : RtAt w F T v0) (hL : T.len ≤ 900000000) (z : Int) (x : UInt8) : Calls Try.prog 18 #[v0, .int .i64 z, .int .u8 (x.toNat : Int)] w (RtPost w F (T.crash z x) (tupT (T.gone z))) := by
  obtain ⟨i0, hi0, hz0, hz1, hz2⟩ := byte_parts
  obtain ⟨vs, vl, rfl, h⟩ := h
  obtain ⟨As, ns, cs, Al, nl, cl, rfl, rfl, hns, hnl, hcs, hcl⟩ := h.forms
  have hLL : T.sf.length + T.ls.length ≤ 900000000 := hL
  have HI := hide (BxU.begin h)
  have HNS := hide hns
  have HNL := hide hnl
  have hns9 : ns ≤ 900000000 := by omega
  have hnl9 : nl ≤ 900000000 := by omega
  clear h hns hnl
  obtain ⟨kk, hK⟩ : ∃ kk, kk = T.stay z := ⟨_, rfl⟩
  have hKn : kk ≤ nl := by have := T.stay_le z; have := HNL.out; omega
  have hKc : kk ≤ cl := by omega
  have hgo : (nl : Int) - (kk : Int) = (T.gone z : Int) := by unfold Tp.gone; have := HNL.out; omega
  have HKK := hide hK
  clear hK
  unfold rtV
  go_enter Try.func18, Try.ntmps18
  go_upto_region 1 with (fail)
  generalize hw2 : (w.alloc (.cells #[.slice As ns cs, .slice Al nl cl, .int .i64 (T.most : Int)] 35)).alloc (.cells #[.slice none 0 0, .slice none 0 0, .int .i64 0] 35) = w2 at HI ⊢
  clear hw2
  generalize w.heap.size = s at HI ⊢
  have yx0 := HI.out.bx.c0
  have yx1 := HI.out.bx.c1
  have yx2 := HI.out.bx.c2
  go_cut [8] (fun v wx => v = .int .i64 (kk : Int) ∧ wx = w2)
  case first =>
    by_cases h0 : z < 0
    · have e : kk = 0 := by rw [HKK.out]; unfold Tp.stay; omega
      have E := hide e
      clear e
      go_wp2_with fail
      go_meet
      exact ⟨by rw [E.out]; rfl, rfl⟩
    by_cases h1 : z = 0
    · have e : kk = 0 := by rw [HKK.out]; unfold Tp.stay; omega
      have E := hide e
      clear e
      subst h1
      go_wp2_with fail
      go_meet
      exact ⟨by rw [E.out]; rfl, rfl⟩
    by_cases hL0 : nl = 0
    · have e : kk = 0 := by omega
      have E := hide e
      obtain rfl : 0 = nl := hL0.symm
      clear e
      go_wp2_with fail
      go_meet
      exact ⟨by rw [E.out]; rfl, rfl⟩
    by_cases hz : z ≤ nl
    · have e : (kk : Int) = z := by rw [HKK.out]; unfold Tp.stay; have := HNL.out; omega
      have E := hide e
      clear e
      go_wp2_with fail
      go_meet
      exact ⟨by rw [E.out], rfl⟩
    · have e : kk = nl := by rw [HKK.out]; unfold Tp.stay; have := HNL.out; omega
      have hz2 : (nl : Int) ≤ z := by omega
      have hz3 : ¬ z < (nl : Int) := by omega
      have E := hide e
      clear e
      go_wp2_with fail
      go_meet
      exact ⟨by rw [E.out], rfl⟩
  case rest =>
  obtain ⟨rfl, rfl⟩ := hcut
  go_upto_region 2 with (fail)
  clear yx0 yx1 yx2
  have HID := hide (HI.out.no (Kp.refl No wc).drew)
  have ax0 : wc.drew.cell? ⟨s, 0, none⟩ = some (.slice As ns cs) := HI.out.bx.c0
  have ax1 : wc.drew.cell? ⟨s, 1, none⟩ = some (.slice Al nl cl) := HI.out.bx.c1
  have ax2 : wc.drew.cell? ⟨s, 2, none⟩ = some (.int .i64 (T.most : Int)) := HI.out.bx.c2
  have HTK := hide (show ∀ w', Kp No wc.drew w' → Bts w' (.slice Al kk cl) (T.ls.take kk) from fun w' hk => bts_upto (HID.out.rf.l.bts.no hk) hKn)
  have hsK := fun w' => (slice_u (HI.out.rf.l.bts) hcl kk (kk : Int) rfl hKn).1 w'
  refine wp_region_noPanic ?_
  refine wp_region_held_drew (S := fun w' => w'.cell? ⟨s, 0, none⟩ = some (.slice As ns cs) ∧ w'.cell? ⟨s, 1, none⟩ = some (.slice Al nl cl) ∧ w'.cell? ⟨s, 2, none⟩ = some (.int .i64 (T.most : Int))) (by kernel_rfl) (⟨ax0, ax1, ax2⟩) (fun hHeld => ?_)
  refine wpAnyH_take (i := 1) (v := ?vr1) (oi := ?or1) ?hr1 (by kernel_rfl) (by kernel_rfl) (by kernel_rfl) (fun _ _ _ h => h) (Or.inl ⟨?wr1, ?yr1⟩) hHeld ?rr1
  case hr1 => simp only [List.getElem?_toArray, List.getElem?_cons_zero, List.getElem?_cons_succ]; rfl
  case wr1 => rfl
  case yr1 => intro w hSw; (try dsimp only at hSw); go_simp; (try with_reducible rfl)
  simp only [Act.put, List.setIfInBounds_toArray, List.set_cons_zero, List.set_cons_succ]
  refine wpAnyH_take (i := 2) (v := ?vr2) (oi := ?or2) ?hr2 (by kernel_rfl) (by kernel_rfl) (by kernel_rfl) (fun _ _ _ h => h) (Or.inl ⟨?wr2, ?yr2⟩) hHeld ?rr2
  case hr2 => simp only [List.getElem?_toArray, List.getElem?_cons_zero, List.getElem?_cons_succ]; rfl
  case wr2 => rfl
  case yr2 => intro w hSw; (try dsimp only at hSw); go_simp; (try with_reducible rfl)
  simp only [Act.put, List.setIfInBounds_toArray, List.set_cons_zero, List.set_cons_succ]
  refine wpAnyH_take (i := 4) (v := ?vr4) (oi := ?or4) ?hr4 (by kernel_rfl) (by kernel_rfl) (by kernel_rfl) (fun _ _ _ h => h) (Or.inl ⟨?wr4, ?yr4⟩) hHeld ?rr4
  case hr4 => simp only [List.getElem?_toArray, List.getElem?_cons_zero, List.getElem?_cons_succ]; rfl
  case wr4 => rfl
  case yr4 => intro w hSw; (try dsimp only at hSw); go_simp; (try with_reducible rfl)
  simp only [Act.put, List.setIfInBounds_toArray, List.set_cons_zero, List.set_cons_succ]
  refine wpAnyH_take (i := 5) (v := ?vr5) (oi := ?or5) ?hr5 (by kernel_rfl) (by kernel_rfl) (by kernel_rfl) (fun _ _ _ h => h) (Or.inl ⟨?wr5, ?yr5⟩) hHeld ?rr5
  case hr5 => simp only [List.getElem?_toArray, List.getElem?_cons_zero, List.getElem?_cons_succ]; rfl
  case wr5 => rfl
  case yr5 => intro w hSw; (try dsimp only at hSw); go_simp; (try with_reducible rfl)
  simp only [Act.put, List.setIfInBounds_toArray, List.set_cons_zero, List.set_cons_succ]
  refine wpAnyH_take (i := 6) (v := ?vr6) (oi := ?or6) ?hr6 (by kernel_rfl) (by kernel_rfl) (by kernel_rfl) (fun _ _ _ h => h) (Or.inl ⟨?wr6, ?yr6⟩) hHeld ?rr6
  case hr6 => simp only [List.getElem?_toArray, List.getElem?_cons_zero, List.getElem?_cons_succ]; rfl
  case wr6 => rfl
  case yr6 => intro w hSw; (try dsimp only at hSw); go_simp; (try with_reducible rfl)
  simp only [Act.put, List.setIfInBounds_toArray, List.set_cons_zero, List.set_cons_succ]
  refine wpAnyH_take (i := 7) (v := ?vr7) (oi := ?or7) ?hr7 (by kernel_rfl) (by kernel_rfl) (by kernel_rfl) (fun _ _ _ h => h) (Or.inl ⟨?wr7, ?yr7⟩) hHeld ?rr7
  case hr7 => simp only [List.getElem?_toArray, List.getElem?_cons_zero, List.getElem?_cons_succ]; rfl
  case wr7 => rfl
  case yr7 => intro w hSw; (try dsimp only at hSw); go_simp; (try with_reducible rfl)
  simp only [Act.put, List.setIfInBounds_toArray, List.set_cons_zero, List.set_cons_succ]
  refine wpAnyH_ready (rs := [0]) (by kernel_rfl) (by simp) ?_
  refine AllReadyH.cons (o := ?or0) ?hr0 (fun K hK => ?sr0) AllReadyH.nil
  case hr0 => simp only [List.getElem?_toArray, List.getElem?_cons_zero, List.getElem?_cons_succ]; rfl
  go_simp
  refine hK.out _ _ (⟨(Kp.alloc No _ _).cell hHeld.1 (fun f => f), (Kp.alloc No _ _).cell hHeld.2.1 (fun f => f), (Kp.alloc No _ _).cell hHeld.2.2 (fun f => f)⟩) (fun hHeld => ?_)
  clear hK K
  try simp only [Act.put, List.setIfInBounds_toArray, List.set_cons_zero, List.set_cons_succ]
  refine wpAnyH_ready (rs := [3]) (by kernel_rfl) (by simp) ?_
  refine AllReadyH.cons (o := ?or3) ?hr3 (fun K hK => ?sr3) AllReadyH.nil
  case hr3 => simp only [List.getElem?_toArray, List.getElem?_cons_zero, List.getElem?_cons_succ]; rfl
  have o3 := own_empty wc.drew
  refine step_app rfl (.tmp 16) (.tmp 18) _ rfl i0 Try.underlying22 hi0 hz0 hz1 hz2 rfl o3 rfl (HID.out.rf.s.bts.no (Kp.alloc No _ _)) ?l3 ?b3 ?_
  case l3 => simp; omega
  case b3 => simp
  intro A5 n5 c5 w5 ha5
  have k5 : Kp No wc.drew w5 := ha5.keeps o3 (Kp.alloc No _ _)
  have bx0 := k5.cell ax0 (fun f => f)
  have bx1 := k5.cell ax1 (fun f => f)
  have bx2 := k5.cell ax2 (fun f => f)
  refine hK.out _ _ (⟨bx0, bx1, bx2⟩) (fun hHeld => ?_)
  clear hK K
  try simp only [Act.put, List.setIfInBounds_toArray, List.set_cons_zero, List.set_cons_succ]
  refine wpAnyH_ready (rs := [8]) (by kernel_rfl) (by simp) ?_
  refine AllReadyH.cons (o := ?or8) ?hr8 (fun K hK => ?sr8) AllReadyH.nil
  case hr8 => simp only [List.getElem?_toArray, List.getElem?_cons_zero, List.getElem?_cons_succ]; rfl
  refine step_app rfl (.tmp 19) (.tmp 23) _ rfl i0 Try.underlying22 hi0 hz0 hz1 hz2 rfl ha5.own rfl (HTK.out _ k5) ?l6 ?b6 ?_
  case l6 => simp [List.length_take]; omega
  case b6 => exact k5.size
  intro A6 n6 c6 w6 ha6
  have k6 : Kp No wc.drew w6 := ha6.keeps ha5.own k5
  have ux0 := k6.cell ax0 (fun f => f)
  have ux1 := k6.cell ax1 (fun f => f)
  have ux2 := k6.cell ax2 (fun f => f)
  have HO6 : Hid (Own w6 wc.drew.heap.size 5 (.slice A6 n6 c6) (T.sf ++ T.ls.take kk)) := by show Own _ _ _ _ _; simpa using ha6.own
  have HK6 := hide k6
  clear ha6
  refine hK.out _ _ (⟨ux0, ux1, ux2⟩) (fun hHeld => ?_)
  clear hK K
  try simp only [Act.put, List.setIfInBounds_toArray, List.set_cons_zero, List.set_cons_succ]
  refine wpAnyH_take (i := 9) (v := ?vr9) (oi := ?or9) ?hr9 (by kernel_rfl) (by kernel_rfl) (by kernel_rfl) (fun _ _ _ h => h) (Or.inl ⟨?wr9, ?yr9⟩) hHeld ?rr9
  case hr9 => simp only [List.getElem?_toArray, List.getElem?_cons_zero, List.getElem?_cons_succ]; rfl
  case wr9 => rfl
  case yr9 => intro w hSw; (try dsimp only at hSw); go_simp; (try with_reducible rfl)
  simp only [Act.put, List.setIfInBounds_toArray, List.set_cons_zero, List.set_cons_succ]
  refine wpAnyH_done (by kernel_rfl) ?_ _
  refine NoPanic.normal ?_
  have HS6 := hide (HID.out.no k6)
  have hn6 : n6 = ns + kk := by have h1 := HO6.out.len; have h2 := HNS.out; have h3 := HNL.out; rw [List.length_append, List.length_take] at h1; omega
  clear ax0 ax1 ax2 bx0 bx1 bx2 ux0 ux1 ux2 k5 k6 ha5
  by_cases hK0 : 0 < kk
  · obtain ⟨q, hq⟩ : ∃ q, q = n6 - 1 := ⟨_, rfl⟩
    have hq1 : (n6 : Int) - 1 = (q : Int) := by omega
    have hqn : q < n6 := by omega
    have hn69 : n6 ≤ 900000000 := by have := HNS.out; have := HNL.out; omega
    have HN6 := hide hn6
    have HQ := hide hq
    clear hn6 hq
    obtain ⟨gb, cb, e, hgb, _⟩ := HO6.out.some_ (by have := HO6.out.len; omega)
    injection e with e1 e2 e3
    subst e1 e3
    clear e2
    have hql : q < (T.sf ++ T.ls.take kk).length := by have := HO6.out.len; omega
    obtain ⟨y, hy⟩ : ∃ y, (T.sf ++ T.ls.take kk)[q]? = some y := ⟨_, List.getElem?_eq_getElem hql⟩
    have y0 := HO6.out.cellAt hy
    have yf := HO6.out.frozenAt q
    have hy1 := y.toNat_lt
    have hx1 := x.toNat_lt
    have HO7 := hide (HO6.out.set hqn (y ^^^ x) _ (xor_byt y x))
    have HS7 := hide (HID.out.no (HK6.out.fresh (p := ⟨gb, q, none⟩) hgb (.int .u8 (bits .xor .u8 (y.toNat : Int) (x.toNat : Int)))).drew)
    have HLF : Hid ((T.sf ++ T.ls.take kk).set q (y ^^^ x) = T.left z x) := by
      show _ = _
      have h1 := HO6.out.len
      unfold Tp.left turnl
      rw [← HKK.out, if_neg (by omega), ← h1, ← HQ.out, List.getD_eq_getElem?_getD, hy]
      rfl
    have HS8 := hide (HID.out.no (HK6.out.fresh (p := ⟨gb, q, none⟩) hgb (.int .u8 (bits .xor .u8 (y.toNat : Int) (x.toNat : Int)))))
    rw [HLF.out] at HO7
    clear hy hql hgb
    go_upto_region 5 with (fail)
    clear y0 yf
    generalize w6.setCell ⟨gb, q, none⟩ (.int .u8 (bits .xor .u8 (y.toNat : Int) (x.toNat : Int))) = w7 at HO7 HS7 HS8 ⊢
    have dx0 := HS7.out.bx.c0
    have dx1 := HS7.out.bx.c1
    have dx2 := HS7.out.bx.c2
    have df0 := HS7.out.rz.fz 0
    have df1 := HS7.out.rz.fz 1
    have df2 := HS7.out.rz.fz 2
    have dz0 := HS7.out.rz.c0
    have dz1 := HS7.out.rz.c1
    have dz2 := HS7.out.rz.c2
    have dg1 := HS7.out.bx.fz 1
    have ex0 := HS8.out.bx.c0
    have ex1 := HS8.out.bx.c1
    have ex2 := HS8.out.bx.c2
    have ef0 := HS8.out.rz.fz 0
    have ef1 := HS8.out.rz.fz 1
    have ef2 := HS8.out.rz.fz 2
    have ez0 := HS8.out.rz.c0
    have ez1 := HS8.out.rz.c1
    have ez2 := HS8.out.rz.c2
    have eg1 := HS8.out.bx.fz 1
    go_wp2_with fail
    go_region
    go_wp2_with fail
    clear dx0 df0 dz0 dx1 df1 dz1 dx2 df2 dz2 dg1
    clear ex0 ef0 ez0 ex1 ef1 ez1 ex2 ef2 ez2 eg1
    have hbx := HS8.out.rz.set3 (.slice (some ⟨gb, 0, none⟩) n6 c6) (.slice none 0 0) T.most
    have HFN := hide (HS8.out.fin (T' := ⟨T.left z x, [], T.most⟩) (⟨HI.out.fresh (Nat.le_refl _) HO7.out, BtF.none _ _, HS8.out.rf.bd⟩) (kp_set3 w7 (s + 1) (.slice (some ⟨gb, 0, none⟩) n6 c6) (.slice none 0 0) (.int .i64 (T.most : Int))))
    have r0 := hbx.c0
    have r1 := hbx.c1
    have r2 := hbx.c2
    clear hbx
    generalize (((w7.setCell ⟨s + 1, 0, none⟩ (.slice (some ⟨gb, 0, none⟩) n6 c6)).setCell ⟨s + 1, 1, none⟩ (.slice none 0 0)).setCell ⟨s + 1, 2, none⟩ (.int .i64 (T.most : Int))) = w9 at HFN r0 r1 r2 ⊢
    refine bodyPost_ret (v := tupT ((T.gone z)) (rtV (⟨T.left z x, [], T.most⟩) (.slice (some ⟨gb, 0, none⟩) n6 c6) (.slice none 0 0))) (by simp [results, Try.results18, go_sem, rtV, tupT, r0, r1, r2]) rfl ?_
    exact ⟨_, rfl, ⟨_, _, rfl, HFN.out.1.no (Kp.refl No w9).drew⟩, HFN.out.2.drew⟩
  · obtain rfl : 0 = kk := by omega
    have hg : T.gone z = nl := by omega
    have HG := hide hg
    clear hg hgo
    have HO7 : Hid (Own w6 wc.drew.heap.size 5 (.slice A6 n6 c6) (T.left z x)) := by
      show Own _ _ _ _ _
      rw [T.left_zero z x HKK.out.symm]
      have := HO6.out
      rw [List.take_zero, List.append_nil] at this
      exact this
    have HS7 := hide (HS6.out.no (Kp.refl No w6).drew)
    have HS8 := HS6
    have HN6 := hide hn6
    clear hn6
    have dx0 := HS7.out.bx.c0
    have dx1 := HS7.out.bx.c1
    have dx2 := HS7.out.bx.c2
    have df0 := HS7.out.rz.fz 0
    have df1 := HS7.out.rz.fz 1
    have df2 := HS7.out.rz.fz 2
    have dz0 := HS7.out.rz.c0
    have dz1 := HS7.out.rz.c1
    have dz2 := HS7.out.rz.c2
    have dg1 := HS7.out.bx.fz 1
    have ex0 := HS8.out.bx.c0
    have ex1 := HS8.out.bx.c1
    have ex2 := HS8.out.bx.c2
    have ef0 := HS8.out.rz.fz 0
    have ef1 := HS8.out.rz.fz 1
    have ef2 := HS8.out.rz.fz 2
    have ez0 := HS8.out.rz.c0
    have ez1 := HS8.out.rz.c1
    have ez2 := HS8.out.rz.c2
    have eg1 := HS8.out.bx.fz 1
    go_wp2_with fail
    go_region
    go_wp2_with fail
    clear dx0 df0 dz0 dx1 df1 dz1 dx2 df2 dz2 dg1
    clear ex0 ef0 ez0 ex1 ef1 ez1 ex2 ef2 ez2 eg1
    have hbx := HS8.out.rz.set3 (.slice A6 n6 c6) (.slice none 0 0) T.most
    have HFN := hide (HS8.out.fin (T' := ⟨T.left z x, [], T.most⟩) (⟨HI.out.fresh (Nat.le_refl _) HO7.out, BtF.none _ _, HS8.out.rf.bd⟩) (kp_set3 w6 (s + 1) (.slice A6 n6 c6) (.slice none 0 0) (.int .i64 (T.most : Int))))
    have r0 := hbx.c0
    have r1 := hbx.c1
    have r2 := hbx.c2
    clear hbx
    generalize (((w6.setCell ⟨s + 1, 0, none⟩ (.slice A6 n6 c6)).setCell ⟨s + 1, 1, none⟩ (.slice none 0 0)).setCell ⟨s + 1, 2, none⟩ (.int .i64 (T.most : Int))) = w9 at HFN r0 r1 r2 ⊢
    refine bodyPost_ret (v := tupT (nl) (rtV (⟨T.left z x, [], T.most⟩) (.slice A6 n6 c6) (.slice none 0 0))) (by simp [results, Try.results18, go_sem, rtV, tupT, r0, r1, r2]) rfl ?_
    exact ⟨_, by rw [HG.out]; rfl, ⟨_, _, rfl, HFN.out.1.no (Kp.refl No w9).drew⟩, HFN.out.2.drew⟩
end
end Go.Proofs.Ytikegnhjnbjclaa
