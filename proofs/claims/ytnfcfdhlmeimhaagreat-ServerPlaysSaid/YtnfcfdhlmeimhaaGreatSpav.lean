/- slices.Delete of the first one of 32 replies, as a contract over memory (printed by tools/gen_ndc.py); Package server's made, Disk, Vault, Done, start, New and Restart, each as a contract over memory. -/
import Derived.Test.YtnfcfdhlmeimhaaGreatSpau
import Derived.Deep.RegionLaw
import Derived.Lib.SliceRun
import Derived.Test.YtnfcfdhlmeimhaaGreatSpaq
import Derived.Test.YtnfcfdhlmeimhaaGreatSpas
namespace Go.Proofs.YtnfcfdhlmeimhaaGreat
open Go.RowKit
set_option linter.unusedVariables false
set_option linter.unusedSimpArgs false
set_option maxRecDepth 20000
theorem heap_setCells {t:TypeId} {g:Nat}:∀ (vs:List Value) (o:Nat) (w:World) (cur:Array Value),w.heap[g]?=some (.cells cur t (0,0))→o+vs.length≤cur.size →
  ∃ cur':Array Value,(w.setCells g o vs).heap[g]?=some (.cells cur' t (0,0))∧cur'.size=cur.size∧cur'.toList=cur.toList.take o ++ vs ++ cur.toList.drop (o+vs.length)
 | [],o,w,cur,h,hl=>⟨cur,h,rfl,by simp⟩
 | v :: r,o,w,cur,h,hl=>by
  rw [List.length_cons] at hl
  have h1:=heap_setCell_same w g o cur t v h
  obtain ⟨c2,e1,e2,e3⟩:=heap_setCells r (o+1) (w.setCell ⟨g,o,none⟩ v) _ h1 (by simp; omega)
  refine ⟨c2,e1,e2.trans (by simp),e3.trans ?_⟩
  have hset:(cur.setIfInBounds o v).toList=cur.toList.set o v:=by simp
  rw [hset,List.length_cons,show o+1+r.length=o+(r.length+1) by omega]
  have ht:(cur.toList.set o v).take (o+1)=cur.toList.take o ++ [v]:=by
   rw [List.take_set,List.take_add_one,List.getElem?_eq_getElem (by simp; omega)]
   apply List.ext_getElem?
   intro i
   simp only [List.getElem?_set,List.getElem?_append,List.length_take,List.length_append]
   have hs:cur.toList.length=cur.size:=by simp
   rcases Nat.lt_trichotomy o i with g1 | g1 | g1
   ·rw [if_neg (by omega)]
    rw [if_neg (by omega),if_neg (by omega)]
    rw [List.getElem?_eq_none (by simp; omega),List.getElem?_eq_none (by simp; omega)]
   ·subst g1
    rw [if_pos rfl,if_pos (by simp; omega),if_neg (by omega)]
    rw [Nat.min_eq_left (by omega),Nat.sub_self]
    rfl
   ·rw [if_neg (by omega),if_pos (by omega),if_pos (by omega)]
  have hd:(cur.toList.set o v).drop (o+(r.length+1))=cur.toList.drop (o+(r.length+1)):=by
   rw [List.drop_set,if_pos (by omega)]
  rw [ht,hd]
  simp
theorem kp_setCellsN (b:Nat) (vs:List Value) (o:Nat) (w:World):Kp (fun k=>k=b) w (w.setCells b o vs):=by
 induction vs generalizing o w with
 | nil=>exact Kp.refl _ _
 | cons v r ih=>exact (Kp.setCell (p:=⟨b,o,none⟩) (S:=fun k=>k=b) rfl v).trans' (ih (o+1) _)
theorem rpl_under:Tryz.prog.underlying 93=some (.slice (Tryz.prog.elem 93)):=by
 have he:Tryz.prog.elem 93=81:=by unfold Program.elem; rw [Tryz.underlying93]
 rw [he]; exact Tryz.underlying93
theorem rpl_size (w:World):(sizeOf (Tryz.prog.elem 93)).run Tryz.prog w=.ok 3 w:=by
 have he:Tryz.prog.elem 93=81:=by unfold Program.elem; rw [Tryz.underlying93]
 rw [he]; exact Tryz.sizeOf81 w
theorem zero_rpl (w:World):(zeroValue 81).run Tryz.prog w=.ok (.agg #[.int .u64 0,.int .i64 0,.slice none 0 0]) w:=Tryz.zeroValue81 w
/-- clear of one reply. -/
theorem clear_rpl (w:World) (g o c:Nat) (ty:TypeId) (hc:∀ j,j < 3→(w.cell? ⟨g,o+j,none⟩).isSome=true) (hf:∀ j,j < 3→w.frozen? ⟨g,o+j,none⟩=false) :
  (Builtin.clear_ #[93] ty #[.slice (some ⟨g,o,none⟩) 1 c]).run Tryz.prog w=.ok (.tuple #[]) (w.setCells g o [.int .u64 0,.int .i64 0,.slice none 0 0]):=by
 have hst:=run_storeCells_cells (P:=Tryz.prog) g o [.int .u64 0,.int .i64 0,.slice none 0 0] 0 w (by simpa using hc) (by simpa using hf) (by intro v hv; simp at hv; rcases hv with rfl | rfl | rfl <;> rfl)
 simp only [Nat.add_zero] at hst
 have hz:(Builtin.zeroCells (Value.agg #[.int .u64 0,.int .i64 0,.slice none 0 0]).cells 1).toList=[.int .u64 0,.int .i64 0,.slice none 0 0]:=by kernel_rfl
 have hv:=zero_rpl
 simp [Builtin.clear_,run_underlying Tryz.underlying93,hv,hz,hst]
set_option maxHeartbeats 4000000 in
theorem sdel_any {w:World} {g c:Nat} {sn:List Rp} (h:OwnT w 0 81 3 (.slice (some ⟨g,0,none⟩) 32 c) 32 (rpC sn)) (hl:sn.length=32) :
  Calls Tryz.prog 120 #[.slice (some ⟨g,0,none⟩) 32 c,.int .i64 0,.int .i64 1] w fun e w1=>e=.returned (.slice (some ⟨g,0,none⟩) 31 c)∧OwnT w1 0 81 3 (.slice (some ⟨g,0,none⟩) 31 c) 31 (rpC (sn.drop 1))∧Kp (fun q=>q=g) w w1:=by
 obtain ⟨⟨i0,hi0,hz0,hz1,hz2⟩,_⟩:=ty_rp
 obtain ⟨cur,hg,hb0,hnc,hcm,hsz,htk,_⟩:=h.row
 have hcl9:c≤9223372036854775807:=by unfold maxLen at hcm; omega
 have hdl:(rpC (sn.drop 1)).length=93:=by rw [rpC_len,List.length_drop,hl]
 have hgd:w.drew.heap[g]?=some (.cells cur 81 (0,0)):=hg
 have HNL:Hid ((rpC (sn.drop 1)).length=31 * 3):=hdl
 have HAT:Hid (∀ (j:Nat) u,(rpC (sn.drop 1))[j]?=some u→w.drew.cell? ((⟨g,3,none⟩:Addr).add j)=some u):=by
  intro j u hu
  have hj:j < 93:=by have:=(List.getElem?_eq_some_iff.1 hu).1; omega
  rw [rpC_drop,List.getElem?_drop,← htk,List.getElem?_take,if_pos (by omega)] at hu
  rw [add_none,cell_of_row w.drew g _ _ _ _ hgd]
  rw [Array.getElem?_toList] at hu
  exact hu
 have HSP:Hid (∀ j,j < (rpC (sn.drop 1)).length→(w.drew.cell? ⟨g,0+0 * 3+j,none⟩).isSome=true∧w.drew.frozen? ⟨g,0+0 * 3+j,none⟩=false):=by
  intro j hj
  refine ⟨?_,frozen_of_row w.drew g _ _ _ hgd⟩
  rw [cell_of_row w.drew g _ _ _ _ hgd,Array.getElem?_eq_getElem (by omega)]
  rfl
 obtain ⟨c1,g1,z1,t1⟩:=heap_setCells (rpC (sn.drop 1)) 0 w.drew cur hgd (by omega)
 obtain ⟨c2,g2,z2,t2⟩:=heap_setCells [.int .u64 0,.int .i64 0,.slice none 0 0] 93 (w.drew.setCells g 0 (rpC (sn.drop 1))) c1 g1 (by simp; omega)
 have hcl:∀ ty,(Builtin.clear_ #[93] ty #[.slice (some ⟨g,93,none⟩) 1 (c - 31)]).run Tryz.prog (w.drew.setCells g 0 (rpC (sn.drop 1)))=.ok (.tuple #[]) ((w.drew.setCells g 0 (rpC (sn.drop 1))).setCells g 93 [.int .u64 0,.int .i64 0,.slice none 0 0]):=fun ty =>
  clear_rpl _ g 93 _ ty (fun j hj=>by rw [cell_of_row _ g _ _ _ _ g1,Array.getElem?_eq_getElem (by omega)]; rfl) (fun j hj=>frozen_of_row _ g _ _ _ g1)
 have hown:OwnT ((w.drew.setCells g 0 (rpC (sn.drop 1))).setCells g 93 [.int .u64 0,.int .i64 0,.slice none 0 0]) 0 81 3 (.slice (some ⟨g,0,none⟩) 31 c) 31 (rpC (sn.drop 1)):=by
  refine ⟨hdl,.inr ⟨g,c,c2,rfl,Nat.zero_le _,g2,by omega,hcm,by omega,?_⟩⟩
  rw [t2,t1,List.append_assoc,List.take_append_of_le_length (by simp; omega),List.take_zero,List.nil_append,List.take_take,Nat.min_self,List.take_append_of_le_length (by omega),List.take_of_length_le (by omega)]
 have HW1:Hid (True∧OwnT ((w.drew.setCells g 0 (rpC (sn.drop 1))).setCells g 93 [.int .u64 0,.int .i64 0,.slice none 0 0]) 0 81 3 (.slice (some ⟨g,0,none⟩) 31 c) 31 (rpC (sn.drop 1))∧Kp (fun q=>q=g) w ((w.drew.setCells g 0 (rpC (sn.drop 1))).setCells g 93 [.int .u64 0,.int .i64 0,.slice none 0 0])) :=
  ⟨trivial,hown,((Kp.refl _ w).drew.trans' (kp_setCellsN g _ _ _)).trans' (kp_setCellsN g _ _ _)⟩
 have s0:∀ w',(Instr.slice 93 (.slice (some ⟨g,0,none⟩) 32 c) (some (.int .i64 0)) (some (.int .i64 1)) (some (.int .i64 32))).run Tryz.prog w'=.ok (.slice (some ⟨g,0,none⟩) 1 32) w':=fun w'=>by
  rw [run_slice_lhm w' _ _ _ _ rpl_under .i64 .i64 .i64 _ _ _ (by omega) (by omega) (by omega) (by omega),rpl_size]
  simp only [Result.andThen,sliced,Option.map_some,add_none]
  rw [if_neg (by decide)]
  rfl
 have s1:∀ w',(Instr.slice 93 (.slice (some ⟨g,0,none⟩) 32 c) none (some (.int .i64 0)) none).run Tryz.prog w'=.ok (.slice (some ⟨g,0,none⟩) 0 c) w':=fun w'=>by
  rw [run_slice_h w' _ _ _ _ rpl_under .i64 _ (by omega) (by omega),rpl_size]
  simp only [Result.andThen,sliced,Int.toNat_zero,Nat.zero_mul,Nat.sub_zero,Option.map_some,add_none]
  congr 2
  split <;> rfl
 have s2:∀ w',(Instr.slice 93 (.slice (some ⟨g,0,none⟩) 32 c) (some (.int .i64 1)) none none).run Tryz.prog w'=.ok (.slice (some ⟨g,3,none⟩) 31 (c - 1)) w':=fun w'=>by
  rw [run_slice_l w' _ _ _ _ rpl_under .i64 _ (by omega) (by omega),rpl_size]
  simp only [Result.andThen,sliced,Option.map_some,add_none]
  rw [if_neg (by simp; omega)]
  rfl
 have s3:∀ w',(Instr.slice 93 (.slice (some ⟨g,0,none⟩) 31 c) (some (.int .i64 31)) (some (.int .i64 32)) none).run Tryz.prog w'=.ok (.slice (some ⟨g,93,none⟩) 1 (c - 31)) w':=fun w'=>by
  rw [run_slice_lh w' _ _ _ _ rpl_under .i64 .i64 _ _ (by omega) (by omega) (by omega),rpl_size]
  simp only [Result.andThen,sliced,Option.map_some,add_none]
  rw [if_neg (by simp; omega)]
  rfl
 clear h hg hb0 hz0 hz2 hsz htk hdl hgd g1 z1 t1 g2 z2 t2 hown hcm
 go_enter Tryz.func120,Tryz.ntmps120
 go_wp2_with fail
 refine wp_region_noPanic ?_
 refine wp_region_held_drew (S:=fun _=>True) (by kernel_rfl) (trivial) (fun hHeld=>?_)
 refine wpAnyH_take (i:=0) (v:=?vdx1) (oi:=?odx1) ?hdx1 (by kernel_rfl) (by kernel_rfl) (by kernel_rfl) (fun _ _ _ h=>h) (Or.inl ⟨?wdx1,?ydx1⟩) hHeld ?rdx1
 case hdx1=>simp only [gA0,gA1,gA2]; rfl
 case wdx1=>rfl
 case ydx1=>intro w hSw; (try dsimp only at hSw); go_simp; (try with_reducible rfl)
 simp only [Act.put,sA0,sA1,sA2]
 refine wpAnyH_take (i:=1) (v:=?vdx2) (oi:=?odx2) ?hdx2 (by kernel_rfl) (by kernel_rfl) (by kernel_rfl) (fun _ _ _ h=>h) (Or.inl ⟨?wdx2,?ydx2⟩) hHeld ?rdx2
 case hdx2=>simp only [gA0,gA1,gA2]; rfl
 case wdx2=>rfl
 case ydx2=>intro w hSw; (try dsimp only at hSw); go_simp; (try with_reducible rfl)
 simp only [Act.put,sA0,sA1,sA2]
 refine wpAnyH_take (i:=2) (v:=?vdx3) (oi:=?odx3) ?hdx3 (by kernel_rfl) (by kernel_rfl) (by kernel_rfl) (fun _ _ _ h=>h) (Or.inl ⟨?wdx3,?ydx3⟩) hHeld ?rdx3
 case hdx3=>simp only [gA0,gA1,gA2]; rfl
 case wdx3=>rfl
 case ydx3=>intro w hSw; (try dsimp only at hSw); go_simp; (try with_reducible rfl)
 simp only [Act.put,sA0,sA1,sA2]
 refine wpAnyH_take (i:=3) (v:=?vdx4) (oi:=?odx4) ?hdx4 (by kernel_rfl) (by kernel_rfl) (by kernel_rfl) (fun _ _ _ h=>h) (Or.inl ⟨?wdx4,?ydx4⟩) hHeld ?rdx4
 case hdx4=>simp only [gA0,gA1,gA2]; rfl
 case wdx4=>rfl
 case ydx4=>intro w hSw; (try dsimp only at hSw); go_simp; (try with_reducible rfl)
 simp only [Act.put,sA0,sA1,sA2]
 refine wpAnyH_take (i:=4) (v:=?vdx5) (oi:=?odx5) ?hdx5 (by kernel_rfl) (by kernel_rfl) (by kernel_rfl) (fun _ _ _ h=>h) (Or.inl ⟨?wdx5,?ydx5⟩) hHeld ?rdx5
 case hdx5=>simp only [gA0,gA1,gA2]; rfl
 case wdx5=>rfl
 case ydx5=>intro w hSw; (try dsimp only at hSw); go_simp; (try with_reducible rfl)
 simp only [Act.put,sA0,sA1,sA2]
 refine wpAnyH_take (i:=5) (v:=?vdx6) (oi:=?odx6) ?hdx6 (by kernel_rfl) (by kernel_rfl) (by kernel_rfl) (fun _ _ _ h=>h) (Or.inl ⟨?wdx6,?ydx6⟩) hHeld ?rdx6
 case hdx6=>simp only [gA0,gA1,gA2]; rfl
 case wdx6=>rfl
 case ydx6=>intro w hSw; (try dsimp only at hSw); go_simp; (try with_reducible rfl)
 simp only [Act.put,sA0,sA1,sA2]
 refine wpAnyH_ready (rs:=[6]) (by kernel_rfl) (by simp) ?_
 refine AllReadyH.cons (o:=?odx7) ?hdx7 (fun K hK=>?sdx7) AllReadyH.nil
 case hdx7=>simp only [gA0,gA1,gA2]; rfl
 refine step_append_room (P:=Tryz.prog) rfl (.tmp 22) (.tmp 25) 93 rfl 81 i0 3 Tryz.underlying93 hi0 hz1 g 0 0 c (by simp [Act.eval,Act.put]) ⟨g,3,none⟩ 31 (c - 1) (rpC (sn.drop 1)) (by simp [Act.eval,Act.put]) HNL.out HAT.out (rpC_one _) (by omega) HSP.out ?_
 rw [show 0+0 * 3=0 from rfl]
 refine hK.out _ _ (trivial) (fun hHeld=>?_)
 clear hK K
 try simp only [Act.put,sA0,sA1,sA2]
 refine wpAnyH_take (i:=7) (v:=?vdx8) (oi:=?odx8) ?hdx8 (by kernel_rfl) (by kernel_rfl) (by kernel_rfl) (fun _ _ _ h=>h) (Or.inl ⟨?wdx8,?ydx8⟩) hHeld ?rdx8
 case hdx8=>simp only [gA0,gA1,gA2]; rfl
 case wdx8=>rfl
 case ydx8=>intro w hSw; (try dsimp only at hSw); go_simp; (try with_reducible rfl)
 simp only [Act.put,sA0,sA1,sA2]
 refine wpAnyH_done (by kernel_rfl) ?_ _
 refine NoPanic.normal ?_
 clear hHeld
 generalize w.drew.setCells g 0 (rpC (sn.drop 1))=W1 at HW1 hcl ⊢
 go_wp2_with fail
 go_ret
 exact ⟨rfl,HW1.out.2.1,HW1.out.2.2⟩
end Go.Proofs.YtnfcfdhlmeimhaaGreat
namespace Go.Proofs.YtnfcfdhlmeimhaaGreat
open Go.RowKit
set_option linter.unusedVariables false
set_option linter.unusedSimpArgs false
set_option maxRecDepth 20000
section
variable {w w1:World} {F:Nat→Prop} {B n k g gc gd gv b:Nat} {x:Nat→UInt8} {rv:Value} {N:Nd}
theorem BxN.made {x0 x2 x3 x4:Value} (h:BxN w g x0 (.pointer (some ⟨gd,0,none⟩)) x2 x3 x4):Calls Tryz.prog 33 #[.pointer (some ⟨g,0,none⟩)] w fun e w1=>e=.returned (.bool true)∧w=w1:=by
 obtain ⟨z0,z1,z2,z3,z4⟩:=h.cell
 clear h
 go_enter Tryz.func33,Tryz.ntmps33
 go_wp2
 go_ret
 exact ⟨rfl,rfl⟩
theorem sdisk_any {x0 x1 x2 x3 x4:Value} (h:BxN w g x0 x1 x2 x3 x4):Calls Tryz.prog 13 #[.pointer (some ⟨g,0,none⟩)] w fun e w1=>e=.returned x1∧w=w1:=by
 obtain ⟨z0,z1,z2,z3,z4⟩:=h.cell
 clear h
 go_enter Tryz.func13,Tryz.ntmps13
 go_wp2
 go_ret
 exact ⟨rfl,rfl⟩
theorem svault_any {x0 x1 x2 x3 x4:Value} (h:BxN w g x0 x1 x2 x3 x4):Calls Tryz.prog 25 #[.pointer (some ⟨g,0,none⟩)] w fun e w1=>e=.returned x2∧w=w1:=by
 obtain ⟨z0,z1,z2,z3,z4⟩:=h.cell
 clear h
 go_enter Tryz.func25,Tryz.ntmps25
 go_wp2
 go_ret
 exact ⟨rfl,rfl⟩
theorem sdone_any {x0 x1 x2 x3:Value} {m:Nat} (h:BxN w g x0 x1 x2 x3 (.int .u64 (m:Int))):Calls Tryz.prog 27 #[.pointer (some ⟨g,0,none⟩)] w fun e w1=>e=.returned (.int .u64 (m:Int))∧w=w1:=by
 obtain ⟨z0,z1,z2,z3,z4⟩:=h.cell
 clear h
 go_enter Tryz.func27,Tryz.ntmps27
 go_wp2
 go_ret
 exact ⟨rfl,rfl⟩
/-- A node that has just come up. -/
theorem SvR.started {x2 x3 x4:Value} {V:Vt} {Fv:Nat→Prop} (hb:BxN w g (.pointer (some ⟨gc,0,none⟩)) (.pointer (some ⟨gd,0,none⟩)) x2 x3 x4) (hc:CdF w B gc n k x) (hv:VtR w Fv gv gd b V) (hF:∀ q,Fv q→F q∧q≠g) (hg:F g) (hfb:∀ z,F z→B≤z) :
  SvR (((w.setCell ⟨g,2,none⟩ (.pointer (some ⟨gv,0,none⟩))).setCell ⟨g,3,none⟩ (.slice none 0 0)).setCell ⟨g,4,none⟩ (.int .u64 ((0:Nat):Int))) F B n k x g gc gd gv b (.slice none 0 0) ⟨V,[],0⟩ ∧
  Kp (fun q=>q=g) w (((w.setCell ⟨g,2,none⟩ (.pointer (some ⟨gv,0,none⟩))).setCell ⟨g,3,none⟩ (.slice none 0 0)).setCell ⟨g,4,none⟩ (.int .u64 ((0:Nat):Int))):=by
 have K:Kp (fun q=>q=g) w (((w.setCell ⟨g,2,none⟩ (.pointer (some ⟨gv,0,none⟩))).setCell ⟨g,3,none⟩ (.slice none 0 0)).setCell ⟨g,4,none⟩ (.int .u64 ((0:Nat):Int))) :=
  ((Kp.setCell (S:=fun q=>q=g) (p:=⟨g,2,none⟩) rfl _).trans' (Kp.setCell (S:=fun q=>q=g) (p:=⟨g,3,none⟩) rfl _)).trans' (Kp.setCell (S:=fun q=>q=g) (p:=⟨g,4,none⟩) rfl _)
 refine ⟨⟨((hb.set2 _).set3 _).set4 _,hc.keep K fun z e=>e ▸ hfb g hg,(hv.keep K fun k _ f e=>(hF k f).2 e).mono fun k f=>⟨(hF k f).1,(hF k f).2,fun e=>(by cases e)⟩,OwnT.nil _ _ _ _,fun k e=>(by cases e),hg,hfb,⟨hv.ok,Nat.zero_le _,fun p hp=>(by cases hp)⟩⟩,K⟩
/-- start. -/
theorem sstart_any {x2 x3 x4:Value} {Fd:Nat→Prop} {D:Dk} (hb:BxN w g (.pointer (some ⟨gc,0,none⟩)) (.pointer (some ⟨gd,0,none⟩)) x2 x3 x4) (hc:CdF w B gc n k x) (hd:DkAt w Fd gd D) (hF:∀ q,Fd q→F q∧q≠g) (hg:F g) (hfb:∀ z,F z→B≤z) :
  Calls Tryz.prog 31 #[.pointer (some ⟨g,0,none⟩)] w fun e w1=>e=.returned (.tuple #[])∧SvAt w1 (Up F w) B n k x g gc gd (Nd.up D)∧Kp (fun q=>q=g) w w1:=by
 have HB:=hide hb
 have HC:=hide hc
 have HD:=hide hd
 have HF:Hid (∀ q,Up Fd w q→Up F w q∧q≠g):=fun q f=>by
  rcases f with f | f
  ·exact ⟨.inl (hF q f).1,(hF q f).2⟩
  ·exact ⟨.inr f,by have:=hb.lt; omega⟩
 have HG:=hide hg
 have HFB:Hid (∀ z,Up F w z→B≤z):=fun z f=>f.elim (hfb z) fun f=>Nat.le_trans hc.bw f
 obtain ⟨z0,z1,z2,z3,z4⟩:=hb.cell
 clear hb hc hd hF hg hfb
 go_enter Tryz.func31,Tryz.ntmps31
 go_wp2_with fail
 refine (vopen_any HD.out).mono ?_
 rintro e w2 ⟨gv,b,rfl,_,_,hv,hk⟩
 have HB2:=hide (HB.out.no hk)
 have HFN:=hide (SvR.started HB2.out (HC.out.no hk) hv HF.out (.inl HG.out) HFB.out)
 have HK:=hide hk
 clear z0 z1 z2 z3 z4 hv hk
 obtain ⟨y0,y1,y2,y3,y4⟩:=HB2.out.cell
 have f2:=HB2.out.fz 2
 have f3:=HB2.out.fz 3
 have f4:=HB2.out.fz 4
 go_wp2
 (first | go_end0 | refine bodyPost_ret (results_none rfl _ _ _) rfl ?_)
 exact ⟨rfl,⟨_,_,_,HFN.out.1⟩,(HK.out.of_no _).trans' HFN.out.2⟩
theorem snew_any {D:Dk} (hc:CdF w B gc n k x) (hd:DkAt w F gd D) (hfb:∀ z,F z→B≤z) :
  Calls Tryz.prog 10 #[.pointer (some ⟨gc,0,none⟩),.pointer (some ⟨gd,0,none⟩)] w fun e w1=>∃ g,e=.returned (.tuple #[.pointer (some ⟨g,0,none⟩),.int .i64 0])∧w.heap.size≤g∧SvAt w1 (Up F w) B n k x g gc gd (Nd.up D)∧Kp No w w1:=by
 have k0:=Kp.alloc No w (.cells #[.pointer (some ⟨gc,0,none⟩),.pointer (some ⟨gd,0,none⟩),.pointer none,.slice none 0 0,.int .u64 0] 95)
 have HB:=hide (BxN.new w (.pointer (some ⟨gc,0,none⟩)) (.pointer (some ⟨gd,0,none⟩)) (.pointer none) (.slice none 0 0) (.int .u64 0))
 have HK:=hide k0
 have HC:=hide (hc.no k0)
 have HFB:Hid (∀ z,Up F w z→B≤z):=fun z f=>f.elim (hfb z) fun f=>Nat.le_trans hc.bw f
 have HD:=hide (hd.lt.no k0)
 clear hc hd k0 hfb
 go_enter Tryz.func10,Tryz.ntmps10
 go_wp2_with fail
 refine (sstart_any HB.out HC.out HD.out (fun q f=>⟨.inl f.1,by omega⟩) (.inr (Nat.le_refl _)) HFB.out).mono ?_
 rintro e w2 ⟨rfl,hs,hk⟩
 have HS:=hide hs
 have HK2:=hide hk
 clear hs hk
 go_wp2
 go_ret2
 have hz:=HK.out.size
 refine ⟨_,rfl,Nat.le_refl _,?_,HK.out.trans (HK2.out.mono fun q e=>.inr (by omega))⟩
 obtain ⟨gv,b,rv,hs⟩:=HS.out
 refine ⟨gv,b,rv,hs.mono (fun q f=>f.two hz) HFB.out⟩
theorem srestart_any (h:SvR w F B n k x g gc gd gv b rv N) (hl:N.V.D.loose.length≤1000000) (z y:Int) :
  Calls Tryz.prog 14 #[.pointer (some ⟨g,0,none⟩),.int .i64 z,.int .i64 y] w (SvPost w F B n k x g gc gd (N.restart z y) (.returned (.tuple #[]))):=by
 have HM:=hide h.blk.made
 obtain ⟨z0,z1,z2,z3,z4⟩:=h.blk.cell
 have HS:=hide h
 clear h
 go_enter Tryz.func14,Tryz.ntmps14
 go_wp2_with fail
 refine HM.out.mono ?_
 rintro e w' ⟨rfl,rfl⟩
 go_wp2_with fail
 refine (pcrash_any HS.out.vt.dk (by omega) z y).mono ?_
 rintro e w1 ⟨rfl,hd1,hk1⟩
 clear z0 z1 z2 z3 z4
 have hl1:=HS.out.blk.lt
 have HB1:=hide (HS.out.blk.keep hk1 fun f=>f.1.2.1 rfl)
 have HC1:=hide (HS.out.cd.keep hk1 fun z f=>HS.out.fb z f.1.1)
 have HD1:=hide hd1
 have HK1:Hid (Kp F w w1):=hk1.mono fun q f=>f.1.1
 have hFd:∀ q,Up (Fd (Fsv F g rv) gv b) w q→Up F w q∧q≠g:=fun q f=>by
  rcases f with f | f
  ·exact ⟨.inl f.1.1,f.1.2.1⟩
  ·exact ⟨.inr f,by omega⟩
 have HFD:=hide hFd
 clear hd1 hk1 hFd
 go_wp2_with fail
 refine (sstart_any HB1.out HC1.out HD1.out HFD.out (.inl HS.out.fg) HS.out.up).mono ?_
 rintro e w2 ⟨rfl,hs,hk⟩
 have HS2:=hide hs
 have HK2:=hide hk
 clear hs hk
 go_wp2
 (first | go_end0 | refine bodyPost_ret (results_none rfl _ _ _) rfl ?_)
 have hz:=HK1.out.size
 refine ⟨rfl,?_,HK1.out.trans (HK2.out.mono fun q e=>.inl (by subst e; exact HS.out.fg))⟩
 obtain ⟨gv2,b2,rv2,hs⟩:=HS2.out
 refine ⟨gv2,b2,rv2,hs.mono (fun q f=>f.two hz) HS.out.up⟩
end
end Go.Proofs.YtnfcfdhlmeimhaaGreat
