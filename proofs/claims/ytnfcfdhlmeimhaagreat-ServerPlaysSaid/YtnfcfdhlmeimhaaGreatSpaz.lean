/- Package server's do, as a contract over memory (printed by tools/gen_nde.py). -/
import Derived.Test.YtnfcfdhlmeimhaaGreatSpay
import Derived.Deep.DeepCutAuto
import Derived.Deep.CutBlock
namespace Go.Proofs.YtnfcfdhlmeimhaaGreat
open Go.RowKit
set_option linter.unusedVariables false
set_option linter.unusedSimpArgs false
set_option maxRecDepth 20000
set_option maxHeartbeats 8000000 in
theorem sdo_any {w:World} {F:Nat→Prop} {B n k a d qq g gc gd gv b m c:Nat} {x:Nat→UInt8} {rv:Value} {N:Nd} {q:Rq} {A:Option Addr} (h:SvR w F B n k x g gc gd gv b rv N) (hD:Dim n k a d qq) (hf:q.Fit) (hz:SzK N.V) (hb:Bts w (.slice A m c) q.data) (hl:m≤100000) (hdn:N.done+1 < 18446744073709551616) :
  Calls Tryz.prog 89 #[.pointer (some ⟨g,0,none⟩),rqV q (.slice A m c)] w (DidPost w F B n k a x g gc gd N q):=by
 obtain ⟨dn,hd⟩:∃ dn,N.done+1=dn:=⟨_,rfl⟩
 have e1:(N.done:Int)+1=(dn:Int):=by omega
 have e2:IntKind.u64.wrap (dn:Int)=(dn:Int):=IntWalk.u64_in _ (by omega)
 have HX:=hide (DoW.begin (q:=q) (A:=A) (m:=m) (c:=c) h hd)
 have HBT0:Hid (Bts (((w.alloc (.cells #[.int .u64 (q.num:Int),.int .i64 q.kind,.int .u32 (cO q.s:Int),.int .u16 (cS q.s:Int),.int .u16 (cL q.s:Int),.int .u32 (cG q.s:Int),.int .u16 (q.lost:Int),.slice A m c] 84)).alloc (.cells #[.int .u64 0,.int .i64 0,.slice none 0 0] 81)).setCell ⟨g,4,none⟩ (.int .u64 (dn:Int))) (.slice A m c) q.data):=by
  have k1:Kp No w ((w.alloc (.cells #[.int .u64 (q.num:Int),.int .i64 q.kind,.int .u32 (cO q.s:Int),.int .u16 (cS q.s:Int),.int .u16 (cL q.s:Int),.int .u32 (cG q.s:Int),.int .u16 (q.lost:Int),.slice A m c] 84)).alloc (.cells #[.int .u64 0,.int .i64 0,.slice none 0 0] 81)):=(Kp.alloc No w _).trans' (Kp.alloc No _ _)
  have hblk:((w.alloc (.cells #[.int .u64 (q.num:Int),.int .i64 q.kind,.int .u32 (cO q.s:Int),.int .u16 (cS q.s:Int),.int .u16 (cL q.s:Int),.int .u32 (cG q.s:Int),.int .u16 (q.lost:Int),.slice A m c] 84)).alloc (.cells #[.int .u64 0,.int .i64 0,.slice none 0 0] 81)).heap[g]?=_:=h.blk.no k1
  exact bts_stay hblk (fun j z=>by rcases j with _ | _ | _ | _ | _ | j <;> simp <;> exact h.rp_int z) (hb.no k1) (Kp.setCell (S:=fun z=>z=g) (p:=⟨g,4,none⟩) rfl _)
 have HBT:=hide (HBT0.out.no (Kp.alloc No _ (.cells #[.int .u64 (q.num:Int),.int .i64 0,.slice none 0 0] 81)))
 have HF:=hide hf
 have HD:=hide hD
 have HZ:=hide hz
 have HL:Hid (q.data.length≤100000):=by show _≤_; rw [← hb.len]; exact hl
 obtain ⟨y0,y1,y2,y3,y4⟩:=(h.blk.no (Kp.alloc No w (.cells #[.int .u64 (q.num:Int),.int .i64 q.kind,.int .u32 (cO q.s:Int),.int .u16 (cS q.s:Int),.int .u16 (cL q.s:Int),.int .u32 (cG q.s:Int),.int .u16 (q.lost:Int),.slice A m c] 84))).no (Kp.alloc No _ (.cells #[.int .u64 0,.int .i64 0,.slice none 0 0] 81)) |>.cell
 have f4:=((h.blk.no (Kp.alloc No w (.cells #[.int .u64 (q.num:Int),.int .i64 q.kind,.int .u32 (cO q.s:Int),.int .u16 (cS q.s:Int),.int .u16 (cL q.s:Int),.int .u32 (cG q.s:Int),.int .u16 (q.lost:Int),.slice A m c] 84))).no (Kp.alloc No _ (.cells #[.int .u64 0,.int .i64 0,.slice none 0 0] 81))).fz 4
 have hqb:=Bx8.new w 84 (.int .u64 (q.num:Int)) (.int .i64 q.kind) (.int .u32 (cO q.s:Int)) (.int .u16 (cS q.s:Int)) (.int .u16 (cL q.s:Int)) (.int .u32 (cG q.s:Int)) (.int .u16 (q.lost:Int)) (.slice A m c)
 have hq0:=(hqb.no (Kp.alloc No _ (.cells #[.int .u64 0,.int .i64 0,.slice none 0 0] 81))).cell.1
 clear HBT0 h hD hf hz hb hl hdn hd hqb
 go_enter Tryz.func89,Tryz.ntmps89
 go_upto_region 1 with (fail)
 go_upto_region 3 with (fail)
 generalize ((((w.alloc (.cells #[.int .u64 (q.num:Int),.int .i64 q.kind,.int .u32 (cO q.s:Int),.int .u16 (cS q.s:Int),.int .u16 (cL q.s:Int),.int .u32 (cG q.s:Int),.int .u16 (q.lost:Int),.slice A m c] 84)).alloc (.cells #[.int .u64 0,.int .i64 0,.slice none 0 0] 81)).setCell ⟨g,4,none⟩ (.int .u64 (dn:Int))).alloc (.cells #[.int .u64 (q.num:Int),.int .i64 0,.slice none 0 0] 81))=w3 at HX HBT ⊢
 generalize hB0:w.heap.size=B0 at HX ⊢
 clear y0 y1 y2 y3 y4 f4 hq0 e1 e2 hB0
 have x1:=HX.out.qb.cell.2.1
 go_upto_block 0 with fail
 go_cut [17] (fun v17 wx=>v17=.int .i64 q.kind∧∃ gv b rv u,DoE w F B n k a x g gc gd N q A m c B0 gv b rv u wx)
 case first =>
  clear x1
  by_cases e2:q.kind=2
  ·have t2:(q.kind == 2)=true:=by simp [e2]
   have HV:=hide (ndV_2 (V:=N.V) e2)
   have HE0:=hide (ndE_2 (n:=n) (a:=a) (V:=N.V) e2)
   have HB0:=hide (ndB_n (n:=n) (a:=a) (x:=x) (V:=N.V) (q:=q) (by omega) (by omega))
   clear e2
   go_wp2_with fail
   refine wp_region_noPanic ?_
   refine wp_region_held_drew (S:=fun w'=>w'.cell? ⟨g,2,none⟩=some (.pointer (some ⟨gv,0,none⟩))∧w'.cell? ⟨B0,2,none⟩=some (.int .u32 (cO q.s:Int))∧w'.cell? ⟨B0,3,none⟩=some (.int .u16 (cS q.s:Int))∧w'.cell? ⟨B0,4,none⟩=some (.int .u16 (cL q.s:Int))∧w'.cell? ⟨B0,5,none⟩=some (.int .u32 (cG q.s:Int))∧w'.cell? ⟨B0,7,none⟩=some (.slice A m c)) (by kernel_rfl) (HX.out.held) (fun hHeld=>?_)
   have HX:=hide (HX.out.no (Kp.refl No w3).drew)
   have HBT:=hide (HBT.out.no (Kp.refl No w3).drew)
   generalize w3.drew=wd at HX HBT hHeld ⊢
   refine wpAnyH_take (i:=0) (v:=?vpx1) (oi:=?opx1) ?hpx1 (by kernel_rfl) (by kernel_rfl) (by kernel_rfl) (fun _ _ _ h=>h) (Or.inl ⟨?wpx1,?ypx1⟩) hHeld ?rpx1
   case hpx1=>simp only [gA0,gA1,gA2]; rfl
   case wpx1=>rfl
   case ypx1=>intro w hSw; (try dsimp only at hSw); go_simp; (try with_reducible rfl)
   simp only [Act.put,sA0,sA1,sA2]
   refine wpAnyH_take (i:=1) (v:=?vpx2) (oi:=?opx2) ?hpx2 (by kernel_rfl) (by kernel_rfl) (by kernel_rfl) (fun _ _ _ h=>h) (Or.inl ⟨?wpx2,?ypx2⟩) hHeld ?rpx2
   case hpx2=>simp only [gA0,gA1,gA2]; rfl
   case wpx2=>rfl
   case ypx2=>intro w hSw; (try dsimp only at hSw); go_simp; (try with_reducible rfl)
   simp only [Act.put,sA0,sA1,sA2]
   refine wpAnyH_take (i:=2) (v:=?vpx3) (oi:=?opx3) ?hpx3 (by kernel_rfl) (by kernel_rfl) (by kernel_rfl) (fun _ _ _ h=>h) (Or.inl ⟨?wpx3,?ypx3⟩) hHeld ?rpx3
   case hpx3=>simp only [gA0,gA1,gA2]; rfl
   case wpx3=>rfl
   case ypx3=>intro w hSw; (try dsimp only at hSw); go_simp; (try with_reducible rfl)
   simp only [Act.put,sA0,sA1,sA2]
   refine wpAnyH_take (i:=3) (v:=?vpx4) (oi:=?opx4) ?hpx4 (by kernel_rfl) (by kernel_rfl) (by kernel_rfl) (fun _ _ _ h=>h) (Or.inl ⟨?wpx4,?ypx4⟩) hHeld ?rpx4
   case hpx4=>simp only [gA0,gA1,gA2]; rfl
   case wpx4=>rfl
   case ypx4=>intro w hSw; (try dsimp only at hSw); go_simp; (try with_reducible rfl)
   simp only [Act.put,sA0,sA1,sA2]
   refine wpAnyH_take (i:=4) (v:=?vpx5) (oi:=?opx5) ?hpx5 (by kernel_rfl) (by kernel_rfl) (by kernel_rfl) (fun _ _ _ h=>h) (Or.inl ⟨?wpx5,?ypx5⟩) hHeld ?rpx5
   case hpx5=>simp only [gA0,gA1,gA2]; rfl
   case wpx5=>rfl
   case ypx5=>intro w hSw; (try dsimp only at hSw); go_simp; (try with_reducible rfl)
   simp only [Act.put,sA0,sA1,sA2]
   refine wpAnyH_take (i:=5) (v:=?vpx6) (oi:=?opx6) ?hpx6 (by kernel_rfl) (by kernel_rfl) (by kernel_rfl) (fun _ _ _ h=>h) (Or.inl ⟨?wpx6,?ypx6⟩) hHeld ?rpx6
   case hpx6=>simp only [gA0,gA1,gA2]; rfl
   case wpx6=>rfl
   case ypx6=>intro w hSw; (try dsimp only at hSw); go_simp; (try with_reducible rfl)
   simp only [Act.put,sA0,sA1,sA2]
   refine wpAnyH_take (i:=6) (v:=?vpx7) (oi:=?opx7) ?hpx7 (by kernel_rfl) (by kernel_rfl) (by kernel_rfl) (fun _ _ _ h=>h) (Or.inl ⟨?wpx7,?ypx7⟩) hHeld ?rpx7
   case hpx7=>simp only [gA0,gA1,gA2]; rfl
   case wpx7=>rfl
   case ypx7=>intro w hSw; (try dsimp only at hSw); go_simp; (try with_reducible rfl)
   simp only [Act.put,sA0,sA1,sA2]
   refine wpAnyH_take (i:=7) (v:=?vpx8) (oi:=?opx8) ?hpx8 (by kernel_rfl) (by kernel_rfl) (by kernel_rfl) (fun _ _ _ h=>h) (Or.inl ⟨?wpx8,?ypx8⟩) hHeld ?rpx8
   case hpx8=>simp only [gA0,gA1,gA2]; rfl
   case wpx8=>rfl
   case ypx8=>intro w hSw; (try dsimp only at hSw); go_simp; (try with_reducible rfl)
   simp only [Act.put,sA0,sA1,sA2]
   refine wpAnyH_ready (rs:=[8]) (by kernel_rfl) (by simp) ?_
   refine AllReadyH.cons (o:=?opx9) ?hpx9 (fun K hK=>?spx9) AllReadyH.nil
   case hpx9=>simp only [gA0,gA1,gA2]; rfl
   go_simp
   refine (vput_any HX.out.sv.vt HF.out.s HBT.out (by have:=HL.out; omega) HZ.out.n (by have:=HZ.out.l; show N.V.D.loose.length+1≤1000000; omega) HZ.out.s).mono ?_
   rintro e w4 ⟨rfl,⟨b1,hv1⟩,hk1⟩
   have HX4:=hide (HX.out.call hv1 hk1)
   have HE5:=hide (HX4.out.one (n:=n) (a:=a) (x:=x) (N:=N) (q:=q) (V1:=N.V.pt q.s q.data) (er:=N.V.bgE q.s q.data) HV.out HE0.out HB0.out)
   clear hv1 hk1
   go_wp2_with fail
   refine hK.out _ _ (HX4.out.held) (fun hHeld=>?_)
   clear hK K
   try simp only [Act.put,sA0,sA1,sA2]
   refine wpAnyH_take (i:=9) (v:=?vpx10) (oi:=?opx10) ?hpx10 (by kernel_rfl) (by kernel_rfl) (by kernel_rfl) (fun _ _ _ h=>h) (Or.inl ⟨?wpx10,?ypx10⟩) hHeld ?rpx10
   case hpx10=>simp only [gA0,gA1,gA2]; rfl
   case wpx10=>rfl
   case ypx10=>intro w hSw; (try dsimp only at hSw); go_simp; (try with_reducible rfl)
   simp only [Act.put,sA0,sA1,sA2]
   refine wpAnyH_ready (rs:=[10]) (by kernel_rfl) (by simp) ?_
   refine AllReadyH.cons (o:=?opx11) ?hpx11 (fun K hK=>?spx11) AllReadyH.nil
   case hpx11=>simp only [gA0,gA1,gA2]; rfl
   have z1:=HX4.out.pb.cell.2.1
   have f1:=HX4.out.pb.fz 1
   go_simp
   refine hK.out _ _ (HE5.out.held) (fun hHeld=>?_)
   clear hK K
   try simp only [Act.put,sA0,sA1,sA2]
   refine wpAnyH_done (by kernel_rfl) ?_ _
   refine NoPanic.normal ?_
   clear hHeld
   go_wp2_with fail
   go_meet
   exact ⟨rfl,_,_,_,_,HE5.out⟩
  by_cases e3:q.kind=3
  ·have t3:(q.kind == 3)=true:=by simp [e3]
   have t2:(q.kind == 2)=false:=by simp [e2]
   have HV:=hide (ndV_n (V:=N.V) (q:=q) (by omega) (by omega))
   have HE0:=hide (ndE_3 (n:=n) (a:=a) (V:=N.V) e3)
   have HB0:=hide (ndB_3 (n:=n) (a:=a) (x:=x) (V:=N.V) e3)
   have HCH:=hide (chgK_no (k:=q.kind) (by omega) (by omega))
   clear e3
   go_wp2_with fail
   refine wp_region_noPanic ?_
   refine wp_region_held_drew (S:=fun w'=>w'.cell? ⟨g,2,none⟩=some (.pointer (some ⟨gv,0,none⟩))∧w'.cell? ⟨B0,2,none⟩=some (.int .u32 (cO q.s:Int))∧w'.cell? ⟨B0,3,none⟩=some (.int .u16 (cS q.s:Int))∧w'.cell? ⟨B0,4,none⟩=some (.int .u16 (cL q.s:Int))∧w'.cell? ⟨B0,5,none⟩=some (.int .u32 (cG q.s:Int))∧w'.cell? ⟨B0,7,none⟩=some (.slice A m c)) (by kernel_rfl) (HX.out.held) (fun hHeld=>?_)
   have HX:=hide (HX.out.no (Kp.refl No w3).drew)
   have HBT:=hide (HBT.out.no (Kp.refl No w3).drew)
   generalize w3.drew=wd at HX HBT hHeld ⊢
   refine wpAnyH_take (i:=0) (v:=?vqx1) (oi:=?oqx1) ?hqx1 (by kernel_rfl) (by kernel_rfl) (by kernel_rfl) (fun _ _ _ h=>h) (Or.inl ⟨?wqx1,?yqx1⟩) hHeld ?rqx1
   case hqx1=>simp only [gA0,gA1,gA2]; rfl
   case wqx1=>rfl
   case yqx1=>intro w hSw; (try dsimp only at hSw); go_simp; (try with_reducible rfl)
   simp only [Act.put,sA0,sA1,sA2]
   refine wpAnyH_take (i:=1) (v:=?vqx2) (oi:=?oqx2) ?hqx2 (by kernel_rfl) (by kernel_rfl) (by kernel_rfl) (fun _ _ _ h=>h) (Or.inl ⟨?wqx2,?yqx2⟩) hHeld ?rqx2
   case hqx2=>simp only [gA0,gA1,gA2]; rfl
   case wqx2=>rfl
   case yqx2=>intro w hSw; (try dsimp only at hSw); go_simp; (try with_reducible rfl)
   simp only [Act.put,sA0,sA1,sA2]
   refine wpAnyH_take (i:=2) (v:=?vqx3) (oi:=?oqx3) ?hqx3 (by kernel_rfl) (by kernel_rfl) (by kernel_rfl) (fun _ _ _ h=>h) (Or.inl ⟨?wqx3,?yqx3⟩) hHeld ?rqx3
   case hqx3=>simp only [gA0,gA1,gA2]; rfl
   case wqx3=>rfl
   case yqx3=>intro w hSw; (try dsimp only at hSw); go_simp; (try with_reducible rfl)
   simp only [Act.put,sA0,sA1,sA2]
   refine wpAnyH_take (i:=3) (v:=?vqx4) (oi:=?oqx4) ?hqx4 (by kernel_rfl) (by kernel_rfl) (by kernel_rfl) (fun _ _ _ h=>h) (Or.inl ⟨?wqx4,?yqx4⟩) hHeld ?rqx4
   case hqx4=>simp only [gA0,gA1,gA2]; rfl
   case wqx4=>rfl
   case yqx4=>intro w hSw; (try dsimp only at hSw); go_simp; (try with_reducible rfl)
   simp only [Act.put,sA0,sA1,sA2]
   refine wpAnyH_take (i:=4) (v:=?vqx5) (oi:=?oqx5) ?hqx5 (by kernel_rfl) (by kernel_rfl) (by kernel_rfl) (fun _ _ _ h=>h) (Or.inl ⟨?wqx5,?yqx5⟩) hHeld ?rqx5
   case hqx5=>simp only [gA0,gA1,gA2]; rfl
   case wqx5=>rfl
   case yqx5=>intro w hSw; (try dsimp only at hSw); go_simp; (try with_reducible rfl)
   simp only [Act.put,sA0,sA1,sA2]
   refine wpAnyH_take (i:=5) (v:=?vqx6) (oi:=?oqx6) ?hqx6 (by kernel_rfl) (by kernel_rfl) (by kernel_rfl) (fun _ _ _ h=>h) (Or.inl ⟨?wqx6,?yqx6⟩) hHeld ?rqx6
   case hqx6=>simp only [gA0,gA1,gA2]; rfl
   case wqx6=>rfl
   case yqx6=>intro w hSw; (try dsimp only at hSw); go_simp; (try with_reducible rfl)
   simp only [Act.put,sA0,sA1,sA2]
   refine wpAnyH_ready (rs:=[6]) (by kernel_rfl) (by simp) ?_
   refine AllReadyH.cons (o:=?oqx7) ?hqx7 (fun K hK=>?sqx7) AllReadyH.nil
   case hqx7=>simp only [gA0,gA1,gA2]; rfl
   go_simp
   refine (vget_any HX.out.sv.vt HF.out.s).mono ?_
   rintro e w4 ⟨A4,n4,c4,rfl,ho4,hk4⟩
   have HX4:=hide (HX.out.no hk4)
   have HO4:=hide (ho4.rebase fun i hi=>Nat.le_trans HX.out.kp.size (ho4.ge i hi))
   have HE5:=hide (HX4.out.two (n:=n) (a:=a) (x:=x) (N:=N) (q:=q) HO4.out HV.out HE0.out HB0.out HCH.out)
   clear ho4 hk4
   go_wp2_with fail
   refine hK.out _ _ (HX4.out.held) (fun hHeld=>?_)
   clear hK K
   try simp only [Act.put,sA0,sA1,sA2]
   refine wpAnyH_take (i:=7) (v:=?vqx8) (oi:=?oqx8) ?hqx8 (by kernel_rfl) (by kernel_rfl) (by kernel_rfl) (fun _ _ _ h=>h) (Or.inl ⟨?wqx8,?yqx8⟩) hHeld ?rqx8
   case hqx8=>simp only [gA0,gA1,gA2]; rfl
   case wqx8=>rfl
   case yqx8=>intro w hSw; (try dsimp only at hSw); go_simp; (try with_reducible rfl)
   simp only [Act.put,sA0,sA1,sA2]
   refine wpAnyH_take (i:=8) (v:=?vqx9) (oi:=?oqx9) ?hqx9 (by kernel_rfl) (by kernel_rfl) (by kernel_rfl) (fun _ _ _ h=>h) (Or.inl ⟨?wqx9,?yqx9⟩) hHeld ?rqx9
   case hqx9=>simp only [gA0,gA1,gA2]; rfl
   case wqx9=>rfl
   case yqx9=>intro w hSw; (try dsimp only at hSw); go_simp; (try with_reducible rfl)
   simp only [Act.put,sA0,sA1,sA2]
   refine wpAnyH_take (i:=9) (v:=?vqx10) (oi:=?oqx10) ?hqx10 (by kernel_rfl) (by kernel_rfl) (by kernel_rfl) (fun _ _ _ h=>h) (Or.inl ⟨?wqx10,?yqx10⟩) hHeld ?rqx10
   case hqx10=>simp only [gA0,gA1,gA2]; rfl
   case wqx10=>rfl
   case yqx10=>intro w hSw; (try dsimp only at hSw); go_simp; (try with_reducible rfl)
   simp only [Act.put,sA0,sA1,sA2]
   refine wpAnyH_take (i:=10) (v:=?vqx11) (oi:=?oqx11) ?hqx11 (by kernel_rfl) (by kernel_rfl) (by kernel_rfl) (fun _ _ _ h=>h) (Or.inl ⟨?wqx11,?yqx11⟩) hHeld ?rqx11
   case hqx11=>simp only [gA0,gA1,gA2]; rfl
   case wqx11=>rfl
   case yqx11=>intro w hSw; (try dsimp only at hSw); go_simp; (try with_reducible rfl)
   simp only [Act.put,sA0,sA1,sA2]
   refine wpAnyH_ready (rs:=[11]) (by kernel_rfl) (by simp) ?_
   refine AllReadyH.cons (o:=?oqx12) ?hqx12 (fun K hK=>?sqx12) AllReadyH.nil
   case hqx12=>simp only [gA0,gA1,gA2]; rfl
   have z2:=HX4.out.pb.cell.2.2
   have f2:=HX4.out.pb.fz 2
   go_simp
   refine hK.out _ _ (HX4.out.held1 _ _) (fun hHeld=>?_)
   clear hK K
   try simp only [Act.put,sA0,sA1,sA2]
   refine wpAnyH_take (i:=12) (v:=?vqx13) (oi:=?oqx13) ?hqx13 (by kernel_rfl) (by kernel_rfl) (by kernel_rfl) (fun _ _ _ h=>h) (Or.inl ⟨?wqx13,?yqx13⟩) hHeld ?rqx13
   case hqx13=>simp only [gA0,gA1,gA2]; rfl
   case wqx13=>rfl
   case yqx13=>intro w hSw; (try dsimp only at hSw); go_simp; (try with_reducible rfl)
   simp only [Act.put,sA0,sA1,sA2]
   refine wpAnyH_ready (rs:=[13]) (by kernel_rfl) (by simp) ?_
   refine AllReadyH.cons (o:=?oqx14) ?hqx14 (fun K hK=>?sqx14) AllReadyH.nil
   case hqx14=>simp only [gA0,gA1,gA2]; rfl
   have z1:=HX4.out.pb.cell.2.1
   have f1:=HX4.out.pb.fz 1
   go_simp
   refine hK.out _ _ (HE5.out.held) (fun hHeld=>?_)
   clear hK K
   try simp only [Act.put,sA0,sA1,sA2]
   refine wpAnyH_done (by kernel_rfl) ?_ _
   refine NoPanic.normal ?_
   clear hHeld
   go_wp2_with fail
   go_meet
   exact ⟨rfl,_,_,_,_,HE5.out⟩
  by_cases e4:q.kind=4
  ·have t4:(q.kind == 4)=true:=by simp [e4]
   have t2:(q.kind == 2)=false:=by simp [e2]
   have t3:(q.kind == 3)=false:=by simp [e3]
   have HV:=hide (ndV_n (V:=N.V) (q:=q) (by omega) (by omega))
   have HE0:=hide (ndE_4 (n:=n) (a:=a) (V:=N.V) e4)
   have HB0:=hide (ndB_4 (n:=n) (a:=a) (x:=x) (V:=N.V) e4)
   have HCH:=hide (chgK_no (k:=q.kind) (by omega) (by omega))
   clear e4
   obtain ⟨z0,z1,z2,z3,z4,z5,z6,z7⟩:=HX.out.qb.cell
   go_wp2_with fail
   refine (help_any HX.out.sv HD.out HF.out HZ.out.z (.slice A m c) ⟨_,_,_,rfl⟩).mono ?_
   rintro e w4 ⟨A4,n4,c4,rfl,ho4,hk4⟩
   have HX4:=hide (HX.out.no hk4)
   have HO4:=hide (ho4.rebase fun i hi=>Nat.le_trans HX.out.kp.size (ho4.ge i hi))
   have HE5:=hide (HX4.out.two (n:=n) (a:=a) (x:=x) (N:=N) (q:=q) HO4.out HV.out HE0.out HB0.out HCH.out)
   clear ho4 hk4 z0 z1 z2 z3 z4 z5 z6 z7
   obtain ⟨y0,y1,y2⟩:=HX4.out.pb.cell
   have f1:=HX4.out.pb.fz 1
   have f2:=HX4.out.pb.fz 2
   go_wp2_with fail
   go_meet
   exact ⟨rfl,_,_,_,_,HE5.out⟩
  by_cases e5:q.kind=5
  ·have t5:(q.kind == 5)=true:=by simp [e5]
   have t2:(q.kind == 2)=false:=by simp [e2]
   have t3:(q.kind == 3)=false:=by simp [e3]
   have t4:(q.kind == 4)=false:=by simp [e4]
   have HV:=hide (ndV_5 (V:=N.V) e5)
   have HE0:=hide (ndE_5 (n:=n) (a:=a) (V:=N.V) e5)
   have HB0:=hide (ndB_n (n:=n) (a:=a) (x:=x) (V:=N.V) (q:=q) (by omega) (by omega))
   clear e5
   go_wp2_with fail
   refine wp_region_noPanic ?_
   refine wp_region_held_drew (S:=fun w'=>w'.cell? ⟨g,2,none⟩=some (.pointer (some ⟨gv,0,none⟩))∧w'.cell? ⟨B0,2,none⟩=some (.int .u32 (cO q.s:Int))∧w'.cell? ⟨B0,3,none⟩=some (.int .u16 (cS q.s:Int))∧w'.cell? ⟨B0,4,none⟩=some (.int .u16 (cL q.s:Int))∧w'.cell? ⟨B0,5,none⟩=some (.int .u32 (cG q.s:Int))∧w'.cell? ⟨B0,7,none⟩=some (.slice A m c)) (by kernel_rfl) (HX.out.held) (fun hHeld=>?_)
   have HX:=hide (HX.out.no (Kp.refl No w3).drew)
   have HBT:=hide (HBT.out.no (Kp.refl No w3).drew)
   generalize w3.drew=wd at HX HBT hHeld ⊢
   refine wpAnyH_take (i:=0) (v:=?vrx1) (oi:=?orx1) ?hrx1 (by kernel_rfl) (by kernel_rfl) (by kernel_rfl) (fun _ _ _ h=>h) (Or.inl ⟨?wrx1,?yrx1⟩) hHeld ?rrx1
   case hrx1=>simp only [gA0,gA1,gA2]; rfl
   case wrx1=>rfl
   case yrx1=>intro w hSw; (try dsimp only at hSw); go_simp; (try with_reducible rfl)
   simp only [Act.put,sA0,sA1,sA2]
   refine wpAnyH_take (i:=1) (v:=?vrx2) (oi:=?orx2) ?hrx2 (by kernel_rfl) (by kernel_rfl) (by kernel_rfl) (fun _ _ _ h=>h) (Or.inl ⟨?wrx2,?yrx2⟩) hHeld ?rrx2
   case hrx2=>simp only [gA0,gA1,gA2]; rfl
   case wrx2=>rfl
   case yrx2=>intro w hSw; (try dsimp only at hSw); go_simp; (try with_reducible rfl)
   simp only [Act.put,sA0,sA1,sA2]
   refine wpAnyH_take (i:=2) (v:=?vrx3) (oi:=?orx3) ?hrx3 (by kernel_rfl) (by kernel_rfl) (by kernel_rfl) (fun _ _ _ h=>h) (Or.inl ⟨?wrx3,?yrx3⟩) hHeld ?rrx3
   case hrx3=>simp only [gA0,gA1,gA2]; rfl
   case wrx3=>rfl
   case yrx3=>intro w hSw; (try dsimp only at hSw); go_simp; (try with_reducible rfl)
   simp only [Act.put,sA0,sA1,sA2]
   refine wpAnyH_take (i:=3) (v:=?vrx4) (oi:=?orx4) ?hrx4 (by kernel_rfl) (by kernel_rfl) (by kernel_rfl) (fun _ _ _ h=>h) (Or.inl ⟨?wrx4,?yrx4⟩) hHeld ?rrx4
   case hrx4=>simp only [gA0,gA1,gA2]; rfl
   case wrx4=>rfl
   case yrx4=>intro w hSw; (try dsimp only at hSw); go_simp; (try with_reducible rfl)
   simp only [Act.put,sA0,sA1,sA2]
   refine wpAnyH_take (i:=4) (v:=?vrx5) (oi:=?orx5) ?hrx5 (by kernel_rfl) (by kernel_rfl) (by kernel_rfl) (fun _ _ _ h=>h) (Or.inl ⟨?wrx5,?yrx5⟩) hHeld ?rrx5
   case hrx5=>simp only [gA0,gA1,gA2]; rfl
   case wrx5=>rfl
   case yrx5=>intro w hSw; (try dsimp only at hSw); go_simp; (try with_reducible rfl)
   simp only [Act.put,sA0,sA1,sA2]
   refine wpAnyH_take (i:=5) (v:=?vrx6) (oi:=?orx6) ?hrx6 (by kernel_rfl) (by kernel_rfl) (by kernel_rfl) (fun _ _ _ h=>h) (Or.inl ⟨?wrx6,?yrx6⟩) hHeld ?rrx6
   case hrx6=>simp only [gA0,gA1,gA2]; rfl
   case wrx6=>rfl
   case yrx6=>intro w hSw; (try dsimp only at hSw); go_simp; (try with_reducible rfl)
   simp only [Act.put,sA0,sA1,sA2]
   refine wpAnyH_ready (rs:=[6]) (by kernel_rfl) (by simp) ?_
   refine AllReadyH.cons (o:=?orx7) ?hrx7 (fun K hK=>?srx7) AllReadyH.nil
   case hrx7=>simp only [gA0,gA1,gA2]; rfl
   go_simp
   refine (vdrop_any HX.out.sv.vt HF.out.s (by have:=HZ.out.l; show N.V.D.loose.length+1≤1000000; omega) HZ.out.s).mono ?_
   rintro e w4 ⟨rfl,⟨b1,hv1⟩,hk1⟩
   have HX4:=hide (HX.out.call hv1 hk1)
   have HE5:=hide (HX4.out.one (n:=n) (a:=a) (x:=x) (N:=N) (q:=q) (V1:=N.V.dr q.s) (er:=N.V.drE q.s) HV.out HE0.out HB0.out)
   clear hv1 hk1
   go_wp2_with fail
   refine hK.out _ _ (HX4.out.held) (fun hHeld=>?_)
   clear hK K
   try simp only [Act.put,sA0,sA1,sA2]
   refine wpAnyH_take (i:=7) (v:=?vrx8) (oi:=?orx8) ?hrx8 (by kernel_rfl) (by kernel_rfl) (by kernel_rfl) (fun _ _ _ h=>h) (Or.inl ⟨?wrx8,?yrx8⟩) hHeld ?rrx8
   case hrx8=>simp only [gA0,gA1,gA2]; rfl
   case wrx8=>rfl
   case yrx8=>intro w hSw; (try dsimp only at hSw); go_simp; (try with_reducible rfl)
   simp only [Act.put,sA0,sA1,sA2]
   refine wpAnyH_ready (rs:=[8]) (by kernel_rfl) (by simp) ?_
   refine AllReadyH.cons (o:=?orx9) ?hrx9 (fun K hK=>?srx9) AllReadyH.nil
   case hrx9=>simp only [gA0,gA1,gA2]; rfl
   have z1:=HX4.out.pb.cell.2.1
   have f1:=HX4.out.pb.fz 1
   go_simp
   refine hK.out _ _ (HE5.out.held) (fun hHeld=>?_)
   clear hK K
   try simp only [Act.put,sA0,sA1,sA2]
   refine wpAnyH_done (by kernel_rfl) ?_ _
   refine NoPanic.normal ?_
   clear hHeld
   go_wp2_with fail
   go_meet
   exact ⟨rfl,_,_,_,_,HE5.out⟩
  by_cases e6:q.kind=6
  ·have t6:(q.kind == 6)=true:=by simp [e6]
   have t2:(q.kind == 2)=false:=by simp [e2]
   have t3:(q.kind == 3)=false:=by simp [e3]
   have t4:(q.kind == 4)=false:=by simp [e4]
   have t5:(q.kind == 5)=false:=by simp [e5]
   have HV:=hide (ndV_n (V:=N.V) (q:=q) (by omega) (by omega))
   have HE0:=hide (ndE_6 (n:=n) (a:=a) (V:=N.V) e6)
   have HB0:=hide (ndB_n (n:=n) (a:=a) (x:=x) (V:=N.V) (q:=q) (by omega) (by omega))
   clear e6
   go_wp2_with fail
   refine wp_region_noPanic ?_
   refine wp_region_held_drew (S:=fun w'=>w'.cell? ⟨g,2,none⟩=some (.pointer (some ⟨gv,0,none⟩))∧w'.cell? ⟨B0,2,none⟩=some (.int .u32 (cO q.s:Int))∧w'.cell? ⟨B0,3,none⟩=some (.int .u16 (cS q.s:Int))∧w'.cell? ⟨B0,4,none⟩=some (.int .u16 (cL q.s:Int))∧w'.cell? ⟨B0,5,none⟩=some (.int .u32 (cG q.s:Int))∧w'.cell? ⟨B0,7,none⟩=some (.slice A m c)) (by kernel_rfl) (HX.out.held) (fun hHeld=>?_)
   have HX:=hide (HX.out.no (Kp.refl No w3).drew)
   have HBT:=hide (HBT.out.no (Kp.refl No w3).drew)
   generalize w3.drew=wd at HX HBT hHeld ⊢
   refine wpAnyH_take (i:=0) (v:=?vsx1) (oi:=?osx1) ?hsx1 (by kernel_rfl) (by kernel_rfl) (by kernel_rfl) (fun _ _ _ h=>h) (Or.inl ⟨?wsx1,?ysx1⟩) hHeld ?rsx1
   case hsx1=>simp only [gA0,gA1,gA2]; rfl
   case wsx1=>rfl
   case ysx1=>intro w hSw; (try dsimp only at hSw); go_simp; (try with_reducible rfl)
   simp only [Act.put,sA0,sA1,sA2]
   refine wpAnyH_take (i:=1) (v:=?vsx2) (oi:=?osx2) ?hsx2 (by kernel_rfl) (by kernel_rfl) (by kernel_rfl) (fun _ _ _ h=>h) (Or.inl ⟨?wsx2,?ysx2⟩) hHeld ?rsx2
   case hsx2=>simp only [gA0,gA1,gA2]; rfl
   case wsx2=>rfl
   case ysx2=>intro w hSw; (try dsimp only at hSw); go_simp; (try with_reducible rfl)
   simp only [Act.put,sA0,sA1,sA2]
   refine wpAnyH_take (i:=2) (v:=?vsx3) (oi:=?osx3) ?hsx3 (by kernel_rfl) (by kernel_rfl) (by kernel_rfl) (fun _ _ _ h=>h) (Or.inl ⟨?wsx3,?ysx3⟩) hHeld ?rsx3
   case hsx3=>simp only [gA0,gA1,gA2]; rfl
   case wsx3=>rfl
   case ysx3=>intro w hSw; (try dsimp only at hSw); go_simp; (try with_reducible rfl)
   simp only [Act.put,sA0,sA1,sA2]
   refine wpAnyH_take (i:=3) (v:=?vsx4) (oi:=?osx4) ?hsx4 (by kernel_rfl) (by kernel_rfl) (by kernel_rfl) (fun _ _ _ h=>h) (Or.inl ⟨?wsx4,?ysx4⟩) hHeld ?rsx4
   case hsx4=>simp only [gA0,gA1,gA2]; rfl
   case wsx4=>rfl
   case ysx4=>intro w hSw; (try dsimp only at hSw); go_simp; (try with_reducible rfl)
   simp only [Act.put,sA0,sA1,sA2]
   refine wpAnyH_take (i:=4) (v:=?vsx5) (oi:=?osx5) ?hsx5 (by kernel_rfl) (by kernel_rfl) (by kernel_rfl) (fun _ _ _ h=>h) (Or.inl ⟨?wsx5,?ysx5⟩) hHeld ?rsx5
   case hsx5=>simp only [gA0,gA1,gA2]; rfl
   case wsx5=>rfl
   case ysx5=>intro w hSw; (try dsimp only at hSw); go_simp; (try with_reducible rfl)
   simp only [Act.put,sA0,sA1,sA2]
   refine wpAnyH_take (i:=5) (v:=?vsx6) (oi:=?osx6) ?hsx6 (by kernel_rfl) (by kernel_rfl) (by kernel_rfl) (fun _ _ _ h=>h) (Or.inl ⟨?wsx6,?ysx6⟩) hHeld ?rsx6
   case hsx6=>simp only [gA0,gA1,gA2]; rfl
   case wsx6=>rfl
   case ysx6=>intro w hSw; (try dsimp only at hSw); go_simp; (try with_reducible rfl)
   simp only [Act.put,sA0,sA1,sA2]
   refine wpAnyH_ready (rs:=[6]) (by kernel_rfl) (by simp) ?_
   refine AllReadyH.cons (o:=?osx7) ?hsx7 (fun K hK=>?ssx7) AllReadyH.nil
   case hsx7=>simp only [gA0,gA1,gA2]; rfl
   go_simp
   refine (vget_any HX.out.sv.vt HF.out.s).mono ?_
   rintro e w4 ⟨A4,n4,c4,rfl,ho4,hk4⟩
   have HX4:=hide (HX.out.no hk4)
   have HE5:=hide (HX4.out.one (n:=n) (a:=a) (x:=x) (N:=N) (q:=q) (V1:=N.V) (er:=N.V.gtE q.s) HV.out HE0.out HB0.out)
   clear ho4 hk4
   go_wp2_with fail
   refine hK.out _ _ (HX4.out.held) (fun hHeld=>?_)
   clear hK K
   try simp only [Act.put,sA0,sA1,sA2]
   refine wpAnyH_take (i:=7) (v:=?vsx8) (oi:=?osx8) ?hsx8 (by kernel_rfl) (by kernel_rfl) (by kernel_rfl) (fun _ _ _ h=>h) (Or.inl ⟨?wsx8,?ysx8⟩) hHeld ?rsx8
   case hsx8=>simp only [gA0,gA1,gA2]; rfl
   case wsx8=>rfl
   case ysx8=>intro w hSw; (try dsimp only at hSw); go_simp; (try with_reducible rfl)
   simp only [Act.put,sA0,sA1,sA2]
   refine wpAnyH_take (i:=8) (v:=?vsx9) (oi:=?osx9) ?hsx9 (by kernel_rfl) (by kernel_rfl) (by kernel_rfl) (fun _ _ _ h=>h) (Or.inl ⟨?wsx9,?ysx9⟩) hHeld ?rsx9
   case hsx9=>simp only [gA0,gA1,gA2]; rfl
   case wsx9=>rfl
   case ysx9=>intro w hSw; (try dsimp only at hSw); go_simp; (try with_reducible rfl)
   simp only [Act.put,sA0,sA1,sA2]
   refine wpAnyH_take (i:=9) (v:=?vsx10) (oi:=?osx10) ?hsx10 (by kernel_rfl) (by kernel_rfl) (by kernel_rfl) (fun _ _ _ h=>h) (Or.inl ⟨?wsx10,?ysx10⟩) hHeld ?rsx10
   case hsx10=>simp only [gA0,gA1,gA2]; rfl
   case wsx10=>rfl
   case ysx10=>intro w hSw; (try dsimp only at hSw); go_simp; (try with_reducible rfl)
   simp only [Act.put,sA0,sA1,sA2]
   refine wpAnyH_take (i:=10) (v:=?vsx11) (oi:=?osx11) ?hsx11 (by kernel_rfl) (by kernel_rfl) (by kernel_rfl) (fun _ _ _ h=>h) (Or.inl ⟨?wsx11,?ysx11⟩) hHeld ?rsx11
   case hsx11=>simp only [gA0,gA1,gA2]; rfl
   case wsx11=>rfl
   case ysx11=>intro w hSw; (try dsimp only at hSw); go_simp; (try with_reducible rfl)
   simp only [Act.put,sA0,sA1,sA2]
   refine wpAnyH_ready (rs:=[11]) (by kernel_rfl) (by simp) ?_
   refine AllReadyH.cons (o:=?osx12) ?hsx12 (fun K hK=>?ssx12) AllReadyH.nil
   case hsx12=>simp only [gA0,gA1,gA2]; rfl
   have z1:=HX4.out.pb.cell.2.1
   have f1:=HX4.out.pb.fz 1
   go_simp
   refine hK.out _ _ (HE5.out.held) (fun hHeld=>?_)
   clear hK K
   try simp only [Act.put,sA0,sA1,sA2]
   refine wpAnyH_done (by kernel_rfl) ?_ _
   refine NoPanic.normal ?_
   clear hHeld
   go_wp2_with fail
   go_meet
   exact ⟨rfl,_,_,_,_,HE5.out⟩
  have t2:(q.kind == 2)=false:=by simp [e2]
  have t3:(q.kind == 3)=false:=by simp [e3]
  have t4:(q.kind == 4)=false:=by simp [e4]
  have t5:(q.kind == 5)=false:=by simp [e5]
  have t6:(q.kind == 6)=false:=by simp [e6]
  have HE5:=hide (HX.out.zero (n:=n) (a:=a) (x:=x) (N:=N) (q:=q) (V1:=N.V) (ndV_n e2 e5) (ndE_n e2 e3 e4 e5 e6) (ndB_n e3 e4))
  go_wp2_with fail
  go_meet
  exact ⟨rfl,_,_,_,_,HE5.out⟩
 case rest =>
 obtain ⟨rfl,gv1,b1,rv1,u,hE⟩:=hcut
 obtain ⟨A5,n5,c5,rfl⟩:=hE.ow.bts.form
 have HE:=hide hE
 obtain ⟨p0,p1,p2⟩:=hE.pb.cell
 have r0:=hE.rb.fz 0
 have r1:=hE.rb.fz 1
 have r2:=hE.rb.fz 2
 obtain ⟨z0,z1,z2⟩:=hE.rb.cell
 obtain ⟨x0',x1',x2'⟩:=(hE.rb.all (.int .u64 (q.num:Int)) (.int .i64 (ndE n a N.V q:Int)) (.slice A5 n5 c5)).cell
 have HCL:=hide (And.intro x0' (And.intro x1' x2'))
 have HF5:=hide hE.fin
 clear hE x0' x1' x2'
 go_wp2_with fail
 clear p0 p1 p2 r0 r1 r2 z0 z1 z2
 obtain ⟨q0,q1,q2⟩:=HCL.out
 refine bodyPost_ret (v:=rplV (ndP n a x N.V q) (.slice A5 n5 c5)) (by simp [results,Tryz.results89,go_sem,ndP,q0,q1,q2]) rfl ?_
 exact HF5.out
end Go.Proofs.YtnfcfdhlmeimhaaGreat
