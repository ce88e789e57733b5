/- Package server's remember, as a contract over memory (printed by tools/gen_ndg.py); Package server's answer, as a contract over memory. -/
import Derived.Test.YtnfcfdhlmeimhaaGreatSpav
import Derived.Test.YtnfcfdhlmeimhaaGreatSpay
import Derived.Test.YtnfcfdhlmeimhaaGreatSpac
import Derived.Deep.DeepCutAuto
import Derived.Test.YtnfcfdhlmeimhaaGreatSpaz
namespace Go.Proofs.YtnfcfdhlmeimhaaGreat
open Go.RowKit
set_option linter.unusedVariables false
set_option linter.unusedSimpArgs false
set_option maxRecDepth 20000
/-- What remember knows: there is room for one more; the reply's box at B0. -/
structure RmW (w:World) (F F1:Nat→Prop) (B n k:Nat) (x:Nat→UInt8) (g gc gd gv b:Nat) (rv:Value) (N:Nd) (sn:List Rp) (p:Rp) (B0:Nat) (wr:World):Prop where
 sv:SvR wr F1 B n k x g gc gd gv b rv ⟨N.V,sn,N.done⟩
 up:∀ z,F1 z→Up F w z∧z≠B0
 few:sn.length≤31
 eq:remL N.sn p=sn ++ [p]
 bp:Bx3 81 wr B0 (.int .u64 (p.num:Int)) (.int .i64 p.e) (.slice none 0 0)
 kp:Kp F w wr
 le:w.heap.size≤B0
 bb:B≤w.heap.size
 fb:∀ z,F z→B≤z
 po:Nd.RpOk p
section
variable {w wr w1 w5:World} {F F1:Nat→Prop} {B n k g gc gd gv b B0:Nat} {x:Nat→UInt8} {rv:Value} {N:Nd} {sn:List Rp} {p:Rp}
theorem RmW.no (h:RmW w F F1 B n k x g gc gd gv b rv N sn p B0 wr) (hk:Kp No wr w1):RmW w F F1 B n k x g gc gd gv b rv N sn p B0 w1 :=
 ⟨h.sv.no hk,h.up,h.few,h.eq,h.bp.no hk,h.kp.trans' (hk.of_no F),h.le,h.bb,h.fb,h.po⟩
theorem RmW.blk3 (h:RmW w F F1 B n k x g gc gd gv b rv N sn p B0 wr):wr.cell? ⟨g,3,none⟩=some rv:=h.sv.blk.cell.2.2.2.1
/-- The reply has been appended; the node's cell is to be written. -/
theorem RmW.done {A1:Option Addr} {n1 c1 n5 c5:Nat} {A5:Option Addr} (h:RmW w F F1 B n k x g gc gd gv b (.slice A1 n1 c1) N sn p B0 wr) (hn:n1=sn.length) (hn5:n5=n1+1) (ha:AppT (wr.alloc (.cells #[.int .u64 (p.num:Int),.int .i64 p.e,.slice none 0 0] 81)) 0 81 3 (.slice A1 n1 c1) n1 (rpC sn) 1 [.int .u64 (p.num:Int),.int .i64 p.e,.slice none 0 0] (.slice A5 n5 c5) w5) :
  (w5.cell? ⟨g,3,none⟩=some (.slice A1 n1 c1)∧w5.frozen? ⟨g,3,none⟩=false∧(w5.cell? ⟨g,3,none⟩=some (.slice A1 n1 c1)∧w5.cell? ⟨B0,0,none⟩=some (.int .u64 (p.num:Int))∧w5.cell? ⟨B0,1,none⟩=some (.int .i64 p.e)∧w5.cell? ⟨B0,2,none⟩=some (.slice none 0 0)))∧((w5.setCell ⟨g,3,none⟩ (.slice A5 n5 c5)).cell? ⟨B0,0,none⟩=some (.int .u64 (p.num:Int))∧(w5.setCell ⟨g,3,none⟩ (.slice A5 n5 c5)).cell? ⟨B0,1,none⟩=some (.int .i64 p.e)∧(w5.setCell ⟨g,3,none⟩ (.slice A5 n5 c5)).cell? ⟨B0,2,none⟩=some (.slice none 0 0)) ∧
  SvPost w F B n k x g gc gd ⟨N.V,remL N.sn p,N.done⟩ (.returned (.tuple #[])) (.returned (.tuple #[])) (w5.setCell ⟨g,3,none⟩ (.slice A5 n5 c5)):=by
 have q1:=Kp.alloc No wr (.cells #[.int .u64 (p.num:Int),.int .i64 p.e,.slice none 0 0] 81)
 generalize hw4:wr.alloc (.cells #[.int .u64 (p.num:Int),.int .i64 p.e,.slice none 0 0] 81)=w4 at ha q1
 have h1:=h.no q1
 have hbp:=h1.bp
 have hsz:∀ q,(Value.slice A1 n1 c1).ownBlock=some q→q≠B0:=fun q e=>(h.up q (h.sv.rf q e)).2
 have b5:=h1.sv.blk.keep ha.kp h1.sv.ng
 have p5:=h1.bp.keep ha.kp fun e=>hsz _ e rfl
 have hc:rpC sn ++ [.int .u64 (p.num:Int),.int .i64 p.e,.slice none 0 0]=rpC (sn ++ [p]):=by rw [rpC_app]; rfl
 have hr:=ha.own
 rw [hc,hn,show sn.length+1=(sn ++ [p]).length by simp] at hr
 have hsv:=h1.sv.reps (sn:=sn ++ [p]) hr ha.kp (fun q e=>by
  rcases ha.at_ with f | f
  ·exact .inl (by rw [← f]; exact e)
  ·rw [f] at e
   injection e with e
   exact .inr (by omega)) (by simp; exact h.few) (fun r hr=>by
  rcases List.mem_append.1 hr with m | m
  ·exact h.sv.ok.all r m
  ·simp at m
   subst m
   exact h.po)
 have K:Kp (fun z=>z=g) w5 (w5.setCell ⟨g,3,none⟩ (.slice A5 n5 c5)):=Kp.setCell (S:=fun z=>z=g) (p:=⟨g,3,none⟩) rfl _
 have hle:=h.le
 have hbb:=h.bb
 have hz:=h1.kp.size
 refine ⟨⟨b5.cell.2.2.2.1,b5.fz 3,b5.cell.2.2.2.1,p5.cell⟩,(p5.keep K fun e=>(h.up g h.sv.fg).2 e.symm).cell,rfl,⟨gv,b,.slice A5 n5 c5,?_⟩,?_⟩
 ·rw [h.eq]
  refine hsv.mono (fun z f=>?_) fun z f=>?_
  ·rcases f with f | f
   ·exact (h.up z f).1
   ·exact .inr (by omega)
  ·rcases f with f | f
   ·exact h.fb z f
   ·omega
 ·exact h1.kp.trans ((ha.kp.mono fun z e=>(h.up z (h.sv.rf z e)).1).trans' (K.mono fun z e=>by subst e; exact (h.up z h.sv.fg).1))
end
set_option maxHeartbeats 4000000 in
theorem srem_any {w:World} {F:Nat→Prop} {B n k g gc gd gv b:Nat} {x:Nat→UInt8} {rv:Value} {N:Nd} {p:Rp} (h:SvR w F B n k x g gc gd gv b rv N) (hp:Nd.RpOk p) :
  Calls Tryz.prog 90 #[.pointer (some ⟨g,0,none⟩),rplV p (.slice none 0 0)] w (SvPost w F B n k x g gc gd ⟨N.V,remL N.sn p,N.done⟩ (.returned (.tuple #[]))):=by
 have k0:=Kp.alloc No w (.cells #[.int .u64 (p.num:Int),.int .i64 p.e,.slice none 0 0] 81)
 have HB:=hide (Bx3.new w 81 (.int .u64 (p.num:Int)) (.int .i64 p.e) (.slice none 0 0))
 have HS:=hide (h.lt.no k0)
 have HK:=hide k0
 have HX:Hid (B≤w.heap.size∧(∀ z,F z→B≤z)∧Nd.RpOk p∧F g):=⟨h.cd.bw,h.fb,hp,h.fg⟩
 obtain ⟨A,c,rfl⟩:=h.rp.form
 have hfew:=h.ok.few
 have HOW:=hide (h.rp.no k0)
 clear h hp k0
 go_enter Tryz.func90,Tryz.ntmps90
 go_upto_region 1 with (fail)
 generalize w.alloc (.cells #[.int .u64 (p.num:Int),.int .i64 p.e,.slice none 0 0] 81)=w0 at HB HS HK HOW ⊢
 obtain ⟨B0,hB0⟩:∃ B0,B0=w.heap.size:=⟨_,rfl⟩
 rw [← hB0] at HB ⊢
 have HB0:=hide hB0
 clear hB0
 obtain ⟨ln,hln⟩:∃ ln,ln=N.sn.length:=⟨_,rfl⟩
 rw [← hln] at HS HOW hfew
 have HLN:=hide hln
 clear hln
 have z3:=HS.out.blk.cell.2.2.2.1
 have zf:=HS.out.blk.fz 3
 go_upto_if 9 with (fail)
 go_cut [8] (fun v8 wx=>v8=.int .i64 (ln:Int)∧∃ F1 rv1 sn1,RmW w F F1 B n k x g gc gd gv b rv1 N sn1 p B0 wx)
 case first =>
  by_cases hl:ln=32
  ·subst hl
   obtain ⟨r,rfl,_⟩:=HOW.out.some_ (by have:=HLN.out; omega)
   have HLL:Hid (N.sn.length=32):=HLN.out.symm
   have HOW2:Hid (OwnT w0 0 81 3 (.slice (some ⟨r,0,none⟩) 32 c) 32 (rpC N.sn)):=HOW.out
   go_wp2_with fail
   refine (sdel_any HOW2.out HLL.out).mono ?_
   rintro e w2 ⟨rfl,ho,hk⟩
   have y3:=(HS.out.blk.keep hk fun e=>HS.out.ng (by rw [e]; rfl)).cell.2.2.2.1
   have yf:=(HS.out.blk.keep hk fun e=>HS.out.ng (by rw [e]; rfl)).fz 3
   have hl31:(N.sn.drop 1).length=31:=by rw [List.length_drop,HLL.out]
   have hk':Kp (fun q=>(Value.slice (some ⟨r,0,none⟩) 32 c).ownBlock=some q) w0 w2:=hk.mono fun q e=>by subst e; rfl
   have hsv:=HS.out.reps (sn:=N.sn.drop 1) (rv1:=.slice (some ⟨r,0,none⟩) 31 c) (by rw [hl31]; exact ho) hk' (fun q e=>.inl e) (by omega) (fun q hq=>HS.out.ok.all q (List.mem_of_mem_drop hq))
   have K:Kp (fun z=>z=g) w2 (w2.setCell ⟨g,3,none⟩ (.slice (some ⟨r,0,none⟩) 31 c)):=Kp.setCell (S:=fun z=>z=g) (p:=⟨g,3,none⟩) rfl _
   have hg:=HS.out.fg
   have hrF:=HS.out.rf r rfl
   have hb0:=HB0.out
   have hzz:=HK.out.size
   have hblt:=HB.out.lt
   have HRM:Hid (RmW w F (Up (fun z=>F z∧z < w.heap.size) w0) B n k x g gc gd gv b (.slice (some ⟨r,0,none⟩) 31 c) N (N.sn.drop 1) p B0 (w2.setCell ⟨g,3,none⟩ (.slice (some ⟨r,0,none⟩) 31 c))):=by
    refine ⟨hsv,fun z f=>?_,by omega,by unfold remL; rw [if_pos HLL.out],((HB.out.keep hk (by omega)).keep K (by omega)),((HK.out.of_no F).trans (hk.mono fun z e=>.inl (by subst e; exact hrF.1))).trans (K.mono fun z e=>.inl (by subst e; exact hg.1)),by omega,HX.out.1,HX.out.2.1,HX.out.2.2.1⟩
    rcases f with f | f
    ·exact ⟨.inl f.1,by omega⟩
    ·exact ⟨.inr (by omega),by omega⟩
   clear hsv K hg hrF hb0 hzz hblt hk' hl31 ho hk z3 zf
   go_wp2_with fail
   go_meet
   exact ⟨rfl,_,_,_,HRM.out⟩
  ·have hne:((ln:Int) == 32)=false:=beq_eq_false_iff_ne.2 (by omega)
   have hb0:=HB0.out
   have hll:=HLN.out
   have HRM:Hid (RmW w F (fun z=>F z∧z < w.heap.size) B n k x g gc gd gv b (.slice A ln c) N N.sn p B0 w0) :=
    ⟨HS.out,fun z f=>⟨.inl f.1,by omega⟩,by omega,by unfold remL; rw [if_neg (by omega)],HB.out,HK.out.of_no F,by omega,HX.out.1,HX.out.2.1,HX.out.2.2.1⟩
   clear hb0 hll
   go_wp2_with fail
   go_meet
   exact ⟨rfl,_,_,_,HRM.out⟩
 case rest =>
 obtain ⟨rfl,F1,rv1,sn1,hR⟩:=hcut
 obtain ⟨A1,c1,rfl⟩:=hR.sv.rp.form
 obtain ⟨n1,hn1⟩:∃ n1,n1=sn1.length:=⟨_,rfl⟩
 have HN1:Hid (n1=(⟨N.V,sn1,N.done⟩:Nd).sn.length):=hn1
 have HLT:Hid (n1≤31):=by show n1≤31; rw [hn1]; exact hR.few
 rw [show (⟨N.V,sn1,N.done⟩:Nd).sn.length=n1 from hn1.symm] at hR
 have HR:=hide (hR.no (Kp.refl No wc).drew)
 clear hR hn1
 go_wp2_with fail
 refine wp_region_noPanic ?_
 refine wp_region_held_drew (S:=fun w'=>w'.cell? ⟨B0,0,none⟩=some (.int .u64 (p.num:Int))∧w'.cell? ⟨B0,1,none⟩=some (.int .i64 p.e)∧w'.cell? ⟨B0,2,none⟩=some (.slice none 0 0)) (by kernel_rfl) (⟨HR.out.bp.cell.1,HR.out.bp.cell.2.1,HR.out.bp.cell.2.2⟩) (fun hHeld=>?_)
 generalize wc.drew=wd at HR hHeld ⊢
 refine wpAnyH_take (i:=0) (v:=?vdx1) (oi:=?odx1) ?hdx1 (by kernel_rfl) (by kernel_rfl) (by kernel_rfl) (fun _ _ _ h=>h) (Or.inl ⟨?wdx1,?ydx1⟩) hHeld ?rdx1
 case hdx1=>simp only [gA0,gA1,gA2]; rfl
 case wdx1=>rfl
 case ydx1=>intro w hSw; (try dsimp only at hSw); go_simp; (try with_reducible rfl)
 simp only [Act.put,sA0,sA1,sA2]
 refine wpAnyH_take (i:=1) (v:=?vdx2) (oi:=?odx2) ?hdx2 (by kernel_rfl) (by kernel_rfl) (by kernel_rfl) (fun _ _ _ h=>h) (Or.inl ⟨?wdx2,?ydx2⟩) hHeld ?rdx2
 case hdx2=>simp only [gA0,gA1,gA2]; rfl
 case wdx2=>rfl
 case ydx2=>intro w hSw; (try dsimp only at hSw); go_simp; (try with_reducible rfl)
 simp only [Act.put,sA0,sA1,sA2]
 refine wpAnyH_take (i:=2) (v:=?vdx3) (oi:=?odx3) ?hdx3 (by kernel_rfl) (by kernel_rfl) (by kernel_rfl) (fun _ _ _ h=>h) (Or.inl ⟨?wdx3,?ydx3⟩) hHeld ?rdx3
 case hdx3=>simp only [gA0,gA1,gA2]; rfl
 case wdx3=>rfl
 case ydx3=>intro w hSw; (try dsimp only at hSw); go_simp; (try with_reducible rfl)
 simp only [Act.put,sA0,sA1,sA2]
 refine wpAnyH_take (i:=3) (v:=?vdx4) (oi:=?odx4) ?hdx4 (by kernel_rfl) (by kernel_rfl) (by kernel_rfl) (fun _ _ _ h=>h) (Or.inl ⟨?wdx4,?ydx4⟩) hHeld ?rdx4
 case hdx4=>simp only [gA0,gA1,gA2]; rfl
 case wdx4=>rfl
 case ydx4=>intro w hSw; (try dsimp only at hSw); go_simp; (try with_reducible rfl)
 simp only [Act.put,sA0,sA1,sA2]
 refine wpAnyH_take (i:=5) (v:=?vdx5) (oi:=?odx5) ?hdx5 (by kernel_rfl) (by kernel_rfl) (by kernel_rfl) (fun _ _ _ h=>h) (Or.inl ⟨?wdx5,?ydx5⟩) hHeld ?rdx5
 case hdx5=>simp only [gA0,gA1,gA2]; rfl
 case wdx5=>rfl
 case ydx5=>intro w hSw; (try dsimp only at hSw); go_simp; (try with_reducible rfl)
 simp only [Act.put,sA0,sA1,sA2]
 refine wpAnyH_ready (rs:=[4,6]) (by kernel_rfl) (by simp) ?_
 refine (AllReadyH.cons (o:=?odx7) ?hdx7 (fun K hK=>?sdx7) (AllReadyH.cons (o:=?odx8) ?hdx8 (fun K hK=>?sdx8) AllReadyH.nil))
 case hdx7=>simp only [gA0,gA1,gA2]; rfl
 case hdx8=>simp only [gA0,gA1,gA2]; rfl
 case sdx7 =>
  have x3:wd.cell? ⟨g,3,none⟩=some (.slice A1 n1 c1):=HR.out.blk3
  go_simp
  refine hK.out _ _ (hHeld) (fun hHeld=>?_)
  clear hK K
  try simp only [Act.put,sA0,sA1,sA2]
  refine wpAnyH_ready (rs:=[6]) (by kernel_rfl) (by simp) ?_
  refine AllReadyH.cons (o:=?odx9) ?hdx9 (fun K hK=>?sdx9) AllReadyH.nil
  case hdx9=>simp only [gA0,gA1,gA2]; rfl
  go_simp
  refine hK.out _ _ (⟨(Kp.alloc No wd (.cells #[.int .u64 (p.num:Int),.int .i64 p.e,.slice none 0 0] 81)).cell HR.out.bp.cell.1 (fun f=>f),(Kp.alloc No wd (.cells #[.int .u64 (p.num:Int),.int .i64 p.e,.slice none 0 0] 81)).cell HR.out.bp.cell.2.1 (fun f=>f),(Kp.alloc No wd (.cells #[.int .u64 (p.num:Int),.int .i64 p.e,.slice none 0 0] 81)).cell HR.out.bp.cell.2.2 (fun f=>f)⟩) (fun hHeld=>?_)
  clear hK K
  try simp only [Act.put,sA0,sA1,sA2]
  refine wpAnyH_ready (rs:=[7]) (by kernel_rfl) (by simp) ?_
  refine AllReadyH.cons (o:=?odx10) ?hdx10 (fun K hK=>?sdx10) AllReadyH.nil
  case hdx10=>simp only [gA0,gA1,gA2]; rfl
  have hI:OwnT (wd.alloc (.cells #[.int .u64 (p.num:Int),.int .i64 p.e,.slice none 0 0] 81)) 0 81 3 (.slice A1 n1 c1) n1 (rpC sn1):=by have:=HR.out.sv.rp.no (Kp.alloc No wd (.cells #[.int .u64 (p.num:Int),.int .i64 p.e,.slice none 0 0] 81)); rw [← HN1.out] at this; exact this
  refine step_appT ty_rp rfl (.tmp 22) (.tmp 24) _ rfl Tryz.underlying93 rfl hI _ _ rfl (nws_three (u0:=.int .u64 (p.num:Int)) (u1:=.int .i64 p.e) (u2:=.slice none 0 0) (by rw [World.cell?_alloc_mark]; rfl) (by rw [World.cell?_alloc_mark]; rfl) (by rw [World.cell?_alloc_mark]; rfl) rfl rfl rfl) (by have:=HLT.out; omega) (Nat.zero_le _) ?_
  intro A5 n5 c5 w5 hn5 ha5
  have HE5:=hide (HR.out.done HN1.out hn5 ha5)
  clear hI ha5 hn5
  have y3:=HE5.out.1.1
  have yf:=HE5.out.1.2.1
  refine hK.out _ _ (HE5.out.1.2.2.2) (fun hHeld=>?_)
  clear hK K
  try simp only [Act.put,sA0,sA1,sA2]
  refine wpAnyH_take (i:=8) (v:=?vdx11) (oi:=?odx11) ?hdx11 (by kernel_rfl) (by kernel_rfl) (by kernel_rfl) (fun _ _ _ h=>h) (Or.inl ⟨?wdx11,?ydx11⟩) hHeld ?rdx11
  case hdx11=>simp only [gA0,gA1,gA2]; rfl
  case wdx11=>rfl
  case ydx11=>intro w hSw; (try dsimp only at hSw); go_simp; (try with_reducible rfl)
  simp only [Act.put,sA0,sA1,sA2]
  refine wpAnyH_take (i:=9) (v:=?vdx12) (oi:=?odx12) ?hdx12 (by kernel_rfl) (by kernel_rfl) (by kernel_rfl) (fun _ _ _ h=>h) (Or.inl ⟨?wdx12,?ydx12⟩) hHeld ?rdx12
  case hdx12=>simp only [gA0,gA1,gA2]; rfl
  case wdx12=>rfl
  case ydx12=>intro w hSw; (try dsimp only at hSw); go_simp; (try with_reducible rfl)
  simp only [Act.put,sA0,sA1,sA2]
  refine wpAnyH_ready (rs:=[10]) (by kernel_rfl) (by simp) ?_
  refine AllReadyH.cons (o:=?odx13) ?hdx13 (fun K hK=>?sdx13) AllReadyH.nil
  case hdx13=>simp only [gA0,gA1,gA2]; rfl
  go_simp
  refine hK.out _ _ (HE5.out.2.1) (fun hHeld=>?_)
  clear hK K
  try simp only [Act.put,sA0,sA1,sA2]
  refine wpAnyH_done (by kernel_rfl) ?_ _
  refine NoPanic.normal ?_
  clear hHeld y3 yf
  go_wp2
  (first | go_end0 | refine bodyPost_ret (results_none rfl _ _ _) rfl ?_)
  exact HE5.out.2.2
 case sdx8 =>
  go_simp
  refine hK.out _ _ (⟨(Kp.alloc No wd (.cells #[.int .u64 (p.num:Int),.int .i64 p.e,.slice none 0 0] 81)).cell HR.out.bp.cell.1 (fun f=>f),(Kp.alloc No wd (.cells #[.int .u64 (p.num:Int),.int .i64 p.e,.slice none 0 0] 81)).cell HR.out.bp.cell.2.1 (fun f=>f),(Kp.alloc No wd (.cells #[.int .u64 (p.num:Int),.int .i64 p.e,.slice none 0 0] 81)).cell HR.out.bp.cell.2.2 (fun f=>f)⟩) (fun hHeld=>?_)
  clear hK K
  try simp only [Act.put,sA0,sA1,sA2]
  refine wpAnyH_ready (rs:=[4]) (by kernel_rfl) (by simp) ?_
  refine AllReadyH.cons (o:=?odx15) ?hdx15 (fun K hK=>?sdx15) AllReadyH.nil
  case hdx15=>simp only [gA0,gA1,gA2]; rfl
  have x3:(wd.alloc (.cells #[.int .u64 (p.num:Int),.int .i64 p.e,.slice none 0 0] 81)).cell? ⟨g,3,none⟩=some (.slice A1 n1 c1):=(Kp.alloc No wd (.cells #[.int .u64 (p.num:Int),.int .i64 p.e,.slice none 0 0] 81)).cell HR.out.blk3 (fun f=>f)
  go_simp
  refine hK.out _ _ (hHeld) (fun hHeld=>?_)
  clear hK K
  try simp only [Act.put,sA0,sA1,sA2]
  refine wpAnyH_ready (rs:=[7]) (by kernel_rfl) (by simp) ?_
  refine AllReadyH.cons (o:=?odx16) ?hdx16 (fun K hK=>?sdx16) AllReadyH.nil
  case hdx16=>simp only [gA0,gA1,gA2]; rfl
  have hI:OwnT (wd.alloc (.cells #[.int .u64 (p.num:Int),.int .i64 p.e,.slice none 0 0] 81)) 0 81 3 (.slice A1 n1 c1) n1 (rpC sn1):=by have:=HR.out.sv.rp.no (Kp.alloc No wd (.cells #[.int .u64 (p.num:Int),.int .i64 p.e,.slice none 0 0] 81)); rw [← HN1.out] at this; exact this
  refine step_appT ty_rp rfl (.tmp 22) (.tmp 24) _ rfl Tryz.underlying93 rfl hI _ _ rfl (nws_three (u0:=.int .u64 (p.num:Int)) (u1:=.int .i64 p.e) (u2:=.slice none 0 0) (by rw [World.cell?_alloc_mark]; rfl) (by rw [World.cell?_alloc_mark]; rfl) (by rw [World.cell?_alloc_mark]; rfl) rfl rfl rfl) (by have:=HLT.out; omega) (Nat.zero_le _) ?_
  intro A5 n5 c5 w5 hn5 ha5
  have HE5:=hide (HR.out.done HN1.out hn5 ha5)
  clear hI ha5 hn5
  have y3:=HE5.out.1.1
  have yf:=HE5.out.1.2.1
  refine hK.out _ _ (HE5.out.1.2.2.2) (fun hHeld=>?_)
  clear hK K
  try simp only [Act.put,sA0,sA1,sA2]
  refine wpAnyH_take (i:=8) (v:=?vdx17) (oi:=?odx17) ?hdx17 (by kernel_rfl) (by kernel_rfl) (by kernel_rfl) (fun _ _ _ h=>h) (Or.inl ⟨?wdx17,?ydx17⟩) hHeld ?rdx17
  case hdx17=>simp only [gA0,gA1,gA2]; rfl
  case wdx17=>rfl
  case ydx17=>intro w hSw; (try dsimp only at hSw); go_simp; (try with_reducible rfl)
  simp only [Act.put,sA0,sA1,sA2]
  refine wpAnyH_take (i:=9) (v:=?vdx18) (oi:=?odx18) ?hdx18 (by kernel_rfl) (by kernel_rfl) (by kernel_rfl) (fun _ _ _ h=>h) (Or.inl ⟨?wdx18,?ydx18⟩) hHeld ?rdx18
  case hdx18=>simp only [gA0,gA1,gA2]; rfl
  case wdx18=>rfl
  case ydx18=>intro w hSw; (try dsimp only at hSw); go_simp; (try with_reducible rfl)
  simp only [Act.put,sA0,sA1,sA2]
  refine wpAnyH_ready (rs:=[10]) (by kernel_rfl) (by simp) ?_
  refine AllReadyH.cons (o:=?odx19) ?hdx19 (fun K hK=>?sdx19) AllReadyH.nil
  case hdx19=>simp only [gA0,gA1,gA2]; rfl
  go_simp
  refine hK.out _ _ (HE5.out.2.1) (fun hHeld=>?_)
  clear hK K
  try simp only [Act.put,sA0,sA1,sA2]
  refine wpAnyH_done (by kernel_rfl) ?_ _
  refine NoPanic.normal ?_
  clear hHeld y3 yf
  go_wp2
  (first | go_end0 | refine bodyPost_ret (results_none rfl _ _ _) rfl ?_)
  exact HE5.out.2.2
end Go.Proofs.YtnfcfdhlmeimhaaGreat
namespace Go.Proofs.YtnfcfdhlmeimhaaGreat
open Go.RowKit
set_option linter.unusedVariables false
set_option linter.unusedSimpArgs false
set_option maxRecDepth 20000
/-- What a call on a node with a reply knows: the result's box at R0. -/
structure ResW (w:World) (F:Nat→Prop) (B n k:Nat) (x:Nat→UInt8) (g gc gd:Nat) (N1:Nd) (R0:Nat) (u:Value) (bs:List UInt8) (wr:World):Prop where
 sv:∃ F2 gv b rv,SvR wr F2 B n k x g gc gd gv b rv N1∧∀ z,F2 z→Up F w z∧z≠R0
 rb:Bx3 81 wr R0 (.int .u64 0) (.int .i64 0) (.slice none 0 0)
 ow:Own wr w.heap.size 5 u bs
 kp:Kp F w wr
 le:w.heap.size≤R0
 bb:B≤w.heap.size
 fb:∀ z,F z→B≤z
/-- What answer comes to. -/
def AnsPost (w:World) (F:Nat→Prop) (B n k:Nat) (x:Nat→UInt8) (g gc gd:Nat) (N1:Nd) (p:Rp) (e:Ending) (w1:World):Prop :=
 ∃ u,e=.returned (rplV p u)∧Own w1 w.heap.size 5 u p.data∧SvAt w1 (Up F w) B n k x g gc gd N1∧Kp F w w1
section
variable {w wr w1:World} {F:Nat→Prop} {B n k g gc gd R0:Nat} {x:Nat→UInt8} {N1:Nd} {u:Value} {bs:List UInt8}
theorem ResW.fin (h:ResW w F B n k x g gc gd N1 R0 u bs wr) (p:Rp) (hb:p.data=bs) :
  AnsPost w F B n k x g gc gd N1 p (.returned (rplV p u)) (((wr.setCell ⟨R0,0,none⟩ (.int .u64 (p.num:Int))).setCell ⟨R0,1,none⟩ (.int .i64 p.e)).setCell ⟨R0,2,none⟩ u):=by
 subst hb
 have K:=kp3 (S:=fun z=>z=R0) wr R0 (.int .u64 (p.num:Int)) (.int .i64 p.e) u rfl
 obtain ⟨F2,gv,b,rv,hs,hu⟩:=h.sv
 have hp:wr.heap[R0]?=_:=h.rb
 have hle:=h.le
 have hbb:=h.bb
 have h1:=hs.keep K (fun z _ f e=>(hu z f).2 e) (fun z e=>by omega)
 refine ⟨u,rfl,h.ow.keep K fun z hz e=>own_ne_at h.ow hp (by decide) (by rw [hz,e]),⟨gv,b,rv,h1.mono (fun z f=>(hu z f).1) fun z f=>?_⟩,h.kp.trans (K.mono fun z e=>.inr (by omega))⟩
 rcases f with f | f
 ·exact h.fb z f
 ·omega
end
theorem ResW.fin2 {w wr:World} {F:Nat→Prop} {B n k g gc gd R0:Nat} {x:Nat→UInt8} {N1 N':Nd} {u:Value} {bs:List UInt8} (h:ResW w F B n k x g gc gd N1 R0 u bs wr) (p:Rp) (hb:p.data=bs) {p':Rp} (hN:N'=N1) (hp:p'=p) :
  AnsPost w F B n k x g gc gd N' p' (.returned (rplV p u)) (((wr.setCell ⟨R0,0,none⟩ (.int .u64 (p.num:Int))).setCell ⟨R0,1,none⟩ (.int .i64 p.e)).setCell ⟨R0,2,none⟩ u):=by
 subst hN hp
 exact h.fin p' hb
/-- What answer knows: the request's box at B0, the result's box behind it. -/
structure AnW (w:World) (F1:Nat→Prop) (B n k:Nat) (x:Nat→UInt8) (g gc gd gv b:Nat) (rv:Value) (N:Nd) (q:Rq) (A:Option Addr) (m c B0:Nat) (wr:World):Prop where
 sv:SvR wr F1 B n k x g gc gd gv b rv N
 lt:∀ z,F1 z→z < w.heap.size
 qb:Bx8 84 wr B0 (.int .u64 (q.num:Int)) (.int .i64 q.kind) (.int .u32 (cO q.s:Int)) (.int .u16 (cS q.s:Int)) (.int .u16 (cL q.s:Int)) (.int .u32 (cG q.s:Int)) (.int .u16 (q.lost:Int)) (.slice A m c)
 rb:Bx3 81 wr (B0+1) (.int .u64 0) (.int .i64 0) (.slice none 0 0)
 bt:Bts wr (.slice A m c) q.data
 kp:Kp No w wr
 le:w.heap.size≤B0
section
variable {w wr w1 w2:World} {F F1:Nat→Prop} {B n k a g gc gd gv b m c B0:Nat} {x:Nat→UInt8} {rv:Value} {N:Nd} {q:Rq} {A:Option Addr}
theorem ResW.no {R0:Nat} {N1:Nd} {u:Value} {bs:List UInt8} (h:ResW w F B n k x g gc gd N1 R0 u bs wr) (hk:Kp No wr w1):ResW w F B n k x g gc gd N1 R0 u bs w1:=by
 obtain ⟨F2,gv,b,rv,hs,hu⟩:=h.sv
 exact ⟨⟨F2,gv,b,rv,hs.no hk,hu⟩,h.rb.no hk,h.ow.keep hk (fun _ _ f=>f),h.kp.trans' (hk.of_no F),h.le,h.bb,h.fb⟩
theorem AnW.no (h:AnW w F1 B n k x g gc gd gv b rv N q A m c B0 wr) (hk:Kp No wr w1):AnW w F1 B n k x g gc gd gv b rv N q A m c B0 w1 :=
 ⟨h.sv.no hk,h.lt,h.qb.no hk,h.rb.no hk,h.bt.no hk,h.kp.trans' hk,h.le⟩
theorem AnW.begin (h:SvR w F B n k x g gc gd gv b rv N) (hb:Bts w (.slice A m c) q.data) :
  AnW w (fun z=>F z∧z < w.heap.size) B n k x g gc gd gv b rv N q A m c w.heap.size ((w.alloc (.cells #[.int .u64 (q.num:Int),.int .i64 q.kind,.int .u32 (cO q.s:Int),.int .u16 (cS q.s:Int),.int .u16 (cL q.s:Int),.int .u32 (cG q.s:Int),.int .u16 (q.lost:Int),.slice A m c] 84)).alloc (.cells #[.int .u64 0,.int .i64 0,.slice none 0 0] 81)):=by
 have e1:∀ (w:World) (o:Obj),(w.alloc o).heap.size=w.heap.size+1:=fun w o=>by simp
 generalize hw1:(w.alloc (.cells #[.int .u64 (q.num:Int),.int .i64 q.kind,.int .u32 (cO q.s:Int),.int .u16 (cS q.s:Int),.int .u16 (cL q.s:Int),.int .u32 (cG q.s:Int),.int .u16 (q.lost:Int),.slice A m c] 84))=w1
 have q1:Kp No w w1:=by rw [← hw1]; exact Kp.alloc No _ _
 have z1:w1.heap.size=w.heap.size+1:=by rw [← hw1]; exact e1 _ _
 have b1:Bx8 84 w1 w.heap.size (.int .u64 (q.num:Int)) (.int .i64 q.kind) (.int .u32 (cO q.s:Int)) (.int .u16 (cS q.s:Int)) (.int .u16 (cL q.s:Int)) (.int .u32 (cG q.s:Int)) (.int .u16 (q.lost:Int)) (.slice A m c):=by rw [← hw1]; exact Bx8.new _ _ _ _ _ _ _ _ _ _
 generalize hw2:w1.alloc (.cells #[.int .u64 0,.int .i64 0,.slice none 0 0] 81)=w2
 have q2:Kp No w1 w2:=by rw [← hw2]; exact Kp.alloc No _ _
 have b2:Bx3 81 w2 (w.heap.size+1) (.int .u64 0) (.int .i64 0) (.slice none 0 0):=by rw [← z1,← hw2]; exact Bx3.new _ _ _ _ _
 have q:=q1.trans' q2
 exact ⟨h.lt.no q,fun z f=>f.2,b1.no q2,b2,hb.no q,q,Nat.le_refl _⟩
/-- An old reply is the result. -/
theorem AnW.same (h:AnW w F1 B n k x g gc gd gv b rv N q A m c B0 wr) (hF:∀ z,F1 z→F z) (hbb:B≤w.heap.size) (hfb:∀ z,F z→B≤z):ResW w F B n k x g gc gd N (B0+1) (.slice none 0 0) [] wr :=
 ⟨⟨F1,gv,b,rv,h.sv,fun z f=>⟨.inl (hF z f),by have:=h.lt z f; have:=h.le; omega⟩⟩,h.rb,Own.nil _ _ _,h.kp.of_no F,by have:=h.le; omega,hbb,hfb⟩
/-- do has been called. -/
theorem AnW.did {u:Value} {bs:List UInt8} {N1:Nd} (h:AnW w F1 B n k x g gc gd gv b rv N q A m c B0 wr) (hF:∀ z,F1 z→F z) (hbb:B≤w.heap.size) (hfb:∀ z,F z→B≤z) (hs:SvAt w1 (Up F1 wr) B n k x g gc gd N1) (hk:Kp F1 wr w1) (ho:Own w1 wr.heap.size 5 u bs) :
  ResW w F B n k x g gc gd N1 (B0+1) u bs w1:=by
 obtain ⟨gv',b',rv',hs⟩:=hs
 have hle:=h.le
 have hrl:=h.rb.lt
 have hz:=h.kp.size
 refine ⟨⟨_,gv',b',rv',hs,fun z f=>?_⟩,h.rb.keep hk fun f=>(by have:=h.lt _ f; omega),ho.rebase fun i hi=>(by have:=ho.ge i hi; omega),(h.kp.of_no F).trans' (hk.mono hF),by omega,hbb,hfb⟩
 rcases f with f | f
 ·exact ⟨.inl (hF z f),by have:=h.lt z f; omega⟩
 ·exact ⟨.inr (by omega),by omega⟩
/-- remember has been called. -/
theorem ResW.rem {R0:Nat} {N1 N2:Nd} {u:Value} {bs:List UInt8} {F2:Nat→Prop} (h:ResW w F B n k x g gc gd N1 R0 u bs wr) (hF2:∀ z,F2 z→Up F w z∧z≠R0) (hs:SvAt w1 (Up F2 wr) B n k x g gc gd N2) (hk:Kp F2 wr w1) (hn:bs=[]) (hu:u=.slice none 0 0):ResW w F B n k x g gc gd N2 R0 u bs w1:=by
 subst hn hu
 obtain ⟨gv',b',rv',hs⟩:=hs
 have hl:=h.rb.lt
 have hz:=h.kp.size
 refine ⟨⟨_,gv',b',rv',hs,fun z f=>?_⟩,h.rb.keep hk fun f=>(hF2 _ f).2 rfl,Own.nil _ _ _,h.kp.trans (hk.mono fun z f=>(hF2 z f).1),h.le,h.bb,h.fb⟩
 rcases f with f | f
 ·exact hF2 z f
 ·exact ⟨.inr (by omega),by omega⟩
end
theorem find_at {sn:List Rp} {num i:Nat} {p:Rp} (hp:sn[i]?=some p) (he:p.num=num) (hb:∀ (j:Nat) (r:Rp),j < i→sn[j]?=some r→r.num≠num):sn.find? (fun p=>p.num == num)=some p:=by
 induction sn generalizing i with
 | nil=>simp at hp
 | cons r l ih =>
  cases i with
  | zero =>
   simp at hp
   subst hp
   simp [he]
  | succ i =>
   have h0:=hb 0 r (by omega) rfl
   rw [List.find?_cons_of_neg (by simpa using h0)]
   exact ih (by simpa using hp) fun j s hj hs=>hb (j+1) s (by omega) (by simpa using hs)
theorem find_none {sn:List Rp} {num:Nat} (hb:∀ (j:Nat) (r:Rp),sn[j]?=some r→r.num≠num):sn.find? (fun p=>p.num == num)=none:=by
 rw [List.find?_eq_none]
 intro r hr
 obtain ⟨j,hj⟩:=List.getElem?_of_mem hr
 simpa using hb j r hj
section
variable {n a:Nat} {x:Nat→UInt8} {N:Nd} {q:Rq} {p:Rp}
theorem Nd.hand_none (h:N.old q=none):N.hand n a x q=N.did n a x q∧N.out n a x q=ndP n a x N.V q:=by unfold Nd.hand Nd.out; rw [h]; exact ⟨rfl,rfl⟩
theorem Nd.hand_some (h:N.old q=some p):N.hand n a x q=N∧N.out n a x q=p:=by unfold Nd.hand Nd.out; rw [h]; exact ⟨rfl,rfl⟩
theorem Nd.did_no (h:chgK q.kind=false):N.did n a x q=⟨ndV N.V q,N.sn,N.done+1⟩:=by unfold Nd.did; rw [h]; rfl
theorem Nd.did_yes (h:chgK q.kind=true):N.did n a x q=⟨ndV N.V q,remL N.sn (ndP n a x N.V q),N.done+1⟩:=by unfold Nd.did; rw [h]; rfl
theorem Nd.old_yes (h:chgK q.kind=true):N.old q=N.sn.find? fun p=>p.num == q.num:=by unfold Nd.old; rw [h]; rfl
end
set_option maxHeartbeats 8000000 in
theorem sans_any {w:World} {F:Nat→Prop} {B n k a d qq g gc gd gv b m c:Nat} {x:Nat→UInt8} {rv:Value} {N:Nd} {q:Rq} {A:Option Addr} (h:SvR w F B n k x g gc gd gv b rv N) (hD:Dim n k a d qq) (hf:q.Fit) (hz:SzK N.V) (hb:Bts w (.slice A m c) q.data) (hl:m≤100000) (hdn:N.done+1 < 18446744073709551616) :
  Calls Tryz.prog 48 #[.pointer (some ⟨g,0,none⟩),rqV q (.slice A m c)] w (AnsPost w F B n k x g gc gd (N.hand n a x q) (N.out n a x q)):=by
 have HX:=hide (AnW.begin h hb)
 have HFB:Hid (∀ z,F z→B≤z):=h.fb
 have HBB:Hid (B≤w.heap.size):=h.cd.bw
 have HD:=hide hD
 have HF:=hide hf
 have HZ:=hide hz
 have HO:=hide h.ok
 have HDO:Hid (∀ w' F',SvR w' F' B n k x g gc gd gv b rv N→Bts w' (.slice A m c) q.data→Calls Tryz.prog 89 #[.pointer (some ⟨g,0,none⟩),rqV q (.slice A m c)] w' (DidPost w' F' B n k a x g gc gd N q)):=fun w' F' h' hb'=>sdo_any h' hD hf hz hb' hl hdn
 obtain ⟨A2,c2,rfl⟩:=h.rp.form
 obtain ⟨ln,hln⟩:∃ ln,ln=N.sn.length:=⟨_,rfl⟩
 rw [← hln] at HX HDO
 have HLN:=hide hln
 have hl32:ln≤32:=by rw [hln]; exact h.ok.few
 clear h hD hf hz hb hl hdn hln
 go_enter Tryz.func48,Tryz.ntmps48
 go_upto_region 1 with (fail)
 generalize (w.alloc (.cells #[.int .u64 (q.num:Int),.int .i64 q.kind,.int .u32 (cO q.s:Int),.int .u16 (cS q.s:Int),.int .u16 (cL q.s:Int),.int .u32 (cG q.s:Int),.int .u16 (q.lost:Int),.slice A m c] 84)).alloc (.cells #[.int .u64 0,.int .i64 0,.slice none 0 0] 81)=w0 at HX ⊢
 obtain ⟨B0,hB0⟩:∃ B0,B0=w.heap.size:=⟨_,rfl⟩
 rw [← hB0] at HX ⊢
 clear hB0
 obtain ⟨z0,z1,z2,z3,z4,z5,z6,z7⟩:=HX.out.qb.cell
 by_cases hc:chgK q.kind=true
 ·rcases chgK_iff.1 hc with ek | ek
  ·skip
   have HC:=hide hc
   have x3:=HX.out.sv.blk.cell.2.2.2.1
   clear hc
   have t2:(q.kind != 2)=false:=by simp [ek]
   clear ek
   go_wp2_with fail
   clear x3 z0 z1 z2 z3 z4 z5 z6 z7
   go_loopw [24] (fun iv wr=>∃ i:Nat,i≤ln∧iv=.int .i64 (i:Int)∧Hid (∀ (j:Nat) (r:Rp),j < i→N.sn[j]?=some r→r.num≠q.num)∧Hid (AnW w (fun z=>F z∧z < B0) B n k x g gc gd gv b (.slice A2 ln c2) N q A m c B0 wr)) (fun iv _=>ln - (intOf iv).toNat)
   case atStart=>exact ⟨0,Nat.zero_le _,rfl,fun j r hj=>by omega,HX⟩
   case round =>
    obtain ⟨i,hi,rfl,HQ,HW⟩:=hrel
    rename World=>wr
    by_cases hlt:i < ln
    ·have hiz:(i:Int) < ln:=by omega
     obtain ⟨r,hr⟩:∃ r,N.sn[i]?=some r:=⟨_,List.getElem?_eq_getElem (by have:=HLN.out; omega)⟩
     obtain ⟨e0,e1,e2⟩:=rpC_get hr
     obtain ⟨gr,hA2,_,_,_,c0⟩:=HW.out.sv.rp.cell e0
     subst hA2
     have c1:=HW.out.sv.rp.cellAt e1
     have c2':=HW.out.sv.rp.cellAt e2
     have HRR:=hide hr
     have HRO:=hide (HO.out.all r (List.mem_of_getElem? hr))
     clear e0 e1 e2 hr
     have HW4:=hide (HW.out.no (Kp.alloc No wr (.cells #[.int .u64 (r.num:Int),.int .i64 r.e,.slice none 0 0] 81)))
     have HP4:=hide (Bx3.new wr 81 (.int .u64 (r.num:Int)) (.int .i64 r.e) (.slice none 0 0))
     go_upto_region 6 with (fail)
     generalize wr.alloc (.cells #[.int .u64 (r.num:Int),.int .i64 r.e,.slice none 0 0] 81)=w4 at HW4 HP4 ⊢
     generalize wr.heap.size=P0 at HP4 ⊢
     clear c0 c1 c2' HW
     obtain ⟨p0,p1,p2⟩:=HP4.out.cell
     have y0:=HW4.out.qb.cell.1
     by_cases hnum:r.num=q.num
     ·have tq:((r.num:Int) == (q.num:Int))=true:=by simp [hnum]
      have HFI:Hid (N.old q=some r):=by show N.old q=some r; rw [Nd.old_yes HC.out]; exact find_at HRR.out hnum HQ.out
      have HR:=hide (HW4.out.same (F:=F) (fun z f=>f.1) HBB.out HFB.out)
      have HFN:=hide (HR.out.fin2 r HRO.out.nil (Nd.hand_some (n:=n) (a:=a) (x:=x) HFI.out).1 (Nd.hand_some (n:=n) (a:=a) (x:=x) HFI.out).2)
      have HCL:=hide (HR.out.rb.all (.int .u64 (r.num:Int)) (.int .i64 r.e) (.slice none 0 0)).cell
      obtain ⟨v0,v1,v2⟩:=HR.out.rb.cell
      have f0:=HR.out.rb.fz 0
      have f1:=HR.out.rb.fz 1
      have f2:=HR.out.rb.fz 2
      clear hnum
      go_wp2_with fail
      clear v0 v1 v2 f0 f1 f2 p0 p1 p2 y0
      obtain ⟨q0,q1,q2⟩:=HCL.out
      refine bodyPost_ret (v:=rplV r (.slice none 0 0)) (by simp [results,Tryz.results48,go_sem,q0,q1,q2]) rfl ?_
      exact HFN.out
     ·have HNM:=hide hnum
      have tq:((r.num:Int) == (q.num:Int))=false:=beq_eq_false_iff_ne.2 (by omega)
      clear hnum
      go_wp2_with fail
      go_round
      case rel=>exact ⟨i+1,by omega,by go_num,(fun j r' hj hr'=>by
        rcases Nat.lt_or_ge j i with g1 | g1
        ·exact HQ.out j r' g1 hr'
        ·obtain rfl:j=i:=by omega
         rw [HRR.out] at hr'
         injection hr' with hr'
         subst hr'
         exact HNM.out),HW4⟩
      case measure=>simp [intOf]; omega
    ·obtain rfl:i=ln:=by omega
     have hiz:¬ (i:Int) < i:=by omega
     have HFI:Hid (N.old q=none):=by
      show N.old q=none
      rw [Nd.old_yes HC.out]
      exact find_none fun j r hr=>HQ.out j r (by have h1:=(List.getElem?_eq_some_iff.1 hr).1; have:=HLN.out; omega) hr
     have HR0:=hide (Nd.hand_none (n:=n) (a:=a) (x:=x) HFI.out)
     obtain ⟨z0,z1,z2,z3,z4,z5,z6,z7⟩:=HW.out.qb.cell
     go_wp2_with fail
     refine (HDO.out _ _ HW.out.sv HW.out.bt).mono ?_
     rintro e w1 ⟨u,rfl,ho,hu,hs,hk⟩
     obtain rfl:=hu HC.out
     have HPO:Hid (Nd.RpOk (ndP n a x N.V q)):=ndP_ok HF.out.num HC.out
     have HR:=hide (HW.out.did (F:=F) (fun z f=>f.1) HBB.out HFB.out hs hk ho)
     have HE1:Hid (N.did n a x q=⟨ndV N.V q,remL N.sn (ndP n a x N.V q),N.done+1⟩):=Nd.did_yes HC.out
     have HND:Hid (ndB n a x N.V q=[]):=HPO.out.nil
     clear ho hs hk hu z0 z1 z2 z3 z4 z5 z6 z7
     generalize hP:ndP n a x N.V q=P at *
     generalize hVV:ndV N.V q=VV at *
     have HR4:=hide (HR.out.no (Kp.alloc No w1 (.cells #[.int .u64 (P.num:Int),.int .i64 P.e,.slice none 0 0] 81)))
     have HP4:=hide (Bx3.new w1 81 (.int .u64 (P.num:Int)) (.int .i64 P.e) (.slice none 0 0))
     have HX4:Hid (∃ F2 gv b rv,SvR (w1.alloc (.cells #[.int .u64 (P.num:Int),.int .i64 P.e,.slice none 0 0] 81)) F2 B n k x g gc gd gv b rv ⟨VV,N.sn,N.done+1⟩∧(∀ z,F2 z→Up F w z∧z≠B0+1)∧∀ z,F2 z→z≠w1.heap.size):=by
      obtain ⟨F2,gv2,b2,rv2,hs,hu⟩:=HR.out.sv
      exact ⟨_,gv2,b2,rv2,hs.lt.no (Kp.alloc No _ _),fun z f=>hu z f.1,fun z f=>by omega⟩
     go_upto_region 10 with (fail)
     generalize w1.alloc (.cells #[.int .u64 (P.num:Int),.int .i64 P.e,.slice none 0 0] 81)=w4 at HR4 HP4 HX4 ⊢
     generalize w1.heap.size=P0 at HP4 HX4 ⊢
     obtain ⟨F2,gv2,b2,rv2,hs2,hu2,hp2⟩:=HX4.out
     obtain ⟨p0,p1,p2⟩:=HP4.out.cell
     go_wp2_with fail
     refine (srem_any hs2 HPO.out).mono ?_
     rintro e w5 ⟨rfl,hs5,hk5⟩
     have HR5:=hide (HR4.out.rem hu2 hs5 hk5 HND.out rfl)
     have HP5:=hide (HP4.out.keep hk5 fun f=>hp2 _ f rfl)
     have HFN:=hide (HR5.out.fin2 P (by rw [HPO.out.nil]; exact HND.out.symm) (HR0.out.1.trans HE1.out) HR0.out.2)
     clear hs2 hu2 hp2 hs5 hk5 p0 p1 p2 HX4
     obtain ⟨y0,y1,y2⟩:=HP5.out.cell
     obtain ⟨v0,v1,v2⟩:=HR5.out.rb.cell
     have f0:=HR5.out.rb.fz 0
     have f1:=HR5.out.rb.fz 1
     have f2:=HR5.out.rb.fz 2
     have HCL:=hide (HR5.out.rb.all (.int .u64 (P.num:Int)) (.int .i64 P.e) (.slice none 0 0)).cell
     go_wp2_with fail
     clear v0 v1 v2 f0 f1 f2 y0 y1 y2
     obtain ⟨q0,q1,q2⟩:=HCL.out
     refine bodyPost_ret (v:=rplV P (.slice none 0 0)) (by simp [results,Tryz.results48,go_sem,q0,q1,q2]) rfl ?_
     exact HFN.out
  ·skip
   have HC:=hide hc
   have x3:=HX.out.sv.blk.cell.2.2.2.1
   clear hc
   have t2:(q.kind != 2)=true:=by simp [ek]
   have t5:(q.kind != 5)=false:=by simp [ek]
   clear ek
   go_wp2_with fail
   clear x3 z0 z1 z2 z3 z4 z5 z6 z7
   go_loopw [24] (fun iv wr=>∃ i:Nat,i≤ln∧iv=.int .i64 (i:Int)∧Hid (∀ (j:Nat) (r:Rp),j < i→N.sn[j]?=some r→r.num≠q.num)∧Hid (AnW w (fun z=>F z∧z < B0) B n k x g gc gd gv b (.slice A2 ln c2) N q A m c B0 wr)) (fun iv _=>ln - (intOf iv).toNat)
   case atStart=>exact ⟨0,Nat.zero_le _,rfl,fun j r hj=>by omega,HX⟩
   case round =>
    obtain ⟨i,hi,rfl,HQ,HW⟩:=hrel
    rename World=>wr
    by_cases hlt:i < ln
    ·have hiz:(i:Int) < ln:=by omega
     obtain ⟨r,hr⟩:∃ r,N.sn[i]?=some r:=⟨_,List.getElem?_eq_getElem (by have:=HLN.out; omega)⟩
     obtain ⟨e0,e1,e2⟩:=rpC_get hr
     obtain ⟨gr,hA2,_,_,_,c0⟩:=HW.out.sv.rp.cell e0
     subst hA2
     have c1:=HW.out.sv.rp.cellAt e1
     have c2':=HW.out.sv.rp.cellAt e2
     have HRR:=hide hr
     have HRO:=hide (HO.out.all r (List.mem_of_getElem? hr))
     clear e0 e1 e2 hr
     have HW4:=hide (HW.out.no (Kp.alloc No wr (.cells #[.int .u64 (r.num:Int),.int .i64 r.e,.slice none 0 0] 81)))
     have HP4:=hide (Bx3.new wr 81 (.int .u64 (r.num:Int)) (.int .i64 r.e) (.slice none 0 0))
     go_upto_region 6 with (fail)
     generalize wr.alloc (.cells #[.int .u64 (r.num:Int),.int .i64 r.e,.slice none 0 0] 81)=w4 at HW4 HP4 ⊢
     generalize wr.heap.size=P0 at HP4 ⊢
     clear c0 c1 c2' HW
     obtain ⟨p0,p1,p2⟩:=HP4.out.cell
     have y0:=HW4.out.qb.cell.1
     by_cases hnum:r.num=q.num
     ·have tq:((r.num:Int) == (q.num:Int))=true:=by simp [hnum]
      have HFI:Hid (N.old q=some r):=by show N.old q=some r; rw [Nd.old_yes HC.out]; exact find_at HRR.out hnum HQ.out
      have HR:=hide (HW4.out.same (F:=F) (fun z f=>f.1) HBB.out HFB.out)
      have HFN:=hide (HR.out.fin2 r HRO.out.nil (Nd.hand_some (n:=n) (a:=a) (x:=x) HFI.out).1 (Nd.hand_some (n:=n) (a:=a) (x:=x) HFI.out).2)
      have HCL:=hide (HR.out.rb.all (.int .u64 (r.num:Int)) (.int .i64 r.e) (.slice none 0 0)).cell
      obtain ⟨v0,v1,v2⟩:=HR.out.rb.cell
      have f0:=HR.out.rb.fz 0
      have f1:=HR.out.rb.fz 1
      have f2:=HR.out.rb.fz 2
      clear hnum
      go_wp2_with fail
      clear v0 v1 v2 f0 f1 f2 p0 p1 p2 y0
      obtain ⟨q0,q1,q2⟩:=HCL.out
      refine bodyPost_ret (v:=rplV r (.slice none 0 0)) (by simp [results,Tryz.results48,go_sem,q0,q1,q2]) rfl ?_
      exact HFN.out
     ·have HNM:=hide hnum
      have tq:((r.num:Int) == (q.num:Int))=false:=beq_eq_false_iff_ne.2 (by omega)
      clear hnum
      go_wp2_with fail
      go_round
      case rel=>exact ⟨i+1,by omega,by go_num,(fun j r' hj hr'=>by
        rcases Nat.lt_or_ge j i with g1 | g1
        ·exact HQ.out j r' g1 hr'
        ·obtain rfl:j=i:=by omega
         rw [HRR.out] at hr'
         injection hr' with hr'
         subst hr'
         exact HNM.out),HW4⟩
      case measure=>simp [intOf]; omega
    ·obtain rfl:i=ln:=by omega
     have hiz:¬ (i:Int) < i:=by omega
     have HFI:Hid (N.old q=none):=by
      show N.old q=none
      rw [Nd.old_yes HC.out]
      exact find_none fun j r hr=>HQ.out j r (by have h1:=(List.getElem?_eq_some_iff.1 hr).1; have:=HLN.out; omega) hr
     have HR0:=hide (Nd.hand_none (n:=n) (a:=a) (x:=x) HFI.out)
     obtain ⟨z0,z1,z2,z3,z4,z5,z6,z7⟩:=HW.out.qb.cell
     go_wp2_with fail
     refine (HDO.out _ _ HW.out.sv HW.out.bt).mono ?_
     rintro e w1 ⟨u,rfl,ho,hu,hs,hk⟩
     obtain rfl:=hu HC.out
     have HPO:Hid (Nd.RpOk (ndP n a x N.V q)):=ndP_ok HF.out.num HC.out
     have HR:=hide (HW.out.did (F:=F) (fun z f=>f.1) HBB.out HFB.out hs hk ho)
     have HE1:Hid (N.did n a x q=⟨ndV N.V q,remL N.sn (ndP n a x N.V q),N.done+1⟩):=Nd.did_yes HC.out
     have HND:Hid (ndB n a x N.V q=[]):=HPO.out.nil
     clear ho hs hk hu z0 z1 z2 z3 z4 z5 z6 z7
     generalize hP:ndP n a x N.V q=P at *
     generalize hVV:ndV N.V q=VV at *
     have HR4:=hide (HR.out.no (Kp.alloc No w1 (.cells #[.int .u64 (P.num:Int),.int .i64 P.e,.slice none 0 0] 81)))
     have HP4:=hide (Bx3.new w1 81 (.int .u64 (P.num:Int)) (.int .i64 P.e) (.slice none 0 0))
     have HX4:Hid (∃ F2 gv b rv,SvR (w1.alloc (.cells #[.int .u64 (P.num:Int),.int .i64 P.e,.slice none 0 0] 81)) F2 B n k x g gc gd gv b rv ⟨VV,N.sn,N.done+1⟩∧(∀ z,F2 z→Up F w z∧z≠B0+1)∧∀ z,F2 z→z≠w1.heap.size):=by
      obtain ⟨F2,gv2,b2,rv2,hs,hu⟩:=HR.out.sv
      exact ⟨_,gv2,b2,rv2,hs.lt.no (Kp.alloc No _ _),fun z f=>hu z f.1,fun z f=>by omega⟩
     go_upto_region 10 with (fail)
     generalize w1.alloc (.cells #[.int .u64 (P.num:Int),.int .i64 P.e,.slice none 0 0] 81)=w4 at HR4 HP4 HX4 ⊢
     generalize w1.heap.size=P0 at HP4 HX4 ⊢
     obtain ⟨F2,gv2,b2,rv2,hs2,hu2,hp2⟩:=HX4.out
     obtain ⟨p0,p1,p2⟩:=HP4.out.cell
     go_wp2_with fail
     refine (srem_any hs2 HPO.out).mono ?_
     rintro e w5 ⟨rfl,hs5,hk5⟩
     have HR5:=hide (HR4.out.rem hu2 hs5 hk5 HND.out rfl)
     have HP5:=hide (HP4.out.keep hk5 fun f=>hp2 _ f rfl)
     have HFN:=hide (HR5.out.fin2 P (by rw [HPO.out.nil]; exact HND.out.symm) (HR0.out.1.trans HE1.out) HR0.out.2)
     clear hs2 hu2 hp2 hs5 hk5 p0 p1 p2 HX4
     obtain ⟨y0,y1,y2⟩:=HP5.out.cell
     obtain ⟨v0,v1,v2⟩:=HR5.out.rb.cell
     have f0:=HR5.out.rb.fz 0
     have f1:=HR5.out.rb.fz 1
     have f2:=HR5.out.rb.fz 2
     have HCL:=hide (HR5.out.rb.all (.int .u64 (P.num:Int)) (.int .i64 P.e) (.slice none 0 0)).cell
     go_wp2_with fail
     clear v0 v1 v2 f0 f1 f2 y0 y1 y2
     obtain ⟨q0,q1,q2⟩:=HCL.out
     refine bodyPost_ret (v:=rplV P (.slice none 0 0)) (by simp [results,Tryz.results48,go_sem,q0,q1,q2]) rfl ?_
     exact HFN.out
 ·have hc':chgK q.kind=false:=by simpa using hc
  have t2:(q.kind != 2)=true:=by
   refine bne_iff_ne.2 fun e=>hc (chgK_iff.2 (.inl e))
  have t5:(q.kind != 5)=true:=by
   refine bne_iff_ne.2 fun e=>hc (chgK_iff.2 (.inr e))
  have HC:=hide hc'
  clear hc hc'
  have HR0:=hide (Nd.hand_none (n:=n) (a:=a) (x:=x) (Nd.old_none (N:=N) HC.out))
  go_wp2_with fail
  refine (HDO.out _ _ HX.out.sv HX.out.bt).mono ?_
  rintro e w1 ⟨u,rfl,ho,_,hs,hk⟩
  have HR:=hide (HX.out.did (F:=F) (fun z f=>f.1) HBB.out HFB.out hs hk ho)
  clear ho hs hk z0 z1 z2 z3 z4 z5 z6 z7
  obtain ⟨A5,n5,c5,rfl⟩:=HR.out.ow.bts.form
  obtain ⟨y0,y1,y2⟩:=HR.out.rb.cell
  have f0:=HR.out.rb.fz 0
  have f1:=HR.out.rb.fz 1
  have f2:=HR.out.rb.fz 2
  have HCL:=hide (HR.out.rb.all (.int .u64 ((ndP n a x N.V q).num:Int)) (.int .i64 (ndP n a x N.V q).e) (.slice A5 n5 c5)).cell
  have HFN:=hide (HR.out.fin2 (ndP n a x N.V q) rfl (HR0.out.1.trans (Nd.did_no HC.out)) HR0.out.2)
  generalize ndP n a x N.V q=P at HCL HFN ⊢
  go_wp2_with fail
  clear y0 y1 y2 f0 f1 f2
  obtain ⟨q0,q1,q2⟩:=HCL.out
  refine bodyPost_ret (v:=rplV P (.slice A5 n5 c5)) (by simp [results,Tryz.results48,go_sem,q0,q1,q2]) rfl ?_
  exact HFN.out
end Go.Proofs.YtnfcfdhlmeimhaaGreat
