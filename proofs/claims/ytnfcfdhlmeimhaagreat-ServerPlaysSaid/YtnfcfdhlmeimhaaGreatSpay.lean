/- Package server's help and do, as contracts over memory (printed by tools/gen_nde.py). -/
import Derived.Test.YtnfcfdhlmeimhaaGreatSpau
import Derived.Test.YtnfcfdhlmeimhaaGreatSpat
import Derived.Test.YtnfcfdhlmeimhaaGreatSpaw
import Derived.Test.YtnfcfdhlmeimhaaGreatSpax
import Derived.Deep.DeepCutAuto
import Derived.Deep.CutBlock
namespace Go.Proofs.YtnfcfdhlmeimhaaGreat
open Go.RowKit
set_option linter.unusedVariables false
set_option linter.unusedSimpArgs false
set_option maxRecDepth 20000
/-- What Fragment comes to. -/
def frgE (n a lost:Nat) (bs:List UInt8):Nat:=if n≤lost∨bs.length=0∨bs.length % a≠0 then 1 else 0
def frgB (n a:Nat) (x:Nat→UInt8) (lost:Nat) (bs:List UInt8):List UInt8:=if frgE n a lost bs=0 then rowL (bs.length / a) (frE a (bs.length / a) bs (x lost)) else []
theorem hlp_frgE {n a lost s:Nat} {V:Vt} (h:V.gtE s=0):hlpE n a V s lost=frgE n a lost (V.gtB s):=by unfold hlpE frgE; rw [if_pos h]
theorem hlp_frgB {n a lost s:Nat} {x:Nat→UInt8} {V:Vt} (h:V.gtE s=0):hlpB n a x V s lost=frgB n a x lost (V.gtB s):=by unfold hlpB frgB; rw [hlp_frgE h]
theorem Vt.Ok.gtB_len {V:Vt} (h:V.Ok) (s:Nat):(V.gtB s).length≤V.D.size:=by
 unfold Vt.gtB
 split
 ·have h1:(V.at_ s).length≤V.D.size:=h.dk.rd_le _
  unfold rdB
  split
  ·have h2:(opL (V.at_ s)).length≤(V.at_ s).length:=by
    by_cases e:opE (V.at_ s)=0
    ·exact (opN_eq e).2
    ·unfold opL; rw [if_neg e]; exact Nat.zero_le _
   rw [List.length_drop]
   omega
  ·exact Nat.zero_le _
 ·exact Nat.zero_le _
theorem frag_all {w:World} {g n k a d q m cp:Nat} {x:Nat→UInt8} {A:Option Addr} {bs:List UInt8} (h:CodeAt w g n k x) (hD:Dim n k a d q) (hb:Bts w (.slice A m cp) bs) (hm:m≤1000) (lost:Nat) :
  Calls Tryz.prog 144 #[.pointer (some ⟨g,0,none⟩),.int .i64 (lost:Int),.slice A m cp] w (GetPost w (frgE n a lost bs) (frgB n a x lost bs)):=by
 have hl:=hb.len
 subst hl
 by_cases hc:n≤lost∨bs.length=0∨bs.length % a≠0
 ·have e1:frgE n a lost bs=1:=by unfold frgE; rw [if_pos hc]
  have e2:frgB n a x lost bs=[]:=by unfold frgB; rw [e1,if_neg (by omega)]
  rw [e1,e2]
  by_cases h1:n≤lost
  ·refine (frag_out (A:=A) (m:=bs.length) (cp:=cp) h (lost:Int) (.inr (by omega))).mono ?_
   rintro e w1 ⟨rfl,rfl⟩
   exact ⟨none,0,0,rfl,Own.nil _ _ _,Kp.refl _ _⟩
  ·refine (frag_no (A:=A) (cp:=cp) h hD lost (by omega) (hc.resolve_left h1)).mono ?_
   rintro e w1 ⟨rfl,rfl⟩
   exact ⟨none,0,0,rfl,Own.nil _ _ _,Kp.refl _ _⟩
 ·have e1:frgE n a lost bs=0:=by unfold frgE; rw [if_neg hc]
  have e2:frgB n a x lost bs=rowL (bs.length / a) (frE a (bs.length / a) bs (x lost)):=by unfold frgB; rw [e1,if_pos rfl]
  rw [e1,e2]
  have ha:=hD.a1
  have hdv:bs.length=a * (bs.length / a):=by
   have:=Nat.div_add_mod bs.length a
   omega
  refine (frag_yes h hD lost (by omega) hb hdv ?_ hm).mono ?_
  ·rcases Nat.eq_zero_or_pos (bs.length / a) with g | g
   ·rw [g] at hdv; omega
   ·exact g
  ·rintro e w1 ⟨A2,n2,c2,rfl,ho,hk⟩
   exact ⟨A2,n2,c2,rfl,ho,hk⟩
set_option maxHeartbeats 4000000 in
theorem help_any {w:World} {F:Nat→Prop} {B n k a d qq g gc gd gv b:Nat} {x:Nat→UInt8} {rv:Value} {N:Nd} {q:Rq} (h:SvR w F B n k x g gc gd gv b rv N) (hD:Dim n k a d qq) (hf:q.Fit) (hz:N.V.D.size≤1000) (u:Value) (hu:∃ A m c,u=.slice A m c) :
  Calls Tryz.prog 118 #[.pointer (some ⟨g,0,none⟩),rqV q u] w (GetPost w (hlpE n a N.V q.s q.lost) (hlpB n a x N.V q.s q.lost)):=by
 obtain ⟨A,m,c,rfl⟩:=hu
 have k0:=Kp.alloc No w (.cells #[.int .u64 (q.num:Int),.int .i64 q.kind,.int .u32 (cO q.s:Int),.int .u16 (cS q.s:Int),.int .u16 (cL q.s:Int),.int .u32 (cG q.s:Int),.int .u16 (q.lost:Int),.slice A m c] 84)
 have HQ:=hide (Bx8.new w 84 (.int .u64 (q.num:Int)) (.int .i64 q.kind) (.int .u32 (cO q.s:Int)) (.int .u16 (cS q.s:Int)) (.int .u16 (cL q.s:Int)) (.int .u32 (cG q.s:Int)) (.int .u16 (q.lost:Int)) (.slice A m c))
 have HS:=hide (h.no k0)
 have HK0:=hide k0
 have HF:=hide hf
 have HD:=hide hD
 have HZ1:=hide hz
 clear h k0 hf hD hz
 go_enter Tryz.func118,Tryz.ntmps118
 go_upto_region 1 with (fail)
 generalize w.alloc (.cells #[.int .u64 (q.num:Int),.int .i64 q.kind,.int .u32 (cO q.s:Int),.int .u16 (cS q.s:Int),.int .u16 (cL q.s:Int),.int .u32 (cG q.s:Int),.int .u16 (q.lost:Int),.slice A m c] 84)=w0 at HQ HS HK0 ⊢
 generalize w.heap.size=B0 at HQ ⊢
 have hS:∀ w',Kp No w0 w'→Kp No w0 w'∧w'.cell? ⟨g,2,none⟩=some (.pointer (some ⟨gv,0,none⟩))∧w'.cell? ⟨B0,2,none⟩=some (.int .u32 (cO q.s:Int))∧w'.cell? ⟨B0,3,none⟩=some (.int .u16 (cS q.s:Int))∧w'.cell? ⟨B0,4,none⟩=some (.int .u16 (cL q.s:Int))∧w'.cell? ⟨B0,5,none⟩=some (.int .u32 (cG q.s:Int)):=fun w' hk=>by
  obtain ⟨z0,z1,z2,z3,z4,z5,z6,z7⟩:=(HQ.out.no hk).cell
  exact ⟨hk,(HS.out.no hk).blk.cell.2.2.1,z2,z3,z4,z5⟩
 go_wp2_with fail
 refine wp_region_noPanic ?_
 refine wp_region_held_drew (S:=fun w'=>Kp No w0 w'∧w'.cell? ⟨g,2,none⟩=some (.pointer (some ⟨gv,0,none⟩))∧w'.cell? ⟨B0,2,none⟩=some (.int .u32 (cO q.s:Int))∧w'.cell? ⟨B0,3,none⟩=some (.int .u16 (cS q.s:Int))∧w'.cell? ⟨B0,4,none⟩=some (.int .u16 (cL q.s:Int))∧w'.cell? ⟨B0,5,none⟩=some (.int .u32 (cG q.s:Int))) (by kernel_rfl) (hS _ (Kp.refl No w0).drew) (fun hHeld=>?_)
 refine wpAnyH_take (i:=0) (v:=?vdx1) (oi:=?odx1) ?hdx1 (by kernel_rfl) (by kernel_rfl) (by kernel_rfl) (fun _ _ _ h=>h) (Or.inl ⟨?wdx1,?ydx1⟩) hHeld ?rdx1
 case hdx1=>simp only [gA0,gA1,gA2]; rfl
 case wdx1=>rfl
 case ydx1=>intro w hSw; (try dsimp only at hSw); go_simp; (try with_reducible rfl)
 simp only [Act.put,sA0,sA1,sA2]
 refine wpAnyH_take (i:=1) (v:=?vdx2) (oi:=?odx2) ?hdx2 (by kernel_rfl) (by kernel_rfl) (by kernel_rfl) (fun _ _ _ h=>h) (Or.inl ⟨?wdx2,?ydx2⟩) hHeld ?rdx2
 case hdx2=>simp only [gA0,gA1,gA2]; rfl
 case wdx2=>rfl
 case ydx2=>intro w hSw; (try dsimp only at hSw); go_simp; (try with_reducible rfl)
 simp only [Act.put,sA0,sA1,sA2]
 refine wpAnyH_take (i:=2) (v:=?vdx3) (oi:=?odx3) ?hdx3 (by kernel_rfl) (by kernel_rfl) (by kernel_rfl) (fun _ _ _ h=>h) (Or.inl ⟨?wdx3,?ydx3⟩) hHeld ?rdx3
 case hdx3=>simp only [gA0,gA1,gA2]; rfl
 case wdx3=>rfl
 case ydx3=>intro w hSw; (try dsimp only at hSw); go_simp; (try with_reducible rfl)
 simp only [Act.put,sA0,sA1,sA2]
 refine wpAnyH_take (i:=3) (v:=?vdx4) (oi:=?odx4) ?hdx4 (by kernel_rfl) (by kernel_rfl) (by kernel_rfl) (fun _ _ _ h=>h) (Or.inl ⟨?wdx4,?ydx4⟩) hHeld ?rdx4
 case hdx4=>simp only [gA0,gA1,gA2]; rfl
 case wdx4=>rfl
 case ydx4=>intro w hSw; (try dsimp only at hSw); go_simp; (try with_reducible rfl)
 simp only [Act.put,sA0,sA1,sA2]
 refine wpAnyH_take (i:=4) (v:=?vdx5) (oi:=?odx5) ?hdx5 (by kernel_rfl) (by kernel_rfl) (by kernel_rfl) (fun _ _ _ h=>h) (Or.inl ⟨?wdx5,?ydx5⟩) hHeld ?rdx5
 case hdx5=>simp only [gA0,gA1,gA2]; rfl
 case wdx5=>rfl
 case ydx5=>intro w hSw; (try dsimp only at hSw); go_simp; (try with_reducible rfl)
 simp only [Act.put,sA0,sA1,sA2]
 refine wpAnyH_take (i:=5) (v:=?vdx6) (oi:=?odx6) ?hdx6 (by kernel_rfl) (by kernel_rfl) (by kernel_rfl) (fun _ _ _ h=>h) (Or.inl ⟨?wdx6,?ydx6⟩) hHeld ?rdx6
 case hdx6=>simp only [gA0,gA1,gA2]; rfl
 case wdx6=>rfl
 case ydx6=>intro w hSw; (try dsimp only at hSw); go_simp; (try with_reducible rfl)
 simp only [Act.put,sA0,sA1,sA2]
 refine wpAnyH_ready (rs:=[6]) (by kernel_rfl) (by simp) ?_
 refine AllReadyH.cons (o:=?odx7) ?hdx7 (fun K hK=>?sdx7) AllReadyH.nil
 case hdx7=>simp only [gA0,gA1,gA2]; rfl
 go_simp
 refine (vget_any (HS.out.no hHeld.1).vt HF.out.s).mono ?_
 rintro e w2 ⟨A2,n2,c2,rfl,ho2,hk2⟩
 have h2:=hS _ (hHeld.1.trans' hk2)
 go_wp2_with fail
 refine hK.out _ _ (h2) (fun hHeld=>?_)
 clear hK K
 try simp only [Act.put,sA0,sA1,sA2]
 refine wpAnyH_take (i:=7) (v:=?vdx8) (oi:=?odx8) ?hdx8 (by kernel_rfl) (by kernel_rfl) (by kernel_rfl) (fun _ _ _ h=>h) (Or.inl ⟨?wdx8,?ydx8⟩) hHeld ?rdx8
 case hdx8=>simp only [gA0,gA1,gA2]; rfl
 case wdx8=>rfl
 case ydx8=>intro w hSw; (try dsimp only at hSw); go_simp; (try with_reducible rfl)
 simp only [Act.put,sA0,sA1,sA2]
 refine wpAnyH_take (i:=8) (v:=?vdx9) (oi:=?odx9) ?hdx9 (by kernel_rfl) (by kernel_rfl) (by kernel_rfl) (fun _ _ _ h=>h) (Or.inl ⟨?wdx9,?ydx9⟩) hHeld ?rdx9
 case hdx9=>simp only [gA0,gA1,gA2]; rfl
 case wdx9=>rfl
 case ydx9=>intro w hSw; (try dsimp only at hSw); go_simp; (try with_reducible rfl)
 simp only [Act.put,sA0,sA1,sA2]
 refine wpAnyH_take (i:=9) (v:=?vdx10) (oi:=?odx10) ?hdx10 (by kernel_rfl) (by kernel_rfl) (by kernel_rfl) (fun _ _ _ h=>h) (Or.inl ⟨?wdx10,?ydx10⟩) hHeld ?rdx10
 case hdx10=>simp only [gA0,gA1,gA2]; rfl
 case wdx10=>rfl
 case ydx10=>intro w hSw; (try dsimp only at hSw); go_simp; (try with_reducible rfl)
 simp only [Act.put,sA0,sA1,sA2]
 refine wpAnyH_take (i:=10) (v:=?vdx11) (oi:=?odx11) ?hdx11 (by kernel_rfl) (by kernel_rfl) (by kernel_rfl) (fun _ _ _ h=>h) (Or.inl ⟨?wdx11,?ydx11⟩) hHeld ?rdx11
 case hdx11=>simp only [gA0,gA1,gA2]; rfl
 case wdx11=>rfl
 case ydx11=>intro w hSw; (try dsimp only at hSw); go_simp; (try with_reducible rfl)
 simp only [Act.put,sA0,sA1,sA2]
 refine wpAnyH_take (i:=11) (v:=?vdx12) (oi:=?odx12) ?hdx12 (by kernel_rfl) (by kernel_rfl) (by kernel_rfl) (fun _ _ _ h=>h) (Or.inl ⟨?wdx12,?ydx12⟩) hHeld ?rdx12
 case hdx12=>simp only [gA0,gA1,gA2]; rfl
 case wdx12=>rfl
 case ydx12=>intro w hSw; (try dsimp only at hSw); go_simp; (try with_reducible rfl)
 simp only [Act.put,sA0,sA1,sA2]
 refine wpAnyH_done (by kernel_rfl) ?_ _
 refine NoPanic.normal ?_
 have HK2:=hide h2.1
 have HO2:=hide ho2
 clear hHeld h2 hS
 by_cases e0:N.V.gtE q.s=0
 ·have t0:(((N.V.gtE q.s:Nat):Int) != 0)=false:=by rw [e0]; rfl
  have HFR:Hid (∀ w',Kp No w2 w'→Calls Tryz.prog 144 #[.pointer (some ⟨gc,0,none⟩),.int .i64 (q.lost:Int),.slice A2 n2 c2] w' (GetPost w' (frgE n a q.lost (N.V.gtB q.s)) (frgB n a x q.lost (N.V.gtB q.s)))):=fun w' hk=>frag_all ((HS.out.no HK2.out).cd.at_.no hk) HD.out (HO2.out.bts.no hk) (by have h1:=HO2.out.len; have h2:=HS.out.vt.ok.gtB_len q.s; have h3:=HZ1.out; omega) q.lost
  have HE:Hid (((hlpE n a N.V q.s q.lost:Nat):Int)=(frgE n a q.lost (N.V.gtB q.s):Int)):=by show _=_; rw [hlp_frgE e0]
  have HB:Hid (hlpB n a x N.V q.s q.lost=frgB n a x q.lost (N.V.gtB q.s)):=hlp_frgB e0
  have HKW:Hid (Kp No w0 w2):=HK2.out
  have HZ:Hid (w.heap.size≤w2.heap.size):=(HK0.out.trans' HK2.out).size
  have hT:∀ w',Kp No w2 w'→Kp No w2 w'∧w'.cell? ⟨g,0,none⟩=some (.pointer (some ⟨gc,0,none⟩))∧w'.cell? ⟨B0,6,none⟩=some (.int .u16 (q.lost:Int)):=fun w' hk=>⟨hk,((HS.out.no HK2.out).no hk).blk.cell.1,((HQ.out.no HK2.out).no hk).cell.2.2.2.2.2.2.1⟩
  have hwl:IntKind.i64.wrap (q.lost:Int)=(q.lost:Int):=IntWalk.i64_in _ (by have:=HF.out.lost; omega)
  clear ho2 hk2 e0
  go_wp2_with fail
  refine wp_region_noPanic ?_
  refine wp_region_held_drew (S:=fun w'=>Kp No w2 w'∧w'.cell? ⟨g,0,none⟩=some (.pointer (some ⟨gc,0,none⟩))∧w'.cell? ⟨B0,6,none⟩=some (.int .u16 (q.lost:Int))) (by kernel_rfl) (hT _ (Kp.refl No w2).drew) (fun hHeld=>?_)
  refine wpAnyH_take (i:=0) (v:=?vex1) (oi:=?oex1) ?hex1 (by kernel_rfl) (by kernel_rfl) (by kernel_rfl) (fun _ _ _ h=>h) (Or.inl ⟨?wex1,?yex1⟩) hHeld ?rex1
  case hex1=>simp only [gA0,gA1,gA2]; rfl
  case wex1=>rfl
  case yex1=>intro w hSw; (try dsimp only at hSw); go_simp; (try with_reducible rfl)
  simp only [Act.put,sA0,sA1,sA2]
  refine wpAnyH_take (i:=1) (v:=?vex2) (oi:=?oex2) ?hex2 (by kernel_rfl) (by kernel_rfl) (by kernel_rfl) (fun _ _ _ h=>h) (Or.inl ⟨?wex2,?yex2⟩) hHeld ?rex2
  case hex2=>simp only [gA0,gA1,gA2]; rfl
  case wex2=>rfl
  case yex2=>intro w hSw; (try dsimp only at hSw); go_simp; (try with_reducible rfl)
  simp only [Act.put,sA0,sA1,sA2]
  refine wpAnyH_take (i:=2) (v:=?vex3) (oi:=?oex3) ?hex3 (by kernel_rfl) (by kernel_rfl) (by kernel_rfl) (fun _ _ _ h=>h) (Or.inl ⟨?wex3,?yex3⟩) hHeld ?rex3
  case hex3=>simp only [gA0,gA1,gA2]; rfl
  case wex3=>rfl
  case yex3=>intro w hSw; (try dsimp only at hSw); go_simp; (try with_reducible rfl)
  simp only [Act.put,sA0,sA1,sA2]
  refine wpAnyH_take (i:=3) (v:=?vex4) (oi:=?oex4) ?hex4 (by kernel_rfl) (by kernel_rfl) (by kernel_rfl) (fun _ _ _ h=>h) (Or.inl ⟨?wex4,?yex4⟩) hHeld ?rex4
  case hex4=>simp only [gA0,gA1,gA2]; rfl
  case wex4=>rfl
  case yex4=>intro w hSw; (try dsimp only at hSw); go_simp; (try with_reducible rfl)
  simp only [Act.put,sA0,sA1,sA2]
  refine wpAnyH_take (i:=4) (v:=?vex5) (oi:=?oex5) ?hex5 (by kernel_rfl) (by kernel_rfl) (by kernel_rfl) (fun _ _ _ h=>h) (Or.inl ⟨?wex5,?yex5⟩) hHeld ?rex5
  case hex5=>simp only [gA0,gA1,gA2]; rfl
  case wex5=>rfl
  case yex5=>intro w hSw; (try dsimp only at hSw); go_simp; (try with_reducible rfl)
  simp only [Act.put,sA0,sA1,sA2]
  refine wpAnyH_take (i:=5) (v:=?vex6) (oi:=?oex6) ?hex6 (by kernel_rfl) (by kernel_rfl) (by kernel_rfl) (fun _ _ _ h=>h) (Or.inl ⟨?wex6,?yex6⟩) hHeld ?rex6
  case hex6=>simp only [gA0,gA1,gA2]; rfl
  case wex6=>rfl
  case yex6=>intro w hSw; (try dsimp only at hSw); go_simp; (try with_reducible rfl)
  simp only [Act.put,sA0,sA1,sA2]
  refine wpAnyH_take (i:=6) (v:=?vex7) (oi:=?oex7) ?hex7 (by kernel_rfl) (by kernel_rfl) (by kernel_rfl) (fun _ _ _ h=>h) (Or.inl ⟨?wex7,?yex7⟩) hHeld ?rex7
  case hex7=>simp only [gA0,gA1,gA2]; rfl
  case wex7=>rfl
  case yex7=>intro w hSw; (try dsimp only at hSw); go_simp; (try with_reducible rfl)
  simp only [Act.put,sA0,sA1,sA2]
  refine wpAnyH_take (i:=7) (v:=?vex8) (oi:=?oex8) ?hex8 (by kernel_rfl) (by kernel_rfl) (by kernel_rfl) (fun _ _ _ h=>h) (Or.inl ⟨?wex8,?yex8⟩) hHeld ?rex8
  case hex8=>simp only [gA0,gA1,gA2]; rfl
  case wex8=>rfl
  case yex8=>intro w hSw; (try dsimp only at hSw); go_simp; (try with_reducible rfl)
  simp only [Act.put,sA0,sA1,sA2]
  refine wpAnyH_ready (rs:=[8]) (by kernel_rfl) (by simp) ?_
  refine AllReadyH.cons (o:=?oex9) ?hex9 (fun K hK=>?sex9) AllReadyH.nil
  case hex9=>simp only [gA0,gA1,gA2]; rfl
  go_simp
  refine (HFR.out _ hHeld.1).mono ?_
  rintro e w3 ⟨A3,n3,c3,rfl,ho3,hk3⟩
  have h3:=hT _ (hHeld.1.trans' hk3)
  go_wp2_with fail
  refine hK.out _ _ (h3) (fun hHeld=>?_)
  clear hK K
  try simp only [Act.put,sA0,sA1,sA2]
  refine wpAnyH_take (i:=9) (v:=?vex10) (oi:=?oex10) ?hex10 (by kernel_rfl) (by kernel_rfl) (by kernel_rfl) (fun _ _ _ h=>h) (Or.inl ⟨?wex10,?yex10⟩) hHeld ?rex10
  case hex10=>simp only [gA0,gA1,gA2]; rfl
  case wex10=>rfl
  case yex10=>intro w hSw; (try dsimp only at hSw); go_simp; (try with_reducible rfl)
  simp only [Act.put,sA0,sA1,sA2]
  refine wpAnyH_take (i:=10) (v:=?vex11) (oi:=?oex11) ?hex11 (by kernel_rfl) (by kernel_rfl) (by kernel_rfl) (fun _ _ _ h=>h) (Or.inl ⟨?wex11,?yex11⟩) hHeld ?rex11
  case hex11=>simp only [gA0,gA1,gA2]; rfl
  case wex11=>rfl
  case yex11=>intro w hSw; (try dsimp only at hSw); go_simp; (try with_reducible rfl)
  simp only [Act.put,sA0,sA1,sA2]
  refine wpAnyH_take (i:=11) (v:=?vex12) (oi:=?oex12) ?hex12 (by kernel_rfl) (by kernel_rfl) (by kernel_rfl) (fun _ _ _ h=>h) (Or.inl ⟨?wex12,?yex12⟩) hHeld ?rex12
  case hex12=>simp only [gA0,gA1,gA2]; rfl
  case wex12=>rfl
  case yex12=>intro w hSw; (try dsimp only at hSw); go_simp; (try with_reducible rfl)
  simp only [Act.put,sA0,sA1,sA2]
  refine wpAnyH_take (i:=12) (v:=?vex13) (oi:=?oex13) ?hex13 (by kernel_rfl) (by kernel_rfl) (by kernel_rfl) (fun _ _ _ h=>h) (Or.inl ⟨?wex13,?yex13⟩) hHeld ?rex13
  case hex13=>simp only [gA0,gA1,gA2]; rfl
  case wex13=>rfl
  case yex13=>intro w hSw; (try dsimp only at hSw); go_simp; (try with_reducible rfl)
  simp only [Act.put,sA0,sA1,sA2]
  refine wpAnyH_done (by kernel_rfl) ?_ _
  refine NoPanic.normal ?_
  have HK3:=hide hHeld.1
  have HO3:=hide ho3
  clear hHeld h3 hT
  go_wp2
  go_ret2
  exact ⟨A3,n3,c3,by rw [HE.out]; rfl,by rw [HB.out]; exact HO3.out.rebase fun i hi=>Nat.le_trans HZ.out (HO3.out.ge i hi),HK0.out.trans' (HKW.out.trans' HK3.out)⟩
 ·have t0:(((N.V.gtE q.s:Nat):Int) != 0)=true:=by simp; omega
  have HE:Hid (hlpE n a N.V q.s q.lost=N.V.gtE q.s∧hlpB n a x N.V q.s q.lost=[]):=⟨hlpE_err e0,hlpB_nil (by rw [hlpE_err e0]; exact e0)⟩
  clear ho2 hk2 e0
  go_wp2
  go_ret2
  rw [GetPost,HE.out.1,HE.out.2]
  exact ⟨none,0,0,rfl,Own.nil _ _ _,HK0.out.trans' HK2.out⟩
/-- Sizes that are not too large. -/
structure SzK (V:Vt):Prop where
 n:V.D.cells.length≤1000
 l:V.D.loose.length+2≤1000000
 s:V.D.syncs+1≤1000000000
 z:V.D.size≤1000
section
variable {n a:Nat} {x:Nat→UInt8} {V:Vt} {q:Rq}
theorem ndV_2 (h:q.kind=2):ndV V q=V.pt q.s q.data:=by unfold ndV; rw [if_pos h]
theorem ndV_5 (h:q.kind=5):ndV V q=V.dr q.s:=by unfold ndV; rw [if_neg (by omega),if_pos h]
theorem ndV_n (h2:q.kind≠2) (h5:q.kind≠5):ndV V q=V:=by unfold ndV; rw [if_neg h2,if_neg h5]
theorem ndE_2 (h:q.kind=2):ndE n a V q=V.bgE q.s q.data:=by unfold ndE; rw [if_pos h]
theorem ndE_3 (h:q.kind=3):ndE n a V q=V.gtE q.s:=by unfold ndE; rw [if_neg (by omega),if_pos h]
theorem ndE_4 (h:q.kind=4):ndE n a V q=hlpE n a V q.s q.lost:=by unfold ndE; rw [if_neg (by omega),if_neg (by omega),if_pos h]
theorem ndE_5 (h:q.kind=5):ndE n a V q=V.drE q.s:=by unfold ndE; rw [if_neg (by omega),if_neg (by omega),if_neg (by omega),if_pos h]
theorem ndE_6 (h:q.kind=6):ndE n a V q=V.gtE q.s:=by unfold ndE; rw [if_neg (by omega),if_neg (by omega),if_neg (by omega),if_neg (by omega),if_pos h]
theorem ndE_n (h2:q.kind≠2) (h3:q.kind≠3) (h4:q.kind≠4) (h5:q.kind≠5) (h6:q.kind≠6):ndE n a V q=0:=by unfold ndE; rw [if_neg h2,if_neg h3,if_neg h4,if_neg h5,if_neg h6]
theorem ndB_3 (h:q.kind=3):ndB n a x V q=V.gtB q.s:=by unfold ndB; rw [if_pos h]
theorem ndB_4 (h:q.kind=4):ndB n a x V q=hlpB n a x V q.s q.lost:=by unfold ndB; rw [if_neg (by omega),if_pos h]
theorem ndB_n (h3:q.kind≠3) (h4:q.kind≠4):ndB n a x V q=[]:=by unfold ndB; rw [if_neg h3,if_neg h4]
end
/-- What do knows: the node, the request's box at B0, the result's box behind it, the reply's behind that. -/
structure DoW (w:World) (F F1:Nat→Prop) (B n k:Nat) (x:Nat→UInt8) (g gc gd gv b:Nat) (rv:Value) (N:Nd) (q:Rq) (A:Option Addr) (m c B0:Nat) (wr:World):Prop where
 sv:SvR wr F1 B n k x g gc gd gv b rv N
 up:∀ z,F1 z→Up F w z∧z≠B0∧z≠B0+1∧z≠B0+2
 qb:Bx8 84 wr B0 (.int .u64 (q.num:Int)) (.int .i64 q.kind) (.int .u32 (cO q.s:Int)) (.int .u16 (cS q.s:Int)) (.int .u16 (cL q.s:Int)) (.int .u32 (cG q.s:Int)) (.int .u16 (q.lost:Int)) (.slice A m c)
 rb:Bx3 81 wr (B0+1) (.int .u64 0) (.int .i64 0) (.slice none 0 0)
 pb:Bx3 81 wr (B0+2) (.int .u64 (q.num:Int)) (.int .i64 0) (.slice none 0 0)
 kp:Kp F w wr
 le:w.heap.size≤B0
 bb:B≤w.heap.size
 fb:∀ z,F z→B≤z
/-- What do has come to. -/
structure DoE (w:World) (F:Nat→Prop) (B n k a:Nat) (x:Nat→UInt8) (g gc gd:Nat) (N:Nd) (q:Rq) (A:Option Addr) (m c B0 gv b:Nat) (rv:Value) (u:Value) (wr:World):Prop where
 sv:∃ F1,SvR wr F1 B n k x g gc gd gv b rv ⟨ndV N.V q,N.sn,N.done+1⟩∧∀ z,F1 z→Up F w z∧z≠B0∧z≠B0+1∧z≠B0+2
 qb:Bx8 84 wr B0 (.int .u64 (q.num:Int)) (.int .i64 q.kind) (.int .u32 (cO q.s:Int)) (.int .u16 (cS q.s:Int)) (.int .u16 (cL q.s:Int)) (.int .u32 (cG q.s:Int)) (.int .u16 (q.lost:Int)) (.slice A m c)
 rb:Bx3 81 wr (B0+1) (.int .u64 0) (.int .i64 0) (.slice none 0 0)
 pb:Bx3 81 wr (B0+2) (.int .u64 (q.num:Int)) (.int .i64 (ndE n a N.V q:Int)) u
 ow:Own wr w.heap.size 5 u (ndB n a x N.V q)
 nl:chgK q.kind=true→u=.slice none 0 0
 kp:Kp F w wr
 le:w.heap.size≤B0
 bb:B≤w.heap.size
 fb:∀ z,F z→B≤z
section
variable {w wr w1:World} {F F1 F2:Nat→Prop} {B n k a g gc gd gv b b1 m c B0:Nat} {x:Nat→UInt8} {rv:Value} {N:Nd} {q:Rq} {A:Option Addr} {V V1:Vt} {sn:List Rp} {dn:Nat}
theorem DoW.no (h:DoW w F F1 B n k x g gc gd gv b rv N q A m c B0 wr) (hk:Kp No wr w1):DoW w F F1 B n k x g gc gd gv b rv N q A m c B0 w1 :=
 ⟨h.sv.no hk,h.up,h.qb.no hk,h.rb.no hk,h.pb.no hk,h.kp.trans' (hk.of_no F),h.le,h.bb,h.fb⟩
theorem DoW.held (h:DoW w F F1 B n k x g gc gd gv b rv N q A m c B0 wr):wr.cell? ⟨g,2,none⟩=some (.pointer (some ⟨gv,0,none⟩))∧wr.cell? ⟨B0,2,none⟩=some (.int .u32 (cO q.s:Int))∧wr.cell? ⟨B0,3,none⟩=some (.int .u16 (cS q.s:Int))∧wr.cell? ⟨B0,4,none⟩=some (.int .u16 (cL q.s:Int))∧wr.cell? ⟨B0,5,none⟩=some (.int .u32 (cG q.s:Int))∧wr.cell? ⟨B0,7,none⟩=some (.slice A m c):=by
 obtain ⟨z0,z1,z2,z3,z4,z5,z6,z7⟩:=h.qb.cell
 exact ⟨h.sv.blk.cell.2.2.1,z2,z3,z4,z5,z7⟩
theorem DoE.held {u:Value} (h:DoE w F B n k a x g gc gd N q A m c B0 gv b rv u wr):wr.cell? ⟨g,2,none⟩=some (.pointer (some ⟨gv,0,none⟩))∧wr.cell? ⟨B0,2,none⟩=some (.int .u32 (cO q.s:Int))∧wr.cell? ⟨B0,3,none⟩=some (.int .u16 (cS q.s:Int))∧wr.cell? ⟨B0,4,none⟩=some (.int .u16 (cL q.s:Int))∧wr.cell? ⟨B0,5,none⟩=some (.int .u32 (cG q.s:Int))∧wr.cell? ⟨B0,7,none⟩=some (.slice A m c):=by
 obtain ⟨z0,z1,z2,z3,z4,z5,z6,z7⟩:=h.qb.cell
 obtain ⟨F1,hs,_⟩:=h.sv
 exact ⟨hs.blk.cell.2.2.1,z2,z3,z4,z5,z7⟩
/-- A call on the vault. -/
theorem DoW.call (h:DoW w F F1 B n k x g gc gd gv b rv ⟨V,sn,dn⟩ q A m c B0 wr) (hv:VtR w1 (Up (Fsv F1 g rv) wr) gv gd b1 V1) (hk:Kp (Fsv F1 g rv) wr w1):DoW w F (Up F1 wr) B n k x g gc gd gv b1 rv ⟨V1,sn,dn⟩ q A m c B0 w1:=by
 have hs:=h.kp.size
 have l0:=h.qb.lt
 have l1:=h.rb.lt
 have l2:=h.pb.lt
 refine ⟨h.sv.vault hv hk,fun z f=>?_,h.qb.keep hk fun f=>(h.up _ f.1).2.1 rfl,h.rb.keep hk fun f=>(h.up _ f.1).2.2.1 rfl,h.pb.keep hk fun f=>(h.up _ f.1).2.2.2 rfl,h.kp.trans (hk.mono fun z f=>(h.up z f.1).1),h.le,h.bb,h.fb⟩
 rcases f with f | f
 ·exact h.up z f
 ·exact ⟨.inr (by omega),by omega,by omega,by omega⟩
/-- A cell of the reply is written. -/
theorem DoW.put (h:DoW w F F1 B n k x g gc gd gv b rv N q A m c B0 wr) (j:Nat) (u:Value):SvR (wr.setCell ⟨B0+2,j,none⟩ u) F1 B n k x g gc gd gv b rv N∧Kp (fun z=>z=B0+2) wr (wr.setCell ⟨B0+2,j,none⟩ u) ∧
  Bx8 84 (wr.setCell ⟨B0+2,j,none⟩ u) B0 (.int .u64 (q.num:Int)) (.int .i64 q.kind) (.int .u32 (cO q.s:Int)) (.int .u16 (cS q.s:Int)) (.int .u16 (cL q.s:Int)) (.int .u32 (cG q.s:Int)) (.int .u16 (q.lost:Int)) (.slice A m c)∧Bx3 81 (wr.setCell ⟨B0+2,j,none⟩ u) (B0+1) (.int .u64 0) (.int .i64 0) (.slice none 0 0):=by
 have K:Kp (fun z=>z=B0+2) wr (wr.setCell ⟨B0+2,j,none⟩ u):=Kp.setCell (S:=fun z=>z=B0+2) (p:=⟨B0+2,j,none⟩) rfl u
 exact ⟨h.sv.keep K (fun z _ f e=>(h.up z f).2.2.2 e) (fun z e=>by have:=h.bb; have:=h.le; omega),K,h.qb.keep K (by omega),h.rb.keep K (by omega)⟩
theorem DoW.held1 (h:DoW w F F1 B n k x g gc gd gv b rv N q A m c B0 wr) (j:Nat) (u:Value):(wr.setCell ⟨B0+2,j,none⟩ u).cell? ⟨g,2,none⟩=some (.pointer (some ⟨gv,0,none⟩))∧(wr.setCell ⟨B0+2,j,none⟩ u).cell? ⟨B0,2,none⟩=some (.int .u32 (cO q.s:Int))∧(wr.setCell ⟨B0+2,j,none⟩ u).cell? ⟨B0,3,none⟩=some (.int .u16 (cS q.s:Int))∧(wr.setCell ⟨B0+2,j,none⟩ u).cell? ⟨B0,4,none⟩=some (.int .u16 (cL q.s:Int))∧(wr.setCell ⟨B0+2,j,none⟩ u).cell? ⟨B0,5,none⟩=some (.int .u32 (cG q.s:Int))∧(wr.setCell ⟨B0+2,j,none⟩ u).cell? ⟨B0,7,none⟩=some (.slice A m c):=by
 obtain ⟨h1,_,h3,_⟩:=h.put j u
 obtain ⟨z0,z1,z2,z3,z4,z5,z6,z7⟩:=h3.cell
 exact ⟨h1.blk.cell.2.2.1,z2,z3,z4,z5,z7⟩
theorem DoW.one (h:DoW w F F1 B n k x g gc gd gv b rv ⟨V1,N.sn,N.done+1⟩ q A m c B0 wr) {er:Nat} (hV:ndV N.V q=V1) (hE:ndE n a N.V q=er) (hB:ndB n a x N.V q=[]) :
  DoE w F B n k a x g gc gd N q A m c B0 gv b rv (.slice none 0 0) (wr.setCell ⟨B0+2,1,none⟩ (.int .i64 (er:Int))):=by
 obtain ⟨h1,K,h3,h4⟩:=h.put 1 (.int .i64 (er:Int))
 refine ⟨⟨F1,by rw [hV]; exact h1,h.up⟩,h3,h4,by rw [hE]; exact h.pb.set1 _,by rw [hB]; exact Own.nil _ _ _,fun _=>rfl,h.kp.trans (K.mono fun z e=>.inr (by have:=h.le; omega)),h.le,h.bb,h.fb⟩
theorem DoW.two (h:DoW w F F1 B n k x g gc gd gv b rv ⟨V1,N.sn,N.done+1⟩ q A m c B0 wr) {er:Nat} {u:Value} {bs:List UInt8} (ho:Own wr w.heap.size 5 u bs) (hV:ndV N.V q=V1) (hE:ndE n a N.V q=er) (hB:ndB n a x N.V q=bs) (hc:chgK q.kind=false) :
  DoE w F B n k a x g gc gd N q A m c B0 gv b rv u ((wr.setCell ⟨B0+2,2,none⟩ u).setCell ⟨B0+2,1,none⟩ (.int .i64 (er:Int))):=by
 have K:Kp (fun z=>z=B0+2) wr ((wr.setCell ⟨B0+2,2,none⟩ u).setCell ⟨B0+2,1,none⟩ (.int .i64 (er:Int))):=(Kp.setCell (S:=fun z=>z=B0+2) (p:=⟨B0+2,2,none⟩) rfl u).trans' (Kp.setCell (S:=fun z=>z=B0+2) (p:=⟨B0+2,1,none⟩) rfl _)
 have hp:wr.heap[B0+2]?=_:=h.pb
 refine ⟨⟨F1,by rw [hV]; exact h.sv.keep K (fun z _ f e=>(h.up z f).2.2.2 e) (fun z e=>by have:=h.bb; have:=h.le; omega),h.up⟩,h.qb.keep K (by omega),h.rb.keep K (by omega),by rw [hE]; exact (h.pb.set2 _).set1 _,by rw [hB]; exact ho.keep K fun z hz e=>own_ne_at ho hp (by decide) (by rw [hz,e]),(fun e=>by rw [hc] at e; cases e),h.kp.trans (K.mono fun z e=>.inr (by have:=h.le; omega)),h.le,h.bb,h.fb⟩
theorem DoW.zero (h:DoW w F F1 B n k x g gc gd gv b rv ⟨V1,N.sn,N.done+1⟩ q A m c B0 wr) (hV:ndV N.V q=V1) (hE:ndE n a N.V q=0) (hB:ndB n a x N.V q=[]) :
  DoE w F B n k a x g gc gd N q A m c B0 gv b rv (.slice none 0 0) wr :=
 ⟨⟨F1,by rw [hV]; exact h.sv,h.up⟩,h.qb,h.rb,by rw [hE]; exact h.pb,by rw [hB]; exact Own.nil _ _ _,fun _=>rfl,h.kp,h.le,h.bb,h.fb⟩
theorem DoW.begin (h:SvR w F B n k x g gc gd gv b rv N) (hd:N.done+1=dn):DoW w F (fun z=>F z∧z < w.heap.size) B n k x g gc gd gv b rv ⟨N.V,N.sn,N.done+1⟩ q A m c w.heap.size ((((w.alloc (.cells #[.int .u64 (q.num:Int),.int .i64 q.kind,.int .u32 (cO q.s:Int),.int .u16 (cS q.s:Int),.int .u16 (cL q.s:Int),.int .u32 (cG q.s:Int),.int .u16 (q.lost:Int),.slice A m c] 84)).alloc (.cells #[.int .u64 0,.int .i64 0,.slice none 0 0] 81)).setCell ⟨g,4,none⟩ (.int .u64 (dn:Int))).alloc (.cells #[.int .u64 (q.num:Int),.int .i64 0,.slice none 0 0] 81)):=by
 subst hd
 have e1:∀ (w:World) (o:Obj),(w.alloc o).heap.size=w.heap.size+1:=fun w o=>by simp
 generalize hw1:(w.alloc (.cells #[.int .u64 (q.num:Int),.int .i64 q.kind,.int .u32 (cO q.s:Int),.int .u16 (cS q.s:Int),.int .u16 (cL q.s:Int),.int .u32 (cG q.s:Int),.int .u16 (q.lost:Int),.slice A m c] 84))=w1
 have q1:Kp No w w1:=by rw [← hw1]; exact Kp.alloc No _ _
 have z1:w1.heap.size=w.heap.size+1:=by rw [← hw1]; exact e1 _ _
 have b1:Bx8 84 w1 w.heap.size (.int .u64 (q.num:Int)) (.int .i64 q.kind) (.int .u32 (cO q.s:Int)) (.int .u16 (cS q.s:Int)) (.int .u16 (cL q.s:Int)) (.int .u32 (cG q.s:Int)) (.int .u16 (q.lost:Int)) (.slice A m c):=by rw [← hw1]; exact Bx8.new _ _ _ _ _ _ _ _ _ _
 generalize hw2:w1.alloc (.cells #[.int .u64 0,.int .i64 0,.slice none 0 0] 81)=w2
 have q2:Kp No w1 w2:=by rw [← hw2]; exact Kp.alloc No _ _
 have z2:w2.heap.size=w.heap.size+2:=by rw [← hw2,e1,z1]
 have b2:Bx3 81 w2 (w.heap.size+1) (.int .u64 0) (.int .i64 0) (.slice none 0 0):=by rw [← z1,← hw2]; exact Bx3.new _ _ _ _ _
 have hs:=(h.lt.no (q1.trans' q2)).count (N.done+1)
 have K:Kp (fun z=>z=g) w2 (w2.setCell ⟨g,4,none⟩ (.int .u64 ((N.done+1:Nat):Int))):=Kp.setCell (S:=fun z=>z=g) (p:=⟨g,4,none⟩) rfl _
 have hg:=h.blk.lt
 generalize hw3:w2.setCell ⟨g,4,none⟩ (.int .u64 ((N.done+1:Nat):Int))=w3 at hs K ⊢
 have z3:w3.heap.size=w.heap.size+2:=by rw [← hw3,← z2]; simp [World.setCell]
 generalize hw4:w3.alloc (.cells #[.int .u64 (q.num:Int),.int .i64 0,.slice none 0 0] 81)=w4
 have q4:Kp No w3 w4:=by rw [← hw4]; exact Kp.alloc No _ _
 have b4:Bx3 81 w4 (w.heap.size+2) (.int .u64 (q.num:Int)) (.int .i64 0) (.slice none 0 0):=by rw [← z3,← hw4]; exact Bx3.new _ _ _ _ _
 exact ⟨hs.no q4,fun z f=>⟨.inl f.1,by omega,by omega,by omega⟩,((b1.no q2).keep K (by omega)).no q4,(b2.keep K (by omega)).no q4,b4,(((q1.trans' q2).of_no F).trans (K.mono fun z e=>.inl (by subst e; exact h.fg))).trans' (q4.of_no F),Nat.le_refl _,h.cd.bw,h.fb⟩
end
/-- What do comes to. -/
def DidPost (w:World) (F:Nat→Prop) (B n k a:Nat) (x:Nat→UInt8) (g gc gd:Nat) (N:Nd) (q:Rq) (e:Ending) (w1:World):Prop :=
 ∃ u,e=.returned (rplV (ndP n a x N.V q) u)∧Own w1 w.heap.size 5 u (ndB n a x N.V q)∧(chgK q.kind=true→u=.slice none 0 0)∧SvAt w1 (Up F w) B n k x g gc gd ⟨ndV N.V q,N.sn,N.done+1⟩∧Kp F w w1
theorem DoE.fin {w wr:World} {F:Nat→Prop} {B n k a g gc gd gv b m c B0:Nat} {x:Nat→UInt8} {rv u:Value} {N:Nd} {q:Rq} {A:Option Addr} (h:DoE w F B n k a x g gc gd N q A m c B0 gv b rv u wr) :
  DidPost w F B n k a x g gc gd N q (.returned (rplV (ndP n a x N.V q) u)) (((wr.setCell ⟨B0+1,0,none⟩ (.int .u64 (q.num:Int))).setCell ⟨B0+1,1,none⟩ (.int .i64 (ndE n a N.V q:Int))).setCell ⟨B0+1,2,none⟩ u):=by
 have K:=kp3 (S:=fun z=>z=B0+1) wr (B0+1) (.int .u64 (q.num:Int)) (.int .i64 (ndE n a N.V q:Int)) u rfl
 obtain ⟨F1,hs,hu⟩:=h.sv
 have hp:wr.heap[B0+1]?=_:=h.rb
 have hle:=h.le
 have hbb:=h.bb
 have h1:=hs.keep K (fun z _ f e=>(hu z f).2.2.1 e) (fun z e=>by omega)
 refine ⟨u,rfl,h.ow.keep K fun z hz e=>own_ne_at h.ow hp (by decide) (by rw [hz,e]),h.nl,⟨gv,b,rv,h1.mono (fun z f=>(hu z f).1) fun z f=>?_⟩,h.kp.trans (K.mono fun z e=>.inr (by omega))⟩
 rcases f with f | f
 ·exact h.fb z f
 ·omega
end Go.Proofs.YtnfcfdhlmeimhaaGreat
