/- The document's does of layer 16, as a contract over memory (printed by tools/gen_ndn.py). -/
import Derived.Test.YtnfcfdhlmeimhaaGreatSpbk
namespace Go.Proofs.YtnfcfdhlmeimhaaGreat
open Go.RowKit
set_option linter.unusedVariables false
set_option linter.unusedSimpArgs false
set_option maxRecDepth 20000
/-- What does comes to. -/
def RdsPost (w:World) (F:Nat→Prop) (n k:Nat) (N1:Nd) (er:Nat) (bs:List UInt8) (e:Ending) (w1:World):Prop:=∃ v A m c,e=.returned (.tuple #[v,.slice A m c,.int .i64 (er:Int)])∧RsAt w1 F n k N1 v∧Bts w1 (.slice A m c) bs∧Kp No w w1
set_option maxHeartbeats 8000000 in
theorem r16does_any {w:World} {F:Nat→Prop} {n k a d qq mq cq:Nat} {x:Nat→UInt8} {N:Nd} {q:Rq} {v:Value} {Aq:Option Addr} (h:RsAt w F n k N v) (hD:Dim n k a d qq) (hX:Pts n a x) (hf:q.Fit) (hz:SzK N.V) (hb:Bts w (.slice Aq mq cq) q.data) (hl:q.data.length≤100000) :
  Calls Tryz.prog 46 #[v,rqV q (.slice Aq mq cq)] w (RdsPost w F n k ⟨ndV N.V q,N.sn,N.done⟩ (ndE n a N.V q) (ndB n a x N.V q)):=by
 obtain ⟨gc0,cc0,A0,cl0,B0,ck0,cs,ls,As,ms,cs9,ps,rfl,hR0⟩:=h.form
 obtain ⟨hs,hq,hr,hR,hk⟩:=hR0.three (n:=n) (k:=k) (q:=q) (Aq:=Aq) (mq:=mq) (cq:=cq)
 have HS:=hide hs
 have HQ:=hide hq
 have HR:=hide hr
 have HV:=hide hR.rv
 have HSE:=hide hR.se
 have HEQ:=hide hR.eq
 have HB:=hide (hb.no hk)
 have HK:=hide hk
 have HL:Hid (mq≤100000):=by show mq≤_; rw [hb.len]; exact hl
 have HD:=hide hD
 have HX:=hide hX
 have HF:=hide hf
 have HZ:=hide hz
 clear hs hr hR hk h hR0 hq hb hl hD hX hf hz
 unfold rsV
 go_enter Tryz.func46,Tryz.ntmps46
 go_upto_region 3 with (fail)
 generalize (((w.alloc (.cells #[.int .i64 (n:Int),.int .i64 (k:Int),.int .i64 (N.V.D.size:Int),.slice (some ⟨gc0,0,none⟩) N.V.D.cells.length cc0,.slice A0 N.V.D.loose.length cl0,.int .i64 (N.V.D.syncs:Int),.slice B0 N.V.L.length ck0,.slice As ms cs9,.int .u64 (N.done:Int)] 46)).alloc (.cells #[.int .u64 (q.num:Int),.int .i64 q.kind,.int .u32 (cO q.s:Int),.int .u16 (cS q.s:Int),.int .u16 (cL q.s:Int),.int .u32 (cG q.s:Int),.int .u16 (q.lost:Int),.slice Aq mq cq] 56)).alloc (.cells #[.int .i64 0,.int .i64 0,.int .i64 0,.slice none 0 0,.slice none 0 0,.int .i64 0,.slice none 0 0,.slice none 0 0,.int .u64 0] 46))=w0 at HS HQ HR HV HSE HB HK ⊢
 obtain ⟨s0,hs0⟩:∃ s0,s0=w.heap.size:=⟨_,rfl⟩
 rw [← hs0] at HS HQ HR HV HSE ⊢
 have HS0:=hide hs0
 clear hs0
 by_cases e2:q.kind=2
 ·have HV1:Hid (ndV N.V q=N.V.pt q.s q.data):=ndV_2 e2
  have HE1:Hid (ndE n a N.V q=N.V.bgE q.s q.data):=ndE_2 e2
  have HB1:Hid (ndB n a x N.V q=[]):=ndB_n (by omega) (by omega)
  have t2:(q.kind == 2)=true:=by simp [e2]
  clear e2
  obtain ⟨y0,y1,y2,y3,y4,y5,y6,y7,y8⟩:=HS.out.cell
  obtain ⟨b0,b1,b2,b3,b4,b5,b6,b7⟩:=HQ.out.cell
  go_wp2_with fail
  refine (rput12_any (V:=N.V) ⟨_,_,_,_,_,rfl,HV.out⟩ HF.out.s HB.out (by have:=HL.out; omega) HZ.out.l HZ.out.s).mono ?_
  rintro e w1 ⟨v1,rfl,⟨vc1,vl1,vk1,cs1,ls1,rfl,hr1⟩,hk1⟩
  obtain ⟨gc1,cc1,A1,cl1,B1,ck1,rfl,rfl,rfl⟩:=hr1.forms
  have HK1:=hide (HK.out.trans' hk1)
  have HS1:=hide (HS.out.no hk1)
  have HR1:=hide (HR.out.no hk1)
  have HSE1:=hide (HSE.out.no hk1)
  have KV:=kpV (S:=fun z=>z=s0) w1 s0 (.int .i64 ((N.V.pt q.s q.data).D.size:Int)) (.slice (some ⟨gc1,0,none⟩) (N.V.pt q.s q.data).D.cells.length cc1) (.slice A1 (N.V.pt q.s q.data).D.loose.length cl1) (.int .i64 ((N.V.pt q.s q.data).D.syncs:Int)) (.slice B1 (N.V.pt q.s q.data).L.length ck1) rfl
  have HS2:=hide (HS1.out.vlt (.int .i64 ((N.V.pt q.s q.data).D.size:Int)) (.slice (some ⟨gc1,0,none⟩) (N.V.pt q.s q.data).D.cells.length cc1) (.slice A1 (N.V.pt q.s q.data).D.loose.length cl1) (.int .i64 ((N.V.pt q.s q.data).D.syncs:Int)) (.slice B1 (N.V.pt q.s q.data).L.length ck1))
  have HR2:=hide (HR1.out.keep KV (by omega))
  have HV2:=hide (hr1.keep KV fun z _ hn e=>hn (.inr (.inl e)))
  have HSE2:=hide (HSE1.out.keep KV fun z _ hn e=>hn (.inr (.inl e)))
  have HK2:=hide (HK1.out.trans (KV.mono fun z e=>.inr (by have:=HS0.out; omega)))
  clear hr1 hk1 KV y0 y1 y2 y3 y4 y5 y6 y7 y8 b0 b1 b2 b3 b4 b5 b6 b7
  obtain ⟨y0,y1,y2,y3,y4,y5,y6,y7,y8⟩:=HS1.out.cell
  have f0:=HS1.out.fz 0
  have f1:=HS1.out.fz 1
  have f2:=HS1.out.fz 2
  have f3:=HS1.out.fz 3
  have f4:=HS1.out.fz 4
  have f5:=HS1.out.fz 5
  have f6:=HS1.out.fz 6
  have f7:=HS1.out.fz 7
  have f8:=HS1.out.fz 8
  unfold tupE rvV
  go_upto_region 18 with (fail)
  generalize (((((w1.setCell ⟨s0,2,none⟩ (.int .i64 ((N.V.pt q.s q.data).D.size:Int))).setCell ⟨s0,3,none⟩ (.slice (some ⟨gc1,0,none⟩) (N.V.pt q.s q.data).D.cells.length cc1)).setCell ⟨s0,4,none⟩ (.slice A1 (N.V.pt q.s q.data).D.loose.length cl1)).setCell ⟨s0,5,none⟩ (.int .i64 ((N.V.pt q.s q.data).D.syncs:Int))).setCell ⟨s0,6,none⟩ (.slice B1 (N.V.pt q.s q.data).L.length ck1))=wr at HS2 HR2 HV2 HSE2 HK2 ⊢
  clear y0 y1 y2 y3 y4 y5 y6 y7 y8 f0 f1 f2 f3 f4 f5 f6 f7 f8 HS HR HV HSE HK HS1 HR1 HSE1 HK1
  have HS:=HS2
  have HR:=HR2
  have HV:Hid (RvR wr (Fr3 F s0) (N.V.pt q.s q.data) _ _ _ _ _):=HV2
  have HSE:=HSE2
  have HK:=HK2
  clear HS2 HR2 HV2 HSE2 HK2
  have K9:=kp9 (S:=fun z=>z=s0+2) wr (s0+2) (.int .i64 (n:Int)) (.int .i64 (k:Int)) (.int .i64 ((N.V.pt q.s q.data).D.size:Int)) (.slice (some ⟨gc1,0,none⟩) (N.V.pt q.s q.data).D.cells.length cc1) (.slice A1 (N.V.pt q.s q.data).D.loose.length cl1) (.int .i64 ((N.V.pt q.s q.data).D.syncs:Int)) (.slice B1 (N.V.pt q.s q.data).L.length ck1) (.slice As ms cs9) (.int .u64 (N.done:Int)) rfl
  have HC:=hide (HR.out.all (.int .i64 (n:Int)) (.int .i64 (k:Int)) (.int .i64 ((N.V.pt q.s q.data).D.size:Int)) (.slice (some ⟨gc1,0,none⟩) (N.V.pt q.s q.data).D.cells.length cc1) (.slice A1 (N.V.pt q.s q.data).D.loose.length cl1) (.int .i64 ((N.V.pt q.s q.data).D.syncs:Int)) (.slice B1 (N.V.pt q.s q.data).L.length ck1) (.slice As ms cs9) (.int .u64 (N.done:Int))).cell
  have HKN:=hide (HK.out.trans (K9.mono fun z e=>.inr (by have:=HS0.out; omega)))
  have HRN:=hide (show RsAt _ F n k ⟨N.V.pt q.s q.data,N.sn,N.done⟩ (rsV n k ⟨N.V.pt q.s q.data,N.sn,N.done⟩ _ _ _ As ms cs9) from ⟨_,_,_,_,_,_,_,_,ps,rfl,(show RsR wr (Fr3 F s0) ⟨N.V.pt q.s q.data,N.sn,N.done⟩ _ _ _ _ _ _ _ _ _ from ⟨HV.out,HSE.out,HEQ.out⟩).keep K9 (fun z _ hn e=>hn (.inr (.inr (.inr e)))) |>.less fun z f=>.inl f⟩)
  have hrb:wr.heap[s0+2]?=_:=HR.out
  have HBN:=hide (bts_stay hrb (fun j z=>by rcases j with _ | _ | _ | _ | _ | _ | _ | _ | _ | j <;> simp) (Bts.nil _) K9)
  clear K9 hrb
  obtain ⟨y0,y1,y2,y3,y4,y5,y6,y7,y8⟩:=HS.out.cell
  obtain ⟨z0,z1,z2,z3,z4,z5,z6,z7,z8⟩:=HR.out.cell
  have f0:=HR.out.fz 0
  have f1:=HR.out.fz 1
  have f2:=HR.out.fz 2
  have f3:=HR.out.fz 3
  have f4:=HR.out.fz 4
  have f5:=HR.out.fz 5
  have f6:=HR.out.fz 6
  have f7:=HR.out.fz 7
  have f8:=HR.out.fz 8
  go_wp2_with fail
  clear y0 y1 y2 y3 y4 y5 y6 y7 y8 z0 z1 z2 z3 z4 z5 z6 z7 z8 f0 f1 f2 f3 f4 f5 f6 f7 f8
  obtain ⟨q0,q1,q2,q3,q4,q5,q6,q7,q8⟩:=HC.out
  refine bodyPost_ret (v:=.tuple #[rsV n k ⟨N.V.pt q.s q.data,N.sn,N.done⟩ (.slice (some ⟨gc1,0,none⟩) (N.V.pt q.s q.data).D.cells.length cc1) (.slice A1 (N.V.pt q.s q.data).D.loose.length cl1) (.slice B1 (N.V.pt q.s q.data).L.length ck1) As ms cs9,(.slice none 0 0),.int .i64 (N.V.bgE q.s q.data:Int)]) (by simp [results,Tryz.results46,go_sem,rsV,q0,q1,q2,q3,q4,q5,q6,q7,q8]) rfl ?_
  rw [RdsPost,HV1.out,HE1.out,HB1.out]
  exact ⟨_,_,_,_,rfl,HRN.out,HBN.out,HKN.out⟩
 by_cases e3:q.kind=3
 ·have HV1:Hid (ndV N.V q=N.V):=ndV_n (by omega) (by omega)
  have HE1:Hid (ndE n a N.V q=N.V.gtE q.s):=ndE_3 e3
  have HB1:Hid (ndB n a x N.V q=N.V.gtB q.s):=ndB_3 e3
  have t2:(q.kind == 2)=false:=by simp [e3]
  have t4:(q.kind == 4)=false:=by simp [e3]
  have t6:(q.kind == 6)=false:=by simp [e3]
  have t3:(q.kind == 3)=true:=by simp [e3]
  clear e3
  obtain ⟨y0,y1,y2,y3,y4,y5,y6,y7,y8⟩:=HS.out.cell
  obtain ⟨b0,b1,b2,b3,b4,b5,b6,b7⟩:=HQ.out.cell
  go_wp2_with fail
  refine (rget12_any (V:=N.V) ⟨_,_,_,_,_,rfl,HV.out⟩ HF.out.s).mono ?_
  rintro e wr ⟨Ag,mg,cg,rfl,hbg,hkg⟩
  have HS:=hide (HS.out.no hkg)
  have HR:=hide (HR.out.no hkg)
  have HV:=hide (HV.out.no hkg)
  have HSE:=hide (HSE.out.no hkg)
  have HQ:=hide (HQ.out.no hkg)
  have HK:=hide (HK.out.trans' hkg)
  have HBG:=hide hbg
  clear hbg hkg y0 y1 y2 y3 y4 y5 y6 y7 y8 b0 b1 b2 b3 b4 b5 b6 b7
  have b1:=HQ.out.cell.2.1
  by_cases g0:N.V.gtE q.s=0
  ·have tg:(((N.V.gtE q.s:Nat):Int) == 0)=true:=by rw [g0]; rfl
   clear g0
   go_upto_region 18 with (fail)
   clear b1
   have K9:=kp9 (S:=fun z=>z=s0+2) wr (s0+2) (.int .i64 (n:Int)) (.int .i64 (k:Int)) (.int .i64 (N.V.D.size:Int)) (.slice (some ⟨gc0,0,none⟩) N.V.D.cells.length cc0) (.slice A0 N.V.D.loose.length cl0) (.int .i64 (N.V.D.syncs:Int)) (.slice B0 N.V.L.length ck0) (.slice As ms cs9) (.int .u64 (N.done:Int)) rfl
   have HC:=hide (HR.out.all (.int .i64 (n:Int)) (.int .i64 (k:Int)) (.int .i64 (N.V.D.size:Int)) (.slice (some ⟨gc0,0,none⟩) N.V.D.cells.length cc0) (.slice A0 N.V.D.loose.length cl0) (.int .i64 (N.V.D.syncs:Int)) (.slice B0 N.V.L.length ck0) (.slice As ms cs9) (.int .u64 (N.done:Int))).cell
   have HKN:=hide (HK.out.trans (K9.mono fun z e=>.inr (by have:=HS0.out; omega)))
   have HRN:=hide (show RsAt _ F n k N (rsV n k N _ _ _ As ms cs9) from ⟨_,_,_,_,_,_,_,_,ps,rfl,(show RsR wr (Fr3 F s0) N _ _ _ _ _ _ _ _ _ from ⟨HV.out,HSE.out,HEQ.out⟩).keep K9 (fun z _ hn e=>hn (.inr (.inr (.inr e)))) |>.less fun z f=>.inl f⟩)
   have hrb:wr.heap[s0+2]?=_:=HR.out
   have HBN:=hide (bts_stay hrb (fun j z=>by rcases j with _ | _ | _ | _ | _ | _ | _ | _ | _ | j <;> simp) HBG.out K9)
   clear K9 hrb
   obtain ⟨y0,y1,y2,y3,y4,y5,y6,y7,y8⟩:=HS.out.cell
   obtain ⟨z0,z1,z2,z3,z4,z5,z6,z7,z8⟩:=HR.out.cell
   have f0:=HR.out.fz 0
   have f1:=HR.out.fz 1
   have f2:=HR.out.fz 2
   have f3:=HR.out.fz 3
   have f4:=HR.out.fz 4
   have f5:=HR.out.fz 5
   have f6:=HR.out.fz 6
   have f7:=HR.out.fz 7
   have f8:=HR.out.fz 8
   go_wp2_with fail
   clear y0 y1 y2 y3 y4 y5 y6 y7 y8 z0 z1 z2 z3 z4 z5 z6 z7 z8 f0 f1 f2 f3 f4 f5 f6 f7 f8
   obtain ⟨q0,q1,q2,q3,q4,q5,q6,q7,q8⟩:=HC.out
   refine bodyPost_ret (v:=.tuple #[rsV n k N (.slice (some ⟨gc0,0,none⟩) N.V.D.cells.length cc0) (.slice A0 N.V.D.loose.length cl0) (.slice B0 N.V.L.length ck0) As ms cs9,(.slice Ag mg cg),.int .i64 (N.V.gtE q.s:Int)]) (by simp [results,Tryz.results46,go_sem,rsV,q0,q1,q2,q3,q4,q5,q6,q7,q8]) rfl ?_
   rw [RdsPost,HV1.out,HE1.out,HB1.out]
   exact ⟨_,_,_,_,rfl,HRN.out,HBN.out,HKN.out⟩
  ·have tg:(((N.V.gtE q.s:Nat):Int) == 0)=false:=beq_eq_false_iff_ne.2 (by omega)
   clear g0
   go_upto_region 18 with (fail)
   clear b1
   have K9:=kp9 (S:=fun z=>z=s0+2) wr (s0+2) (.int .i64 (n:Int)) (.int .i64 (k:Int)) (.int .i64 (N.V.D.size:Int)) (.slice (some ⟨gc0,0,none⟩) N.V.D.cells.length cc0) (.slice A0 N.V.D.loose.length cl0) (.int .i64 (N.V.D.syncs:Int)) (.slice B0 N.V.L.length ck0) (.slice As ms cs9) (.int .u64 (N.done:Int)) rfl
   have HC:=hide (HR.out.all (.int .i64 (n:Int)) (.int .i64 (k:Int)) (.int .i64 (N.V.D.size:Int)) (.slice (some ⟨gc0,0,none⟩) N.V.D.cells.length cc0) (.slice A0 N.V.D.loose.length cl0) (.int .i64 (N.V.D.syncs:Int)) (.slice B0 N.V.L.length ck0) (.slice As ms cs9) (.int .u64 (N.done:Int))).cell
   have HKN:=hide (HK.out.trans (K9.mono fun z e=>.inr (by have:=HS0.out; omega)))
   have HRN:=hide (show RsAt _ F n k N (rsV n k N _ _ _ As ms cs9) from ⟨_,_,_,_,_,_,_,_,ps,rfl,(show RsR wr (Fr3 F s0) N _ _ _ _ _ _ _ _ _ from ⟨HV.out,HSE.out,HEQ.out⟩).keep K9 (fun z _ hn e=>hn (.inr (.inr (.inr e)))) |>.less fun z f=>.inl f⟩)
   have hrb:wr.heap[s0+2]?=_:=HR.out
   have HBN:=hide (bts_stay hrb (fun j z=>by rcases j with _ | _ | _ | _ | _ | _ | _ | _ | _ | j <;> simp) HBG.out K9)
   clear K9 hrb
   obtain ⟨y0,y1,y2,y3,y4,y5,y6,y7,y8⟩:=HS.out.cell
   obtain ⟨z0,z1,z2,z3,z4,z5,z6,z7,z8⟩:=HR.out.cell
   have f0:=HR.out.fz 0
   have f1:=HR.out.fz 1
   have f2:=HR.out.fz 2
   have f3:=HR.out.fz 3
   have f4:=HR.out.fz 4
   have f5:=HR.out.fz 5
   have f6:=HR.out.fz 6
   have f7:=HR.out.fz 7
   have f8:=HR.out.fz 8
   go_wp2_with fail
   clear y0 y1 y2 y3 y4 y5 y6 y7 y8 z0 z1 z2 z3 z4 z5 z6 z7 z8 f0 f1 f2 f3 f4 f5 f6 f7 f8
   obtain ⟨q0,q1,q2,q3,q4,q5,q6,q7,q8⟩:=HC.out
   refine bodyPost_ret (v:=.tuple #[rsV n k N (.slice (some ⟨gc0,0,none⟩) N.V.D.cells.length cc0) (.slice A0 N.V.D.loose.length cl0) (.slice B0 N.V.L.length ck0) As ms cs9,(.slice Ag mg cg),.int .i64 (N.V.gtE q.s:Int)]) (by simp [results,Tryz.results46,go_sem,rsV,q0,q1,q2,q3,q4,q5,q6,q7,q8]) rfl ?_
   rw [RdsPost,HV1.out,HE1.out,HB1.out]
   exact ⟨_,_,_,_,rfl,HRN.out,HBN.out,HKN.out⟩
 by_cases e4:q.kind=4
 ·have HV1:Hid (ndV N.V q=N.V):=ndV_n (by omega) (by omega)
  have HE1:Hid (ndE n a N.V q=hlpE n a N.V q.s q.lost):=ndE_4 e4
  have HB1:Hid (ndB n a x N.V q=hlpB n a x N.V q.s q.lost):=ndB_4 e4
  have t2:(q.kind == 2)=false:=by simp [e4]
  have t3:(q.kind == 3)=false:=by simp [e4]
  have t6:(q.kind == 6)=false:=by simp [e4]
  have t4:(q.kind == 4)=true:=by simp [e4]
  clear e4
  obtain ⟨y0,y1,y2,y3,y4,y5,y6,y7,y8⟩:=HS.out.cell
  obtain ⟨b0,b1,b2,b3,b4,b5,b6,b7⟩:=HQ.out.cell
  go_wp2_with fail
  refine (rget12_any (V:=N.V) ⟨_,_,_,_,_,rfl,HV.out⟩ HF.out.s).mono ?_
  rintro e wr ⟨Ag,mg,cg,rfl,hbg,hkg⟩
  have HS:=hide (HS.out.no hkg)
  have HR:=hide (HR.out.no hkg)
  have HV:=hide (HV.out.no hkg)
  have HSE:=hide (HSE.out.no hkg)
  have HQ:=hide (HQ.out.no hkg)
  have HK:=hide (HK.out.trans' hkg)
  have HBG:=hide hbg
  clear hbg hkg y0 y1 y2 y3 y4 y5 y6 y7 y8 b0 b1 b2 b3 b4 b5 b6 b7
  have b1:=HQ.out.cell.2.1
  by_cases g0:N.V.gtE q.s=0
  ·have tg:(((N.V.gtE q.s:Nat):Int) == 0)=true:=by rw [g0]; rfl
   obtain ⟨bs,hbs⟩:∃ bs,bs=N.V.gtB q.s:=⟨_,rfl⟩
   rw [← hbs] at HBG
   have HML:=hide HBG.out.len
   have HBS:=hide hbs
   clear hbs
   have hwl:IntKind.i64.wrap (q.lost:Int)=(q.lost:Int):=IntWalk.i64_in _ (by have:=HF.out.lost; omega)
   have hka:(k:Int) - 1=(a:Int):=by have:=HD.out.k_; omega
   have hwa:IntKind.i64.wrap (a:Int)=(a:Int):=IntWalk.i64_in _ (by have:=HD.out.a7; omega)
   have ha0:¬ (a:Int)=0:=by have:=HD.out.a1; omega
   have ha0n:¬ a=0:=by have:=HD.out.a1; omega
   obtain ⟨rm,hrm⟩:∃ rm,rm=mg % a:=⟨_,rfl⟩
   have hrem:((mg:Int).tmod (a:Int))=(rm:Int):=by rw [hrm,Int.tmod_eq_emod_of_nonneg (by omega)]; exact (Int.natCast_emod _ _).symm
   have hwr:IntKind.i64.wrap (rm:Int)=(rm:Int):=IntWalk.i64_in _ (by have:=HD.out.a7; have:=Nat.mod_lt mg (show 0 < a by have:=HD.out.a1; omega); omega)
   have x0:=HS.out.cell.1
   have x1:=HS.out.cell.2.1
   have x6:=HQ.out.cell.2.2.2.2.2.2.1
   have HRM:=hide hrm
   clear hrm
   by_cases hc:n≤q.lost∨mg=0∨rm≠0
   ·have HE2:Hid (hlpE n a N.V q.s q.lost=1∧hlpB n a x N.V q.s q.lost=[]):=by
     have e:=hlpE_bad (n:=n) (a:=a) (lost:=q.lost) g0 (by rw [← HBS.out,← HML.out,← HRM.out]; exact hc)
     exact ⟨e,hlpB_nil (by rw [e]; omega)⟩
    clear g0
    rcases hc with hc | hc | hc
    ·have c1:(n:Int)≤(q.lost:Int):=by omega
     go_upto_region 12 with (fail)
     clear b1
     clear x0 x1 x6
     have K9:=kp9 (S:=fun z=>z=s0+2) wr (s0+2) (.int .i64 (n:Int)) (.int .i64 (k:Int)) (.int .i64 (N.V.D.size:Int)) (.slice (some ⟨gc0,0,none⟩) N.V.D.cells.length cc0) (.slice A0 N.V.D.loose.length cl0) (.int .i64 (N.V.D.syncs:Int)) (.slice B0 N.V.L.length ck0) (.slice As ms cs9) (.int .u64 (N.done:Int)) rfl
     have HC:=hide (HR.out.all (.int .i64 (n:Int)) (.int .i64 (k:Int)) (.int .i64 (N.V.D.size:Int)) (.slice (some ⟨gc0,0,none⟩) N.V.D.cells.length cc0) (.slice A0 N.V.D.loose.length cl0) (.int .i64 (N.V.D.syncs:Int)) (.slice B0 N.V.L.length ck0) (.slice As ms cs9) (.int .u64 (N.done:Int))).cell
     have HKN:=hide (HK.out.trans (K9.mono fun z e=>.inr (by have:=HS0.out; omega)))
     have HRN:=hide (show RsAt _ F n k N (rsV n k N _ _ _ As ms cs9) from ⟨_,_,_,_,_,_,_,_,ps,rfl,(show RsR wr (Fr3 F s0) N _ _ _ _ _ _ _ _ _ from ⟨HV.out,HSE.out,HEQ.out⟩).keep K9 (fun z _ hn e=>hn (.inr (.inr (.inr e)))) |>.less fun z f=>.inl f⟩)
     have hrb:wr.heap[s0+2]?=_:=HR.out
     have HBN:=hide (bts_stay hrb (fun j z=>by rcases j with _ | _ | _ | _ | _ | _ | _ | _ | _ | j <;> simp) (Bts.nil wr) K9)
     clear K9 hrb
     obtain ⟨y0,y1,y2,y3,y4,y5,y6,y7,y8⟩:=HS.out.cell
     obtain ⟨z0,z1,z2,z3,z4,z5,z6,z7,z8⟩:=HR.out.cell
     have f0:=HR.out.fz 0
     have f1:=HR.out.fz 1
     have f2:=HR.out.fz 2
     have f3:=HR.out.fz 3
     have f4:=HR.out.fz 4
     have f5:=HR.out.fz 5
     have f6:=HR.out.fz 6
     have f7:=HR.out.fz 7
     have f8:=HR.out.fz 8
     go_wp2_with fail
     clear y0 y1 y2 y3 y4 y5 y6 y7 y8 z0 z1 z2 z3 z4 z5 z6 z7 z8 f0 f1 f2 f3 f4 f5 f6 f7 f8
     obtain ⟨q0,q1,q2,q3,q4,q5,q6,q7,q8⟩:=HC.out
     refine bodyPost_ret (v:=.tuple #[rsV n k N (.slice (some ⟨gc0,0,none⟩) N.V.D.cells.length cc0) (.slice A0 N.V.D.loose.length cl0) (.slice B0 N.V.L.length ck0) As ms cs9,(.slice none 0 0),.int .i64 1]) (by simp [results,Tryz.results46,go_sem,rsV,q0,q1,q2,q3,q4,q5,q6,q7,q8]) rfl ?_
     rw [RdsPost,HV1.out,HE1.out,HB1.out,HE2.out.1,HE2.out.2]
     exact ⟨_,_,_,_,rfl,HRN.out,HBN.out,HKN.out⟩
    ·by_cases c1:(n:Int)≤(q.lost:Int)
     ·go_upto_region 12 with (fail)
      clear b1
      clear x0 x1 x6
      have K9:=kp9 (S:=fun z=>z=s0+2) wr (s0+2) (.int .i64 (n:Int)) (.int .i64 (k:Int)) (.int .i64 (N.V.D.size:Int)) (.slice (some ⟨gc0,0,none⟩) N.V.D.cells.length cc0) (.slice A0 N.V.D.loose.length cl0) (.int .i64 (N.V.D.syncs:Int)) (.slice B0 N.V.L.length ck0) (.slice As ms cs9) (.int .u64 (N.done:Int)) rfl
      have HC:=hide (HR.out.all (.int .i64 (n:Int)) (.int .i64 (k:Int)) (.int .i64 (N.V.D.size:Int)) (.slice (some ⟨gc0,0,none⟩) N.V.D.cells.length cc0) (.slice A0 N.V.D.loose.length cl0) (.int .i64 (N.V.D.syncs:Int)) (.slice B0 N.V.L.length ck0) (.slice As ms cs9) (.int .u64 (N.done:Int))).cell
      have HKN:=hide (HK.out.trans (K9.mono fun z e=>.inr (by have:=HS0.out; omega)))
      have HRN:=hide (show RsAt _ F n k N (rsV n k N _ _ _ As ms cs9) from ⟨_,_,_,_,_,_,_,_,ps,rfl,(show RsR wr (Fr3 F s0) N _ _ _ _ _ _ _ _ _ from ⟨HV.out,HSE.out,HEQ.out⟩).keep K9 (fun z _ hn e=>hn (.inr (.inr (.inr e)))) |>.less fun z f=>.inl f⟩)
      have hrb:wr.heap[s0+2]?=_:=HR.out
      have HBN:=hide (bts_stay hrb (fun j z=>by rcases j with _ | _ | _ | _ | _ | _ | _ | _ | _ | j <;> simp) (Bts.nil wr) K9)
      clear K9 hrb
      obtain ⟨y0,y1,y2,y3,y4,y5,y6,y7,y8⟩:=HS.out.cell
      obtain ⟨z0,z1,z2,z3,z4,z5,z6,z7,z8⟩:=HR.out.cell
      have f0:=HR.out.fz 0
      have f1:=HR.out.fz 1
      have f2:=HR.out.fz 2
      have f3:=HR.out.fz 3
      have f4:=HR.out.fz 4
      have f5:=HR.out.fz 5
      have f6:=HR.out.fz 6
      have f7:=HR.out.fz 7
      have f8:=HR.out.fz 8
      go_wp2_with fail
      clear y0 y1 y2 y3 y4 y5 y6 y7 y8 z0 z1 z2 z3 z4 z5 z6 z7 z8 f0 f1 f2 f3 f4 f5 f6 f7 f8
      obtain ⟨q0,q1,q2,q3,q4,q5,q6,q7,q8⟩:=HC.out
      refine bodyPost_ret (v:=.tuple #[rsV n k N (.slice (some ⟨gc0,0,none⟩) N.V.D.cells.length cc0) (.slice A0 N.V.D.loose.length cl0) (.slice B0 N.V.L.length ck0) As ms cs9,(.slice none 0 0),.int .i64 1]) (by simp [results,Tryz.results46,go_sem,rsV,q0,q1,q2,q3,q4,q5,q6,q7,q8]) rfl ?_
      rw [RdsPost,HV1.out,HE1.out,HB1.out,HE2.out.1,HE2.out.2]
      exact ⟨_,_,_,_,rfl,HRN.out,HBN.out,HKN.out⟩
     ·have c1n:¬ n≤q.lost:=by omega
      skip
      go_upto_region 12 with (fail)
      clear b1
      clear x0 x1 x6
      have K9:=kp9 (S:=fun z=>z=s0+2) wr (s0+2) (.int .i64 (n:Int)) (.int .i64 (k:Int)) (.int .i64 (N.V.D.size:Int)) (.slice (some ⟨gc0,0,none⟩) N.V.D.cells.length cc0) (.slice A0 N.V.D.loose.length cl0) (.int .i64 (N.V.D.syncs:Int)) (.slice B0 N.V.L.length ck0) (.slice As ms cs9) (.int .u64 (N.done:Int)) rfl
      have HC:=hide (HR.out.all (.int .i64 (n:Int)) (.int .i64 (k:Int)) (.int .i64 (N.V.D.size:Int)) (.slice (some ⟨gc0,0,none⟩) N.V.D.cells.length cc0) (.slice A0 N.V.D.loose.length cl0) (.int .i64 (N.V.D.syncs:Int)) (.slice B0 N.V.L.length ck0) (.slice As ms cs9) (.int .u64 (N.done:Int))).cell
      have HKN:=hide (HK.out.trans (K9.mono fun z e=>.inr (by have:=HS0.out; omega)))
      have HRN:=hide (show RsAt _ F n k N (rsV n k N _ _ _ As ms cs9) from ⟨_,_,_,_,_,_,_,_,ps,rfl,(show RsR wr (Fr3 F s0) N _ _ _ _ _ _ _ _ _ from ⟨HV.out,HSE.out,HEQ.out⟩).keep K9 (fun z _ hn e=>hn (.inr (.inr (.inr e)))) |>.less fun z f=>.inl f⟩)
      have hrb:wr.heap[s0+2]?=_:=HR.out
      have HBN:=hide (bts_stay hrb (fun j z=>by rcases j with _ | _ | _ | _ | _ | _ | _ | _ | _ | j <;> simp) (Bts.nil wr) K9)
      clear K9 hrb
      obtain ⟨y0,y1,y2,y3,y4,y5,y6,y7,y8⟩:=HS.out.cell
      obtain ⟨z0,z1,z2,z3,z4,z5,z6,z7,z8⟩:=HR.out.cell
      have f0:=HR.out.fz 0
      have f1:=HR.out.fz 1
      have f2:=HR.out.fz 2
      have f3:=HR.out.fz 3
      have f4:=HR.out.fz 4
      have f5:=HR.out.fz 5
      have f6:=HR.out.fz 6
      have f7:=HR.out.fz 7
      have f8:=HR.out.fz 8
      go_wp2_with fail
      clear y0 y1 y2 y3 y4 y5 y6 y7 y8 z0 z1 z2 z3 z4 z5 z6 z7 z8 f0 f1 f2 f3 f4 f5 f6 f7 f8
      obtain ⟨q0,q1,q2,q3,q4,q5,q6,q7,q8⟩:=HC.out
      refine bodyPost_ret (v:=.tuple #[rsV n k N (.slice (some ⟨gc0,0,none⟩) N.V.D.cells.length cc0) (.slice A0 N.V.D.loose.length cl0) (.slice B0 N.V.L.length ck0) As ms cs9,(.slice none 0 0),.int .i64 1]) (by simp [results,Tryz.results46,go_sem,rsV,q0,q1,q2,q3,q4,q5,q6,q7,q8]) rfl ?_
      rw [RdsPost,HV1.out,HE1.out,HB1.out,HE2.out.1,HE2.out.2]
      exact ⟨_,_,_,_,rfl,HRN.out,HBN.out,HKN.out⟩
    ·by_cases c1:(n:Int)≤(q.lost:Int)
     ·go_upto_region 12 with (fail)
      clear b1
      clear x0 x1 x6
      have K9:=kp9 (S:=fun z=>z=s0+2) wr (s0+2) (.int .i64 (n:Int)) (.int .i64 (k:Int)) (.int .i64 (N.V.D.size:Int)) (.slice (some ⟨gc0,0,none⟩) N.V.D.cells.length cc0) (.slice A0 N.V.D.loose.length cl0) (.int .i64 (N.V.D.syncs:Int)) (.slice B0 N.V.L.length ck0) (.slice As ms cs9) (.int .u64 (N.done:Int)) rfl
      have HC:=hide (HR.out.all (.int .i64 (n:Int)) (.int .i64 (k:Int)) (.int .i64 (N.V.D.size:Int)) (.slice (some ⟨gc0,0,none⟩) N.V.D.cells.length cc0) (.slice A0 N.V.D.loose.length cl0) (.int .i64 (N.V.D.syncs:Int)) (.slice B0 N.V.L.length ck0) (.slice As ms cs9) (.int .u64 (N.done:Int))).cell
      have HKN:=hide (HK.out.trans (K9.mono fun z e=>.inr (by have:=HS0.out; omega)))
      have HRN:=hide (show RsAt _ F n k N (rsV n k N _ _ _ As ms cs9) from ⟨_,_,_,_,_,_,_,_,ps,rfl,(show RsR wr (Fr3 F s0) N _ _ _ _ _ _ _ _ _ from ⟨HV.out,HSE.out,HEQ.out⟩).keep K9 (fun z _ hn e=>hn (.inr (.inr (.inr e)))) |>.less fun z f=>.inl f⟩)
      have hrb:wr.heap[s0+2]?=_:=HR.out
      have HBN:=hide (bts_stay hrb (fun j z=>by rcases j with _ | _ | _ | _ | _ | _ | _ | _ | _ | j <;> simp) (Bts.nil wr) K9)
      clear K9 hrb
      obtain ⟨y0,y1,y2,y3,y4,y5,y6,y7,y8⟩:=HS.out.cell
      obtain ⟨z0,z1,z2,z3,z4,z5,z6,z7,z8⟩:=HR.out.cell
      have f0:=HR.out.fz 0
      have f1:=HR.out.fz 1
      have f2:=HR.out.fz 2
      have f3:=HR.out.fz 3
      have f4:=HR.out.fz 4
      have f5:=HR.out.fz 5
      have f6:=HR.out.fz 6
      have f7:=HR.out.fz 7
      have f8:=HR.out.fz 8
      go_wp2_with fail
      clear y0 y1 y2 y3 y4 y5 y6 y7 y8 z0 z1 z2 z3 z4 z5 z6 z7 z8 f0 f1 f2 f3 f4 f5 f6 f7 f8
      obtain ⟨q0,q1,q2,q3,q4,q5,q6,q7,q8⟩:=HC.out
      refine bodyPost_ret (v:=.tuple #[rsV n k N (.slice (some ⟨gc0,0,none⟩) N.V.D.cells.length cc0) (.slice A0 N.V.D.loose.length cl0) (.slice B0 N.V.L.length ck0) As ms cs9,(.slice none 0 0),.int .i64 1]) (by simp [results,Tryz.results46,go_sem,rsV,q0,q1,q2,q3,q4,q5,q6,q7,q8]) rfl ?_
      rw [RdsPost,HV1.out,HE1.out,HB1.out,HE2.out.1,HE2.out.2]
      exact ⟨_,_,_,_,rfl,HRN.out,HBN.out,HKN.out⟩
     ·have c1n:¬ n≤q.lost:=by omega
      by_cases c2:mg=0
      ·go_upto_region 12 with (fail)
       clear b1
       clear x0 x1 x6
       have K9:=kp9 (S:=fun z=>z=s0+2) wr (s0+2) (.int .i64 (n:Int)) (.int .i64 (k:Int)) (.int .i64 (N.V.D.size:Int)) (.slice (some ⟨gc0,0,none⟩) N.V.D.cells.length cc0) (.slice A0 N.V.D.loose.length cl0) (.int .i64 (N.V.D.syncs:Int)) (.slice B0 N.V.L.length ck0) (.slice As ms cs9) (.int .u64 (N.done:Int)) rfl
       have HC:=hide (HR.out.all (.int .i64 (n:Int)) (.int .i64 (k:Int)) (.int .i64 (N.V.D.size:Int)) (.slice (some ⟨gc0,0,none⟩) N.V.D.cells.length cc0) (.slice A0 N.V.D.loose.length cl0) (.int .i64 (N.V.D.syncs:Int)) (.slice B0 N.V.L.length ck0) (.slice As ms cs9) (.int .u64 (N.done:Int))).cell
       have HKN:=hide (HK.out.trans (K9.mono fun z e=>.inr (by have:=HS0.out; omega)))
       have HRN:=hide (show RsAt _ F n k N (rsV n k N _ _ _ As ms cs9) from ⟨_,_,_,_,_,_,_,_,ps,rfl,(show RsR wr (Fr3 F s0) N _ _ _ _ _ _ _ _ _ from ⟨HV.out,HSE.out,HEQ.out⟩).keep K9 (fun z _ hn e=>hn (.inr (.inr (.inr e)))) |>.less fun z f=>.inl f⟩)
       have hrb:wr.heap[s0+2]?=_:=HR.out
       have HBN:=hide (bts_stay hrb (fun j z=>by rcases j with _ | _ | _ | _ | _ | _ | _ | _ | _ | j <;> simp) (Bts.nil wr) K9)
       clear K9 hrb
       obtain ⟨y0,y1,y2,y3,y4,y5,y6,y7,y8⟩:=HS.out.cell
       obtain ⟨z0,z1,z2,z3,z4,z5,z6,z7,z8⟩:=HR.out.cell
       have f0:=HR.out.fz 0
       have f1:=HR.out.fz 1
       have f2:=HR.out.fz 2
       have f3:=HR.out.fz 3
       have f4:=HR.out.fz 4
       have f5:=HR.out.fz 5
       have f6:=HR.out.fz 6
       have f7:=HR.out.fz 7
       have f8:=HR.out.fz 8
       go_wp2_with fail
       clear y0 y1 y2 y3 y4 y5 y6 y7 y8 z0 z1 z2 z3 z4 z5 z6 z7 z8 f0 f1 f2 f3 f4 f5 f6 f7 f8
       obtain ⟨q0,q1,q2,q3,q4,q5,q6,q7,q8⟩:=HC.out
       refine bodyPost_ret (v:=.tuple #[rsV n k N (.slice (some ⟨gc0,0,none⟩) N.V.D.cells.length cc0) (.slice A0 N.V.D.loose.length cl0) (.slice B0 N.V.L.length ck0) As ms cs9,(.slice none 0 0),.int .i64 1]) (by simp [results,Tryz.results46,go_sem,rsV,q0,q1,q2,q3,q4,q5,q6,q7,q8]) rfl ?_
       rw [RdsPost,HV1.out,HE1.out,HB1.out,HE2.out.1,HE2.out.2]
       exact ⟨_,_,_,_,rfl,HRN.out,HBN.out,HKN.out⟩
      ·have c2i:¬ (mg:Int)=0:=by omega
       have c3:¬ (rm:Int)=0:=by omega
       have c3n:¬ rm=0:=by omega
       have c3b:((rm:Int) != 0)=true:=bne_iff_ne.2 c3
       clear hc
       go_upto_region 12 with (fail)
       clear b1
       clear x0 x1 x6
       have K9:=kp9 (S:=fun z=>z=s0+2) wr (s0+2) (.int .i64 (n:Int)) (.int .i64 (k:Int)) (.int .i64 (N.V.D.size:Int)) (.slice (some ⟨gc0,0,none⟩) N.V.D.cells.length cc0) (.slice A0 N.V.D.loose.length cl0) (.int .i64 (N.V.D.syncs:Int)) (.slice B0 N.V.L.length ck0) (.slice As ms cs9) (.int .u64 (N.done:Int)) rfl
       have HC:=hide (HR.out.all (.int .i64 (n:Int)) (.int .i64 (k:Int)) (.int .i64 (N.V.D.size:Int)) (.slice (some ⟨gc0,0,none⟩) N.V.D.cells.length cc0) (.slice A0 N.V.D.loose.length cl0) (.int .i64 (N.V.D.syncs:Int)) (.slice B0 N.V.L.length ck0) (.slice As ms cs9) (.int .u64 (N.done:Int))).cell
       have HKN:=hide (HK.out.trans (K9.mono fun z e=>.inr (by have:=HS0.out; omega)))
       have HRN:=hide (show RsAt _ F n k N (rsV n k N _ _ _ As ms cs9) from ⟨_,_,_,_,_,_,_,_,ps,rfl,(show RsR wr (Fr3 F s0) N _ _ _ _ _ _ _ _ _ from ⟨HV.out,HSE.out,HEQ.out⟩).keep K9 (fun z _ hn e=>hn (.inr (.inr (.inr e)))) |>.less fun z f=>.inl f⟩)
       have hrb:wr.heap[s0+2]?=_:=HR.out
       have HBN:=hide (bts_stay hrb (fun j z=>by rcases j with _ | _ | _ | _ | _ | _ | _ | _ | _ | j <;> simp) (Bts.nil wr) K9)
       clear K9 hrb
       obtain ⟨y0,y1,y2,y3,y4,y5,y6,y7,y8⟩:=HS.out.cell
       obtain ⟨z0,z1,z2,z3,z4,z5,z6,z7,z8⟩:=HR.out.cell
       have f0:=HR.out.fz 0
       have f1:=HR.out.fz 1
       have f2:=HR.out.fz 2
       have f3:=HR.out.fz 3
       have f4:=HR.out.fz 4
       have f5:=HR.out.fz 5
       have f6:=HR.out.fz 6
       have f7:=HR.out.fz 7
       have f8:=HR.out.fz 8
       go_wp2_with fail
       clear y0 y1 y2 y3 y4 y5 y6 y7 y8 z0 z1 z2 z3 z4 z5 z6 z7 z8 f0 f1 f2 f3 f4 f5 f6 f7 f8
       obtain ⟨q0,q1,q2,q3,q4,q5,q6,q7,q8⟩:=HC.out
       refine bodyPost_ret (v:=.tuple #[rsV n k N (.slice (some ⟨gc0,0,none⟩) N.V.D.cells.length cc0) (.slice A0 N.V.D.loose.length cl0) (.slice B0 N.V.L.length ck0) As ms cs9,(.slice none 0 0),.int .i64 1]) (by simp [results,Tryz.results46,go_sem,rsV,q0,q1,q2,q3,q4,q5,q6,q7,q8]) rfl ?_
       rw [RdsPost,HV1.out,HE1.out,HB1.out,HE2.out.1,HE2.out.2]
       exact ⟨_,_,_,_,rfl,HRN.out,HBN.out,HKN.out⟩
   ·have HEG:Hid (hlpE n a N.V q.s q.lost=N.V.gtE q.s):=by show hlpE n a N.V q.s q.lost=_; rw [g0]; exact hlpE_good (n:=n) (a:=a) (lost:=q.lost) g0 (by rw [← HBS.out,← HML.out,← HRM.out]; exact hc)
    have HE2:=hide (hlpE_good (n:=n) (a:=a) (lost:=q.lost) g0 (by rw [← HBS.out,← HML.out,← HRM.out]; exact hc))
    have HB2:Hid (hlpB n a x N.V q.s q.lost=rowL (mg / a) (frE a (mg / a) bs (x q.lost))):=by show hlpB n a x N.V q.s q.lost=_; rw [hlpB_good HE2.out,← HBS.out,← HML.out]
    have c1:¬ (n:Int)≤(q.lost:Int):=by omega
    have c1n:¬ n≤q.lost:=by omega
    have c2n:¬ mg=0:=by omega
    have c2:¬ (mg:Int)=0:=by omega
    obtain rfl:rm=0:=by omega
    have HMA:Hid (mg=a * (mg / a)∧1≤mg / a):=by
     have h1:=Nat.div_add_mod mg a
     rw [← HRM.out] at h1
     have h2:mg=a * (mg / a):=by omega
     refine ⟨h2,?_⟩
     rcases Nat.eq_zero_or_pos (mg / a) with g | g
     ·rw [g] at h2; omega
     ·exact g
    have HM1:Hid (mg≤1000):=by show mg≤1000; have h1:=HV.out.ok.gtB_len q.s; have h2:=HZ.out.z; rw [← HBS.out] at h1; have h3:=HML.out; omega
    have HLT:Hid (q.lost < n):=by show q.lost < n; omega
    clear g0 hc
    go_wp2_with fail
    refine (rfrag_any HD.out HX.out HLT.out HBG.out HMA.out.1 HMA.out.2 HM1.out).mono ?_
    rintro e wz ⟨Af,mf,cf,rfl,hof,hkf⟩
    have HS:=hide (HS.out.no hkf)
    have HR:=hide (HR.out.no hkf)
    have HV:=hide (HV.out.no hkf)
    have HSE:=hide (HSE.out.no hkf)
    have HQ:=hide (HQ.out.no hkf)
    have HK:=hide (HK.out.trans' hkf)
    have HOF:=hide hof
    clear hof hkf b1 x0 x1 x6
    have b1:=HQ.out.cell.2.1
    go_upto_region 18 with (fail)
    clear b1
    have K9:=kp9 (S:=fun z=>z=s0+2) wz (s0+2) (.int .i64 (n:Int)) (.int .i64 (k:Int)) (.int .i64 (N.V.D.size:Int)) (.slice (some ⟨gc0,0,none⟩) N.V.D.cells.length cc0) (.slice A0 N.V.D.loose.length cl0) (.int .i64 (N.V.D.syncs:Int)) (.slice B0 N.V.L.length ck0) (.slice As ms cs9) (.int .u64 (N.done:Int)) rfl
    have HC:=hide (HR.out.all (.int .i64 (n:Int)) (.int .i64 (k:Int)) (.int .i64 (N.V.D.size:Int)) (.slice (some ⟨gc0,0,none⟩) N.V.D.cells.length cc0) (.slice A0 N.V.D.loose.length cl0) (.int .i64 (N.V.D.syncs:Int)) (.slice B0 N.V.L.length ck0) (.slice As ms cs9) (.int .u64 (N.done:Int))).cell
    have HKN:=hide (HK.out.trans (K9.mono fun z e=>.inr (by have:=HS0.out; omega)))
    have HRN:=hide (show RsAt _ F n k N (rsV n k N _ _ _ As ms cs9) from ⟨_,_,_,_,_,_,_,_,ps,rfl,(show RsR wz (Fr3 F s0) N _ _ _ _ _ _ _ _ _ from ⟨HV.out,HSE.out,HEQ.out⟩).keep K9 (fun z _ hn e=>hn (.inr (.inr (.inr e)))) |>.less fun z f=>.inl f⟩)
    have hrb:wz.heap[s0+2]?=_:=HR.out
    have HBN:=hide (bts_stay hrb (fun j z=>by rcases j with _ | _ | _ | _ | _ | _ | _ | _ | _ | j <;> simp) HOF.out.bts K9)
    clear K9 hrb
    obtain ⟨y0,y1,y2,y3,y4,y5,y6,y7,y8⟩:=HS.out.cell
    obtain ⟨z0,z1,z2,z3,z4,z5,z6,z7,z8⟩:=HR.out.cell
    have f0:=HR.out.fz 0
    have f1:=HR.out.fz 1
    have f2:=HR.out.fz 2
    have f3:=HR.out.fz 3
    have f4:=HR.out.fz 4
    have f5:=HR.out.fz 5
    have f6:=HR.out.fz 6
    have f7:=HR.out.fz 7
    have f8:=HR.out.fz 8
    go_wp2_with fail
    clear y0 y1 y2 y3 y4 y5 y6 y7 y8 z0 z1 z2 z3 z4 z5 z6 z7 z8 f0 f1 f2 f3 f4 f5 f6 f7 f8
    obtain ⟨q0,q1,q2,q3,q4,q5,q6,q7,q8⟩:=HC.out
    refine bodyPost_ret (v:=.tuple #[rsV n k N (.slice (some ⟨gc0,0,none⟩) N.V.D.cells.length cc0) (.slice A0 N.V.D.loose.length cl0) (.slice B0 N.V.L.length ck0) As ms cs9,(.slice Af mf cf),.int .i64 (N.V.gtE q.s:Int)]) (by simp [results,Tryz.results46,go_sem,rsV,q0,q1,q2,q3,q4,q5,q6,q7,q8]) rfl ?_
    rw [RdsPost,HV1.out,HE1.out,HB1.out,HEG.out,HB2.out]
    exact ⟨_,_,_,_,rfl,HRN.out,HBN.out,HKN.out⟩
  ·have tg:(((N.V.gtE q.s:Nat):Int) == 0)=false:=beq_eq_false_iff_ne.2 (by omega)
   have HE2:Hid (hlpE n a N.V q.s q.lost=N.V.gtE q.s∧hlpB n a x N.V q.s q.lost=[]∧N.V.gtB q.s=[]):=⟨hlpE_err g0,hlpB_nil (by rw [hlpE_err g0]; exact g0),Vt.gtB_nil g0⟩
   clear g0
   go_upto_region 18 with (fail)
   clear b1
   have K9:=kp9 (S:=fun z=>z=s0+2) wr (s0+2) (.int .i64 (n:Int)) (.int .i64 (k:Int)) (.int .i64 (N.V.D.size:Int)) (.slice (some ⟨gc0,0,none⟩) N.V.D.cells.length cc0) (.slice A0 N.V.D.loose.length cl0) (.int .i64 (N.V.D.syncs:Int)) (.slice B0 N.V.L.length ck0) (.slice As ms cs9) (.int .u64 (N.done:Int)) rfl
   have HC:=hide (HR.out.all (.int .i64 (n:Int)) (.int .i64 (k:Int)) (.int .i64 (N.V.D.size:Int)) (.slice (some ⟨gc0,0,none⟩) N.V.D.cells.length cc0) (.slice A0 N.V.D.loose.length cl0) (.int .i64 (N.V.D.syncs:Int)) (.slice B0 N.V.L.length ck0) (.slice As ms cs9) (.int .u64 (N.done:Int))).cell
   have HKN:=hide (HK.out.trans (K9.mono fun z e=>.inr (by have:=HS0.out; omega)))
   have HRN:=hide (show RsAt _ F n k N (rsV n k N _ _ _ As ms cs9) from ⟨_,_,_,_,_,_,_,_,ps,rfl,(show RsR wr (Fr3 F s0) N _ _ _ _ _ _ _ _ _ from ⟨HV.out,HSE.out,HEQ.out⟩).keep K9 (fun z _ hn e=>hn (.inr (.inr (.inr e)))) |>.less fun z f=>.inl f⟩)
   have hrb:wr.heap[s0+2]?=_:=HR.out
   have HBN:=hide (bts_stay hrb (fun j z=>by rcases j with _ | _ | _ | _ | _ | _ | _ | _ | _ | j <;> simp) HBG.out K9)
   clear K9 hrb
   obtain ⟨y0,y1,y2,y3,y4,y5,y6,y7,y8⟩:=HS.out.cell
   obtain ⟨z0,z1,z2,z3,z4,z5,z6,z7,z8⟩:=HR.out.cell
   have f0:=HR.out.fz 0
   have f1:=HR.out.fz 1
   have f2:=HR.out.fz 2
   have f3:=HR.out.fz 3
   have f4:=HR.out.fz 4
   have f5:=HR.out.fz 5
   have f6:=HR.out.fz 6
   have f7:=HR.out.fz 7
   have f8:=HR.out.fz 8
   go_wp2_with fail
   clear y0 y1 y2 y3 y4 y5 y6 y7 y8 z0 z1 z2 z3 z4 z5 z6 z7 z8 f0 f1 f2 f3 f4 f5 f6 f7 f8
   obtain ⟨q0,q1,q2,q3,q4,q5,q6,q7,q8⟩:=HC.out
   refine bodyPost_ret (v:=.tuple #[rsV n k N (.slice (some ⟨gc0,0,none⟩) N.V.D.cells.length cc0) (.slice A0 N.V.D.loose.length cl0) (.slice B0 N.V.L.length ck0) As ms cs9,(.slice Ag mg cg),.int .i64 (N.V.gtE q.s:Int)]) (by simp [results,Tryz.results46,go_sem,rsV,q0,q1,q2,q3,q4,q5,q6,q7,q8]) rfl ?_
   rw [RdsPost,HV1.out,HE1.out,HB1.out,HE2.out.1,HE2.out.2.1]
   have hbn:=HBN.out
   rw [HE2.out.2.2] at hbn
   exact ⟨_,_,_,_,rfl,HRN.out,hbn,HKN.out⟩
 by_cases e5:q.kind=5
 ·have HV1:Hid (ndV N.V q=N.V.dr q.s):=ndV_5 e5
  have HE1:Hid (ndE n a N.V q=N.V.drE q.s):=ndE_5 e5
  have HB1:Hid (ndB n a x N.V q=[]):=ndB_n (by omega) (by omega)
  have t2:(q.kind == 2)=false:=by simp [e5]
  have t3:(q.kind == 3)=false:=by simp [e5]
  have t4:(q.kind == 4)=false:=by simp [e5]
  have t6:(q.kind == 6)=false:=by simp [e5]
  have t5:(q.kind == 5)=true:=by simp [e5]
  clear e5
  obtain ⟨y0,y1,y2,y3,y4,y5,y6,y7,y8⟩:=HS.out.cell
  obtain ⟨b0,b1,b2,b3,b4,b5,b6,b7⟩:=HQ.out.cell
  go_wp2_with fail
  refine (rdrop12_any (V:=N.V) ⟨_,_,_,_,_,rfl,HV.out⟩ HF.out.s HZ.out.l HZ.out.s).mono ?_
  rintro e w1 ⟨v1,rfl,⟨vc1,vl1,vk1,cs1,ls1,rfl,hr1⟩,hk1⟩
  obtain ⟨gc1,cc1,A1,cl1,B1,ck1,rfl,rfl,rfl⟩:=hr1.forms
  have HK1:=hide (HK.out.trans' hk1)
  have HS1:=hide (HS.out.no hk1)
  have HR1:=hide (HR.out.no hk1)
  have HSE1:=hide (HSE.out.no hk1)
  have KV:=kpV (S:=fun z=>z=s0) w1 s0 (.int .i64 ((N.V.dr q.s).D.size:Int)) (.slice (some ⟨gc1,0,none⟩) (N.V.dr q.s).D.cells.length cc1) (.slice A1 (N.V.dr q.s).D.loose.length cl1) (.int .i64 ((N.V.dr q.s).D.syncs:Int)) (.slice B1 (N.V.dr q.s).L.length ck1) rfl
  have HS2:=hide (HS1.out.vlt (.int .i64 ((N.V.dr q.s).D.size:Int)) (.slice (some ⟨gc1,0,none⟩) (N.V.dr q.s).D.cells.length cc1) (.slice A1 (N.V.dr q.s).D.loose.length cl1) (.int .i64 ((N.V.dr q.s).D.syncs:Int)) (.slice B1 (N.V.dr q.s).L.length ck1))
  have HR2:=hide (HR1.out.keep KV (by omega))
  have HV2:=hide (hr1.keep KV fun z _ hn e=>hn (.inr (.inl e)))
  have HSE2:=hide (HSE1.out.keep KV fun z _ hn e=>hn (.inr (.inl e)))
  have HK2:=hide (HK1.out.trans (KV.mono fun z e=>.inr (by have:=HS0.out; omega)))
  clear hr1 hk1 KV y0 y1 y2 y3 y4 y5 y6 y7 y8 b0 b1 b2 b3 b4 b5 b6 b7
  obtain ⟨y0,y1,y2,y3,y4,y5,y6,y7,y8⟩:=HS1.out.cell
  have f0:=HS1.out.fz 0
  have f1:=HS1.out.fz 1
  have f2:=HS1.out.fz 2
  have f3:=HS1.out.fz 3
  have f4:=HS1.out.fz 4
  have f5:=HS1.out.fz 5
  have f6:=HS1.out.fz 6
  have f7:=HS1.out.fz 7
  have f8:=HS1.out.fz 8
  unfold tupE rvV
  go_upto_region 18 with (fail)
  generalize (((((w1.setCell ⟨s0,2,none⟩ (.int .i64 ((N.V.dr q.s).D.size:Int))).setCell ⟨s0,3,none⟩ (.slice (some ⟨gc1,0,none⟩) (N.V.dr q.s).D.cells.length cc1)).setCell ⟨s0,4,none⟩ (.slice A1 (N.V.dr q.s).D.loose.length cl1)).setCell ⟨s0,5,none⟩ (.int .i64 ((N.V.dr q.s).D.syncs:Int))).setCell ⟨s0,6,none⟩ (.slice B1 (N.V.dr q.s).L.length ck1))=wr at HS2 HR2 HV2 HSE2 HK2 ⊢
  clear y0 y1 y2 y3 y4 y5 y6 y7 y8 f0 f1 f2 f3 f4 f5 f6 f7 f8 HS HR HV HSE HK HS1 HR1 HSE1 HK1
  have HS:=HS2
  have HR:=HR2
  have HV:Hid (RvR wr (Fr3 F s0) (N.V.dr q.s) _ _ _ _ _):=HV2
  have HSE:=HSE2
  have HK:=HK2
  clear HS2 HR2 HV2 HSE2 HK2
  have K9:=kp9 (S:=fun z=>z=s0+2) wr (s0+2) (.int .i64 (n:Int)) (.int .i64 (k:Int)) (.int .i64 ((N.V.dr q.s).D.size:Int)) (.slice (some ⟨gc1,0,none⟩) (N.V.dr q.s).D.cells.length cc1) (.slice A1 (N.V.dr q.s).D.loose.length cl1) (.int .i64 ((N.V.dr q.s).D.syncs:Int)) (.slice B1 (N.V.dr q.s).L.length ck1) (.slice As ms cs9) (.int .u64 (N.done:Int)) rfl
  have HC:=hide (HR.out.all (.int .i64 (n:Int)) (.int .i64 (k:Int)) (.int .i64 ((N.V.dr q.s).D.size:Int)) (.slice (some ⟨gc1,0,none⟩) (N.V.dr q.s).D.cells.length cc1) (.slice A1 (N.V.dr q.s).D.loose.length cl1) (.int .i64 ((N.V.dr q.s).D.syncs:Int)) (.slice B1 (N.V.dr q.s).L.length ck1) (.slice As ms cs9) (.int .u64 (N.done:Int))).cell
  have HKN:=hide (HK.out.trans (K9.mono fun z e=>.inr (by have:=HS0.out; omega)))
  have HRN:=hide (show RsAt _ F n k ⟨N.V.dr q.s,N.sn,N.done⟩ (rsV n k ⟨N.V.dr q.s,N.sn,N.done⟩ _ _ _ As ms cs9) from ⟨_,_,_,_,_,_,_,_,ps,rfl,(show RsR wr (Fr3 F s0) ⟨N.V.dr q.s,N.sn,N.done⟩ _ _ _ _ _ _ _ _ _ from ⟨HV.out,HSE.out,HEQ.out⟩).keep K9 (fun z _ hn e=>hn (.inr (.inr (.inr e)))) |>.less fun z f=>.inl f⟩)
  have hrb:wr.heap[s0+2]?=_:=HR.out
  have HBN:=hide (bts_stay hrb (fun j z=>by rcases j with _ | _ | _ | _ | _ | _ | _ | _ | _ | j <;> simp) (Bts.nil _) K9)
  clear K9 hrb
  obtain ⟨y0,y1,y2,y3,y4,y5,y6,y7,y8⟩:=HS.out.cell
  obtain ⟨z0,z1,z2,z3,z4,z5,z6,z7,z8⟩:=HR.out.cell
  have f0:=HR.out.fz 0
  have f1:=HR.out.fz 1
  have f2:=HR.out.fz 2
  have f3:=HR.out.fz 3
  have f4:=HR.out.fz 4
  have f5:=HR.out.fz 5
  have f6:=HR.out.fz 6
  have f7:=HR.out.fz 7
  have f8:=HR.out.fz 8
  go_wp2_with fail
  clear y0 y1 y2 y3 y4 y5 y6 y7 y8 z0 z1 z2 z3 z4 z5 z6 z7 z8 f0 f1 f2 f3 f4 f5 f6 f7 f8
  obtain ⟨q0,q1,q2,q3,q4,q5,q6,q7,q8⟩:=HC.out
  refine bodyPost_ret (v:=.tuple #[rsV n k ⟨N.V.dr q.s,N.sn,N.done⟩ (.slice (some ⟨gc1,0,none⟩) (N.V.dr q.s).D.cells.length cc1) (.slice A1 (N.V.dr q.s).D.loose.length cl1) (.slice B1 (N.V.dr q.s).L.length ck1) As ms cs9,(.slice none 0 0),.int .i64 (N.V.drE q.s:Int)]) (by simp [results,Tryz.results46,go_sem,rsV,q0,q1,q2,q3,q4,q5,q6,q7,q8]) rfl ?_
  rw [RdsPost,HV1.out,HE1.out,HB1.out]
  exact ⟨_,_,_,_,rfl,HRN.out,HBN.out,HKN.out⟩
 by_cases e6:q.kind=6
 ·have HV1:Hid (ndV N.V q=N.V):=ndV_n (by omega) (by omega)
  have HE1:Hid (ndE n a N.V q=N.V.gtE q.s):=ndE_6 e6
  have HB1:Hid (ndB n a x N.V q=[]):=ndB_n (by omega) (by omega)
  have t2:(q.kind == 2)=false:=by simp [e6]
  have t3:(q.kind == 3)=false:=by simp [e6]
  have t4:(q.kind == 4)=false:=by simp [e6]
  have t6:(q.kind == 6)=true:=by simp [e6]
  clear e6
  obtain ⟨y0,y1,y2,y3,y4,y5,y6,y7,y8⟩:=HS.out.cell
  obtain ⟨b0,b1,b2,b3,b4,b5,b6,b7⟩:=HQ.out.cell
  go_wp2_with fail
  refine (rget12_any (V:=N.V) ⟨_,_,_,_,_,rfl,HV.out⟩ HF.out.s).mono ?_
  rintro e wr ⟨Ag,mg,cg,rfl,hbg,hkg⟩
  have HS:=hide (HS.out.no hkg)
  have HR:=hide (HR.out.no hkg)
  have HV:=hide (HV.out.no hkg)
  have HSE:=hide (HSE.out.no hkg)
  have HQ:=hide (HQ.out.no hkg)
  have HK:=hide (HK.out.trans' hkg)
  have HBG:=hide hbg
  clear hbg hkg y0 y1 y2 y3 y4 y5 y6 y7 y8 b0 b1 b2 b3 b4 b5 b6 b7
  have b1:=HQ.out.cell.2.1
  by_cases g0:N.V.gtE q.s=0
  ·have tg:(((N.V.gtE q.s:Nat):Int) == 0)=true:=by rw [g0]; rfl
   clear g0
   go_upto_region 18 with (fail)
   clear b1
   have K9:=kp9 (S:=fun z=>z=s0+2) wr (s0+2) (.int .i64 (n:Int)) (.int .i64 (k:Int)) (.int .i64 (N.V.D.size:Int)) (.slice (some ⟨gc0,0,none⟩) N.V.D.cells.length cc0) (.slice A0 N.V.D.loose.length cl0) (.int .i64 (N.V.D.syncs:Int)) (.slice B0 N.V.L.length ck0) (.slice As ms cs9) (.int .u64 (N.done:Int)) rfl
   have HC:=hide (HR.out.all (.int .i64 (n:Int)) (.int .i64 (k:Int)) (.int .i64 (N.V.D.size:Int)) (.slice (some ⟨gc0,0,none⟩) N.V.D.cells.length cc0) (.slice A0 N.V.D.loose.length cl0) (.int .i64 (N.V.D.syncs:Int)) (.slice B0 N.V.L.length ck0) (.slice As ms cs9) (.int .u64 (N.done:Int))).cell
   have HKN:=hide (HK.out.trans (K9.mono fun z e=>.inr (by have:=HS0.out; omega)))
   have HRN:=hide (show RsAt _ F n k N (rsV n k N _ _ _ As ms cs9) from ⟨_,_,_,_,_,_,_,_,ps,rfl,(show RsR wr (Fr3 F s0) N _ _ _ _ _ _ _ _ _ from ⟨HV.out,HSE.out,HEQ.out⟩).keep K9 (fun z _ hn e=>hn (.inr (.inr (.inr e)))) |>.less fun z f=>.inl f⟩)
   have hrb:wr.heap[s0+2]?=_:=HR.out
   have HBN:=hide (bts_stay hrb (fun j z=>by rcases j with _ | _ | _ | _ | _ | _ | _ | _ | _ | j <;> simp) (Bts.nil wr) K9)
   clear K9 hrb
   obtain ⟨y0,y1,y2,y3,y4,y5,y6,y7,y8⟩:=HS.out.cell
   obtain ⟨z0,z1,z2,z3,z4,z5,z6,z7,z8⟩:=HR.out.cell
   have f0:=HR.out.fz 0
   have f1:=HR.out.fz 1
   have f2:=HR.out.fz 2
   have f3:=HR.out.fz 3
   have f4:=HR.out.fz 4
   have f5:=HR.out.fz 5
   have f6:=HR.out.fz 6
   have f7:=HR.out.fz 7
   have f8:=HR.out.fz 8
   go_wp2_with fail
   clear y0 y1 y2 y3 y4 y5 y6 y7 y8 z0 z1 z2 z3 z4 z5 z6 z7 z8 f0 f1 f2 f3 f4 f5 f6 f7 f8
   obtain ⟨q0,q1,q2,q3,q4,q5,q6,q7,q8⟩:=HC.out
   refine bodyPost_ret (v:=.tuple #[rsV n k N (.slice (some ⟨gc0,0,none⟩) N.V.D.cells.length cc0) (.slice A0 N.V.D.loose.length cl0) (.slice B0 N.V.L.length ck0) As ms cs9,(.slice none 0 0),.int .i64 (N.V.gtE q.s:Int)]) (by simp [results,Tryz.results46,go_sem,rsV,q0,q1,q2,q3,q4,q5,q6,q7,q8]) rfl ?_
   rw [RdsPost,HV1.out,HE1.out,HB1.out]
   exact ⟨_,_,_,_,rfl,HRN.out,HBN.out,HKN.out⟩
  ·have tg:(((N.V.gtE q.s:Nat):Int) == 0)=false:=beq_eq_false_iff_ne.2 (by omega)
   clear g0
   go_upto_region 18 with (fail)
   clear b1
   have K9:=kp9 (S:=fun z=>z=s0+2) wr (s0+2) (.int .i64 (n:Int)) (.int .i64 (k:Int)) (.int .i64 (N.V.D.size:Int)) (.slice (some ⟨gc0,0,none⟩) N.V.D.cells.length cc0) (.slice A0 N.V.D.loose.length cl0) (.int .i64 (N.V.D.syncs:Int)) (.slice B0 N.V.L.length ck0) (.slice As ms cs9) (.int .u64 (N.done:Int)) rfl
   have HC:=hide (HR.out.all (.int .i64 (n:Int)) (.int .i64 (k:Int)) (.int .i64 (N.V.D.size:Int)) (.slice (some ⟨gc0,0,none⟩) N.V.D.cells.length cc0) (.slice A0 N.V.D.loose.length cl0) (.int .i64 (N.V.D.syncs:Int)) (.slice B0 N.V.L.length ck0) (.slice As ms cs9) (.int .u64 (N.done:Int))).cell
   have HKN:=hide (HK.out.trans (K9.mono fun z e=>.inr (by have:=HS0.out; omega)))
   have HRN:=hide (show RsAt _ F n k N (rsV n k N _ _ _ As ms cs9) from ⟨_,_,_,_,_,_,_,_,ps,rfl,(show RsR wr (Fr3 F s0) N _ _ _ _ _ _ _ _ _ from ⟨HV.out,HSE.out,HEQ.out⟩).keep K9 (fun z _ hn e=>hn (.inr (.inr (.inr e)))) |>.less fun z f=>.inl f⟩)
   have hrb:wr.heap[s0+2]?=_:=HR.out
   have HBN:=hide (bts_stay hrb (fun j z=>by rcases j with _ | _ | _ | _ | _ | _ | _ | _ | _ | j <;> simp) (Bts.nil wr) K9)
   clear K9 hrb
   obtain ⟨y0,y1,y2,y3,y4,y5,y6,y7,y8⟩:=HS.out.cell
   obtain ⟨z0,z1,z2,z3,z4,z5,z6,z7,z8⟩:=HR.out.cell
   have f0:=HR.out.fz 0
   have f1:=HR.out.fz 1
   have f2:=HR.out.fz 2
   have f3:=HR.out.fz 3
   have f4:=HR.out.fz 4
   have f5:=HR.out.fz 5
   have f6:=HR.out.fz 6
   have f7:=HR.out.fz 7
   have f8:=HR.out.fz 8
   go_wp2_with fail
   clear y0 y1 y2 y3 y4 y5 y6 y7 y8 z0 z1 z2 z3 z4 z5 z6 z7 z8 f0 f1 f2 f3 f4 f5 f6 f7 f8
   obtain ⟨q0,q1,q2,q3,q4,q5,q6,q7,q8⟩:=HC.out
   refine bodyPost_ret (v:=.tuple #[rsV n k N (.slice (some ⟨gc0,0,none⟩) N.V.D.cells.length cc0) (.slice A0 N.V.D.loose.length cl0) (.slice B0 N.V.L.length ck0) As ms cs9,(.slice none 0 0),.int .i64 (N.V.gtE q.s:Int)]) (by simp [results,Tryz.results46,go_sem,rsV,q0,q1,q2,q3,q4,q5,q6,q7,q8]) rfl ?_
   rw [RdsPost,HV1.out,HE1.out,HB1.out]
   exact ⟨_,_,_,_,rfl,HRN.out,HBN.out,HKN.out⟩
 have HV1:Hid (ndV N.V q=N.V):=ndV_n (by omega) (by omega)
 have HE1:Hid (ndE n a N.V q=0):=ndE_n e2 e3 e4 e5 e6
 have HB1:Hid (ndB n a x N.V q=[]):=ndB_n (by omega) (by omega)
 have t2:(q.kind == 2)=false:=by simp [e2]
 have t3:(q.kind == 3)=false:=by simp [e3]
 have t4:(q.kind == 4)=false:=by simp [e4]
 have t5:(q.kind == 5)=false:=by simp [e5]
 have t6:(q.kind == 6)=false:=by simp [e6]
 clear e2 e3 e4 e5 e6
 have b1:=HQ.out.cell.2.1
 go_upto_region 18 with (fail)
 clear b1
 generalize hwr:w0=wr at HS HR HV HSE HK HQ ⊢
 have K9:=kp9 (S:=fun z=>z=s0+2) wr (s0+2) (.int .i64 (n:Int)) (.int .i64 (k:Int)) (.int .i64 (N.V.D.size:Int)) (.slice (some ⟨gc0,0,none⟩) N.V.D.cells.length cc0) (.slice A0 N.V.D.loose.length cl0) (.int .i64 (N.V.D.syncs:Int)) (.slice B0 N.V.L.length ck0) (.slice As ms cs9) (.int .u64 (N.done:Int)) rfl
 have HC:=hide (HR.out.all (.int .i64 (n:Int)) (.int .i64 (k:Int)) (.int .i64 (N.V.D.size:Int)) (.slice (some ⟨gc0,0,none⟩) N.V.D.cells.length cc0) (.slice A0 N.V.D.loose.length cl0) (.int .i64 (N.V.D.syncs:Int)) (.slice B0 N.V.L.length ck0) (.slice As ms cs9) (.int .u64 (N.done:Int))).cell
 have HKN:=hide (HK.out.trans (K9.mono fun z e=>.inr (by have:=HS0.out; omega)))
 have HRN:=hide (show RsAt _ F n k N (rsV n k N _ _ _ As ms cs9) from ⟨_,_,_,_,_,_,_,_,ps,rfl,(show RsR wr (Fr3 F s0) N _ _ _ _ _ _ _ _ _ from ⟨HV.out,HSE.out,HEQ.out⟩).keep K9 (fun z _ hn e=>hn (.inr (.inr (.inr e)))) |>.less fun z f=>.inl f⟩)
 have hrb:wr.heap[s0+2]?=_:=HR.out
 have HBN:=hide (bts_stay hrb (fun j z=>by rcases j with _ | _ | _ | _ | _ | _ | _ | _ | _ | j <;> simp) (Bts.nil wr) K9)
 clear K9 hrb
 obtain ⟨y0,y1,y2,y3,y4,y5,y6,y7,y8⟩:=HS.out.cell
 obtain ⟨z0,z1,z2,z3,z4,z5,z6,z7,z8⟩:=HR.out.cell
 have f0:=HR.out.fz 0
 have f1:=HR.out.fz 1
 have f2:=HR.out.fz 2
 have f3:=HR.out.fz 3
 have f4:=HR.out.fz 4
 have f5:=HR.out.fz 5
 have f6:=HR.out.fz 6
 have f7:=HR.out.fz 7
 have f8:=HR.out.fz 8
 go_wp2_with fail
 clear y0 y1 y2 y3 y4 y5 y6 y7 y8 z0 z1 z2 z3 z4 z5 z6 z7 z8 f0 f1 f2 f3 f4 f5 f6 f7 f8
 obtain ⟨q0,q1,q2,q3,q4,q5,q6,q7,q8⟩:=HC.out
 refine bodyPost_ret (v:=.tuple #[rsV n k N (.slice (some ⟨gc0,0,none⟩) N.V.D.cells.length cc0) (.slice A0 N.V.D.loose.length cl0) (.slice B0 N.V.L.length ck0) As ms cs9,(.slice none 0 0),.int .i64 0]) (by simp [results,Tryz.results46,go_sem,rsV,q0,q1,q2,q3,q4,q5,q6,q7,q8]) rfl ?_
 rw [RdsPost,HV1.out,HE1.out,HB1.out]
 exact ⟨_,_,_,_,rfl,HRN.out,HBN.out,HKN.out⟩
end Go.Proofs.YtnfcfdhlmeimhaaGreat
