/- The document's Trip of layer 16, as a contract over memory (printed by tools/gen_ndq.py); The acts of layer 16's statements as they lie in memory, none of their slices longer than the reach; law 16's light. -/
import Derived.Test.YtnfcfdhlmeimhaaGreatSpbk
import Derived.Test.YtnfcfdhlmeimhaaGreatSpbb
import Derived.Test.YtnfcfdhlmeimhaaGreatSpau
import Derived.SizedLaws
namespace Go.Proofs.YtnfcfdhlmeimhaaGreat
open Go.RowKit
set_option linter.unusedVariables false
set_option linter.unusedSimpArgs false
set_option maxRecDepth 20000
set_option maxHeartbeats 8000000 in
theorem r16trip_any {w:World} {F:Nat→Prop} {n k mb cb:Nat} {N:Nd} {v:Value} {Ab:Option Addr} {bs:List UInt8} (h:RsAt w F n k N v) (hz:SzK N.V) (hb:Bts w (.slice Ab mb cb) bs) (hmb:mb≤cb) (hl:bs.length≤100000) (z y:Int) :
  Calls Tryz.prog 21 #[v,.slice Ab mb cb,.int .i64 z,.int .i64 y] w (RsPost w F n k (N.trip bs z y) id):=by
 obtain ⟨gc0,cc0,A0,cl0,B0,ck0,cs,ls,As,ms,cs9,ps,rfl,hR0⟩:=h.form
 obtain ⟨hs,hr,hR,hk⟩:=hR0.two (n:=n) (k:=k)
 have HS:=hide hs
 have HR:=hide hr
 have HRS:=hide hR
 have HK:=hide hk
 have HZ:=hide hz
 have hb0:=hb.no hk
 obtain ⟨q,ok,hP,hq,hdl,hf⟩:∃ q ok,Calls Tryz.prog 44 #[.slice Ab mb cb] ((w.alloc (.cells #[.int .i64 (n:Int),.int .i64 (k:Int),.int .i64 (N.V.D.size:Int),.slice (some ⟨gc0,0,none⟩) N.V.D.cells.length cc0,.slice A0 N.V.D.loose.length cl0,.int .i64 (N.V.D.syncs:Int),.slice B0 N.V.L.length ck0,.slice As ms cs9,.int .u64 (N.done:Int)] 46)).alloc (.cells #[.int .i64 0,.int .i64 0,.int .i64 0,.slice none 0 0,.slice none 0 0,.int .i64 0,.slice none 0 0,.slice none 0 0,.int .u64 0] 46)) (PfPost ((w.alloc (.cells #[.int .i64 (n:Int),.int .i64 (k:Int),.int .i64 (N.V.D.size:Int),.slice (some ⟨gc0,0,none⟩) N.V.D.cells.length cc0,.slice A0 N.V.D.loose.length cl0,.int .i64 (N.V.D.syncs:Int),.slice B0 N.V.L.length ck0,.slice As ms cs9,.int .u64 (N.done:Int)] 46)).alloc (.cells #[.int .i64 0,.int .i64 0,.int .i64 0,.slice none 0 0,.slice none 0 0,.int .i64 0,.slice none 0 0,.slice none 0 0,.int .u64 0] 46)) q ok)∧((rqE bs=true∧q=rqO bs∧ok=true)∨(rqE bs=false∧q.kind=0∧ok=false))∧q.data.length≤100000∧q.Fit:=by
  rcases hE:rqE bs with _ | _
  ·exact ⟨rq0,false,rparse15_any hb0 hmb hl rq0 false (fun e=>by rw [hE] at e; cases e) (fun _=>⟨rfl,rfl⟩),.inr ⟨rfl,rfl,rfl⟩,Nat.zero_le _,rq0_fit⟩
  ·exact ⟨rqO bs,true,rparse15_any hb0 hmb hl (rqO bs) true (fun _=>⟨rfl,rfl⟩) (fun e=>by rw [hE] at e; cases e),.inl ⟨rfl,rfl,rfl⟩,by show (bs.drop 23).length≤_; rw [List.length_drop]; omega,rqO_fit _⟩
 have HP:=hide hP
 have HF:=hide hf
 have HL:=hide hdl
 clear hs hr hR hk h hR0 hz hb hb0 hmb hl hP hf hdl
 unfold rsV
 go_enter Tryz.func21,Tryz.ntmps21
 go_upto_region 1 with (fail)
 generalize ((w.alloc (.cells #[.int .i64 (n:Int),.int .i64 (k:Int),.int .i64 (N.V.D.size:Int),.slice (some ⟨gc0,0,none⟩) N.V.D.cells.length cc0,.slice A0 N.V.D.loose.length cl0,.int .i64 (N.V.D.syncs:Int),.slice B0 N.V.L.length ck0,.slice As ms cs9,.int .u64 (N.done:Int)] 46)).alloc (.cells #[.int .i64 0,.int .i64 0,.int .i64 0,.slice none 0 0,.slice none 0 0,.int .i64 0,.slice none 0 0,.slice none 0 0,.int .u64 0] 46))=w0 at HS HR HRS HK HP ⊢
 obtain ⟨s0,hs0⟩:∃ s0,s0=w.heap.size:=⟨_,rfl⟩
 rw [← hs0] at HS HR HRS ⊢
 have HS0:=hide hs0
 clear hs0
 go_wp2_with fail
 refine HP.out.mono ?_
 rintro e w1 ⟨Aq,mq,cq,rfl,hbq,k1⟩
 have ka:=Kp.alloc No w1 (.cells #[.int .u64 (q.num:Int),.int .i64 q.kind,.int .u32 (cO q.s:Int),.int .u16 (cS q.s:Int),.int .u16 (cL q.s:Int),.int .u32 (cG q.s:Int),.int .u16 (q.lost:Int),.slice Aq mq cq] 56)
 have HQ:=hide (Bx8.new w1 56 (.int .u64 (q.num:Int)) (.int .i64 q.kind) (.int .u32 (cO q.s:Int)) (.int .u16 (cS q.s:Int)) (.int .u16 (cL q.s:Int)) (.int .u32 (cG q.s:Int)) (.int .u16 (q.lost:Int)) (.slice Aq mq cq))
 have HBQ:=hide (hbq.no ka)
 have HS:=hide (HS.out.no (k1.trans' ka))
 have HR:=hide (HR.out.no (k1.trans' ka))
 have HRS:=hide (HRS.out.no (k1.trans' ka))
 have HK:=hide (HK.out.trans' (k1.trans' ka))
 clear k1 ka hbq HP
 go_upto_region 2 with (fail)
 generalize w1.alloc (.cells #[.int .u64 (q.num:Int),.int .i64 q.kind,.int .u32 (cO q.s:Int),.int .u16 (cS q.s:Int),.int .u16 (cL q.s:Int),.int .u32 (cG q.s:Int),.int .u16 (q.lost:Int),.slice Aq mq cq] 56)=w2 at HS HR HRS HK HQ HBQ ⊢
 generalize w1.heap.size=b2 at HQ ⊢
 by_cases e2:q.kind=2
 ·skip
  have HT:Hid (N.trip bs z y=Nd.restart ⟨N.V.bg q.s q.data,N.sn,N.done⟩ z y):=by
   show N.trip bs z y=_
   rcases hq with ⟨h1,rfl,_⟩ | ⟨_,h1,_⟩
   ·unfold Nd.trip Nd.begun Nd.restart
    rw [if_pos ⟨h1,e2⟩]
   ·omega
  have HLO:Hid ((N.V.bg q.s q.data).D.loose.length≤1000000):=by
   have h1:=HZ.out.l
   by_cases e:N.V.bgE q.s q.data=0
   ·rw [Vt.bg_yes e]
    have:=put_loose N.V.D N.V.free (frV q.s q.data)
    show (N.V.D.put N.V.free (frV q.s q.data)).loose.length≤1000000
    omega
   ·rw [Vt.bg_no e]
    show N.V.D.loose.length≤1000000
    omega
  have HOKB:Hid (ok=true):=by
   rcases hq with ⟨_,_,h1⟩ | ⟨_,h1,_⟩
   ·exact h1
   ·omega
  have t2:(q.kind == 2)=true:=by simp [e2]
  obtain rfl:=HOKB.out
  clear e2 hq HOKB
  obtain ⟨y0,y1,y2,y3,y4,y5,y6,y7,y8⟩:=HS.out.cell
  obtain ⟨b0,b1,b2',b3,b4,b5,b6,b7⟩:=HQ.out.cell
  go_wp2_with fail
  refine (rbegin12_any (V:=N.V) ⟨_,_,_,_,_,rfl,HRS.out.rv⟩ HF.out.s HBQ.out (by have h1:=HBQ.out.len; have h2:=HL.out; omega) HZ.out.l).mono ?_
  rintro e w1 ⟨v1,rfl,⟨vc1,vl1,vk1,cs1,ls1,rfl,hr1⟩,hk1⟩
  obtain ⟨gc1,cc1,A1,cl1,B1,ck1,rfl,rfl,rfl⟩:=hr1.forms
  have HS1:=hide (HS.out.no hk1)
  have KV:=kpV (S:=fun z=>z=s0) w1 s0 (.int .i64 ((N.V.bg q.s q.data).D.size:Int)) (.slice (some ⟨gc1,0,none⟩) (N.V.bg q.s q.data).D.cells.length cc1) (.slice A1 (N.V.bg q.s q.data).D.loose.length cl1) (.int .i64 ((N.V.bg q.s q.data).D.syncs:Int)) (.slice B1 (N.V.bg q.s q.data).L.length ck1) rfl
  have HS2:=hide (HS1.out.vlt (.int .i64 ((N.V.bg q.s q.data).D.size:Int)) (.slice (some ⟨gc1,0,none⟩) (N.V.bg q.s q.data).D.cells.length cc1) (.slice A1 (N.V.bg q.s q.data).D.loose.length cl1) (.int .i64 ((N.V.bg q.s q.data).D.syncs:Int)) (.slice B1 (N.V.bg q.s q.data).L.length ck1))
  have HR2:=hide ((HR.out.no hk1).keep KV (by omega))
  have HRS2:Hid (RsR (((((w1.setCell ⟨s0,2,none⟩ (.int .i64 ((N.V.bg q.s q.data).D.size:Int))).setCell ⟨s0,3,none⟩ (.slice (some ⟨gc1,0,none⟩) (N.V.bg q.s q.data).D.cells.length cc1)).setCell ⟨s0,4,none⟩ (.slice A1 (N.V.bg q.s q.data).D.loose.length cl1)).setCell ⟨s0,5,none⟩ (.int .i64 ((N.V.bg q.s q.data).D.syncs:Int))).setCell ⟨s0,6,none⟩ (.slice B1 (N.V.bg q.s q.data).L.length ck1)) (Fr2 F s0) ⟨N.V.bg q.s q.data,N.sn,N.done⟩ _ _ _ _ _ _ _ _ _):=⟨hr1.keep KV fun z _ hn e=>hn (.inr (.inl e)),(HRS.out.no hk1).se.keep KV fun z _ hn e=>hn (.inr (.inl e)),HRS.out.eq⟩
  have HK2:=hide ((HK.out.trans' hk1).trans (KV.mono fun z e=>.inr (by have:=HS0.out; omega)))
  clear hr1 hk1 KV y0 y1 y2 y3 y4 y5 y6 y7 y8 b0 b1 b2' b3 b4 b5 b6 b7
  obtain ⟨y0,y1,y2,y3,y4,y5,y6,y7,y8⟩:=HS1.out.cell
  have f0:=HS1.out.fz 0
  have f1:=HS1.out.fz 1
  have f2:=HS1.out.fz 2
  have f3:=HS1.out.fz 3
  have f4:=HS1.out.fz 4
  have f5:=HS1.out.fz 5
  have f6:=HS1.out.fz 6
  have f7:=HS1.out.fz 7
  have f8:=HS1.out.fz 8
  unfold tupE rvV
  go_upto_region 4 with (fail)
  generalize (((((w1.setCell ⟨s0,2,none⟩ (.int .i64 ((N.V.bg q.s q.data).D.size:Int))).setCell ⟨s0,3,none⟩ (.slice (some ⟨gc1,0,none⟩) (N.V.bg q.s q.data).D.cells.length cc1)).setCell ⟨s0,4,none⟩ (.slice A1 (N.V.bg q.s q.data).D.loose.length cl1)).setCell ⟨s0,5,none⟩ (.int .i64 ((N.V.bg q.s q.data).D.syncs:Int))).setCell ⟨s0,6,none⟩ (.slice B1 (N.V.bg q.s q.data).L.length ck1))=wr at HS2 HR2 HRS2 HK2 ⊢
  clear y0 y1 y2 y3 y4 y5 y6 y7 y8 f0 f1 f2 f3 f4 f5 f6 f7 f8 HS HR HRS HK HS1
  have HS:=HS2
  have HR:=HR2
  have HRS:=HRS2
  have HK:=HK2
  clear HS2 HR2 HRS2 HK2
  obtain ⟨y0,y1,y2,y3,y4,y5,y6,y7,y8⟩:=HS.out.cell
  go_wp2_with fail
  refine (r16restart_any (F:=Fr2 F s0) (N:=⟨N.V.bg q.s q.data,N.sn,N.done⟩) (n:=n) (k:=k) ⟨_,_,_,_,_,_,_,_,_,rfl,HRS.out⟩ HLO.out z y).mono ?_
  rintro e w3 ⟨v3,rfl,hA3,hk3⟩
  obtain ⟨gc3,cc3,A3,cl3,B3,ck3,cs3,ls3,As3,ms3,cs93,ps3,rfl,h3⟩:=hA3.form
  have HR3:=hide (HR.out.no hk3)
  have HK3:=hide (HK.out.trans' hk3)
  rw [← HT.out] at h3
  obtain ⟨M,hM⟩:∃ M,M=N.trip bs z y:=⟨_,rfl⟩
  rw [← HT.out,← hM]
  rw [← hM] at h3
  skip
  have HM:=hide hM
  clear hM
  have K9:=kp9 (S:=fun z=>z=s0+1) w3 (s0+1) (.int .i64 (n:Int)) (.int .i64 (k:Int)) (.int .i64 (M.V.D.size:Int)) (.slice (some ⟨gc3,0,none⟩) M.V.D.cells.length cc3) (.slice A3 M.V.D.loose.length cl3) (.int .i64 (M.V.D.syncs:Int)) (.slice B3 M.V.L.length ck3) (.slice As3 ms3 cs93) (.int .u64 (M.done:Int)) rfl
  have HC:=hide (HR3.out.all (.int .i64 (n:Int)) (.int .i64 (k:Int)) (.int .i64 (M.V.D.size:Int)) (.slice (some ⟨gc3,0,none⟩) M.V.D.cells.length cc3) (.slice A3 M.V.D.loose.length cl3) (.int .i64 (M.V.D.syncs:Int)) (.slice B3 M.V.L.length ck3) (.slice As3 ms3 cs93) (.int .u64 (M.done:Int))).cell
  have HKN:=hide (HK3.out.trans (K9.mono fun z e=>.inr (by have:=HS0.out; omega)))
  have HRN:=hide (show RsAt _ F n k M (rsV n k M _ _ _ As3 ms3 cs93) from ⟨_,_,_,_,_,_,_,_,ps3,rfl,(h3.keep K9 fun z _ hn e=>hn (.inr (.inr e))).less fun z f=>.inl f⟩)
  clear h3 hA3 hk3 K9 y0 y1 y2 y3 y4 y5 y6 y7 y8
  obtain ⟨z0,z1,z2,z3,z4,z5,z6,z7,z8⟩:=HR3.out.cell
  have f0:=HR3.out.fz 0
  have f1:=HR3.out.fz 1
  have f2:=HR3.out.fz 2
  have f3:=HR3.out.fz 3
  have f4:=HR3.out.fz 4
  have f5:=HR3.out.fz 5
  have f6:=HR3.out.fz 6
  have f7:=HR3.out.fz 7
  have f8:=HR3.out.fz 8
  unfold rsV id
  go_wp2_with fail
  clear z0 z1 z2 z3 z4 z5 z6 z7 z8 f0 f1 f2 f3 f4 f5 f6 f7 f8
  obtain ⟨q0,q1,q2,q3,q4,q5,q6,q7,q8⟩:=HC.out
  refine bodyPost_ret (v:=rsV n k M (.slice (some ⟨gc3,0,none⟩) M.V.D.cells.length cc3) (.slice A3 M.V.D.loose.length cl3) (.slice B3 M.V.L.length ck3) As3 ms3 cs93) (by simp [results,Tryz.results21,go_sem,rsV,q0,q1,q2,q3,q4,q5,q6,q7,q8]) rfl ?_
  rw [RsPost,← HM.out]
  exact ⟨_,rfl,HRN.out,HKN.out⟩
 ·skip
  have HT:Hid (N.trip bs z y=Nd.restart N z y):=by
   show N.trip bs z y=_
   unfold Nd.trip Nd.begun Nd.restart
   rw [if_neg]
   rintro ⟨h1,h2⟩
   rcases hq with ⟨_,rfl,_⟩ | ⟨h3,_⟩
   ·exact e2 h2
   ·rw [h1] at h3; cases h3
  have HLO:Hid (N.V.D.loose.length≤1000000):=by show _≤_; have:=HZ.out.l; omega
  have t2:(q.kind == 2)=false:=by simp [e2]
  have x1:=HQ.out.cell.2.1
  clear e2 hq
  rcases ok with _ | _
  ·go_upto_region 4 with (fail)
   clear x1
   generalize hwr:w2=wr at HS HR HRS HK HQ HBQ ⊢
   obtain ⟨y0,y1,y2,y3,y4,y5,y6,y7,y8⟩:=HS.out.cell
   go_wp2_with fail
   refine (r16restart_any (F:=Fr2 F s0) (N:=N) (n:=n) (k:=k) ⟨_,_,_,_,_,_,_,_,_,rfl,HRS.out⟩ HLO.out z y).mono ?_
   rintro e w3 ⟨v3,rfl,hA3,hk3⟩
   obtain ⟨gc3,cc3,A3,cl3,B3,ck3,cs3,ls3,As3,ms3,cs93,ps3,rfl,h3⟩:=hA3.form
   have HR3:=hide (HR.out.no hk3)
   have HK3:=hide (HK.out.trans' hk3)
   rw [← HT.out] at h3
   obtain ⟨M,hM⟩:∃ M,M=N.trip bs z y:=⟨_,rfl⟩
   rw [← HT.out,← hM]
   rw [← hM] at h3
   skip
   have HM:=hide hM
   clear hM
   have K9:=kp9 (S:=fun z=>z=s0+1) w3 (s0+1) (.int .i64 (n:Int)) (.int .i64 (k:Int)) (.int .i64 (M.V.D.size:Int)) (.slice (some ⟨gc3,0,none⟩) M.V.D.cells.length cc3) (.slice A3 M.V.D.loose.length cl3) (.int .i64 (M.V.D.syncs:Int)) (.slice B3 M.V.L.length ck3) (.slice As3 ms3 cs93) (.int .u64 (M.done:Int)) rfl
   have HC:=hide (HR3.out.all (.int .i64 (n:Int)) (.int .i64 (k:Int)) (.int .i64 (M.V.D.size:Int)) (.slice (some ⟨gc3,0,none⟩) M.V.D.cells.length cc3) (.slice A3 M.V.D.loose.length cl3) (.int .i64 (M.V.D.syncs:Int)) (.slice B3 M.V.L.length ck3) (.slice As3 ms3 cs93) (.int .u64 (M.done:Int))).cell
   have HKN:=hide (HK3.out.trans (K9.mono fun z e=>.inr (by have:=HS0.out; omega)))
   have HRN:=hide (show RsAt _ F n k M (rsV n k M _ _ _ As3 ms3 cs93) from ⟨_,_,_,_,_,_,_,_,ps3,rfl,(h3.keep K9 fun z _ hn e=>hn (.inr (.inr e))).less fun z f=>.inl f⟩)
   clear h3 hA3 hk3 K9 y0 y1 y2 y3 y4 y5 y6 y7 y8
   obtain ⟨z0,z1,z2,z3,z4,z5,z6,z7,z8⟩:=HR3.out.cell
   have f0:=HR3.out.fz 0
   have f1:=HR3.out.fz 1
   have f2:=HR3.out.fz 2
   have f3:=HR3.out.fz 3
   have f4:=HR3.out.fz 4
   have f5:=HR3.out.fz 5
   have f6:=HR3.out.fz 6
   have f7:=HR3.out.fz 7
   have f8:=HR3.out.fz 8
   unfold rsV id
   go_wp2_with fail
   clear z0 z1 z2 z3 z4 z5 z6 z7 z8 f0 f1 f2 f3 f4 f5 f6 f7 f8
   obtain ⟨q0,q1,q2,q3,q4,q5,q6,q7,q8⟩:=HC.out
   refine bodyPost_ret (v:=rsV n k M (.slice (some ⟨gc3,0,none⟩) M.V.D.cells.length cc3) (.slice A3 M.V.D.loose.length cl3) (.slice B3 M.V.L.length ck3) As3 ms3 cs93) (by simp [results,Tryz.results21,go_sem,rsV,q0,q1,q2,q3,q4,q5,q6,q7,q8]) rfl ?_
   rw [RsPost,← HM.out]
   exact ⟨_,rfl,HRN.out,HKN.out⟩
  ·go_upto_region 4 with (fail)
   clear x1
   generalize hwr:w2=wr at HS HR HRS HK HQ HBQ ⊢
   obtain ⟨y0,y1,y2,y3,y4,y5,y6,y7,y8⟩:=HS.out.cell
   go_wp2_with fail
   refine (r16restart_any (F:=Fr2 F s0) (N:=N) (n:=n) (k:=k) ⟨_,_,_,_,_,_,_,_,_,rfl,HRS.out⟩ HLO.out z y).mono ?_
   rintro e w3 ⟨v3,rfl,hA3,hk3⟩
   obtain ⟨gc3,cc3,A3,cl3,B3,ck3,cs3,ls3,As3,ms3,cs93,ps3,rfl,h3⟩:=hA3.form
   have HR3:=hide (HR.out.no hk3)
   have HK3:=hide (HK.out.trans' hk3)
   rw [← HT.out] at h3
   obtain ⟨M,hM⟩:∃ M,M=N.trip bs z y:=⟨_,rfl⟩
   rw [← HT.out,← hM]
   rw [← hM] at h3
   skip
   have HM:=hide hM
   clear hM
   have K9:=kp9 (S:=fun z=>z=s0+1) w3 (s0+1) (.int .i64 (n:Int)) (.int .i64 (k:Int)) (.int .i64 (M.V.D.size:Int)) (.slice (some ⟨gc3,0,none⟩) M.V.D.cells.length cc3) (.slice A3 M.V.D.loose.length cl3) (.int .i64 (M.V.D.syncs:Int)) (.slice B3 M.V.L.length ck3) (.slice As3 ms3 cs93) (.int .u64 (M.done:Int)) rfl
   have HC:=hide (HR3.out.all (.int .i64 (n:Int)) (.int .i64 (k:Int)) (.int .i64 (M.V.D.size:Int)) (.slice (some ⟨gc3,0,none⟩) M.V.D.cells.length cc3) (.slice A3 M.V.D.loose.length cl3) (.int .i64 (M.V.D.syncs:Int)) (.slice B3 M.V.L.length ck3) (.slice As3 ms3 cs93) (.int .u64 (M.done:Int))).cell
   have HKN:=hide (HK3.out.trans (K9.mono fun z e=>.inr (by have:=HS0.out; omega)))
   have HRN:=hide (show RsAt _ F n k M (rsV n k M _ _ _ As3 ms3 cs93) from ⟨_,_,_,_,_,_,_,_,ps3,rfl,(h3.keep K9 fun z _ hn e=>hn (.inr (.inr e))).less fun z f=>.inl f⟩)
   clear h3 hA3 hk3 K9 y0 y1 y2 y3 y4 y5 y6 y7 y8
   obtain ⟨z0,z1,z2,z3,z4,z5,z6,z7,z8⟩:=HR3.out.cell
   have f0:=HR3.out.fz 0
   have f1:=HR3.out.fz 1
   have f2:=HR3.out.fz 2
   have f3:=HR3.out.fz 3
   have f4:=HR3.out.fz 4
   have f5:=HR3.out.fz 5
   have f6:=HR3.out.fz 6
   have f7:=HR3.out.fz 7
   have f8:=HR3.out.fz 8
   unfold rsV id
   go_wp2_with fail
   clear z0 z1 z2 z3 z4 z5 z6 z7 z8 f0 f1 f2 f3 f4 f5 f6 f7 f8
   obtain ⟨q0,q1,q2,q3,q4,q5,q6,q7,q8⟩:=HC.out
   refine bodyPost_ret (v:=rsV n k M (.slice (some ⟨gc3,0,none⟩) M.V.D.cells.length cc3) (.slice A3 M.V.D.loose.length cl3) (.slice B3 M.V.L.length ck3) As3 ms3 cs93) (by simp [results,Tryz.results21,go_sem,rsV,q0,q1,q2,q3,q4,q5,q6,q7,q8]) rfl ?_
   rw [RsPost,← HM.out]
   exact ⟨_,rfl,HRN.out,HKN.out⟩
end Go.Proofs.YtnfcfdhlmeimhaaGreat
namespace Go.Proofs.YtnfcfdhlmeimhaaGreat
open Go.ChangeShapes Go.WideShapes Go.RowKit Go.Deep Go.Joins
set_option linter.unusedVariables false
set_option linter.unusedSimpArgs false
set_option maxRecDepth 100000
/-- What an act holds. -/
structure ActS where
 kind:Int
 q:Rq
 b:List UInt8
 n:Int
 m:Int
 bits:UInt8
/-- An act's thirteen cells. -/
structure ActSAt (w:World) (B off:Nat) (d:ActS) (Aq:Option Addr) (mq cq:Nat) (A:Option Addr) (m c:Nat):Prop where
 c0:w.cell? ⟨B,off,none⟩=some (.int .i64 d.kind)
 c1:w.cell? ⟨B,off+1,none⟩=some (.int .u64 (d.q.num:Int))
 c2:w.cell? ⟨B,off+2,none⟩=some (.int .i64 d.q.kind)
 c3:w.cell? ⟨B,off+3,none⟩=some (.int .u32 (cO d.q.s:Int))
 c4:w.cell? ⟨B,off+4,none⟩=some (.int .u16 (cS d.q.s:Int))
 c5:w.cell? ⟨B,off+5,none⟩=some (.int .u16 (cL d.q.s:Int))
 c6:w.cell? ⟨B,off+6,none⟩=some (.int .u32 (cG d.q.s:Int))
 c7:w.cell? ⟨B,off+7,none⟩=some (.int .u16 (d.q.lost:Int))
 c8:w.cell? ⟨B,off+8,none⟩=some (.slice Aq mq cq)
 c9:w.cell? ⟨B,off+9,none⟩=some (.slice A m c)
 c10:w.cell? ⟨B,off+10,none⟩=some (.int .i64 d.n)
 c11:w.cell? ⟨B,off+11,none⟩=some (.int .i64 d.m)
 c12:w.cell? ⟨B,off+12,none⟩=some (.int .u8 (d.bits.toNat:Int))
 bq:Bts w (.slice Aq mq cq) d.q.data
 bts:Bts w (.slice A m c) d.b
 room:m≤c
 fit:d.q.Fit
 sb:m≤0x7ffffffff000
 sq:mq≤0x7ffffffff000
theorem ActSAt.no {w w1:World} {B off:Nat} {d:ActS} {Aq A:Option Addr} {mq cq m c:Nat} (h:ActSAt w B off d Aq mq cq A m c) (hk:Kp No w w1):ActSAt w1 B off d Aq mq cq A m c :=
 ⟨hk.cell h.c0 fun f=>f,hk.cell h.c1 fun f=>f,hk.cell h.c2 fun f=>f,hk.cell h.c3 fun f=>f,hk.cell h.c4 fun f=>f,hk.cell h.c5 fun f=>f,hk.cell h.c6 fun f=>f,hk.cell h.c7 fun f=>f,hk.cell h.c8 fun f=>f,hk.cell h.c9 fun f=>f,hk.cell h.c10 fun f=>f,hk.cell h.c11 fun f=>f,hk.cell h.c12 fun f=>f,h.bq.no hk,h.bts.no hk,h.room,h.fit,h.sb,h.sq⟩
/-- The slice at A holds the acts ds. -/
structure ActsS (w:World) (A:Option Addr) (n:Nat) (ds:List ActS):Prop where
 len:n=ds.length
 big:n≤9223372036854775807
 at_:∀ (j:Nat) (d:ActS),ds[j]?=some d→∃ B off Aq mq cq A' m c,A=some ⟨B,off,none⟩∧ActSAt w B (off+j * 13) d Aq mq cq A' m c
theorem ActsS.no {w w1:World} {A:Option Addr} {n:Nat} {ds:List ActS} (h:ActsS w A n ds) (hk:Kp No w w1):ActsS w1 A n ds :=
 ⟨h.len,h.big,fun j d hj=>by
  obtain ⟨B,off,Aq,mq,cq,A',m,c,e,ha⟩:=h.at_ j d hj
  exact ⟨B,off,Aq,mq,cq,A',m,c,e,ha.no hk⟩⟩
theorem cells_acts:Tryz.prog.cellsOf 58=13:=by kernel_rfl
section
variable {H:Type} {P:Program} {enc:TypeId × Value→H} {w:World} {base:Nat} {spare:Nat→Bool} {held:Bool} {fuel:Nat}
/-- A struct's field, with its weights. -/
theorem part_wt {t:TypeId} {fs:Array Field} {cs:List Value} {x:DataW H × List MemPlace} (ht:P.underlying t=some (.struct fs)) (h:DataW.trod enc P w base spare held fuel t cs=some x) (i:Nat) (ty:TypeId) (off k:Nat) (hi:(fs[i]?).map (fun f=>(f.type,f.offset))=some (ty,off)) (hk:P.cellsOf ty=k) :
  ∃ n y,DataW.trod enc P w base spare held n ty ((cs.drop off).take k)=some y∧∀ z ∈ y.1.weights P ty,z ∈ x.1.weights P t:=by
 obtain ⟨xs,n,_,hx,hl,hxs,hf⟩:=DataW.trod_struct ht h
 obtain ⟨f,hfi,he⟩:=Option.map_eq_some_iff.1 hi
 have hlt:i < xs.length:=by rw [hxs]; exact (Array.getElem?_eq_some_iff.1 hfi).1
 simp only [Prod.mk.injEq] at he
 obtain ⟨rfl,rfl⟩:=he
 subst hk
 refine ⟨n,xs[i],(hf i f hfi).trans (List.getElem?_eq_getElem hlt),fun z hz=>?_⟩
 subst hx
 show z ∈ DataW.weights P t (.agg (xs.map (·.1)))
 unfold DataW.weights
 rw [ht]
 exact DataW.weights_mem_each (j:=i) (t:=f.type) (d:=xs[i].1) (by rw [List.getElem?_map,Array.getElem?_toList,hfi]; rfl) (by rw [List.getElem?_map,List.getElem?_eq_getElem hlt]; rfl) z hz
/-- A slice of bytes weighs its length. -/
theorem slc_wt {t e:TypeId} {A:Option Addr} {m c:Nat} {x:DataW H × List MemPlace} (ht:P.underlying t=some (.slice e)) (hb:P.bytesOf e=1) (h:DataW.trod enc P w base spare held fuel t [.slice A m c]=some x) {R:Nat} (hR:∀ z ∈ x.1.weights P t,z≤R):m≤R:=by
 rcases open_slice ht h with ⟨hcs,hx⟩ | ⟨a,len,cap,m',n,D,Pl,hcs,_,hl,hm,hmm,hx,hi⟩
 ·injection hcs with e1
  injection e1 with e1 e2 e3
  omega
 ·injection hcs with e1
  injection e1 with e1 e2 e3
  subst e2
  have hmem:(((List.range m).map D).length+((List.range (m' - m)).map fun j=>D (m+j)).length) * P.bytesOf e ∈ x.1.weights P t:=by
   subst hx
   show _ ∈ DataW.weights P t (.slice _ _)
   unfold DataW.weights
   rw [ht]
   exact List.mem_cons_self
  have:=hR _ hmem
  rw [hb] at this
  simp at this
  omega
theorem wt_all {e:TypeId} {D:Nat→DataW H} {n i z:Nat} (hi:i < n) (hz:z ∈ (D i).weights P e):z ∈ DataW.weightsAll P e ((List.range n).map D):=by
 have key:∀ (l:List (DataW H)) (d:DataW H),d ∈ l→z ∈ d.weights P e→z ∈ DataW.weightsAll P e l:=by
  intro l
  induction l with
  | nil=>intro d hd _; cases hd
  | cons y l ih =>
   intro d hd hz
   unfold DataW.weightsAll
   rcases List.mem_cons.1 hd with rfl | hd
   ·exact List.mem_append_left _ hz
   ·exact List.mem_append_right _ (ih d hd hz)
 exact key _ (D i) (List.mem_map.2 ⟨i,List.mem_range.2 hi,rfl⟩) hz
theorem open_acts {cs:List Value} {y:DataW H × List MemPlace} (h:DataW.trod enc Tryz.prog w base spare held fuel 58 cs=some y) (hR:∀ z ∈ y.1.weights Tryz.prog 58,z≤0x7ffffffff000) :
  ∃ (d:ActS) (Aq:Option Addr) (mq cq:Nat) (A:Option Addr) (m c:Nat),cs=[.int .i64 d.kind,.int .u64 (d.q.num:Int),.int .i64 d.q.kind,.int .u32 (cO d.q.s:Int),.int .u16 (cS d.q.s:Int),.int .u16 (cL d.q.s:Int),.int .u32 (cG d.q.s:Int),.int .u16 (d.q.lost:Int),.slice Aq mq cq,.slice A m c,.int .i64 d.n,.int .i64 d.m,.int .u8 (d.bits.toNat:Int)] ∧
   Bts w (.slice Aq mq cq) d.q.data∧Bts w (.slice A m c) d.b∧m≤c∧d.q.Fit∧m≤0x7ffffffff000∧mq≤0x7ffffffff000:=by
 obtain ⟨n,hl,hf⟩:=open_parts Tryz.underlying58 h
 rw [cells_acts] at hl
 match cs,hl with
 | [v0,v1,v2,v3,v4,v5,v6,v7,v8,v9,v10,v11,v12],_ =>
  obtain ⟨y0,h0⟩:=hf 0 3 0 _ rfl cells_n64w
  obtain ⟨n1,y1,h1,w1⟩:=part_wt Tryz.underlying58 h 1 56 1 _ rfl cells_rqv
  obtain ⟨n9,y9,h9,w9⟩:=part_wt Tryz.underlying58 h 2 54 9 _ rfl cells_slcw
  obtain ⟨y10,h10⟩:=hf 3 3 10 _ rfl cells_n64w
  obtain ⟨y11,h11⟩:=hf 4 3 11 _ rfl cells_n64w
  obtain ⟨y12,h12⟩:=hf 5 5 12 _ rfl cells_u8
  simp only [List.drop_zero,List.drop_succ_cons,List.take_succ_cons,List.take_zero] at h0 h1 h9 h10 h11 h12
  obtain ⟨n8,y8,h8,w8⟩:=part_wt Tryz.underlying56 h1 4 54 7 _ rfl cells_slcw
  simp only [List.drop_zero,List.drop_succ_cons,List.take_succ_cons,List.take_zero] at h8
  obtain ⟨k0,e0,_,_⟩:=DataW.trod_int Tryz.underlying3 h0
  obtain ⟨q,u,hfit,eq,hbq⟩:=open_rq h1
  obtain ⟨Aq,mq,cq,rfl⟩:=hbq.form
  obtain ⟨A,m,c,bs,e9,⟨hb,hr⟩,_⟩:=open_btc h9
  obtain ⟨k10,e10,_,_⟩:=DataW.trod_int Tryz.underlying3 h10
  obtain ⟨k11,e11,_,_⟩:=DataW.trod_int Tryz.underlying3 h11
  obtain ⟨k12,e12,w12⟩:=open_nat Tryz.underlying5 (fun _ h=>(bounds_u8 h).1) h12
  simp only [rqV,Value.agg.injEq,Array.mk.injEq,List.cons.injEq,and_true] at eq e0 e10 e11
  obtain ⟨f1,f2,f3,f4,f5,f6,f7,f8⟩:=eq
  have b12:=bounds_u8 w12
  have hk12:((UInt8.ofNat k12).toNat:Int)=(k12:Int):=by rw [UInt8.toNat_ofNat']; omega
  subst e0 f1 f2 f3 f4 f5 f6 f7 f8 e9 e10 e11 e12
  have s9:=slc_wt (m:=m) Tryz.underlying54 (by kernel_rfl) h9 fun z hz=>hR z (w9 z hz)
  have s8:=slc_wt (m:=mq) Tryz.underlying54 (by kernel_rfl) h8 fun z hz=>hR z (w1 z (w8 z hz))
  exact ⟨⟨k0,q,bs,k10,k11,UInt8.ofNat k12⟩,Aq,mq,cq,A,m,c,by simp only [hk12],hbq,hb,hr,hfit,s9,s8⟩
theorem open_actss {v:Value} {x:DataW H × List MemPlace} (h:DataW.trod enc Tryz.prog w base spare held fuel 22 [v]=some x) (hR:∀ z ∈ x.1.weights Tryz.prog 22,z≤0x7ffffffff000) :
  ∃ A n c ds,v=.slice A n c∧ActsS w A n ds:=by
 rcases open_slice Tryz.underlying22 h with ⟨hcs,_⟩ | ⟨a,len,cap,m,n,D,Pl,hcs,_,hl,hm,hmm,hx,hi⟩
 ·simp only [List.cons.injEq,and_true] at hcs
  exact ⟨none,0,0,[],hcs,rfl,Nat.zero_le _,fun j d hj=>by simp at hj⟩
 ·simp only [List.cons.injEq,and_true] at hcs
  have hlm:len≤m:=by rw [hmm]; split <;> omega
  have hch:∀ i,i < len→∃ d,∃ B off Aq mq cq A' m c,some a=some ⟨B,off,none⟩∧ActSAt w B (off+i * 13) d Aq mq cq A' m c:=by
   intro i hil
   obtain ⟨cs,hc,ht⟩:=hi i (by omega)
   obtain ⟨_,hcl,hat⟩:=World.cells?_some hc
   rw [cells_acts] at hcl hat
   obtain ⟨d,Aq,mq,cq,A',m1,c1,rfl,r1,r2,r3,r4,r5,r6⟩:=open_acts ht fun z hz=>hR z (by
    subst hx
    show z ∈ DataW.weights _ _ (.slice _ _)
    unfold DataW.weights
    rw [Tryz.underlying22]
    exact List.mem_cons_of_mem _ (List.mem_append_left _ (wt_all hil hz)))
   obtain ⟨B,off,spot⟩:=a
   have hspot:spot=none:=by
    obtain ⟨cs',hc',_⟩:=hi 0 (by omega)
    obtain ⟨_,hcl',hat'⟩:=World.cells?_some hc'
    rw [cells_acts] at hcl' hat'
    have:=hat' 0 (by omega)
    rw [List.getElem?_eq_getElem (by omega)] at this
    simpa [Addr.add] using World.cell?_spot this
   subst hspot
   have at':∀ j x,([.int .i64 d.kind,.int .u64 (d.q.num:Int),.int .i64 d.q.kind,.int .u32 (cO d.q.s:Int),.int .u16 (cS d.q.s:Int),.int .u16 (cL d.q.s:Int),.int .u32 (cG d.q.s:Int),.int .u16 (d.q.lost:Int),.slice Aq mq cq,.slice A' m1 c1,.int .i64 d.n,.int .i64 d.m,.int .u8 (d.bits.toNat:Int)]:List Value)[j]?=some x→w.cell? ⟨B,off+i * 13+j,none⟩=some x:=by
    intro j x hx
    have hj:j < 13:=(List.getElem?_eq_some_iff.1 hx).1
    have:=hat j hj
    rw [add_none,add_none,hx] at this
    exact this
   exact ⟨d,B,off,Aq,mq,cq,A',m1,c1,rfl,at' 0 _ rfl,at' 1 _ rfl,at' 2 _ rfl,at' 3 _ rfl,at' 4 _ rfl,at' 5 _ rfl,at' 6 _ rfl,at' 7 _ rfl,at' 8 _ rfl,at' 9 _ rfl,at' 10 _ rfl,at' 11 _ rfl,at' 12 _ rfl,r1,r2,r3,r4,r5,r6⟩
  have hlist:∀ k,k≤len→∃ ds:List ActS,ds.length=k∧∀ (j:Nat) (d:ActS),ds[j]?=some d→∃ B off Aq mq cq A' m c,some a=some ⟨B,off,none⟩∧ActSAt w B (off+j * 13) d Aq mq cq A' m c:=by
   intro k
   induction k with
   | zero=>exact fun _=>⟨[],rfl,fun j d hj=>by simp at hj⟩
   | succ k ih =>
    intro hk
    obtain ⟨ds,hl,hd⟩:=ih (by omega)
    obtain ⟨d,hd'⟩:=hch k (by omega)
    refine ⟨ds ++ [d],by simp [hl],fun j e hj=>?_⟩
    rcases Nat.lt_or_ge j k with g | g
    ·rw [List.getElem?_append_left (by omega)] at hj
     exact hd j e hj
    ·rw [List.getElem?_append_right (by omega)] at hj
     have hj0:j - ds.length=0:=by
      have:=(List.getElem?_eq_some_iff.1 hj).1
      simp at this
      omega
     rw [hj0] at hj
     simp at hj
     subst hj
     obtain rfl:j=k:=by omega
     exact hd'
  obtain ⟨ds,hl',hd⟩:=hlist len (Nat.le_refl _)
  exact ⟨some a,len,cap,ds,hcs,hl'.symm,by simp only [maxLen] at hm; omega,hd⟩
end
end Go.Proofs.YtnfcfdhlmeimhaaGreat
