/- The document's Parse of layer 15, as a contract over memory (printed by tools/gen_wig.py). -/
import Derived.Test.YtnfcfdhlmeimhaaGreatSpaw
import Derived.Deep.DeepCutAuto
namespace Go.Proofs.YtnfcfdhlmeimhaaGreat
open Go.RowKit
set_option linter.unusedVariables false
set_option linter.unusedSimpArgs false
set_option maxRecDepth 20000
section
variable {t:TypeId} {w w1:World} {b g:Nat} {xs:Array Value} {u v:Value} {bs:List UInt8}
/-- Bytes do not lie in a block without bytes. -/
theorem bts_off (h:w.heap[b]?=some (.cells xs t (0,0))) (hx:∀ (j:Nat) (z:Int),xs[j]?≠some (.int .u8 z)) (hb:Bts w u bs) (hne:bs≠[]):u.ownBlock≠some b:=fun e=>by
 obtain ⟨A',c',rfl,hn,hc⟩:=hb
 rcases A' with _ | ad
 ·cases e
 ·have h0:=hc ad rfl 0 _ (List.getElem?_eq_getElem (List.length_pos_iff.2 hne))
  obtain ⟨B,off,sp⟩:=ad
  have eB:B=b:=Option.some.inj e
  subst eB
  have hs:sp=none:=by simpa [Addr.add] using World.cell?_spot h0
  subst hs
  rw [add_none,cell_of_row w B _ _ _ _ h] at h0
  exact hx _ _ h0
theorem bts_stay (h:w.heap[b]?=some (.cells xs t (0,0))) (hx:∀ (j:Nat) (z:Int),xs[j]?≠some (.int .u8 z)) (hb:Bts w u bs) (hk:Kp (fun k=>k=b) w w1):Bts w1 u bs:=by
 by_cases e:bs=[]
 ·subst e
  obtain ⟨A',c',rfl,hn,hc⟩:=hb
  exact ⟨A',c',rfl,hn,fun ad ha j u hu=>by simp at hu⟩
 ·exact hb.keep hk fun k hk' e'=>bts_off h hx hb e (by rw [hk',e'])
theorem TkAt.stay (h:TkAt w g bs) (hB:w.heap[b]?=some (.cells xs t (0,0))) (hx:∀ (j:Nat) (z:Int),xs[j]?≠some (.int .u8 z)) (hne:g≠b) (hk:Kp (fun k=>k=b) w w1):TkAt w1 g bs:=by
 obtain ⟨A,n,c,h1,h2,h3⟩:=h
 exact ⟨A,n,c,(hk.block g h1.lt hne).trans h1,bts_stay hB hx h2 hk,h3⟩
end
/-- No byte stands in a request's eight cells. -/
theorem no_u8 (a:Nat) (b:Int) (c d e f:Int) (g:Int) (A:Option Addr) (n k:Nat) (j:Nat) (z:Int):(#[Value.int .u64 (a:Int),.int .i64 b,.int .u32 c,.int .u16 d,.int .u16 e,.int .u32 f,.int .u16 g,.slice A n k]:Array Value)[j]?≠some (.int .u8 z):=by
 match j with
 | 0 | 1 | 2 | 3 | 4 | 5 | 6 | 7=>simp
 | j+8=>simp
/-- What the document's Parse returns. -/
def PfPost (w:World) (q:Rq) (ok:Bool) (e:Ending) (w1:World):Prop:=∃ A n c,e=.returned (.tuple #[rqV q (.slice A n c),.bool ok])∧Bts w1 (.slice A n c) q.data∧Kp No w w1
theorem rparse15_short {w:World} {bs:List UInt8} {u:Value} (hb:Bts w u bs) (hl:bs.length < 23):Calls Tryz.prog 44 #[u] w (PfPost w rq0 false):=by
 obtain ⟨A,n,c,rfl⟩:=hb.form
 have hn:=hb.len
 have hn23:(n:Int) < 23:=by omega
 have X0:Bx8 56 (w.alloc (.cells #[.int .u64 0,.int .i64 0,.int .u32 0,.int .u16 0,.int .u16 0,.int .u32 0,.int .u16 0,.slice none 0 0] 56)) w.heap.size (.int .u64 0) (.int .i64 0) (.int .u32 0) (.int .u16 0) (.int .u16 0) (.int .u32 0) (.int .u16 0) (.slice none 0 0):=Bx8.new w _ _ _ _ _ _ _ _ _
 have K0:Kp No w (w.alloc (.cells #[.int .u64 0,.int .i64 0,.int .u32 0,.int .u16 0,.int .u16 0,.int .u32 0,.int .u16 0,.slice none 0 0] 56)):=Kp.alloc No w _
 obtain ⟨y0,y1,y2,y3,y4,y5,y6,y7⟩:=X0.cell
 have HXK:=hide K0
 clear X0 K0 hb hn hl
 go_enter Tryz.func44,Tryz.ntmps44
 go_wp2
 refine bodyPost_ret (v:=.tuple #[rqV rq0 (.slice none 0 0),.bool false]) (by simp [results,Tryz.results44,go_sem,y0,y1,y2,y3,y4,y5,y6,y7,rq0,cO,cS,cL,cG]) rfl ⟨_,_,_,rfl,Bts.nil _,HXK.out⟩
set_option maxHeartbeats 4000000 in
theorem rparse15_long {w:World} {bs:List UInt8} {A:Option Addr} {n c:Nat} (hb:Bts w (.slice A n c) bs) (hnc:n≤c) (hl:bs.length≤100000) (h23:23≤bs.length) (Q:Rq) (Z:Bool) (hy:(rqO bs).rgt=true→Q=rqO bs∧Z=true) (hno:(rqO bs).rgt=false→Q=rq0∧Z=false) :
  Calls Tryz.prog 44 #[.slice A n c] w (PfPost w Q Z):=by
 have hn:=hb.len
 have hn23:¬ (n:Int) < 23:=by omega
 clear hn
 have d8:(bs.drop 1).drop 8=bs.drop 9:=by rw [List.drop_drop]
 have d12:(bs.drop 9).drop 12=bs.drop 21:=by rw [List.drop_drop]
 have d2:(bs.drop 21).drop 2=bs.drop 23:=by rw [List.drop_drop]
 have N1:∀ w' g,TkAt w' g bs→Calls Tryz.prog 82 #[.pointer (some ⟨g,0,none⟩),.int .i64 1] w' (TknPost w' g (ofB (bs.take 1)) (bs.drop 1)):=fun w' g h=>tnum_any (k:=1) h (by omega) (by omega)
 have N2:∀ w' g,TkAt w' g (bs.drop 1)→Calls Tryz.prog 82 #[.pointer (some ⟨g,0,none⟩),.int .i64 8] w' (TknPost w' g (ofB ((bs.drop 1).take 8)) (bs.drop 9)):=fun w' g h=>d8 ▸ tnum_any (k:=8) h (by rw [List.length_drop]; omega) (by omega)
 have N3:∀ w' g,TkAt w' g (bs.drop 9)→Calls Tryz.prog 83 #[.pointer (some ⟨g,0,none⟩)] w' (TsPost w' g (nmO (bs.drop 9)) (bs.drop 21)):=fun w' g h=>d12 ▸ tshard_any h (by rw [List.length_drop]; omega)
 have N4:∀ w' g,TkAt w' g (bs.drop 21)→Calls Tryz.prog 82 #[.pointer (some ⟨g,0,none⟩),.int .i64 2] w' (TknPost w' g (ofB ((bs.drop 21).take 2)) (bs.drop 23)):=fun w' g h=>d2 ▸ tnum_any (k:=2) h (by rw [List.length_drop]; omega) (by omega)
 have b1:ofB (bs.take 1) < 256:=ofB_take 1
 have b3:ofB ((bs.drop 21).take 2) < 65536:=ofB_take 2
 have hq:rqO bs=⟨ofB ((bs.drop 1).take 8),(ofB (bs.take 1):Int),nmO (bs.drop 9),ofB ((bs.drop 21).take 2),bs.drop 23⟩:=rfl
 rw [hq] at hy hno
 clear hq d8 d12 d2 h23
 generalize ofB ((bs.drop 1).take 8)=num at *
 generalize ofB (bs.take 1)=k0 at *
 generalize nmO (bs.drop 9)=s at *
 generalize ofB ((bs.drop 21).take 2)=lo at *
 generalize bs.drop 23=r4 at *
 generalize bs.drop 21=r3 at *
 generalize bs.drop 9=r2 at *
 generalize bs.drop 1=r1 at *
 have HY:=hide hy
 have HNO:=hide hno
 clear hy hno
 have H1:=hide N1
 have H2:=hide N2
 have H3:=hide N3
 have H4:=hide N4
 clear N1 N2 N3 N4
 have q1:IntKind.i64.wrap (k0:Int)=k0:=IntWalk.i64_in _ (by omega)
 have q2:IntKind.u16.wrap (lo:Int)=lo:=u16_of b3
 have X0:Bx8 56 (w.alloc (.cells #[.int .u64 0,.int .i64 0,.int .u32 0,.int .u16 0,.int .u16 0,.int .u32 0,.int .u16 0,.slice none 0 0] 56)) w.heap.size (.int .u64 0) (.int .i64 0) (.int .u32 0) (.int .u16 0) (.int .u16 0) (.int .u32 0) (.int .u16 0) (.slice none 0 0):=Bx8.new w _ _ _ _ _ _ _ _ _
 have K0:Kp No w (w.alloc (.cells #[.int .u64 0,.int .i64 0,.int .u32 0,.int .u16 0,.int .u16 0,.int .u32 0,.int .u16 0,.slice none 0 0] 56)):=Kp.alloc No w _
 obtain ⟨w0,hw0⟩:∃ w0,w0=w.alloc (.cells #[.int .u64 0,.int .i64 0,.int .u32 0,.int .u16 0,.int .u16 0,.int .u32 0,.int .u16 0,.slice none 0 0] 56):=⟨_,rfl⟩
 rw [← hw0] at X0 K0
 have s0:w0.heap.size=w.heap.size+1:=by rw [hw0]; exact World.size_alloc _ _
 have T1:TkAt (w0.alloc (.cells #[.slice A n c,.bool false] 166)) (w.heap.size+1) bs:=by
  have:=TkB.new w0 (.slice A n c)
  rw [s0] at this
  exact ⟨A,n,c,this,(hb.no K0).no (Kp.alloc No w0 _),hnc⟩
 have X1:=X0.no (Kp.alloc No w0 (.cells #[.slice A n c,.bool false] 166))
 have K1:=K0.trans' (Kp.alloc No w0 (.cells #[.slice A n c,.bool false] 166))
 have s1:(w0.alloc (.cells #[.slice A n c,.bool false] 166)).heap.size=w.heap.size+2:=by rw [World.size_alloc,s0]
 rw [hw0] at T1 X1 K1 s1
 have HX:=hide (And.intro T1 (And.intro X1 (And.intro K1 s1)))
 clear X0 K0 T1 X1 K1 s1 s0 hw0 hb w0
 go_enter Tryz.func44,Tryz.ntmps44
 go_wp2_with fail
 -- the kind
 refine (H1.out _ _ HX.out.1).mono ?_
 rintro e w3 ⟨rfl,hr,hk⟩
 have gR:¬ (w.heap.size=w.heap.size+1):=by omega
 have hgw:w.heap.size≤w.heap.size+1:=by omega
 have X3:=HX.out.2.1.keep hk gR
 have K3:=HX.out.2.2.1.thenAt hgw hk
 have z3:w.heap.size+2≤w3.heap.size:=by have:=hk.size; have:=HX.out.2.2.2; omega
 have Q4:Bx8 56 (w3.alloc (.cells #[.int .u64 0,.int .i64 (k0:Int),.int .u32 0,.int .u16 0,.int .u16 0,.int .u32 0,.int .u16 0,.slice none 0 0] 56)) w3.heap.size (.int .u64 0) (.int .i64 (k0:Int)) (.int .u32 0) (.int .u16 0) (.int .u16 0) (.int .u32 0) (.int .u16 0) (.slice none 0 0):=Bx8.new w3 _ _ _ _ _ _ _ _ _
 have X4:=X3.no (Kp.alloc No w3 (.cells #[.int .u64 0,.int .i64 (k0:Int),.int .u32 0,.int .u16 0,.int .u16 0,.int .u32 0,.int .u16 0,.slice none 0 0] 56))
 have K4:=K3.trans' (Kp.alloc No w3 (.cells #[.int .u64 0,.int .i64 (k0:Int),.int .u32 0,.int .u16 0,.int .u16 0,.int .u32 0,.int .u16 0,.slice none 0 0] 56))
 have r4':=hr.no (Kp.alloc No w3 (.cells #[.int .u64 0,.int .i64 (k0:Int),.int .u32 0,.int .u16 0,.int .u16 0,.int .u32 0,.int .u16 0,.slice none 0 0] 56))
 obtain ⟨b,hb⟩:∃ b,b=w3.heap.size:=⟨_,rfl⟩
 have H4':=hide (And.intro Q4 (And.intro X4 (And.intro K4 r4')))
 have hb2:w.heap.size+2≤b:=by omega
 clear X3 K3 hr hk Q4 X4 K4 r4' HX z3
 go_wp2_with fail
 have gQ:¬ (b=w.heap.size+1):=by omega
 have QR:¬ (w.heap.size=b):=by omega
 have hQw:w.heap.size≤b:=by omega
 have gb:w.heap.size+1≠b:=by omega
 obtain ⟨Q4,X4,K4,r4'⟩:=H4'.out
 rw [← hb] at Q4 ⊢
 clear H4' hb
 generalize (w3.alloc (.cells #[.int .u64 0,.int .i64 (k0:Int),.int .u32 0,.int .u16 0,.int .u16 0,.int .u32 0,.int .u16 0,.slice none 0 0] 56))=w4 at *
 refine (H2.out _ _ r4').mono ?_
 rintro e w5 ⟨rfl,hr,hk⟩
 have X5:=X4.keep hk gR
 have Q5:=Q4.keep hk gQ
 have K5:=K4.thenAt hgw hk
 obtain ⟨p0,p1,p2,p3,p4,p5,p6,p7⟩:=Q5.cell
 have f0:=Q5.fz 0
 clear X4 Q4 K4 hk r4'
 go_wp2_with fail
 have kC:=Kp.setCell (S:=fun k=>k=b) (p:=⟨b,0,none⟩) (w:=w5) rfl (.int .u64 (num:Int))
 have Q6:=Q5.set0 (.int .u64 (num:Int))
 have X6:=X5.keep kC QR
 have K6:=K5.thenAt hQw kC
 have r6':=hr.stay Q5 (no_u8 0 _ _ _ _ _ _ _ _ _) gb kC
 generalize w5.setCell ⟨b,0,none⟩ (.int .u64 (num:Int))=w6 at *
 clear Q5 X5 K5 kC hr p0 p1 p2 p3 p4 p5 p6 p7 f0
 refine (H3.out _ _ r6').mono ?_
 rintro e w7 ⟨rfl,hr,hk⟩
 have X7:=X6.keep hk gR
 have Q7:=Q6.keep hk gQ
 have K7:=K6.thenAt hgw hk
 obtain ⟨p0,p1,p2,p3,p4,p5,p6,p7⟩:=Q7.cell
 have f2:=Q7.fz 2
 have f3:=Q7.fz 3
 have f4:=Q7.fz 4
 have f5:=Q7.fz 5
 clear X6 Q6 K6 r6' hk
 go_wp2_with fail
 have kN:=kpName (S:=fun k=>k=b) w7 b (.int .u32 (cO s:Int)) (.int .u16 (cS s:Int)) (.int .u16 (cL s:Int)) (.int .u32 (cG s:Int)) rfl
 have Q8:=Q7.name (.int .u32 (cO s:Int)) (.int .u16 (cS s:Int)) (.int .u16 (cL s:Int)) (.int .u32 (cG s:Int))
 have X8:=X7.keep kN QR
 have K8:=K7.thenAt hQw kN
 have r8':=hr.stay Q7 (no_u8 _ _ _ _ _ _ _ _ _ _) gb kN
 generalize (((w7.setCell ⟨b,2,none⟩ (.int .u32 (cO s:Int))).setCell ⟨b,3,none⟩ (.int .u16 (cS s:Int))).setCell ⟨b,4,none⟩ (.int .u16 (cL s:Int))).setCell ⟨b,5,none⟩ (.int .u32 (cG s:Int))=w8 at *
 clear Q7 X7 K7 hr kN p0 p1 p2 p3 p4 p5 p6 p7 f2 f3 f4 f5
 refine (H4.out _ _ r8').mono ?_
 rintro e w9 ⟨rfl,hr,hk⟩
 have X9:=X8.keep hk gR
 have Q9:=Q8.keep hk gQ
 have K9:=K8.thenAt hgw hk
 obtain ⟨p0,p1,p2,p3,p4,p5,p6,p7⟩:=Q9.cell
 have f0:=Q9.fz 6
 clear X8 Q8 K8 hk r8'
 go_upto_region 8 with (fail)
 have kC:=Kp.setCell (S:=fun k=>k=b) (p:=⟨b,6,none⟩) (w:=w9) rfl (.int .u16 (lo:Int))
 have Q10:=Q9.set6 (.int .u16 (lo:Int))
 have X10:=X9.keep kC QR
 have K10:=K9.thenAt hQw kC
 have r10':=hr.stay Q9 (no_u8 _ _ _ _ _ _ _ _ _ _) gb kC
 generalize w9.setCell ⟨b,6,none⟩ (.int .u16 (lo:Int))=w10 at *
 clear Q9 X9 K9 kC hr p0 p1 p2 p3 p4 p5 p6 p7 f0
 -- the data
 obtain ⟨A6,n6,c6,hT,hB6,hc6⟩:=r10'
 have D12:=bts_stay Q10 (no_u8 _ _ _ _ _ _ _ _ _ _) hB6 (Kp.setCell (S:=fun k=>k=b) (p:=⟨b,7,none⟩) rfl (.slice A6 n6 c6))
 have t0:=hT.c0
 obtain ⟨p0,p1,p2,p3,p4,p5,p6,p7⟩:=Q10.cell
 have f0:=Q10.fz 7
 go_wp2_with fail
 have kD:=Kp.setCell (S:=fun k=>k=b) (p:=⟨b,7,none⟩) (w:=w10) rfl (.slice A6 n6 c6)
 have Q12:=Q10.set7 (.slice A6 n6 c6)
 have X12:=X10.keep kD QR
 have K12:=K10.thenAt hQw kD
 generalize w10.setCell ⟨b,7,none⟩ (.slice A6 n6 c6)=w12 at *
 clear Q10 X10 K10 hT hB6 hc6 kD t0 p0 p1 p2 p3 p4 p5 p6 p7 f0
 have hn6:=D12.len
 have HRT:∀ w',Calls Tryz.prog 18 #[rqV ⟨num,(k0:Int),s,lo,r4⟩ (.slice A6 n6 c6)] w' (RtPostK w' (Rq.rgt ⟨num,(k0:Int),s,lo,r4⟩)):=fun w'=>by
  have:=rright15_any (w:=w') ⟨num,(k0:Int),s,lo,r4⟩ A6 n6 c6
  rw [hn6] at this ⊢
  exact this
 have HD:=hide (And.intro X12 (And.intro Q12 (And.intro K12 D12)))
 have HV:=hide HRT
 obtain ⟨p0,p1,p2,p3,p4,p5,p6,p7⟩:=Q12.cell
 clear X12 Q12 K12 D12 hn6 HRT
 by_cases hrg:Rq.rgt ⟨num,(k0:Int),s,lo,r4⟩=true
 ·obtain ⟨rfl,rfl⟩:=HY.out hrg
  rw [hrg] at HV
  clear hrg
  go_wp2_with fail
  refine (HV.out _).mono ?_
  rintro e w13 ⟨rfl,hk13⟩
  clear p0 p1 p2 p3 p4 p5 p6 p7
  have X13:=HD.out.1.no hk13
  have Q13:=HD.out.2.1.no hk13
  have K13:=HD.out.2.2.1.trans' hk13
  have D13:=HD.out.2.2.2.no hk13
  obtain ⟨p0,p1,p2,p3,p4,p5,p6,p7⟩:=Q13.cell
  obtain ⟨t0,t1,t2,t3,t4,t5,t6,t7⟩:=X13.cell
  have g0:=X13.fz 0
  have g1:=X13.fz 1
  have g2:=X13.fz 2
  have g3:=X13.fz 3
  have g4:=X13.fz 4
  have g5:=X13.fz 5
  have g6:=X13.fz 6
  have g7:=X13.fz 7
  have H13:=hide (And.intro X13 (And.intro K13 D13))
  clear X13 Q13 K13 D13 hk13
  go_wp2_with fail
  have R13:=H13.out.1.all (.int .u64 (num:Int)) (.int .i64 (k0:Int)) (.int .u32 (cO s:Int)) (.int .u16 (cS s:Int)) (.int .u16 (cL s:Int)) (.int .u32 (cG s:Int)) (.int .u16 (lo:Int)) (.slice A6 n6 c6)
  obtain ⟨y0,y1,y2,y3,y4,y5,y6,y7⟩:=R13.cell
  have kR:=kp8 (S:=fun k=>k=w.heap.size) w13 w.heap.size (.int .u64 (num:Int)) (.int .i64 (k0:Int)) (.int .u32 (cO s:Int)) (.int .u16 (cS s:Int)) (.int .u16 (cL s:Int)) (.int .u32 (cG s:Int)) (.int .u16 (lo:Int)) (.slice A6 n6 c6) rfl
  refine bodyPost_ret (v:=.tuple #[rqV ⟨num,(k0:Int),s,lo,r4⟩ (.slice A6 n6 c6),.bool true]) (by simp [results,Tryz.results44,go_sem,y0,y1,y2,y3,y4,y5,y6,y7]) rfl ⟨_,_,_,rfl,bts_stay H13.out.1 (no_u8 0 _ _ _ _ _ _ _ _ _) H13.out.2.2 kR,H13.out.2.1.thenAt (Nat.le_refl _) kR⟩
 ·have hrg:Rq.rgt ⟨num,(k0:Int),s,lo,r4⟩=false:=by simpa using hrg
  obtain ⟨rfl,rfl⟩:=HNO.out hrg
  rw [hrg] at HV
  clear hrg
  go_wp2_with fail
  refine (HV.out _).mono ?_
  rintro e w13 ⟨rfl,hk13⟩
  clear p0 p1 p2 p3 p4 p5 p6 p7
  have X13:=HD.out.1.no hk13
  have Q13:=HD.out.2.1.no hk13
  have K13:=HD.out.2.2.1.trans' hk13
  have D13:=HD.out.2.2.2.no hk13
  obtain ⟨p0,p1,p2,p3,p4,p5,p6,p7⟩:=Q13.cell
  obtain ⟨t0,t1,t2,t3,t4,t5,t6,t7⟩:=X13.cell
  have g0:=X13.fz 0
  have g1:=X13.fz 1
  have g2:=X13.fz 2
  have g3:=X13.fz 3
  have g4:=X13.fz 4
  have g5:=X13.fz 5
  have g6:=X13.fz 6
  have g7:=X13.fz 7
  have H13:=hide (And.intro X13 (And.intro K13 D13))
  clear X13 Q13 K13 D13 hk13
  go_wp2_with fail
  have R13:=H13.out.1.all (.int .u64 0) (.int .i64 0) (.int .u32 0) (.int .u16 0) (.int .u16 0) (.int .u32 0) (.int .u16 0) (.slice none 0 0)
  obtain ⟨y0,y1,y2,y3,y4,y5,y6,y7⟩:=R13.cell
  have kR:=kp8 (S:=fun k=>k=w.heap.size) w13 w.heap.size (.int .u64 0) (.int .i64 0) (.int .u32 0) (.int .u16 0) (.int .u16 0) (.int .u32 0) (.int .u16 0) (.slice none 0 0) rfl
  refine bodyPost_ret (v:=.tuple #[rqV rq0 (.slice none 0 0),.bool false]) (by simp [results,Tryz.results44,go_sem,y0,y1,y2,y3,y4,y5,y6,y7,rq0,cO,cS,cL,cG]) rfl ⟨_,_,_,rfl,Bts.nil _,H13.out.2.1.thenAt (Nat.le_refl _) kR⟩
/-- The document's Parse. -/
theorem rparse15_any {w:World} {bs:List UInt8} {A:Option Addr} {n c:Nat} (hb:Bts w (.slice A n c) bs) (hnc:n≤c) (hl:bs.length≤100000) (Q:Rq) (Z:Bool) (hy:rqE bs=true→Q=rqO bs∧Z=true) (hno:rqE bs=false→Q=rq0∧Z=false) :
  Calls Tryz.prog 44 #[.slice A n c] w (PfPost w Q Z):=by
 rcases Nat.lt_or_ge bs.length 23 with h | h
 ·obtain ⟨rfl,rfl⟩:=hno (by unfold rqE; rw [decide_eq_false (by omega)]; rfl)
  exact rparse15_short hb h
 ·have e:rqE bs=(rqO bs).rgt:=by unfold rqE; rw [decide_eq_true h]; rfl
  rw [e] at hy hno
  exact rparse15_long hb hnc hl h Q Z hy hno
end Go.Proofs.YtnfcfdhlmeimhaaGreat
