/- What law 12's does knows of both vaults, with its three boxes; Package wire's ParseReply, as a contract over memory (printed by tools/gen_wjb.py). -/
import Derived.Test.YtnfcfdhlmeimhaaGreatSpbi
import Derived.Test.YtnfcfdhlmeimhaaGreatSpam
import Derived.Test.YtnfcfdhlmeimhaaGreatSpaq
import Derived.Test.YtnfcfdhlmeimhaaGreatSpat
import Derived.Test.YtnfcfdhlmeimhaaGreatSpau
import Derived.Test.YtnfcfdhlmeimhaaGreatSpaj
namespace Go.Proofs.YtnfcfdhlmeimhaaGreat
open Go.RowKit
set_option linter.unusedVariables false
set_option linter.unusedSimpArgs false
set_option maxRecDepth 20000
/-- One act changes the numbers so much. -/
structure NmK (V V1:Vt):Prop where
 n:V1.D.cells.length=V.D.cells.length
 l:V1.D.loose.length≤V.D.loose.length+1
 s:V1.D.syncs≤V.D.syncs+1
section
variable (V:Vt) (s:Nat) (b:List UInt8)
theorem Vt.nsame:NmK V V:=⟨rfl,Nat.le_succ _,Nat.le_succ _⟩
theorem Vt.nbg:NmK V (V.bg s b):=by
 by_cases e:V.bgE s b=0
 ·rw [Vt.bg_yes e]
  exact ⟨put_n _ _ _,put_loose _ _ _,by show (V.D.put V.free (frV s b)).syncs≤_; rw [put_syncs]; exact Nat.le_succ _⟩
 ·rw [Vt.bg_no e]
  exact V.nsame
theorem Vt.npt:NmK V (V.pt s b):=by
 by_cases e:V.bgE s b=0
 ·rw [Vt.pt_yes e,Vt.bg_yes e]
  exact ⟨(sync_n _).trans (put_n _ _ _),Nat.zero_le _,by show (V.D.put V.free (frV s b)).syncs+1≤_; rw [put_syncs]; exact Nat.le_refl _⟩
 ·rw [Vt.pt_no e]
  exact V.nsame
theorem Vt.ndr:NmK V (V.dr s):=by
 by_cases e:V.drE s=0
 ·rw [Vt.dr_yes e]
  exact ⟨(sync_n _).trans (put_n _ _ _),Nat.zero_le _,by show (V.D.put (cel V.L s) []).syncs+1≤_; rw [put_syncs]; exact Nat.le_refl _⟩
 ·rw [Vt.dr_no e]
  exact V.nsame
end
section
variable {w w1:World} {a m c:Nat} {A:Option Addr} {d:ActV}
end
/-- The three boxes, and what lies beside them. -/
def X3 (s k:Nat):Prop:=k=s∨k=s+1∨k=s+2
section
variable {w wr w1:World} {F X0 G:Nat→Prop} {gd s m c g b g1 b1:Nat} {d:ActV} {A:Option Addr} {V V1 R R1:Vt} {vc vl vk vc1 vl1 vk1:Value} {cs cs1:List (Value × List UInt8)} {ls ls1:List (Nat × (Value × List UInt8))}
end
section
variable {w wr w1:World} {F X0 G:Nat→Prop} {gd s m c g b:Nat} {d:ActV} {A:Option Addr} {V0 V R:Vt} {vc vl vk:Value} {cs:List (Value × List UInt8)} {ls:List (Nat × (Value × List UInt8))}
end
end Go.Proofs.YtnfcfdhlmeimhaaGreat
namespace Go.Proofs.YtnfcfdhlmeimhaaGreat
open Go.RowKit
set_option linter.unusedVariables false
set_option linter.unusedSimpArgs false
set_option maxRecDepth 20000
/-- What ParseReply returns. -/
def PpPost (w:World) (p:Rp) (z:Int) (e:Ending) (w1:World):Prop:=∃ A n c,e=.returned (.tuple #[rplV p (.slice A n c),.int .i64 z])∧Bts w1 (.slice A n c) p.data∧Kp No w w1
set_option maxHeartbeats 4000000 in
theorem parsep_long {w:World} {bs:List UInt8} {u:Value} (hb:Bts w u bs) (hl:bs.length≤100000) (h9:9≤bs.length) (P:Rp) (Z:Int) (hy:(rpO bs).rgt=true→P=rpO bs∧Z=0) (hno:(rpO bs).rgt=false→P=rp0∧Z=21) :
  Calls Tryz.prog 28 #[u] w (PpPost w P Z):=by
 obtain ⟨A,n,c,rfl⟩:=hb.form
 have d1:(bs.drop 8).drop 1=bs.drop 9:=by rw [List.drop_drop]
 have N1:∀ w' F g,RdAt w' F g bs→Calls Tryz.prog 56 #[.pointer (some ⟨g,0,none⟩),.int .i64 8] w' (NmPost w' F g (ofB (bs.take 8)) (bs.drop 8)):=fun w' F g h =>
  rdnum_any 8 (by rw [List.length_take]; omega) (by omega) (by rwa [List.take_append_drop])
 have N2:∀ w' F g,RdAt w' F g (bs.drop 8)→Calls Tryz.prog 56 #[.pointer (some ⟨g,0,none⟩),.int .i64 1] w' (NmPost w' F g (ofB ((bs.drop 8).take 1)) (bs.drop 9)):=fun w' F g h =>
  rdnum_any 1 (by rw [List.length_take,List.length_drop]; omega) (by omega) (by rw [← d1]; rwa [List.take_append_drop])
 have N5:∀ w' F g,RdAt w' F g (bs.drop 9)→Calls Tryz.prog 57 #[.pointer (some ⟨g,0,none⟩)] w' (RwPost w' F g (bs.drop 9) []):=fun w' F g h=>rdrest_any h (by rw [List.length_drop]; omega)
 have b1:ofB ((bs.drop 8).take 1) < 256:=ofB_take 1
 have hq:rpO bs=⟨ofB (bs.take 8),(ofB ((bs.drop 8).take 1):Int),bs.drop 9⟩:=rfl
 rw [hq] at hy hno
 clear hq d1 h9
 generalize ofB (bs.take 8)=num at *
 generalize ofB ((bs.drop 8).take 1)=k0 at *
 generalize bs.drop 9=r2 at *
 generalize bs.drop 8=r1 at *
 have HY:=hide hy
 have HNO:=hide hno
 have H1:=hide N1
 have H2:=hide N2
 have H5:=hide N5
 have HLN:=hide hl
 clear hy hno N1 N2 N5 hl
 have q1:IntKind.i64.wrap (k0:Int)=k0:=IntWalk.i64_in _ (by omega)
 have X0:Bx3 81 (w.alloc (.cells #[.int .u64 0,.int .i64 0,.slice none 0 0] 81)) w.heap.size (.int .u64 0) (.int .i64 0) (.slice none 0 0):=Bx3.new w _ _ _ _
 have K0:Kp No w (w.alloc (.cells #[.int .u64 0,.int .i64 0,.slice none 0 0] 81)):=Kp.alloc No w _
 have HB:=hide (hb.no K0)
 have HXK:=hide (And.intro X0 K0)
 clear X0 K0 hb
 go_enter Tryz.func28,Tryz.ntmps28
 go_wp2_with fail
 refine (read_any HB.out (by have:=HLN.out; omega)).mono ?_
 rintro e w1 ⟨g,rfl,hr,k1⟩
 have X1:=HXK.out.1.no k1
 have K1:=HXK.out.2.trans' k1
 have hg:=hr.in_
 have sz0:(w.alloc (.cells #[.int .u64 0,.int .i64 0,.slice none 0 0] 81)).heap.size=w.heap.size+1:=World.size_alloc _ _
 rw [sz0] at hr hg
 have h28:∀ k,(w.heap.size+1≤k∧k < w1.heap.size)→k≠w1.heap.size:=fun k hk=>by omega
 have HF:=hide h28
 have X2:=X1.no (Kp.alloc No w1 (.cells #[.int .u64 0,.int .i64 0,.slice none 0 0] 81))
 have Q2:Bx3 81 (w1.alloc (.cells #[.int .u64 0,.int .i64 0,.slice none 0 0] 81)) w1.heap.size (.int .u64 0) (.int .i64 0) (.slice none 0 0):=Bx3.new w1 _ _ _ _
 have K2:=K1.trans' (Kp.alloc No w1 (.cells #[.int .u64 0,.int .i64 0,.slice none 0 0] 81))
 have hr2:=hr.no (Kp.alloc No w1 (.cells #[.int .u64 0,.int .i64 0,.slice none 0 0] 81))
 have HQ:=hide (And.intro X2 (And.intro Q2 (And.intro K2 hr2)))
 clear X1 K1 hr X2 Q2 K2 hr2 h28 k1 sz0
 go_wp2_with fail
 have gQ:¬ (w1.heap.size=g):=by omega
 have gR:¬ (w.heap.size=g):=by omega
 have QR:¬ (w.heap.size=w1.heap.size):=by omega
 have hgw:w.heap.size≤g:=by omega
 have hQw:w.heap.size≤w1.heap.size:=by omega
 obtain ⟨X2,Q2,K2,hr2⟩:=HQ.out
 clear HQ
 generalize (w1.alloc (.cells #[.int .u64 0,.int .i64 0,.slice none 0 0] 81))=w2 at *
 refine (H1.out _ _ _ hr2).mono ?_
 rintro e w3 ⟨rfl,hr,hk⟩
 have X3:=X2.keep hk gR
 have Q3:=Q2.keep hk gQ
 have K3:=K2.thenAt hgw hk
 obtain ⟨p0,p1,p2⟩:=Q3.cell
 have f0:=Q3.fz 0
 clear X2 Q2 K2 hk hr2
 go_wp2_with fail
 have kC:=Kp.setCell (S:=fun k=>k=w1.heap.size) (p:=⟨w1.heap.size,0,none⟩) (w:=w3) rfl (.int .u64 (num:Int))
 have Q4:=Q3.set0 (.int .u64 (num:Int))
 have X4:=X3.keep kC QR
 have K4:=K3.thenAt hQw kC
 have hr4:=hr.keep kC (fun k hk e=>HF.out k hk e)
 generalize w3.setCell ⟨w1.heap.size,0,none⟩ (.int .u64 (num:Int))=w4 at *
 clear Q3 X3 K3 kC hr p0 p1 p2 f0
 refine (H2.out _ _ _ hr4).mono ?_
 rintro e w5 ⟨rfl,hr,hk⟩
 have X5:=X4.keep hk gR
 have Q5:=Q4.keep hk gQ
 have K5:=K4.thenAt hgw hk
 obtain ⟨p0,p1,p2⟩:=Q5.cell
 have f0:=Q5.fz 1
 clear X4 Q4 K4 hk hr4
 go_wp2_with fail
 have kC:=Kp.setCell (S:=fun k=>k=w1.heap.size) (p:=⟨w1.heap.size,1,none⟩) (w:=w5) rfl (.int .i64 (k0:Int))
 have Q6:=Q5.set1 (.int .i64 (k0:Int))
 have X6:=X5.keep kC QR
 have K6:=K5.thenAt hQw kC
 have hr6:=hr.keep kC (fun k hk e=>HF.out k hk e)
 generalize w5.setCell ⟨w1.heap.size,1,none⟩ (.int .i64 (k0:Int))=w6 at *
 clear Q5 X5 K5 kC hr p0 p1 p2 f0
 refine (H5.out _ _ _ hr6).mono ?_
 rintro e w7 ⟨A6,n6,c6,rfl,ho,hr,hk⟩
 have hoQ:∀ k,(Value.slice A6 n6 c6).ownBlock=some k→k≠w1.heap.size∧k≠w.heap.size:=fun k hk'=>by
  have h1:=ho.ge k hk'
  have h2:=Q6.lt
  omega
 have X7:=X6.keep hk gR
 have Q7:=Q6.keep hk gQ
 have K7:=K6.thenAt hgw hk
 obtain ⟨p0,p1,p2⟩:=Q7.cell
 have f0:=Q7.fz 2
 clear X6 Q6 K6 hk hr6
 go_wp2_with fail
 have kC:=Kp.setCell (S:=fun k=>k=w1.heap.size) (p:=⟨w1.heap.size,2,none⟩) (w:=w7) rfl (.slice A6 n6 c6)
 have Q8:=Q7.set2 (.slice A6 n6 c6)
 have X8:=X7.keep kC QR
 have K8:=K7.thenAt hQw kC
 have hr8:=hr.keep kC (fun k hk e=>HF.out k hk e)
 have D8:Bts (w7.setCell ⟨w1.heap.size,2,none⟩ (.slice A6 n6 c6)) (.slice A6 n6 c6) r2:=ho.bts.keep kC fun k hk=>(hoQ k hk).1
 generalize w7.setCell ⟨w1.heap.size,2,none⟩ (.slice A6 n6 c6)=w8 at *
 clear Q7 X7 K7 kC hr p0 p1 p2 f0
 clear ho
 have hn6:=D8.len
 obtain ⟨p0,p1,p2⟩:=Q8.cell
 have HRT:∀ w',Calls Tryz.prog 59 #[rplV ⟨num,(k0:Int),r2⟩ (.slice A6 n6 c6)] w' (RtPostK w' (Rp.rgt ⟨num,(k0:Int),r2⟩)):=fun w'=>by
  have:=rpright_any (w:=w') ⟨num,(k0:Int),r2⟩ A6 n6 c6
  rw [hn6] at this ⊢
  exact this
 have HD:=hide (And.intro X8 (And.intro Q8 (And.intro K8 (And.intro D8 hoQ))))
 have HV:=hide HRT
 have T12:=hide hr8
 clear X8 Q8 K8 D8 hr8 hoQ hn6 HRT
 by_cases hrg:Rp.rgt ⟨num,(k0:Int),r2⟩=true
 ·obtain ⟨rfl,rfl⟩:=HY.out hrg
  rw [hrg] at HV
  clear hrg
  go_wp2_with (first
   | (go_at_call 58; refine (rdtorn_any T12.out).mono ?_; rintro e w13 ⟨rfl,rfl⟩)
   | (go_at_call 59; refine (HV.out _).mono ?_; rintro e w13 ⟨rfl,hk13⟩; clear p0 p1 p2; have X13:=HD.out.1.no hk13; have Q13:=HD.out.2.1.no hk13; have K13:=HD.out.2.2.1.trans' hk13; have D13:=HD.out.2.2.2.1.no hk13; obtain ⟨p0,p1,p2⟩:=Q13.cell; obtain ⟨t0,t1,t2⟩:=X13.cell; have g0:=X13.fz 0; have g1:=X13.fz 1; have g2:=X13.fz 2; have H13:=hide (And.intro X13 (And.intro K13 D13)); clear X13 Q13 K13 D13 hk13))
  have R13:=H13.out.1.all (.int .u64 (num:Int)) (.int .i64 (k0:Int)) (.slice A6 n6 c6)
  obtain ⟨y0,y1,y2⟩:=R13.cell
  have kR:=kp3 (S:=fun k=>k=w.heap.size) w13 w.heap.size (.int .u64 (num:Int)) (.int .i64 (k0:Int)) (.slice A6 n6 c6) rfl
  refine bodyPost_ret (v:=.tuple #[rplV ⟨num,(k0:Int),r2⟩ (.slice A6 n6 c6),.int .i64 0]) (by simp [results,Tryz.results28,go_sem,y0,y1,y2]) rfl ⟨_,_,_,rfl,H13.out.2.2.keep kR (fun k hk=>(HD.out.2.2.2.2 k hk).2),H13.out.2.1.thenAt (Nat.le_refl _) kR⟩
 ·have hrg:Rp.rgt ⟨num,(k0:Int),r2⟩=false:=by simpa using hrg
  obtain ⟨rfl,rfl⟩:=HNO.out hrg
  rw [hrg] at HV
  clear hrg
  go_wp2_with (first
   | (go_at_call 58; refine (rdtorn_any T12.out).mono ?_; rintro e w13 ⟨rfl,rfl⟩)
   | (go_at_call 59; refine (HV.out _).mono ?_; rintro e w13 ⟨rfl,hk13⟩; clear p0 p1 p2; have X13:=HD.out.1.no hk13; have Q13:=HD.out.2.1.no hk13; have K13:=HD.out.2.2.1.trans' hk13; have D13:=HD.out.2.2.2.1.no hk13; obtain ⟨p0,p1,p2⟩:=Q13.cell; obtain ⟨t0,t1,t2⟩:=X13.cell; have g0:=X13.fz 0; have g1:=X13.fz 1; have g2:=X13.fz 2; have H13:=hide (And.intro X13 (And.intro K13 D13)); clear X13 Q13 K13 D13 hk13))
  have R13:=H13.out.1.all (.int .u64 0) (.int .i64 0) (.slice none 0 0)
  obtain ⟨y0,y1,y2⟩:=R13.cell
  have kR:=kp3 (S:=fun k=>k=w.heap.size) w13 w.heap.size (.int .u64 0) (.int .i64 0) (.slice none 0 0) rfl
  refine bodyPost_ret (v:=.tuple #[rplV rp0 (.slice none 0 0),.int .i64 21]) (by simp [results,Tryz.results28,go_sem,y0,y1,y2,rp0]) rfl ⟨_,_,_,rfl,Bts.nil _,H13.out.2.1.thenAt (Nat.le_refl _) kR⟩
set_option maxHeartbeats 4000000 in
theorem parsep_short {w:World} {bs:List UInt8} {u:Value} (hb:Bts w u bs) (hl:bs.length < 9):Calls Tryz.prog 28 #[u] w (PpPost w rp0 21):=by
 obtain ⟨A,n,c,rfl⟩:=hb.form
 have HLN:=hide hl
 clear hl
 have X0:Bx3 81 (w.alloc (.cells #[.int .u64 0,.int .i64 0,.slice none 0 0] 81)) w.heap.size (.int .u64 0) (.int .i64 0) (.slice none 0 0):=Bx3.new w _ _ _ _
 have K0:Kp No w (w.alloc (.cells #[.int .u64 0,.int .i64 0,.slice none 0 0] 81)):=Kp.alloc No w _
 have HB:=hide (hb.no K0)
 have HXK:=hide (And.intro X0 K0)
 clear X0 K0 hb
 go_enter Tryz.func28,Tryz.ntmps28
 go_wp2_with fail
 refine (read_any HB.out (by have:=HLN.out; omega)).mono ?_
 rintro e w1 ⟨g,rfl,hr,k1⟩
 have X1:=HXK.out.1.no k1
 have K1:=HXK.out.2.trans' k1
 have hg:=hr.in_
 have sz0:(w.alloc (.cells #[.int .u64 0,.int .i64 0,.slice none 0 0] 81)).heap.size=w.heap.size+1:=World.size_alloc _ _
 rw [sz0] at hr hg
 have h28:∀ k,(w.heap.size+1≤k∧k < w1.heap.size)→k≠w1.heap.size:=fun k hk=>by omega
 have HF:=hide h28
 have X2:=X1.no (Kp.alloc No w1 (.cells #[.int .u64 0,.int .i64 0,.slice none 0 0] 81))
 have Q2:Bx3 81 (w1.alloc (.cells #[.int .u64 0,.int .i64 0,.slice none 0 0] 81)) w1.heap.size (.int .u64 0) (.int .i64 0) (.slice none 0 0):=Bx3.new w1 _ _ _ _
 have K2:=K1.trans' (Kp.alloc No w1 (.cells #[.int .u64 0,.int .i64 0,.slice none 0 0] 81))
 have hr2:=hr.no (Kp.alloc No w1 (.cells #[.int .u64 0,.int .i64 0,.slice none 0 0] 81))
 have HQ:=hide (And.intro X2 (And.intro Q2 (And.intro K2 hr2)))
 clear X1 K1 hr X2 Q2 K2 hr2 h28 k1 sz0
 go_wp2_with fail
 have gQ:¬ (w1.heap.size=g):=by omega
 have gR:¬ (w.heap.size=g):=by omega
 have QR:¬ (w.heap.size=w1.heap.size):=by omega
 have hgw:w.heap.size≤g:=by omega
 have hQw:w.heap.size≤w1.heap.size:=by omega
 obtain ⟨X2,Q2,K2,hr2⟩:=HQ.out
 clear HQ
 generalize (w1.alloc (.cells #[.int .u64 0,.int .i64 0,.slice none 0 0] 81))=w2 at *
 refine (numq_any (k:=8) hr2.q (.inl rfl) (by omega) (by omega)).mono ?_
 rintro e w3 ⟨y1,bs1,tb1,rfl,hr,l1,t1,d1,hk⟩
 have HT1:=hide (And.intro l1 (And.intro t1 d1))
 clear l1 t1 d1
 have X3:=X2.keep hk gR
 have Q3:=Q2.keep hk gQ
 have K3:=K2.thenAt hgw hk
 obtain ⟨p0,p1,p2⟩:=Q3.cell
 have f0:=Q3.fz 0
 clear X2 Q2 K2 hk hr2
 go_wp2_with fail
 generalize (y1:Int)=x0 at *
 have kC:=Kp.setCell (S:=fun k=>k=w1.heap.size) (p:=⟨w1.heap.size,0,none⟩) (w:=w3) rfl (.int .u64 x0)
 have Q4:=Q3.set0 (.int .u64 x0)
 have X4:=X3.keep kC QR
 have K4:=K3.thenAt hQw kC
 have hr4:=hr.keep kC (fun k hk e=>HF.out k hk e)
 generalize w3.setCell ⟨w1.heap.size,0,none⟩ (.int .u64 x0)=w4 at *
 clear Q3 X3 K3 kC hr p0 p1 p2 f0
 refine (numq_any (k:=1) hr4 HT1.out.2.2 (by omega) (by omega)).mono ?_
 rintro e w5 ⟨y2,bs2,tb2,rfl,hr,l2,t2,d2,hk⟩
 have HT2:=hide (And.intro l2 (And.intro t2 d2))
 clear l2 t2 d2
 have X5:=X4.keep hk gR
 have Q5:=Q4.keep hk gQ
 have K5:=K4.thenAt hgw hk
 obtain ⟨p0,p1,p2⟩:=Q5.cell
 have f0:=Q5.fz 1
 clear X4 Q4 K4 hk hr4
 go_wp2_with fail
 generalize wrap64 (y2:Int)=x1 at *
 have kC:=Kp.setCell (S:=fun k=>k=w1.heap.size) (p:=⟨w1.heap.size,1,none⟩) (w:=w5) rfl (.int .i64 x1)
 have Q6:=Q5.set1 (.int .i64 x1)
 have X6:=X5.keep kC QR
 have K6:=K5.thenAt hQw kC
 have hr6:=hr.keep kC (fun k hk e=>HF.out k hk e)
 generalize w5.setCell ⟨w1.heap.size,1,none⟩ (.int .i64 x1)=w6 at *
 clear Q5 X5 K5 kC hr p0 p1 p2 f0
 have ht:tb2=true:=by
  obtain ⟨l1,t1,_⟩:=HT1.out
  obtain ⟨l2,t2,_⟩:=HT2.out
  have hh:=HLN.out
  rw [t2,t1]
  have:bs.length < 8∨bs1.length < 1:=by omega
  rcases this with h | h
  ·exact .inl (.inr h)
  ·exact .inr h
 subst ht
 have h4:bs2=[]:=HT2.out.2.2.elim (fun h=>by cases h) id
 subst h4
 refine (restq_any hr6).mono ?_
 rintro e w7 ⟨A6,n6,c6,rfl,hr,hk⟩
 have X7:=X6.keep hk gR
 have Q7:=Q6.keep hk gQ
 have K7:=K6.thenAt hgw hk
 obtain ⟨p0,p1,p2⟩:=Q7.cell
 have f0:=Q7.fz 2
 clear X6 Q6 K6 hk hr6
 go_wp2_with fail
 have kC:=Kp.setCell (S:=fun k=>k=w1.heap.size) (p:=⟨w1.heap.size,2,none⟩) (w:=w7) rfl (.slice A6 n6 c6)
 have Q8:=Q7.set2 (.slice A6 n6 c6)
 have X8:=X7.keep kC QR
 have K8:=K7.thenAt hQw kC
 have hr8:=hr.keep kC (fun k hk e=>HF.out k hk e)
 generalize w7.setCell ⟨w1.heap.size,2,none⟩ (.slice A6 n6 c6)=w8 at *
 clear Q7 X7 K7 kC hr p0 p1 p2 f0
 have T12:=hide hr8
 obtain ⟨t0,t1,t2⟩:=X8.cell
 have g0:=X8.fz 0
 have g1:=X8.fz 1
 have g2:=X8.fz 2
 have H13:=hide (And.intro X8 K8)
 clear hr8 X8 K8 Q8
 go_wp2_with (go_at_call 58; refine (rdtorn_yes T12.out).mono ?_; rintro e w13 ⟨rfl,rfl⟩)
 have R13:=H13.out.1.all (.int .u64 0) (.int .i64 0) (.slice none 0 0)
 obtain ⟨y0,y1,y2⟩:=R13.cell
 have kR:=kp3 (S:=fun k=>k=w.heap.size) w8 w.heap.size (.int .u64 0) (.int .i64 0) (.slice none 0 0) rfl
 refine bodyPost_ret (v:=.tuple #[rplV rp0 (.slice none 0 0),.int .i64 21]) (by simp [results,Tryz.results28,go_sem,y0,y1,y2,rp0]) rfl ⟨_,_,_,rfl,Bts.nil _,H13.out.2.thenAt (Nat.le_refl _) kR⟩
/-- ParseReply. -/
theorem parsep_any {w:World} {bs:List UInt8} {u:Value} (hb:Bts w u bs) (hl:bs.length≤100000) (P:Rp) (Z:Int) (hy:rpE bs=true→P=rpO bs∧Z=0) (hno:rpE bs=false→P=rp0∧Z=21) :
  Calls Tryz.prog 28 #[u] w (PpPost w P Z):=by
 rcases Nat.lt_or_ge bs.length 9 with h | h
 ·obtain ⟨rfl,rfl⟩:=hno (by unfold rpE; rw [decide_eq_false (by omega)]; rfl)
  exact parsep_short hb h
 ·have e:rpE bs=(rpO bs).rgt:=by unfold rpE; rw [decide_eq_true h]; rfl
  rw [e] at hy hno
  exact parsep_long hb hl h P Z hy hno
end Go.Proofs.YtnfcfdhlmeimhaaGreat
