/- A box of eight cells; package wire's ParseRequest, as a contract over memory (printed by tools/gen_wie.py); Package wire's ParseRequest of fewer than 23 bytes, and of any, as a contract over memory (printed by tools/gen_wif.py). -/
import Derived.Test.YtnfcfdhlmeimhaaGreatSpau
import Derived.Test.YtnfcfdhlmeimhaaGreatSpae
import Derived.Test.YtnfcfdhlmeimhaaGreatSpaj
namespace Go.Proofs.YtnfcfdhlmeimhaaGreat
open Go.RowKit
set_option linter.unusedVariables false
set_option linter.unusedSimpArgs false
set_option maxRecDepth 20000
/-- Block b is eight cells of the type t. -/
def Bx8 (t:TypeId) (w:World) (b:Nat) (x0 x1 x2 x3 x4 x5 x6 x7:Value):Prop:=w.heap[b]?=some (.cells #[x0,x1,x2,x3,x4,x5,x6,x7] t (0,0))
section
variable {t:TypeId} {w w1:World} {b:Nat} {x0 x1 x2 x3 x4 x5 x6 x7 u:Value}
theorem Bx8.lt (h:Bx8 t w b x0 x1 x2 x3 x4 x5 x6 x7):b < w.heap.size:=(Array.getElem?_eq_some_iff.1 h).1
theorem Bx8.keep {S:Nat→Prop} (h:Bx8 t w b x0 x1 x2 x3 x4 x5 x6 x7) (hk:Kp S w w1) (hb:¬ S b):Bx8 t w1 b x0 x1 x2 x3 x4 x5 x6 x7:=(hk.block b h.lt hb).trans h
theorem Bx8.no (h:Bx8 t w b x0 x1 x2 x3 x4 x5 x6 x7) (hk:Kp No w w1):Bx8 t w1 b x0 x1 x2 x3 x4 x5 x6 x7:=h.keep hk fun f=>f
theorem Bx8.fz (h:Bx8 t w b x0 x1 x2 x3 x4 x5 x6 x7) (j:Nat):w.frozen? ⟨b,j,none⟩=false:=frozen_of_row w b j _ _ h
theorem Bx8.new (w:World) (t:TypeId) (x0 x1 x2 x3 x4 x5 x6 x7:Value):Bx8 t (w.alloc (.cells #[x0,x1,x2,x3,x4,x5,x6,x7] t)) w.heap.size x0 x1 x2 x3 x4 x5 x6 x7:=heap_alloc_new w _
theorem Bx8.cell (h:Bx8 t w b x0 x1 x2 x3 x4 x5 x6 x7):w.cell? ⟨b,0,none⟩=some x0∧w.cell? ⟨b,1,none⟩=some x1∧w.cell? ⟨b,2,none⟩=some x2∧w.cell? ⟨b,3,none⟩=some x3∧w.cell? ⟨b,4,none⟩=some x4∧w.cell? ⟨b,5,none⟩=some x5∧w.cell? ⟨b,6,none⟩=some x6∧w.cell? ⟨b,7,none⟩=some x7:=by
 refine ⟨?_,?_,?_,?_,?_,?_,?_,?_⟩ <;> (rw [cell_of_row w b _ _ _ _ h]; rfl)
theorem Bx8.set0 (h:Bx8 t w b x0 x1 x2 x3 x4 x5 x6 x7) (u:Value):Bx8 t (w.setCell ⟨b,0,none⟩ u) b u x1 x2 x3 x4 x5 x6 x7:=heap_setCell_same w b 0 _ t u h
theorem Bx8.set1 (h:Bx8 t w b x0 x1 x2 x3 x4 x5 x6 x7) (u:Value):Bx8 t (w.setCell ⟨b,1,none⟩ u) b x0 u x2 x3 x4 x5 x6 x7:=heap_setCell_same w b 1 _ t u h
theorem Bx8.set2 (h:Bx8 t w b x0 x1 x2 x3 x4 x5 x6 x7) (u:Value):Bx8 t (w.setCell ⟨b,2,none⟩ u) b x0 x1 u x3 x4 x5 x6 x7:=heap_setCell_same w b 2 _ t u h
theorem Bx8.set3 (h:Bx8 t w b x0 x1 x2 x3 x4 x5 x6 x7) (u:Value):Bx8 t (w.setCell ⟨b,3,none⟩ u) b x0 x1 x2 u x4 x5 x6 x7:=heap_setCell_same w b 3 _ t u h
theorem Bx8.set4 (h:Bx8 t w b x0 x1 x2 x3 x4 x5 x6 x7) (u:Value):Bx8 t (w.setCell ⟨b,4,none⟩ u) b x0 x1 x2 x3 u x5 x6 x7:=heap_setCell_same w b 4 _ t u h
theorem Bx8.set5 (h:Bx8 t w b x0 x1 x2 x3 x4 x5 x6 x7) (u:Value):Bx8 t (w.setCell ⟨b,5,none⟩ u) b x0 x1 x2 x3 x4 u x6 x7:=heap_setCell_same w b 5 _ t u h
theorem Bx8.set6 (h:Bx8 t w b x0 x1 x2 x3 x4 x5 x6 x7) (u:Value):Bx8 t (w.setCell ⟨b,6,none⟩ u) b x0 x1 x2 x3 x4 x5 u x7:=heap_setCell_same w b 6 _ t u h
theorem Bx8.set7 (h:Bx8 t w b x0 x1 x2 x3 x4 x5 x6 x7) (u:Value):Bx8 t (w.setCell ⟨b,7,none⟩ u) b x0 x1 x2 x3 x4 x5 x6 u:=heap_setCell_same w b 7 _ t u h
theorem Bx8.name (h:Bx8 t w b x0 x1 x2 x3 x4 x5 x6 x7) (u2 u3 u4 u5:Value):Bx8 t ((((w.setCell ⟨b,2,none⟩ u2).setCell ⟨b,3,none⟩ u3).setCell ⟨b,4,none⟩ u4).setCell ⟨b,5,none⟩ u5) b x0 x1 u2 u3 u4 u5 x6 x7:=(((h.set2 u2).set3 u3).set4 u4).set5 u5
theorem Bx8.all (h:Bx8 t w b x0 x1 x2 x3 x4 x5 x6 x7) (u0 u1 u2 u3 u4 u5 u6 u7:Value):Bx8 t ((((((((w.setCell ⟨b,0,none⟩ u0).setCell ⟨b,1,none⟩ u1).setCell ⟨b,2,none⟩ u2).setCell ⟨b,3,none⟩ u3).setCell ⟨b,4,none⟩ u4).setCell ⟨b,5,none⟩ u5).setCell ⟨b,6,none⟩ u6).setCell ⟨b,7,none⟩ u7) b u0 u1 u2 u3 u4 u5 u6 u7:=(((((((h.set0 u0).set1 u1).set2 u2).set3 u3).set4 u4).set5 u5).set6 u6).set7 u7
theorem kpName {S:Nat→Prop} (w:World) (b:Nat) (u2 u3 u4 u5:Value) (hb:S b):Kp S w ((((w.setCell ⟨b,2,none⟩ u2).setCell ⟨b,3,none⟩ u3).setCell ⟨b,4,none⟩ u4).setCell ⟨b,5,none⟩ u5):=(((Kp.setCell (p:=⟨b,2,none⟩) hb u2).trans' (Kp.setCell (p:=⟨b,3,none⟩) hb u3)).trans' (Kp.setCell (p:=⟨b,4,none⟩) hb u4)).trans' (Kp.setCell (p:=⟨b,5,none⟩) hb u5)
theorem kp8 {S:Nat→Prop} (w:World) (b:Nat) (u0 u1 u2 u3 u4 u5 u6 u7:Value) (hb:S b):Kp S w ((((((((w.setCell ⟨b,0,none⟩ u0).setCell ⟨b,1,none⟩ u1).setCell ⟨b,2,none⟩ u2).setCell ⟨b,3,none⟩ u3).setCell ⟨b,4,none⟩ u4).setCell ⟨b,5,none⟩ u5).setCell ⟨b,6,none⟩ u6).setCell ⟨b,7,none⟩ u7):=(((((((Kp.setCell (p:=⟨b,0,none⟩) hb u0).trans' (Kp.setCell (p:=⟨b,1,none⟩) hb u1)).trans' (Kp.setCell (p:=⟨b,2,none⟩) hb u2)).trans' (Kp.setCell (p:=⟨b,3,none⟩) hb u3)).trans' (Kp.setCell (p:=⟨b,4,none⟩) hb u4)).trans' (Kp.setCell (p:=⟨b,5,none⟩) hb u5)).trans' (Kp.setCell (p:=⟨b,6,none⟩) hb u6)).trans' (Kp.setCell (p:=⟨b,7,none⟩) hb u7)
end
/-- What ParseRequest returns. -/
def PqPost (w:World) (q:Rq) (z:Int) (e:Ending) (w1:World):Prop:=∃ A n c,e=.returned (.tuple #[rqV q (.slice A n c),.int .i64 z])∧Bts w1 (.slice A n c) q.data∧Kp No w w1
set_option maxHeartbeats 4000000 in
theorem parse15_long {w:World} {bs:List UInt8} {u:Value} (hb:Bts w u bs) (hl:bs.length≤100000) (h23:23≤bs.length) (Q:Rq) (Z:Int) (hy:(rqO bs).rgt=true→Q=rqO bs∧Z=0) (hno:(rqO bs).rgt=false→Q=rq0∧Z=21) :
  Calls Tryz.prog 42 #[u] w (PqPost w Q Z):=by
 obtain ⟨A,n,c,rfl⟩:=hb.form
 have d8:(bs.drop 1).drop 8=bs.drop 9:=by rw [List.drop_drop]
 have d12:(bs.drop 9).drop 12=bs.drop 21:=by rw [List.drop_drop]
 have d2:(bs.drop 21).drop 2=bs.drop 23:=by rw [List.drop_drop]
 have N1:∀ w' F g,RdAt w' F g bs→Calls Tryz.prog 56 #[.pointer (some ⟨g,0,none⟩),.int .i64 1] w' (NmPost w' F g (ofB (bs.take 1)) (bs.drop 1)):=fun w' F g h =>
  rdnum_any 1 (by rw [List.length_take]; omega) (by omega) (by rwa [List.take_append_drop])
 have N2:∀ w' F g,RdAt w' F g (bs.drop 1)→Calls Tryz.prog 56 #[.pointer (some ⟨g,0,none⟩),.int .i64 8] w' (NmPost w' F g (ofB ((bs.drop 1).take 8)) (bs.drop 9)):=fun w' F g h =>
  rdnum_any 8 (by rw [List.length_take,List.length_drop]; omega) (by omega) (by rw [← d8]; rwa [List.take_append_drop])
 have N3:∀ w' F g,RdAt w' F g (bs.drop 9)→(∀ k,F k→k < w'.heap.size)→Calls Tryz.prog 75 #[.pointer (some ⟨g,0,none⟩)] w' (ShPost w' F g (cO (nmO (bs.drop 9))) (cS (nmO (bs.drop 9))) (cL (nmO (bs.drop 9))) (cG (nmO (bs.drop 9))) (bs.drop 21)):=fun w' F g h hF=>by
  have hp:=nm_parts (bs:=bs.drop 9) (by rw [List.length_drop]; omega)
  rw [d12] at hp
  exact rdshard_any _ _ _ _ (cO_lt (nmO_lt _)) (cS_lt _) (cL_lt _) (cG_lt _) (by rw [← hp] at h; exact h) hF
 have N4:∀ w' F g,RdAt w' F g (bs.drop 21)→Calls Tryz.prog 56 #[.pointer (some ⟨g,0,none⟩),.int .i64 2] w' (NmPost w' F g (ofB ((bs.drop 21).take 2)) (bs.drop 23)):=fun w' F g h =>
  rdnum_any 2 (by rw [List.length_take,List.length_drop]; omega) (by omega) (by rw [← d2]; rwa [List.take_append_drop])
 have N5:∀ w' F g,RdAt w' F g (bs.drop 23)→Calls Tryz.prog 57 #[.pointer (some ⟨g,0,none⟩)] w' (RwPost w' F g (bs.drop 23) []):=fun w' F g h=>rdrest_any h (by rw [List.length_drop]; omega)
 have b1:ofB (bs.take 1) < 256:=ofB_take 1
 have b3:ofB ((bs.drop 21).take 2) < 65536:=ofB_take 2
 have hq:rqO bs=⟨ofB ((bs.drop 1).take 8),(ofB (bs.take 1):Int),nmO (bs.drop 9),ofB ((bs.drop 21).take 2),bs.drop 23⟩:=rfl
 rw [hq] at hy hno
 clear hq d8 d12 d2 h23
 generalize ofB ((bs.drop 1).take 8)=num at *
 generalize ofB (bs.take 1)=k0 at *
 generalize nmO (bs.drop 9)=s at *
 generalize ofB ((bs.drop 21).take 2)=lo at *
 generalize bs.drop 23=r4 at *
 generalize bs.drop 21=r3 at *
 generalize bs.drop 9=r2 at *
 generalize bs.drop 1=r1 at *
 have HY:=hide hy
 have HNO:=hide hno
 clear hy hno
 have H1:=hide N1
 have H2:=hide N2
 have H3:=hide N3
 have H4:=hide N4
 have H5:=hide N5
 clear N1 N2 N3 N4 N5
 have q1:IntKind.i64.wrap (k0:Int)=k0:=IntWalk.i64_in _ (by omega)
 have q2:IntKind.u16.wrap (lo:Int)=lo:=u16_of b3
 have X0:Bx8 84 (w.alloc (.cells #[.int .u64 0,.int .i64 0,.int .u32 0,.int .u16 0,.int .u16 0,.int .u32 0,.int .u16 0,.slice none 0 0] 84)) w.heap.size (.int .u64 0) (.int .i64 0) (.int .u32 0) (.int .u16 0) (.int .u16 0) (.int .u32 0) (.int .u16 0) (.slice none 0 0):=Bx8.new w _ _ _ _ _ _ _ _ _
 have K0:Kp No w (w.alloc (.cells #[.int .u64 0,.int .i64 0,.int .u32 0,.int .u16 0,.int .u16 0,.int .u32 0,.int .u16 0,.slice none 0 0] 84)):=Kp.alloc No w _
 have HB:=hide (hb.no K0)
 have HXK:=hide (And.intro X0 K0)
 clear X0 K0 hb
 go_enter Tryz.func42,Tryz.ntmps42
 go_wp2_with fail
 refine (read_any HB.out (by omega)).mono ?_
 rintro e w1 ⟨g,rfl,hr,k1⟩
 have X1:=HXK.out.1.no k1
 have K1:=HXK.out.2.trans' k1
 have hg:=hr.in_
 have sz0:(w.alloc (.cells #[.int .u64 0,.int .i64 0,.int .u32 0,.int .u16 0,.int .u16 0,.int .u32 0,.int .u16 0,.slice none 0 0] 84)).heap.size=w.heap.size+1:=World.size_alloc _ _
 rw [sz0] at hr hg
 have hFF:∀ k,(w.heap.size+1≤k∧k < w1.heap.size)→k≠w1.heap.size:=fun k hk=>by omega
 have HF:=hide hFF
 have X2:=X1.no (Kp.alloc No w1 (.cells #[.int .u64 0,.int .i64 0,.int .u32 0,.int .u16 0,.int .u16 0,.int .u32 0,.int .u16 0,.slice none 0 0] 84))
 have Q2:Bx8 84 (w1.alloc (.cells #[.int .u64 0,.int .i64 0,.int .u32 0,.int .u16 0,.int .u16 0,.int .u32 0,.int .u16 0,.slice none 0 0] 84)) w1.heap.size (.int .u64 0) (.int .i64 0) (.int .u32 0) (.int .u16 0) (.int .u16 0) (.int .u32 0) (.int .u16 0) (.slice none 0 0):=Bx8.new w1 _ _ _ _ _ _ _ _ _
 have K2:=K1.trans' (Kp.alloc No w1 (.cells #[.int .u64 0,.int .i64 0,.int .u32 0,.int .u16 0,.int .u16 0,.int .u32 0,.int .u16 0,.slice none 0 0] 84))
 have hr2:=hr.no (Kp.alloc No w1 (.cells #[.int .u64 0,.int .i64 0,.int .u32 0,.int .u16 0,.int .u16 0,.int .u32 0,.int .u16 0,.slice none 0 0] 84))
 have hs2:(w1.alloc (.cells #[.int .u64 0,.int .i64 0,.int .u32 0,.int .u16 0,.int .u16 0,.int .u32 0,.int .u16 0,.slice none 0 0] 84)).heap.size=w1.heap.size+1:=World.size_alloc _ _
 have HQ:=hide (And.intro X2 (And.intro Q2 (And.intro K2 (And.intro hr2 hs2))))
 clear X1 K1 hr X2 Q2 K2 hr2 hs2 hFF k1 sz0
 go_wp2_with fail
 -- the kind
 refine (H1.out _ _ _ HQ.out.2.2.2.1).mono ?_
 rintro e w3 ⟨rfl,hr,hk⟩
 have gQ:¬ (w1.heap.size=g):=by omega
 have gR:¬ (w.heap.size=g):=by omega
 have QR:¬ (w.heap.size=w1.heap.size):=by omega
 have hgw:w.heap.size≤g:=by omega
 have hQw:w.heap.size≤w1.heap.size:=by omega
 have X3:=HQ.out.1.keep hk gR
 have Q3:=HQ.out.2.1.keep hk gQ
 have K3:=HQ.out.2.2.1.thenAt hgw hk
 have z3:w1.heap.size < w3.heap.size:=by have:=hk.size; have:=HQ.out.2.2.2.2; omega
 obtain ⟨p0,p1,p2,p3,p4,p5,p6,p7⟩:=Q3.cell
 have f0:=Q3.fz 1
 go_wp2_with fail
 have Q4:=Q3.set1 (.int .i64 (k0:Int))
 have X4:=X3.keep (Kp.setCell (S:=fun k=>k=w1.heap.size) (p:=⟨w1.heap.size,1,none⟩) rfl (.int .i64 (k0:Int))) QR
 have K4:=K3.fresh (p:=⟨w1.heap.size,1,none⟩) hQw (.int .i64 (k0:Int))
 have hr4:=hr.set HF.out (j:=1) (.int .i64 (k0:Int))
 have z4:w1.heap.size < (w3.setCell ⟨w1.heap.size,1,none⟩ (.int .i64 (k0:Int))).heap.size:=by simpa [World.setCell] using z3
 generalize w3.setCell ⟨w1.heap.size,1,none⟩ (.int .i64 (k0:Int))=w4 at *
 clear Q3 X3 K3 hr hk z3 p0 p1 p2 p3 p4 p5 p6 p7 f0
 -- the number
 refine (H2.out _ _ _ hr4).mono ?_
 rintro e w5 ⟨rfl,hr,hk⟩
 have X5:=X4.keep hk gR
 have Q5:=Q4.keep hk gQ
 have K5:=K4.thenAt hgw hk
 have z5:w1.heap.size < w5.heap.size:=Nat.lt_of_lt_of_le z4 hk.size
 obtain ⟨p0,p1,p2,p3,p4,p5,p6,p7⟩:=Q5.cell
 have f0:=Q5.fz 0
 clear X4 Q4 K4 hr4 hk z4
 go_wp2_with fail
 have Q6:=Q5.set0 (.int .u64 (num:Int))
 have X6:=X5.keep (Kp.setCell (S:=fun k=>k=w1.heap.size) (p:=⟨w1.heap.size,0,none⟩) rfl (.int .u64 (num:Int))) QR
 have K6:=K5.fresh (p:=⟨w1.heap.size,0,none⟩) hQw (.int .u64 (num:Int))
 have hr6:=hr.set HF.out (j:=0) (.int .u64 (num:Int))
 have z6:w1.heap.size < (w5.setCell ⟨w1.heap.size,0,none⟩ (.int .u64 (num:Int))).heap.size:=by simpa [World.setCell] using z5
 generalize w5.setCell ⟨w1.heap.size,0,none⟩ (.int .u64 (num:Int))=w6 at *
 clear Q5 X5 K5 hr z5 p0 p1 p2 p3 p4 p5 p6 p7 f0
 -- the name
 refine (H3.out _ _ _ hr6 (fun k hk=>by omega)).mono ?_
 rintro e w7 ⟨rfl,hr,hk⟩
 have X7:=X6.keep hk gR
 have Q7:=Q6.keep hk gQ
 have K7:=K6.thenAt hgw hk
 obtain ⟨p0,p1,p2,p3,p4,p5,p6,p7⟩:=Q7.cell
 have f2:=Q7.fz 2
 have f3:=Q7.fz 3
 have f4:=Q7.fz 4
 have f5:=Q7.fz 5
 clear X6 Q6 K6 hr6 hk z6
 go_wp2_with fail
 have kN:=kpName (S:=fun k=>k=w1.heap.size) w7 w1.heap.size (.int .u32 (cO s:Int)) (.int .u16 (cS s:Int)) (.int .u16 (cL s:Int)) (.int .u32 (cG s:Int)) rfl
 have Q8:=Q7.name (.int .u32 (cO s:Int)) (.int .u16 (cS s:Int)) (.int .u16 (cL s:Int)) (.int .u32 (cG s:Int))
 have X8:=X7.keep kN QR
 have K8:=K7.thenAt hQw kN
 have hr8:=hr.keep kN (fun k hk e=>HF.out k hk e)
 generalize (((w7.setCell ⟨w1.heap.size,2,none⟩ (.int .u32 (cO s:Int))).setCell ⟨w1.heap.size,3,none⟩ (.int .u16 (cS s:Int))).setCell ⟨w1.heap.size,4,none⟩ (.int .u16 (cL s:Int))).setCell ⟨w1.heap.size,5,none⟩ (.int .u32 (cG s:Int))=w8 at *
 clear Q7 X7 K7 hr kN p0 p1 p2 p3 p4 p5 p6 p7 f2 f3 f4 f5
 -- what is lost
 refine (H4.out _ _ _ hr8).mono ?_
 rintro e w9 ⟨rfl,hr,hk⟩
 have X9:=X8.keep hk gR
 have Q9:=Q8.keep hk gQ
 have K9:=K8.thenAt hgw hk
 obtain ⟨p0,p1,p2,p3,p4,p5,p6,p7⟩:=Q9.cell
 have f0:=Q9.fz 6
 clear X8 Q8 K8 hr8 hk
 go_wp2_with fail
 have Q10:=Q9.set6 (.int .u16 (lo:Int))
 have X10:=X9.keep (Kp.setCell (S:=fun k=>k=w1.heap.size) (p:=⟨w1.heap.size,6,none⟩) rfl (.int .u16 (lo:Int))) QR
 have K10:=K9.fresh (p:=⟨w1.heap.size,6,none⟩) hQw (.int .u16 (lo:Int))
 have hr10:=hr.set HF.out (j:=6) (.int .u16 (lo:Int))
 generalize w9.setCell ⟨w1.heap.size,6,none⟩ (.int .u16 (lo:Int))=w10 at *
 clear Q9 X9 K9 hr p0 p1 p2 p3 p4 p5 p6 p7 f0
 -- the data
 refine (H5.out _ _ _ hr10).mono ?_
 rintro e w11 ⟨A6,n6,c6,rfl,ho,hr,hk⟩
 have X11:=X10.keep hk gR
 have Q11:=Q10.keep hk gQ
 have K11:=K10.thenAt hgw hk
 obtain ⟨p0,p1,p2,p3,p4,p5,p6,p7⟩:=Q11.cell
 have f0:=Q11.fz 7
 have hoQ:∀ k,(Value.slice A6 n6 c6).ownBlock=some k→k≠w1.heap.size∧k≠w.heap.size:=fun k hk'=>by
  have h1:=ho.ge k hk'
  have h2:=Q10.lt
  omega
 clear X10 Q10 K10 hr10 hk
 go_wp2_with fail
 have kD:=Kp.setCell (S:=fun k=>k=w1.heap.size) (p:=⟨w1.heap.size,7,none⟩) (w:=w11) rfl (.slice A6 n6 c6)
 have Q12:=Q11.set7 (.slice A6 n6 c6)
 have X12:=X11.keep kD QR
 have K12:=K11.thenAt hQw kD
 have hr12:=hr.keep kD (fun k hk e=>HF.out k hk e)
 have D12:Bts (w11.setCell ⟨w1.heap.size,7,none⟩ (.slice A6 n6 c6)) (.slice A6 n6 c6) r4:=ho.bts.keep kD fun k hk=>(hoQ k hk).1
 generalize w11.setCell ⟨w1.heap.size,7,none⟩ (.slice A6 n6 c6)=w12 at *
 clear Q11 X11 K11 hr kD ho p0 p1 p2 p3 p4 p5 p6 p7 f0
 have hn6:=D12.len
 obtain ⟨p0,p1,p2,p3,p4,p5,p6,p7⟩:=Q12.cell
 have HRT:∀ w',Calls Tryz.prog 60 #[rqV ⟨num,(k0:Int),s,lo,r4⟩ (.slice A6 n6 c6)] w' (RtPostK w' (Rq.rgt ⟨num,(k0:Int),s,lo,r4⟩)):=fun w'=>by
  have:=right15_any (w:=w') ⟨num,(k0:Int),s,lo,r4⟩ A6 n6 c6
  rw [hn6] at this ⊢
  exact this
 have HD:=hide (And.intro X12 (And.intro Q12 (And.intro K12 (And.intro D12 (And.intro hoQ HRT)))))
 have T12:=hide hr12
 clear X12 Q12 K12 D12 hr12 hoQ hn6 HRT
 have HV:Hid (∀ w',Calls Tryz.prog 60 #[rqV ⟨num,(k0:Int),s,lo,r4⟩ (.slice A6 n6 c6)] w' (RtPostK w' (Rq.rgt ⟨num,(k0:Int),s,lo,r4⟩))):=HD.out.2.2.2.2.2
 by_cases hrg:Rq.rgt ⟨num,(k0:Int),s,lo,r4⟩=true
 ·obtain ⟨rfl,rfl⟩:=HY.out hrg
  rw [hrg] at HV
  have HG:=hide hrg
  clear hrg
  go_wp2_with (first
   | (go_at_call 58; refine (rdtorn_any T12.out).mono ?_; rintro e w13 ⟨rfl,rfl⟩)
   | (go_at_call 60; refine (HV.out _).mono ?_; rintro e w13 ⟨rfl,hk13⟩; clear p0 p1 p2 p3 p4 p5 p6 p7; have X13:=HD.out.1.no hk13; have Q13:=HD.out.2.1.no hk13; have K13:=HD.out.2.2.1.trans' hk13; have D13:=HD.out.2.2.2.1.no hk13; obtain ⟨p0,p1,p2,p3,p4,p5,p6,p7⟩:=Q13.cell; obtain ⟨t0,t1,t2,t3,t4,t5,t6,t7⟩:=X13.cell; have g0:=X13.fz 0; have g1:=X13.fz 1; have g2:=X13.fz 2; have g3:=X13.fz 3; have g4:=X13.fz 4; have g5:=X13.fz 5; have g6:=X13.fz 6; have g7:=X13.fz 7; have H13:=hide (And.intro X13 (And.intro K13 D13)); clear X13 Q13 K13 D13 hk13))
  have R13:=H13.out.1.all (.int .u64 (num:Int)) (.int .i64 (k0:Int)) (.int .u32 (cO s:Int)) (.int .u16 (cS s:Int)) (.int .u16 (cL s:Int)) (.int .u32 (cG s:Int)) (.int .u16 (lo:Int)) (.slice A6 n6 c6)
  obtain ⟨y0,y1,y2,y3,y4,y5,y6,y7⟩:=R13.cell
  have kR:=kp8 (S:=fun k=>k=w.heap.size) w13 w.heap.size (.int .u64 (num:Int)) (.int .i64 (k0:Int)) (.int .u32 (cO s:Int)) (.int .u16 (cS s:Int)) (.int .u16 (cL s:Int)) (.int .u32 (cG s:Int)) (.int .u16 (lo:Int)) (.slice A6 n6 c6) rfl
  refine bodyPost_ret (v:=.tuple #[rqV ⟨num,(k0:Int),s,lo,r4⟩ (.slice A6 n6 c6),.int .i64 0]) (by simp [results,Tryz.results42,go_sem,y0,y1,y2,y3,y4,y5,y6,y7]) rfl ⟨_,_,_,rfl,H13.out.2.2.keep kR (fun k hk=>(HD.out.2.2.2.2.1 k hk).2),H13.out.2.1.thenAt (Nat.le_refl _) kR⟩
 ·have hrg:Rq.rgt ⟨num,(k0:Int),s,lo,r4⟩=false:=by simpa using hrg
  obtain ⟨rfl,rfl⟩:=HNO.out hrg
  rw [hrg] at HV
  have HG:=hide hrg
  clear hrg
  go_wp2_with (first
   | (go_at_call 58; refine (rdtorn_any T12.out).mono ?_; rintro e w13 ⟨rfl,rfl⟩)
   | (go_at_call 60; refine (HV.out _).mono ?_; rintro e w13 ⟨rfl,hk13⟩; clear p0 p1 p2 p3 p4 p5 p6 p7; have X13:=HD.out.1.no hk13; have Q13:=HD.out.2.1.no hk13; have K13:=HD.out.2.2.1.trans' hk13; have D13:=HD.out.2.2.2.1.no hk13; obtain ⟨p0,p1,p2,p3,p4,p5,p6,p7⟩:=Q13.cell; obtain ⟨t0,t1,t2,t3,t4,t5,t6,t7⟩:=X13.cell; have g0:=X13.fz 0; have g1:=X13.fz 1; have g2:=X13.fz 2; have g3:=X13.fz 3; have g4:=X13.fz 4; have g5:=X13.fz 5; have g6:=X13.fz 6; have g7:=X13.fz 7; have H13:=hide (And.intro X13 (And.intro K13 D13)); clear X13 Q13 K13 D13 hk13))
  have R13:=H13.out.1.all (.int .u64 0) (.int .i64 0) (.int .u32 0) (.int .u16 0) (.int .u16 0) (.int .u32 0) (.int .u16 0) (.slice none 0 0)
  obtain ⟨y0,y1,y2,y3,y4,y5,y6,y7⟩:=R13.cell
  have kR:=kp8 (S:=fun k=>k=w.heap.size) w13 w.heap.size (.int .u64 0) (.int .i64 0) (.int .u32 0) (.int .u16 0) (.int .u16 0) (.int .u32 0) (.int .u16 0) (.slice none 0 0) rfl
  refine bodyPost_ret (v:=.tuple #[rqV rq0 (.slice none 0 0),.int .i64 21]) (by simp [results,Tryz.results42,go_sem,y0,y1,y2,y3,y4,y5,y6,y7,rq0,cO,cS,cL,cG]) rfl ⟨_,_,_,rfl,Bts.nil _,H13.out.2.1.thenAt (Nat.le_refl _) kR⟩
end Go.Proofs.YtnfcfdhlmeimhaaGreat
namespace Go.Proofs.YtnfcfdhlmeimhaaGreat
open Go.RowKit
set_option linter.unusedVariables false
set_option linter.unusedSimpArgs false
set_option maxRecDepth 20000
set_option maxHeartbeats 4000000 in
theorem parse15_short {w:World} {bs:List UInt8} {u:Value} (hb:Bts w u bs) (hl:bs.length < 23):Calls Tryz.prog 42 #[u] w (PqPost w rq0 21):=by
 obtain ⟨A,n,c,rfl⟩:=hb.form
 have HLN:=hide hl
 have X0:Bx8 84 (w.alloc (.cells #[.int .u64 0,.int .i64 0,.int .u32 0,.int .u16 0,.int .u16 0,.int .u32 0,.int .u16 0,.slice none 0 0] 84)) w.heap.size (.int .u64 0) (.int .i64 0) (.int .u32 0) (.int .u16 0) (.int .u16 0) (.int .u32 0) (.int .u16 0) (.slice none 0 0):=Bx8.new w _ _ _ _ _ _ _ _ _
 have K0:Kp No w (w.alloc (.cells #[.int .u64 0,.int .i64 0,.int .u32 0,.int .u16 0,.int .u16 0,.int .u32 0,.int .u16 0,.slice none 0 0] 84)):=Kp.alloc No w _
 have HB:=hide (hb.no K0)
 have HXK:=hide (And.intro X0 K0)
 clear X0 K0 hb
 go_enter Tryz.func42,Tryz.ntmps42
 go_wp2_with fail
 refine (read_any HB.out (by have:=HLN.out; omega)).mono ?_
 rintro e w1 ⟨g,rfl,hr,k1⟩
 have X1:=HXK.out.1.no k1
 have K1:=HXK.out.2.trans' k1
 have hg:=hr.in_
 have sz0:(w.alloc (.cells #[.int .u64 0,.int .i64 0,.int .u32 0,.int .u16 0,.int .u16 0,.int .u32 0,.int .u16 0,.slice none 0 0] 84)).heap.size=w.heap.size+1:=World.size_alloc _ _
 rw [sz0] at hr hg
 have hFF:∀ k,(w.heap.size+1≤k∧k < w1.heap.size)→k≠w1.heap.size:=fun k hk=>by omega
 have HF:=hide hFF
 have X2:=X1.no (Kp.alloc No w1 (.cells #[.int .u64 0,.int .i64 0,.int .u32 0,.int .u16 0,.int .u16 0,.int .u32 0,.int .u16 0,.slice none 0 0] 84))
 have Q2:Bx8 84 (w1.alloc (.cells #[.int .u64 0,.int .i64 0,.int .u32 0,.int .u16 0,.int .u16 0,.int .u32 0,.int .u16 0,.slice none 0 0] 84)) w1.heap.size (.int .u64 0) (.int .i64 0) (.int .u32 0) (.int .u16 0) (.int .u16 0) (.int .u32 0) (.int .u16 0) (.slice none 0 0):=Bx8.new w1 _ _ _ _ _ _ _ _ _
 have K2:=K1.trans' (Kp.alloc No w1 (.cells #[.int .u64 0,.int .i64 0,.int .u32 0,.int .u16 0,.int .u16 0,.int .u32 0,.int .u16 0,.slice none 0 0] 84))
 have hr2:=hr.no (Kp.alloc No w1 (.cells #[.int .u64 0,.int .i64 0,.int .u32 0,.int .u16 0,.int .u16 0,.int .u32 0,.int .u16 0,.slice none 0 0] 84))
 have hs2:(w1.alloc (.cells #[.int .u64 0,.int .i64 0,.int .u32 0,.int .u16 0,.int .u16 0,.int .u32 0,.int .u16 0,.slice none 0 0] 84)).heap.size=w1.heap.size+1:=World.size_alloc _ _
 have HQ:=hide (And.intro X2 (And.intro Q2 (And.intro K2 (And.intro hr2 hs2))))
 clear X1 K1 hr X2 Q2 K2 hr2 hs2 hFF k1 sz0
 go_wp2_with fail
 have gQ:¬ (w1.heap.size=g):=by omega
 have gR:¬ (w.heap.size=g):=by omega
 have QR:¬ (w.heap.size=w1.heap.size):=by omega
 have hgw:w.heap.size≤g:=by omega
 have hQw:w.heap.size≤w1.heap.size:=by omega
 have X2:=HQ.out.1
 have Q2:=HQ.out.2.1
 have K2:=HQ.out.2.2.1
 have hr2:=HQ.out.2.2.2.1.q
 have z2:w1.heap.size < (w1.alloc (.cells #[.int .u64 0,.int .i64 0,.int .u32 0,.int .u16 0,.int .u16 0,.int .u32 0,.int .u16 0,.slice none 0 0] 84)).heap.size:=by rw [HQ.out.2.2.2.2]; omega
 clear HQ
 generalize (w1.alloc (.cells #[.int .u64 0,.int .i64 0,.int .u32 0,.int .u16 0,.int .u16 0,.int .u32 0,.int .u16 0,.slice none 0 0] 84))=w2 at *
 refine (numq_any (k:=1) hr2 (.inl rfl) (by omega) (by omega)).mono ?_
 rintro e w3 ⟨y1,bs1,tb1,rfl,hr,l1,t1,d1,hk⟩
 have X3:=X2.keep hk gR
 have Q3:=Q2.keep hk gQ
 have K3:=K2.thenAt hgw hk
 have z3:w1.heap.size < w3.heap.size:=Nat.lt_of_lt_of_le z2 hk.size
 obtain ⟨p0,p1,p2,p3,p4,p5,p6,p7⟩:=Q3.cell
 have f0:=Q3.fz 1
 have HT1:=hide (And.intro l1 (And.intro t1 d1))
 clear l1 t1 d1 X2 Q2 K2 z2 hk
 go_wp2_with fail
 generalize wrap64 (y1:Int)=x1 at *
 have kC:=Kp.setCell (S:=fun k=>k=w1.heap.size) (p:=⟨w1.heap.size,1,none⟩) (w:=w3) rfl (.int .i64 x1)
 have Q4:=Q3.set1 (.int .i64 x1)
 have X4:=X3.keep kC QR
 have K4:=K3.thenAt hQw kC
 have hr4:=hr.keep kC (fun k hk e=>HF.out k hk e)
 have z4:w1.heap.size < (w3.setCell ⟨w1.heap.size,1,none⟩ (.int .i64 x1)).heap.size:=by simpa [World.setCell] using z3
 generalize w3.setCell ⟨w1.heap.size,1,none⟩ (.int .i64 x1)=w4 at *
 clear Q3 X3 K3 z3 kC hr p0 p1 p2 p3 p4 p5 p6 p7 f0
 refine (numq_any (k:=8) hr4 HT1.out.2.2 (by omega) (by omega)).mono ?_
 rintro e w5 ⟨y2,bs2,tb2,rfl,hr,l2,t2,d2,hk⟩
 have X5:=X4.keep hk gR
 have Q5:=Q4.keep hk gQ
 have K5:=K4.thenAt hgw hk
 have z5:w1.heap.size < w5.heap.size:=Nat.lt_of_lt_of_le z4 hk.size
 obtain ⟨p0,p1,p2,p3,p4,p5,p6,p7⟩:=Q5.cell
 have f0:=Q5.fz 0
 have HT2:=hide (And.intro l2 (And.intro t2 d2))
 clear l2 t2 d2 X4 Q4 K4 z4 hk
 go_wp2_with fail
 generalize (y2:Int)=x0 at *
 have kC:=Kp.setCell (S:=fun k=>k=w1.heap.size) (p:=⟨w1.heap.size,0,none⟩) (w:=w5) rfl (.int .u64 x0)
 have Q6:=Q5.set0 (.int .u64 x0)
 have X6:=X5.keep kC QR
 have K6:=K5.thenAt hQw kC
 have hr6:=hr.keep kC (fun k hk e=>HF.out k hk e)
 have z6:w1.heap.size < (w5.setCell ⟨w1.heap.size,0,none⟩ (.int .u64 x0)).heap.size:=by simpa [World.setCell] using z5
 generalize w5.setCell ⟨w1.heap.size,0,none⟩ (.int .u64 x0)=w6 at *
 clear Q5 X5 K5 z5 kC hr p0 p1 p2 p3 p4 p5 p6 p7 f0
 refine (shr_any hr6 HT2.out.2.2 (fun k hk=>by omega)).mono ?_
 rintro e w7 ⟨n0,n1,n2,n3,bs3,tb3,rfl,hr,l3,t3,d3,hk⟩
 have X7:=X6.keep hk gR
 have Q7:=Q6.keep hk gQ
 have K7:=K6.thenAt hgw hk
 have z7:w1.heap.size < w7.heap.size:=Nat.lt_of_lt_of_le z6 hk.size
 obtain ⟨p0,p1,p2,p3,p4,p5,p6,p7⟩:=Q7.cell
 have f2:=Q7.fz 2
 have f3:=Q7.fz 3
 have f4:=Q7.fz 4
 have f5:=Q7.fz 5
 have HT3:=hide (And.intro l3 (And.intro t3 d3))
 clear l3 t3 d3 X6 Q6 K6 hr6 hk z6
 go_wp2_with fail
 have kN:=kpName (S:=fun k=>k=w1.heap.size) w7 w1.heap.size (.int .u32 n0) (.int .u16 n1) (.int .u16 n2) (.int .u32 n3) rfl
 have Q8:=Q7.name (.int .u32 n0) (.int .u16 n1) (.int .u16 n2) (.int .u32 n3)
 have X8:=X7.keep kN QR
 have K8:=K7.thenAt hQw kN
 have hr8:=hr.keep kN (fun k hk e=>HF.out k hk e)
 have z8:=Nat.lt_of_lt_of_le z7 kN.size
 generalize (((w7.setCell ⟨w1.heap.size,2,none⟩ (.int .u32 n0)).setCell ⟨w1.heap.size,3,none⟩ (.int .u16 n1)).setCell ⟨w1.heap.size,4,none⟩ (.int .u16 n2)).setCell ⟨w1.heap.size,5,none⟩ (.int .u32 n3)=w8 at *
 clear Q7 X7 K7 hr kN z7 p0 p1 p2 p3 p4 p5 p6 p7 f2 f3 f4 f5
 refine (numq_any (k:=2) hr8 HT3.out.2.2 (by omega) (by omega)).mono ?_
 rintro e w9 ⟨y4,bs4,tb4,rfl,hr,l4,t4,d4,hk⟩
 have X9:=X8.keep hk gR
 have Q9:=Q8.keep hk gQ
 have K9:=K8.thenAt hgw hk
 have z9:w1.heap.size < w9.heap.size:=Nat.lt_of_lt_of_le z8 hk.size
 obtain ⟨p0,p1,p2,p3,p4,p5,p6,p7⟩:=Q9.cell
 have f0:=Q9.fz 6
 have HT4:=hide (And.intro l4 (And.intro t4 d4))
 clear l4 t4 d4 X8 Q8 K8 z8 hk
 go_wp2_with fail
 generalize IntKind.u16.wrap (y4:Int)=x6 at *
 have kC:=Kp.setCell (S:=fun k=>k=w1.heap.size) (p:=⟨w1.heap.size,6,none⟩) (w:=w9) rfl (.int .u16 x6)
 have Q10:=Q9.set6 (.int .u16 x6)
 have X10:=X9.keep kC QR
 have K10:=K9.thenAt hQw kC
 have hr10:=hr.keep kC (fun k hk e=>HF.out k hk e)
 have z10:w1.heap.size < (w9.setCell ⟨w1.heap.size,6,none⟩ (.int .u16 x6)).heap.size:=by simpa [World.setCell] using z9
 generalize w9.setCell ⟨w1.heap.size,6,none⟩ (.int .u16 x6)=w10 at *
 clear Q9 X9 K9 z9 kC hr p0 p1 p2 p3 p4 p5 p6 p7 f0
 have ht:tb4=true:=by
  obtain ⟨l1,t1,_⟩:=HT1.out
  obtain ⟨l2,t2,_⟩:=HT2.out
  obtain ⟨l3,t3,_⟩:=HT3.out
  obtain ⟨l4,t4,_⟩:=HT4.out
  have hh:=HLN.out
  rw [t4,t3,t2,t1]
  have:bs.length < 1∨bs1.length < 8∨bs2.length < 12∨bs3.length < 2:=by omega
  rcases this with h | h | h | h
  ·exact .inl (.inl (.inl (.inr h)))
  ·exact .inl (.inl (.inr h))
  ·exact .inl (.inr h)
  ·exact .inr h
 subst ht
 have h4:bs4=[]:=HT4.out.2.2.elim (fun h=>by cases h) id
 subst h4
 refine (restq_any hr10).mono ?_
 rintro e w11 ⟨A6,n6,c6,rfl,hr,hk⟩
 have X11:=X10.keep hk gR
 have Q11:=Q10.keep hk gQ
 have K11:=K10.thenAt hgw hk
 obtain ⟨p0,p1,p2,p3,p4,p5,p6,p7⟩:=Q11.cell
 have f0:=Q11.fz 7
 clear X10 Q10 K10 hr10 hk z10 HT1 HT2 HT3 HT4
 go_wp2_with fail
 have kD:=Kp.setCell (S:=fun k=>k=w1.heap.size) (p:=⟨w1.heap.size,7,none⟩) (w:=w11) rfl (.slice A6 n6 c6)
 have Q12:=Q11.set7 (.slice A6 n6 c6)
 have X12:=X11.keep kD QR
 have K12:=K11.thenAt hQw kD
 have hr12:=hr.keep kD (fun k hk e=>HF.out k hk e)
 generalize w11.setCell ⟨w1.heap.size,7,none⟩ (.slice A6 n6 c6)=w12 at *
 clear Q11 X11 K11 hr kD p0 p1 p2 p3 p4 p5 p6 p7 f0
 have T12:=hide hr12
 obtain ⟨t0,t1,t2,t3,t4,t5,t6,t7⟩:=X12.cell
 have g0:=X12.fz 0
 have g1:=X12.fz 1
 have g2:=X12.fz 2
 have g3:=X12.fz 3
 have g4:=X12.fz 4
 have g5:=X12.fz 5
 have g6:=X12.fz 6
 have g7:=X12.fz 7
 have H13:=hide (And.intro X12 K12)
 clear hr12 X12 K12 Q12
 go_wp2_with (go_at_call 58; refine (rdtorn_yes T12.out).mono ?_; rintro e w13 ⟨rfl,rfl⟩)
 have R13:=H13.out.1.all (.int .u64 0) (.int .i64 0) (.int .u32 0) (.int .u16 0) (.int .u16 0) (.int .u32 0) (.int .u16 0) (.slice none 0 0)
 obtain ⟨y0,y1,y2,y3,y4,y5,y6,y7⟩:=R13.cell
 have kR:=kp8 (S:=fun k=>k=w.heap.size) w12 w.heap.size (.int .u64 0) (.int .i64 0) (.int .u32 0) (.int .u16 0) (.int .u16 0) (.int .u32 0) (.int .u16 0) (.slice none 0 0) rfl
 refine bodyPost_ret (v:=.tuple #[rqV rq0 (.slice none 0 0),.int .i64 21]) (by simp [results,Tryz.results42,go_sem,y0,y1,y2,y3,y4,y5,y6,y7,rq0,cO,cS,cL,cG]) rfl ⟨_,_,_,rfl,Bts.nil _,H13.out.2.thenAt (Nat.le_refl _) kR⟩
/-- ParseRequest. -/
theorem parse15_any {w:World} {bs:List UInt8} {u:Value} (hb:Bts w u bs) (hl:bs.length≤100000) (Q:Rq) (Z:Int) (hy:rqE bs=true→Q=rqO bs∧Z=0) (hno:rqE bs=false→Q=rq0∧Z=21) :
  Calls Tryz.prog 42 #[u] w (PqPost w Q Z):=by
 rcases Nat.lt_or_ge bs.length 23 with h | h
 ·obtain ⟨rfl,rfl⟩:=hno (by unfold rqE; rw [decide_eq_false (by omega)]; rfl)
  exact parse15_short hb h
 ·have e:rqE bs=(rqO bs).rgt:=by unfold rqE; rw [decide_eq_true h]; rfl
  rw [e] at hy hno
  exact parse15_long hb hl h Q Z hy hno
end Go.Proofs.YtnfcfdhlmeimhaaGreat
