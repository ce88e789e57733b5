/- The document's Handle of layer 16, as a contract over memory (printed by tools/gen_ndp.py). -/
import Derived.Test.YtnfcfdhlmeimhaaGreatSpbl
import Derived.Test.YtnfcfdhlmeimhaaGreatSpbb
import Derived.Test.YtnfcfdhlmeimhaaGreatSpbf
import Derived.Deep.CutBlock
import Derived.Deep.DeepCutAuto
namespace Go.Proofs.YtnfcfdhlmeimhaaGreat
open Go.RowKit
set_option linter.unusedVariables false
set_option linter.unusedSimpArgs false
set_option maxRecDepth 20000
theorem seC_one {w:World} {F:Nat→Prop} {A:Option Addr} {m c:Nat} {ps:List (Rp × Value)} (h:SeR w F A m c ps):∀ u ∈ seC ps,u.oneCell'=true:=fun u hu=>by
 obtain ⟨p,hp,hx⟩:=List.mem_flatMap.1 hu
 simp at hx
 rcases hx with rfl | rfl
 ·rfl
 ·obtain ⟨A',n',c',e⟩:=(h.bts p hp).bts.form
  rw [e]
  rfl
theorem SeR.nws {w:World} {F:Nat→Prop} {A:Option Addr} {m c:Nat} {ps:List (Rp × Value)} (h:SeR w F A m c ps):(A=none→m=0∧c=0∧seC ps=[])∧∀ ad,A=some ad→Nws w ad m 2 (seC ps) :=
 ⟨fun e=>⟨by rw [h.len,(h.nil e).1]; rfl,(h.nil e).2,by rw [(h.nil e).1]; rfl⟩,fun ad e=>⟨by rw [seC_len,h.len],(h.at_ ad e).2,seC_one h⟩⟩
/-- A row of the call's own. -/
theorem SeR.of_own {w:World} {F:Nat→Prop} {base n c:Nat} {A:Option Addr} {ps:List (Rp × Value)} (h:OwnT w base 113 2 (.slice A n c) ps.length (seC ps)) (hF:∀ k,(Value.slice A n c).ownBlock=some k→¬ F k) (hb:∀ p ∈ ps,BtF w F p.2 p.1.bytes):SeR w F A n c ps:=by
 have hn:=h.len
 rcases h.2 with ⟨e,e2⟩ | ⟨g,cap,cur,e,_,hg,hc,_⟩
 ·injection e with e1 e3 e4
  subst e1 e3 e4
  have hp:ps=[]:=List.eq_nil_of_length_eq_zero e2
  subst hp
  exact SeR.nil0 w F
 ·injection e with e1 e3 e4
  subst e1 e4
  refine ⟨hn,by omega,(fun e=>by cases e),fun ad e=>?_,fun ad e hne=>?_,hb⟩
  ·injection e with e
   subst e
   exact ⟨rfl,fun j u hj=>by rw [add_none,Nat.zero_add]; exact h.cellAt hj⟩
  ·injection e with e
   subst e
   exact ⟨hF g rfl,(Array.getElem?_eq_some_iff.1 hg).1⟩
theorem SeR.drop1 {w:World} {F:Nat→Prop} {b o m c:Nat} {p0:Rp × Value} {ps:List (Rp × Value)} (h:SeR w F (some ⟨b,o,none⟩) (m+1) c (p0 :: ps)):SeR w F (some ⟨b,o+2,none⟩) m (c - 1) ps:=by
 refine ⟨by have:=h.len; simp at this; omega,by have:=h.cap; omega,(fun e=>by cases e),fun ad e=>?_,fun ad e hne=>?_,fun p hp=>h.bts p (List.mem_cons_of_mem _ hp)⟩
 ·injection e with e
  subst e
  refine ⟨rfl,fun j u hj=>?_⟩
  have:=(h.at_ _ rfl).2 (j+2) u (by show (seC (p0 :: ps))[j+2]?=some u; rw [show seC (p0 :: ps)=[.int .u64 (p0.1.num:Int),p0.2] ++ seC ps from rfl,List.getElem?_append_right (by simp)]; simpa using hj)
  rw [add_none] at this ⊢
  rw [show o+2+j=o+(j+2) by omega]
  exact this
 ·injection e with e
  subst e
  exact h.far ⟨b,o,none⟩ rfl (List.cons_ne_nil _ _)
/-- What Handle comes to. -/
def RhPost (w:World) (F:Nat→Prop) (n k:Nat) (N1:Nd) (bs:List UInt8) (e:Ending) (w1:World):Prop:=∃ v A m c,e=.returned (.tuple #[v,.slice A m c])∧RsAt w1 F n k N1 v∧BtF w1 F (.slice A m c) bs∧Kp No w w1
/-- F, the two boxes of Handle, and one more. -/
def Fx (F:Nat→Prop) (s b z:Nat):Prop:=Fr2 F s z∨z=b
theorem seen_under:Tryz.prog.underlying 43=some (.slice (Tryz.prog.elem 43)):=by
 have he:Tryz.prog.elem 43=113:=by unfold Program.elem; rw [Tryz.underlying43]
 rw [he]; exact Tryz.underlying43
theorem seen_size (w:World):(sizeOf (Tryz.prog.elem 43)).run Tryz.prog w=.ok 2 w:=by
 have he:Tryz.prog.elem 43=113:=by unfold Program.elem; rw [Tryz.underlying43]
 rw [he]; exact Tryz.sizeOf113 w
/-- While the document's Handle appends: the box b3 of the new node, whatever it remembers. -/
structure Sx (n k:Nat) (V1:Vt) (N:Nd) (s0 b2 b3 gc3 cc3 cl3 ck3:Nat) (A3 B3:Option Addr) (wd w':World):Prop where
 kp:Kp (fun z=>z=b3) wd w'
 lt:b3 < wd.heap.size
 bx:∃ u,BxR w' b3 (.int .i64 (n:Int)) (.int .i64 (k:Int)) (.int .i64 (V1.D.size:Int)) (.slice (some ⟨gc3,0,none⟩) V1.D.cells.length cc3) (.slice A3 V1.D.loose.length cl3) (.int .i64 (V1.D.syncs:Int)) (.slice B3 V1.L.length ck3) u (.int .u64 (N.done:Int))
section
variable {n k:Nat} {V1:Vt} {N:Nd} {s0 b2 b3 gc3 cc3 cl3 ck3:Nat} {A3 B3:Option Addr} {wd w w1:World}
theorem Sx.begin {u:Value} (h:BxR wd b3 (.int .i64 (n:Int)) (.int .i64 (k:Int)) (.int .i64 (V1.D.size:Int)) (.slice (some ⟨gc3,0,none⟩) V1.D.cells.length cc3) (.slice A3 V1.D.loose.length cl3) (.int .i64 (V1.D.syncs:Int)) (.slice B3 V1.L.length ck3) u (.int .u64 (N.done:Int))):Sx n k V1 N s0 b2 b3 gc3 cc3 cl3 ck3 A3 B3 wd wd:=⟨Kp.refl _ _,h.lt,u,h⟩
theorem Sx.al (h:Sx n k V1 N s0 b2 b3 gc3 cc3 cl3 ck3 A3 B3 wd w) (o:Obj):Sx n k V1 N s0 b2 b3 gc3 cc3 cl3 ck3 A3 B3 wd (w.alloc o):=by
 obtain ⟨u,hb⟩:=h.bx
 exact ⟨h.kp.trans' (Kp.alloc _ _ _),h.lt,u,hb.no (Kp.alloc No _ _)⟩
theorem Sx.app {base:Nat} {e:TypeId} {sz m n':Nat} {v v1:Value} {xs cs:List Value} (h:Sx n k V1 N s0 b2 b3 gc3 cc3 cl3 ck3 A3 B3 wd w) (ha:AppT w base e sz v n' xs m cs v1 w1) (hv:∀ z,v.ownBlock=some z→wd.heap.size≤z):Sx n k V1 N s0 b2 b3 gc3 cc3 cl3 ck3 A3 B3 wd w1:=by
 obtain ⟨u,hb⟩:=h.bx
 have hl:=h.lt
 exact ⟨h.kp.trans (ha.kp.mono fun z e=>.inr (hv z e)),h.lt,u,hb.keep ha.kp fun e=>by have:=hv _ e; omega⟩
theorem Sx.set7 (h:Sx n k V1 N s0 b2 b3 gc3 cc3 cl3 ck3 A3 B3 wd w) (x:Value):Sx n k V1 N s0 b2 b3 gc3 cc3 cl3 ck3 A3 B3 wd (w.setCell ⟨b3,7,none⟩ x):=by
 obtain ⟨u,hb⟩:=h.bx
 exact ⟨h.kp.trans' (Kp.setCell (S:=fun z=>z=b3) (p:=⟨b3,7,none⟩) rfl x),h.lt,x,hb.set7 x⟩
end
/-- The new node is whole but for its number of what was done. -/
structure HxW (w:World) (F:Nat→Prop) (n k:Nat) (N:Nd) (V1:Vt) (sn:List Rp) (s0 b3 gc0 cc0 cl0 ck0 ms cs9 gc3 cc3 cl3 ck3 m2 c2:Nat) (A0 B0 As A3 B3 A2:Option Addr) (cs:List (Value × List UInt8)) (ls:List (Nat × (Value × List UInt8))) (ps:List (Rp × Value)) (u:Value) (bs:List UInt8) (wr:World):Prop where
 hs:BxR wr s0 (.int .i64 (n:Int)) (.int .i64 (k:Int)) (.int .i64 (N.V.D.size:Int)) (.slice (some ⟨gc0,0,none⟩) N.V.D.cells.length cc0) (.slice A0 N.V.D.loose.length cl0) (.int .i64 (N.V.D.syncs:Int)) (.slice B0 N.V.L.length ck0) (.slice As ms cs9) (.int .u64 (N.done:Int))
 hx:BxR wr b3 (.int .i64 (n:Int)) (.int .i64 (k:Int)) (.int .i64 (V1.D.size:Int)) (.slice (some ⟨gc3,0,none⟩) V1.D.cells.length cc3) (.slice A3 V1.D.loose.length cl3) (.int .i64 (V1.D.syncs:Int)) (.slice B3 V1.L.length ck3) (.slice A2 m2 c2) (.int .u64 (N.done:Int))
 hr:BxR wr (s0+1) (.int .i64 0) (.int .i64 0) (.int .i64 0) (.slice none 0 0) (.slice none 0 0) (.int .i64 0) (.slice none 0 0) (.slice none 0 0) (.int .u64 0)
 rs:RsR wr (Fx F s0 b3) ⟨V1,sn,N.done⟩ (.slice (some ⟨gc3,0,none⟩) V1.D.cells.length cc3) (.slice A3 V1.D.loose.length cl3) (.slice B3 V1.L.length ck3) cs ls A2 m2 c2 ps
 bo:BtF wr (Fx F s0 b3) u bs
 kp:Kp No w wr
 s:s0=w.heap.size
 b:s0+2≤b3
set_option maxHeartbeats 8000000 in
theorem r16handle_any {w:World} {F:Nat→Prop} {n k a d qq mb cb:Nat} {x:Nat→UInt8} {N:Nd} {v:Value} {Ab:Option Addr} {bs:List UInt8} (h:RsAt w F n k N v) (hD:Dim n k a d qq) (hX:Pts n a x) (ho:N.Ok) (hz:SzK N.V) (hb:Bts w (.slice Ab mb cb) bs) (hmb:mb≤cb) (hl:bs.length≤100000) (hdn:N.done+1 < 18446744073709551616) :
  Calls Tryz.prog 22 #[v,.slice Ab mb cb] w (RhPost w F n k (N.handB n a x bs) (N.outB n a x bs)):=by
 obtain ⟨gc0,cc0,A0,cl0,B0,ck0,cs,ls,As,ms,cs9,ps,rfl,hR0⟩:=h.form
 obtain ⟨hs,hr,hR,hk⟩:=hR0.two (n:=n) (k:=k)
 have HS:=hide hs
 have HR:=hide hr
 have HRS:=hide hR
 have HK:=hide hk
 have HB:=hide (hb.no hk)
 have HD:=hide hD
 have HX:=hide hX
 have HZ:=hide hz
 have HOK:=hide ho
 have HLB:=hide hl
 have HDN:=hide hdn
 clear hs hr hR hk h hR0 hb hD hX hz ho hl hdn
 unfold rsV
 go_enter Tryz.func22,Tryz.ntmps22
 go_upto_region 1 with (fail)
 generalize ((w.alloc (.cells #[.int .i64 (n:Int),.int .i64 (k:Int),.int .i64 (N.V.D.size:Int),.slice (some ⟨gc0,0,none⟩) N.V.D.cells.length cc0,.slice A0 N.V.D.loose.length cl0,.int .i64 (N.V.D.syncs:Int),.slice B0 N.V.L.length ck0,.slice As ms cs9,.int .u64 (N.done:Int)] 46)).alloc (.cells #[.int .i64 0,.int .i64 0,.int .i64 0,.slice none 0 0,.slice none 0 0,.int .i64 0,.slice none 0 0,.slice none 0 0,.int .u64 0] 46))=w0 at HS HR HRS HK HB ⊢
 obtain ⟨s0,hs0⟩:∃ s0,s0=w.heap.size:=⟨_,rfl⟩
 rw [← hs0] at HS HR HRS ⊢
 have HS0:=hide hs0
 have HRL:Hid (s0+1 < w0.heap.size):=HR.out.lt
 clear hs0
 rcases hE:rqE bs with _ | _
 ·have HFI:=hide (Nd.handB_no (n:=n) (a:=a) (x:=x) (N:=N) hE)
  have HP:=hide (rparse15_any HB.out hmb HLB.out rq0 false (fun e=>by rw [hE] at e; cases e) fun _=>⟨rfl,rfl⟩)
  clear hE hmb
  go_wp2_with fail
  refine HP.out.mono ?_
  rintro e w1 ⟨Aq,mq,cq,rfl,_,k1⟩
  have ka:=Kp.alloc No w1 (.cells #[.int .u64 (rq0.num:Int),.int .i64 rq0.kind,.int .u32 (cO rq0.s:Int),.int .u16 (cS rq0.s:Int),.int .u16 (cL rq0.s:Int),.int .u32 (cG rq0.s:Int),.int .u16 (rq0.lost:Int),.slice Aq mq cq] 56)
  have HS:=hide (HS.out.no (k1.trans' ka))
  have HR:=hide (HR.out.no (k1.trans' ka))
  have HRS:=hide (HRS.out.no (k1.trans' ka))
  have HK:=hide (HK.out.trans' (k1.trans' ka))
  clear k1 ka
  go_upto_region 2 with (fail)
  generalize w1.alloc (.cells #[.int .u64 (rq0.num:Int),.int .i64 rq0.kind,.int .u32 (cO rq0.s:Int),.int .u16 (cS rq0.s:Int),.int .u16 (cL rq0.s:Int),.int .u32 (cG rq0.s:Int),.int .u16 (rq0.lost:Int),.slice Aq mq cq] 56)=wr at HS HR HRS HK ⊢
  have K9:=kp9 (S:=fun z=>z=s0+1) wr (s0+1) (.int .i64 (n:Int)) (.int .i64 (k:Int)) (.int .i64 (N.V.D.size:Int)) (.slice (some ⟨gc0,0,none⟩) N.V.D.cells.length cc0) (.slice A0 N.V.D.loose.length cl0) (.int .i64 (N.V.D.syncs:Int)) (.slice B0 N.V.L.length ck0) (.slice As ms cs9) (.int .u64 (N.done:Int)) rfl
  have HC:=hide (HR.out.all (.int .i64 (n:Int)) (.int .i64 (k:Int)) (.int .i64 (N.V.D.size:Int)) (.slice (some ⟨gc0,0,none⟩) N.V.D.cells.length cc0) (.slice A0 N.V.D.loose.length cl0) (.int .i64 (N.V.D.syncs:Int)) (.slice B0 N.V.L.length ck0) (.slice As ms cs9) (.int .u64 (N.done:Int))).cell
  have HKN:=hide (HK.out.trans (K9.mono fun z e=>.inr (by have:=HS0.out; omega)))
  have HRN:=hide (show RsAt _ F n k N (rsV n k N _ _ _ As ms cs9) from ⟨_,_,_,_,_,_,_,_,ps,rfl,(HRS.out.keep K9 fun z _ hn e=>hn (.inr (.inr e))).less fun z f=>.inl f⟩)
  clear K9
  obtain ⟨y0,y1,y2,y3,y4,y5,y6,y7,y8⟩:=HS.out.cell
  obtain ⟨z0,z1,z2,z3,z4,z5,z6,z7,z8⟩:=HR.out.cell
  have f0:=HR.out.fz 0
  have f1:=HR.out.fz 1
  have f2:=HR.out.fz 2
  have f3:=HR.out.fz 3
  have f4:=HR.out.fz 4
  have f5:=HR.out.fz 5
  have f6:=HR.out.fz 6
  have f7:=HR.out.fz 7
  have f8:=HR.out.fz 8
  go_wp2_with fail
  clear y0 y1 y2 y3 y4 y5 y6 y7 y8 z0 z1 z2 z3 z4 z5 z6 z7 z8 f0 f1 f2 f3 f4 f5 f6 f7 f8
  refine bodyPost_ret (v:=.tuple #[rsV n k N (.slice (some ⟨gc0,0,none⟩) N.V.D.cells.length cc0) (.slice A0 N.V.D.loose.length cl0) (.slice B0 N.V.L.length ck0) As ms cs9,.slice none 0 0]) (by obtain ⟨q0,q1,q2,q3,q4,q5,q6,q7,q8⟩:=HC.out; simp [results,Tryz.results22,go_sem,rsV,q0,q1,q2,q3,q4,q5,q6,q7,q8]) rfl ?_
  rw [RhPost,HFI.out.1,HFI.out.2]
  exact ⟨_,_,_,_,rfl,HRN.out,BtF.mk_ (Bts.nil _) (fun h=>absurd rfl h) (fun A n c e=>by injection e with _ e1 e2; omega),HKN.out⟩
 ·have HFI:=hide (Nd.handB_yes (n:=n) (a:=a) (x:=x) (N:=N) hE)
  have HP:=hide (rparse15_any HB.out hmb HLB.out (rqO bs) true (fun _=>⟨rfl,rfl⟩) (fun e=>by rw [hE] at e; cases e))
  have HF:=hide (rqO_fit bs)
  have HL:Hid ((rqO bs).data.length≤100000):=by show (bs.drop 23).length≤_; rw [List.length_drop]; have:=HLB.out; omega
  clear hE hmb
  generalize rqO bs=q at HFI HP HF HL
  go_wp2_with fail
  refine HP.out.mono ?_
  rintro e w1 ⟨Aq,mq,cq,rfl,hbq,k1⟩
  have ka:=Kp.alloc No w1 (.cells #[.int .u64 (q.num:Int),.int .i64 q.kind,.int .u32 (cO q.s:Int),.int .u16 (cS q.s:Int),.int .u16 (cL q.s:Int),.int .u32 (cG q.s:Int),.int .u16 (q.lost:Int),.slice Aq mq cq] 56)
  have HQ:=hide (Bx8.new w1 56 (.int .u64 (q.num:Int)) (.int .i64 q.kind) (.int .u32 (cO q.s:Int)) (.int .u16 (cS q.s:Int)) (.int .u16 (cL q.s:Int)) (.int .u32 (cG q.s:Int)) (.int .u16 (q.lost:Int)) (.slice Aq mq cq))
  have HBQ:=hide (hbq.no ka)
  have HS:=hide (HS.out.no (k1.trans' ka))
  have HR:=hide (HR.out.no (k1.trans' ka))
  have HRS:=hide (HRS.out.no (k1.trans' ka))
  have HB2:Hid (s0+2≤w1.heap.size):=by show s0+2≤_; have h1:=HRL.out; have h3:=k1.size; omega
  have HK:=hide (HK.out.trans' (k1.trans' ka))
  clear k1 ka hbq
  go_upto_region 4 with (fail)
  generalize w1.alloc (.cells #[.int .u64 (q.num:Int),.int .i64 q.kind,.int .u32 (cO q.s:Int),.int .u16 (cS q.s:Int),.int .u16 (cL q.s:Int),.int .u32 (cG q.s:Int),.int .u16 (q.lost:Int),.slice Aq mq cq] 56)=w2 at HS HR HRS HK HQ HBQ ⊢
  generalize w1.heap.size=b2 at HQ HB2 ⊢
  have x1:=HQ.out.cell.2.1
  go_cut [8] (fun v8 wx=>v8=.bool (chgK q.kind)∧wx=w2)
  case first =>
   by_cases e2:q.kind=2
   ·have t2:(q.kind == 2)=true:=by simp [e2]
    have HCC:Hid (chgK q.kind=true):=chgK_iff.2 (.inl e2)
    clear e2
    go_wp2_with fail
    go_meet
    exact ⟨by rw [HCC.out],rfl⟩
   ·have t2:(q.kind == 2)=false:=by simp [e2]
    by_cases e5:q.kind=5
    ·have t5:(q.kind == 5)=true:=by simp [e5]
     have HCC:Hid (chgK q.kind=true):=chgK_iff.2 (.inr e5)
     clear e5 e2
     go_wp2_with fail
     go_meet
     exact ⟨by rw [HCC.out],rfl⟩
    ·have t5:(q.kind == 5)=false:=by simp [e5]
     have HCC:Hid (chgK q.kind=false):=chgK_no e2 e5
     clear e5 e2
     go_wp2_with fail
     go_meet
     exact ⟨by rw [HCC.out],rfl⟩
  case rest =>
  obtain ⟨rfl,hwx⟩:=hcut
  subst hwx
  clear x1
  rename World=>w2
  obtain ⟨ch,hch⟩:∃ ch,ch=chgK q.kind:=⟨_,rfl⟩
  rw [← hch]
  have HCH:=hide hch
  clear hch
  have HMS:Hid (ms=N.sn.length):=by show ms=_; rw [HRS.out.se.len,← HRS.out.eq,List.length_map]
  have hms32:ms≤32:=by rw [HMS.out]; exact HOK.out.few
  go_upto_block 0 with fail
  go_cut [8] (fun v8 wx=>v8=.bool ch∧Hid (N.old q=none)∧Hid (Kp No w2 wx))
  case first =>
   go_wp2_with fail
   go_loopw [9] (fun iv wr=>∃ i:Nat,i≤ms∧iv=.int .i64 (i:Int)∧Hid (∀ (j:Nat) (r:Rp),j < i→N.sn[j]?=some r→r.num≠q.num)∧Hid (Kp No w2 wr)) (fun iv _=>ms - (intOf iv).toNat)
   case atStart=>exact ⟨0,Nat.zero_le _,rfl,(fun j r hj=>by omega),Kp.refl _ _⟩
   case round =>
    obtain ⟨i,hi,rfl,HQN,HKX⟩:=hrel
    rename World=>wr
    have x7:=(HS.out.no HKX.out).cell.2.2.2.2.2.2.2.1
    by_cases hlt:i < ms
    ·have hiz:(i:Int) < ms:=by omega
     rcases ch with _ | _
     ·have HOL:Hid (N.old q=none):=Nd.old_none HCH.out.symm
      go_wp2_with fail
      go_meet
      exact ⟨rfl,HOL,HKX⟩
     ·obtain ⟨p,hp⟩:∃ p,ps[i]?=some p:=⟨_,List.getElem?_eq_getElem (by have:=HRS.out.se.len; omega)⟩
      have HPI:Hid (N.sn[i]?=some p.1):=by show N.sn[i]?=some p.1; rw [← HRS.out.eq,List.getElem?_map,hp]; rfl
      have HPM:Hid (p ∈ ps):=List.mem_of_getElem? hp
      obtain ⟨e0,e1⟩:=seC_get hp
      rcases As with _ | ⟨gs,os,sp⟩
      ·have:=(HRS.out.se.nil rfl).1
       subst this
       simp at hp
      ·obtain ⟨hsp,hat⟩:=HRS.out.se.at_ _ rfl
       obtain rfl:sp=none:=hsp
       have hnum0:=hat _ _ e0
       have hslc0:=hat _ _ e1
       rw [add_none] at hnum0 hslc0
       rw [← Nat.add_assoc] at hslc0
       have HBU0:=hide (HRS.out.se.bts p HPM.out)
       obtain ⟨Au,mu,cu,hpu⟩:=HBU0.out.bts.form
       rw [hpu] at hslc0 HBU0
       have HU1:Hid (∀ w',Kp No w2 w'→w'.cell? ⟨gs,os+i * 2+1,none⟩=some (.slice Au mu cu)):=fun w' hk=>hk.cell hslc0 fun f=>f
       have HW:Hid (True∧True∧wr.drew.cell? ⟨s0,7,none⟩=some (.slice (some ⟨gs,os,none⟩) ms cs9)∧wr.drew.cell? ⟨gs,os+i * 2,none⟩=some (.int .u64 (p.1.num:Int))∧wr.drew.cell? ⟨b2,0,none⟩=some (.int .u64 (q.num:Int))) :=
        ⟨trivial,trivial,x7,HKX.out.cell hnum0 fun f=>f,(HQ.out.no HKX.out).cell.1⟩
       have HGS:Hid (¬ gs=s0+1):=fun e=>(HRS.out.se.far _ rfl (fun e=>by rw [e] at hp; simp at hp)).1 (.inr (.inr e))
       clear e0 e1 hp hat hnum0 hslc0 hpu
       by_cases hnum:p.1.num=q.num
       ·have tq:((p.1.num:Int) == (q.num:Int))=true:=by simp [hnum]
        have HFO0:=Nd.hand_some (n:=n) (a:=a) (x:=x) (show N.old q=some p.1 by rw [Nd.old_yes HCH.out.symm]; exact find_at HPI.out hnum HQN.out)
        have HFO:Hid (N.handB n a x bs=N∧N.outB n a x bs=p.1.bytes):=⟨HFI.out.1.trans HFO0.1,by rw [HFI.out.2,HFO0.2]⟩
        clear hnum HFO0
        go_wp2_with fail
        clear x7
        refine wp_region_noPanic ?_
        refine wp_region_held_drew (S:=fun w'=>w'.cell? ⟨s0,7,none⟩=some (.slice (some ⟨gs,os,none⟩) ms cs9)∧w'.cell? ⟨gs,os+i * 2,none⟩=some (.int .u64 (p.1.num:Int))∧w'.cell? ⟨b2,0,none⟩=some (.int .u64 (q.num:Int))) (by kernel_rfl) (⟨HW.out.2.2.1,HW.out.2.2.2.1,HW.out.2.2.2.2⟩) (fun hHeld=>?_)
        have HKd:=hide ((Kp.refl No wr).drew)
        generalize wr.drew=wd at HKd hHeld ⊢
        refine wpAnyH_take (i:=0) (v:=?vkx1) (oi:=?okx1) ?hkx1 (by kernel_rfl) (by kernel_rfl) (by kernel_rfl) (fun _ _ _ h=>h) (Or.inl ⟨?wkx1,?ykx1⟩) hHeld ?rkx1
        case hkx1=>simp only [gA0,gA1,gA2]; rfl
        case wkx1=>rfl
        case ykx1=>intro w hSw; (try dsimp only at hSw); go_simp; (try with_reducible rfl)
        simp only [Act.put,sA0,sA1,sA2]
        refine wpAnyH_take (i:=1) (v:=?vkx2) (oi:=?okx2) ?hkx2 (by kernel_rfl) (by kernel_rfl) (by kernel_rfl) (fun _ _ _ h=>h) (Or.inl ⟨?wkx2,?ykx2⟩) hHeld ?rkx2
        case hkx2=>simp only [gA0,gA1,gA2]; rfl
        case wkx2=>rfl
        case ykx2=>intro w hSw; (try dsimp only at hSw); go_simp; (try with_reducible rfl)
        simp only [Act.put,sA0,sA1,sA2]
        refine wpAnyH_take (i:=2) (v:=?vkx3) (oi:=?okx3) ?hkx3 (by kernel_rfl) (by kernel_rfl) (by kernel_rfl) (fun _ _ _ h=>h) (Or.inl ⟨?wkx3,?ykx3⟩) hHeld ?rkx3
        case hkx3=>simp only [gA0,gA1,gA2]; rfl
        case wkx3=>rfl
        case ykx3=>intro w hSw; (try dsimp only at hSw); go_simp; (try with_reducible rfl)
        simp only [Act.put,sA0,sA1,sA2]
        refine wpAnyH_take (i:=3) (v:=?vkx4) (oi:=?okx4) ?hkx4 (by kernel_rfl) (by kernel_rfl) (by kernel_rfl) (fun _ _ _ h=>h) (Or.inl ⟨?wkx4,?ykx4⟩) hHeld ?rkx4
        case hkx4=>simp only [gA0,gA1,gA2]; rfl
        case wkx4=>rfl
        case ykx4=>intro w hSw; (try dsimp only at hSw); go_simp; (try with_reducible rfl)
        simp only [Act.put,sA0,sA1,sA2]
        refine wpAnyH_take (i:=4) (v:=?vkx5) (oi:=?okx5) ?hkx5 (by kernel_rfl) (by kernel_rfl) (by kernel_rfl) (fun _ _ _ h=>h) (Or.inl ⟨?wkx5,?ykx5⟩) hHeld ?rkx5
        case hkx5=>simp only [gA0,gA1,gA2]; rfl
        case wkx5=>rfl
        case ykx5=>intro w hSw; (try dsimp only at hSw); go_simp; (try with_reducible rfl)
        simp only [Act.put,sA0,sA1,sA2]
        refine wpAnyH_take (i:=5) (v:=?vkx6) (oi:=?okx6) ?hkx6 (by kernel_rfl) (by kernel_rfl) (by kernel_rfl) (fun _ _ _ h=>h) (Or.inl ⟨?wkx6,?ykx6⟩) hHeld ?rkx6
        case hkx6=>simp only [gA0,gA1,gA2]; rfl
        case wkx6=>rfl
        case ykx6=>intro w hSw; (try dsimp only at hSw); go_simp; (try with_reducible rfl)
        simp only [Act.put,sA0,sA1,sA2]
        refine wpAnyH_take (i:=6) (v:=?vkx7) (oi:=?okx7) ?hkx7 (by kernel_rfl) (by kernel_rfl) (by kernel_rfl) (fun _ _ _ h=>h) (Or.inl ⟨?wkx7,?ykx7⟩) hHeld ?rkx7
        case hkx7=>simp only [gA0,gA1,gA2]; rfl
        case wkx7=>rfl
        case ykx7=>intro w hSw; (try dsimp only at hSw); go_simp; (try with_reducible rfl)
        simp only [Act.put,sA0,sA1,sA2]
        refine wpAnyH_take (i:=7) (v:=?vkx8) (oi:=?okx8) ?hkx8 (by kernel_rfl) (by kernel_rfl) (by kernel_rfl) (fun _ _ _ h=>h) (Or.inl ⟨?wkx8,?ykx8⟩) hHeld ?rkx8
        case hkx8=>simp only [gA0,gA1,gA2]; rfl
        case wkx8=>rfl
        case ykx8=>intro w hSw; (try dsimp only at hSw); go_simp; (try with_reducible rfl)
        simp only [Act.put,sA0,sA1,sA2]
        refine wpAnyH_take (i:=8) (v:=?vkx9) (oi:=?okx9) ?hkx9 (by kernel_rfl) (by kernel_rfl) (by kernel_rfl) (fun _ _ _ h=>h) (Or.inl ⟨?wkx9,?ykx9⟩) hHeld ?rkx9
        case hkx9=>simp only [gA0,gA1,gA2]; rfl
        case wkx9=>rfl
        case ykx9=>intro w hSw; (try dsimp only at hSw); go_simp; (try with_reducible rfl)
        simp only [Act.put,sA0,sA1,sA2]
        refine wpAnyH_done (by kernel_rfl) ?_ _
        refine NoPanic.normal ?_
        clear hHeld
        have HS9:=hide ((HS.out.no HKX.out).no HKd.out)
        have HR9:=hide ((HR.out.no HKX.out).no HKd.out)
        have HRS9:=hide ((HRS.out.no HKX.out).no HKd.out)
        have HK9:=hide ((HK.out.trans' HKX.out).trans' HKd.out)
        have u1:=HU1.out _ (HKX.out.trans' HKd.out)
        have HBU:=hide (HBU0.out.no (HKX.out.trans' HKd.out))
        go_wp2_with fail
        refine wp_region_noPanic ?_
        refine wp_region_held_drew (S:=fun w'=>w'.cell? ⟨s0,0,none⟩=some (.int .i64 (n:Int))∧w'.cell? ⟨s0,1,none⟩=some (.int .i64 (k:Int))∧w'.cell? ⟨s0,2,none⟩=some (.int .i64 (N.V.D.size:Int))∧w'.cell? ⟨s0,3,none⟩=some (.slice (some ⟨gc0,0,none⟩) N.V.D.cells.length cc0)∧w'.cell? ⟨s0,4,none⟩=some (.slice A0 N.V.D.loose.length cl0)∧w'.cell? ⟨s0,5,none⟩=some (.int .i64 (N.V.D.syncs:Int))∧w'.cell? ⟨s0,6,none⟩=some (.slice B0 N.V.L.length ck0)∧w'.cell? ⟨s0,7,none⟩=some (.slice (some ⟨gs,os,none⟩) ms cs9)∧w'.cell? ⟨s0,8,none⟩=some (.int .u64 (N.done:Int))∧w'.cell? ⟨gs,os+i * 2+1,none⟩=some (.slice Au mu cu)) (by kernel_rfl) (⟨HS9.out.cell.1,HS9.out.cell.2.1,HS9.out.cell.2.2.1,HS9.out.cell.2.2.2.1,HS9.out.cell.2.2.2.2.1,HS9.out.cell.2.2.2.2.2.1,HS9.out.cell.2.2.2.2.2.2.1,HS9.out.cell.2.2.2.2.2.2.2.1,HS9.out.cell.2.2.2.2.2.2.2.2,u1⟩) (fun hHeld=>?_)
        have HR:=hide (HR9.out.no (Kp.refl No wd).drew)
        have HS:=hide (HS9.out.no (Kp.refl No wd).drew)
        have HRS:=hide (HRS9.out.no (Kp.refl No wd).drew)
        have HK:Hid (Kp No w wd.drew):=HK9.out.drew
        have HBU:=hide (HBU.out.no (Kp.refl No wd).drew)
        generalize wd.drew=we at HR HS HRS HK HBU hHeld ⊢
        refine wpAnyH_take (i:=0) (v:=?vgx1) (oi:=?ogx1) ?hgx1 (by kernel_rfl) (by kernel_rfl) (by kernel_rfl) (fun _ _ _ h=>h) (Or.inl ⟨?wgx1,?ygx1⟩) hHeld ?rgx1
        case hgx1=>simp only [gA0,gA1,gA2]; rfl
        case wgx1=>rfl
        case ygx1=>intro w hSw; (try dsimp only at hSw); go_simp; (try with_reducible rfl)
        simp only [Act.put,sA0,sA1,sA2]
        refine wpAnyH_take (i:=1) (v:=?vgx2) (oi:=?ogx2) ?hgx2 (by kernel_rfl) (by kernel_rfl) (by kernel_rfl) (fun _ _ _ h=>h) (Or.inl ⟨?wgx2,?ygx2⟩) hHeld ?rgx2
        case hgx2=>simp only [gA0,gA1,gA2]; rfl
        case wgx2=>rfl
        case ygx2=>intro w hSw; (try dsimp only at hSw); go_simp; (try with_reducible rfl)
        simp only [Act.put,sA0,sA1,sA2]
        refine wpAnyH_take (i:=2) (v:=?vgx3) (oi:=?ogx3) ?hgx3 (by kernel_rfl) (by kernel_rfl) (by kernel_rfl) (fun _ _ _ h=>h) (Or.inl ⟨?wgx3,?ygx3⟩) hHeld ?rgx3
        case hgx3=>simp only [gA0,gA1,gA2]; rfl
        case wgx3=>rfl
        case ygx3=>intro w hSw; (try dsimp only at hSw); go_simp; (try with_reducible rfl)
        simp only [Act.put,sA0,sA1,sA2]
        refine wpAnyH_take (i:=3) (v:=?vgx4) (oi:=?ogx4) ?hgx4 (by kernel_rfl) (by kernel_rfl) (by kernel_rfl) (fun _ _ _ h=>h) (Or.inl ⟨?wgx4,?ygx4⟩) hHeld ?rgx4
        case hgx4=>simp only [gA0,gA1,gA2]; rfl
        case wgx4=>rfl
        case ygx4=>intro w hSw; (try dsimp only at hSw); go_simp; (try with_reducible rfl)
        simp only [Act.put,sA0,sA1,sA2]
        refine wpAnyH_take (i:=4) (v:=?vgx5) (oi:=?ogx5) ?hgx5 (by kernel_rfl) (by kernel_rfl) (by kernel_rfl) (fun _ _ _ h=>h) (Or.inl ⟨?wgx5,?ygx5⟩) hHeld ?rgx5
        case hgx5=>simp only [gA0,gA1,gA2]; rfl
        case wgx5=>rfl
        case ygx5=>intro w hSw; (try dsimp only at hSw); go_simp; (try with_reducible rfl)
        simp only [Act.put,sA0,sA1,sA2]
        refine wpAnyH_take (i:=5) (v:=?vgx6) (oi:=?ogx6) ?hgx6 (by kernel_rfl) (by kernel_rfl) (by kernel_rfl) (fun _ _ _ h=>h) (Or.inl ⟨?wgx6,?ygx6⟩) hHeld ?rgx6
        case hgx6=>simp only [gA0,gA1,gA2]; rfl
        case wgx6=>rfl
        case ygx6=>intro w hSw; (try dsimp only at hSw); go_simp; (try with_reducible rfl)
        simp only [Act.put,sA0,sA1,sA2]
        refine wpAnyH_take (i:=6) (v:=?vgx7) (oi:=?ogx7) ?hgx7 (by kernel_rfl) (by kernel_rfl) (by kernel_rfl) (fun _ _ _ h=>h) (Or.inl ⟨?wgx7,?ygx7⟩) hHeld ?rgx7
        case hgx7=>simp only [gA0,gA1,gA2]; rfl
        case wgx7=>rfl
        case ygx7=>intro w hSw; (try dsimp only at hSw); go_simp; (try with_reducible rfl)
        simp only [Act.put,sA0,sA1,sA2]
        refine wpAnyH_ready (rs:=[7]) (by kernel_rfl) (by simp) ?_
        refine AllReadyH.cons (o:=?ogx8) ?hgx8 (fun K hK=>?sgx8) AllReadyH.nil
        case hgx8=>simp only [gA0,gA1,gA2]; rfl
        have K9:=kp9 (S:=fun z=>z=s0+1) we (s0+1) (.int .i64 (n:Int)) (.int .i64 (k:Int)) (.int .i64 (N.V.D.size:Int)) (.slice (some ⟨gc0,0,none⟩) N.V.D.cells.length cc0) (.slice A0 N.V.D.loose.length cl0) (.int .i64 (N.V.D.syncs:Int)) (.slice B0 N.V.L.length ck0) (.slice (some ⟨gs,os,none⟩) ms cs9) (.int .u64 (N.done:Int)) rfl
        have HC:=hide (HR.out.all (.int .i64 (n:Int)) (.int .i64 (k:Int)) (.int .i64 (N.V.D.size:Int)) (.slice (some ⟨gc0,0,none⟩) N.V.D.cells.length cc0) (.slice A0 N.V.D.loose.length cl0) (.int .i64 (N.V.D.syncs:Int)) (.slice B0 N.V.L.length ck0) (.slice (some ⟨gs,os,none⟩) ms cs9) (.int .u64 (N.done:Int))).cell
        have HKN:=hide (HK.out.trans (K9.mono fun z e=>.inr (by have:=HS0.out; omega)))
        have HRN:=hide (show RsAt _ F n k N (rsV n k N _ _ _ (some ⟨gs,os,none⟩) ms cs9) from ⟨_,_,_,_,_,_,_,_,ps,rfl,(HRS.out.keep K9 fun z _ hn e=>hn (.inr (.inr e))).less fun z f=>.inl f⟩)
        have hrb:we.heap[s0+1]?=_:=HR.out
        have HBN:=hide ((HBU.out.keep K9 fun z _ hn e=>hn (.inr (.inr e))).up fun z _ f=>.inl f)
        have hcu:=K9.cell hHeld.2.2.2.2.2.2.2.2.2 (fun e=>HGS.out e)
        have hsc:=(HS.out.keep K9 (by omega)).cell
        clear K9 hrb
        obtain ⟨z0,z1,z2,z3,z4,z5,z6,z7,z8⟩:=HR.out.cell
        have f0:=HR.out.fz 0
        have f1:=HR.out.fz 1
        have f2:=HR.out.fz 2
        have f3:=HR.out.fz 3
        have f4:=HR.out.fz 4
        have f5:=HR.out.fz 5
        have f6:=HR.out.fz 6
        have f7:=HR.out.fz 7
        have f8:=HR.out.fz 8
        go_simp
        clear z0 z1 z2 z3 z4 z5 z6 z7 z8 f0 f1 f2 f3 f4 f5 f6 f7 f8
        refine hK.out _ _ (⟨hsc.1,hsc.2.1,hsc.2.2.1,hsc.2.2.2.1,hsc.2.2.2.2.1,hsc.2.2.2.2.2.1,hsc.2.2.2.2.2.2.1,hsc.2.2.2.2.2.2.2.1,hsc.2.2.2.2.2.2.2.2,hcu⟩) (fun hHeld=>?_)
        clear hK K
        try simp only [Act.put,sA0,sA1,sA2]
        refine wpAnyH_take (i:=8) (v:=?vgx9) (oi:=?ogx9) ?hgx9 (by kernel_rfl) (by kernel_rfl) (by kernel_rfl) (fun _ _ _ h=>h) (Or.inl ⟨?wgx9,?ygx9⟩) hHeld ?rgx9
        case hgx9=>simp only [gA0,gA1,gA2]; rfl
        case wgx9=>rfl
        case ygx9=>intro w hSw; (try dsimp only at hSw); go_simp; (try with_reducible rfl)
        simp only [Act.put,sA0,sA1,sA2]
        refine wpAnyH_done (by kernel_rfl) ?_ _
        refine NoPanic.normal ?_
        clear hHeld hcu hsc
        go_wp2
        refine bodyPost_ret (v:=.tuple #[rsV n k N (.slice (some ⟨gc0,0,none⟩) N.V.D.cells.length cc0) (.slice A0 N.V.D.loose.length cl0) (.slice B0 N.V.L.length ck0) (some ⟨gs,os,none⟩) ms cs9,.slice Au mu cu]) (by obtain ⟨q0,q1,q2,q3,q4,q5,q6,q7,q8⟩:=HC.out; simp [results,Tryz.results22,go_sem,rsV,q0,q1,q2,q3,q4,q5,q6,q7,q8]) rfl ?_
        rw [RhPost,HFO.out.1,HFO.out.2]
        exact ⟨_,_,_,_,rfl,HRN.out,HBN.out,HKN.out⟩
       ·have HNM:=hide hnum
        have tq:((p.1.num:Int) == (q.num:Int))=false:=beq_eq_false_iff_ne.2 (by omega)
        clear hnum
        go_wp2_with fail
        clear x7
        refine wp_region_noPanic ?_
        refine wp_region_held_drew (S:=fun w'=>w'.cell? ⟨s0,7,none⟩=some (.slice (some ⟨gs,os,none⟩) ms cs9)∧w'.cell? ⟨gs,os+i * 2,none⟩=some (.int .u64 (p.1.num:Int))∧w'.cell? ⟨b2,0,none⟩=some (.int .u64 (q.num:Int))) (by kernel_rfl) (⟨HW.out.2.2.1,HW.out.2.2.2.1,HW.out.2.2.2.2⟩) (fun hHeld=>?_)
        have HKd:=hide ((Kp.refl No wr).drew)
        generalize wr.drew=wd at HKd hHeld ⊢
        refine wpAnyH_take (i:=0) (v:=?vhx1) (oi:=?ohx1) ?hhx1 (by kernel_rfl) (by kernel_rfl) (by kernel_rfl) (fun _ _ _ h=>h) (Or.inl ⟨?whx1,?yhx1⟩) hHeld ?rhx1
        case hhx1=>simp only [gA0,gA1,gA2]; rfl
        case whx1=>rfl
        case yhx1=>intro w hSw; (try dsimp only at hSw); go_simp; (try with_reducible rfl)
        simp only [Act.put,sA0,sA1,sA2]
        refine wpAnyH_take (i:=1) (v:=?vhx2) (oi:=?ohx2) ?hhx2 (by kernel_rfl) (by kernel_rfl) (by kernel_rfl) (fun _ _ _ h=>h) (Or.inl ⟨?whx2,?yhx2⟩) hHeld ?rhx2
        case hhx2=>simp only [gA0,gA1,gA2]; rfl
        case whx2=>rfl
        case yhx2=>intro w hSw; (try dsimp only at hSw); go_simp; (try with_reducible rfl)
        simp only [Act.put,sA0,sA1,sA2]
        refine wpAnyH_take (i:=2) (v:=?vhx3) (oi:=?ohx3) ?hhx3 (by kernel_rfl) (by kernel_rfl) (by kernel_rfl) (fun _ _ _ h=>h) (Or.inl ⟨?whx3,?yhx3⟩) hHeld ?rhx3
        case hhx3=>simp only [gA0,gA1,gA2]; rfl
        case whx3=>rfl
        case yhx3=>intro w hSw; (try dsimp only at hSw); go_simp; (try with_reducible rfl)
        simp only [Act.put,sA0,sA1,sA2]
        refine wpAnyH_take (i:=3) (v:=?vhx4) (oi:=?ohx4) ?hhx4 (by kernel_rfl) (by kernel_rfl) (by kernel_rfl) (fun _ _ _ h=>h) (Or.inl ⟨?whx4,?yhx4⟩) hHeld ?rhx4
        case hhx4=>simp only [gA0,gA1,gA2]; rfl
        case whx4=>rfl
        case yhx4=>intro w hSw; (try dsimp only at hSw); go_simp; (try with_reducible rfl)
        simp only [Act.put,sA0,sA1,sA2]
        refine wpAnyH_take (i:=4) (v:=?vhx5) (oi:=?ohx5) ?hhx5 (by kernel_rfl) (by kernel_rfl) (by kernel_rfl) (fun _ _ _ h=>h) (Or.inl ⟨?whx5,?yhx5⟩) hHeld ?rhx5
        case hhx5=>simp only [gA0,gA1,gA2]; rfl
        case whx5=>rfl
        case yhx5=>intro w hSw; (try dsimp only at hSw); go_simp; (try with_reducible rfl)
        simp only [Act.put,sA0,sA1,sA2]
        refine wpAnyH_take (i:=5) (v:=?vhx6) (oi:=?ohx6) ?hhx6 (by kernel_rfl) (by kernel_rfl) (by kernel_rfl) (fun _ _ _ h=>h) (Or.inl ⟨?whx6,?yhx6⟩) hHeld ?rhx6
        case hhx6=>simp only [gA0,gA1,gA2]; rfl
        case whx6=>rfl
        case yhx6=>intro w hSw; (try dsimp only at hSw); go_simp; (try with_reducible rfl)
        simp only [Act.put,sA0,sA1,sA2]
        refine wpAnyH_take (i:=6) (v:=?vhx7) (oi:=?ohx7) ?hhx7 (by kernel_rfl) (by kernel_rfl) (by kernel_rfl) (fun _ _ _ h=>h) (Or.inl ⟨?whx7,?yhx7⟩) hHeld ?rhx7
        case hhx7=>simp only [gA0,gA1,gA2]; rfl
        case whx7=>rfl
        case yhx7=>intro w hSw; (try dsimp only at hSw); go_simp; (try with_reducible rfl)
        simp only [Act.put,sA0,sA1,sA2]
        refine wpAnyH_take (i:=7) (v:=?vhx8) (oi:=?ohx8) ?hhx8 (by kernel_rfl) (by kernel_rfl) (by kernel_rfl) (fun _ _ _ h=>h) (Or.inl ⟨?whx8,?yhx8⟩) hHeld ?rhx8
        case hhx8=>simp only [gA0,gA1,gA2]; rfl
        case whx8=>rfl
        case yhx8=>intro w hSw; (try dsimp only at hSw); go_simp; (try with_reducible rfl)
        simp only [Act.put,sA0,sA1,sA2]
        refine wpAnyH_take (i:=8) (v:=?vhx9) (oi:=?ohx9) ?hhx9 (by kernel_rfl) (by kernel_rfl) (by kernel_rfl) (fun _ _ _ h=>h) (Or.inl ⟨?whx9,?yhx9⟩) hHeld ?rhx9
        case hhx9=>simp only [gA0,gA1,gA2]; rfl
        case whx9=>rfl
        case yhx9=>intro w hSw; (try dsimp only at hSw); go_simp; (try with_reducible rfl)
        simp only [Act.put,sA0,sA1,sA2]
        refine wpAnyH_done (by kernel_rfl) ?_ _
        refine NoPanic.normal ?_
        clear hHeld
        go_wp2_with fail
        go_round
        case rel=>exact ⟨i+1,by omega,by go_num,(fun j r' hj hr'=>by
          rcases Nat.lt_or_ge j i with g1 | g1
          ·exact HQN.out j r' g1 hr'
          ·obtain rfl:j=i:=by omega
           rw [HPI.out] at hr'
           injection hr' with hr'
           subst hr'
           exact HNM.out),HKX.out.trans' HKd.out⟩
        case measure=>simp [intOf]; omega
    ·obtain rfl:i=ms:=by omega
     have hiz:¬ (i:Int) < i:=by omega
     have HOL:Hid (N.old q=none):=by
      show N.old q=none
      cases hcc:chgK q.kind
      ·exact Nd.old_none hcc
      ·rw [Nd.old_yes hcc]
       exact find_none fun j r hr=>HQN.out j r (by have h1:=(List.getElem?_eq_some_iff.1 hr).1; have:=HMS.out; omega) hr
     go_wp2_with fail
     go_meet
     exact ⟨rfl,HOL,HKX⟩
  case rest =>
  obtain ⟨rfl,HOL,HKX⟩:=hcut
  have HS:=hide (HS.out.no HKX.out)
  have HR:=hide (HR.out.no HKX.out)
  have HRS:=hide (HRS.out.no HKX.out)
  have HQ:=hide (HQ.out.no HKX.out)
  have HBQ:=hide (HBQ.out.no HKX.out)
  have HK:=hide (HK.out.trans' HKX.out)
  have HOUT:=hide (Nd.hand_none (n:=n) (a:=a) (x:=x) HOL.out)
  clear HKX
  obtain ⟨y0,y1,y2,y3,y4,y5,y6,y7,y8⟩:=HS.out.cell
  obtain ⟨z0,z1,z2,z3,z4,z5,z6,z7⟩:=HQ.out.cell
  go_wp2_with fail
  refine (r16does_any (F:=Fr2 F s0) (N:=N) (n:=n) (k:=k) ⟨_,_,_,_,_,_,_,_,_,rfl,HRS.out⟩ HD.out HX.out HF.out HZ.out HBQ.out HL.out).mono ?_
  rintro e w4 ⟨v4,A4,m4,c4,rfl,hA4,hb4,k4⟩
  obtain ⟨gc3,cc3,A3,cl3,B3,ck3,cs3,ls3,As3,ms3,cs93,ps3,rfl,h3⟩:=hA4.form
  obtain ⟨V1,hV1⟩:∃ V1,V1=ndV N.V q:=⟨_,rfl⟩
  obtain ⟨P,hP⟩:∃ P,P=ndP n a x N.V q:=⟨_,rfl⟩
  have HP1:Hid ((ndE n a N.V q:Int)=P.e∧ndB n a x N.V q=P.data∧q.num=P.num):=by rw [hP]; exact ⟨rfl,rfl,rfl⟩
  have HPO:Hid (P.num < 18446744073709551616∧P.rgt=true∧P.data.length≤1000):=by rw [hP]; exact ⟨HF.out.num,ndP_rgt _ _ _ _ _,Nat.le_trans (ndB_len HD.out HOK.out.v q) HZ.out.z⟩
  have HNO:Hid (N.handB n a x bs=N.did n a x q∧N.outB n a x bs=P.bytes):=⟨HFI.out.1.trans HOUT.out.1,by rw [HFI.out.2,HOUT.out.2,hP]⟩
  have HDI:Hid (N.did n a x q=⟨V1,if ch=true then remL N.sn P else N.sn,N.done+1⟩):=by rw [hV1,hP,HCH.out]; rfl
  rw [← hV1] at h3 ⊢
  rw [HP1.out.1]
  have HBD:=hide hb4
  rw [HP1.out.2.1] at HBD
  have HH3:=hide h3
  have k5:=Kp.alloc No w4 (.cells #[.int .i64 (n:Int),.int .i64 (k:Int),.int .i64 (V1.D.size:Int),.slice (some ⟨gc3,0,none⟩) V1.D.cells.length cc3,.slice A3 V1.D.loose.length cl3,.int .i64 (V1.D.syncs:Int),.slice B3 V1.L.length ck3,.slice As3 ms3 cs93,.int .u64 (N.done:Int)] 46)
  have e5:(w4.alloc (.cells #[.int .i64 (n:Int),.int .i64 (k:Int),.int .i64 (V1.D.size:Int),.slice (some ⟨gc3,0,none⟩) V1.D.cells.length cc3,.slice A3 V1.D.loose.length cl3,.int .i64 (V1.D.syncs:Int),.slice B3 V1.L.length ck3,.slice As3 ms3 cs93,.int .u64 (N.done:Int)] 46)).heap.size=w4.heap.size+1:=by simp
  have HXB5:=hide (BxR.new w4 (.int .i64 (n:Int)) (.int .i64 (k:Int)) (.int .i64 (V1.D.size:Int)) (.slice (some ⟨gc3,0,none⟩) V1.D.cells.length cc3) (.slice A3 V1.D.loose.length cl3) (.int .i64 (V1.D.syncs:Int)) (.slice B3 V1.L.length ck3) (.slice As3 ms3 cs93) (.int .u64 (N.done:Int)))
  have HS5:=hide ((HS.out.no k4).no k5)
  have HR5:=hide ((HR.out.no k4).no k5)
  have HQ5:=hide ((HQ.out.no k4).no k5)
  have HB5:Hid (s0+2≤w4.heap.size∧b2 < w4.heap.size):=by
   have h1:=HQ.out.lt
   have h2:=k4.size
   exact ⟨by have:=HB2.out; omega,by omega⟩
  have hup:∀ z,Fx F s0 w4.heap.size z→Up (Fr2 F s0) w4 z∧z < (w4.alloc (.cells #[.int .i64 (n:Int),.int .i64 (k:Int),.int .i64 (V1.D.size:Int),.slice (some ⟨gc3,0,none⟩) V1.D.cells.length cc3,.slice A3 V1.D.loose.length cl3,.int .i64 (V1.D.syncs:Int),.slice B3 V1.L.length ck3,.slice As3 ms3 cs93,.int .u64 (N.done:Int)] 46)).heap.size:=fun z f=>by
   rcases f with f | f
   ·exact ⟨.inl f,by have:=h3.rv.rf.bd z f; omega⟩
   ·exact ⟨.inr (by omega),by omega⟩
  have HX5:=hide (h3.step (k5.of_no _) hup)
  have HN5:=hide ((HRS.out.no k4).step (k5.of_no _) hup)
  have HBD5:=hide (HBD.out.no k5)
  have HK5:=hide ((HK.out.trans' k4).trans' k5)
  clear k4 k5 e5 hup hA4 hb4 h3 hV1 hP y0 y1 y2 y3 y4 y5 y6 y7 y8 z0 z1 z2 z3 z4 z5 z6 z7
  unfold rsV
  go_upto_region 11 with (fail)
  generalize w4.alloc (.cells #[.int .i64 (n:Int),.int .i64 (k:Int),.int .i64 (V1.D.size:Int),.slice (some ⟨gc3,0,none⟩) V1.D.cells.length cc3,.slice A3 V1.D.loose.length cl3,.int .i64 (V1.D.syncs:Int),.slice B3 V1.L.length ck3,.slice As3 ms3 cs93,.int .u64 (N.done:Int)] 46)=w5 at HXB5 HS5 HR5 HQ5 HX5 HN5 HBD5 HK5 ⊢
  generalize w4.heap.size=b3 at HXB5 HB5 HX5 HN5 ⊢
  have z0:=HQ5.out.cell.1
  rw [HP1.out.2.2] at z0
  go_wp2_with fail
  refine (rpbytes_any P HPO.out.1 HPO.out.2.1 HBD5.out (by have h1:=HBD5.out.len; have h2:=HPO.out.2.2; omega)).mono ?_
  rintro e w6 ⟨Ao,mo,co,rfl,hoo,k6⟩
  have HBO:Hid (BtF w6 (Fx F s0 b3) (.slice Ao mo co) P.bytes):=BtF.new hoo HX5.out.rv.rf.bd
  have HXB6:=hide (HXB5.out.no k6)
  have HS6:=hide (HS5.out.no k6)
  have HR6:=hide (HR5.out.no k6)
  have HQ6:=hide (HQ5.out.no k6)
  have HX6:=hide (HX5.out.no k6)
  have HN6:=hide (HN5.out.no k6)
  have HK6:=hide (HK5.out.trans' k6)
  clear hoo k6 z0
  go_upto_if 69 with (fail)
  go_cut [13] (fun v13 wx=>v13=.slice Ao mo co∧∃ A2 m2 c2 cs2 ls2 ps2,HxW w F n k N V1 (if ch=true then remL N.sn P else N.sn) s0 b3 gc0 cc0 cl0 ck0 ms cs9 gc3 cc3 cl3 ck3 m2 c2 A0 B0 As A3 B3 A2 cs2 ls2 ps2 (.slice Ao mo co) P.bytes wx)
  case first =>
   rcases ch with _ | _
   ·go_wp2_with fail
    go_meet
    exact ⟨rfl,_,_,_,_,_,_,⟨HS6.out,HXB6.out,HR6.out,HX6.out,HBO.out,HK6.out,HS0.out,HB5.out.1⟩⟩
   ·go_upto_region 13 with (fail)
    go_cut [13] (fun v13 wx=>v13=.slice Ao mo co∧∃ A7 n7 c7,n7=ms+1∧Kp (fun z=>z=b3) w6 wx∧BxR wx b3 (.int .i64 (n:Int)) (.int .i64 (k:Int)) (.int .i64 (V1.D.size:Int)) (.slice (some ⟨gc3,0,none⟩) V1.D.cells.length cc3) (.slice A3 V1.D.loose.length cl3) (.int .i64 (V1.D.syncs:Int)) (.slice B3 V1.L.length ck3) (.slice A7 n7 c7) (.int .u64 (N.done:Int))∧OwnT wx 0 113 2 (.slice A7 n7 c7) (ms+1) (seC ps ++ [.int .u64 (q.num:Int),.slice Ao mo co])∧∀ z,(Value.slice A7 n7 c7).ownBlock=some z→w6.heap.size≤z)
    case first =>
     have HSE4:=hide (HN6.out.se.no (Kp.refl No w6).drew)
     have HXB4:=hide (HXB6.out.no (Kp.refl No w6).drew)
     have HKW:=hide ((Kp.refl No w6).drew)
     have hS:∀ w',Sx n k V1 N s0 b2 b3 gc3 cc3 cl3 ck3 A3 B3 w6.drew w'→Sx n k V1 N s0 b2 b3 gc3 cc3 cl3 ck3 A3 B3 w6.drew w'∧w'.cell? ⟨s0,7,none⟩=some (.slice As ms cs9)∧w'.cell? ⟨b2,0,none⟩=some (.int .u64 (q.num:Int)):=fun w' hx =>
      ⟨hx,hx.kp.cell (HS6.out.no (Kp.refl No w6).drew).cell.2.2.2.2.2.2.2.1 (fun e=>by have:=HB5.out.1; have e':s0=b3:=e; omega),hx.kp.cell (HQ6.out.no (Kp.refl No w6).drew).cell.1 (fun e=>by have:=HB5.out.2; have e':b2=b3:=e; omega)⟩
     go_wp2_with fail
     refine wp_region_noPanic ?_
     refine wp_region_held_drew (S:=fun w'=>Sx n k V1 N s0 b2 b3 gc3 cc3 cl3 ck3 A3 B3 w6.drew w'∧w'.cell? ⟨s0,7,none⟩=some (.slice As ms cs9)∧w'.cell? ⟨b2,0,none⟩=some (.int .u64 (q.num:Int))) (by kernel_rfl) (hS _ (Sx.begin HXB4.out)) (fun hHeld=>?_)
     generalize w6.drew=wd at HSE4 HXB4 HKW hS hHeld ⊢
     refine wpAnyH_take (i:=1) (v:=?vpx1) (oi:=?opx1) ?hpx1 (by kernel_rfl) (by kernel_rfl) (by kernel_rfl) (fun _ _ _ h=>h) (Or.inl ⟨?wpx1,?ypx1⟩) hHeld ?rpx1
     case hpx1=>simp only [gA0,gA1,gA2]; rfl
     case wpx1=>rfl
     case ypx1=>intro w hSw; (try dsimp only at hSw); go_simp; (try with_reducible rfl)
     simp only [Act.put,sA0,sA1,sA2]
     refine wpAnyH_take (i:=2) (v:=?vpx2) (oi:=?opx2) ?hpx2 (by kernel_rfl) (by kernel_rfl) (by kernel_rfl) (fun _ _ _ h=>h) (Or.inl ⟨?wpx2,?ypx2⟩) hHeld ?rpx2
     case hpx2=>simp only [gA0,gA1,gA2]; rfl
     case wpx2=>rfl
     case ypx2=>intro w hSw; (try dsimp only at hSw); go_simp; (try with_reducible rfl)
     simp only [Act.put,sA0,sA1,sA2]
     refine wpAnyH_take (i:=4) (v:=?vpx3) (oi:=?opx3) ?hpx3 (by kernel_rfl) (by kernel_rfl) (by kernel_rfl) (fun _ _ _ h=>h) (Or.inl ⟨?wpx3,?ypx3⟩) hHeld ?rpx3
     case hpx3=>simp only [gA0,gA1,gA2]; rfl
     case wpx3=>rfl
     case ypx3=>intro w hSw; (try dsimp only at hSw); go_simp; (try with_reducible rfl)
     simp only [Act.put,sA0,sA1,sA2]
     refine wpAnyH_take (i:=5) (v:=?vpx4) (oi:=?opx4) ?hpx4 (by kernel_rfl) (by kernel_rfl) (by kernel_rfl) (fun _ _ _ h=>h) (Or.inl ⟨?wpx4,?ypx4⟩) hHeld ?rpx4
     case hpx4=>simp only [gA0,gA1,gA2]; rfl
     case wpx4=>rfl
     case ypx4=>intro w hSw; (try dsimp only at hSw); go_simp; (try with_reducible rfl)
     simp only [Act.put,sA0,sA1,sA2]
     refine wpAnyH_take (i:=6) (v:=?vpx5) (oi:=?opx5) ?hpx5 (by kernel_rfl) (by kernel_rfl) (by kernel_rfl) (fun _ _ _ h=>h) (Or.inl ⟨?wpx5,?ypx5⟩) hHeld ?rpx5
     case hpx5=>simp only [gA0,gA1,gA2]; rfl
     case wpx5=>rfl
     case ypx5=>intro w hSw; (try dsimp only at hSw); go_simp; (try with_reducible rfl)
     simp only [Act.put,sA0,sA1,sA2]
     refine wpAnyH_take (i:=7) (v:=?vpx6) (oi:=?opx6) ?hpx6 (by kernel_rfl) (by kernel_rfl) (by kernel_rfl) (fun _ _ _ h=>h) (Or.inl ⟨?wpx6,?ypx6⟩) hHeld ?rpx6
     case hpx6=>simp only [gA0,gA1,gA2]; rfl
     case wpx6=>rfl
     case ypx6=>intro w hSw; (try dsimp only at hSw); go_simp; (try with_reducible rfl)
     simp only [Act.put,sA0,sA1,sA2]
     refine wpAnyH_ready (rs:=[0,8]) (by kernel_rfl) (by simp) ?_
     refine (AllReadyH.cons (o:=?opx8) ?hpx8 (fun K hK=>?spx8) (AllReadyH.cons (o:=?opx9) ?hpx9 (fun K hK=>?spx9) AllReadyH.nil))
     case hpx8=>simp only [gA0,gA1,gA2]; rfl
     case hpx9=>simp only [gA0,gA1,gA2]; rfl
     case spx8 =>
      go_simp
      refine hK.out _ _ (hS _ (hHeld.1.al _)) (fun hHeld=>?_)
      clear hK K
      try simp only [Act.put,sA0,sA1,sA2]
      refine wpAnyH_ready (rs:=[3,8]) (by kernel_rfl) (by simp) ?_
      refine (AllReadyH.cons (o:=?opx11) ?hpx11 (fun K hK=>?spx11) (AllReadyH.cons (o:=?opx12) ?hpx12 (fun K hK=>?spx12) AllReadyH.nil))
      case hpx11=>simp only [gA0,gA1,gA2]; rfl
      case hpx12=>simp only [gA0,gA1,gA2]; rfl
      case spx11 =>
       have hO0:=ownT_none wd 113 2
       have hOg:∀ z,(Value.slice (some ⟨wd.heap.size,0,none⟩) 0 0).ownBlock=some z→wd.heap.size≤z:=fun z e=>by injection e with e; subst e; simp
       skip
       have hNW:=(HSE4.out.keep hHeld.1.kp fun z _ hn e=>hn (.inr e)).nws
       refine step_appS (m:=ms) (n:=0) ty_seen rfl (.tmp 70) (.tmp 72) _ rfl Tryz.underlying43 rfl (ownT_base0 hO0) As rfl hNW.1 hNW.2 (by have:=HMS.out; omega) (Nat.zero_le _) ?_
       intro A6 n6 c6 w6 hn6 ha6
       rw [Nat.zero_add] at hn6
       have hn6s:=hn6.symm
       clear hn6
       subst hn6s
       have hx6:=hHeld.1.app ha6 hOg
       have hO6:=ha6.own
       rw [Nat.zero_add,List.nil_append] at hO6
       have hG6:∀ z,(Value.slice A6 ms c6).ownBlock=some z→wd.heap.size≤z:=fun z e=>(ha6.at_).elim (fun f=>hOg z (f.symm.trans e)) (fun f=>(Option.some.inj (f.symm.trans e)) ▸ hHeld.1.kp.size)
       clear hNW
       refine hK.out _ _ (hS _ hx6) (fun hHeld=>?_)
       clear hK K
       try simp only [Act.put,sA0,sA1,sA2]
       refine wpAnyH_ready (rs:=[8]) (by kernel_rfl) (by simp) ?_
       refine AllReadyH.cons (o:=?opx13) ?hpx13 (fun K hK=>?spx13) AllReadyH.nil
       case hpx13=>simp only [gA0,gA1,gA2]; rfl
       go_simp
       refine hK.out _ _ (hS _ (hHeld.1.al _)) (fun hHeld=>?_)
       clear hK K
       try simp only [Act.put,sA0,sA1,sA2]
       refine wpAnyH_ready (rs:=[9]) (by kernel_rfl) (by simp) ?_
       refine AllReadyH.cons (o:=?opx14) ?hpx14 (fun K hK=>?spx14) AllReadyH.nil
       case hpx14=>simp only [gA0,gA1,gA2]; rfl
       have hO6':=hO6.no (Kp.alloc No w6 (.cells #[.int .u64 (q.num:Int),.slice Ao mo co] 113))
       have hN8:Nws (w6.alloc (.cells #[.int .u64 (q.num:Int),.slice Ao mo co] 113)) ⟨w6.heap.size,0,none⟩ 1 2 [.int .u64 (q.num:Int),.slice Ao mo co]:=nws_two (by rw [World.cell?_alloc_mark]; rfl) (by rw [World.cell?_alloc_mark]; rfl) rfl rfl
       refine step_appT (m:=1) ty_seen rfl (.tmp 73) (.tmp 78) _ rfl Tryz.underlying43 rfl hO6' _ _ rfl hN8 (by have:=HMS.out; omega) (Nat.zero_le _) ?_
       intro A7 n7 c7 w7 hn7 ha7
       have hx7:=hHeld.1.app ha7 hG6
       have hz6:=hHeld.1.kp.size
       have HO7:Hid (OwnT w7 0 113 2 (.slice A7 n7 c7) (ms+1) (seC ps ++ [.int .u64 (q.num:Int),.slice Ao mo co])∧(∀ z,(Value.slice A7 n7 c7).ownBlock=some z→wd.heap.size≤z)):=⟨ha7.own,fun z e=>(ha7.at_).elim (fun f=>hG6 z (f.symm.trans e)) (fun f=>(Option.some.inj (f.symm.trans e)) ▸ hz6)⟩
       have HX7:=hide hx7
       have HN7:=hide hn7
       clear ha7 hO6' hO6 hO0 ha6 hN8 hx6 hn7 hx7 hz6 hG6 hOg
       refine hK.out _ _ (hS _ HX7.out) (fun hHeld=>?_)
       clear hK K
       try simp only [Act.put,sA0,sA1,sA2]
       refine wpAnyH_take (i:=10) (v:=?vpx15) (oi:=?opx15) ?hpx15 (by kernel_rfl) (by kernel_rfl) (by kernel_rfl) (fun _ _ _ h=>h) (Or.inl ⟨?wpx15,?ypx15⟩) hHeld ?rpx15
       case hpx15=>simp only [gA0,gA1,gA2]; rfl
       case wpx15=>rfl
       case ypx15=>intro w hSw; (try dsimp only at hSw); go_simp; (try with_reducible rfl)
       simp only [Act.put,sA0,sA1,sA2]
       refine wpAnyH_ready (rs:=[11]) (by kernel_rfl) (by simp) ?_
       refine AllReadyH.cons (o:=?opx16) ?hpx16 (fun K hK=>?spx16) AllReadyH.nil
       case hpx16=>simp only [gA0,gA1,gA2]; rfl
       obtain ⟨u7,hb7⟩:=HX7.out.bx
       have x7:=hb7.cell.2.2.2.2.2.2.2.1
       have xf:=hb7.fz 7
       go_simp
       clear x7 xf hb7
       refine hK.out _ _ (hS _ (HX7.out.set7 _)) (fun hHeld=>?_)
       clear hK K
       try simp only [Act.put,sA0,sA1,sA2]
       refine wpAnyH_done (by kernel_rfl) ?_ _
       refine NoPanic.normal ?_
       have HK8:=hide (hHeld.1.kp)
       clear hHeld
       go_wp2_with fail
       go_meet
       have h8:=HX7.out.set7 (.slice A7 n7 c7)
       obtain ⟨u7,hb7⟩:=HX7.out.bx
       refine ⟨rfl,A7,n7,c7,HN7.out,(HKW.out.of_no _).trans' HK8.out,hb7.set7 _,HO7.out.1.keep (Kp.setCell (S:=fun z=>z=b3) (p:=⟨b3,7,none⟩) rfl _) fun z hz e=>?_,fun z hz=>Nat.le_trans HKW.out.size (HO7.out.2 z hz)⟩
       have h1:=HO7.out.2 z hz
       have h2:=HX7.out.lt
       omega
      case spx12 =>
       go_simp
       refine hK.out _ _ (hS _ (hHeld.1.al _)) (fun hHeld=>?_)
       clear hK K
       try simp only [Act.put,sA0,sA1,sA2]
       refine wpAnyH_ready (rs:=[3]) (by kernel_rfl) (by simp) ?_
       refine AllReadyH.cons (o:=?opx18) ?hpx18 (fun K hK=>?spx18) AllReadyH.nil
       case hpx18=>simp only [gA0,gA1,gA2]; rfl
       have hO0:=(ownT_none wd 113 2).no (Kp.alloc No _ (.cells #[.int .u64 (q.num:Int),.slice Ao mo co] 113))
       have hOg:∀ z,(Value.slice (some ⟨wd.heap.size,0,none⟩) 0 0).ownBlock=some z→wd.heap.size≤z:=fun z e=>by injection e with e; subst e; simp
       skip
       have hNW:=(HSE4.out.keep hHeld.1.kp fun z _ hn e=>hn (.inr e)).nws
       refine step_appS (m:=ms) (n:=0) ty_seen rfl (.tmp 70) (.tmp 72) _ rfl Tryz.underlying43 rfl (ownT_base0 hO0) As rfl hNW.1 hNW.2 (by have:=HMS.out; omega) (Nat.zero_le _) ?_
       intro A6 n6 c6 w6 hn6 ha6
       rw [Nat.zero_add] at hn6
       have hn6s:=hn6.symm
       clear hn6
       subst hn6s
       have hx6:=hHeld.1.app ha6 hOg
       have hO6:=ha6.own
       rw [Nat.zero_add,List.nil_append] at hO6
       have hG6:∀ z,(Value.slice A6 ms c6).ownBlock=some z→wd.heap.size≤z:=fun z e=>(ha6.at_).elim (fun f=>hOg z (f.symm.trans e)) (fun f=>(Option.some.inj (f.symm.trans e)) ▸ hHeld.1.kp.size)
       have hN8:Nws w6 ⟨(wd.alloc (.cells #[] 113)).heap.size,0,none⟩ 1 2 [.int .u64 (q.num:Int),.slice Ao mo co]:=(nws_two (w:=(wd.alloc (.cells #[] 113)).alloc (.cells #[.int .u64 (q.num:Int),.slice Ao mo co] 113)) (u0:=.int .u64 (q.num:Int)) (u1:=.slice Ao mo co) (by rw [World.cell?_alloc_mark]; rfl) (by rw [World.cell?_alloc_mark]; rfl) rfl rfl).keep ha6.kp (fun e=>by injection e with e; simp at e)
       rw [show (wd.alloc (.cells #[] 113)).heap.size=wd.heap.size+1 by simp] at hN8
       clear hNW
       refine hK.out _ _ (hS _ hx6) (fun hHeld=>?_)
       clear hK K
       try simp only [Act.put,sA0,sA1,sA2]
       refine wpAnyH_ready (rs:=[9]) (by kernel_rfl) (by simp) ?_
       refine AllReadyH.cons (o:=?opx19) ?hpx19 (fun K hK=>?spx19) AllReadyH.nil
       case hpx19=>simp only [gA0,gA1,gA2]; rfl
       have hO6':=hO6
       refine step_appT (m:=1) ty_seen rfl (.tmp 73) (.tmp 78) _ rfl Tryz.underlying43 rfl hO6' _ _ rfl hN8 (by have:=HMS.out; omega) (Nat.zero_le _) ?_
       intro A7 n7 c7 w7 hn7 ha7
       have hx7:=hHeld.1.app ha7 hG6
       have hz6:=hHeld.1.kp.size
       have HO7:Hid (OwnT w7 0 113 2 (.slice A7 n7 c7) (ms+1) (seC ps ++ [.int .u64 (q.num:Int),.slice Ao mo co])∧(∀ z,(Value.slice A7 n7 c7).ownBlock=some z→wd.heap.size≤z)):=⟨ha7.own,fun z e=>(ha7.at_).elim (fun f=>hG6 z (f.symm.trans e)) (fun f=>(Option.some.inj (f.symm.trans e)) ▸ hz6)⟩
       have HX7:=hide hx7
       have HN7:=hide hn7
       clear ha7 hO6' hO6 hO0 ha6 hN8 hx6 hn7 hx7 hz6 hG6 hOg
       refine hK.out _ _ (hS _ HX7.out) (fun hHeld=>?_)
       clear hK K
       try simp only [Act.put,sA0,sA1,sA2]
       refine wpAnyH_take (i:=10) (v:=?vpx20) (oi:=?opx20) ?hpx20 (by kernel_rfl) (by kernel_rfl) (by kernel_rfl) (fun _ _ _ h=>h) (Or.inl ⟨?wpx20,?ypx20⟩) hHeld ?rpx20
       case hpx20=>simp only [gA0,gA1,gA2]; rfl
       case wpx20=>rfl
       case ypx20=>intro w hSw; (try dsimp only at hSw); go_simp; (try with_reducible rfl)
       simp only [Act.put,sA0,sA1,sA2]
       refine wpAnyH_ready (rs:=[11]) (by kernel_rfl) (by simp) ?_
       refine AllReadyH.cons (o:=?opx21) ?hpx21 (fun K hK=>?spx21) AllReadyH.nil
       case hpx21=>simp only [gA0,gA1,gA2]; rfl
       obtain ⟨u7,hb7⟩:=HX7.out.bx
       have x7:=hb7.cell.2.2.2.2.2.2.2.1
       have xf:=hb7.fz 7
       go_simp
       clear x7 xf hb7
       refine hK.out _ _ (hS _ (HX7.out.set7 _)) (fun hHeld=>?_)
       clear hK K
       try simp only [Act.put,sA0,sA1,sA2]
       refine wpAnyH_done (by kernel_rfl) ?_ _
       refine NoPanic.normal ?_
       have HK8:=hide (hHeld.1.kp)
       clear hHeld
       go_wp2_with fail
       go_meet
       have h8:=HX7.out.set7 (.slice A7 n7 c7)
       obtain ⟨u7,hb7⟩:=HX7.out.bx
       refine ⟨rfl,A7,n7,c7,HN7.out,(HKW.out.of_no _).trans' HK8.out,hb7.set7 _,HO7.out.1.keep (Kp.setCell (S:=fun z=>z=b3) (p:=⟨b3,7,none⟩) rfl _) fun z hz e=>?_,fun z hz=>Nat.le_trans HKW.out.size (HO7.out.2 z hz)⟩
       have h1:=HO7.out.2 z hz
       have h2:=HX7.out.lt
       omega
     case spx9 =>
      go_simp
      refine hK.out _ _ (hS _ (hHeld.1.al _)) (fun hHeld=>?_)
      clear hK K
      try simp only [Act.put,sA0,sA1,sA2]
      refine wpAnyH_ready (rs:=[0]) (by kernel_rfl) (by simp) ?_
      refine AllReadyH.cons (o:=?opx23) ?hpx23 (fun K hK=>?spx23) AllReadyH.nil
      case hpx23=>simp only [gA0,gA1,gA2]; rfl
      go_simp
      refine hK.out _ _ (hS _ (hHeld.1.al _)) (fun hHeld=>?_)
      clear hK K
      try simp only [Act.put,sA0,sA1,sA2]
      refine wpAnyH_ready (rs:=[3]) (by kernel_rfl) (by simp) ?_
      refine AllReadyH.cons (o:=?opx24) ?hpx24 (fun K hK=>?spx24) AllReadyH.nil
      case hpx24=>simp only [gA0,gA1,gA2]; rfl
      have hO0:=ownT_none (wd.alloc (.cells #[.int .u64 (q.num:Int),.slice Ao mo co] 113)) 113 2
      have hOg:∀ z,(Value.slice (some ⟨(wd.alloc (.cells #[.int .u64 (q.num:Int),.slice Ao mo co] 113)).heap.size,0,none⟩) 0 0).ownBlock=some z→wd.heap.size≤z:=fun z e=>by injection e with e; subst e; simp
      rw [show (wd.alloc (.cells #[.int .u64 (q.num:Int),.slice Ao mo co] 113)).heap.size=wd.heap.size+1 by simp] at hO0 hOg
      have hNW:=(HSE4.out.keep hHeld.1.kp fun z _ hn e=>hn (.inr e)).nws
      refine step_appS (m:=ms) (n:=0) ty_seen rfl (.tmp 70) (.tmp 72) _ rfl Tryz.underlying43 rfl (ownT_base0 hO0) As rfl hNW.1 hNW.2 (by have:=HMS.out; omega) (Nat.zero_le _) ?_
      intro A6 n6 c6 w6 hn6 ha6
      rw [Nat.zero_add] at hn6
      have hn6s:=hn6.symm
      clear hn6
      subst hn6s
      have hx6:=hHeld.1.app ha6 hOg
      have hO6:=ha6.own
      rw [Nat.zero_add,List.nil_append] at hO6
      have hG6:∀ z,(Value.slice A6 ms c6).ownBlock=some z→wd.heap.size≤z:=fun z e=>(ha6.at_).elim (fun f=>hOg z (f.symm.trans e)) (fun f=>(Option.some.inj (f.symm.trans e)) ▸ hHeld.1.kp.size)
      have hN8:Nws w6 ⟨wd.heap.size,0,none⟩ 1 2 [.int .u64 (q.num:Int),.slice Ao mo co]:=(nws_two (w:=(wd.alloc (.cells #[.int .u64 (q.num:Int),.slice Ao mo co] 113)).alloc (.cells #[] 113)) (u0:=.int .u64 (q.num:Int)) (u1:=.slice Ao mo co) ((Kp.alloc No (wd.alloc (.cells #[.int .u64 (q.num:Int),.slice Ao mo co] 113)) (.cells #[] 113)).cell (by rw [World.cell?_alloc_mark]; rfl) fun f=>f) ((Kp.alloc No (wd.alloc (.cells #[.int .u64 (q.num:Int),.slice Ao mo co] 113)) (.cells #[] 113)).cell (by rw [World.cell?_alloc_mark]; rfl) fun f=>f) rfl rfl).keep ha6.kp (fun e=>by injection e with e; simp at e)
      clear hNW
      refine hK.out _ _ (hS _ hx6) (fun hHeld=>?_)
      clear hK K
      try simp only [Act.put,sA0,sA1,sA2]
      refine wpAnyH_ready (rs:=[9]) (by kernel_rfl) (by simp) ?_
      refine AllReadyH.cons (o:=?opx25) ?hpx25 (fun K hK=>?spx25) AllReadyH.nil
      case hpx25=>simp only [gA0,gA1,gA2]; rfl
      have hO6':=hO6
      refine step_appT (m:=1) ty_seen rfl (.tmp 73) (.tmp 78) _ rfl Tryz.underlying43 rfl hO6' _ _ rfl hN8 (by have:=HMS.out; omega) (Nat.zero_le _) ?_
      intro A7 n7 c7 w7 hn7 ha7
      have hx7:=hHeld.1.app ha7 hG6
      have hz6:=hHeld.1.kp.size
      have HO7:Hid (OwnT w7 0 113 2 (.slice A7 n7 c7) (ms+1) (seC ps ++ [.int .u64 (q.num:Int),.slice Ao mo co])∧(∀ z,(Value.slice A7 n7 c7).ownBlock=some z→wd.heap.size≤z)):=⟨ha7.own,fun z e=>(ha7.at_).elim (fun f=>hG6 z (f.symm.trans e)) (fun f=>(Option.some.inj (f.symm.trans e)) ▸ hz6)⟩
      have HX7:=hide hx7
      have HN7:=hide hn7
      clear ha7 hO6' hO6 hO0 ha6 hN8 hx6 hn7 hx7 hz6 hG6 hOg
      refine hK.out _ _ (hS _ HX7.out) (fun hHeld=>?_)
      clear hK K
      try simp only [Act.put,sA0,sA1,sA2]
      refine wpAnyH_take (i:=10) (v:=?vpx26) (oi:=?opx26) ?hpx26 (by kernel_rfl) (by kernel_rfl) (by kernel_rfl) (fun _ _ _ h=>h) (Or.inl ⟨?wpx26,?ypx26⟩) hHeld ?rpx26
      case hpx26=>simp only [gA0,gA1,gA2]; rfl
      case wpx26=>rfl
      case ypx26=>intro w hSw; (try dsimp only at hSw); go_simp; (try with_reducible rfl)
      simp only [Act.put,sA0,sA1,sA2]
      refine wpAnyH_ready (rs:=[11]) (by kernel_rfl) (by simp) ?_
      refine AllReadyH.cons (o:=?opx27) ?hpx27 (fun K hK=>?spx27) AllReadyH.nil
      case hpx27=>simp only [gA0,gA1,gA2]; rfl
      obtain ⟨u7,hb7⟩:=HX7.out.bx
      have x7:=hb7.cell.2.2.2.2.2.2.2.1
      have xf:=hb7.fz 7
      go_simp
      clear x7 xf hb7
      refine hK.out _ _ (hS _ (HX7.out.set7 _)) (fun hHeld=>?_)
      clear hK K
      try simp only [Act.put,sA0,sA1,sA2]
      refine wpAnyH_done (by kernel_rfl) ?_ _
      refine NoPanic.normal ?_
      have HK8:=hide (hHeld.1.kp)
      clear hHeld
      go_wp2_with fail
      go_meet
      have h8:=HX7.out.set7 (.slice A7 n7 c7)
      obtain ⟨u7,hb7⟩:=HX7.out.bx
      refine ⟨rfl,A7,n7,c7,HN7.out,(HKW.out.of_no _).trans' HK8.out,hb7.set7 _,HO7.out.1.keep (Kp.setCell (S:=fun z=>z=b3) (p:=⟨b3,7,none⟩) rfl _) fun z hz e=>?_,fun z hz=>Nat.le_trans HKW.out.size (HO7.out.2 z hz)⟩
      have h1:=HO7.out.2 z hz
      have h2:=HX7.out.lt
      omega
    case rest =>
    obtain ⟨rfl,A7,n7,c7,rfl,hk7,hb7,ho7,hz7⟩:=hcut
    rename World=>w7
    have HB7:=hide hb7
    have HS7:=hide (HS6.out.keep hk7 (by have:=HB5.out.1; omega))
    have HR7:=hide (HR6.out.keep hk7 (by have:=HB5.out.1; omega))
    have HX7:=hide (HX6.out.keep hk7 fun z _ hn e=>hn (.inr e))
    have HN7:=hide (HN6.out.keep hk7 fun z _ hn e=>hn (.inr e))
    have HBO7:=hide (HBO.out.keep hk7 fun z _ hn e=>hn (.inr e))
    have HK7:=hide (HK6.out.trans (hk7.mono fun z e=>.inr (by have:=HB5.out.1; have:=HS0.out; omega)))
    have hseq:seC ps ++ [.int .u64 (q.num:Int),.slice Ao mo co]=seC (ps ++ [(P,.slice Ao mo co)]):=by rw [seC_app,HP1.out.2.2]; rfl
    have hpl:(ps ++ [(P,(Value.slice Ao mo co))]).length=ms+1:=by rw [List.length_append,← HN7.out.se.len]; rfl
    have HSE7:Hid (SeR w7 (Fx F s0 b3) A7 (ms+1) c7 (ps ++ [(P,.slice Ao mo co)])):=by
     refine SeR.of_own (base:=0) (by rw [hpl,← hseq]; exact ho7) (fun z e f=>?_) fun p hp=>?_
     ·have h1:=hz7 z e
      have h2:=HX6.out.rv.rf.bd z f
      omega
     ·rcases List.mem_append.1 hp with m | m
      ·exact HN7.out.se.bts p m
      ·simp at m
       subst m
       exact HBO7.out
    have HEQ7:Hid ((ps ++ [(P,(Value.slice Ao mo co))]).map Prod.fst=N.sn ++ [P]):=by show _=_; rw [List.map_append,HN7.out.eq]; rfl
    have HRV7:=hide HX7.out.rv
    clear hk7 hb7 ho7 hz7 hseq hpl
    have x7:=HB7.out.cell.2.2.2.2.2.2.2.1
    have xf:=HB7.out.fz 7
    by_cases h32:ms=32
    ·have HRE:Hid (remL N.sn P=N.sn.drop 1 ++ [P]):=by show remL N.sn P=_; unfold remL; rw [if_pos (by rw [← HMS.out]; exact h32)]
     subst h32
     obtain ⟨p0,ps0,hps⟩:∃ p0 ps0,ps ++ [(P,(Value.slice Ao mo co))]=p0 :: ps0:=by
      cases ps with
      | nil=>exact ⟨_,_,rfl⟩
      | cons y l=>exact ⟨_,_,rfl⟩
     have hE7:=HEQ7.out
     have hS7:=HSE7.out
     rw [hps] at hE7 hS7
     rcases A7 with _ | ⟨g7,o7,sp7⟩
     ·have:=(hS7.nil rfl).1
      cases this
     ·obtain rfl:sp7=none:=(hS7.at_ _ rfl).1
      have hd1:=hS7.drop1
      have hed:ps0.map Prod.fst=N.sn.drop 1 ++ [P]:=by
       have h1:(p0 :: ps0).map Prod.fst=N.sn ++ [P]:=hE7
       have h2:N.sn≠[]:=fun e=>by have:=HMS.out; rw [e] at this; simp at this
       cases hsn:N.sn with
       | nil=>exact absurd hsn h2
       | cons y l =>
        rw [hsn] at h1
        simp at h1
        simpa using h1.2
      have hc33:33≤c7:=hS7.cap
      have hsl:∀ w',(Instr.slice 43 (.slice (some ⟨g7,o7,none⟩) (32+1) c7) (some (.int .i64 1)) none none).run Tryz.prog w'=.ok (.slice (some ⟨g7,o7+2,none⟩) 32 (c7 - 1)) w':=fun w'=>by
       rw [run_slice_l w' _ _ _ _ seen_under .i64 _ (by omega) (by omega),seen_size]
       simp only [Result.andThen,sliced,Option.map_some,add_none]
       rw [if_neg (by simp; omega)]
       rfl
      have K7:Kp (fun z=>z=b3) w7 (w7.setCell ⟨b3,7,none⟩ (.slice (some ⟨g7,o7+2,none⟩) 32 (c7 - 1))):=Kp.setCell (S:=fun z=>z=b3) (p:=⟨b3,7,none⟩) rfl _
      have HFIN:Hid (HxW w F n k N V1 (remL N.sn P) s0 b3 gc0 cc0 cl0 ck0 32 cs9 gc3 cc3 cl3 ck3 32 (c7 - 1) A0 B0 As A3 B3 (some ⟨g7,o7+2,none⟩) cs3 ls3 ps0 (.slice Ao mo co) P.bytes (w7.setCell ⟨b3,7,none⟩ (.slice (some ⟨g7,o7+2,none⟩) 32 (c7 - 1)))) :=
       ⟨HS7.out.keep K7 (by have:=HB5.out.1; omega),HB7.out.set7 _,HR7.out.keep K7 (by have:=HB5.out.1; omega),⟨HRV7.out.keep K7 fun z _ hn e=>hn (.inr e),hd1.keep K7 fun z _ hn e=>hn (.inr e),by rw [HRE.out]; exact hed⟩,(HBO7.out.keep K7 fun z _ hn e=>hn (.inr e)),HK7.out.trans (K7.mono fun z e=>.inr (by have:=HB5.out.1; have:=HS0.out; omega)),HS0.out,HB5.out.1⟩
      clear hE7 hS7 hd1 hed hps K7 hc33
      go_wp2_with fail
      go_meet
      exact ⟨rfl,_,_,_,_,_,_,HFIN.out⟩
    ·have HRE:Hid (remL N.sn P=N.sn ++ [P]):=by show remL N.sn P=_; unfold remL; rw [if_neg (by rw [← HMS.out]; exact h32)]
     have hgt:¬ (32:Int) < ((ms+1:Nat):Int):=by omega
     have hgt2:¬ (32:Int) < (ms:Int)+1:=by omega
     go_wp2_with fail
     go_meet
     exact ⟨rfl,_,_,_,_,_,_,⟨HS7.out,HB7.out,HR7.out,⟨HRV7.out,HSE7.out,HEQ7.out.trans HRE.out.symm⟩,HBO7.out,HK7.out,HS0.out,HB5.out.1⟩⟩
  case rest =>
  obtain ⟨rfl,A2,m2,c2,cs2,ls2,ps2,hW⟩:=hcut
  rename World=>w8
  have HW:=hide hW
  have HDI2:Hid (N.did n a x q=⟨V1,if ch=true then remL N.sn P else N.sn,N.done+1⟩):=HDI.out
  clear hW HDI
  generalize (if ch=true then remL N.sn P else N.sn)=sn2 at HW HDI2
  obtain ⟨dn,hdn⟩:∃ dn,N.done+1=dn:=⟨_,rfl⟩
  have e1:(N.done:Int)+1=(dn:Int):=by omega
  have e2:IntKind.u64.wrap (dn:Int)=(dn:Int):=IntWalk.u64_in _ (by have:=HDN.out; omega)
  rw [hdn] at HDI2
  have KX:Kp (fun z=>z=b3) w8 (w8.setCell ⟨b3,8,none⟩ (.int .u64 (dn:Int))):=Kp.setCell (S:=fun z=>z=b3) (p:=⟨b3,8,none⟩) rfl _
  have HS9:=hide (HW.out.hs.keep KX (by have:=HW.out.b; omega))
  have HXB9:=hide (HW.out.hx.set8 (.int .u64 (dn:Int)))
  have HR9:=hide (HW.out.hr.keep KX (by have:=HW.out.b; omega))
  have HRS9:=hide (HW.out.rs.keep KX fun z _ hn e=>hn (.inr e))
  have hrb0:w8.heap[b3]?=_:=HW.out.hx
  have HBO9:=hide (HW.out.bo.keep KX fun z _ hn e=>hn (.inr e))
  have HK9:=hide (HW.out.kp.trans (KX.mono fun z e=>.inr (by have:=HW.out.b; have:=HW.out.s; omega)))
  have y8:=HW.out.hs.cell.2.2.2.2.2.2.2.2
  have x8:=HW.out.hx.cell.2.2.2.2.2.2.2.2
  have xf:=HW.out.hx.fz 8
  clear hdn KX hrb0
  go_upto_region 17 with (fail)
  generalize w8.setCell ⟨b3,8,none⟩ (.int .u64 (dn:Int))=wr at HS9 HXB9 HR9 HRS9 HBO9 HK9 ⊢
  clear y8 x8 xf e1 e2
  have K9:=kp9 (S:=fun z=>z=s0+1) wr (s0+1) (.int .i64 (n:Int)) (.int .i64 (k:Int)) (.int .i64 (V1.D.size:Int)) (.slice (some ⟨gc3,0,none⟩) V1.D.cells.length cc3) (.slice A3 V1.D.loose.length cl3) (.int .i64 (V1.D.syncs:Int)) (.slice B3 V1.L.length ck3) (.slice A2 m2 c2) (.int .u64 (dn:Int)) rfl
  have HC:=hide (HR9.out.all (.int .i64 (n:Int)) (.int .i64 (k:Int)) (.int .i64 (V1.D.size:Int)) (.slice (some ⟨gc3,0,none⟩) V1.D.cells.length cc3) (.slice A3 V1.D.loose.length cl3) (.int .i64 (V1.D.syncs:Int)) (.slice B3 V1.L.length ck3) (.slice A2 m2 c2) (.int .u64 (dn:Int))).cell
  have HKN:=hide (HK9.out.trans (K9.mono fun z e=>.inr (by have:=HS0.out; omega)))
  have HRN:=hide (show RsAt _ F n k ⟨V1,sn2,dn⟩ (rsV n k ⟨V1,sn2,dn⟩ _ _ _ A2 m2 c2) from ⟨_,_,_,_,_,_,_,_,ps2,rfl,(show RsR _ F ⟨V1,sn2,dn⟩ _ _ _ _ _ _ _ _ _ from ⟨((HRS9.out.keep K9 fun z _ hn e=>hn (.inl (.inr (.inr e)))).less fun z f=>.inl (.inl f)).rv,((HRS9.out.keep K9 fun z _ hn e=>hn (.inl (.inr (.inr e)))).less fun z f=>.inl (.inl f)).se,HRS9.out.eq⟩)⟩)
  have hrb:wr.heap[s0+1]?=_:=HR9.out
  have HBN:=hide ((HBO9.out.keep K9 fun z _ hn e=>hn (.inl (.inr (.inr e)))).up fun z _ f=>.inl (.inl f))
  clear K9 hrb
  obtain ⟨y0,y1,y2,y3,y4,y5,y6,y7,y8⟩:=HXB9.out.cell
  obtain ⟨z0,z1,z2,z3,z4,z5,z6,z7,z8⟩:=HR9.out.cell
  have f0:=HR9.out.fz 0
  have f1:=HR9.out.fz 1
  have f2:=HR9.out.fz 2
  have f3:=HR9.out.fz 3
  have f4:=HR9.out.fz 4
  have f5:=HR9.out.fz 5
  have f6:=HR9.out.fz 6
  have f7:=HR9.out.fz 7
  have f8:=HR9.out.fz 8
  go_wp2_with fail
  clear y0 y1 y2 y3 y4 y5 y6 y7 y8 z0 z1 z2 z3 z4 z5 z6 z7 z8 f0 f1 f2 f3 f4 f5 f6 f7 f8
  refine bodyPost_ret (v:=.tuple #[rsV n k ⟨V1,sn2,dn⟩ (.slice (some ⟨gc3,0,none⟩) V1.D.cells.length cc3) (.slice A3 V1.D.loose.length cl3) (.slice B3 V1.L.length ck3) A2 m2 c2,.slice Ao mo co]) (by obtain ⟨q0,q1,q2,q3,q4,q5,q6,q7,q8⟩:=HC.out; simp [results,Tryz.results22,go_sem,rsV,q0,q1,q2,q3,q4,q5,q6,q7,q8]) rfl ?_
  rw [RhPost,HNO.out.1,HNO.out.2,HDI2.out]
  exact ⟨_,_,_,_,rfl,HRN.out,HBN.out,HKN.out⟩
end Go.Proofs.YtnfcfdhlmeimhaaGreat
