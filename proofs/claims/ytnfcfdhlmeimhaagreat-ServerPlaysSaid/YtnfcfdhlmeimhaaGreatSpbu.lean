/- What ServerPlays knows between two acts. -/
import Derived.Test.YtnfcfdhlmeimhaaGreatSpau
import Derived.Test.YtnfcfdhlmeimhaaGreatSpbk
import Derived.Test.YtnfcfdhlmeimhaaGreatSpbn
namespace Go.Proofs.YtnfcfdhlmeimhaaGreat
open Go.RowKit
set_option linter.unusedVariables false
set_option linter.unusedSimpArgs false
set_option maxRecDepth 20000
/-- The node's blocks, and the box s of the document's. -/
def Fnb (F:Nat→Prop) (s z:Nat):Prop:=F z∨z=s
/-- The program's node M (all its own in F), the document's N in the box s. -/
structure SpS (W:World) (B n k:Nat) (x:Nat→UInt8) (g gc gd s:Nat) (F:Nat→Prop) (M N:Nd) (gv b:Nat) (rv:Value) (gc0 cc cl ck m c:Nat) (A1 A2 A:Option Addr) (cs:List (Value × List UInt8)) (ls:List (Nat × (Value × List UInt8))) (ps:List (Rp × Value)) (wr:World):Prop where
 sv:SvR wr F B n k x g gc gd gv b rv M
 rs:RsR wr (Fnb F s) N (.slice (some ⟨gc0,0,none⟩) N.V.D.cells.length cc) (.slice A1 N.V.D.loose.length cl) (.slice A2 N.V.L.length ck) cs ls A m c ps
 far:∀ z,F z→z < wr.heap.size∧¬ z=s
 bx:BxR wr s (.int .i64 (n:Int)) (.int .i64 (k:Int)) (.int .i64 (N.V.D.size:Int)) (.slice (some ⟨gc0,0,none⟩) N.V.D.cells.length cc) (.slice A1 N.V.D.loose.length cl) (.int .i64 (N.V.D.syncs:Int)) (.slice A2 N.V.L.length ck) (.slice A m c) (.int .u64 (N.done:Int))
 kp:Kp No W wr
 sB:B≤s
 wB:W.heap.size≤B
section
variable {W wr w1:World} {B n k g gc gd s gv b gv1 b1 gc0 cc cl ck m c gc1 cc1 cl1 ck1 m1 c1:Nat} {x:Nat→UInt8} {F F1:Nat→Prop} {M N M1 N1:Nd} {rv rv1:Value} {A1 A2 A A3 A4 A5:Option Addr} {cs cs1:List (Value × List UInt8)} {ls ls1:List (Nat × (Value × List UInt8))} {ps ps1:List (Rp × Value)}
theorem SpS.no (h:SpS W B n k x g gc gd s F M N gv b rv gc0 cc cl ck m c A1 A2 A cs ls ps wr) (hk:Kp No wr w1):SpS W B n k x g gc gd s F M N gv b rv gc0 cc cl ck m c A1 A2 A cs ls ps w1 :=
 ⟨h.sv.no hk,h.rs.no hk,fun z f=>⟨Nat.lt_of_lt_of_le (h.far z f).1 hk.size,(h.far z f).2⟩,h.bx.no hk,h.kp.trans' hk,h.sB,h.wB⟩
theorem SpS.mid (h:SpS W B n k x g gc gd s F M N gv b rv gc0 cc cl ck m c A1 A2 A cs ls ps wr) (hk:Kp F wr w1):Kp No W w1:=h.kp.trans (hk.mono fun z f=>.inr (Nat.le_trans h.wB (h.sv.fb z f)))
/-- The program has acted. -/
theorem SpS.prog (h:SpS W B n k x g gc gd s F M N gv b rv gc0 cc cl ck m c A1 A2 A cs ls ps wr) (hs:SvR w1 F1 B n k x g gc gd gv1 b1 rv1 M1) (hF:∀ z,F1 z→Up F wr z) (hk:Kp F wr w1) :
  SpS W B n k x g gc gd s (fun z=>F1 z∧z < w1.heap.size) M1 N gv1 b1 rv1 gc0 cc cl ck m c A1 A2 A cs ls ps w1:=by
 have hl:=h.bx.lt
 refine ⟨hs.lt,h.rs.step (hk.mono fun z f=>.inl f) fun z f=>?_,fun z f=>⟨f.2,fun e=>?_⟩,h.bx.keep hk fun f=>(h.far s f).2 rfl,h.mid hk,h.sB,h.wB⟩
 ·rcases f with f | f
  ·exact ⟨(hF z f.1).imp (fun f=>.inl f) fun f=>f,f.2⟩
  ·subst f
   exact ⟨.inl (.inr rfl),Nat.lt_of_lt_of_le hl hk.size⟩
 ·subst e
  rcases hF z f.1 with f | f
  ·exact (h.far z f).2 rfl
  ·omega
/-- The document has acted, and its node is written to the box. -/
theorem SpS.doc (h:SpS W B n k x g gc gd s F M N gv b rv gc0 cc cl ck m c A1 A2 A cs ls ps wr) (hr:RsR w1 (Fnb F s) N1 (.slice (some ⟨gc1,0,none⟩) N1.V.D.cells.length cc1) (.slice A3 N1.V.D.loose.length cl1) (.slice A4 N1.V.L.length ck1) cs1 ls1 A5 m1 c1 ps1) (hk:Kp No wr w1) :
  SpS W B n k x g gc gd s F M N1 gv b rv gc1 cc1 cl1 ck1 m1 c1 A3 A4 A5 cs1 ls1 ps1 (((((((((w1.setCell ⟨s,0,none⟩ (.int .i64 (n:Int))).setCell ⟨s,1,none⟩ (.int .i64 (k:Int))).setCell ⟨s,2,none⟩ (.int .i64 (N1.V.D.size:Int))).setCell ⟨s,3,none⟩ (.slice (some ⟨gc1,0,none⟩) N1.V.D.cells.length cc1)).setCell ⟨s,4,none⟩ (.slice A3 N1.V.D.loose.length cl1)).setCell ⟨s,5,none⟩ (.int .i64 (N1.V.D.syncs:Int))).setCell ⟨s,6,none⟩ (.slice A4 N1.V.L.length ck1)).setCell ⟨s,7,none⟩ (.slice A5 m1 c1)).setCell ⟨s,8,none⟩ (.int .u64 (N1.done:Int))):=by
 have K:=kp9 (S:=fun z=>z=s) w1 s (.int .i64 (n:Int)) (.int .i64 (k:Int)) (.int .i64 (N1.V.D.size:Int)) (.slice (some ⟨gc1,0,none⟩) N1.V.D.cells.length cc1) (.slice A3 N1.V.D.loose.length cl1) (.int .i64 (N1.V.D.syncs:Int)) (.slice A4 N1.V.L.length ck1) (.slice A5 m1 c1) (.int .u64 (N1.done:Int)) rfl
 have h1:=h.no hk
 exact ⟨h1.sv.keep K (fun z _ f e=>(h.far z f).2 e) fun z e=>e ▸ h.sB,hr.keep K fun z _ hn e=>hn (.inr e),fun z f=>⟨Nat.lt_of_lt_of_le (h1.far z f).1 K.size,(h.far z f).2⟩,h1.bx.all _ _ _ _ _ _ _ _ _,h1.kp.trans (K.mono fun z e=>.inr (by have:=h.sB; have:=h.wB; omega)),h.sB,h.wB⟩
end
/-- A byte of the disk has turned. -/
def Nd.spoil (N:Nd) (z a:Int) (y:UInt8):Nd:=⟨⟨N.V.D.spoil z a y,N.V.L⟩,N.sn,N.done⟩
theorem Dk.spoil_len (D:Dk) (z a:Int) (y:UInt8):(D.spoil z a y).cells.length=D.cells.length∧(D.spoil z a y).size=D.size∧(D.spoil z a y).loose=D.loose∧(D.spoil z a y).syncs=D.syncs:=by
 unfold Dk.spoil
 split
 ·exact ⟨by simp,rfl,rfl,rfl⟩
 ·exact ⟨rfl,rfl,rfl,rfl⟩
theorem NdS.spoil {c z m:Nat} {N:Nd} (h:NdS c z m N) (u v:Int) (y:UInt8):NdS c z (m+1) (N.spoil u v y):=by
 obtain ⟨e1,e2,e3,e4⟩:=N.V.D.spoil_len u v y
 exact ⟨e1.trans h.n,e2.trans h.z,by show (N.V.D.spoil u v y).loose.length≤_; rw [e3]; have:=h.l; omega,by show (N.V.D.spoil u v y).syncs≤_; rw [e4]; have:=h.s; omega,Nat.le_succ_of_le h.d⟩
section
variable {W wr w1:World} {B n k g gc gd s gv b gc0 cc cl ck m c gc1 cc1 cl1:Nat} {x:Nat→UInt8} {F:Nat→Prop} {M N:Nd} {rv:Value} {A1 A2 A A3:Option Addr} {cs cs1:List (Value × List UInt8)} {ls ls1:List (Nat × (Value × List UInt8))} {ps:List (Rp × Value)} {u v:Int} {y:UInt8}
theorem SpS.spoil (h:SpS W B n k x g gc gd s F M N gv b rv gc0 cc cl ck m c A1 A2 A cs ls ps wr) (hd:DkAt w1 (Up (Fd (Fsv F g rv) gv b) wr) gd (M.V.D.spoil u v y)) (hk:Kp (Fd (Fsv F g rv) gv b) wr w1) :
  SpS W B n k x g gc gd s (fun z=>Up F wr z∧z < w1.heap.size) (M.spoil u v y) N gv b rv gc0 cc cl ck m c A1 A2 A cs ls ps w1:=by
 have hv:=h.sv.vt.disk (M.V.D.spoil_len u v y).1 hd hk
 have hk1:Kp (Fsv F g rv) wr w1:=hk.mono fun z f=>f.1
 exact h.prog (h.sv.vault hv hk1) (fun z f=>f) (hk1.mono fun z f=>f.1)
theorem SpS.docD (h:SpS W B n k x g gc gd s F M N gv b rv gc0 cc cl ck m c A1 A2 A cs ls ps wr) (hr:RfR w1 (Fnb F s) (N.V.D.spoil u v y) (.slice (some ⟨gc1,0,none⟩) (N.V.D.spoil u v y).cells.length cc1) (.slice A3 (N.V.D.spoil u v y).loose.length cl1) cs1 ls1) (hk:Kp No wr w1) :
  SpS W B n k x g gc gd s F M (N.spoil u v y) gv b rv gc1 cc1 cl1 ck m c A3 A2 A cs1 ls1 ps ((((w1.setCell ⟨s,2,none⟩ (.int .i64 ((N.V.D.spoil u v y).size:Int))).setCell ⟨s,3,none⟩ (.slice (some ⟨gc1,0,none⟩) (N.V.D.spoil u v y).cells.length cc1)).setCell ⟨s,4,none⟩ (.slice A3 (N.V.D.spoil u v y).loose.length cl1)).setCell ⟨s,5,none⟩ (.int .i64 ((N.V.D.spoil u v y).syncs:Int))):=by
 have K:=kpD (S:=fun z=>z=s) w1 s (.int .i64 ((N.V.D.spoil u v y).size:Int)) (.slice (some ⟨gc1,0,none⟩) (N.V.D.spoil u v y).cells.length cc1) (.slice A3 (N.V.D.spoil u v y).loose.length cl1) (.int .i64 ((N.V.D.spoil u v y).syncs:Int)) rfl
 have h1:=h.no hk
 have hrs:RsR w1 (Fnb F s) (N.spoil u v y) (.slice (some ⟨gc1,0,none⟩) (N.V.D.spoil u v y).cells.length cc1) (.slice A3 (N.V.D.spoil u v y).loose.length cl1) (.slice A2 N.V.L.length ck) cs1 ls1 A m c ps:=⟨⟨hr,h1.rs.rv.kn,h1.rs.rv.ok.disk hr.ok (N.V.D.spoil_len u v y).1⟩,h1.rs.se,h1.rs.eq⟩
 exact ⟨h1.sv.keep K (fun z _ f e=>(h.far z f).2 e) fun z e=>e ▸ h.sB,hrs.keep K fun z _ hn e=>hn (.inr e),fun z f=>⟨Nat.lt_of_lt_of_le (h1.far z f).1 K.size,(h.far z f).2⟩,h1.bx.dsk _ _ _ _,h1.kp.trans (K.mono fun z e=>.inr (by have:=h.sB; have:=h.wB; omega)),h.sB,h.wB⟩
/-- The begin. -/
theorem SpS.begin (hs:SvR wr F B n k x g gc gd gv b rv M) (hr:RsR wr F N (.slice (some ⟨gc0,0,none⟩) N.V.D.cells.length cc) (.slice A1 N.V.D.loose.length cl) (.slice A2 N.V.L.length ck) cs ls A m c ps) (hk:Kp No W wr) (hB:W.heap.size≤B) :
  SpS W B n k x g gc gd wr.heap.size F M N gv b rv gc0 cc cl ck m c A1 A2 A cs ls ps (wr.alloc (.cells #[.int .i64 (n:Int),.int .i64 (k:Int),.int .i64 (N.V.D.size:Int),.slice (some ⟨gc0,0,none⟩) N.V.D.cells.length cc,.slice A1 N.V.D.loose.length cl,.int .i64 (N.V.D.syncs:Int),.slice A2 N.V.L.length ck,.slice A m c,.int .u64 (N.done:Int)] 46)):=by
 have K:=Kp.alloc No wr (.cells #[.int .i64 (n:Int),.int .i64 (k:Int),.int .i64 (N.V.D.size:Int),.slice (some ⟨gc0,0,none⟩) N.V.D.cells.length cc,.slice A1 N.V.D.loose.length cl,.int .i64 (N.V.D.syncs:Int),.slice A2 N.V.L.length ck,.slice A m c,.int .u64 (N.done:Int)] 46)
 have hb:=BxR.new wr (.int .i64 (n:Int)) (.int .i64 (k:Int)) (.int .i64 (N.V.D.size:Int)) (.slice (some ⟨gc0,0,none⟩) N.V.D.cells.length cc) (.slice A1 N.V.D.loose.length cl) (.int .i64 (N.V.D.syncs:Int)) (.slice A2 N.V.L.length ck) (.slice A m c) (.int .u64 (N.done:Int))
 have hl:=hb.lt
 refine ⟨hs.no K,hr.step (K.of_no F) fun z f=>?_,fun z f=>⟨?_,fun e=>?_⟩,hb,hk.trans' K,hs.cd.bw,hB⟩
 ·rcases f with f | f
  ·exact ⟨.inl f,by have:=hr.rv.rf.bd z f; omega⟩
  ·subst f
   exact ⟨.inr (Nat.le_refl _),hl⟩
 ·have:=hr.rv.rf.bd z f
  omega
 ·have:=hr.rv.rf.bd z f
  omega
end
/-- Block b is an act, thirteen cells. -/
def BxA (w:World) (b:Nat) (d:ActS) (Aq:Option Addr) (mq cq:Nat) (A:Option Addr) (m c:Nat):Prop:=w.heap[b]?=some (.cells #[.int .i64 d.kind,.int .u64 (d.q.num:Int),.int .i64 d.q.kind,.int .u32 (cO d.q.s:Int),.int .u16 (cS d.q.s:Int),.int .u16 (cL d.q.s:Int),.int .u32 (cG d.q.s:Int),.int .u16 (d.q.lost:Int),.slice Aq mq cq,.slice A m c,.int .i64 d.n,.int .i64 d.m,.int .u8 (d.bits.toNat:Int)] 58 (0,0))
/-- The act's box beside the nodes. -/
structure SpA (F:Nat→Prop) (s sa:Nat) (d:ActS) (Aq:Option Addr) (mq cq:Nat) (A:Option Addr) (m c:Nat) (w:World):Prop where
 ba:BxA w sa d Aq mq cq A m c
 fa:∀ z,F z→¬ z=sa
 ne:¬ sa=s
section
variable {w w1:World} {F F1 S:Nat→Prop} {s sa mq cq m c:Nat} {d:ActS} {Aq A:Option Addr}
theorem BxA.lt (h:BxA w sa d Aq mq cq A m c):sa < w.heap.size:=(Array.getElem?_eq_some_iff.1 h).1
theorem BxA.keep (h:BxA w sa d Aq mq cq A m c) (hk:Kp S w w1) (hb:¬ S sa):BxA w1 sa d Aq mq cq A m c:=(hk.block sa h.lt hb).trans h
theorem BxA.cell (h:BxA w sa d Aq mq cq A m c):w.cell? ⟨sa,0,none⟩=some (.int .i64 d.kind)∧w.cell? ⟨sa,1,none⟩=some (.int .u64 (d.q.num:Int))∧w.cell? ⟨sa,2,none⟩=some (.int .i64 d.q.kind)∧w.cell? ⟨sa,3,none⟩=some (.int .u32 (cO d.q.s:Int))∧w.cell? ⟨sa,4,none⟩=some (.int .u16 (cS d.q.s:Int))∧w.cell? ⟨sa,5,none⟩=some (.int .u16 (cL d.q.s:Int))∧w.cell? ⟨sa,6,none⟩=some (.int .u32 (cG d.q.s:Int))∧w.cell? ⟨sa,7,none⟩=some (.int .u16 (d.q.lost:Int))∧w.cell? ⟨sa,8,none⟩=some (.slice Aq mq cq)∧w.cell? ⟨sa,9,none⟩=some (.slice A m c)∧w.cell? ⟨sa,10,none⟩=some (.int .i64 d.n)∧w.cell? ⟨sa,11,none⟩=some (.int .i64 d.m)∧w.cell? ⟨sa,12,none⟩=some (.int .u8 (d.bits.toNat:Int)):=by
 refine ⟨?_,?_,?_,?_,?_,?_,?_,?_,?_,?_,?_,?_,?_⟩ <;> (rw [cell_of_row w sa _ _ _ _ h]; rfl)
theorem SpA.new (hF:∀ z,F z→z < w.heap.size) (hs:s < w.heap.size):SpA F s w.heap.size d Aq mq cq A m c (w.alloc (.cells #[.int .i64 d.kind,.int .u64 (d.q.num:Int),.int .i64 d.q.kind,.int .u32 (cO d.q.s:Int),.int .u16 (cS d.q.s:Int),.int .u16 (cL d.q.s:Int),.int .u32 (cG d.q.s:Int),.int .u16 (d.q.lost:Int),.slice Aq mq cq,.slice A m c,.int .i64 d.n,.int .i64 d.m,.int .u8 (d.bits.toNat:Int)] 58)) :=
 ⟨heap_alloc_new w _,fun z f=>by have:=hF z f; omega,by omega⟩
theorem SpA.no (h:SpA F s sa d Aq mq cq A m c w) (hk:Kp No w w1):SpA F s sa d Aq mq cq A m c w1:=⟨h.ba.keep hk fun f=>f,h.fa,h.ne⟩
theorem SpA.prog (h:SpA F s sa d Aq mq cq A m c w) (hF:∀ z,F1 z→Up F w z) (hk:Kp F w w1):SpA (fun z=>F1 z∧z < w1.heap.size) s sa d Aq mq cq A m c w1 :=
 ⟨h.ba.keep hk fun f=>h.fa _ f rfl,fun z f e=>by
  subst e
  rcases hF z f.1 with f | f
  ·exact h.fa z f rfl
  ·have:=h.ba.lt
   omega,h.ne⟩
theorem SpA.doc (h:SpA F s sa d Aq mq cq A m c w) (hk:Kp (fun z=>z=s) w w1):SpA F s sa d Aq mq cq A m c w1:=⟨h.ba.keep hk h.ne,h.fa,h.ne⟩
end
/-- An act's bytes lie outside. -/
theorem SpS.bt {W wr:World} {B n k g gc gd s gv b gc0 cc cl ck m c mb cb:Nat} {x:Nat→UInt8} {F:Nat→Prop} {M N:Nd} {rv:Value} {A1 A2 A Ab:Option Addr} {cs:List (Value × List UInt8)} {ls:List (Nat × (Value × List UInt8))} {ps:List (Rp × Value)} {bs:List UInt8} (h:SpS W B n k x g gc gd s F M N gv b rv gc0 cc cl ck m c A1 A2 A cs ls ps wr) (hb:Bts W (.slice Ab mb cb) bs) (hr:mb≤cb):BtF wr (Fnb F s) (.slice Ab mb cb) bs:=by
 have h1:BtF W (fun _=>False) (.slice Ab mb cb) bs:=BtF.mk_ hb (fun _ _ _ f=>f) fun A' n' c' e=>by
  injection e with e1 e2 e3
  omega
 refine BtF.mk_ (hb.no h.kp) (fun hne z hz f=>?_) fun A' n' c' e=>by
  injection e with e1 e2 e3
  omega
 have hl:=(h1.far hne z hz).2
 have hw:=h.wB
 rcases f with f | rfl
 ·have:=h.sv.fb z f
  omega
 ·have:=h.sB
  omega
/-- What is new lies outside. -/
theorem SpS.bn {W wr w1:World} {B n k g gc gd s gv b gc0 cc cl ck m c mb cb:Nat} {x:Nat→UInt8} {F:Nat→Prop} {M N:Nd} {rv:Value} {A1 A2 A Ab:Option Addr} {cs:List (Value × List UInt8)} {ls:List (Nat × (Value × List UInt8))} {ps:List (Rp × Value)} {bs:List UInt8} (h:SpS W B n k x g gc gd s F M N gv b rv gc0 cc cl ck m c A1 A2 A cs ls ps wr) (hb:Own w1 wr.heap.size 5 (.slice Ab mb cb) bs):BtF w1 (Fnb F s) (.slice Ab mb cb) bs :=
 BtF.new hb fun z f=>f.elim (fun f=>(h.far z f).1) fun f=>by subst f; exact h.bx.lt
def SpE (W:World) (B n k:Nat) (x:Nat→UInt8) (g gc gd s many j:Nat) (wr:World):Prop :=
 ∃ F N gv b rv gc0 cc cl ck m c A1 A2 A cs ls ps,SpS W B n k x g gc gd s F N N gv b rv gc0 cc cl ck m c A1 A2 A cs ls ps wr∧NdS many 200 j N
theorem SpE.kp {W wr:World} {B n k g gc gd s many j:Nat} {x:Nat→UInt8} (h:SpE W B n k x g gc gd s many j wr):Kp No W wr:=by
 obtain ⟨F,N,gv,b,rv,gc0,cc,cl,ck,m,c,A1,A2,A,cs,ls,ps,h,_⟩:=h
 exact h.kp
end Go.Proofs.YtnfcfdhlmeimhaaGreat
