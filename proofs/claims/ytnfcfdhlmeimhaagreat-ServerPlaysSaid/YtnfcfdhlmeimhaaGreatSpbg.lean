/- The document's Begin of layer 12, as a contract over memory. -/
import Derived.Test.YtnfcfdhlmeimhaaGreatSpbf
import Derived.Deep.DeepCutAuto
namespace Go.Proofs.YtnfcfdhlmeimhaaGreat
open Go.RowKit
set_option linter.unusedVariables false
set_option linter.unusedSimpArgs false
set_option maxRecDepth 20000
/-- F, and the result's cell. -/
def Fz (F:Nat→Prop) (s0 k:Nat):Prop:=F k∨k=s0+2
theorem RfR.plus {w w1:World} {F:Nat→Prop} {D:Dk} {vc vl:Value} {cs:List (Value × List UInt8)} {ls:List (Nat × (Value × List UInt8))} {b:Nat} (h:RfR w F D vc vl cs ls) (hk:Kp No w w1) (h1:w.heap.size≤b) (h2:b < w1.heap.size):RfR w1 (fun k=>F k∨k=b) D vc vl cs ls :=
 h.step (hk.of_no F) fun k hk'=>by
  rcases hk' with f | rfl
  ·exact ⟨.inl f,Nat.lt_of_lt_of_le (h.bd k f) hk.size⟩
  ·exact ⟨.inr h1,h2⟩
theorem kpU4 {S:Nat→Prop} (w:World) (b:Nat) (u0 u1 u2 u3:Value) (hb:S b):Kp S w ((((w.setCell ⟨b,0,none⟩ u0).setCell ⟨b,1,none⟩ u1).setCell ⟨b,2,none⟩ u2).setCell ⟨b,3,none⟩ u3):=kp4 w b u0 u1 u2 u3 hb
theorem Nws.keep {w w1:World} {ad:Addr} {m sz:Nat} {cs:List Value} {S:Nat→Prop} (h:Nws w ad m sz cs) (hk:Kp S w w1) (hS:¬ S ad.block):Nws w1 ad m sz cs:=⟨h.len,fun j u hj=>hk.cell (h.at_ j u hj) (by rw [blk_add]; exact hS),h.one⟩
/-- A vault's box, whatever it holds. -/
def Zx (w:World) (s:Nat):Prop:=∃ z0 z1 z2 z3 z4,Bx5 w s z0 z1 z2 z3 z4
theorem Zx.keep {w w1:World} {s:Nat} {S:Nat→Prop} (h:Zx w s) (hk:Kp S w w1) (hs:¬ S s):Zx w1 s:=by
 obtain ⟨z0,z1,z2,z3,z4,h⟩:=h
 exact ⟨z0,z1,z2,z3,z4,h.keep hk hs⟩
/-- The vault's box, the name's, and the result's cell. -/
structure BgS (w:World) (x0 x1 x2 x3 x4:Value) (s s0:Nat) (wr:World):Prop where
 bv:Bx5 wr s0 x0 x1 x2 x3 x4
 bs:Box4 wr (s0+1) (.int .u32 (cO s:Int)) (.int .u16 (cS s:Int)) (.int .u16 (cL s:Int)) (.int .u32 (cG s:Int))
 bz:Bx5 wr (s0+2) (.int .i64 0) (.slice none 0 0) (.slice none 0 0) (.int .i64 0) (.slice none 0 0)
 kp:Kp No w wr
 sl:w.heap.size≤s0
theorem BgS.no {w wr w1:World} {x0 x1 x2 x3 x4:Value} {s s0:Nat} (h:BgS w x0 x1 x2 x3 x4 s s0 wr) (hk:Kp No wr w1):BgS w x0 x1 x2 x3 x4 s s0 w1:=⟨h.bv.no hk,h.bs.keep hk fun f=>f,h.bz.no hk,h.kp.trans' hk,h.sl⟩
theorem BgS.begin (w:World) (x0 x1 x2 x3 x4:Value) (s:Nat):BgS w x0 x1 x2 x3 x4 s w.heap.size (((w.alloc (.cells #[x0,x1,x2,x3,x4] 42)).alloc (.cells #[.int .u32 (cO s:Int),.int .u16 (cS s:Int),.int .u16 (cL s:Int),.int .u32 (cG s:Int)] 53)).alloc (.cells #[.int .i64 0,.slice none 0 0,.slice none 0 0,.int .i64 0,.slice none 0 0] 42)):=by
 have k1:=fun (w:World) (o:Obj)=>Kp.alloc No w o
 have e1:∀ (w:World) (o:Obj),(w.alloc o).heap.size=w.heap.size+1:=fun w o=>by simp
 refine ⟨((Bx5.new w x0 x1 x2 x3 x4).no (k1 _ _)).no (k1 _ _),?_,?_,((k1 w _).trans' (k1 _ _)).trans' (k1 _ _),Nat.le_refl _⟩
 ·have:=(Bx4.new (w.alloc (.cells #[x0,x1,x2,x3,x4] 42)) (.int .u32 (cO s:Int)) (.int .u16 (cS s:Int)) (.int .u16 (cL s:Int)) (.int .u32 (cG s:Int))).keep (k1 _ (.cells #[.int .i64 0,.slice none 0 0,.slice none 0 0,.int .i64 0,.slice none 0 0] 42)) fun f=>f
  rw [e1] at this
  exact this
 ·have:=Bx5.new ((w.alloc (.cells #[x0,x1,x2,x3,x4] 42)).alloc (.cells #[.int .u32 (cO s:Int),.int .u16 (cS s:Int),.int .u16 (cL s:Int),.int .u32 (cG s:Int)] 53)) (.int .i64 0) (.slice none 0 0) (.slice none 0 0) (.int .i64 0) (.slice none 0 0)
  rw [e1,e1] at this
  exact this
theorem fre_eq {n k:Nat} {L:List (Nat × Nat)} (hk:k < n) (h1:∀ j,j < k→usd L j=true) (h2:usd L k=false):fre n L=k:=by
 rcases Nat.lt_trichotomy (fre n L) k with g | g | g
 ·have:=fre_lt (L:=L) (n:=n) (by omega)
  rw [h1 _ g] at this
  cases this
 ·exact g
 ·have:=fre_before (L:=L) (n:=n) g
  rw [h2] at this
  cases this
theorem fre_end {n:Nat} {L:List (Nat × Nat)} (h1:∀ j,j < n→usd L j=true):fre n L=n:=by
 have h:=fre_le (L:=L) (n:=n)
 rcases Nat.lt_or_ge (fre n L) n with g | g
 ·have:=fre_lt g
  rw [h1 _ g] at this
  cases this
 ·omega
theorem usd_next {L:List (Nat × Nat)} {m k:Nat} {p:Nat × Nat} (h:L[m]?=some p):usd (L.take (m+1)) k=(usd (L.take m) k || (p.1 == k)):=by
 rw [take_more h]
 unfold usd
 simp
/-- What stands there behind the write. -/
structure BgX (w wx:World) (F:Nat→Prop) (D2:Dk) (vc2 vl2:Value) (cs2:List (Value × List UInt8)) (ls2:List (Nat × (Value × List UInt8))) (L:List (Nat × Nat)) (k s s0:Nat):Prop where
 rf:RfR wx (Fz F s0) D2 vc2 vl2 cs2 ls2
 kp:Kp No w wx
 sl:w.heap.size≤s0
 s2:Bx5 wx (s0+2) (.int .i64 0) (.slice none 0 0) (.slice none 0 0) (.int .i64 0) (.slice none 0 0)
 bd:∀ q,F q→q < w.heap.size
 ok:(Vt.mk D2 (L ++ [(k,s)])).Ok
theorem BgX.fin {w wx w5:World} {F:Nat→Prop} {D2:Dk} {vc2 vl2:Value} {cs2:List (Value × List UInt8)} {ls2:List (Nat × (Value × List UInt8))} {L:List (Nat × Nat)} {k s s0 b n5 c5:Nat} {A5:Option Addr} (h:BgX w wx F D2 vc2 vl2 cs2 ls2 L k s s0) (hk:Kp (fun q=>q=s0+2) wx w5)
  (ho:OwnT w5 b 149 5 (.slice A5 n5 c5) (L.length+1) (knC L ++ [.int .i64 (k:Int),.int .u32 (cO s:Int),.int .u16 (cS s:Int),.int .u16 (cL s:Int),.int .u32 (cG s:Int)])) (hge:∀ q,(Value.slice A5 n5 c5).ownBlock=some q→wx.heap.size≤q) :
  RvAt (((((w5.setCell ⟨(s0+2),0,none⟩ (.int .i64 (D2.size:Int))).setCell ⟨(s0+2),1,none⟩ vc2).setCell ⟨(s0+2),2,none⟩ vl2).setCell ⟨(s0+2),3,none⟩ (.int .i64 (D2.syncs:Int))).setCell ⟨(s0+2),4,none⟩ (.slice A5 n5 c5)) F ⟨D2,L ++ [(k,s)]⟩ (rvV D2 vc2 vl2 (.slice A5 n5 c5))∧Kp No w (((((w5.setCell ⟨(s0+2),0,none⟩ (.int .i64 (D2.size:Int))).setCell ⟨(s0+2),1,none⟩ vc2).setCell ⟨(s0+2),2,none⟩ vl2).setCell ⟨(s0+2),3,none⟩ (.int .i64 (D2.syncs:Int))).setCell ⟨(s0+2),4,none⟩ (.slice A5 n5 c5)):=by
 have K:=hk.trans' (kp5 (S:=fun q=>q=s0+2) w5 (s0+2) (.int .i64 (D2.size:Int)) vc2 vl2 (.int .i64 (D2.syncs:Int)) (.slice A5 n5 c5) rfl)
 refine ⟨⟨_,_,_,cs2,ls2,rfl,⟨?_,⟨?_,fun q e hF=>?_⟩,h.ok⟩⟩,h.kp.trans (K.mono fun q e=>.inr (by subst e; exact Nat.le_trans h.sl (Nat.le_add_right _ _)))⟩
 ·exact (h.rf.keep K fun q _ hn e=>hn (.inr e)).less fun q hq=>.inl hq
 ·rw [List.length_append,knC_append]
  refine ownT_base0 (ho.keep (kp5 (S:=fun q=>q=s0+2) w5 (s0+2) (.int .i64 (D2.size:Int)) vc2 vl2 (.int .i64 (D2.syncs:Int)) (.slice A5 n5 c5) rfl) fun q e e2=>?_)
  have:=hge q e
  have:=h.s2.lt
  omega
 ·have:=hge q e
  have:=h.bd q hF
  have:=h.kp.size
  omega
set_option maxHeartbeats 8000000 in
theorem rbegin12_any {w:World} {F:Nat→Prop} {V:Vt} {v:Value} {s n1 c1:Nat} {A1:Option Addr} {bs:List UInt8} (h:RvAt w F V v) (hs:s < N96) (hb:Bts w (.slice A1 n1 c1) bs) (hn1:n1≤9223372036854775000) (hL:V.D.loose.length+2≤1000000) :
  Calls Tryz.prog 45 #[v,shV s,.slice A1 n1 c1] w (RvPost w F (V.bg s bs) (tupE (V.bgE s bs))):=by
 obtain ⟨vc,vl,vk,cs,ls,rfl,h⟩:=h
 obtain ⟨gc,cc,A,cl,A2,ck,rfl,rfl,rfl⟩:=h.forms
 have HS0:=hide (BgS.begin w (.int .i64 (V.D.size:Int)) (.slice (some ⟨gc,0,none⟩) V.D.cells.length cc) (.slice A V.D.loose.length cl) (.int .i64 (V.D.syncs:Int)) (.slice A2 V.L.length ck) s)
 have HH:=hide h
 have HSN:=hide hs
 have HB:=hide hb
 have HBL:=hide hb.len
 have hc1:=h.ok.dk.n1
 have hsz:=h.ok.dk.s1
 have hLL:V.L.length≤1024:=Nat.le_trans h.ok.kn.len hc1
 have HLN:=hide hLL
 obtain ⟨E,hE⟩:∃ E,E=V.bgE s bs:=⟨_,rfl⟩
 obtain ⟨V2,hV2⟩:∃ V2,V2=V.bg s bs:=⟨_,rfl⟩
 rw [← hE,← hV2]
 have HEE:=hide hE
 have HV2:=hide hV2
 clear h hb hE hV2
 unfold rvV
 go_enter Tryz.func45,Tryz.ntmps45
 go_upto_region 1 with fail
 generalize (((w.alloc (.cells #[.int .i64 (V.D.size:Int),.slice (some ⟨gc,0,none⟩) V.D.cells.length cc,.slice A V.D.loose.length cl,.int .i64 (V.D.syncs:Int),.slice A2 V.L.length ck] 42)).alloc (.cells #[.int .u32 (cO s:Int),.int .u16 (cS s:Int),.int .u16 (cL s:Int),.int .u32 (cG s:Int)] 53)).alloc (.cells #[.int .i64 0,.slice none 0 0,.slice none 0 0,.int .i64 0,.slice none 0 0] 42))=w0 at HS0 ⊢
 obtain ⟨s0,hs0⟩:∃ s0,s0=w.heap.size:=⟨_,rfl⟩
 rw [← hs0] at HS0 ⊢
 clear hs0
 obtain ⟨v0,v1,v2,v3,v4⟩:=HS0.out.bv.cell
 obtain ⟨b0,b1,b2,b3⟩:=HS0.out.bs.cell
 have hix:=rindex_any (x0:=.int .i64 (V.D.size:Int)) (x1:=.slice (some ⟨gc,0,none⟩) V.D.cells.length cc) (x2:=.slice A V.D.loose.length cl) (x3:=.int .i64 (V.D.syncs:Int)) (HH.out.kn.no HS0.out.kp) hs HH.out.ok.kn.nm rfl rfl rfl rfl
 have HIX:=hide hix
 clear hix
 by_cases hk:kn V.L s=true
 ·have hix:=HIX.out
  rw [ixZ_yes hk] at hix
  have HIX2:=hide hix
  obtain ⟨ix,hixe⟩:∃ ix,ix=ixl V.L s:=⟨_,rfl⟩
  rw [← hixe] at HIX2
  have hz:(0:Int)≤(ix:Int):=by omega
  have HE7:Hid (V.bgE s bs=7):=by show _=_; unfold Vt.bgE; rw [if_pos hk]
  clear hix hk hixe HIX
  go_wp2_with fail
  refine HIX2.out.mono ?_
  rintro e w1 ⟨rfl,k1⟩
  have HS:=hide (HS0.out.no k1)
  clear v0 v1 v2 v3 v4 b0 b1 b2 b3 k1 HIX2
  obtain ⟨v0,v1,v2,v3,v4⟩:=HS.out.bv.cell
  obtain ⟨z0,z1,z2,z3,z4⟩:=HS.out.bz.cell
  have f0:=HS.out.bz.frozen 0
  have f1:=HS.out.bz.frozen 1
  have f2:=HS.out.bz.frozen 2
  have f3:=HS.out.bz.frozen 3
  have f4:=HS.out.bz.frozen 4
  obtain ⟨r0,r1,r2,r3,r4⟩:=(HS.out.bz.all (.int .i64 (V.D.size:Int)) (.slice (some ⟨gc,0,none⟩) V.D.cells.length cc) (.slice A V.D.loose.length cl) (.int .i64 (V.D.syncs:Int)) (.slice A2 V.L.length ck)).cell
  have Kw:Kp No w (((((w1.setCell ⟨(s0+2),0,none⟩ (.int .i64 (V.D.size:Int))).setCell ⟨(s0+2),1,none⟩ (.slice (some ⟨gc,0,none⟩) V.D.cells.length cc)).setCell ⟨(s0+2),2,none⟩ (.slice A V.D.loose.length cl)).setCell ⟨(s0+2),3,none⟩ (.int .i64 (V.D.syncs:Int))).setCell ⟨(s0+2),4,none⟩ (.slice A2 V.L.length ck)):=HS.out.kp.trans (kp5 (S:=Up No w) w1 (s0+2) (.int .i64 (V.D.size:Int)) (.slice (some ⟨gc,0,none⟩) V.D.cells.length cc) (.slice A V.D.loose.length cl) (.int .i64 (V.D.syncs:Int)) (.slice A2 V.L.length ck) (.inr (Nat.le_trans HS.out.sl (Nat.le_add_right _ _))))
  have HF:=hide (show RvAt (((((w1.setCell ⟨(s0+2),0,none⟩ (.int .i64 (V.D.size:Int))).setCell ⟨(s0+2),1,none⟩ (.slice (some ⟨gc,0,none⟩) V.D.cells.length cc)).setCell ⟨(s0+2),2,none⟩ (.slice A V.D.loose.length cl)).setCell ⟨(s0+2),3,none⟩ (.int .i64 (V.D.syncs:Int))).setCell ⟨(s0+2),4,none⟩ (.slice A2 V.L.length ck)) F V (rvV V.D (.slice (some ⟨gc,0,none⟩) V.D.cells.length cc) (.slice A V.D.loose.length cl) (.slice A2 V.L.length ck)) from ⟨_,_,_,cs,ls,rfl,HH.out.no Kw⟩)
  have HKW:=hide Kw
  clear Kw
  go_wp2_with fail
  refine bodyPost_ret (v:=tupE 7 (rvV V.D (.slice (some ⟨gc,0,none⟩) V.D.cells.length cc) (.slice A V.D.loose.length cl) (.slice A2 V.L.length ck))) (by simp [results,Tryz.results45,go_sem,rvV,tupE,r0,r1,r2,r3,r4]) rfl ?_
  exact ⟨_,by rw [HEE.out,HE7.out],by rw [HV2.out,Vt.bg_no (by rw [HE7.out]; omega)]; exact HF.out,HKW.out⟩
 have hkf:kn V.L s=false:=by simpa using hk
 have hix:=HIX.out
 rw [ixZ_no hkf] at hix
 have HIX2:=hide hix
 have HKF:=hide hk
 clear hix hk hkf HIX
 go_wp2_with fail
 refine HIX2.out.mono ?_
 rintro e w1 ⟨rfl,k1⟩
 have HS:=hide (HS0.out.no k1)
 clear v0 v1 v2 v3 v4 b0 b1 b2 b3 k1 HIX2 HS0
 by_cases hbig:65524 < n1
 ·have hz:(65524:Int) < n1:=by omega
  have HE29:Hid (V.bgE s bs=29):=by show _=_; unfold Vt.bgE; rw [if_neg HKF.out,if_pos (.inl (by have:=HBL.out; omega))]
  obtain ⟨v0,v1,v2,v3,v4⟩:=HS.out.bv.cell
  obtain ⟨z0,z1,z2,z3,z4⟩:=HS.out.bz.cell
  have f0:=HS.out.bz.frozen 0
  have f1:=HS.out.bz.frozen 1
  have f2:=HS.out.bz.frozen 2
  have f3:=HS.out.bz.frozen 3
  have f4:=HS.out.bz.frozen 4
  obtain ⟨r0,r1,r2,r3,r4⟩:=(HS.out.bz.all (.int .i64 (V.D.size:Int)) (.slice (some ⟨gc,0,none⟩) V.D.cells.length cc) (.slice A V.D.loose.length cl) (.int .i64 (V.D.syncs:Int)) (.slice A2 V.L.length ck)).cell
  have Kw:Kp No w (((((w1.setCell ⟨(s0+2),0,none⟩ (.int .i64 (V.D.size:Int))).setCell ⟨(s0+2),1,none⟩ (.slice (some ⟨gc,0,none⟩) V.D.cells.length cc)).setCell ⟨(s0+2),2,none⟩ (.slice A V.D.loose.length cl)).setCell ⟨(s0+2),3,none⟩ (.int .i64 (V.D.syncs:Int))).setCell ⟨(s0+2),4,none⟩ (.slice A2 V.L.length ck)):=HS.out.kp.trans (kp5 (S:=Up No w) w1 (s0+2) (.int .i64 (V.D.size:Int)) (.slice (some ⟨gc,0,none⟩) V.D.cells.length cc) (.slice A V.D.loose.length cl) (.int .i64 (V.D.syncs:Int)) (.slice A2 V.L.length ck) (.inr (Nat.le_trans HS.out.sl (Nat.le_add_right _ _))))
  have HF:=hide (show RvAt (((((w1.setCell ⟨(s0+2),0,none⟩ (.int .i64 (V.D.size:Int))).setCell ⟨(s0+2),1,none⟩ (.slice (some ⟨gc,0,none⟩) V.D.cells.length cc)).setCell ⟨(s0+2),2,none⟩ (.slice A V.D.loose.length cl)).setCell ⟨(s0+2),3,none⟩ (.int .i64 (V.D.syncs:Int))).setCell ⟨(s0+2),4,none⟩ (.slice A2 V.L.length ck)) F V (rvV V.D (.slice (some ⟨gc,0,none⟩) V.D.cells.length cc) (.slice A V.D.loose.length cl) (.slice A2 V.L.length ck)) from ⟨_,_,_,cs,ls,rfl,HH.out.no Kw⟩)
  have HKW:=hide Kw
  clear Kw
  go_wp2_with fail
  refine bodyPost_ret (v:=tupE 29 (rvV V.D (.slice (some ⟨gc,0,none⟩) V.D.cells.length cc) (.slice A V.D.loose.length cl) (.slice A2 V.L.length ck))) (by simp [results,Tryz.results45,go_sem,rvV,tupE,r0,r1,r2,r3,r4]) rfl ?_
  exact ⟨_,by rw [HEE.out,HE29.out],by rw [HV2.out,Vt.bg_no (by rw [HE29.out]; omega)]; exact HF.out,HKW.out⟩
 have hz:¬ (65524:Int) < n1:=by omega
 by_cases hbig2:V.D.size < 24+n1
 ·have hz2:(V.D.size:Int) < 24+(n1:Int):=by omega
  have HE29:Hid (V.bgE s bs=29):=by show _=_; unfold Vt.bgE; rw [if_neg HKF.out,if_pos (.inr (by have:=HBL.out; omega))]
  obtain ⟨v0,v1,v2,v3,v4⟩:=HS.out.bv.cell
  obtain ⟨z0,z1,z2,z3,z4⟩:=HS.out.bz.cell
  have f0:=HS.out.bz.frozen 0
  have f1:=HS.out.bz.frozen 1
  have f2:=HS.out.bz.frozen 2
  have f3:=HS.out.bz.frozen 3
  have f4:=HS.out.bz.frozen 4
  obtain ⟨r0,r1,r2,r3,r4⟩:=(HS.out.bz.all (.int .i64 (V.D.size:Int)) (.slice (some ⟨gc,0,none⟩) V.D.cells.length cc) (.slice A V.D.loose.length cl) (.int .i64 (V.D.syncs:Int)) (.slice A2 V.L.length ck)).cell
  have Kw:Kp No w (((((w1.setCell ⟨(s0+2),0,none⟩ (.int .i64 (V.D.size:Int))).setCell ⟨(s0+2),1,none⟩ (.slice (some ⟨gc,0,none⟩) V.D.cells.length cc)).setCell ⟨(s0+2),2,none⟩ (.slice A V.D.loose.length cl)).setCell ⟨(s0+2),3,none⟩ (.int .i64 (V.D.syncs:Int))).setCell ⟨(s0+2),4,none⟩ (.slice A2 V.L.length ck)):=HS.out.kp.trans (kp5 (S:=Up No w) w1 (s0+2) (.int .i64 (V.D.size:Int)) (.slice (some ⟨gc,0,none⟩) V.D.cells.length cc) (.slice A V.D.loose.length cl) (.int .i64 (V.D.syncs:Int)) (.slice A2 V.L.length ck) (.inr (Nat.le_trans HS.out.sl (Nat.le_add_right _ _))))
  have HF:=hide (show RvAt (((((w1.setCell ⟨(s0+2),0,none⟩ (.int .i64 (V.D.size:Int))).setCell ⟨(s0+2),1,none⟩ (.slice (some ⟨gc,0,none⟩) V.D.cells.length cc)).setCell ⟨(s0+2),2,none⟩ (.slice A V.D.loose.length cl)).setCell ⟨(s0+2),3,none⟩ (.int .i64 (V.D.syncs:Int))).setCell ⟨(s0+2),4,none⟩ (.slice A2 V.L.length ck)) F V (rvV V.D (.slice (some ⟨gc,0,none⟩) V.D.cells.length cc) (.slice A V.D.loose.length cl) (.slice A2 V.L.length ck)) from ⟨_,_,_,cs,ls,rfl,HH.out.no Kw⟩)
  have HKW:=hide Kw
  clear Kw
  go_wp2_with fail
  refine bodyPost_ret (v:=tupE 29 (rvV V.D (.slice (some ⟨gc,0,none⟩) V.D.cells.length cc) (.slice A V.D.loose.length cl) (.slice A2 V.L.length ck))) (by simp [results,Tryz.results45,go_sem,rvV,tupE,r0,r1,r2,r3,r4]) rfl ?_
  exact ⟨_,by rw [HEE.out,HE29.out],by rw [HV2.out,Vt.bg_no (by rw [HE29.out]; omega)]; exact HF.out,HKW.out⟩
 have hz2:¬ (V.D.size:Int) < 24+(n1:Int):=by omega
 have HNB:Hid (¬ (65524 < bs.length∨V.D.size < 24+bs.length)):=by show ¬ _; have:=HBL.out; omega
 obtain ⟨v0,v1,v2,v3,v4⟩:=HS.out.bv.cell
 go_wp2_with fail
 clear hz hz2 hbig hbig2
 go_loopw [8] (fun iv wr=>∃ k:Nat,k≤V.D.cells.length∧iv=.int .i64 (k:Int)∧Hid (∀ j,j < k→usd V.L j=true)∧w1=wr) (fun iv _=>V.D.cells.length - (intOf iv).toNat)
 case atStart=>exact ⟨0,Nat.zero_le _,rfl,(fun j hj=>by omega),rfl⟩
 case round =>
  obtain ⟨k,hk,rfl,HQ,rfl⟩:=hrel
  by_cases hlt:k < V.D.cells.length
  ·have hlz:(k:Int) < V.D.cells.length:=by omega
   go_wp2_with fail
   go_loopw [9,10] (fun uv iv wr=>∃ m:Nat,m≤V.L.length∧iv=.int .i64 (m:Int)∧uv=.bool (usd (V.L.take m) k)∧w1=wr) (fun _ iv _=>V.L.length - (intOf iv).toNat)
   case atStart=>exact ⟨0,Nat.zero_le _,rfl,rfl,rfl⟩
   case round =>
    obtain ⟨m,hm,rfl,rfl,rfl⟩:=hrel
    by_cases hmt:m < V.L.length
    ·have hmz:(m:Int) < V.L.length:=by omega
     obtain ⟨p,hp⟩:∃ p,V.L[m]?=some p:=⟨_,List.getElem?_eq_getElem hmt⟩
     obtain ⟨gk,rfl,y0,_⟩:=(HH.out.kn.no HS.out.kp).cell hp
     have HU:=hide (usd_next (k:=k) hp)
     obtain ⟨u,hu⟩:∃ u,usd (V.L.take m) k=u:=⟨_,rfl⟩
     rw [hu] at HU ⊢
     clear hp hu
     rcases u with _ | _
     ·obtain ⟨r,hr⟩:∃ r,(p.1 == k)=r:=⟨_,rfl⟩
      have hrz:((p.1:Int) == (k:Int))=r:=by rw [← hr]; exact nat_beq _ _
      rw [hr] at HU
      go_wp2_with fail
      go_round
      case rel=>exact ⟨m+1,by omega,by go_num,by rw [HU.out]; simp,trivial⟩
      case measure=>simp [intOf]; omega
     ·go_wp2_with fail
      go_round
      case rel=>exact ⟨m+1,by omega,by go_num,by rw [HU.out]; simp,trivial⟩
      case measure=>simp [intOf]; omega
    ·obtain rfl:m=V.L.length:=by omega
     have hmz:¬ (V.L.length:Int) < V.L.length:=by omega
     rw [List.take_of_length_le (Nat.le_refl _)]
     rcases hu:usd V.L k with _ | _
     ·have hfre:V.free=k:=fre_eq hlt HQ.out hu
      have HE0':V.bgE s bs=0:=by unfold Vt.bgE; rw [if_neg HKF.out,if_neg HNB.out,if_pos (by rw [hfre]; exact hlt)]
      have HVB':=Vt.bg_yes HE0'
      have hput:=Vt.bg_put HE0'
      have hok2:=HH.out.ok.bg (b:=bs) HSN.out
      rw [HVB',hfre] at hok2
      rw [hfre] at HVB' hput
      rw [← HEE.out] at HE0'
      rw [← HV2.out] at HVB'
      have HE0:=hide HE0'
      have HRF:Hid (RfR w1 (Fz F s0) V.D (.slice (some ⟨gc,0,none⟩) V.D.cells.length cc) (.slice A V.D.loose.length cl) cs ls):=HH.out.rf.plus HS.out.kp (Nat.le_trans HS.out.sl (Nat.le_add_right _ _)) HS.out.bz.lt
      have HFR:Hid (∀ w',Kp No w1 w'→Calls Tryz.prog 85 #[shV s,.slice A1 n1 c1] w' (OwnPost w' (frV s bs))):=fun w' hk'=>rframe12_any HSN.out ((HB.out.no HS.out.kp).no hk') (by have:=HNB.out; omega)
      have HPT:Hid (∀ (F':Nat→Prop) w' A3 n3 c3,RfR w' F' V.D (.slice (some ⟨gc,0,none⟩) V.D.cells.length cc) (.slice A V.D.loose.length cl) cs ls→BtF w' F' (.slice A3 n3 c3) (frV s bs)→Calls Tryz.prog 84 #[rfV V.D (.slice (some ⟨gc,0,none⟩) V.D.cells.length cc) (.slice A V.D.loose.length cl),.int .i64 (k:Int),.slice A3 n3 c3] w' (RfPost w' F' (V.D.put (k:Int) (frV s bs)) (tupE 0))):=fun F' w' A3 n3 c3 hr hu=>by
       have hq:=rput_any ⟨_,_,_,_,rfl,hr⟩ hu hL (k:Int)
       rw [hput] at hq
       exact hq
      generalize hD2:V.D.put (k:Int) (frV s bs)=D2 at HVB' hok2 HPT
      have HVB:=hide HVB'
      have HOK2:=hide hok2
      unfold shV at HFR
      unfold rfV at HPT
      have hS:∀ w',Kp No w1 w'→Kp No w1 w'∧w'.cell? ⟨s0,0,none⟩=some (.int .i64 (V.D.size:Int))∧w'.cell? ⟨s0,1,none⟩=some (.slice (some ⟨gc,0,none⟩) V.D.cells.length cc)∧w'.cell? ⟨s0,2,none⟩=some (.slice A V.D.loose.length cl)∧w'.cell? ⟨s0,3,none⟩=some (.int .i64 (V.D.syncs:Int))∧w'.cell? ⟨s0+1,0,none⟩=some (.int .u32 (cO s:Int))∧w'.cell? ⟨s0+1,1,none⟩=some (.int .u16 (cS s:Int))∧w'.cell? ⟨s0+1,2,none⟩=some (.int .u16 (cL s:Int))∧w'.cell? ⟨s0+1,3,none⟩=some (.int .u32 (cG s:Int)):=fun w' hk'=>by
       obtain ⟨y0,y1,y2,y3,_⟩:=(HS.out.bv.no hk').cell
       obtain ⟨x0,x1,x2,x3⟩:=(HS.out.bs.keep hk' fun f=>f).cell
       exact ⟨hk',y0,y1,y2,y3,x0,x1,x2,x3⟩
      clear hput hfre HE0' HVB' hok2 hD2 hu v0 v2 v3
      go_upto_region 14 with fail
      go_cut [11,12] (fun p e wx=>∃ bx vc2 vl2 cs2 ls2,p=.pointer (some ⟨bx,0,none⟩)∧e=.int .i64 0∧BxD wx bx D2 vc2 vl2∧w1.heap.size≤bx∧RfR wx (Fz F s0) D2 vc2 vl2 cs2 ls2∧Kp No w1 wx)
      case first =>
       refine wp_region_noPanic ?_
       refine wp_region_held_drew (S:=fun w'=>Kp No w1 w'∧w'.cell? ⟨s0,0,none⟩=some (.int .i64 (V.D.size:Int))∧w'.cell? ⟨s0,1,none⟩=some (.slice (some ⟨gc,0,none⟩) V.D.cells.length cc)∧w'.cell? ⟨s0,2,none⟩=some (.slice A V.D.loose.length cl)∧w'.cell? ⟨s0,3,none⟩=some (.int .i64 (V.D.syncs:Int))∧w'.cell? ⟨s0+1,0,none⟩=some (.int .u32 (cO s:Int))∧w'.cell? ⟨s0+1,1,none⟩=some (.int .u16 (cS s:Int))∧w'.cell? ⟨s0+1,2,none⟩=some (.int .u16 (cL s:Int))∧w'.cell? ⟨s0+1,3,none⟩=some (.int .u32 (cG s:Int))) (by kernel_rfl) (hS _ (Kp.refl No w1).drew) (fun hHeld=>?_)
       refine wpAnyH_take (i:=0) (v:=?vax1) (oi:=?oax1) ?hax1 (by kernel_rfl) (by kernel_rfl) (by kernel_rfl) (fun _ _ _ h=>h) (Or.inl ⟨?wax1,?yax1⟩) hHeld ?rax1
       case hax1=>simp only [gA0,gA1,gA2]; rfl
       case wax1=>rfl
       case yax1=>intro w hSw; (try dsimp only at hSw); go_simp; (try with_reducible rfl)
       simp only [Act.put,sA0,sA1,sA2]
       refine wpAnyH_take (i:=1) (v:=?vax2) (oi:=?oax2) ?hax2 (by kernel_rfl) (by kernel_rfl) (by kernel_rfl) (fun _ _ _ h=>h) (Or.inl ⟨?wax2,?yax2⟩) hHeld ?rax2
       case hax2=>simp only [gA0,gA1,gA2]; rfl
       case wax2=>rfl
       case yax2=>intro w hSw; (try dsimp only at hSw); go_simp; (try with_reducible rfl)
       simp only [Act.put,sA0,sA1,sA2]
       refine wpAnyH_take (i:=2) (v:=?vax3) (oi:=?oax3) ?hax3 (by kernel_rfl) (by kernel_rfl) (by kernel_rfl) (fun _ _ _ h=>h) (Or.inl ⟨?wax3,?yax3⟩) hHeld ?rax3
       case hax3=>simp only [gA0,gA1,gA2]; rfl
       case wax3=>rfl
       case yax3=>intro w hSw; (try dsimp only at hSw); go_simp; (try with_reducible rfl)
       simp only [Act.put,sA0,sA1,sA2]
       refine wpAnyH_take (i:=3) (v:=?vax4) (oi:=?oax4) ?hax4 (by kernel_rfl) (by kernel_rfl) (by kernel_rfl) (fun _ _ _ h=>h) (Or.inl ⟨?wax4,?yax4⟩) hHeld ?rax4
       case hax4=>simp only [gA0,gA1,gA2]; rfl
       case wax4=>rfl
       case yax4=>intro w hSw; (try dsimp only at hSw); go_simp; (try with_reducible rfl)
       simp only [Act.put,sA0,sA1,sA2]
       refine wpAnyH_take (i:=4) (v:=?vax5) (oi:=?oax5) ?hax5 (by kernel_rfl) (by kernel_rfl) (by kernel_rfl) (fun _ _ _ h=>h) (Or.inl ⟨?wax5,?yax5⟩) hHeld ?rax5
       case hax5=>simp only [gA0,gA1,gA2]; rfl
       case wax5=>rfl
       case yax5=>intro w hSw; (try dsimp only at hSw); go_simp; (try with_reducible rfl)
       simp only [Act.put,sA0,sA1,sA2]
       refine wpAnyH_ready (rs:=[5,10]) (by kernel_rfl) (by simp) ?_
       refine (AllReadyH.cons (o:=?oax7) ?hax7 (fun K hK=>?sax7) (AllReadyH.cons (o:=?oax8) ?hax8 (fun K hK=>?sax8) AllReadyH.nil))
       case hax7=>simp only [gA0,gA1,gA2]; rfl
       case hax8=>simp only [gA0,gA1,gA2]; rfl
       case sax7 =>
        go_simp
        refine (HFR.out _ hHeld.1).mono ?_
        rintro e w3 ⟨A3,n3,c3,rfl,o3,k3⟩
        have hkw:=hHeld.1
        have h3:=hS _ (hHeld.1.trans' k3)
        go_wp2_with fail
        refine hK.out _ _ (h3) (fun hHeld=>?_)
        clear hK K
        try simp only [Act.put,sA0,sA1,sA2]
        refine wpAnyH_ready (rs:=[6,10]) (by kernel_rfl) (by simp) ?_
        refine (AllReadyH.cons (o:=?oax10) ?hax10 (fun K hK=>?sax10) (AllReadyH.cons (o:=?oax11) ?hax11 (fun K hK=>?sax11) AllReadyH.nil))
        case hax10=>simp only [gA0,gA1,gA2]; rfl
        case hax11=>simp only [gA0,gA1,gA2]; rfl
        case sax10 =>
         go_simp
         have hrf:=HRF.out.no h3.1
         have u3:=BtF.new o3 (F:=Fz F s0) (fun q hq=>Nat.lt_of_lt_of_le (HRF.out.bd q hq) hkw.size)
         refine (HPT.out _ _ _ _ _ hrf u3).mono ?_
         rintro e w4 ⟨v4',rfl,⟨vc2,vl2,cs2,ls2,rfl,rf4⟩,k4⟩
         have h4:=hS _ (hHeld.1.trans' k4)
         obtain ⟨g4,e4,rfl,_⟩:=rf4.vc_
         obtain ⟨g5,e5,rfl,_,_⟩:=rf4.vl_
         have HR4:=hide rf4
         clear rf4 hrf u3
         unfold tupE rfV
         go_wp2_with fail
         refine hK.out _ _ (h4) (fun hHeld=>?_)
         clear hK K
         try simp only [Act.put,sA0,sA1,sA2]
         refine wpAnyH_take (i:=7) (v:=?vax12) (oi:=?oax12) ?hax12 (by kernel_rfl) (by kernel_rfl) (by kernel_rfl) (fun _ _ _ h=>h) (Or.inl ⟨?wax12,?yax12⟩) hHeld ?rax12
         case hax12=>simp only [gA0,gA1,gA2]; rfl
         case wax12=>rfl
         case yax12=>intro w hSw; (try dsimp only at hSw); go_simp; (try with_reducible rfl)
         simp only [Act.put,sA0,sA1,sA2]
         refine wpAnyH_take (i:=8) (v:=?vax13) (oi:=?oax13) ?hax13 (by kernel_rfl) (by kernel_rfl) (by kernel_rfl) (fun _ _ _ h=>h) (Or.inl ⟨?wax13,?yax13⟩) hHeld ?rax13
         case hax13=>simp only [gA0,gA1,gA2]; rfl
         case wax13=>rfl
         case yax13=>intro w hSw; (try dsimp only at hSw); go_simp; (try with_reducible rfl)
         simp only [Act.put,sA0,sA1,sA2]
         refine wpAnyH_take (i:=9) (v:=?vax14) (oi:=?oax14) ?hax14 (by kernel_rfl) (by kernel_rfl) (by kernel_rfl) (fun _ _ _ h=>h) (Or.inl ⟨?wax14,?yax14⟩) hHeld ?rax14
         case hax14=>simp only [gA0,gA1,gA2]; rfl
         case wax14=>rfl
         case yax14=>intro w hSw; (try dsimp only at hSw); go_simp; (try with_reducible rfl)
         simp only [Act.put,sA0,sA1,sA2]
         refine wpAnyH_ready (rs:=[10]) (by kernel_rfl) (by simp) ?_
         refine AllReadyH.cons (o:=?oax15) ?hax15 (fun K hK=>?sax15) AllReadyH.nil
         case hax15=>simp only [gA0,gA1,gA2]; rfl
         go_simp
         refine hK.out _ _ (hS _ (hHeld.1.trans' (Kp.alloc No _ _))) (fun hHeld=>?_)
         clear hK K
         try simp only [Act.put,sA0,sA1,sA2]
         refine wpAnyH_ready (rs:=[11]) (by kernel_rfl) (by simp) ?_
         refine AllReadyH.cons (o:=?oax16) ?hax16 (fun K hK=>?sax16) AllReadyH.nil
         case hax16=>simp only [gA0,gA1,gA2]; rfl
         have BX:=(BxD.new w4 ⟨0,[],[],0⟩ (.slice none 0 0) (.slice none 0 0))
         have t0:=BX.c0
         have t1:=BX.c1
         have t2:=BX.c2
         have t3:=BX.c3
         have q0:=BX.fz 0
         have q1:=BX.fz 1
         have q2:=BX.fz 2
         have q3:=BX.fz 3
         go_simp
         refine hK.out _ _ (hS _ (h4.1.trans' (Kp.alloc No w4 _))) (fun hHeld=>?_)
         clear hK K
         try simp only [Act.put,sA0,sA1,sA2]
         refine wpAnyH_ready (rs:=[12]) (by kernel_rfl) (by simp) ?_
         refine AllReadyH.cons (o:=?oax17) ?hax17 (fun K hK=>?sax17) AllReadyH.nil
         case hax17=>simp only [gA0,gA1,gA2]; rfl
         go_simp
         refine hK.out _ _ (hHeld) (fun hHeld=>?_)
         clear hK K
         try simp only [Act.put,sA0,sA1,sA2]
         refine wpAnyH_done (by kernel_rfl) ?_ _
         refine NoPanic.normal ?_
         have hB:=hide (BxD.new w4 D2 (.slice (some ⟨g4,0,none⟩) D2.cells.length e4) (.slice g5 D2.loose.length e5))
         have hR:=hide (HR4.out.no (Kp.alloc No w4 (.cells #[.int .i64 (D2.size:Int),.slice (some ⟨g4,0,none⟩) D2.cells.length e4,.slice g5 D2.loose.length e5,.int .i64 (D2.syncs:Int)] 39)))
         have hK:=hide hHeld.1
         clear hHeld BX t0 t1 t2 t3 q0 q1 q2 q3 h3 h4
         go_wp2_with fail
         go_meet
         exact ⟨_,_,_,_,_,rfl,rfl,hB.out,(Nat.le_trans k3.size k4.size),hR.out,hK.out⟩
        case sax11 =>
         go_simp
         refine hK.out _ _ (hS _ (hHeld.1.trans' (Kp.alloc No _ _))) (fun hHeld=>?_)
         clear hK K
         try simp only [Act.put,sA0,sA1,sA2]
         refine wpAnyH_ready (rs:=[6]) (by kernel_rfl) (by simp) ?_
         refine AllReadyH.cons (o:=?oax19) ?hax19 (fun K hK=>?sax19) AllReadyH.nil
         case hax19=>simp only [gA0,gA1,gA2]; rfl
         go_simp
         have hrf:=HRF.out.plus (h3.1.trans' (Kp.alloc No w3 (.cells #[.int .i64 0,.slice none 0 0,.slice none 0 0,.int .i64 0] 39))) h3.1.size (show w3.heap.size < (w3.alloc (.cells #[.int .i64 0,.slice none 0 0,.slice none 0 0,.int .i64 0] 39)).heap.size by simp)
         have u3:=(BtF.new o3 (F:=Fz F s0) (fun q hq=>Nat.lt_of_lt_of_le (HRF.out.bd q hq) hkw.size)).step (F1:=fun k=>Fz F s0 k∨k=w3.heap.size) (Kp.alloc _ w3 (.cells #[.int .i64 0,.slice none 0 0,.slice none 0 0,.int .i64 0] 39)) (fun q hq=>by rcases hq with hq | hq; exact .inl hq; exact .inr (by omega))
         refine (HPT.out _ _ _ _ _ hrf u3).mono ?_
         rintro e w4 ⟨v4',rfl,⟨vc2,vl2,cs2,ls2,rfl,rf4⟩,k4⟩
         have h4:=hS _ (hHeld.1.trans' k4)
         obtain ⟨g4,e4,rfl,_⟩:=rf4.vc_
         obtain ⟨g5,e5,rfl,_,_⟩:=rf4.vl_
         have HR4:=hide rf4
         clear rf4 hrf u3
         unfold tupE rfV
         go_wp2_with fail
         refine hK.out _ _ (h4) (fun hHeld=>?_)
         clear hK K
         try simp only [Act.put,sA0,sA1,sA2]
         refine wpAnyH_take (i:=7) (v:=?vax20) (oi:=?oax20) ?hax20 (by kernel_rfl) (by kernel_rfl) (by kernel_rfl) (fun _ _ _ h=>h) (Or.inl ⟨?wax20,?yax20⟩) hHeld ?rax20
         case hax20=>simp only [gA0,gA1,gA2]; rfl
         case wax20=>rfl
         case yax20=>intro w hSw; (try dsimp only at hSw); go_simp; (try with_reducible rfl)
         simp only [Act.put,sA0,sA1,sA2]
         refine wpAnyH_take (i:=8) (v:=?vax21) (oi:=?oax21) ?hax21 (by kernel_rfl) (by kernel_rfl) (by kernel_rfl) (fun _ _ _ h=>h) (Or.inl ⟨?wax21,?yax21⟩) hHeld ?rax21
         case hax21=>simp only [gA0,gA1,gA2]; rfl
         case wax21=>rfl
         case yax21=>intro w hSw; (try dsimp only at hSw); go_simp; (try with_reducible rfl)
         simp only [Act.put,sA0,sA1,sA2]
         refine wpAnyH_take (i:=9) (v:=?vax22) (oi:=?oax22) ?hax22 (by kernel_rfl) (by kernel_rfl) (by kernel_rfl) (fun _ _ _ h=>h) (Or.inl ⟨?wax22,?yax22⟩) hHeld ?rax22
         case hax22=>simp only [gA0,gA1,gA2]; rfl
         case wax22=>rfl
         case yax22=>intro w hSw; (try dsimp only at hSw); go_simp; (try with_reducible rfl)
         simp only [Act.put,sA0,sA1,sA2]
         refine wpAnyH_ready (rs:=[11]) (by kernel_rfl) (by simp) ?_
         refine AllReadyH.cons (o:=?oax23) ?hax23 (fun K hK=>?sax23) AllReadyH.nil
         case hax23=>simp only [gA0,gA1,gA2]; rfl
         have BX:=((BxD.new w3 ⟨0,[],[],0⟩ (.slice none 0 0) (.slice none 0 0)).no k4)
         have t0:=BX.c0
         have t1:=BX.c1
         have t2:=BX.c2
         have t3:=BX.c3
         have q0:=BX.fz 0
         have q1:=BX.fz 1
         have q2:=BX.fz 2
         have q3:=BX.fz 3
         go_simp
         refine hK.out _ _ (hS _ (hHeld.1.trans (kpU4 w4 w3.heap.size _ _ _ _ (.inr k3.size)))) (fun hHeld=>?_)
         clear hK K
         try simp only [Act.put,sA0,sA1,sA2]
         refine wpAnyH_ready (rs:=[12]) (by kernel_rfl) (by simp) ?_
         refine AllReadyH.cons (o:=?oax24) ?hax24 (fun K hK=>?sax24) AllReadyH.nil
         case hax24=>simp only [gA0,gA1,gA2]; rfl
         go_simp
         refine hK.out _ _ (hHeld) (fun hHeld=>?_)
         clear hK K
         try simp only [Act.put,sA0,sA1,sA2]
         refine wpAnyH_done (by kernel_rfl) ?_ _
         refine NoPanic.normal ?_
         have hB:=hide (BX.set4 (D:=D2) (vc:=.slice (some ⟨g4,0,none⟩) D2.cells.length e4) (vl:=.slice g5 D2.loose.length e5))
         have hR:=hide ((HR4.out.keep (kp_set4 w4 w3.heap.size (.int .i64 (D2.size:Int)) (.slice (some ⟨g4,0,none⟩) D2.cells.length e4) (.slice g5 D2.loose.length e5) (.int .i64 (D2.syncs:Int))) (fun k _ hn e=>hn (.inr e))).less (F1:=Fz F s0) fun k hk=>.inl hk)
         have hK:=hide hHeld.1
         clear hHeld BX t0 t1 t2 t3 q0 q1 q2 q3 h3 h4
         go_wp2_with fail
         go_meet
         exact ⟨_,_,_,_,_,rfl,rfl,hB.out,k3.size,hR.out,hK.out⟩
       case sax8 =>
        go_simp
        refine hK.out _ _ (hS _ (hHeld.1.trans' (Kp.alloc No _ _))) (fun hHeld=>?_)
        clear hK K
        try simp only [Act.put,sA0,sA1,sA2]
        refine wpAnyH_ready (rs:=[5]) (by kernel_rfl) (by simp) ?_
        refine AllReadyH.cons (o:=?oax26) ?hax26 (fun K hK=>?sax26) AllReadyH.nil
        case hax26=>simp only [gA0,gA1,gA2]; rfl
        go_simp
        refine (HFR.out _ hHeld.1).mono ?_
        rintro e w3 ⟨A3,n3,c3,rfl,o3,k3⟩
        have hkw:=hHeld.1
        have h3:=hS _ (hHeld.1.trans' k3)
        go_wp2_with fail
        refine hK.out _ _ (h3) (fun hHeld=>?_)
        clear hK K
        try simp only [Act.put,sA0,sA1,sA2]
        refine wpAnyH_ready (rs:=[6]) (by kernel_rfl) (by simp) ?_
        refine AllReadyH.cons (o:=?oax27) ?hax27 (fun K hK=>?sax27) AllReadyH.nil
        case hax27=>simp only [gA0,gA1,gA2]; rfl
        go_simp
        have hrf:=HRF.out.plus h3.1 (Nat.le_refl w1.heap.size) (Nat.lt_of_lt_of_le (show w1.heap.size < (w1.drew.alloc (.cells #[.int .i64 0,.slice none 0 0,.slice none 0 0,.int .i64 0] 39)).heap.size by simp) k3.size)
        have u3:=BtF.new o3 (F:=fun k=>Fz F s0 k∨k=w1.heap.size) (fun q hq=>by rcases hq with hq | hq; exact Nat.lt_of_lt_of_le (HRF.out.bd q hq) hkw.size; subst hq; simp)
        refine (HPT.out _ _ _ _ _ hrf u3).mono ?_
        rintro e w4 ⟨v4',rfl,⟨vc2,vl2,cs2,ls2,rfl,rf4⟩,k4⟩
        have h4:=hS _ (hHeld.1.trans' k4)
        obtain ⟨g4,e4,rfl,_⟩:=rf4.vc_
        obtain ⟨g5,e5,rfl,_,_⟩:=rf4.vl_
        have HR4:=hide rf4
        clear rf4 hrf u3
        unfold tupE rfV
        go_wp2_with fail
        refine hK.out _ _ (h4) (fun hHeld=>?_)
        clear hK K
        try simp only [Act.put,sA0,sA1,sA2]
        refine wpAnyH_take (i:=7) (v:=?vax28) (oi:=?oax28) ?hax28 (by kernel_rfl) (by kernel_rfl) (by kernel_rfl) (fun _ _ _ h=>h) (Or.inl ⟨?wax28,?yax28⟩) hHeld ?rax28
        case hax28=>simp only [gA0,gA1,gA2]; rfl
        case wax28=>rfl
        case yax28=>intro w hSw; (try dsimp only at hSw); go_simp; (try with_reducible rfl)
        simp only [Act.put,sA0,sA1,sA2]
        refine wpAnyH_take (i:=8) (v:=?vax29) (oi:=?oax29) ?hax29 (by kernel_rfl) (by kernel_rfl) (by kernel_rfl) (fun _ _ _ h=>h) (Or.inl ⟨?wax29,?yax29⟩) hHeld ?rax29
        case hax29=>simp only [gA0,gA1,gA2]; rfl
        case wax29=>rfl
        case yax29=>intro w hSw; (try dsimp only at hSw); go_simp; (try with_reducible rfl)
        simp only [Act.put,sA0,sA1,sA2]
        refine wpAnyH_take (i:=9) (v:=?vax30) (oi:=?oax30) ?hax30 (by kernel_rfl) (by kernel_rfl) (by kernel_rfl) (fun _ _ _ h=>h) (Or.inl ⟨?wax30,?yax30⟩) hHeld ?rax30
        case hax30=>simp only [gA0,gA1,gA2]; rfl
        case wax30=>rfl
        case yax30=>intro w hSw; (try dsimp only at hSw); go_simp; (try with_reducible rfl)
        simp only [Act.put,sA0,sA1,sA2]
        refine wpAnyH_ready (rs:=[11]) (by kernel_rfl) (by simp) ?_
        refine AllReadyH.cons (o:=?oax31) ?hax31 (fun K hK=>?sax31) AllReadyH.nil
        case hax31=>simp only [gA0,gA1,gA2]; rfl
        have BX:=(show BxD w4 w1.heap.size ⟨0,[],[],0⟩ (.slice none 0 0) (.slice none 0 0) from ((BxD.new w1.drew ⟨0,[],[],0⟩ (.slice none 0 0) (.slice none 0 0)).no k3).no k4)
        have t0:=BX.c0
        have t1:=BX.c1
        have t2:=BX.c2
        have t3:=BX.c3
        have q0:=BX.fz 0
        have q1:=BX.fz 1
        have q2:=BX.fz 2
        have q3:=BX.fz 3
        go_simp
        refine hK.out _ _ (hS _ (hHeld.1.trans (kpU4 w4 w1.heap.size _ _ _ _ (.inr (Nat.le_refl _))))) (fun hHeld=>?_)
        clear hK K
        try simp only [Act.put,sA0,sA1,sA2]
        refine wpAnyH_ready (rs:=[12]) (by kernel_rfl) (by simp) ?_
        refine AllReadyH.cons (o:=?oax32) ?hax32 (fun K hK=>?sax32) AllReadyH.nil
        case hax32=>simp only [gA0,gA1,gA2]; rfl
        go_simp
        refine hK.out _ _ (hHeld) (fun hHeld=>?_)
        clear hK K
        try simp only [Act.put,sA0,sA1,sA2]
        refine wpAnyH_done (by kernel_rfl) ?_ _
        refine NoPanic.normal ?_
        have hB:=hide (BX.set4 (D:=D2) (vc:=.slice (some ⟨g4,0,none⟩) D2.cells.length e4) (vl:=.slice g5 D2.loose.length e5))
        have hR:=hide ((HR4.out.keep (kp_set4 w4 w1.heap.size (.int .i64 (D2.size:Int)) (.slice (some ⟨g4,0,none⟩) D2.cells.length e4) (.slice g5 D2.loose.length e5) (.int .i64 (D2.syncs:Int))) (fun k _ hn e=>hn (.inr e))).less (F1:=Fz F s0) fun k hk=>.inl hk)
        have hK:=hide hHeld.1
        clear hHeld BX t0 t1 t2 t3 q0 q1 q2 q3 h3 h4
        go_wp2_with fail
        go_meet
        exact ⟨_,_,_,_,_,rfl,rfl,hB.out,Nat.le_refl _,hR.out,hK.out⟩
      case rest =>
       obtain ⟨bx,vc2,vl2,cs2,ls2,rfl,rfl,hbx,hbl,hr2,hkx⟩:=hcut
       obtain ⟨g4,e4,rfl,_⟩:=hr2.vc_
       obtain ⟨g5,e5,rfl,_,_⟩:=hr2.vl_
       rename World=>wx
       have HBX:=hide hbx
       have hne:bx≠s0+2:=by have:=HS.out.bz.lt; omega
       have hSx:=HS.out.no hkx
       have HZL:Hid (s0+2 < wx.heap.size):=hSx.bz.lt
       have HX:Hid (BgX w wx F D2 (.slice (some ⟨g4,0,none⟩) D2.cells.length e4) (.slice g5 D2.loose.length e5) cs2 ls2 V.L k s s0):=⟨hr2,hSx.kp,hSx.sl,hSx.bz,HH.out.rf.bd,HOK2.out⟩
       have HNW:Hid (∀ w',Kp (fun q=>q=s0+2) wx w'→(A2=none→V.L.length=0∧ck=0∧knC V.L=[])∧∀ ad,A2=some ad→Nws w' ad V.L.length 5 (knC V.L)):=fun w' hk'=>by
        have hkn:=HH.out.kn.no hSx.kp
        exact KnR.nws (F:=F) ⟨hkn.own.keep hk' fun q e e2=>hkn.own.not_at hSx.bz (by decide) (by rw [e,e2]),hkn.far⟩
       have hT:∀ w',Kp (fun q=>q=s0+2) wx w'→Zx w' (s0+2)→Kp (fun q=>q=s0+2) wx w'∧Zx w' (s0+2)∧w'.cell? ⟨bx,0,none⟩=some (.int .i64 (D2.size:Int))∧w'.cell? ⟨bx,1,none⟩=some (.slice (some ⟨g4,0,none⟩) D2.cells.length e4)∧w'.cell? ⟨bx,2,none⟩=some (.slice g5 D2.loose.length e5)∧w'.cell? ⟨bx,3,none⟩=some (.int .i64 (D2.syncs:Int))∧w'.cell? ⟨s0,4,none⟩=some (.slice A2 V.L.length ck)∧w'.cell? ⟨s0+1,0,none⟩=some (.int .u32 (cO s:Int))∧w'.cell? ⟨s0+1,1,none⟩=some (.int .u16 (cS s:Int))∧w'.cell? ⟨s0+1,2,none⟩=some (.int .u16 (cL s:Int))∧w'.cell? ⟨s0+1,3,none⟩=some (.int .u32 (cG s:Int)):=fun w' hk' hzx=>by
        obtain ⟨_,_,_,_,y4⟩:=(hSx.bv.keep hk' (by omega)).cell
        obtain ⟨x0,x1,x2,x3⟩:=(hSx.bs.keep hk' (by omega)).cell
        have hb':BxD w' bx D2 (.slice (some ⟨g4,0,none⟩) D2.cells.length e4) (.slice g5 D2.loose.length e5):=(hk'.block bx HBX.out.lt hne).trans HBX.out
        exact ⟨hk',hzx,hb'.c0,hb'.c1,hb'.c2,hb'.c3,y4,x0,x1,x2,x3⟩
       clear hS hbx hbl hr2 v1 v4
       go_wp2_with fail
       refine wp_region_noPanic ?_
       refine wp_region_held_drew (S:=fun w'=>Kp (fun q=>q=s0+2) wx w'∧Zx w' (s0+2)∧w'.cell? ⟨bx,0,none⟩=some (.int .i64 (D2.size:Int))∧w'.cell? ⟨bx,1,none⟩=some (.slice (some ⟨g4,0,none⟩) D2.cells.length e4)∧w'.cell? ⟨bx,2,none⟩=some (.slice g5 D2.loose.length e5)∧w'.cell? ⟨bx,3,none⟩=some (.int .i64 (D2.syncs:Int))∧w'.cell? ⟨s0,4,none⟩=some (.slice A2 V.L.length ck)∧w'.cell? ⟨s0+1,0,none⟩=some (.int .u32 (cO s:Int))∧w'.cell? ⟨s0+1,1,none⟩=some (.int .u16 (cS s:Int))∧w'.cell? ⟨s0+1,2,none⟩=some (.int .u16 (cL s:Int))∧w'.cell? ⟨s0+1,3,none⟩=some (.int .u32 (cG s:Int))) (by kernel_rfl) (hT _ (Kp.refl _ wx).drew ⟨_,_,_,_,_,HX.out.s2.no (Kp.refl No wx).drew⟩) (fun hHeld=>?_)
       refine wpAnyH_take (i:=0) (v:=?vbx1) (oi:=?obx1) ?hbx1 (by kernel_rfl) (by kernel_rfl) (by kernel_rfl) (fun _ _ _ h=>h) (Or.inl ⟨?wbx1,?ybx1⟩) hHeld ?rbx1
       case hbx1=>simp only [gA0,gA1,gA2]; rfl
       case wbx1=>rfl
       case ybx1=>intro w hSw; (try dsimp only at hSw); go_simp; (try with_reducible rfl)
       simp only [Act.put,sA0,sA1,sA2]
       refine wpAnyH_take (i:=2) (v:=?vbx2) (oi:=?obx2) ?hbx2 (by kernel_rfl) (by kernel_rfl) (by kernel_rfl) (fun _ _ _ h=>h) (Or.inl ⟨?wbx2,?ybx2⟩) hHeld ?rbx2
       case hbx2=>simp only [gA0,gA1,gA2]; rfl
       case wbx2=>rfl
       case ybx2=>intro w hSw; (try dsimp only at hSw); go_simp; (try with_reducible rfl)
       simp only [Act.put,sA0,sA1,sA2]
       refine wpAnyH_take (i:=3) (v:=?vbx3) (oi:=?obx3) ?hbx3 (by kernel_rfl) (by kernel_rfl) (by kernel_rfl) (fun _ _ _ h=>h) (Or.inl ⟨?wbx3,?ybx3⟩) hHeld ?rbx3
       case hbx3=>simp only [gA0,gA1,gA2]; rfl
       case wbx3=>rfl
       case ybx3=>intro w hSw; (try dsimp only at hSw); go_simp; (try with_reducible rfl)
       simp only [Act.put,sA0,sA1,sA2]
       refine wpAnyH_take (i:=5) (v:=?vbx4) (oi:=?obx4) ?hbx4 (by kernel_rfl) (by kernel_rfl) (by kernel_rfl) (fun _ _ _ h=>h) (Or.inl ⟨?wbx4,?ybx4⟩) hHeld ?rbx4
       case hbx4=>simp only [gA0,gA1,gA2]; rfl
       case wbx4=>rfl
       case ybx4=>intro w hSw; (try dsimp only at hSw); go_simp; (try with_reducible rfl)
       simp only [Act.put,sA0,sA1,sA2]
       refine wpAnyH_take (i:=6) (v:=?vbx5) (oi:=?obx5) ?hbx5 (by kernel_rfl) (by kernel_rfl) (by kernel_rfl) (fun _ _ _ h=>h) (Or.inl ⟨?wbx5,?ybx5⟩) hHeld ?rbx5
       case hbx5=>simp only [gA0,gA1,gA2]; rfl
       case wbx5=>rfl
       case ybx5=>intro w hSw; (try dsimp only at hSw); go_simp; (try with_reducible rfl)
       simp only [Act.put,sA0,sA1,sA2]
       refine wpAnyH_take (i:=7) (v:=?vbx6) (oi:=?obx6) ?hbx6 (by kernel_rfl) (by kernel_rfl) (by kernel_rfl) (fun _ _ _ h=>h) (Or.inl ⟨?wbx6,?ybx6⟩) hHeld ?rbx6
       case hbx6=>simp only [gA0,gA1,gA2]; rfl
       case wbx6=>rfl
       case ybx6=>intro w hSw; (try dsimp only at hSw); go_simp; (try with_reducible rfl)
       simp only [Act.put,sA0,sA1,sA2]
       refine wpAnyH_take (i:=11) (v:=?vbx7) (oi:=?obx7) ?hbx7 (by kernel_rfl) (by kernel_rfl) (by kernel_rfl) (fun _ _ _ h=>h) (Or.inl ⟨?wbx7,?ybx7⟩) hHeld ?rbx7
       case hbx7=>simp only [gA0,gA1,gA2]; rfl
       case wbx7=>rfl
       case ybx7=>intro w hSw; (try dsimp only at hSw); go_simp; (try with_reducible rfl)
       simp only [Act.put,sA0,sA1,sA2]
       refine wpAnyH_ready (rs:=[1,8]) (by kernel_rfl) (by simp) ?_
       refine (AllReadyH.cons (o:=?obx9) ?hbx9 (fun K hK=>?sbx9) (AllReadyH.cons (o:=?obx10) ?hbx10 (fun K hK=>?sbx10) AllReadyH.nil))
       case hbx9=>simp only [gA0,gA1,gA2]; rfl
       case hbx10=>simp only [gA0,gA1,gA2]; rfl
       case sbx9 =>
        go_simp
        refine hK.out _ _ (hT _ (hHeld.1.trans' (Kp.alloc _ _ _)) (hHeld.2.1.keep (Kp.alloc No _ _) fun f=>f)) (fun hHeld=>?_)
        clear hK K
        try simp only [Act.put,sA0,sA1,sA2]
        refine wpAnyH_ready (rs:=[4,8]) (by kernel_rfl) (by simp) ?_
        refine (AllReadyH.cons (o:=?obx12) ?hbx12 (fun K hK=>?sbx12) (AllReadyH.cons (o:=?obx13) ?hbx13 (fun K hK=>?sbx13) AllReadyH.nil))
        case hbx12=>simp only [gA0,gA1,gA2]; rfl
        case hbx13=>simp only [gA0,gA1,gA2]; rfl
        case sbx12 =>
         have hkw:=hHeld.1
         have oe:=ownT_none wx.drew 149 5
         have hnw:=HNW.out _ hHeld.1
         refine step_appS ty_kn rfl (.tmp 69) (.tmp 71) _ rfl Tryz.underlying40 rfl oe A2 rfl hnw.1 hnw.2 (by have:=HLN.out; omega) (by simp <;> omega) ?_
         intro A4 n4 c4 w4 hn4 ha4
         have hK4:=hkw.trans (ha4.kp.mono fun q e=>.inr (Nat.le_trans (by simp <;> omega) (oe.ge q e)))
         have hn4':=hide hn4
         clear hn4
         refine hK.out _ _ (hT _ hK4 (hHeld.2.1.keep ha4.kp fun e=>Nat.lt_irrefl _ (Nat.lt_of_lt_of_le HZL.out (Nat.le_trans (by simp <;> omega) (oe.ge _ e))))) (fun hHeld=>?_)
         clear hK K
         try simp only [Act.put,sA0,sA1,sA2]
         refine wpAnyH_ready (rs:=[8]) (by kernel_rfl) (by simp) ?_
         refine AllReadyH.cons (o:=?obx14) ?hbx14 (fun K hK=>?sbx14) AllReadyH.nil
         case hbx14=>simp only [gA0,gA1,gA2]; rfl
         go_simp
         refine hK.out _ _ (hT _ (hHeld.1.trans' (Kp.alloc _ _ _)) (hHeld.2.1.keep (Kp.alloc No _ _) fun f=>f)) (fun hHeld=>?_)
         clear hK K
         try simp only [Act.put,sA0,sA1,sA2]
         refine wpAnyH_ready (rs:=[9]) (by kernel_rfl) (by simp) ?_
         refine AllReadyH.cons (o:=?obx15) ?hbx15 (fun K hK=>?sbx15) AllReadyH.nil
         case hbx15=>simp only [gA0,gA1,gA2]; rfl
         have hk9:=hHeld.1
         have o4:=ha4.own.no (Kp.alloc No w4 (.cells #[.int .i64 (k:Int),.int .u32 (cO s:Int),.int .u16 (cS s:Int),.int .u16 (cL s:Int),.int .u32 (cG s:Int)] 149))
         have nw:=nws_knew w4 (u0:=.int .i64 (k:Int)) (u1:=.int .u32 (cO s:Int)) (u2:=.int .u16 (cS s:Int)) (u3:=.int .u16 (cL s:Int)) (u4:=.int .u32 (cG s:Int)) rfl rfl rfl rfl rfl
         rw [Nat.zero_add,List.nil_append] at o4
         refine step_appT ty_kn rfl (.tmp 72) (.tmp 76) _ rfl Tryz.underlying40 rfl o4 _ _ rfl nw (by have:=HLN.out; omega) (by have h1:=ha4.kp.size; simp at h1 ⊢; omega) ?_
         intro A5 n5 c5 w5 hn5 ha5
         have hK5:=hk9.trans (ha5.kp.mono fun q e=>.inr (Nat.le_trans (by simp <;> omega) (o4.ge q e)))
         have hn5':=hide hn5
         clear hn5
         refine hK.out _ _ (hT _ hK5 (hHeld.2.1.keep ha5.kp fun e=>Nat.lt_irrefl _ (Nat.lt_of_lt_of_le HZL.out (Nat.le_trans (by simp <;> omega) (o4.ge _ e))))) (fun hHeld=>?_)
         clear hK K
         try simp only [Act.put,sA0,sA1,sA2]
         refine wpAnyH_take (i:=10) (v:=?vbx16) (oi:=?obx16) ?hbx16 (by kernel_rfl) (by kernel_rfl) (by kernel_rfl) (fun _ _ _ h=>h) (Or.inl ⟨?wbx16,?ybx16⟩) hHeld ?rbx16
         case hbx16=>simp only [gA0,gA1,gA2]; rfl
         case wbx16=>rfl
         case ybx16=>intro w hSw; (try dsimp only at hSw); go_simp; (try with_reducible rfl)
         simp only [Act.put,sA0,sA1,sA2]
         refine wpAnyH_ready (rs:=[12]) (by kernel_rfl) (by simp) ?_
         refine AllReadyH.cons (o:=?obx17) ?hbx17 (fun K hK=>?sbx17) AllReadyH.nil
         case hbx17=>simp only [gA0,gA1,gA2]; rfl
         obtain ⟨a0,a1,a2,a3,a4,hz⟩:=hHeld.2.1
         have hz1:Bx5 w5 (s0+1+1) a0 a1 a2 a3 a4:=hz
         obtain ⟨z0,z1,z2,z3,z4⟩:=hz1.cell
         have q0:=hz1.frozen 0
         have q1:=hz1.frozen 1
         have q2:=hz1.frozen 2
         have q3:=hz1.frozen 3
         have q4:=hz1.frozen 4
         go_simp
         refine hK.out _ _ (hT _ (hK5.trans' (kp5 w5 (s0+2) _ _ _ _ _ rfl)) ⟨_,_,_,_,_,hz.all _ _ _ _ _⟩) (fun hHeld=>?_)
         clear hK K
         try simp only [Act.put,sA0,sA1,sA2]
         refine wpAnyH_ready (rs:=[13]) (by kernel_rfl) (by simp) ?_
         refine AllReadyH.cons (o:=?obx18) ?hbx18 (fun K hK=>?sbx18) AllReadyH.nil
         case hbx18=>simp only [gA0,gA1,gA2]; rfl
         go_simp
         refine hK.out _ _ (hHeld) (fun hHeld=>?_)
         clear hK K
         try simp only [Act.put,sA0,sA1,sA2]
         refine wpAnyH_done (by kernel_rfl) ?_ _
         refine NoPanic.normal ?_
         obtain ⟨r0,r1,r2,r3,r4⟩:=(hz.all (.int .i64 (D2.size:Int)) (.slice (some ⟨g4,0,none⟩) D2.cells.length e4) (.slice g5 D2.loose.length e5) (.int .i64 (D2.syncs:Int)) (.slice A5 n5 c5)).cell
         have hge:∀ q,(Value.slice A5 n5 c5).ownBlock=some q→wx.heap.size≤q:=fun q e=>Nat.le_trans (by simp <;> omega) (ha5.own.ge q e)
         have HFIN:=hide (BgX.fin HX.out hK5 ha5.own hge)
         clear hHeld z0 z1 z2 z3 z4 q0 q1 q2 q3 q4
         go_wp2_with fail
         refine bodyPost_ret (v:=tupE 0 (rvV D2 (.slice (some ⟨g4,0,none⟩) D2.cells.length e4) (.slice g5 D2.loose.length e5) (.slice A5 n5 c5))) (by simp [results,Tryz.results45,go_sem,rvV,tupE,r0,r1,r2,r3,r4]) rfl ?_
         exact ⟨_,by rw [HE0.out],by rw [HVB.out]; exact HFIN.out.1,HFIN.out.2⟩
        case sbx13 =>
         go_simp
         refine hK.out _ _ (hT _ (hHeld.1.trans' (Kp.alloc _ _ _)) (hHeld.2.1.keep (Kp.alloc No _ _) fun f=>f)) (fun hHeld=>?_)
         clear hK K
         try simp only [Act.put,sA0,sA1,sA2]
         refine wpAnyH_ready (rs:=[4]) (by kernel_rfl) (by simp) ?_
         refine AllReadyH.cons (o:=?obx20) ?hbx20 (fun K hK=>?sbx20) AllReadyH.nil
         case hbx20=>simp only [gA0,gA1,gA2]; rfl
         have hkw:=hHeld.1
         have oe:=(ownT_none wx.drew 149 5).no (Kp.alloc No _ (.cells #[.int .i64 (k:Int),.int .u32 (cO s:Int),.int .u16 (cS s:Int),.int .u16 (cL s:Int),.int .u32 (cG s:Int)] 149))
         have hnw:=HNW.out _ hHeld.1
         refine step_appS ty_kn rfl (.tmp 69) (.tmp 71) _ rfl Tryz.underlying40 rfl oe A2 rfl hnw.1 hnw.2 (by have:=HLN.out; omega) (by simp <;> omega) ?_
         intro A4 n4 c4 w4 hn4 ha4
         have hK4:=hkw.trans (ha4.kp.mono fun q e=>.inr (Nat.le_trans (by simp <;> omega) (oe.ge q e)))
         have hn4':=hide hn4
         clear hn4
         refine hK.out _ _ (hT _ hK4 (hHeld.2.1.keep ha4.kp fun e=>Nat.lt_irrefl _ (Nat.lt_of_lt_of_le HZL.out (Nat.le_trans (by simp <;> omega) (oe.ge _ e))))) (fun hHeld=>?_)
         clear hK K
         try simp only [Act.put,sA0,sA1,sA2]
         refine wpAnyH_ready (rs:=[9]) (by kernel_rfl) (by simp) ?_
         refine AllReadyH.cons (o:=?obx21) ?hbx21 (fun K hK=>?sbx21) AllReadyH.nil
         case hbx21=>simp only [gA0,gA1,gA2]; rfl
         have hk9:=hHeld.1
         have o4:=ha4.own
         have nw:=(nws_knew (wx.drew.alloc (.cells #[] 149)) (u0:=.int .i64 (k:Int)) (u1:=.int .u32 (cO s:Int)) (u2:=.int .u16 (cS s:Int)) (u3:=.int .u16 (cL s:Int)) (u4:=.int .u32 (cG s:Int)) rfl rfl rfl rfl rfl).keep ha4.kp (fun e=>by have:=Option.some.inj e; simp at this)
         have ee:(wx.drew.alloc (.cells #[] 149)).heap.size=wx.heap.size+1:=by simp
         rw [ee] at nw
         rw [Nat.zero_add,List.nil_append] at o4
         refine step_appT ty_kn rfl (.tmp 72) (.tmp 76) _ rfl Tryz.underlying40 rfl o4 _ _ rfl nw (by have:=HLN.out; omega) (by have h1:=ha4.kp.size; simp at h1 ⊢; omega) ?_
         intro A5 n5 c5 w5 hn5 ha5
         have hK5:=hk9.trans (ha5.kp.mono fun q e=>.inr (Nat.le_trans (by simp <;> omega) (o4.ge q e)))
         have hn5':=hide hn5
         clear hn5
         refine hK.out _ _ (hT _ hK5 (hHeld.2.1.keep ha5.kp fun e=>Nat.lt_irrefl _ (Nat.lt_of_lt_of_le HZL.out (Nat.le_trans (by simp <;> omega) (o4.ge _ e))))) (fun hHeld=>?_)
         clear hK K
         try simp only [Act.put,sA0,sA1,sA2]
         refine wpAnyH_take (i:=10) (v:=?vbx22) (oi:=?obx22) ?hbx22 (by kernel_rfl) (by kernel_rfl) (by kernel_rfl) (fun _ _ _ h=>h) (Or.inl ⟨?wbx22,?ybx22⟩) hHeld ?rbx22
         case hbx22=>simp only [gA0,gA1,gA2]; rfl
         case wbx22=>rfl
         case ybx22=>intro w hSw; (try dsimp only at hSw); go_simp; (try with_reducible rfl)
         simp only [Act.put,sA0,sA1,sA2]
         refine wpAnyH_ready (rs:=[12]) (by kernel_rfl) (by simp) ?_
         refine AllReadyH.cons (o:=?obx23) ?hbx23 (fun K hK=>?sbx23) AllReadyH.nil
         case hbx23=>simp only [gA0,gA1,gA2]; rfl
         obtain ⟨a0,a1,a2,a3,a4,hz⟩:=hHeld.2.1
         have hz1:Bx5 w5 (s0+1+1) a0 a1 a2 a3 a4:=hz
         obtain ⟨z0,z1,z2,z3,z4⟩:=hz1.cell
         have q0:=hz1.frozen 0
         have q1:=hz1.frozen 1
         have q2:=hz1.frozen 2
         have q3:=hz1.frozen 3
         have q4:=hz1.frozen 4
         go_simp
         refine hK.out _ _ (hT _ (hK5.trans' (kp5 w5 (s0+2) _ _ _ _ _ rfl)) ⟨_,_,_,_,_,hz.all _ _ _ _ _⟩) (fun hHeld=>?_)
         clear hK K
         try simp only [Act.put,sA0,sA1,sA2]
         refine wpAnyH_ready (rs:=[13]) (by kernel_rfl) (by simp) ?_
         refine AllReadyH.cons (o:=?obx24) ?hbx24 (fun K hK=>?sbx24) AllReadyH.nil
         case hbx24=>simp only [gA0,gA1,gA2]; rfl
         go_simp
         refine hK.out _ _ (hHeld) (fun hHeld=>?_)
         clear hK K
         try simp only [Act.put,sA0,sA1,sA2]
         refine wpAnyH_done (by kernel_rfl) ?_ _
         refine NoPanic.normal ?_
         obtain ⟨r0,r1,r2,r3,r4⟩:=(hz.all (.int .i64 (D2.size:Int)) (.slice (some ⟨g4,0,none⟩) D2.cells.length e4) (.slice g5 D2.loose.length e5) (.int .i64 (D2.syncs:Int)) (.slice A5 n5 c5)).cell
         have hge:∀ q,(Value.slice A5 n5 c5).ownBlock=some q→wx.heap.size≤q:=fun q e=>Nat.le_trans (by simp <;> omega) (ha5.own.ge q e)
         have HFIN:=hide (BgX.fin HX.out hK5 ha5.own hge)
         clear hHeld z0 z1 z2 z3 z4 q0 q1 q2 q3 q4
         go_wp2_with fail
         refine bodyPost_ret (v:=tupE 0 (rvV D2 (.slice (some ⟨g4,0,none⟩) D2.cells.length e4) (.slice g5 D2.loose.length e5) (.slice A5 n5 c5))) (by simp [results,Tryz.results45,go_sem,rvV,tupE,r0,r1,r2,r3,r4]) rfl ?_
         exact ⟨_,by rw [HE0.out],by rw [HVB.out]; exact HFIN.out.1,HFIN.out.2⟩
       case sbx10 =>
        go_simp
        refine hK.out _ _ (hT _ (hHeld.1.trans' (Kp.alloc _ _ _)) (hHeld.2.1.keep (Kp.alloc No _ _) fun f=>f)) (fun hHeld=>?_)
        clear hK K
        try simp only [Act.put,sA0,sA1,sA2]
        refine wpAnyH_ready (rs:=[1]) (by kernel_rfl) (by simp) ?_
        refine AllReadyH.cons (o:=?obx26) ?hbx26 (fun K hK=>?sbx26) AllReadyH.nil
        case hbx26=>simp only [gA0,gA1,gA2]; rfl
        go_simp
        refine hK.out _ _ (hT _ (hHeld.1.trans' (Kp.alloc _ _ _)) (hHeld.2.1.keep (Kp.alloc No _ _) fun f=>f)) (fun hHeld=>?_)
        clear hK K
        try simp only [Act.put,sA0,sA1,sA2]
        refine wpAnyH_ready (rs:=[4]) (by kernel_rfl) (by simp) ?_
        refine AllReadyH.cons (o:=?obx27) ?hbx27 (fun K hK=>?sbx27) AllReadyH.nil
        case hbx27=>simp only [gA0,gA1,gA2]; rfl
        have hkw:=hHeld.1
        have oe:=ownT_none (wx.drew.alloc (.cells #[.int .i64 (k:Int),.int .u32 (cO s:Int),.int .u16 (cS s:Int),.int .u16 (cL s:Int),.int .u32 (cG s:Int)] 149)) 149 5
        have ee:(wx.drew.alloc (.cells #[.int .i64 (k:Int),.int .u32 (cO s:Int),.int .u16 (cS s:Int),.int .u16 (cL s:Int),.int .u32 (cG s:Int)] 149)).heap.size=wx.heap.size+1:=by simp
        rw [ee] at oe
        have hnw:=HNW.out _ hHeld.1
        refine step_appS ty_kn rfl (.tmp 69) (.tmp 71) _ rfl Tryz.underlying40 rfl oe A2 rfl hnw.1 hnw.2 (by have:=HLN.out; omega) (by simp <;> omega) ?_
        intro A4 n4 c4 w4 hn4 ha4
        have hK4:=hkw.trans (ha4.kp.mono fun q e=>.inr (Nat.le_trans (by simp <;> omega) (oe.ge q e)))
        have hn4':=hide hn4
        clear hn4
        refine hK.out _ _ (hT _ hK4 (hHeld.2.1.keep ha4.kp fun e=>Nat.lt_irrefl _ (Nat.lt_of_lt_of_le HZL.out (Nat.le_trans (by simp <;> omega) (oe.ge _ e))))) (fun hHeld=>?_)
        clear hK K
        try simp only [Act.put,sA0,sA1,sA2]
        refine wpAnyH_ready (rs:=[9]) (by kernel_rfl) (by simp) ?_
        refine AllReadyH.cons (o:=?obx28) ?hbx28 (fun K hK=>?sbx28) AllReadyH.nil
        case hbx28=>simp only [gA0,gA1,gA2]; rfl
        have hk9:=hHeld.1
        have o4:=ha4.own
        have nw:=((nws_knew wx.drew (u0:=.int .i64 (k:Int)) (u1:=.int .u32 (cO s:Int)) (u2:=.int .u16 (cS s:Int)) (u3:=.int .u16 (cL s:Int)) (u4:=.int .u32 (cG s:Int)) rfl rfl rfl rfl rfl).keep (Kp.alloc No _ (.cells #[] 149)) fun f=>f).keep ha4.kp (fun e=>by have:=Option.some.inj e; simp at this)
        rw [Nat.zero_add,List.nil_append] at o4
        refine step_appT ty_kn rfl (.tmp 72) (.tmp 76) _ rfl Tryz.underlying40 rfl o4 _ _ rfl nw (by have:=HLN.out; omega) (by have h1:=ha4.kp.size; simp at h1 ⊢; omega) ?_
        intro A5 n5 c5 w5 hn5 ha5
        have hK5:=hk9.trans (ha5.kp.mono fun q e=>.inr (Nat.le_trans (by simp <;> omega) (o4.ge q e)))
        have hn5':=hide hn5
        clear hn5
        refine hK.out _ _ (hT _ hK5 (hHeld.2.1.keep ha5.kp fun e=>Nat.lt_irrefl _ (Nat.lt_of_lt_of_le HZL.out (Nat.le_trans (by simp <;> omega) (o4.ge _ e))))) (fun hHeld=>?_)
        clear hK K
        try simp only [Act.put,sA0,sA1,sA2]
        refine wpAnyH_take (i:=10) (v:=?vbx29) (oi:=?obx29) ?hbx29 (by kernel_rfl) (by kernel_rfl) (by kernel_rfl) (fun _ _ _ h=>h) (Or.inl ⟨?wbx29,?ybx29⟩) hHeld ?rbx29
        case hbx29=>simp only [gA0,gA1,gA2]; rfl
        case wbx29=>rfl
        case ybx29=>intro w hSw; (try dsimp only at hSw); go_simp; (try with_reducible rfl)
        simp only [Act.put,sA0,sA1,sA2]
        refine wpAnyH_ready (rs:=[12]) (by kernel_rfl) (by simp) ?_
        refine AllReadyH.cons (o:=?obx30) ?hbx30 (fun K hK=>?sbx30) AllReadyH.nil
        case hbx30=>simp only [gA0,gA1,gA2]; rfl
        obtain ⟨a0,a1,a2,a3,a4,hz⟩:=hHeld.2.1
        have hz1:Bx5 w5 (s0+1+1) a0 a1 a2 a3 a4:=hz
        obtain ⟨z0,z1,z2,z3,z4⟩:=hz1.cell
        have q0:=hz1.frozen 0
        have q1:=hz1.frozen 1
        have q2:=hz1.frozen 2
        have q3:=hz1.frozen 3
        have q4:=hz1.frozen 4
        go_simp
        refine hK.out _ _ (hT _ (hK5.trans' (kp5 w5 (s0+2) _ _ _ _ _ rfl)) ⟨_,_,_,_,_,hz.all _ _ _ _ _⟩) (fun hHeld=>?_)
        clear hK K
        try simp only [Act.put,sA0,sA1,sA2]
        refine wpAnyH_ready (rs:=[13]) (by kernel_rfl) (by simp) ?_
        refine AllReadyH.cons (o:=?obx31) ?hbx31 (fun K hK=>?sbx31) AllReadyH.nil
        case hbx31=>simp only [gA0,gA1,gA2]; rfl
        go_simp
        refine hK.out _ _ (hHeld) (fun hHeld=>?_)
        clear hK K
        try simp only [Act.put,sA0,sA1,sA2]
        refine wpAnyH_done (by kernel_rfl) ?_ _
        refine NoPanic.normal ?_
        obtain ⟨r0,r1,r2,r3,r4⟩:=(hz.all (.int .i64 (D2.size:Int)) (.slice (some ⟨g4,0,none⟩) D2.cells.length e4) (.slice g5 D2.loose.length e5) (.int .i64 (D2.syncs:Int)) (.slice A5 n5 c5)).cell
        have hge:∀ q,(Value.slice A5 n5 c5).ownBlock=some q→wx.heap.size≤q:=fun q e=>Nat.le_trans (by simp <;> omega) (ha5.own.ge q e)
        have HFIN:=hide (BgX.fin HX.out hK5 ha5.own hge)
        clear hHeld z0 z1 z2 z3 z4 q0 q1 q2 q3 q4
        go_wp2_with fail
        refine bodyPost_ret (v:=tupE 0 (rvV D2 (.slice (some ⟨g4,0,none⟩) D2.cells.length e4) (.slice g5 D2.loose.length e5) (.slice A5 n5 c5))) (by simp [results,Tryz.results45,go_sem,rvV,tupE,r0,r1,r2,r3,r4]) rfl ?_
        exact ⟨_,by rw [HE0.out],by rw [HVB.out]; exact HFIN.out.1,HFIN.out.2⟩
     ·have HQ2:Hid (∀ j,j < k+1→usd V.L j=true):=fun j hj=>by
       rcases Nat.lt_or_ge j k with g | g
       ·exact HQ.out j g
       ·obtain rfl:j=k:=by omega
        exact hu
      clear hu
      go_wp2_with fail
      go_round
      case rel=>exact ⟨k+1,by omega,by go_num,HQ2,trivial⟩
      case measure=>simp [intOf]; omega
  ·obtain rfl:k=V.D.cells.length:=by omega
   have hlz:¬ (V.D.cells.length:Int) < V.D.cells.length:=by omega
   have HE20:Hid (V.bgE s bs=20):=by show _=_; unfold Vt.bgE; rw [if_neg HKF.out,if_neg HNB.out,if_neg (by unfold Vt.free Vt.n; rw [fre_end HQ.out]; exact Nat.lt_irrefl _)]
   clear v0 v1 v2 v3 v4
   obtain ⟨v0,v1,v2,v3,v4⟩:=HS.out.bv.cell
   obtain ⟨z0,z1,z2,z3,z4⟩:=HS.out.bz.cell
   have f0:=HS.out.bz.frozen 0
   have f1:=HS.out.bz.frozen 1
   have f2:=HS.out.bz.frozen 2
   have f3:=HS.out.bz.frozen 3
   have f4:=HS.out.bz.frozen 4
   obtain ⟨r0,r1,r2,r3,r4⟩:=(HS.out.bz.all (.int .i64 (V.D.size:Int)) (.slice (some ⟨gc,0,none⟩) V.D.cells.length cc) (.slice A V.D.loose.length cl) (.int .i64 (V.D.syncs:Int)) (.slice A2 V.L.length ck)).cell
   have Kw:Kp No w (((((w1.setCell ⟨(s0+2),0,none⟩ (.int .i64 (V.D.size:Int))).setCell ⟨(s0+2),1,none⟩ (.slice (some ⟨gc,0,none⟩) V.D.cells.length cc)).setCell ⟨(s0+2),2,none⟩ (.slice A V.D.loose.length cl)).setCell ⟨(s0+2),3,none⟩ (.int .i64 (V.D.syncs:Int))).setCell ⟨(s0+2),4,none⟩ (.slice A2 V.L.length ck)):=HS.out.kp.trans (kp5 (S:=Up No w) w1 (s0+2) (.int .i64 (V.D.size:Int)) (.slice (some ⟨gc,0,none⟩) V.D.cells.length cc) (.slice A V.D.loose.length cl) (.int .i64 (V.D.syncs:Int)) (.slice A2 V.L.length ck) (.inr (Nat.le_trans HS.out.sl (Nat.le_add_right _ _))))
   have HF:=hide (show RvAt (((((w1.setCell ⟨(s0+2),0,none⟩ (.int .i64 (V.D.size:Int))).setCell ⟨(s0+2),1,none⟩ (.slice (some ⟨gc,0,none⟩) V.D.cells.length cc)).setCell ⟨(s0+2),2,none⟩ (.slice A V.D.loose.length cl)).setCell ⟨(s0+2),3,none⟩ (.int .i64 (V.D.syncs:Int))).setCell ⟨(s0+2),4,none⟩ (.slice A2 V.L.length ck)) F V (rvV V.D (.slice (some ⟨gc,0,none⟩) V.D.cells.length cc) (.slice A V.D.loose.length cl) (.slice A2 V.L.length ck)) from ⟨_,_,_,cs,ls,rfl,HH.out.no Kw⟩)
   have HKW:=hide Kw
   clear Kw
   go_wp2_with fail
   refine bodyPost_ret (v:=tupE 20 (rvV V.D (.slice (some ⟨gc,0,none⟩) V.D.cells.length cc) (.slice A V.D.loose.length cl) (.slice A2 V.L.length ck))) (by simp [results,Tryz.results45,go_sem,rvV,tupE,r0,r1,r2,r3,r4]) rfl ?_
   exact ⟨_,by rw [HEE.out,HE20.out],by rw [HV2.out,Vt.bg_no (by rw [HE20.out]; omega)]; exact HF.out,HKW.out⟩
end Go.Proofs.YtnfcfdhlmeimhaaGreat
