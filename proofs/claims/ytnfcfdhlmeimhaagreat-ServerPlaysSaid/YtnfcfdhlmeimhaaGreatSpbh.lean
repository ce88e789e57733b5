/- The document's Put of layer 12, as a contract over memory. -/
import Derived.Test.YtnfcfdhlmeimhaaGreatSpbg
namespace Go.Proofs.YtnfcfdhlmeimhaaGreat
open Go.RowKit
set_option linter.unusedVariables false
set_option linter.unusedSimpArgs false
set_option maxRecDepth 20000
theorem RvR.plus {w w1:World} {F:Nat→Prop} {V:Vt} {vc vl vk:Value} {cs:List (Value × List UInt8)} {ls:List (Nat × (Value × List UInt8))} {b:Nat} (h:RvR w F V vc vl vk cs ls) (hk:Kp No w w1) (h1:w.heap.size≤b) (h2:b < w1.heap.size):RvR w1 (fun k=>F k∨k=b) V vc vl vk cs ls :=
 ⟨h.rf.plus hk h1 h2,⟨h.kn.own.no hk,fun k e=>by
  rintro (f | rfl)
  ·exact h.kn.far k e f
  ·have:=h.kn.own.lt _ e
   omega⟩,h.ok⟩
/-- The result's cell is written. -/
theorem RvR.out5 {w4:World} {F:Nat→Prop} {V:Vt} {vc vl vk:Value} {cs:List (Value × List UInt8)} {ls:List (Nat × (Value × List UInt8))} {s0:Nat} (h:RvR w4 (Fz F s0) V vc vl vk cs ls) (u0 u1 u2 u3 u4:Value) :
  RvR (((((w4.setCell ⟨s0+2,0,none⟩ u0).setCell ⟨s0+2,1,none⟩ u1).setCell ⟨s0+2,2,none⟩ u2).setCell ⟨s0+2,3,none⟩ u3).setCell ⟨s0+2,4,none⟩ u4) F V vc vl vk cs ls:=by
 have K:=kp5 (S:=fun q=>q=s0+2) w4 (s0+2) u0 u1 u2 u3 u4 rfl
 exact ⟨(h.rf.keep K fun q _ hn e=>hn (.inr e)).less fun q hq=>.inl hq,⟨h.kn.own.keep K fun q e e2=>h.kn.far q e (.inr e2),fun q e f=>h.kn.far q e (.inl f)⟩,h.ok⟩
set_option maxHeartbeats 4000000 in
theorem rput12_any {w:World} {F:Nat→Prop} {V:Vt} {v:Value} {s n1 c1:Nat} {A1:Option Addr} {bs:List UInt8} (h:RvAt w F V v) (hs:s < N96) (hb:Bts w (.slice A1 n1 c1) bs) (hn1:n1≤9223372036854775000) (hL:V.D.loose.length+2≤1000000) (hsy:V.D.syncs+1≤1000000000) :
  Calls Tryz.prog 86 #[v,shV s,.slice A1 n1 c1] w (RvPost w F (V.pt s bs) (tupE (V.bgE s bs))):=by
 obtain ⟨vc,vl,vk,cs,ls,rfl,h⟩:=h
 obtain ⟨gc,cc,A,cl,A2,ck,rfl,rfl,rfl⟩:=h.forms
 have hS0:=BgS.begin w (.int .i64 (V.D.size:Int)) (.slice (some ⟨gc,0,none⟩) V.D.cells.length cc) (.slice A V.D.loose.length cl) (.int .i64 (V.D.syncs:Int)) (.slice A2 V.L.length ck) s
 have HH:=hide h
 have hbeg:=rbegin12_any (F:=Fz F w.heap.size) ⟨_,_,_,_,_,rfl,h.plus hS0.kp (Nat.le_add_right _ 2) hS0.bz.lt⟩ hs (hb.no hS0.kp) hn1 hL
 have hpt1:(V.bg s bs).D.loose.length≤V.D.loose.length+1∧(V.bg s bs).D.syncs=V.D.syncs:=by
  by_cases e:V.bgE s bs=0
  ·rw [Vt.bg_yes e]
   exact ⟨put_loose _ _ _,put_syncs _ _ _⟩
  ·rw [Vt.bg_no e]
   exact ⟨Nat.le_succ _,rfl⟩
 obtain ⟨E,hE⟩:∃ E,E=V.bgE s bs:=⟨_,rfl⟩
 obtain ⟨V2,hV2⟩:∃ V2,V2=V.pt s bs:=⟨_,rfl⟩
 obtain ⟨V1,hV1⟩:∃ V1,V1=V.bg s bs:=⟨_,rfl⟩
 rw [← hE,← hV2]
 rw [← hE,← hV1] at hbeg
 rw [← hV1] at hpt1
 have HEE:=hide hE
 have HV2:=hide hV2
 have HV1:=hide hV1
 have HPT:=hide hpt1
 have HS0:=hide hS0
 have HBG:=hide hbeg
 clear h hb hE hV2 hV1 hpt1 hS0 hbeg
 unfold rvV at HBG ⊢
 go_enter Tryz.func86,Tryz.ntmps86
 go_upto_region 1 with fail
 generalize (((w.alloc (.cells #[.int .i64 (V.D.size:Int),.slice (some ⟨gc,0,none⟩) V.D.cells.length cc,.slice A V.D.loose.length cl,.int .i64 (V.D.syncs:Int),.slice A2 V.L.length ck] 42)).alloc (.cells #[.int .u32 (cO s:Int),.int .u16 (cS s:Int),.int .u16 (cL s:Int),.int .u32 (cG s:Int)] 53)).alloc (.cells #[.int .i64 0,.slice none 0 0,.slice none 0 0,.int .i64 0,.slice none 0 0] 42))=w0 at HS0 HBG ⊢
 obtain ⟨s0,hs0⟩:∃ s0,s0=w.heap.size:=⟨_,rfl⟩
 rw [← hs0] at HS0 HBG ⊢
 clear hs0
 obtain ⟨v0,v1,v2,v3,v4⟩:=HS0.out.bv.cell
 obtain ⟨b0,b1,b2,b3⟩:=HS0.out.bs.cell
 go_wp2_with fail
 refine HBG.out.mono ?_
 rintro e w1 ⟨v',rfl,⟨vc1,vl1,vk1,cs1,ls1,rfl,h1⟩,k1⟩
 obtain ⟨g1,e1,B1,l1,B2,m1,rfl,rfl,rfl⟩:=h1.forms
 have HS1:=hide (HS0.out.no k1)
 have HR1:=hide h1
 have hS2:=HS1.out.no (Kp.alloc No w1 (.cells #[.int .i64 (V1.D.size:Int),.slice (some ⟨g1,0,none⟩) V1.D.cells.length e1,.slice B1 V1.D.loose.length l1,.int .i64 (V1.D.syncs:Int),.slice B2 V1.L.length m1] 42))
 have hR2:=h1.plus (Kp.alloc No w1 (.cells #[.int .i64 (V1.D.size:Int),.slice (some ⟨g1,0,none⟩) V1.D.cells.length e1,.slice B1 V1.D.loose.length l1,.int .i64 (V1.D.syncs:Int),.slice B2 V1.L.length m1] 42)) (Nat.le_refl _) (by simp)
 have hX2:=Bx5.new w1 (.int .i64 (V1.D.size:Int)) (.slice (some ⟨g1,0,none⟩) V1.D.cells.length e1) (.slice B1 V1.D.loose.length l1) (.int .i64 (V1.D.syncs:Int)) (.slice B2 V1.L.length m1)
 unfold tupE rvV
 clear v0 v1 v2 v3 v4 b0 b1 b2 b3 k1 HBG HS0 h1
 go_upto_region 2 with fail
 generalize w1.alloc (.cells #[.int .i64 (V1.D.size:Int),.slice (some ⟨g1,0,none⟩) V1.D.cells.length e1,.slice B1 V1.D.loose.length l1,.int .i64 (V1.D.syncs:Int),.slice B2 V1.L.length m1] 42)=w2 at hS2 hR2 hX2 ⊢
 have hs02:s0+2 < w1.heap.size:=HS1.out.bz.lt
 have HLT:=hide hs02
 clear hs02
 generalize w1.heap.size=x at hR2 hX2 HLT ⊢
 have HS:=hide hS2
 have HR:=hide hR2
 have HX:=hide hX2
 clear hS2 hR2 hX2 HR1 HS1
 by_cases h0:E=0
 ·subst h0
  have HP:Hid (V2=⟨V1.D.sync,V1.L⟩):=by show _=_; rw [HV2.out,Vt.pt_yes HEE.out.symm,← HV1.out]
  have hsync:=rsync_any ⟨_,_,_,_,rfl,HR.out.rf⟩ (by have:=HPT.out.1; omega) (by have:=HPT.out.2; omega)
  have HSY:=hide hsync
  clear hsync
  unfold rfV at HSY
  obtain ⟨x0,x1,x2,x3,x4⟩:=HX.out.cell
  go_wp2_with fail
  refine HSY.out.mono ?_
  rintro e w3 ⟨v3',rfl,⟨vc3,vl3,cs3,ls3,rfl,hrf3⟩,k3⟩
  obtain ⟨g3,e3,rfl,_⟩:=hrf3.vc_
  obtain ⟨B3,l3,rfl,_,_⟩:=hrf3.vl_
  generalize hD3:V1.D.sync=D3 at hrf3 HP
  have hX3:=HX.out.no k3
  have hX4:=hX3.four (.int .i64 (D3.size:Int)) (.slice (some ⟨g3,0,none⟩) D3.cells.length e3) (.slice B3 D3.loose.length l3) (.int .i64 (D3.syncs:Int))
  have K4:=kpU4 (S:=fun q=>q=x) w3 x (.int .i64 (D3.size:Int)) (.slice (some ⟨g3,0,none⟩) D3.cells.length e3) (.slice B3 D3.loose.length l3) (.int .i64 (D3.syncs:Int)) rfl
  have hR4:RvR ((((w3.setCell ⟨x,0,none⟩ (.int .i64 (D3.size:Int))).setCell ⟨x,1,none⟩ (.slice (some ⟨g3,0,none⟩) D3.cells.length e3)).setCell ⟨x,2,none⟩ (.slice B3 D3.loose.length l3)).setCell ⟨x,3,none⟩ (.int .i64 (D3.syncs:Int))) (Fz F s0) ⟨D3,V1.L⟩ (.slice (some ⟨g3,0,none⟩) D3.cells.length e3) (.slice B3 D3.loose.length l3) (.slice B2 V1.L.length m1) cs3 ls3 :=
   ⟨(hrf3.keep K4 fun q _ hn e=>hn (.inr e)).less fun q hq=>.inl hq,⟨(HR.out.kn.own.no k3).keep K4 fun q e e2=>HR.out.kn.far q e (.inr e2),fun q e f=>HR.out.kn.far q e (.inl f)⟩,HR.out.ok.disk hrf3.ok (by rw [← hD3]; exact sync_n _)⟩
  have hS4:Bx5 ((((w3.setCell ⟨x,0,none⟩ (.int .i64 (D3.size:Int))).setCell ⟨x,1,none⟩ (.slice (some ⟨g3,0,none⟩) D3.cells.length e3)).setCell ⟨x,2,none⟩ (.slice B3 D3.loose.length l3)).setCell ⟨x,3,none⟩ (.int .i64 (D3.syncs:Int))) (s0+2) (.int .i64 0) (.slice none 0 0) (.slice none 0 0) (.int .i64 0) (.slice none 0 0):=((HS.out.no k3).bz).keep K4 (by have:=HLT.out; omega)
  have hx:w.heap.size≤x:=by have:=HS.out.sl; have:=HLT.out; omega
  have K5:Kp No w ((((w3.setCell ⟨x,0,none⟩ (.int .i64 (D3.size:Int))).setCell ⟨x,1,none⟩ (.slice (some ⟨g3,0,none⟩) D3.cells.length e3)).setCell ⟨x,2,none⟩ (.slice B3 D3.loose.length l3)).setCell ⟨x,3,none⟩ (.int .i64 (D3.syncs:Int))):=(HS.out.no k3).kp.trans (K4.mono fun q e=>.inr (by subst e; exact hx))
  obtain ⟨y0,y1,y2,y3,y4⟩:=hX3.cell
  have f0:=hX3.frozen 0
  have f1:=hX3.frozen 1
  have f2:=hX3.frozen 2
  have f3:=hX3.frozen 3
  have HX4:=hide hX4
  have HR4:=hide hR4
  have HS4:=hide hS4
  have HK5:=hide K5
  clear hX3 hX4 K4 hR4 hS4 K5 hrf3 k3 x0 x1 x2 x3 x4 HSY hD3 hx
  unfold rfV id
  go_upto_region 5 with fail
  generalize ((((w3.setCell ⟨x,0,none⟩ (.int .i64 (D3.size:Int))).setCell ⟨x,1,none⟩ (.slice (some ⟨g3,0,none⟩) D3.cells.length e3)).setCell ⟨x,2,none⟩ (.slice B3 D3.loose.length l3)).setCell ⟨x,3,none⟩ (.int .i64 (D3.syncs:Int)))=w4 at HX4 HR4 HS4 HK5 ⊢
  clear y0 y1 y2 y3 y4 f0 f1 f2 f3
  obtain ⟨x0,x1,x2,x3,x4⟩:=HX4.out.cell
  obtain ⟨z0,z1,z2,z3,z4⟩:=HS4.out.cell
  have q0:=HS4.out.frozen 0
  have q1:=HS4.out.frozen 1
  have q2:=HS4.out.frozen 2
  have q3:=HS4.out.frozen 3
  have q4:=HS4.out.frozen 4
  obtain ⟨r0,r1,r2,r3,r4⟩:=(HS4.out.all (.int .i64 (D3.size:Int)) (.slice (some ⟨g3,0,none⟩) D3.cells.length e3) (.slice B3 D3.loose.length l3) (.int .i64 (D3.syncs:Int)) (.slice B2 V1.L.length m1)).cell
  have HFIN:=hide (HR4.out.out5 (.int .i64 (D3.size:Int)) (.slice (some ⟨g3,0,none⟩) D3.cells.length e3) (.slice B3 D3.loose.length l3) (.int .i64 (D3.syncs:Int)) (.slice B2 V1.L.length m1))
  have HKF:=hide (HK5.out.trans (kp5 (S:=Up No w) w4 (s0+2) (.int .i64 (D3.size:Int)) (.slice (some ⟨g3,0,none⟩) D3.cells.length e3) (.slice B3 D3.loose.length l3) (.int .i64 (D3.syncs:Int)) (.slice B2 V1.L.length m1) (.inr (Nat.le_trans HS.out.sl (Nat.le_add_right _ _)))))
  go_wp2_with fail
  refine bodyPost_ret (v:=tupE 0 (rvV D3 (.slice (some ⟨g3,0,none⟩) D3.cells.length e3) (.slice B3 D3.loose.length l3) (.slice B2 V1.L.length m1))) (by simp [results,Tryz.results86,go_sem,rvV,tupE,r0,r1,r2,r3,r4]) rfl ?_
  exact ⟨_,rfl,by rw [HP.out]; exact ⟨_,_,_,_,_,rfl,HFIN.out⟩,HKF.out⟩
 ·have hne:((E:Int) != 0)=true:=by simp; omega
  have HP:Hid (V2=V):=by show _=_; rw [HV2.out]; exact Vt.pt_no (by rw [← HEE.out]; exact h0)
  obtain ⟨v0,v1,v2,v3,v4⟩:=HS.out.bv.cell
  obtain ⟨z0,z1,z2,z3,z4⟩:=HS.out.bz.cell
  have f0:=HS.out.bz.frozen 0
  have f1:=HS.out.bz.frozen 1
  have f2:=HS.out.bz.frozen 2
  have f3:=HS.out.bz.frozen 3
  have f4:=HS.out.bz.frozen 4
  obtain ⟨r0,r1,r2,r3,r4⟩:=(HS.out.bz.all (.int .i64 (V.D.size:Int)) (.slice (some ⟨gc,0,none⟩) V.D.cells.length cc) (.slice A V.D.loose.length cl) (.int .i64 (V.D.syncs:Int)) (.slice A2 V.L.length ck)).cell
  have Kw:=HS.out.kp.trans (kp5 (S:=Up No w) w2 (s0+2) (.int .i64 (V.D.size:Int)) (.slice (some ⟨gc,0,none⟩) V.D.cells.length cc) (.slice A V.D.loose.length cl) (.int .i64 (V.D.syncs:Int)) (.slice A2 V.L.length ck) (.inr (Nat.le_trans HS.out.sl (Nat.le_add_right _ _))))
  have HFIN:=hide (HH.out.no Kw)
  have HKW:=hide Kw
  clear Kw h0
  go_wp2_with fail
  refine bodyPost_ret (v:=tupE E (rvV V.D (.slice (some ⟨gc,0,none⟩) V.D.cells.length cc) (.slice A V.D.loose.length cl) (.slice A2 V.L.length ck))) (by simp [results,Tryz.results86,go_sem,rvV,tupE,r0,r1,r2,r3,r4]) rfl ?_
  exact ⟨_,rfl,by rw [HP.out]; exact ⟨_,_,_,_,_,rfl,HFIN.out⟩,HKW.out⟩
end Go.Proofs.YtnfcfdhlmeimhaaGreat
