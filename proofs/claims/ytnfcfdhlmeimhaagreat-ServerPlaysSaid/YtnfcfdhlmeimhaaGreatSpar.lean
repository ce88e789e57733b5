/- The loose writes of package platter's disk done, one torn; Sync and Crash, each as a contract over memory; no condition. -/
import Derived.Test.YtnfcfdhlmeimhaaGreatSpai
import Derived.Test.YtnfcfdhlmeimhaaGreatSpam
import Derived.Test.YtnfcfdhlmeimhaaGreatSpac
namespace Go.Proofs.YtnfcfdhlmeimhaaGreat
open Go.RowKit
set_option linter.unusedVariables false
set_option maxRecDepth 20000
set_option linter.unusedSimpArgs false
theorem ret_zero {q:Nat} (h:q=0):Ending.returned (.int .i64 0)=.returned (.int .i64 (q:Int)):=by rw [h]; rfl
theorem within_any (w:World) (z:Int) (m:Nat) (hm:m≤1000000):Calls Tryz.prog 71 #[.int .i64 z,.int .i64 (m:Int)] w fun e w1=>e=.returned (.int .i64 (clm z m:Int))∧w=w1:=by
 by_cases h0:z < 0
 ·rw [clm_lo (by omega)]
  have h1:z < (m:Int):=by omega
  go_enter Tryz.func71,Tryz.ntmps71
  go_wp2
  go_ret
  exact ⟨rfl,rfl⟩
 ·by_cases h1:z≤m
  ·obtain ⟨q,rfl⟩:∃ q:Nat,z=q:=⟨z.toNat,by omega⟩
   rw [clm_in (by omega)]
   go_enter Tryz.func71,Tryz.ntmps71
   go_wp2
   all_goals
    go_ret
    refine ⟨?_,rfl⟩
    first | rfl | exact ret_zero (by omega)
  ·rw [clm_hi (by omega)]
   go_enter Tryz.func71,Tryz.ntmps71
   go_wp2
   all_goals
    go_ret
    refine ⟨?_,rfl⟩
    first | rfl | exact ret_zero (by omega)
/-- So many loose writes are done. -/
structure DoI (w:World) (gc n c:Nat) (cv:List Value) (lv:List (Nat × Value)) (k:Nat) (wr:World):Prop where
 own:OwnT wr 0 54 1 (.slice (some ⟨gc,0,none⟩) n c) n (doG cv (lv.take k))
 kp:Kp (fun q=>q=gc) w wr
theorem DoI.next {w wr:World} {gc n c k q:Nat} {cv:List Value} {lv:List (Nat × Value)} {v:Value} (h:DoI w gc n c cv lv k wr) (hp:lv[k]?=some (q,v)) (hq:q < n):DoI w gc n c cv lv (k+1) (wr.setCell ⟨gc,q,none⟩ v) :=
 ⟨by rw [take_more hp,doG_snoc]; exact h.own.set1 hq v,h.kp.trans' (Kp.setCell (p:=⟨gc,q,none⟩) (S:=fun q=>q=gc) rfl v)⟩
theorem DoI.no {w wr w1:World} {gc n c k:Nat} {cv:List Value} {lv:List (Nat × Value)} (h:DoI w gc n c cv lv k wr) (hk:Kp No wr w1):DoI w gc n c cv lv k w1:=⟨h.own.no hk,h.kp.trans' (hk.of_no _)⟩
set_option maxHeartbeats 2000000 in
theorem pdo_any {w:World} {g gc n c m cl:Nat} {A:Option Addr} {cv:List Value} {lv:List (Nat × Value)} (x0:w.cell? ⟨g,0,none⟩=some (.slice (some ⟨gc,0,none⟩) n c)) (hg:g≠gc) (ho:OwnT w 0 54 1 (.slice (some ⟨gc,0,none⟩) n c) n cv)
  (hl:LsR w A m lv) (hA:∀ a,A=some a→a.block≠gc) (hin:∀ p ∈ lv,p.1 < n∧∃ A' m' c',p.2=.slice A' m' c') (hm:m≤1000000) :
  Calls Tryz.prog 72 #[.pointer (some ⟨g,0,none⟩),.slice A m cl] w fun e w1=>e=.returned (.tuple #[])∧DoI w gc n c cv lv lv.length w1:=by
 have HL:=hide hl.len
 have hst:DoI w gc n c cv lv 0 w:=⟨ho,Kp.refl _ _⟩
 have HG:=hide hg
 clear hg
 go_enter Tryz.func72,Tryz.ntmps72
 go_wp2
 go_loopw [8] (fun i wr=>∃ k:Nat,k≤m∧i=.int .i64 (k:Int)∧DoI w gc n c cv lv k wr) (fun i _=>m - (intOf i).toNat)
 case atStart=>exact ⟨0,Nat.zero_le _,rfl,hst⟩
 case round =>
  obtain ⟨k,hk,rfl,hI⟩:=hrel
  by_cases hlt:k < m
  ·obtain ⟨p,hp⟩:∃ p,lv[k]?=some p:=⟨_,List.getElem?_eq_getElem (by have:=HL.out; omega)⟩
   obtain ⟨B,off,rfl,y0,y1⟩:=(hl.keep hI.kp hA).at_ k p hp
   obtain ⟨hq,A',m',c',e'⟩:=hin p (List.mem_of_getElem? hp)
   obtain ⟨q,v⟩:=p
   simp only at e' hq y0 y1
   subst e'
   have HP:=hide hp
   clear hp
   have z0:wr.cell? ⟨g,0,none⟩=some (.slice (some ⟨gc,0,none⟩) n c):=hI.kp.cell x0 HG.out
   have hnc:=hI.own.cap
   have hnn:=hI.own.row
   have hn63:n≤9223372036854775807:=by
    obtain ⟨_,_,_,h1,h2,_⟩:=hnn
    unfold maxLen at h2
    omega
   clear hnn
   go_wp2_with fail
   have b0:(wr.alloc (.cells #[.int .i64 (q:Int),.slice A' m' c'] 153)).cell? ⟨wr.heap.size,0,none⟩=some (.int .i64 (q:Int)):=by rw [World.cell?_alloc_mark]; rfl
   have b1:(wr.alloc (.cells #[.int .i64 (q:Int),.slice A' m' c'] 153)).cell? ⟨wr.heap.size,1,none⟩=some (.slice A' m' c'):=by rw [World.cell?_alloc_mark]; rfl
   have hI2:=hI.no (Kp.alloc No wr (.cells #[.int .i64 (q:Int),.slice A' m' c'] 153))
   have z2:=(Kp.alloc No wr (.cells #[.int .i64 (q:Int),.slice A' m' c'] 153)).cell z0 (fun f=>f)
   clear y0 y1 z0 hI x0 ho
   generalize wr.alloc (.cells #[.int .i64 (q:Int),.slice A' m' c'] 153)=w2 at b0 b1 hI2 z2 ⊢
   generalize wr.heap.size=s at b0 b1 ⊢
   have z3:w2.drew.cell? ⟨g,0,none⟩=some (.slice (some ⟨gc,0,none⟩) n c):=z2
   have b3:w2.drew.cell? ⟨s,0,none⟩=some (.int .i64 (q:Int)):=b0
   have b4:w2.drew.cell? ⟨s,1,none⟩=some (.slice A' m' c'):=b1
   have hI3:=hI2.no (Kp.refl No w2).drew
   have xf:=hI3.own.frozenAt q
   obtain ⟨uu,huu⟩:∃ uu,(doG cv (lv.take k))[q]?=some uu:=⟨_,List.getElem?_eq_getElem (by have:=hI3.own.1; omega)⟩
   have xc:=hI3.own.cellAt huu
   have HN:=hide (hI3.next HP.out hq)
   clear huu hI2 hI3 b0 b1 z2
   refine wp_region_noPanic ?_
   refine LastR.begin (S:=fun w'=>w'.cell? ⟨g,0,none⟩=some (.slice (some ⟨gc,0,none⟩) n c)∧w'.cell? ⟨s,0,none⟩=some (.int .i64 (q:Int))∧w'.cell? ⟨s,1,none⟩=some (.slice A' m' c')) (t:=9) (by kernel_rfl) (⟨z3,b3,b4⟩) (fun hHeld=>?_)
   refine LastR.take (i:=0) (v:=?va0) (oi:=?oa0) ?ha0 (by kernel_rfl) (by kernel_rfl) (by kernel_rfl) (by kernel_rfl) (fun _ _ _ h=>h) (Or.inl ⟨?wa0,?ya0⟩) hHeld ?ra0
   case ha0=>simp only [gA0,gA1,gA2]; rfl
   case wa0=>rfl
   case ya0=>intro w hSw; (try dsimp only at hSw); go_simp; (try with_reducible rfl)
   simp only [Act.put,sA0,sA1,sA2]
   refine LastR.take (i:=1) (v:=?va1) (oi:=?oa1) ?ha1 (by kernel_rfl) (by kernel_rfl) (by kernel_rfl) (by kernel_rfl) (fun _ _ _ h=>h) (Or.inl ⟨?wa1,?ya1⟩) hHeld ?ra1
   case ha1=>simp only [gA0,gA1,gA2]; rfl
   case wa1=>rfl
   case ya1=>intro w hSw; (try dsimp only at hSw); go_simp; (try with_reducible rfl)
   simp only [Act.put,sA0,sA1,sA2]
   refine LastR.take (i:=2) (v:=?va2) (oi:=?oa2) ?ha2 (by kernel_rfl) (by kernel_rfl) (by kernel_rfl) (by kernel_rfl) (fun _ _ _ h=>h) (Or.inl ⟨?wa2,?ya2⟩) hHeld ?ra2
   case ha2=>simp only [gA0,gA1,gA2]; rfl
   case wa2=>rfl
   case ya2=>intro w hSw; (try dsimp only at hSw); go_simp; (try with_reducible rfl)
   simp only [Act.put,sA0,sA1,sA2]
   refine LastR.take (i:=3) (v:=?va3) (oi:=?oa3) ?ha3 (by kernel_rfl) (by kernel_rfl) (by kernel_rfl) (by kernel_rfl) (fun _ _ _ h=>h) (Or.inl ⟨?wa3,?ya3⟩) hHeld ?ra3
   case ha3=>simp only [gA0,gA1,gA2]; rfl
   case wa3=>rfl
   case ya3=>intro w hSw; (try dsimp only at hSw); go_simp; (try with_reducible rfl)
   simp only [Act.put,sA0,sA1,sA2]
   refine LastR.take (i:=4) (v:=?va4) (oi:=?oa4) ?ha4 (by kernel_rfl) (by kernel_rfl) (by kernel_rfl) (by kernel_rfl) (fun _ _ _ h=>h) (Or.inl ⟨?wa4,?ya4⟩) hHeld ?ra4
   case ha4=>simp only [gA0,gA1,gA2]; rfl
   case wa4=>rfl
   case ya4=>intro w hSw; (try dsimp only at hSw); go_simp; (try with_reducible rfl)
   simp only [Act.put,sA0,sA1,sA2]
   refine LastR.take (i:=5) (v:=?va5) (oi:=?oa5) ?ha5 (by kernel_rfl) (by kernel_rfl) (by kernel_rfl) (by kernel_rfl) (fun _ _ _ h=>h) (Or.inl ⟨?wa5,?ya5⟩) hHeld ?ra5
   case ha5=>simp only [gA0,gA1,gA2]; rfl
   case wa5=>rfl
   case ya5=>intro w hSw; (try dsimp only at hSw); go_simp; (try with_reducible rfl)
   simp only [Act.put,sA0,sA1,sA2]
   refine LastR.take (i:=6) (v:=?va6) (oi:=?oa6) ?ha6 (by kernel_rfl) (by kernel_rfl) (by kernel_rfl) (by kernel_rfl) (fun _ _ _ h=>h) (Or.inl ⟨?wa6,?ya6⟩) hHeld ?ra6
   case ha6=>simp only [gA0,gA1,gA2]; rfl
   case wa6=>rfl
   case ya6=>intro w hSw; (try dsimp only at hSw); go_simp; (try with_reducible rfl)
   simp only [Act.put,sA0,sA1,sA2]
   refine LastR.take (i:=7) (v:=?va7) (oi:=?oa7) ?ha7 (by kernel_rfl) (by kernel_rfl) (by kernel_rfl) (by kernel_rfl) (fun _ _ _ h=>h) (Or.inl ⟨?wa7,?ya7⟩) hHeld ?ra7
   case ha7=>simp only [gA0,gA1,gA2]; rfl
   case wa7=>rfl
   case ya7=>intro w hSw; (try dsimp only at hSw); go_simp; (try with_reducible rfl)
   simp only [Act.put,sA0,sA1,sA2]
   refine LastR.take (i:=8) (v:=?va8) (oi:=?oa8) ?ha8 (by kernel_rfl) (by kernel_rfl) (by kernel_rfl) (by kernel_rfl) (fun _ _ _ h=>h) (Or.inl ⟨?wa8,?ya8⟩) hHeld ?ra8
   case ha8=>simp only [gA0,gA1,gA2]; rfl
   case wa8=>rfl
   case ya8=>intro w hSw; (try dsimp only at hSw); go_simp; (try with_reducible rfl)
   simp only [Act.put,sA0,sA1,sA2]
   refine LastR.run (i:=9) (o:=?oa9) ?ha9 (by kernel_rfl) (fun K hK=>?sa9)
   case ha9=>simp only [gA0,gA1,gA2]; rfl
   go_simp
   refine hK.out _ _ (fun h=>absurd rfl h) (fun _=>?_)
   clear hK K
   try simp only [Act.put,sA0,sA1,sA2]
   refine LastR.done (by kernel_rfl) ?_ _
   refine NoPanic.normal ?_
   go_wp2_with fail
   go_round
   case rel=>exact ⟨k+1,by omega,by go_num,HN.out⟩
   case measure=>simp [intOf]; omega
  ·obtain rfl:k=m:=by omega
   have HI:=hide hI
   go_wp2_with fail
   go_end0
   exact ⟨rfl,by rw [← HL.out]; exact HI.out⟩
/-- Two slices side by side. -/
theorem rws_pair {w:World} {s:Nat} {u0 u1:Value} {b0 b1:List UInt8} (h0:w.cell? ⟨s,0,none⟩=some u0) (h1:w.cell? ⟨s,1,none⟩=some u1) (k0:Bts w u0 b0) (k1:Bts w u1 b1):Rws w (some ⟨s,0,none⟩) 2 [b0,b1] :=
 ⟨rfl,fun j bs hj=>by
  match j,hj with
  | 0,hj=>simp at hj; subst hj; exact ⟨s,0,u0,rfl,h0,k0⟩
  | 1,hj=>simp at hj; subst hj; exact ⟨s,0,u1,rfl,h1,k1⟩
  | j+2,hj=>simp at hj⟩
/-- What tear leaves. -/
def TearPost (w:World) (gc n c q:Nat) (cv:List Value) (b:List UInt8) (e:Ending) (w1:World):Prop :=
 e=.returned (.tuple #[])∧∃ v,OwnT w1 0 54 1 (.slice (some ⟨gc,0,none⟩) n c) n (cv.set q v)∧Own w1 0 5 v b∧(∀ k,v.ownBlock=some k→w.heap.size≤k)∧Kp (fun k=>k=gc) w w1
set_option maxHeartbeats 4000000 in
theorem ptear_any {w:World} {g gc n c q m cc m' c':Nat} {A A':Option Addr} {cv:List Value} {b had:List UInt8} (x0:w.cell? ⟨g,0,none⟩=some (.slice (some ⟨gc,0,none⟩) n c)) (hg:g≠gc) (ho:OwnT w 0 54 1 (.slice (some ⟨gc,0,none⟩) n c) n cv)
  (hq:q < n) (hcv:cv[q]?=some (.slice A m cc)) (hB:Bts w (.slice A m cc) had) (hmc:m≤cc) (hD:Bts w (.slice A' m' c') b) (hmc':m'≤c') (hm:m≤5000) (hm':m'≤5000) (y:Int) :
  Calls Tryz.prog 73 #[.pointer (some ⟨g,0,none⟩),.agg #[.int .i64 (q:Int),.slice A' m' c'],.int .i64 y] w (TearPost w gc n c q cv (tornB b had (clm y m'))):=by
 obtain ⟨t,ht⟩:∃ t,t=clm y m':=⟨_,rfl⟩
 have htm:t≤m':=ht ▸ clm_le y m'
 rw [← ht]
 have HT:=hide ht
 clear ht
 have HLB:=hide hB.len
 have HLD:=hide hD.len
 obtain ⟨su,bu,_⟩:=slice_u hD hmc' t (t:Int) rfl htm
 have hnc:=ho.cap
 have hn63:n≤9223372036854775807:=by
  obtain ⟨_,_,_,h1,h2,_⟩:=ho.row
  unfold maxLen at h2
  omega
 have HG:=hide hg
 have HB:=hide hB
 clear hg hB hD
 have xcv:=ho.cellAt hcv
 have hgl:g < w.heap.size:=World.block_lt_of_cell? w _ x0
 have hgcl:gc < w.heap.size:=ho.blk
 have HO:=hide ho
 clear ho
 rcases Nat.lt_or_ge m t with htl | htl
 ·have hnm:m < t:=by omega
  obtain ⟨r1,hr1⟩:∃ r1,r1=m - m:=⟨_,rfl⟩
  obtain ⟨r2,hr2⟩:∃ r2,r2=cc - m:=⟨_,rfl⟩
  obtain ⟨Al,sl,bl,hrr⟩:=slice_l HB.out hmc m r1 r2 (m:Int) rfl (by omega) hr1 hr2
  have HR1:=hide hr1
  have BU:=hide bu
  have BL:=hide bl
  clear hr1 hr2 bu bl
  go_enter Tryz.func73,Tryz.ntmps73
  go_wp2_with fail
  refine (within_any _ y m' (by omega)).mono ?_
  rintro e w1 ⟨rfl,hw1⟩
  rw [← HT.out]
  subst w1
  have b0:(w.alloc (.cells #[.int .i64 (q:Int),.slice A' m' c'] 153)).cell? ⟨w.heap.size,0,none⟩=some (.int .i64 (q:Int)):=by rw [World.cell?_alloc_mark]; rfl
  have b1:(w.alloc (.cells #[.int .i64 (q:Int),.slice A' m' c'] 153)).cell? ⟨w.heap.size,1,none⟩=some (.slice A' m' c'):=by rw [World.cell?_alloc_mark]; rfl
  have K1:Kp No w (w.alloc (.cells #[.int .i64 (q:Int),.slice A' m' c'] 153)):=Kp.alloc No w _
  generalize w.alloc (.cells #[.int .i64 (q:Int),.slice A' m' c'] 153)=w2 at b0 b1 K1 ⊢
  have z0:=K1.cell x0 (fun f=>f)
  have zc:=K1.cell xcv (fun f=>f)
  have hs:Hid (w.heap.size≠gc):=by show _≠_; omega
  obtain ⟨s,hse⟩:∃ s,s=w.heap.size:=⟨_,rfl⟩
  rw [← hse] at b0 b1 hs ⊢
  have HK1:=hide K1
  have HSE:=hide hse
  clear K1 hse x0 xcv
  go_wp2_with fail
  go_quiet (fail)
  go_wp2_with fail
  have HK3:Hid (Kp No w (w2.drewN nq)):=HK1.out.drewN nq
  have z3:(w2.drewN nq).cell? ⟨g,0,none⟩=some (.slice (some ⟨gc,0,none⟩) n c):=z0
  have zc3:(w2.drewN nq).cell? ⟨gc,q,none⟩=some (.slice A m cc):=zc
  have b3:(w2.drewN nq).cell? ⟨s,0,none⟩=some (.int .i64 (q:Int)):=b0
  have b4:(w2.drewN nq).cell? ⟨s,1,none⟩=some (.slice A' m' c'):=b1
  clear z0 zc b0 b1 HK1
  generalize w2.drewN nq=w3 at HK3 z3 zc3 b3 b4 ⊢
  have y0:w3.drew.cell? ⟨g,0,none⟩=some (.slice (some ⟨gc,0,none⟩) n c):=z3
  have y1:w3.drew.cell? ⟨s,0,none⟩=some (.int .i64 (q:Int)):=b3
  have y2:w3.drew.cell? ⟨s,1,none⟩=some (.slice A' m' c'):=b4
  clear z3 b3 b4
  refine wp_region_noPanic ?_
  refine LastR.begin (S:=fun w'=>w'.cell? ⟨g,0,none⟩=some (.slice (some ⟨gc,0,none⟩) n c)∧w'.cell? ⟨s,0,none⟩=some (.int .i64 (q:Int))∧w'.cell? ⟨s,1,none⟩=some (.slice A' m' c')) (t:=19) (by kernel_rfl) (⟨y0,y1,y2⟩) (fun hHeld=>?_)
  refine LastR.take (i:=0) (v:=?vc0) (oi:=?oc0) ?hc0 (by kernel_rfl) (by kernel_rfl) (by kernel_rfl) (by kernel_rfl) (fun _ _ _ h=>h) (Or.inl ⟨?wc0,?yc0⟩) hHeld ?rc0
  case hc0=>simp only [gA0,gA1,gA2]; rfl
  case wc0=>rfl
  case yc0=>intro w hSw; (try dsimp only at hSw); go_simp; (try with_reducible rfl)
  simp only [Act.put,sA0,sA1,sA2]
  refine LastR.take (i:=1) (v:=?vc1) (oi:=?oc1) ?hc1 (by kernel_rfl) (by kernel_rfl) (by kernel_rfl) (by kernel_rfl) (fun _ _ _ h=>h) (Or.inl ⟨?wc1,?yc1⟩) hHeld ?rc1
  case hc1=>simp only [gA0,gA1,gA2]; rfl
  case wc1=>rfl
  case yc1=>intro w hSw; (try dsimp only at hSw); go_simp; (try with_reducible rfl)
  simp only [Act.put,sA0,sA1,sA2]
  refine LastR.take (i:=2) (v:=?vc2) (oi:=?oc2) ?hc2 (by kernel_rfl) (by kernel_rfl) (by kernel_rfl) (by kernel_rfl) (fun _ _ _ h=>h) (Or.inl ⟨?wc2,?yc2⟩) hHeld ?rc2
  case hc2=>simp only [gA0,gA1,gA2]; rfl
  case wc2=>rfl
  case yc2=>intro w hSw; (try dsimp only at hSw); go_simp; (try with_reducible rfl)
  simp only [Act.put,sA0,sA1,sA2]
  refine LastR.take (i:=3) (v:=?vc3) (oi:=?oc3) ?hc3 (by kernel_rfl) (by kernel_rfl) (by kernel_rfl) (by kernel_rfl) (fun _ _ _ h=>h) (Or.inl ⟨?wc3,?yc3⟩) hHeld ?rc3
  case hc3=>simp only [gA0,gA1,gA2]; rfl
  case wc3=>rfl
  case yc3=>intro w hSw; (try dsimp only at hSw); go_simp; (try with_reducible rfl)
  simp only [Act.put,sA0,sA1,sA2]
  refine LastR.take (i:=4) (v:=?vc4) (oi:=?oc4) ?hc4 (by kernel_rfl) (by kernel_rfl) (by kernel_rfl) (by kernel_rfl) (fun _ _ _ h=>h) (Or.inl ⟨?wc4,?yc4⟩) hHeld ?rc4
  case hc4=>simp only [gA0,gA1,gA2]; rfl
  case wc4=>rfl
  case yc4=>intro w hSw; (try dsimp only at hSw); go_simp; (try with_reducible rfl)
  simp only [Act.put,sA0,sA1,sA2]
  refine LastR.take (i:=5) (v:=?vc5) (oi:=?oc5) ?hc5 (by kernel_rfl) (by kernel_rfl) (by kernel_rfl) (by kernel_rfl) (fun _ _ _ h=>h) (Or.inl ⟨?wc5,?yc5⟩) hHeld ?rc5
  case hc5=>simp only [gA0,gA1,gA2]; rfl
  case wc5=>rfl
  case yc5=>intro w hSw; (try dsimp only at hSw); go_simp; (try with_reducible rfl)
  simp only [Act.put,sA0,sA1,sA2]
  refine LastR.take (i:=6) (v:=?vc6) (oi:=?oc6) ?hc6 (by kernel_rfl) (by kernel_rfl) (by kernel_rfl) (by kernel_rfl) (fun _ _ _ h=>h) (Or.inl ⟨?wc6,?yc6⟩) hHeld ?rc6
  case hc6=>simp only [gA0,gA1,gA2]; rfl
  case wc6=>rfl
  case yc6=>intro w hSw; (try dsimp only at hSw); go_simp; (try with_reducible rfl)
  simp only [Act.put,sA0,sA1,sA2]
  refine LastR.take (i:=7) (v:=?vc7) (oi:=?oc7) ?hc7 (by kernel_rfl) (by kernel_rfl) (by kernel_rfl) (by kernel_rfl) (fun _ _ _ h=>h) (Or.inl ⟨?wc7,?yc7⟩) hHeld ?rc7
  case hc7=>simp only [gA0,gA1,gA2]; rfl
  case wc7=>rfl
  case yc7=>intro w hSw; (try dsimp only at hSw); go_simp; (try with_reducible rfl)
  simp only [Act.put,sA0,sA1,sA2]
  refine LastR.take (i:=8) (v:=?vc8) (oi:=?oc8) ?hc8 (by kernel_rfl) (by kernel_rfl) (by kernel_rfl) (by kernel_rfl) (fun _ _ _ h=>h) (Or.inl ⟨?wc8,?yc8⟩) hHeld ?rc8
  case hc8=>simp only [gA0,gA1,gA2]; rfl
  case wc8=>rfl
  case yc8=>intro w hSw; (try dsimp only at hSw); go_simp; (try with_reducible rfl)
  simp only [Act.put,sA0,sA1,sA2]
  refine LastR.take (i:=9) (v:=?vc9) (oi:=?oc9) ?hc9 (by kernel_rfl) (by kernel_rfl) (by kernel_rfl) (by kernel_rfl) (fun _ _ _ h=>h) (Or.inl ⟨?wc9,?yc9⟩) hHeld ?rc9
  case hc9=>simp only [gA0,gA1,gA2]; rfl
  case wc9=>rfl
  case yc9=>intro w hSw; (try dsimp only at hSw); go_simp; (try with_reducible rfl)
  simp only [Act.put,sA0,sA1,sA2]
  refine LastR.take (i:=10) (v:=?vc10) (oi:=?oc10) ?hc10 (by kernel_rfl) (by kernel_rfl) (by kernel_rfl) (by kernel_rfl) (fun _ _ _ h=>h) (Or.inl ⟨?wc10,?yc10⟩) hHeld ?rc10
  case hc10=>simp only [gA0,gA1,gA2]; rfl
  case wc10=>rfl
  case yc10=>intro w hSw; (try dsimp only at hSw); go_simp; (try with_reducible rfl)
  simp only [Act.put,sA0,sA1,sA2]
  refine LastR.take (i:=11) (v:=?vc11) (oi:=?oc11) ?hc11 (by kernel_rfl) (by kernel_rfl) (by kernel_rfl) (by kernel_rfl) (fun _ _ _ h=>h) (Or.inl ⟨?wc11,?yc11⟩) hHeld ?rc11
  case hc11=>simp only [gA0,gA1,gA2]; rfl
  case wc11=>rfl
  case yc11=>intro w hSw; (try dsimp only at hSw); go_simp; (try with_reducible rfl)
  simp only [Act.put,sA0,sA1,sA2]
  refine LastR.take (i:=12) (v:=?vc12) (oi:=?oc12) ?hc12 (by kernel_rfl) (by kernel_rfl) (by kernel_rfl) (by kernel_rfl) (fun _ _ _ h=>h) (Or.inl ⟨?wc12,?yc12⟩) hHeld ?rc12
  case hc12=>simp only [gA0,gA1,gA2]; rfl
  case wc12=>rfl
  case yc12=>intro w hSw; (try dsimp only at hSw); go_simp; (try with_reducible rfl)
  simp only [Act.put,sA0,sA1,sA2]
  refine LastR.take (i:=13) (v:=?vc13) (oi:=?oc13) ?hc13 (by kernel_rfl) (by kernel_rfl) (by kernel_rfl) (by kernel_rfl) (fun _ _ _ h=>h) (Or.inl ⟨?wc13,?yc13⟩) hHeld ?rc13
  case hc13=>simp only [gA0,gA1,gA2]; rfl
  case wc13=>rfl
  case yc13=>intro w hSw; (try dsimp only at hSw); go_simp; (try with_reducible rfl)
  simp only [Act.put,sA0,sA1,sA2]
  refine LastR.take (i:=14) (v:=?vc14) (oi:=?oc14) ?hc14 (by kernel_rfl) (by kernel_rfl) (by kernel_rfl) (by kernel_rfl) (fun _ _ _ h=>h) (Or.inl ⟨?wc14,?yc14⟩) hHeld ?rc14
  case hc14=>simp only [gA0,gA1,gA2]; rfl
  case wc14=>rfl
  case yc14=>intro w hSw; (try dsimp only at hSw); go_simp; (try with_reducible rfl)
  simp only [Act.put,sA0,sA1,sA2]
  refine LastR.take (i:=15) (v:=?vc15) (oi:=?oc15) ?hc15 (by kernel_rfl) (by kernel_rfl) (by kernel_rfl) (by kernel_rfl) (fun _ _ _ h=>h) (Or.inl ⟨?wc15,?yc15⟩) hHeld ?rc15
  case hc15=>simp only [gA0,gA1,gA2]; rfl
  case wc15=>rfl
  case yc15=>intro w hSw; (try dsimp only at hSw); go_simp; (try with_reducible rfl)
  simp only [Act.put,sA0,sA1,sA2]
  refine LastR.run (i:=16) (o:=?oc16) ?hc16 (by kernel_rfl) (fun K hK=>?sc16)
  case hc16=>simp only [gA0,gA1,gA2]; rfl
  go_simp
  refine hK.out _ _ (fun _=>⟨(Kp.alloc No _ _).cell y0 (fun f=>f),(Kp.alloc No _ _).cell y1 (fun f=>f),(Kp.alloc No _ _).cell y2 (fun f=>f)⟩) (fun hHe=>?_)
  have hHeld:=hHe (by decide)
  clear hK K hHe
  try simp only [Act.put,sA0,sA1,sA2]
  refine LastR.run (i:=17) (o:=?oc17) ?hc17 (by kernel_rfl) (fun K hK=>?sc17)
  case hc17=>simp only [gA0,gA1,gA2]; rfl
  go_simp
  have KA:Kp No w3.drew (w3.drew.alloc (.cells #[.slice A' t c',.slice Al r1 r2] 54)):=Kp.alloc No w3.drew _
  have hR:=rws_pair (w:=w3.drew.alloc (.cells #[.slice A' t c',.slice Al r1 r2] 54)) (s:=w3.heap.size) (cell_new _ _ _ rfl rfl) (cell_new _ _ _ rfl rfl) (BU.out.no (HK3.out.drew.trans' KA)) (BL.out.no (HK3.out.drew.trans' KA))
  refine (scat_any hR (by omega) (by have:=HLB.out; have:=HLD.out; simp; omega)).mono ?_
  rintro e w5 ⟨A5,n5,c5,rfl,ho5,k5⟩
  have y3:=k5.cell (KA.cell y0 (fun f=>f)) (fun f=>f)
  have y4:=k5.cell (KA.cell y1 (fun f=>f)) (fun f=>f)
  have y5:=k5.cell (KA.cell y2 (fun f=>f)) (fun f=>f)
  have y6:w5.cell? ⟨gc,q,none⟩=some (.slice A m cc):=k5.cell (KA.cell (show w3.drew.cell? ⟨gc,q,none⟩=some (.slice A m cc) from zc3) (fun f=>f)) (fun f=>f)
  have y7:w5.frozen? ⟨gc,q,none⟩=false:=(HO.out.no ((HK3.out.drew.trans' KA).trans' k5)).frozenAt q
  clear hR KA
  go_wp2_with fail
  refine hK.out _ _ (fun _=>⟨y3,y4,y5⟩) (fun hHe=>?_)
  have hHeld:=hHe (by decide)
  clear hK K hHe
  try simp only [Act.put,sA0,sA1,sA2]
  refine LastR.take (i:=18) (v:=?vc18) (oi:=?oc18) ?hc18 (by kernel_rfl) (by kernel_rfl) (by kernel_rfl) (by kernel_rfl) (fun _ _ _ h=>h) (Or.inl ⟨?wc18,?yc18⟩) hHeld ?rc18
  case hc18=>simp only [gA0,gA1,gA2]; rfl
  case wc18=>rfl
  case yc18=>intro w hSw; (try dsimp only at hSw); go_simp; (try with_reducible rfl)
  simp only [Act.put,sA0,sA1,sA2]
  refine LastR.run (i:=19) (o:=?oc19) ?hc19 (by kernel_rfl) (fun K hK=>?sc19)
  case hc19=>simp only [gA0,gA1,gA2]; rfl
  go_simp
  refine hK.out _ _ (fun h=>absurd rfl h) (fun _=>?_)
  clear hK K
  try simp only [Act.put,sA0,sA1,sA2]
  refine LastR.done (by kernel_rfl) ?_ _
  refine NoPanic.normal ?_
  have K5:Kp No w w5:=(HK3.out.drew.al _).trans' k5
  have hO5:=HO.out.no K5
  have hset:=hO5.set1 hq (.slice A5 n5 c5)
  have hrow:=(ho5.base0).keep (S:=fun q=>q=gc) (Kp.setCell (w:=w5) (p:=⟨gc,q,none⟩) (S:=fun q=>q=gc) rfl (.slice A5 n5 c5)) fun k hk e=>by subst e; exact hO5.offB ho5 (by decide) hk
  have HSET:=hide hset
  have HROW:=hide hrow
  have HF:=hide (show ∀ k,(Value.slice A5 n5 c5).ownBlock=some k→w.heap.size≤k from fun k hk=>Nat.le_trans (Nat.le_trans HK3.out.size (by simp)) (ho5.ge k hk))
  clear hset hrow hO5 ho5
  go_wp2_with fail
  go_end0
  refine ⟨rfl,_,HSET.out,?_,HF.out,(K5.of_no _).trans' (Kp.setCell (p:=⟨gc,q,none⟩) (S:=fun q=>q=gc) rfl _)⟩
  have e:tornB b had t=[b.take t,had.drop m].flatten:=by
   unfold tornB
   rw [List.drop_eq_nil_of_le (by have:=HLB.out; omega:had.length≤t),List.drop_eq_nil_of_le (by have:=HLB.out; omega:had.length≤m)]
   simp
  rw [e]
  exact HROW.out
 ·have hnm:¬ m < t:=by omega
  obtain ⟨r1,hr1⟩:∃ r1,r1=m - t:=⟨_,rfl⟩
  obtain ⟨r2,hr2⟩:∃ r2,r2=cc - t:=⟨_,rfl⟩
  obtain ⟨Al,sl,bl,hrr⟩:=slice_l HB.out hmc t r1 r2 (t:Int) rfl (by omega) hr1 hr2
  have HR1:=hide hr1
  have BU:=hide bu
  have BL:=hide bl
  clear hr1 hr2 bu bl
  go_enter Tryz.func73,Tryz.ntmps73
  go_wp2_with fail
  refine (within_any _ y m' (by omega)).mono ?_
  rintro e w1 ⟨rfl,hw1⟩
  rw [← HT.out]
  subst w1
  have b0:(w.alloc (.cells #[.int .i64 (q:Int),.slice A' m' c'] 153)).cell? ⟨w.heap.size,0,none⟩=some (.int .i64 (q:Int)):=by rw [World.cell?_alloc_mark]; rfl
  have b1:(w.alloc (.cells #[.int .i64 (q:Int),.slice A' m' c'] 153)).cell? ⟨w.heap.size,1,none⟩=some (.slice A' m' c'):=by rw [World.cell?_alloc_mark]; rfl
  have K1:Kp No w (w.alloc (.cells #[.int .i64 (q:Int),.slice A' m' c'] 153)):=Kp.alloc No w _
  generalize w.alloc (.cells #[.int .i64 (q:Int),.slice A' m' c'] 153)=w2 at b0 b1 K1 ⊢
  have z0:=K1.cell x0 (fun f=>f)
  have zc:=K1.cell xcv (fun f=>f)
  have hs:Hid (w.heap.size≠gc):=by show _≠_; omega
  obtain ⟨s,hse⟩:∃ s,s=w.heap.size:=⟨_,rfl⟩
  rw [← hse] at b0 b1 hs ⊢
  have HK1:=hide K1
  have HSE:=hide hse
  clear K1 hse x0 xcv
  go_wp2_with fail
  go_quiet (fail)
  go_wp2_with fail
  have HK3:Hid (Kp No w (w2.drewN nq)):=HK1.out.drewN nq
  have z3:(w2.drewN nq).cell? ⟨g,0,none⟩=some (.slice (some ⟨gc,0,none⟩) n c):=z0
  have zc3:(w2.drewN nq).cell? ⟨gc,q,none⟩=some (.slice A m cc):=zc
  have b3:(w2.drewN nq).cell? ⟨s,0,none⟩=some (.int .i64 (q:Int)):=b0
  have b4:(w2.drewN nq).cell? ⟨s,1,none⟩=some (.slice A' m' c'):=b1
  clear z0 zc b0 b1 HK1
  generalize w2.drewN nq=w3 at HK3 z3 zc3 b3 b4 ⊢
  have y0:w3.drew.cell? ⟨g,0,none⟩=some (.slice (some ⟨gc,0,none⟩) n c):=z3
  have y1:w3.drew.cell? ⟨s,0,none⟩=some (.int .i64 (q:Int)):=b3
  have y2:w3.drew.cell? ⟨s,1,none⟩=some (.slice A' m' c'):=b4
  clear z3 b3 b4
  refine wp_region_noPanic ?_
  refine LastR.begin (S:=fun w'=>w'.cell? ⟨g,0,none⟩=some (.slice (some ⟨gc,0,none⟩) n c)∧w'.cell? ⟨s,0,none⟩=some (.int .i64 (q:Int))∧w'.cell? ⟨s,1,none⟩=some (.slice A' m' c')) (t:=19) (by kernel_rfl) (⟨y0,y1,y2⟩) (fun hHeld=>?_)
  refine LastR.take (i:=0) (v:=?vb0) (oi:=?ob0) ?hb0 (by kernel_rfl) (by kernel_rfl) (by kernel_rfl) (by kernel_rfl) (fun _ _ _ h=>h) (Or.inl ⟨?wb0,?yb0⟩) hHeld ?rb0
  case hb0=>simp only [gA0,gA1,gA2]; rfl
  case wb0=>rfl
  case yb0=>intro w hSw; (try dsimp only at hSw); go_simp; (try with_reducible rfl)
  simp only [Act.put,sA0,sA1,sA2]
  refine LastR.take (i:=1) (v:=?vb1) (oi:=?ob1) ?hb1 (by kernel_rfl) (by kernel_rfl) (by kernel_rfl) (by kernel_rfl) (fun _ _ _ h=>h) (Or.inl ⟨?wb1,?yb1⟩) hHeld ?rb1
  case hb1=>simp only [gA0,gA1,gA2]; rfl
  case wb1=>rfl
  case yb1=>intro w hSw; (try dsimp only at hSw); go_simp; (try with_reducible rfl)
  simp only [Act.put,sA0,sA1,sA2]
  refine LastR.take (i:=2) (v:=?vb2) (oi:=?ob2) ?hb2 (by kernel_rfl) (by kernel_rfl) (by kernel_rfl) (by kernel_rfl) (fun _ _ _ h=>h) (Or.inl ⟨?wb2,?yb2⟩) hHeld ?rb2
  case hb2=>simp only [gA0,gA1,gA2]; rfl
  case wb2=>rfl
  case yb2=>intro w hSw; (try dsimp only at hSw); go_simp; (try with_reducible rfl)
  simp only [Act.put,sA0,sA1,sA2]
  refine LastR.take (i:=3) (v:=?vb3) (oi:=?ob3) ?hb3 (by kernel_rfl) (by kernel_rfl) (by kernel_rfl) (by kernel_rfl) (fun _ _ _ h=>h) (Or.inl ⟨?wb3,?yb3⟩) hHeld ?rb3
  case hb3=>simp only [gA0,gA1,gA2]; rfl
  case wb3=>rfl
  case yb3=>intro w hSw; (try dsimp only at hSw); go_simp; (try with_reducible rfl)
  simp only [Act.put,sA0,sA1,sA2]
  refine LastR.take (i:=4) (v:=?vb4) (oi:=?ob4) ?hb4 (by kernel_rfl) (by kernel_rfl) (by kernel_rfl) (by kernel_rfl) (fun _ _ _ h=>h) (Or.inl ⟨?wb4,?yb4⟩) hHeld ?rb4
  case hb4=>simp only [gA0,gA1,gA2]; rfl
  case wb4=>rfl
  case yb4=>intro w hSw; (try dsimp only at hSw); go_simp; (try with_reducible rfl)
  simp only [Act.put,sA0,sA1,sA2]
  refine LastR.take (i:=5) (v:=?vb5) (oi:=?ob5) ?hb5 (by kernel_rfl) (by kernel_rfl) (by kernel_rfl) (by kernel_rfl) (fun _ _ _ h=>h) (Or.inl ⟨?wb5,?yb5⟩) hHeld ?rb5
  case hb5=>simp only [gA0,gA1,gA2]; rfl
  case wb5=>rfl
  case yb5=>intro w hSw; (try dsimp only at hSw); go_simp; (try with_reducible rfl)
  simp only [Act.put,sA0,sA1,sA2]
  refine LastR.take (i:=6) (v:=?vb6) (oi:=?ob6) ?hb6 (by kernel_rfl) (by kernel_rfl) (by kernel_rfl) (by kernel_rfl) (fun _ _ _ h=>h) (Or.inl ⟨?wb6,?yb6⟩) hHeld ?rb6
  case hb6=>simp only [gA0,gA1,gA2]; rfl
  case wb6=>rfl
  case yb6=>intro w hSw; (try dsimp only at hSw); go_simp; (try with_reducible rfl)
  simp only [Act.put,sA0,sA1,sA2]
  refine LastR.take (i:=7) (v:=?vb7) (oi:=?ob7) ?hb7 (by kernel_rfl) (by kernel_rfl) (by kernel_rfl) (by kernel_rfl) (fun _ _ _ h=>h) (Or.inl ⟨?wb7,?yb7⟩) hHeld ?rb7
  case hb7=>simp only [gA0,gA1,gA2]; rfl
  case wb7=>rfl
  case yb7=>intro w hSw; (try dsimp only at hSw); go_simp; (try with_reducible rfl)
  simp only [Act.put,sA0,sA1,sA2]
  refine LastR.take (i:=8) (v:=?vb8) (oi:=?ob8) ?hb8 (by kernel_rfl) (by kernel_rfl) (by kernel_rfl) (by kernel_rfl) (fun _ _ _ h=>h) (Or.inl ⟨?wb8,?yb8⟩) hHeld ?rb8
  case hb8=>simp only [gA0,gA1,gA2]; rfl
  case wb8=>rfl
  case yb8=>intro w hSw; (try dsimp only at hSw); go_simp; (try with_reducible rfl)
  simp only [Act.put,sA0,sA1,sA2]
  refine LastR.take (i:=9) (v:=?vb9) (oi:=?ob9) ?hb9 (by kernel_rfl) (by kernel_rfl) (by kernel_rfl) (by kernel_rfl) (fun _ _ _ h=>h) (Or.inl ⟨?wb9,?yb9⟩) hHeld ?rb9
  case hb9=>simp only [gA0,gA1,gA2]; rfl
  case wb9=>rfl
  case yb9=>intro w hSw; (try dsimp only at hSw); go_simp; (try with_reducible rfl)
  simp only [Act.put,sA0,sA1,sA2]
  refine LastR.take (i:=10) (v:=?vb10) (oi:=?ob10) ?hb10 (by kernel_rfl) (by kernel_rfl) (by kernel_rfl) (by kernel_rfl) (fun _ _ _ h=>h) (Or.inl ⟨?wb10,?yb10⟩) hHeld ?rb10
  case hb10=>simp only [gA0,gA1,gA2]; rfl
  case wb10=>rfl
  case yb10=>intro w hSw; (try dsimp only at hSw); go_simp; (try with_reducible rfl)
  simp only [Act.put,sA0,sA1,sA2]
  refine LastR.take (i:=11) (v:=?vb11) (oi:=?ob11) ?hb11 (by kernel_rfl) (by kernel_rfl) (by kernel_rfl) (by kernel_rfl) (fun _ _ _ h=>h) (Or.inl ⟨?wb11,?yb11⟩) hHeld ?rb11
  case hb11=>simp only [gA0,gA1,gA2]; rfl
  case wb11=>rfl
  case yb11=>intro w hSw; (try dsimp only at hSw); go_simp; (try with_reducible rfl)
  simp only [Act.put,sA0,sA1,sA2]
  refine LastR.take (i:=12) (v:=?vb12) (oi:=?ob12) ?hb12 (by kernel_rfl) (by kernel_rfl) (by kernel_rfl) (by kernel_rfl) (fun _ _ _ h=>h) (Or.inl ⟨?wb12,?yb12⟩) hHeld ?rb12
  case hb12=>simp only [gA0,gA1,gA2]; rfl
  case wb12=>rfl
  case yb12=>intro w hSw; (try dsimp only at hSw); go_simp; (try with_reducible rfl)
  simp only [Act.put,sA0,sA1,sA2]
  refine LastR.take (i:=13) (v:=?vb13) (oi:=?ob13) ?hb13 (by kernel_rfl) (by kernel_rfl) (by kernel_rfl) (by kernel_rfl) (fun _ _ _ h=>h) (Or.inl ⟨?wb13,?yb13⟩) hHeld ?rb13
  case hb13=>simp only [gA0,gA1,gA2]; rfl
  case wb13=>rfl
  case yb13=>intro w hSw; (try dsimp only at hSw); go_simp; (try with_reducible rfl)
  simp only [Act.put,sA0,sA1,sA2]
  refine LastR.take (i:=14) (v:=?vb14) (oi:=?ob14) ?hb14 (by kernel_rfl) (by kernel_rfl) (by kernel_rfl) (by kernel_rfl) (fun _ _ _ h=>h) (Or.inl ⟨?wb14,?yb14⟩) hHeld ?rb14
  case hb14=>simp only [gA0,gA1,gA2]; rfl
  case wb14=>rfl
  case yb14=>intro w hSw; (try dsimp only at hSw); go_simp; (try with_reducible rfl)
  simp only [Act.put,sA0,sA1,sA2]
  refine LastR.take (i:=15) (v:=?vb15) (oi:=?ob15) ?hb15 (by kernel_rfl) (by kernel_rfl) (by kernel_rfl) (by kernel_rfl) (fun _ _ _ h=>h) (Or.inl ⟨?wb15,?yb15⟩) hHeld ?rb15
  case hb15=>simp only [gA0,gA1,gA2]; rfl
  case wb15=>rfl
  case yb15=>intro w hSw; (try dsimp only at hSw); go_simp; (try with_reducible rfl)
  simp only [Act.put,sA0,sA1,sA2]
  refine LastR.run (i:=16) (o:=?ob16) ?hb16 (by kernel_rfl) (fun K hK=>?sb16)
  case hb16=>simp only [gA0,gA1,gA2]; rfl
  go_simp
  refine hK.out _ _ (fun _=>⟨(Kp.alloc No _ _).cell y0 (fun f=>f),(Kp.alloc No _ _).cell y1 (fun f=>f),(Kp.alloc No _ _).cell y2 (fun f=>f)⟩) (fun hHe=>?_)
  have hHeld:=hHe (by decide)
  clear hK K hHe
  try simp only [Act.put,sA0,sA1,sA2]
  refine LastR.run (i:=17) (o:=?ob17) ?hb17 (by kernel_rfl) (fun K hK=>?sb17)
  case hb17=>simp only [gA0,gA1,gA2]; rfl
  go_simp
  have KA:Kp No w3.drew (w3.drew.alloc (.cells #[.slice A' t c',.slice Al r1 r2] 54)):=Kp.alloc No w3.drew _
  have hR:=rws_pair (w:=w3.drew.alloc (.cells #[.slice A' t c',.slice Al r1 r2] 54)) (s:=w3.heap.size) (cell_new _ _ _ rfl rfl) (cell_new _ _ _ rfl rfl) (BU.out.no (HK3.out.drew.trans' KA)) (BL.out.no (HK3.out.drew.trans' KA))
  refine (scat_any hR (by omega) (by have:=HLB.out; have:=HLD.out; simp; omega)).mono ?_
  rintro e w5 ⟨A5,n5,c5,rfl,ho5,k5⟩
  have y3:=k5.cell (KA.cell y0 (fun f=>f)) (fun f=>f)
  have y4:=k5.cell (KA.cell y1 (fun f=>f)) (fun f=>f)
  have y5:=k5.cell (KA.cell y2 (fun f=>f)) (fun f=>f)
  have y6:w5.cell? ⟨gc,q,none⟩=some (.slice A m cc):=k5.cell (KA.cell (show w3.drew.cell? ⟨gc,q,none⟩=some (.slice A m cc) from zc3) (fun f=>f)) (fun f=>f)
  have y7:w5.frozen? ⟨gc,q,none⟩=false:=(HO.out.no ((HK3.out.drew.trans' KA).trans' k5)).frozenAt q
  clear hR KA
  go_wp2_with fail
  refine hK.out _ _ (fun _=>⟨y3,y4,y5⟩) (fun hHe=>?_)
  have hHeld:=hHe (by decide)
  clear hK K hHe
  try simp only [Act.put,sA0,sA1,sA2]
  refine LastR.take (i:=18) (v:=?vb18) (oi:=?ob18) ?hb18 (by kernel_rfl) (by kernel_rfl) (by kernel_rfl) (by kernel_rfl) (fun _ _ _ h=>h) (Or.inl ⟨?wb18,?yb18⟩) hHeld ?rb18
  case hb18=>simp only [gA0,gA1,gA2]; rfl
  case wb18=>rfl
  case yb18=>intro w hSw; (try dsimp only at hSw); go_simp; (try with_reducible rfl)
  simp only [Act.put,sA0,sA1,sA2]
  refine LastR.run (i:=19) (o:=?ob19) ?hb19 (by kernel_rfl) (fun K hK=>?sb19)
  case hb19=>simp only [gA0,gA1,gA2]; rfl
  go_simp
  refine hK.out _ _ (fun h=>absurd rfl h) (fun _=>?_)
  clear hK K
  try simp only [Act.put,sA0,sA1,sA2]
  refine LastR.done (by kernel_rfl) ?_ _
  refine NoPanic.normal ?_
  have K5:Kp No w w5:=(HK3.out.drew.al _).trans' k5
  have hO5:=HO.out.no K5
  have hset:=hO5.set1 hq (.slice A5 n5 c5)
  have hrow:=(ho5.base0).keep (S:=fun q=>q=gc) (Kp.setCell (w:=w5) (p:=⟨gc,q,none⟩) (S:=fun q=>q=gc) rfl (.slice A5 n5 c5)) fun k hk e=>by subst e; exact hO5.offB ho5 (by decide) hk
  have HSET:=hide hset
  have HROW:=hide hrow
  have HF:=hide (show ∀ k,(Value.slice A5 n5 c5).ownBlock=some k→w.heap.size≤k from fun k hk=>Nat.le_trans (Nat.le_trans HK3.out.size (by simp)) (ho5.ge k hk))
  clear hset hrow hO5 ho5
  go_wp2_with fail
  go_end0
  refine ⟨rfl,_,HSET.out,?_,HF.out,(K5.of_no _).trans' (Kp.setCell (p:=⟨gc,q,none⟩) (S:=fun q=>q=gc) rfl _)⟩
  have e:tornB b had t=[b.take t,had.drop t].flatten:=by
   unfold tornB
   simp
  rw [e]
  exact HROW.out
end Go.Proofs.YtnfcfdhlmeimhaaGreat
