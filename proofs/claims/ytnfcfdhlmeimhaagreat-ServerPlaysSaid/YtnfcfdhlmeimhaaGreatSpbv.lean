/- ServerPlays walked: it returns true for any numbers and any acts that fit the reach (printed by tools/gen_ndv.py). -/
import Derived.Test.YtnfcfdhlmeimhaaGreatSpbu
import Derived.Test.YtnfcfdhlmeimhaaGreatSpbt
import Derived.Test.YtnfcfdhlmeimhaaGreatSpbo
import Derived.Test.YtnfcfdhlmeimhaaGreatSpbn
import Derived.Test.YtnfcfdhlmeimhaaGreatSpbm
import Derived.Test.YtnfcfdhlmeimhaaGreatSpao
import Derived.Lib.Builder
namespace Go.Proofs.YtnfcfdhlmeimhaaGreat
open Go.RowKit
set_option linter.unusedVariables false
set_option linter.unusedSimpArgs false
set_option maxRecDepth 20000
theorem same_ptr_dk (w:World) (a:Addr):(binOp .neq 30 (.pointer (some a)) (.pointer (some a))).run Tryz.prog w=.ok (.bool false) w:=by
 have h:(Tryz.prog.info? 92).isSome=true:=by kernel_rfl
 obtain ⟨j,hj⟩:=Option.isSome_iff_exists.1 h
 exact Lib.run_neq_ptr_same w a Tryz.underlying30 hj
set_option maxRecDepth 100000 in
set_option maxHeartbeats 16000000 in
theorem serverplays_any (W:World) (n0 k0:Int) (y:Nat) (hy:y < 256) {A0:Option Addr} {na ca:Nat} {ds:List ActS} (h0:ActsS W A0 na ds) :
  Calls Tryz.prog 3 #[.int .i64 n0,.int .i64 k0,.int .u8 (y:Int),.slice A0 na ca] W (TruePost W):=by
 have HA0:=hide h0
 clear h0
 go_enter Tryz.func3,Tryz.ntmps3
 go_wp2_with fail
 refine (awake16_any _).mono ?_
 rintro e w0 ⟨rfl,hk0⟩
 have K0:=hide hk0
 clear hk0
 by_cases hR:Rgt n0 k0
 ·have HR:=hide (rright_yes n0 k0 w0 hR)
  have HRG:=hide hR
  clear hR
  by_cases h12:n0≤12
  ·have h12z:¬ (12:Int) < n0:=by omega
   go_wp2_with fail
   refine HR.out.mono ?_
   rintro e w' ⟨rfl,rfl⟩
   go_wp2_with fail
   refine (light16_any (HA0.out.no K0.out)).mono ?_
   rintro e wl ⟨bl,rfl,kl,hl⟩
   rcases bl with _ | _
   ·clear hl
    have KL:=hide (K0.out.trans' kl)
    clear kl
    go_wp2_with fail
    refine (awake16_any _).mono ?_
    rintro e w9 ⟨rfl,k9⟩
    go_wp2_with fail
    go_ret
    exact ⟨rfl,KL.out.trans' k9⟩
   obtain ⟨hl1,hl2⟩:=hl rfl
   have HL2:=hide hl2
   have HN50:Hid (na≤50):=by show na≤50; rw [HA0.out.len]; exact hl1
   have KL:=hide (K0.out.trans' kl)
   obtain ⟨n,rfl⟩:=Int.eq_ofNat_of_zero_le (show 0≤n0 by have h:=HRG.out; unfold Rgt at h; omega)
   obtain ⟨k,rfl⟩:=Int.eq_ofNat_of_zero_le (show 0≤k0 by have h:=HRG.out; unfold Rgt at h; omega)
   obtain ⟨a,dd,qq,hD⟩:=dim_of (n:=n) (k:=k) (by have h:=HRG.out; unfold Rgt at h; omega) (by have h:=HRG.out; unfold Rgt at h; omega) (by have h:=HRG.out; unfold Rgt at h; omega) (by have h:=HRG.out; unfold Rgt at h; omega)
   obtain ⟨x,hX⟩:=pts_ex (n:=n) (a:=a) hD.a1 hD.a7 (by have h:=HRG.out; unfold Rgt at h; omega)
   have HD:=hide hD
   have HX:=hide hX
   have HMN:=hide (mnew_yes wl hD hX)
   have HN0:Hid (0 < n):=by show 0 < n; have h:=HRG.out; unfold Rgt at h; omega
   clear hl hl1 hl2 kl hD hX
   go_wp2_with fail
   refine HMN.out.mono ?_
   rintro e w1 ⟨gc,rfl,hC,k1⟩
   have HC:=hide (CdF.of hC HN0.out)
   have HK1:=hide (KL.out.trans' k1)
   clear hC k1
   obtain ⟨many,hmany⟩:∃ many,many=1+y % 8:=⟨_,rfl⟩
   have e1:(1:Int)+(y:Int) % 8=(many:Int):=by omega
   have HMY:Hid (many≤8):=by show many≤8; omega
   have hm1:1≤many:=by omega
   have hm2:many≤1024:=by omega
   clear hmany
   go_wp2_with fail
   clear e1 hy
   refine (pnew_yes w1 many 200 hm1 hm2 (by omega) (by omega)).mono ?_
   rintro e w2 ⟨gd,rfl,_,hD2,k2⟩
   have HC2:=hide (HC.out.no k2)
   have HD2:=hide hD2
   have HK2:=hide (HK1.out.trans' k2)
   have HZ1:Hid (W.heap.size≤w1.heap.size):=HK1.out.size
   have HZ2:Hid (w1.heap.size≤w2.heap.size):=k2.size
   clear hD2 k2
   go_wp2_with fail
   refine (snew_any HC2.out HD2.out (fun z f=>f)).mono ?_
   rintro e w3 ⟨g,rfl,_,⟨gv,b,rv,hs⟩,k3⟩
   have hs':=hs.lt.mono (T:=fun z=>w1.heap.size≤z∧z < w3.heap.size) (fun z f=>⟨f.1.elim (fun f=>f) fun f=>Nat.le_trans HZ2.out f,f.2⟩) fun z f=>f.1
   have HS3:=hide hs'
   have HK3:=hide (HK2.out.trans' k3)
   clear hs hs' k3
   go_wp2_with fail
   refine (rnew_any w3 (fun z=>w1.heap.size≤z∧z < w3.heap.size) (fun z f=>f.2) many 200 hm1 hm2 (by omega) (by omega)).mono ?_
   rintro e w4 ⟨v4,rfl,hR4,k4⟩
   have HR4:=hide hR4
   have HS4:=hide (HS3.out.no k4)
   have HK4:=hide (HK3.out.trans' k4)
   clear hR4 k4
   go_wp2_with fail
   refine (r16new_any HR4.out n k).mono ?_
   rintro e w5 ⟨v5,rfl,hR5,k5⟩
   obtain ⟨gc0,cc,A1,cl,A2,ck,cs,ls,A,m,c,ps,e5,hR5'⟩:=hR5.form
   subst e5
   have HI0:=hide (show SpE W w1.heap.size n k x g gc gd w5.heap.size many 0 _ from ⟨_,_,_,_,_,_,_,_,_,_,_,_,_,_,_,_,_,SpS.begin (HS4.out.no k5) hR5' (HK4.out.trans' k5) HZ1.out,NdS.new many 200⟩)
   have HDK:=hide (HS4.out.no k5).blk
   clear hR5 hR5' k5 HR4 HS4 HS3 hm1 hm2
   unfold rsV id
   go_upto_region 10 with (fail)
   have HDB:=hide (HDK.out.no (Kp.alloc No w5 (.cells #[.int .i64 (n:Int),.int .i64 (k:Int),.int .i64 ((Nd.up (Dk.new many 200)).V.D.size:Int),.slice (some ⟨gc0,0,none⟩) (Nd.up (Dk.new many 200)).V.D.cells.length cc,.slice A1 (Nd.up (Dk.new many 200)).V.D.loose.length cl,.int .i64 ((Nd.up (Dk.new many 200)).V.D.syncs:Int),.slice A2 (Nd.up (Dk.new many 200)).V.L.length ck,.slice A m c,.int .u64 ((Nd.up (Dk.new many 200)).done:Int)] 46)))
   clear HDK
   generalize w5.alloc (.cells #[.int .i64 (n:Int),.int .i64 (k:Int),.int .i64 ((Nd.up (Dk.new many 200)).V.D.size:Int),.slice (some ⟨gc0,0,none⟩) (Nd.up (Dk.new many 200)).V.D.cells.length cc,.slice A1 (Nd.up (Dk.new many 200)).V.D.loose.length cl,.int .i64 ((Nd.up (Dk.new many 200)).V.D.syncs:Int),.slice A2 (Nd.up (Dk.new many 200)).V.L.length ck,.slice A m c,.int .u64 ((Nd.up (Dk.new many 200)).done:Int)] 46)=w6 at HI0 HDB ⊢
   generalize w5.heap.size=s at HI0 ⊢
   go_wp2_with fail
   refine (sdisk_any HDB.out).mono ?_
   rintro e w' ⟨rfl,rfl⟩
   clear HDB
   have hpd:=same_ptr_dk w6 ⟨gd,0,none⟩
   go_wp2_with fail
   clear hpd
   go_loopw [17] (fun i wr=>∃ j:Nat,j≤na∧i=.int .i64 (j:Int)∧SpE W w1.heap.size n k x g gc gd s many j wr) (fun i _=>na - (intOf i).toNat)
   case atStart=>exact ⟨0,Nat.zero_le _,rfl,HI0.out⟩
   case round =>
    obtain ⟨j,hj,rfl,hI⟩:=hrel
    clear HI0
    rename World=>wr
    by_cases hlt:j < na
    ·have hi:(j:Int) < (na:Int):=by omega
     obtain ⟨d,hd⟩:∃ d,ds[j]?=some d:=⟨_,List.getElem?_eq_getElem (by have:=HA0.out.len; omega)⟩
     obtain ⟨F,N,gv,b,rv,gc0,cc,cl,ck,m,c,A1,A2,A,cs,ls,ps,hS,hN⟩:=hI
     have HLN:Hid (d.b.length+d.q.data.length≤3000):=HL2.out d (List.mem_of_getElem? hd)
     obtain ⟨B',off,Aq,mq,cq,A',m',c',rfl,ha⟩:=HA0.out.at_ j d hd
     have HAB:=hide ha
     have HNN:=hide hN
     have HJ:Hid (j≤50):=Nat.le_trans hj HN50.out
     have kA:=Kp.alloc No wr (.cells #[.int .i64 d.kind,.int .u64 (d.q.num:Int),.int .i64 d.q.kind,.int .u32 (cO d.q.s:Int),.int .u16 (cS d.q.s:Int),.int .u16 (cL d.q.s:Int),.int .u32 (cG d.q.s:Int),.int .u16 (d.q.lost:Int),.slice Aq mq cq,.slice A' m' c',.int .i64 d.n,.int .i64 d.m,.int .u8 (d.bits.toNat:Int)] 58)
     have HS:=hide (hS.no kA)
     have HA:=hide (SpA.new (d:=d) (Aq:=Aq) (mq:=mq) (cq:=cq) (A:=A') (m:=m') (c:=c') (fun z f=>(hS.far z f).1) hS.bx.lt)
     obtain ⟨c0,c1,c2,c3,c4,c5,c6,c7,c8,c9,c10,c11,c12,_,_,_,_,_,_⟩:=ha.no hS.kp
     clear hd ha hS hN kA
     go_upto_region 16 with (fail)
     generalize wr.alloc (.cells #[.int .i64 d.kind,.int .u64 (d.q.num:Int),.int .i64 d.q.kind,.int .u32 (cO d.q.s:Int),.int .u16 (cS d.q.s:Int),.int .u16 (cL d.q.s:Int),.int .u32 (cG d.q.s:Int),.int .u16 (d.q.lost:Int),.slice Aq mq cq,.slice A' m' c',.int .i64 d.n,.int .i64 d.m,.int .u8 (d.bits.toNat:Int)] 58)=wa at HS HA ⊢
     generalize wr.heap.size=sa at HA ⊢
     clear c0 c1 c2 c3 c4 c5 c6 c7 c8 c9 c10 c11 c12
     have ha0:=HA.out.ba.cell.1
     by_cases e2:d.kind=2
     ·have t2:(d.kind == 2)=true:=by simp [e2]
      have ne0:True:=trivial
      clear e2 ha0
      have HNZ:=hide (HNN.out.restart d.n d.m)
      obtain ⟨a0,a1,a2,a3,a4,a5,a6,a7,a8,a9,a10,a11,a12⟩:=HA.out.ba.cell
      go_wp2_with fail
      refine (srestart_any HS.out.sv (by have h1:=HNN.out.l; have:=HJ.out; omega) d.n d.m).mono ?_
      rintro e w1 ⟨rfl,⟨gv1,b1,rv1,hs1⟩,k1⟩
      have HS1:=hide (HS.out.prog hs1 (fun z f=>f) k1)
      have HA1:=hide (HA.out.prog (fun z f=>f) k1)
      clear hs1 k1 a0 a1 a2 a3 a4 a5 a6 a7 a8 a9 a10 a11 a12
      obtain ⟨a0,a1,a2,a3,a4,a5,a6,a7,a8,a9,a10,a11,a12⟩:=HA1.out.ba.cell
      obtain ⟨x0,x1,x2,x3,x4,x5,x6,x7,x8⟩:=HS1.out.bx.cell
      go_wp2_with fail
      refine (r16restart_any (show RsAt _ _ n k N _ from ⟨_,_,_,_,_,_,_,_,_,rfl,HS1.out.rs⟩) (by have h1:=HNN.out.l; have:=HJ.out; omega) d.n d.m).mono ?_
      rintro e w2 ⟨v2,rfl,hr2,k2⟩
      clear a0 a1 a2 a3 a4 a5 a6 a7 a8 a9 a10 a11 a12 x0 x1 x2 x3 x4 x5 x6 x7 x8
      obtain ⟨gc2,cc2,B2,cl2,B3,ck2,cs2,ls2,As2,m2,c2,ps2,e2,hr2'⟩:=hr2.form
      subst e2
      obtain ⟨N1,hN1⟩:∃ N1,N1=N.restart d.n d.m:=⟨_,rfl⟩
      rw [← hN1] at hr2' HS1 HNZ ⊢
      clear hN1 hr2
      have HSZ:=hide (HS1.out.doc hr2' k2)
      have K9:=kp9 (S:=fun z=>z=s) w2 s (.int .i64 (n:Int)) (.int .i64 (k:Int)) (.int .i64 (N1.V.D.size:Int)) (.slice (some ⟨gc2,0,none⟩) N1.V.D.cells.length cc2) (.slice B2 N1.V.D.loose.length cl2) (.int .i64 (N1.V.D.syncs:Int)) (.slice B3 N1.V.L.length ck2) (.slice As2 m2 c2) (.int .u64 (N1.done:Int)) rfl
      have HAZ:=hide ((HA1.out.no k2).doc K9)
      clear K9
      obtain ⟨r0,r1,r2,r3,r4,r5,r6,r7,r8⟩:=(HS1.out.no k2).bx.cell
      have f0:=(HS1.out.no k2).bx.fz 0
      have f1:=(HS1.out.no k2).bx.fz 1
      have f2:=(HS1.out.no k2).bx.fz 2
      have f3:=(HS1.out.no k2).bx.fz 3
      have f4:=(HS1.out.no k2).bx.fz 4
      have f5:=(HS1.out.no k2).bx.fz 5
      have f6:=(HS1.out.no k2).bx.fz 6
      have f7:=(HS1.out.no k2).bx.fz 7
      have f8:=(HS1.out.no k2).bx.fz 8
      clear hr2' k2 HS1 HA1
      unfold rsV id
      go_upto_region 38 with (fail)
      clear r0 r1 r2 r3 r4 r5 r6 r7 r8 f0 f1 f2 f3 f4 f5 f6 f7 f8
      generalize (((((((((w2.setCell ⟨s,0,none⟩ (.int .i64 (n:Int))).setCell ⟨s,1,none⟩ (.int .i64 (k:Int))).setCell ⟨s,2,none⟩ (.int .i64 (N1.V.D.size:Int))).setCell ⟨s,3,none⟩ (.slice (some ⟨gc2,0,none⟩) N1.V.D.cells.length cc2)).setCell ⟨s,4,none⟩ (.slice B2 N1.V.D.loose.length cl2)).setCell ⟨s,5,none⟩ (.int .i64 (N1.V.D.syncs:Int))).setCell ⟨s,6,none⟩ (.slice B3 N1.V.L.length ck2)).setCell ⟨s,7,none⟩ (.slice As2 m2 c2)).setCell ⟨s,8,none⟩ (.int .u64 (N1.done:Int)))=wz at HSZ HAZ ⊢
      obtain ⟨x0,x1,x2,x3,x4,x5,x6,x7,x8⟩:=HSZ.out.bx.cell
      go_wp2_with fail
      refine (same16_any HSZ.out.sv (show RsAt _ _ n k _ _ from ⟨_,_,_,_,_,_,_,_,_,rfl,HSZ.out.rs⟩) (by have h1:=(HNZ.out).n; have:=HMY.out; omega)).mono ?_
      rintro e wE ⟨rfl,kE⟩
      have HSE:=hide (HSZ.out.no kE)
      clear kE x0 x1 x2 x3 x4 x5 x6 x7 x8
      have hj50:j≤50:=HJ.out
      go_wp2_with fail
      go_round
      case rel=>exact ⟨j+1,by omega,by go_num,_,_,_,_,_,_,_,_,_,_,_,_,_,_,_,_,_,HSE.out,HNZ.out⟩
      case measure=>simp [intOf]; omega
     by_cases e3:d.kind=3
     ·have t2:(d.kind == 2)=false:=by simp [e2]
      have t3:(d.kind == 3)=true:=by simp [e3]
      clear e2 e3 ha0
      have HNZ:=hide (HNN.out.spoil d.n d.m d.bits)
      obtain ⟨a0,a1,a2,a3,a4,a5,a6,a7,a8,a9,a10,a11,a12⟩:=HA.out.ba.cell
      go_wp2_with fail
      refine (pspoil_any HS.out.sv.vt.dk d.n d.m d.bits).mono ?_
      rintro e w1 ⟨rfl,hd1,k1⟩
      have HS1:=hide (HS.out.spoil hd1 k1)
      have k1':Kp F _ _:=k1.mono fun z f=>f.1.1
      have HA1:=hide (HA.out.prog (F1:=Up F _) (fun z f=>f) k1')
      clear hd1 k1 k1' a0 a1 a2 a3 a4 a5 a6 a7 a8 a9 a10 a11 a12
      obtain ⟨a0,a1,a2,a3,a4,a5,a6,a7,a8,a9,a10,a11,a12⟩:=HA1.out.ba.cell
      obtain ⟨x0,x1,x2,x3,x4,x5,x6,x7,x8⟩:=HS1.out.bx.cell
      go_wp2_with fail
      refine (rspoil_any (D:=N.V.D) ⟨_,_,_,_,rfl,HS1.out.rs.rv.rf⟩ d.n d.m d.bits).mono ?_
      rintro e w2 ⟨v2,rfl,⟨vc2,vl2,cs2,ls2,rfl,hr2⟩,k2⟩
      obtain ⟨gc2,cc2,rfl,_⟩:=hr2.vc_
      obtain ⟨B2,cl2,rfl,_,_⟩:=hr2.vl_
      clear a0 a1 a2 a3 a4 a5 a6 a7 a8 a9 a10 a11 a12 x0 x1 x2 x3 x4 x5 x6 x7 x8
      have HSZ:=hide (HS1.out.docD hr2 k2)
      have K9:=kpD (S:=fun z=>z=s) w2 s (.int .i64 ((N.V.D.spoil d.n d.m d.bits).size:Int)) (.slice (some ⟨gc2,0,none⟩) (N.V.D.spoil d.n d.m d.bits).cells.length cc2) (.slice B2 (N.V.D.spoil d.n d.m d.bits).loose.length cl2) (.int .i64 ((N.V.D.spoil d.n d.m d.bits).syncs:Int)) rfl
      have HAZ:=hide ((HA1.out.no k2).doc K9)
      clear K9
      obtain ⟨r0,r1,r2,r3,r4,r5,r6,r7,r8⟩:=(HS1.out.no k2).bx.cell
      have f0:=(HS1.out.no k2).bx.fz 0
      have f1:=(HS1.out.no k2).bx.fz 1
      have f2:=(HS1.out.no k2).bx.fz 2
      have f3:=(HS1.out.no k2).bx.fz 3
      have f4:=(HS1.out.no k2).bx.fz 4
      have f5:=(HS1.out.no k2).bx.fz 5
      have f6:=(HS1.out.no k2).bx.fz 6
      have f7:=(HS1.out.no k2).bx.fz 7
      have f8:=(HS1.out.no k2).bx.fz 8
      clear hr2 k2 HS1 HA1
      unfold tupE rfV
      go_upto_region 38 with (fail)
      clear r0 r1 r2 r3 r4 r5 r6 r7 r8 f0 f1 f2 f3 f4 f5 f6 f7 f8
      generalize ((((w2.setCell ⟨s,2,none⟩ (.int .i64 ((N.V.D.spoil d.n d.m d.bits).size:Int))).setCell ⟨s,3,none⟩ (.slice (some ⟨gc2,0,none⟩) (N.V.D.spoil d.n d.m d.bits).cells.length cc2)).setCell ⟨s,4,none⟩ (.slice B2 (N.V.D.spoil d.n d.m d.bits).loose.length cl2)).setCell ⟨s,5,none⟩ (.int .i64 ((N.V.D.spoil d.n d.m d.bits).syncs:Int)))=wz at HSZ HAZ ⊢
      obtain ⟨N1,hN1⟩:∃ N1,N1=N.spoil d.n d.m d.bits:=⟨_,rfl⟩
      rw [← hN1] at HSZ HNZ
      clear hN1
      have hcell:=HSZ.out.bx
      obtain ⟨x0,x1,x2,x3,x4,x5,x6,x7,x8⟩:=hcell.cell
      go_wp2_with fail
      refine (same16_any HSZ.out.sv (show RsAt _ _ n k _ _ from ⟨_,_,_,_,_,_,_,_,_,rfl,HSZ.out.rs⟩) (by have h1:=(HNZ.out).n; have:=HMY.out; omega)).mono ?_
      rintro e wE ⟨rfl,kE⟩
      have HSE:=hide (HSZ.out.no kE)
      clear kE x0 x1 x2 x3 x4 x5 x6 x7 x8
      have hj50:j≤50:=HJ.out
      go_wp2_with fail
      go_round
      case rel=>exact ⟨j+1,by omega,by go_num,_,_,_,_,_,_,_,_,_,_,_,_,_,_,_,_,_,HSE.out,HNZ.out⟩
      case measure=>simp [intOf]; omega
     by_cases e4:d.kind=4
     ·have t2:(d.kind == 2)=false:=by simp [e2]
      have t3:(d.kind == 3)=false:=by simp [e3]
      have t4:(d.kind == 4)=true:=by simp [e4]
      clear e2 e3 e4 ha0
      obtain ⟨a0,a1,a2,a3,a4,a5,a6,a7,a8,a9,a10,a11,a12⟩:=HA.out.ba.cell
      go_wp2_with fail
      refine (rright15_any d.q Aq mq cq).mono ?_
      rintro e wR ⟨rfl,kR⟩
      clear a0 a1 a2 a3 a4 a5 a6 a7 a8 a9 a10 a11 a12
      have HSR:=hide (HS.out.no kR)
      have HAR:=hide (HA.out.no kR)
      clear kR HS HA
      rcases hR:RgtB d.q.kind d.q.lost mq with _ | _
      ·have HS:=HSR
       have HA:=HAR
       clear HSR HAR
       have HBU:=hide (HS.out.bt HAB.out.bts HAB.out.room)
       have HBL:Hid (d.b.length≤100000):=by show d.b.length≤100000; have:=HLN.out; omega
       have HNZ:=hide (HNN.out.trip (bs:=d.b) d.n d.m)
       obtain ⟨bs,hbs⟩:∃ bs,bs=d.b:=⟨_,rfl⟩
       rw [← hbs] at HBU HBL HNZ
       clear hbs
       obtain ⟨a0,a1,a2,a3,a4,a5,a6,a7,a8,a9,a10,a11,a12⟩:=HA.out.ba.cell
       go_wp2_with fail
       refine (strip_any HS.out.sv (HNN.out.szk (by have:=HMY.out; omega) (by omega) (by have:=HJ.out; omega)) HBU.out.bts HBL.out d.n d.m).mono ?_
       rintro e w1 ⟨rfl,⟨gv1,b1,rv1,hs1⟩,k1⟩
       have HS1:=hide (HS.out.prog hs1 (fun z f=>f) k1)
       have HA1:=hide (HA.out.prog (fun z f=>f) k1)
       have HB1:=hide ((HBU.out.keep k1 fun z _ hn f=>hn (.inl f)).bts)
       clear hs1 k1 a0 a1 a2 a3 a4 a5 a6 a7 a8 a9 a10 a11 a12
       obtain ⟨a0,a1,a2,a3,a4,a5,a6,a7,a8,a9,a10,a11,a12⟩:=HA1.out.ba.cell
       obtain ⟨x0,x1,x2,x3,x4,x5,x6,x7,x8⟩:=HS1.out.bx.cell
       go_wp2_with fail
       refine (r16trip_any (show RsAt _ _ n k N _ from ⟨_,_,_,_,_,_,_,_,_,rfl,HS1.out.rs⟩) (HNN.out.szk (by have:=HMY.out; omega) (by omega) (by have:=HJ.out; omega)) HB1.out (HBU.out.room _ _ _ rfl) HBL.out d.n d.m).mono ?_
       rintro e w2 ⟨v2,rfl,hr2,k2⟩
       clear a0 a1 a2 a3 a4 a5 a6 a7 a8 a9 a10 a11 a12 x0 x1 x2 x3 x4 x5 x6 x7 x8
       obtain ⟨gc2,cc2,B2,cl2,B3,ck2,cs2,ls2,As2,m2,c2,ps2,e2,hr2'⟩:=hr2.form
       subst e2
       obtain ⟨N1,hN1⟩:∃ N1,N1=N.trip bs d.n d.m:=⟨_,rfl⟩
       rw [← hN1] at hr2' HS1 HNZ ⊢
       clear hN1 hr2
       have HSZ:=hide (HS1.out.doc hr2' k2)
       have K9:=kp9 (S:=fun z=>z=s) w2 s (.int .i64 (n:Int)) (.int .i64 (k:Int)) (.int .i64 (N1.V.D.size:Int)) (.slice (some ⟨gc2,0,none⟩) N1.V.D.cells.length cc2) (.slice B2 N1.V.D.loose.length cl2) (.int .i64 (N1.V.D.syncs:Int)) (.slice B3 N1.V.L.length ck2) (.slice As2 m2 c2) (.int .u64 (N1.done:Int)) rfl
       have HAZ:=hide ((HA1.out.no k2).doc K9)
       clear K9
       obtain ⟨r0,r1,r2,r3,r4,r5,r6,r7,r8⟩:=(HS1.out.no k2).bx.cell
       have f0:=(HS1.out.no k2).bx.fz 0
       have f1:=(HS1.out.no k2).bx.fz 1
       have f2:=(HS1.out.no k2).bx.fz 2
       have f3:=(HS1.out.no k2).bx.fz 3
       have f4:=(HS1.out.no k2).bx.fz 4
       have f5:=(HS1.out.no k2).bx.fz 5
       have f6:=(HS1.out.no k2).bx.fz 6
       have f7:=(HS1.out.no k2).bx.fz 7
       have f8:=(HS1.out.no k2).bx.fz 8
       clear hr2' k2 HS1 HA1
       unfold rsV id
       go_upto_region 38 with (fail)
       clear r0 r1 r2 r3 r4 r5 r6 r7 r8 f0 f1 f2 f3 f4 f5 f6 f7 f8
       generalize (((((((((w2.setCell ⟨s,0,none⟩ (.int .i64 (n:Int))).setCell ⟨s,1,none⟩ (.int .i64 (k:Int))).setCell ⟨s,2,none⟩ (.int .i64 (N1.V.D.size:Int))).setCell ⟨s,3,none⟩ (.slice (some ⟨gc2,0,none⟩) N1.V.D.cells.length cc2)).setCell ⟨s,4,none⟩ (.slice B2 N1.V.D.loose.length cl2)).setCell ⟨s,5,none⟩ (.int .i64 (N1.V.D.syncs:Int))).setCell ⟨s,6,none⟩ (.slice B3 N1.V.L.length ck2)).setCell ⟨s,7,none⟩ (.slice As2 m2 c2)).setCell ⟨s,8,none⟩ (.int .u64 (N1.done:Int)))=wz at HSZ HAZ ⊢
       obtain ⟨x0,x1,x2,x3,x4,x5,x6,x7,x8⟩:=HSZ.out.bx.cell
       go_wp2_with fail
       refine (same16_any HSZ.out.sv (show RsAt _ _ n k _ _ from ⟨_,_,_,_,_,_,_,_,_,rfl,HSZ.out.rs⟩) (by have h1:=(HNZ.out).n; have:=HMY.out; omega)).mono ?_
       rintro e wE ⟨rfl,kE⟩
       have HSE:=hide (HSZ.out.no kE)
       clear kE x0 x1 x2 x3 x4 x5 x6 x7 x8
       have hj50:j≤50:=HJ.out
       go_wp2_with fail
       go_round
       case rel=>exact ⟨j+1,by omega,by go_num,_,_,_,_,_,_,_,_,_,_,_,_,_,_,_,_,_,HSE.out,HNZ.out⟩
       case measure=>simp [intOf]; omega
      ·obtain ⟨a0,a1,a2,a3,a4,a5,a6,a7,a8,a9,a10,a11,a12⟩:=HAR.out.ba.cell
       go_wp2_with fail
       refine (rbytes15_any d.q HAB.out.fit (by unfold Rq.rgt; rw [← HAB.out.bq.len]; exact hR) (HAB.out.bq.no HSR.out.kp) (by have:=HAB.out.bq.len; have:=HLN.out; omega)).mono ?_
       rintro e wB ⟨Ab,mb,cb,rfl,hob,kB⟩
       clear a0 a1 a2 a3 a4 a5 a6 a7 a8 a9 a10 a11 a12 hR
       have HBU:=hide (HSR.out.bn hob)
       have HS:=hide (HSR.out.no kB)
       have HA:=hide (HAR.out.no kB)
       have HBL:Hid (d.q.bytes.length≤100000):=by show d.q.bytes.length≤100000; rw [Rq.bytes_len]; have:=HLN.out; omega
       clear kB hob HSR HAR
       have HNZ:=hide (HNN.out.trip (bs:=d.q.bytes) d.n d.m)
       obtain ⟨bs,hbs⟩:∃ bs,bs=d.q.bytes:=⟨_,rfl⟩
       rw [← hbs] at HBU HBL HNZ
       clear hbs
       obtain ⟨a0,a1,a2,a3,a4,a5,a6,a7,a8,a9,a10,a11,a12⟩:=HA.out.ba.cell
       go_wp2_with fail
       refine (strip_any HS.out.sv (HNN.out.szk (by have:=HMY.out; omega) (by omega) (by have:=HJ.out; omega)) HBU.out.bts HBL.out d.n d.m).mono ?_
       rintro e w1 ⟨rfl,⟨gv1,b1,rv1,hs1⟩,k1⟩
       have HS1:=hide (HS.out.prog hs1 (fun z f=>f) k1)
       have HA1:=hide (HA.out.prog (fun z f=>f) k1)
       have HB1:=hide ((HBU.out.keep k1 fun z _ hn f=>hn (.inl f)).bts)
       clear hs1 k1 a0 a1 a2 a3 a4 a5 a6 a7 a8 a9 a10 a11 a12
       obtain ⟨a0,a1,a2,a3,a4,a5,a6,a7,a8,a9,a10,a11,a12⟩:=HA1.out.ba.cell
       obtain ⟨x0,x1,x2,x3,x4,x5,x6,x7,x8⟩:=HS1.out.bx.cell
       go_wp2_with fail
       refine (r16trip_any (show RsAt _ _ n k N _ from ⟨_,_,_,_,_,_,_,_,_,rfl,HS1.out.rs⟩) (HNN.out.szk (by have:=HMY.out; omega) (by omega) (by have:=HJ.out; omega)) HB1.out (HBU.out.room _ _ _ rfl) HBL.out d.n d.m).mono ?_
       rintro e w2 ⟨v2,rfl,hr2,k2⟩
       clear a0 a1 a2 a3 a4 a5 a6 a7 a8 a9 a10 a11 a12 x0 x1 x2 x3 x4 x5 x6 x7 x8
       obtain ⟨gc2,cc2,B2,cl2,B3,ck2,cs2,ls2,As2,m2,c2,ps2,e2,hr2'⟩:=hr2.form
       subst e2
       obtain ⟨N1,hN1⟩:∃ N1,N1=N.trip bs d.n d.m:=⟨_,rfl⟩
       rw [← hN1] at hr2' HS1 HNZ ⊢
       clear hN1 hr2
       have HSZ:=hide (HS1.out.doc hr2' k2)
       have K9:=kp9 (S:=fun z=>z=s) w2 s (.int .i64 (n:Int)) (.int .i64 (k:Int)) (.int .i64 (N1.V.D.size:Int)) (.slice (some ⟨gc2,0,none⟩) N1.V.D.cells.length cc2) (.slice B2 N1.V.D.loose.length cl2) (.int .i64 (N1.V.D.syncs:Int)) (.slice B3 N1.V.L.length ck2) (.slice As2 m2 c2) (.int .u64 (N1.done:Int)) rfl
       have HAZ:=hide ((HA1.out.no k2).doc K9)
       clear K9
       obtain ⟨r0,r1,r2,r3,r4,r5,r6,r7,r8⟩:=(HS1.out.no k2).bx.cell
       have f0:=(HS1.out.no k2).bx.fz 0
       have f1:=(HS1.out.no k2).bx.fz 1
       have f2:=(HS1.out.no k2).bx.fz 2
       have f3:=(HS1.out.no k2).bx.fz 3
       have f4:=(HS1.out.no k2).bx.fz 4
       have f5:=(HS1.out.no k2).bx.fz 5
       have f6:=(HS1.out.no k2).bx.fz 6
       have f7:=(HS1.out.no k2).bx.fz 7
       have f8:=(HS1.out.no k2).bx.fz 8
       clear hr2' k2 HS1 HA1
       unfold rsV id
       go_upto_region 38 with (fail)
       clear r0 r1 r2 r3 r4 r5 r6 r7 r8 f0 f1 f2 f3 f4 f5 f6 f7 f8
       generalize (((((((((w2.setCell ⟨s,0,none⟩ (.int .i64 (n:Int))).setCell ⟨s,1,none⟩ (.int .i64 (k:Int))).setCell ⟨s,2,none⟩ (.int .i64 (N1.V.D.size:Int))).setCell ⟨s,3,none⟩ (.slice (some ⟨gc2,0,none⟩) N1.V.D.cells.length cc2)).setCell ⟨s,4,none⟩ (.slice B2 N1.V.D.loose.length cl2)).setCell ⟨s,5,none⟩ (.int .i64 (N1.V.D.syncs:Int))).setCell ⟨s,6,none⟩ (.slice B3 N1.V.L.length ck2)).setCell ⟨s,7,none⟩ (.slice As2 m2 c2)).setCell ⟨s,8,none⟩ (.int .u64 (N1.done:Int)))=wz at HSZ HAZ ⊢
       obtain ⟨x0,x1,x2,x3,x4,x5,x6,x7,x8⟩:=HSZ.out.bx.cell
       go_wp2_with fail
       refine (same16_any HSZ.out.sv (show RsAt _ _ n k _ _ from ⟨_,_,_,_,_,_,_,_,_,rfl,HSZ.out.rs⟩) (by have h1:=(HNZ.out).n; have:=HMY.out; omega)).mono ?_
       rintro e wE ⟨rfl,kE⟩
       have HSE:=hide (HSZ.out.no kE)
       clear kE x0 x1 x2 x3 x4 x5 x6 x7 x8
       have hj50:j≤50:=HJ.out
       go_wp2_with fail
       go_round
       case rel=>exact ⟨j+1,by omega,by go_num,_,_,_,_,_,_,_,_,_,_,_,_,_,_,_,_,_,HSE.out,HNZ.out⟩
       case measure=>simp [intOf]; omega
     have t2:(d.kind == 2)=false:=by simp [e2]
     have t3:(d.kind == 3)=false:=by simp [e3]
     have t4:(d.kind == 4)=false:=by simp [e4]
     clear e2 e3 e4 ha0
     by_cases e0:d.kind=0
     ·have t0:(d.kind == 0)=true:=by simp [e0]
      clear e0
      obtain ⟨a0,a1,a2,a3,a4,a5,a6,a7,a8,a9,a10,a11,a12⟩:=HA.out.ba.cell
      go_wp2_with fail
      refine (rright15_any d.q Aq mq cq).mono ?_
      rintro e wR ⟨rfl,kR⟩
      clear a0 a1 a2 a3 a4 a5 a6 a7 a8 a9 a10 a11 a12
      have HSR:=hide (HS.out.no kR)
      have HAR:=hide (HA.out.no kR)
      clear kR HS HA
      rcases hR:RgtB d.q.kind d.q.lost mq with _ | _
      ·have HS:=HSR
       have HA:=HAR
       clear HSR HAR
       have HBU:Hid (BtF wR (Fnb F s) (.slice none 0 0) []):=BtF.mk_ (Bts.nil _) (fun h=>absurd rfl h) (fun A n c e=>by injection e with _ e1 e2; omega)
       have HBL:Hid (([]:List UInt8).length≤100000):=by show _≤_; simp
       have HNZ:=hide (HNN.out.handB (n:=n) (a:=a) (x:=x) (bs:=([]:List UInt8)))
       obtain ⟨bs,hbs⟩:∃ bs,bs=([]:List UInt8):=⟨_,rfl⟩
       rw [← hbs] at HBU HBL HNZ
       clear hbs
       obtain ⟨x0,x1,x2,x3,x4,x5,x6,x7,x8⟩:=HS.out.bx.cell
       go_wp2_with fail
       refine (r16handle_any (show RsAt _ _ n k N _ from ⟨_,_,_,_,_,_,_,_,_,rfl,HS.out.rs⟩) HD.out HX.out HS.out.sv.ok (HNN.out.szk (by have:=HMY.out; omega) (by omega) (by have:=HJ.out; omega)) HBU.out.bts (HBU.out.room _ _ _ rfl) HBL.out (by have h1:=HNN.out.d; have:=HJ.out; omega)).mono ?_
       rintro e w2 ⟨v2,Aw,mw,cw,rfl,hr2,hw2,k2⟩
       clear x0 x1 x2 x3 x4 x5 x6 x7 x8
       obtain ⟨gc2,cc2,B2,cl2,B3,ck2,cs2,ls2,As2,m2,c2,ps2,e2,hr2'⟩:=hr2.form
       subst e2
       obtain ⟨N1,hN1⟩:∃ N1,N1=N.handB n a x bs:=⟨_,rfl⟩
       obtain ⟨out,hout⟩:∃ out,out=N.outB n a x bs:=⟨_,rfl⟩
       rw [← hN1] at hr2' HNZ ⊢
       rw [← hout] at hw2
       have HN1:=hide (And.intro hN1 hout)
       clear hN1 hout hr2
       have k3:=Kp.alloc No w2 (.cells #[.int .i64 (n:Int),.int .i64 (k:Int),.int .i64 (N1.V.D.size:Int),.slice (some ⟨gc2,0,none⟩) N1.V.D.cells.length cc2,.slice B2 N1.V.D.loose.length cl2,.int .i64 (N1.V.D.syncs:Int),.slice B3 N1.V.L.length ck2,.slice As2 m2 c2,.int .u64 (N1.done:Int)] 46)
       have HXB:=hide (BxR.new w2 (.int .i64 (n:Int)) (.int .i64 (k:Int)) (.int .i64 (N1.V.D.size:Int)) (.slice (some ⟨gc2,0,none⟩) N1.V.D.cells.length cc2) (.slice B2 N1.V.D.loose.length cl2) (.int .i64 (N1.V.D.syncs:Int)) (.slice B3 N1.V.L.length ck2) (.slice As2 m2 c2) (.int .u64 (N1.done:Int)))
       have hr3:=hr2'.no k3
       have HW3:=hide (hw2.no k3)
       have HB3:=hide ((HBU.out.no k2).no k3)
       have kk:=k2.trans' k3
       have HA3:=hide (HA.out.no kk)
       have HS3:=hide (HS.out.no kk)
       clear hr2' hw2 k2 k3 HBU HA
       unfold rsV
       go_upto_region 23 with (fail)
       generalize w2.alloc (.cells #[.int .i64 (n:Int),.int .i64 (k:Int),.int .i64 (N1.V.D.size:Int),.slice (some ⟨gc2,0,none⟩) N1.V.D.cells.length cc2,.slice B2 N1.V.D.loose.length cl2,.int .i64 (N1.V.D.syncs:Int),.slice B3 N1.V.L.length ck2,.slice As2 m2 c2,.int .u64 (N1.done:Int)] 46)=w3 at HXB hr3 HW3 HB3 kk HA3 HS3 ⊢
       generalize w2.heap.size=sx at HXB ⊢
       have HSZ:=hide (HS.out.doc hr3 kk)
       have K9:=kp9 (S:=fun z=>z=s) w3 s (.int .i64 (n:Int)) (.int .i64 (k:Int)) (.int .i64 (N1.V.D.size:Int)) (.slice (some ⟨gc2,0,none⟩) N1.V.D.cells.length cc2) (.slice B2 N1.V.D.loose.length cl2) (.int .i64 (N1.V.D.syncs:Int)) (.slice B3 N1.V.L.length ck2) (.slice As2 m2 c2) (.int .u64 (N1.done:Int)) rfl
       have HAZ:=hide (HA3.out.doc K9)
       have HBZ:=hide (HB3.out.keep K9 fun z _ hn e=>hn (.inr e))
       have HWZ:=hide (HW3.out.keep K9 fun z _ hn e=>hn (.inr e))
       clear K9 hr3 kk HB3 HW3 HA3 HS
       obtain ⟨y0,y1,y2,y3,y4,y5,y6,y7,y8⟩:=HXB.out.cell
       obtain ⟨r0,r1,r2,r3,r4,r5,r6,r7,r8⟩:=HS3.out.bx.cell
       have f0:=HS3.out.bx.fz 0
       have f1:=HS3.out.bx.fz 1
       have f2:=HS3.out.bx.fz 2
       have f3:=HS3.out.bx.fz 3
       have f4:=HS3.out.bx.fz 4
       have f5:=HS3.out.bx.fz 5
       have f6:=HS3.out.bx.fz 6
       have f7:=HS3.out.bx.fz 7
       have f8:=HS3.out.bx.fz 8
       go_upto_region 24 with (fail)
       clear y0 y1 y2 y3 y4 y5 y6 y7 y8 r0 r1 r2 r3 r4 r5 r6 r7 r8 f0 f1 f2 f3 f4 f5 f6 f7 f8 HXB HS3
       generalize (((((((((w3.setCell ⟨s,0,none⟩ (.int .i64 (n:Int))).setCell ⟨s,1,none⟩ (.int .i64 (k:Int))).setCell ⟨s,2,none⟩ (.int .i64 (N1.V.D.size:Int))).setCell ⟨s,3,none⟩ (.slice (some ⟨gc2,0,none⟩) N1.V.D.cells.length cc2)).setCell ⟨s,4,none⟩ (.slice B2 N1.V.D.loose.length cl2)).setCell ⟨s,5,none⟩ (.int .i64 (N1.V.D.syncs:Int))).setCell ⟨s,6,none⟩ (.slice B3 N1.V.L.length ck2)).setCell ⟨s,7,none⟩ (.slice As2 m2 c2)).setCell ⟨s,8,none⟩ (.int .u64 (N1.done:Int)))=wz at HSZ HAZ HBZ HWZ ⊢
       obtain ⟨tb,htb⟩:∃ tb,tb=strOf out:=⟨_,rfl⟩
       have HTB:=hide htb
       clear htb
       refine wp_region_noPanic ?_
       refine wp_region_held_drew (S:=fun w'=>Bts w' (.slice Aw mw cw) out) (by kernel_rfl) (HWZ.out.bts.no (Kp.refl No wz).drew) (fun hHeld=>?_)
       have HSD:=hide (HSZ.out.no (Kp.refl No wz).drew)
       have HAD:=hide (HAZ.out.no (Kp.refl No wz).drew)
       have HBD:=hide (HBZ.out.no (Kp.refl No wz).drew)
       have HWD:=hide (HWZ.out.no (Kp.refl No wz).drew)
       clear HSZ HAZ HBZ HWZ
       generalize wz.drew=wd at HSD HAD HBD HWD hHeld ⊢
       refine wpAnyH_take (i:=0) (v:=?vhbx1) (oi:=?ohbx1) ?hhbx1 (by kernel_rfl) (by kernel_rfl) (by kernel_rfl) (fun _ _ _ h=>h) (Or.inl ⟨?whbx1,?yhbx1⟩) hHeld ?rhbx1
       case hhbx1=>simp only [gA0,gA1,gA2]; rfl
       case whbx1=>rfl
       case yhbx1=>intro w hSw; (try dsimp only at hSw); go_simp; (try with_reducible rfl)
       simp only [Act.put,sA0,sA1,sA2]
       refine wpAnyH_take (i:=1) (v:=?vhbx2) (oi:=?ohbx2) ?hhbx2 (by kernel_rfl) (by kernel_rfl) (by kernel_rfl) (fun _ _ _ h=>h) (Or.inl ⟨?whbx2,?yhbx2⟩) hHeld ?rhbx2
       case hhbx2=>simp only [gA0,gA1,gA2]; rfl
       case whbx2=>rfl
       case yhbx2=>intro w hSw; (try dsimp only at hSw); go_simp; (try with_reducible rfl)
       simp only [Act.put,sA0,sA1,sA2]
       refine wpAnyH_take (i:=4) (v:=?vhbx3) (oi:=?ohbx3) ?hhbx3 (by kernel_rfl) (by kernel_rfl) (by kernel_rfl) (fun _ _ _ h=>h) (Or.inl ⟨?whbx3,?yhbx3⟩) hHeld ?rhbx3
       case hhbx3=>simp only [gA0,gA1,gA2]; rfl
       case whbx3=>rfl
       case yhbx3=>intro w hSw; (try dsimp only at hSw); go_simp; (try with_reducible rfl)
       simp only [Act.put,sA0,sA1,sA2]
       refine wpAnyH_take (i:=5) (v:=?vhbx4) (oi:=?ohbx4) ?hhbx4 (by kernel_rfl) (by kernel_rfl) (by kernel_rfl) (fun _ _ _ h=>h) (Or.inl ⟨?whbx4,?yhbx4⟩) hHeld ?rhbx4
       case hhbx4=>simp only [gA0,gA1,gA2]; rfl
       case whbx4=>rfl
       case yhbx4 =>
        intro w hSw
        (try dsimp only at hSw)
        have vv:=conv_bts hSw
        rw [← HTB.out] at vv
        go_simp
        (try with_reducible rfl)
       simp only [Act.put,sA0,sA1,sA2]
       refine wpAnyH_ready (rs:=[2]) (by kernel_rfl) (by simp) ?_
       refine AllReadyH.cons (o:=?ohbx5) ?hhbx5 (fun K hK=>?shbx5) AllReadyH.nil
       case hhbx5=>simp only [gA0,gA1,gA2]; rfl
       go_simp
       refine (shandle_any HSD.out.sv HD.out (HNN.out.szk (by have:=HMY.out; omega) (by omega) (by have:=HJ.out; omega)) HBD.out.bts HBL.out (by have h1:=HNN.out.d; have:=HJ.out; omega)).mono ?_
       rintro e w5 ⟨A5,m5,c5,rfl,ho5,⟨F5,⟨gv5,b5,rv5,hs5⟩,hF5,hn5⟩,k5⟩
       rw [← HN1.out.1] at hs5
       rw [← HN1.out.2] at ho5
       have HS5:=hide (HSD.out.prog hs5 hF5 k5)
       have HA5:=hide (HAD.out.prog hF5 k5)
       have hw5:Bts w5 (.slice Aw mw cw) out:=(HWD.out.keep k5 fun z _ hn f=>hn (.inl f)).bts
       have HO5:=hide ho5.bts
       clear hs5 hF5 hn5 k5 ho5
       go_wp2_with fail
       refine hK.out _ _ (hw5) (fun hHeld=>?_)
       clear hK K
       try simp only [Act.put,sA0,sA1,sA2]
       refine wpAnyH_ready (rs:=[3]) (by kernel_rfl) (by simp) ?_
       refine AllReadyH.cons (o:=?ohbx6) ?hhbx6 (fun K hK=>?shbx6) AllReadyH.nil
       case hhbx6=>simp only [gA0,gA1,gA2]; rfl
       have vv:=conv_bts HO5.out
       rw [← HTB.out] at vv
       go_simp
       clear vv
       refine hK.out _ _ (hHeld) (fun hHeld=>?_)
       clear hK K
       try simp only [Act.put,sA0,sA1,sA2]
       refine wpAnyH_take (i:=6) (v:=?vhbx7) (oi:=?ohbx7) ?hhbx7 (by kernel_rfl) (by kernel_rfl) (by kernel_rfl) (fun _ _ _ h=>h) (Or.inl ⟨?whbx7,?yhbx7⟩) hHeld ?rhbx7
       case hhbx7=>simp only [gA0,gA1,gA2]; rfl
       case whbx7=>rfl
       case yhbx7=>intro w hSw; (try dsimp only at hSw); go_simp; (try with_reducible rfl)
       simp only [Act.put,sA0,sA1,sA2]
       refine wpAnyH_done (by kernel_rfl) ?_ _
       refine NoPanic.normal ?_
       have HSY:=HS5
       have HAY:=HA5
       clear hHeld hw5 HS5 HA5 HO5 HTB HSD HAD HBD HWD
       obtain ⟨x0,x1,x2,x3,x4,x5,x6,x7,x8⟩:=HSY.out.bx.cell
       go_wp2_with fail
       refine (same16_any HSY.out.sv (show RsAt _ _ n k _ _ from ⟨_,_,_,_,_,_,_,_,_,rfl,HSY.out.rs⟩) (by have h1:=(HNZ.out).n; have:=HMY.out; omega)).mono ?_
       rintro e wE ⟨rfl,kE⟩
       have HSE:=hide (HSY.out.no kE)
       clear kE x0 x1 x2 x3 x4 x5 x6 x7 x8
       have hj50:j≤50:=HJ.out
       go_wp2_with fail
       go_round
       case rel=>exact ⟨j+1,by omega,by go_num,_,_,_,_,_,_,_,_,_,_,_,_,_,_,_,_,_,HSE.out,HNZ.out⟩
       case measure=>simp [intOf]; omega
      ·obtain ⟨a0,a1,a2,a3,a4,a5,a6,a7,a8,a9,a10,a11,a12⟩:=HAR.out.ba.cell
       go_wp2_with fail
       refine (rbytes15_any d.q HAB.out.fit (by unfold Rq.rgt; rw [← HAB.out.bq.len]; exact hR) (HAB.out.bq.no HSR.out.kp) (by have:=HAB.out.bq.len; have:=HLN.out; omega)).mono ?_
       rintro e wB ⟨Ab,mb,cb,rfl,hob,kB⟩
       clear a0 a1 a2 a3 a4 a5 a6 a7 a8 a9 a10 a11 a12 hR
       have HBU:=hide (HSR.out.bn hob)
       have HS:=hide (HSR.out.no kB)
       have HA:=hide (HAR.out.no kB)
       have HBL:Hid (d.q.bytes.length≤100000):=by show d.q.bytes.length≤100000; rw [Rq.bytes_len]; have:=HLN.out; omega
       clear kB hob HSR HAR
       have HNZ:=hide (HNN.out.handB (n:=n) (a:=a) (x:=x) (bs:=d.q.bytes))
       obtain ⟨bs,hbs⟩:∃ bs,bs=d.q.bytes:=⟨_,rfl⟩
       rw [← hbs] at HBU HBL HNZ
       clear hbs
       obtain ⟨x0,x1,x2,x3,x4,x5,x6,x7,x8⟩:=HS.out.bx.cell
       go_wp2_with fail
       refine (r16handle_any (show RsAt _ _ n k N _ from ⟨_,_,_,_,_,_,_,_,_,rfl,HS.out.rs⟩) HD.out HX.out HS.out.sv.ok (HNN.out.szk (by have:=HMY.out; omega) (by omega) (by have:=HJ.out; omega)) HBU.out.bts (HBU.out.room _ _ _ rfl) HBL.out (by have h1:=HNN.out.d; have:=HJ.out; omega)).mono ?_
       rintro e w2 ⟨v2,Aw,mw,cw,rfl,hr2,hw2,k2⟩
       clear x0 x1 x2 x3 x4 x5 x6 x7 x8
       obtain ⟨gc2,cc2,B2,cl2,B3,ck2,cs2,ls2,As2,m2,c2,ps2,e2,hr2'⟩:=hr2.form
       subst e2
       obtain ⟨N1,hN1⟩:∃ N1,N1=N.handB n a x bs:=⟨_,rfl⟩
       obtain ⟨out,hout⟩:∃ out,out=N.outB n a x bs:=⟨_,rfl⟩
       rw [← hN1] at hr2' HNZ ⊢
       rw [← hout] at hw2
       have HN1:=hide (And.intro hN1 hout)
       clear hN1 hout hr2
       have k3:=Kp.alloc No w2 (.cells #[.int .i64 (n:Int),.int .i64 (k:Int),.int .i64 (N1.V.D.size:Int),.slice (some ⟨gc2,0,none⟩) N1.V.D.cells.length cc2,.slice B2 N1.V.D.loose.length cl2,.int .i64 (N1.V.D.syncs:Int),.slice B3 N1.V.L.length ck2,.slice As2 m2 c2,.int .u64 (N1.done:Int)] 46)
       have HXB:=hide (BxR.new w2 (.int .i64 (n:Int)) (.int .i64 (k:Int)) (.int .i64 (N1.V.D.size:Int)) (.slice (some ⟨gc2,0,none⟩) N1.V.D.cells.length cc2) (.slice B2 N1.V.D.loose.length cl2) (.int .i64 (N1.V.D.syncs:Int)) (.slice B3 N1.V.L.length ck2) (.slice As2 m2 c2) (.int .u64 (N1.done:Int)))
       have hr3:=hr2'.no k3
       have HW3:=hide (hw2.no k3)
       have HB3:=hide ((HBU.out.no k2).no k3)
       have kk:=k2.trans' k3
       have HA3:=hide (HA.out.no kk)
       have HS3:=hide (HS.out.no kk)
       clear hr2' hw2 k2 k3 HBU HA
       unfold rsV
       go_upto_region 23 with (fail)
       generalize w2.alloc (.cells #[.int .i64 (n:Int),.int .i64 (k:Int),.int .i64 (N1.V.D.size:Int),.slice (some ⟨gc2,0,none⟩) N1.V.D.cells.length cc2,.slice B2 N1.V.D.loose.length cl2,.int .i64 (N1.V.D.syncs:Int),.slice B3 N1.V.L.length ck2,.slice As2 m2 c2,.int .u64 (N1.done:Int)] 46)=w3 at HXB hr3 HW3 HB3 kk HA3 HS3 ⊢
       generalize w2.heap.size=sx at HXB ⊢
       have HSZ:=hide (HS.out.doc hr3 kk)
       have K9:=kp9 (S:=fun z=>z=s) w3 s (.int .i64 (n:Int)) (.int .i64 (k:Int)) (.int .i64 (N1.V.D.size:Int)) (.slice (some ⟨gc2,0,none⟩) N1.V.D.cells.length cc2) (.slice B2 N1.V.D.loose.length cl2) (.int .i64 (N1.V.D.syncs:Int)) (.slice B3 N1.V.L.length ck2) (.slice As2 m2 c2) (.int .u64 (N1.done:Int)) rfl
       have HAZ:=hide (HA3.out.doc K9)
       have HBZ:=hide (HB3.out.keep K9 fun z _ hn e=>hn (.inr e))
       have HWZ:=hide (HW3.out.keep K9 fun z _ hn e=>hn (.inr e))
       clear K9 hr3 kk HB3 HW3 HA3 HS
       obtain ⟨y0,y1,y2,y3,y4,y5,y6,y7,y8⟩:=HXB.out.cell
       obtain ⟨r0,r1,r2,r3,r4,r5,r6,r7,r8⟩:=HS3.out.bx.cell
       have f0:=HS3.out.bx.fz 0
       have f1:=HS3.out.bx.fz 1
       have f2:=HS3.out.bx.fz 2
       have f3:=HS3.out.bx.fz 3
       have f4:=HS3.out.bx.fz 4
       have f5:=HS3.out.bx.fz 5
       have f6:=HS3.out.bx.fz 6
       have f7:=HS3.out.bx.fz 7
       have f8:=HS3.out.bx.fz 8
       go_upto_region 24 with (fail)
       clear y0 y1 y2 y3 y4 y5 y6 y7 y8 r0 r1 r2 r3 r4 r5 r6 r7 r8 f0 f1 f2 f3 f4 f5 f6 f7 f8 HXB HS3
       generalize (((((((((w3.setCell ⟨s,0,none⟩ (.int .i64 (n:Int))).setCell ⟨s,1,none⟩ (.int .i64 (k:Int))).setCell ⟨s,2,none⟩ (.int .i64 (N1.V.D.size:Int))).setCell ⟨s,3,none⟩ (.slice (some ⟨gc2,0,none⟩) N1.V.D.cells.length cc2)).setCell ⟨s,4,none⟩ (.slice B2 N1.V.D.loose.length cl2)).setCell ⟨s,5,none⟩ (.int .i64 (N1.V.D.syncs:Int))).setCell ⟨s,6,none⟩ (.slice B3 N1.V.L.length ck2)).setCell ⟨s,7,none⟩ (.slice As2 m2 c2)).setCell ⟨s,8,none⟩ (.int .u64 (N1.done:Int)))=wz at HSZ HAZ HBZ HWZ ⊢
       obtain ⟨tb,htb⟩:∃ tb,tb=strOf out:=⟨_,rfl⟩
       have HTB:=hide htb
       clear htb
       refine wp_region_noPanic ?_
       refine wp_region_held_drew (S:=fun w'=>Bts w' (.slice Aw mw cw) out) (by kernel_rfl) (HWZ.out.bts.no (Kp.refl No wz).drew) (fun hHeld=>?_)
       have HSD:=hide (HSZ.out.no (Kp.refl No wz).drew)
       have HAD:=hide (HAZ.out.no (Kp.refl No wz).drew)
       have HBD:=hide (HBZ.out.no (Kp.refl No wz).drew)
       have HWD:=hide (HWZ.out.no (Kp.refl No wz).drew)
       clear HSZ HAZ HBZ HWZ
       generalize wz.drew=wd at HSD HAD HBD HWD hHeld ⊢
       refine wpAnyH_take (i:=0) (v:=?vhcx1) (oi:=?ohcx1) ?hhcx1 (by kernel_rfl) (by kernel_rfl) (by kernel_rfl) (fun _ _ _ h=>h) (Or.inl ⟨?whcx1,?yhcx1⟩) hHeld ?rhcx1
       case hhcx1=>simp only [gA0,gA1,gA2]; rfl
       case whcx1=>rfl
       case yhcx1=>intro w hSw; (try dsimp only at hSw); go_simp; (try with_reducible rfl)
       simp only [Act.put,sA0,sA1,sA2]
       refine wpAnyH_take (i:=1) (v:=?vhcx2) (oi:=?ohcx2) ?hhcx2 (by kernel_rfl) (by kernel_rfl) (by kernel_rfl) (fun _ _ _ h=>h) (Or.inl ⟨?whcx2,?yhcx2⟩) hHeld ?rhcx2
       case hhcx2=>simp only [gA0,gA1,gA2]; rfl
       case whcx2=>rfl
       case yhcx2=>intro w hSw; (try dsimp only at hSw); go_simp; (try with_reducible rfl)
       simp only [Act.put,sA0,sA1,sA2]
       refine wpAnyH_take (i:=4) (v:=?vhcx3) (oi:=?ohcx3) ?hhcx3 (by kernel_rfl) (by kernel_rfl) (by kernel_rfl) (fun _ _ _ h=>h) (Or.inl ⟨?whcx3,?yhcx3⟩) hHeld ?rhcx3
       case hhcx3=>simp only [gA0,gA1,gA2]; rfl
       case whcx3=>rfl
       case yhcx3=>intro w hSw; (try dsimp only at hSw); go_simp; (try with_reducible rfl)
       simp only [Act.put,sA0,sA1,sA2]
       refine wpAnyH_take (i:=5) (v:=?vhcx4) (oi:=?ohcx4) ?hhcx4 (by kernel_rfl) (by kernel_rfl) (by kernel_rfl) (fun _ _ _ h=>h) (Or.inl ⟨?whcx4,?yhcx4⟩) hHeld ?rhcx4
       case hhcx4=>simp only [gA0,gA1,gA2]; rfl
       case whcx4=>rfl
       case yhcx4 =>
        intro w hSw
        (try dsimp only at hSw)
        have vv:=conv_bts hSw
        rw [← HTB.out] at vv
        go_simp
        (try with_reducible rfl)
       simp only [Act.put,sA0,sA1,sA2]
       refine wpAnyH_ready (rs:=[2]) (by kernel_rfl) (by simp) ?_
       refine AllReadyH.cons (o:=?ohcx5) ?hhcx5 (fun K hK=>?shcx5) AllReadyH.nil
       case hhcx5=>simp only [gA0,gA1,gA2]; rfl
       go_simp
       refine (shandle_any HSD.out.sv HD.out (HNN.out.szk (by have:=HMY.out; omega) (by omega) (by have:=HJ.out; omega)) HBD.out.bts HBL.out (by have h1:=HNN.out.d; have:=HJ.out; omega)).mono ?_
       rintro e w5 ⟨A5,m5,c5,rfl,ho5,⟨F5,⟨gv5,b5,rv5,hs5⟩,hF5,hn5⟩,k5⟩
       rw [← HN1.out.1] at hs5
       rw [← HN1.out.2] at ho5
       have HS5:=hide (HSD.out.prog hs5 hF5 k5)
       have HA5:=hide (HAD.out.prog hF5 k5)
       have hw5:Bts w5 (.slice Aw mw cw) out:=(HWD.out.keep k5 fun z _ hn f=>hn (.inl f)).bts
       have HO5:=hide ho5.bts
       clear hs5 hF5 hn5 k5 ho5
       go_wp2_with fail
       refine hK.out _ _ (hw5) (fun hHeld=>?_)
       clear hK K
       try simp only [Act.put,sA0,sA1,sA2]
       refine wpAnyH_ready (rs:=[3]) (by kernel_rfl) (by simp) ?_
       refine AllReadyH.cons (o:=?ohcx6) ?hhcx6 (fun K hK=>?shcx6) AllReadyH.nil
       case hhcx6=>simp only [gA0,gA1,gA2]; rfl
       have vv:=conv_bts HO5.out
       rw [← HTB.out] at vv
       go_simp
       clear vv
       refine hK.out _ _ (hHeld) (fun hHeld=>?_)
       clear hK K
       try simp only [Act.put,sA0,sA1,sA2]
       refine wpAnyH_take (i:=6) (v:=?vhcx7) (oi:=?ohcx7) ?hhcx7 (by kernel_rfl) (by kernel_rfl) (by kernel_rfl) (fun _ _ _ h=>h) (Or.inl ⟨?whcx7,?yhcx7⟩) hHeld ?rhcx7
       case hhcx7=>simp only [gA0,gA1,gA2]; rfl
       case whcx7=>rfl
       case yhcx7=>intro w hSw; (try dsimp only at hSw); go_simp; (try with_reducible rfl)
       simp only [Act.put,sA0,sA1,sA2]
       refine wpAnyH_done (by kernel_rfl) ?_ _
       refine NoPanic.normal ?_
       have HSY:=HS5
       have HAY:=HA5
       clear hHeld hw5 HS5 HA5 HO5 HTB HSD HAD HBD HWD
       obtain ⟨x0,x1,x2,x3,x4,x5,x6,x7,x8⟩:=HSY.out.bx.cell
       go_wp2_with fail
       refine (same16_any HSY.out.sv (show RsAt _ _ n k _ _ from ⟨_,_,_,_,_,_,_,_,_,rfl,HSY.out.rs⟩) (by have h1:=(HNZ.out).n; have:=HMY.out; omega)).mono ?_
       rintro e wE ⟨rfl,kE⟩
       have HSE:=hide (HSY.out.no kE)
       clear kE x0 x1 x2 x3 x4 x5 x6 x7 x8
       have hj50:j≤50:=HJ.out
       go_wp2_with fail
       go_round
       case rel=>exact ⟨j+1,by omega,by go_num,_,_,_,_,_,_,_,_,_,_,_,_,_,_,_,_,_,HSE.out,HNZ.out⟩
       case measure=>simp [intOf]; omega
     ·have t0:(d.kind == 0)=false:=by simp [e0]
      clear e0
      have HBU:=hide (HS.out.bt HAB.out.bts HAB.out.room)
      have HBL:Hid (d.b.length≤100000):=by show d.b.length≤100000; have:=HLN.out; omega
      obtain ⟨a0,a1,a2,a3,a4,a5,a6,a7,a8,a9,a10,a11,a12⟩:=HA.out.ba.cell
      have HNZ:=hide (HNN.out.handB (n:=n) (a:=a) (x:=x) (bs:=d.b))
      obtain ⟨bs,hbs⟩:∃ bs,bs=d.b:=⟨_,rfl⟩
      rw [← hbs] at HBU HBL HNZ
      clear hbs
      obtain ⟨x0,x1,x2,x3,x4,x5,x6,x7,x8⟩:=HS.out.bx.cell
      go_wp2_with fail
      refine (r16handle_any (show RsAt _ _ n k N _ from ⟨_,_,_,_,_,_,_,_,_,rfl,HS.out.rs⟩) HD.out HX.out HS.out.sv.ok (HNN.out.szk (by have:=HMY.out; omega) (by omega) (by have:=HJ.out; omega)) HBU.out.bts (HBU.out.room _ _ _ rfl) HBL.out (by have h1:=HNN.out.d; have:=HJ.out; omega)).mono ?_
      rintro e w2 ⟨v2,Aw,mw,cw,rfl,hr2,hw2,k2⟩
      clear x0 x1 x2 x3 x4 x5 x6 x7 x8 a0 a1 a2 a3 a4 a5 a6 a7 a8 a9 a10 a11 a12
      obtain ⟨gc2,cc2,B2,cl2,B3,ck2,cs2,ls2,As2,m2,c2,ps2,e2,hr2'⟩:=hr2.form
      subst e2
      obtain ⟨N1,hN1⟩:∃ N1,N1=N.handB n a x bs:=⟨_,rfl⟩
      obtain ⟨out,hout⟩:∃ out,out=N.outB n a x bs:=⟨_,rfl⟩
      rw [← hN1] at hr2' HNZ ⊢
      rw [← hout] at hw2
      have HN1:=hide (And.intro hN1 hout)
      clear hN1 hout hr2
      have k3:=Kp.alloc No w2 (.cells #[.int .i64 (n:Int),.int .i64 (k:Int),.int .i64 (N1.V.D.size:Int),.slice (some ⟨gc2,0,none⟩) N1.V.D.cells.length cc2,.slice B2 N1.V.D.loose.length cl2,.int .i64 (N1.V.D.syncs:Int),.slice B3 N1.V.L.length ck2,.slice As2 m2 c2,.int .u64 (N1.done:Int)] 46)
      have HXB:=hide (BxR.new w2 (.int .i64 (n:Int)) (.int .i64 (k:Int)) (.int .i64 (N1.V.D.size:Int)) (.slice (some ⟨gc2,0,none⟩) N1.V.D.cells.length cc2) (.slice B2 N1.V.D.loose.length cl2) (.int .i64 (N1.V.D.syncs:Int)) (.slice B3 N1.V.L.length ck2) (.slice As2 m2 c2) (.int .u64 (N1.done:Int)))
      have hr3:=hr2'.no k3
      have HW3:=hide (hw2.no k3)
      have HB3:=hide ((HBU.out.no k2).no k3)
      have kk:=k2.trans' k3
      have HA3:=hide (HA.out.no kk)
      have HS3:=hide (HS.out.no kk)
      clear hr2' hw2 k2 k3 HBU HA
      unfold rsV
      go_upto_region 23 with (fail)
      generalize w2.alloc (.cells #[.int .i64 (n:Int),.int .i64 (k:Int),.int .i64 (N1.V.D.size:Int),.slice (some ⟨gc2,0,none⟩) N1.V.D.cells.length cc2,.slice B2 N1.V.D.loose.length cl2,.int .i64 (N1.V.D.syncs:Int),.slice B3 N1.V.L.length ck2,.slice As2 m2 c2,.int .u64 (N1.done:Int)] 46)=w3 at HXB hr3 HW3 HB3 kk HA3 HS3 ⊢
      generalize w2.heap.size=sx at HXB ⊢
      have HSZ:=hide (HS.out.doc hr3 kk)
      have K9:=kp9 (S:=fun z=>z=s) w3 s (.int .i64 (n:Int)) (.int .i64 (k:Int)) (.int .i64 (N1.V.D.size:Int)) (.slice (some ⟨gc2,0,none⟩) N1.V.D.cells.length cc2) (.slice B2 N1.V.D.loose.length cl2) (.int .i64 (N1.V.D.syncs:Int)) (.slice B3 N1.V.L.length ck2) (.slice As2 m2 c2) (.int .u64 (N1.done:Int)) rfl
      have HAZ:=hide (HA3.out.doc K9)
      have HBZ:=hide (HB3.out.keep K9 fun z _ hn e=>hn (.inr e))
      have HWZ:=hide (HW3.out.keep K9 fun z _ hn e=>hn (.inr e))
      clear K9 hr3 kk HB3 HW3 HA3 HS
      obtain ⟨y0,y1,y2,y3,y4,y5,y6,y7,y8⟩:=HXB.out.cell
      obtain ⟨r0,r1,r2,r3,r4,r5,r6,r7,r8⟩:=HS3.out.bx.cell
      have f0:=HS3.out.bx.fz 0
      have f1:=HS3.out.bx.fz 1
      have f2:=HS3.out.bx.fz 2
      have f3:=HS3.out.bx.fz 3
      have f4:=HS3.out.bx.fz 4
      have f5:=HS3.out.bx.fz 5
      have f6:=HS3.out.bx.fz 6
      have f7:=HS3.out.bx.fz 7
      have f8:=HS3.out.bx.fz 8
      go_upto_region 24 with (fail)
      clear y0 y1 y2 y3 y4 y5 y6 y7 y8 r0 r1 r2 r3 r4 r5 r6 r7 r8 f0 f1 f2 f3 f4 f5 f6 f7 f8 HXB HS3
      generalize (((((((((w3.setCell ⟨s,0,none⟩ (.int .i64 (n:Int))).setCell ⟨s,1,none⟩ (.int .i64 (k:Int))).setCell ⟨s,2,none⟩ (.int .i64 (N1.V.D.size:Int))).setCell ⟨s,3,none⟩ (.slice (some ⟨gc2,0,none⟩) N1.V.D.cells.length cc2)).setCell ⟨s,4,none⟩ (.slice B2 N1.V.D.loose.length cl2)).setCell ⟨s,5,none⟩ (.int .i64 (N1.V.D.syncs:Int))).setCell ⟨s,6,none⟩ (.slice B3 N1.V.L.length ck2)).setCell ⟨s,7,none⟩ (.slice As2 m2 c2)).setCell ⟨s,8,none⟩ (.int .u64 (N1.done:Int)))=wz at HSZ HAZ HBZ HWZ ⊢
      obtain ⟨tb,htb⟩:∃ tb,tb=strOf out:=⟨_,rfl⟩
      have HTB:=hide htb
      clear htb
      refine wp_region_noPanic ?_
      refine wp_region_held_drew (S:=fun w'=>Bts w' (.slice Aw mw cw) out) (by kernel_rfl) (HWZ.out.bts.no (Kp.refl No wz).drew) (fun hHeld=>?_)
      have HSD:=hide (HSZ.out.no (Kp.refl No wz).drew)
      have HAD:=hide (HAZ.out.no (Kp.refl No wz).drew)
      have HBD:=hide (HBZ.out.no (Kp.refl No wz).drew)
      have HWD:=hide (HWZ.out.no (Kp.refl No wz).drew)
      clear HSZ HAZ HBZ HWZ
      generalize wz.drew=wd at HSD HAD HBD HWD hHeld ⊢
      refine wpAnyH_take (i:=0) (v:=?vhdx1) (oi:=?ohdx1) ?hhdx1 (by kernel_rfl) (by kernel_rfl) (by kernel_rfl) (fun _ _ _ h=>h) (Or.inl ⟨?whdx1,?yhdx1⟩) hHeld ?rhdx1
      case hhdx1=>simp only [gA0,gA1,gA2]; rfl
      case whdx1=>rfl
      case yhdx1=>intro w hSw; (try dsimp only at hSw); go_simp; (try with_reducible rfl)
      simp only [Act.put,sA0,sA1,sA2]
      refine wpAnyH_take (i:=1) (v:=?vhdx2) (oi:=?ohdx2) ?hhdx2 (by kernel_rfl) (by kernel_rfl) (by kernel_rfl) (fun _ _ _ h=>h) (Or.inl ⟨?whdx2,?yhdx2⟩) hHeld ?rhdx2
      case hhdx2=>simp only [gA0,gA1,gA2]; rfl
      case whdx2=>rfl
      case yhdx2=>intro w hSw; (try dsimp only at hSw); go_simp; (try with_reducible rfl)
      simp only [Act.put,sA0,sA1,sA2]
      refine wpAnyH_take (i:=4) (v:=?vhdx3) (oi:=?ohdx3) ?hhdx3 (by kernel_rfl) (by kernel_rfl) (by kernel_rfl) (fun _ _ _ h=>h) (Or.inl ⟨?whdx3,?yhdx3⟩) hHeld ?rhdx3
      case hhdx3=>simp only [gA0,gA1,gA2]; rfl
      case whdx3=>rfl
      case yhdx3=>intro w hSw; (try dsimp only at hSw); go_simp; (try with_reducible rfl)
      simp only [Act.put,sA0,sA1,sA2]
      refine wpAnyH_take (i:=5) (v:=?vhdx4) (oi:=?ohdx4) ?hhdx4 (by kernel_rfl) (by kernel_rfl) (by kernel_rfl) (fun _ _ _ h=>h) (Or.inl ⟨?whdx4,?yhdx4⟩) hHeld ?rhdx4
      case hhdx4=>simp only [gA0,gA1,gA2]; rfl
      case whdx4=>rfl
      case yhdx4 =>
       intro w hSw
       (try dsimp only at hSw)
       have vv:=conv_bts hSw
       rw [← HTB.out] at vv
       go_simp
       (try with_reducible rfl)
      simp only [Act.put,sA0,sA1,sA2]
      refine wpAnyH_ready (rs:=[2]) (by kernel_rfl) (by simp) ?_
      refine AllReadyH.cons (o:=?ohdx5) ?hhdx5 (fun K hK=>?shdx5) AllReadyH.nil
      case hhdx5=>simp only [gA0,gA1,gA2]; rfl
      go_simp
      refine (shandle_any HSD.out.sv HD.out (HNN.out.szk (by have:=HMY.out; omega) (by omega) (by have:=HJ.out; omega)) HBD.out.bts HBL.out (by have h1:=HNN.out.d; have:=HJ.out; omega)).mono ?_
      rintro e w5 ⟨A5,m5,c5,rfl,ho5,⟨F5,⟨gv5,b5,rv5,hs5⟩,hF5,hn5⟩,k5⟩
      rw [← HN1.out.1] at hs5
      rw [← HN1.out.2] at ho5
      have HS5:=hide (HSD.out.prog hs5 hF5 k5)
      have HA5:=hide (HAD.out.prog hF5 k5)
      have hw5:Bts w5 (.slice Aw mw cw) out:=(HWD.out.keep k5 fun z _ hn f=>hn (.inl f)).bts
      have HO5:=hide ho5.bts
      clear hs5 hF5 hn5 k5 ho5
      go_wp2_with fail
      refine hK.out _ _ (hw5) (fun hHeld=>?_)
      clear hK K
      try simp only [Act.put,sA0,sA1,sA2]
      refine wpAnyH_ready (rs:=[3]) (by kernel_rfl) (by simp) ?_
      refine AllReadyH.cons (o:=?ohdx6) ?hhdx6 (fun K hK=>?shdx6) AllReadyH.nil
      case hhdx6=>simp only [gA0,gA1,gA2]; rfl
      have vv:=conv_bts HO5.out
      rw [← HTB.out] at vv
      go_simp
      clear vv
      refine hK.out _ _ (hHeld) (fun hHeld=>?_)
      clear hK K
      try simp only [Act.put,sA0,sA1,sA2]
      refine wpAnyH_take (i:=6) (v:=?vhdx7) (oi:=?ohdx7) ?hhdx7 (by kernel_rfl) (by kernel_rfl) (by kernel_rfl) (fun _ _ _ h=>h) (Or.inl ⟨?whdx7,?yhdx7⟩) hHeld ?rhdx7
      case hhdx7=>simp only [gA0,gA1,gA2]; rfl
      case whdx7=>rfl
      case yhdx7=>intro w hSw; (try dsimp only at hSw); go_simp; (try with_reducible rfl)
      simp only [Act.put,sA0,sA1,sA2]
      refine wpAnyH_done (by kernel_rfl) ?_ _
      refine NoPanic.normal ?_
      have HSY:=HS5
      have HAY:=HA5
      clear hHeld hw5 HS5 HA5 HO5 HTB HSD HAD HBD HWD
      obtain ⟨x0,x1,x2,x3,x4,x5,x6,x7,x8⟩:=HSY.out.bx.cell
      go_wp2_with fail
      refine (same16_any HSY.out.sv (show RsAt _ _ n k _ _ from ⟨_,_,_,_,_,_,_,_,_,rfl,HSY.out.rs⟩) (by have h1:=(HNZ.out).n; have:=HMY.out; omega)).mono ?_
      rintro e wE ⟨rfl,kE⟩
      have HSE:=hide (HSY.out.no kE)
      clear kE x0 x1 x2 x3 x4 x5 x6 x7 x8
      have hj50:j≤50:=HJ.out
      go_wp2_with fail
      go_round
      case rel=>exact ⟨j+1,by omega,by go_num,_,_,_,_,_,_,_,_,_,_,_,_,_,_,_,_,_,HSE.out,HNZ.out⟩
      case measure=>simp [intOf]; omega
    ·have hi:¬ (j:Int) < (na:Int):=by omega
     have HK:=hide hI.kp
     clear hI
     go_wp2_with fail
     refine (awake16_any _).mono ?_
     rintro e w9 ⟨rfl,k9⟩
     go_wp2_with fail
     go_ret
     exact ⟨rfl,HK.out.trans' k9⟩
  ·have h12z:(12:Int) < n0:=by omega
   go_wp2_with fail
   refine HR.out.mono ?_
   rintro e w' ⟨rfl,rfl⟩
   go_wp2_with fail
   refine (awake16_any _).mono ?_
   rintro e w9 ⟨rfl,k9⟩
   go_wp2_with fail
   go_ret
   exact ⟨rfl,K0.out.trans' k9⟩
 ·have HR:=hide (rright_no n0 k0 w0 hR)
  clear hR
  go_wp2_with fail
  refine HR.out.mono ?_
  rintro e w' ⟨rfl,rfl⟩
  go_wp2_with fail
  refine (awake16_any _).mono ?_
  rintro e w9 ⟨rfl,k9⟩
  go_wp2_with fail
  go_ret
  exact ⟨rfl,K0.out.trans' k9⟩
end Go.Proofs.YtnfcfdhlmeimhaaGreat
