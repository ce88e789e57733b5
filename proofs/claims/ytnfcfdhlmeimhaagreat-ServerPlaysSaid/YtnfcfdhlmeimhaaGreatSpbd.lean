/- The document's Sync and Crash of layer 11, each as a contract over memory. No condition; The document's vault of layer 12 in memory; its Index, as a contract. -/
import Derived.Test.YtnfcfdhlmeimhaaGreatSpbc
import Derived.Test.YtnfcfdhlmeimhaaGreatSpac
import Derived.Deep.DeepCutAuto
import Derived.Test.YtnfcfdhlmeimhaaGreatSpal
import Derived.Test.YtnfcfdhlmeimhaaGreatSpae
namespace Go.Proofs.YtnfcfdhlmeimhaaGreat
open Go.RowKit
set_option linter.unusedVariables false
set_option maxRecDepth 20000
set_option linter.unusedSimpArgs false
/-- No loose write any more. -/
theorem RfR.noloose {w:World} {F:Nat→Prop} {D:Dk} {vc vl:Value} {cs:List (Value × List UInt8)} {ls:List (Nat × (Value × List UInt8))} (h:RfR w F D vc vl cs ls) (n:Nat):RfR w F ⟨D.size,D.cells,[],n⟩ vc (.slice none 0 0) cs [] :=
  ⟨h.oc,OwnT.nil _ _ _ _,h.rc,(fun p hp=>by simp at hp),h.dc,rfl,h.fc,(fun k hk=>by cases hk),h.bd,⟨h.ok.n0,h.ok.n1,h.ok.s0,h.ok.s1,h.ok.cl,fun p hp=>by simp at hp⟩⟩
set_option maxHeartbeats 4000000 in
theorem rsync_any {w:World} {F:Nat→Prop} {D:Dk} {v0:Value} (h:RfAt w F D v0) (hL:D.loose.length≤1000000) (hsy:D.syncs+1≤1000000000) :
    Calls Tryz.prog 114 #[v0] w (RfPost w F D.sync id):=by
  obtain ⟨vc,vl,cs,ls,rfl,h⟩:=h
  obtain ⟨gc,c,rfl,hc⟩:=h.vc_
  obtain ⟨A,cl,rfl,hcl,hL1⟩:=h.vl_
  have hs1:=h.ok.s1
  have hn1:=h.ok.n1
  have HI:=hide (BxS.begin h)
  have HH:=hide h
  clear h
  unfold maxLen at hL1
  unfold rfV
  go_enter Tryz.func114,Tryz.ntmps114
  go_wp2_with fail
  generalize hw2:((w.alloc (.cells #[.int .i64 (D.size:Int),.slice (some ⟨gc,0,none⟩) D.cells.length c,.slice A D.loose.length cl,.int .i64 (D.syncs:Int)] 39)).alloc (.cells #[.int .i64 0,.slice none 0 0,.slice none 0 0,.int .i64 0] 39))=w2 at HI ⊢
  clear hw2
  generalize w.heap.size=s at HI ⊢
  have ax0:=HI.out.bx.c0
  have ax1:=HI.out.bx.c1
  have ax2:=HI.out.bx.c2
  have ax3:=HI.out.bx.c3
  have af0:=HI.out.rz.fz 0
  have af1:=HI.out.rz.fz 1
  have af2:=HI.out.rz.fz 2
  have af3:=HI.out.rz.fz 3
  have az0:=HI.out.rz.c0
  have az1:=HI.out.rz.c1
  have az2:=HI.out.rz.c2
  have az3:=HI.out.rz.c3
  have ag0:=HI.out.bx.fz 0
  have ag1:=HI.out.bx.fz 1
  have ag2:=HI.out.bx.fz 2
  have ag3:=HI.out.bx.fz 3
  go_wp2_with fail
  refine (rdone_any (n:=D.loose.length) HI.out.rf (Nat.le_refl _) hL).mono ?_
  rintro e w3 ⟨g5,c5,cs5,rfl,hR,k3⟩
  have HS:=hide (HI.out.no k3)
  have HR:=hide hR
  clear hR k3
  clear ax0 ax1 ax2 ax3 af0 af1 af2 af3 az0 az1 az2 az3 ag0 ag1 ag2 ag3
  unfold rfV
  have bx0:=HS.out.bx.c0
  have bx1:=HS.out.bx.c1
  have bx2:=HS.out.bx.c2
  have bx3:=HS.out.bx.c3
  have bf0:=HS.out.rz.fz 0
  have bf1:=HS.out.rz.fz 1
  have bf2:=HS.out.rz.fz 2
  have bf3:=HS.out.rz.fz 3
  have bz0:=HS.out.rz.c0
  have bz1:=HS.out.rz.c1
  have bz2:=HS.out.rz.c2
  have bz3:=HS.out.rz.c3
  have bg0:=HS.out.bx.fz 0
  have bg1:=HS.out.bx.fz 1
  have bg2:=HS.out.bx.fz 2
  have bg3:=HS.out.bx.fz 3
  go_upto_region 2 with (fail)
  have hb4:=HS.out.bx.set4 (D:=D) (vc:=.slice (some ⟨g5,0,none⟩) D.cells.length c5) (vl:=.slice A D.loose.length cl)
  have HS4:=hide (HS.out.upd HR.out (kp_set4 w3 s (.int .i64 (D.size:Int)) (.slice (some ⟨g5,0,none⟩) D.cells.length c5) (.slice A D.loose.length cl) (.int .i64 (D.syncs:Int))) (hb4.eqD (E:=D.upto D.loose.length) rfl rfl))
  clear bx0 bx1 bx2 bx3 bf0 bf1 bf2 bf3 bz0 bz1 bz2 bz3 bg0 bg1 bg2 bg3
  generalize ((((w3.setCell ⟨s,0,none⟩ (.int .i64 (D.size:Int))).setCell ⟨s,1,none⟩ (.slice (some ⟨g5,0,none⟩) D.cells.length c5)).setCell ⟨s,2,none⟩ (.slice A D.loose.length cl)).setCell ⟨s,3,none⟩ (.int .i64 (D.syncs:Int)))=w4 at hb4 HS4 ⊢
  have dx0:=hb4.c0
  have dx1:=hb4.c1
  have dx2:=hb4.c2
  have dx3:=hb4.c3
  have df0:=HS4.out.rz.fz 0
  have df1:=HS4.out.rz.fz 1
  have df2:=HS4.out.rz.fz 2
  have df3:=HS4.out.rz.fz 3
  have dz0:=HS4.out.rz.c0
  have dz1:=HS4.out.rz.c1
  have dz2:=HS4.out.rz.c2
  have dz3:=HS4.out.rz.c3
  have dg2:=hb4.fz 2
  have dg3:=hb4.fz 3
  have HB4:=hide hb4
  clear hb4
  go_wp2_with fail
  clear dx0 dx1 dx2 dx3 df0 df1 df2 df3 dz0 dz1 dz2 dz3 dg2 dg3
  have hR8:=HS4.out.rf.noloose (D.syncs+1)
  have hS8:=HS4.out.upd hR8 ((Kp.setCell (p:=⟨s,2,none⟩) (S:=fun k=>k=s) rfl (.slice none 0 0)).trans' (Kp.setCell (p:=⟨s,3,none⟩) (S:=fun k=>k=s) rfl (.int .i64 ((D.syncs:Int)+1)))) (((HB4.out.set2 (.slice none 0 0)).set3 (D.syncs+1)).eqD rfl rfl)
  have hbx:BxD ((((((w4.setCell ⟨s,2,none⟩ (.slice none 0 0)).setCell ⟨s,3,none⟩ (.int .i64 ((D.syncs:Int)+1))).setCell ⟨s+1,0,none⟩ (.int .i64 (D.size:Int))).setCell ⟨s+1,1,none⟩ (.slice (some ⟨g5,0,none⟩) D.cells.length c5)).setCell ⟨s+1,2,none⟩ (.slice none 0 0)).setCell ⟨s+1,3,none⟩ (.int .i64 ((D.syncs:Int)+1))) (s+1) D.sync (.slice (some ⟨g5,0,none⟩) D.cells.length c5) (.slice none 0 0):=hS8.rz.set4 (D:=D.sync) (vc:=.slice (some ⟨g5,0,none⟩) D.cells.length c5) (vl:=.slice none 0 0)
  have HF:=hide (hS8.fin (kp_set4 ((w4.setCell ⟨s,2,none⟩ (.slice none 0 0)).setCell ⟨s,3,none⟩ (.int .i64 ((D.syncs:Int)+1))) (s+1) (.int .i64 (D.size:Int)) (.slice (some ⟨g5,0,none⟩) D.cells.length c5) (.slice none 0 0) (.int .i64 ((D.syncs:Int)+1))))
  have r0:=hbx.c0
  have r1:=hbx.c1
  have r2:=hbx.c2
  have r3:=hbx.c3
  clear hbx
  generalize ((((((w4.setCell ⟨s,2,none⟩ (.slice none 0 0)).setCell ⟨s,3,none⟩ (.int .i64 ((D.syncs:Int)+1))).setCell ⟨s+1,0,none⟩ (.int .i64 (D.size:Int))).setCell ⟨s+1,1,none⟩ (.slice (some ⟨g5,0,none⟩) D.cells.length c5)).setCell ⟨s+1,2,none⟩ (.slice none 0 0)).setCell ⟨s+1,3,none⟩ (.int .i64 ((D.syncs:Int)+1)))=w9 at HF r0 r1 r2 r3 ⊢
  refine bodyPost_ret (v:=rfV D.sync (.slice (some ⟨g5,0,none⟩) D.cells.length c5) (.slice none 0 0)) (by simp [results,Tryz.results114,go_sem,rfV,r0,r1,r2,r3]) rfl ?_
  exact ⟨_,rfl,⟨_,_,_,_,rfl,HF.out.1⟩,HF.out.2⟩
set_option maxHeartbeats 4000000 in
theorem rcrash_any {w:World} {F:Nat→Prop} {D:Dk} {v0:Value} (h:RfAt w F D v0) (hL:D.loose.length≤1000000) (z y:Int) :
    Calls Tryz.prog 35 #[v0,.int .i64 z,.int .i64 y] w (RfPost w F (D.crash z y) (tupE (D.lost z))):=by
  obtain ⟨i0,hi0,hz0,hz1,hz2⟩:=byte_parts
  obtain ⟨k,hk⟩:∃ k,k=clm z D.loose.length:=⟨_,rfl⟩
  have hkL:k≤D.loose.length:=hk ▸ clm_le _ _
  obtain ⟨r,hr⟩:∃ r,r=D.loose.length - k:=⟨_,rfl⟩
  have hC:D.crash z y=⟨D.size,D.torn k y,[],D.syncs⟩:=by rw [hk]; rfl
  have hLo:D.lost z=r:=by rw [hr,hk]; rfl
  have hokc:(D.crash z y).Ok:=by
    obtain ⟨_,_,_,_,_,h⟩:=h
    exact h.ok.crash z y
  rw [hC] at hokc
  rw [hC,hLo]
  have HK:=hide hk
  have HOK:=hide hokc
  have HR:=hide hr
  clear hk hC hLo hokc hr
  obtain ⟨vc,vl,cs,ls,rfl,h⟩:=h
  obtain ⟨gc,c,rfl,hc⟩:=h.vc_
  obtain ⟨A,cl,rfl,hcl,hL1⟩:=h.vl_
  have hs1:=h.ok.s1
  have hn1:=h.ok.n1
  have HI:=hide (BxS.begin h)
  have HH:=hide h
  clear h
  unfold maxLen at hL1
  unfold rfV
  go_enter Tryz.func35,Tryz.ntmps35
  go_upto_if 16 with (fail)
  generalize hw2:((w.alloc (.cells #[.int .i64 (D.size:Int),.slice (some ⟨gc,0,none⟩) D.cells.length c,.slice A D.loose.length cl,.int .i64 (D.syncs:Int)] 39)).alloc (.cells #[.int .i64 0,.slice none 0 0,.slice none 0 0,.int .i64 0] 39))=w2 at HI ⊢
  clear hw2
  generalize w.heap.size=s at HI ⊢
  go_cut [8] (fun v wx=>v=.int .i64 (if z < 0 then 0 else z)∧wx=w2)
  case first =>
    by_cases h0:z < 0
    · go_wp2_with fail
      go_meet
      exact ⟨by rw [if_pos h0],rfl⟩
    · go_wp2_with fail
      go_meet
      exact ⟨by rw [if_neg (by omega)],rfl⟩
  case rest =>
    obtain ⟨rfl,rfl⟩:=hcut
    obtain ⟨z1,hz1⟩:∃ z1,z1=(if z < 0 then 0 else z):=⟨_,rfl⟩
    rw [← hz1]
    have hk1:k=clm z1 D.loose.length:=by
      rw [HK.out,hz1]
      unfold clm
      split <;> omega
    have hz0:0≤z1:=by rw [hz1]; split <;> omega
    have HK1:=hide hk1
    clear hz1 hk1
    have ax0:=HI.out.bx.c0
    have ax1:=HI.out.bx.c1
    have ax2:=HI.out.bx.c2
    have ax3:=HI.out.bx.c3
    have af0:=HI.out.rz.fz 0
    have af1:=HI.out.rz.fz 1
    have af2:=HI.out.rz.fz 2
    have af3:=HI.out.rz.fz 3
    have az0:=HI.out.rz.c0
    have az1:=HI.out.rz.c1
    have az2:=HI.out.rz.c2
    have az3:=HI.out.rz.c3
    have ag0:=HI.out.bx.fz 0
    have ag1:=HI.out.bx.fz 1
    have ag2:=HI.out.bx.fz 2
    have ag3:=HI.out.bx.fz 3
    go_upto_if 21 with (fail)
    go_cut [8] (fun v wx=>v=.int .i64 (k:Int)∧wx=wc)
    case first =>
      by_cases h1:(D.loose.length:Int) < z1
      · have e1:k=D.loose.length:=by rw [HK1.out,clm_hi (by omega)]
        have E1:=hide e1
        clear e1
        go_wp2_with fail
        go_meet
        exact ⟨by rw [E1.out],rfl⟩
      · have e1:(k:Int)=z1:=by rw [HK1.out]; unfold clm; omega
        have E1:=hide e1
        clear e1
        go_wp2_with fail
        go_meet
        exact ⟨by rw [E1.out],rfl⟩
    case rest =>
      obtain ⟨rfl,rfl⟩:=hcut
      clear hz0 HK1 z1
      go_wp2_with fail
      refine (rdone_any (n:=k) HI.out.rf hkL hL).mono ?_
      rintro e w3 ⟨g5,c5,cs5,rfl,hR,k3⟩
      have HS:=hide (HI.out.no k3)
      have HR5:=hide hR
      clear hR k3
      clear ax0 ax1 ax2 ax3 af0 af1 af2 af3 az0 az1 az2 az3 ag0 ag1 ag2 ag3
      unfold rfV
      have bx0:=HS.out.bx.c0
      have bx1:=HS.out.bx.c1
      have bx2:=HS.out.bx.c2
      have bx3:=HS.out.bx.c3
      have bf0:=HS.out.rz.fz 0
      have bf1:=HS.out.rz.fz 1
      have bf2:=HS.out.rz.fz 2
      have bf3:=HS.out.rz.fz 3
      have bz0:=HS.out.rz.c0
      have bz1:=HS.out.rz.c1
      have bz2:=HS.out.rz.c2
      have bz3:=HS.out.rz.c3
      have bg0:=HS.out.bx.fz 0
      have bg1:=HS.out.bx.fz 1
      have bg2:=HS.out.bx.fz 2
      have bg3:=HS.out.bx.fz 3
      go_upto_region 7 with (fail)
      have hb4:=HS.out.bx.set4 (D:=D) (vc:=.slice (some ⟨g5,0,none⟩) D.cells.length c5) (vl:=.slice A D.loose.length cl)
      have HS4:=hide (HS.out.upd HR5.out (kp_set4 w3 s (.int .i64 (D.size:Int)) (.slice (some ⟨g5,0,none⟩) D.cells.length c5) (.slice A D.loose.length cl) (.int .i64 (D.syncs:Int))) (hb4.eqD (E:=D.upto k) rfl rfl))
      clear bx0 bx1 bx2 bx3 bf0 bf1 bf2 bf3 bz0 bz1 bz2 bz3 bg0 bg1 bg2 bg3
      generalize ((((w3.setCell ⟨s,0,none⟩ (.int .i64 (D.size:Int))).setCell ⟨s,1,none⟩ (.slice (some ⟨g5,0,none⟩) D.cells.length c5)).setCell ⟨s,2,none⟩ (.slice A D.loose.length cl)).setCell ⟨s,3,none⟩ (.int .i64 (D.syncs:Int)))=w4 at hb4 HS4 ⊢
      clear HS HR5
      have dx0:w4.cell? ⟨s,0,none⟩=some (.int .i64 (D.size:Int)):=hb4.c0
      have dx1:=hb4.c1
      have dx2:=hb4.c2
      have dx3:w4.cell? ⟨s,3,none⟩=some (.int .i64 (D.syncs:Int)):=hb4.c3
      clear hb4
      by_cases hlt:k < D.loose.length
      · obtain ⟨gl,q,A',m',c',bs,rfl,hp,hls,y0,y1,hob,hqn0,hbl0⟩:=HS4.out.rf.lw rfl (j:=k) (by show k < D.loose.length; omega)
        have hkr:(D.loose.length:Int) - (k:Int)=(r:Int):=by have:=HR.out; omega
        have hr0:0 < r:=by have:=HR.out; omega
        go_upto_if 42 with (fail)
        have wb0:(w4.alloc (.cells #[.int .i64 (q:Int),.slice A' m' c'] 156)).cell? ⟨w4.heap.size,0,none⟩=some (.int .i64 (q:Int)):=cell_new _ _ _ rfl rfl
        have wb1:(w4.alloc (.cells #[.int .i64 (q:Int),.slice A' m' c'] 156)).cell? ⟨w4.heap.size,1,none⟩=some (.slice A' m' c'):=cell_new _ _ _ rfl rfl
        have hS5:=HS4.out.no (Kp.alloc No w4 (.cells #[.int .i64 (q:Int),.slice A' m' c'] 156))
        have hob5:=hob.no (Kp.alloc No w4 (.cells #[.int .i64 (q:Int),.slice A' m' c'] 156))
        have hsb:w4.heap.size < (w4.alloc (.cells #[.int .i64 (q:Int),.slice A' m' c'] 156)).heap.size:=by simp
        have HS5:=hide hS5
        have HOB:=hide hob5
        have HM':=hide hob.1.len
        have HHP:Hid (D.loose[k]?=some (q,bs)):=hp
        have HSB:=hide hsb
        have hcn:(D.upto k).cells.length=D.cells.length:=Dk.don_len _ _
        rw [hcn] at hqn0
        have hbl1:bs.length≤D.size:=hbl0
        clear hS5 hob5 hob hp hls y0 y1 dx0 dx1 dx2 dx3 HS4 hcn hsb hbl0
        generalize w4.alloc (.cells #[.int .i64 (q:Int),.slice A' m' c'] 156)=w5 at wb0 wb1 HS5 HOB HSB ⊢
        generalize w4.heap.size=sb at wb0 wb1 HSB ⊢
        go_cut [11] (fun v wx=>v=.int .i64 (if y < 0 then 0 else y)∧wx=w5)
        case first =>
          by_cases h0:y < 0
          · go_wp2_with fail
            go_meet
            exact ⟨by rw [if_pos h0],rfl⟩
          · go_wp2_with fail
            go_meet
            exact ⟨by rw [if_neg (by omega)],rfl⟩
        case rest =>
        obtain ⟨rfl,rfl⟩:=hcut
        obtain ⟨y1,hy1⟩:∃ y1,y1=(if y < 0 then 0 else y):=⟨_,rfl⟩
        obtain ⟨t,ht⟩:∃ t,t=clm y m':=⟨_,rfl⟩
        have htm:t≤m':=ht ▸ clm_le _ _
        rw [← hy1]
        have ht1:t=clm y1 m':=by
          rw [ht,hy1]
          unfold clm
          split <;> omega
        have hy0:0≤y1:=by rw [hy1]; split <;> omega
        have HT:=hide ht
        have HT1:=hide ht1
        clear hy1 ht1 ht
        go_upto_if 47 with (fail)
        go_cut [11] (fun v wx=>v=.int .i64 (t:Int)∧wx=wc)
        case first =>
          by_cases h1:(m':Int) < y1
          · have e1:t=m':=by rw [HT1.out,clm_hi (by omega)]
            have E1:=hide e1
            clear e1
            go_wp2_with fail
            go_meet
            exact ⟨by rw [E1.out],rfl⟩
          · have e1:(t:Int)=y1:=by rw [HT1.out]; unfold clm; omega
            have E1:=hide e1
            clear e1
            go_wp2_with fail
            go_meet
            exact ⟨by rw [E1.out],rfl⟩
        case rest =>
        obtain ⟨rfl,rfl⟩:=hcut
        clear hy0 HT1 y1
        have hmc':m'≤c':=HOB.out.3 _ _ _ rfl
        obtain ⟨su,bu,_⟩:=slice_u HOB.out.1 hmc' t (t:Int) rfl htm
        have hsl:=HS5.out.bx.lt
        have hsl1:=HS5.out.rz.lt
        have hsb:=HSB.out
        have BU:=hide bu
        clear bu
        go_upto_region 16 with (first
          | (at_builtin
             refine wpList_app rfl (.tmp 51) (.tmp 55) _ rfl i0 Tryz.underlying54 hi0 hz0 hz1 hz2 rfl (own_empty wc) rfl (BU.out.no (Kp.alloc No wc _)) (by have:=HM'.out; simp; omega) (by simp) ?_
             intro A6 n6 c6 w6 ha6
             have k6:Kp No wc w6:=ha6.keeps (own_empty wc) (Kp.alloc No wc _)))
        have HS6:=hide (HS5.out.no k6)
        have HA6:Hid (Own w6 wc.heap.size 5 (.slice A6 n6 c6) (bs.take t)):=by show Own _ _ _ _ _; simpa using ha6.own
        have HK6:=hide k6
        obtain ⟨A8,m8,c8,hcs8,xk8,hok8,hm8⟩:=HS6.out.rf.cell rfl (k:=q) (by show q < (D.upto k).cells.length; rw [show (D.upto k).cells.length=D.cells.length from Dk.don_len _ _]; exact hqn0)
        have x1:w6.cell? ⟨s,1,none⟩=some (.slice (some ⟨g5,0,none⟩) D.cells.length c5):=HS6.out.bx.c1
        have wv0:=k6.cell wb0 (fun f=>f)
        have wv1:=k6.cell wb1 (fun f=>f)
        have hm8c:m8≤c8:=hok8.3 _ _ _ rfl
        have hm8s:m8≤4096:=by have h1:=HS6.out.rf.ok.cell_le q; have:(D.upto k).size=D.size:=rfl; omega
        have HOK8:=hide hok8
        have HM8:=hide hm8
        have HD8:Hid ((D.upto k).cell q=(D.don k).getD q []):=rfl
        have HWB0:=hide wb0
        have HWB1:=hide wb1
        clear hok8 hm8 hcs8 ha6 k6 wb0 wb1 hsb
        have hc5:D.cells.length≤c5:=by have h1:=HS6.out.rf.oc.cap; have h2:=HS6.out.rf.ncs; rw [show (D.upto k).cells.length=D.cells.length from Dk.don_len _ _] at h2; omega
        go_upto_if 66 with (fail)
        go_cut [12] (fun v wx=>∃ A9 n9 c9,v=.slice A9 n9 c9∧Own wx wc.heap.size 5 (.slice A9 n9 c9) (tornB bs ((D.don k).getD q []) t)∧Kp No wc wx)
        case first =>
          by_cases hmt:t < m8
          · obtain ⟨r1,hr1⟩:∃ r1,r1=m8 - t:=⟨_,rfl⟩
            obtain ⟨r2,hr2⟩:∃ r2,r2=c8 - t:=⟨_,rfl⟩
            obtain ⟨Al,sl,bl,_⟩:=slice_l HOK8.out.1 hm8c t r1 r2 (t:Int) rfl (by omega) hr1 hr2
            have BL:=hide bl
            have HR1:=hide hr1
            clear bl hr1 hr2
            go_wp2_with (first
              | (at_builtin
                 refine wpList_app rfl (.tmp 67) (.tmp 70) _ rfl i0 Tryz.underlying54 hi0 hz0 hz1 hz2 rfl HA6.out rfl BL.out (by have h1:=HM8.out; have h2:=HM'.out; rw [List.length_take,List.length_drop]; omega) HK6.out.size ?_
                 intro A7 n7 c7 w7 ha7
                 have HA7:=hide ha7
                 clear ha7))
            go_meet
            refine ⟨A7,n7,c7,rfl,?_,HA7.out.keeps HA6.out HK6.out⟩
            have:=HA7.out.own
            rw [HD8.out] at this
            exact this
          · go_wp2_with fail
            go_meet
            refine ⟨A6,n6,c6,rfl,?_,HK6.out⟩
            have e:tornB bs ((D.don k).getD q []) t=bs.take t:=by
              unfold tornB
              rw [List.drop_eq_nil_of_le (by rw [← HD8.out,← HM8.out]; omega),List.append_nil]
            rw [e]
            exact HA6.out
        case rest =>
        obtain ⟨A9,n9,c9,rfl,ho9,k9⟩:=hcut
        have hv0:=k9.cell HWB0.out (fun f=>f)
        have hS9:=HS5.out.no k9
        have hx0:wc.cell? ⟨s,0,none⟩=some (.int .i64 (D.size:Int)):=hS9.bx.c0
        have hx1:wc.cell? ⟨s,1,none⟩=some (.slice (some ⟨g5,0,none⟩) D.cells.length c5):=hS9.bx.c1
        have hoc:=hS9.rf.oc
        rw [hS9.rf.ncs,show (D.upto k).cells.length=D.cells.length from Dk.don_len _ _] at hoc
        have hone:=hS9.rf.one
        have hts:(tornB bs ((D.don k).getD q []) t).length≤D.size:=tornB_len hbl1 (by have h1:=hS9.rf.ok.cell_le q; exact h1) (by have h1:=HM'.out; omega)
        have ET:Hid (D.torn k y=(D.don k).set q (tornB bs ((D.don k).getD q []) t)):=by
          show _=_
          unfold Dk.torn
          rw [HHP.out]
          show (D.don k).set q (tornB bs ((D.don k).getD q []) (clm y bs.length))=_
          rw [← HM'.out,← HT.out]
        have HB9:=hide ho9.bts
        have HS9:=hide hS9
        have HTS:=hide hts
        clear ho9 k9 hS9 x1 wv0 wv1 xk8
        go_wp2_with fail
        refine (rwith_any hoc hone hqn0 hn1 HB9.out (by have h1:=HTS.out; omega)).mono ?_
        rintro e wf ⟨gf,cf,vf,rfl,of,bf,kf⟩
        have hSf:=HS9.out.no kf
        have hRf:=(HS9.out.rf.setc kf (q:=q) (v:=vf) (by rw [show (D.upto k).cells.length=D.cells.length from Dk.don_len _ _]; exact of) bf HTS.out).noloose D.syncs
        have hS10:=hSf.upd hRf ((Kp.setCell (p:=⟨s,1,none⟩) (S:=fun k=>k=s) rfl (.slice (some ⟨gf,0,none⟩) D.cells.length cf)).trans' (Kp.setCell (p:=⟨s,2,none⟩) (S:=fun k=>k=s) rfl (.slice none 0 0))) (((hSf.bx.set1 (.slice (some ⟨gf,0,none⟩) D.cells.length cf)).set2 (.slice none 0 0)).eqD rfl rfl)
        have HS10:=hide hS10
        have ex0:wf.cell? ⟨s,0,none⟩=some (.int .i64 (D.size:Int)):=hSf.bx.c0
        have ex1:wf.cell? ⟨s,1,none⟩=some (.slice (some ⟨g5,0,none⟩) D.cells.length c5):=hSf.bx.c1
        have ex2:wf.cell? ⟨s,2,none⟩=some (.slice (some ⟨gl,0,none⟩) D.loose.length cl):=hSf.bx.c2
        have ex3:wf.cell? ⟨s,3,none⟩=some (.int .i64 (D.syncs:Int)):=hSf.bx.c3
        have ef0:=hSf.rz.fz 0
        have ef1:=hSf.rz.fz 1
        have ef2:=hSf.rz.fz 2
        have ef3:=hSf.rz.fz 3
        have ez0:=hSf.rz.c0
        have ez1:=hSf.rz.c1
        have ez2:=hSf.rz.c2
        have ez3:=hSf.rz.c3
        have eg1:=hSf.bx.fz 1
        have eg2:=hSf.bx.fz 2
        clear hoc hone hts hx0 hx1 hv0 of bf kf hRf hS10 hSf
        go_wp2_with fail
        clear ex0 ex1 ex2 ex3 ef0 ef1 ef2 ef3 ez0 ez1 ez2 ez3 eg1 eg2
        rw [ET.out]
        have hbx:BxD ((((((wf.setCell ⟨s,1,none⟩ (.slice (some ⟨gf,0,none⟩) D.cells.length cf)).setCell ⟨s,2,none⟩ (.slice none 0 0)).setCell ⟨s+1,0,none⟩ (.int .i64 (D.size:Int))).setCell ⟨s+1,1,none⟩ (.slice (some ⟨gf,0,none⟩) D.cells.length cf)).setCell ⟨s+1,2,none⟩ (.slice none 0 0)).setCell ⟨s+1,3,none⟩ (.int .i64 (D.syncs:Int))) (s+1) (Dk.mk D.size ((D.don k).set q (tornB bs ((D.don k).getD q []) t)) [] D.syncs) (.slice (some ⟨gf,0,none⟩) D.cells.length cf) (.slice none 0 0):=HS10.out.rz.set4 (D:=(Dk.mk D.size ((D.don k).set q (tornB bs ((D.don k).getD q []) t)) [] D.syncs)) (vc:=.slice (some ⟨gf,0,none⟩) D.cells.length cf) (vl:=.slice none 0 0)
        have HF:=hide (HS10.out.fin (kp_set4 ((wf.setCell ⟨s,1,none⟩ (.slice (some ⟨gf,0,none⟩) D.cells.length cf)).setCell ⟨s,2,none⟩ (.slice none 0 0)) (s+1) (.int .i64 (D.size:Int)) (.slice (some ⟨gf,0,none⟩) D.cells.length cf) (.slice none 0 0) (.int .i64 (D.syncs:Int))))
        have r0:=hbx.c0
        have r1:=hbx.c1
        have r2:=hbx.c2
        have r3:=hbx.c3
        clear hbx
        generalize ((((((wf.setCell ⟨s,1,none⟩ (.slice (some ⟨gf,0,none⟩) D.cells.length cf)).setCell ⟨s,2,none⟩ (.slice none 0 0)).setCell ⟨s+1,0,none⟩ (.int .i64 (D.size:Int))).setCell ⟨s+1,1,none⟩ (.slice (some ⟨gf,0,none⟩) D.cells.length cf)).setCell ⟨s+1,2,none⟩ (.slice none 0 0)).setCell ⟨s+1,3,none⟩ (.int .i64 (D.syncs:Int)))=w9 at HF r0 r1 r2 r3 ⊢
        refine bodyPost_ret (v:=tupE r (rfV (Dk.mk D.size ((D.don k).set q (tornB bs ((D.don k).getD q []) t)) [] D.syncs) (.slice (some ⟨gf,0,none⟩) D.cells.length cf) (.slice none 0 0))) (by simp [results,Tryz.results35,go_sem,rfV,tupE,r0,r1,r2,r3]) rfl ?_
        exact ⟨_,rfl,⟨_,_,_,_,rfl,HF.out.1⟩,HF.out.2⟩
      · have hr0:r=0:=by have:=HR.out; omega
        subst hr0
        have hkr:(D.loose.length:Int) - (k:Int)=0:=by omega
        have ET:Hid (D.torn k y=D.don k):=by
          show _=_
          unfold Dk.torn
          rw [List.getElem?_eq_none (by omega)]
        have df0:=HS4.out.rz.fz 0
        have df1:=HS4.out.rz.fz 1
        have df2:=HS4.out.rz.fz 2
        have df3:=HS4.out.rz.fz 3
        have dz0:=HS4.out.rz.c0
        have dz1:=HS4.out.rz.c1
        have dz2:=HS4.out.rz.c2
        have dz3:=HS4.out.rz.c3
        have dg2:=HS4.out.bx.fz 2
        go_wp2_with fail
        clear dx0 dx1 dx2 dx3 df0 df1 df2 df3 dz0 dz1 dz2 dz3 dg2 hkr
        rw [ET.out]
        have hR8:=HS4.out.rf.noloose D.syncs
        have hS8:=HS4.out.upd hR8 (Kp.setCell (p:=⟨s,2,none⟩) (S:=fun k=>k=s) rfl (.slice none 0 0)) ((HS4.out.bx.set2 (.slice none 0 0)).eqD rfl rfl)
        have hbx:BxD (((((w4.setCell ⟨s,2,none⟩ (.slice none 0 0)).setCell ⟨s+1,0,none⟩ (.int .i64 (D.size:Int))).setCell ⟨s+1,1,none⟩ (.slice (some ⟨g5,0,none⟩) D.cells.length c5)).setCell ⟨s+1,2,none⟩ (.slice none 0 0)).setCell ⟨s+1,3,none⟩ (.int .i64 (D.syncs:Int))) (s+1) (Dk.mk D.size (D.don k) [] D.syncs) (.slice (some ⟨g5,0,none⟩) D.cells.length c5) (.slice none 0 0):=hS8.rz.set4 (D:=(Dk.mk D.size (D.don k) [] D.syncs)) (vc:=.slice (some ⟨g5,0,none⟩) D.cells.length c5) (vl:=.slice none 0 0)
        have HF:=hide (hS8.fin (kp_set4 (w4.setCell ⟨s,2,none⟩ (.slice none 0 0)) (s+1) (.int .i64 (D.size:Int)) (.slice (some ⟨g5,0,none⟩) D.cells.length c5) (.slice none 0 0) (.int .i64 (D.syncs:Int))))
        have r0:=hbx.c0
        have r1:=hbx.c1
        have r2:=hbx.c2
        have r3:=hbx.c3
        clear hbx
        generalize (((((w4.setCell ⟨s,2,none⟩ (.slice none 0 0)).setCell ⟨s+1,0,none⟩ (.int .i64 (D.size:Int))).setCell ⟨s+1,1,none⟩ (.slice (some ⟨g5,0,none⟩) D.cells.length c5)).setCell ⟨s+1,2,none⟩ (.slice none 0 0)).setCell ⟨s+1,3,none⟩ (.int .i64 (D.syncs:Int)))=w9 at HF r0 r1 r2 r3 ⊢
        refine bodyPost_ret (v:=tupE 0 (rfV (Dk.mk D.size (D.don k) [] D.syncs) (.slice (some ⟨g5,0,none⟩) D.cells.length c5) (.slice none 0 0))) (by simp [results,Tryz.results35,go_sem,rfV,tupE,r0,r1,r2,r3]) rfl ?_
        exact ⟨_,rfl,⟨_,_,_,_,rfl,HF.out.1⟩,HF.out.2⟩
end Go.Proofs.YtnfcfdhlmeimhaaGreat
namespace Go.Proofs.YtnfcfdhlmeimhaaGreat
open Go.RowKit
set_option linter.unusedVariables false
set_option linter.unusedSimpArgs false
set_option maxRecDepth 20000
/-- The cells of what is known. -/
def knC (L:List (Nat × Nat)):List Value:=L.flatMap fun p=>[.int .i64 (p.1:Int),.int .u32 (cO p.2:Int),.int .u16 (cS p.2:Int),.int .u16 (cL p.2:Int),.int .u32 (cG p.2:Int)]
theorem knC_append (L M:List (Nat × Nat)):knC (L ++ M)=knC L ++ knC M:=by simp [knC]
theorem knC_one (L:List (Nat × Nat)):∀ u ∈ knC L,u.oneCell'=true:=fun u hu=>by
  obtain ⟨p,_,hp⟩:=List.mem_flatMap.1 hu
  simp at hp
  rcases hp with rfl | rfl | rfl | rfl | rfl <;> rfl
theorem knC_get:∀ {L:List (Nat × Nat)} {j:Nat} {p:Nat × Nat},L[j]?=some p→(knC L)[j * 5]?=some (.int .i64 (p.1:Int))∧(knC L)[j * 5+1]?=some (.int .u32 (cO p.2:Int))∧(knC L)[j * 5+2]?=some (.int .u16 (cS p.2:Int))∧(knC L)[j * 5+3]?=some (.int .u16 (cL p.2:Int))∧(knC L)[j * 5+4]?=some (.int .u32 (cG p.2:Int))
  | [],j,p,h=>by simp at h
  | x :: L,0,p,h=>by
    simp at h
    subst h
    exact ⟨rfl,rfl,rfl,rfl,rfl⟩
  | x :: L,j+1,p,h=>by
    rw [List.getElem?_cons_succ] at h
    have ih:=knC_get h
    have e:knC (x :: L)=[.int .i64 (x.1:Int),.int .u32 (cO x.2:Int),.int .u16 (cS x.2:Int),.int .u16 (cL x.2:Int),.int .u32 (cG x.2:Int)] ++ knC L:=rfl
    have key:∀ i,(knC (x :: L))[(j+1) * 5+i]?=(knC L)[j * 5+i]?:=fun i=>by
      rw [e,List.getElem?_append_right (by simp; omega)]
      congr 1
      simp
      omega
    exact ⟨(key 0).trans ih.1,(key 1).trans ih.2.1,(key 2).trans ih.2.2.1,(key 3).trans ih.2.2.2.1,(key 4).trans ih.2.2.2.2⟩
theorem ty_kn:Ty 149 (.agg #[.int .i64 0,.int .u32 0,.int .u16 0,.int .u16 0,.int .u32 0]) 5 24:=ty_of (by kernel_rfl) rfl (by omega) (by omega)
/-- The row v holds what is known, outside F. -/
structure KnR (w:World) (F:Nat→Prop) (v:Value) (L:List (Nat × Nat)):Prop where
  own:OwnT w 0 149 5 v L.length (knC L)
  far:∀ k,v.ownBlock=some k→¬ F k
section
variable {w w1:World} {F F1:Nat→Prop} {v:Value} {L:List (Nat × Nat)}
theorem KnR.no (h:KnR w F v L) (hk:Kp No w w1):KnR w1 F v L:=⟨h.own.no hk,h.far⟩
theorem KnR.step (h:KnR w F v L) (hk:Kp F w w1) (hF:∀ k,F1 k→Up F w k∧k < w1.heap.size):KnR w1 F1 v L :=
  ⟨h.own.keep hk fun k hk'=>h.far k hk',fun k hk' g=>by
    rcases (hF k g).1 with f | f
    · exact h.far k hk' f
    · have:=h.own.lt k hk'
      omega⟩
theorem KnR.less (h:KnR w F v L) (hF:∀ k,F1 k→F k):KnR w F1 v L:=⟨h.own,fun k hk g=>h.far k hk (hF k g)⟩
theorem KnR.form (h:KnR w F v L):∃ A c,v=.slice A L.length c∧L.length≤c:=by
  obtain ⟨A,c,e⟩:=h.own.form
  refine ⟨A,c,e,?_⟩
  rcases h.own.2 with ⟨e1,e2⟩ | ⟨g',cap,cur,e1,_,_,h1,_⟩
  · omega
  · rw [e] at e1
    injection e1 with _ _ e3
    omega
theorem KnR.cell {A:Option Addr} {n c j:Nat} {p:Nat × Nat} (h:KnR w F (.slice A n c) L) (hj:L[j]?=some p):∃ g,A=some ⟨g,0,none⟩∧w.cell? ⟨g,j * 5,none⟩=some (.int .i64 (p.1:Int))∧w.cell? ⟨g,j * 5+1,none⟩=some (.int .u32 (cO p.2:Int))∧w.cell? ⟨g,j * 5+2,none⟩=some (.int .u16 (cS p.2:Int))∧w.cell? ⟨g,j * 5+3,none⟩=some (.int .u16 (cL p.2:Int))∧w.cell? ⟨g,j * 5+4,none⟩=some (.int .u32 (cG p.2:Int)):=by
  obtain ⟨e0,e1,e2,e3,e4⟩:=knC_get hj
  obtain ⟨g,rfl,_,_,_,c0⟩:=h.own.cell e0
  exact ⟨g,rfl,c0,h.own.cellAt e1,h.own.cellAt e2,h.own.cellAt e3,h.own.cellAt e4⟩
end
/-- The document's vault V, in the value of its five fields; what it holds lies outside F. -/
structure RvR (w:World) (F:Nat→Prop) (V:Vt) (vc vl vk:Value) (cs:List (Value × List UInt8)) (ls:List (Nat × (Value × List UInt8))):Prop where
  rf:RfR w F V.D vc vl cs ls
  kn:KnR w F vk V.L
  ok:V.Ok
def rvV (D:Dk) (vc vl vk:Value):Value:=.agg #[.int .i64 (D.size:Int),vc,vl,.int .i64 (D.syncs:Int),vk]
def RvAt (w:World) (F:Nat→Prop) (V:Vt) (v:Value):Prop:=∃ vc vl vk cs ls,v=rvV V.D vc vl vk∧RvR w F V vc vl vk cs ls
section
variable {w w1:World} {F F1:Nat→Prop} {V:Vt} {v vc vl vk:Value} {cs:List (Value × List UInt8)} {ls:List (Nat × (Value × List UInt8))}
theorem RvR.no (h:RvR w F V vc vl vk cs ls) (hk:Kp No w w1):RvR w1 F V vc vl vk cs ls:=⟨h.rf.no hk,h.kn.no hk,h.ok⟩
theorem RvR.step (h:RvR w F V vc vl vk cs ls) (hk:Kp F w w1) (hF:∀ k,F1 k→Up F w k∧k < w1.heap.size):RvR w1 F1 V vc vl vk cs ls:=⟨h.rf.step hk hF,h.kn.step hk hF,h.ok⟩
theorem RvR.less (h:RvR w F V vc vl vk cs ls) (hF:∀ k,F1 k→F k):RvR w F1 V vc vl vk cs ls:=⟨h.rf.less hF,h.kn.less hF,h.ok⟩
theorem RvR.forms (h:RvR w F V vc vl vk cs ls):∃ gc cc A cl A2 ck,vc=.slice (some ⟨gc,0,none⟩) V.D.cells.length cc∧vl=.slice A V.D.loose.length cl∧vk=.slice A2 V.L.length ck:=by
  obtain ⟨gc,cc,e,_⟩:=h.rf.vc_
  obtain ⟨A,cl,e2,_⟩:=h.rf.vl_
  obtain ⟨A2,ck,e3,_⟩:=h.kn.form
  exact ⟨gc,cc,A,cl,A2,ck,e,e2,e3⟩
end
/-- A box of the document's vault. -/
def Bx5 (w:World) (s:Nat) (x0 x1 x2 x3 x4:Value):Prop:=w.heap[s]?=some (.cells #[x0,x1,x2,x3,x4] 42 (0,0))
section
variable {w w1:World} {s:Nat} {x0 x1 x2 x3 x4:Value}
theorem Bx5.cell (h:Bx5 w s x0 x1 x2 x3 x4):w.cell? ⟨s,0,none⟩=some x0∧w.cell? ⟨s,1,none⟩=some x1∧w.cell? ⟨s,2,none⟩=some x2∧w.cell? ⟨s,3,none⟩=some x3∧w.cell? ⟨s,4,none⟩=some x4:=by
  refine ⟨?_,?_,?_,?_,?_⟩ <;> (rw [cell_of_row w s _ _ _ _ h]; rfl)
theorem Bx5.frozen (h:Bx5 w s x0 x1 x2 x3 x4) (j:Nat):w.frozen? ⟨s,j,none⟩=false:=frozen_of_row w s j _ _ h
theorem Bx5.lt (h:Bx5 w s x0 x1 x2 x3 x4):s < w.heap.size:=(Array.getElem?_eq_some_iff.1 h).1
theorem Bx5.keep {S:Nat→Prop} (h:Bx5 w s x0 x1 x2 x3 x4) (hk:Kp S w w1) (hb:¬ S s):Bx5 w1 s x0 x1 x2 x3 x4:=(hk.block s h.lt hb).trans h
theorem Bx5.no (h:Bx5 w s x0 x1 x2 x3 x4) (hk:Kp No w w1):Bx5 w1 s x0 x1 x2 x3 x4:=h.keep hk fun f=>f
theorem Bx5.set0 (h:Bx5 w s x0 x1 x2 x3 x4) (u:Value):Bx5 (w.setCell ⟨s,0,none⟩ u) s u x1 x2 x3 x4:=heap_setCell_same w s 0 _ 42 u h
theorem Bx5.set1 (h:Bx5 w s x0 x1 x2 x3 x4) (u:Value):Bx5 (w.setCell ⟨s,1,none⟩ u) s x0 u x2 x3 x4:=heap_setCell_same w s 1 _ 42 u h
theorem Bx5.set2 (h:Bx5 w s x0 x1 x2 x3 x4) (u:Value):Bx5 (w.setCell ⟨s,2,none⟩ u) s x0 x1 u x3 x4:=heap_setCell_same w s 2 _ 42 u h
theorem Bx5.set3 (h:Bx5 w s x0 x1 x2 x3 x4) (u:Value):Bx5 (w.setCell ⟨s,3,none⟩ u) s x0 x1 x2 u x4:=heap_setCell_same w s 3 _ 42 u h
theorem Bx5.set4 (h:Bx5 w s x0 x1 x2 x3 x4) (u:Value):Bx5 (w.setCell ⟨s,4,none⟩ u) s x0 x1 x2 x3 u:=heap_setCell_same w s 4 _ 42 u h
theorem Bx5.all (h:Bx5 w s x0 x1 x2 x3 x4) (u0 u1 u2 u3 u4:Value):Bx5 (((((w.setCell ⟨s,0,none⟩ u0).setCell ⟨s,1,none⟩ u1).setCell ⟨s,2,none⟩ u2).setCell ⟨s,3,none⟩ u3).setCell ⟨s,4,none⟩ u4) s u0 u1 u2 u3 u4:=((((h.set0 u0).set1 u1).set2 u2).set3 u3).set4 u4
theorem Bx5.four (h:Bx5 w s x0 x1 x2 x3 x4) (u0 u1 u2 u3:Value):Bx5 ((((w.setCell ⟨s,0,none⟩ u0).setCell ⟨s,1,none⟩ u1).setCell ⟨s,2,none⟩ u2).setCell ⟨s,3,none⟩ u3) s u0 u1 u2 u3 x4:=(((h.set0 u0).set1 u1).set2 u2).set3 u3
theorem Bx5.new (w:World) (x0 x1 x2 x3 x4:Value):Bx5 (w.alloc (.cells #[x0,x1,x2,x3,x4] 42)) w.heap.size x0 x1 x2 x3 x4:=heap_alloc_new w _
theorem kp5 {S:Nat→Prop} (w:World) (b:Nat) (u0 u1 u2 u3 u4:Value) (hb:S b):Kp S w (((((w.setCell ⟨b,0,none⟩ u0).setCell ⟨b,1,none⟩ u1).setCell ⟨b,2,none⟩ u2).setCell ⟨b,3,none⟩ u3).setCell ⟨b,4,none⟩ u4) :=
  (kp4 w b u0 u1 u2 u3 hb).trans' (Kp.setCell (p:=⟨b,4,none⟩) hb u4)
end
def ixZ (L:List (Nat × Nat)) (s:Nat):Int:=if kn L s=true then (ixl L s:Int) else -1
theorem ixZ_yes {L:List (Nat × Nat)} {s:Nat} (h:kn L s=true):ixZ L s=(ixl L s:Int):=by unfold ixZ; rw [if_pos h]
theorem ixZ_no {L:List (Nat × Nat)} {s:Nat} (h:kn L s=false):ixZ L s=-1:=by unfold ixZ; rw [if_neg (by rw [h]; simp)]
theorem ixl_eq {L:List (Nat × Nat)} {k s:Nat} {p:Nat × Nat} (h:L[k]?=some p) (e:p.2=s) (hb:∀ (j:Nat) q,j < k→L[j]?=some q→q.2≠s):ixZ L s=(k:Int):=by
  have hk:kn L s=true:=kn_iff.2 ⟨p,List.mem_of_getElem? h,e⟩
  rw [ixZ_yes hk]
  have h1:¬ k < ixl L s:=fun hl=>ix_before hl h e
  have h2:¬ ixl L s < k:=fun hl=>hb _ _ hl (ix_get hk) rfl
  omega
theorem ixZ_end {L:List (Nat × Nat)} {s:Nat} (hb:∀ (j:Nat) q,j < L.length→L[j]?=some q→q.2≠s):ixZ L s=-1:=by
  refine ixZ_no ?_
  cases hk:kn L s
  · rfl
  · exact absurd rfl (hb _ _ (kn_ix.1 hk) (ix_get hk))
theorem if4 {β:Type} {s t:Nat} {r:Bool} (f:Bool→β) (hr:(s == t)=r):(if (cO s:Int)=(cO t:Int) then (if (cS s:Int)=(cS t:Int) then (if (cL s:Int)=(cL t:Int) then (if (cG s:Int)=(cG t:Int) then f true else f false) else f false) else f false) else f false)=f r:=by
  by_cases e:s=t
  · subst e
    have:r=true:=by rw [← hr]; simp
    subst this
    simp
  · have:r=false:=by rw [← hr]; simp [e]
    subst this
    split
    · split
      · split
        · split
          · exact absurd (c_inj (by omega) (by omega) (by omega) (by omega)) e
          · rfl
        · rfl
      · rfl
    · rfl
set_option maxHeartbeats 2000000 in
theorem rindex_any {w:World} {F:Nat→Prop} {v:Value} {x0 x1 x2 x3:Value} {L:List (Nat × Nat)} {s:Nat} (h:KnR w F v L) (hs:s < N96) (hL:∀ p ∈ L,p.2 < N96) (o0:x0.oneCell'=true) (o1:x1.oneCell'=true) (o2:x2.oneCell'=true) (o3:x3.oneCell'=true):Calls Tryz.prog 70 #[.agg #[x0,x1,x2,x3,v],shV s] w (CelPost w (ixZ L s)):=by
  obtain ⟨A,c,rfl,_⟩:=h.form
  have HS:=hide hs
  have HN:=hide hL
  have hv:=(Bx5.new w x0 x1 x2 x3 (.slice A L.length c)).keep (Kp.alloc No _ (.cells #[.int .u32 (cO s:Int),.int .u16 (cS s:Int),.int .u16 (cL s:Int),.int .u32 (cG s:Int)] 53)) fun f=>f
  have hb:=Box4.new2 w (.cells #[x0,x1,x2,x3,.slice A L.length c] 42) (.int .u32 (cO s:Int)) (.int .u16 (cS s:Int)) (.int .u16 (cL s:Int)) (.int .u32 (cG s:Int))
  have k0:Kp No w ((w.alloc (.cells #[x0,x1,x2,x3,.slice A L.length c] 42)).alloc (.cells #[.int .u32 (cO s:Int),.int .u16 (cS s:Int),.int .u16 (cL s:Int),.int .u32 (cG s:Int)] 53)):=(Kp.alloc No w _).al _
  have hr:=h.no k0
  have HV:=hide hv
  have HB:=hide hb
  have HR:=hide hr
  have HK:=hide k0
  obtain ⟨n,hn⟩:∃ n,n=L.length:=⟨_,rfl⟩
  rw [← hn] at HV HB HR HK ⊢
  have HNN:=hide hn
  have hmax:n≤maxLen:=by
    rcases h.own.2 with ⟨e1,e2⟩ | ⟨g',cap,cur,e1,_,_,h1,h2,_⟩
    · unfold maxLen; omega
    · omega
  unfold maxLen at hmax
  clear h hv hb hr k0 hn hL hs
  go_enter Tryz.func70,Tryz.ntmps70
  go_upto_region 1 with fail
  generalize ((w.alloc (.cells #[x0,x1,x2,x3,.slice A n c] 42)).alloc (.cells #[.int .u32 (cO s:Int),.int .u16 (cS s:Int),.int .u16 (cL s:Int),.int .u32 (cG s:Int)] 53))=w0 at HV HB HR HK ⊢
  generalize w.heap.size=s0 at HV HB ⊢
  go_wp2_with fail
  go_loopw [5] (fun iv wr=>∃ k:Nat,k≤n∧iv=.int .i64 (k:Int)∧Hid (∀ (j:Nat) q,j < k→L[j]?=some q→q.2≠s)∧Kp No w0 wr) (fun iv _=>n - (intOf iv).toNat)
  case atStart=>exact ⟨0,Nat.zero_le _,rfl,(fun j q hj=>by omega),Kp.refl _ _⟩
  case round =>
    obtain ⟨k,hk,rfl,HQ,hkr⟩:=hrel
    have hv2:=HV.out.no hkr
    obtain ⟨v0,v1,v2,v3,v4⟩:=hv2.cell
    have HKR:=hide hkr
    clear v0 v1 v2 v3 hv2
    by_cases hlt:k < n
    · have hlz:(k:Int) < n:=by omega
      obtain ⟨p,hp⟩:∃ p,L[k]?=some p:=⟨_,List.getElem?_eq_getElem (by have:=HNN.out; omega)⟩
      obtain ⟨gk,rfl,y0,y1,y2,y3,y4⟩:=(HR.out.no hkr).cell hp
      obtain ⟨b0,b1,b2,b3⟩:=(HB.out.keep hkr fun f=>f).cell
      have HP:=hide hp
      have hpN:=hide (HN.out p (List.mem_of_getElem? hp))
      obtain ⟨r,hr⟩:∃ r,(p.2 == s)=r:=⟨_,rfl⟩
      have HE:=hide hr
      clear hkr hp y0 hr
      go_wp2_with fail
      refine wp_region_noPanic ?_
      refine wp_region_held_drew (S:=fun w'=>w'.cell? ⟨s0,4,none⟩=some (.slice (some ⟨gk,0,none⟩) n c)∧w'.cell? ⟨gk,k * 5+1,none⟩=some (.int .u32 (cO p.2:Int))∧w'.cell? ⟨gk,k * 5+2,none⟩=some (.int .u16 (cS p.2:Int))∧w'.cell? ⟨gk,k * 5+3,none⟩=some (.int .u16 (cL p.2:Int))∧w'.cell? ⟨gk,k * 5+4,none⟩=some (.int .u32 (cG p.2:Int))∧w'.cell? ⟨s0+1,0,none⟩=some (.int .u32 (cO s:Int))∧w'.cell? ⟨s0+1,1,none⟩=some (.int .u16 (cS s:Int))∧w'.cell? ⟨s0+1,2,none⟩=some (.int .u16 (cL s:Int))∧w'.cell? ⟨s0+1,3,none⟩=some (.int .u32 (cG s:Int))) (by kernel_rfl) (⟨v4,y1,y2,y3,y4,b0,b1,b2,b3⟩) (fun hHeld=>?_)
      refine wpAnyH_take (i:=0) (v:=?vax1) (oi:=?oax1) ?hax1 (by kernel_rfl) (by kernel_rfl) (by kernel_rfl) (fun _ _ _ h=>h) (Or.inl ⟨?wax1,?yax1⟩) hHeld ?rax1
      case hax1=>simp only [gA0,gA1,gA2]; rfl
      case wax1=>rfl
      case yax1=>intro w hSw; (try dsimp only at hSw); go_simp; (try with_reducible rfl)
      simp only [Act.put,sA0,sA1,sA2]
      refine wpAnyH_take (i:=1) (v:=?vax2) (oi:=?oax2) ?hax2 (by kernel_rfl) (by kernel_rfl) (by kernel_rfl) (fun _ _ _ h=>h) (Or.inl ⟨?wax2,?yax2⟩) hHeld ?rax2
      case hax2=>simp only [gA0,gA1,gA2]; rfl
      case wax2=>rfl
      case yax2=>intro w hSw; (try dsimp only at hSw); go_simp; (try with_reducible rfl)
      simp only [Act.put,sA0,sA1,sA2]
      refine wpAnyH_take (i:=2) (v:=?vax3) (oi:=?oax3) ?hax3 (by kernel_rfl) (by kernel_rfl) (by kernel_rfl) (fun _ _ _ h=>h) (Or.inl ⟨?wax3,?yax3⟩) hHeld ?rax3
      case hax3=>simp only [gA0,gA1,gA2]; rfl
      case wax3=>rfl
      case yax3=>intro w hSw; (try dsimp only at hSw); go_simp; (try with_reducible rfl)
      simp only [Act.put,sA0,sA1,sA2]
      refine wpAnyH_take (i:=3) (v:=?vax4) (oi:=?oax4) ?hax4 (by kernel_rfl) (by kernel_rfl) (by kernel_rfl) (fun _ _ _ h=>h) (Or.inl ⟨?wax4,?yax4⟩) hHeld ?rax4
      case hax4=>simp only [gA0,gA1,gA2]; rfl
      case wax4=>rfl
      case yax4=>intro w hSw; (try dsimp only at hSw); go_simp; (try with_reducible rfl)
      simp only [Act.put,sA0,sA1,sA2]
      refine wpAnyH_take (i:=4) (v:=?vax5) (oi:=?oax5) ?hax5 (by kernel_rfl) (by kernel_rfl) (by kernel_rfl) (fun _ _ _ h=>h) (Or.inl ⟨?wax5,?yax5⟩) hHeld ?rax5
      case hax5=>simp only [gA0,gA1,gA2]; rfl
      case wax5=>rfl
      case yax5=>intro w hSw; (try dsimp only at hSw); go_simp; (try with_reducible rfl)
      simp only [Act.put,sA0,sA1,sA2]
      refine wpAnyH_take (i:=5) (v:=?vax6) (oi:=?oax6) ?hax6 (by kernel_rfl) (by kernel_rfl) (by kernel_rfl) (fun _ _ _ h=>h) (Or.inl ⟨?wax6,?yax6⟩) hHeld ?rax6
      case hax6=>simp only [gA0,gA1,gA2]; rfl
      case wax6=>rfl
      case yax6=>intro w hSw; (try dsimp only at hSw); go_simp; (try with_reducible rfl)
      simp only [Act.put,sA0,sA1,sA2]
      refine wpAnyH_take (i:=6) (v:=?vax7) (oi:=?oax7) ?hax7 (by kernel_rfl) (by kernel_rfl) (by kernel_rfl) (fun _ _ _ h=>h) (Or.inl ⟨?wax7,?yax7⟩) hHeld ?rax7
      case hax7=>simp only [gA0,gA1,gA2]; rfl
      case wax7=>rfl
      case yax7=>intro w hSw; (try dsimp only at hSw); go_simp; (try with_reducible rfl)
      simp only [Act.put,sA0,sA1,sA2]
      refine wpAnyH_take (i:=7) (v:=?vax8) (oi:=?oax8) ?hax8 (by kernel_rfl) (by kernel_rfl) (by kernel_rfl) (fun _ _ _ h=>h) (Or.inl ⟨?wax8,?yax8⟩) hHeld ?rax8
      case hax8=>simp only [gA0,gA1,gA2]; rfl
      case wax8=>rfl
      case yax8 =>
        intro w hSw
        (try dsimp only at hSw)
        go_simp
        exact if4 (fun q=>Result.ok (Next.value (Value.bool q)) w) HE.out
      simp only [Act.put,sA0,sA1,sA2]
      refine wpAnyH_done (by kernel_rfl) ?_ _
      refine NoPanic.normal ?_
      clear hHeld
      have HW:Hid (Kp No w0 wr.drew):=HKR.out.drew
      clear v4 y1 y2 y3 y4 b0 b1 b2 b3
      rcases r with _ | _
      · go_wp2_with fail
        go_round
        case rel=>exact ⟨k+1,by omega,by go_num,(fun j q hj hq=>by
          rcases Nat.lt_or_ge j k with g | g
          · exact HQ.out j q g hq
          · obtain rfl:j=k:=by omega
            rw [HP.out] at hq
            injection hq with hq
            subst hq
            have:=HE.out
            simpa using this),HW.out⟩
        case measure=>simp [intOf]; omega
      · go_wp2_with fail
        go_ret
        exact ⟨by rw [ixl_eq HP.out (by have:=HE.out; simpa using this) HQ.out]; rfl,HK.out.trans' HW.out⟩
    · obtain rfl:k=n:=by omega
      have hlz:¬ (k:Int) < k:=by omega
      clear hkr
      go_wp2_with fail
      go_ret
      exact ⟨by rw [ixZ_end (fun j q hj=>HQ.out j q (by have:=HNN.out; omega))]; rfl,HK.out.trans' HKR.out⟩
end Go.Proofs.YtnfcfdhlmeimhaaGreat
