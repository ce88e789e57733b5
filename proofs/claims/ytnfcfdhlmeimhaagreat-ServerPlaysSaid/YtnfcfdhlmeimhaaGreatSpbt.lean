/- Law 16's same, as a contract over memory: it says yes of a node and the document's of the same plain one (printed by tools/gen_ndt.py). -/
import Derived.Test.YtnfcfdhlmeimhaaGreatSpav
import Derived.Test.YtnfcfdhlmeimhaaGreatSpbk
import Derived.Test.YtnfcfdhlmeimhaaGreatSpbs
import Derived.Test.YtnfcfdhlmeimhaaGreatSpat
import Derived.Test.YtnfcfdhlmeimhaaGreatSpbe
namespace Go.Proofs.YtnfcfdhlmeimhaaGreat
open Go.RowKit
set_option linter.unusedVariables false
set_option linter.unusedSimpArgs false
set_option maxRecDepth 20000
set_option maxHeartbeats 8000000 in
theorem same16_any {w:World} {F F2:Nat→Prop} {B n k g gc gd gv b n' k':Nat} {x:Nat→UInt8} {rv v:Value} {N:Nd} (h:SvR w F B n k x g gc gd gv b rv N) (hr:RsAt w F2 n' k' N v) (h12:N.V.D.cells.length≤12):Calls Tryz.prog 24 #[.pointer (some ⟨g,0,none⟩),v] w (TruePost w):=by
 obtain ⟨gc0,cc,A1,cl,A2,ck,cs,ls,A,m,c,ps,e0,hq⟩:=hr.form
 subst e0
 clear hr
 have hv:=BxR.new w (.int .i64 (n':Int)) (.int .i64 (k':Int)) (.int .i64 (N.V.D.size:Int)) (.slice (some ⟨gc0,0,none⟩) N.V.D.cells.length cc) (.slice A1 N.V.D.loose.length cl) (.int .i64 (N.V.D.syncs:Int)) (.slice A2 N.V.L.length ck) (.slice A m c) (.int .u64 (N.done:Int))
 have k0:=Kp.alloc No w (.cells #[.int .i64 (n':Int),.int .i64 (k':Int),.int .i64 (N.V.D.size:Int),.slice (some ⟨gc0,0,none⟩) N.V.D.cells.length cc,.slice A1 N.V.D.loose.length cl,.int .i64 (N.V.D.syncs:Int),.slice A2 N.V.L.length ck,.slice A m c,.int .u64 (N.done:Int)] 46)
 have HV:=hide (h.no k0)
 have HR:=hide (hq.no k0).rv
 have HBX:=hide hv
 have HK0:=hide k0
 have hLn:N.V.L.length≤12:=Nat.le_trans h.vt.ok.kn.len h12
 have hll:N.V.lst.length=N.V.L.length:=lst_len _ _
 have HLL:=hide hll
 clear h hq hv k0 hll
 unfold rsV
 go_enter Tryz.func24,Tryz.ntmps24
 go_upto_region 1 with fail
 generalize w.alloc (.cells #[.int .i64 (n':Int),.int .i64 (k':Int),.int .i64 (N.V.D.size:Int),.slice (some ⟨gc0,0,none⟩) N.V.D.cells.length cc,.slice A1 N.V.D.loose.length cl,.int .i64 (N.V.D.syncs:Int),.slice A2 N.V.L.length ck,.slice A m c,.int .u64 (N.done:Int)] 46)=w0 at HV HR HBX HK0 ⊢
 generalize w.heap.size=s0 at HBX ⊢
 have HVL:Hid (∀ w',Kp No w0 w'→Calls Tryz.prog 26 #[.pointer (some ⟨gv,0,none⟩)] w' (RlPost w' N.V.lst)):=fun w' hk=>vlist_any (HV.out.no hk).vt h12
 have HRL:Hid (∀ w',Kp No w0 w'→Calls Tryz.prog 50 #[.agg #[.int .i64 (N.V.D.size:Int),.slice (some ⟨gc0,0,none⟩) N.V.D.cells.length cc,.slice A1 N.V.D.loose.length cl,.int .i64 (N.V.D.syncs:Int),.slice A2 N.V.L.length ck]] w' (RlPost w' N.V.lst)):=fun w' hk=>rlist12_any ⟨_,_,_,_,_,rfl,HR.out.no hk⟩
 have hS:∀ w',Kp No w0 w'→Kp No w0 w'∧w'.cell? ⟨s0,2,none⟩=some (.int .i64 (N.V.D.size:Int))∧w'.cell? ⟨s0,3,none⟩=some (.slice (some ⟨gc0,0,none⟩) N.V.D.cells.length cc)∧w'.cell? ⟨s0,4,none⟩=some (.slice A1 N.V.D.loose.length cl)∧w'.cell? ⟨s0,5,none⟩=some (.int .i64 (N.V.D.syncs:Int))∧w'.cell? ⟨s0,6,none⟩=some (.slice A2 N.V.L.length ck):=fun w' hk=>by
  obtain ⟨_,_,z0,z1,z2,z3,z4,_,_⟩:=(HBX.out.no hk).cell
  exact ⟨hk,z0,z1,z2,z3,z4⟩
 have HSV:=hide (svault_any HV.out.blk)
 go_wp2_with fail
 refine HSV.out.mono ?_
 rintro e w' ⟨rfl,rfl⟩
 clear HSV
 go_wp2_with fail
 refine wp_region_noPanic ?_
 refine wp_region_held_drew (S:=fun w'=>Kp No w0 w'∧w'.cell? ⟨s0,2,none⟩=some (.int .i64 (N.V.D.size:Int))∧w'.cell? ⟨s0,3,none⟩=some (.slice (some ⟨gc0,0,none⟩) N.V.D.cells.length cc)∧w'.cell? ⟨s0,4,none⟩=some (.slice A1 N.V.D.loose.length cl)∧w'.cell? ⟨s0,5,none⟩=some (.int .i64 (N.V.D.syncs:Int))∧w'.cell? ⟨s0,6,none⟩=some (.slice A2 N.V.L.length ck)) (by kernel_rfl) (hS _ (Kp.refl No w0).drew) (fun hHeld=>?_)
 refine wpAnyH_take (i:=0) (v:=?vax1) (oi:=?oax1) ?hax1 (by kernel_rfl) (by kernel_rfl) (by kernel_rfl) (fun _ _ _ h=>h) (Or.inl ⟨?wax1,?yax1⟩) hHeld ?rax1
 case hax1=>simp only [gA0,gA1,gA2]; rfl
 case wax1=>rfl
 case yax1=>intro w hSw; (try dsimp only at hSw); go_simp; (try with_reducible rfl)
 simp only [Act.put,sA0,sA1,sA2]
 refine wpAnyH_take (i:=2) (v:=?vax2) (oi:=?oax2) ?hax2 (by kernel_rfl) (by kernel_rfl) (by kernel_rfl) (fun _ _ _ h=>h) (Or.inl ⟨?wax2,?yax2⟩) hHeld ?rax2
 case hax2=>simp only [gA0,gA1,gA2]; rfl
 case wax2=>rfl
 case yax2=>intro w hSw; (try dsimp only at hSw); go_simp; (try with_reducible rfl)
 simp only [Act.put,sA0,sA1,sA2]
 refine wpAnyH_take (i:=3) (v:=?vax3) (oi:=?oax3) ?hax3 (by kernel_rfl) (by kernel_rfl) (by kernel_rfl) (fun _ _ _ h=>h) (Or.inl ⟨?wax3,?yax3⟩) hHeld ?rax3
 case hax3=>simp only [gA0,gA1,gA2]; rfl
 case wax3=>rfl
 case yax3=>intro w hSw; (try dsimp only at hSw); go_simp; (try with_reducible rfl)
 simp only [Act.put,sA0,sA1,sA2]
 refine wpAnyH_ready (rs:=[1]) (by kernel_rfl) (by simp) ?_
 refine AllReadyH.cons (o:=?oax4) ?hax4 (fun K hK=>?sax4) AllReadyH.nil
 case hax4=>simp only [gA0,gA1,gA2]; rfl
 go_simp
 refine (HVL.out _ hHeld.1).mono ?_
 rintro e w2 ⟨A3,n3,c3,rfl,ho2,hl2,k2⟩
 have HL2:=hide hl2
 clear hl2
 have h2:=hS _ (hHeld.1.trans' k2)
 go_wp2_with fail
 refine hK.out _ _ (h2) (fun hHeld=>?_)
 clear hK K
 try simp only [Act.put,sA0,sA1,sA2]
 refine wpAnyH_ready (rs:=[4]) (by kernel_rfl) (by simp) ?_
 refine AllReadyH.cons (o:=?oax5) ?hax5 (fun K hK=>?sax5) AllReadyH.nil
 case hax5=>simp only [gA0,gA1,gA2]; rfl
 go_simp
 refine (HRL.out _ hHeld.1).mono ?_
 rintro e w3 ⟨A4,n4,c4,rfl,ho3,hl3,k3⟩
 have HL3:=hide hl3
 clear hl3
 have h3:=hS _ (hHeld.1.trans' k3)
 go_wp2_with fail
 refine hK.out _ _ (h3) (fun hHeld=>?_)
 clear hK K
 try simp only [Act.put,sA0,sA1,sA2]
 refine wpAnyH_ready (rs:=[5]) (by kernel_rfl) (by simp) ?_
 refine AllReadyH.cons (o:=?oax6) ?hax6 (fun K hK=>?sax6) AllReadyH.nil
 case hax6=>simp only [gA0,gA1,gA2]; rfl
 go_simp
 refine hK.out _ _ (hHeld) (fun hHeld=>?_)
 clear hK K
 try simp only [Act.put,sA0,sA1,sA2]
 refine wpAnyH_ready (rs:=[6]) (by kernel_rfl) (by simp) ?_
 refine AllReadyH.cons (o:=?oax7) ?hax7 (fun K hK=>?sax7) AllReadyH.nil
 case hax7=>simp only [gA0,gA1,gA2]; rfl
 go_simp
 refine hK.out _ _ (hHeld) (fun hHeld=>?_)
 clear hK K
 try simp only [Act.put,sA0,sA1,sA2]
 refine wpAnyH_done (by kernel_rfl) ?_ _
 refine NoPanic.normal ?_
 have HK3:=hide hHeld.1
 have HO2:=hide (ho2.no k3)
 have HO3:=hide ho3
 clear hHeld h2 h3 ho2 ho3 k2 k3 hS
 have hn3:n3=N.V.L.length:=by rw [HL2.out,HLL.out]
 have hn4:n4=n3:=by rw [hn3,HL3.out,HLL.out]
 subst hn4
 have HNN:=hide hn3
 have hLn2:n4≤12:=by rw [hn3]; exact hLn
 clear HL2 HL3 hLn hn3
 have HDN:Hid (∀ w',Kp No w3 w'→Calls Tryz.prog 27 #[.pointer (some ⟨g,0,none⟩)] w' fun e w1=>e=.returned (.int .u64 (N.done:Int))∧Kp No w' w1):=fun w' hk=>(sdone_any (HV.out.no (HK3.out.trans' hk)).blk).mono fun e w1 p=>⟨p.1,by rw [← p.2]; exact Kp.refl _ _⟩
 have hS3:∀ w',Kp No w3 w'→Kp No w3 w'∧w'.cell? ⟨s0,8,none⟩=some (.int .u64 (N.done:Int)):=fun w' hk=>by
  obtain ⟨_,_,_,_,_,_,_,_,z8⟩:=(HBX.out.no (HK3.out.trans' hk)).cell
  exact ⟨hk,z8⟩
 go_wp2_with fail
 refine wp_region_noPanic ?_
 refine wp_region_held_drew (S:=fun w'=>Kp No w3 w'∧w'.cell? ⟨s0,8,none⟩=some (.int .u64 (N.done:Int))) (by kernel_rfl) (hS3 _ (Kp.refl No w3).drew) (fun hHeld=>?_)
 refine wpAnyH_take (i:=0) (v:=?vex1) (oi:=?oex1) ?hex1 (by kernel_rfl) (by kernel_rfl) (by kernel_rfl) (fun _ _ _ h=>h) (Or.inl ⟨?wex1,?yex1⟩) hHeld ?rex1
 case hex1=>simp only [gA0,gA1,gA2]; rfl
 case wex1=>rfl
 case yex1=>intro w hSw; (try dsimp only at hSw); go_simp; (try with_reducible rfl)
 simp only [Act.put,sA0,sA1,sA2]
 refine wpAnyH_take (i:=1) (v:=?vex2) (oi:=?oex2) ?hex2 (by kernel_rfl) (by kernel_rfl) (by kernel_rfl) (fun _ _ _ h=>h) (Or.inl ⟨?wex2,?yex2⟩) hHeld ?rex2
 case hex2=>simp only [gA0,gA1,gA2]; rfl
 case wex2=>rfl
 case yex2=>intro w hSw; (try dsimp only at hSw); go_simp; (try with_reducible rfl)
 simp only [Act.put,sA0,sA1,sA2]
 refine wpAnyH_take (i:=2) (v:=?vex3) (oi:=?oex3) ?hex3 (by kernel_rfl) (by kernel_rfl) (by kernel_rfl) (fun _ _ _ h=>h) (Or.inl ⟨?wex3,?yex3⟩) hHeld ?rex3
 case hex3=>simp only [gA0,gA1,gA2]; rfl
 case wex3=>rfl
 case yex3=>intro w hSw; (try dsimp only at hSw); go_simp; (try with_reducible rfl)
 simp only [Act.put,sA0,sA1,sA2]
 refine wpAnyH_take (i:=3) (v:=?vex4) (oi:=?oex4) ?hex4 (by kernel_rfl) (by kernel_rfl) (by kernel_rfl) (fun _ _ _ h=>h) (Or.inl ⟨?wex4,?yex4⟩) hHeld ?rex4
 case hex4=>simp only [gA0,gA1,gA2]; rfl
 case wex4=>rfl
 case yex4=>intro w hSw; (try dsimp only at hSw); go_simp; (try with_reducible rfl)
 simp only [Act.put,sA0,sA1,sA2]
 refine wpAnyH_take (i:=4) (v:=?vex5) (oi:=?oex5) ?hex5 (by kernel_rfl) (by kernel_rfl) (by kernel_rfl) (fun _ _ _ h=>h) (Or.inl ⟨?wex5,?yex5⟩) hHeld ?rex5
 case hex5=>simp only [gA0,gA1,gA2]; rfl
 case wex5=>rfl
 case yex5=>intro w hSw; (try dsimp only at hSw); go_simp; (try with_reducible rfl)
 simp only [Act.put,sA0,sA1,sA2]
 refine wpAnyH_take (i:=5) (v:=?vex6) (oi:=?oex6) ?hex6 (by kernel_rfl) (by kernel_rfl) (by kernel_rfl) (fun _ _ _ h=>h) (Or.inl ⟨?wex6,?yex6⟩) hHeld ?rex6
 case hex6=>simp only [gA0,gA1,gA2]; rfl
 case wex6=>rfl
 case yex6=>intro w hSw; (try dsimp only at hSw); go_simp; (try with_reducible rfl)
 simp only [Act.put,sA0,sA1,sA2]
 refine wpAnyH_take (i:=6) (v:=?vex7) (oi:=?oex7) ?hex7 (by kernel_rfl) (by kernel_rfl) (by kernel_rfl) (fun _ _ _ h=>h) (Or.inl ⟨?wex7,?yex7⟩) hHeld ?rex7
 case hex7=>simp only [gA0,gA1,gA2]; rfl
 case wex7=>rfl
 case yex7=>intro w hSw; (try dsimp only at hSw); go_simp; (try with_reducible rfl)
 simp only [Act.put,sA0,sA1,sA2]
 refine wpAnyH_take (i:=8) (v:=?vex8) (oi:=?oex8) ?hex8 (by kernel_rfl) (by kernel_rfl) (by kernel_rfl) (fun _ _ _ h=>h) (Or.inl ⟨?wex8,?yex8⟩) hHeld ?rex8
 case hex8=>simp only [gA0,gA1,gA2]; rfl
 case wex8=>rfl
 case yex8=>intro w hSw; (try dsimp only at hSw); go_simp; (try with_reducible rfl)
 simp only [Act.put,sA0,sA1,sA2]
 refine wpAnyH_take (i:=9) (v:=?vex9) (oi:=?oex9) ?hex9 (by kernel_rfl) (by kernel_rfl) (by kernel_rfl) (fun _ _ _ h=>h) (Or.inl ⟨?wex9,?yex9⟩) hHeld ?rex9
 case hex9=>simp only [gA0,gA1,gA2]; rfl
 case wex9=>rfl
 case yex9=>intro w hSw; (try dsimp only at hSw); go_simp; (try with_reducible rfl)
 simp only [Act.put,sA0,sA1,sA2]
 refine wpAnyH_ready (rs:=[7]) (by kernel_rfl) (by simp) ?_
 refine AllReadyH.cons (o:=?oex10) ?hex10 (fun K hK=>?sex10) AllReadyH.nil
 case hex10=>simp only [gA0,gA1,gA2]; rfl
 go_simp
 refine (HDN.out _ hHeld.1).mono ?_
 rintro e w4 ⟨rfl,k4⟩
 have h4:=hS3 _ (hHeld.1.trans' k4)
 go_wp2_with fail
 refine hK.out _ _ (h4) (fun hHeld=>?_)
 clear hK K
 try simp only [Act.put,sA0,sA1,sA2]
 refine wpAnyH_take (i:=10) (v:=?vex11) (oi:=?oex11) ?hex11 (by kernel_rfl) (by kernel_rfl) (by kernel_rfl) (fun _ _ _ h=>h) (Or.inl ⟨?wex11,?yex11⟩) hHeld ?rex11
 case hex11=>simp only [gA0,gA1,gA2]; rfl
 case wex11=>rfl
 case yex11=>intro w hSw; (try dsimp only at hSw); go_simp; (try with_reducible rfl)
 simp only [Act.put,sA0,sA1,sA2]
 refine wpAnyH_take (i:=11) (v:=?vex12) (oi:=?oex12) ?hex12 (by kernel_rfl) (by kernel_rfl) (by kernel_rfl) (fun _ _ _ h=>h) (Or.inl ⟨?wex12,?yex12⟩) hHeld ?rex12
 case hex12=>simp only [gA0,gA1,gA2]; rfl
 case wex12=>rfl
 case yex12=>intro w hSw; (try dsimp only at hSw); go_simp; (try with_reducible rfl)
 simp only [Act.put,sA0,sA1,sA2]
 refine wpAnyH_done (by kernel_rfl) ?_ _
 refine NoPanic.normal ?_
 have HK4:=hide hHeld.1
 clear hHeld h4 k4 hS3
 go_wp2_with fail
 go_loopw [8] (fun iv wr=>∃ i:Nat,i≤n4∧iv=.int .i64 (i:Int)∧Kp No w3 wr) (fun iv _=>n4 - (intOf iv).toNat)
 case atStart=>exact ⟨0,Nat.zero_le _,rfl,HK4.out⟩
 case round =>
  obtain ⟨i,hi,rfl,hkr⟩:=hrel
  have HKR:=hide hkr
  clear hkr HK4
  by_cases hlt:i < n4
  ·have hlz:(i:Int) < n4:=by omega
   obtain ⟨t,ht⟩:∃ t,N.V.lst[i]?=some t:=⟨_,List.getElem?_eq_getElem (by have:=HLL.out; have:=HNN.out; omega)⟩
   have hkn:kn N.V.L t=true:=(Vt.lst_mem t).1 (List.mem_of_getElem? ht)
   have hol:=HO2.out.no HKR.out
   have how:=HO3.out.no HKR.out
   have hlN:N.V.lst.length=n4:=by rw [HLL.out,HNN.out]
   rw [← hlN] at hol how
   obtain ⟨gl,rfl,_,l0,l1,l2,l3⟩:=nm_cell hol ht
   obtain ⟨gw,rfl,_,m0,m1,m2,m3⟩:=nm_cell how ht
   have htN:t < N96:=by
    obtain ⟨p,hp,e⟩:=kn_iff.1 hkn
    rw [← e]
    exact HV.out.vt.ok.kn.nm p hp
   have hKB:Kp No w0 wr:=HK3.out.trans' HKR.out
   have HKB:=hide hKB
   have hget:=vget_any (HV.out.no hKB).vt htN
   obtain ⟨bt,hbt⟩:∃ bt,bt=N.V.gtB t:=⟨_,rfl⟩
   obtain ⟨er,her⟩:∃ er,er=N.V.gtE t:=⟨_,rfl⟩
   obtain ⟨tb,htb⟩:∃ tb,tb=strOf bt:=⟨_,rfl⟩
   rw [← hbt,← her] at hget
   have HTB:=hide htb
   have HGET:=hide hget
   have HTN:=hide htN
   have HRG0:Hid (∀ w',Kp No wr w'→Calls Tryz.prog 52 #[.agg #[.int .i64 (N.V.D.size:Int),.slice (some ⟨gc0,0,none⟩) N.V.D.cells.length cc,.slice A1 N.V.D.loose.length cl,.int .i64 (N.V.D.syncs:Int),.slice A2 N.V.L.length ck],shV t] w' (RgPost w' er bt)):=fun w' hk=>by
    rw [her,hbt]
    exact rget12_any ⟨_,_,_,_,_,rfl,(HR.out.no HKB.out).no hk⟩ HTN.out
   have HNM:Hid (∀ w',Kp No wr w'→w'.cell? ⟨gw,i * 4,none⟩=some (.int .u32 (cO t:Int))∧w'.cell? ⟨gw,i * 4+1,none⟩=some (.int .u16 (cS t:Int))∧w'.cell? ⟨gw,i * 4+2,none⟩=some (.int .u16 (cL t:Int))∧w'.cell? ⟨gw,i * 4+3,none⟩=some (.int .u32 (cG t:Int))∧w'.cell? ⟨gl,i * 4,none⟩=some (.int .u32 (cO t:Int))∧w'.cell? ⟨gl,i * 4+1,none⟩=some (.int .u16 (cS t:Int))∧w'.cell? ⟨gl,i * 4+2,none⟩=some (.int .u16 (cL t:Int))∧w'.cell? ⟨gl,i * 4+3,none⟩=some (.int .u32 (cG t:Int))):=fun w' hk=>⟨kp_cell m0 hk,kp_cell m1 hk,kp_cell m2 hk,kp_cell m3 hk,kp_cell l0 hk,kp_cell l1 hk,kp_cell l2 hk,kp_cell l3 hk⟩
   unfold shV at HGET HRG0
   clear ht hkn hol how hlN l0 l1 l2 l3 hKB hget hbt her htb htN
   go_wp2_with fail
   refine HGET.out.mono ?_
   rintro e w5 ⟨A5,n5,c5,rfl,ho5,hk5⟩
   have HB5:=hide ho5.bts
   have HK5:=hide hk5
   have HRG:Hid (∀ w',Kp No w5 w'→Calls Tryz.prog 52 #[.agg #[.int .i64 (N.V.D.size:Int),.slice (some ⟨gc0,0,none⟩) N.V.D.cells.length cc,.slice A1 N.V.D.loose.length cl,.int .i64 (N.V.D.syncs:Int),.slice A2 N.V.L.length ck],.agg #[.int .u32 (cO t:Int),.int .u16 (cS t:Int),.int .u16 (cL t:Int),.int .u32 (cG t:Int)]] w' (RgPost w' er bt)):=fun w' hk=>HRG0.out w' (HK5.out.trans' hk)
   have hS9:∀ w',Kp No w5 w'→Kp No w5 w'∧w'.cell? ⟨s0,2,none⟩=some (.int .i64 (N.V.D.size:Int))∧w'.cell? ⟨s0,3,none⟩=some (.slice (some ⟨gc0,0,none⟩) N.V.D.cells.length cc)∧w'.cell? ⟨s0,4,none⟩=some (.slice A1 N.V.D.loose.length cl)∧w'.cell? ⟨s0,5,none⟩=some (.int .i64 (N.V.D.syncs:Int))∧w'.cell? ⟨s0,6,none⟩=some (.slice A2 N.V.L.length ck)∧w'.cell? ⟨gw,i * 4,none⟩=some (.int .u32 (cO t:Int))∧w'.cell? ⟨gw,i * 4+1,none⟩=some (.int .u16 (cS t:Int))∧w'.cell? ⟨gw,i * 4+2,none⟩=some (.int .u16 (cL t:Int))∧w'.cell? ⟨gw,i * 4+3,none⟩=some (.int .u32 (cG t:Int)):=fun w' hk=>by
    obtain ⟨_,_,z0,z1,z2,z3,z4,_,_⟩:=(HBX.out.no ((HKB.out.trans' HK5.out).trans' hk)).cell
    obtain ⟨y0,y1,y2,y3,_⟩:=HNM.out w' (HK5.out.trans' hk)
    exact ⟨hk,z0,z1,z2,z3,z4,y0,y1,y2,y3⟩
   clear m0 m1 m2 m3 ho5 hk5
   go_wp2_with fail
   refine wp_region_noPanic ?_
   refine wp_region_held_drew (S:=fun w'=>Kp No w5 w'∧w'.cell? ⟨s0,2,none⟩=some (.int .i64 (N.V.D.size:Int))∧w'.cell? ⟨s0,3,none⟩=some (.slice (some ⟨gc0,0,none⟩) N.V.D.cells.length cc)∧w'.cell? ⟨s0,4,none⟩=some (.slice A1 N.V.D.loose.length cl)∧w'.cell? ⟨s0,5,none⟩=some (.int .i64 (N.V.D.syncs:Int))∧w'.cell? ⟨s0,6,none⟩=some (.slice A2 N.V.L.length ck)∧w'.cell? ⟨gw,i * 4,none⟩=some (.int .u32 (cO t:Int))∧w'.cell? ⟨gw,i * 4+1,none⟩=some (.int .u16 (cS t:Int))∧w'.cell? ⟨gw,i * 4+2,none⟩=some (.int .u16 (cL t:Int))∧w'.cell? ⟨gw,i * 4+3,none⟩=some (.int .u32 (cG t:Int))) (by kernel_rfl) (hS9 _ (Kp.refl No w5).drew) (fun hHeld=>?_)
   refine wpAnyH_take (i:=0) (v:=?vbx1) (oi:=?obx1) ?hbx1 (by kernel_rfl) (by kernel_rfl) (by kernel_rfl) (fun _ _ _ h=>h) (Or.inl ⟨?wbx1,?ybx1⟩) hHeld ?rbx1
   case hbx1=>simp only [gA0,gA1,gA2]; rfl
   case wbx1=>rfl
   case ybx1=>intro w hSw; (try dsimp only at hSw); go_simp; (try with_reducible rfl)
   simp only [Act.put,sA0,sA1,sA2]
   refine wpAnyH_take (i:=1) (v:=?vbx2) (oi:=?obx2) ?hbx2 (by kernel_rfl) (by kernel_rfl) (by kernel_rfl) (fun _ _ _ h=>h) (Or.inl ⟨?wbx2,?ybx2⟩) hHeld ?rbx2
   case hbx2=>simp only [gA0,gA1,gA2]; rfl
   case wbx2=>rfl
   case ybx2=>intro w hSw; (try dsimp only at hSw); go_simp; (try with_reducible rfl)
   simp only [Act.put,sA0,sA1,sA2]
   refine wpAnyH_take (i:=2) (v:=?vbx3) (oi:=?obx3) ?hbx3 (by kernel_rfl) (by kernel_rfl) (by kernel_rfl) (fun _ _ _ h=>h) (Or.inl ⟨?wbx3,?ybx3⟩) hHeld ?rbx3
   case hbx3=>simp only [gA0,gA1,gA2]; rfl
   case wbx3=>rfl
   case ybx3=>intro w hSw; (try dsimp only at hSw); go_simp; (try with_reducible rfl)
   simp only [Act.put,sA0,sA1,sA2]
   refine wpAnyH_take (i:=3) (v:=?vbx4) (oi:=?obx4) ?hbx4 (by kernel_rfl) (by kernel_rfl) (by kernel_rfl) (fun _ _ _ h=>h) (Or.inl ⟨?wbx4,?ybx4⟩) hHeld ?rbx4
   case hbx4=>simp only [gA0,gA1,gA2]; rfl
   case wbx4=>rfl
   case ybx4=>intro w hSw; (try dsimp only at hSw); go_simp; (try with_reducible rfl)
   simp only [Act.put,sA0,sA1,sA2]
   refine wpAnyH_take (i:=4) (v:=?vbx5) (oi:=?obx5) ?hbx5 (by kernel_rfl) (by kernel_rfl) (by kernel_rfl) (fun _ _ _ h=>h) (Or.inl ⟨?wbx5,?ybx5⟩) hHeld ?rbx5
   case hbx5=>simp only [gA0,gA1,gA2]; rfl
   case wbx5=>rfl
   case ybx5=>intro w hSw; (try dsimp only at hSw); go_simp; (try with_reducible rfl)
   simp only [Act.put,sA0,sA1,sA2]
   refine wpAnyH_take (i:=5) (v:=?vbx6) (oi:=?obx6) ?hbx6 (by kernel_rfl) (by kernel_rfl) (by kernel_rfl) (fun _ _ _ h=>h) (Or.inl ⟨?wbx6,?ybx6⟩) hHeld ?rbx6
   case hbx6=>simp only [gA0,gA1,gA2]; rfl
   case wbx6=>rfl
   case ybx6=>intro w hSw; (try dsimp only at hSw); go_simp; (try with_reducible rfl)
   simp only [Act.put,sA0,sA1,sA2]
   refine wpAnyH_ready (rs:=[6]) (by kernel_rfl) (by simp) ?_
   refine AllReadyH.cons (o:=?obx7) ?hbx7 (fun K hK=>?sbx7) AllReadyH.nil
   case hbx7=>simp only [gA0,gA1,gA2]; rfl
   go_simp
   refine (HRG.out _ hHeld.1).mono ?_
   rintro e w6 ⟨A6,n6,c6,rfl,b6,k6⟩
   have h6:=hS9 _ (hHeld.1.trans' k6)
   go_wp2_with fail
   refine hK.out _ _ (h6) (fun hHeld=>?_)
   clear hK K
   try simp only [Act.put,sA0,sA1,sA2]
   refine wpAnyH_take (i:=7) (v:=?vbx8) (oi:=?obx8) ?hbx8 (by kernel_rfl) (by kernel_rfl) (by kernel_rfl) (fun _ _ _ h=>h) (Or.inl ⟨?wbx8,?ybx8⟩) hHeld ?rbx8
   case hbx8=>simp only [gA0,gA1,gA2]; rfl
   case wbx8=>rfl
   case ybx8=>intro w hSw; (try dsimp only at hSw); go_simp; (try with_reducible rfl)
   simp only [Act.put,sA0,sA1,sA2]
   refine wpAnyH_take (i:=8) (v:=?vbx9) (oi:=?obx9) ?hbx9 (by kernel_rfl) (by kernel_rfl) (by kernel_rfl) (fun _ _ _ h=>h) (Or.inl ⟨?wbx9,?ybx9⟩) hHeld ?rbx9
   case hbx9=>simp only [gA0,gA1,gA2]; rfl
   case wbx9=>rfl
   case ybx9=>intro w hSw; (try dsimp only at hSw); go_simp; (try with_reducible rfl)
   simp only [Act.put,sA0,sA1,sA2]
   refine wpAnyH_take (i:=9) (v:=?vbx10) (oi:=?obx10) ?hbx10 (by kernel_rfl) (by kernel_rfl) (by kernel_rfl) (fun _ _ _ h=>h) (Or.inl ⟨?wbx10,?ybx10⟩) hHeld ?rbx10
   case hbx10=>simp only [gA0,gA1,gA2]; rfl
   case wbx10=>rfl
   case ybx10=>intro w hSw; (try dsimp only at hSw); go_simp; (try with_reducible rfl)
   simp only [Act.put,sA0,sA1,sA2]
   refine wpAnyH_ready (rs:=[10]) (by kernel_rfl) (by simp) ?_
   refine AllReadyH.cons (o:=?obx11) ?hbx11 (fun K hK=>?sbx11) AllReadyH.nil
   case hbx11=>simp only [gA0,gA1,gA2]; rfl
   go_simp
   refine hK.out _ _ (hHeld) (fun hHeld=>?_)
   clear hK K
   try simp only [Act.put,sA0,sA1,sA2]
   refine wpAnyH_ready (rs:=[11]) (by kernel_rfl) (by simp) ?_
   refine AllReadyH.cons (o:=?obx12) ?hbx12 (fun K hK=>?sbx12) AllReadyH.nil
   case hbx12=>simp only [gA0,gA1,gA2]; rfl
   go_simp
   refine hK.out _ _ (hHeld) (fun hHeld=>?_)
   clear hK K
   try simp only [Act.put,sA0,sA1,sA2]
   refine wpAnyH_done (by kernel_rfl) ?_ _
   refine NoPanic.normal ?_
   have HK6:=hide hHeld.1
   have HB6:=hide b6
   clear hHeld h6 b6 k6 hS9
   have hS10:∀ w',Kp No w6 w'→Kp No w6 w'∧Bts w' (.slice A5 n5 c5) bt∧Bts w' (.slice A6 n6 c6) bt∧w'.cell? ⟨gw,i * 4,none⟩=some (.int .u32 (cO t:Int))∧w'.cell? ⟨gw,i * 4+1,none⟩=some (.int .u16 (cS t:Int))∧w'.cell? ⟨gw,i * 4+2,none⟩=some (.int .u16 (cL t:Int))∧w'.cell? ⟨gw,i * 4+3,none⟩=some (.int .u32 (cG t:Int))∧w'.cell? ⟨gl,i * 4,none⟩=some (.int .u32 (cO t:Int))∧w'.cell? ⟨gl,i * 4+1,none⟩=some (.int .u16 (cS t:Int))∧w'.cell? ⟨gl,i * 4+2,none⟩=some (.int .u16 (cL t:Int))∧w'.cell? ⟨gl,i * 4+3,none⟩=some (.int .u32 (cG t:Int)):=fun w' hk=>by
    obtain ⟨y0,y1,y2,y3,x0,x1,x2,x3⟩:=HNM.out w' ((HK5.out.trans' HK6.out).trans' hk)
    exact ⟨hk,(HB5.out.no HK6.out).no hk,HB6.out.no hk,y0,y1,y2,y3,x0,x1,x2,x3⟩
   go_wp2_with fail
   refine wp_region_noPanic ?_
   refine wp_region_held_drew (S:=fun w'=>Kp No w6 w'∧Bts w' (.slice A5 n5 c5) bt∧Bts w' (.slice A6 n6 c6) bt∧w'.cell? ⟨gw,i * 4,none⟩=some (.int .u32 (cO t:Int))∧w'.cell? ⟨gw,i * 4+1,none⟩=some (.int .u16 (cS t:Int))∧w'.cell? ⟨gw,i * 4+2,none⟩=some (.int .u16 (cL t:Int))∧w'.cell? ⟨gw,i * 4+3,none⟩=some (.int .u32 (cG t:Int))∧w'.cell? ⟨gl,i * 4,none⟩=some (.int .u32 (cO t:Int))∧w'.cell? ⟨gl,i * 4+1,none⟩=some (.int .u16 (cS t:Int))∧w'.cell? ⟨gl,i * 4+2,none⟩=some (.int .u16 (cL t:Int))∧w'.cell? ⟨gl,i * 4+3,none⟩=some (.int .u32 (cG t:Int))) (by kernel_rfl) (hS10 _ (Kp.refl No w6).drew) (fun hHeld=>?_)
   refine wpAnyH_take (i:=0) (v:=?vcx1) (oi:=?ocx1) ?hcx1 (by kernel_rfl) (by kernel_rfl) (by kernel_rfl) (fun _ _ _ h=>h) (Or.inl ⟨?wcx1,?ycx1⟩) hHeld ?rcx1
   case hcx1=>simp only [gA0,gA1,gA2]; rfl
   case wcx1=>rfl
   case ycx1=>intro w hSw; (try dsimp only at hSw); go_simp; (try with_reducible rfl)
   simp only [Act.put,sA0,sA1,sA2]
   refine wpAnyH_take (i:=1) (v:=?vcx2) (oi:=?ocx2) ?hcx2 (by kernel_rfl) (by kernel_rfl) (by kernel_rfl) (fun _ _ _ h=>h) (Or.inl ⟨?wcx2,?ycx2⟩) hHeld ?rcx2
   case hcx2=>simp only [gA0,gA1,gA2]; rfl
   case wcx2=>rfl
   case ycx2=>intro w hSw; (try dsimp only at hSw); go_simp; (try with_reducible rfl)
   simp only [Act.put,sA0,sA1,sA2]
   refine wpAnyH_take (i:=2) (v:=?vcx3) (oi:=?ocx3) ?hcx3 (by kernel_rfl) (by kernel_rfl) (by kernel_rfl) (fun _ _ _ h=>h) (Or.inl ⟨?wcx3,?ycx3⟩) hHeld ?rcx3
   case hcx3=>simp only [gA0,gA1,gA2]; rfl
   case wcx3=>rfl
   case ycx3=>intro w hSw; (try dsimp only at hSw); go_simp; (try with_reducible rfl)
   simp only [Act.put,sA0,sA1,sA2]
   refine wpAnyH_take (i:=3) (v:=?vcx4) (oi:=?ocx4) ?hcx4 (by kernel_rfl) (by kernel_rfl) (by kernel_rfl) (fun _ _ _ h=>h) (Or.inl ⟨?wcx4,?ycx4⟩) hHeld ?rcx4
   case hcx4=>simp only [gA0,gA1,gA2]; rfl
   case wcx4=>rfl
   case ycx4=>intro w hSw; (try dsimp only at hSw); go_simp; (try with_reducible rfl)
   simp only [Act.put,sA0,sA1,sA2]
   refine wpAnyH_take (i:=4) (v:=?vcx5) (oi:=?ocx5) ?hcx5 (by kernel_rfl) (by kernel_rfl) (by kernel_rfl) (fun _ _ _ h=>h) (Or.inl ⟨?wcx5,?ycx5⟩) hHeld ?rcx5
   case hcx5=>simp only [gA0,gA1,gA2]; rfl
   case wcx5=>rfl
   case ycx5=>intro w hSw; (try dsimp only at hSw); go_simp; (try with_reducible rfl)
   simp only [Act.put,sA0,sA1,sA2]
   refine wpAnyH_take (i:=5) (v:=?vcx6) (oi:=?ocx6) ?hcx6 (by kernel_rfl) (by kernel_rfl) (by kernel_rfl) (fun _ _ _ h=>h) (Or.inl ⟨?wcx6,?ycx6⟩) hHeld ?rcx6
   case hcx6=>simp only [gA0,gA1,gA2]; rfl
   case wcx6=>rfl
   case ycx6=>intro w hSw; (try dsimp only at hSw); go_simp; (try with_reducible rfl)
   simp only [Act.put,sA0,sA1,sA2]
   refine wpAnyH_take (i:=6) (v:=?vcx7) (oi:=?ocx7) ?hcx7 (by kernel_rfl) (by kernel_rfl) (by kernel_rfl) (fun _ _ _ h=>h) (Or.inl ⟨?wcx7,?ycx7⟩) hHeld ?rcx7
   case hcx7=>simp only [gA0,gA1,gA2]; rfl
   case wcx7=>rfl
   case ycx7=>intro w hSw; (try dsimp only at hSw); go_simp; (try with_reducible rfl)
   simp only [Act.put,sA0,sA1,sA2]
   refine wpAnyH_take (i:=7) (v:=?vcx8) (oi:=?ocx8) ?hcx8 (by kernel_rfl) (by kernel_rfl) (by kernel_rfl) (fun _ _ _ h=>h) (Or.inl ⟨?wcx8,?ycx8⟩) hHeld ?rcx8
   case hcx8=>simp only [gA0,gA1,gA2]; rfl
   case wcx8=>rfl
   case ycx8=>intro w hSw; (try dsimp only at hSw); go_simp; (try with_reducible rfl)
   simp only [Act.put,sA0,sA1,sA2]
   refine wpAnyH_take (i:=8) (v:=?vcx9) (oi:=?ocx9) ?hcx9 (by kernel_rfl) (by kernel_rfl) (by kernel_rfl) (fun _ _ _ h=>h) (Or.inl ⟨?wcx9,?ycx9⟩) hHeld ?rcx9
   case hcx9=>simp only [gA0,gA1,gA2]; rfl
   case wcx9=>rfl
   case ycx9=>intro w hSw; (try dsimp only at hSw); go_simp; (try with_reducible rfl)
   simp only [Act.put,sA0,sA1,sA2]
   refine wpAnyH_take (i:=9) (v:=?vcx10) (oi:=?ocx10) ?hcx10 (by kernel_rfl) (by kernel_rfl) (by kernel_rfl) (fun _ _ _ h=>h) (Or.inl ⟨?wcx10,?ycx10⟩) hHeld ?rcx10
   case hcx10=>simp only [gA0,gA1,gA2]; rfl
   case wcx10=>rfl
   case ycx10=>intro w hSw; (try dsimp only at hSw); go_simp; (try with_reducible rfl)
   simp only [Act.put,sA0,sA1,sA2]
   refine wpAnyH_take (i:=10) (v:=?vcx11) (oi:=?ocx11) ?hcx11 (by kernel_rfl) (by kernel_rfl) (by kernel_rfl) (fun _ _ _ h=>h) (Or.inl ⟨?wcx11,?ycx11⟩) hHeld ?rcx11
   case hcx11=>simp only [gA0,gA1,gA2]; rfl
   case wcx11=>rfl
   case ycx11=>intro w hSw; (try dsimp only at hSw); go_simp; (try with_reducible rfl)
   simp only [Act.put,sA0,sA1,sA2]
   refine wpAnyH_take (i:=11) (v:=?vcx12) (oi:=?ocx12) ?hcx12 (by kernel_rfl) (by kernel_rfl) (by kernel_rfl) (fun _ _ _ h=>h) (Or.inl ⟨?wcx12,?ycx12⟩) hHeld ?rcx12
   case hcx12=>simp only [gA0,gA1,gA2]; rfl
   case wcx12=>rfl
   case ycx12 =>
    intro w hSw
    (try dsimp only at hSw)
    have vv:=conv_bts hSw.2.1
    rw [← HTB.out] at vv
    go_simp
    (try with_reducible rfl)
   simp only [Act.put,sA0,sA1,sA2]
   refine wpAnyH_take (i:=12) (v:=?vcx13) (oi:=?ocx13) ?hcx13 (by kernel_rfl) (by kernel_rfl) (by kernel_rfl) (fun _ _ _ h=>h) (Or.inl ⟨?wcx13,?ycx13⟩) hHeld ?rcx13
   case hcx13=>simp only [gA0,gA1,gA2]; rfl
   case wcx13=>rfl
   case ycx13=>intro w hSw; (try dsimp only at hSw); go_simp; (try with_reducible rfl)
   simp only [Act.put,sA0,sA1,sA2]
   refine wpAnyH_take (i:=13) (v:=?vcx14) (oi:=?ocx14) ?hcx14 (by kernel_rfl) (by kernel_rfl) (by kernel_rfl) (fun _ _ _ h=>h) (Or.inl ⟨?wcx14,?ycx14⟩) hHeld ?rcx14
   case hcx14=>simp only [gA0,gA1,gA2]; rfl
   case wcx14=>rfl
   case ycx14 =>
    intro w hSw
    (try dsimp only at hSw)
    have vv:=conv_bts hSw.2.2.1
    rw [← HTB.out] at vv
    go_simp
    (try with_reducible rfl)
   simp only [Act.put,sA0,sA1,sA2]
   refine wpAnyH_take (i:=14) (v:=?vcx15) (oi:=?ocx15) ?hcx15 (by kernel_rfl) (by kernel_rfl) (by kernel_rfl) (fun _ _ _ h=>h) (Or.inl ⟨?wcx15,?ycx15⟩) hHeld ?rcx15
   case hcx15=>simp only [gA0,gA1,gA2]; rfl
   case wcx15=>rfl
   case ycx15=>intro w hSw; (try dsimp only at hSw); go_simp; (try with_reducible rfl)
   simp only [Act.put,sA0,sA1,sA2]
   refine wpAnyH_take (i:=15) (v:=?vcx16) (oi:=?ocx16) ?hcx16 (by kernel_rfl) (by kernel_rfl) (by kernel_rfl) (fun _ _ _ h=>h) (Or.inl ⟨?wcx16,?ycx16⟩) hHeld ?rcx16
   case hcx16=>simp only [gA0,gA1,gA2]; rfl
   case wcx16=>rfl
   case ycx16=>intro w hSw; (try dsimp only at hSw); go_simp; (try with_reducible rfl)
   simp only [Act.put,sA0,sA1,sA2]
   refine wpAnyH_take (i:=16) (v:=?vcx17) (oi:=?ocx17) ?hcx17 (by kernel_rfl) (by kernel_rfl) (by kernel_rfl) (fun _ _ _ h=>h) (Or.inl ⟨?wcx17,?ycx17⟩) hHeld ?rcx17
   case hcx17=>simp only [gA0,gA1,gA2]; rfl
   case wcx17=>rfl
   case ycx17=>intro w hSw; (try dsimp only at hSw); go_simp; (try with_reducible rfl)
   simp only [Act.put,sA0,sA1,sA2]
   refine wpAnyH_take (i:=17) (v:=?vcx18) (oi:=?ocx18) ?hcx18 (by kernel_rfl) (by kernel_rfl) (by kernel_rfl) (fun _ _ _ h=>h) (Or.inl ⟨?wcx18,?ycx18⟩) hHeld ?rcx18
   case hcx18=>simp only [gA0,gA1,gA2]; rfl
   case wcx18=>rfl
   case ycx18=>intro w hSw; (try dsimp only at hSw); go_simp; (try with_reducible rfl)
   simp only [Act.put,sA0,sA1,sA2]
   refine wpAnyH_take (i:=18) (v:=?vcx19) (oi:=?ocx19) ?hcx19 (by kernel_rfl) (by kernel_rfl) (by kernel_rfl) (fun _ _ _ h=>h) (Or.inl ⟨?wcx19,?ycx19⟩) hHeld ?rcx19
   case hcx19=>simp only [gA0,gA1,gA2]; rfl
   case wcx19=>rfl
   case ycx19=>intro w hSw; (try dsimp only at hSw); go_simp; (try with_reducible rfl)
   simp only [Act.put,sA0,sA1,sA2]
   refine wpAnyH_take (i:=19) (v:=?vcx20) (oi:=?ocx20) ?hcx20 (by kernel_rfl) (by kernel_rfl) (by kernel_rfl) (fun _ _ _ h=>h) (Or.inl ⟨?wcx20,?ycx20⟩) hHeld ?rcx20
   case hcx20=>simp only [gA0,gA1,gA2]; rfl
   case wcx20=>rfl
   case ycx20=>intro w hSw; (try dsimp only at hSw); go_simp; (try with_reducible rfl)
   simp only [Act.put,sA0,sA1,sA2]
   refine wpAnyH_take (i:=20) (v:=?vcx21) (oi:=?ocx21) ?hcx21 (by kernel_rfl) (by kernel_rfl) (by kernel_rfl) (fun _ _ _ h=>h) (Or.inl ⟨?wcx21,?ycx21⟩) hHeld ?rcx21
   case hcx21=>simp only [gA0,gA1,gA2]; rfl
   case wcx21=>rfl
   case ycx21=>intro w hSw; (try dsimp only at hSw); go_simp; (try with_reducible rfl)
   simp only [Act.put,sA0,sA1,sA2]
   refine wpAnyH_done (by kernel_rfl) ?_ _
   refine NoPanic.normal ?_
   have HK9:=hide hHeld.1
   clear hHeld hS10
   go_wp2_with fail
   go_round
   case rel=>exact ⟨i+1,by omega,by go_num,(((HKR.out.trans' HK5.out).trans' HK6.out).trans' HK9.out)⟩
   case measure=>simp [intOf]; omega
  ·obtain rfl:i=n4:=by omega
   have hlz:¬ (i:Int) < i:=by omega
   go_wp2_with fail
   go_ret
   exact ⟨rfl,(HK0.out.trans' HK3.out).trans' HKR.out⟩
end Go.Proofs.YtnfcfdhlmeimhaaGreat
