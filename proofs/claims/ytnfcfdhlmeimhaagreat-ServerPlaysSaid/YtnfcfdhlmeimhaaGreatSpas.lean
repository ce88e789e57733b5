/- Sync and Crash of package platter's disk, each as a contract over memory; no condition; Package vault's Begin, Put and Drop, as contracts over memory. -/
import Derived.Test.YtnfcfdhlmeimhaaGreatSpar
import Derived.Test.YtnfcfdhlmeimhaaGreatSpaq
import Derived.Test.YtnfcfdhlmeimhaaGreatSpam
namespace Go.Proofs.YtnfcfdhlmeimhaaGreat
open Go.RowKit
set_option linter.unusedVariables false
set_option maxRecDepth 20000
set_option linter.unusedSimpArgs false
theorem ap_do {cv:List Value} {lv:List (Nat × Value)} (h:Ap cv (lv.map Prod.snd)):Ap (doG cv lv) []:=by
 induction lv generalizing cv with
 | nil=>exact h.cells
 | cons p t ih =>
  rw [doG_cons]
  exact ih (h.step p.1)
theorem Ap.take {cv lv:List Value} (h:Ap cv lv) (k:Nat):Ap cv (lv.take k):=by
 have key:∀ {i:Nat} {u:Value},(lv.take k)[i]?=some u→lv[i]?=some u:=fun {i u} hi=>by
  rw [List.getElem?_take] at hi
  split at hi
  ·exact hi
  ·cases hi
 exact ⟨h.cc,fun i j u v b hi hj=>h.ll i j u v b (key hi) (key hj),fun u hu v hv=>h.cl u hu v (List.mem_of_mem_take hv)⟩
section
variable {w w1 w2:World} {F:Nat→Prop} {g gc n c k m cl:Nat} {A:Option Addr} {D:Dk} {vc vl v:Value} {cs cs':List (Value × List UInt8)} {ls:List (Nat × (Value × List UInt8))} {b:List UInt8}
/-- The rows behind so many loose writes that are done. -/
theorem DkR.dos (h:DkR w F g D (.slice (some ⟨gc,0,none⟩) n c) vl cs ls) (hI:DoI w gc D.cells.length c (cs.map Prod.fst) ((mp Prod.fst ls).take k) ((mp Prod.fst ls).take k).length w1) :
  OwnT w1 0 54 1 (.slice (some ⟨gc,0,none⟩) D.cells.length c) D.cells.length ((doG cs (ls.take k)).map Prod.fst)∧(∀ p ∈ doG cs (ls.take k),Own w 0 5 p.1 p.2∧Own w1 0 5 p.1 p.2∧∀ q,p.1.ownBlock=some q→F q)∧Ap ((doG cs (ls.take k)).map Prod.fst) []∧D.don k=(doG cs (ls.take k)).map Prod.snd:=by
 have e1:(doG cs (ls.take k)).map Prod.fst=doG (cs.map Prod.fst) ((mp Prod.fst ls).take k):=by rw [doG_map,mp_take]
 refine ⟨?_,fun p hp=>?_,?_,?_⟩
 ·have:=hI.own
  rw [List.take_of_length_le (Nat.le_refl _)] at this
  rw [e1]; exact this
 ·have hw:Own w 0 5 p.1 p.2∧∀ q,p.1.ownBlock=some q→F q:=by
   rcases doG_mem hp with hp | ⟨q,hq,rfl⟩
   ·exact ⟨h.rc p hp,h.fr p hp⟩
   ·exact ⟨h.rl q (List.mem_of_mem_take hq),h.fs q (List.mem_of_mem_take hq)⟩
  exact ⟨hw.1,hw.1.keep hI.kp fun q hq e=>by subst e; exact h.oc.offB hw.1 (by decide) hq,hw.2⟩
 ·rw [e1]
  refine ap_do ?_
  have:((mp Prod.fst ls).take k).map Prod.snd=(ls.map fun p=>p.2.1).take k:=by unfold mp; rw [List.map_take,List.map_map]; rfl
  rw [this]
  exact h.ap.take k
 ·unfold Dk.don
  rw [doG_map,mp_take,h.dc,h.dl]
/-- A disk without loose writes, behind a Sync or a Crash. -/
theorem DkR.fin (h:DkR w F g D (.slice (some ⟨gc,0,none⟩) n c) vl cs ls) (hk:Kp (fun q=>q=gc) w w1) (hoc:OwnT w1 0 54 1 (.slice (some ⟨gc,0,none⟩) n c) cs'.length (cs'.map Prod.fst)) (hrc:∀ p ∈ cs',Own w1 0 5 p.1 p.2) (hap:Ap (cs'.map Prod.fst) [])
  (hfr:∀ p ∈ cs',∀ q,p.1.ownBlock=some q→Up F w q) (hks:Kp (fun q=>q=g) w1 w2) {s:Nat} (hblk:w2.heap[g]?=some (.cells #[.slice (some ⟨gc,0,none⟩) n c,.int .i64 (D.size:Int),.slice none 0 0,.int .i64 (s:Int)] 92 (0,0))) {l':List (List UInt8)} (hl':l'=cs'.map Prod.snd) (hok:(Dk.mk D.size l' [] s).Ok) :
  DkAt w2 (Up F w) g ⟨D.size,l',[],s⟩∧Kp F w w2:=by
 have hb1:w1.heap[g]?=some (.cells #[.slice (some ⟨gc,0,none⟩) n c,.int .i64 (D.size:Int),vl,.int .i64 (D.syncs:Int)] 92 (0,0)):=(hk.block g h.glt fun e=>by subst e; exact h.oc.not_at h.blk (by decide) rfl).trans h.blk
 refine ⟨⟨_,.slice none 0 0,cs',[],⟨hblk,hoc.keep hks fun q hq e=>by subst e; exact hoc.not_at hb1 (by decide) hq,OwnT.nil _ _ _ _,fun p hp=>(hrc p hp).keep hks fun q hq e=>by subst e; exact own_ne_at (hrc p hp) hb1 (by decide) hq,(fun p hp=>by simp at hp),hap,hl',rfl,.inl h.fg,fun q hq=>.inl (h.fc q hq),(fun q hq=>by cases hq),hfr,(fun p hp=>by simp at hp),hok⟩⟩,?_⟩
 exact (hk.mono fun q e=>h.fc q (by rw [e]; rfl)).trans (hks.mono fun q e=>.inl (by rw [e]; exact h.fg))
theorem DkR.pairs (h:DkR w F g D vc vl cs ls):∀ p ∈ mp Prod.fst ls,p.1 < D.cells.length∧∃ A' m' c',p.2=.slice A' m' c':=fun p hp=>by
 obtain ⟨q,hq,rfl⟩:=List.mem_map.1 hp
 refine ⟨?_,(h.rl q hq).form⟩
 have:=h.ok.ll (q.1,q.2.2) (by rw [h.dl]; exact List.mem_map.2 ⟨q,hq,rfl⟩)
 exact this.1
theorem DkR.lsr (h:DkR w F g D vc (.slice A m cl) cs ls):LsR w A m (mp Prod.fst ls):=OwnT.lsR (c:=cl) (e:=153) (base:=0) (by rw [mp_len]; exact h.ol)
theorem DkR.apart (h:DkR w F g D (.slice (some ⟨gc,0,none⟩) n c) (.slice A m cl) cs ls):∀ a,A=some a→a.block≠gc:=fun a ha e=>by
 subst ha
 exact h.oc.off h.ol (by decide) (by rw [← e]; rfl)
end
theorem LsR.take {w:World} {A:Option Addr} {n k:Nat} {lv:List (Nat × Value)} (h:LsR w A n lv) (hk:k≤n):LsR w A k (lv.take k) :=
 ⟨by rw [List.length_take,← h.len]; omega,fun j p hj=>by
  rw [List.getElem?_take] at hj
  split at hj
  ·exact h.at_ j p hj
  ·cases hj⟩
section
variable {w:World} {F:Nat→Prop} {g:Nat} {D:Dk}
set_option maxHeartbeats 2000000 in
theorem psync_any (h:DkAt w F g D) (hL:D.loose.length≤1000000) (hs:D.syncs+1≤1000000000):Calls Tryz.prog 143 #[.pointer (some ⟨g,0,none⟩)] w (DkPost w F g D.sync (.int .i64 0)):=by
 obtain ⟨vc,vl,cs,ls,h⟩:=h
 obtain ⟨gc,c,rfl,hc,hg⟩:=h.vc_
 obtain ⟨A,cl,rfl,hcl,hA⟩:=h.vl_
 clear hA
 have x0:=h.c0
 have x2:=h.c2
 have ho:=h.oc
 rw [h.ncs] at ho
 have hdo:=pdo_any (cl:=cl) x0 (Ne.symm hg) ho h.lsr h.apart h.pairs hL
 have HH:=hide h
 have HG:=hide hg
 clear h hg
 go_enter Tryz.func143,Tryz.ntmps143
 go_wp2_with fail
 refine hdo.mono ?_
 rintro e w1 ⟨rfl,hI⟩
 have hb1:w1.heap[g]?=some (.cells #[.slice (some ⟨gc,0,none⟩) D.cells.length c,.int .i64 (D.size:Int),.slice A D.loose.length cl,.int .i64 (D.syncs:Int)] 92 (0,0)):=(hI.kp.block g HH.out.glt fun e=>HG.out e.symm).trans HH.out.blk
 have y2:w1.cell? ⟨g,2,none⟩=some (.slice A D.loose.length cl):=by rw [cell_of_row w1 g 2 _ _ _ hb1]; rfl
 have y3:w1.cell? ⟨g,3,none⟩=some (.int .i64 (D.syncs:Int)):=by rw [cell_of_row w1 g 3 _ _ _ hb1]; rfl
 have f2:w1.frozen? ⟨g,2,none⟩=false:=frozen_of_row w1 g 2 _ _ hb1
 have f3:w1.frozen? ⟨g,3,none⟩=false:=frozen_of_row w1 g 3 _ _ hb1
 have HB1:=hide hb1
 have HI:=hide hI
 clear hb1 hI x0 x2 ho hdo
 go_wp2_with fail
 go_ret
 have hI2:DoI w gc D.cells.length c (cs.map Prod.fst) ((mp Prod.fst ls).take D.loose.length) ((mp Prod.fst ls).take D.loose.length).length w1:=by
  have:=HI.out
  rw [List.take_of_length_le (by rw [mp_len,HH.out.nls]; exact Nat.le_refl _)]
  exact this
 obtain ⟨h1,h2,h3,h4⟩:=HH.out.dos hI2
 have hlen:(doG cs (ls.take D.loose.length)).length=D.cells.length:=by rw [doG_len,HH.out.ncs]
 have hs1:=heap_setCell_same w1 g 2 _ 92 (.slice none 0 0) HB1.out
 have hs2:=heap_setCell_same _ g 3 _ 92 (.int .i64 ((D.syncs:Int)+1)) hs1
 have hfin:=HH.out.fin (cs':=doG cs (ls.take D.loose.length)) (s:=D.syncs+1) HI.out.kp (by rw [hlen]; exact h1) (fun p hp=>(h2 p hp).2.1) h3 (fun p hp q hq=>.inl ((h2 p hp).2.2 q hq))
  ((Kp.setCell (p:=⟨g,2,none⟩) (S:=fun q=>q=g) rfl (.slice none 0 0)).trans' (Kp.setCell (p:=⟨g,3,none⟩) (S:=fun q=>q=g) rfl (.int .i64 ((D.syncs:Int)+1)))) hs2 (l':=D.don D.loose.length) h4 HH.out.ok.sync
 exact ⟨rfl,hfin.1,hfin.2⟩
theorem size_writes (w:World):(sizeOf (Tryz.prog.elem 90)).run Tryz.prog w=.ok 2 w:=by
 obtain ⟨⟨i0,hi0,hz0,hz1,hz2⟩,_⟩:=ty_write
 have he:Tryz.prog.elem 90=153:=by kernel_rfl
 have hc:Tryz.prog.cellsOf 153=2:=by kernel_rfl
 rw [he]
 simp [run_sizeOf,hi0,hz1,hc]
theorem elem_writes:Tryz.prog.underlying 90=some (.slice (Tryz.prog.elem 90)):=by
 have he:Tryz.prog.elem 90=153:=by kernel_rfl
 rw [he]; exact Tryz.underlying90
/-- l[k:] of loose writes. -/
theorem slice_wl (A:Option Addr) {L cl k r rc:Nat} (hk:k≤L) (hcl:L≤cl) (hr:r=L - k) (hrc:rc=cl - k) :
  ∃ A',(∀ w',(Instr.slice 90 (.slice A L cl) (some (.int .i64 (k:Int))) none none).run Tryz.prog w'=.ok (.slice A' r rc) w')∧∀ gl,k < L→A=some ⟨gl,0,none⟩→A'=some ⟨gl,k * 2,none⟩:=by
 subst hr hrc
 refine ⟨if cl=k then A else A.map (·.add (k * 2)),fun w'=>?_,fun gl h e=>?_⟩
 ·rw [run_slice_l w' _ _ _ _ elem_writes .i64 _ (by omega) (by omega),size_writes]
  simp only [Result.andThen,sliced,Int.toNat_natCast]
 ·subst e
  rw [if_neg (by omega),Option.map_some,add_none,Nat.zero_add]
/-- l[:k] of loose writes. -/
theorem slice_wu (A:Option Addr) {L cl k:Nat} (hk:k≤L) (hcl:L≤cl) (w':World):(Instr.slice 90 (.slice A L cl) none (some (.int .i64 (k:Int))) none).run Tryz.prog w'=.ok (.slice A k cl) w':=by
 rw [run_slice_h w' _ _ _ _ elem_writes .i64 _ (by omega) (by omega),size_writes]
 simp only [Result.andThen,sliced,Int.toNat_natCast,Nat.zero_mul,Nat.sub_zero]
 congr 2
 split
 ·rfl
 ·rcases A with _ | a
  ·rfl
  ·simp [Addr.add]
set_option maxHeartbeats 4000000 in
theorem pcrash_any (h:DkAt w F g D) (hL:D.loose.length≤1000000) (z y:Int):Calls Tryz.prog 34 #[.pointer (some ⟨g,0,none⟩),.int .i64 z,.int .i64 y] w (DkPost w F g (D.crash z y) (.int .i64 (D.lost z:Int))):=by
 obtain ⟨k,hk⟩:∃ k,k=clm z D.loose.length:=⟨_,rfl⟩
 have hkL:k≤D.loose.length:=hk ▸ clm_le _ _
 obtain ⟨r,hr⟩:∃ r,r=D.loose.length - k:=⟨_,rfl⟩
 have hC:D.crash z y=⟨D.size,D.torn k y,[],D.syncs⟩:=by rw [hk]; rfl
 have hLo:D.lost z=r:=by rw [hr,hk]; rfl
 have hokc:=h.ok.crash z y
 rw [hC] at hokc
 rw [hC,hLo]
 have HK:=hide hk
 have HOK:=hide hokc
 have HR:=hide hr
 clear hk hC hLo hokc
 obtain ⟨vc,vl,cs,ls,h⟩:=h
 obtain ⟨gc,c,rfl,hc,hg⟩:=h.vc_
 obtain ⟨A,cl,rfl,hcl,hA⟩:=h.vl_
 clear hA
 have x0:=h.c0
 have x2:=h.c2
 have ho:=h.oc
 rw [h.ncs] at ho
 have hdo:=pdo_any (cl:=cl) x0 (Ne.symm hg) ho (h.lsr.take hkL) h.apart (fun p hp=>h.pairs p (List.mem_of_mem_take hp)) (by omega)
 obtain ⟨rc,hrc⟩:∃ rc,rc=cl - k:=⟨_,rfl⟩
 obtain ⟨A2,sl,hA2⟩:=slice_wl A hkL hcl hr hrc
 have su:=slice_wu A hkL hcl
 have HH:=hide h
 have HG:=hide hg
 clear hr hrc hg ho
 by_cases hlt:k < D.loose.length
 ·obtain ⟨gl,q,A',m',c',bs,rfl,hp,hls,y0,y1,hob,hqn,hbl⟩:=h.lw rfl hlt
  obtain rfl:=hA2 gl hlt rfl
  have hr0:0 < r:=by have:=HR.out; omega
  have HP:=hide hp
  have HA:=hide (h.apart _ rfl)
  clear hA2 h hp hls
  go_enter Tryz.func34,Tryz.ntmps34
  go_wp2_with fail
  refine (within_any _ z D.loose.length hL).mono ?_
  rintro e w0 ⟨rfl,rfl⟩
  rw [← HK.out]
  go_wp2_with fail
  refine hdo.mono ?_
  rintro e w1 ⟨rfl,hI⟩
  obtain ⟨h1,h2,h3,h4⟩:=HH.out.dos hI
  have hlen:(doG cs (ls.take k)).length=D.cells.length:=by rw [doG_len,HH.out.ncs]
  obtain ⟨p3,hp3⟩:∃ p,(doG cs (ls.take k))[q]?=some p:=⟨_,List.getElem?_eq_getElem (by omega)⟩
  obtain ⟨hw3,hw31,_⟩:=h2 p3 (List.mem_of_getElem? hp3)
  obtain ⟨A3,m3,c3,e3⟩:=hw31.form
  have hhad:(D.don k).getD q []=p3.2:=by rw [h4,List.getD_eq_getElem?_getD,List.getElem?_map,hp3]; rfl
  have hm3:p3.2.length≤D.size:=HH.out.ok.don k p3.2 (by rw [h4]; exact List.mem_map.2 ⟨p3,List.mem_of_getElem? hp3,rfl⟩)
  rw [e3] at hw31
  have hm3l:=hw31.len
  have hml:=hob.len
  have hs1:=HH.out.ok.s1
  have hob1:Own w1 0 5 (.slice A' m' c') bs:=hob.keep hI.kp fun b hb e=>by subst e; exact HH.out.oc.offB hob (by decide) hb
  have htear:=ptear_any (hI.kp.cell x0 fun e=>HG.out e.symm) (fun e=>HG.out e.symm) h1 hqn (by rw [List.getElem?_map,hp3,← e3]; rfl) hw31.bts hw31.cap hob1.bts hob1.cap (by omega) (by omega) y
  have z0:=hI.kp.cell y0 HA.out
  have z1:=hI.kp.cell y1 HA.out
  have HI:=hide hI
  have H1:=hide h1
  have H2:=hide h2
  have H3:=hide h3
  have H4:=hide h4
  have HHAD:=hide hhad
  have HLEN:=hide hlen
  have HML:=hide hml
  have HTEAR:=hide htear
  clear hI h1 h2 h3 h4 hhad hlen hml hp3 hw3 hw31 e3 hm3 hm3l hs1 hob hob1 htear y0 y1 x0 x2 hdo
  go_wp2_with fail
  refine HTEAR.out.mono ?_
  rintro e w2 ⟨rfl,v,g1,g2,g3,g4⟩
  have K2:Kp (fun b=>b=gc) w w2:=HI.out.kp.trans' g4
  have hb2:w2.heap[g]?=some (.cells #[.slice (some ⟨gc,0,none⟩) D.cells.length c,.int .i64 (D.size:Int),.slice (some ⟨gl,0,none⟩) D.loose.length cl,.int .i64 (D.syncs:Int)] 92 (0,0)):=(K2.block g HH.out.glt fun e=>HG.out e.symm).trans HH.out.blk
  have f2:w2.frozen? ⟨g,2,none⟩=false:=frozen_of_row w2 g 2 _ _ hb2
  have x2:w2.cell? ⟨g,2,none⟩=some (.slice (some ⟨gl,0,none⟩) D.loose.length cl):=by rw [cell_of_row w2 g 2 _ _ _ hb2]; rfl
  have hs2:=hide (heap_setCell_same w2 g 2 _ 92 (.slice none 0 0) hb2)
  have hfin:=HH.out.fin (w2:=w2.setCell ⟨g,2,none⟩ (.slice none 0 0)) (cs':=(doG cs (ls.take k)).set q (v,tornB bs p3.2 (clm y m'))) (s:=D.syncs) (l':=D.torn k y) K2
   (by rw [List.length_set,HLEN.out,List.map_set]; exact g1)
   (fun p hp=>by
    rcases mem_set hp with hp | rfl
    ·exact (H2.out p hp).2.1.keep g4 fun b hb e=>by subst e; exact H1.out.offB (H2.out p hp).2.1 (by decide) hb
    ·exact g2)
   (by
    rw [List.map_set]
    refine H3.out.set q (fun u hu b hb hb'=>?_) (fun u hu=>by simp at hu)
    obtain ⟨p,hp,rfl⟩:=List.mem_map.1 hu
    have:=(H2.out p hp).2.1.lt b hb
    have:=g3 b hb'
    omega)
   (fun p hp b hb=>by
    rcases mem_set hp with hp | rfl
    ·exact .inl ((H2.out p hp).2.2 b hb)
    ·exact .inr (Nat.le_trans HI.out.kp.size (g3 b hb)))
   (Kp.setCell (p:=⟨g,2,none⟩) (S:=fun b=>b=g) rfl (.slice none 0 0)) hs2.out
   (by
    unfold Dk.torn
    rw [HP.out]
    simp only
    rw [HHAD.out,H4.out,List.map_set,HML.out]) HOK.out
  have HFIN:=hide hfin
  clear hfin hb2 K2 g1 g2 g3 g4
  go_wp2_with fail
  go_ret
  exact ⟨rfl,HFIN.out.1,HFIN.out.2⟩
 ·have hr0:r=0:=by have:=HR.out; omega
  subst hr0
  have hpn:D.loose[k]?=none:=List.getElem?_eq_none (by omega)
  have HP:=hide hpn
  clear hA2 h hpn
  go_enter Tryz.func34,Tryz.ntmps34
  go_wp2_with fail
  refine (within_any _ z D.loose.length hL).mono ?_
  rintro e w0 ⟨rfl,rfl⟩
  rw [← HK.out]
  go_wp2_with fail
  refine hdo.mono ?_
  rintro e w1 ⟨rfl,hI⟩
  obtain ⟨h1,h2,h3,h4⟩:=HH.out.dos hI
  have hlen:(doG cs (ls.take k)).length=D.cells.length:=by rw [doG_len,HH.out.ncs]
  have hb2:w1.heap[g]?=some (.cells #[.slice (some ⟨gc,0,none⟩) D.cells.length c,.int .i64 (D.size:Int),.slice A D.loose.length cl,.int .i64 (D.syncs:Int)] 92 (0,0)):=(hI.kp.block g HH.out.glt fun e=>HG.out e.symm).trans HH.out.blk
  have f2:w1.frozen? ⟨g,2,none⟩=false:=frozen_of_row w1 g 2 _ _ hb2
  have y2:w1.cell? ⟨g,2,none⟩=some (.slice A D.loose.length cl):=by rw [cell_of_row w1 g 2 _ _ _ hb2]; rfl
  have hs2:=hide (heap_setCell_same w1 g 2 _ 92 (.slice none 0 0) hb2)
  have hfin:=HH.out.fin (w2:=w1.setCell ⟨g,2,none⟩ (.slice none 0 0)) (cs':=doG cs (ls.take k)) (s:=D.syncs) (l':=D.torn k y) hI.kp
   (by rw [hlen]; exact h1) (fun p hp=>(h2 p hp).2.1) h3 (fun p hp b hb=>.inl ((h2 p hp).2.2 b hb))
   (Kp.setCell (p:=⟨g,2,none⟩) (S:=fun b=>b=g) rfl (.slice none 0 0)) hs2.out
   (by
    unfold Dk.torn
    rw [HP.out]
    exact h4) HOK.out
  have HFIN:=hide hfin
  clear hfin hb2 h1 h2 h3 h4 hI hlen x0 x2 hdo
  go_wp2_with fail
  go_ret
  exact ⟨rfl,HFIN.out.1,HFIN.out.2⟩
end
end Go.Proofs.YtnfcfdhlmeimhaaGreat
namespace Go.Proofs.YtnfcfdhlmeimhaaGreat
open Go.RowKit
set_option linter.unusedVariables false
set_option linter.unusedSimpArgs false
set_option maxRecDepth 20000
theorem fstZ_fre (n:Nat) (L:List (Nat × Nat)):fstZ n (usd L)=if fre n L < n then (fre n L:Int) else -1:=rfl
/-- What a call that writes comes to. -/
def VtPost (w:World) (F:Nat→Prop) (g gd:Nat) (V':Vt) (v:Value) (e:Ending) (w1:World):Prop:=e=.returned v∧(∃ b,VtR w1 (Up F w) g gd b V')∧Kp F w w1
theorem VtPost.same {w w1:World} {F:Nat→Prop} {g gd b:Nat} {V:Vt} {z:Int} {n:Nat} (h:VtR w F g gd b V) (hk:Kp No w w1) (hz:z=(n:Int)):VtPost w F g gd V (.int .i64 (n:Int)) (.returned (.int .i64 z)) w1 :=
 ⟨by rw [hz],⟨b,h.up hk⟩,hk.of_no _⟩
set_option maxHeartbeats 2000000 in
theorem begin_twice {w:World} {F:Nat→Prop} {g gd b s n c:Nat} {A:Option Addr} {bs:List UInt8} {V:Vt} (h:VtR w F g gd b V) (hs:s < N96) (hb:Bts w (.slice A n c) bs) (hbl:bs.length≤800000000) (hk:kn V.L s=true):Calls Tryz.prog 43 #[.pointer (some ⟨g,0,none⟩),shV s,.slice A n c] w (VtPost w F g gd (V.bg s bs) (.int .i64 (V.bgE s bs:Int))):=by
 have hm0:=fun w' (hk:Kp No w w')=>vmade_any (h.blk.no hk)
 have hh0:=fun w' (hk:Kp No w w')=>vhas_any (h.blk.no hk) (h.mp.no hk) hs
 have hf0:=fun w' (hk:Kp No w w')=>framed_any hs (hb.no hk) hbl
 have HM:=hide hm0
 have HH:=hide hh0
 have HF:=hide hf0
 have c0:=h.blk.c0
 have HR:=hide h
 have HS:=hide hs
 have HSV:Hid (Value.agg #[.int .u32 (cO s:Int),.int .u16 (cS s:Int),.int .u16 (cL s:Int),.int .u32 (cG s:Int)]=shV s):=hide rfl
 have hbx:=Bx4.new w (.int .u32 (cO s:Int)) (.int .u16 (cS s:Int)) (.int .u16 (cL s:Int)) (.int .u32 (cG s:Int))
 have HBX:=hide hbx
 clear hm0 hh0 hf0 hb hs hbx
 have hE:V.bgE s bs=7:=by unfold Vt.bgE; rw [if_pos hk]
 have hB:V.bg s bs=V:=Vt.bg_no (by omega)
 rw [hE,hB]
 rw [hk] at HH
 clear hE hB
 unfold shV at HM HH HF ⊢
 generalize cO s=o0 at HM HH HF HSV HBX ⊢
 generalize cS s=o1 at HM HH HF HSV HBX ⊢
 generalize cL s=o2 at HM HH HF HSV HBX ⊢
 generalize cG s=o3 at HM HH HF HSV HBX ⊢
 go_enter Tryz.func43,Tryz.ntmps43
 go_wp2_with fail
 refine (HM.out _ (Kp.alloc No w (.cells #[.int .u32 (o0:Int),.int .u16 (o1:Int),.int .u16 (o2:Int),.int .u32 (o3:Int)] 53))).mono ?_
 rintro e w' ⟨rfl,rfl⟩
 go_wp2_with fail
 refine (HH.out _ (Kp.alloc No w (.cells #[.int .u32 (o0:Int),.int .u16 (o1:Int),.int .u16 (o2:Int),.int .u32 (o3:Int)] 53))).mono ?_
 rintro e w1 ⟨rfl,hk1⟩
 have k1:=(Kp.alloc No w (.cells #[.int .u32 (o0:Int),.int .u16 (o1:Int),.int .u16 (o2:Int),.int .u32 (o3:Int)] 53)).trans' hk1
 go_wp2_with fail
 go_ret
 exact VtPost.same HR.out k1 rfl
set_option maxHeartbeats 2000000 in
theorem begin_long {w:World} {F:Nat→Prop} {g gd b s n c:Nat} {A:Option Addr} {bs:List UInt8} {V:Vt} (h:VtR w F g gd b V) (hs:s < N96) (hb:Bts w (.slice A n c) bs) (hbl:bs.length≤800000000) (hk:kn V.L s=false) (hlo:65524 < bs.length∨V.D.size < 24+bs.length):Calls Tryz.prog 43 #[.pointer (some ⟨g,0,none⟩),shV s,.slice A n c] w (VtPost w F g gd (V.bg s bs) (.int .i64 (V.bgE s bs:Int))):=by
 have hm0:=fun w' (hk:Kp No w w')=>vmade_any (h.blk.no hk)
 have hh0:=fun w' (hk:Kp No w w')=>vhas_any (h.blk.no hk) (h.mp.no hk) hs
 have hf0:=fun w' (hk:Kp No w w')=>framed_any hs (hb.no hk) hbl
 have HM:=hide hm0
 have HH:=hide hh0
 have HF:=hide hf0
 have c0:=h.blk.c0
 have HR:=hide h
 have HS:=hide hs
 have HSV:Hid (Value.agg #[.int .u32 (cO s:Int),.int .u16 (cS s:Int),.int .u16 (cL s:Int),.int .u32 (cG s:Int)]=shV s):=hide rfl
 have hbx:=Bx4.new w (.int .u32 (cO s:Int)) (.int .u16 (cS s:Int)) (.int .u16 (cL s:Int)) (.int .u32 (cG s:Int))
 have HBX:=hide hbx
 clear hm0 hh0 hf0 hb hs hbx
 have hE:V.bgE s bs=29:=by unfold Vt.bgE; rw [if_neg (by rw [hk]; simp),if_pos hlo]
 have hB:V.bg s bs=V:=Vt.bg_no (by omega)
 rw [hE,hB]
 rw [hk] at HH
 clear hE hB
 unfold shV at HM HH HF ⊢
 generalize cO s=o0 at HM HH HF HSV HBX ⊢
 generalize cS s=o1 at HM HH HF HSV HBX ⊢
 generalize cL s=o2 at HM HH HF HSV HBX ⊢
 generalize cG s=o3 at HM HH HF HSV HBX ⊢
 go_enter Tryz.func43,Tryz.ntmps43
 go_wp2_with fail
 refine (HM.out _ (Kp.alloc No w (.cells #[.int .u32 (o0:Int),.int .u16 (o1:Int),.int .u16 (o2:Int),.int .u32 (o3:Int)] 53))).mono ?_
 rintro e w' ⟨rfl,rfl⟩
 go_wp2_with fail
 refine (HH.out _ (Kp.alloc No w (.cells #[.int .u32 (o0:Int),.int .u16 (o1:Int),.int .u16 (o2:Int),.int .u32 (o3:Int)] 53))).mono ?_
 rintro e w1 ⟨rfl,hk1⟩
 have k1:=(Kp.alloc No w (.cells #[.int .u32 (o0:Int),.int .u16 (o1:Int),.int .u16 (o2:Int),.int .u32 (o3:Int)] 53)).trans' hk1
 obtain ⟨p0,p1,p2,p3⟩:=(HBX.out.keep hk1 (fun f=>f)).cell
 go_wp2_with fail
 refine (HF.out _ k1).mono ?_
 rintro e w2 ⟨A2,n2,c2,rfl,ho2,hk2⟩
 have hl2:=hide ho2.len
 have k2:=k1.trans' hk2
 have c2':=kp_cell c0 k2
 go_wp2_with fail
 refine (plen_any (HR.out.dk.no k2)).mono ?_
 rintro e w3 ⟨rfl,hk3⟩
 have k3:=k2.trans' hk3
 clear c2'
 by_cases h5:bs.length≤65524
 ·rw [if_pos h5] at hl2
  have hne:((n2:Int) == 0)=false:=by have:=hl2.out; rw [frV_len] at this; simp; omega
  have hgt:(V.D.size:Int) < (n2:Int):=by have:=hl2.out; rw [frV_len] at this; omega
  go_wp2_with fail
  go_ret
  exact VtPost.same HR.out k3 rfl
 ·rw [if_neg h5] at hl2
  obtain rfl:n2=0:=by simpa using hl2.out
  clear hl2
  go_wp2_with fail
  go_ret
  exact VtPost.same HR.out k3 rfl
set_option maxHeartbeats 2000000 in
theorem begin_full {w:World} {F:Nat→Prop} {g gd b s n c:Nat} {A:Option Addr} {bs:List UInt8} {V:Vt} (h:VtR w F g gd b V) (hs:s < N96) (hb:Bts w (.slice A n c) bs) (hbl:bs.length≤800000000) (hk:kn V.L s=false) (h5:bs.length≤65524) (h6:24+bs.length≤V.D.size) (hcn:V.D.cells.length≤1000) (hfu:¬ V.free < V.n):Calls Tryz.prog 43 #[.pointer (some ⟨g,0,none⟩),shV s,.slice A n c] w (VtPost w F g gd (V.bg s bs) (.int .i64 (V.bgE s bs:Int))):=by
 have hm0:=fun w' (hk:Kp No w w')=>vmade_any (h.blk.no hk)
 have hh0:=fun w' (hk:Kp No w w')=>vhas_any (h.blk.no hk) (h.mp.no hk) hs
 have hf0:=fun w' (hk:Kp No w w')=>framed_any hs (hb.no hk) hbl
 have HM:=hide hm0
 have HH:=hide hh0
 have HF:=hide hf0
 have c0:=h.blk.c0
 have HR:=hide h
 have HS:=hide hs
 have HSV:Hid (Value.agg #[.int .u32 (cO s:Int),.int .u16 (cS s:Int),.int .u16 (cL s:Int),.int .u32 (cG s:Int)]=shV s):=hide rfl
 have hbx:=Bx4.new w (.int .u32 (cO s:Int)) (.int .u16 (cS s:Int)) (.int .u16 (cL s:Int)) (.int .u32 (cG s:Int))
 have HBX:=hide hbx
 clear hm0 hh0 hf0 hb hs hbx
 have hE:V.bgE s bs=20:=by unfold Vt.bgE; rw [if_neg (by rw [hk]; simp),if_neg (by omega),if_neg hfu]
 have hB:V.bg s bs=V:=Vt.bg_no (by omega)
 rw [hE,hB]
 rw [hk] at HH
 clear hE hB
 unfold shV at HM HH HF ⊢
 generalize cO s=o0 at HM HH HF HSV HBX ⊢
 generalize cS s=o1 at HM HH HF HSV HBX ⊢
 generalize cL s=o2 at HM HH HF HSV HBX ⊢
 generalize cG s=o3 at HM HH HF HSV HBX ⊢
 go_enter Tryz.func43,Tryz.ntmps43
 go_wp2_with fail
 refine (HM.out _ (Kp.alloc No w (.cells #[.int .u32 (o0:Int),.int .u16 (o1:Int),.int .u16 (o2:Int),.int .u32 (o3:Int)] 53))).mono ?_
 rintro e w' ⟨rfl,rfl⟩
 go_wp2_with fail
 refine (HH.out _ (Kp.alloc No w (.cells #[.int .u32 (o0:Int),.int .u16 (o1:Int),.int .u16 (o2:Int),.int .u32 (o3:Int)] 53))).mono ?_
 rintro e w1 ⟨rfl,hk1⟩
 have k1:=(Kp.alloc No w (.cells #[.int .u32 (o0:Int),.int .u16 (o1:Int),.int .u16 (o2:Int),.int .u32 (o3:Int)] 53)).trans' hk1
 obtain ⟨p0,p1,p2,p3⟩:=(HBX.out.keep hk1 (fun f=>f)).cell
 go_wp2_with fail
 refine (HF.out _ k1).mono ?_
 rintro e w2 ⟨A2,n2,c2,rfl,ho2,hk2⟩
 have hl2:=hide ho2.len
 have k2:=k1.trans' hk2
 have c2':=kp_cell c0 k2
 go_wp2_with fail
 refine (plen_any (HR.out.dk.no k2)).mono ?_
 rintro e w3 ⟨rfl,hk3⟩
 have k3:=k2.trans' hk3
 clear c2'
 rw [if_pos h5] at hl2 ho2
 have hne:((n2:Int) == 0)=false:=by have:=hl2.out; rw [frV_len] at this; simp; omega
 have hgt:¬ (V.D.size:Int) < (n2:Int):=by have:=hl2.out; rw [frV_len] at this; omega
 have HO2:=hide ho2
 clear ho2
 have hfr:=free_any (HR.out.blk.no k3) (HR.out.mp.no k3) (HR.out.dk.no k3) hcn HR.out.ok.kn
 rw [fstZ_fre] at hfr
 have hfu':¬ fre V.D.cells.length V.L < V.D.cells.length:=hfu
 rw [if_neg hfu'] at hfr
 clear hfu'
 go_wp2_with fail
 refine hfr.mono ?_
 rintro e w4 ⟨rfl,hk4⟩
 clear hfr
 go_wp2_with fail
 go_ret
 exact VtPost.same HR.out (k3.trans' hk4) rfl
set_option maxHeartbeats 2000000 in
theorem begin_yes {w:World} {F:Nat→Prop} {g gd b s n c:Nat} {A:Option Addr} {bs:List UInt8} {V:Vt} (h:VtR w F g gd b V) (hs:s < N96) (hb:Bts w (.slice A n c) bs) (hbl:bs.length≤800000000) (hk:kn V.L s=false) (h5:bs.length≤65524) (h6:24+bs.length≤V.D.size) (hcn:V.D.cells.length≤1000) (hlo2:V.D.loose.length+1≤1000000) (hfu:V.free < V.n):Calls Tryz.prog 43 #[.pointer (some ⟨g,0,none⟩),shV s,.slice A n c] w (VtPost w F g gd (V.bg s bs) (.int .i64 (V.bgE s bs:Int))):=by
 have hm0:=fun w' (hk:Kp No w w')=>vmade_any (h.blk.no hk)
 have hh0:=fun w' (hk:Kp No w w')=>vhas_any (h.blk.no hk) (h.mp.no hk) hs
 have hf0:=fun w' (hk:Kp No w w')=>framed_any hs (hb.no hk) hbl
 have HM:=hide hm0
 have HH:=hide hh0
 have HF:=hide hf0
 have c0:=h.blk.c0
 have HR:=hide h
 have HS:=hide hs
 have HSV:Hid (Value.agg #[.int .u32 (cO s:Int),.int .u16 (cS s:Int),.int .u16 (cL s:Int),.int .u32 (cG s:Int)]=shV s):=hide rfl
 have hbx:=Bx4.new w (.int .u32 (cO s:Int)) (.int .u16 (cS s:Int)) (.int .u16 (cL s:Int)) (.int .u32 (cG s:Int))
 have HBX:=hide hbx
 clear hm0 hh0 hf0 hb hs hbx
 have hE:V.bgE s bs=0:=by unfold Vt.bgE; rw [if_neg (by rw [hk]; simp),if_neg (by omega),if_pos hfu]
 have hB:=Vt.bg_yes hE
 have hput:=Vt.bg_put hE
 have hokB:=HR.out.ok.bg (b:=bs) HS.out
 rw [hE,hB]
 rw [hB] at hokB
 rw [hk] at HH
 have HKN:=hide hk
 have HPT:=hide hput
 have HOK:=hide hokB
 clear hE hB hput hokB hk
 unfold shV at HM HH HF ⊢
 generalize cO s=o0 at HM HH HF HSV HBX ⊢
 generalize cS s=o1 at HM HH HF HSV HBX ⊢
 generalize cL s=o2 at HM HH HF HSV HBX ⊢
 generalize cG s=o3 at HM HH HF HSV HBX ⊢
 go_enter Tryz.func43,Tryz.ntmps43
 go_wp2_with fail
 refine (HM.out _ (Kp.alloc No w (.cells #[.int .u32 (o0:Int),.int .u16 (o1:Int),.int .u16 (o2:Int),.int .u32 (o3:Int)] 53))).mono ?_
 rintro e w' ⟨rfl,rfl⟩
 go_wp2_with fail
 refine (HH.out _ (Kp.alloc No w (.cells #[.int .u32 (o0:Int),.int .u16 (o1:Int),.int .u16 (o2:Int),.int .u32 (o3:Int)] 53))).mono ?_
 rintro e w1 ⟨rfl,hk1⟩
 have k1:=(Kp.alloc No w (.cells #[.int .u32 (o0:Int),.int .u16 (o1:Int),.int .u16 (o2:Int),.int .u32 (o3:Int)] 53)).trans' hk1
 obtain ⟨p0,p1,p2,p3⟩:=(HBX.out.keep hk1 (fun f=>f)).cell
 go_wp2_with fail
 refine (HF.out _ k1).mono ?_
 rintro e w2 ⟨A2,n2,c2,rfl,ho2,hk2⟩
 have hl2:=hide ho2.len
 have k2:=k1.trans' hk2
 have c2':=kp_cell c0 k2
 go_wp2_with fail
 refine (plen_any (HR.out.dk.no k2)).mono ?_
 rintro e w3 ⟨rfl,hk3⟩
 have k3:=k2.trans' hk3
 clear c2'
 rw [if_pos h5] at hl2 ho2
 have hne:((n2:Int) == 0)=false:=by have:=hl2.out; rw [frV_len] at this; simp; omega
 have hgt:¬ (V.D.size:Int) < (n2:Int):=by have:=hl2.out; rw [frV_len] at this; omega
 have HO2:=hide ho2
 clear ho2
 have hfr:=free_any (HR.out.blk.no k3) (HR.out.mp.no k3) (HR.out.dk.no k3) hcn HR.out.ok.kn
 rw [fstZ_fre] at hfr
 have HQU:=hide (fre_lt (L:=V.L) (n:=V.n) hfu)
 have hfu':fre V.D.cells.length V.L < V.D.cells.length:=hfu
 rw [if_pos hfu'] at hfr
 clear hfu'
 generalize hqf:V.free=q at HPT HOK
 have hqf2:fre V.D.cells.length V.L=q:=hqf
 rw [show fre V.n V.L=q from hqf] at HQU
 rw [hqf2] at hfr
 have hq1:q < 1024:=by have:=hfu; rw [hqf] at this; unfold Vt.n at this; omega
 have HQ1:=hide hq1
 have HFU:=hide hqf
 clear hfu hqf hqf2
 go_wp2_with fail
 refine hfr.mono ?_
 rintro e w4 ⟨rfl,hk4⟩
 clear hfr
 have k4:=k3.trans' hk4
 have c4:=kp_cell c0 k4
 have hqz:¬ (q:Int) < 0:=by omega
 go_wp2_with fail
 refine (pwrite_any (HR.out.dk.lt.no k4) (HO2.out.bts.no (hk3.trans' hk4)) hlo2 (q:Int)).mono ?_
 rintro e w5 ⟨rfl,hd5,hk5⟩
 have hb4:=(((HBX.out.keep hk1 (fun f=>f)).keep hk2 (fun f=>f)).keep hk3 (fun f=>f)).keep hk4 (fun f=>f)
 have hwn:¬ (fun k=>Fd F g b k∧k < w.heap.size) w.heap.size:=fun hf=>Nat.lt_irrefl _ hf.2
 obtain ⟨q0,q1,q2,q3⟩:=(hb4.keep hk5 hwn).cell
 have m5:=(HR.out.mp.no k4).keep hk5 (fun f=>f.1.2.2 rfl)
 have b5:=(HR.out.blk.no k4).keep hk5 (fun f=>f.1.2.1 rfl)
 have c5:=b5.c1
 have HM5:=hide m5
 clear p0 p1 p2 p3 c4 m5 hgt hqz
 go_wp2_with fail
 refine wp_region_noPanic ?_
 refine LastR.begin (S:=fun w'=>w'.cell? ⟨g,1,none⟩=some (.map (some b))∧w'.cell? ⟨w.heap.size,0,none⟩=some (.int .u32 (o0:Int))∧w'.cell? ⟨w.heap.size,1,none⟩=some (.int .u16 (o1:Int))∧w'.cell? ⟨w.heap.size,2,none⟩=some (.int .u16 (o2:Int))∧w'.cell? ⟨w.heap.size,3,none⟩=some (.int .u32 (o3:Int))∧MpAt w' b V.L) (t:=6) (by kernel_rfl) (⟨c5,q0,q1,q2,q3,HM5.out⟩) (fun hHeld=>?_)
 refine LastR.take (i:=0) (v:=?v0) (oi:=?o0) ?h0 (by kernel_rfl) (by kernel_rfl) (by kernel_rfl) (by kernel_rfl) (fun _ _ _ h=>h) (Or.inl ⟨?w0,?y0⟩) hHeld ?r0
 case h0=>simp only [gA0,gA1,gA2]; rfl
 case w0=>rfl
 case y0=>intro w hSw; (try dsimp only at hSw); go_simp; (try with_reducible rfl)
 simp only [Act.put,sA0,sA1,sA2]
 refine LastR.take (i:=1) (v:=?v1) (oi:=?o1) ?h1 (by kernel_rfl) (by kernel_rfl) (by kernel_rfl) (by kernel_rfl) (fun _ _ _ h=>h) (Or.inl ⟨?w1,?y1⟩) hHeld ?r1
 case h1=>simp only [gA0,gA1,gA2]; rfl
 case w1=>rfl
 case y1=>intro w hSw; (try dsimp only at hSw); go_simp; (try with_reducible rfl)
 simp only [Act.put,sA0,sA1,sA2]
 refine LastR.take (i:=2) (v:=?v2) (oi:=?o2) ?h2 (by kernel_rfl) (by kernel_rfl) (by kernel_rfl) (by kernel_rfl) (fun _ _ _ h=>h) (Or.inl ⟨?w2,?y2⟩) hHeld ?r2
 case h2=>simp only [gA0,gA1,gA2]; rfl
 case w2=>rfl
 case y2=>intro w hSw; (try dsimp only at hSw); go_simp; (try with_reducible rfl)
 simp only [Act.put,sA0,sA1,sA2]
 refine LastR.take (i:=3) (v:=?v3) (oi:=?o3) ?h3 (by kernel_rfl) (by kernel_rfl) (by kernel_rfl) (by kernel_rfl) (fun _ _ _ h=>h) (Or.inl ⟨?w3,?y3⟩) hHeld ?r3
 case h3=>simp only [gA0,gA1,gA2]; rfl
 case w3=>rfl
 case y3=>intro w hSw; (try dsimp only at hSw); go_simp; (try with_reducible rfl)
 simp only [Act.put,sA0,sA1,sA2]
 refine LastR.take (i:=4) (v:=?v4) (oi:=?o4) ?h4 (by kernel_rfl) (by kernel_rfl) (by kernel_rfl) (by kernel_rfl) (fun _ _ _ h=>h) (Or.inl ⟨?w4,?y4⟩) hHeld ?r4
 case h4=>simp only [gA0,gA1,gA2]; rfl
 case w4=>rfl
 case y4=>intro w hSw; (try dsimp only at hSw); go_simp; (try with_reducible rfl)
 simp only [Act.put,sA0,sA1,sA2]
 refine LastR.take (i:=5) (v:=?v5) (oi:=?o5) ?h5 (by kernel_rfl) (by kernel_rfl) (by kernel_rfl) (by kernel_rfl) (fun _ _ _ h=>h) (Or.inl ⟨?w5,?y5⟩) hHeld ?r5
 case h5=>simp only [gA0,gA1,gA2]; rfl
 case w5=>rfl
 case y5=>intro w hSw; (try dsimp only at hSw); go_simp; (try with_reducible rfl)
 simp only [Act.put,sA0,sA1,sA2]
 refine LastR.run (i:=6) (o:=?o6) ?h6 (by kernel_rfl) (fun K hK=>?s6)
 case h6=>simp only [gA0,gA1,gA2]; rfl
 refine step_mput (c:=q) (s:=s) (L:=V.L) (b:=b) rfl _ _ _ rfl rfl HSV.out rfl hHeld.2.2.2.2.2 HS.out HKN.out HQ1.out HQU.out ?_
 intro w9 hm9 hk9
 refine hK.out _ _ (fun h=>absurd rfl h) (fun _=>?_)
 clear hK K
 try simp only [Act.put,sA0,sA1,sA2]
 refine LastR.done (by kernel_rfl) ?_ _
 refine NoPanic.normal ?_
 go_wp2_with fail
 go_ret
 have kF:Kp (Fd F g b) w w5:=(k4.of_no _).trans' (hk5.mono fun k hk=>hk.1)
 have h5:VtR w5 (Up F w) g gd b ⟨V.D.put (q:Int) (frV s bs),V.L⟩:=HR.out.disk (put_n _ _ _) (hd5.mono fun k hk=>hk.imp (fun a=>a.1) (fun a=>Nat.le_trans k4.size a)) kF
 have h9:=VtR.map (w:=w5.drew) (w1:=w9) (h5.no (Kp.refl No w5).drew) hm9 hk9 HOK.out
 have hfin:VtPost w F g gd ⟨V.D.put (q:Int) (frV s bs),V.L ++ [(q,s)]⟩ (.int .i64 ((0:Nat):Int)) (.returned (.int .i64 0)) w9 :=
  ⟨rfl,⟨b,h9⟩,(kF.mono fun k hk=>hk.1).drew.trans' (hk9.mono fun k hk=>by subst hk; exact HR.out.fb)⟩
 rw [← HFU.out] at hfin
 exact hfin
end Go.Proofs.YtnfcfdhlmeimhaaGreat
