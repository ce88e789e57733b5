/- Package vault's opened, framed and Get, as contracts over memory. -/
import Derived.Test.YtnfcfdhlmeimhaaGreatSpaj
import Derived.Deep.DeepCutAuto
namespace Go.Proofs.YtnfcfdhlmeimhaaGreat
open Go.RowKit
set_option linter.unusedVariables false
set_option linter.unusedSimpArgs false
set_option maxRecDepth 20000
theorem Box4.all {w:World} {b:Nat} {x0 x1 x2 x3:Value} (h:Box4 w b x0 x1 x2 x3) (u0 u1 u2 u3:Value):Box4 ((((w.setCell ⟨b,0,none⟩ u0).setCell ⟨b,1,none⟩ u1).setCell ⟨b,2,none⟩ u2).setCell ⟨b,3,none⟩ u3) b u0 u1 u2 u3:=(((h.set0 u0).set1 u1).set2 u2).set3 u3
theorem kp4 {S:Nat→Prop} (w:World) (b:Nat) (u0 u1 u2 u3:Value) (hb:S b):Kp S w ((((w.setCell ⟨b,0,none⟩ u0).setCell ⟨b,1,none⟩ u1).setCell ⟨b,2,none⟩ u2).setCell ⟨b,3,none⟩ u3) :=
 (((Kp.setCell (p:=⟨b,0,none⟩) hb u0).trans' (Kp.setCell (p:=⟨b,1,none⟩) hb u1)).trans' (Kp.setCell (p:=⟨b,2,none⟩) hb u2)).trans' (Kp.setCell (p:=⟨b,3,none⟩) hb u3)
/-- What reading a cell's bytes comes to. -/
def OpdPost (w:World) (bs:List UInt8) (e:Ending) (w1:World):Prop :=
 ∃ A n c,e=.returned (.tuple #[shV (rdS bs),.slice A n c,.int .i64 (rdE bs:Int)])∧Own w1 w.heap.size 5 (.slice A n c) (rdB bs)∧Kp No w w1
theorem OpdPost.err {w w1:World} {bs:List UInt8} {er:Int} (h:er≠0∧er=(rdE bs:Int)) (hk:Kp No w w1):OpdPost w bs (.returned (.tuple #[.agg #[.int .u32 0,.int .u16 0,.int .u16 0,.int .u32 0],.slice none 0 0,.int .i64 er])) w1:=by
 have hs:rdS bs=0:=by unfold rdS; rw [if_neg (by omega)]
 have hb:rdB bs=[]:=by unfold rdB; rw [if_neg (by omega)]
 refine ⟨none,0,0,?_,by rw [hb]; exact Own.nil _ _ _,hk⟩
 rw [hs,h.2]
 rfl
theorem rdE_opE {bs:List UInt8} (h:opE bs≠0):rdE bs=opE bs:=by unfold rdE; rw [if_pos h]
theorem rdE_no {bs:List UInt8} (h0:opE bs=0) (h:¬ (opK bs=1∧12≤(opL bs).length∧bs.length=12+(opL bs).length)):rdE bs=21:=by unfold rdE; rw [if_neg (by omega),if_neg h]
theorem rdE_yes {bs:List UInt8} (h0:opE bs=0) (h:opK bs=1∧12≤(opL bs).length∧bs.length=12+(opL bs).length):rdE bs=0:=by unfold rdE; rw [if_neg (by omega),if_pos h]
theorem torn_no {w:World} {F:Nat→Prop} {g:Nat} {ys:List UInt8} (h:RdAt w F g ys):Calls Tryz.prog 58 #[.pointer (some ⟨g,0,none⟩)] w (BoolPost w false):=(rdtorn_any h).mono fun e w1 ⟨h1,h2⟩=>⟨h1,h2 ▸ Kp.refl _ _⟩
theorem torn_yes {w:World} {F:Nat→Prop} {g:Nat} {ys:List UInt8} (h:RdQ w F g ys true):Calls Tryz.prog 58 #[.pointer (some ⟨g,0,none⟩)] w (BoolPost w true):=(rdtorn_yes h).mono fun e w1 ⟨h1,h2⟩=>⟨h1,h2 ▸ Kp.refl _ _⟩
/-- A name is put into a box of its own. -/
structure NmB (w w3:World) (F:Nat→Prop) (x0 x1 x2 x3:Value) (W:World):Prop where
 nb:Box4 W w3.heap.size x0 x1 x2 x3
 rb:Box4 W w.heap.size (.int .u32 0) (.int .u16 0) (.int .u16 0) (.int .u32 0)
 kp:Kp No w W
 fk:Kp (fun q=>q=w3.heap.size) w3 W
 sz:w3.heap.size < W.heap.size
theorem NmB.new {w w3:World} {F:Nat→Prop} (R:Box4 w3 w.heap.size (.int .u32 0) (.int .u16 0) (.int .u16 0) (.int .u32 0)) (hk:Kp No w w3) (hs:w.heap.size < w3.heap.size) (x0 x1 x2 x3:Value) :
  NmB w w3 F x0 x1 x2 x3 (w3.alloc (.cells #[x0,x1,x2,x3] 53)):=by
 have hn:¬ (w.heap.size=w3.heap.size):=by omega
 exact ⟨Bx4.new w3 _ _ _ _,R.keep (Kp.alloc No w3 _) (fun f=>f),hk.trans' (Kp.alloc No w3 _),Kp.alloc _ w3 _,by simp⟩
theorem NmB.no {w w3 W W1:World} {F:Nat→Prop} {x0 x1 x2 x3:Value} (h:NmB w w3 F x0 x1 x2 x3 W) (hk:Kp No W W1):NmB w w3 F x0 x1 x2 x3 W1 :=
 ⟨h.nb.keep hk (fun f=>f),h.rb.keep hk (fun f=>f),h.kp.trans' hk,h.fk.trans' (hk.of_no _),Nat.lt_of_lt_of_le h.sz hk.size⟩
set_option maxHeartbeats 1000000 in
theorem opened_err {w:World} {A:Option Addr} {n c:Nat} {bs:List UInt8} (hb:Bts w (.slice A n c) bs) (hnc:n≤c) (hbig:n≤900000000) (h0':opE bs≠0):Calls Tryz.prog 93 #[.slice A n c] w (OpdPost w bs):=by
 have hlen:=hb.len
 have HLN:=hide hlen
 clear hlen
 obtain ⟨er,her⟩:∃ q,q=opE bs:=⟨_,rfl⟩
 obtain ⟨kd,hkd⟩:∃ q,q=opK bs:=⟨_,rfl⟩
 obtain ⟨sz,hsz⟩:∃ q,q=opN bs:=⟨_,rfl⟩
 obtain ⟨ld,hld⟩:∃ q,q=opL bs:=⟨_,rfl⟩
 have HER:=hide her
 have HKD:=hide hkd
 have HSZ:=hide hsz
 have HLD:=hide hld
 clear her hkd hsz hld
 go_enter Tryz.func93,Tryz.ntmps93
 go_wp2_with fail
 have R0:Box4 (w.alloc (.cells #[.int .u32 0,.int .u16 0,.int .u16 0,.int .u32 0] 53)) w.heap.size (.int .u32 0) (.int .u16 0) (.int .u16 0) (.int .u32 0):=Bx4.new w _ _ _ _
 have K0:Kp No w (w.alloc (.cells #[.int .u32 0,.int .u16 0,.int .u16 0,.int .u32 0] 53)):=Kp.alloc No w _
 refine (sopen_any (hb.no K0) hnc hbig).mono ?_
 rintro e w1 ⟨A5,n5,c5,rfl,ho5,hk5⟩
 rw [← HER.out,← HKD.out,← HSZ.out]
 rw [← HLD.out] at ho5
 have R1:=R0.keep hk5 (fun f=>f)
 have K1:=K0.trans' hk5
 have hs1:w.heap.size < w1.heap.size:=by have:=hk5.size; simp at this; omega
 clear R0 K0
 have h0:¬ er=0:=by rw [HER.out]; exact h0'
 have hne:((er:Int) != 0)=true:=by simp; omega
 have HFin:Hid ((er:Int)≠0∧(er:Int)=(rdE bs:Int)):=hide ⟨by omega,by rw [rdE_opE (by rw [← HER.out]; exact h0),HER.out]⟩
 clear h0
 have R9:=R1
 have K9:=K1
 clear R1 K1 hs1 hk5 ho5
 obtain ⟨t0,t1,t2,t3⟩:=R9.cell
 have g0:=R9.frozen 0
 have g1:=R9.frozen 1
 have g2:=R9.frozen 2
 have g3:=R9.frozen 3
 have R10:=R9.all (.int .u32 0) (.int .u16 0) (.int .u16 0) (.int .u32 0)
 obtain ⟨q0,q1,q2,q3⟩:=R10.cell
 have K10:=K9.trans (kp4 (S:=Up No w) _ w.heap.size (.int .u32 0) (.int .u16 0) (.int .u16 0) (.int .u32 0) (.inr (Nat.le_refl _)))
 have HK10:=hide K10
 clear K10 R10 K9 R9
 go_wp2_with fail
 refine bodyPost_ret (v:=.tuple #[.agg #[.int .u32 0,.int .u16 0,.int .u16 0,.int .u32 0],.slice none 0 0,.int .i64 er]) (by simp [results,Tryz.results93,go_sem,q0,q1,q2,q3]) rfl ?_
 exact OpdPost.err HFin.out HK10.out
set_option maxHeartbeats 1000000 in
theorem opened_short {w:World} {A:Option Addr} {n c:Nat} {bs:List UInt8} (hb:Bts w (.slice A n c) bs) (hnc:n≤c) (hbig:n≤900000000) (h0':opE bs=0) (hsh:(opL bs).length < 12):Calls Tryz.prog 93 #[.slice A n c] w (OpdPost w bs):=by
 have hlen:=hb.len
 have HLN:=hide hlen
 clear hlen
 obtain ⟨er,her⟩:∃ q,q=opE bs:=⟨_,rfl⟩
 obtain ⟨kd,hkd⟩:∃ q,q=opK bs:=⟨_,rfl⟩
 obtain ⟨sz,hsz⟩:∃ q,q=opN bs:=⟨_,rfl⟩
 obtain ⟨ld,hld⟩:∃ q,q=opL bs:=⟨_,rfl⟩
 have HER:=hide her
 have HKD:=hide hkd
 have HSZ:=hide hsz
 have HLD:=hide hld
 rw [← hld] at hsh
 clear her hkd hsz hld
 go_enter Tryz.func93,Tryz.ntmps93
 go_wp2_with fail
 have R0:Box4 (w.alloc (.cells #[.int .u32 0,.int .u16 0,.int .u16 0,.int .u32 0] 53)) w.heap.size (.int .u32 0) (.int .u16 0) (.int .u16 0) (.int .u32 0):=Bx4.new w _ _ _ _
 have K0:Kp No w (w.alloc (.cells #[.int .u32 0,.int .u16 0,.int .u16 0,.int .u32 0] 53)):=Kp.alloc No w _
 refine (sopen_any (hb.no K0) hnc hbig).mono ?_
 rintro e w1 ⟨A5,n5,c5,rfl,ho5,hk5⟩
 rw [← HER.out,← HKD.out,← HSZ.out]
 rw [← HLD.out] at ho5
 have R1:=R0.keep hk5 (fun f=>f)
 have K1:=K0.trans' hk5
 have hs1:w.heap.size < w1.heap.size:=by have:=hk5.size; simp at this; omega
 clear R0 K0
 have h0:er=0:=by rw [HER.out]; exact h0'
 subst h0
 have hN:=opN_eq HER.out.symm
 rw [← HSZ.out,← HLD.out] at hN
 have HN:=hide hN
 have hkdl:kd < 65536:=by rw [HKD.out]; unfold opK; rw [if_pos HER.out.symm]; exact kdO_lt bs
 have hldl:ld.length≤900000000:=by have:=hN.2; have:=HLN.out; omega
 clear hN
 go_wp2_with fail
 refine (read_any ho5.bts hldl).mono ?_
 rintro e w2 ⟨g,rfl,hr2,hk2⟩
 have hg2:w1.heap.size≤g∧g < w2.heap.size:=hr2.in_
 have R2:=R1.keep hk2 (fun f=>f)
 have K2:=K1.trans' hk2
 have ngr:¬ w.heap.size=g:=by omega
 clear R1 K1
 have hFr:∀ k,(fun k=>w1.heap.size≤k∧k < w2.heap.size) k→k < w2.heap.size:=fun k hk=>hk.2
 have hz2:=hk2.size
 clear ho5
 have HFin:Hid ((21:Int)≠0∧(21:Int)=(rdE bs:Int)):=hide ⟨by omega,by rw [rdE_no HER.out.symm (by rw [← HLD.out]; omega)]; rfl⟩
 go_wp2_with fail
 refine (shq_any hr2.q hsh hFr).mono ?_
 rintro e w3 ⟨⟨x0,x1,x2,x3,rfl⟩,hr3,hk3⟩
 have R3:=R2.keep hk3 ngr
 have hz3:=hk3.size
 have hws:w.heap.size < w3.heap.size:=by omega
 have K3:Kp No w w3:=K2.trans (hk3.mono fun q hq=>.inr (by subst hq; omega))
 clear R2 K2
 have NB:=NmB.new (F:=fun k=>w1.heap.size≤k∧k < w2.heap.size) R3 K3 hws (.int .u32 x0) (.int .u16 x1) (.int .u16 x2) (.int .u32 x3)
 have hr5:=hr3.keep NB.fk (fun k hk e=>by have:=hk.2; have e':k=w3.heap.size:=e; omega)
 clear R3 K3 hr3 hk3
 go_upto_region 6 with fail
 generalize w3.alloc (.cells #[.int .u32 x0,.int .u16 x1,.int .u16 x2,.int .u32 x3] 53)=wx at NB hr5 ⊢
 have R9:=NB.rb
 have K9:=NB.kp
 by_cases hk1:kd=1
 ·subst hk1
  by_cases hs:sz=n
  ·subst hs
   clear R9 K9
   go_wp2_with fail
   refine (torn_yes hr5).mono ?_
   rintro e w5 ⟨rfl,hk5'⟩
   have NB6:=NB.no hk5'
   have R9:=NB6.rb
   have K9:=NB6.kp
   clear NB NB6 hr5 hk5'
   obtain ⟨t0,t1,t2,t3⟩:=R9.cell
   have g0:=R9.frozen 0
   have g1:=R9.frozen 1
   have g2:=R9.frozen 2
   have g3:=R9.frozen 3
   have R10:=R9.all (.int .u32 0) (.int .u16 0) (.int .u16 0) (.int .u32 0)
   obtain ⟨q0,q1,q2,q3⟩:=R10.cell
   have K10:=K9.trans (kp4 (S:=Up No w) _ w.heap.size (.int .u32 0) (.int .u16 0) (.int .u16 0) (.int .u32 0) (.inr (Nat.le_refl _)))
   have HK10:=hide K10
   clear K10 R10 K9 R9
   go_wp2_with fail
   refine bodyPost_ret (v:=.tuple #[.agg #[.int .u32 0,.int .u16 0,.int .u16 0,.int .u32 0],.slice none 0 0,.int .i64 21]) (by simp [results,Tryz.results93,go_sem,q0,q1,q2,q3]) rfl ?_
   exact OpdPost.err HFin.out HK10.out
  ·have hsne:((sz:Int) != (n:Int))=true:=by simp; omega
   clear hs NB hr5
   obtain ⟨t0,t1,t2,t3⟩:=R9.cell
   have g0:=R9.frozen 0
   have g1:=R9.frozen 1
   have g2:=R9.frozen 2
   have g3:=R9.frozen 3
   have R10:=R9.all (.int .u32 0) (.int .u16 0) (.int .u16 0) (.int .u32 0)
   obtain ⟨q0,q1,q2,q3⟩:=R10.cell
   have K10:=K9.trans (kp4 (S:=Up No w) _ w.heap.size (.int .u32 0) (.int .u16 0) (.int .u16 0) (.int .u32 0) (.inr (Nat.le_refl _)))
   have HK10:=hide K10
   clear K10 R10 K9 R9
   go_wp2_with fail
   refine bodyPost_ret (v:=.tuple #[.agg #[.int .u32 0,.int .u16 0,.int .u16 0,.int .u32 0],.slice none 0 0,.int .i64 21]) (by simp [results,Tryz.results93,go_sem,q0,q1,q2,q3]) rfl ?_
   exact OpdPost.err HFin.out HK10.out
 ·have hkne:((kd:Int) != 1)=true:=by simp; omega
  clear hk1 NB hr5
  obtain ⟨t0,t1,t2,t3⟩:=R9.cell
  have g0:=R9.frozen 0
  have g1:=R9.frozen 1
  have g2:=R9.frozen 2
  have g3:=R9.frozen 3
  have R10:=R9.all (.int .u32 0) (.int .u16 0) (.int .u16 0) (.int .u32 0)
  obtain ⟨q0,q1,q2,q3⟩:=R10.cell
  have K10:=K9.trans (kp4 (S:=Up No w) _ w.heap.size (.int .u32 0) (.int .u16 0) (.int .u16 0) (.int .u32 0) (.inr (Nat.le_refl _)))
  have HK10:=hide K10
  clear K10 R10 K9 R9
  go_wp2_with fail
  refine bodyPost_ret (v:=.tuple #[.agg #[.int .u32 0,.int .u16 0,.int .u16 0,.int .u32 0],.slice none 0 0,.int .i64 21]) (by simp [results,Tryz.results93,go_sem,q0,q1,q2,q3]) rfl ?_
  exact OpdPost.err HFin.out HK10.out
set_option maxHeartbeats 1000000 in
theorem opened_long {w:World} {A:Option Addr} {n c:Nat} {bs:List UInt8} (hb:Bts w (.slice A n c) bs) (hnc:n≤c) (hbig:n≤900000000) (h0':opE bs=0) (hlg:12≤(opL bs).length):Calls Tryz.prog 93 #[.slice A n c] w (OpdPost w bs):=by
 have hlen:=hb.len
 have HLN:=hide hlen
 clear hlen
 obtain ⟨er,her⟩:∃ q,q=opE bs:=⟨_,rfl⟩
 obtain ⟨kd,hkd⟩:∃ q,q=opK bs:=⟨_,rfl⟩
 obtain ⟨sz,hsz⟩:∃ q,q=opN bs:=⟨_,rfl⟩
 obtain ⟨ld,hld⟩:∃ q,q=opL bs:=⟨_,rfl⟩
 have HER:=hide her
 have HKD:=hide hkd
 have HSZ:=hide hsz
 have HLD:=hide hld
 rw [← hld] at hlg
 clear her hkd hsz hld
 go_enter Tryz.func93,Tryz.ntmps93
 go_wp2_with fail
 have R0:Box4 (w.alloc (.cells #[.int .u32 0,.int .u16 0,.int .u16 0,.int .u32 0] 53)) w.heap.size (.int .u32 0) (.int .u16 0) (.int .u16 0) (.int .u32 0):=Bx4.new w _ _ _ _
 have K0:Kp No w (w.alloc (.cells #[.int .u32 0,.int .u16 0,.int .u16 0,.int .u32 0] 53)):=Kp.alloc No w _
 refine (sopen_any (hb.no K0) hnc hbig).mono ?_
 rintro e w1 ⟨A5,n5,c5,rfl,ho5,hk5⟩
 rw [← HER.out,← HKD.out,← HSZ.out]
 rw [← HLD.out] at ho5
 have R1:=R0.keep hk5 (fun f=>f)
 have K1:=K0.trans' hk5
 have hs1:w.heap.size < w1.heap.size:=by have:=hk5.size; simp at this; omega
 clear R0 K0
 have h0:er=0:=by rw [HER.out]; exact h0'
 subst h0
 have hN:=opN_eq HER.out.symm
 rw [← HSZ.out,← HLD.out] at hN
 have HN:=hide hN
 have hkdl:kd < 65536:=by rw [HKD.out]; unfold opK; rw [if_pos HER.out.symm]; exact kdO_lt bs
 have hldl:ld.length≤900000000:=by have:=hN.2; have:=HLN.out; omega
 clear hN
 go_wp2_with fail
 refine (read_any ho5.bts hldl).mono ?_
 rintro e w2 ⟨g,rfl,hr2,hk2⟩
 have hg2:w1.heap.size≤g∧g < w2.heap.size:=hr2.in_
 have R2:=R1.keep hk2 (fun f=>f)
 have K2:=K1.trans' hk2
 have ngr:¬ w.heap.size=g:=by omega
 clear R1 K1
 have hFr:∀ k,(fun k=>w1.heap.size≤k∧k < w2.heap.size) k→k < w2.heap.size:=fun k hk=>hk.2
 have hz2:=hk2.size
 clear ho5
 have hnp:=nm_parts hlg
 obtain ⟨nm,hnm⟩:∃ q,q=nmO ld:=⟨_,rfl⟩
 have hnl:nm < N96:=hnm ▸ nmO_lt ld
 rw [← hnm] at hnp
 have HNM:=hide hnm
 clear hnm
 have hr2':RdAt w2 (fun k=>w1.heap.size≤k∧k < w2.heap.size) g (shardB (cO nm) (cS nm) (cL nm) (cG nm) ++ ld.drop 12):=by
  have e:shardB (cO nm) (cS nm) (cL nm) (cG nm) ++ ld.drop 12=ld:=hnp
  rw [e]; exact hr2
 clear hr2 hnp
 have hsh:=rdshard_any (cO nm) (cS nm) (cL nm) (cG nm) (cO_lt hnl) (cS_lt _) (cL_lt _) (cG_lt _) hr2' hFr
 clear hr2'
 have HQ:Hid (kd=1→sz=n→rdE bs=0∧rdS bs=nm∧rdB bs=ld.drop 12):=hide fun e1 e2=>by
  have e3:=rdE_yes HER.out.symm (by have:=HN.out; have:=HLN.out; have:=HKD.out; rw [← HLD.out]; omega)
  exact ⟨e3,by unfold rdS; rw [if_pos e3,HNM.out,HLD.out],by unfold rdB; rw [if_pos e3,HLD.out]⟩
 unfold shV at hsh
 generalize hn0:cO nm=n0 at hsh
 generalize hn1:cS nm=n1 at hsh
 generalize hn2:cL nm=n2 at hsh
 generalize hn3:cG nm=n3 at hsh
 have HNS:=hide (And.intro (And.intro hn0 hn1) (And.intro hn2 hn3))
 clear hn0 hn1 hn2 hn3
 go_wp2_with fail
 refine hsh.mono ?_
 rintro e w3 ⟨rfl,hr3,hk3⟩
 clear hsh
 have R3:=R2.keep hk3 ngr
 have hz3:=hk3.size
 have hws:w.heap.size < w3.heap.size:=by omega
 have K3:Kp No w w3:=K2.trans (hk3.mono fun q hq=>.inr (by subst hq; omega))
 clear R2 K2
 have NB:=NmB.new (F:=fun k=>w1.heap.size≤k∧k < w2.heap.size) R3 K3 hws (.int .u32 (n0:Int)) (.int .u16 (n1:Int)) (.int .u16 (n2:Int)) (.int .u32 (n3:Int))
 have hr5:=hr3.keep NB.fk (fun k hk e=>by have:=hk.2; have e':k=w3.heap.size:=e; omega)
 clear R3 K3 hr3 hk3
 go_upto_region 6 with fail
 generalize w3.alloc (.cells #[.int .u32 (n0:Int),.int .u16 (n1:Int),.int .u16 (n2:Int),.int .u32 (n3:Int)] 53)=wx at NB hr5 ⊢
 have R9:=NB.rb
 have K9:=NB.kp
 by_cases hk1:kd=1
 ·subst hk1
  by_cases hs:sz=n
  ·subst hs
   clear R9 K9
   go_wp2_with fail
   refine (torn_no hr5).mono ?_
   rintro e w6 ⟨rfl,hk5'⟩
   have NB6:=NB.no hk5'
   have R6:=NB6.rb
   have K6:=NB6.kp
   have hr6:=hr5.no hk5'
   obtain ⟨p0,p1,p2,p3⟩:=NB6.nb.cell
   have z6:=NB6.sz
   have ngn:¬ w3.heap.size=g:=by omega
   have nrn:¬ w3.heap.size=w.heap.size:=by omega
   have k4n:∀ W:World,Kp (fun q=>q=w.heap.size) W ((((W.setCell ⟨w.heap.size,0,none⟩ (.int .u32 (n0:Int))).setCell ⟨w.heap.size,1,none⟩ (.int .u16 (n1:Int))).setCell ⟨w.heap.size,2,none⟩ (.int .u16 (n2:Int))).setCell ⟨w.heap.size,3,none⟩ (.int .u32 (n3:Int))):=fun W=>kp4 W _ _ _ _ _ rfl
   clear NB NB6 hr5 hk5'
   go_wp2_with fail
   refine wp_region_noPanic ?_
   refine wp_region_held_drew (S:=fun w'=>w'.cell? ⟨w3.heap.size,0,none⟩=some (.int .u32 (n0:Int))∧w'.cell? ⟨w3.heap.size,1,none⟩=some (.int .u16 (n1:Int))∧w'.cell? ⟨w3.heap.size,2,none⟩=some (.int .u16 (n2:Int))∧w'.cell? ⟨w3.heap.size,3,none⟩=some (.int .u32 (n3:Int))) (by kernel_rfl) (⟨p0,p1,p2,p3⟩) (fun hHeld=>?_)
   refine wpAnyH_take (i:=0) (v:=?v0) (oi:=?o0) ?h0 (by kernel_rfl) (by kernel_rfl) (by kernel_rfl) (fun _ _ _ h=>h) (Or.inl ⟨?w0,?y0⟩) hHeld ?r0
   case h0=>simp only [gA0,gA1,gA2]; rfl
   case w0=>rfl
   case y0=>intro w hSw; (try dsimp only at hSw); go_simp; (try with_reducible rfl)
   simp only [Act.put,sA0,sA1,sA2]
   refine wpAnyH_take (i:=1) (v:=?v1) (oi:=?o1) ?h1 (by kernel_rfl) (by kernel_rfl) (by kernel_rfl) (fun _ _ _ h=>h) (Or.inl ⟨?w1,?y1⟩) hHeld ?r1
   case h1=>simp only [gA0,gA1,gA2]; rfl
   case w1=>rfl
   case y1=>intro w hSw; (try dsimp only at hSw); go_simp; (try with_reducible rfl)
   simp only [Act.put,sA0,sA1,sA2]
   refine wpAnyH_ready (rs:=[2]) (by kernel_rfl) (by simp) ?_
   refine AllReadyH.cons (o:=?o2) ?h2 (fun K hK=>?s2) AllReadyH.nil
   case h2=>simp only [gA0,gA1,gA2]; rfl
   go_simp
   refine (rdrest_any (hr6.no (Kp.refl No w6).drew) (by rw [List.length_drop]; omega)).mono ?_
   rintro e w7 ⟨A7,n7,c7,rfl,ho7,hr7,hk7⟩
   have k7:Kp (fun b=>b=g) w6 w7:=(Kp.refl _ w6).drew.trans' hk7
   have R7:=R6.keep k7 ngr
   refine hK.out _ _ (⟨hk7.cell hHeld.1 ngn,hk7.cell hHeld.2.1 ngn,hk7.cell hHeld.2.2.1 ngn,hk7.cell hHeld.2.2.2 ngn⟩) (fun hHeld=>?_)
   clear hK K
   try simp only [Act.put,sA0,sA1,sA2]
   refine wpAnyH_ready (rs:=[3]) (by kernel_rfl) (by simp) ?_
   refine AllReadyH.cons (o:=?o3) ?h3 (fun K hK=>?s3) AllReadyH.nil
   case h3=>simp only [gA0,gA1,gA2]; rfl
   obtain ⟨t0,t1,t2,t3⟩:=R7.cell
   have g0:=R7.frozen 0
   have g1:=R7.frozen 1
   have g2:=R7.frozen 2
   have g3:=R7.frozen 3
   go_simp
   refine hK.out _ _ (⟨(k4n w7).cell hHeld.1 nrn,(k4n w7).cell hHeld.2.1 nrn,(k4n w7).cell hHeld.2.2.1 nrn,(k4n w7).cell hHeld.2.2.2 nrn⟩) (fun hHeld=>?_)
   clear hK K
   try simp only [Act.put,sA0,sA1,sA2]
   refine wpAnyH_take (i:=4) (v:=?v4) (oi:=?o4) ?h4 (by kernel_rfl) (by kernel_rfl) (by kernel_rfl) (fun _ _ _ h=>h) (Or.inl ⟨?w4,?y4⟩) hHeld ?r4
   case h4=>simp only [gA0,gA1,gA2]; rfl
   case w4=>rfl
   case y4=>intro w hSw; (try dsimp only at hSw); go_simp; (try with_reducible rfl)
   simp only [Act.put,sA0,sA1,sA2]
   refine wpAnyH_take (i:=5) (v:=?v5) (oi:=?o5) ?h5 (by kernel_rfl) (by kernel_rfl) (by kernel_rfl) (fun _ _ _ h=>h) (Or.inl ⟨?w5,?y5⟩) hHeld ?r5
   case h5=>simp only [gA0,gA1,gA2]; rfl
   case w5=>rfl
   case y5=>intro w hSw; (try dsimp only at hSw); go_simp; (try with_reducible rfl)
   simp only [Act.put,sA0,sA1,sA2]
   refine wpAnyH_done (by kernel_rfl) ?_ _
   refine NoPanic.normal ?_
   have R10:=R7.all (.int .u32 (n0:Int)) (.int .u16 (n1:Int)) (.int .u16 (n2:Int)) (.int .u32 (n3:Int))
   obtain ⟨q0,q1,q2,q3⟩:=R10.cell
   have hQ:=HQ.out (by trivial) (by trivial)
   have kw7:Kp No w w7:=K6.trans (k7.mono fun q hq=>.inr (by subst hq; omega))
   have kw:Kp No w ((((w7.setCell ⟨w.heap.size,0,none⟩ (.int .u32 (n0:Int))).setCell ⟨w.heap.size,1,none⟩ (.int .u16 (n1:Int))).setCell ⟨w.heap.size,2,none⟩ (.int .u16 (n2:Int))).setCell ⟨w.heap.size,3,none⟩ (.int .u32 (n3:Int))):=kw7.trans ((k4n w7).mono fun q hq=>.inr (by subst hq; exact Nat.le_refl _))
   have how:∀ k,(Value.slice A7 n7 c7).ownBlock=some k→w.heap.size < k:=fun k hk=>by have:=ho7.ge k hk; have:=(Kp.refl No w6).drew.size; omega
   have ho9:=(ho7.keep (k4n w7) (fun k hk e=>by have:=how k hk; have e':k=w.heap.size:=e; omega)).rebase (b:=w.heap.size) fun k hk=>Nat.le_of_lt (how k hk)
   go_wp2_with fail
   refine bodyPost_ret (v:=.tuple #[.agg #[.int .u32 (n0:Int),.int .u16 (n1:Int),.int .u16 (n2:Int),.int .u32 (n3:Int)],.slice A7 n7 c7,.int .i64 0]) (by simp [results,Tryz.results93,go_sem,q0,q1,q2,q3]) rfl ?_
   refine ⟨A7,n7,c7,?_,by rw [hQ.2.2]; exact ho9,kw⟩
   rw [hQ.1,hQ.2.1,← HNS.out.1.1,← HNS.out.1.2,← HNS.out.2.1,← HNS.out.2.2]
   rfl
  ·have hsne:((sz:Int) != (n:Int))=true:=by simp; omega
   have HFin:Hid ((21:Int)≠0∧(21:Int)=(rdE bs:Int)):=hide ⟨by omega,by rw [rdE_no HER.out.symm (by have:=HLN.out; have:=HN.out; have:=HKD.out; rw [← HLD.out]; omega)]; rfl⟩
   clear hs NB hr5
   obtain ⟨t0,t1,t2,t3⟩:=R9.cell
   have g0:=R9.frozen 0
   have g1:=R9.frozen 1
   have g2:=R9.frozen 2
   have g3:=R9.frozen 3
   have R10:=R9.all (.int .u32 0) (.int .u16 0) (.int .u16 0) (.int .u32 0)
   obtain ⟨q0,q1,q2,q3⟩:=R10.cell
   have K10:=K9.trans (kp4 (S:=Up No w) _ w.heap.size (.int .u32 0) (.int .u16 0) (.int .u16 0) (.int .u32 0) (.inr (Nat.le_refl _)))
   have HK10:=hide K10
   clear K10 R10 K9 R9
   go_wp2_with fail
   refine bodyPost_ret (v:=.tuple #[.agg #[.int .u32 0,.int .u16 0,.int .u16 0,.int .u32 0],.slice none 0 0,.int .i64 21]) (by simp [results,Tryz.results93,go_sem,q0,q1,q2,q3]) rfl ?_
   exact OpdPost.err HFin.out HK10.out
 ·have hkne:((kd:Int) != 1)=true:=by simp; omega
  have HFin:Hid ((21:Int)≠0∧(21:Int)=(rdE bs:Int)):=hide ⟨by omega,by rw [rdE_no HER.out.symm (by have:=HLN.out; have:=HN.out; have:=HKD.out; rw [← HLD.out]; omega)]; rfl⟩
  clear hk1 NB hr5
  obtain ⟨t0,t1,t2,t3⟩:=R9.cell
  have g0:=R9.frozen 0
  have g1:=R9.frozen 1
  have g2:=R9.frozen 2
  have g3:=R9.frozen 3
  have R10:=R9.all (.int .u32 0) (.int .u16 0) (.int .u16 0) (.int .u32 0)
  obtain ⟨q0,q1,q2,q3⟩:=R10.cell
  have K10:=K9.trans (kp4 (S:=Up No w) _ w.heap.size (.int .u32 0) (.int .u16 0) (.int .u16 0) (.int .u32 0) (.inr (Nat.le_refl _)))
  have HK10:=hide K10
  clear K10 R10 K9 R9
  go_wp2_with fail
  refine bodyPost_ret (v:=.tuple #[.agg #[.int .u32 0,.int .u16 0,.int .u16 0,.int .u32 0],.slice none 0 0,.int .i64 21]) (by simp [results,Tryz.results93,go_sem,q0,q1,q2,q3]) rfl ?_
  exact OpdPost.err HFin.out HK10.out
theorem opened_any {w:World} {A:Option Addr} {n c:Nat} {bs:List UInt8} (hb:Bts w (.slice A n c) bs) (hnc:n≤c) (hbig:n≤900000000):Calls Tryz.prog 93 #[.slice A n c] w (OpdPost w bs):=by
 by_cases h0:opE bs=0
 ·rcases Nat.lt_or_ge (opL bs).length 12 with h | h
  ·exact opened_short hb hnc hbig h0 h
  ·exact opened_long hb hnc hbig h0 h
 ·exact opened_err hb hnc hbig h0
end Go.Proofs.YtnfcfdhlmeimhaaGreat
