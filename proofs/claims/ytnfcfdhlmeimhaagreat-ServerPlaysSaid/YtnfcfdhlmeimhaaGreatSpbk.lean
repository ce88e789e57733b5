/- What a node's sizes are after so many calls; law 16's awake, as a contract over memory; The document's node of layer 16 in memory; its New and Restart, as contracts (printed by tools/gen_ndm.py); The document's Restart and does of layer 16, as contracts over memory (printed by tools/gen_ndn.py). -/
import Derived.Test.YtnfcfdhlmeimhaaGreatSpbb
import Derived.Test.YtnfcfdhlmeimhaaGreatSpbj
import Derived.Test.YtnfcfdhlmeimhaaGreatSpaq
import Derived.Test.YtnfcfdhlmeimhaaGreatSpbe
import Derived.Test.YtnfcfdhlmeimhaaGreatSpbd
import Derived.Test.YtnfcfdhlmeimhaaGreatSpay
import Derived.Test.YtnfcfdhlmeimhaaGreatSpao
import Derived.Test.YtnfcfdhlmeimhaaGreatSpax
import Derived.Test.YtnfcfdhlmeimhaaGreatSpbi
namespace Go.Proofs.YtnfcfdhlmeimhaaGreat
open Go.RowKit
set_option linter.unusedVariables false
set_option linter.unusedSimpArgs false
set_option maxRecDepth 20000
/-- So much has a node done at most; its disk has c cells of z bytes. -/
structure NdS (c z m:Nat) (N:Nd):Prop where
 n:N.V.D.cells.length=c
 z:N.V.D.size=z
 l:N.V.D.loose.length≤m
 s:N.V.D.syncs≤m
 d:N.done≤m
section
variable {n a c z m:Nat} {x:Nat→UInt8} {N:Nd} {q:Rq} {bs:List UInt8}
theorem NdS.szk (h:NdS c z m N) (hc:c≤1000) (hz:z≤1000) (hm:m≤100000):SzK N.V:=⟨by rw [h.n]; exact hc,by have:=h.l; omega,by have:=h.s; omega,by rw [h.z]; exact hz⟩
theorem Vt.bg_size (V:Vt) (s:Nat) (b:List UInt8):(V.bg s b).D.size=V.D.size:=by
 by_cases e:V.bgE s b=0
 ·rw [Vt.bg_yes e]; exact put_size _ _ _
 ·rw [Vt.bg_no e]
theorem Vt.pt_size (V:Vt) (s:Nat) (b:List UInt8):(V.pt s b).D.size=V.D.size:=by
 by_cases e:V.bgE s b=0
 ·rw [Vt.pt_yes e]; exact V.bg_size s b
 ·rw [Vt.pt_no e]
theorem Vt.dr_size (V:Vt) (s:Nat):(V.dr s).D.size=V.D.size:=by
 by_cases e:V.drE s=0
 ·rw [Vt.dr_yes e]; exact put_size _ _ _
 ·rw [Vt.dr_no e]
theorem ndV_nmk (V:Vt) (q:Rq):NmK V (ndV V q)∧(ndV V q).D.size=V.D.size:=by
 unfold ndV
 split
 ·exact ⟨V.npt _ _,V.pt_size _ _⟩
 ·split
  ·exact ⟨V.ndr _,V.dr_size _⟩
  ·exact ⟨V.nsame,rfl⟩
theorem NdS.mono (h:NdS c z m N) {m':Nat} (hm:m≤m'):NdS c z m' N:=⟨h.n,h.z,Nat.le_trans h.l hm,Nat.le_trans h.s hm,Nat.le_trans h.d hm⟩
theorem NdS.hand (h:NdS c z m N):NdS c z (m+1) (N.hand n a x q):=by
 rcases ho:N.old q with _ | p
 ·rw [(Nd.hand_none (n:=n) (a:=a) (x:=x) ho).1]
  obtain ⟨h1,h2⟩:=ndV_nmk N.V q
  exact ⟨h1.n.trans h.n,h2.trans h.z,by have:=h1.l; have:=h.l; show (ndV N.V q).D.loose.length≤_; omega,by have:=h1.s; have:=h.s; show (ndV N.V q).D.syncs≤_; omega,Nat.succ_le_succ h.d⟩
 ·rw [(Nd.hand_some (n:=n) (a:=a) (x:=x) ho).1]
  exact h.mono (Nat.le_succ _)
theorem NdS.handB (h:NdS c z m N):NdS c z (m+1) (N.handB n a x bs):=by
 unfold Nd.handB
 split
 ·exact h.hand
 ·exact h.mono (Nat.le_succ _)
theorem NdS.restart (h:NdS c z m N) (u v:Int):NdS c z (m+1) (N.restart u v) :=
 ⟨(Dk.torn_len _ _ _).trans h.n,h.z,Nat.zero_le _,Nat.le_succ_of_le h.s,Nat.zero_le _⟩
theorem NdS.trip (h:NdS c z m N) (u v:Int):NdS c z (m+1) (N.trip bs u v):=by
 have hb:NmK N.V (Nd.begun N.V bs)∧(Nd.begun N.V bs).D.size=N.V.D.size:=by
  unfold Nd.begun
  split
  ·exact ⟨N.V.nbg _ _,N.V.bg_size _ _⟩
  ·exact ⟨N.V.nsame,rfl⟩
 exact ⟨(Dk.torn_len _ _ _).trans (hb.1.n.trans h.n),hb.2.trans h.z,Nat.zero_le _,by have:=hb.1.s; have:=h.s; show (Nd.begun N.V bs).D.syncs≤_; omega,Nat.zero_le _⟩
theorem NdS.new (c z:Nat):NdS c z 0 (Nd.up (Dk.new c z)):=⟨by show (List.replicate c []).length=c; simp,rfl,Nat.le_refl _,Nat.le_refl _,Nat.le_refl _⟩
end
/-- The chapter's example. -/
abbrev aw16:Nd:=Nd.up (Dk.new 3 50)
theorem aw16_get:aw16.V.gtE 0=6:=by decide +kernel
abbrev aw16q:Rq:=⟨9,3,0,0,[]⟩
theorem aw16_fit:aw16q.Fit:=⟨by decide,by decide,by decide⟩
theorem aw16_out (x:Nat→UInt8):aw16.outB 3 1 x aw16q.bytes=Rp.bytes ⟨9,6,[]⟩∧(aw16.handB 3 1 x aw16q.bytes).done=1:=by
 have h1:rqE aw16q.bytes=true:=Rq.read aw16_fit (by decide)
 have h2:rqO aw16q.bytes=aw16q:=Rq.back aw16_fit (by decide)
 obtain ⟨e1,e2⟩:=Nd.handB_yes (n:=3) (a:=1) (x:=x) (N:=aw16) h1
 rw [e1,e2,h2]
 obtain ⟨e3,e4⟩:=Nd.hand_none (n:=3) (a:=1) (x:=x) (Nd.old_none (N:=aw16) (q:=aw16q) (by decide))
 rw [e3,e4]
 have e5:ndE 3 1 aw16.V aw16q=6:=(ndE_3 rfl).trans aw16_get
 have e6:ndB 3 1 x aw16.V aw16q=[]:=ndB_nil (by rw [e5]; decide)
 refine ⟨?_,rfl⟩
 unfold ndP
 rw [e5,e6]
 rfl
set_option maxHeartbeats 4000000 in
theorem awake16_any (w:World):Calls Tryz.prog 5 #[] w (TruePost w):=by
 obtain ⟨x,hP⟩:=pts_ex (n:=3) (a:=1) (by omega) (by omega) (by omega)
 have hD:Dim 3 2 1 2 2:=⟨rfl,rfl,rfl,by omega,by omega,by omega,by omega⟩
 have HN:=hide (mnew_yes w hD hP)
 have HD:=hide hD
 have HBY:Hid (∀ w',Calls Tryz.prog 29 #[rqV aw16q (.slice none 0 0)] w' (OwnPost w' aw16q.bytes)):=fun w'=>bytes15_any aw16q aw16_fit (by decide) (Bts.nil _) (by decide)
 clear hD hP
 go_enter Tryz.func5,Tryz.ntmps5
 go_wp2_with fail
 refine HN.out.mono ?_
 rintro e w1 ⟨gc,rfl,hC,k1⟩
 have HC:=hide (CdF.of hC (by omega))
 have HK1:=hide k1
 clear hC k1
 go_wp2_with fail
 refine (pnew_yes w1 3 50 (by omega) (by omega) (by omega) (by omega)).mono ?_
 rintro e w2 ⟨gd,rfl,hgd,hD2,k2⟩
 have HC2:=hide (HC.out.no k2)
 have HZ1:Hid (w.heap.size≤w1.heap.size):=HK1.out.size
 have HZ2:Hid (w1.heap.size≤w2.heap.size):=k2.size
 have HD2:=hide hD2
 have HK2:=hide (HK1.out.trans' k2)
 clear hD2 k2
 go_wp2_with fail
 refine (snew_any HC2.out HD2.out (fun z f=>f)).mono ?_
 rintro e w3 ⟨g,rfl,_,⟨gv,b,rv,hs⟩,k3⟩
 have HS:=hide hs
 have HK3:=hide (HK2.out.trans' k3)
 clear hs k3
 go_wp2_with fail
 refine (HBY.out _).mono ?_
 rintro e w4 ⟨A4,n4,c4,rfl,ho4,k4⟩
 have HO4:=hide ho4
 have HS4:=hide (HS.out.no k4)
 have HK4:=hide (HK3.out.trans' k4)
 clear ho4 k4
 go_wp2_with fail
 refine (shandle_any HS4.out HD.out ((NdS.new 3 50).szk (by omega) (by omega) (by omega)) HO4.out.bts (by rw [Rq.bytes_len]; decide) (by decide)).mono ?_
 rintro e w5 ⟨A5,n5,c5,rfl,ho5,hs5,k5⟩
 rw [(aw16_out x).1] at ho5
 have HO5:=hide ho5
 obtain ⟨F5,⟨gv5,b5,rv5,hs5⟩,_⟩:=hs5
 have hb5:=hs5.blk
 rw [(aw16_out x).2] at hb5
 have HB5:=hide hb5
 have HK5:=hide (HK4.out.trans (k5.mono fun z f=>.inr (f.elim (fun f=>Nat.le_trans HZ1.out f) fun f=>Nat.le_trans HZ1.out (Nat.le_trans HZ2.out f))))
 clear ho5 hs5 k5 hb5
 go_wp2_with fail
 refine (parsep_any HO5.out.bts (by rw [Rp.bytes_len]; decide) ⟨9,6,[]⟩ 0 (fun _=>⟨(Rp.back (by decide) (by decide)).symm,rfl⟩) (fun e=>by rw [Rp.read (by decide) (by decide)] at e; cases e)).mono ?_
 rintro e w6 ⟨A6,n6,c6,rfl,_,k6⟩
 have HB6:=hide ((HB5.out.no k6).no (Kp.alloc No _ (.cells #[.int .u64 9,.int .i64 6,.slice A6 n6 c6] 81)))
 have HK6:=hide ((HK5.out.trans' k6).al (.cells #[.int .u64 9,.int .i64 6,.slice A6 n6 c6] 81))
 have HX:=hide (Bx3.new w6 81 (.int .u64 9) (.int .i64 6) (.slice A6 n6 c6))
 clear k6
 go_upto_region 5 with (fail)
 generalize w6.alloc (.cells #[.int .u64 9,.int .i64 6,.slice A6 n6 c6] 81)=w7 at HB6 HK6 HX ⊢
 generalize w6.heap.size=b6 at HX ⊢
 obtain ⟨x0,x1,x2⟩:=HX.out.cell
 have HDN:=hide (sdone_any HB6.out)
 go_wp2_with fail
 refine HDN.out.mono ?_
 rintro e w' ⟨rfl,rfl⟩
 go_wp2
 go_ret
 exact ⟨rfl,HK6.out⟩
end Go.Proofs.YtnfcfdhlmeimhaaGreat
namespace Go.Proofs.YtnfcfdhlmeimhaaGreat
open Go.RowKit
set_option linter.unusedVariables false
set_option linter.unusedSimpArgs false
set_option maxRecDepth 20000
/-- Block b is the document's node, nine cells. -/
def BxR (w:World) (b:Nat) (x0 x1 x2 x3 x4 x5 x6 x7 x8:Value):Prop:=w.heap[b]?=some (.cells #[x0,x1,x2,x3,x4,x5,x6,x7,x8] 46 (0,0))
section
variable {w w1:World} {b:Nat} {x0 x1 x2 x3 x4 x5 x6 x7 x8 u:Value} {S:Nat→Prop}
theorem BxR.lt (h:BxR w b x0 x1 x2 x3 x4 x5 x6 x7 x8):b < w.heap.size:=(Array.getElem?_eq_some_iff.1 h).1
theorem BxR.keep (h:BxR w b x0 x1 x2 x3 x4 x5 x6 x7 x8) (hk:Kp S w w1) (hb:¬ S b):BxR w1 b x0 x1 x2 x3 x4 x5 x6 x7 x8:=(hk.block b h.lt hb).trans h
theorem BxR.no (h:BxR w b x0 x1 x2 x3 x4 x5 x6 x7 x8) (hk:Kp No w w1):BxR w1 b x0 x1 x2 x3 x4 x5 x6 x7 x8:=h.keep hk fun f=>f
theorem BxR.fz (h:BxR w b x0 x1 x2 x3 x4 x5 x6 x7 x8) (j:Nat):w.frozen? ⟨b,j,none⟩=false:=frozen_of_row w b j _ _ h
theorem BxR.new (w:World) (x0 x1 x2 x3 x4 x5 x6 x7 x8:Value):BxR (w.alloc (.cells #[x0,x1,x2,x3,x4,x5,x6,x7,x8] 46)) w.heap.size x0 x1 x2 x3 x4 x5 x6 x7 x8:=heap_alloc_new w _
theorem BxR.cell (h:BxR w b x0 x1 x2 x3 x4 x5 x6 x7 x8):w.cell? ⟨b,0,none⟩=some x0∧w.cell? ⟨b,1,none⟩=some x1∧w.cell? ⟨b,2,none⟩=some x2∧w.cell? ⟨b,3,none⟩=some x3∧w.cell? ⟨b,4,none⟩=some x4∧w.cell? ⟨b,5,none⟩=some x5∧w.cell? ⟨b,6,none⟩=some x6∧w.cell? ⟨b,7,none⟩=some x7∧w.cell? ⟨b,8,none⟩=some x8:=by
 refine ⟨?_,?_,?_,?_,?_,?_,?_,?_,?_⟩ <;> (rw [cell_of_row w b _ _ _ _ h]; rfl)
theorem BxR.set0 (h:BxR w b x0 x1 x2 x3 x4 x5 x6 x7 x8) (u:Value):BxR (w.setCell ⟨b,0,none⟩ u) b u x1 x2 x3 x4 x5 x6 x7 x8:=heap_setCell_same w b 0 _ 46 u h
theorem BxR.set1 (h:BxR w b x0 x1 x2 x3 x4 x5 x6 x7 x8) (u:Value):BxR (w.setCell ⟨b,1,none⟩ u) b x0 u x2 x3 x4 x5 x6 x7 x8:=heap_setCell_same w b 1 _ 46 u h
theorem BxR.set2 (h:BxR w b x0 x1 x2 x3 x4 x5 x6 x7 x8) (u:Value):BxR (w.setCell ⟨b,2,none⟩ u) b x0 x1 u x3 x4 x5 x6 x7 x8:=heap_setCell_same w b 2 _ 46 u h
theorem BxR.set3 (h:BxR w b x0 x1 x2 x3 x4 x5 x6 x7 x8) (u:Value):BxR (w.setCell ⟨b,3,none⟩ u) b x0 x1 x2 u x4 x5 x6 x7 x8:=heap_setCell_same w b 3 _ 46 u h
theorem BxR.set4 (h:BxR w b x0 x1 x2 x3 x4 x5 x6 x7 x8) (u:Value):BxR (w.setCell ⟨b,4,none⟩ u) b x0 x1 x2 x3 u x5 x6 x7 x8:=heap_setCell_same w b 4 _ 46 u h
theorem BxR.set5 (h:BxR w b x0 x1 x2 x3 x4 x5 x6 x7 x8) (u:Value):BxR (w.setCell ⟨b,5,none⟩ u) b x0 x1 x2 x3 x4 u x6 x7 x8:=heap_setCell_same w b 5 _ 46 u h
theorem BxR.set6 (h:BxR w b x0 x1 x2 x3 x4 x5 x6 x7 x8) (u:Value):BxR (w.setCell ⟨b,6,none⟩ u) b x0 x1 x2 x3 x4 x5 u x7 x8:=heap_setCell_same w b 6 _ 46 u h
theorem BxR.set7 (h:BxR w b x0 x1 x2 x3 x4 x5 x6 x7 x8) (u:Value):BxR (w.setCell ⟨b,7,none⟩ u) b x0 x1 x2 x3 x4 x5 x6 u x8:=heap_setCell_same w b 7 _ 46 u h
theorem BxR.set8 (h:BxR w b x0 x1 x2 x3 x4 x5 x6 x7 x8) (u:Value):BxR (w.setCell ⟨b,8,none⟩ u) b x0 x1 x2 x3 x4 x5 x6 x7 u:=heap_setCell_same w b 8 _ 46 u h
theorem BxR.all (h:BxR w b x0 x1 x2 x3 x4 x5 x6 x7 x8) (u0 u1 u2 u3 u4 u5 u6 u7 u8:Value):BxR (((((((((w.setCell ⟨b,0,none⟩ u0).setCell ⟨b,1,none⟩ u1).setCell ⟨b,2,none⟩ u2).setCell ⟨b,3,none⟩ u3).setCell ⟨b,4,none⟩ u4).setCell ⟨b,5,none⟩ u5).setCell ⟨b,6,none⟩ u6).setCell ⟨b,7,none⟩ u7).setCell ⟨b,8,none⟩ u8) b u0 u1 u2 u3 u4 u5 u6 u7 u8:=(((((((((h.set0 u0).set1 u1).set2 u2).set3 u3).set4 u4).set5 u5).set6 u6).set7 u7).set8 u8)
theorem BxR.vlt (h:BxR w b x0 x1 x2 x3 x4 x5 x6 x7 x8) (u2 u3 u4 u5 u6:Value):BxR (((((w.setCell ⟨b,2,none⟩ u2).setCell ⟨b,3,none⟩ u3).setCell ⟨b,4,none⟩ u4).setCell ⟨b,5,none⟩ u5).setCell ⟨b,6,none⟩ u6) b x0 x1 u2 u3 u4 u5 u6 x7 x8:=(((((h.set2 u2).set3 u3).set4 u4).set5 u5).set6 u6)
theorem BxR.dsk (h:BxR w b x0 x1 x2 x3 x4 x5 x6 x7 x8) (u2 u3 u4 u5:Value):BxR ((((w.setCell ⟨b,2,none⟩ u2).setCell ⟨b,3,none⟩ u3).setCell ⟨b,4,none⟩ u4).setCell ⟨b,5,none⟩ u5) b x0 x1 u2 u3 u4 u5 x6 x7 x8:=((((h.set2 u2).set3 u3).set4 u4).set5 u5)
theorem kp9 (w:World) (b:Nat) (u0 u1 u2 u3 u4 u5 u6 u7 u8:Value) (hb:S b):Kp S w (((((((((w.setCell ⟨b,0,none⟩ u0).setCell ⟨b,1,none⟩ u1).setCell ⟨b,2,none⟩ u2).setCell ⟨b,3,none⟩ u3).setCell ⟨b,4,none⟩ u4).setCell ⟨b,5,none⟩ u5).setCell ⟨b,6,none⟩ u6).setCell ⟨b,7,none⟩ u7).setCell ⟨b,8,none⟩ u8):=((((((((Kp.setCell (S:=S) (p:=⟨b,0,none⟩) hb u0).trans' (Kp.setCell (S:=S) (p:=⟨b,1,none⟩) hb u1)).trans' (Kp.setCell (S:=S) (p:=⟨b,2,none⟩) hb u2)).trans' (Kp.setCell (S:=S) (p:=⟨b,3,none⟩) hb u3)).trans' (Kp.setCell (S:=S) (p:=⟨b,4,none⟩) hb u4)).trans' (Kp.setCell (S:=S) (p:=⟨b,5,none⟩) hb u5)).trans' (Kp.setCell (S:=S) (p:=⟨b,6,none⟩) hb u6)).trans' (Kp.setCell (S:=S) (p:=⟨b,7,none⟩) hb u7)).trans' (Kp.setCell (S:=S) (p:=⟨b,8,none⟩) hb u8)
theorem kpV (w:World) (b:Nat) (u2 u3 u4 u5 u6:Value) (hb:S b):Kp S w (((((w.setCell ⟨b,2,none⟩ u2).setCell ⟨b,3,none⟩ u3).setCell ⟨b,4,none⟩ u4).setCell ⟨b,5,none⟩ u5).setCell ⟨b,6,none⟩ u6):=((((Kp.setCell (S:=S) (p:=⟨b,2,none⟩) hb u2).trans' (Kp.setCell (S:=S) (p:=⟨b,3,none⟩) hb u3)).trans' (Kp.setCell (S:=S) (p:=⟨b,4,none⟩) hb u4)).trans' (Kp.setCell (S:=S) (p:=⟨b,5,none⟩) hb u5)).trans' (Kp.setCell (S:=S) (p:=⟨b,6,none⟩) hb u6)
theorem kpD (w:World) (b:Nat) (u2 u3 u4 u5:Value) (hb:S b):Kp S w ((((w.setCell ⟨b,2,none⟩ u2).setCell ⟨b,3,none⟩ u3).setCell ⟨b,4,none⟩ u4).setCell ⟨b,5,none⟩ u5):=(((Kp.setCell (S:=S) (p:=⟨b,2,none⟩) hb u2).trans' (Kp.setCell (S:=S) (p:=⟨b,3,none⟩) hb u3)).trans' (Kp.setCell (S:=S) (p:=⟨b,4,none⟩) hb u4)).trans' (Kp.setCell (S:=S) (p:=⟨b,5,none⟩) hb u5)
end
/-- The cells of what the document remembers: numbers, and the slices of replies. -/
def seC (ps:List (Rp × Value)):List Value:=ps.flatMap fun p=>[.int .u64 (p.1.num:Int),p.2]
theorem seC_app (a b:List (Rp × Value)):seC (a ++ b)=seC a ++ seC b:=by simp [seC]
theorem seC_len:∀ (ps:List (Rp × Value)),(seC ps).length=ps.length * 2
 | []=>rfl
 | p :: ps=>by
  have ih:=seC_len ps
  have e:seC (p :: ps)=[.int .u64 (p.1.num:Int),p.2] ++ seC ps:=rfl
  rw [e,List.length_append,ih,List.length_cons]
  simp
  omega
theorem seC_get:∀ {ps:List (Rp × Value)} {j:Nat} {p:Rp × Value},ps[j]?=some p→(seC ps)[j * 2]?=some (.int .u64 (p.1.num:Int))∧(seC ps)[j * 2+1]?=some p.2
 | [],j,p,h=>by simp at h
 | x :: ps,0,p,h=>by
  simp at h
  subst h
  exact ⟨rfl,rfl⟩
 | x :: ps,j+1,p,h=>by
  rw [List.getElem?_cons_succ] at h
  have ih:=seC_get h
  have e:seC (x :: ps)=[.int .u64 (x.1.num:Int),x.2] ++ seC ps:=rfl
  have key:∀ i,(seC (x :: ps))[(j+1) * 2+i]?=(seC ps)[j * 2+i]?:=fun i=>by
   rw [e,List.getElem?_append_right (by simp; omega)]
   congr 1
   simp
   omega
  exact ⟨(key 0).trans ih.1,(key 1).trans ih.2⟩
theorem ty_seen:Ty 113 (.agg #[.int .u64 0,.slice none 0 0]) 2 32:=ty_of (by kernel_rfl) rfl (by omega) (by omega)
/-- The slice holds what is remembered, outside F. -/
structure SeR (w:World) (F:Nat→Prop) (A:Option Addr) (m c:Nat) (ps:List (Rp × Value)):Prop where
 len:m=ps.length
 cap:m≤c
 nil:A=none→ps=[]∧c=0
 at_:∀ ad,A=some ad→ad.spot=none∧∀ (j:Nat) u,(seC ps)[j]?=some u→w.cell? (ad.add j)=some u
 far:∀ ad,A=some ad→ps≠[]→¬ F ad.block∧ad.block < w.heap.size
 bts:∀ p ∈ ps,BtF w F p.2 p.1.bytes
section
variable {w w1:World} {F F1 S:Nat→Prop} {A:Option Addr} {m c:Nat} {ps:List (Rp × Value)}
theorem SeR.nil0 (w:World) (F:Nat→Prop):SeR w F none 0 0 []:=⟨rfl,Nat.le_refl _,fun _=>⟨rfl,rfl⟩,(fun _ h=>by cases h),(fun _ h=>by cases h),fun p hp=>(by cases hp)⟩
theorem SeR.keep (h:SeR w F A m c ps) (hk:Kp S w w1) (hS:∀ k,k < w.heap.size→¬ F k→¬ S k):SeR w1 F A m c ps:=by
 refine ⟨h.len,h.cap,h.nil,fun ad e=>⟨(h.at_ ad e).1,fun j u hu=>?_⟩,fun ad e hne=>⟨(h.far ad e hne).1,Nat.lt_of_lt_of_le (h.far ad e hne).2 hk.size⟩,fun p hp=>(h.bts p hp).keep hk hS⟩
 have hne:ps≠[]:=fun e=>by subst e; simp [seC] at hu
 exact hk.cell ((h.at_ ad e).2 j u hu) (by rw [blk_add]; exact hS _ (h.far ad e hne).2 (h.far ad e hne).1)
theorem SeR.no (h:SeR w F A m c ps) (hk:Kp No w w1):SeR w1 F A m c ps:=h.keep hk fun _ _ _ f=>f
theorem SeR.step (h:SeR w F A m c ps) (hk:Kp F w w1) (hF:∀ k,F1 k→Up F w k):SeR w1 F1 A m c ps:=by
 have h1:=h.keep hk fun _ _ f=>f
 refine ⟨h1.len,h1.cap,h1.nil,h1.at_,fun ad e hne=>⟨fun f=>?_,(h1.far ad e hne).2⟩,fun p hp=>(h.bts p hp).step hk hF⟩
 rcases hF _ f with f | f
 ·exact (h.far ad e hne).1 f
 ·have:=(h.far ad e hne).2
  omega
end
/-- The document's node N in its value's parts. -/
structure RsR (w:World) (F:Nat→Prop) (N:Nd) (vc vl vk:Value) (cs:List (Value × List UInt8)) (ls:List (Nat × (Value × List UInt8))) (A:Option Addr) (m c:Nat) (ps:List (Rp × Value)):Prop where
 rv:RvR w F N.V vc vl vk cs ls
 se:SeR w F A m c ps
 eq:ps.map Prod.fst=N.sn
def rsV (n k:Nat) (N:Nd) (vc vl vk:Value) (A:Option Addr) (m c:Nat):Value:=.agg #[.int .i64 (n:Int),.int .i64 (k:Int),.int .i64 (N.V.D.size:Int),vc,vl,.int .i64 (N.V.D.syncs:Int),vk,.slice A m c,.int .u64 (N.done:Int)]
def RsAt (w:World) (F:Nat→Prop) (n k:Nat) (N:Nd) (v:Value):Prop:=∃ vc vl vk cs ls A m c ps,v=rsV n k N vc vl vk A m c∧RsR w F N vc vl vk cs ls A m c ps
section
variable {w w1:World} {F F1 S:Nat→Prop} {n k m c:Nat} {N:Nd} {v vc vl vk:Value} {cs:List (Value × List UInt8)} {ls:List (Nat × (Value × List UInt8))} {A:Option Addr} {ps:List (Rp × Value)}
theorem RvR.keep {V:Vt} (h:RvR w F V vc vl vk cs ls) (hk:Kp S w w1) (hS:∀ k,k < w.heap.size→¬ F k→¬ S k):RvR w1 F V vc vl vk cs ls :=
 ⟨h.rf.keep hk hS,⟨h.kn.own.keep hk fun k e=>hS k (h.kn.own.lt k e) (h.kn.far k e),h.kn.far⟩,h.ok⟩
theorem RsR.keep (h:RsR w F N vc vl vk cs ls A m c ps) (hk:Kp S w w1) (hS:∀ k,k < w.heap.size→¬ F k→¬ S k):RsR w1 F N vc vl vk cs ls A m c ps:=⟨h.rv.keep hk hS,h.se.keep hk hS,h.eq⟩
theorem RsR.no (h:RsR w F N vc vl vk cs ls A m c ps) (hk:Kp No w w1):RsR w1 F N vc vl vk cs ls A m c ps:=h.keep hk fun _ _ _ f=>f
theorem RsR.step (h:RsR w F N vc vl vk cs ls A m c ps) (hk:Kp F w w1) (hF:∀ k,F1 k→Up F w k∧k < w1.heap.size):RsR w1 F1 N vc vl vk cs ls A m c ps:=⟨h.rv.step hk hF,h.se.step hk fun k f=>(hF k f).1,h.eq⟩
theorem RsR.less (h:RsR w F N vc vl vk cs ls A m c ps) (hF:∀ k,F1 k→F k):RsR w F1 N vc vl vk cs ls A m c ps :=
 ⟨h.rv.less hF,⟨h.se.len,h.se.cap,h.se.nil,h.se.at_,fun ad e hne=>⟨fun f=>(h.se.far ad e hne).1 (hF _ f),(h.se.far ad e hne).2⟩,fun p hp=>(h.se.bts p hp).up fun k _ f=>hF k f⟩,h.eq⟩
/-- The value's forms. -/
theorem RsAt.form (h:RsAt w F n k N v):∃ gc cc A1 cl A2 ck cs ls A m c ps,v=rsV n k N (.slice (some ⟨gc,0,none⟩) N.V.D.cells.length cc) (.slice A1 N.V.D.loose.length cl) (.slice A2 N.V.L.length ck) A m c∧RsR w F N (.slice (some ⟨gc,0,none⟩) N.V.D.cells.length cc) (.slice A1 N.V.D.loose.length cl) (.slice A2 N.V.L.length ck) cs ls A m c ps:=by
 obtain ⟨vc,vl,vk,cs,ls,A,m,c,ps,e,h⟩:=h
 obtain ⟨gc,cc,A1,cl,A2,ck,rfl,rfl,rfl⟩:=h.rv.forms
 exact ⟨gc,cc,A1,cl,A2,ck,cs,ls,A,m,c,ps,e,h⟩
end
def RsPost (w:World) (F:Nat→Prop) (n k:Nat) (N1:Nd) (f:Value→Value) (e:Ending) (w1:World):Prop:=∃ v,e=.returned (f v)∧RsAt w1 F n k N1 v∧Kp No w w1
set_option maxHeartbeats 4000000 in
theorem r16new_any {w:World} {F:Nat→Prop} {D:Dk} {v:Value} (h:RfAt w F D v) (n k:Nat):Calls Tryz.prog 11 #[.int .i64 (n:Int),.int .i64 (k:Int),v] w (RsPost w F n k (Nd.up D) id):=by
 obtain ⟨vc,vl,cs,ls,rfl,h⟩:=h
 have k1:=Kp.alloc No w (.cells #[.int .i64 (D.size:Int),vc,vl,.int .i64 (D.syncs:Int)] 39)
 have hd:=BxD.new w D vc vl
 have hb:=BxR.new (w.alloc (.cells #[.int .i64 (D.size:Int),vc,vl,.int .i64 (D.syncs:Int)] 39)) (.int .i64 0) (.int .i64 0) (.int .i64 0) (.slice none 0 0) (.slice none 0 0) (.int .i64 0) (.slice none 0 0) (.slice none 0 0) (.int .u64 0)
 have k2:=Kp.alloc No (w.alloc (.cells #[.int .i64 (D.size:Int),vc,vl,.int .i64 (D.syncs:Int)] 39)) (.cells #[.int .i64 0,.int .i64 0,.int .i64 0,.slice none 0 0,.slice none 0 0,.int .i64 0,.slice none 0 0,.slice none 0 0,.int .u64 0] 46)
 have HD:=hide (hd.no k2)
 have HB:=hide hb
 have HK:=hide (k1.trans' k2)
 have hsz:((w.alloc (.cells #[.int .i64 (D.size:Int),vc,vl,.int .i64 (D.syncs:Int)] 39)).alloc (.cells #[.int .i64 0,.int .i64 0,.int .i64 0,.slice none 0 0,.slice none 0 0,.int .i64 0,.slice none 0 0,.slice none 0 0,.int .u64 0] 46)).heap.size=w.heap.size+2:=by simp
 have HR:=hide (h.step (F1:=fun z=>F z∨z=w.heap.size+1) ((k1.trans' k2).of_no F) fun z f=>by
  rcases f with f | f
  ·exact ⟨.inl f,by have:=h.bd z f; omega⟩
  ·exact ⟨.inr (by omega),by omega⟩)
 have e1:(w.alloc (.cells #[.int .i64 (D.size:Int),vc,vl,.int .i64 (D.syncs:Int)] 39)).heap.size=w.heap.size+1:=by simp
 rw [e1] at HB
 have HZ:Hid (w.heap.size≤w.heap.size+1):=Nat.le_succ _
 clear k1 hd hb k2 h e1 hsz
 unfold rfV
 go_enter Tryz.func11,Tryz.ntmps11
 go_upto_region 1 with (fail)
 generalize (w.alloc (.cells #[.int .i64 (D.size:Int),vc,vl,.int .i64 (D.syncs:Int)] 39)).alloc (.cells #[.int .i64 0,.int .i64 0,.int .i64 0,.slice none 0 0,.slice none 0 0,.int .i64 0,.slice none 0 0,.slice none 0 0,.int .u64 0] 46)=w0 at HD HB HK HR ⊢
 obtain ⟨s0,hs0⟩:∃ s0,s0=w.heap.size:=⟨_,rfl⟩
 rw [← hs0] at HD HB HR ⊢
 have HS0:=hide hs0
 clear HZ hs0
 have x0:=HD.out.c0
 have x1:=HD.out.c1
 have x2:=HD.out.c2
 have x3:=HD.out.c3
 go_wp2_with fail
 refine (ropen12_any (D:=D) ⟨_,_,_,_,rfl,HR.out⟩).mono ?_
 rintro e w1 ⟨v1,rfl,⟨vc1,vl1,vk1,cs1,ls1,rfl,hr1⟩,hk1⟩
 obtain ⟨gc,cc,A1,cl,A2,ck,rfl,rfl,rfl⟩:=hr1.forms
 have HB1:=hide (HB.out.no hk1)
 have HR1:=hide hr1
 have HK1:=hide (HK.out.trans' hk1)
 have K9:=kp9 (S:=fun z=>z=s0+1) w1 (s0+1) (.int .i64 (n:Int)) (.int .i64 (k:Int)) (.int .i64 ((Vt.opened D).D.size:Int)) (.slice (some ⟨gc,0,none⟩) (Vt.opened D).D.cells.length cc) (.slice A1 (Vt.opened D).D.loose.length cl) (.int .i64 ((Vt.opened D).D.syncs:Int)) (.slice A2 (Vt.opened D).L.length ck) (.slice none 0 0) (.int .u64 0) rfl
 have HC:=hide (HB1.out.all (.int .i64 (n:Int)) (.int .i64 (k:Int)) (.int .i64 ((Vt.opened D).D.size:Int)) (.slice (some ⟨gc,0,none⟩) (Vt.opened D).D.cells.length cc) (.slice A1 (Vt.opened D).D.loose.length cl) (.int .i64 ((Vt.opened D).D.syncs:Int)) (.slice A2 (Vt.opened D).L.length ck) (.slice none 0 0) (.int .u64 0)).cell
 have HKN:=hide (HK1.out.trans (K9.mono fun z e=>.inr (by have:=HS0.out; omega)))
 have HRN:=hide (show RsAt _ F n k (Nd.up D) (rsV n k (Nd.up D) _ _ _ none 0 0) from ⟨_,_,_,_,_,_,_,_,[],rfl,⟨((show RvR w1 _ (Nd.up D).V _ _ _ _ _ from hr1).keep K9 fun q hq hn e=>hn (.inr e)).less fun q f=>.inl f,SeR.nil0 _ _,rfl⟩⟩)
 clear x0 x1 x2 x3 hr1 hk1 K9
 obtain ⟨y0,y1,y2,y3,y4,y5,y6,y7,y8⟩:=HB1.out.cell
 have f0:=HB1.out.fz 0
 have f1:=HB1.out.fz 1
 have f2:=HB1.out.fz 2
 have f3:=HB1.out.fz 3
 have f4:=HB1.out.fz 4
 have f5:=HB1.out.fz 5
 have f6:=HB1.out.fz 6
 have f7:=HB1.out.fz 7
 have f8:=HB1.out.fz 8
 unfold rvV id
 go_wp2_with fail
 clear y0 y1 y2 y3 y4 y5 y6 y7 y8 f0 f1 f2 f3 f4 f5 f6 f7 f8
 obtain ⟨q0,q1,q2,q3,q4,q5,q6,q7,q8⟩:=HC.out
 refine bodyPost_ret (v:=rsV n k (Nd.up D) (.slice (some ⟨gc,0,none⟩) (Vt.opened D).D.cells.length cc) (.slice A1 (Vt.opened D).D.loose.length cl) (.slice A2 (Vt.opened D).L.length ck) none 0 0) (by simp [results,Tryz.results11,go_sem,rsV,Nd.up,q0,q1,q2,q3,q4,q5,q6,q7,q8]) rfl ?_
 exact ⟨_,rfl,HRN.out,HKN.out⟩
end Go.Proofs.YtnfcfdhlmeimhaaGreat
namespace Go.Proofs.YtnfcfdhlmeimhaaGreat
open Go.RowKit
set_option linter.unusedVariables false
set_option linter.unusedSimpArgs false
set_option maxRecDepth 20000
/-- F and two boxes; F and three. -/
def Fr2 (F:Nat→Prop) (s z:Nat):Prop:=F z∨z=s∨z=s+1
def Fr3 (F:Nat→Prop) (s z:Nat):Prop:=F z∨z=s∨z=s+1∨z=s+2
theorem RsR.two {w:World} {F:Nat→Prop} {n k:Nat} {N:Nd} {gc0 cc0 cl0 ck0 ms cs9:Nat} {A0 B0 As:Option Addr} {cs:List (Value × List UInt8)} {ls:List (Nat × (Value × List UInt8))} {ps:List (Rp × Value)} (h:RsR w F N (.slice (some ⟨gc0,0,none⟩) N.V.D.cells.length cc0) (.slice A0 N.V.D.loose.length cl0) (.slice B0 N.V.L.length ck0) cs ls As ms cs9 ps) :
  BxR ((w.alloc (.cells #[.int .i64 (n:Int),.int .i64 (k:Int),.int .i64 (N.V.D.size:Int),.slice (some ⟨gc0,0,none⟩) N.V.D.cells.length cc0,.slice A0 N.V.D.loose.length cl0,.int .i64 (N.V.D.syncs:Int),.slice B0 N.V.L.length ck0,.slice As ms cs9,.int .u64 (N.done:Int)] 46)).alloc (.cells #[.int .i64 0,.int .i64 0,.int .i64 0,.slice none 0 0,.slice none 0 0,.int .i64 0,.slice none 0 0,.slice none 0 0,.int .u64 0] 46)) w.heap.size (.int .i64 (n:Int)) (.int .i64 (k:Int)) (.int .i64 (N.V.D.size:Int)) (.slice (some ⟨gc0,0,none⟩) N.V.D.cells.length cc0) (.slice A0 N.V.D.loose.length cl0) (.int .i64 (N.V.D.syncs:Int)) (.slice B0 N.V.L.length ck0) (.slice As ms cs9) (.int .u64 (N.done:Int))∧BxR ((w.alloc (.cells #[.int .i64 (n:Int),.int .i64 (k:Int),.int .i64 (N.V.D.size:Int),.slice (some ⟨gc0,0,none⟩) N.V.D.cells.length cc0,.slice A0 N.V.D.loose.length cl0,.int .i64 (N.V.D.syncs:Int),.slice B0 N.V.L.length ck0,.slice As ms cs9,.int .u64 (N.done:Int)] 46)).alloc (.cells #[.int .i64 0,.int .i64 0,.int .i64 0,.slice none 0 0,.slice none 0 0,.int .i64 0,.slice none 0 0,.slice none 0 0,.int .u64 0] 46)) (w.heap.size+1) (.int .i64 0) (.int .i64 0) (.int .i64 0) (.slice none 0 0) (.slice none 0 0) (.int .i64 0) (.slice none 0 0) (.slice none 0 0) (.int .u64 0)∧RsR ((w.alloc (.cells #[.int .i64 (n:Int),.int .i64 (k:Int),.int .i64 (N.V.D.size:Int),.slice (some ⟨gc0,0,none⟩) N.V.D.cells.length cc0,.slice A0 N.V.D.loose.length cl0,.int .i64 (N.V.D.syncs:Int),.slice B0 N.V.L.length ck0,.slice As ms cs9,.int .u64 (N.done:Int)] 46)).alloc (.cells #[.int .i64 0,.int .i64 0,.int .i64 0,.slice none 0 0,.slice none 0 0,.int .i64 0,.slice none 0 0,.slice none 0 0,.int .u64 0] 46)) (Fr2 F w.heap.size) N (.slice (some ⟨gc0,0,none⟩) N.V.D.cells.length cc0) (.slice A0 N.V.D.loose.length cl0) (.slice B0 N.V.L.length ck0) cs ls As ms cs9 ps∧Kp No w ((w.alloc (.cells #[.int .i64 (n:Int),.int .i64 (k:Int),.int .i64 (N.V.D.size:Int),.slice (some ⟨gc0,0,none⟩) N.V.D.cells.length cc0,.slice A0 N.V.D.loose.length cl0,.int .i64 (N.V.D.syncs:Int),.slice B0 N.V.L.length ck0,.slice As ms cs9,.int .u64 (N.done:Int)] 46)).alloc (.cells #[.int .i64 0,.int .i64 0,.int .i64 0,.slice none 0 0,.slice none 0 0,.int .i64 0,.slice none 0 0,.slice none 0 0,.int .u64 0] 46)):=by
 have e1:∀ (w:World) (o:Obj),(w.alloc o).heap.size=w.heap.size+1:=fun w o=>by simp
 generalize hw1:w.alloc (.cells #[.int .i64 (n:Int),.int .i64 (k:Int),.int .i64 (N.V.D.size:Int),.slice (some ⟨gc0,0,none⟩) N.V.D.cells.length cc0,.slice A0 N.V.D.loose.length cl0,.int .i64 (N.V.D.syncs:Int),.slice B0 N.V.L.length ck0,.slice As ms cs9,.int .u64 (N.done:Int)] 46)=w1
 have q1:Kp No w w1:=by rw [← hw1]; exact Kp.alloc No _ _
 have z1:w1.heap.size=w.heap.size+1:=by rw [← hw1]; exact e1 _ _
 have b1:BxR w1 w.heap.size (.int .i64 (n:Int)) (.int .i64 (k:Int)) (.int .i64 (N.V.D.size:Int)) (.slice (some ⟨gc0,0,none⟩) N.V.D.cells.length cc0) (.slice A0 N.V.D.loose.length cl0) (.int .i64 (N.V.D.syncs:Int)) (.slice B0 N.V.L.length ck0) (.slice As ms cs9) (.int .u64 (N.done:Int)):=by rw [← hw1]; exact BxR.new _ _ _ _ _ _ _ _ _ _
 generalize hw2:w1.alloc (.cells #[.int .i64 0,.int .i64 0,.int .i64 0,.slice none 0 0,.slice none 0 0,.int .i64 0,.slice none 0 0,.slice none 0 0,.int .u64 0] 46)=w2
 have q2:Kp No w1 w2:=by rw [← hw2]; exact Kp.alloc No _ _
 have z2:w2.heap.size=w.heap.size+2:=by rw [← hw2,e1,z1]
 have b2:BxR w2 (w.heap.size+1) (.int .i64 0) (.int .i64 0) (.int .i64 0) (.slice none 0 0) (.slice none 0 0) (.int .i64 0) (.slice none 0 0) (.slice none 0 0) (.int .u64 0):=by rw [← z1,← hw2]; exact BxR.new _ _ _ _ _ _ _ _ _ _
 have q:=q1.trans' q2
 refine ⟨b1.no q2,b2,h.step (q.of_no F) fun z f=>?_,q⟩
 rcases f with f | f | f
 ·exact ⟨.inl f,by have:=h.rv.rf.bd z f; omega⟩
 ·exact ⟨.inr (by omega),by omega⟩
 ·exact ⟨.inr (by omega),by omega⟩
theorem RsR.three {w:World} {F:Nat→Prop} {n k:Nat} {N:Nd} {gc0 cc0 cl0 ck0 ms cs9 mq cq:Nat} {A0 B0 As Aq:Option Addr} {cs:List (Value × List UInt8)} {ls:List (Nat × (Value × List UInt8))} {ps:List (Rp × Value)} {q:Rq} (h:RsR w F N (.slice (some ⟨gc0,0,none⟩) N.V.D.cells.length cc0) (.slice A0 N.V.D.loose.length cl0) (.slice B0 N.V.L.length ck0) cs ls As ms cs9 ps) :
  BxR (((w.alloc (.cells #[.int .i64 (n:Int),.int .i64 (k:Int),.int .i64 (N.V.D.size:Int),.slice (some ⟨gc0,0,none⟩) N.V.D.cells.length cc0,.slice A0 N.V.D.loose.length cl0,.int .i64 (N.V.D.syncs:Int),.slice B0 N.V.L.length ck0,.slice As ms cs9,.int .u64 (N.done:Int)] 46)).alloc (.cells #[.int .u64 (q.num:Int),.int .i64 q.kind,.int .u32 (cO q.s:Int),.int .u16 (cS q.s:Int),.int .u16 (cL q.s:Int),.int .u32 (cG q.s:Int),.int .u16 (q.lost:Int),.slice Aq mq cq] 56)).alloc (.cells #[.int .i64 0,.int .i64 0,.int .i64 0,.slice none 0 0,.slice none 0 0,.int .i64 0,.slice none 0 0,.slice none 0 0,.int .u64 0] 46)) w.heap.size (.int .i64 (n:Int)) (.int .i64 (k:Int)) (.int .i64 (N.V.D.size:Int)) (.slice (some ⟨gc0,0,none⟩) N.V.D.cells.length cc0) (.slice A0 N.V.D.loose.length cl0) (.int .i64 (N.V.D.syncs:Int)) (.slice B0 N.V.L.length ck0) (.slice As ms cs9) (.int .u64 (N.done:Int))∧Bx8 56 (((w.alloc (.cells #[.int .i64 (n:Int),.int .i64 (k:Int),.int .i64 (N.V.D.size:Int),.slice (some ⟨gc0,0,none⟩) N.V.D.cells.length cc0,.slice A0 N.V.D.loose.length cl0,.int .i64 (N.V.D.syncs:Int),.slice B0 N.V.L.length ck0,.slice As ms cs9,.int .u64 (N.done:Int)] 46)).alloc (.cells #[.int .u64 (q.num:Int),.int .i64 q.kind,.int .u32 (cO q.s:Int),.int .u16 (cS q.s:Int),.int .u16 (cL q.s:Int),.int .u32 (cG q.s:Int),.int .u16 (q.lost:Int),.slice Aq mq cq] 56)).alloc (.cells #[.int .i64 0,.int .i64 0,.int .i64 0,.slice none 0 0,.slice none 0 0,.int .i64 0,.slice none 0 0,.slice none 0 0,.int .u64 0] 46)) (w.heap.size+1) (.int .u64 (q.num:Int)) (.int .i64 q.kind) (.int .u32 (cO q.s:Int)) (.int .u16 (cS q.s:Int)) (.int .u16 (cL q.s:Int)) (.int .u32 (cG q.s:Int)) (.int .u16 (q.lost:Int)) (.slice Aq mq cq)∧BxR (((w.alloc (.cells #[.int .i64 (n:Int),.int .i64 (k:Int),.int .i64 (N.V.D.size:Int),.slice (some ⟨gc0,0,none⟩) N.V.D.cells.length cc0,.slice A0 N.V.D.loose.length cl0,.int .i64 (N.V.D.syncs:Int),.slice B0 N.V.L.length ck0,.slice As ms cs9,.int .u64 (N.done:Int)] 46)).alloc (.cells #[.int .u64 (q.num:Int),.int .i64 q.kind,.int .u32 (cO q.s:Int),.int .u16 (cS q.s:Int),.int .u16 (cL q.s:Int),.int .u32 (cG q.s:Int),.int .u16 (q.lost:Int),.slice Aq mq cq] 56)).alloc (.cells #[.int .i64 0,.int .i64 0,.int .i64 0,.slice none 0 0,.slice none 0 0,.int .i64 0,.slice none 0 0,.slice none 0 0,.int .u64 0] 46)) (w.heap.size+2) (.int .i64 0) (.int .i64 0) (.int .i64 0) (.slice none 0 0) (.slice none 0 0) (.int .i64 0) (.slice none 0 0) (.slice none 0 0) (.int .u64 0)∧RsR (((w.alloc (.cells #[.int .i64 (n:Int),.int .i64 (k:Int),.int .i64 (N.V.D.size:Int),.slice (some ⟨gc0,0,none⟩) N.V.D.cells.length cc0,.slice A0 N.V.D.loose.length cl0,.int .i64 (N.V.D.syncs:Int),.slice B0 N.V.L.length ck0,.slice As ms cs9,.int .u64 (N.done:Int)] 46)).alloc (.cells #[.int .u64 (q.num:Int),.int .i64 q.kind,.int .u32 (cO q.s:Int),.int .u16 (cS q.s:Int),.int .u16 (cL q.s:Int),.int .u32 (cG q.s:Int),.int .u16 (q.lost:Int),.slice Aq mq cq] 56)).alloc (.cells #[.int .i64 0,.int .i64 0,.int .i64 0,.slice none 0 0,.slice none 0 0,.int .i64 0,.slice none 0 0,.slice none 0 0,.int .u64 0] 46)) (Fr3 F w.heap.size) N (.slice (some ⟨gc0,0,none⟩) N.V.D.cells.length cc0) (.slice A0 N.V.D.loose.length cl0) (.slice B0 N.V.L.length ck0) cs ls As ms cs9 ps∧Kp No w (((w.alloc (.cells #[.int .i64 (n:Int),.int .i64 (k:Int),.int .i64 (N.V.D.size:Int),.slice (some ⟨gc0,0,none⟩) N.V.D.cells.length cc0,.slice A0 N.V.D.loose.length cl0,.int .i64 (N.V.D.syncs:Int),.slice B0 N.V.L.length ck0,.slice As ms cs9,.int .u64 (N.done:Int)] 46)).alloc (.cells #[.int .u64 (q.num:Int),.int .i64 q.kind,.int .u32 (cO q.s:Int),.int .u16 (cS q.s:Int),.int .u16 (cL q.s:Int),.int .u32 (cG q.s:Int),.int .u16 (q.lost:Int),.slice Aq mq cq] 56)).alloc (.cells #[.int .i64 0,.int .i64 0,.int .i64 0,.slice none 0 0,.slice none 0 0,.int .i64 0,.slice none 0 0,.slice none 0 0,.int .u64 0] 46)):=by
 have e1:∀ (w:World) (o:Obj),(w.alloc o).heap.size=w.heap.size+1:=fun w o=>by simp
 generalize hw1:w.alloc (.cells #[.int .i64 (n:Int),.int .i64 (k:Int),.int .i64 (N.V.D.size:Int),.slice (some ⟨gc0,0,none⟩) N.V.D.cells.length cc0,.slice A0 N.V.D.loose.length cl0,.int .i64 (N.V.D.syncs:Int),.slice B0 N.V.L.length ck0,.slice As ms cs9,.int .u64 (N.done:Int)] 46)=w1
 have q1:Kp No w w1:=by rw [← hw1]; exact Kp.alloc No _ _
 have z1:w1.heap.size=w.heap.size+1:=by rw [← hw1]; exact e1 _ _
 have b1:BxR w1 w.heap.size (.int .i64 (n:Int)) (.int .i64 (k:Int)) (.int .i64 (N.V.D.size:Int)) (.slice (some ⟨gc0,0,none⟩) N.V.D.cells.length cc0) (.slice A0 N.V.D.loose.length cl0) (.int .i64 (N.V.D.syncs:Int)) (.slice B0 N.V.L.length ck0) (.slice As ms cs9) (.int .u64 (N.done:Int)):=by rw [← hw1]; exact BxR.new _ _ _ _ _ _ _ _ _ _
 generalize hw2:w1.alloc (.cells #[.int .u64 (q.num:Int),.int .i64 q.kind,.int .u32 (cO q.s:Int),.int .u16 (cS q.s:Int),.int .u16 (cL q.s:Int),.int .u32 (cG q.s:Int),.int .u16 (q.lost:Int),.slice Aq mq cq] 56)=w2
 have q2:Kp No w1 w2:=by rw [← hw2]; exact Kp.alloc No _ _
 have z2:w2.heap.size=w.heap.size+2:=by rw [← hw2,e1,z1]
 have b2:Bx8 56 w2 (w.heap.size+1) (.int .u64 (q.num:Int)) (.int .i64 q.kind) (.int .u32 (cO q.s:Int)) (.int .u16 (cS q.s:Int)) (.int .u16 (cL q.s:Int)) (.int .u32 (cG q.s:Int)) (.int .u16 (q.lost:Int)) (.slice Aq mq cq):=by rw [← z1,← hw2]; exact Bx8.new _ _ _ _ _ _ _ _ _ _
 generalize hw3:w2.alloc (.cells #[.int .i64 0,.int .i64 0,.int .i64 0,.slice none 0 0,.slice none 0 0,.int .i64 0,.slice none 0 0,.slice none 0 0,.int .u64 0] 46)=w3
 have q3:Kp No w2 w3:=by rw [← hw3]; exact Kp.alloc No _ _
 have z3:w3.heap.size=w.heap.size+3:=by rw [← hw3,e1,z2]
 have b3:BxR w3 (w.heap.size+2) (.int .i64 0) (.int .i64 0) (.int .i64 0) (.slice none 0 0) (.slice none 0 0) (.int .i64 0) (.slice none 0 0) (.slice none 0 0) (.int .u64 0):=by rw [← z2,← hw3]; exact BxR.new _ _ _ _ _ _ _ _ _ _
 have q:=(q1.trans' q2).trans' q3
 refine ⟨(b1.no q2).no q3,b2.no q3,b3,h.step (q.of_no F) fun z f=>?_,q⟩
 rcases f with f | f | f | f
 ·exact ⟨.inl f,by have:=h.rv.rf.bd z f; omega⟩
 ·exact ⟨.inr (by omega),by omega⟩
 ·exact ⟨.inr (by omega),by omega⟩
 ·exact ⟨.inr (by omega),by omega⟩
set_option maxHeartbeats 4000000 in
theorem r16restart_any {w:World} {F:Nat→Prop} {n k:Nat} {N:Nd} {v:Value} (h:RsAt w F n k N v) (hl:N.V.D.loose.length≤1000000) (z y:Int):Calls Tryz.prog 15 #[v,.int .i64 z,.int .i64 y] w (RsPost w F n k (N.restart z y) id):=by
 obtain ⟨gc0,cc0,A0,cl0,B0,ck0,cs,ls,As,ms,cs9,ps,rfl,hR0⟩:=h.form
 obtain ⟨hs,hr,hR,hk⟩:=hR0.two (n:=n) (k:=k)
 have HS:=hide hs
 have HR:=hide hr
 have HV:=hide hR.rv
 have HK:=hide hk
 clear hs hr hR hk h hR0
 unfold rsV
 go_enter Tryz.func15,Tryz.ntmps15
 go_upto_region 1 with (fail)
 generalize ((w.alloc (.cells #[.int .i64 (n:Int),.int .i64 (k:Int),.int .i64 (N.V.D.size:Int),.slice (some ⟨gc0,0,none⟩) N.V.D.cells.length cc0,.slice A0 N.V.D.loose.length cl0,.int .i64 (N.V.D.syncs:Int),.slice B0 N.V.L.length ck0,.slice As ms cs9,.int .u64 (N.done:Int)] 46)).alloc (.cells #[.int .i64 0,.int .i64 0,.int .i64 0,.slice none 0 0,.slice none 0 0,.int .i64 0,.slice none 0 0,.slice none 0 0,.int .u64 0] 46))=w0 at HS HR HV HK ⊢
 obtain ⟨s0,hs0⟩:∃ s0,s0=w.heap.size:=⟨_,rfl⟩
 rw [← hs0] at HS HR HV ⊢
 have HS0:=hide hs0
 clear hs0
 obtain ⟨y0,y1,y2,y3,y4,y5,y6,y7,y8⟩:=HS.out.cell
 go_wp2_with fail
 refine (rcrash_any (D:=N.V.D) ⟨_,_,_,_,rfl,HV.out.rf⟩ hl z y).mono ?_
 rintro e w1 ⟨v1,rfl,⟨vc1,vl1,cs1,ls1,rfl,hr1⟩,hk1⟩
 obtain ⟨gc1,cc1,rfl,_⟩:=hr1.vc_
 obtain ⟨A1,cl1,rfl,_,_⟩:=hr1.vl_
 have HS1:=hide (HS.out.no hk1)
 have HR1:=hide (HR.out.no hk1)
 have HK1:=hide (HK.out.trans' hk1)
 have HF1:=hide hr1
 clear hr1 hk1 y0 y1 y2 y3 y4 y5 y6 y7 y8
 have k2:=Kp.alloc No w1 (.cells #[.int .i64 ((N.V.D.crash z y).size:Int),.slice (some ⟨gc1,0,none⟩) (N.V.D.crash z y).cells.length cc1,.slice A1 (N.V.D.crash z y).loose.length cl1,.int .i64 ((N.V.D.crash z y).syncs:Int)] 39)
 have HD2:=hide (BxD.new w1 (N.V.D.crash z y) (.slice (some ⟨gc1,0,none⟩) (N.V.D.crash z y).cells.length cc1) (.slice A1 (N.V.D.crash z y).loose.length cl1))
 have HS2:=hide (HS1.out.no k2)
 have HR2:=hide (HR1.out.no k2)
 have HF2:=hide (HF1.out.no k2)
 have HK2:=hide (HK1.out.trans' k2)
 clear k2
 unfold tupE rfV
 go_upto_region 2 with (fail)
 generalize w1.alloc (.cells #[.int .i64 ((N.V.D.crash z y).size:Int),.slice (some ⟨gc1,0,none⟩) (N.V.D.crash z y).cells.length cc1,.slice A1 (N.V.D.crash z y).loose.length cl1,.int .i64 ((N.V.D.crash z y).syncs:Int)] 39)=w2 at HD2 HS2 HR2 HF2 HK2 ⊢
 generalize w1.heap.size=b2 at HD2 ⊢
 have x0:=HD2.out.c0
 have x1:=HD2.out.c1
 have x2:=HD2.out.c2
 have x3:=HD2.out.c3
 obtain ⟨y0,y1,y2,y3,y4,y5,y6,y7,y8⟩:=HS2.out.cell
 go_wp2_with fail
 refine (r16new_any (D:=N.V.D.crash z y) ⟨_,_,_,_,rfl,HF2.out⟩ n k).mono ?_
 rintro e w3 ⟨v3,rfl,hA3,hk3⟩
 obtain ⟨gc3,cc3,A3,cl3,B3,ck3,cs3,ls3,As3,ms3,cs93,ps3,rfl,h3⟩:=hA3.form
 have HR3:=hide (HR2.out.no hk3)
 have HK3:=hide (HK2.out.trans' hk3)
 have HN3:Hid (N.restart z y=Nd.up (N.V.D.crash z y)):=rfl
 generalize hM:Nd.up (N.V.D.crash z y)=M at h3 HN3 ⊢
 have K9:=kp9 (S:=fun z=>z=s0+1) w3 (s0+1) (.int .i64 (n:Int)) (.int .i64 (k:Int)) (.int .i64 (M.V.D.size:Int)) (.slice (some ⟨gc3,0,none⟩) M.V.D.cells.length cc3) (.slice A3 M.V.D.loose.length cl3) (.int .i64 (M.V.D.syncs:Int)) (.slice B3 M.V.L.length ck3) (.slice As3 ms3 cs93) (.int .u64 (M.done:Int)) rfl
 have HC:=hide (HR3.out.all (.int .i64 (n:Int)) (.int .i64 (k:Int)) (.int .i64 (M.V.D.size:Int)) (.slice (some ⟨gc3,0,none⟩) M.V.D.cells.length cc3) (.slice A3 M.V.D.loose.length cl3) (.int .i64 (M.V.D.syncs:Int)) (.slice B3 M.V.L.length ck3) (.slice As3 ms3 cs93) (.int .u64 (M.done:Int))).cell
 have HKN:=hide (HK3.out.trans (K9.mono fun z e=>.inr (by have:=HS0.out; omega)))
 have HRN:=hide (show RsAt _ F n k M (rsV n k M _ _ _ As3 ms3 cs93) from ⟨_,_,_,_,_,_,_,_,ps3,rfl,(h3.keep K9 fun z _ hn e=>hn (.inr (.inr e))).less fun z f=>.inl f⟩)
 clear h3 hA3 hk3 K9 hM x0 x1 x2 x3 y0 y1 y2 y3 y4 y5 y6 y7 y8
 obtain ⟨z0,z1,z2,z3,z4,z5,z6,z7,z8⟩:=HR3.out.cell
 have f0:=HR3.out.fz 0
 have f1:=HR3.out.fz 1
 have f2:=HR3.out.fz 2
 have f3:=HR3.out.fz 3
 have f4:=HR3.out.fz 4
 have f5:=HR3.out.fz 5
 have f6:=HR3.out.fz 6
 have f7:=HR3.out.fz 7
 have f8:=HR3.out.fz 8
 unfold rsV id
 go_wp2_with fail
 clear z0 z1 z2 z3 z4 z5 z6 z7 z8 f0 f1 f2 f3 f4 f5 f6 f7 f8
 obtain ⟨q0,q1,q2,q3,q4,q5,q6,q7,q8⟩:=HC.out
 refine bodyPost_ret (v:=rsV n k M (.slice (some ⟨gc3,0,none⟩) M.V.D.cells.length cc3) (.slice A3 M.V.D.loose.length cl3) (.slice B3 M.V.L.length ck3) As3 ms3 cs93) (by simp [results,Tryz.results15,go_sem,rsV,q0,q1,q2,q3,q4,q5,q6,q7,q8]) rfl ?_
 rw [RsPost,HN3.out]
 exact ⟨_,rfl,HRN.out,HKN.out⟩
end Go.Proofs.YtnfcfdhlmeimhaaGreat
