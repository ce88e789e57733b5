/- Package vault's Begin, Put and Drop, as contracts over memory; Package vault's Get: unknown, and whole; Package vault's Get: another name's, and spoilt; Package vault's Get, as a contract over memory; Package vault where nobody made the vault: contracts; the chapter's example. -/
import Derived.Test.YtnfcfdhlmeimhaaGreatSpas
import Derived.Test.YtnfcfdhlmeimhaaGreatSpam
import Derived.Test.YtnfcfdhlmeimhaaGreatSpaq
import Derived.Lib.SlBytesConst
namespace Go.Proofs.YtnfcfdhlmeimhaaGreat
open Go.RowKit
set_option linter.unusedVariables false
set_option linter.unusedSimpArgs false
set_option maxRecDepth 20000
theorem begin_any {w:World} {F:Nat→Prop} {g gd b s n c:Nat} {A:Option Addr} {bs:List UInt8} {V:Vt} (h:VtR w F g gd b V) (hs:s < N96) (hb:Bts w (.slice A n c) bs) (hbl:bs.length≤800000000) (hcn:V.D.cells.length≤1000) (hlo2:V.D.loose.length+1≤1000000) :
  Calls Tryz.prog 43 #[.pointer (some ⟨g,0,none⟩),shV s,.slice A n c] w (VtPost w F g gd (V.bg s bs) (.int .i64 (V.bgE s bs:Int))):=by
 rcases hk:kn V.L s with _ | _
 ·by_cases h1:65524 < bs.length∨V.D.size < 24+bs.length
  ·exact begin_long h hs hb hbl hk h1
  ·by_cases h2:V.free < V.n
   ·exact begin_yes h hs hb hbl hk (by omega) (by omega) hcn hlo2 h2
   ·exact begin_full h hs hb hbl hk (by omega) (by omega) hcn h2
 ·exact begin_twice h hs hb hbl hk
theorem up_al {F:Nat→Prop} {w:World} {o:Obj} {k:Nat} (h:Up F (w.alloc o) k):Up F w k:=h.imp id (fun a=>by rw [World.size_alloc] at a; omega)
/-- The disk is synced, as the last thing. -/
theorem VtR.synced {w w1 w2:World} {F G:Nat→Prop} {g gd b:Nat} {V1:Vt} {e:Ending} (h:VtR w1 (Up F w) g gd b V1) (hk:Kp F w w1) (hp:DkPost w1 (Fd (Up F w) g b) gd V1.D.sync (.int .i64 0) e w2):VtPost w F g gd ⟨V1.D.sync,V1.L⟩ (.int .i64 0) e w2:=by
 obtain ⟨rfl,hd,hk2⟩:=hp
 have h2:=h.disk (sync_n _) hd hk2
 refine ⟨rfl,⟨b,h2.mono fun k hk'=>hk'.two hk.size⟩,hk.trans (hk2.mono fun k hk'=>hk'.1)⟩
set_option maxHeartbeats 1000000 in
theorem put_yes {w:World} {F:Nat→Prop} {g gd b s n c:Nat} {A:Option Addr} {bs:List UInt8} {V:Vt} (h:VtR w F g gd b V) (hs:s < N96) (hb:Bts w (.slice A n c) bs) (hbl:bs.length≤800000000) (hcn:V.D.cells.length≤1000) (hlo2:V.D.loose.length+1≤1000000) (hsy:V.D.syncs+1≤1000000000) (hE:V.bgE s bs=0) :
  Calls Tryz.prog 117 #[.pointer (some ⟨g,0,none⟩),shV s,.slice A n c] w (VtPost w F g gd (V.pt s bs) (.int .i64 0)):=by
 have k0:Kp No w (w.alloc (.cells #[.int .u32 (cO s:Int),.int .u16 (cS s:Int),.int .u16 (cL s:Int),.int .u32 (cG s:Int)] 53)):=Kp.alloc No w _
 have hbg:=begin_any (h.no k0) hs (hb.no k0) hbl hcn hlo2
 rw [hE] at hbg
 have hP:=Vt.pt_yes hE
 rw [hP]
 have hb1:=Vt.bg_yes hE
 have hl1:(V.bg s bs).D.loose.length≤1000000:=by rw [hb1]; exact Nat.le_trans (put_loose _ _ _) hlo2
 have hy1:(V.bg s bs).D.syncs+1≤1000000000:=by rw [hb1]; show (Dk.put _ _ _).syncs+1≤_; rw [put_syncs]; exact hsy
 generalize V.bg s bs=V1 at hbg hl1 hy1 ⊢
 have HK:=hide k0
 clear hP hb1 hE k0
 unfold shV at hbg ⊢
 go_enter Tryz.func117,Tryz.ntmps117
 go_wp2_with fail
 refine hbg.mono ?_
 rintro e w1 ⟨rfl,⟨b1,h1⟩,hk1⟩
 clear hbg
 have h1':VtR w1 (Up F w) g gd b1 V1:=h1.mono fun k hk=>up_al hk
 have k1:Kp F w w1:=(HK.out.of_no F).trans' hk1
 have c1:=h1.blk.c0
 go_wp2_with fail
 refine (psync_any h1'.dk hl1 hy1).mono ?_
 rintro e w2 hp
 have hq:=VtR.synced (G:=F) h1' k1 hp
 obtain rfl:=hp.1
 have HQ:=hide hq
 clear hq hp
 go_wp2_with fail
 go_ret
 exact HQ.out
set_option maxHeartbeats 1000000 in
theorem put_no {w:World} {F:Nat→Prop} {g gd b s n c:Nat} {A:Option Addr} {bs:List UInt8} {V:Vt} (h:VtR w F g gd b V) (hs:s < N96) (hb:Bts w (.slice A n c) bs) (hbl:bs.length≤800000000) (hcn:V.D.cells.length≤1000) (hlo2:V.D.loose.length+1≤1000000) (hE:V.bgE s bs≠0) :
  Calls Tryz.prog 117 #[.pointer (some ⟨g,0,none⟩),shV s,.slice A n c] w (VtPost w F g gd (V.pt s bs) (.int .i64 (V.bgE s bs:Int))):=by
 have k0:Kp No w (w.alloc (.cells #[.int .u32 (cO s:Int),.int .u16 (cS s:Int),.int .u16 (cL s:Int),.int .u32 (cG s:Int)] 53)):=Kp.alloc No w _
 have hbg:=begin_any (h.no k0) hs (hb.no k0) hbl hcn hlo2
 rw [Vt.bg_no hE] at hbg
 rw [Vt.pt_no hE]
 generalize V.bgE s bs=E at hbg hE ⊢
 have hne:((E:Int) != 0)=true:=by simp; omega
 have HK:=hide k0
 clear hE k0
 unfold shV at hbg ⊢
 go_enter Tryz.func117,Tryz.ntmps117
 go_wp2_with fail
 refine hbg.mono ?_
 rintro e w1 ⟨rfl,⟨b1,h1⟩,hk1⟩
 clear hbg
 have h1':=hide (h1.mono fun k hk=>up_al hk)
 have k1:=hide ((HK.out.of_no F).trans' hk1)
 clear h1 hk1
 go_wp2_with fail
 go_ret
 exact ⟨rfl,⟨b1,h1'.out⟩,k1.out⟩
theorem vput_any {w:World} {F:Nat→Prop} {g gd b s n c:Nat} {A:Option Addr} {bs:List UInt8} {V:Vt} (h:VtR w F g gd b V) (hs:s < N96) (hb:Bts w (.slice A n c) bs) (hbl:bs.length≤800000000) (hcn:V.D.cells.length≤1000) (hlo2:V.D.loose.length+1≤1000000) (hsy:V.D.syncs+1≤1000000000) :
  Calls Tryz.prog 117 #[.pointer (some ⟨g,0,none⟩),shV s,.slice A n c] w (VtPost w F g gd (V.pt s bs) (.int .i64 (V.bgE s bs:Int))):=by
 by_cases hE:V.bgE s bs=0
 ·have:=put_yes h hs hb hbl hcn hlo2 hsy hE
  rw [hE]
  exact this
 ·exact put_no h hs hb hbl hcn hlo2 hE
theorem vdrop_no {w:World} {F:Nat→Prop} {g gd b s:Nat} {V:Vt} (h:VtR w F g gd b V) (hs:s < N96) (hk:kn V.L s=false):Calls Tryz.prog 119 #[.pointer (some ⟨g,0,none⟩),shV s] w (VtPost w F g gd (V.dr s) (.int .i64 (V.drE s:Int))):=by
 have hE:V.drE s=6:=by unfold Vt.drE; rw [if_neg (by rw [hk]; simp)]
 rw [Vt.dr_no (by omega),hE]
 have k0:Kp No w (w.alloc (.cells #[.int .u32 (cO s:Int),.int .u16 (cS s:Int),.int .u16 (cL s:Int),.int .u32 (cG s:Int)] 53)):=Kp.alloc No w _
 have hc:=vcell_any (h.blk.no k0) (h.mp.no k0) hs
 rw [celZ_no hk] at hc
 have hm:=vmade_any (h.blk.no k0)
 have HR:=hide h
 have HK:=hide k0
 clear hE hk h k0
 unfold shV at hc ⊢
 go_enter Tryz.func119,Tryz.ntmps119
 go_wp2_with fail
 refine hm.mono ?_
 rintro e w' ⟨rfl,rfl⟩
 clear hm
 go_wp2_with fail
 refine hc.mono ?_
 rintro e w1 ⟨rfl,hk1⟩
 clear hc
 go_wp2_with fail
 go_ret
 exact VtPost.same HR.out (HK.out.trans' hk1) rfl
set_option maxHeartbeats 2000000 in
theorem vdrop_yes {w:World} {F:Nat→Prop} {g gd b s:Nat} {V:Vt} (h:VtR w F g gd b V) (hs:s < N96) (hlo2:V.D.loose.length+1≤1000000) (hsy:V.D.syncs+1≤1000000000) (hk:kn V.L s=true):Calls Tryz.prog 119 #[.pointer (some ⟨g,0,none⟩),shV s] w (VtPost w F g gd (V.dr s) (.int .i64 0)):=by
 have hE:V.drE s=0:=by unfold Vt.drE; rw [if_pos hk]
 have hD:=Vt.dr_yes hE
 rw [hD]
 have k0:Kp No w (w.alloc (.cells #[.int .u32 (cO s:Int),.int .u16 (cS s:Int),.int .u16 (cL s:Int),.int .u32 (cG s:Int)] 53)):=Kp.alloc No w _
 have hc:=vcell_any (h.blk.no k0) (h.mp.no k0) hs
 rw [celZ_yes hk] at hc
 have hm:=vmade_any (h.blk.no k0)
 have hok:(Vt.mk (V.D.put ((cel V.L s:Nat):Int) []) (V.L.eraseIdx (ixl V.L s))).Ok:=⟨h.ok.dk.put _ _,by show KnOk (V.D.put ((cel V.L s:Nat):Int) []).cells.length _; rw [put_n]; exact h.ok.kn.erase _⟩
 have HOK:=hide hok
 have HS:=hide hs
 have HKN:=hide hk
 have HSV:Hid (Value.agg #[.int .u32 (cO s:Int),.int .u16 (cS s:Int),.int .u16 (cL s:Int),.int .u32 (cG s:Int)]=shV s):=hide rfl
 have HBX:=hide (Bx4.new w (.int .u32 (cO s:Int)) (.int .u16 (cS s:Int)) (.int .u16 (cL s:Int)) (.int .u32 (cG s:Int)))
 generalize hq:cel V.L s=q at hc HOK ⊢
 have c0:=h.blk.c0
 have HR:=hide h
 clear hE hD hk h hs hok hq
 have HK:=hide k0
 clear k0
 unfold shV at hc ⊢
 generalize cO s=o0 at hc hm HSV HBX HK ⊢
 generalize cS s=o1 at hc hm HSV HBX HK ⊢
 generalize cL s=o2 at hc hm HSV HBX HK ⊢
 generalize cG s=o3 at hc hm HSV HBX HK ⊢
 have hqz:¬ (q:Int) < 0:=by omega
 go_enter Tryz.func119,Tryz.ntmps119
 go_wp2_with fail
 refine hm.mono ?_
 rintro e w' ⟨rfl,rfl⟩
 clear hm
 go_wp2_with fail
 refine hc.mono ?_
 rintro e w4 ⟨rfl,hk4⟩
 clear hc
 have k4:=HK.out.trans' hk4
 have c4:=kp_cell c0 k4
 have hb4:=HBX.out.keep hk4 (fun f=>f)
 go_wp2_with fail
 refine (pwrite_any (HR.out.dk.lt.no k4) (Bts.nil w4) hlo2 (q:Int)).mono ?_
 rintro e w5 ⟨rfl,hd5,hk5⟩
 have hwn:¬ (fun k=>Fd F g b k∧k < w.heap.size) w.heap.size:=fun hf=>Nat.lt_irrefl _ hf.2
 obtain ⟨q0,q1,q2,q3⟩:=(hb4.keep hk5 hwn).cell
 have m5:=(HR.out.mp.no k4).keep hk5 (fun f=>f.1.2.2 rfl)
 have b5:=(HR.out.blk.no k4).keep hk5 (fun f=>f.1.2.1 rfl)
 have c5:=b5.c1
 have HM5:=hide m5
 have kF:Kp (Fd F g b) w w5:=(k4.of_no _).trans' (hk5.mono fun k hk=>hk.1)
 have h5:VtR w5 (Up F w) g gd b ⟨V.D.put (q:Int) [],V.L⟩:=HR.out.disk (put_n _ _ _) (hd5.mono fun k hk=>hk.imp (fun a=>a.1) (fun a=>Nat.le_trans k4.size a)) kF
 have HF5:=hide (And.intro kF h5)
 have ngb:¬ g=b:=HR.out.ne
 have nwb:¬ w.heap.size=b:=by have:=HR.out.mp.lt; omega
 clear c4 m5 hqz kF h5 hd5
 go_wp2_with fail
 refine wp_region_noPanic ?_
 refine wp_region_held_drew (S:=fun w'=>w'.cell? ⟨g,1,none⟩=some (.map (some b))∧w'.cell? ⟨w.heap.size,0,none⟩=some (.int .u32 (o0:Int))∧w'.cell? ⟨w.heap.size,1,none⟩=some (.int .u16 (o1:Int))∧w'.cell? ⟨w.heap.size,2,none⟩=some (.int .u16 (o2:Int))∧w'.cell? ⟨w.heap.size,3,none⟩=some (.int .u32 (o3:Int))) (by kernel_rfl) (⟨c5,q0,q1,q2,q3⟩) (fun hHeld=>?_)
 refine wpAnyH_take (i:=0) (v:=?v0) (oi:=?o0) ?h0 (by kernel_rfl) (by kernel_rfl) (by kernel_rfl) (fun _ _ _ h=>h) (Or.inl ⟨?w0,?y0⟩) hHeld ?r0
 case h0=>simp only [gA0,gA1,gA2]; rfl
 case w0=>rfl
 case y0=>intro w hSw; (try dsimp only at hSw); go_simp; (try with_reducible rfl)
 simp only [Act.put,sA0,sA1,sA2]
 refine wpAnyH_take (i:=1) (v:=?v1) (oi:=?o1) ?h1 (by kernel_rfl) (by kernel_rfl) (by kernel_rfl) (fun _ _ _ h=>h) (Or.inl ⟨?w1,?y1⟩) hHeld ?r1
 case h1=>simp only [gA0,gA1,gA2]; rfl
 case w1=>rfl
 case y1=>intro w hSw; (try dsimp only at hSw); go_simp; (try with_reducible rfl)
 simp only [Act.put,sA0,sA1,sA2]
 refine wpAnyH_take (i:=2) (v:=?v2) (oi:=?o2) ?h2 (by kernel_rfl) (by kernel_rfl) (by kernel_rfl) (fun _ _ _ h=>h) (Or.inl ⟨?w2,?y2⟩) hHeld ?r2
 case h2=>simp only [gA0,gA1,gA2]; rfl
 case w2=>rfl
 case y2=>intro w hSw; (try dsimp only at hSw); go_simp; (try with_reducible rfl)
 simp only [Act.put,sA0,sA1,sA2]
 refine wpAnyH_take (i:=3) (v:=?v3) (oi:=?o3) ?h3 (by kernel_rfl) (by kernel_rfl) (by kernel_rfl) (fun _ _ _ h=>h) (Or.inl ⟨?w3,?y3⟩) hHeld ?r3
 case h3=>simp only [gA0,gA1,gA2]; rfl
 case w3=>rfl
 case y3=>intro w hSw; (try dsimp only at hSw); go_simp; (try with_reducible rfl)
 simp only [Act.put,sA0,sA1,sA2]
 refine wpAnyH_take (i:=4) (v:=?v4) (oi:=?o4) ?h4 (by kernel_rfl) (by kernel_rfl) (by kernel_rfl) (fun _ _ _ h=>h) (Or.inl ⟨?w4,?y4⟩) hHeld ?r4
 case h4=>simp only [gA0,gA1,gA2]; rfl
 case w4=>rfl
 case y4=>intro w hSw; (try dsimp only at hSw); go_simp; (try with_reducible rfl)
 simp only [Act.put,sA0,sA1,sA2]
 refine wpAnyH_ready (rs:=[5]) (by kernel_rfl) (by simp) ?_
 refine AllReadyH.cons (o:=?o5) ?h5 (fun K hK=>?s5) AllReadyH.nil
 case h5=>simp only [gA0,gA1,gA2]; rfl
 refine step_mdel (s:=s) (L:=V.L) (b:=b) rfl _ _ rfl rfl HSV.out (HM5.out.no (Kp.refl No w5).drew) HS.out HKN.out ?_
 intro w9 hm9 hk9
 refine hK.out _ _ (⟨hk9.cell hHeld.1 ngb,hk9.cell hHeld.2.1 nwb,hk9.cell hHeld.2.2.1 nwb,hk9.cell hHeld.2.2.2.1 nwb,hk9.cell hHeld.2.2.2.2 nwb⟩) (fun hHeld=>?_)
 clear hK K
 try simp only [Act.put,sA0,sA1,sA2]
 refine wpAnyH_done (by kernel_rfl) ?_ _
 refine NoPanic.normal ?_
 have h9:=VtR.map (w:=w5.drew) (w1:=w9) (HF5.out.2.no (Kp.refl No w5).drew) hm9 hk9 HOK.out
 have k9:Kp F w w9:=(HF5.out.1.mono fun k hk=>hk.1).drew.trans' (hk9.mono fun k hk=>by subst hk; exact HR.out.fb)
 have c9:=h9.blk.c0
 have hl9:(V.D.put (q:Int) []).loose.length≤1000000:=Nat.le_trans (put_loose _ _ _) hlo2
 have hy9:(V.D.put (q:Int) []).syncs+1≤1000000000:=by rw [put_syncs]; exact hsy
 clear q0 q1 q2 q3 hm9 hk9 c0 c5
 go_wp2_with fail
 refine (psync_any h9.dk hl9 hy9).mono ?_
 rintro e w2 hp
 have hq:=VtR.synced (G:=F) h9 k9 hp
 obtain rfl:=hp.1
 have HQ:=hide hq
 clear hq hp
 go_wp2_with fail
 go_ret
 exact HQ.out
theorem vdrop_any {w:World} {F:Nat→Prop} {g gd b s:Nat} {V:Vt} (h:VtR w F g gd b V) (hs:s < N96) (hlo2:V.D.loose.length+1≤1000000) (hsy:V.D.syncs+1≤1000000000):Calls Tryz.prog 119 #[.pointer (some ⟨g,0,none⟩),shV s] w (VtPost w F g gd (V.dr s) (.int .i64 (V.drE s:Int))):=by
 rcases hk:kn V.L s with _ | _
 ·exact vdrop_no h hs hk
 ·have:=vdrop_yes h hs hlo2 hsy hk
  have hE:V.drE s=0:=by unfold Vt.drE; rw [if_pos hk]
  rw [hE]
  exact this
end Go.Proofs.YtnfcfdhlmeimhaaGreat
namespace Go.Proofs.YtnfcfdhlmeimhaaGreat
open Go.RowKit
set_option linter.unusedVariables false
set_option linter.unusedSimpArgs false
set_option maxRecDepth 20000
set_option maxHeartbeats 1000000 in
theorem vget_no {w:World} {F:Nat→Prop} {g gd b s:Nat} {V:Vt} (h:VtR w F g gd b V) (hs:s < N96) (hk:kn V.L s=false):Calls Tryz.prog 51 #[.pointer (some ⟨g,0,none⟩),shV s] w (GetPost w (V.gtE s) (V.gtB s)):=by
 have hc:=fun w' (hk:Kp No w w')=>vcell_any (h.blk.no hk) (h.mp.no hk) hs
 have HC:=hide hc
 clear hc
 have h0:=h.blk.c0
 have H:=hide h
 generalize hE:V.gtE s=E
 generalize hB:V.gtB s=B
 have HE:=hide hE
 have HB:=hide hB
 clear hE hB h
 have hz:=celZ_no hk
 have HZ:=hide hz
 have e1:E=6:=by rw [← HE.out]; unfold Vt.gtE; rw [if_neg (by rw [hk]; simp)]
 have e2:B=[]:=by rw [← HB.out]; exact Vt.gtB_err (by rw [HE.out,e1]; omega)
 subst e1
 subst e2
 clear HE HB hk hz
 have hcc:=fun w' hk=>HZ.out ▸ HC.out w' hk
 have HCC:=hide hcc
 clear hcc
 go_enter Tryz.func51,Tryz.ntmps51
 go_wp2_with fail
 refine (HCC.out _ (Kp.alloc No w _)).mono ?_
 rintro e w1 ⟨rfl,hk1⟩
 go_wp2_with fail
 go_ret2
 exact GetPost.err rfl ((Kp.alloc No w _).trans' hk1)
set_option maxHeartbeats 1000000 in
theorem vget_same {w:World} {F:Nat→Prop} {g gd b s:Nat} {V:Vt} (h:VtR w F g gd b V) (hs:s < N96) (hk:kn V.L s=true) (e0':rdE (V.at_ s)=0) (ets':rdS (V.at_ s)=s):Calls Tryz.prog 51 #[.pointer (some ⟨g,0,none⟩),shV s] w (GetPost w (V.gtE s) (V.gtB s)):=by
 have hc:=fun w' (hk:Kp No w w')=>vcell_any (h.blk.no hk) (h.mp.no hk) hs
 have HC:=hide hc
 clear hc
 have h0:=h.blk.c0
 have H:=hide h
 generalize hE:V.gtE s=E
 generalize hB:V.gtB s=B
 have HE:=hide hE
 have HB:=hide hB
 clear hE hB h
 have hz:=celZ_yes hk
 have HZ:=hide hz
 have hin:=hide (H.out.ok.cel_in hk)
 have HK:=hide hk
 have hat:V.at_ s=V.D.rd ((cel V.L s:Nat):Int):=rfl
 obtain ⟨q,hq⟩:∃ q,q=cel V.L s:=⟨_,rfl⟩
 rw [← hq] at hat hz
 have HQ:=hide hq
 obtain ⟨rb,hrb⟩:∃ r,r=V.at_ s:=⟨_,rfl⟩
 rw [← hrb] at hat
 have HRB:=hide hrb
 have HAT:=hide hat
 have hcc:=fun w' hk=>hz ▸ HC.out w' hk
 have HCC:=hide hcc
 have hlen:rb.length≤4096:=by rw [hat]; exact Nat.le_trans (H.out.ok.dk.rd_le _) H.out.ok.dk.s1
 have HLEN:=hide hlen
 clear hcc hat hrb hq hk hz hlen
 obtain ⟨t,ht⟩:∃ t,t=rdS rb:=⟨_,rfl⟩
 have HT:=hide ht
 have hb0:=Bx4.new w (.int .u32 (cO s:Int)) (.int .u16 (cS s:Int)) (.int .u16 (cL s:Int)) (.int .u32 (cG s:Int))
 have HB0:=hide hb0
 clear ht hb0
 unfold shV
 go_enter Tryz.func51,Tryz.ntmps51
 go_wp2_with fail
 refine (HCC.out _ (Kp.alloc No w _)).mono ?_
 rintro e w1 ⟨rfl,hk1⟩
 have hk1':=(Kp.alloc No w (.cells #[.int .u32 (cO s:Int),.int .u16 (cS s:Int),.int .u16 (cL s:Int),.int .u32 (cG s:Int)] 53)).trans' hk1
 have c0:=kp_cell h0 hk1'
 have hd1:=H.out.dk.no hk1'
 have hb1:=HB0.out.keep hk1 (fun f=>f)
 go_wp2_with fail
 refine (pread_any hd1 (q:Int)).mono ?_
 rintro e w2 ⟨A2,n2,c2,rfl,ho2,hk2⟩
 rw [← HAT.out] at ho2
 have hl2:=hide ho2.len
 have hk2':=hk1'.trans' hk2
 have hb2:=hb1.keep hk2 (fun f=>f)
 clear hd1 hb1 c0
 go_wp2_with fail
 refine (opened_any ho2.bts (own_cap ho2) (by have:=hl2.out; have:=HLEN.out; omega)).mono ?_
 rintro e w3 ⟨A3,n3,c3,rfl,ho3,hk3⟩
 have hk3':=hk2'.trans' hk3
 have hb3:=hb2.keep hk3 (fun f=>f)
 rw [← HT.out]
 unfold shV
 clear ho2 hb2
 obtain ⟨er,her⟩:∃ er,er=rdE rb:=⟨_,rfl⟩
 rw [← her]
 have HER:=hide her
 clear her
 have k4:=hk3'.trans' (Kp.alloc No w3 (.cells #[.int .u32 (cO t:Int),.int .u16 (cS t:Int),.int .u16 (cL t:Int),.int .u32 (cG t:Int)] 53))
 have hgE:E=if er=0 then (if t=s then 0 else 21) else er:=by
  rw [← HE.out]
  unfold Vt.gtE
  rw [if_pos HK.out,← HRB.out,← HER.out,← HT.out]
 have e0:er=0:=by rw [HER.out,HRB.out]; exact e0'
 have ets:t=s:=by rw [HT.out,HRB.out]; exact ets'
 clear e0' ets'
 subst e0
 rw [if_pos rfl] at hgE
 subst ets
 rw [if_pos rfl] at hgE
 subst hgE
 have hBB:B=rdB rb:=by rw [← HB.out]; unfold Vt.gtB; rw [if_pos HE.out,← HRB.out]
 have HBB:=hide hBB
 have HO:=hide ((ho3.no (Kp.alloc No w3 (.cells #[.int .u32 (cO t:Int),.int .u16 (cS t:Int),.int .u16 (cL t:Int),.int .u32 (cG t:Int)] 53))).rebase (b:=w.heap.size) fun j hj=>Nat.le_trans hk2'.size (ho3.ge j hj))
 have hb4:=hb3.keep (Kp.alloc No w3 (.cells #[.int .u32 (cO t:Int),.int .u16 (cS t:Int),.int .u16 (cL t:Int),.int .u32 (cG t:Int)] 53)) (fun f=>f)
 have hn4:=Bx4.new w3 (.int .u32 (cO t:Int)) (.int .u16 (cS t:Int)) (.int .u16 (cL t:Int)) (.int .u32 (cG t:Int))
 obtain ⟨p0,p1,p2,p3⟩:=hb4.cell
 obtain ⟨q0,q1,q2,q3⟩:=hn4.cell
 have HK4:=hide k4
 clear hBB ho3 hb3 hb4 hn4 k4 hk3 hk3' hk2 hk2' hk1 hk1'
 go_wp2_with fail
 go_ret2
 exact ⟨A3,n3,c3,rfl,by rw [HBB.out]; exact HO.out,HK4.out⟩
end Go.Proofs.YtnfcfdhlmeimhaaGreat
namespace Go.Proofs.YtnfcfdhlmeimhaaGreat
open Go.RowKit
set_option linter.unusedVariables false
set_option linter.unusedSimpArgs false
set_option maxRecDepth 20000
set_option maxHeartbeats 1000000 in
theorem vget_other {w:World} {F:Nat→Prop} {g gd b s:Nat} {V:Vt} (h:VtR w F g gd b V) (hs:s < N96) (hk:kn V.L s=true) (e0':rdE (V.at_ s)=0) (ets':rdS (V.at_ s)≠s):Calls Tryz.prog 51 #[.pointer (some ⟨g,0,none⟩),shV s] w (GetPost w (V.gtE s) (V.gtB s)):=by
 have hc:=fun w' (hk:Kp No w w')=>vcell_any (h.blk.no hk) (h.mp.no hk) hs
 have HC:=hide hc
 clear hc
 have h0:=h.blk.c0
 have H:=hide h
 generalize hE:V.gtE s=E
 generalize hB:V.gtB s=B
 have HE:=hide hE
 have HB:=hide hB
 clear hE hB h
 have hz:=celZ_yes hk
 have HZ:=hide hz
 have hin:=hide (H.out.ok.cel_in hk)
 have HK:=hide hk
 have hat:V.at_ s=V.D.rd ((cel V.L s:Nat):Int):=rfl
 obtain ⟨q,hq⟩:∃ q,q=cel V.L s:=⟨_,rfl⟩
 rw [← hq] at hat hz
 have HQ:=hide hq
 obtain ⟨rb,hrb⟩:∃ r,r=V.at_ s:=⟨_,rfl⟩
 rw [← hrb] at hat
 have HRB:=hide hrb
 have HAT:=hide hat
 have hcc:=fun w' hk=>hz ▸ HC.out w' hk
 have HCC:=hide hcc
 have hlen:rb.length≤4096:=by rw [hat]; exact Nat.le_trans (H.out.ok.dk.rd_le _) H.out.ok.dk.s1
 have HLEN:=hide hlen
 clear hcc hat hrb hq hk hz hlen
 obtain ⟨t,ht⟩:∃ t,t=rdS rb:=⟨_,rfl⟩
 have HT:=hide ht
 have hb0:=Bx4.new w (.int .u32 (cO s:Int)) (.int .u16 (cS s:Int)) (.int .u16 (cL s:Int)) (.int .u32 (cG s:Int))
 have HB0:=hide hb0
 clear ht hb0
 unfold shV
 go_enter Tryz.func51,Tryz.ntmps51
 go_wp2_with fail
 refine (HCC.out _ (Kp.alloc No w _)).mono ?_
 rintro e w1 ⟨rfl,hk1⟩
 have hk1':=(Kp.alloc No w (.cells #[.int .u32 (cO s:Int),.int .u16 (cS s:Int),.int .u16 (cL s:Int),.int .u32 (cG s:Int)] 53)).trans' hk1
 have c0:=kp_cell h0 hk1'
 have hd1:=H.out.dk.no hk1'
 have hb1:=HB0.out.keep hk1 (fun f=>f)
 go_wp2_with fail
 refine (pread_any hd1 (q:Int)).mono ?_
 rintro e w2 ⟨A2,n2,c2,rfl,ho2,hk2⟩
 rw [← HAT.out] at ho2
 have hl2:=hide ho2.len
 have hk2':=hk1'.trans' hk2
 have hb2:=hb1.keep hk2 (fun f=>f)
 clear hd1 hb1 c0
 go_wp2_with fail
 refine (opened_any ho2.bts (own_cap ho2) (by have:=hl2.out; have:=HLEN.out; omega)).mono ?_
 rintro e w3 ⟨A3,n3,c3,rfl,ho3,hk3⟩
 have hk3':=hk2'.trans' hk3
 have hb3:=hb2.keep hk3 (fun f=>f)
 rw [← HT.out]
 unfold shV
 clear ho2 hb2
 obtain ⟨er,her⟩:∃ er,er=rdE rb:=⟨_,rfl⟩
 rw [← her]
 have HER:=hide her
 clear her
 have k4:=hk3'.trans' (Kp.alloc No w3 (.cells #[.int .u32 (cO t:Int),.int .u16 (cS t:Int),.int .u16 (cL t:Int),.int .u32 (cG t:Int)] 53))
 have hgE:E=if er=0 then (if t=s then 0 else 21) else er:=by
  rw [← HE.out]
  unfold Vt.gtE
  rw [if_pos HK.out,← HRB.out,← HER.out,← HT.out]
 have e0:er=0:=by rw [HER.out,HRB.out]; exact e0'
 have ets:¬ t=s:=by rw [HT.out,HRB.out]; exact ets'
 clear e0' ets'
 subst e0
 rw [if_pos rfl] at hgE
 rw [if_neg ets] at hgE
 subst hgE
 have e2:B=[]:=by rw [← HB.out]; exact Vt.gtB_err (by rw [HE.out]; omega)
 subst e2
 have hb4:=hb3.keep (Kp.alloc No w3 (.cells #[.int .u32 (cO t:Int),.int .u16 (cS t:Int),.int .u16 (cL t:Int),.int .u32 (cG t:Int)] 53)) (fun f=>f)
 have hn4:=Bx4.new w3 (.int .u32 (cO t:Int)) (.int .u16 (cS t:Int)) (.int .u16 (cL t:Int)) (.int .u32 (cG t:Int))
 obtain ⟨p0,p1,p2,p3⟩:=hb4.cell
 obtain ⟨q0,q1,q2,q3⟩:=hn4.cell
 have HK4:=hide k4
 clear ho3 hb3 hb4 hn4 k4 hk3 hk3' hk2 hk2' hk1 hk1'
 have hts:(!(t == s))=true:=by simp [ets]
 have HTS:=hide hts
 clear hts
 have hT:=rdS_lt rb
 rw [← HT.out] at hT
 have HTL:=hide hT
 have HSL:=hide hs
 clear hT hs ets
 go_wp2_with (refine wpList_sneq (s:=t) (t:=s) rfl _ _ rfl rfl rfl HTL.out HSL.out true HTS.out ?_)
 go_ret2
 exact GetPost.err rfl HK4.out
set_option maxHeartbeats 1000000 in
theorem vget_err {w:World} {F:Nat→Prop} {g gd b s:Nat} {V:Vt} (h:VtR w F g gd b V) (hs:s < N96) (hk:kn V.L s=true) (e0':rdE (V.at_ s)≠0):Calls Tryz.prog 51 #[.pointer (some ⟨g,0,none⟩),shV s] w (GetPost w (V.gtE s) (V.gtB s)):=by
 have hc:=fun w' (hk:Kp No w w')=>vcell_any (h.blk.no hk) (h.mp.no hk) hs
 have HC:=hide hc
 clear hc
 have h0:=h.blk.c0
 have H:=hide h
 generalize hE:V.gtE s=E
 generalize hB:V.gtB s=B
 have HE:=hide hE
 have HB:=hide hB
 clear hE hB h
 have hz:=celZ_yes hk
 have HZ:=hide hz
 have hin:=hide (H.out.ok.cel_in hk)
 have HK:=hide hk
 have hat:V.at_ s=V.D.rd ((cel V.L s:Nat):Int):=rfl
 obtain ⟨q,hq⟩:∃ q,q=cel V.L s:=⟨_,rfl⟩
 rw [← hq] at hat hz
 have HQ:=hide hq
 obtain ⟨rb,hrb⟩:∃ r,r=V.at_ s:=⟨_,rfl⟩
 rw [← hrb] at hat
 have HRB:=hide hrb
 have HAT:=hide hat
 have hcc:=fun w' hk=>hz ▸ HC.out w' hk
 have HCC:=hide hcc
 have hlen:rb.length≤4096:=by rw [hat]; exact Nat.le_trans (H.out.ok.dk.rd_le _) H.out.ok.dk.s1
 have HLEN:=hide hlen
 clear hcc hat hrb hq hk hz hlen
 obtain ⟨t,ht⟩:∃ t,t=rdS rb:=⟨_,rfl⟩
 have HT:=hide ht
 have hb0:=Bx4.new w (.int .u32 (cO s:Int)) (.int .u16 (cS s:Int)) (.int .u16 (cL s:Int)) (.int .u32 (cG s:Int))
 have HB0:=hide hb0
 clear ht hb0
 unfold shV
 go_enter Tryz.func51,Tryz.ntmps51
 go_wp2_with fail
 refine (HCC.out _ (Kp.alloc No w _)).mono ?_
 rintro e w1 ⟨rfl,hk1⟩
 have hk1':=(Kp.alloc No w (.cells #[.int .u32 (cO s:Int),.int .u16 (cS s:Int),.int .u16 (cL s:Int),.int .u32 (cG s:Int)] 53)).trans' hk1
 have c0:=kp_cell h0 hk1'
 have hd1:=H.out.dk.no hk1'
 have hb1:=HB0.out.keep hk1 (fun f=>f)
 go_wp2_with fail
 refine (pread_any hd1 (q:Int)).mono ?_
 rintro e w2 ⟨A2,n2,c2,rfl,ho2,hk2⟩
 rw [← HAT.out] at ho2
 have hl2:=hide ho2.len
 have hk2':=hk1'.trans' hk2
 have hb2:=hb1.keep hk2 (fun f=>f)
 clear hd1 hb1 c0
 go_wp2_with fail
 refine (opened_any ho2.bts (own_cap ho2) (by have:=hl2.out; have:=HLEN.out; omega)).mono ?_
 rintro e w3 ⟨A3,n3,c3,rfl,ho3,hk3⟩
 have hk3':=hk2'.trans' hk3
 have hb3:=hb2.keep hk3 (fun f=>f)
 rw [← HT.out]
 unfold shV
 clear ho2 hb2
 obtain ⟨er,her⟩:∃ er,er=rdE rb:=⟨_,rfl⟩
 rw [← her]
 have HER:=hide her
 clear her
 have k4:=hk3'.trans' (Kp.alloc No w3 (.cells #[.int .u32 (cO t:Int),.int .u16 (cS t:Int),.int .u16 (cL t:Int),.int .u32 (cG t:Int)] 53))
 have hgE:E=if er=0 then (if t=s then 0 else 21) else er:=by
  rw [← HE.out]
  unfold Vt.gtE
  rw [if_pos HK.out,← HRB.out,← HER.out,← HT.out]
 have e0:¬ er=0:=by rw [HER.out,HRB.out]; exact e0'
 clear e0'
 rw [if_neg e0] at hgE
 subst hgE
 have e2:B=[]:=by rw [← HB.out]; exact Vt.gtB_err (by rw [HE.out]; exact e0)
 subst e2
 have hne:((E:Int) != 0)=true:=by simp; omega
 have HK4:=hide k4
 clear ho3 hb3 k4 hk3 hk3' hk2 hk2' hk1 hk1'
 go_wp2_with fail
 go_ret2
 exact GetPost.err rfl HK4.out
end Go.Proofs.YtnfcfdhlmeimhaaGreat
namespace Go.Proofs.YtnfcfdhlmeimhaaGreat
open Go.RowKit
set_option linter.unusedVariables false
set_option linter.unusedSimpArgs false
set_option maxRecDepth 20000
theorem vget_any {w:World} {F:Nat→Prop} {g gd b s:Nat} {V:Vt} (h:VtR w F g gd b V) (hs:s < N96):Calls Tryz.prog 51 #[.pointer (some ⟨g,0,none⟩),shV s] w (GetPost w (V.gtE s) (V.gtB s)):=by
 rcases hk:kn V.L s with _ | _
 ·exact vget_no h hs hk
 ·by_cases e0:rdE (V.at_ s)=0
  ·by_cases e1:rdS (V.at_ s)=s
   ·exact vget_same h hs hk e0 e1
   ·exact vget_other h hs hk e0 e1
  ·exact vget_err h hs hk e0
end Go.Proofs.YtnfcfdhlmeimhaaGreat
namespace Go.Proofs.YtnfcfdhlmeimhaaGreat
open Go.RowKit
set_option linter.unusedVariables false
set_option linter.unusedSimpArgs false
set_option maxRecDepth 20000
theorem VtR.lt {w:World} {F:Nat→Prop} {g gd b:Nat} {V:Vt} (h:VtR w F g gd b V):VtR w (fun k=>F k∧k < w.heap.size) g gd b V :=
 ⟨h.blk,h.dk.lt.mono fun k hk=>⟨⟨hk.1.1,hk.2⟩,hk.1.2⟩,h.mp,⟨h.fg,h.blk.lt⟩,⟨h.fb,h.mp.lt⟩,h.ok⟩
end Go.Proofs.YtnfcfdhlmeimhaaGreat
