/- Package server's Handle and Trip, as contracts over memory (printed by tools/gen_ndi.py); The document's with and done of layer 11, each as a contract over memory. No condition. -/
import Derived.Test.YtnfcfdhlmeimhaaGreatSpba
import Derived.Test.YtnfcfdhlmeimhaaGreatSpav
import Derived.Test.YtnfcfdhlmeimhaaGreatSpaw
import Derived.Test.YtnfcfdhlmeimhaaGreatSpal
namespace Go.Proofs.YtnfcfdhlmeimhaaGreat
open Go.RowKit
set_option linter.unusedVariables false
set_option linter.unusedSimpArgs false
set_option maxRecDepth 20000
section
variable {n k a d qq:Nat} {x:Nat→UInt8} {N:Nd} {q:Rq}
theorem ndB_len (hD:Dim n k a d qq) (h:N.V.Ok) (q:Rq):(ndB n a x N.V q).length≤N.V.D.size:=by
  unfold ndB
  split
  · exact h.gtB_len _
  · split
    · unfold hlpB
      split
      · rw [rowL_len]
        exact Nat.le_trans (Nat.div_le_self _ _) (h.gtB_len _)
      · exact Nat.zero_le _
    · exact Nat.zero_le _
theorem Nd.out_ok (hD:Dim n k a d qq) (h:N.Ok) (hq:q.Fit) (hz:N.V.D.size≤1000):(N.out n a x q).num < 18446744073709551616∧(N.out n a x q).rgt=true∧(N.out n a x q).data.length≤1000:=by
  rcases ho:N.old q with _ | p
  · rw [(Nd.hand_none (n:=n) (a:=a) (x:=x) ho).2]
    exact ⟨hq.num,ndP_rgt _ _ _ _ _,Nat.le_trans (ndB_len hD h.v q) hz⟩
  · rw [(Nd.hand_some (n:=n) (a:=a) (x:=x) ho).2]
    have hp:p ∈ N.sn:=by
      unfold Nd.old at ho
      split at ho
      · exact List.mem_of_find?_eq_some ho
      · cases ho
    have:=h.all p hp
    exact ⟨this.num,this.rgt,by rw [this.nil]; exact Nat.zero_le _⟩
theorem Nd.handB_yes {bs:List UInt8} (h:rqE bs=true):N.handB n a x bs=N.hand n a x (rqO bs)∧N.outB n a x bs=(N.out n a x (rqO bs)).bytes:=by unfold Nd.handB Nd.outB; rw [h]; exact ⟨rfl,rfl⟩
theorem Nd.handB_no {bs:List UInt8} (h:rqE bs=false):N.handB n a x bs=N∧N.outB n a x bs=[]:=by unfold Nd.handB Nd.outB; rw [h]; exact ⟨rfl,rfl⟩
end
/-- What Handle comes to. -/
def HanPost (w:World) (F:Nat→Prop) (B n k:Nat) (x:Nat→UInt8) (g gc gd:Nat) (N1:Nd) (bs:List UInt8) (e:Ending) (w1:World):Prop :=
  ∃ A m c,e=.returned (.slice A m c)∧Own w1 w.heap.size 5 (.slice A m c) bs∧(∃ F1,SvAt w1 F1 B n k x g gc gd N1∧(∀ z,F1 z→Up F w z)∧∀ z,(Value.slice A m c).ownBlock=some z→¬ F1 z)∧Kp F w w1
set_option maxHeartbeats 4000000 in
theorem shandle_any {w:World} {F:Nat→Prop} {B n k a d qq g gc gd gv b:Nat} {x:Nat→UInt8} {rv u:Value} {N:Nd} {bs:List UInt8} (h:SvR w F B n k x g gc gd gv b rv N) (hD:Dim n k a d qq) (hz:SzK N.V) (hb:Bts w u bs) (hl:bs.length≤100000) (hdn:N.done+1 < 18446744073709551616) :
    Calls Tryz.prog 23 #[.pointer (some ⟨g,0,none⟩),u] w (HanPost w F B n k x g gc gd (N.handB n a x bs) (N.outB n a x bs)):=by
  have HM:=hide h.blk.made
  have HS:=hide h
  have HZ:=hide hz
  have HD:=hide hD
  rcases hE:rqE bs with _ | _
  · have HP:=hide (parse15_any hb hl rq0 21 (fun e=>by rw [hE] at e; cases e) fun _=>⟨rfl,rfl⟩)
    have HR:=hide (Nd.handB_no (n:=n) (a:=a) (x:=x) (N:=N) hE)
    clear h hD hz hb hl hdn hE
    go_enter Tryz.func23,Tryz.ntmps23
    go_wp2_with fail
    refine HM.out.mono ?_
    rintro e w' ⟨rfl,rfl⟩
    go_wp2_with fail
    refine HP.out.mono ?_
    rintro e w1 ⟨A1,n1,c1,rfl,_,hk1⟩
    have HK:=hide (hk1.trans' (Kp.alloc No w1 (.cells #[.int .u64 (rq0.num:Int),.int .i64 rq0.kind,.int .u32 (cO rq0.s:Int),.int .u16 (cS rq0.s:Int),.int .u16 (cL rq0.s:Int),.int .u32 (cG rq0.s:Int),.int .u16 (rq0.lost:Int),.slice A1 n1 c1] 84)))
    clear hk1
    go_wp2
    go_ret
    refine ⟨none,0,0,rfl,by rw [HR.out.2]; exact Own.nil _ _ _,?_,HK.out.of_no F⟩
    rw [HR.out.1]
    exact ⟨F,⟨gv,b,rv,HS.out.no HK.out⟩,fun z f=>.inl f,fun z e=>by cases e⟩
  · have HP:=hide (parse15_any hb hl (rqO bs) 0 (fun _=>⟨rfl,rfl⟩) fun e=>by rw [hE] at e; cases e)
    have HR:=hide (Nd.handB_yes (n:=n) (a:=a) (x:=x) (N:=N) hE)
    have hf:=rqO_fit bs
    have hdl:(rqO bs).data.length≤100000:=by show (bs.drop 23).length≤_; rw [List.length_drop]; omega
    generalize rqO bs=q at *
    have HOK:=hide (Nd.out_ok (x:=x) hD h.ok hf hz.z)
    have HA:Hid (∀ w' A1 n1 c1,Kp No w w'→Bts w' (.slice A1 n1 c1) q.data→Calls Tryz.prog 48 #[.pointer (some ⟨g,0,none⟩),rqV q (.slice A1 n1 c1)] w' (AnsPost w' F B n k x g gc gd (N.hand n a x q) (N.out n a x q))):=fun w' A1 n1 c1 hk' hb'=>sans_any (h.no hk') hD hf hz hb' (by have:=hb'.len; omega) hdn
    clear h hD hz hb hl hdn hE hf hdl
    go_enter Tryz.func23,Tryz.ntmps23
    go_wp2_with fail
    refine HM.out.mono ?_
    rintro e w' ⟨rfl,rfl⟩
    go_wp2_with fail
    refine HP.out.mono ?_
    rintro e w1 ⟨A1,n1,c1,rfl,hb1,hk1⟩
    have hka:=Kp.alloc No w1 (.cells #[.int .u64 (q.num:Int),.int .i64 q.kind,.int .u32 (cO q.s:Int),.int .u16 (cS q.s:Int),.int .u16 (cL q.s:Int),.int .u32 (cG q.s:Int),.int .u16 (q.lost:Int),.slice A1 n1 c1] 84)
    have HK:=hide (hk1.trans' hka)
    have HB:=hide (hb1.no hka)
    have HQ:=hide (Bx8.new w1 84 (.int .u64 (q.num:Int)) (.int .i64 q.kind) (.int .u32 (cO q.s:Int)) (.int .u16 (cS q.s:Int)) (.int .u16 (cL q.s:Int)) (.int .u32 (cG q.s:Int)) (.int .u16 (q.lost:Int)) (.slice A1 n1 c1))
    clear hk1 hb1 hka
    go_upto_region 6 with (fail)
    generalize w1.alloc (.cells #[.int .u64 (q.num:Int),.int .i64 q.kind,.int .u32 (cO q.s:Int),.int .u16 (cS q.s:Int),.int .u16 (cL q.s:Int),.int .u32 (cG q.s:Int),.int .u16 (q.lost:Int),.slice A1 n1 c1] 84)=w2 at HK HB HQ ⊢
    generalize w1.heap.size=B0 at HQ ⊢
    obtain ⟨z0,z1,z2,z3,z4,z5,z6,z7⟩:=HQ.out.cell
    go_wp2_with fail
    refine (HA.out _ _ _ _ HK.out HB.out).mono ?_
    rintro e w3 ⟨u3,rfl,ho3,hs3,hk3⟩
    obtain ⟨A3,n3,c3,rfl⟩:=ho3.bts.form
    have HS3:=hide hs3
    have HK3:=hide hk3
    have HO3:=hide ho3
    clear ho3 hs3 hk3 z0 z1 z2 z3 z4 z5 z6 z7
    generalize N.out n a x q=P at *
    go_wp2_with fail
    refine (pbytes_any P HOK.out.1 HOK.out.2.1 HO3.out.bts (by have h1:=HO3.out.len; have h2:=HOK.out.2.2; omega)).mono ?_
    rintro e w4 ⟨A4,n4,c4,rfl,ho4,hk4⟩
    have HO4:=hide ho4
    have HK4:=hide hk4
    clear ho4 hk4
    go_wp2
    go_ret
    have h1:=HK.out.size
    have h2:=HK3.out.size
    refine ⟨A4,n4,c4,rfl,by rw [HR.out.2]; exact HO4.out.rebase fun i hi=>(by have:=HO4.out.ge i hi; omega),?_,(((HK.out.of_no F).trans' HK3.out).trans' (HK4.out.of_no F))⟩
    rw [HR.out.1]
    obtain ⟨gv3,b3,rv3,hs⟩:=HS3.out
    exact ⟨_,⟨gv3,b3,rv3,hs.lt.no HK4.out⟩,fun z f=>f.1.imp (fun f=>f) fun f=>Nat.le_trans h1 f,fun z e f=>by have:=HO4.out.ge z e; have:=f.2; omega⟩
set_option maxHeartbeats 4000000 in
theorem strip_any {w:World} {F:Nat→Prop} {B n k g gc gd gv b:Nat} {x:Nat→UInt8} {rv u:Value} {N:Nd} {bs:List UInt8} (h:SvR w F B n k x g gc gd gv b rv N) (hz:SzK N.V) (hb:Bts w u bs) (hl:bs.length≤100000) (z y:Int) :
    Calls Tryz.prog 20 #[.pointer (some ⟨g,0,none⟩),u,.int .i64 z,.int .i64 y] w (SvPost w F B n k x g gc gd (N.trip bs z y) (.returned (.tuple #[]))):=by
  have HM:=hide h.blk.made
  have HS:=hide h.lt
  have HFG:Hid (∀ v,F v→B≤v):=h.fb
  have HUP:Hid (∀ v,Up F w v→B≤v):=h.up
  have HZ:=hide hz
  obtain ⟨q,Z,hP,hq,hdl,hf⟩:∃ q Z,Calls Tryz.prog 42 #[u] w (PqPost w q Z)∧((rqE bs=true∧q=rqO bs)∨(rqE bs=false∧q.kind=0))∧q.data.length≤100000∧q.Fit:=by
    rcases hE:rqE bs with _ | _
    · exact ⟨rq0,21,parse15_any hb hl rq0 21 (fun e=>by rw [hE] at e; cases e) (fun _=>⟨rfl,rfl⟩),.inr ⟨rfl,rfl⟩,Nat.zero_le _,rq0_fit⟩
    · exact ⟨rqO bs,0,parse15_any hb hl (rqO bs) 0 (fun _=>⟨rfl,rfl⟩) (fun e=>by rw [hE] at e; cases e),.inl ⟨rfl,rfl⟩,by show (bs.drop 23).length≤_; rw [List.length_drop]; omega,rqO_fit _⟩
  have HP:=hide hP
  have HF:=hide hf
  have HL:=hide hdl
  clear h hz hb hl hP hf hdl
  go_enter Tryz.func20,Tryz.ntmps20
  go_wp2_with fail
  refine HM.out.mono ?_
  rintro e w' ⟨rfl,rfl⟩
  go_wp2_with fail
  refine HP.out.mono ?_
  rintro e w1 ⟨A1,n1,c1,rfl,hb1,hk1⟩
  have hka:=Kp.alloc No w1 (.cells #[.int .u64 (q.num:Int),.int .i64 q.kind,.int .u32 (cO q.s:Int),.int .u16 (cS q.s:Int),.int .u16 (cL q.s:Int),.int .u32 (cG q.s:Int),.int .u16 (q.lost:Int),.slice A1 n1 c1] 84)
  have HK:=hide (hk1.trans' hka)
  have HB2:=hide (hb1.no hka)
  have HQ:=hide (Bx8.new w1 84 (.int .u64 (q.num:Int)) (.int .i64 q.kind) (.int .u32 (cO q.s:Int)) (.int .u16 (cS q.s:Int)) (.int .u16 (cL q.s:Int)) (.int .u32 (cG q.s:Int)) (.int .u16 (q.lost:Int)) (.slice A1 n1 c1))
  have HB0:Hid (w.heap.size≤w1.heap.size):=hk1.size
  clear hk1 hb1 hka
  go_upto_region 2 with (fail)
  generalize w1.alloc (.cells #[.int .u64 (q.num:Int),.int .i64 q.kind,.int .u32 (cO q.s:Int),.int .u16 (cS q.s:Int),.int .u16 (cL q.s:Int),.int .u32 (cG q.s:Int),.int .u16 (q.lost:Int),.slice A1 n1 c1] 84)=w2 at HK HB2 HQ ⊢
  generalize w1.heap.size=B0 at HQ HB0 ⊢
  have z1:=HQ.out.cell.2.1
  have HS2:=hide (HS.out.no HK.out)
  by_cases e2:q.kind=2
  · have t2:(q.kind == 2)=true:=by simp [e2]
    have HT:Hid (N.trip bs z y=Nd.restart ⟨N.V.bg q.s q.data,N.sn,N.done⟩ z y):=by
      show N.trip bs z y=_
      rcases hq with ⟨h1,rfl⟩ | ⟨_,h1⟩
      · unfold Nd.trip Nd.begun Nd.restart
        rw [if_pos ⟨h1,e2⟩]
      · omega
    have HLO:Hid ((N.V.bg q.s q.data).D.loose.length≤1000000):=by
      have h1:=HZ.out.l
      by_cases e:N.V.bgE q.s q.data=0
      · rw [Vt.bg_yes e]
        have:=put_loose N.V.D N.V.free (frV q.s q.data)
        show (N.V.D.put N.V.free (frV q.s q.data)).loose.length≤1000000
        omega
      · rw [Vt.bg_no e]
        show N.V.D.loose.length≤1000000
        omega
    clear e2 hq
    go_wp2_with fail
    clear z1
    refine wp_region_noPanic ?_
    refine wp_region_held_drew (S:=fun w'=>w'.cell? ⟨g,2,none⟩=some (.pointer (some ⟨gv,0,none⟩))∧w'.cell? ⟨B0,2,none⟩=some (.int .u32 (cO q.s:Int))∧w'.cell? ⟨B0,3,none⟩=some (.int .u16 (cS q.s:Int))∧w'.cell? ⟨B0,4,none⟩=some (.int .u16 (cL q.s:Int))∧w'.cell? ⟨B0,5,none⟩=some (.int .u32 (cG q.s:Int))∧w'.cell? ⟨B0,7,none⟩=some (.slice A1 n1 c1)) (by kernel_rfl) (⟨HS2.out.blk.cell.2.2.1,HQ.out.cell.2.2.1,HQ.out.cell.2.2.2.1,HQ.out.cell.2.2.2.2.1,HQ.out.cell.2.2.2.2.2.1,HQ.out.cell.2.2.2.2.2.2.2⟩) (fun hHeld=>?_)
    have HS2:=hide (HS2.out.no (Kp.refl No w2).drew)
    have HQ:=hide (HQ.out.no (Kp.refl No w2).drew)
    have HB2:=hide (HB2.out.no (Kp.refl No w2).drew)
    have HK:Hid (Kp No w w2.drew):=HK.out.drew
    generalize w2.drew=wd at HS2 HQ HB2 HK hHeld ⊢
    refine wpAnyH_take (i:=0) (v:=?vdx1) (oi:=?odx1) ?hdx1 (by kernel_rfl) (by kernel_rfl) (by kernel_rfl) (fun _ _ _ h=>h) (Or.inl ⟨?wdx1,?ydx1⟩) hHeld ?rdx1
    case hdx1=>simp only [gA0,gA1,gA2]; rfl
    case wdx1=>rfl
    case ydx1=>intro w hSw; (try dsimp only at hSw); go_simp; (try with_reducible rfl)
    simp only [Act.put,sA0,sA1,sA2]
    refine wpAnyH_take (i:=1) (v:=?vdx2) (oi:=?odx2) ?hdx2 (by kernel_rfl) (by kernel_rfl) (by kernel_rfl) (fun _ _ _ h=>h) (Or.inl ⟨?wdx2,?ydx2⟩) hHeld ?rdx2
    case hdx2=>simp only [gA0,gA1,gA2]; rfl
    case wdx2=>rfl
    case ydx2=>intro w hSw; (try dsimp only at hSw); go_simp; (try with_reducible rfl)
    simp only [Act.put,sA0,sA1,sA2]
    refine wpAnyH_take (i:=2) (v:=?vdx3) (oi:=?odx3) ?hdx3 (by kernel_rfl) (by kernel_rfl) (by kernel_rfl) (fun _ _ _ h=>h) (Or.inl ⟨?wdx3,?ydx3⟩) hHeld ?rdx3
    case hdx3=>simp only [gA0,gA1,gA2]; rfl
    case wdx3=>rfl
    case ydx3=>intro w hSw; (try dsimp only at hSw); go_simp; (try with_reducible rfl)
    simp only [Act.put,sA0,sA1,sA2]
    refine wpAnyH_take (i:=3) (v:=?vdx4) (oi:=?odx4) ?hdx4 (by kernel_rfl) (by kernel_rfl) (by kernel_rfl) (fun _ _ _ h=>h) (Or.inl ⟨?wdx4,?ydx4⟩) hHeld ?rdx4
    case hdx4=>simp only [gA0,gA1,gA2]; rfl
    case wdx4=>rfl
    case ydx4=>intro w hSw; (try dsimp only at hSw); go_simp; (try with_reducible rfl)
    simp only [Act.put,sA0,sA1,sA2]
    refine wpAnyH_take (i:=4) (v:=?vdx5) (oi:=?odx5) ?hdx5 (by kernel_rfl) (by kernel_rfl) (by kernel_rfl) (fun _ _ _ h=>h) (Or.inl ⟨?wdx5,?ydx5⟩) hHeld ?rdx5
    case hdx5=>simp only [gA0,gA1,gA2]; rfl
    case wdx5=>rfl
    case ydx5=>intro w hSw; (try dsimp only at hSw); go_simp; (try with_reducible rfl)
    simp only [Act.put,sA0,sA1,sA2]
    refine wpAnyH_take (i:=5) (v:=?vdx6) (oi:=?odx6) ?hdx6 (by kernel_rfl) (by kernel_rfl) (by kernel_rfl) (fun _ _ _ h=>h) (Or.inl ⟨?wdx6,?ydx6⟩) hHeld ?rdx6
    case hdx6=>simp only [gA0,gA1,gA2]; rfl
    case wdx6=>rfl
    case ydx6=>intro w hSw; (try dsimp only at hSw); go_simp; (try with_reducible rfl)
    simp only [Act.put,sA0,sA1,sA2]
    refine wpAnyH_take (i:=6) (v:=?vdx7) (oi:=?odx7) ?hdx7 (by kernel_rfl) (by kernel_rfl) (by kernel_rfl) (fun _ _ _ h=>h) (Or.inl ⟨?wdx7,?ydx7⟩) hHeld ?rdx7
    case hdx7=>simp only [gA0,gA1,gA2]; rfl
    case wdx7=>rfl
    case ydx7=>intro w hSw; (try dsimp only at hSw); go_simp; (try with_reducible rfl)
    simp only [Act.put,sA0,sA1,sA2]
    refine wpAnyH_take (i:=7) (v:=?vdx8) (oi:=?odx8) ?hdx8 (by kernel_rfl) (by kernel_rfl) (by kernel_rfl) (fun _ _ _ h=>h) (Or.inl ⟨?wdx8,?ydx8⟩) hHeld ?rdx8
    case hdx8=>simp only [gA0,gA1,gA2]; rfl
    case wdx8=>rfl
    case ydx8=>intro w hSw; (try dsimp only at hSw); go_simp; (try with_reducible rfl)
    simp only [Act.put,sA0,sA1,sA2]
    refine wpAnyH_ready (rs:=[8]) (by kernel_rfl) (by simp) ?_
    refine AllReadyH.cons (o:=?odx9) ?hdx9 (fun K hK=>?sdx9) AllReadyH.nil
    case hdx9=>simp only [gA0,gA1,gA2]; rfl
    go_simp
    refine (begin_any HS2.out.vt HF.out.s HB2.out (by have:=HL.out; omega) HZ.out.n (by have:=HZ.out.l; omega)).mono ?_
    rintro e w3 ⟨rfl,⟨b3,hv3⟩,hk3⟩
    have HS3:=hide (HS2.out.vault hv3 hk3)
    have HQ3:=hide (HQ.out.keep hk3 fun f=>by have:=f.1.2; have:=HB0.out; omega)
    have HK3:Hid (Kp F w w3):=((HK.out.of_no F).trans' (hk3.mono fun z f=>f.1.1))
    have HZ3:=hide hk3.size
    have hS3:w3.cell? ⟨g,2,none⟩=some (.pointer (some ⟨gv,0,none⟩))∧w3.cell? ⟨B0,2,none⟩=some (.int .u32 (cO q.s:Int))∧w3.cell? ⟨B0,3,none⟩=some (.int .u16 (cS q.s:Int))∧w3.cell? ⟨B0,4,none⟩=some (.int .u16 (cL q.s:Int))∧w3.cell? ⟨B0,5,none⟩=some (.int .u32 (cG q.s:Int))∧w3.cell? ⟨B0,7,none⟩=some (.slice A1 n1 c1):=⟨HS3.out.blk.cell.2.2.1,HQ3.out.cell.2.2.1,HQ3.out.cell.2.2.2.1,HQ3.out.cell.2.2.2.2.1,HQ3.out.cell.2.2.2.2.2.1,HQ3.out.cell.2.2.2.2.2.2.2⟩
    clear hv3 hk3
    go_wp2_with fail
    refine hK.out _ _ (hS3) (fun hHeld=>?_)
    clear hK K
    try simp only [Act.put,sA0,sA1,sA2]
    refine wpAnyH_done (by kernel_rfl) ?_ _
    refine NoPanic.normal ?_
    clear hHeld hS3
    go_wp2_with fail
    refine (srestart_any HS3.out HLO.out z y).mono ?_
    rintro e w4 ⟨rfl,hs4,hk4⟩
    have HS4:=hide hs4
    have HK4:=hide hk4
    clear hs4 hk4
    go_wp2
    (first | go_end0 | refine bodyPost_ret (results_none rfl _ _ _) rfl ?_)
    refine ⟨rfl,?_,HK3.out.trans (HK4.out.mono fun v f=>?_)⟩
    · obtain ⟨gv4,b4,rv4,hs⟩:=HS4.out
      have e:N.trip bs z y=Nd.restart ⟨N.V.bg q.s q.data,N.sn,N.done⟩ z y:=HT.out
      rw [e]
      refine ⟨gv4,b4,rv4,hs.mono (fun v f=>?_) HUP.out⟩
      have h1:=HK.out.size
      have h2:=HK3.out.size
      have h3:=HZ3.out
      rcases f with (f | f) | f
      · exact .inl f.1
      · exact .inr (by omega)
      · exact .inr (by omega)
    · have h1:=HK.out.size
      rcases f with f | f
      · exact .inl f.1
      · exact .inr (by omega)
  · have t2:(q.kind == 2)=false:=by simp [e2]
    have HT:Hid (N.trip bs z y=N.restart z y):=by
      show N.trip bs z y=_
      unfold Nd.trip Nd.begun Nd.restart
      rw [if_neg]
      rintro ⟨h1,h2⟩
      rcases hq with ⟨_,rfl⟩ | ⟨h3,_⟩
      · exact e2 h2
      · rw [h1] at h3; cases h3
    clear e2 hq
    go_wp2_with fail
    refine (srestart_any HS2.out (by have:=HZ.out.l; omega) z y).mono ?_
    rintro e w4 ⟨rfl,hs4,hk4⟩
    have HS4:=hide hs4
    have HK4:=hide hk4
    clear hs4 hk4 z1
    go_wp2
    (first | go_end0 | refine bodyPost_ret (results_none rfl _ _ _) rfl ?_)
    refine ⟨rfl,?_,(HK.out.of_no F).trans' (HK4.out.mono fun v f=>f.1)⟩
    rw [HT.out]
    obtain ⟨gv4,b4,rv4,hs⟩:=HS4.out
    have h1:=HK.out.size
    exact ⟨gv4,b4,rv4,hs.mono (fun v f=>f.imp (fun f=>f.1) fun f=>Nat.le_trans h1 f) HUP.out⟩
end Go.Proofs.YtnfcfdhlmeimhaaGreat
namespace Go.Proofs.YtnfcfdhlmeimhaaGreat
open Go.RowKit
set_option linter.unusedVariables false
set_option maxRecDepth 20000
set_option linter.unusedSimpArgs false
theorem OwnT.nws {w:World} {base g r c n sz:Nat} {e:TypeId} {xs:List Value} (h:OwnT w base e sz (.slice (some ⟨g,0,none⟩) r c) n xs) (h1:∀ u ∈ xs,u.oneCell'=true):Nws w ⟨g,0,none⟩ n sz xs :=
  ⟨h.1,fun j u hj=>by rw [add_none,Nat.zero_add]; exact h.cellAt hj,h1⟩
/-- What with returns. -/
def RwithPost (w:World) (n:Nat) (xs:List Value) (q:Nat) (b:List UInt8) (e:Ending) (w1:World):Prop :=
  ∃ g' c' vb,e=.returned (.slice (some ⟨g',0,none⟩) n c')∧OwnT w1 w.heap.size 54 1 (.slice (some ⟨g',0,none⟩) n c') n (xs.set q vb)∧Own w1 w.heap.size 5 vb b∧Kp No w w1
set_option maxHeartbeats 2000000 in
theorem rwith_any {w:World} {g c n q:Nat} {xs:List Value} {u:Value} {b:List UInt8} (h:OwnT w 0 54 1 (.slice (some ⟨g,0,none⟩) n c) n xs) (h1:∀ u ∈ xs,u.oneCell'=true) (hq:q < n) (hn:n≤1024) (hb:Bts w u b) (hl:b.length≤900000000) :
    Calls Tryz.prog 38 #[.slice (some ⟨g,0,none⟩) n c,.int .i64 (q:Int),u] w (RwithPost w n xs q b):=by
  obtain ⟨i0,hi0,hz0,hz1,hz2⟩:=byte_parts
  obtain ⟨B,m,d,rfl⟩:=hb.form
  have hI1:=ownT_none w 54 1
  have HH:=hide h
  clear h
  go_enter Tryz.func38,Tryz.ntmps38
  go_wp2_with (first
    | (at_builtin
       refine wpList_appT ty_slc rfl (.tmp 8) (.tmp 9) _ rfl Tryz.underlying36 rfl hI1 ⟨g,0,none⟩ c rfl ((HH.out.no (Kp.alloc No w _)).nws h1) (by omega) (by simp) ?_
       intro A1 n1 c1 w1 hn1 ha
       rw [Nat.zero_add] at hn1
       obtain rfl:n=n1:=hn1.symm
       have k1:Kp No w w1:=ha.keeps hI1 (Kp.alloc No w _)
       have ho1:=ha.own
       rw [Nat.zero_add,List.nil_append] at ho1
       obtain ⟨g',rfl,_⟩:=ho1.some_ (by omega)
       have hcap:=ho1.cap
       have HO1:=hide ho1
       clear ho1 ha)
    | (at_builtin
       refine wpList_app rfl (.tmp 13) (.tmp 14) _ rfl i0 Tryz.underlying54 hi0 hz0 hz1 hz2 rfl (own_empty w1) rfl ((hb.no k1).no (Kp.alloc No w1 _)) (by simp; omega) (by simp) ?_
       intro A3 n3 c3 w3 ha3
       have k3:Kp No w1 w3:=ha3.keeps (own_empty w1) (Kp.alloc No w1 _)
       have ho3:=HO1.out.no k3
       obtain ⟨uu,huu⟩:∃ uu,xs[q]?=some uu:=⟨_,List.getElem?_eq_getElem (by have:=ho3.1; omega)⟩
       have xc:=ho3.cellAt huu
       have xf:=ho3.frozenAt q
       have HO3:=hide ho3
       have HB3:Hid (Own w3 w1.heap.size 5 (.slice A3 n3 c3) b):=by show Own _ _ _ _ _; simpa using ha3.own
       clear ho3 ha3 huu))
  go_ret
  have k0:=k1.trans' k3
  refine ⟨g',c1,.slice A3 n3 c3,rfl,HO3.out.set1 hq _,?_,k0.trans (Kp.setCell (p:=⟨g',q,none⟩) (S:=Up No w) (.inr (HO3.out.ge g' rfl)) _)⟩
  have hb3:=HB3.out.rebase (b:=w.heap.size) fun k hk=>Nat.le_trans k1.size (HB3.out.ge k hk)
  exact hb3.keep (S:=fun k=>k=g') (Kp.setCell (p:=⟨g',q,none⟩) (S:=fun k=>k=g') rfl _) fun k hk e=>by subst e; exact HO3.out.offB hb3 (by decide) hk
section
variable {w w1:World} {F:Nat→Prop} {D:Dk} {vc vl v:Value} {cs:List (Value × List UInt8)} {ls:List (Nat × (Value × List UInt8))} {gc n c k q:Nat} {b:List UInt8}
theorem RfR.one (h:RfR w F D vc vl cs ls):∀ u ∈ cs.map Prod.fst,u.oneCell'=true:=fun u hu=>by
  obtain ⟨p,hp,rfl⟩:=List.mem_map.1 hu
  obtain ⟨A,m,c,e⟩:=(h.rc p hp).1.form
  rw [e]
  rfl
/-- Another row is put to a place, in a row of rows of its own. -/
theorem RfR.setc (h:RfR w F D vc vl cs ls) (hk:Kp No w w1) {vc':Value} (ho:OwnT w1 w.heap.size 54 1 vc' D.cells.length ((cs.map Prod.fst).set q v)) (hv:Own w1 w.heap.size 5 v b) (hb:b.length≤D.size) :
    RfR w1 F ⟨D.size,D.cells.set q b,D.loose,D.syncs⟩ vc' vl (cs.set q (v,b)) ls:=by
  have h1:=h.no hk
  refine ⟨?_,h1.ol,fun p hp=>?_,h1.rl,?_,h1.dl,fun k hk' g=>?_,h1.fl,h1.bd,h1.ok.setc q hb _⟩
  · rw [List.length_set,List.map_set,h.ncs]; exact ownT_base0 ho
  · rcases mem_set hp with hp | rfl
    · exact h1.rc p hp
    · exact BtF.new hv h.bd
  · rw [List.map_set,h.dc]
  · have:=ho.ge k hk'
    have:=h.bd k g
    omega
end
/-- A box of a disk of the document's. -/
def BxD (w:World) (s:Nat) (D:Dk) (vc vl:Value):Prop:=w.heap[s]?=some (.cells #[.int .i64 (D.size:Int),vc,vl,.int .i64 (D.syncs:Int)] 39 (0,0))
theorem BxD.no {w w1:World} {s:Nat} {D:Dk} {vc vl:Value} (h:BxD w s D vc vl) (hk:Kp No w w1):BxD w1 s D vc vl:=(hk.block s (Array.getElem?_eq_some_iff.1 h).1 fun f=>f).trans h
section
variable {w:World} {s:Nat} {D:Dk} {vc vl v:Value}
theorem BxD.c0 (h:BxD w s D vc vl):w.cell? ⟨s,0,none⟩=some (.int .i64 (D.size:Int)):=by rw [cell_of_row w s 0 _ _ _ h]; rfl
theorem BxD.c1 (h:BxD w s D vc vl):w.cell? ⟨s,1,none⟩=some vc:=by rw [cell_of_row w s 1 _ _ _ h]; rfl
theorem BxD.c2 (h:BxD w s D vc vl):w.cell? ⟨s,2,none⟩=some vl:=by rw [cell_of_row w s 2 _ _ _ h]; rfl
theorem BxD.c3 (h:BxD w s D vc vl):w.cell? ⟨s,3,none⟩=some (.int .i64 (D.syncs:Int)):=by rw [cell_of_row w s 3 _ _ _ h]; rfl
theorem BxD.fz (h:BxD w s D vc vl) (j:Nat):w.frozen? ⟨s,j,none⟩=false:=frozen_of_row w s j _ _ h
theorem BxD.set1 (h:BxD w s D vc vl) (v:Value):BxD (w.setCell ⟨s,1,none⟩ v) s D v vl:=heap_setCell_same w s 1 _ _ v h
theorem BxD.set2 (h:BxD w s D vc vl) (v:Value):BxD (w.setCell ⟨s,2,none⟩ v) s D vc v:=heap_setCell_same w s 2 _ _ v h
theorem BxD.set3 (h:BxD w s D vc vl) (n:Nat):BxD (w.setCell ⟨s,3,none⟩ (.int .i64 (n:Int))) s ⟨D.size,D.cells,D.loose,n⟩ vc vl:=heap_setCell_same w s 3 _ _ _ h
theorem BxD.eqD {E:Dk} (h:BxD w s D vc vl) (h1:E.size=D.size) (h2:E.syncs=D.syncs):BxD w s E vc vl:=by unfold BxD; rw [h1,h2]; exact h
theorem BxD.lt (h:BxD w s D vc vl):s < w.heap.size:=(Array.getElem?_eq_some_iff.1 h).1
theorem BxD.new (w:World) (D:Dk) (vc vl:Value):BxD (w.alloc (.cells #[.int .i64 (D.size:Int),vc,vl,.int .i64 (D.syncs:Int)] 39)) w.heap.size D vc vl:=heap_alloc_new w _
end
/-- The document's disk of which so many loose writes are done. -/
def Dk.upto (d:Dk) (k:Nat):Dk:=⟨d.size,d.don k,d.loose,d.syncs⟩
theorem Dk.upto_next {d:Dk} {k q:Nat} {b:List UInt8} (h:d.loose[k]?=some (q,b)):d.upto (k+1)=⟨d.size,(d.upto k).cells.set q b,d.loose,d.syncs⟩:=by
  unfold Dk.upto Dk.don
  rw [take_more h,doG_snoc]
/-- F, the box s and the result's cell behind it. -/
def Fs (F:Nat→Prop) (s k:Nat):Prop:=F k∨k=s∨k=s+1
/-- A call on the document's disk: its box s holds D, the result's cell is new. -/
structure BxS (w:World) (F:Nat→Prop) (D:Dk) (vc vl:Value) (cs:List (Value × List UInt8)) (ls:List (Nat × (Value × List UInt8))) (s:Nat) (wr:World):Prop where
  bx:BxD wr s D vc vl
  rz:BxD wr (s+1) ⟨0,[],[],0⟩ (.slice none 0 0) (.slice none 0 0)
  rf:RfR wr (Fs F s) D vc vl cs ls
  kp:Kp No w wr
  sl:w.heap.size≤s
section
variable {w wr w1:World} {F:Nat→Prop} {D:Dk} {vc vl:Value} {cs:List (Value × List UInt8)} {ls:List (Nat × (Value × List UInt8))} {s:Nat}
theorem BxS.no (h:BxS w F D vc vl cs ls s wr) (hk:Kp No wr w1):BxS w F D vc vl cs ls s w1:=⟨h.bx.no hk,h.rz.no hk,h.rf.no hk,h.kp.trans' hk,h.sl⟩
theorem BxS.begin (h:RfR w F D vc vl cs ls):BxS w F D vc vl cs ls w.heap.size ((w.alloc (.cells #[.int .i64 (D.size:Int),vc,vl,.int .i64 (D.syncs:Int)] 39)).alloc (.cells #[.int .i64 0,.slice none 0 0,.slice none 0 0,.int .i64 0] 39)):=by
  have K2:Kp No w ((w.alloc (.cells #[.int .i64 (D.size:Int),vc,vl,.int .i64 (D.syncs:Int)] 39)).alloc (.cells #[.int .i64 0,.slice none 0 0,.slice none 0 0,.int .i64 0] 39)):=(Kp.alloc No w _).al _
  have hBx:=(BxD.new w D vc vl).no (Kp.alloc No _ (.cells #[.int .i64 0,.slice none 0 0,.slice none 0 0,.int .i64 0] 39))
  have hZ:=BxD.new (w.alloc (.cells #[.int .i64 (D.size:Int),vc,vl,.int .i64 (D.syncs:Int)] 39)) ⟨0,[],[],0⟩ (.slice none 0 0) (.slice none 0 0)
  have e1:(w.alloc (.cells #[.int .i64 (D.size:Int),vc,vl,.int .i64 (D.syncs:Int)] 39)).heap.size=w.heap.size+1:=by simp
  rw [e1] at hZ
  refine ⟨hBx,hZ,h.step (K2.of_no F) fun k hk=>?_,K2,Nat.le_refl _⟩
  rcases hk with hk | rfl | rfl
  · exact ⟨.inl hk,by have:=h.bd k hk; simp; omega⟩
  · exact ⟨.inr (Nat.le_refl _),by simp; omega⟩
  · exact ⟨.inr (by omega),by simp⟩
/-- The result's cell is written. -/
theorem BxS.fin (h:BxS w F D vc vl cs ls s wr) (hk:Kp (fun k=>k=s+1) wr w1):RfR w1 F D vc vl cs ls∧Kp No w w1 :=
  ⟨(h.rf.keep hk fun k _ hn e=>hn (.inr (.inr e))).less fun k hk=>.inl hk,h.kp.trans (hk.mono fun k e=>.inr (by have:=h.sl; omega))⟩
/-- The box is written. -/
theorem BxS.upd {D':Dk} {vc' vl':Value} {cs':List (Value × List UInt8)} {ls':List (Nat × (Value × List UInt8))} (h:BxS w F D vc vl cs ls s wr) (hr:RfR wr (Fs F s) D' vc' vl' cs' ls') (hk:Kp (fun k=>k=s) wr w1) (hb:BxD w1 s D' vc' vl'):BxS w F D' vc' vl' cs' ls' s w1 :=
  ⟨hb,(hk.block (s+1) h.rz.lt (by omega)).trans h.rz,hr.keep hk fun k _ hn e=>hn (.inr (.inl e)),h.kp.trans (hk.mono fun k e=>.inr (by have:=h.sl; omega)),h.sl⟩
end
/-- The result's cell, all four fields written. -/
theorem BxD.set4 {w:World} {t:Nat} {Z D:Dk} {a b vc vl:Value} (h:BxD w t Z a b):BxD ((((w.setCell ⟨t,0,none⟩ (.int .i64 (D.size:Int))).setCell ⟨t,1,none⟩ vc).setCell ⟨t,2,none⟩ vl).setCell ⟨t,3,none⟩ (.int .i64 (D.syncs:Int))) t D vc vl :=
  heap_setCell_same _ t 3 _ _ _ (heap_setCell_same _ t 2 _ _ _ (heap_setCell_same _ t 1 _ _ _ (heap_setCell_same w t 0 _ _ _ h)))
theorem kp_set4 (w:World) (t:Nat) (u0 u1 u2 u3:Value):Kp (fun k=>k=t) w ((((w.setCell ⟨t,0,none⟩ u0).setCell ⟨t,1,none⟩ u1).setCell ⟨t,2,none⟩ u2).setCell ⟨t,3,none⟩ u3) :=
  (((Kp.setCell (p:=⟨t,0,none⟩) (S:=fun k=>k=t) rfl u0).trans' (Kp.setCell (p:=⟨t,1,none⟩) (S:=fun k=>k=t) rfl u1)).trans' (Kp.setCell (p:=⟨t,2,none⟩) (S:=fun k=>k=t) rfl u2)).trans' (Kp.setCell (p:=⟨t,3,none⟩) (S:=fun k=>k=t) rfl u3)
/-- So many loose writes are done, in the box s. -/
def RdoI (w:World) (F:Nat→Prop) (D:Dk) (vl:Value) (ls:List (Nat × (Value × List UInt8))) (s k:Nat) (wr:World):Prop:=∃ gc c cs,BxS w F (D.upto k) (.slice (some ⟨gc,0,none⟩) D.cells.length c) vl cs ls s wr
/-- What done returns. -/
def RdPost (w:World) (F:Nat→Prop) (D:Dk) (n:Nat) (vl:Value) (ls:List (Nat × (Value × List UInt8))) (e:Ending) (w1:World):Prop :=
  ∃ g' c' cs',e=.returned (rfV D (.slice (some ⟨g',0,none⟩) D.cells.length c') vl)∧RfR w1 F (D.upto n) (.slice (some ⟨g',0,none⟩) D.cells.length c') vl cs' ls∧Kp No w w1
set_option maxHeartbeats 4000000 in
theorem rdone_any {w:World} {F:Nat→Prop} {D:Dk} {vc vl:Value} {cs:List (Value × List UInt8)} {ls:List (Nat × (Value × List UInt8))} {n:Nat} (h:RfR w F D vc vl cs ls) (hn:n≤D.loose.length) (hL:D.loose.length≤1000000) :
    Calls Tryz.prog 74 #[rfV D vc vl,.int .i64 (n:Int)] w (RdPost w F D n vl ls):=by
  obtain ⟨gc,c,rfl,hc⟩:=h.vc_
  obtain ⟨A,cl,rfl,hcl,_⟩:=h.vl_
  have hn1:=h.ok.n1
  have hs1:=h.ok.s1
  have HI0:=hide (BxS.begin h)
  clear h
  unfold rfV
  go_enter Tryz.func74,Tryz.ntmps74
  go_wp2_with fail
  generalize ((w.alloc (.cells #[.int .i64 (D.size:Int),.slice (some ⟨gc,0,none⟩) D.cells.length c,.slice A D.loose.length cl,.int .i64 (D.syncs:Int)] 39)).alloc (.cells #[.int .i64 0,.slice none 0 0,.slice none 0 0,.int .i64 0] 39))=w2 at HI0 ⊢
  generalize w.heap.size=s at HI0 ⊢
  go_loopw [5] (fun i wr=>∃ k:Nat,k≤n∧i=.int .i64 (k:Int)∧RdoI w F D (.slice A D.loose.length cl) ls s k wr) (fun i _=>n - (intOf i).toNat)
  case atStart=>exact ⟨0,Nat.zero_le _,rfl,gc,c,cs,HI0.out⟩
  case round =>
    obtain ⟨k,hk,rfl,gc1,c1,cs1,hI⟩:=hrel
    by_cases hlt:k < n
    · obtain ⟨gl,p,A',m',c',bs,rfl,hp,hls,y0,y1,hob,hpn,hbl⟩:=hI.rf.lw rfl (j:=k) (by show k < D.loose.length; omega)
      have hcn:(D.upto k).cells.length=D.cells.length:=Dk.don_len _ _
      rw [hcn] at hpn
      have hkL:k < D.loose.length:=by omega
      have HCN:=hide hcn
      have x1:wr.drew.cell? ⟨s,1,none⟩=some (.slice (some ⟨gc1,0,none⟩) D.cells.length c1):=hI.bx.c1
      have x2:wr.drew.cell? ⟨s,2,none⟩=some (.slice (some ⟨gl,0,none⟩) D.loose.length cl):=hI.bx.c2
      have y2:wr.drew.cell? ⟨gl,k * 2,none⟩=some (.int .i64 (p:Int)):=y0
      have y3:wr.drew.cell? ⟨gl,k * 2+1,none⟩=some (.slice A' m' c'):=y1
      have hId:=hI.no (Kp.refl No wr).drew
      have hocd:=hId.rf.oc
      rw [hId.rf.ncs,hcn] at hocd
      have HOCD:=hide hocd
      have HID:=hide hId
      have HBD:=hide (hob.no (Kp.refl No wr).drew)
      have HBL:Hid (bs.length≤D.size):=hbl
      have HP:Hid (D.loose[k]?=some (p,bs)):=hp
      clear hI hp hls y0 y1 hob hbl hcn hId hocd
      go_wp2_with fail
      refine wp_region_noPanic ?_
      refine LastR.begin (S:=fun w'=>w'.cell? ⟨s,1,none⟩=some (.slice (some ⟨gc1,0,none⟩) D.cells.length c1)∧w'.cell? ⟨s,2,none⟩=some (.slice (some ⟨gl,0,none⟩) D.loose.length cl)∧w'.cell? ⟨gl,k * 2,none⟩=some (.int .i64 (p:Int))∧w'.cell? ⟨gl,k * 2+1,none⟩=some (.slice A' m' c')) (t:=16) (by kernel_rfl) (⟨x1,x2,y2,y3⟩) (fun hHeld=>?_)
      refine LastR.take (i:=0) (v:=?va0) (oi:=?oa0) ?ha0 (by kernel_rfl) (by kernel_rfl) (by kernel_rfl) (by kernel_rfl) (fun _ _ _ h=>h) (Or.inl ⟨?wa0,?ya0⟩) hHeld ?ra0
      case ha0=>simp only [gA0,gA1,gA2]; rfl
      case wa0=>rfl
      case ya0=>intro w hSw; (try dsimp only at hSw); go_simp; (try with_reducible rfl)
      simp only [Act.put,sA0,sA1,sA2]
      refine LastR.take (i:=1) (v:=?va1) (oi:=?oa1) ?ha1 (by kernel_rfl) (by kernel_rfl) (by kernel_rfl) (by kernel_rfl) (fun _ _ _ h=>h) (Or.inl ⟨?wa1,?ya1⟩) hHeld ?ra1
      case ha1=>simp only [gA0,gA1,gA2]; rfl
      case wa1=>rfl
      case ya1=>intro w hSw; (try dsimp only at hSw); go_simp; (try with_reducible rfl)
      simp only [Act.put,sA0,sA1,sA2]
      refine LastR.take (i:=2) (v:=?va2) (oi:=?oa2) ?ha2 (by kernel_rfl) (by kernel_rfl) (by kernel_rfl) (by kernel_rfl) (fun _ _ _ h=>h) (Or.inl ⟨?wa2,?ya2⟩) hHeld ?ra2
      case ha2=>simp only [gA0,gA1,gA2]; rfl
      case wa2=>rfl
      case ya2=>intro w hSw; (try dsimp only at hSw); go_simp; (try with_reducible rfl)
      simp only [Act.put,sA0,sA1,sA2]
      refine LastR.take (i:=3) (v:=?va3) (oi:=?oa3) ?ha3 (by kernel_rfl) (by kernel_rfl) (by kernel_rfl) (by kernel_rfl) (fun _ _ _ h=>h) (Or.inl ⟨?wa3,?ya3⟩) hHeld ?ra3
      case ha3=>simp only [gA0,gA1,gA2]; rfl
      case wa3=>rfl
      case ya3=>intro w hSw; (try dsimp only at hSw); go_simp; (try with_reducible rfl)
      simp only [Act.put,sA0,sA1,sA2]
      refine LastR.take (i:=4) (v:=?va4) (oi:=?oa4) ?ha4 (by kernel_rfl) (by kernel_rfl) (by kernel_rfl) (by kernel_rfl) (fun _ _ _ h=>h) (Or.inl ⟨?wa4,?ya4⟩) hHeld ?ra4
      case ha4=>simp only [gA0,gA1,gA2]; rfl
      case wa4=>rfl
      case ya4=>intro w hSw; (try dsimp only at hSw); go_simp; (try with_reducible rfl)
      simp only [Act.put,sA0,sA1,sA2]
      refine LastR.take (i:=5) (v:=?va5) (oi:=?oa5) ?ha5 (by kernel_rfl) (by kernel_rfl) (by kernel_rfl) (by kernel_rfl) (fun _ _ _ h=>h) (Or.inl ⟨?wa5,?ya5⟩) hHeld ?ra5
      case ha5=>simp only [gA0,gA1,gA2]; rfl
      case wa5=>rfl
      case ya5=>intro w hSw; (try dsimp only at hSw); go_simp; (try with_reducible rfl)
      simp only [Act.put,sA0,sA1,sA2]
      refine LastR.take (i:=6) (v:=?va6) (oi:=?oa6) ?ha6 (by kernel_rfl) (by kernel_rfl) (by kernel_rfl) (by kernel_rfl) (fun _ _ _ h=>h) (Or.inl ⟨?wa6,?ya6⟩) hHeld ?ra6
      case ha6=>simp only [gA0,gA1,gA2]; rfl
      case wa6=>rfl
      case ya6=>intro w hSw; (try dsimp only at hSw); go_simp; (try with_reducible rfl)
      simp only [Act.put,sA0,sA1,sA2]
      refine LastR.take (i:=7) (v:=?va7) (oi:=?oa7) ?ha7 (by kernel_rfl) (by kernel_rfl) (by kernel_rfl) (by kernel_rfl) (fun _ _ _ h=>h) (Or.inl ⟨?wa7,?ya7⟩) hHeld ?ra7
      case ha7=>simp only [gA0,gA1,gA2]; rfl
      case wa7=>rfl
      case ya7=>intro w hSw; (try dsimp only at hSw); go_simp; (try with_reducible rfl)
      simp only [Act.put,sA0,sA1,sA2]
      refine LastR.take (i:=8) (v:=?va8) (oi:=?oa8) ?ha8 (by kernel_rfl) (by kernel_rfl) (by kernel_rfl) (by kernel_rfl) (fun _ _ _ h=>h) (Or.inl ⟨?wa8,?ya8⟩) hHeld ?ra8
      case ha8=>simp only [gA0,gA1,gA2]; rfl
      case wa8=>rfl
      case ya8=>intro w hSw; (try dsimp only at hSw); go_simp; (try with_reducible rfl)
      simp only [Act.put,sA0,sA1,sA2]
      refine LastR.take (i:=9) (v:=?va9) (oi:=?oa9) ?ha9 (by kernel_rfl) (by kernel_rfl) (by kernel_rfl) (by kernel_rfl) (fun _ _ _ h=>h) (Or.inl ⟨?wa9,?ya9⟩) hHeld ?ra9
      case ha9=>simp only [gA0,gA1,gA2]; rfl
      case wa9=>rfl
      case ya9=>intro w hSw; (try dsimp only at hSw); go_simp; (try with_reducible rfl)
      simp only [Act.put,sA0,sA1,sA2]
      refine LastR.take (i:=10) (v:=?va10) (oi:=?oa10) ?ha10 (by kernel_rfl) (by kernel_rfl) (by kernel_rfl) (by kernel_rfl) (fun _ _ _ h=>h) (Or.inl ⟨?wa10,?ya10⟩) hHeld ?ra10
      case ha10=>simp only [gA0,gA1,gA2]; rfl
      case wa10=>rfl
      case ya10=>intro w hSw; (try dsimp only at hSw); go_simp; (try with_reducible rfl)
      simp only [Act.put,sA0,sA1,sA2]
      refine LastR.take (i:=11) (v:=?va11) (oi:=?oa11) ?ha11 (by kernel_rfl) (by kernel_rfl) (by kernel_rfl) (by kernel_rfl) (fun _ _ _ h=>h) (Or.inl ⟨?wa11,?ya11⟩) hHeld ?ra11
      case ha11=>simp only [gA0,gA1,gA2]; rfl
      case wa11=>rfl
      case ya11=>intro w hSw; (try dsimp only at hSw); go_simp; (try with_reducible rfl)
      simp only [Act.put,sA0,sA1,sA2]
      refine LastR.take (i:=12) (v:=?va12) (oi:=?oa12) ?ha12 (by kernel_rfl) (by kernel_rfl) (by kernel_rfl) (by kernel_rfl) (fun _ _ _ h=>h) (Or.inl ⟨?wa12,?ya12⟩) hHeld ?ra12
      case ha12=>simp only [gA0,gA1,gA2]; rfl
      case wa12=>rfl
      case ya12=>intro w hSw; (try dsimp only at hSw); go_simp; (try with_reducible rfl)
      simp only [Act.put,sA0,sA1,sA2]
      refine LastR.take (i:=13) (v:=?va13) (oi:=?oa13) ?ha13 (by kernel_rfl) (by kernel_rfl) (by kernel_rfl) (by kernel_rfl) (fun _ _ _ h=>h) (Or.inl ⟨?wa13,?ya13⟩) hHeld ?ra13
      case ha13=>simp only [gA0,gA1,gA2]; rfl
      case wa13=>rfl
      case ya13=>intro w hSw; (try dsimp only at hSw); go_simp; (try with_reducible rfl)
      simp only [Act.put,sA0,sA1,sA2]
      refine LastR.run (i:=14) (o:=?oa14) ?ha14 (by kernel_rfl) (fun K hK=>?sa14)
      case ha14=>simp only [gA0,gA1,gA2]; rfl
      go_simp
      refine (rwith_any HOCD.out HID.out.rf.one hpn hn1 HBD.out.1 (by have:=HBL.out; omega)).mono ?_
      rintro e w5 ⟨g5,c5,v5,rfl,o5,b5,k5⟩
      have u1:=k5.cell x1 (fun f=>f)
      have u2:=k5.cell x2 (fun f=>f)
      have u3:=k5.cell y2 (fun f=>f)
      have u4:=k5.cell y3 (fun f=>f)
      have uf:=(HID.out.no k5).bx.fz 1
      go_wp2_with fail
      refine hK.out _ _ (fun _=>⟨u1,u2,u3,u4⟩) (fun hHe=>?_)
      have hHeld:=hHe (by decide)
      clear hK K hHe
      try simp only [Act.put,sA0,sA1,sA2]
      refine LastR.take (i:=15) (v:=?va15) (oi:=?oa15) ?ha15 (by kernel_rfl) (by kernel_rfl) (by kernel_rfl) (by kernel_rfl) (fun _ _ _ h=>h) (Or.inl ⟨?wa15,?ya15⟩) hHeld ?ra15
      case ha15=>simp only [gA0,gA1,gA2]; rfl
      case wa15=>rfl
      case ya15=>intro w hSw; (try dsimp only at hSw); go_simp; (try with_reducible rfl)
      simp only [Act.put,sA0,sA1,sA2]
      refine LastR.run (i:=16) (o:=?oa16) ?ha16 (by kernel_rfl) (fun K hK=>?sa16)
      case ha16=>simp only [gA0,gA1,gA2]; rfl
      go_simp
      refine hK.out _ _ (fun h=>absurd rfl h) (fun _=>?_)
      clear hK K
      try simp only [Act.put,sA0,sA1,sA2]
      refine LastR.done (by kernel_rfl) ?_ _
      refine NoPanic.normal ?_
      have hR5:=HID.out.rf.setc k5 (by rw [HCN.out]; exact o5) b5 HBL.out
      have e5:(⟨(D.upto k).size,(D.upto k).cells.set p bs,(D.upto k).loose,(D.upto k).syncs⟩:Dk)=D.upto (k+1):=(Dk.upto_next HP.out).symm
      rw [e5] at hR5
      have hS5:=HID.out.no k5
      have hN:=hS5.upd hR5 (Kp.setCell (p:=⟨s,1,none⟩) (S:=fun q=>q=s) rfl (.slice (some ⟨g5,0,none⟩) D.cells.length c5)) ((hS5.bx.set1 _).eqD rfl rfl)
      have HN:Hid (RdoI w F D (.slice (some ⟨gl,0,none⟩) D.loose.length cl) ls s (k+1) _):=⟨g5,c5,_,hN⟩
      clear hN hR5 hS5 e5 o5 b5 k5
      go_wp2_with fail
      go_round
      case rel=>exact ⟨k+1,by omega,by go_num,HN.out⟩
      case measure=>simp [intOf]; omega
    · obtain rfl:k=n:=by omega
      have x0:=hI.bx.c0
      have x1:=hI.bx.c1
      have x2:=hI.bx.c2
      have x3:=hI.bx.c3
      have f0:=hI.rz.fz 0
      have f1:=hI.rz.fz 1
      have f2:=hI.rz.fz 2
      have f3:=hI.rz.fz 3
      have z0:=hI.rz.c0
      have z1:=hI.rz.c1
      have z2:=hI.rz.c2
      have z3:=hI.rz.c3
      have HI:=hide hI
      clear hI
      go_wp2_with fail
      have hbx:=HI.out.rz.set4 (D:=D.upto k) (vc:=.slice (some ⟨gc1,0,none⟩) D.cells.length c1) (vl:=.slice A D.loose.length cl)
      have HF:=hide (HI.out.fin (kp_set4 wr (s+1) (.int .i64 ((D.upto k).size:Int)) (.slice (some ⟨gc1,0,none⟩) D.cells.length c1) (.slice A D.loose.length cl) (.int .i64 ((D.upto k).syncs:Int))))
      have r0:=hbx.c0
      have r1:=hbx.c1
      have r2:=hbx.c2
      have r3:=hbx.c3
      clear hbx x0 x1 x2 x3 f0 f1 f2 f3 z0 z1 z2 z3
      generalize ((((wr.setCell ⟨s+1,0,none⟩ (.int .i64 ((D.upto k).size:Int))).setCell ⟨s+1,1,none⟩ (.slice (some ⟨gc1,0,none⟩) D.cells.length c1)).setCell ⟨s+1,2,none⟩ (.slice A D.loose.length cl)).setCell ⟨s+1,3,none⟩ (.int .i64 ((D.upto k).syncs:Int)))=w3 at HF r0 r1 r2 r3 ⊢
      refine bodyPost_ret (v:=rfV (D.upto k) (.slice (some ⟨gc1,0,none⟩) D.cells.length c1) (.slice A D.loose.length cl)) (by simp [results,Tryz.results74,go_sem,rfV,r0,r1,r2,r3]) rfl ?_
      exact ⟨_,_,_,rfl,HF.out.1,HF.out.2⟩
end Go.Proofs.YtnfcfdhlmeimhaaGreat
