/- The document's Put, Wipe, Spoil and Sync of layer 11, each as a contract over memory. No condition. -/
import Derived.Test.YtnfcfdhlmeimhaaGreatSpbb
namespace Go.Proofs.YtnfcfdhlmeimhaaGreat
open Go.RowKit
set_option linter.unusedVariables false
set_option maxRecDepth 20000
set_option linter.unusedSimpArgs false
/-- append of any slice, a nil one among them. -/
theorem wpList_appS {w:World} {base:Nat} {e:TypeId} {sz n m c:Nat} {v z:Value} {xs cs:List Value} {ops:Array Oper} {rest:List Oper} {o:Oper} {a:Act} {Q:Exit→Act→World→Prop} {bt:Nat} (hT:Ty e z sz bt) (hgd:o.guard=none) (s x:Operand) (t:TypeId)
    (ho:o.op=.call { callee:=.builtin .append,args:=#[s,x],argTypes:=#[t,t] })
    (ht:Tryz.prog.underlying t=some (.slice e)) (hs:a.eval s=v) (h:OwnT w base e sz v n xs) (A:Option Addr) (hx:a.eval x=.slice A m c) (h0:A=none→m=0∧c=0∧cs=[]) (hN:∀ ad,A=some ad→Nws w ad m sz cs) (hlen:n+m≤1000000) (hb:base≤w.heap.size)
    (hQ:∀ A1 n1 c1 w1,n1=n+m→AppT w base e sz v n xs m cs (.slice A1 n1 c1) w1→wpList Tryz.prog ops Q rest (a.put o.dst (.slice A1 n1 c1)) w1):wpList Tryz.prog ops Q (o :: rest) a w:=by
  rcases A with _ | ad
  · obtain ⟨rfl,rfl,rfl⟩:=h0 rfl
    refine wpList_plain hgd fun K hK=>?_
    obtain ⟨⟨i0,hi0,hz0,hz1,hz2⟩,_⟩:=hT
    have hr:=fun ty=>run_append_owned_none (P:=Tryz.prog) w base t ty e i0 sz ht hi0 v n _ h
    obtain ⟨A1,c1,rfl⟩:=h.form
    unfold Oper.wp execOp
    simp only [ho,resolve,invoke,builtin,Sem.run_bind,Sem.run_pure,Result.andThen_ok,List.map_toArray,List.map_cons,List.map_nil,hs,hx,hr]
    exact hK _ _ (hQ A1 n c1 w (by omega) ⟨by simpa using h,Kp.refl _ _,.inl rfl⟩)
  · exact wpList_appT hT hgd s x t ho ht hs h ad c hx (hN ad rfl) hlen hb hQ
section
variable {w w1:World} {F F1:Nat→Prop} {D:Dk} {vc vl v u:Value} {cs:List (Value × List UInt8)} {ls:List (Nat × (Value × List UInt8))} {q:Nat} {b bs:List UInt8}
theorem lsC_one {ls:List (Nat × (Value × List UInt8))}:∀ u ∈ lsC (mp Prod.fst ls),(∀ p ∈ ls,p.2.1.oneCell'=true)→u.oneCell'=true:=fun u hu h=>by
  unfold lsC mp at hu
  obtain ⟨p,hp,hu⟩:=List.mem_flatMap.1 hu
  obtain ⟨p',hp',rfl⟩:=List.mem_map.1 hp
  simp at hu
  rcases hu with rfl | rfl
  · rfl
  · exact h p' hp'
theorem RfR.oneL (h:RfR w F D vc vl cs ls):∀ u ∈ lsC (mp Prod.fst ls),u.oneCell'=true:=fun u hu=>lsC_one u hu fun p hp=>by
  obtain ⟨A,m,c,e⟩:=(h.rl p hp).1.form
  rw [e]
  rfl
/-- The loose writes as what is appended. -/
theorem RfR.nwsL (h:RfR w F D vc vl cs ls) {A:Option Addr} {m c:Nat} (hv:vl=.slice A m c):(A=none→m=0∧c=0∧lsC (mp Prod.fst ls)=[])∧∀ ad,A=some ad→Nws w ad m 2 (lsC (mp Prod.fst ls)):=by
  subst hv
  have hm:=h.ol.len
  refine ⟨fun e=>?_,fun ad e=>?_⟩
  · subst e
    rcases h.ol.2 with ⟨e1,e2⟩ | ⟨g,cap,cur,e1,_⟩
    · injection e1 with _ e3 e4
      refine ⟨e3,e4,List.eq_nil_of_length_eq_zero ?_⟩
      rw [lsC_len,mp_len]
      omega
    · cases e1
  · subst e
    have hN:ad.off=0∧ad.spot=none:=by
      rcases h.ol.2 with ⟨e1,e2⟩ | ⟨g,cap,cur,e1,_⟩
      · cases e1
      · injection e1 with e1
        injection e1 with e1
        subst e1
        exact ⟨rfl,rfl⟩
    obtain ⟨bk,of,sp⟩:=ad
    obtain ⟨rfl,rfl⟩:=hN
    have:=h.ol.nws h.oneL
    rw [← hm] at this
    exact this
/-- A loose write more. -/
theorem RfR.more (h:RfR w F D vc vl cs ls) (hk:Kp No w w1) {vl':Value} (ho:OwnT w1 0 156 2 vl' (D.loose.length+1) (lsC (mp Prod.fst ls) ++ [.int .i64 (q:Int),u])) (hfr:∀ k,vl'.ownBlock=some k→¬ F k) (hu:BtF w1 F u b) (hq:q < D.cells.length) (hb:b.length≤D.size) :
    RfR w1 F ⟨D.size,D.cells,D.loose ++ [(q,b)],D.syncs⟩ vc vl' cs (ls ++ [(q,(u,b))]):=by
  have h1:=h.no hk
  refine ⟨h1.oc,?_,h1.rc,fun p hp=>?_,h1.dc,?_,h1.fc,hfr,h1.bd,⟨h.ok.n0,h.ok.n1,h.ok.s0,h.ok.s1,h.ok.cl,fun p hp=>?_⟩⟩
  · rw [List.length_append,h.nls,mp_snoc,lsC_snoc]; exact ho
  · rcases List.mem_append.1 hp with hp | hp
    · exact h1.rl p hp
    · rw [List.mem_singleton] at hp; subst hp; exact hu
  · rw [mp_snoc,h.dl]
  · rcases List.mem_append.1 hp with hp | hp
    · exact h.ok.ll p hp
    · rw [List.mem_singleton] at hp; subst hp; exact ⟨hq,hb⟩
end
/-- What a call on the document's disk comes to. -/
def RfPost (w:World) (F:Nat→Prop) (D':Dk) (f:Value→Value) (e:Ending) (w1:World):Prop:=∃ v,e=.returned (f v)∧RfAt w1 F D' v∧Kp No w w1
def tupE (n:Nat) (v:Value):Value:=.tuple #[v,.int .i64 (n:Int)]
set_option maxHeartbeats 4000000 in
theorem rput_any {w:World} {F:Nat→Prop} {D:Dk} {v0:Value} {u:Value} {b:List UInt8} (h:RfAt w F D v0) (hu:BtF w F u b) (hL:D.loose.length+2≤1000000) (z:Int) :
    Calls Tryz.prog 84 #[v0,.int .i64 z,u] w (RfPost w F (D.put z b) (tupE (D.putE z b))):=by
  obtain ⟨B,m,d,rfl⟩:=hu.1.form
  have HM:=hide hu.1.len
  have HU:=hide hu
  clear hu
  obtain ⟨vc,vl,cs,ls,rfl,h⟩:=h
  obtain ⟨gc,c,rfl,hc⟩:=h.vc_
  obtain ⟨A,cl,rfl,hcl,hL1⟩:=h.vl_
  have hs1:=h.ok.s1
  have hn1:=h.ok.n1
  have HI:=hide (BxS.begin h)
  have HH:=hide h
  clear h
  unfold maxLen at hL1
  by_cases hz:D.In z
  · by_cases hsz:D.size < m
    · have hE:D.putE z b=29:=by unfold Dk.putE; rw [if_pos hz,if_pos (by have:=HM.out; omega)]
      have hP:D.put z b=D:=by unfold Dk.put; rw [if_neg (by omega)]
      rw [hE,hP]
      clear hE hP
      unfold rfV
      go_enter Tryz.func84,Tryz.ntmps84
      go_wp2_with fail
      generalize hw2:((w.alloc (.cells #[.int .i64 (D.size:Int),.slice (some ⟨gc,0,none⟩) D.cells.length c,.slice A D.loose.length cl,.int .i64 (D.syncs:Int)] 39)).alloc (.cells #[.int .i64 0,.slice none 0 0,.slice none 0 0,.int .i64 0] 39))=w2 at HI ⊢
      clear hw2
      generalize w.heap.size=s at HI ⊢
      have ax0:=HI.out.bx.c0
      have ax1:=HI.out.bx.c1
      have ax2:=HI.out.bx.c2
      have ax3:=HI.out.bx.c3
      have af0:=HI.out.rz.fz 0
      have af1:=HI.out.rz.fz 1
      have af2:=HI.out.rz.fz 2
      have af3:=HI.out.rz.fz 3
      have az0:=HI.out.rz.c0
      have az1:=HI.out.rz.c1
      have az2:=HI.out.rz.c2
      have az3:=HI.out.rz.c3
      have ag0:=HI.out.bx.fz 0
      have ag1:=HI.out.bx.fz 1
      have ag2:=HI.out.bx.fz 2
      have ag3:=HI.out.bx.fz 3
      go_wp2_with fail
      refine (rhas_in HI.out.rf z hz).mono ?_
      rintro e w3 ⟨rfl,k3⟩
      have HS:=hide (HI.out.no k3)
      clear k3
      clear ax0 ax1 ax2 ax3 af0 af1 af2 af3 az0 az1 az2 az3 ag0 ag1 ag2 ag3
      have bx0:=HS.out.bx.c0
      have bx1:=HS.out.bx.c1
      have bx2:=HS.out.bx.c2
      have bx3:=HS.out.bx.c3
      have bf0:=HS.out.rz.fz 0
      have bf1:=HS.out.rz.fz 1
      have bf2:=HS.out.rz.fz 2
      have bf3:=HS.out.rz.fz 3
      have bz0:=HS.out.rz.c0
      have bz1:=HS.out.rz.c1
      have bz2:=HS.out.rz.c2
      have bz3:=HS.out.rz.c3
      have bg0:=HS.out.bx.fz 0
      have bg1:=HS.out.bx.fz 1
      have bg2:=HS.out.bx.fz 2
      have bg3:=HS.out.bx.fz 3
      go_wp2_with fail
      clear bx0 bx1 bx2 bx3 bf0 bf1 bf2 bf3 bz0 bz1 bz2 bz3 bg0 bg1 bg2 bg3
      have hbx:BxD ((((w3.setCell ⟨s+1,0,none⟩ (.int .i64 (D.size:Int))).setCell ⟨s+1,1,none⟩ (.slice (some ⟨gc,0,none⟩) D.cells.length c)).setCell ⟨s+1,2,none⟩ (.slice A D.loose.length cl)).setCell ⟨s+1,3,none⟩ (.int .i64 (D.syncs:Int))) (s+1) D (.slice (some ⟨gc,0,none⟩) D.cells.length c) (.slice A D.loose.length cl):=HS.out.rz.set4 (D:=D) (vc:=.slice (some ⟨gc,0,none⟩) D.cells.length c) (vl:=.slice A D.loose.length cl)
      have HF:=hide (HS.out.fin (kp_set4 w3 (s+1) (.int .i64 (D.size:Int)) (.slice (some ⟨gc,0,none⟩) D.cells.length c) (.slice A D.loose.length cl) (.int .i64 (D.syncs:Int))))
      have r0:=hbx.c0
      have r1:=hbx.c1
      have r2:=hbx.c2
      have r3:=hbx.c3
      clear hbx
      generalize ((((w3.setCell ⟨s+1,0,none⟩ (.int .i64 (D.size:Int))).setCell ⟨s+1,1,none⟩ (.slice (some ⟨gc,0,none⟩) D.cells.length c)).setCell ⟨s+1,2,none⟩ (.slice A D.loose.length cl)).setCell ⟨s+1,3,none⟩ (.int .i64 (D.syncs:Int)))=w9 at HF r0 r1 r2 r3 ⊢
      refine bodyPost_ret (v:=tupE 29 (rfV D (.slice (some ⟨gc,0,none⟩) D.cells.length c) (.slice A D.loose.length cl))) (by simp [results,Tryz.results84,go_sem,rfV,tupE,r0,r1,r2,r3]) rfl ?_
      exact ⟨_,rfl,⟨_,_,_,_,rfl,HF.out.1⟩,HF.out.2⟩
    · have hb:b.length≤D.size:=by have:=HM.out; omega
      have hE:D.putE z b=0:=by unfold Dk.putE; rw [if_pos hz,if_neg (by omega)]
      obtain ⟨q,rfl⟩:∃ q:Nat,z=q:=⟨z.toNat,by have:=hz.1; omega⟩
      have hq:q < D.cells.length:=by have:=hz.2; omega
      have hP:D.put (q:Int) b=⟨D.size,D.cells,D.loose ++ [(q,b)],D.syncs⟩:=by unfold Dk.put; rw [if_pos hE,Int.toNat_natCast]
      rw [hE,hP]
      clear hE hP
      unfold rfV
      go_enter Tryz.func84,Tryz.ntmps84
      go_wp2_with fail
      generalize hw2:((w.alloc (.cells #[.int .i64 (D.size:Int),.slice (some ⟨gc,0,none⟩) D.cells.length c,.slice A D.loose.length cl,.int .i64 (D.syncs:Int)] 39)).alloc (.cells #[.int .i64 0,.slice none 0 0,.slice none 0 0,.int .i64 0] 39))=w2 at HI ⊢
      clear hw2
      generalize w.heap.size=s at HI ⊢
      have ax0:=HI.out.bx.c0
      have ax1:=HI.out.bx.c1
      have ax2:=HI.out.bx.c2
      have ax3:=HI.out.bx.c3
      have af0:=HI.out.rz.fz 0
      have af1:=HI.out.rz.fz 1
      have af2:=HI.out.rz.fz 2
      have af3:=HI.out.rz.fz 3
      have az0:=HI.out.rz.c0
      have az1:=HI.out.rz.c1
      have az2:=HI.out.rz.c2
      have az3:=HI.out.rz.c3
      have ag0:=HI.out.bx.fz 0
      have ag1:=HI.out.bx.fz 1
      have ag2:=HI.out.bx.fz 2
      have ag3:=HI.out.bx.fz 3
      go_wp2_with fail
      refine (rhas_in HI.out.rf _ hz).mono ?_
      rintro e w3 ⟨rfl,k3⟩
      have HS:=hide (HI.out.no k3)
      clear k3
      clear ax0 ax1 ax2 ax3 af0 af1 af2 af3 az0 az1 az2 az3 ag0 ag1 ag2 ag3
      have bx0:=HS.out.bx.c0
      have bx1:=HS.out.bx.c1
      have bx2:=HS.out.bx.c2
      have bx3:=HS.out.bx.c3
      have bf0:=HS.out.rz.fz 0
      have bf1:=HS.out.rz.fz 1
      have bf2:=HS.out.rz.fz 2
      have bf3:=HS.out.rz.fz 3
      have bz0:=HS.out.rz.c0
      have bz1:=HS.out.rz.c1
      have bz2:=HS.out.rz.c2
      have bz3:=HS.out.rz.c3
      have bg0:=HS.out.bx.fz 0
      have bg1:=HS.out.bx.fz 1
      have bg2:=HS.out.bx.fz 2
      have bg3:=HS.out.bx.fz 3
      have hI4:=ownT_none w3 156 2
      have hsl:=HS.out.bx.lt
      have hsl1:=HS.out.rz.lt
      have hS4:=HS.out.no (Kp.alloc No w3 (.cells #[] 156))
      have hnl:=hS4.rf.nls
      obtain ⟨hN0,hN1⟩:=hS4.rf.nwsL rfl
      have HS4:=hide hS4
      have HNL:=hide hnl
      clear hS4 hnl
      go_wp2_with (first
        | (at_builtin
           refine wpList_appS ty_rwrite rfl (.tmp 19) (.tmp 21) _ rfl Tryz.underlying37 rfl hI4 A rfl hN0 hN1 (by omega) (by simp) ?_
           intro A5 n5 c5 w5 hn5 ha5
           rw [Nat.zero_add] at hn5
           subst hn5
           have k5:Kp No w3 w5:=ha5.keeps hI4 (Kp.alloc No w3 _)
           have ho5:=ha5.own
           rw [Nat.zero_add,List.nil_append] at ho5
           have hS5:=HS.out.no k5
           have ho6:=ho5.no (Kp.alloc No w5 (.cells #[.int .i64 (q:Int),.slice B m d] 156))
           have hge5:=k5.size
           have HS5:=hide hS5
           have HO5:=hide ho5
           have HK5:=hide k5
           clear ha5 k5 ho5 hS5)
        | (at_builtin
           refine wpList_appT ty_rwrite rfl (.tmp 22) (.tmp 26) _ rfl Tryz.underlying37 rfl ho6 _ _ rfl (nws_two (u0:=.int .i64 (q:Int)) (u1:=.slice B m d) (by rw [World.cell?_alloc_mark]; rfl) (by rw [World.cell?_alloc_mark]; rfl) rfl rfl) (by omega) (by simp; omega) ?_
           intro A7 n7 c7 w7 hn7 ha7
           subst hn7
           have k7:Kp No w3 w7:=(HK5.out.al (.cells #[.int .i64 (q:Int),.slice B m d] 156)).trans (ha7.kp.mono fun k hk=>.inr (ho6.ge k hk))
           have hS7:=HS.out.no k7
           have y0:=hS7.bx.c0
           have y1:=hS7.bx.c1
           have y2:=hS7.bx.c2
           have y3:=hS7.bx.c3
           have j0:=hS7.rz.fz 0
           have j1:=hS7.rz.fz 1
           have j2:=hS7.rz.fz 2
           have j3:=hS7.rz.fz 3
           have l0:=hS7.rz.c0
           have l1:=hS7.rz.c1
           have l2:=hS7.rz.c2
           have l3:=hS7.rz.c3
           have i2:=hS7.bx.fz 2
           have HS7:=hide hS7
           have HO7:=hide ha7.own
           have HK7:=hide k7
           clear ha7 k7 hS7))
      have hu7:BtF w7 (Fs F s) (.slice B m d) b:=by
        refine HU.out.step (HS7.out.kp.of_no F) fun k hk=>?_
        rcases hk with hk | rfl | rfl
        · exact .inl hk
        · exact .inr HS7.out.sl
        · exact .inr (by have:=HS7.out.sl; omega)
      have hR7:=HS.out.rf.more HK7.out (vl':=.slice A7 (D.loose.length+1) c7) (ownT_base0 HO7.out) (fun k hk g=>by
        have h1:=HO7.out.ge k hk
        have h2:=HS.out.rf.bd k g
        omega) hu7 hq hb
      have hS8:=HS7.out.upd hR7 (Kp.setCell (p:=⟨s,2,none⟩) (S:=fun k=>k=s) rfl (.slice A7 (D.loose.length+1) c7)) ((HS7.out.bx.set2 _).eqD rfl rfl)
      clear bx0 bx1 bx2 bx3 bf0 bf1 bf2 bf3 bz0 bz1 bz2 bz3 bg0 bg1 bg2 bg3
      have hbx:BxD (((((w7.setCell ⟨s,2,none⟩ (.slice A7 (D.loose.length+1) c7)).setCell ⟨s+1,0,none⟩ (.int .i64 (D.size:Int))).setCell ⟨s+1,1,none⟩ (.slice (some ⟨gc,0,none⟩) D.cells.length c)).setCell ⟨s+1,2,none⟩ (.slice A7 (D.loose.length+1) c7)).setCell ⟨s+1,3,none⟩ (.int .i64 (D.syncs:Int))) (s+1) (Dk.mk D.size D.cells (D.loose ++ [(q,b)]) D.syncs) (.slice (some ⟨gc,0,none⟩) D.cells.length c) (.slice A7 (D.loose.length+1) c7):=hS8.rz.set4 (D:=(Dk.mk D.size D.cells (D.loose ++ [(q,b)]) D.syncs)) (vc:=.slice (some ⟨gc,0,none⟩) D.cells.length c) (vl:=.slice A7 (D.loose.length+1) c7)
      have HF:=hide (hS8.fin (kp_set4 (w7.setCell ⟨s,2,none⟩ (.slice A7 (D.loose.length+1) c7)) (s+1) (.int .i64 (D.size:Int)) (.slice (some ⟨gc,0,none⟩) D.cells.length c) (.slice A7 (D.loose.length+1) c7) (.int .i64 (D.syncs:Int))))
      have r0:=hbx.c0
      have r1:=hbx.c1
      have r2:=hbx.c2
      have r3:=hbx.c3
      clear hbx
      generalize (((((w7.setCell ⟨s,2,none⟩ (.slice A7 (D.loose.length+1) c7)).setCell ⟨s+1,0,none⟩ (.int .i64 (D.size:Int))).setCell ⟨s+1,1,none⟩ (.slice (some ⟨gc,0,none⟩) D.cells.length c)).setCell ⟨s+1,2,none⟩ (.slice A7 (D.loose.length+1) c7)).setCell ⟨s+1,3,none⟩ (.int .i64 (D.syncs:Int)))=w9 at HF r0 r1 r2 r3 ⊢
      refine bodyPost_ret (v:=tupE 0 (rfV (Dk.mk D.size D.cells (D.loose ++ [(q,b)]) D.syncs) (.slice (some ⟨gc,0,none⟩) D.cells.length c) (.slice A7 (D.loose.length+1) c7))) (by simp [results,Tryz.results84,go_sem,rfV,tupE,r0,r1,r2,r3]) rfl ?_
      exact ⟨_,rfl,⟨_,_,_,_,rfl,HF.out.1⟩,HF.out.2⟩
  · have hE:D.putE z b=1:=by unfold Dk.putE; rw [if_neg hz]
    have hP:D.put z b=D:=by unfold Dk.put; rw [if_neg (by omega)]
    rw [hE,hP]
    clear hE hP
    unfold rfV
    go_enter Tryz.func84,Tryz.ntmps84
    go_wp2_with fail
    generalize hw2:((w.alloc (.cells #[.int .i64 (D.size:Int),.slice (some ⟨gc,0,none⟩) D.cells.length c,.slice A D.loose.length cl,.int .i64 (D.syncs:Int)] 39)).alloc (.cells #[.int .i64 0,.slice none 0 0,.slice none 0 0,.int .i64 0] 39))=w2 at HI ⊢
    clear hw2
    generalize w.heap.size=s at HI ⊢
    have ax0:=HI.out.bx.c0
    have ax1:=HI.out.bx.c1
    have ax2:=HI.out.bx.c2
    have ax3:=HI.out.bx.c3
    have af0:=HI.out.rz.fz 0
    have af1:=HI.out.rz.fz 1
    have af2:=HI.out.rz.fz 2
    have af3:=HI.out.rz.fz 3
    have az0:=HI.out.rz.c0
    have az1:=HI.out.rz.c1
    have az2:=HI.out.rz.c2
    have az3:=HI.out.rz.c3
    have ag0:=HI.out.bx.fz 0
    have ag1:=HI.out.bx.fz 1
    have ag2:=HI.out.bx.fz 2
    have ag3:=HI.out.bx.fz 3
    go_wp2_with fail
    refine (rhas_out HI.out.rf z hz).mono ?_
    rintro e w3 ⟨rfl,k3⟩
    have HS:=hide (HI.out.no k3)
    clear k3
    clear ax0 ax1 ax2 ax3 af0 af1 af2 af3 az0 az1 az2 az3 ag0 ag1 ag2 ag3
    have bx0:=HS.out.bx.c0
    have bx1:=HS.out.bx.c1
    have bx2:=HS.out.bx.c2
    have bx3:=HS.out.bx.c3
    have bf0:=HS.out.rz.fz 0
    have bf1:=HS.out.rz.fz 1
    have bf2:=HS.out.rz.fz 2
    have bf3:=HS.out.rz.fz 3
    have bz0:=HS.out.rz.c0
    have bz1:=HS.out.rz.c1
    have bz2:=HS.out.rz.c2
    have bz3:=HS.out.rz.c3
    have bg0:=HS.out.bx.fz 0
    have bg1:=HS.out.bx.fz 1
    have bg2:=HS.out.bx.fz 2
    have bg3:=HS.out.bx.fz 3
    go_wp2_with fail
    clear bx0 bx1 bx2 bx3 bf0 bf1 bf2 bf3 bz0 bz1 bz2 bz3 bg0 bg1 bg2 bg3
    have hbx:BxD ((((w3.setCell ⟨s+1,0,none⟩ (.int .i64 (D.size:Int))).setCell ⟨s+1,1,none⟩ (.slice (some ⟨gc,0,none⟩) D.cells.length c)).setCell ⟨s+1,2,none⟩ (.slice A D.loose.length cl)).setCell ⟨s+1,3,none⟩ (.int .i64 (D.syncs:Int))) (s+1) D (.slice (some ⟨gc,0,none⟩) D.cells.length c) (.slice A D.loose.length cl):=HS.out.rz.set4 (D:=D) (vc:=.slice (some ⟨gc,0,none⟩) D.cells.length c) (vl:=.slice A D.loose.length cl)
    have HF:=hide (HS.out.fin (kp_set4 w3 (s+1) (.int .i64 (D.size:Int)) (.slice (some ⟨gc,0,none⟩) D.cells.length c) (.slice A D.loose.length cl) (.int .i64 (D.syncs:Int))))
    have r0:=hbx.c0
    have r1:=hbx.c1
    have r2:=hbx.c2
    have r3:=hbx.c3
    clear hbx
    generalize ((((w3.setCell ⟨s+1,0,none⟩ (.int .i64 (D.size:Int))).setCell ⟨s+1,1,none⟩ (.slice (some ⟨gc,0,none⟩) D.cells.length c)).setCell ⟨s+1,2,none⟩ (.slice A D.loose.length cl)).setCell ⟨s+1,3,none⟩ (.int .i64 (D.syncs:Int)))=w9 at HF r0 r1 r2 r3 ⊢
    refine bodyPost_ret (v:=tupE 1 (rfV D (.slice (some ⟨gc,0,none⟩) D.cells.length c) (.slice A D.loose.length cl))) (by simp [results,Tryz.results84,go_sem,rfV,tupE,r0,r1,r2,r3]) rfl ?_
    exact ⟨_,rfl,⟨_,_,_,_,rfl,HF.out.1⟩,HF.out.2⟩
set_option maxHeartbeats 4000000 in
theorem rspoil_any {w:World} {F:Nat→Prop} {D:Dk} {v0:Value} (h:RfAt w F D v0) (z a:Int) (x:UInt8) :
    Calls Tryz.prog 17 #[v0,.int .i64 z,.int .i64 a,.int .u8 (x.toNat:Int)] w (RfPost w F (D.spoil z a x) (tupE (D.spoilE z a))):=by
  obtain ⟨i0,hi0,hz0,hz1,hz2⟩:=byte_parts
  obtain ⟨vc,vl,cs,ls,rfl,h⟩:=h
  obtain ⟨gc,c,rfl,hc⟩:=h.vc_
  obtain ⟨A,cl,rfl,hcl,hL1⟩:=h.vl_
  have hs1:=h.ok.s1
  have hn1:=h.ok.n1
  have HI:=hide (BxS.begin h)
  have HH:=hide h
  clear h
  unfold maxLen at hL1
  by_cases hz:D.In z
  · obtain ⟨q,rfl⟩:∃ q:Nat,z=q:=⟨z.toNat,by have:=hz.1; omega⟩
    have hq:q < D.cells.length:=by have:=hz.2; omega
    by_cases ha:0≤a∧a < (D.cell q).length
    · obtain ⟨p,rfl⟩:∃ p:Nat,a=p:=⟨a.toNat,by have:=ha.1; omega⟩
      have hp:p < (D.cell q).length:=by have:=ha.2; omega
      have hE:D.spoilE (q:Int) (p:Int)=0:=by unfold Dk.spoilE; rw [Int.toNat_natCast,if_pos ⟨hz,ha.1,ha.2⟩]
      obtain ⟨y,hy⟩:∃ y,(D.cell q)[p]?=some y:=⟨_,List.getElem?_eq_getElem hp⟩
      have hP:D.spoil (q:Int) (p:Int) x=⟨D.size,D.cells.set q ((D.cell q).set p (y ^^^ x)),D.loose,D.syncs⟩:=by unfold Dk.spoil; rw [if_pos hE,Int.toNat_natCast,Int.toNat_natCast,List.getD_eq_getElem?_getD,hy]; rfl
      rw [hE,hP]
      have HY:=hide hy
      clear hE hP ha hy
      unfold rfV
      go_enter Tryz.func17,Tryz.ntmps17
      go_wp2_with fail
      generalize hw2:((w.alloc (.cells #[.int .i64 (D.size:Int),.slice (some ⟨gc,0,none⟩) D.cells.length c,.slice A D.loose.length cl,.int .i64 (D.syncs:Int)] 39)).alloc (.cells #[.int .i64 0,.slice none 0 0,.slice none 0 0,.int .i64 0] 39))=w2 at HI ⊢
      clear hw2
      generalize w.heap.size=s at HI ⊢
      have ax0:=HI.out.bx.c0
      have ax1:=HI.out.bx.c1
      have ax2:=HI.out.bx.c2
      have ax3:=HI.out.bx.c3
      have af0:=HI.out.rz.fz 0
      have af1:=HI.out.rz.fz 1
      have af2:=HI.out.rz.fz 2
      have af3:=HI.out.rz.fz 3
      have az0:=HI.out.rz.c0
      have az1:=HI.out.rz.c1
      have az2:=HI.out.rz.c2
      have az3:=HI.out.rz.c3
      have ag0:=HI.out.bx.fz 0
      have ag1:=HI.out.bx.fz 1
      have ag2:=HI.out.bx.fz 2
      have ag3:=HI.out.bx.fz 3
      go_wp2_with fail
      refine (rhas_in HI.out.rf _ hz).mono ?_
      rintro e w3 ⟨rfl,k3⟩
      have HS:=hide (HI.out.no k3)
      clear k3
      clear ax0 ax1 ax2 ax3 af0 af1 af2 af3 az0 az1 az2 az3 ag0 ag1 ag2 ag3
      have bx0:=HS.out.bx.c0
      have bx1:=HS.out.bx.c1
      have bx2:=HS.out.bx.c2
      have bx3:=HS.out.bx.c3
      have bf0:=HS.out.rz.fz 0
      have bf1:=HS.out.rz.fz 1
      have bf2:=HS.out.rz.fz 2
      have bf3:=HS.out.rz.fz 3
      have bz0:=HS.out.rz.c0
      have bz1:=HS.out.rz.c1
      have bz2:=HS.out.rz.c2
      have bz3:=HS.out.rz.c3
      have bg0:=HS.out.bx.fz 0
      have bg1:=HS.out.bx.fz 1
      have bg2:=HS.out.bx.fz 2
      have bg3:=HS.out.bx.fz 3
      obtain ⟨A',m,c',hcs,xk,hok,hm⟩:=HS.out.rf.cell rfl hq
      have hpm:p < m:=by omega
      have hmx:m≤4096:=by have h1:=HH.out.ok.cell_le q; omega
      have hsl:=HS.out.bx.lt
      have hsl1:=HS.out.rz.lt
      have hgcl:=HS.out.rf.oc.blk
      have HOK:=hide hok
      have HM:=hide hm
      clear hm hok hcs
      go_wp2_with (first
        | (at_builtin
           refine wpList_app rfl (.tmp 30) (.tmp 35) _ rfl i0 Tryz.underlying54 hi0 hz0 hz1 hz2 rfl (own_empty w3) rfl (HOK.out.1.no (Kp.alloc No w3 _)) (by have:=HM.out; simp; omega) (by simp) ?_
           intro A4 n4 c4 w4 ha4
           have k4:Kp No w3 w4:=ha4.keeps (own_empty w3) (Kp.alloc No w3 _)
           have ho4:=ha4.own
           rw [List.nil_append] at ho4
           obtain ⟨g4,c4',e4,hg4,_⟩:=ho4.some_ (by omega)
           injection e4 with e5 e6 e7
           subst e5 e6 e7
           have xb:=ho4.cellAt HY.out
           have xf:=ho4.frozenAt p
           have hy1:=y.toNat_lt
           have hx1:=x.toNat_lt
           have hne:¬ g4=s:=by omega
           have hne':¬ s=g4:=by omega
           have hS4:=HS.out.no k4
           have y1:=hS4.bx.c1
           have y2:=hS4.bx.c2
           have yf:=hS4.bx.fz 1
           have HS4:=hide hS4
           have HO4:=hide ho4
           have HK4:=hide k4
           clear ha4 ho4 hS4 k4))
      have ho6:=HO4.out.set hp (y ^^^ x) _ (xor_byte y x)
      have k6:=HK4.out.fresh (p:=⟨g4,p,none⟩) hg4 (Value.int .u8 (bits .xor .u8 (y.toNat:Int) (x.toNat:Int)))
      have HS6:=hide (HS.out.no k6)
      have hoc:=HS6.out.rf.oc
      rw [HS6.out.rf.ncs] at hoc
      refine (rwith_any hoc HS6.out.rf.one hq hn1 ho6.bts (by rw [List.length_set]; have h1:=HH.out.ok.cell_le q; omega)).mono ?_
      rintro e w5 ⟨g5,c5,v5,rfl,o5,b5,k5⟩
      clear hoc
      have HS5:=hide (HS6.out.no k5)
      clear bx0 bx1 bx2 bx3 bf0 bf1 bf2 bf3 bz0 bz1 bz2 bz3 bg0 bg1 bg2 bg3
      clear y1 y2 yf ho6 k6
      have dx0:=HS5.out.bx.c0
      have dx1:=HS5.out.bx.c1
      have dx2:=HS5.out.bx.c2
      have dx3:=HS5.out.bx.c3
      have df0:=HS5.out.rz.fz 0
      have df1:=HS5.out.rz.fz 1
      have df2:=HS5.out.rz.fz 2
      have df3:=HS5.out.rz.fz 3
      have dz0:=HS5.out.rz.c0
      have dz1:=HS5.out.rz.c1
      have dz2:=HS5.out.rz.c2
      have dz3:=HS5.out.rz.c3
      have dg0:=HS5.out.bx.fz 0
      have dg1:=HS5.out.bx.fz 1
      have dg2:=HS5.out.bx.fz 2
      have dg3:=HS5.out.bx.fz 3
      go_wp2_with fail
      clear dx0 dx1 dx2 dx3 df0 df1 df2 df3 dz0 dz1 dz2 dz3 dg0 dg1 dg2 dg3
      have hR5:=HS6.out.rf.setc k5 o5 b5 (by rw [List.length_set]; exact HH.out.ok.cell_le q)
      have hS8:=HS5.out.upd hR5 (Kp.setCell (p:=⟨s,1,none⟩) (S:=fun k=>k=s) rfl (.slice (some ⟨g5,0,none⟩) D.cells.length c5)) ((HS5.out.bx.set1 _).eqD rfl rfl)
      have hbx:BxD (((((w5.setCell ⟨s,1,none⟩ (.slice (some ⟨g5,0,none⟩) D.cells.length c5)).setCell ⟨s+1,0,none⟩ (.int .i64 (D.size:Int))).setCell ⟨s+1,1,none⟩ (.slice (some ⟨g5,0,none⟩) D.cells.length c5)).setCell ⟨s+1,2,none⟩ (.slice A D.loose.length cl)).setCell ⟨s+1,3,none⟩ (.int .i64 (D.syncs:Int))) (s+1) (Dk.mk D.size (D.cells.set q ((D.cell q).set p (y ^^^ x))) D.loose D.syncs) (.slice (some ⟨g5,0,none⟩) D.cells.length c5) (.slice A D.loose.length cl):=hS8.rz.set4 (D:=(Dk.mk D.size (D.cells.set q ((D.cell q).set p (y ^^^ x))) D.loose D.syncs)) (vc:=.slice (some ⟨g5,0,none⟩) D.cells.length c5) (vl:=.slice A D.loose.length cl)
      have HF:=hide (hS8.fin (kp_set4 (w5.setCell ⟨s,1,none⟩ (.slice (some ⟨g5,0,none⟩) D.cells.length c5)) (s+1) (.int .i64 (D.size:Int)) (.slice (some ⟨g5,0,none⟩) D.cells.length c5) (.slice A D.loose.length cl) (.int .i64 (D.syncs:Int))))
      have r0:=hbx.c0
      have r1:=hbx.c1
      have r2:=hbx.c2
      have r3:=hbx.c3
      clear hbx
      generalize (((((w5.setCell ⟨s,1,none⟩ (.slice (some ⟨g5,0,none⟩) D.cells.length c5)).setCell ⟨s+1,0,none⟩ (.int .i64 (D.size:Int))).setCell ⟨s+1,1,none⟩ (.slice (some ⟨g5,0,none⟩) D.cells.length c5)).setCell ⟨s+1,2,none⟩ (.slice A D.loose.length cl)).setCell ⟨s+1,3,none⟩ (.int .i64 (D.syncs:Int)))=w9 at HF r0 r1 r2 r3 ⊢
      refine bodyPost_ret (v:=tupE 0 (rfV (Dk.mk D.size (D.cells.set q ((D.cell q).set p (y ^^^ x))) D.loose D.syncs) (.slice (some ⟨g5,0,none⟩) D.cells.length c5) (.slice A D.loose.length cl))) (by simp [results,Tryz.results17,go_sem,rfV,tupE,r0,r1,r2,r3]) rfl ?_
      exact ⟨_,rfl,⟨_,_,_,_,rfl,HF.out.1⟩,HF.out.2⟩
    · have hE:D.spoilE (q:Int) a=1:=by unfold Dk.spoilE; rw [Int.toNat_natCast,if_neg fun g=>ha g.2]
      have hP:D.spoil (q:Int) a x=D:=by unfold Dk.spoil; rw [if_neg (by omega)]
      rw [hE,hP]
      clear hE hP
      by_cases h0:0≤a
      · have h1:¬ a < (D.cell q).length:=fun g=>ha ⟨h0,g⟩
        clear ha
        unfold rfV
        go_enter Tryz.func17,Tryz.ntmps17
        go_wp2_with fail
        generalize hw2:((w.alloc (.cells #[.int .i64 (D.size:Int),.slice (some ⟨gc,0,none⟩) D.cells.length c,.slice A D.loose.length cl,.int .i64 (D.syncs:Int)] 39)).alloc (.cells #[.int .i64 0,.slice none 0 0,.slice none 0 0,.int .i64 0] 39))=w2 at HI ⊢
        clear hw2
        generalize w.heap.size=s at HI ⊢
        have ax0:=HI.out.bx.c0
        have ax1:=HI.out.bx.c1
        have ax2:=HI.out.bx.c2
        have ax3:=HI.out.bx.c3
        have af0:=HI.out.rz.fz 0
        have af1:=HI.out.rz.fz 1
        have af2:=HI.out.rz.fz 2
        have af3:=HI.out.rz.fz 3
        have az0:=HI.out.rz.c0
        have az1:=HI.out.rz.c1
        have az2:=HI.out.rz.c2
        have az3:=HI.out.rz.c3
        have ag0:=HI.out.bx.fz 0
        have ag1:=HI.out.bx.fz 1
        have ag2:=HI.out.bx.fz 2
        have ag3:=HI.out.bx.fz 3
        go_wp2_with fail
        refine (rhas_in HI.out.rf _ hz).mono ?_
        rintro e w3 ⟨rfl,k3⟩
        have HS:=hide (HI.out.no k3)
        clear k3
        clear ax0 ax1 ax2 ax3 af0 af1 af2 af3 az0 az1 az2 az3 ag0 ag1 ag2 ag3
        have bx0:=HS.out.bx.c0
        have bx1:=HS.out.bx.c1
        have bx2:=HS.out.bx.c2
        have bx3:=HS.out.bx.c3
        have bf0:=HS.out.rz.fz 0
        have bf1:=HS.out.rz.fz 1
        have bf2:=HS.out.rz.fz 2
        have bf3:=HS.out.rz.fz 3
        have bz0:=HS.out.rz.c0
        have bz1:=HS.out.rz.c1
        have bz2:=HS.out.rz.c2
        have bz3:=HS.out.rz.c3
        have bg0:=HS.out.bx.fz 0
        have bg1:=HS.out.bx.fz 1
        have bg2:=HS.out.bx.fz 2
        have bg3:=HS.out.bx.fz 3
        obtain ⟨A',m,c',hcs,xk,hok,hm⟩:=HS.out.rf.cell rfl hq
        have h2:(m:Int)≤a:=by omega
        clear hm hok hcs h1
        go_wp2_with fail
        clear bx0 bx1 bx2 bx3 bf0 bf1 bf2 bf3 bz0 bz1 bz2 bz3 bg0 bg1 bg2 bg3
        have hbx:BxD ((((w3.setCell ⟨s+1,0,none⟩ (.int .i64 (D.size:Int))).setCell ⟨s+1,1,none⟩ (.slice (some ⟨gc,0,none⟩) D.cells.length c)).setCell ⟨s+1,2,none⟩ (.slice A D.loose.length cl)).setCell ⟨s+1,3,none⟩ (.int .i64 (D.syncs:Int))) (s+1) D (.slice (some ⟨gc,0,none⟩) D.cells.length c) (.slice A D.loose.length cl):=HS.out.rz.set4 (D:=D) (vc:=.slice (some ⟨gc,0,none⟩) D.cells.length c) (vl:=.slice A D.loose.length cl)
        have HF:=hide (HS.out.fin (kp_set4 w3 (s+1) (.int .i64 (D.size:Int)) (.slice (some ⟨gc,0,none⟩) D.cells.length c) (.slice A D.loose.length cl) (.int .i64 (D.syncs:Int))))
        have r0:=hbx.c0
        have r1:=hbx.c1
        have r2:=hbx.c2
        have r3:=hbx.c3
        clear hbx
        generalize ((((w3.setCell ⟨s+1,0,none⟩ (.int .i64 (D.size:Int))).setCell ⟨s+1,1,none⟩ (.slice (some ⟨gc,0,none⟩) D.cells.length c)).setCell ⟨s+1,2,none⟩ (.slice A D.loose.length cl)).setCell ⟨s+1,3,none⟩ (.int .i64 (D.syncs:Int)))=w9 at HF r0 r1 r2 r3 ⊢
        refine bodyPost_ret (v:=tupE 1 (rfV D (.slice (some ⟨gc,0,none⟩) D.cells.length c) (.slice A D.loose.length cl))) (by simp [results,Tryz.results17,go_sem,rfV,tupE,r0,r1,r2,r3]) rfl ?_
        exact ⟨_,rfl,⟨_,_,_,_,rfl,HF.out.1⟩,HF.out.2⟩
      · clear ha
        unfold rfV
        go_enter Tryz.func17,Tryz.ntmps17
        go_wp2_with fail
        generalize hw2:((w.alloc (.cells #[.int .i64 (D.size:Int),.slice (some ⟨gc,0,none⟩) D.cells.length c,.slice A D.loose.length cl,.int .i64 (D.syncs:Int)] 39)).alloc (.cells #[.int .i64 0,.slice none 0 0,.slice none 0 0,.int .i64 0] 39))=w2 at HI ⊢
        clear hw2
        generalize w.heap.size=s at HI ⊢
        have ax0:=HI.out.bx.c0
        have ax1:=HI.out.bx.c1
        have ax2:=HI.out.bx.c2
        have ax3:=HI.out.bx.c3
        have af0:=HI.out.rz.fz 0
        have af1:=HI.out.rz.fz 1
        have af2:=HI.out.rz.fz 2
        have af3:=HI.out.rz.fz 3
        have az0:=HI.out.rz.c0
        have az1:=HI.out.rz.c1
        have az2:=HI.out.rz.c2
        have az3:=HI.out.rz.c3
        have ag0:=HI.out.bx.fz 0
        have ag1:=HI.out.bx.fz 1
        have ag2:=HI.out.bx.fz 2
        have ag3:=HI.out.bx.fz 3
        go_wp2_with fail
        refine (rhas_in HI.out.rf _ hz).mono ?_
        rintro e w3 ⟨rfl,k3⟩
        have HS:=hide (HI.out.no k3)
        clear k3
        clear ax0 ax1 ax2 ax3 af0 af1 af2 af3 az0 az1 az2 az3 ag0 ag1 ag2 ag3
        have bx0:=HS.out.bx.c0
        have bx1:=HS.out.bx.c1
        have bx2:=HS.out.bx.c2
        have bx3:=HS.out.bx.c3
        have bf0:=HS.out.rz.fz 0
        have bf1:=HS.out.rz.fz 1
        have bf2:=HS.out.rz.fz 2
        have bf3:=HS.out.rz.fz 3
        have bz0:=HS.out.rz.c0
        have bz1:=HS.out.rz.c1
        have bz2:=HS.out.rz.c2
        have bz3:=HS.out.rz.c3
        have bg0:=HS.out.bx.fz 0
        have bg1:=HS.out.bx.fz 1
        have bg2:=HS.out.bx.fz 2
        have bg3:=HS.out.bx.fz 3
        go_wp2_with fail
        clear bx0 bx1 bx2 bx3 bf0 bf1 bf2 bf3 bz0 bz1 bz2 bz3 bg0 bg1 bg2 bg3
        have hbx:BxD ((((w3.setCell ⟨s+1,0,none⟩ (.int .i64 (D.size:Int))).setCell ⟨s+1,1,none⟩ (.slice (some ⟨gc,0,none⟩) D.cells.length c)).setCell ⟨s+1,2,none⟩ (.slice A D.loose.length cl)).setCell ⟨s+1,3,none⟩ (.int .i64 (D.syncs:Int))) (s+1) D (.slice (some ⟨gc,0,none⟩) D.cells.length c) (.slice A D.loose.length cl):=HS.out.rz.set4 (D:=D) (vc:=.slice (some ⟨gc,0,none⟩) D.cells.length c) (vl:=.slice A D.loose.length cl)
        have HF:=hide (HS.out.fin (kp_set4 w3 (s+1) (.int .i64 (D.size:Int)) (.slice (some ⟨gc,0,none⟩) D.cells.length c) (.slice A D.loose.length cl) (.int .i64 (D.syncs:Int))))
        have r0:=hbx.c0
        have r1:=hbx.c1
        have r2:=hbx.c2
        have r3:=hbx.c3
        clear hbx
        generalize ((((w3.setCell ⟨s+1,0,none⟩ (.int .i64 (D.size:Int))).setCell ⟨s+1,1,none⟩ (.slice (some ⟨gc,0,none⟩) D.cells.length c)).setCell ⟨s+1,2,none⟩ (.slice A D.loose.length cl)).setCell ⟨s+1,3,none⟩ (.int .i64 (D.syncs:Int)))=w9 at HF r0 r1 r2 r3 ⊢
        refine bodyPost_ret (v:=tupE 1 (rfV D (.slice (some ⟨gc,0,none⟩) D.cells.length c) (.slice A D.loose.length cl))) (by simp [results,Tryz.results17,go_sem,rfV,tupE,r0,r1,r2,r3]) rfl ?_
        exact ⟨_,rfl,⟨_,_,_,_,rfl,HF.out.1⟩,HF.out.2⟩
  · have hE:D.spoilE z a=1:=by unfold Dk.spoilE; rw [if_neg fun g=>hz g.1]
    have hP:D.spoil z a x=D:=by unfold Dk.spoil; rw [if_neg (by omega)]
    rw [hE,hP]
    clear hE hP
    unfold rfV
    go_enter Tryz.func17,Tryz.ntmps17
    go_wp2_with fail
    generalize hw2:((w.alloc (.cells #[.int .i64 (D.size:Int),.slice (some ⟨gc,0,none⟩) D.cells.length c,.slice A D.loose.length cl,.int .i64 (D.syncs:Int)] 39)).alloc (.cells #[.int .i64 0,.slice none 0 0,.slice none 0 0,.int .i64 0] 39))=w2 at HI ⊢
    clear hw2
    generalize w.heap.size=s at HI ⊢
    have ax0:=HI.out.bx.c0
    have ax1:=HI.out.bx.c1
    have ax2:=HI.out.bx.c2
    have ax3:=HI.out.bx.c3
    have af0:=HI.out.rz.fz 0
    have af1:=HI.out.rz.fz 1
    have af2:=HI.out.rz.fz 2
    have af3:=HI.out.rz.fz 3
    have az0:=HI.out.rz.c0
    have az1:=HI.out.rz.c1
    have az2:=HI.out.rz.c2
    have az3:=HI.out.rz.c3
    have ag0:=HI.out.bx.fz 0
    have ag1:=HI.out.bx.fz 1
    have ag2:=HI.out.bx.fz 2
    have ag3:=HI.out.bx.fz 3
    go_wp2_with fail
    refine (rhas_out HI.out.rf z hz).mono ?_
    rintro e w3 ⟨rfl,k3⟩
    have HS:=hide (HI.out.no k3)
    clear k3
    clear ax0 ax1 ax2 ax3 af0 af1 af2 af3 az0 az1 az2 az3 ag0 ag1 ag2 ag3
    have bx0:=HS.out.bx.c0
    have bx1:=HS.out.bx.c1
    have bx2:=HS.out.bx.c2
    have bx3:=HS.out.bx.c3
    have bf0:=HS.out.rz.fz 0
    have bf1:=HS.out.rz.fz 1
    have bf2:=HS.out.rz.fz 2
    have bf3:=HS.out.rz.fz 3
    have bz0:=HS.out.rz.c0
    have bz1:=HS.out.rz.c1
    have bz2:=HS.out.rz.c2
    have bz3:=HS.out.rz.c3
    have bg0:=HS.out.bx.fz 0
    have bg1:=HS.out.bx.fz 1
    have bg2:=HS.out.bx.fz 2
    have bg3:=HS.out.bx.fz 3
    go_wp2_with fail
    clear bx0 bx1 bx2 bx3 bf0 bf1 bf2 bf3 bz0 bz1 bz2 bz3 bg0 bg1 bg2 bg3
    have hbx:BxD ((((w3.setCell ⟨s+1,0,none⟩ (.int .i64 (D.size:Int))).setCell ⟨s+1,1,none⟩ (.slice (some ⟨gc,0,none⟩) D.cells.length c)).setCell ⟨s+1,2,none⟩ (.slice A D.loose.length cl)).setCell ⟨s+1,3,none⟩ (.int .i64 (D.syncs:Int))) (s+1) D (.slice (some ⟨gc,0,none⟩) D.cells.length c) (.slice A D.loose.length cl):=HS.out.rz.set4 (D:=D) (vc:=.slice (some ⟨gc,0,none⟩) D.cells.length c) (vl:=.slice A D.loose.length cl)
    have HF:=hide (HS.out.fin (kp_set4 w3 (s+1) (.int .i64 (D.size:Int)) (.slice (some ⟨gc,0,none⟩) D.cells.length c) (.slice A D.loose.length cl) (.int .i64 (D.syncs:Int))))
    have r0:=hbx.c0
    have r1:=hbx.c1
    have r2:=hbx.c2
    have r3:=hbx.c3
    clear hbx
    generalize ((((w3.setCell ⟨s+1,0,none⟩ (.int .i64 (D.size:Int))).setCell ⟨s+1,1,none⟩ (.slice (some ⟨gc,0,none⟩) D.cells.length c)).setCell ⟨s+1,2,none⟩ (.slice A D.loose.length cl)).setCell ⟨s+1,3,none⟩ (.int .i64 (D.syncs:Int)))=w9 at HF r0 r1 r2 r3 ⊢
    refine bodyPost_ret (v:=tupE 1 (rfV D (.slice (some ⟨gc,0,none⟩) D.cells.length c) (.slice A D.loose.length cl))) (by simp [results,Tryz.results17,go_sem,rfV,tupE,r0,r1,r2,r3]) rfl ?_
    exact ⟨_,rfl,⟨_,_,_,_,rfl,HF.out.1⟩,HF.out.2⟩
end Go.Proofs.YtnfcfdhlmeimhaaGreat
