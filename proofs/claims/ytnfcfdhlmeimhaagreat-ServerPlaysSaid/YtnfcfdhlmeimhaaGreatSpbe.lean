/- The document's Get of layer 12, as a contract over memory; The document's Open of layer 12, as a contract over memory. -/
import Derived.Test.YtnfcfdhlmeimhaaGreatSpbd
import Derived.Deep.DeepCutAuto
namespace Go.Proofs.YtnfcfdhlmeimhaaGreat
open Go.RowKit
set_option linter.unusedVariables false
set_option linter.unusedSimpArgs false
set_option maxRecDepth 20000
def RgPost (w:World) (er:Nat) (bs:List UInt8) (e:Ending) (w1:World):Prop:=∃ A n c,e=.returned (.tuple #[.slice A n c,.int .i64 (er:Int)])∧Bts w1 (.slice A n c) bs∧Kp No w w1
set_option maxHeartbeats 4000000 in
theorem rget12_any {w:World} {F:Nat→Prop} {V:Vt} {v:Value} {s:Nat} (h:RvAt w F V v) (hs:s < N96):Calls Tryz.prog 52 #[v,shV s] w (RgPost w (V.gtE s) (V.gtB s)):=by
  obtain ⟨vc,vl,vk,cs,ls,rfl,h⟩:=h
  obtain ⟨gc,cc,A,cl,A2,ck,rfl,rfl,rfl⟩:=h.forms
  have HS:=hide hs
  have hv:=(Bx5.new w (.int .i64 (V.D.size:Int)) (.slice (some ⟨gc,0,none⟩) V.D.cells.length cc) (.slice A V.D.loose.length cl) (.int .i64 (V.D.syncs:Int)) (.slice A2 V.L.length ck)).keep (Kp.alloc No _ (.cells #[.int .u32 (cO s:Int),.int .u16 (cS s:Int),.int .u16 (cL s:Int),.int .u32 (cG s:Int)] 53)) fun f=>f
  have hb:=Box4.new2 w (.cells #[.int .i64 (V.D.size:Int),.slice (some ⟨gc,0,none⟩) V.D.cells.length cc,.slice A V.D.loose.length cl,.int .i64 (V.D.syncs:Int),.slice A2 V.L.length ck] 42) (.int .u32 (cO s:Int)) (.int .u16 (cS s:Int)) (.int .u16 (cL s:Int)) (.int .u32 (cG s:Int))
  have k0:Kp No w ((w.alloc (.cells #[.int .i64 (V.D.size:Int),.slice (some ⟨gc,0,none⟩) V.D.cells.length cc,.slice A V.D.loose.length cl,.int .i64 (V.D.syncs:Int),.slice A2 V.L.length ck] 42)).alloc (.cells #[.int .u32 (cO s:Int),.int .u16 (cS s:Int),.int .u16 (cL s:Int),.int .u32 (cG s:Int)] 53)):=(Kp.alloc No w _).al _
  have hr:=h.no k0
  have HV:=hide hv
  have HB:=hide hb
  have HR:=hide hr
  have HK:=hide k0
  have HL:=hide h.ok.kn.nm
  clear h hv hb hr k0
  unfold rvV
  go_enter Tryz.func52,Tryz.ntmps52
  go_upto_region 1 with fail
  generalize ((w.alloc (.cells #[.int .i64 (V.D.size:Int),.slice (some ⟨gc,0,none⟩) V.D.cells.length cc,.slice A V.D.loose.length cl,.int .i64 (V.D.syncs:Int),.slice A2 V.L.length ck] 42)).alloc (.cells #[.int .u32 (cO s:Int),.int .u16 (cS s:Int),.int .u16 (cL s:Int),.int .u32 (cG s:Int)] 53))=w0 at HV HB HR HK ⊢
  generalize w.heap.size=s0 at HV HB ⊢
  have hix:=rindex_any (x0:=.int .i64 (V.D.size:Int)) (x1:=.slice (some ⟨gc,0,none⟩) V.D.cells.length cc) (x2:=.slice A V.D.loose.length cl) (x3:=.int .i64 (V.D.syncs:Int)) HR.out.kn hs (fun p hp=>HL.out _ hp) rfl rfl rfl rfl
  obtain ⟨v0,v1,v2,v3,v4⟩:=HV.out.cell
  obtain ⟨b0,b1,b2,b3⟩:=HB.out.cell
  by_cases hk:kn V.L s=true
  · obtain ⟨i,hi⟩:∃ i,i=ixl V.L s:=⟨_,rfl⟩
    obtain ⟨q,hq⟩:∃ q,q=cel V.L s:=⟨_,rfl⟩
    have hget:=ix_get hk
    rw [ixZ_yes hk,← hi] at hix
    rw [← hi,← hq] at hget
    obtain ⟨bs,hbs⟩:∃ bs,bs=V.D.rd (q:Int):=⟨_,rfl⟩
    have hat:V.at_ s=bs:=by unfold Vt.at_; rw [← hq,hbs]
    have hE:V.gtE s=if rdE bs=0 then (if rdS bs=s then 0 else 21) else rdE bs:=by unfold Vt.gtE; rw [if_pos hk,hat]
    have hB:V.gtB s=if V.gtE s=0 then rdB bs else []:=by unfold Vt.gtB; rw [hat]
    obtain ⟨t,ht⟩:∃ t,t=rdS bs:=⟨_,rfl⟩
    obtain ⟨er,her⟩:∃ er,er=rdE bs:=⟨_,rfl⟩
    have htN:t < N96:=ht ▸ rdS_lt bs
    rw [← her,← ht] at hE
    have HGE:=hide hE
    have HGB:=hide hB
    have HBL:Hid (bs.length≤4096):=by show _≤_; rw [hbs]; exact Nat.le_trans (HR.out.rf.ok.rd_le _) HR.out.rf.ok.s1
    have HT:=hide ht
    have HE:=hide her
    have HTN:=hide htN
    have HIX:=hide hix
    obtain ⟨gk,rfl,c0,_⟩:=HR.out.kn.cell hget
    have hil:i < V.L.length:=by rw [hi]; exact kn_ix.1 hk
    have hiz:¬ (i:Int) < 0:=by omega
    have hiz2:(i:Int) < V.L.length:=by omega
    have HRB:Hid (∀ w',Kp No w0 w'→Calls Tryz.prog 69 #[rfV V.D (.slice (some ⟨gc,0,none⟩) V.D.cells.length cc) (.slice A V.D.loose.length cl),.int .i64 (q:Int)] w' (RrdPost w' bs)):=fun w' hk'=>by
      rw [hbs]
      exact rread_any ⟨_,_,_,_,rfl,HR.out.rf.no hk'⟩ (q:Int)
    clear hget hat hE hB ht her htN hix hi hq hbs hk hs
    unfold rfV at HRB
    go_wp2_with fail
    refine HIX.out.mono ?_
    rintro e w2 ⟨rfl,k2⟩
    have HK2:=hide k2
    have HV2:=hide (HV.out.no k2)
    have HB2:=hide (HB.out.keep k2 fun f=>f)
    have hc2:=kp_cell c0 k2
    have HC2:=hide hc2
    have HRD:Hid (∀ w',Kp No w2 w'→Calls Tryz.prog 69 #[.agg #[.int .i64 (V.D.size:Int),.slice (some ⟨gc,0,none⟩) V.D.cells.length cc,.slice A V.D.loose.length cl,.int .i64 (V.D.syncs:Int)],.int .i64 (q:Int)] w' (RrdPost w' bs)):=fun w' hk'=>HRB.out w' (HK2.out.trans' hk')
    have hS:∀ w',Kp No w2 w'→Kp No w2 w'∧w'.cell? ⟨s0,0,none⟩=some (.int .i64 (V.D.size:Int))∧w'.cell? ⟨s0,1,none⟩=some (.slice (some ⟨gc,0,none⟩) V.D.cells.length cc)∧w'.cell? ⟨s0,2,none⟩=some (.slice A V.D.loose.length cl)∧w'.cell? ⟨s0,3,none⟩=some (.int .i64 (V.D.syncs:Int))∧w'.cell? ⟨s0,4,none⟩=some (.slice (some ⟨gk,0,none⟩) V.L.length ck)∧w'.cell? ⟨gk,i * 5,none⟩=some (.int .i64 (q:Int)):=fun w' hk'=>by
      obtain ⟨z0,z1,z2,z3,z4⟩:=(HV2.out.no hk').cell
      exact ⟨hk',z0,z1,z2,z3,z4,kp_cell HC2.out hk'⟩
    clear v0 v1 v2 v3 v4 b0 b1 b2 b3 c0 k2 hc2 HIX HRB
    go_upto_region 4 with fail
    go_cut [7,8,9] (fun p d e wx=>∃ bx A4 n4 c4,p=.pointer (some ⟨bx,0,none⟩)∧d=.slice A4 n4 c4∧e=.int .i64 (er:Int)∧Box4 wx bx (.int .u32 (cO t:Int)) (.int .u16 (cS t:Int)) (.int .u16 (cL t:Int)) (.int .u32 (cG t:Int))∧Bts wx (.slice A4 n4 c4) (rdB bs)∧Kp No w2 wx)
    case first =>
      refine wp_region_noPanic ?_
      refine wp_region_held_drew (S:=fun w'=>Kp No w2 w'∧w'.cell? ⟨s0,0,none⟩=some (.int .i64 (V.D.size:Int))∧w'.cell? ⟨s0,1,none⟩=some (.slice (some ⟨gc,0,none⟩) V.D.cells.length cc)∧w'.cell? ⟨s0,2,none⟩=some (.slice A V.D.loose.length cl)∧w'.cell? ⟨s0,3,none⟩=some (.int .i64 (V.D.syncs:Int))∧w'.cell? ⟨s0,4,none⟩=some (.slice (some ⟨gk,0,none⟩) V.L.length ck)∧w'.cell? ⟨gk,i * 5,none⟩=some (.int .i64 (q:Int))) (by kernel_rfl) (hS _ (Kp.refl No w2).drew) (fun hHeld=>?_)
      refine wpAnyH_take (i:=0) (v:=?vax1) (oi:=?oax1) ?hax1 (by kernel_rfl) (by kernel_rfl) (by kernel_rfl) (fun _ _ _ h=>h) (Or.inl ⟨?wax1,?yax1⟩) hHeld ?rax1
      case hax1=>simp only [gA0,gA1,gA2]; rfl
      case wax1=>rfl
      case yax1=>intro w hSw; (try dsimp only at hSw); go_simp; (try with_reducible rfl)
      simp only [Act.put,sA0,sA1,sA2]
      refine wpAnyH_take (i:=1) (v:=?vax2) (oi:=?oax2) ?hax2 (by kernel_rfl) (by kernel_rfl) (by kernel_rfl) (fun _ _ _ h=>h) (Or.inl ⟨?wax2,?yax2⟩) hHeld ?rax2
      case hax2=>simp only [gA0,gA1,gA2]; rfl
      case wax2=>rfl
      case yax2=>intro w hSw; (try dsimp only at hSw); go_simp; (try with_reducible rfl)
      simp only [Act.put,sA0,sA1,sA2]
      refine wpAnyH_take (i:=2) (v:=?vax3) (oi:=?oax3) ?hax3 (by kernel_rfl) (by kernel_rfl) (by kernel_rfl) (fun _ _ _ h=>h) (Or.inl ⟨?wax3,?yax3⟩) hHeld ?rax3
      case hax3=>simp only [gA0,gA1,gA2]; rfl
      case wax3=>rfl
      case yax3=>intro w hSw; (try dsimp only at hSw); go_simp; (try with_reducible rfl)
      simp only [Act.put,sA0,sA1,sA2]
      refine wpAnyH_take (i:=3) (v:=?vax4) (oi:=?oax4) ?hax4 (by kernel_rfl) (by kernel_rfl) (by kernel_rfl) (fun _ _ _ h=>h) (Or.inl ⟨?wax4,?yax4⟩) hHeld ?rax4
      case hax4=>simp only [gA0,gA1,gA2]; rfl
      case wax4=>rfl
      case yax4=>intro w hSw; (try dsimp only at hSw); go_simp; (try with_reducible rfl)
      simp only [Act.put,sA0,sA1,sA2]
      refine wpAnyH_take (i:=4) (v:=?vax5) (oi:=?oax5) ?hax5 (by kernel_rfl) (by kernel_rfl) (by kernel_rfl) (fun _ _ _ h=>h) (Or.inl ⟨?wax5,?yax5⟩) hHeld ?rax5
      case hax5=>simp only [gA0,gA1,gA2]; rfl
      case wax5=>rfl
      case yax5=>intro w hSw; (try dsimp only at hSw); go_simp; (try with_reducible rfl)
      simp only [Act.put,sA0,sA1,sA2]
      refine wpAnyH_take (i:=5) (v:=?vax6) (oi:=?oax6) ?hax6 (by kernel_rfl) (by kernel_rfl) (by kernel_rfl) (fun _ _ _ h=>h) (Or.inl ⟨?wax6,?yax6⟩) hHeld ?rax6
      case hax6=>simp only [gA0,gA1,gA2]; rfl
      case wax6=>rfl
      case yax6=>intro w hSw; (try dsimp only at hSw); go_simp; (try with_reducible rfl)
      simp only [Act.put,sA0,sA1,sA2]
      refine wpAnyH_take (i:=6) (v:=?vax7) (oi:=?oax7) ?hax7 (by kernel_rfl) (by kernel_rfl) (by kernel_rfl) (fun _ _ _ h=>h) (Or.inl ⟨?wax7,?yax7⟩) hHeld ?rax7
      case hax7=>simp only [gA0,gA1,gA2]; rfl
      case wax7=>rfl
      case yax7=>intro w hSw; (try dsimp only at hSw); go_simp; (try with_reducible rfl)
      simp only [Act.put,sA0,sA1,sA2]
      refine wpAnyH_take (i:=7) (v:=?vax8) (oi:=?oax8) ?hax8 (by kernel_rfl) (by kernel_rfl) (by kernel_rfl) (fun _ _ _ h=>h) (Or.inl ⟨?wax8,?yax8⟩) hHeld ?rax8
      case hax8=>simp only [gA0,gA1,gA2]; rfl
      case wax8=>rfl
      case yax8=>intro w hSw; (try dsimp only at hSw); go_simp; (try with_reducible rfl)
      simp only [Act.put,sA0,sA1,sA2]
      refine wpAnyH_ready (rs:=[8,14]) (by kernel_rfl) (by simp) ?_
      refine (AllReadyH.cons (o:=?oax10) ?hax10 (fun K hK=>?sax10) (AllReadyH.cons (o:=?oax11) ?hax11 (fun K hK=>?sax11) AllReadyH.nil))
      case hax10=>simp only [gA0,gA1,gA2]; rfl
      case hax11=>simp only [gA0,gA1,gA2]; rfl
      case sax10 =>
        go_simp
        refine (HRD.out _ hHeld.1).mono ?_
        rintro e w3 ⟨A3,n3,c3,rfl,r3,b3,k3⟩
        have h3:=hS _ (hHeld.1.trans' k3)
        have hl3:=HBL.out
        rw [← b3.len] at hl3
        go_wp2_with fail
        refine hK.out _ _ (h3) (fun hHeld=>?_)
        clear hK K
        try simp only [Act.put,sA0,sA1,sA2]
        refine wpAnyH_ready (rs:=[9,14]) (by kernel_rfl) (by simp) ?_
        refine (AllReadyH.cons (o:=?oax13) ?hax13 (fun K hK=>?sax13) (AllReadyH.cons (o:=?oax14) ?hax14 (fun K hK=>?sax14) AllReadyH.nil))
        case hax13=>simp only [gA0,gA1,gA2]; rfl
        case hax14=>simp only [gA0,gA1,gA2]; rfl
        case sax13 =>
          go_simp
          refine (rread12_any b3 r3 (by omega)).mono ?_
          rintro e w4 ⟨A4,n4,c4,rfl,b4,k4⟩
          rw [← HT.out,← HE.out]
          have h4:=hS _ (hHeld.1.trans' k4)
          go_wp2_with fail
          refine hK.out _ _ (h4) (fun hHeld=>?_)
          clear hK K
          try simp only [Act.put,sA0,sA1,sA2]
          refine wpAnyH_take (i:=10) (v:=?vax15) (oi:=?oax15) ?hax15 (by kernel_rfl) (by kernel_rfl) (by kernel_rfl) (fun _ _ _ h=>h) (Or.inl ⟨?wax15,?yax15⟩) hHeld ?rax15
          case hax15=>simp only [gA0,gA1,gA2]; rfl
          case wax15=>rfl
          case yax15=>intro w hSw; (try dsimp only at hSw); go_simp; (try with_reducible rfl)
          simp only [Act.put,sA0,sA1,sA2]
          refine wpAnyH_take (i:=11) (v:=?vax16) (oi:=?oax16) ?hax16 (by kernel_rfl) (by kernel_rfl) (by kernel_rfl) (fun _ _ _ h=>h) (Or.inl ⟨?wax16,?yax16⟩) hHeld ?rax16
          case hax16=>simp only [gA0,gA1,gA2]; rfl
          case wax16=>rfl
          case yax16=>intro w hSw; (try dsimp only at hSw); go_simp; (try with_reducible rfl)
          simp only [Act.put,sA0,sA1,sA2]
          refine wpAnyH_take (i:=12) (v:=?vax17) (oi:=?oax17) ?hax17 (by kernel_rfl) (by kernel_rfl) (by kernel_rfl) (fun _ _ _ h=>h) (Or.inl ⟨?wax17,?yax17⟩) hHeld ?rax17
          case hax17=>simp only [gA0,gA1,gA2]; rfl
          case wax17=>rfl
          case yax17=>intro w hSw; (try dsimp only at hSw); go_simp; (try with_reducible rfl)
          simp only [Act.put,sA0,sA1,sA2]
          refine wpAnyH_take (i:=13) (v:=?vax18) (oi:=?oax18) ?hax18 (by kernel_rfl) (by kernel_rfl) (by kernel_rfl) (fun _ _ _ h=>h) (Or.inl ⟨?wax18,?yax18⟩) hHeld ?rax18
          case hax18=>simp only [gA0,gA1,gA2]; rfl
          case wax18=>rfl
          case yax18=>intro w hSw; (try dsimp only at hSw); go_simp; (try with_reducible rfl)
          simp only [Act.put,sA0,sA1,sA2]
          refine wpAnyH_ready (rs:=[14]) (by kernel_rfl) (by simp) ?_
          refine AllReadyH.cons (o:=?oax19) ?hax19 (fun K hK=>?sax19) AllReadyH.nil
          case hax19=>simp only [gA0,gA1,gA2]; rfl
          go_simp
          refine hK.out _ _ (hS _ (hHeld.1.trans' (Kp.alloc No _ _))) (fun hHeld=>?_)
          clear hK K
          try simp only [Act.put,sA0,sA1,sA2]
          refine wpAnyH_ready (rs:=[15]) (by kernel_rfl) (by simp) ?_
          refine AllReadyH.cons (o:=?oax20) ?hax20 (fun K hK=>?sax20) AllReadyH.nil
          case hax20=>simp only [gA0,gA1,gA2]; rfl
          have BX:=(Bx4.new w4 (.int .u32 0) (.int .u16 0) (.int .u16 0) (.int .u32 0))
          obtain ⟨t0,t1,t2,t3⟩:=BX.cell
          have g0:=BX.frozen 0
          have g1:=BX.frozen 1
          have g2:=BX.frozen 2
          have g3:=BX.frozen 3
          go_simp
          refine hK.out _ _ (hS _ (h4.1.trans' (Kp.alloc No w4 _))) (fun hHeld=>?_)
          clear hK K
          try simp only [Act.put,sA0,sA1,sA2]
          refine wpAnyH_ready (rs:=[16]) (by kernel_rfl) (by simp) ?_
          refine AllReadyH.cons (o:=?oax21) ?hax21 (fun K hK=>?sax21) AllReadyH.nil
          case hax21=>simp only [gA0,gA1,gA2]; rfl
          go_simp
          refine hK.out _ _ (hHeld) (fun hHeld=>?_)
          clear hK K
          try simp only [Act.put,sA0,sA1,sA2]
          refine wpAnyH_ready (rs:=[17]) (by kernel_rfl) (by simp) ?_
          refine AllReadyH.cons (o:=?oax22) ?hax22 (fun K hK=>?sax22) AllReadyH.nil
          case hax22=>simp only [gA0,gA1,gA2]; rfl
          go_simp
          refine hK.out _ _ (hHeld) (fun hHeld=>?_)
          clear hK K
          try simp only [Act.put,sA0,sA1,sA2]
          refine wpAnyH_done (by kernel_rfl) ?_ _
          refine NoPanic.normal ?_
          have hB:=hide (Bx4.new w4 (.int .u32 (cO t:Int)) (.int .u16 (cS t:Int)) (.int .u16 (cL t:Int)) (.int .u32 (cG t:Int)))
          have hb:=hide (b4.no (Kp.alloc No w4 (.cells #[.int .u32 (cO t:Int),.int .u16 (cS t:Int),.int .u16 (cL t:Int),.int .u32 (cG t:Int)] 53)))
          have hK:=hide hHeld.1
          clear hHeld BX t0 t1 t2 t3 g0 g1 g2 g3 h3 h4 b3 b4
          go_wp2_with fail
          go_meet
          exact ⟨_,A4,n4,c4,rfl,rfl,rfl,hB.out,hb.out,hK.out⟩
        case sax14 =>
          go_simp
          refine hK.out _ _ (hS _ (hHeld.1.trans' (Kp.alloc No _ _))) (fun hHeld=>?_)
          clear hK K
          try simp only [Act.put,sA0,sA1,sA2]
          refine wpAnyH_ready (rs:=[9]) (by kernel_rfl) (by simp) ?_
          refine AllReadyH.cons (o:=?oax24) ?hax24 (fun K hK=>?sax24) AllReadyH.nil
          case hax24=>simp only [gA0,gA1,gA2]; rfl
          go_simp
          refine (rread12_any (b3.no (Kp.alloc No w3 (.cells #[.int .u32 0,.int .u16 0,.int .u16 0,.int .u32 0] 53))) r3 (by omega)).mono ?_
          rintro e w4 ⟨A4,n4,c4,rfl,b4,k4⟩
          rw [← HT.out,← HE.out]
          have h4:=hS _ (hHeld.1.trans' k4)
          go_wp2_with fail
          refine hK.out _ _ (h4) (fun hHeld=>?_)
          clear hK K
          try simp only [Act.put,sA0,sA1,sA2]
          refine wpAnyH_take (i:=10) (v:=?vax25) (oi:=?oax25) ?hax25 (by kernel_rfl) (by kernel_rfl) (by kernel_rfl) (fun _ _ _ h=>h) (Or.inl ⟨?wax25,?yax25⟩) hHeld ?rax25
          case hax25=>simp only [gA0,gA1,gA2]; rfl
          case wax25=>rfl
          case yax25=>intro w hSw; (try dsimp only at hSw); go_simp; (try with_reducible rfl)
          simp only [Act.put,sA0,sA1,sA2]
          refine wpAnyH_take (i:=11) (v:=?vax26) (oi:=?oax26) ?hax26 (by kernel_rfl) (by kernel_rfl) (by kernel_rfl) (fun _ _ _ h=>h) (Or.inl ⟨?wax26,?yax26⟩) hHeld ?rax26
          case hax26=>simp only [gA0,gA1,gA2]; rfl
          case wax26=>rfl
          case yax26=>intro w hSw; (try dsimp only at hSw); go_simp; (try with_reducible rfl)
          simp only [Act.put,sA0,sA1,sA2]
          refine wpAnyH_take (i:=12) (v:=?vax27) (oi:=?oax27) ?hax27 (by kernel_rfl) (by kernel_rfl) (by kernel_rfl) (fun _ _ _ h=>h) (Or.inl ⟨?wax27,?yax27⟩) hHeld ?rax27
          case hax27=>simp only [gA0,gA1,gA2]; rfl
          case wax27=>rfl
          case yax27=>intro w hSw; (try dsimp only at hSw); go_simp; (try with_reducible rfl)
          simp only [Act.put,sA0,sA1,sA2]
          refine wpAnyH_take (i:=13) (v:=?vax28) (oi:=?oax28) ?hax28 (by kernel_rfl) (by kernel_rfl) (by kernel_rfl) (fun _ _ _ h=>h) (Or.inl ⟨?wax28,?yax28⟩) hHeld ?rax28
          case hax28=>simp only [gA0,gA1,gA2]; rfl
          case wax28=>rfl
          case yax28=>intro w hSw; (try dsimp only at hSw); go_simp; (try with_reducible rfl)
          simp only [Act.put,sA0,sA1,sA2]
          refine wpAnyH_ready (rs:=[15]) (by kernel_rfl) (by simp) ?_
          refine AllReadyH.cons (o:=?oax29) ?hax29 (fun K hK=>?sax29) AllReadyH.nil
          case hax29=>simp only [gA0,gA1,gA2]; rfl
          have BX:=((Bx4.new w3 (.int .u32 0) (.int .u16 0) (.int .u16 0) (.int .u32 0)).keep k4 fun f=>f)
          obtain ⟨t0,t1,t2,t3⟩:=BX.cell
          have g0:=BX.frozen 0
          have g1:=BX.frozen 1
          have g2:=BX.frozen 2
          have g3:=BX.frozen 3
          go_simp
          refine hK.out _ _ (hS _ (hHeld.1.trans (kp4 (S:=Up No w2) _ w3.heap.size (.int .u32 (cO t:Int)) (.int .u16 (cS t:Int)) (.int .u16 (cL t:Int)) (.int .u32 (cG t:Int)) (.inr k3.size)))) (fun hHeld=>?_)
          clear hK K
          try simp only [Act.put,sA0,sA1,sA2]
          refine wpAnyH_ready (rs:=[16]) (by kernel_rfl) (by simp) ?_
          refine AllReadyH.cons (o:=?oax30) ?hax30 (fun K hK=>?sax30) AllReadyH.nil
          case hax30=>simp only [gA0,gA1,gA2]; rfl
          go_simp
          refine hK.out _ _ (hHeld) (fun hHeld=>?_)
          clear hK K
          try simp only [Act.put,sA0,sA1,sA2]
          refine wpAnyH_ready (rs:=[17]) (by kernel_rfl) (by simp) ?_
          refine AllReadyH.cons (o:=?oax31) ?hax31 (fun K hK=>?sax31) AllReadyH.nil
          case hax31=>simp only [gA0,gA1,gA2]; rfl
          go_simp
          refine hK.out _ _ (hHeld) (fun hHeld=>?_)
          clear hK K
          try simp only [Act.put,sA0,sA1,sA2]
          refine wpAnyH_done (by kernel_rfl) ?_ _
          refine NoPanic.normal ?_
          have hB:=hide (BX.all (.int .u32 (cO t:Int)) (.int .u16 (cS t:Int)) (.int .u16 (cL t:Int)) (.int .u32 (cG t:Int)))
          have hb:=hide (BX.stay b4 (kp4 (S:=fun k=>k=w3.heap.size) _ w3.heap.size (.int .u32 (cO t:Int)) (.int .u16 (cS t:Int)) (.int .u16 (cL t:Int)) (.int .u32 (cG t:Int)) rfl))
          have hK:=hide hHeld.1
          clear hHeld BX t0 t1 t2 t3 g0 g1 g2 g3 h3 h4 b3 b4
          go_wp2_with fail
          go_meet
          exact ⟨_,A4,n4,c4,rfl,rfl,rfl,hB.out,hb.out,hK.out⟩
      case sax11 =>
        go_simp
        refine hK.out _ _ (hS _ (hHeld.1.trans' (Kp.alloc No _ _))) (fun hHeld=>?_)
        clear hK K
        try simp only [Act.put,sA0,sA1,sA2]
        refine wpAnyH_ready (rs:=[8]) (by kernel_rfl) (by simp) ?_
        refine AllReadyH.cons (o:=?oax33) ?hax33 (fun K hK=>?sax33) AllReadyH.nil
        case hax33=>simp only [gA0,gA1,gA2]; rfl
        go_simp
        refine (HRD.out _ hHeld.1).mono ?_
        rintro e w3 ⟨A3,n3,c3,rfl,r3,b3,k3⟩
        have h3:=hS _ (hHeld.1.trans' k3)
        have hl3:=HBL.out
        rw [← b3.len] at hl3
        go_wp2_with fail
        refine hK.out _ _ (h3) (fun hHeld=>?_)
        clear hK K
        try simp only [Act.put,sA0,sA1,sA2]
        refine wpAnyH_ready (rs:=[9]) (by kernel_rfl) (by simp) ?_
        refine AllReadyH.cons (o:=?oax34) ?hax34 (fun K hK=>?sax34) AllReadyH.nil
        case hax34=>simp only [gA0,gA1,gA2]; rfl
        go_simp
        refine (rread12_any b3 r3 (by omega)).mono ?_
        rintro e w4 ⟨A4,n4,c4,rfl,b4,k4⟩
        rw [← HT.out,← HE.out]
        have h4:=hS _ (hHeld.1.trans' k4)
        go_wp2_with fail
        refine hK.out _ _ (h4) (fun hHeld=>?_)
        clear hK K
        try simp only [Act.put,sA0,sA1,sA2]
        refine wpAnyH_take (i:=10) (v:=?vax35) (oi:=?oax35) ?hax35 (by kernel_rfl) (by kernel_rfl) (by kernel_rfl) (fun _ _ _ h=>h) (Or.inl ⟨?wax35,?yax35⟩) hHeld ?rax35
        case hax35=>simp only [gA0,gA1,gA2]; rfl
        case wax35=>rfl
        case yax35=>intro w hSw; (try dsimp only at hSw); go_simp; (try with_reducible rfl)
        simp only [Act.put,sA0,sA1,sA2]
        refine wpAnyH_take (i:=11) (v:=?vax36) (oi:=?oax36) ?hax36 (by kernel_rfl) (by kernel_rfl) (by kernel_rfl) (fun _ _ _ h=>h) (Or.inl ⟨?wax36,?yax36⟩) hHeld ?rax36
        case hax36=>simp only [gA0,gA1,gA2]; rfl
        case wax36=>rfl
        case yax36=>intro w hSw; (try dsimp only at hSw); go_simp; (try with_reducible rfl)
        simp only [Act.put,sA0,sA1,sA2]
        refine wpAnyH_take (i:=12) (v:=?vax37) (oi:=?oax37) ?hax37 (by kernel_rfl) (by kernel_rfl) (by kernel_rfl) (fun _ _ _ h=>h) (Or.inl ⟨?wax37,?yax37⟩) hHeld ?rax37
        case hax37=>simp only [gA0,gA1,gA2]; rfl
        case wax37=>rfl
        case yax37=>intro w hSw; (try dsimp only at hSw); go_simp; (try with_reducible rfl)
        simp only [Act.put,sA0,sA1,sA2]
        refine wpAnyH_take (i:=13) (v:=?vax38) (oi:=?oax38) ?hax38 (by kernel_rfl) (by kernel_rfl) (by kernel_rfl) (fun _ _ _ h=>h) (Or.inl ⟨?wax38,?yax38⟩) hHeld ?rax38
        case hax38=>simp only [gA0,gA1,gA2]; rfl
        case wax38=>rfl
        case yax38=>intro w hSw; (try dsimp only at hSw); go_simp; (try with_reducible rfl)
        simp only [Act.put,sA0,sA1,sA2]
        refine wpAnyH_ready (rs:=[15]) (by kernel_rfl) (by simp) ?_
        refine AllReadyH.cons (o:=?oax39) ?hax39 (fun K hK=>?sax39) AllReadyH.nil
        case hax39=>simp only [gA0,gA1,gA2]; rfl
        have BX:=(show Box4 w4 w2.heap.size (.int .u32 0) (.int .u16 0) (.int .u16 0) (.int .u32 0) from ((Bx4.new w2.drew (.int .u32 0) (.int .u16 0) (.int .u16 0) (.int .u32 0)).keep k3 fun f=>f).keep k4 fun f=>f)
        obtain ⟨t0,t1,t2,t3⟩:=BX.cell
        have g0:=BX.frozen 0
        have g1:=BX.frozen 1
        have g2:=BX.frozen 2
        have g3:=BX.frozen 3
        go_simp
        refine hK.out _ _ (hS _ (hHeld.1.trans (kp4 (S:=Up No w2) _ w2.heap.size (.int .u32 (cO t:Int)) (.int .u16 (cS t:Int)) (.int .u16 (cL t:Int)) (.int .u32 (cG t:Int)) (.inr (Nat.le_refl _))))) (fun hHeld=>?_)
        clear hK K
        try simp only [Act.put,sA0,sA1,sA2]
        refine wpAnyH_ready (rs:=[16]) (by kernel_rfl) (by simp) ?_
        refine AllReadyH.cons (o:=?oax40) ?hax40 (fun K hK=>?sax40) AllReadyH.nil
        case hax40=>simp only [gA0,gA1,gA2]; rfl
        go_simp
        refine hK.out _ _ (hHeld) (fun hHeld=>?_)
        clear hK K
        try simp only [Act.put,sA0,sA1,sA2]
        refine wpAnyH_ready (rs:=[17]) (by kernel_rfl) (by simp) ?_
        refine AllReadyH.cons (o:=?oax41) ?hax41 (fun K hK=>?sax41) AllReadyH.nil
        case hax41=>simp only [gA0,gA1,gA2]; rfl
        go_simp
        refine hK.out _ _ (hHeld) (fun hHeld=>?_)
        clear hK K
        try simp only [Act.put,sA0,sA1,sA2]
        refine wpAnyH_done (by kernel_rfl) ?_ _
        refine NoPanic.normal ?_
        have hB:=hide (BX.all (.int .u32 (cO t:Int)) (.int .u16 (cS t:Int)) (.int .u16 (cL t:Int)) (.int .u32 (cG t:Int)))
        have hb:=hide (BX.stay b4 (kp4 (S:=fun k=>k=w2.heap.size) _ w2.heap.size (.int .u32 (cO t:Int)) (.int .u16 (cS t:Int)) (.int .u16 (cL t:Int)) (.int .u32 (cG t:Int)) rfl))
        have hK:=hide hHeld.1
        clear hHeld BX t0 t1 t2 t3 g0 g1 g2 g3 h3 h4 b3 b4
        go_wp2_with fail
        go_meet
        exact ⟨_,A4,n4,c4,rfl,rfl,rfl,hB.out,hb.out,hK.out⟩
    case rest =>
      obtain ⟨bx,A4,n4,c4,rfl,rfl,rfl,hbx,hb4,hk4⟩:=hcut
      obtain ⟨b0,b1,b2,b3⟩:=(HB2.out.keep hk4 fun f=>f).cell
      obtain ⟨y0,y1,y2,y3⟩:=hbx.cell
      have HB4:=hide hb4
      have HK4:=hide ((HK.out.trans' HK2.out).trans' hk4)
      clear hS hbx hb4 hk4
      by_cases h0:er=0
      · subst h0
        by_cases hts:t=s
        · have hr:(!(t == s))=false:=by simp [hts]
          go_wp2_with (refine wpList_sneq (s:=t) (t:=s) rfl _ _ rfl rfl rfl HTN.out HS.out false hr ?_)
          go_ret2
          have e1:V.gtE s=0:=by rw [HGE.out]; simp [hts]
          refine ⟨A4,n4,c4,?_,?_,HK4.out⟩
          · rw [e1]; rfl
          · rw [HGB.out,if_pos e1]; exact HB4.out
        · have hr:(!(t == s))=true:=by simp [hts]
          go_wp2_with (refine wpList_sneq (s:=t) (t:=s) rfl _ _ rfl rfl rfl HTN.out HS.out true hr ?_)
          go_ret2
          have e1:V.gtE s=21:=by rw [HGE.out]; simp [hts]
          refine ⟨none,0,0,?_,?_,HK4.out⟩
          · rw [e1]; rfl
          · rw [HGB.out,if_neg (by omega)]; exact Bts.nil _
      · have hne:((er:Int) != 0)=true:=by simp; omega
        have e1:V.gtE s=er:=by rw [HGE.out,if_neg h0]
        have HE1:=hide e1
        clear e1
        go_wp2_with fail
        go_ret2
        refine ⟨none,0,0,?_,?_,HK4.out⟩
        · rw [HE1.out]; rfl
        · rw [HGB.out,if_neg (by rw [HE1.out]; exact h0)]; exact Bts.nil _
  · have hkf:kn V.L s=false:=by simpa using hk
    rw [ixZ_no hkf] at hix
    have hE:V.gtE s=6:=by unfold Vt.gtE; rw [if_neg hk]
    have hB:V.gtB s=[]:=by unfold Vt.gtB; rw [if_neg (by omega)]
    have HE6:=hide hE
    have HB6:=hide hB
    have HIX:=hide hix
    clear hE hB hix hk hkf
    go_wp2_with fail
    refine HIX.out.mono ?_
    rintro e w2 ⟨rfl,k2⟩
    clear v0 v1 v2 v3 v4 b0 b1 b2 b3
    go_wp2_with fail
    go_ret2
    exact ⟨none,0,0,by rw [HE6.out]; rfl,by rw [HB6.out]; exact Bts.nil _,HK.out.trans' k2⟩
end Go.Proofs.YtnfcfdhlmeimhaaGreat
namespace Go.Proofs.YtnfcfdhlmeimhaaGreat
open Go.RowKit
set_option linter.unusedVariables false
set_option linter.unusedSimpArgs false
set_option maxRecDepth 20000
theorem nws_knew (w:World) {u0 u1 u2 u3 u4:Value} (o0:u0.oneCell'=true) (o1:u1.oneCell'=true) (o2:u2.oneCell'=true) (o3:u3.oneCell'=true) (o4:u4.oneCell'=true):Nws (w.alloc (.cells #[u0,u1,u2,u3,u4] 149)) ⟨w.heap.size,0,none⟩ 1 5 [u0,u1,u2,u3,u4]:=by
  have hr:=fun j=>cell_of_row (w.alloc (.cells #[u0,u1,u2,u3,u4] 149)) w.heap.size j #[u0,u1,u2,u3,u4] 149 (0,0) (heap_alloc_new w _)
  refine ⟨rfl,fun j x hx=>?_,fun x hx=>?_⟩
  · rw [add_none,Nat.zero_add,hr j]
    rw [← hx,← Array.getElem?_toList]
  · simp at hx
    rcases hx with rfl | rfl | rfl | rfl | rfl
    · exact o0
    · exact o1
    · exact o2
    · exact o3
    · exact o4
def RvPost (w:World) (F:Nat→Prop) (V':Vt) (f:Value→Value) (e:Ending) (w1:World):Prop:=∃ v,e=.returned (f v)∧RvAt w1 F V' v∧Kp No w w1
/-- So many cells are read. -/
structure RoIV (w:World) (D:Dk) (vc vl:Value) (s0 k:Nat) (A:Option Addr) (n c:Nat) (wr:World):Prop where
  bd:BxD wr s0 D vc vl
  bz:Bx5 wr (s0+1) (.int .i64 0) (.slice none 0 0) (.slice none 0 0) (.int .i64 0) (.slice none 0 0)
  bv:Bx5 wr (s0+2) (.int .i64 (D.size:Int)) vc vl (.int .i64 (D.syncs:Int)) (.slice A n c)
  own:OwnT wr w.heap.size 149 5 (.slice A n c) n (knC (opn D k))
  n:n=(opn D k).length
  kp:Kp No w wr
  sl:w.heap.size≤s0
section
variable {w wr w1 w3 w4:World} {D:Dk} {vc vl:Value} {s0 k t n c:Nat} {A:Option Addr}
theorem RoIV.no (h:RoIV w D vc vl s0 k A n c wr) (hk:Kp No wr w1):RoIV w D vc vl s0 k A n c w1 :=
  ⟨h.bd.no hk,h.bz.no hk,h.bv.no hk,h.own.no hk,h.n,h.kp.trans' hk,h.sl⟩
theorem RoIV.miss (h:RoIV w D vc vl s0 k A n c wr) (e:opn D (k+1)=opn D k):RoIV w D vc vl s0 (k+1) A n c wr :=
  ⟨h.bd,h.bz,h.bv,by rw [e]; exact h.own,by rw [e]; exact h.n,h.kp,h.sl⟩
/-- One more is appended. -/
theorem RoIV.app (h:RoIV w D vc vl s0 k A n c wr) (hk:Kp No wr w3) {A1:Option Addr} {n1 c1:Nat} (ha:AppT w3 w.heap.size 149 5 (.slice A n c) n (knC (opn D k)) 1 [.int .i64 (k:Int),.int .u32 (cO t:Int),.int .u16 (cS t:Int),.int .u16 (cL t:Int),.int .u32 (cG t:Int)] (.slice A1 n1 c1) w4) :
    Bx5 w4 (s0+2) (.int .i64 (D.size:Int)) vc vl (.int .i64 (D.syncs:Int)) (.slice A n c):=by
  have h1:=h.no hk
  exact h1.bv.keep ha.kp fun e=>h1.own.not_at h1.bv (by decide) e
theorem RoIV.hit (h:RoIV w D vc vl s0 k A n c wr) (e:opn D (k+1)=opn D k ++ [(k,t)]) (hk:Kp No wr w3) {A1:Option Addr} {n1 c1:Nat} (ha:AppT w3 w.heap.size 149 5 (.slice A n c) n (knC (opn D k)) 1 [.int .i64 (k:Int),.int .u32 (cO t:Int),.int .u16 (cS t:Int),.int .u16 (cL t:Int),.int .u32 (cG t:Int)] (.slice A1 n1 c1) w4) :
    RoIV w D vc vl s0 (k+1) A1 n1 c1 (w4.setCell ⟨s0+2,4,none⟩ (.slice A1 n1 c1)):=by
  have h1:=h.no hk
  have b4:=h.app hk ha
  have e1:n1=n+1:=by
    obtain ⟨A',c',e'⟩:=ha.own.form
    injection e'
  have K:=Kp.setCell (S:=fun q=>q=s0+2) (p:=⟨s0+2,4,none⟩) (w:=w4) rfl (.slice A1 n1 c1)
  refine ⟨?_,?_,b4.set4 _,?_,?_,?_,h.sl⟩
  · have:=(ha.kp.block s0 h1.bd.lt fun e=>h1.own.not_at h1.bd (by decide) e).trans h1.bd
    exact (K.block s0 (Array.getElem?_eq_some_iff.1 this).1 (by omega)).trans this
  · exact (h1.bz.keep ha.kp fun e=>h1.own.not_at h1.bz (by decide) e).keep K (by omega)
  · rw [e,knC_append]
    subst e1
    exact ha.own.keep K fun q hq hS=>by
      subst hS
      exact ha.own.not_at b4 (by decide) hq
  · rw [e,List.length_append,e1,← h.n]
    rfl
  · exact ((h1.kp).trans (ha.kp.mono fun q e=>.inr (h1.own.ge q e))).trans (K.mono fun q e=>.inr (by subst e; exact Nat.le_trans h.sl (by omega)))
end
set_option maxHeartbeats 4000000 in
theorem ropen12_any {w:World} {F:Nat→Prop} {D:Dk} {v:Value} (h:RfAt w F D v):Calls Tryz.prog 32 #[v] w (RvPost w F (Vt.opened D) id):=by
  obtain ⟨vc,vl,cs,ls,rfl,h⟩:=h
  obtain ⟨gc,cc,rfl,_⟩:=h.vc_
  obtain ⟨A,cl,rfl,_⟩:=h.vl_
  have hn1:=h.ok.n1
  have HH:=hide h
  have hI:RoIV w D (.slice (some ⟨gc,0,none⟩) D.cells.length cc) (.slice A D.loose.length cl) w.heap.size 0 none 0 0 (((w.alloc (.cells #[.int .i64 (D.size:Int),.slice (some ⟨gc,0,none⟩) D.cells.length cc,.slice A D.loose.length cl,.int .i64 (D.syncs:Int)] 39)).alloc (.cells #[.int .i64 0,.slice none 0 0,.slice none 0 0,.int .i64 0,.slice none 0 0] 42)).alloc (.cells #[.int .i64 (D.size:Int),.slice (some ⟨gc,0,none⟩) D.cells.length cc,.slice A D.loose.length cl,.int .i64 (D.syncs:Int),.slice none 0 0] 42)):=by
    have k1:=fun (w:World) (o:Obj)=>Kp.alloc No w o
    have e1:∀ (w:World) (o:Obj),(w.alloc o).heap.size=w.heap.size+1:=fun w o=>by simp
    refine ⟨((BxD.new w D _ _).no (k1 _ _)).no (k1 _ _),?_,?_,OwnT.nil _ _ _ _,rfl,((k1 w _).trans' (k1 _ _)).trans' (k1 _ _),Nat.le_refl _⟩
    · have:=(Bx5.new (w.alloc (.cells #[.int .i64 (D.size:Int),.slice (some ⟨gc,0,none⟩) D.cells.length cc,.slice A D.loose.length cl,.int .i64 (D.syncs:Int)] 39)) (.int .i64 0) (.slice none 0 0) (.slice none 0 0) (.int .i64 0) (.slice none 0 0)).no (k1 _ (.cells #[.int .i64 (D.size:Int),.slice (some ⟨gc,0,none⟩) D.cells.length cc,.slice A D.loose.length cl,.int .i64 (D.syncs:Int),.slice none 0 0] 42))
      rw [e1] at this
      exact this
    · have:=Bx5.new ((w.alloc (.cells #[.int .i64 (D.size:Int),.slice (some ⟨gc,0,none⟩) D.cells.length cc,.slice A D.loose.length cl,.int .i64 (D.syncs:Int)] 39)).alloc (.cells #[.int .i64 0,.slice none 0 0,.slice none 0 0,.int .i64 0,.slice none 0 0] 42)) (.int .i64 (D.size:Int)) (.slice (some ⟨gc,0,none⟩) D.cells.length cc) (.slice A D.loose.length cl) (.int .i64 (D.syncs:Int)) (.slice none 0 0)
      rw [e1,e1] at this
      exact this
  have HI:=hide hI
  clear h hI
  unfold rfV
  go_enter Tryz.func32,Tryz.ntmps32
  go_upto_region 2 with fail
  generalize (((w.alloc (.cells #[.int .i64 (D.size:Int),.slice (some ⟨gc,0,none⟩) D.cells.length cc,.slice A D.loose.length cl,.int .i64 (D.syncs:Int)] 39)).alloc (.cells #[.int .i64 0,.slice none 0 0,.slice none 0 0,.int .i64 0,.slice none 0 0] 42)).alloc (.cells #[.int .i64 (D.size:Int),.slice (some ⟨gc,0,none⟩) D.cells.length cc,.slice A D.loose.length cl,.int .i64 (D.syncs:Int),.slice none 0 0] 42))=w0 at HI ⊢
  have HSL:=hide HI.out.sl
  obtain ⟨s0,hs0⟩:∃ s0,s0=w.heap.size:=⟨_,rfl⟩
  rw [← hs0] at HI ⊢
  clear hs0
  go_wp2_with fail
  go_loopw [4] (fun iv wr=>∃ (k:Nat) (A2:Option Addr) (n2 c2:Nat),k≤D.cells.length∧iv=.int .i64 (k:Int)∧RoIV w D (.slice (some ⟨gc,0,none⟩) D.cells.length cc) (.slice A D.loose.length cl) s0 k A2 n2 c2 wr) (fun iv _=>D.cells.length - (intOf iv).toNat)
  case atStart=>exact ⟨0,none,0,0,Nat.zero_le _,rfl,HI.out⟩
  case round =>
    obtain ⟨k,A2,n2,c2,hk,rfl,hR⟩:=hrel
    have x0:=hR.bd.c0
    have x1:=hR.bd.c1
    have x2:=hR.bd.c2
    have x3:=hR.bd.c3
    have HR:=hide hR
    clear hR
    by_cases hlt:k < D.cells.length
    · have hlz:(k:Int) < D.cells.length:=by omega
      obtain ⟨bs,hbs⟩:∃ bs,bs=D.rd (k:Int):=⟨_,rfl⟩
      have hrd:=rread_any ⟨_,_,_,_,rfl,HH.out.no HR.out.kp⟩ (k:Int)
      rw [← hbs] at hrd
      have HBL:Hid (bs.length≤4096):=by show _≤_; rw [hbs]; exact Nat.le_trans (HH.out.ok.rd_le _) HH.out.ok.s1
      obtain ⟨t,ht⟩:∃ t,t=rdS bs:=⟨_,rfl⟩
      obtain ⟨er,her⟩:∃ er,er=rdE bs:=⟨_,rfl⟩
      have HTN:Hid (t < N96):=ht ▸ rdS_lt bs
      have HT:=hide ht
      have HE:=hide her
      have HBS:=hide hbs
      unfold rfV at hrd
      have HRD:=hide hrd
      clear ht her hbs hrd
      go_wp2_with fail
      refine HRD.out.mono ?_
      rintro e w2 ⟨A3,n3,c3,rfl,r3,b3,k3⟩
      have hl3:=HBL.out
      rw [← b3.len] at hl3
      go_wp2_with fail
      refine (rread12_any b3 r3 (by omega)).mono ?_
      rintro e w3 ⟨A4,n4,c4,rfl,b4,k4⟩
      rw [← HT.out,← HE.out]
      have HR3:=hide ((HR.out.no k3).no k4)
      clear x0 x1 x2 x3 b3 k3 b4 k4 r3 hl3 HRD
      have hR4:=HR3.out.no (Kp.alloc No w3 (.cells #[.int .u32 (cO t:Int),.int .u16 (cS t:Int),.int .u16 (cL t:Int),.int .u32 (cG t:Int)] 53))
      have hB4:=Bx4.new w3 (.int .u32 (cO t:Int)) (.int .u16 (cS t:Int)) (.int .u16 (cL t:Int)) (.int .u32 (cG t:Int))
      by_cases h0:er=0
      · subst h0
        go_upto_region 6 with fail
        generalize w3.alloc (.cells #[.int .u32 (cO t:Int),.int .u16 (cS t:Int),.int .u16 (cL t:Int),.int .u32 (cG t:Int)] 53)=w4 at hR4 hB4 ⊢
        generalize w3.heap.size=s3 at hB4 ⊢
        obtain ⟨v0,v1,v2,v3,v4⟩:=hR4.bv.cell
        obtain ⟨b0,b1,b2,b3⟩:=hB4.cell
        have hkr:KnR w4 F (.slice A2 n2 c2) (opn D k):=⟨by rw [← hR4.n]; exact ownT_base0 hR4.own,fun q hq hF=>by have:=hR4.own.ge q hq; have:=HH.out.bd q hF; omega⟩
        have hix:=rindex_any (x0:=.int .i64 (D.size:Int)) (x1:=.slice (some ⟨gc,0,none⟩) D.cells.length cc) (x2:=.slice A D.loose.length cl) (x3:=.int .i64 (D.syncs:Int)) hkr HTN.out (opn_ok D k).nm rfl rfl rfl rfl
        have HR4:=hide hR4
        have HB4:=hide hB4
        clear hkr hR4 hB4
        rcases hkk:kn (opn D k) t with _ | _
        · rw [ixZ_no hkk] at hix
          have hnext:opn D (k+1)=opn D k ++ [(k,t)]:=by
            rw [HT.out,HBS.out]
            exact opn_hit ⟨by rw [← HBS.out,← HE.out],by rw [← HBS.out,← HT.out]; exact hkk⟩
          have HNX:=hide hnext
          have HIX:=hide hix
          have hnb:n2≤1024:=by rw [HR4.out.n]; have:=(opn_ok D k).len; omega
          clear hnext hix hkk
          go_wp2_with fail
          refine HIX.out.mono ?_
          rintro e w5 ⟨rfl,k5⟩
          have HR5:=hide (HR4.out.no k5)
          obtain ⟨y0,y1,y2,y3,y4⟩:=HR5.out.bv.cell
          obtain ⟨z0,z1,z2,z3⟩:=(HB4.out.keep k5 fun f=>f).cell
          have hown:=HR5.out.own.no (Kp.alloc No w5 (.cells #[.int .i64 (k:Int),.int .u32 (cO t:Int),.int .u16 (cS t:Int),.int .u16 (cL t:Int),.int .u32 (cG t:Int)] 149))
          have hbase:w.heap.size≤(w5.alloc (.cells #[.int .i64 (k:Int),.int .u32 (cO t:Int),.int .u16 (cS t:Int),.int .u16 (cL t:Int),.int .u32 (cG t:Int)] 149)).heap.size:=by have:=HR5.out.kp.size; simp; omega
          clear v0 v1 v2 v3 v4 b0 b1 b2 b3 k5 HIX y0 y1 y2 y3
          go_wp2_with (first
            | (at_builtin
               refine wpList_appT ty_kn rfl (.tmp 34) (.tmp 38) _ rfl Tryz.underlying40 rfl hown _ _ rfl (nws_knew w5 rfl rfl rfl rfl rfl) (by omega) hbase ?_
               intro A6 n6 c6 w6 hn6 ha6
               have hb6:=HR5.out.app (Kp.alloc No w5 _) ha6
               have HN:=hide (HR5.out.hit HNX.out (Kp.alloc No w5 _) ha6)
               obtain ⟨_,_,_,_,q4⟩:=hb6.cell
               have f4:=hb6.frozen 4
               clear ha6 hn6 hb6 hown hbase y4 z0 z1 z2 z3))
          go_round
          case rel=>exact ⟨k+1,A6,n6,c6,by omega,by go_num,HN.out⟩
          case measure=>simp [intOf]; omega
        · rw [ixZ_yes hkk] at hix
          have hnext:opn D (k+1)=opn D k:=opn_miss (by rw [← HBS.out,← HT.out,hkk]; simp)
          generalize ixl (opn D k) t=ix at hix
          have hixz:¬ (ix:Int) < 0:=by omega
          have HNX:=hide hnext
          have HIX:=hide hix
          clear hnext hix hkk
          go_wp2_with fail
          refine HIX.out.mono ?_
          rintro e w5 ⟨rfl,k5⟩
          have HN:=hide ((HR4.out.no k5).miss HNX.out)
          clear v0 v1 v2 v3 v4 b0 b1 b2 b3 k5 HIX
          go_wp2_with fail
          go_round
          case rel=>exact ⟨k+1,A2,n2,c2,by omega,by go_num,HN.out⟩
          case measure=>simp [intOf]; omega
      · have hne:((er:Int) == 0)=false:=by simp; omega
        have hnext:opn D (k+1)=opn D k:=opn_miss (by rw [← HBS.out,← HE.out]; simp [h0])
        have HN:=hide (hR4.miss hnext)
        clear hnext h0 hB4 hR4
        go_wp2_with fail
        go_round
        case rel=>exact ⟨k+1,A2,n2,c2,by omega,by go_num,HN.out⟩
        case measure=>simp [intOf]; omega
    · obtain rfl:k=D.cells.length:=by omega
      have hlz:¬ (D.cells.length:Int) < D.cells.length:=by omega
      obtain ⟨v0,v1,v2,v3,v4⟩:=HR.out.bv.cell
      obtain ⟨b0,b1,b2,b3,b4⟩:=HR.out.bz.cell
      have f0:=HR.out.bz.frozen 0
      have f1:=HR.out.bz.frozen 1
      have f2:=HR.out.bz.frozen 2
      have f3:=HR.out.bz.frozen 3
      have f4:=HR.out.bz.frozen 4
      have hall:=HR.out.bz.all (.int .i64 (D.size:Int)) (.slice (some ⟨gc,0,none⟩) D.cells.length cc) (.slice A D.loose.length cl) (.int .i64 (D.syncs:Int)) (.slice A2 n2 c2)
      obtain ⟨r0,r1,r2,r3,r4⟩:=hall.cell
      have K:=kp5 (S:=fun q=>q=s0+1) wr (s0+1) (.int .i64 (D.size:Int)) (.slice (some ⟨gc,0,none⟩) D.cells.length cc) (.slice A D.loose.length cl) (.int .i64 (D.syncs:Int)) (.slice A2 n2 c2) rfl
      have Kw:Kp No w (((((wr.setCell ⟨s0+1,0,none⟩ (.int .i64 (D.size:Int))).setCell ⟨s0+1,1,none⟩ (.slice (some ⟨gc,0,none⟩) D.cells.length cc)).setCell ⟨s0+1,2,none⟩ (.slice A D.loose.length cl)).setCell ⟨s0+1,3,none⟩ (.int .i64 (D.syncs:Int))).setCell ⟨s0+1,4,none⟩ (.slice A2 n2 c2)):=HR.out.kp.trans (K.mono fun q e=>.inr (by subst e; exact Nat.le_trans HR.out.sl (Nat.le_succ _)))
      have hown:=HR.out.own.keep K fun q hq hS=>by
        subst hS
        exact HR.out.own.not_at HR.out.bz (by decide) hq
      have HF:Hid (RvAt (((((wr.setCell ⟨s0+1,0,none⟩ (.int .i64 (D.size:Int))).setCell ⟨s0+1,1,none⟩ (.slice (some ⟨gc,0,none⟩) D.cells.length cc)).setCell ⟨s0+1,2,none⟩ (.slice A D.loose.length cl)).setCell ⟨s0+1,3,none⟩ (.int .i64 (D.syncs:Int))).setCell ⟨s0+1,4,none⟩ (.slice A2 n2 c2)) F (Vt.opened D) (rvV D (.slice (some ⟨gc,0,none⟩) D.cells.length cc) (.slice A D.loose.length cl) (.slice A2 n2 c2))) :=
        ⟨_,_,_,cs,ls,rfl,⟨HH.out.no Kw,⟨by have e:=HR.out.n; rw [e] at hown; rw [e]; exact ownT_base0 hown,fun q hq hF=>by have:=HR.out.own.ge q hq; have:=HH.out.bd q hF; omega⟩,Vt.opened_ok HH.out.ok⟩⟩
      have HKW:=hide Kw
      clear hall K Kw hown HR x0 x2 x3 HI
      go_wp2_with fail
      refine bodyPost_ret (v:=rvV D (.slice (some ⟨gc,0,none⟩) D.cells.length cc) (.slice A D.loose.length cl) (.slice A2 n2 c2)) (by simp [results,Tryz.results32,go_sem,rvV,r0,r1,r2,r3,r4]) rfl ?_
      exact ⟨_,rfl,HF.out,HKW.out⟩
end Go.Proofs.YtnfcfdhlmeimhaaGreat
