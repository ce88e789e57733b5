/- Package slices' insertion sort of names, as a contract over memory. -/
import Derived.Test.YtnfcfdhlmeimhaaGreatSpbq
namespace Go.Proofs.YtnfcfdhlmeimhaaGreat
open Go.RowKit
set_option linter.unusedVariables false
set_option linter.unusedSimpArgs false
set_option maxRecDepth 20000
/-- So many names are in order. -/
structure InN (w:World) (base g n c:Nat) (ns:List Nat) (i:Nat) (wr:World):Prop where
 own:OwnT wr base 53 4 (.slice (some ⟨g,0,none⟩) n c) ns.length (nmC (srt ns i ++ ns.drop i))
 kp:Kp (fun q=>q=g) w wr
/-- One name is on its way down. -/
structure InD (w:World) (base g n c:Nat) (ns:List Nat) (i x j:Nat) (wr:World):Prop where
 own:OwnT wr base 53 4 (.slice (some ⟨g,0,none⟩) n c) ns.length (nmC (mid ns i x j))
 dw:dwn x (srt ns i) i=dwn x (srt ns i) j
 kp:Kp (fun q=>q=g) w wr
theorem InD.no {w wr w1:World} {base g n c i x j:Nat} {ns:List Nat} (h:InD w base g n c ns i x j wr) (hk:Kp No wr w1):InD w base g n c ns i x j w1:=⟨h.own.no hk,h.dw,h.kp.trans' (hk.of_no _)⟩
theorem InD.row {w wr:World} {base g n c i x j:Nat} {ns:List Nat} (h:InD w base g n c ns i x j wr) (hi:i < ns.length) (hj:j≤i):OwnT wr base 53 4 (.slice (some ⟨g,0,none⟩) n c) (mid ns i x j).length (nmC (mid ns i x j)):=by
 rw [mid_len hi hj]
 exact h.own
theorem InD.done {w wr:World} {base g n c i x j:Nat} {ns:List Nat} (h:InD w base g n c ns i x j wr) (hx:ns[i]?=some x) (hd:dwn x (srt ns i) j=j):InN w base g n c ns (i+1) wr :=
 ⟨by rw [← mid_end hx (h.dw.trans hd)]; exact h.own,h.kp⟩
def IsPost (w:World) (base g n c:Nat) (ns:List Nat) (e:Ending) (w1:World):Prop :=
 e=.returned (.tuple #[])∧OwnT w1 base 53 4 (.slice (some ⟨g,0,none⟩) n c) ns.length (nmC (srt ns ns.length))∧Kp (fun q=>q=g) w w1
theorem srt_one:∀ {ns:List Nat},0 < ns.length→srt ns 1 ++ ns.drop 1=ns
 | [],h=>by simp at h
 | a :: l,_=>rfl
abbrev cmpV:Value:=.func (.func 54) #[] #[]
set_option maxHeartbeats 4000000 in
theorem insortn_any {w:World} {base g c n:Nat} {ns:List Nat} (h:OwnT w base 53 4 (.slice (some ⟨g,0,none⟩) n c) ns.length (nmC ns)) (h0:0 < n) (h12:n≤1000) :
  Calls Tryz.prog 122 #[.slice (some ⟨g,0,none⟩) n c,.int .i64 0,.int .i64 (n:Int),cmpV] w (IsPost w base g n c ns):=by
 have hn:=h.len
 have HN:=hide hn
 have hI0:InN w base g n c ns 1 w:=by
  refine ⟨?_,Kp.refl _ _⟩
  have e:=srt_one (ns:=ns) (by omega)
  rw [e]
  exact h
 have HI0:=hide hI0
 clear h hI0 hn
 unfold cmpV
 go_enter Tryz.func122,Tryz.ntmps122
 go_wp2_with fail
 go_loopw [8] (fun iv wr=>∃ i:Nat,1≤i∧i≤n∧iv=.int .i64 (i:Int)∧InN w base g n c ns i wr) (fun iv _=>n - (intOf iv).toNat)
 case atStart=>exact ⟨1,by omega,by omega,by go_num,HI0.out⟩
 case round =>
  obtain ⟨i,hi1,hin,rfl,hR⟩:=hrel
  by_cases hlt:i < n
  ·have hlz:(i:Int) < n:=by omega
   obtain ⟨x,hx⟩:∃ x,ns[i]?=some x:=⟨_,List.getElem?_eq_getElem (by have:=HN.out; omega)⟩
   have hJ:InD w base g n c ns i x i wr:=⟨by rw [mid_start hx]; exact hR.own,rfl,hR.kp⟩
   have HX:=hide hx
   have HJ:=hide hJ
   have HIL:Hid (i < ns.length):=by show _ < _; have:=HN.out; omega
   clear hR hx hJ
   rename World=>wo
   go_wp2_with fail
   go_loopw [9] (fun jv wr=>∃ j:Nat,j≤i∧jv=.int .i64 (j:Int)∧InD w base g n c ns i x j wr) (fun jv _=>(intOf jv).toNat)
   case atStart=>exact ⟨i,Nat.le_refl _,rfl,HJ.out⟩
   case round =>
    obtain ⟨j,hji,rfl,hD⟩:=hrel
    have HD:=hide hD
    clear hD
    by_cases hj0':j=0
    ·have hjz:¬ (0:Int) < (j:Int):=by omega
     have hjzN:¬ 0 < j:=by omega
     have hjzE:decide (0 < j)=false:=by simp; omega
     have HEND:Hid (∀ w',Kp No wr w'→InN w base g n c ns (i+1) w'):=fun w' hk=>(HD.out.no hk).done HX.out (by rw [hj0']; rfl)
     clear hj0'
     go_wp2_with fail
     refine wp_region_noPanic ?_
     refine wp_region_held_drew (S:=fun w'=>Kp No wr w') (by kernel_rfl) ((Kp.refl No wr).drew) (fun hHeld=>?_)
     refine wpAnyH_take (i:=0) (v:=?vcx1) (oi:=?ocx1) ?hcx1 (by kernel_rfl) (by kernel_rfl) (by kernel_rfl) (fun _ _ _ h=>h) (Or.inl ⟨?wcx1,?ycx1⟩) hHeld ?rcx1
     case hcx1=>simp only [gA0,gA1,gA2]; rfl
     case wcx1=>rfl
     case ycx1=>intro w hSw; (try dsimp only at hSw); go_simp; (try with_reducible rfl)
     simp only [Act.put,sA0,sA1,sA2]
     refine wpAnyH_take (i:=1) (v:=?vcx2) (oi:=?ocx2) ?hcx2 (by kernel_rfl) (by kernel_rfl) (by kernel_rfl) (fun _ _ _ h=>h) (Or.inl ⟨?wcx2,?ycx2⟩) hHeld ?rcx2
     case hcx2=>simp only [gA0,gA1,gA2]; rfl
     case wcx2=>rfl
     case ycx2=>intro w hSw; (try dsimp only at hSw); go_simp; (try with_reducible rfl)
     simp only [Act.put,sA0,sA1,sA2]
     refine wpAnyH_take (i:=2) (v:=?vcx3) (oi:=?ocx3) ?hcx3 (by kernel_rfl) (by kernel_rfl) (by kernel_rfl) (fun _ _ _ h=>h) (Or.inl ⟨?wcx3,?ycx3⟩) hHeld ?rcx3
     case hcx3=>simp only [gA0,gA1,gA2]; rfl
     case wcx3=>rfl
     case ycx3=>intro w hSw; (try dsimp only at hSw); go_simp; (try with_reducible rfl)
     simp only [Act.put,sA0,sA1,sA2]
     refine wpAnyH_take (i:=3) (v:=?vcx4) (oi:=?ocx4) ?hcx4 (by kernel_rfl) (by kernel_rfl) (by kernel_rfl) (fun _ _ _ h=>h) (Or.inl ⟨?wcx4,?ycx4⟩) hHeld ?rcx4
     case hcx4=>simp only [gA0,gA1,gA2]; rfl
     case wcx4=>rfl
     case ycx4=>intro w hSw; (try dsimp only at hSw); go_simp; (try with_reducible rfl)
     simp only [Act.put,sA0,sA1,sA2]
     refine wpAnyH_take (i:=4) (v:=undef) (oi:=?ocx5) ?hcx5 (by kernel_rfl) (by kernel_rfl) (by kernel_rfl) (fun _ _ _ h=>h) (Or.inr ⟨?wcx5,rfl⟩) hHeld ?rcx5
     case hcx5=>simp only [gA0,gA1,gA2]; rfl
     case wcx5=>rfl
     simp only [Act.put,sA0,sA1,sA2]
     refine wpAnyH_take (i:=5) (v:=undef) (oi:=?ocx6) ?hcx6 (by kernel_rfl) (by kernel_rfl) (by kernel_rfl) (fun _ _ _ h=>h) (Or.inr ⟨?wcx6,rfl⟩) hHeld ?rcx6
     case hcx6=>simp only [gA0,gA1,gA2]; rfl
     case wcx6=>rfl
     simp only [Act.put,sA0,sA1,sA2]
     refine wpAnyH_take (i:=6) (v:=undef) (oi:=?ocx7) ?hcx7 (by kernel_rfl) (by kernel_rfl) (by kernel_rfl) (fun _ _ _ h=>h) (Or.inr ⟨?wcx7,rfl⟩) hHeld ?rcx7
     case hcx7=>simp only [gA0,gA1,gA2]; rfl
     case wcx7=>rfl
     simp only [Act.put,sA0,sA1,sA2]
     refine wpAnyH_take (i:=7) (v:=undef) (oi:=?ocx8) ?hcx8 (by kernel_rfl) (by kernel_rfl) (by kernel_rfl) (fun _ _ _ h=>h) (Or.inr ⟨?wcx8,rfl⟩) hHeld ?rcx8
     case hcx8=>simp only [gA0,gA1,gA2]; rfl
     case wcx8=>rfl
     simp only [Act.put,sA0,sA1,sA2]
     refine wpAnyH_take (i:=8) (v:=undef) (oi:=?ocx9) ?hcx9 (by kernel_rfl) (by kernel_rfl) (by kernel_rfl) (fun _ _ _ h=>h) (Or.inr ⟨?wcx9,rfl⟩) hHeld ?rcx9
     case hcx9=>simp only [gA0,gA1,gA2]; rfl
     case wcx9=>rfl
     simp only [Act.put,sA0,sA1,sA2]
     refine wpAnyH_take (i:=9) (v:=undef) (oi:=?ocx10) ?hcx10 (by kernel_rfl) (by kernel_rfl) (by kernel_rfl) (fun _ _ _ h=>h) (Or.inr ⟨?wcx10,rfl⟩) hHeld ?rcx10
     case hcx10=>simp only [gA0,gA1,gA2]; rfl
     case wcx10=>rfl
     simp only [Act.put,sA0,sA1,sA2]
     refine wpAnyH_take (i:=10) (v:=undef) (oi:=?ocx11) ?hcx11 (by kernel_rfl) (by kernel_rfl) (by kernel_rfl) (fun _ _ _ h=>h) (Or.inr ⟨?wcx11,rfl⟩) hHeld ?rcx11
     case hcx11=>simp only [gA0,gA1,gA2]; rfl
     case wcx11=>rfl
     simp only [Act.put,sA0,sA1,sA2]
     refine wpAnyH_take (i:=11) (v:=undef) (oi:=?ocx12) ?hcx12 (by kernel_rfl) (by kernel_rfl) (by kernel_rfl) (fun _ _ _ h=>h) (Or.inr ⟨?wcx12,rfl⟩) hHeld ?rcx12
     case hcx12=>simp only [gA0,gA1,gA2]; rfl
     case wcx12=>rfl
     simp only [Act.put,sA0,sA1,sA2]
     refine wpAnyH_take (i:=12) (v:=undef) (oi:=?ocx13) ?hcx13 (by kernel_rfl) (by kernel_rfl) (by kernel_rfl) (fun _ _ _ h=>h) (Or.inr ⟨?wcx13,rfl⟩) hHeld ?rcx13
     case hcx13=>simp only [gA0,gA1,gA2]; rfl
     case wcx13=>rfl
     simp only [Act.put,sA0,sA1,sA2]
     refine wpAnyH_take (i:=13) (v:=undef) (oi:=?ocx14) ?hcx14 (by kernel_rfl) (by kernel_rfl) (by kernel_rfl) (fun _ _ _ h=>h) (Or.inr ⟨?wcx14,rfl⟩) hHeld ?rcx14
     case hcx14=>simp only [gA0,gA1,gA2]; rfl
     case wcx14=>rfl
     simp only [Act.put,sA0,sA1,sA2]
     refine wpAnyH_take (i:=14) (v:=undef) (oi:=?ocx15) ?hcx15 (by kernel_rfl) (by kernel_rfl) (by kernel_rfl) (fun _ _ _ h=>h) (Or.inr ⟨?wcx15,rfl⟩) hHeld ?rcx15
     case hcx15=>simp only [gA0,gA1,gA2]; rfl
     case wcx15=>rfl
     simp only [Act.put,sA0,sA1,sA2]
     refine wpAnyH_take (i:=15) (v:=undef) (oi:=?ocx16) ?hcx16 (by kernel_rfl) (by kernel_rfl) (by kernel_rfl) (fun _ _ _ h=>h) (Or.inr ⟨?wcx16,rfl⟩) hHeld ?rcx16
     case hcx16=>simp only [gA0,gA1,gA2]; rfl
     case wcx16=>rfl
     simp only [Act.put,sA0,sA1,sA2]
     refine wpAnyH_take (i:=16) (v:=?vcx17) (oi:=?ocx17) ?hcx17 (by kernel_rfl) (by kernel_rfl) (by kernel_rfl) (fun _ _ _ h=>h) (Or.inl ⟨?wcx17,?ycx17⟩) hHeld ?rcx17
     case hcx17=>simp only [gA0,gA1,gA2]; rfl
     case wcx17=>rfl
     case ycx17=>intro w hSw; (try dsimp only at hSw); go_simp; (try with_reducible rfl)
     simp only [Act.put,sA0,sA1,sA2]
     refine wpAnyH_done (by kernel_rfl) ?_ _
     refine NoPanic.normal ?_
     have HK3:=hide hHeld
     clear hHeld
     go_wp2_with fail
     go_round
     case rel=>exact ⟨i+1,by omega,by omega,by go_num,HEND.out _ HK3.out⟩
     case measure=>simp [intOf]; omega
    ·obtain ⟨jp,hjp⟩:∃ jp,j=jp+1:=⟨j - 1,by omega⟩
     have hjz:(0:Int) < (j:Int):=by omega
     have hjzN:0 < j:=by omega
     have zj:(j:Int) - 1=(jp:Int):=by omega
     have zw:IntKind.i64.wrap ((j:Int) - 1)=(jp:Int):=by rw [IntKind.wrap_i64]; omega
     have zw2:IntKind.i64.wrap (jp:Int)=(jp:Int):=by rw [IntKind.wrap_i64]; omega
     have hjn:(j:Int) < n:=by omega
     have hjpn:(jp:Int) < n:=by omega
     obtain ⟨y,hy⟩:∃ y,(srt ns i)[jp]?=some y:=⟨_,List.getElem?_eq_getElem (by rw [srt_len]; omega)⟩
     have hyd:(srt ns i).getD jp 0=y:=by rw [List.getD_eq_getElem?_getD,hy]; rfl
     have hrow:=HD.out.row HIL.out hji
     have hbel:(mid ns i x j)[jp]?=some y:=by rw [hjp]; exact mid_below (by omega) hy
     have hdx:dwn x (srt ns i) j=if x < y then dwn x (srt ns i) jp else j:=by
      rw [hjp,show dwn x (srt ns i) (jp+1)=if x < (srt ns i).getD jp 0 then dwn x (srt ns i) jp else jp+1 from rfl,hyd]
     have hS:∀ w',Kp No wr w'→Kp No wr w'∧w'.cell? ⟨g,j * 4,none⟩=some (.int .u32 (cO x:Int))∧w'.cell? ⟨g,j * 4+1,none⟩=some (.int .u16 (cS x:Int))∧w'.cell? ⟨g,j * 4+2,none⟩=some (.int .u16 (cL x:Int))∧w'.cell? ⟨g,j * 4+3,none⟩=some (.int .u32 (cG x:Int))∧w'.cell? ⟨g,jp * 4,none⟩=some (.int .u32 (cO y:Int))∧w'.cell? ⟨g,jp * 4+1,none⟩=some (.int .u16 (cS y:Int))∧w'.cell? ⟨g,jp * 4+2,none⟩=some (.int .u16 (cL y:Int))∧w'.cell? ⟨g,jp * 4+3,none⟩=some (.int .u32 (cG y:Int)):=fun w' hk=>by
      obtain ⟨_,_,_,p0,p1,p2,p3⟩:=nm_cell (hrow.no hk) (mid_at HIL.out hji)
      obtain ⟨g',e',_,q0,q1,q2,q3⟩:=nm_cell (hrow.no hk) hbel
      injection e' with e'
      injection e' with e'
      subst e'
      obtain ⟨g'',e'',_,p0,p1,p2,p3⟩:=nm_cell (hrow.no hk) (mid_at HIL.out hji)
      injection e'' with e''
      injection e'' with e''
      subst e''
      exact ⟨hk,p0,p1,p2,p3,q0,q1,q2,q3⟩
     have hcmp:=fun w'=>compare_any w' x y
     by_cases hxy:x < y
     ·have hz:cmpN x y=-1:=cmpN_lt hxy
      rw [hz] at hcmp
      have HCMP:=hide hcmp
      have HRW:=hide hrow
      have HBEL:=hide hbel
      have HNXT:Hid (∀ w' wf,Kp No wr w'→wf=set4 (set4 w' g (j * 4) y) g (jp * 4) x→InD w base g n c ns i x jp wf):=fun w' wf hk e=>by
       subst e
       have hd:=HD.out.no hk
       have o1:=(hd.row HIL.out hji).set4 (s:=y) (show j < (mid ns i x j).length by rw [mid_len HIL.out hji]; have:=HIL.out; omega)
       have o2:=o1.set4 (j:=jp) (s:=x) (by rw [List.length_set,mid_len HIL.out hji]; have:=HIL.out; omega)
       have e2:((mid ns i x j).set j y).set jp x=mid ns i x jp:=by rw [hjp]; exact mid_swap (by omega) hy
       rw [e2,mid_len HIL.out (by omega)] at o2
       exact ⟨o2,hd.dw.trans (by rw [hdx,if_pos hxy]),(hd.kp.trans' (kp_set4n _ _ _ _)).trans' (kp_set4n _ _ _ _)⟩
      unfold shV at HCMP
      have HJP:=hide hjp
      have hjplt:jp < j:=by omega
      clear hcmp hz hxy hdx hyd hy hrow hbel hjp
      go_wp2_with fail
      refine wp_region_noPanic ?_
      refine wp_region_held_drew (S:=fun w'=>Kp No wr w'∧w'.cell? ⟨g,j * 4,none⟩=some (.int .u32 (cO x:Int))∧w'.cell? ⟨g,j * 4+1,none⟩=some (.int .u16 (cS x:Int))∧w'.cell? ⟨g,j * 4+2,none⟩=some (.int .u16 (cL x:Int))∧w'.cell? ⟨g,j * 4+3,none⟩=some (.int .u32 (cG x:Int))∧w'.cell? ⟨g,jp * 4,none⟩=some (.int .u32 (cO y:Int))∧w'.cell? ⟨g,jp * 4+1,none⟩=some (.int .u16 (cS y:Int))∧w'.cell? ⟨g,jp * 4+2,none⟩=some (.int .u16 (cL y:Int))∧w'.cell? ⟨g,jp * 4+3,none⟩=some (.int .u32 (cG y:Int))) (by kernel_rfl) (hS _ (Kp.refl No wr).drew) (fun hHeld=>?_)
      refine wpAnyH_take (i:=0) (v:=?vax1) (oi:=?oax1) ?hax1 (by kernel_rfl) (by kernel_rfl) (by kernel_rfl) (fun _ _ _ h=>h) (Or.inl ⟨?wax1,?yax1⟩) hHeld ?rax1
      case hax1=>simp only [gA0,gA1,gA2]; rfl
      case wax1=>rfl
      case yax1=>intro w hSw; (try dsimp only at hSw); go_simp; (try with_reducible rfl)
      simp only [Act.put,sA0,sA1,sA2]
      refine wpAnyH_take (i:=1) (v:=?vax2) (oi:=?oax2) ?hax2 (by kernel_rfl) (by kernel_rfl) (by kernel_rfl) (fun _ _ _ h=>h) (Or.inl ⟨?wax2,?yax2⟩) hHeld ?rax2
      case hax2=>simp only [gA0,gA1,gA2]; rfl
      case wax2=>rfl
      case yax2=>intro w hSw; (try dsimp only at hSw); go_simp; (try with_reducible rfl)
      simp only [Act.put,sA0,sA1,sA2]
      refine wpAnyH_take (i:=2) (v:=?vax3) (oi:=?oax3) ?hax3 (by kernel_rfl) (by kernel_rfl) (by kernel_rfl) (fun _ _ _ h=>h) (Or.inl ⟨?wax3,?yax3⟩) hHeld ?rax3
      case hax3=>simp only [gA0,gA1,gA2]; rfl
      case wax3=>rfl
      case yax3=>intro w hSw; (try dsimp only at hSw); go_simp; (try with_reducible rfl)
      simp only [Act.put,sA0,sA1,sA2]
      refine wpAnyH_take (i:=3) (v:=?vax4) (oi:=?oax4) ?hax4 (by kernel_rfl) (by kernel_rfl) (by kernel_rfl) (fun _ _ _ h=>h) (Or.inl ⟨?wax4,?yax4⟩) hHeld ?rax4
      case hax4=>simp only [gA0,gA1,gA2]; rfl
      case wax4=>rfl
      case yax4=>intro w hSw; (try dsimp only at hSw); go_simp; (try with_reducible rfl)
      simp only [Act.put,sA0,sA1,sA2]
      refine wpAnyH_take (i:=4) (v:=?vax5) (oi:=?oax5) ?hax5 (by kernel_rfl) (by kernel_rfl) (by kernel_rfl) (fun _ _ _ h=>h) (Or.inl ⟨?wax5,?yax5⟩) hHeld ?rax5
      case hax5=>simp only [gA0,gA1,gA2]; rfl
      case wax5=>rfl
      case yax5=>intro w hSw; (try dsimp only at hSw); go_simp; (try with_reducible rfl)
      simp only [Act.put,sA0,sA1,sA2]
      refine wpAnyH_take (i:=5) (v:=?vax6) (oi:=?oax6) ?hax6 (by kernel_rfl) (by kernel_rfl) (by kernel_rfl) (fun _ _ _ h=>h) (Or.inl ⟨?wax6,?yax6⟩) hHeld ?rax6
      case hax6=>simp only [gA0,gA1,gA2]; rfl
      case wax6=>rfl
      case yax6=>intro w hSw; (try dsimp only at hSw); go_simp; (try with_reducible rfl)
      simp only [Act.put,sA0,sA1,sA2]
      refine wpAnyH_take (i:=6) (v:=?vax7) (oi:=?oax7) ?hax7 (by kernel_rfl) (by kernel_rfl) (by kernel_rfl) (fun _ _ _ h=>h) (Or.inl ⟨?wax7,?yax7⟩) hHeld ?rax7
      case hax7=>simp only [gA0,gA1,gA2]; rfl
      case wax7=>rfl
      case yax7=>intro w hSw; (try dsimp only at hSw); go_simp; (try with_reducible rfl)
      simp only [Act.put,sA0,sA1,sA2]
      refine wpAnyH_take (i:=7) (v:=?vax8) (oi:=?oax8) ?hax8 (by kernel_rfl) (by kernel_rfl) (by kernel_rfl) (fun _ _ _ h=>h) (Or.inl ⟨?wax8,?yax8⟩) hHeld ?rax8
      case hax8=>simp only [gA0,gA1,gA2]; rfl
      case wax8=>rfl
      case yax8=>intro w hSw; (try dsimp only at hSw); go_simp; (try with_reducible rfl)
      simp only [Act.put,sA0,sA1,sA2]
      refine wpAnyH_take (i:=8) (v:=?vax9) (oi:=?oax9) ?hax9 (by kernel_rfl) (by kernel_rfl) (by kernel_rfl) (fun _ _ _ h=>h) (Or.inl ⟨?wax9,?yax9⟩) hHeld ?rax9
      case hax9=>simp only [gA0,gA1,gA2]; rfl
      case wax9=>rfl
      case yax9=>intro w hSw; (try dsimp only at hSw); go_simp; (try with_reducible rfl)
      simp only [Act.put,sA0,sA1,sA2]
      refine wpAnyH_take (i:=9) (v:=?vax10) (oi:=?oax10) ?hax10 (by kernel_rfl) (by kernel_rfl) (by kernel_rfl) (fun _ _ _ h=>h) (Or.inl ⟨?wax10,?yax10⟩) hHeld ?rax10
      case hax10=>simp only [gA0,gA1,gA2]; rfl
      case wax10=>rfl
      case yax10=>intro w hSw; (try dsimp only at hSw); go_simp; (try with_reducible rfl)
      simp only [Act.put,sA0,sA1,sA2]
      refine wpAnyH_take (i:=10) (v:=?vax11) (oi:=?oax11) ?hax11 (by kernel_rfl) (by kernel_rfl) (by kernel_rfl) (fun _ _ _ h=>h) (Or.inl ⟨?wax11,?yax11⟩) hHeld ?rax11
      case hax11=>simp only [gA0,gA1,gA2]; rfl
      case wax11=>rfl
      case yax11=>intro w hSw; (try dsimp only at hSw); go_simp; (try with_reducible rfl)
      simp only [Act.put,sA0,sA1,sA2]
      refine wpAnyH_take (i:=11) (v:=?vax12) (oi:=?oax12) ?hax12 (by kernel_rfl) (by kernel_rfl) (by kernel_rfl) (fun _ _ _ h=>h) (Or.inl ⟨?wax12,?yax12⟩) hHeld ?rax12
      case hax12=>simp only [gA0,gA1,gA2]; rfl
      case wax12=>rfl
      case yax12=>intro w hSw; (try dsimp only at hSw); go_simp; (try with_reducible rfl)
      simp only [Act.put,sA0,sA1,sA2]
      refine wpAnyH_take (i:=12) (v:=?vax13) (oi:=?oax13) ?hax13 (by kernel_rfl) (by kernel_rfl) (by kernel_rfl) (fun _ _ _ h=>h) (Or.inl ⟨?wax13,?yax13⟩) hHeld ?rax13
      case hax13=>simp only [gA0,gA1,gA2]; rfl
      case wax13=>rfl
      case yax13=>intro w hSw; (try dsimp only at hSw); go_simp; (try with_reducible rfl)
      simp only [Act.put,sA0,sA1,sA2]
      refine wpAnyH_take (i:=13) (v:=?vax14) (oi:=?oax14) ?hax14 (by kernel_rfl) (by kernel_rfl) (by kernel_rfl) (fun _ _ _ h=>h) (Or.inl ⟨?wax14,?yax14⟩) hHeld ?rax14
      case hax14=>simp only [gA0,gA1,gA2]; rfl
      case wax14=>rfl
      case yax14=>intro w hSw; (try dsimp only at hSw); go_simp; (try with_reducible rfl)
      simp only [Act.put,sA0,sA1,sA2]
      refine wpAnyH_ready (rs:=[14]) (by kernel_rfl) (by simp) ?_
      refine AllReadyH.cons (o:=?oax15) ?hax15 (fun K hK=>?sax15) AllReadyH.nil
      case hax15=>simp only [gA0,gA1,gA2]; rfl
      go_simp
      refine (HCMP.out _).mono ?_
      rintro e w3 ⟨rfl,k3⟩
      have h3:=hS _ (hHeld.1.trans' k3)
      go_wp2_with fail
      refine hK.out _ _ (h3) (fun hHeld=>?_)
      clear hK K
      try simp only [Act.put,sA0,sA1,sA2]
      refine wpAnyH_take (i:=15) (v:=?vax16) (oi:=?oax16) ?hax16 (by kernel_rfl) (by kernel_rfl) (by kernel_rfl) (fun _ _ _ h=>h) (Or.inl ⟨?wax16,?yax16⟩) hHeld ?rax16
      case hax16=>simp only [gA0,gA1,gA2]; rfl
      case wax16=>rfl
      case yax16=>intro w hSw; (try dsimp only at hSw); go_simp; (try with_reducible rfl)
      simp only [Act.put,sA0,sA1,sA2]
      refine wpAnyH_take (i:=16) (v:=?vax17) (oi:=?oax17) ?hax17 (by kernel_rfl) (by kernel_rfl) (by kernel_rfl) (fun _ _ _ h=>h) (Or.inl ⟨?wax17,?yax17⟩) hHeld ?rax17
      case hax17=>simp only [gA0,gA1,gA2]; rfl
      case wax17=>rfl
      case yax17=>intro w hSw; (try dsimp only at hSw); go_simp; (try with_reducible rfl)
      simp only [Act.put,sA0,sA1,sA2]
      refine wpAnyH_done (by kernel_rfl) ?_ _
      refine NoPanic.normal ?_
      have HK3:=hide hHeld.1
      clear hHeld h3 hS
      go_wp2_with fail
      have hd3:=HD.out.no HK3.out
      have hrow3:=hd3.row HIL.out hji
      obtain ⟨g',e',_,p0,p1,p2,p3⟩:=nm_cell (hrow3.no (Kp.refl No w3).drew) (mid_at HIL.out hji)
      injection e' with e'
      injection e' with e'
      subst e'
      obtain ⟨g',e',_,q0,q1,q2,q3⟩:=nm_cell (hrow3.no (Kp.refl No w3).drew) HBEL.out
      injection e' with e'
      injection e' with e'
      subst e'
      have HOW:=hide (hrow3.no (Kp.refl No w3).drew)
      have HO1:=hide ((hrow3.no (Kp.refl No w3).drew).set4 (s:=y) (show j < (mid ns i x j).length by rw [mid_len HIL.out hji]; have:=HIL.out; omega))
      have HY1:Hid (((mid ns i x j).set j y)[jp]?=some y):=by show _=_; rw [List.getElem?_set_ne (by omega)]; exact HBEL.out
      have HNX:=hide (HNXT.out w3.drew _ HK3.out.drew rfl)
      unfold set4 at HNX
      clear hd3 hrow3
      refine wp_region_noPanic ?_
      refine wp_region_held_drew (S:=fun _=>True) (by kernel_rfl) (trivial) (fun hHeld=>?_)
      generalize w3.drew=wd at p0 p1 p2 p3 q0 q1 q2 q3 HOW HO1 HNX ⊢
      refine wpAnyH_take (i:=0) (v:=?vdx1) (oi:=?odx1) ?hdx1 (by kernel_rfl) (by kernel_rfl) (by kernel_rfl) (fun _ _ _ h=>h) (Or.inl ⟨?wdx1,?ydx1⟩) hHeld ?rdx1
      case hdx1=>simp only [gA0,gA1,gA2]; rfl
      case wdx1=>rfl
      case ydx1=>intro w hSw; (try dsimp only at hSw); go_simp; (try with_reducible rfl)
      simp only [Act.put,sA0,sA1,sA2]
      refine wpAnyH_take (i:=1) (v:=?vdx2) (oi:=?odx2) ?hdx2 (by kernel_rfl) (by kernel_rfl) (by kernel_rfl) (fun _ _ _ h=>h) (Or.inl ⟨?wdx2,?ydx2⟩) hHeld ?rdx2
      case hdx2=>simp only [gA0,gA1,gA2]; rfl
      case wdx2=>rfl
      case ydx2=>intro w hSw; (try dsimp only at hSw); go_simp; (try with_reducible rfl)
      simp only [Act.put,sA0,sA1,sA2]
      refine wpAnyH_take (i:=2) (v:=?vdx3) (oi:=?odx3) ?hdx3 (by kernel_rfl) (by kernel_rfl) (by kernel_rfl) (fun _ _ _ h=>h) (Or.inl ⟨?wdx3,?ydx3⟩) hHeld ?rdx3
      case hdx3=>simp only [gA0,gA1,gA2]; rfl
      case wdx3=>rfl
      case ydx3=>intro w hSw; (try dsimp only at hSw); go_simp; (try with_reducible rfl)
      simp only [Act.put,sA0,sA1,sA2]
      refine wpAnyH_take (i:=3) (v:=?vdx4) (oi:=?odx4) ?hdx4 (by kernel_rfl) (by kernel_rfl) (by kernel_rfl) (fun _ _ _ h=>h) (Or.inl ⟨?wdx4,?ydx4⟩) hHeld ?rdx4
      case hdx4=>simp only [gA0,gA1,gA2]; rfl
      case wdx4=>rfl
      case ydx4=>intro w hSw; (try dsimp only at hSw); go_simp; (try with_reducible rfl)
      simp only [Act.put,sA0,sA1,sA2]
      refine wpAnyH_take (i:=4) (v:=?vdx5) (oi:=?odx5) ?hdx5 (by kernel_rfl) (by kernel_rfl) (by kernel_rfl) (fun _ _ _ h=>h) (Or.inl ⟨?wdx5,?ydx5⟩) hHeld ?rdx5
      case hdx5=>simp only [gA0,gA1,gA2]; rfl
      case wdx5=>rfl
      case ydx5=>intro w hSw; (try dsimp only at hSw); go_simp; (try with_reducible rfl)
      simp only [Act.put,sA0,sA1,sA2]
      refine wpAnyH_take (i:=5) (v:=?vdx6) (oi:=?odx6) ?hdx6 (by kernel_rfl) (by kernel_rfl) (by kernel_rfl) (fun _ _ _ h=>h) (Or.inl ⟨?wdx6,?ydx6⟩) hHeld ?rdx6
      case hdx6=>simp only [gA0,gA1,gA2]; rfl
      case wdx6=>rfl
      case ydx6=>intro w hSw; (try dsimp only at hSw); go_simp; (try with_reducible rfl)
      simp only [Act.put,sA0,sA1,sA2]
      refine wpAnyH_take (i:=6) (v:=?vdx7) (oi:=?odx7) ?hdx7 (by kernel_rfl) (by kernel_rfl) (by kernel_rfl) (fun _ _ _ h=>h) (Or.inl ⟨?wdx7,?ydx7⟩) hHeld ?rdx7
      case hdx7=>simp only [gA0,gA1,gA2]; rfl
      case wdx7=>rfl
      case ydx7=>intro w hSw; (try dsimp only at hSw); go_simp; (try with_reducible rfl)
      simp only [Act.put,sA0,sA1,sA2]
      refine wpAnyH_take (i:=7) (v:=?vdx8) (oi:=?odx8) ?hdx8 (by kernel_rfl) (by kernel_rfl) (by kernel_rfl) (fun _ _ _ h=>h) (Or.inl ⟨?wdx8,?ydx8⟩) hHeld ?rdx8
      case hdx8=>simp only [gA0,gA1,gA2]; rfl
      case wdx8=>rfl
      case ydx8=>intro w hSw; (try dsimp only at hSw); go_simp; (try with_reducible rfl)
      simp only [Act.put,sA0,sA1,sA2]
      refine wpAnyH_take (i:=8) (v:=?vdx9) (oi:=?odx9) ?hdx9 (by kernel_rfl) (by kernel_rfl) (by kernel_rfl) (fun _ _ _ h=>h) (Or.inl ⟨?wdx9,?ydx9⟩) hHeld ?rdx9
      case hdx9=>simp only [gA0,gA1,gA2]; rfl
      case wdx9=>rfl
      case ydx9=>intro w hSw; (try dsimp only at hSw); go_simp; (try with_reducible rfl)
      simp only [Act.put,sA0,sA1,sA2]
      refine wpAnyH_take (i:=10) (v:=?vdx10) (oi:=?odx10) ?hdx10 (by kernel_rfl) (by kernel_rfl) (by kernel_rfl) (fun _ _ _ h=>h) (Or.inl ⟨?wdx10,?ydx10⟩) hHeld ?rdx10
      case hdx10=>simp only [gA0,gA1,gA2]; rfl
      case wdx10=>rfl
      case ydx10=>intro w hSw; (try dsimp only at hSw); go_simp; (try with_reducible rfl)
      simp only [Act.put,sA0,sA1,sA2]
      refine wpAnyH_take (i:=11) (v:=?vdx11) (oi:=?odx11) ?hdx11 (by kernel_rfl) (by kernel_rfl) (by kernel_rfl) (fun _ _ _ h=>h) (Or.inl ⟨?wdx11,?ydx11⟩) hHeld ?rdx11
      case hdx11=>simp only [gA0,gA1,gA2]; rfl
      case wdx11=>rfl
      case ydx11=>intro w hSw; (try dsimp only at hSw); go_simp; (try with_reducible rfl)
      simp only [Act.put,sA0,sA1,sA2]
      refine wpAnyH_take (i:=12) (v:=?vdx12) (oi:=?odx12) ?hdx12 (by kernel_rfl) (by kernel_rfl) (by kernel_rfl) (fun _ _ _ h=>h) (Or.inl ⟨?wdx12,?ydx12⟩) hHeld ?rdx12
      case hdx12=>simp only [gA0,gA1,gA2]; rfl
      case wdx12=>rfl
      case ydx12=>intro w hSw; (try dsimp only at hSw); go_simp; (try with_reducible rfl)
      simp only [Act.put,sA0,sA1,sA2]
      refine wpAnyH_ready (rs:=[9,13]) (by kernel_rfl) (by simp) ?_
      refine (AllReadyH.cons (o:=?odx14) ?hdx14 (fun K hK=>?sdx14) (AllReadyH.cons (o:=?odx15) ?hdx15 (fun K hK=>?sdx15) AllReadyH.nil))
      case hdx14=>simp only [gA0,gA1,gA2]; rfl
      case hdx15=>simp only [gA0,gA1,gA2]; rfl
      case sdx14 =>
       have z0:=q0
       have z1:=q1
       have z2:=q2
       have z3:=q3
       go_simp
       refine hK.out _ _ (trivial) (fun hHeld=>?_)
       clear hK K
       try simp only [Act.put,sA0,sA1,sA2]
       refine wpAnyH_ready (rs:=[13]) (by kernel_rfl) (by simp) ?_
       refine AllReadyH.cons (o:=?odx16) ?hdx16 (fun K hK=>?sdx16) AllReadyH.nil
       case hdx16=>simp only [gA0,gA1,gA2]; rfl
       have z0:=p0
       have z1:=p1
       have z2:=p2
       have z3:=p3
       go_simp
       refine hK.out _ _ (trivial) (fun hHeld=>?_)
       clear hK K
       try simp only [Act.put,sA0,sA1,sA2]
       refine wpAnyH_take (i:=14) (v:=?vdx17) (oi:=?odx17) ?hdx17 (by kernel_rfl) (by kernel_rfl) (by kernel_rfl) (fun _ _ _ h=>h) (Or.inl ⟨?wdx17,?ydx17⟩) hHeld ?rdx17
       case hdx17=>simp only [gA0,gA1,gA2]; rfl
       case wdx17=>rfl
       case ydx17=>intro w hSw; (try dsimp only at hSw); go_simp; (try with_reducible rfl)
       simp only [Act.put,sA0,sA1,sA2]
       refine wpAnyH_ready (rs:=[15]) (by kernel_rfl) (by simp) ?_
       refine AllReadyH.cons (o:=?odx18) ?hdx18 (fun K hK=>?sdx18) AllReadyH.nil
       case hdx18=>simp only [gA0,gA1,gA2]; rfl
       have z0:=p0
       have z1:=p1
       have z2:=p2
       have z3:=p3
       have f0:=HOW.out.frozenE (j * 4)
       have f1:=HOW.out.frozenE (j * 4+1)
       have f2:=HOW.out.frozenE (j * 4+2)
       have f3:=HOW.out.frozenE (j * 4+3)
       go_simp
       refine hK.out _ _ (trivial) (fun hHeld=>?_)
       clear hK K
       try simp only [Act.put,sA0,sA1,sA2]
       refine wpAnyH_take (i:=16) (v:=?vdx19) (oi:=?odx19) ?hdx19 (by kernel_rfl) (by kernel_rfl) (by kernel_rfl) (fun _ _ _ h=>h) (Or.inl ⟨?wdx19,?ydx19⟩) hHeld ?rdx19
       case hdx19=>simp only [gA0,gA1,gA2]; rfl
       case wdx19=>rfl
       case ydx19=>intro w hSw; (try dsimp only at hSw); go_simp; (try with_reducible rfl)
       simp only [Act.put,sA0,sA1,sA2]
       refine wpAnyH_ready (rs:=[17]) (by kernel_rfl) (by simp) ?_
       refine AllReadyH.cons (o:=?odx20) ?hdx20 (fun K hK=>?sdx20) AllReadyH.nil
       case hdx20=>simp only [gA0,gA1,gA2]; rfl
       have o1:=HO1.out
       unfold set4 at o1
       obtain ⟨_,_,_,z0,z1,z2,z3⟩:=nm_cell o1 HY1.out
       have f0:=o1.frozenE (jp * 4)
       have f1:=o1.frozenE (jp * 4+1)
       have f2:=o1.frozenE (jp * 4+2)
       have f3:=o1.frozenE (jp * 4+3)
       go_simp
       refine hK.out _ _ (trivial) (fun hHeld=>?_)
       clear hK K
       try simp only [Act.put,sA0,sA1,sA2]
       refine wpAnyH_done (by kernel_rfl) ?_ _
       refine NoPanic.normal ?_
       clear hHeld
       go_wp2_with fail
       go_round
       case rel=>exact ⟨jp,by omega,by go_num,HNX.out⟩
       case measure=>simp [intOf]; omega
      case sdx15 =>
       have z0:=p0
       have z1:=p1
       have z2:=p2
       have z3:=p3
       go_simp
       refine hK.out _ _ (trivial) (fun hHeld=>?_)
       clear hK K
       try simp only [Act.put,sA0,sA1,sA2]
       refine wpAnyH_ready (rs:=[9]) (by kernel_rfl) (by simp) ?_
       refine AllReadyH.cons (o:=?odx22) ?hdx22 (fun K hK=>?sdx22) AllReadyH.nil
       case hdx22=>simp only [gA0,gA1,gA2]; rfl
       have z0:=q0
       have z1:=q1
       have z2:=q2
       have z3:=q3
       go_simp
       refine hK.out _ _ (trivial) (fun hHeld=>?_)
       clear hK K
       try simp only [Act.put,sA0,sA1,sA2]
       refine wpAnyH_take (i:=14) (v:=?vdx23) (oi:=?odx23) ?hdx23 (by kernel_rfl) (by kernel_rfl) (by kernel_rfl) (fun _ _ _ h=>h) (Or.inl ⟨?wdx23,?ydx23⟩) hHeld ?rdx23
       case hdx23=>simp only [gA0,gA1,gA2]; rfl
       case wdx23=>rfl
       case ydx23=>intro w hSw; (try dsimp only at hSw); go_simp; (try with_reducible rfl)
       simp only [Act.put,sA0,sA1,sA2]
       refine wpAnyH_ready (rs:=[15]) (by kernel_rfl) (by simp) ?_
       refine AllReadyH.cons (o:=?odx24) ?hdx24 (fun K hK=>?sdx24) AllReadyH.nil
       case hdx24=>simp only [gA0,gA1,gA2]; rfl
       have z0:=p0
       have z1:=p1
       have z2:=p2
       have z3:=p3
       have f0:=HOW.out.frozenE (j * 4)
       have f1:=HOW.out.frozenE (j * 4+1)
       have f2:=HOW.out.frozenE (j * 4+2)
       have f3:=HOW.out.frozenE (j * 4+3)
       go_simp
       refine hK.out _ _ (trivial) (fun hHeld=>?_)
       clear hK K
       try simp only [Act.put,sA0,sA1,sA2]
       refine wpAnyH_take (i:=16) (v:=?vdx25) (oi:=?odx25) ?hdx25 (by kernel_rfl) (by kernel_rfl) (by kernel_rfl) (fun _ _ _ h=>h) (Or.inl ⟨?wdx25,?ydx25⟩) hHeld ?rdx25
       case hdx25=>simp only [gA0,gA1,gA2]; rfl
       case wdx25=>rfl
       case ydx25=>intro w hSw; (try dsimp only at hSw); go_simp; (try with_reducible rfl)
       simp only [Act.put,sA0,sA1,sA2]
       refine wpAnyH_ready (rs:=[17]) (by kernel_rfl) (by simp) ?_
       refine AllReadyH.cons (o:=?odx26) ?hdx26 (fun K hK=>?sdx26) AllReadyH.nil
       case hdx26=>simp only [gA0,gA1,gA2]; rfl
       have o1:=HO1.out
       unfold set4 at o1
       obtain ⟨_,_,_,z0,z1,z2,z3⟩:=nm_cell o1 HY1.out
       have f0:=o1.frozenE (jp * 4)
       have f1:=o1.frozenE (jp * 4+1)
       have f2:=o1.frozenE (jp * 4+2)
       have f3:=o1.frozenE (jp * 4+3)
       go_simp
       refine hK.out _ _ (trivial) (fun hHeld=>?_)
       clear hK K
       try simp only [Act.put,sA0,sA1,sA2]
       refine wpAnyH_done (by kernel_rfl) ?_ _
       refine NoPanic.normal ?_
       clear hHeld
       go_wp2_with fail
       go_round
       case rel=>exact ⟨jp,by omega,by go_num,HNX.out⟩
       case measure=>simp [intOf]; omega
     ·have hz:¬ cmpN x y < 0:=by
       rcases Nat.lt_trichotomy x y with q | q | q
       ·exact absurd q hxy
       ·rw [cmpN_eq q]; omega
       ·rw [cmpN_gt q]; omega
      generalize cmpN x y=z at hz hcmp
      have HCMP:=hide hcmp
      have HEND:Hid (∀ w',Kp No wr w'→InN w base g n c ns (i+1) w'):=fun w' hk=>(HD.out.no hk).done HX.out (by rw [hdx,if_neg hxy])
      unfold shV at HCMP
      have HJP:=hide hjp
      have hjplt:jp < j:=by omega
      clear hcmp hxy hdx hyd hy hrow hbel hjp
      go_wp2_with fail
      refine wp_region_noPanic ?_
      refine wp_region_held_drew (S:=fun w'=>Kp No wr w'∧w'.cell? ⟨g,j * 4,none⟩=some (.int .u32 (cO x:Int))∧w'.cell? ⟨g,j * 4+1,none⟩=some (.int .u16 (cS x:Int))∧w'.cell? ⟨g,j * 4+2,none⟩=some (.int .u16 (cL x:Int))∧w'.cell? ⟨g,j * 4+3,none⟩=some (.int .u32 (cG x:Int))∧w'.cell? ⟨g,jp * 4,none⟩=some (.int .u32 (cO y:Int))∧w'.cell? ⟨g,jp * 4+1,none⟩=some (.int .u16 (cS y:Int))∧w'.cell? ⟨g,jp * 4+2,none⟩=some (.int .u16 (cL y:Int))∧w'.cell? ⟨g,jp * 4+3,none⟩=some (.int .u32 (cG y:Int))) (by kernel_rfl) (hS _ (Kp.refl No wr).drew) (fun hHeld=>?_)
      refine wpAnyH_take (i:=0) (v:=?vbx1) (oi:=?obx1) ?hbx1 (by kernel_rfl) (by kernel_rfl) (by kernel_rfl) (fun _ _ _ h=>h) (Or.inl ⟨?wbx1,?ybx1⟩) hHeld ?rbx1
      case hbx1=>simp only [gA0,gA1,gA2]; rfl
      case wbx1=>rfl
      case ybx1=>intro w hSw; (try dsimp only at hSw); go_simp; (try with_reducible rfl)
      simp only [Act.put,sA0,sA1,sA2]
      refine wpAnyH_take (i:=1) (v:=?vbx2) (oi:=?obx2) ?hbx2 (by kernel_rfl) (by kernel_rfl) (by kernel_rfl) (fun _ _ _ h=>h) (Or.inl ⟨?wbx2,?ybx2⟩) hHeld ?rbx2
      case hbx2=>simp only [gA0,gA1,gA2]; rfl
      case wbx2=>rfl
      case ybx2=>intro w hSw; (try dsimp only at hSw); go_simp; (try with_reducible rfl)
      simp only [Act.put,sA0,sA1,sA2]
      refine wpAnyH_take (i:=2) (v:=?vbx3) (oi:=?obx3) ?hbx3 (by kernel_rfl) (by kernel_rfl) (by kernel_rfl) (fun _ _ _ h=>h) (Or.inl ⟨?wbx3,?ybx3⟩) hHeld ?rbx3
      case hbx3=>simp only [gA0,gA1,gA2]; rfl
      case wbx3=>rfl
      case ybx3=>intro w hSw; (try dsimp only at hSw); go_simp; (try with_reducible rfl)
      simp only [Act.put,sA0,sA1,sA2]
      refine wpAnyH_take (i:=3) (v:=?vbx4) (oi:=?obx4) ?hbx4 (by kernel_rfl) (by kernel_rfl) (by kernel_rfl) (fun _ _ _ h=>h) (Or.inl ⟨?wbx4,?ybx4⟩) hHeld ?rbx4
      case hbx4=>simp only [gA0,gA1,gA2]; rfl
      case wbx4=>rfl
      case ybx4=>intro w hSw; (try dsimp only at hSw); go_simp; (try with_reducible rfl)
      simp only [Act.put,sA0,sA1,sA2]
      refine wpAnyH_take (i:=4) (v:=?vbx5) (oi:=?obx5) ?hbx5 (by kernel_rfl) (by kernel_rfl) (by kernel_rfl) (fun _ _ _ h=>h) (Or.inl ⟨?wbx5,?ybx5⟩) hHeld ?rbx5
      case hbx5=>simp only [gA0,gA1,gA2]; rfl
      case wbx5=>rfl
      case ybx5=>intro w hSw; (try dsimp only at hSw); go_simp; (try with_reducible rfl)
      simp only [Act.put,sA0,sA1,sA2]
      refine wpAnyH_take (i:=5) (v:=?vbx6) (oi:=?obx6) ?hbx6 (by kernel_rfl) (by kernel_rfl) (by kernel_rfl) (fun _ _ _ h=>h) (Or.inl ⟨?wbx6,?ybx6⟩) hHeld ?rbx6
      case hbx6=>simp only [gA0,gA1,gA2]; rfl
      case wbx6=>rfl
      case ybx6=>intro w hSw; (try dsimp only at hSw); go_simp; (try with_reducible rfl)
      simp only [Act.put,sA0,sA1,sA2]
      refine wpAnyH_take (i:=6) (v:=?vbx7) (oi:=?obx7) ?hbx7 (by kernel_rfl) (by kernel_rfl) (by kernel_rfl) (fun _ _ _ h=>h) (Or.inl ⟨?wbx7,?ybx7⟩) hHeld ?rbx7
      case hbx7=>simp only [gA0,gA1,gA2]; rfl
      case wbx7=>rfl
      case ybx7=>intro w hSw; (try dsimp only at hSw); go_simp; (try with_reducible rfl)
      simp only [Act.put,sA0,sA1,sA2]
      refine wpAnyH_take (i:=7) (v:=?vbx8) (oi:=?obx8) ?hbx8 (by kernel_rfl) (by kernel_rfl) (by kernel_rfl) (fun _ _ _ h=>h) (Or.inl ⟨?wbx8,?ybx8⟩) hHeld ?rbx8
      case hbx8=>simp only [gA0,gA1,gA2]; rfl
      case wbx8=>rfl
      case ybx8=>intro w hSw; (try dsimp only at hSw); go_simp; (try with_reducible rfl)
      simp only [Act.put,sA0,sA1,sA2]
      refine wpAnyH_take (i:=8) (v:=?vbx9) (oi:=?obx9) ?hbx9 (by kernel_rfl) (by kernel_rfl) (by kernel_rfl) (fun _ _ _ h=>h) (Or.inl ⟨?wbx9,?ybx9⟩) hHeld ?rbx9
      case hbx9=>simp only [gA0,gA1,gA2]; rfl
      case wbx9=>rfl
      case ybx9=>intro w hSw; (try dsimp only at hSw); go_simp; (try with_reducible rfl)
      simp only [Act.put,sA0,sA1,sA2]
      refine wpAnyH_take (i:=9) (v:=?vbx10) (oi:=?obx10) ?hbx10 (by kernel_rfl) (by kernel_rfl) (by kernel_rfl) (fun _ _ _ h=>h) (Or.inl ⟨?wbx10,?ybx10⟩) hHeld ?rbx10
      case hbx10=>simp only [gA0,gA1,gA2]; rfl
      case wbx10=>rfl
      case ybx10=>intro w hSw; (try dsimp only at hSw); go_simp; (try with_reducible rfl)
      simp only [Act.put,sA0,sA1,sA2]
      refine wpAnyH_take (i:=10) (v:=?vbx11) (oi:=?obx11) ?hbx11 (by kernel_rfl) (by kernel_rfl) (by kernel_rfl) (fun _ _ _ h=>h) (Or.inl ⟨?wbx11,?ybx11⟩) hHeld ?rbx11
      case hbx11=>simp only [gA0,gA1,gA2]; rfl
      case wbx11=>rfl
      case ybx11=>intro w hSw; (try dsimp only at hSw); go_simp; (try with_reducible rfl)
      simp only [Act.put,sA0,sA1,sA2]
      refine wpAnyH_take (i:=11) (v:=?vbx12) (oi:=?obx12) ?hbx12 (by kernel_rfl) (by kernel_rfl) (by kernel_rfl) (fun _ _ _ h=>h) (Or.inl ⟨?wbx12,?ybx12⟩) hHeld ?rbx12
      case hbx12=>simp only [gA0,gA1,gA2]; rfl
      case wbx12=>rfl
      case ybx12=>intro w hSw; (try dsimp only at hSw); go_simp; (try with_reducible rfl)
      simp only [Act.put,sA0,sA1,sA2]
      refine wpAnyH_take (i:=12) (v:=?vbx13) (oi:=?obx13) ?hbx13 (by kernel_rfl) (by kernel_rfl) (by kernel_rfl) (fun _ _ _ h=>h) (Or.inl ⟨?wbx13,?ybx13⟩) hHeld ?rbx13
      case hbx13=>simp only [gA0,gA1,gA2]; rfl
      case wbx13=>rfl
      case ybx13=>intro w hSw; (try dsimp only at hSw); go_simp; (try with_reducible rfl)
      simp only [Act.put,sA0,sA1,sA2]
      refine wpAnyH_take (i:=13) (v:=?vbx14) (oi:=?obx14) ?hbx14 (by kernel_rfl) (by kernel_rfl) (by kernel_rfl) (fun _ _ _ h=>h) (Or.inl ⟨?wbx14,?ybx14⟩) hHeld ?rbx14
      case hbx14=>simp only [gA0,gA1,gA2]; rfl
      case wbx14=>rfl
      case ybx14=>intro w hSw; (try dsimp only at hSw); go_simp; (try with_reducible rfl)
      simp only [Act.put,sA0,sA1,sA2]
      refine wpAnyH_ready (rs:=[14]) (by kernel_rfl) (by simp) ?_
      refine AllReadyH.cons (o:=?obx15) ?hbx15 (fun K hK=>?sbx15) AllReadyH.nil
      case hbx15=>simp only [gA0,gA1,gA2]; rfl
      go_simp
      refine (HCMP.out _).mono ?_
      rintro e w3 ⟨rfl,k3⟩
      have h3:=hS _ (hHeld.1.trans' k3)
      go_wp2_with fail
      refine hK.out _ _ (h3) (fun hHeld=>?_)
      clear hK K
      try simp only [Act.put,sA0,sA1,sA2]
      refine wpAnyH_take (i:=15) (v:=?vbx16) (oi:=?obx16) ?hbx16 (by kernel_rfl) (by kernel_rfl) (by kernel_rfl) (fun _ _ _ h=>h) (Or.inl ⟨?wbx16,?ybx16⟩) hHeld ?rbx16
      case hbx16=>simp only [gA0,gA1,gA2]; rfl
      case wbx16=>rfl
      case ybx16=>intro w hSw; (try dsimp only at hSw); go_simp; (try with_reducible rfl)
      simp only [Act.put,sA0,sA1,sA2]
      refine wpAnyH_take (i:=16) (v:=?vbx17) (oi:=?obx17) ?hbx17 (by kernel_rfl) (by kernel_rfl) (by kernel_rfl) (fun _ _ _ h=>h) (Or.inl ⟨?wbx17,?ybx17⟩) hHeld ?rbx17
      case hbx17=>simp only [gA0,gA1,gA2]; rfl
      case wbx17=>rfl
      case ybx17=>intro w hSw; (try dsimp only at hSw); go_simp; (try with_reducible rfl)
      simp only [Act.put,sA0,sA1,sA2]
      refine wpAnyH_done (by kernel_rfl) ?_ _
      refine NoPanic.normal ?_
      have HK3:=hide hHeld.1
      clear hHeld h3 hS
      go_wp2_with fail
      go_round
      case rel=>exact ⟨i+1,by omega,by omega,by go_num,HEND.out w3 HK3.out⟩
      case measure=>simp [intOf]; omega
  ·obtain rfl:i=n:=by omega
   have hlz:¬ (i:Int) < i:=by omega
   have hO:=hR.own
   rw [List.drop_eq_nil_of_le (by have:=HN.out; omega),List.append_nil] at hO
   have HO:=hide (And.intro hO hR.kp)
   clear hO hR
   go_wp2_with fail
   go_end0
   exact ⟨rfl,by have e:=HN.out; rw [← e]; have:=HO.out.1; rwa [← e] at this,HO.out.2⟩
end Go.Proofs.YtnfcfdhlmeimhaaGreat
