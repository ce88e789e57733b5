/- Law 16's light, as a contract over memory (printed by tools/gen_nds.py); Rows of names in memory: their cells, parts of them; The document's Less, as a contract. -/
import Derived.Test.YtnfcfdhlmeimhaaGreatSpbn
import Derived.Test.YtnfcfdhlmeimhaaGreatSpaj
import Derived.Test.YtnfcfdhlmeimhaaGreatSpag
import Derived.Test.YtnfcfdhlmeimhaaGreatSpah
namespace Go.Proofs.YtnfcfdhlmeimhaaGreat
open Go.RowKit
set_option linter.unusedVariables false
set_option linter.unusedSimpArgs false
set_option maxRecDepth 20000
def LgsPost (w:World) (ds:List ActS) (e:Ending) (w1:World):Prop:=∃ b,e=.returned (.bool b)∧Kp No w w1∧(b=true→ds.length≤50∧∀ d ∈ ds,d.b.length+d.q.data.length≤3000)
set_option maxHeartbeats 2000000 in
theorem light16_any {w:World} {A:Option Addr} {n c:Nat} {ds:List ActS} (h:ActsS w A n ds):Calls Tryz.prog 7 #[.slice A n c] w (LgsPost w ds):=by
 have HA:=hide h
 have hmax:=h.big
 clear h
 go_enter Tryz.func7,Tryz.ntmps7
 go_wp2_with fail
 go_loopw [3,4] (fun sv i wr=>∃ k S:Nat,k≤n∧k≤50∧sv=.int .i64 (S:Int)∧i=.int .i64 (k:Int)∧S≤5000 * k∧Hid (∀ (j:Nat) d,j < k→ds[j]?=some d→min (d.b.length+d.q.data.length) 5000≤S)∧Hid (Kp No w wr)) (fun _ i _=>n - (intOf i).toNat)
 case atStart=>exact ⟨0,0,by omega,by omega,rfl,rfl,by omega,(fun j d hj=>by omega),Kp.refl _ _⟩
 case round =>
  obtain ⟨k,S,hk,hk50,rfl,rfl,hS,HQ,HKR⟩:=hrel
  rename World=>wr
  by_cases hlt:k < n
  ·have hi:(k:Int) < n:=by omega
   by_cases h50:k < 50
   ·have hi50:(k:Int) < 50:=by omega
    obtain ⟨d,hd⟩:∃ d,ds[k]?=some d:=⟨_,List.getElem?_eq_getElem (by have:=HA.out.len; omega)⟩
    obtain ⟨B,off,Aq,mq,cq,A',m,c',hA,ha⟩:=(HA.out.no HKR.out).at_ k d hd
    have HD:=hide hd
    subst hA
    have x9:wr.drew.cell? ⟨B,off+k * 13+9,none⟩=some (.slice A' m c'):=ha.c9
    have x8:wr.drew.cell? ⟨B,off+k * 13+8,none⟩=some (.slice Aq mq cq):=ha.c8
    have HL1:=hide ha.bts.len
    have HL2:=hide ha.bq.len
    have h1:=ha.sb
    have h2:=ha.sq
    obtain ⟨s,hs⟩:∃ s,s=m+mq:=⟨_,rfl⟩
    have e1:(m:Int)+(mq:Int)=(s:Int):=by omega
    have e2:IntKind.i64.wrap (s:Int)=(s:Int):=IntWalk.i64_in _ (by omega)
    have HSE:=hide hs
    clear hd ha
    by_cases hbig:5000 < s
    ·have hb:(5000:Int) < (s:Int):=by omega
     obtain ⟨T,hT⟩:∃ T,T=S+5000:=⟨_,rfl⟩
     have HT5:Hid (T≤5000 * (k+1)):=by show T≤_; omega
     have e3:(S:Int)+(if (5000:Int) < (s:Int) then 5000 else (s:Int))=(T:Int):=by rw [if_pos hb]; omega
     have e4:IntKind.i64.wrap (T:Int)=(T:Int):=IntWalk.i64_in _ (by omega)
     have HQ2:Hid (∀ (j:Nat) d,j < k+1→ds[j]?=some d→min (d.b.length+d.q.data.length) 5000≤T):=fun j d' hj hd'=>by
      rcases Nat.lt_or_ge j k with g | g
      ·have:=HQ.out j d' g hd'; omega
      ·omega
     clear hs hbig h1 h2 hT hb
     go_wp2_with fail
     refine wp_region_noPanic ?_
     refine wp_region_held_drew (S:=fun w'=>w'.cell? ⟨B,off+k * 13+9,none⟩=some (.slice A' m c')∧w'.cell? ⟨B,off+k * 13+8,none⟩=some (.slice Aq mq cq)) (by kernel_rfl) (⟨x9,x8⟩) (fun hHeld=>?_)
     refine wpAnyH_take (i:=0) (v:=?vax1) (oi:=?oax1) ?hax1 (by kernel_rfl) (by kernel_rfl) (by kernel_rfl) (fun _ _ _ h=>h) (Or.inl ⟨?wax1,?yax1⟩) hHeld ?rax1
     case hax1=>simp only [gA0,gA1,gA2]; rfl
     case wax1=>rfl
     case yax1=>intro w hSw; (try dsimp only at hSw); go_simp; (try with_reducible rfl)
     simp only [Act.put,sA0,sA1,sA2]
     refine wpAnyH_take (i:=1) (v:=?vax2) (oi:=?oax2) ?hax2 (by kernel_rfl) (by kernel_rfl) (by kernel_rfl) (fun _ _ _ h=>h) (Or.inl ⟨?wax2,?yax2⟩) hHeld ?rax2
     case hax2=>simp only [gA0,gA1,gA2]; rfl
     case wax2=>rfl
     case yax2=>intro w hSw; (try dsimp only at hSw); go_simp; (try with_reducible rfl)
     simp only [Act.put,sA0,sA1,sA2]
     refine wpAnyH_take (i:=2) (v:=?vax3) (oi:=?oax3) ?hax3 (by kernel_rfl) (by kernel_rfl) (by kernel_rfl) (fun _ _ _ h=>h) (Or.inl ⟨?wax3,?yax3⟩) hHeld ?rax3
     case hax3=>simp only [gA0,gA1,gA2]; rfl
     case wax3=>rfl
     case yax3=>intro w hSw; (try dsimp only at hSw); go_simp; (try with_reducible rfl)
     simp only [Act.put,sA0,sA1,sA2]
     refine wpAnyH_take (i:=3) (v:=?vax4) (oi:=?oax4) ?hax4 (by kernel_rfl) (by kernel_rfl) (by kernel_rfl) (fun _ _ _ h=>h) (Or.inl ⟨?wax4,?yax4⟩) hHeld ?rax4
     case hax4=>simp only [gA0,gA1,gA2]; rfl
     case wax4=>rfl
     case yax4=>intro w hSw; (try dsimp only at hSw); go_simp; (try with_reducible rfl)
     simp only [Act.put,sA0,sA1,sA2]
     refine wpAnyH_take (i:=4) (v:=?vax5) (oi:=?oax5) ?hax5 (by kernel_rfl) (by kernel_rfl) (by kernel_rfl) (fun _ _ _ h=>h) (Or.inl ⟨?wax5,?yax5⟩) hHeld ?rax5
     case hax5=>simp only [gA0,gA1,gA2]; rfl
     case wax5=>rfl
     case yax5=>intro w hSw; (try dsimp only at hSw); go_simp; (try with_reducible rfl)
     simp only [Act.put,sA0,sA1,sA2]
     refine wpAnyH_take (i:=5) (v:=?vax6) (oi:=?oax6) ?hax6 (by kernel_rfl) (by kernel_rfl) (by kernel_rfl) (fun _ _ _ h=>h) (Or.inl ⟨?wax6,?yax6⟩) hHeld ?rax6
     case hax6=>simp only [gA0,gA1,gA2]; rfl
     case wax6=>rfl
     case yax6=>intro w hSw; (try dsimp only at hSw); go_simp; (try with_reducible rfl)
     simp only [Act.put,sA0,sA1,sA2]
     refine wpAnyH_take (i:=6) (v:=?vax7) (oi:=?oax7) ?hax7 (by kernel_rfl) (by kernel_rfl) (by kernel_rfl) (fun _ _ _ h=>h) (Or.inl ⟨?wax7,?yax7⟩) hHeld ?rax7
     case hax7=>simp only [gA0,gA1,gA2]; rfl
     case wax7=>rfl
     case yax7=>intro w hSw; (try dsimp only at hSw); go_simp; (try with_reducible rfl)
     simp only [Act.put,sA0,sA1,sA2]
     refine wpAnyH_take (i:=7) (v:=?vax8) (oi:=?oax8) ?hax8 (by kernel_rfl) (by kernel_rfl) (by kernel_rfl) (fun _ _ _ h=>h) (Or.inl ⟨?wax8,?yax8⟩) hHeld ?rax8
     case hax8=>simp only [gA0,gA1,gA2]; rfl
     case wax8=>rfl
     case yax8=>intro w hSw; (try dsimp only at hSw); go_simp; (try with_reducible rfl)
     simp only [Act.put,sA0,sA1,sA2]
     refine wpAnyH_take (i:=8) (v:=?vax9) (oi:=?oax9) ?hax9 (by kernel_rfl) (by kernel_rfl) (by kernel_rfl) (fun _ _ _ h=>h) (Or.inl ⟨?wax9,?yax9⟩) hHeld ?rax9
     case hax9=>simp only [gA0,gA1,gA2]; rfl
     case wax9=>rfl
     case yax9=>intro w hSw; (try dsimp only at hSw); go_simp; (try with_reducible rfl)
     simp only [Act.put,sA0,sA1,sA2]
     refine wpAnyH_take (i:=9) (v:=?vax10) (oi:=?oax10) ?hax10 (by kernel_rfl) (by kernel_rfl) (by kernel_rfl) (fun _ _ _ h=>h) (Or.inl ⟨?wax10,?yax10⟩) hHeld ?rax10
     case hax10=>simp only [gA0,gA1,gA2]; rfl
     case wax10=>rfl
     case yax10=>intro w hSw; (try dsimp only at hSw); go_simp; (try with_reducible rfl)
     simp only [Act.put,sA0,sA1,sA2]
     refine wpAnyH_take (i:=10) (v:=?vax11) (oi:=?oax11) ?hax11 (by kernel_rfl) (by kernel_rfl) (by kernel_rfl) (fun _ _ _ h=>h) (Or.inl ⟨?wax11,?yax11⟩) hHeld ?rax11
     case hax11=>simp only [gA0,gA1,gA2]; rfl
     case wax11=>rfl
     case yax11=>intro w hSw; (try dsimp only at hSw); go_simp; (try with_reducible rfl)
     simp only [Act.put,sA0,sA1,sA2]
     refine wpAnyH_take (i:=11) (v:=?vax12) (oi:=?oax12) ?hax12 (by kernel_rfl) (by kernel_rfl) (by kernel_rfl) (fun _ _ _ h=>h) (Or.inl ⟨?wax12,?yax12⟩) hHeld ?rax12
     case hax12=>simp only [gA0,gA1,gA2]; rfl
     case wax12=>rfl
     case yax12=>intro w hSw; (try dsimp only at hSw); go_simp; (try with_reducible rfl)
     simp only [Act.put,sA0,sA1,sA2]
     refine wpAnyH_take (i:=12) (v:=?vax13) (oi:=?oax13) ?hax13 (by kernel_rfl) (by kernel_rfl) (by kernel_rfl) (fun _ _ _ h=>h) (Or.inl ⟨?wax13,?yax13⟩) hHeld ?rax13
     case hax13=>simp only [gA0,gA1,gA2]; rfl
     case wax13=>rfl
     case yax13=>intro w hSw; (try dsimp only at hSw); go_simp; (try with_reducible rfl)
     simp only [Act.put,sA0,sA1,sA2]
     refine wpAnyH_take (i:=13) (v:=?vax14) (oi:=?oax14) ?hax14 (by kernel_rfl) (by kernel_rfl) (by kernel_rfl) (fun _ _ _ h=>h) (Or.inl ⟨?wax14,?yax14⟩) hHeld ?rax14
     case hax14=>simp only [gA0,gA1,gA2]; rfl
     case wax14=>rfl
     case yax14=>intro w hSw; (try dsimp only at hSw); go_simp; (try with_reducible rfl)
     simp only [Act.put,sA0,sA1,sA2]
     refine wpAnyH_take (i:=14) (v:=?vax15) (oi:=?oax15) ?hax15 (by kernel_rfl) (by kernel_rfl) (by kernel_rfl) (fun _ _ _ h=>h) (Or.inl ⟨?wax15,?yax15⟩) hHeld ?rax15
     case hax15=>simp only [gA0,gA1,gA2]; rfl
     case wax15=>rfl
     case yax15=>intro w hSw; (try dsimp only at hSw); go_simp; (try with_reducible rfl)
     simp only [Act.put,sA0,sA1,sA2]
     refine wpAnyH_take (i:=15) (v:=?vax16) (oi:=?oax16) ?hax16 (by kernel_rfl) (by kernel_rfl) (by kernel_rfl) (fun _ _ _ h=>h) (Or.inl ⟨?wax16,?yax16⟩) hHeld ?rax16
     case hax16=>simp only [gA0,gA1,gA2]; rfl
     case wax16=>rfl
     case yax16=>intro w hSw; (try dsimp only at hSw); go_simp; (try with_reducible rfl)
     simp only [Act.put,sA0,sA1,sA2]
     refine wpAnyH_take (i:=16) (v:=?vax17) (oi:=?oax17) ?hax17 (by kernel_rfl) (by kernel_rfl) (by kernel_rfl) (fun _ _ _ h=>h) (Or.inl ⟨?wax17,?yax17⟩) hHeld ?rax17
     case hax17=>simp only [gA0,gA1,gA2]; rfl
     case wax17=>rfl
     case yax17=>intro w hSw; (try dsimp only at hSw); go_simp; (try with_reducible rfl)
     simp only [Act.put,sA0,sA1,sA2]
     refine wpAnyH_take (i:=17) (v:=?vax18) (oi:=?oax18) ?hax18 (by kernel_rfl) (by kernel_rfl) (by kernel_rfl) (fun _ _ _ h=>h) (Or.inl ⟨?wax18,?yax18⟩) hHeld ?rax18
     case hax18=>simp only [gA0,gA1,gA2]; rfl
     case wax18=>rfl
     case yax18=>intro w hSw; (try dsimp only at hSw); go_simp; (try with_reducible rfl)
     simp only [Act.put,sA0,sA1,sA2]
     refine wpAnyH_done (by kernel_rfl) ?_ _
     refine NoPanic.normal ?_
     clear hHeld
     go_wp2_with fail
     go_round
     case rel=>exact ⟨k+1,T,by omega,by omega,rfl,by go_num,HT5.out,HQ2.out,HKR.out.drew⟩
     case measure=>simp [intOf]; omega
    ·have hb:¬ (5000:Int) < (s:Int):=by omega
     obtain ⟨T,hT⟩:∃ T,T=S+s:=⟨_,rfl⟩
     have HT5:Hid (T≤5000 * (k+1)):=by show T≤_; omega
     have e3:(S:Int)+(if (5000:Int) < (s:Int) then 5000 else (s:Int))=(T:Int):=by rw [if_neg hb]; omega
     have e4:IntKind.i64.wrap (T:Int)=(T:Int):=IntWalk.i64_in _ (by omega)
     have HQ2:Hid (∀ (j:Nat) d,j < k+1→ds[j]?=some d→min (d.b.length+d.q.data.length) 5000≤T):=fun j d' hj hd'=>by
      rcases Nat.lt_or_ge j k with g | g
      ·have:=HQ.out j d' g hd'; omega
      ·obtain rfl:j=k:=by omega
       rw [HD.out] at hd'
       injection hd' with hd'
       subst hd'
       have h1:=HL1.out
       have h2:=HL2.out
       have h3:=HSE.out
       omega
     clear hs hbig h1 h2 hT hb
     go_wp2_with fail
     refine wp_region_noPanic ?_
     refine wp_region_held_drew (S:=fun w'=>w'.cell? ⟨B,off+k * 13+9,none⟩=some (.slice A' m c')∧w'.cell? ⟨B,off+k * 13+8,none⟩=some (.slice Aq mq cq)) (by kernel_rfl) (⟨x9,x8⟩) (fun hHeld=>?_)
     refine wpAnyH_take (i:=0) (v:=?vbx1) (oi:=?obx1) ?hbx1 (by kernel_rfl) (by kernel_rfl) (by kernel_rfl) (fun _ _ _ h=>h) (Or.inl ⟨?wbx1,?ybx1⟩) hHeld ?rbx1
     case hbx1=>simp only [gA0,gA1,gA2]; rfl
     case wbx1=>rfl
     case ybx1=>intro w hSw; (try dsimp only at hSw); go_simp; (try with_reducible rfl)
     simp only [Act.put,sA0,sA1,sA2]
     refine wpAnyH_take (i:=1) (v:=?vbx2) (oi:=?obx2) ?hbx2 (by kernel_rfl) (by kernel_rfl) (by kernel_rfl) (fun _ _ _ h=>h) (Or.inl ⟨?wbx2,?ybx2⟩) hHeld ?rbx2
     case hbx2=>simp only [gA0,gA1,gA2]; rfl
     case wbx2=>rfl
     case ybx2=>intro w hSw; (try dsimp only at hSw); go_simp; (try with_reducible rfl)
     simp only [Act.put,sA0,sA1,sA2]
     refine wpAnyH_take (i:=2) (v:=?vbx3) (oi:=?obx3) ?hbx3 (by kernel_rfl) (by kernel_rfl) (by kernel_rfl) (fun _ _ _ h=>h) (Or.inl ⟨?wbx3,?ybx3⟩) hHeld ?rbx3
     case hbx3=>simp only [gA0,gA1,gA2]; rfl
     case wbx3=>rfl
     case ybx3=>intro w hSw; (try dsimp only at hSw); go_simp; (try with_reducible rfl)
     simp only [Act.put,sA0,sA1,sA2]
     refine wpAnyH_take (i:=3) (v:=?vbx4) (oi:=?obx4) ?hbx4 (by kernel_rfl) (by kernel_rfl) (by kernel_rfl) (fun _ _ _ h=>h) (Or.inl ⟨?wbx4,?ybx4⟩) hHeld ?rbx4
     case hbx4=>simp only [gA0,gA1,gA2]; rfl
     case wbx4=>rfl
     case ybx4=>intro w hSw; (try dsimp only at hSw); go_simp; (try with_reducible rfl)
     simp only [Act.put,sA0,sA1,sA2]
     refine wpAnyH_take (i:=4) (v:=?vbx5) (oi:=?obx5) ?hbx5 (by kernel_rfl) (by kernel_rfl) (by kernel_rfl) (fun _ _ _ h=>h) (Or.inl ⟨?wbx5,?ybx5⟩) hHeld ?rbx5
     case hbx5=>simp only [gA0,gA1,gA2]; rfl
     case wbx5=>rfl
     case ybx5=>intro w hSw; (try dsimp only at hSw); go_simp; (try with_reducible rfl)
     simp only [Act.put,sA0,sA1,sA2]
     refine wpAnyH_take (i:=5) (v:=?vbx6) (oi:=?obx6) ?hbx6 (by kernel_rfl) (by kernel_rfl) (by kernel_rfl) (fun _ _ _ h=>h) (Or.inl ⟨?wbx6,?ybx6⟩) hHeld ?rbx6
     case hbx6=>simp only [gA0,gA1,gA2]; rfl
     case wbx6=>rfl
     case ybx6=>intro w hSw; (try dsimp only at hSw); go_simp; (try with_reducible rfl)
     simp only [Act.put,sA0,sA1,sA2]
     refine wpAnyH_take (i:=6) (v:=?vbx7) (oi:=?obx7) ?hbx7 (by kernel_rfl) (by kernel_rfl) (by kernel_rfl) (fun _ _ _ h=>h) (Or.inl ⟨?wbx7,?ybx7⟩) hHeld ?rbx7
     case hbx7=>simp only [gA0,gA1,gA2]; rfl
     case wbx7=>rfl
     case ybx7=>intro w hSw; (try dsimp only at hSw); go_simp; (try with_reducible rfl)
     simp only [Act.put,sA0,sA1,sA2]
     refine wpAnyH_take (i:=7) (v:=?vbx8) (oi:=?obx8) ?hbx8 (by kernel_rfl) (by kernel_rfl) (by kernel_rfl) (fun _ _ _ h=>h) (Or.inl ⟨?wbx8,?ybx8⟩) hHeld ?rbx8
     case hbx8=>simp only [gA0,gA1,gA2]; rfl
     case wbx8=>rfl
     case ybx8=>intro w hSw; (try dsimp only at hSw); go_simp; (try with_reducible rfl)
     simp only [Act.put,sA0,sA1,sA2]
     refine wpAnyH_take (i:=8) (v:=?vbx9) (oi:=?obx9) ?hbx9 (by kernel_rfl) (by kernel_rfl) (by kernel_rfl) (fun _ _ _ h=>h) (Or.inl ⟨?wbx9,?ybx9⟩) hHeld ?rbx9
     case hbx9=>simp only [gA0,gA1,gA2]; rfl
     case wbx9=>rfl
     case ybx9=>intro w hSw; (try dsimp only at hSw); go_simp; (try with_reducible rfl)
     simp only [Act.put,sA0,sA1,sA2]
     refine wpAnyH_take (i:=9) (v:=?vbx10) (oi:=?obx10) ?hbx10 (by kernel_rfl) (by kernel_rfl) (by kernel_rfl) (fun _ _ _ h=>h) (Or.inl ⟨?wbx10,?ybx10⟩) hHeld ?rbx10
     case hbx10=>simp only [gA0,gA1,gA2]; rfl
     case wbx10=>rfl
     case ybx10=>intro w hSw; (try dsimp only at hSw); go_simp; (try with_reducible rfl)
     simp only [Act.put,sA0,sA1,sA2]
     refine wpAnyH_take (i:=10) (v:=?vbx11) (oi:=?obx11) ?hbx11 (by kernel_rfl) (by kernel_rfl) (by kernel_rfl) (fun _ _ _ h=>h) (Or.inl ⟨?wbx11,?ybx11⟩) hHeld ?rbx11
     case hbx11=>simp only [gA0,gA1,gA2]; rfl
     case wbx11=>rfl
     case ybx11=>intro w hSw; (try dsimp only at hSw); go_simp; (try with_reducible rfl)
     simp only [Act.put,sA0,sA1,sA2]
     refine wpAnyH_take (i:=11) (v:=?vbx12) (oi:=?obx12) ?hbx12 (by kernel_rfl) (by kernel_rfl) (by kernel_rfl) (fun _ _ _ h=>h) (Or.inl ⟨?wbx12,?ybx12⟩) hHeld ?rbx12
     case hbx12=>simp only [gA0,gA1,gA2]; rfl
     case wbx12=>rfl
     case ybx12=>intro w hSw; (try dsimp only at hSw); go_simp; (try with_reducible rfl)
     simp only [Act.put,sA0,sA1,sA2]
     refine wpAnyH_take (i:=12) (v:=?vbx13) (oi:=?obx13) ?hbx13 (by kernel_rfl) (by kernel_rfl) (by kernel_rfl) (fun _ _ _ h=>h) (Or.inl ⟨?wbx13,?ybx13⟩) hHeld ?rbx13
     case hbx13=>simp only [gA0,gA1,gA2]; rfl
     case wbx13=>rfl
     case ybx13=>intro w hSw; (try dsimp only at hSw); go_simp; (try with_reducible rfl)
     simp only [Act.put,sA0,sA1,sA2]
     refine wpAnyH_take (i:=13) (v:=?vbx14) (oi:=?obx14) ?hbx14 (by kernel_rfl) (by kernel_rfl) (by kernel_rfl) (fun _ _ _ h=>h) (Or.inl ⟨?wbx14,?ybx14⟩) hHeld ?rbx14
     case hbx14=>simp only [gA0,gA1,gA2]; rfl
     case wbx14=>rfl
     case ybx14=>intro w hSw; (try dsimp only at hSw); go_simp; (try with_reducible rfl)
     simp only [Act.put,sA0,sA1,sA2]
     refine wpAnyH_take (i:=14) (v:=?vbx15) (oi:=?obx15) ?hbx15 (by kernel_rfl) (by kernel_rfl) (by kernel_rfl) (fun _ _ _ h=>h) (Or.inl ⟨?wbx15,?ybx15⟩) hHeld ?rbx15
     case hbx15=>simp only [gA0,gA1,gA2]; rfl
     case wbx15=>rfl
     case ybx15=>intro w hSw; (try dsimp only at hSw); go_simp; (try with_reducible rfl)
     simp only [Act.put,sA0,sA1,sA2]
     refine wpAnyH_take (i:=15) (v:=?vbx16) (oi:=?obx16) ?hbx16 (by kernel_rfl) (by kernel_rfl) (by kernel_rfl) (fun _ _ _ h=>h) (Or.inl ⟨?wbx16,?ybx16⟩) hHeld ?rbx16
     case hbx16=>simp only [gA0,gA1,gA2]; rfl
     case wbx16=>rfl
     case ybx16=>intro w hSw; (try dsimp only at hSw); go_simp; (try with_reducible rfl)
     simp only [Act.put,sA0,sA1,sA2]
     refine wpAnyH_take (i:=16) (v:=?vbx17) (oi:=?obx17) ?hbx17 (by kernel_rfl) (by kernel_rfl) (by kernel_rfl) (fun _ _ _ h=>h) (Or.inl ⟨?wbx17,?ybx17⟩) hHeld ?rbx17
     case hbx17=>simp only [gA0,gA1,gA2]; rfl
     case wbx17=>rfl
     case ybx17=>intro w hSw; (try dsimp only at hSw); go_simp; (try with_reducible rfl)
     simp only [Act.put,sA0,sA1,sA2]
     refine wpAnyH_take (i:=17) (v:=?vbx18) (oi:=?obx18) ?hbx18 (by kernel_rfl) (by kernel_rfl) (by kernel_rfl) (fun _ _ _ h=>h) (Or.inl ⟨?wbx18,?ybx18⟩) hHeld ?rbx18
     case hbx18=>simp only [gA0,gA1,gA2]; rfl
     case wbx18=>rfl
     case ybx18=>intro w hSw; (try dsimp only at hSw); go_simp; (try with_reducible rfl)
     simp only [Act.put,sA0,sA1,sA2]
     refine wpAnyH_done (by kernel_rfl) ?_ _
     refine NoPanic.normal ?_
     clear hHeld
     go_wp2_with fail
     go_round
     case rel=>exact ⟨k+1,T,by omega,by omega,rfl,by go_num,HT5.out,HQ2.out,HKR.out.drew⟩
     case measure=>simp [intOf]; omega
   ·have hi50:¬ (k:Int) < 50:=by omega
    have hz:¬ (n:Int)≤50:=by omega
    go_wp2_with fail
    go_ret
    exact ⟨false,rfl,HKR.out,fun h=>by cases h⟩
  ·have hi:¬ (k:Int) < n:=by omega
   have HE:Hid (k=n):=by show k=n; omega
   have hz:(n:Int)≤50:=by omega
   by_cases h3:S≤3000
   ·have h3z:(S:Int)≤3000:=by omega
    go_wp2_with fail
    go_ret
    refine ⟨true,rfl,HKR.out,fun _=>⟨by have:=HA.out.len; have:=HE.out; omega,fun d hd=>?_⟩⟩
    obtain ⟨j,hj⟩:=List.getElem?_of_mem hd
    have h4:=HQ.out j d (by have h1:=(List.getElem?_eq_some_iff.1 hj).1; have:=HA.out.len; have:=HE.out; omega) hj
    omega
   ·have h3z:¬ (S:Int)≤3000:=by omega
    go_wp2_with fail
    go_ret
    exact ⟨false,rfl,HKR.out,fun h=>by cases h⟩
end Go.Proofs.YtnfcfdhlmeimhaaGreat
namespace Go.Proofs.YtnfcfdhlmeimhaaGreat
open Go.RowKit
set_option linter.unusedVariables false
set_option linter.unusedSimpArgs false
set_option maxRecDepth 20000
/-- The cells of these names. -/
def nmC (ns:List Nat):List Value:=ns.flatMap fun s=>[.int .u32 (cO s:Int),.int .u16 (cS s:Int),.int .u16 (cL s:Int),.int .u32 (cG s:Int)]
theorem nmC_get:∀ {ns:List Nat} {j s:Nat},ns[j]?=some s→(nmC ns)[j * 4]?=some (.int .u32 (cO s:Int))∧(nmC ns)[j * 4+1]?=some (.int .u16 (cS s:Int))∧(nmC ns)[j * 4+2]?=some (.int .u16 (cL s:Int))∧(nmC ns)[j * 4+3]?=some (.int .u32 (cG s:Int))
 | [],j,s,h=>by simp at h
 | x :: ns,0,s,h=>by
  simp at h
  subst h
  exact ⟨rfl,rfl,rfl,rfl⟩
 | x :: ns,j+1,s,h=>by
  rw [List.getElem?_cons_succ] at h
  have ih:=nmC_get h
  have e:nmC (x :: ns)=[.int .u32 (cO x:Int),.int .u16 (cS x:Int),.int .u16 (cL x:Int),.int .u32 (cG x:Int)] ++ nmC ns:=rfl
  have key:∀ i,(nmC (x :: ns))[(j+1) * 4+i]?=(nmC ns)[j * 4+i]?:=fun i=>by
   rw [e,List.getElem?_append_right (by simp; omega)]
   congr 1
   simp
   omega
  exact ⟨(key 0).trans ih.1,(key 1).trans ih.2.1,(key 2).trans ih.2.2.1,(key 3).trans ih.2.2.2⟩
theorem ty_sh:Ty 53 (.agg #[.int .u32 0,.int .u16 0,.int .u16 0,.int .u32 0]) 4 12:=ty_of (by kernel_rfl) rfl (by omega) (by omega)
theorem nws_box {w:World} {m:Nat} {u0 u1 u2 u3:Value} (h:Box4 w m u0 u1 u2 u3) (o0:u0.oneCell'=true) (o1:u1.oneCell'=true) (o2:u2.oneCell'=true) (o3:u3.oneCell'=true):Nws w ⟨m,0,none⟩ 1 4 [u0,u1,u2,u3]:=by
 obtain ⟨h0,h1,h2,h3⟩:=h.cell
 refine ⟨rfl,fun j x hx=>?_,fun x hx=>?_⟩
 ·match j,hx with
  | 0,hx=>simp at hx; subst hx; rw [add_none]; exact h0
  | 1,hx=>simp at hx; subst hx; rw [add_none]; exact h1
  | 2,hx=>simp at hx; subst hx; rw [add_none]; exact h2
  | 3,hx=>simp at hx; subst hx; rw [add_none]; exact h3
  | j+4,hx=>simp at hx
 ·simp at hx
  rcases hx with rfl | rfl | rfl | rfl
  ·exact o0
  ·exact o1
  ·exact o2
  ·exact o3
theorem nmC_append (L M:List Nat):nmC (L ++ M)=nmC L ++ nmC M:=by simp [nmC]
theorem nmC_one (L:List Nat):∀ u ∈ nmC L,u.oneCell'=true:=fun u hu=>by
 obtain ⟨p,_,hp⟩:=List.mem_flatMap.1 hu
 simp at hp
 rcases hp with rfl | rfl | rfl | rfl <;> rfl
theorem nmC_take:∀ (L:List Nat) (k:Nat),(nmC L).take (k * 4)=nmC (L.take k)
 | [],k=>by simp [nmC]
 | p :: L,0=>by simp [nmC]
 | p :: L,k+1=>by
  have ih:=nmC_take L k
  have e:nmC (p :: L)=[.int .u32 (cO p:Int),.int .u16 (cS p:Int),.int .u16 (cL p:Int),.int .u32 (cG p:Int)] ++ nmC L:=rfl
  have e2:nmC (p :: L.take k)=[.int .u32 (cO p:Int),.int .u16 (cS p:Int),.int .u16 (cL p:Int),.int .u32 (cG p:Int)] ++ nmC (L.take k):=rfl
  rw [List.take_succ_cons,e,e2,← ih,List.take_append,List.take_of_length_le (by simp; omega)]
  congr 2
  simp
  omega
theorem nmC_drop:∀ (L:List Nat) (k:Nat),(nmC L).drop (k * 4)=nmC (L.drop k)
 | [],k=>by simp [nmC]
 | p :: L,0=>by simp
 | p :: L,k+1=>by
  have ih:=nmC_drop L k
  have e:nmC (p :: L)=[.int .u32 (cO p:Int),.int .u16 (cS p:Int),.int .u16 (cL p:Int),.int .u32 (cG p:Int)] ++ nmC L:=rfl
  rw [List.drop_succ_cons,e,← ih,List.drop_append,List.drop_eq_nil_of_le (by simp; omega),List.nil_append]
  congr 1
  simp
  omega
theorem nm_elem:Tryz.prog.elem 74=53:=by kernel_rfl
theorem nm_under:Tryz.prog.underlying 74=some (.slice (Tryz.prog.elem 74)):=by rw [nm_elem]; exact Tryz.underlying74
theorem nm_size (w:World):(sizeOf (Tryz.prog.elem 74)).run Tryz.prog w=.ok 4 w:=by
 obtain ⟨⟨i0,hi0,hz0,hz1,hz2⟩,_⟩:=ty_sh
 rw [nm_elem]
 have hc:=sh_cells
 simp [run_sizeOf,hi0,hz1,hc]
/-- One of the names. -/
theorem nm_cell {w:World} {base n c j s:Nat} {A:Option Addr} {ns:List Nat} (h:OwnT w base 53 4 (.slice A n c) ns.length (nmC ns)) (hj:ns[j]?=some s):∃ g,A=some ⟨g,0,none⟩∧g < w.heap.size∧w.cell? ⟨g,j * 4,none⟩=some (.int .u32 (cO s:Int))∧w.cell? ⟨g,j * 4+1,none⟩=some (.int .u16 (cS s:Int))∧w.cell? ⟨g,j * 4+2,none⟩=some (.int .u16 (cL s:Int))∧w.cell? ⟨g,j * 4+3,none⟩=some (.int .u32 (cG s:Int)):=by
 obtain ⟨e0,e1,e2,e3⟩:=nmC_get hj
 obtain ⟨g,rfl,_,hl,_,c0⟩:=h.cell e0
 exact ⟨g,rfl,hl,c0,h.cellAt e1,h.cellAt e2,h.cellAt e3⟩
end Go.Proofs.YtnfcfdhlmeimhaaGreat
namespace Go.Proofs.YtnfcfdhlmeimhaaGreat
open Go.RowKit
set_option linter.unusedVariables false
set_option linter.unusedSimpArgs false
set_option maxRecDepth 20000
theorem less_yes {a b:Nat} (h:a < b) (w:World):Calls Tryz.prog 91 #[shV a,shV b] w fun e w1=>e=.returned (.bool true)∧Kp No w w1:=by
 have hl:=lt_parts (m:=a) (n:=b)
 unfold shV
 generalize cO a=a0 at hl ⊢
 generalize cO b=b0 at hl ⊢
 generalize cS a=a1 at hl ⊢
 generalize cS b=b1 at hl ⊢
 generalize cL a=a2 at hl ⊢
 generalize cL b=b2 at hl ⊢
 generalize cG a=a3 at hl ⊢
 generalize cG b=b3 at hl ⊢
 have k2:Kp No w ((w.alloc (.cells #[.int .u32 (a0:Int),.int .u16 (a1:Int),.int .u16 (a2:Int),.int .u32 (a3:Int)] 53)).alloc (.cells #[.int .u32 (b0:Int),.int .u16 (b1:Int),.int .u16 (b2:Int),.int .u32 (b3:Int)] 53)):=(Kp.alloc No w _).trans' (Kp.alloc No _ _)
 have HK:=hide k2
 clear k2
 by_cases e0:a0=b0
 ·subst e0
  by_cases e1:a1=b1
  ·subst e1
   by_cases e2:a2=b2
   ·subst e2
    have y3:(a3:Int) < (b3:Int):=by omega
    clear hl h
    go_enter Tryz.func91,Tryz.ntmps91
    go_wp2
    go_ret
    exact ⟨rfl,HK.out⟩
   ·have z2:((a2:Int) == (b2:Int))=false:=by simp; omega
    have y2:(a2:Int) < (b2:Int):=by omega
    clear hl h
    go_enter Tryz.func91,Tryz.ntmps91
    go_wp2
    go_ret
    exact ⟨rfl,HK.out⟩
  ·have z1:((a1:Int) == (b1:Int))=false:=by simp; omega
   have y1:(a1:Int) < (b1:Int):=by omega
   clear hl h
   go_enter Tryz.func91,Tryz.ntmps91
   go_wp2
   go_ret
   exact ⟨rfl,HK.out⟩
 ·have z0:((a0:Int) == (b0:Int))=false:=by simp; omega
  have y0:(a0:Int) < (b0:Int):=by omega
  clear hl h
  go_enter Tryz.func91,Tryz.ntmps91
  go_wp2
  go_ret
  exact ⟨rfl,HK.out⟩
theorem less_no {a b:Nat} (h:¬ a < b) (w:World):Calls Tryz.prog 91 #[shV a,shV b] w fun e w1=>e=.returned (.bool false)∧Kp No w w1:=by
 have hl:=lt_parts (m:=a) (n:=b)
 unfold shV
 generalize cO a=a0 at hl ⊢
 generalize cO b=b0 at hl ⊢
 generalize cS a=a1 at hl ⊢
 generalize cS b=b1 at hl ⊢
 generalize cL a=a2 at hl ⊢
 generalize cL b=b2 at hl ⊢
 generalize cG a=a3 at hl ⊢
 generalize cG b=b3 at hl ⊢
 have k2:Kp No w ((w.alloc (.cells #[.int .u32 (a0:Int),.int .u16 (a1:Int),.int .u16 (a2:Int),.int .u32 (a3:Int)] 53)).alloc (.cells #[.int .u32 (b0:Int),.int .u16 (b1:Int),.int .u16 (b2:Int),.int .u32 (b3:Int)] 53)):=(Kp.alloc No w _).trans' (Kp.alloc No _ _)
 have HK:=hide k2
 clear k2
 by_cases e0:a0=b0
 ·subst e0
  by_cases e1:a1=b1
  ·subst e1
   by_cases e2:a2=b2
   ·subst e2
    have y3:¬ (a3:Int) < (b3:Int):=by omega
    clear hl h
    go_enter Tryz.func91,Tryz.ntmps91
    go_wp2
    go_ret
    exact ⟨rfl,HK.out⟩
   ·have z2:((a2:Int) == (b2:Int))=false:=by simp; omega
    have y2:¬ (a2:Int) < (b2:Int):=by omega
    clear hl h
    go_enter Tryz.func91,Tryz.ntmps91
    go_wp2
    go_ret
    exact ⟨rfl,HK.out⟩
  ·have z1:((a1:Int) == (b1:Int))=false:=by simp; omega
   have y1:¬ (a1:Int) < (b1:Int):=by omega
   clear hl h
   go_enter Tryz.func91,Tryz.ntmps91
   go_wp2
   go_ret
   exact ⟨rfl,HK.out⟩
 ·have z0:((a0:Int) == (b0:Int))=false:=by simp; omega
  have y0:¬ (a0:Int) < (b0:Int):=by omega
  clear hl h
  go_enter Tryz.func91,Tryz.ntmps91
  go_wp2
  go_ret
  exact ⟨rfl,HK.out⟩
end Go.Proofs.YtnfcfdhlmeimhaaGreat
