/- The document's List of layer 12, as a contract over memory. -/
import Derived.Test.YtnfcfdhlmeimhaaGreatSpbi
import Derived.Test.YtnfcfdhlmeimhaaGreatSpbo
import Derived.Deep.DeepCutAuto
import Derived.Deep.CutBlock
namespace Go.Proofs.YtnfcfdhlmeimhaaGreat
open Go.RowKit
set_option linter.unusedVariables false
set_option linter.unusedSimpArgs false
set_option maxRecDepth 20000
/-- So many names are in order. -/
structure ListI (w:World) (x0 x1 x2 x3 x4:Value) (L:List (Nat × Nat)) (s0 i:Nat) (A:Option Addr) (n c:Nat) (wr:World):Prop where
 bv:Bx5 wr s0 x0 x1 x2 x3 x4
 own:OwnT wr w.heap.size 53 4 (.slice A n c) n (nmC (lst L i))
 n:n=i
 kp:Kp No w wr
theorem ListI.no {w wr w1:World} {x0 x1 x2 x3 x4:Value} {L:List (Nat × Nat)} {s0 i n c:Nat} {A:Option Addr} (h:ListI w x0 x1 x2 x3 x4 L s0 i A n c wr) (hk:Kp No wr w1):ListI w x0 x1 x2 x3 x4 L s0 i A n c w1:=⟨h.bv.no hk,h.own.no hk,h.n,h.kp.trans' hk⟩
theorem ListI.next {w wz w6:World} {x0 x1 x2 x3 x4:Value} {L:List (Nat × Nat)} {s0 i n c j m2 b n6 c6 t:Nat} {A A6:Option Addr} (h:ListI w x0 x1 x2 x3 x4 L s0 i A n c wz) (hk:Kp No wz w6)
  (ho:OwnT w6 b 53 4 (.slice A6 n6 c6) (j+1+m2) ((nmC (lst L i)).take (j * 4) ++ [.int .u32 (cO t:Int),.int .u16 (cS t:Int),.int .u16 (cL t:Int),.int .u32 (cG t:Int)] ++ (nmC (lst L i)).drop (j * 4))) (hn:n6=j+1+m2) (hge:∀ q,(Value.slice A6 n6 c6).ownBlock=some q→wz.heap.size≤q)
  (hj:lst L (i+1)=(lst L i).take j ++ [t] ++ (lst L i).drop j) (hm:j+m2=n):ListI w x0 x1 x2 x3 x4 L s0 (i+1) A6 n6 c6 w6:=by
 have h1:=h.no hk
 refine ⟨h1.bv,?_,by rw [hn,← h.n]; omega,h1.kp⟩
 rw [hj,nmC_append,nmC_append,← nmC_take,← nmC_drop]
 rw [← hn] at ho
 exact ownT_rebase ho fun q e=>Nat.le_trans h.kp.size (hge q e)
/-- What the document's List returns. -/
def RlPost (w:World) (ns:List Nat) (e:Ending) (w1:World):Prop:=∃ A n c,e=.returned (.slice A n c)∧OwnT w1 w.heap.size 53 4 (.slice A n c) n (nmC ns)∧n=ns.length∧Kp No w w1
set_option maxHeartbeats 8000000 in
theorem rlist12_any {w:World} {F:Nat→Prop} {V:Vt} {v:Value} (h:RvAt w F V v):Calls Tryz.prog 50 #[v] w (RlPost w V.lst):=by
 obtain ⟨vc,vl,vk,cs,ls,rfl,h⟩:=h
 obtain ⟨gc,cc,A,cl,A2,ck,rfl,rfl,rfl⟩:=h.forms
 have hv:=Bx5.new w (.int .i64 (V.D.size:Int)) (.slice (some ⟨gc,0,none⟩) V.D.cells.length cc) (.slice A V.D.loose.length cl) (.int .i64 (V.D.syncs:Int)) (.slice A2 V.L.length ck)
 have k0:=Kp.alloc No w (.cells #[.int .i64 (V.D.size:Int),.slice (some ⟨gc,0,none⟩) V.D.cells.length cc,.slice A V.D.loose.length cl,.int .i64 (V.D.syncs:Int),.slice A2 V.L.length ck] 42)
 have HH:=hide h
 have hLL:V.L.length≤1024:=Nat.le_trans h.ok.kn.len h.ok.dk.n1
 have HI0:Hid (ListI w (.int .i64 (V.D.size:Int)) (.slice (some ⟨gc,0,none⟩) V.D.cells.length cc) (.slice A V.D.loose.length cl) (.int .i64 (V.D.syncs:Int)) (.slice A2 V.L.length ck) V.L w.heap.size 0 none 0 0 (w.alloc (.cells #[.int .i64 (V.D.size:Int),.slice (some ⟨gc,0,none⟩) V.D.cells.length cc,.slice A V.D.loose.length cl,.int .i64 (V.D.syncs:Int),.slice A2 V.L.length ck] 42))):=⟨hv,OwnT.nil _ _ _ _,rfl,k0⟩
 clear h hv k0
 unfold rvV
 go_enter Tryz.func50,Tryz.ntmps50
 go_upto_region 1 with fail
 generalize (w.alloc (.cells #[.int .i64 (V.D.size:Int),.slice (some ⟨gc,0,none⟩) V.D.cells.length cc,.slice A V.D.loose.length cl,.int .i64 (V.D.syncs:Int),.slice A2 V.L.length ck] 42))=w0 at HI0 ⊢
 obtain ⟨s0,hs0⟩:∃ s0,s0=w.heap.size:=⟨_,rfl⟩
 rw [← hs0] at HI0 ⊢
 clear hs0
 go_wp2_with fail
 go_loopw [3,4] (fun ov iv wr=>∃ (i:Nat) (A1:Option Addr) (n c:Nat),i≤V.L.length∧iv=.int .i64 (i:Int)∧ov=.slice A1 n c∧ListI w (.int .i64 (V.D.size:Int)) (.slice (some ⟨gc,0,none⟩) V.D.cells.length cc) (.slice A V.D.loose.length cl) (.int .i64 (V.D.syncs:Int)) (.slice A2 V.L.length ck) V.L s0 i A1 n c wr) (fun _ iv _=>V.L.length - (intOf iv).toNat)
 case atStart=>exact ⟨0,none,0,0,Nat.zero_le _,rfl,rfl,HI0.out⟩
 case round =>
  obtain ⟨i,A1,n,c,hi,rfl,rfl,hI⟩:=hrel
  obtain ⟨v0,v1,v2,v3,v4⟩:=hI.bv.cell
  have HI:=hide hI
  have HNI:=hide hI.n
  have hnb:n≤1024:=by have:=hI.n; omega
  clear v0 v1 v2 v3 hI
  by_cases hlt:i < V.L.length
  ·have hlz:(i:Int) < V.L.length:=by omega
   obtain ⟨p,hp⟩:∃ p,V.L[i]?=some p:=⟨_,List.getElem?_eq_getElem hlt⟩
   obtain ⟨gk,rfl,_,c1,c2',c3,c4⟩:=HH.out.kn.cell hp
   obtain ⟨t,ht⟩:∃ t,t=p.2:=⟨_,rfl⟩
   rw [← ht] at c1 c2' c3 c4
   have hLi:(lst V.L i).length=n:=by rw [lst_len,HNI.out]
   have hlst:lst V.L (i+1)=insL t (lst V.L i):=by
    show insL (V.L.getD i (0,0)).2 (lst V.L i)=_
    rw [List.getD_eq_getElem?_getD,hp,ht]
    rfl
   have HLST:=hide hlst
   have HLI:=hide hLi
   rename World=>wo
   clear hp ht hlst hLi
   go_upto_block 2 with fail
   go_cut [5] (fun kv wx=>∃ j:Nat,j≤n∧kv=.int .i64 (j:Int)∧lst V.L (i+1)=(lst V.L i).take j ++ [t] ++ (lst V.L i).drop j∧Kp No wo wx)
   case first =>
    go_wp2_with fail
    go_loopw [5] (fun kv wr=>∃ j:Nat,j≤n∧kv=.int .i64 (j:Int)∧Hid (dwn t (lst V.L i) n=dwn t (lst V.L i) j)∧Kp No wo wr) (fun kv _=>(intOf kv).toNat)
    case atStart=>exact ⟨n,Nat.le_refl _,rfl,rfl,Kp.refl _ _⟩
    case round =>
     obtain ⟨j1,hj1,rfl,HD,hkr⟩:=hrel
     have HKR:=hide hkr
     by_cases hj0':j1=0
     ·have hjz:¬ (0:Int) < (j1:Int):=by omega
      have hjzN:¬ 0 < j1:=by omega
      have hjzE:decide (0 < j1)=false:=by simp; omega
      have HJN:Hid (lst V.L (i+1)=(lst V.L i).take j1 ++ [t] ++ (lst V.L i).drop j1):=by
       show _=_
       have e:dwn t (lst V.L i) n=j1:=by rw [HD.out,hj0']; rfl
       rw [HLST.out]
       unfold insL
       rw [HLI.out,e]
      clear hkr hj0'
      go_wp2_with fail
      refine wp_region_noPanic ?_
      refine wp_region_held_drew (S:=fun w'=>Kp No wr w') (by kernel_rfl) ((Kp.refl No wr).drew) (fun hHeld=>?_)
      refine wpAnyH_take (i:=0) (v:=?vcx1) (oi:=?ocx1) ?hcx1 (by kernel_rfl) (by kernel_rfl) (by kernel_rfl) (fun _ _ _ h=>h) (Or.inl ⟨?wcx1,?ycx1⟩) hHeld ?rcx1
      case hcx1=>simp only [gA0,gA1,gA2]; rfl
      case wcx1=>rfl
      case ycx1=>intro w hSw; (try dsimp only at hSw); go_simp; (try with_reducible rfl)
      simp only [Act.put,sA0,sA1,sA2]
      refine wpAnyH_take (i:=1) (v:=?vcx2) (oi:=?ocx2) ?hcx2 (by kernel_rfl) (by kernel_rfl) (by kernel_rfl) (fun _ _ _ h=>h) (Or.inl ⟨?wcx2,?ycx2⟩) hHeld ?rcx2
      case hcx2=>simp only [gA0,gA1,gA2]; rfl
      case wcx2=>rfl
      case ycx2=>intro w hSw; (try dsimp only at hSw); go_simp; (try with_reducible rfl)
      simp only [Act.put,sA0,sA1,sA2]
      refine wpAnyH_take (i:=2) (v:=?vcx3) (oi:=?ocx3) ?hcx3 (by kernel_rfl) (by kernel_rfl) (by kernel_rfl) (fun _ _ _ h=>h) (Or.inl ⟨?wcx3,?ycx3⟩) hHeld ?rcx3
      case hcx3=>simp only [gA0,gA1,gA2]; rfl
      case wcx3=>rfl
      case ycx3=>intro w hSw; (try dsimp only at hSw); go_simp; (try with_reducible rfl)
      simp only [Act.put,sA0,sA1,sA2]
      refine wpAnyH_take (i:=3) (v:=undef) (oi:=?ocx4) ?hcx4 (by kernel_rfl) (by kernel_rfl) (by kernel_rfl) (fun _ _ _ h=>h) (Or.inr ⟨?wcx4,rfl⟩) hHeld ?rcx4
      case hcx4=>simp only [gA0,gA1,gA2]; rfl
      case wcx4=>rfl
      simp only [Act.put,sA0,sA1,sA2]
      refine wpAnyH_take (i:=4) (v:=undef) (oi:=?ocx5) ?hcx5 (by kernel_rfl) (by kernel_rfl) (by kernel_rfl) (fun _ _ _ h=>h) (Or.inr ⟨?wcx5,rfl⟩) hHeld ?rcx5
      case hcx5=>simp only [gA0,gA1,gA2]; rfl
      case wcx5=>rfl
      simp only [Act.put,sA0,sA1,sA2]
      refine wpAnyH_take (i:=5) (v:=undef) (oi:=?ocx6) ?hcx6 (by kernel_rfl) (by kernel_rfl) (by kernel_rfl) (fun _ _ _ h=>h) (Or.inr ⟨?wcx6,rfl⟩) hHeld ?rcx6
      case hcx6=>simp only [gA0,gA1,gA2]; rfl
      case wcx6=>rfl
      simp only [Act.put,sA0,sA1,sA2]
      refine wpAnyH_take (i:=6) (v:=undef) (oi:=?ocx7) ?hcx7 (by kernel_rfl) (by kernel_rfl) (by kernel_rfl) (fun _ _ _ h=>h) (Or.inr ⟨?wcx7,rfl⟩) hHeld ?rcx7
      case hcx7=>simp only [gA0,gA1,gA2]; rfl
      case wcx7=>rfl
      simp only [Act.put,sA0,sA1,sA2]
      refine wpAnyH_take (i:=7) (v:=undef) (oi:=?ocx8) ?hcx8 (by kernel_rfl) (by kernel_rfl) (by kernel_rfl) (fun _ _ _ h=>h) (Or.inr ⟨?wcx8,rfl⟩) hHeld ?rcx8
      case hcx8=>simp only [gA0,gA1,gA2]; rfl
      case wcx8=>rfl
      simp only [Act.put,sA0,sA1,sA2]
      refine wpAnyH_take (i:=8) (v:=undef) (oi:=?ocx9) ?hcx9 (by kernel_rfl) (by kernel_rfl) (by kernel_rfl) (fun _ _ _ h=>h) (Or.inr ⟨?wcx9,rfl⟩) hHeld ?rcx9
      case hcx9=>simp only [gA0,gA1,gA2]; rfl
      case wcx9=>rfl
      simp only [Act.put,sA0,sA1,sA2]
      refine wpAnyH_take (i:=9) (v:=undef) (oi:=?ocx10) ?hcx10 (by kernel_rfl) (by kernel_rfl) (by kernel_rfl) (fun _ _ _ h=>h) (Or.inr ⟨?wcx10,rfl⟩) hHeld ?rcx10
      case hcx10=>simp only [gA0,gA1,gA2]; rfl
      case wcx10=>rfl
      simp only [Act.put,sA0,sA1,sA2]
      refine wpAnyH_take (i:=10) (v:=undef) (oi:=?ocx11) ?hcx11 (by kernel_rfl) (by kernel_rfl) (by kernel_rfl) (fun _ _ _ h=>h) (Or.inr ⟨?wcx11,rfl⟩) hHeld ?rcx11
      case hcx11=>simp only [gA0,gA1,gA2]; rfl
      case wcx11=>rfl
      simp only [Act.put,sA0,sA1,sA2]
      refine wpAnyH_take (i:=11) (v:=undef) (oi:=?ocx12) ?hcx12 (by kernel_rfl) (by kernel_rfl) (by kernel_rfl) (fun _ _ _ h=>h) (Or.inr ⟨?wcx12,rfl⟩) hHeld ?rcx12
      case hcx12=>simp only [gA0,gA1,gA2]; rfl
      case wcx12=>rfl
      simp only [Act.put,sA0,sA1,sA2]
      refine wpAnyH_take (i:=12) (v:=undef) (oi:=?ocx13) ?hcx13 (by kernel_rfl) (by kernel_rfl) (by kernel_rfl) (fun _ _ _ h=>h) (Or.inr ⟨?wcx13,rfl⟩) hHeld ?rcx13
      case hcx13=>simp only [gA0,gA1,gA2]; rfl
      case wcx13=>rfl
      simp only [Act.put,sA0,sA1,sA2]
      refine wpAnyH_take (i:=13) (v:=undef) (oi:=?ocx14) ?hcx14 (by kernel_rfl) (by kernel_rfl) (by kernel_rfl) (fun _ _ _ h=>h) (Or.inr ⟨?wcx14,rfl⟩) hHeld ?rcx14
      case hcx14=>simp only [gA0,gA1,gA2]; rfl
      case wcx14=>rfl
      simp only [Act.put,sA0,sA1,sA2]
      refine wpAnyH_take (i:=14) (v:=undef) (oi:=?ocx15) ?hcx15 (by kernel_rfl) (by kernel_rfl) (by kernel_rfl) (fun _ _ _ h=>h) (Or.inr ⟨?wcx15,rfl⟩) hHeld ?rcx15
      case hcx15=>simp only [gA0,gA1,gA2]; rfl
      case wcx15=>rfl
      simp only [Act.put,sA0,sA1,sA2]
      refine wpAnyH_take (i:=15) (v:=?vcx16) (oi:=?ocx16) ?hcx16 (by kernel_rfl) (by kernel_rfl) (by kernel_rfl) (fun _ _ _ h=>h) (Or.inl ⟨?wcx16,?ycx16⟩) hHeld ?rcx16
      case hcx16=>simp only [gA0,gA1,gA2]; rfl
      case wcx16=>rfl
      case ycx16=>intro w hSw; (try dsimp only at hSw); go_simp; (try with_reducible rfl)
      simp only [Act.put,sA0,sA1,sA2]
      refine wpAnyH_done (by kernel_rfl) ?_ _
      refine NoPanic.normal ?_
      have HK3:=hide hHeld
      clear hHeld
      go_wp2_with fail
      go_meet
      exact ⟨j1,hj1,rfl,HJN.out,HKR.out.trans' HK3.out⟩
     ·obtain ⟨j,rfl⟩:∃ j,j1=j+1:=⟨j1 - 1,by omega⟩
      obtain ⟨r,hr⟩:∃ r,(lst V.L i)[j]?=some r:=⟨_,List.getElem?_eq_getElem (by have:=HLI.out; omega)⟩
      have hown:=(HI.out.no hkr).own
      rw [← HLI.out] at hown
      obtain ⟨go,rfl,hgo,d0,d1,d2,d3⟩:=nm_cell hown hr
      have hrd:(lst V.L i).getD j 0=r:=by rw [List.getD_eq_getElem?_getD,hr]; rfl
      have zj:((j+1:Nat):Int) - 1=(j:Int):=by omega
      have zw:IntKind.i64.wrap (((j+1:Nat):Int) - 1)=(j:Int):=by rw [IntKind.wrap_i64]; omega
      have zw2:IntKind.i64.wrap (j:Int)=(j:Int):=by rw [IntKind.wrap_i64]; omega
      obtain ⟨j2,hj2⟩:∃ j2,j2=j+1:=⟨_,rfl⟩
      rw [← hj2] at zj zw HD hj1 hj0' ⊢
      have hjz:(0:Int) < (j2:Int):=by omega
      have hjzN:0 < j2:=by omega
      have hjn:(j:Int) < n:=by omega
      have hj0:¬ (j:Int) < 0:=by omega
      have HDD:=hide HD.out
      have HJ2:=hide hj2
      have hS:∀ w',Kp No wr w'→Kp No wr w'∧w'.cell? ⟨s0,4,none⟩=some (.slice (some ⟨gk,0,none⟩) V.L.length ck)∧w'.cell? ⟨gk,i * 5+1,none⟩=some (.int .u32 (cO t:Int))∧w'.cell? ⟨gk,i * 5+2,none⟩=some (.int .u16 (cS t:Int))∧w'.cell? ⟨gk,i * 5+3,none⟩=some (.int .u16 (cL t:Int))∧w'.cell? ⟨gk,i * 5+4,none⟩=some (.int .u32 (cG t:Int))∧w'.cell? ⟨go,j * 4,none⟩=some (.int .u32 (cO r:Int))∧w'.cell? ⟨go,j * 4+1,none⟩=some (.int .u16 (cS r:Int))∧w'.cell? ⟨go,j * 4+2,none⟩=some (.int .u16 (cL r:Int))∧w'.cell? ⟨go,j * 4+3,none⟩=some (.int .u32 (cG r:Int)):=fun w' hk'=>⟨hk',by
       obtain ⟨_,_,_,_,y4⟩:=((HI.out.no HKR.out).bv.no hk').cell
       exact y4,kp_cell c1 ((HI.out.no HKR.out).kp.trans' hk'),kp_cell c2' ((HI.out.no HKR.out).kp.trans' hk'),kp_cell c3 ((HI.out.no HKR.out).kp.trans' hk'),kp_cell c4 ((HI.out.no HKR.out).kp.trans' hk'),kp_cell d0 hk',kp_cell d1 hk',kp_cell d2 hk',kp_cell d3 hk'⟩
      by_cases hlss:t < r
      ·have HLS:=hide (fun w'=>less_yes (a:=t) (b:=r) hlss w')
       have hdw:dwn t (lst V.L i) j=dwn t (lst V.L i) (j+1):=by
        show _=dwn t (lst V.L i) (j+1)
        rw [show dwn t (lst V.L i) (j+1)=if t < (lst V.L i).getD j 0 then dwn t (lst V.L i) j else j+1 from rfl,hrd,if_pos hlss]
       rw [← hj2] at hdw
       have HDW:=hide hdw
       unfold shV at HLS
       clear hkr hown d0 d1 d2 d3 hr hrd hlss hdw hj2
       go_wp2_with fail
       refine wp_region_noPanic ?_
       refine wp_region_held_drew (S:=fun w'=>Kp No wr w'∧w'.cell? ⟨s0,4,none⟩=some (.slice (some ⟨gk,0,none⟩) V.L.length ck)∧w'.cell? ⟨gk,i * 5+1,none⟩=some (.int .u32 (cO t:Int))∧w'.cell? ⟨gk,i * 5+2,none⟩=some (.int .u16 (cS t:Int))∧w'.cell? ⟨gk,i * 5+3,none⟩=some (.int .u16 (cL t:Int))∧w'.cell? ⟨gk,i * 5+4,none⟩=some (.int .u32 (cG t:Int))∧w'.cell? ⟨go,j * 4,none⟩=some (.int .u32 (cO r:Int))∧w'.cell? ⟨go,j * 4+1,none⟩=some (.int .u16 (cS r:Int))∧w'.cell? ⟨go,j * 4+2,none⟩=some (.int .u16 (cL r:Int))∧w'.cell? ⟨go,j * 4+3,none⟩=some (.int .u32 (cG r:Int))) (by kernel_rfl) (hS _ (Kp.refl No wr).drew) (fun hHeld=>?_)
       refine wpAnyH_take (i:=0) (v:=?vax1) (oi:=?oax1) ?hax1 (by kernel_rfl) (by kernel_rfl) (by kernel_rfl) (fun _ _ _ h=>h) (Or.inl ⟨?wax1,?yax1⟩) hHeld ?rax1
       case hax1=>simp only [gA0,gA1,gA2]; rfl
       case wax1=>rfl
       case yax1=>intro w hSw; (try dsimp only at hSw); go_simp; (try with_reducible rfl)
       simp only [Act.put,sA0,sA1,sA2]
       refine wpAnyH_take (i:=1) (v:=?vax2) (oi:=?oax2) ?hax2 (by kernel_rfl) (by kernel_rfl) (by kernel_rfl) (fun _ _ _ h=>h) (Or.inl ⟨?wax2,?yax2⟩) hHeld ?rax2
       case hax2=>simp only [gA0,gA1,gA2]; rfl
       case wax2=>rfl
       case yax2=>intro w hSw; (try dsimp only at hSw); go_simp; (try with_reducible rfl)
       simp only [Act.put,sA0,sA1,sA2]
       refine wpAnyH_take (i:=2) (v:=?vax3) (oi:=?oax3) ?hax3 (by kernel_rfl) (by kernel_rfl) (by kernel_rfl) (fun _ _ _ h=>h) (Or.inl ⟨?wax3,?yax3⟩) hHeld ?rax3
       case hax3=>simp only [gA0,gA1,gA2]; rfl
       case wax3=>rfl
       case yax3=>intro w hSw; (try dsimp only at hSw); go_simp; (try with_reducible rfl)
       simp only [Act.put,sA0,sA1,sA2]
       refine wpAnyH_take (i:=3) (v:=?vax4) (oi:=?oax4) ?hax4 (by kernel_rfl) (by kernel_rfl) (by kernel_rfl) (fun _ _ _ h=>h) (Or.inl ⟨?wax4,?yax4⟩) hHeld ?rax4
       case hax4=>simp only [gA0,gA1,gA2]; rfl
       case wax4=>rfl
       case yax4=>intro w hSw; (try dsimp only at hSw); go_simp; (try with_reducible rfl)
       simp only [Act.put,sA0,sA1,sA2]
       refine wpAnyH_take (i:=4) (v:=?vax5) (oi:=?oax5) ?hax5 (by kernel_rfl) (by kernel_rfl) (by kernel_rfl) (fun _ _ _ h=>h) (Or.inl ⟨?wax5,?yax5⟩) hHeld ?rax5
       case hax5=>simp only [gA0,gA1,gA2]; rfl
       case wax5=>rfl
       case yax5=>intro w hSw; (try dsimp only at hSw); go_simp; (try with_reducible rfl)
       simp only [Act.put,sA0,sA1,sA2]
       refine wpAnyH_take (i:=5) (v:=?vax6) (oi:=?oax6) ?hax6 (by kernel_rfl) (by kernel_rfl) (by kernel_rfl) (fun _ _ _ h=>h) (Or.inl ⟨?wax6,?yax6⟩) hHeld ?rax6
       case hax6=>simp only [gA0,gA1,gA2]; rfl
       case wax6=>rfl
       case yax6=>intro w hSw; (try dsimp only at hSw); go_simp; (try with_reducible rfl)
       simp only [Act.put,sA0,sA1,sA2]
       refine wpAnyH_take (i:=6) (v:=?vax7) (oi:=?oax7) ?hax7 (by kernel_rfl) (by kernel_rfl) (by kernel_rfl) (fun _ _ _ h=>h) (Or.inl ⟨?wax7,?yax7⟩) hHeld ?rax7
       case hax7=>simp only [gA0,gA1,gA2]; rfl
       case wax7=>rfl
       case yax7=>intro w hSw; (try dsimp only at hSw); go_simp; (try with_reducible rfl)
       simp only [Act.put,sA0,sA1,sA2]
       refine wpAnyH_take (i:=7) (v:=?vax8) (oi:=?oax8) ?hax8 (by kernel_rfl) (by kernel_rfl) (by kernel_rfl) (fun _ _ _ h=>h) (Or.inl ⟨?wax8,?yax8⟩) hHeld ?rax8
       case hax8=>simp only [gA0,gA1,gA2]; rfl
       case wax8=>rfl
       case yax8=>intro w hSw; (try dsimp only at hSw); go_simp; (try with_reducible rfl)
       simp only [Act.put,sA0,sA1,sA2]
       refine wpAnyH_take (i:=8) (v:=?vax9) (oi:=?oax9) ?hax9 (by kernel_rfl) (by kernel_rfl) (by kernel_rfl) (fun _ _ _ h=>h) (Or.inl ⟨?wax9,?yax9⟩) hHeld ?rax9
       case hax9=>simp only [gA0,gA1,gA2]; rfl
       case wax9=>rfl
       case yax9=>intro w hSw; (try dsimp only at hSw); go_simp; (try with_reducible rfl)
       simp only [Act.put,sA0,sA1,sA2]
       refine wpAnyH_take (i:=9) (v:=?vax10) (oi:=?oax10) ?hax10 (by kernel_rfl) (by kernel_rfl) (by kernel_rfl) (fun _ _ _ h=>h) (Or.inl ⟨?wax10,?yax10⟩) hHeld ?rax10
       case hax10=>simp only [gA0,gA1,gA2]; rfl
       case wax10=>rfl
       case yax10=>intro w hSw; (try dsimp only at hSw); go_simp; (try with_reducible rfl)
       simp only [Act.put,sA0,sA1,sA2]
       refine wpAnyH_take (i:=10) (v:=?vax11) (oi:=?oax11) ?hax11 (by kernel_rfl) (by kernel_rfl) (by kernel_rfl) (fun _ _ _ h=>h) (Or.inl ⟨?wax11,?yax11⟩) hHeld ?rax11
       case hax11=>simp only [gA0,gA1,gA2]; rfl
       case wax11=>rfl
       case yax11=>intro w hSw; (try dsimp only at hSw); go_simp; (try with_reducible rfl)
       simp only [Act.put,sA0,sA1,sA2]
       refine wpAnyH_take (i:=11) (v:=?vax12) (oi:=?oax12) ?hax12 (by kernel_rfl) (by kernel_rfl) (by kernel_rfl) (fun _ _ _ h=>h) (Or.inl ⟨?wax12,?yax12⟩) hHeld ?rax12
       case hax12=>simp only [gA0,gA1,gA2]; rfl
       case wax12=>rfl
       case yax12=>intro w hSw; (try dsimp only at hSw); go_simp; (try with_reducible rfl)
       simp only [Act.put,sA0,sA1,sA2]
       refine wpAnyH_take (i:=12) (v:=?vax13) (oi:=?oax13) ?hax13 (by kernel_rfl) (by kernel_rfl) (by kernel_rfl) (fun _ _ _ h=>h) (Or.inl ⟨?wax13,?yax13⟩) hHeld ?rax13
       case hax13=>simp only [gA0,gA1,gA2]; rfl
       case wax13=>rfl
       case yax13=>intro w hSw; (try dsimp only at hSw); go_simp; (try with_reducible rfl)
       simp only [Act.put,sA0,sA1,sA2]
       refine wpAnyH_take (i:=13) (v:=?vax14) (oi:=?oax14) ?hax14 (by kernel_rfl) (by kernel_rfl) (by kernel_rfl) (fun _ _ _ h=>h) (Or.inl ⟨?wax14,?yax14⟩) hHeld ?rax14
       case hax14=>simp only [gA0,gA1,gA2]; rfl
       case wax14=>rfl
       case yax14=>intro w hSw; (try dsimp only at hSw); go_simp; (try with_reducible rfl)
       simp only [Act.put,sA0,sA1,sA2]
       refine wpAnyH_ready (rs:=[14]) (by kernel_rfl) (by simp) ?_
       refine AllReadyH.cons (o:=?oax15) ?hax15 (fun K hK=>?sax15) AllReadyH.nil
       case hax15=>simp only [gA0,gA1,gA2]; rfl
       go_simp
       refine (HLS.out _).mono ?_
       rintro e w3 ⟨rfl,k3⟩
       have h3:=hS _ (hHeld.1.trans' k3)
       go_wp2_with fail
       refine hK.out _ _ (h3) (fun hHeld=>?_)
       clear hK K
       try simp only [Act.put,sA0,sA1,sA2]
       refine wpAnyH_take (i:=15) (v:=?vax16) (oi:=?oax16) ?hax16 (by kernel_rfl) (by kernel_rfl) (by kernel_rfl) (fun _ _ _ h=>h) (Or.inl ⟨?wax16,?yax16⟩) hHeld ?rax16
       case hax16=>simp only [gA0,gA1,gA2]; rfl
       case wax16=>rfl
       case yax16=>intro w hSw; (try dsimp only at hSw); go_simp; (try with_reducible rfl)
       simp only [Act.put,sA0,sA1,sA2]
       refine wpAnyH_done (by kernel_rfl) ?_ _
       refine NoPanic.normal ?_
       have HK3:=hide hHeld.1
       clear hHeld h3 hS
       go_wp2_with fail
       go_round
       case rel=>exact ⟨j,by omega,by go_num,by rw [HDW.out]; exact HDD.out,HKR.out.trans' HK3.out⟩
       case measure=>simp [intOf]; omega
      ·have HLS:=hide (fun w'=>less_no (a:=t) (b:=r) hlss w')
       have hdw:dwn t (lst V.L i) (j+1)=j+1:=by
        rw [show dwn t (lst V.L i) (j+1)=if t < (lst V.L i).getD j 0 then dwn t (lst V.L i) j else j+1 from rfl,hrd,if_neg hlss]
       rw [← hj2] at hdw
       have HJN:Hid (lst V.L (i+1)=(lst V.L i).take j2 ++ [t] ++ (lst V.L i).drop j2):=by
        show _=_
        have e:dwn t (lst V.L i) n=j2:=by rw [HDD.out,hdw]
        rw [HLST.out]
        unfold insL
        rw [HLI.out,e]
       unfold shV at HLS
       clear hkr hown d0 d1 d2 d3 hr hrd hlss hdw hj2
       go_wp2_with fail
       refine wp_region_noPanic ?_
       refine wp_region_held_drew (S:=fun w'=>Kp No wr w'∧w'.cell? ⟨s0,4,none⟩=some (.slice (some ⟨gk,0,none⟩) V.L.length ck)∧w'.cell? ⟨gk,i * 5+1,none⟩=some (.int .u32 (cO t:Int))∧w'.cell? ⟨gk,i * 5+2,none⟩=some (.int .u16 (cS t:Int))∧w'.cell? ⟨gk,i * 5+3,none⟩=some (.int .u16 (cL t:Int))∧w'.cell? ⟨gk,i * 5+4,none⟩=some (.int .u32 (cG t:Int))∧w'.cell? ⟨go,j * 4,none⟩=some (.int .u32 (cO r:Int))∧w'.cell? ⟨go,j * 4+1,none⟩=some (.int .u16 (cS r:Int))∧w'.cell? ⟨go,j * 4+2,none⟩=some (.int .u16 (cL r:Int))∧w'.cell? ⟨go,j * 4+3,none⟩=some (.int .u32 (cG r:Int))) (by kernel_rfl) (hS _ (Kp.refl No wr).drew) (fun hHeld=>?_)
       refine wpAnyH_take (i:=0) (v:=?vbx1) (oi:=?obx1) ?hbx1 (by kernel_rfl) (by kernel_rfl) (by kernel_rfl) (fun _ _ _ h=>h) (Or.inl ⟨?wbx1,?ybx1⟩) hHeld ?rbx1
       case hbx1=>simp only [gA0,gA1,gA2]; rfl
       case wbx1=>rfl
       case ybx1=>intro w hSw; (try dsimp only at hSw); go_simp; (try with_reducible rfl)
       simp only [Act.put,sA0,sA1,sA2]
       refine wpAnyH_take (i:=1) (v:=?vbx2) (oi:=?obx2) ?hbx2 (by kernel_rfl) (by kernel_rfl) (by kernel_rfl) (fun _ _ _ h=>h) (Or.inl ⟨?wbx2,?ybx2⟩) hHeld ?rbx2
       case hbx2=>simp only [gA0,gA1,gA2]; rfl
       case wbx2=>rfl
       case ybx2=>intro w hSw; (try dsimp only at hSw); go_simp; (try with_reducible rfl)
       simp only [Act.put,sA0,sA1,sA2]
       refine wpAnyH_take (i:=2) (v:=?vbx3) (oi:=?obx3) ?hbx3 (by kernel_rfl) (by kernel_rfl) (by kernel_rfl) (fun _ _ _ h=>h) (Or.inl ⟨?wbx3,?ybx3⟩) hHeld ?rbx3
       case hbx3=>simp only [gA0,gA1,gA2]; rfl
       case wbx3=>rfl
       case ybx3=>intro w hSw; (try dsimp only at hSw); go_simp; (try with_reducible rfl)
       simp only [Act.put,sA0,sA1,sA2]
       refine wpAnyH_take (i:=3) (v:=?vbx4) (oi:=?obx4) ?hbx4 (by kernel_rfl) (by kernel_rfl) (by kernel_rfl) (fun _ _ _ h=>h) (Or.inl ⟨?wbx4,?ybx4⟩) hHeld ?rbx4
       case hbx4=>simp only [gA0,gA1,gA2]; rfl
       case wbx4=>rfl
       case ybx4=>intro w hSw; (try dsimp only at hSw); go_simp; (try with_reducible rfl)
       simp only [Act.put,sA0,sA1,sA2]
       refine wpAnyH_take (i:=4) (v:=?vbx5) (oi:=?obx5) ?hbx5 (by kernel_rfl) (by kernel_rfl) (by kernel_rfl) (fun _ _ _ h=>h) (Or.inl ⟨?wbx5,?ybx5⟩) hHeld ?rbx5
       case hbx5=>simp only [gA0,gA1,gA2]; rfl
       case wbx5=>rfl
       case ybx5=>intro w hSw; (try dsimp only at hSw); go_simp; (try with_reducible rfl)
       simp only [Act.put,sA0,sA1,sA2]
       refine wpAnyH_take (i:=5) (v:=?vbx6) (oi:=?obx6) ?hbx6 (by kernel_rfl) (by kernel_rfl) (by kernel_rfl) (fun _ _ _ h=>h) (Or.inl ⟨?wbx6,?ybx6⟩) hHeld ?rbx6
       case hbx6=>simp only [gA0,gA1,gA2]; rfl
       case wbx6=>rfl
       case ybx6=>intro w hSw; (try dsimp only at hSw); go_simp; (try with_reducible rfl)
       simp only [Act.put,sA0,sA1,sA2]
       refine wpAnyH_take (i:=6) (v:=?vbx7) (oi:=?obx7) ?hbx7 (by kernel_rfl) (by kernel_rfl) (by kernel_rfl) (fun _ _ _ h=>h) (Or.inl ⟨?wbx7,?ybx7⟩) hHeld ?rbx7
       case hbx7=>simp only [gA0,gA1,gA2]; rfl
       case wbx7=>rfl
       case ybx7=>intro w hSw; (try dsimp only at hSw); go_simp; (try with_reducible rfl)
       simp only [Act.put,sA0,sA1,sA2]
       refine wpAnyH_take (i:=7) (v:=?vbx8) (oi:=?obx8) ?hbx8 (by kernel_rfl) (by kernel_rfl) (by kernel_rfl) (fun _ _ _ h=>h) (Or.inl ⟨?wbx8,?ybx8⟩) hHeld ?rbx8
       case hbx8=>simp only [gA0,gA1,gA2]; rfl
       case wbx8=>rfl
       case ybx8=>intro w hSw; (try dsimp only at hSw); go_simp; (try with_reducible rfl)
       simp only [Act.put,sA0,sA1,sA2]
       refine wpAnyH_take (i:=8) (v:=?vbx9) (oi:=?obx9) ?hbx9 (by kernel_rfl) (by kernel_rfl) (by kernel_rfl) (fun _ _ _ h=>h) (Or.inl ⟨?wbx9,?ybx9⟩) hHeld ?rbx9
       case hbx9=>simp only [gA0,gA1,gA2]; rfl
       case wbx9=>rfl
       case ybx9=>intro w hSw; (try dsimp only at hSw); go_simp; (try with_reducible rfl)
       simp only [Act.put,sA0,sA1,sA2]
       refine wpAnyH_take (i:=9) (v:=?vbx10) (oi:=?obx10) ?hbx10 (by kernel_rfl) (by kernel_rfl) (by kernel_rfl) (fun _ _ _ h=>h) (Or.inl ⟨?wbx10,?ybx10⟩) hHeld ?rbx10
       case hbx10=>simp only [gA0,gA1,gA2]; rfl
       case wbx10=>rfl
       case ybx10=>intro w hSw; (try dsimp only at hSw); go_simp; (try with_reducible rfl)
       simp only [Act.put,sA0,sA1,sA2]
       refine wpAnyH_take (i:=10) (v:=?vbx11) (oi:=?obx11) ?hbx11 (by kernel_rfl) (by kernel_rfl) (by kernel_rfl) (fun _ _ _ h=>h) (Or.inl ⟨?wbx11,?ybx11⟩) hHeld ?rbx11
       case hbx11=>simp only [gA0,gA1,gA2]; rfl
       case wbx11=>rfl
       case ybx11=>intro w hSw; (try dsimp only at hSw); go_simp; (try with_reducible rfl)
       simp only [Act.put,sA0,sA1,sA2]
       refine wpAnyH_take (i:=11) (v:=?vbx12) (oi:=?obx12) ?hbx12 (by kernel_rfl) (by kernel_rfl) (by kernel_rfl) (fun _ _ _ h=>h) (Or.inl ⟨?wbx12,?ybx12⟩) hHeld ?rbx12
       case hbx12=>simp only [gA0,gA1,gA2]; rfl
       case wbx12=>rfl
       case ybx12=>intro w hSw; (try dsimp only at hSw); go_simp; (try with_reducible rfl)
       simp only [Act.put,sA0,sA1,sA2]
       refine wpAnyH_take (i:=12) (v:=?vbx13) (oi:=?obx13) ?hbx13 (by kernel_rfl) (by kernel_rfl) (by kernel_rfl) (fun _ _ _ h=>h) (Or.inl ⟨?wbx13,?ybx13⟩) hHeld ?rbx13
       case hbx13=>simp only [gA0,gA1,gA2]; rfl
       case wbx13=>rfl
       case ybx13=>intro w hSw; (try dsimp only at hSw); go_simp; (try with_reducible rfl)
       simp only [Act.put,sA0,sA1,sA2]
       refine wpAnyH_take (i:=13) (v:=?vbx14) (oi:=?obx14) ?hbx14 (by kernel_rfl) (by kernel_rfl) (by kernel_rfl) (fun _ _ _ h=>h) (Or.inl ⟨?wbx14,?ybx14⟩) hHeld ?rbx14
       case hbx14=>simp only [gA0,gA1,gA2]; rfl
       case wbx14=>rfl
       case ybx14=>intro w hSw; (try dsimp only at hSw); go_simp; (try with_reducible rfl)
       simp only [Act.put,sA0,sA1,sA2]
       refine wpAnyH_ready (rs:=[14]) (by kernel_rfl) (by simp) ?_
       refine AllReadyH.cons (o:=?obx15) ?hbx15 (fun K hK=>?sbx15) AllReadyH.nil
       case hbx15=>simp only [gA0,gA1,gA2]; rfl
       go_simp
       refine (HLS.out _).mono ?_
       rintro e w3 ⟨rfl,k3⟩
       have h3:=hS _ (hHeld.1.trans' k3)
       go_wp2_with fail
       refine hK.out _ _ (h3) (fun hHeld=>?_)
       clear hK K
       try simp only [Act.put,sA0,sA1,sA2]
       refine wpAnyH_take (i:=15) (v:=?vbx16) (oi:=?obx16) ?hbx16 (by kernel_rfl) (by kernel_rfl) (by kernel_rfl) (fun _ _ _ h=>h) (Or.inl ⟨?wbx16,?ybx16⟩) hHeld ?rbx16
       case hbx16=>simp only [gA0,gA1,gA2]; rfl
       case wbx16=>rfl
       case ybx16=>intro w hSw; (try dsimp only at hSw); go_simp; (try with_reducible rfl)
       simp only [Act.put,sA0,sA1,sA2]
       refine wpAnyH_done (by kernel_rfl) ?_ _
       refine NoPanic.normal ?_
       have HK3:=hide hHeld.1
       clear hHeld h3 hS
       go_wp2_with fail
       go_meet
       exact ⟨j2,hj1,rfl,HJN.out,HKR.out.trans' HK3.out⟩
   case rest =>
    obtain ⟨j,hjn,rfl,hJ,hkz⟩:=hcut
    rename World=>wz
    have HJN:=hide hJ
    have HKZ:=hide hkz
    clear hJ hkz
    go_wp2_with fail
    have HZ:=hide (HI.out.no HKZ.out)
    have hjl:j≤n:=by omega
    obtain ⟨A',hto,hfrom,h0,hpart⟩:=slice_parts (k:=j) (l:=j) nm_under nm_size HZ.out.own (nmC_one _) hjl hjl
    obtain ⟨m2,hm2⟩:∃ m,m=n - j:=⟨_,rfl⟩
    obtain ⟨c2,hc2⟩:∃ m,m=c - j:=⟨_,rfl⟩
    rw [← hm2,← hc2] at hfrom hpart
    have HM2:Hid (j+m2=n):=by show _=_; omega
    have HNW:Hid (∀ w',Kp No wz w'→(A1=none→j=0∧c=0∧(nmC (lst V.L i)).take (j * 4)=[])∧(∀ ad,A1=some ad→Nws w' ad j 4 ((nmC (lst V.L i)).take (j * 4)))∧(A'=none→m2=0∧c2=0∧(nmC (lst V.L i)).drop (j * 4)=[])∧∀ ad,A'=some ad→Nws w' ad m2 4 ((nmC (lst V.L i)).drop (j * 4))):=fun w' hk'=>by
     obtain ⟨p1,p2,p3⟩:=hpart w' (HZ.out.own.no hk')
     refine ⟨fun e=>?_,p1,p2,p3⟩
     obtain ⟨q1,q2,_,q4⟩:=h0 e
     exact ⟨by omega,q2,by rw [q4]; exact List.take_nil⟩
    have HNB:Hid (j≤1024∧m2≤1024∧j+1+m2≤1025):=by show _∧_; omega
    have hT:∀ w',Kp No wz w'→Kp No wz w'∧w'.cell? ⟨s0,4,none⟩=some (.slice (some ⟨gk,0,none⟩) V.L.length ck)∧w'.cell? ⟨gk,i * 5+1,none⟩=some (.int .u32 (cO t:Int))∧w'.cell? ⟨gk,i * 5+2,none⟩=some (.int .u16 (cS t:Int))∧w'.cell? ⟨gk,i * 5+3,none⟩=some (.int .u16 (cL t:Int))∧w'.cell? ⟨gk,i * 5+4,none⟩=some (.int .u32 (cG t:Int)):=fun w' hk'=>⟨hk',by
     obtain ⟨_,_,_,_,y4⟩:=(HZ.out.bv.no hk').cell
     exact y4,kp_cell c1 (HZ.out.kp.trans' hk'),kp_cell c2' (HZ.out.kp.trans' hk'),kp_cell c3 (HZ.out.kp.trans' hk'),kp_cell c4 (HZ.out.kp.trans' hk')⟩
    clear hpart hm2 hc2 h0
    refine wp_region_noPanic ?_
    refine wp_region_held_drew (S:=fun w'=>Kp No wz w'∧w'.cell? ⟨s0,4,none⟩=some (.slice (some ⟨gk,0,none⟩) V.L.length ck)∧w'.cell? ⟨gk,i * 5+1,none⟩=some (.int .u32 (cO t:Int))∧w'.cell? ⟨gk,i * 5+2,none⟩=some (.int .u16 (cS t:Int))∧w'.cell? ⟨gk,i * 5+3,none⟩=some (.int .u16 (cL t:Int))∧w'.cell? ⟨gk,i * 5+4,none⟩=some (.int .u32 (cG t:Int))) (by kernel_rfl) (hT _ (Kp.refl No wz).drew) (fun hHeld=>?_)
    refine wpAnyH_take (i:=1) (v:=?vdx1) (oi:=?odx1) ?hdx1 (by kernel_rfl) (by kernel_rfl) (by kernel_rfl) (fun _ _ _ h=>h) (Or.inl ⟨?wdx1,?ydx1⟩) hHeld ?rdx1
    case hdx1=>simp only [gA0,gA1,gA2]; rfl
    case wdx1=>rfl
    case ydx1=>intro w hSw; (try dsimp only at hSw); go_simp; (try with_reducible rfl)
    simp only [Act.put,sA0,sA1,sA2]
    refine wpAnyH_take (i:=2) (v:=?vdx2) (oi:=?odx2) ?hdx2 (by kernel_rfl) (by kernel_rfl) (by kernel_rfl) (fun _ _ _ h=>h) (Or.inl ⟨?wdx2,?ydx2⟩) hHeld ?rdx2
    case hdx2=>simp only [gA0,gA1,gA2]; rfl
    case wdx2=>rfl
    case ydx2=>intro w hSw; (try dsimp only at hSw); go_simp; (try with_reducible rfl)
    simp only [Act.put,sA0,sA1,sA2]
    refine wpAnyH_take (i:=3) (v:=?vdx3) (oi:=?odx3) ?hdx3 (by kernel_rfl) (by kernel_rfl) (by kernel_rfl) (fun _ _ _ h=>h) (Or.inl ⟨?wdx3,?ydx3⟩) hHeld ?rdx3
    case hdx3=>simp only [gA0,gA1,gA2]; rfl
    case wdx3=>rfl
    case ydx3=>intro w hSw; (try dsimp only at hSw); go_simp; (try with_reducible rfl)
    simp only [Act.put,sA0,sA1,sA2]
    refine wpAnyH_take (i:=5) (v:=?vdx4) (oi:=?odx4) ?hdx4 (by kernel_rfl) (by kernel_rfl) (by kernel_rfl) (fun _ _ _ h=>h) (Or.inl ⟨?wdx4,?ydx4⟩) hHeld ?rdx4
    case hdx4=>simp only [gA0,gA1,gA2]; rfl
    case wdx4=>rfl
    case ydx4=>intro w hSw; (try dsimp only at hSw); go_simp; (try with_reducible rfl)
    simp only [Act.put,sA0,sA1,sA2]
    refine wpAnyH_take (i:=6) (v:=?vdx5) (oi:=?odx5) ?hdx5 (by kernel_rfl) (by kernel_rfl) (by kernel_rfl) (fun _ _ _ h=>h) (Or.inl ⟨?wdx5,?ydx5⟩) hHeld ?rdx5
    case hdx5=>simp only [gA0,gA1,gA2]; rfl
    case wdx5=>rfl
    case ydx5=>intro w hSw; (try dsimp only at hSw); go_simp; (try with_reducible rfl)
    simp only [Act.put,sA0,sA1,sA2]
    refine wpAnyH_take (i:=7) (v:=?vdx6) (oi:=?odx6) ?hdx6 (by kernel_rfl) (by kernel_rfl) (by kernel_rfl) (fun _ _ _ h=>h) (Or.inl ⟨?wdx6,?ydx6⟩) hHeld ?rdx6
    case hdx6=>simp only [gA0,gA1,gA2]; rfl
    case wdx6=>rfl
    case ydx6=>intro w hSw; (try dsimp only at hSw); go_simp; (try with_reducible rfl)
    simp only [Act.put,sA0,sA1,sA2]
    refine wpAnyH_take (i:=8) (v:=?vdx7) (oi:=?odx7) ?hdx7 (by kernel_rfl) (by kernel_rfl) (by kernel_rfl) (fun _ _ _ h=>h) (Or.inl ⟨?wdx7,?ydx7⟩) hHeld ?rdx7
    case hdx7=>simp only [gA0,gA1,gA2]; rfl
    case wdx7=>rfl
    case ydx7=>intro w hSw; (try dsimp only at hSw); go_simp; (try with_reducible rfl)
    simp only [Act.put,sA0,sA1,sA2]
    refine wpAnyH_take (i:=9) (v:=?vdx8) (oi:=?odx8) ?hdx8 (by kernel_rfl) (by kernel_rfl) (by kernel_rfl) (fun _ _ _ h=>h) (Or.inl ⟨?wdx8,?ydx8⟩) hHeld ?rdx8
    case hdx8=>simp only [gA0,gA1,gA2]; rfl
    case wdx8=>rfl
    case ydx8=>intro w hSw; (try dsimp only at hSw); go_simp; (try with_reducible rfl)
    simp only [Act.put,sA0,sA1,sA2]
    refine wpAnyH_take (i:=10) (v:=?vdx9) (oi:=?odx9) ?hdx9 (by kernel_rfl) (by kernel_rfl) (by kernel_rfl) (fun _ _ _ h=>h) (Or.inl ⟨?wdx9,?ydx9⟩) hHeld ?rdx9
    case hdx9=>simp only [gA0,gA1,gA2]; rfl
    case wdx9=>rfl
    case ydx9=>intro w hSw; (try dsimp only at hSw); go_simp; (try with_reducible rfl)
    simp only [Act.put,sA0,sA1,sA2]
    refine wpAnyH_take (i:=13) (v:=?vdx10) (oi:=?odx10) ?hdx10 (by kernel_rfl) (by kernel_rfl) (by kernel_rfl) (fun _ _ _ h=>h) (Or.inl ⟨?wdx10,?ydx10⟩) hHeld ?rdx10
    case hdx10=>simp only [gA0,gA1,gA2]; rfl
    case wdx10=>rfl
    case ydx10=>intro w hSw; (try dsimp only at hSw); go_simp; (try with_reducible rfl)
    simp only [Act.put,sA0,sA1,sA2]
    refine wpAnyH_take (i:=14) (v:=?vdx11) (oi:=?odx11) ?hdx11 (by kernel_rfl) (by kernel_rfl) (by kernel_rfl) (fun _ _ _ h=>h) (Or.inl ⟨?wdx11,?ydx11⟩) hHeld ?rdx11
    case hdx11=>simp only [gA0,gA1,gA2]; rfl
    case wdx11=>rfl
    case ydx11=>intro w hSw; (try dsimp only at hSw); go_simp; (try with_reducible rfl)
    simp only [Act.put,sA0,sA1,sA2]
    refine wpAnyH_take (i:=15) (v:=?vdx12) (oi:=?odx12) ?hdx12 (by kernel_rfl) (by kernel_rfl) (by kernel_rfl) (fun _ _ _ h=>h) (Or.inl ⟨?wdx12,?ydx12⟩) hHeld ?rdx12
    case hdx12=>simp only [gA0,gA1,gA2]; rfl
    case wdx12=>rfl
    case ydx12=>intro w hSw; (try dsimp only at hSw); go_simp; (try with_reducible rfl)
    simp only [Act.put,sA0,sA1,sA2]
    refine wpAnyH_ready (rs:=[0,11]) (by kernel_rfl) (by simp) ?_
    refine (AllReadyH.cons (o:=?odx14) ?hdx14 (fun K hK=>?sdx14) (AllReadyH.cons (o:=?odx15) ?hdx15 (fun K hK=>?sdx15) AllReadyH.nil))
    case hdx14=>simp only [gA0,gA1,gA2]; rfl
    case hdx15=>simp only [gA0,gA1,gA2]; rfl
    case sdx14 =>
     go_simp
     refine hK.out _ _ (hT _ (hHeld.1.trans' (Kp.alloc No _ _))) (fun hHeld=>?_)
     clear hK K
     try simp only [Act.put,sA0,sA1,sA2]
     refine wpAnyH_ready (rs:=[4,11]) (by kernel_rfl) (by simp) ?_
     refine (AllReadyH.cons (o:=?odx17) ?hdx17 (fun K hK=>?sdx17) (AllReadyH.cons (o:=?odx18) ?hdx18 (fun K hK=>?sdx18) AllReadyH.nil))
     case hdx17=>simp only [gA0,gA1,gA2]; rfl
     case hdx18=>simp only [gA0,gA1,gA2]; rfl
     case sdx17 =>
      have hkw:=hHeld.1
      have oe:=ownT_none wz.drew 53 4
      have hnw:=HNW.out _ hHeld.1
      refine step_appS ty_sh rfl (.tmp 33) (.tmp 36) _ rfl Tryz.underlying74 rfl oe _ rfl hnw.1 hnw.2.1 (by have:=HNB.out; omega) (by simp <;> omega) ?_
      intro A4 n4 c4 w4 hn4 ha4
      have hK4:=hkw.trans (ha4.kp.mono fun q e=>.inr (Nat.le_trans (by simp <;> omega) (oe.ge q e)))
      have hn4':=hide hn4
      clear hn4
      refine hK.out _ _ (hT _ hK4) (fun hHeld=>?_)
      clear hK K
      try simp only [Act.put,sA0,sA1,sA2]
      refine wpAnyH_ready (rs:=[11]) (by kernel_rfl) (by simp) ?_
      refine AllReadyH.cons (o:=?odx19) ?hdx19 (fun K hK=>?sdx19) AllReadyH.nil
      case hdx19=>simp only [gA0,gA1,gA2]; rfl
      go_simp
      refine hK.out _ _ (hT _ (hHeld.1.trans' (Kp.alloc No _ _))) (fun hHeld=>?_)
      clear hK K
      try simp only [Act.put,sA0,sA1,sA2]
      refine wpAnyH_ready (rs:=[12]) (by kernel_rfl) (by simp) ?_
      refine AllReadyH.cons (o:=?odx20) ?hdx20 (fun K hK=>?sdx20) AllReadyH.nil
      case hdx20=>simp only [gA0,gA1,gA2]; rfl
      have hk9:=hHeld.1
      have o4:=ha4.own.no (Kp.alloc No w4 (.cells #[.int .u32 (cO t:Int),.int .u16 (cS t:Int),.int .u16 (cL t:Int),.int .u32 (cG t:Int)] 53))
      have nw:=nws_box (Bx4.new w4 (.int .u32 (cO t:Int)) (.int .u16 (cS t:Int)) (.int .u16 (cL t:Int)) (.int .u32 (cG t:Int))) rfl rfl rfl rfl
      rw [Nat.zero_add,List.nil_append] at o4
      refine step_appT ty_sh rfl (.tmp 37) (.tmp 44) _ rfl Tryz.underlying74 rfl o4 _ _ rfl nw (by have:=HNB.out; omega) (by have h1:=ha4.kp.size; simp at h1 ⊢; omega) ?_
      intro A5 n5 c5 w5 hn5 ha5
      have hK5:=hk9.trans (ha5.kp.mono fun q e=>.inr (Nat.le_trans (by simp <;> omega) (o4.ge q e)))
      have hn5':=hide hn5
      clear hn5
      refine hK.out _ _ (hT _ hK5) (fun hHeld=>?_)
      clear hK K
      try simp only [Act.put,sA0,sA1,sA2]
      refine wpAnyH_ready (rs:=[16]) (by kernel_rfl) (by simp) ?_
      refine AllReadyH.cons (o:=?odx21) ?hdx21 (fun K hK=>?sdx21) AllReadyH.nil
      case hdx21=>simp only [gA0,gA1,gA2]; rfl
      have hk9':=hHeld.1
      have hnw2:=HNW.out _ hHeld.1
      refine step_appS ty_sh rfl (.tmp 45) (.tmp 48) _ rfl Tryz.underlying74 rfl ha5.own _ rfl hnw2.2.2.1 hnw2.2.2.2 (by have:=HNB.out; omega) (by have h1:=ha4.kp.size; have h2:=ha5.kp.size; simp at h1 h2 ⊢; omega) ?_
      intro A6 n6 c6 w6 hn6 ha6
      have hK6:=hk9'.trans (ha6.kp.mono fun q e=>.inr (Nat.le_trans (by simp <;> omega) (ha5.own.ge q e)))
      have hn6':=hide hn6
      clear hn6
      refine hK.out _ _ (hT _ hK6) (fun hHeld=>?_)
      clear hK K
      try simp only [Act.put,sA0,sA1,sA2]
      refine wpAnyH_ready (rs:=[17]) (by kernel_rfl) (by simp) ?_
      refine AllReadyH.cons (o:=?odx22) ?hdx22 (fun K hK=>?sdx22) AllReadyH.nil
      case hdx22=>simp only [gA0,gA1,gA2]; rfl
      go_simp
      refine hK.out _ _ (hHeld) (fun hHeld=>?_)
      clear hK K
      try simp only [Act.put,sA0,sA1,sA2]
      refine wpAnyH_done (by kernel_rfl) ?_ _
      refine NoPanic.normal ?_
      have hge:∀ q,(Value.slice A6 n6 c6).ownBlock=some q→wz.heap.size≤q:=fun q e=>Nat.le_trans (by simp <;> omega) (ha6.own.ge q e)
      have HFIN:=hide (ListI.next HZ.out hK6 ha6.own hn6'.out hge HJN.out (by have:=HM2.out; omega))
      clear hHeld hT
      go_wp2_with fail
      go_round
      case rel=>exact ⟨i+1,A6,n6,c6,by omega,by go_num,rfl,HFIN.out⟩
      case measure=>simp [intOf]; omega
     case sdx18 =>
      go_simp
      refine hK.out _ _ (hT _ (hHeld.1.trans' (Kp.alloc No _ _))) (fun hHeld=>?_)
      clear hK K
      try simp only [Act.put,sA0,sA1,sA2]
      refine wpAnyH_ready (rs:=[4]) (by kernel_rfl) (by simp) ?_
      refine AllReadyH.cons (o:=?odx24) ?hdx24 (fun K hK=>?sdx24) AllReadyH.nil
      case hdx24=>simp only [gA0,gA1,gA2]; rfl
      have hkw:=hHeld.1
      have oe:=(ownT_none wz.drew 53 4).no (Kp.alloc No _ (.cells #[.int .u32 (cO t:Int),.int .u16 (cS t:Int),.int .u16 (cL t:Int),.int .u32 (cG t:Int)] 53))
      have hnw:=HNW.out _ hHeld.1
      refine step_appS ty_sh rfl (.tmp 33) (.tmp 36) _ rfl Tryz.underlying74 rfl oe _ rfl hnw.1 hnw.2.1 (by have:=HNB.out; omega) (by simp <;> omega) ?_
      intro A4 n4 c4 w4 hn4 ha4
      have hK4:=hkw.trans (ha4.kp.mono fun q e=>.inr (Nat.le_trans (by simp <;> omega) (oe.ge q e)))
      have hn4':=hide hn4
      clear hn4
      refine hK.out _ _ (hT _ hK4) (fun hHeld=>?_)
      clear hK K
      try simp only [Act.put,sA0,sA1,sA2]
      refine wpAnyH_ready (rs:=[12]) (by kernel_rfl) (by simp) ?_
      refine AllReadyH.cons (o:=?odx25) ?hdx25 (fun K hK=>?sdx25) AllReadyH.nil
      case hdx25=>simp only [gA0,gA1,gA2]; rfl
      have hk9:=hHeld.1
      have o4:=ha4.own
      have nw:=(nws_box (Bx4.new (wz.drew.alloc (.cells #[] 53)) (.int .u32 (cO t:Int)) (.int .u16 (cS t:Int)) (.int .u16 (cL t:Int)) (.int .u32 (cG t:Int))) rfl rfl rfl rfl).keep ha4.kp (fun e=>by have:=Option.some.inj e; simp at this)
      have ee:(wz.drew.alloc (.cells #[] 53)).heap.size=wz.heap.size+1:=by simp
      rw [ee] at nw
      rw [Nat.zero_add,List.nil_append] at o4
      refine step_appT ty_sh rfl (.tmp 37) (.tmp 44) _ rfl Tryz.underlying74 rfl o4 _ _ rfl nw (by have:=HNB.out; omega) (by have h1:=ha4.kp.size; simp at h1 ⊢; omega) ?_
      intro A5 n5 c5 w5 hn5 ha5
      have hK5:=hk9.trans (ha5.kp.mono fun q e=>.inr (Nat.le_trans (by simp <;> omega) (o4.ge q e)))
      have hn5':=hide hn5
      clear hn5
      refine hK.out _ _ (hT _ hK5) (fun hHeld=>?_)
      clear hK K
      try simp only [Act.put,sA0,sA1,sA2]
      refine wpAnyH_ready (rs:=[16]) (by kernel_rfl) (by simp) ?_
      refine AllReadyH.cons (o:=?odx26) ?hdx26 (fun K hK=>?sdx26) AllReadyH.nil
      case hdx26=>simp only [gA0,gA1,gA2]; rfl
      have hk9':=hHeld.1
      have hnw2:=HNW.out _ hHeld.1
      refine step_appS ty_sh rfl (.tmp 45) (.tmp 48) _ rfl Tryz.underlying74 rfl ha5.own _ rfl hnw2.2.2.1 hnw2.2.2.2 (by have:=HNB.out; omega) (by have h1:=ha4.kp.size; have h2:=ha5.kp.size; simp at h1 h2 ⊢; omega) ?_
      intro A6 n6 c6 w6 hn6 ha6
      have hK6:=hk9'.trans (ha6.kp.mono fun q e=>.inr (Nat.le_trans (by simp <;> omega) (ha5.own.ge q e)))
      have hn6':=hide hn6
      clear hn6
      refine hK.out _ _ (hT _ hK6) (fun hHeld=>?_)
      clear hK K
      try simp only [Act.put,sA0,sA1,sA2]
      refine wpAnyH_ready (rs:=[17]) (by kernel_rfl) (by simp) ?_
      refine AllReadyH.cons (o:=?odx27) ?hdx27 (fun K hK=>?sdx27) AllReadyH.nil
      case hdx27=>simp only [gA0,gA1,gA2]; rfl
      go_simp
      refine hK.out _ _ (hHeld) (fun hHeld=>?_)
      clear hK K
      try simp only [Act.put,sA0,sA1,sA2]
      refine wpAnyH_done (by kernel_rfl) ?_ _
      refine NoPanic.normal ?_
      have hge:∀ q,(Value.slice A6 n6 c6).ownBlock=some q→wz.heap.size≤q:=fun q e=>Nat.le_trans (by simp <;> omega) (ha6.own.ge q e)
      have HFIN:=hide (ListI.next HZ.out hK6 ha6.own hn6'.out hge HJN.out (by have:=HM2.out; omega))
      clear hHeld hT
      go_wp2_with fail
      go_round
      case rel=>exact ⟨i+1,A6,n6,c6,by omega,by go_num,rfl,HFIN.out⟩
      case measure=>simp [intOf]; omega
    case sdx15 =>
     go_simp
     refine hK.out _ _ (hT _ (hHeld.1.trans' (Kp.alloc No _ _))) (fun hHeld=>?_)
     clear hK K
     try simp only [Act.put,sA0,sA1,sA2]
     refine wpAnyH_ready (rs:=[0]) (by kernel_rfl) (by simp) ?_
     refine AllReadyH.cons (o:=?odx29) ?hdx29 (fun K hK=>?sdx29) AllReadyH.nil
     case hdx29=>simp only [gA0,gA1,gA2]; rfl
     go_simp
     refine hK.out _ _ (hT _ (hHeld.1.trans' (Kp.alloc No _ _))) (fun hHeld=>?_)
     clear hK K
     try simp only [Act.put,sA0,sA1,sA2]
     refine wpAnyH_ready (rs:=[4]) (by kernel_rfl) (by simp) ?_
     refine AllReadyH.cons (o:=?odx30) ?hdx30 (fun K hK=>?sdx30) AllReadyH.nil
     case hdx30=>simp only [gA0,gA1,gA2]; rfl
     have hkw:=hHeld.1
     have oe:=ownT_none (wz.drew.alloc (.cells #[.int .u32 (cO t:Int),.int .u16 (cS t:Int),.int .u16 (cL t:Int),.int .u32 (cG t:Int)] 53)) 53 4
     have ee:(wz.drew.alloc (.cells #[.int .u32 (cO t:Int),.int .u16 (cS t:Int),.int .u16 (cL t:Int),.int .u32 (cG t:Int)] 53)).heap.size=wz.heap.size+1:=by simp
     rw [ee] at oe
     have hnw:=HNW.out _ hHeld.1
     refine step_appS ty_sh rfl (.tmp 33) (.tmp 36) _ rfl Tryz.underlying74 rfl oe _ rfl hnw.1 hnw.2.1 (by have:=HNB.out; omega) (by simp <;> omega) ?_
     intro A4 n4 c4 w4 hn4 ha4
     have hK4:=hkw.trans (ha4.kp.mono fun q e=>.inr (Nat.le_trans (by simp <;> omega) (oe.ge q e)))
     have hn4':=hide hn4
     clear hn4
     refine hK.out _ _ (hT _ hK4) (fun hHeld=>?_)
     clear hK K
     try simp only [Act.put,sA0,sA1,sA2]
     refine wpAnyH_ready (rs:=[12]) (by kernel_rfl) (by simp) ?_
     refine AllReadyH.cons (o:=?odx31) ?hdx31 (fun K hK=>?sdx31) AllReadyH.nil
     case hdx31=>simp only [gA0,gA1,gA2]; rfl
     have hk9:=hHeld.1
     have o4:=ha4.own
     have nw:=((nws_box (Bx4.new wz.drew (.int .u32 (cO t:Int)) (.int .u16 (cS t:Int)) (.int .u16 (cL t:Int)) (.int .u32 (cG t:Int))) rfl rfl rfl rfl).keep (Kp.alloc No _ (.cells #[] 53)) fun f=>f).keep ha4.kp (fun e=>by have:=Option.some.inj e; simp at this)
     rw [Nat.zero_add,List.nil_append] at o4
     refine step_appT ty_sh rfl (.tmp 37) (.tmp 44) _ rfl Tryz.underlying74 rfl o4 _ _ rfl nw (by have:=HNB.out; omega) (by have h1:=ha4.kp.size; simp at h1 ⊢; omega) ?_
     intro A5 n5 c5 w5 hn5 ha5
     have hK5:=hk9.trans (ha5.kp.mono fun q e=>.inr (Nat.le_trans (by simp <;> omega) (o4.ge q e)))
     have hn5':=hide hn5
     clear hn5
     refine hK.out _ _ (hT _ hK5) (fun hHeld=>?_)
     clear hK K
     try simp only [Act.put,sA0,sA1,sA2]
     refine wpAnyH_ready (rs:=[16]) (by kernel_rfl) (by simp) ?_
     refine AllReadyH.cons (o:=?odx32) ?hdx32 (fun K hK=>?sdx32) AllReadyH.nil
     case hdx32=>simp only [gA0,gA1,gA2]; rfl
     have hk9':=hHeld.1
     have hnw2:=HNW.out _ hHeld.1
     refine step_appS ty_sh rfl (.tmp 45) (.tmp 48) _ rfl Tryz.underlying74 rfl ha5.own _ rfl hnw2.2.2.1 hnw2.2.2.2 (by have:=HNB.out; omega) (by have h1:=ha4.kp.size; have h2:=ha5.kp.size; simp at h1 h2 ⊢; omega) ?_
     intro A6 n6 c6 w6 hn6 ha6
     have hK6:=hk9'.trans (ha6.kp.mono fun q e=>.inr (Nat.le_trans (by simp <;> omega) (ha5.own.ge q e)))
     have hn6':=hide hn6
     clear hn6
     refine hK.out _ _ (hT _ hK6) (fun hHeld=>?_)
     clear hK K
     try simp only [Act.put,sA0,sA1,sA2]
     refine wpAnyH_ready (rs:=[17]) (by kernel_rfl) (by simp) ?_
     refine AllReadyH.cons (o:=?odx33) ?hdx33 (fun K hK=>?sdx33) AllReadyH.nil
     case hdx33=>simp only [gA0,gA1,gA2]; rfl
     go_simp
     refine hK.out _ _ (hHeld) (fun hHeld=>?_)
     clear hK K
     try simp only [Act.put,sA0,sA1,sA2]
     refine wpAnyH_done (by kernel_rfl) ?_ _
     refine NoPanic.normal ?_
     have hge:∀ q,(Value.slice A6 n6 c6).ownBlock=some q→wz.heap.size≤q:=fun q e=>Nat.le_trans (by simp <;> omega) (ha6.own.ge q e)
     have HFIN:=hide (ListI.next HZ.out hK6 ha6.own hn6'.out hge HJN.out (by have:=HM2.out; omega))
     clear hHeld hT
     go_wp2_with fail
     go_round
     case rel=>exact ⟨i+1,A6,n6,c6,by omega,by go_num,rfl,HFIN.out⟩
     case measure=>simp [intOf]; omega
  ·obtain rfl:i=V.L.length:=by omega
   have hlz:¬ (V.L.length:Int) < V.L.length:=by omega
   go_wp2_with fail
   go_ret
   exact ⟨A1,n,c,rfl,HI.out.own,by rw [HNI.out]; exact (lst_len _ _).symm,HI.out.kp⟩
end Go.Proofs.YtnfcfdhlmeimhaaGreat
