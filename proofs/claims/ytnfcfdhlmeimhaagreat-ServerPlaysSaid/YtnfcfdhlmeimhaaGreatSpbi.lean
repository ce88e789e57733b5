/- The document's Drop of layer 12, as a contract over memory; parts of rows. -/
import Derived.Test.YtnfcfdhlmeimhaaGreatSpbh
namespace Go.Proofs.YtnfcfdhlmeimhaaGreat
open Go.RowKit
set_option linter.unusedVariables false
set_option linter.unusedSimpArgs false
set_option maxRecDepth 20000
/-- v[:k] and v[l:] of a row of the call's own, or of none. -/
theorem slice_parts {t e:TypeId} {sz k l n c base:Nat} {w:World} {A:Option Addr} {xs:List Value} (ht:Tryz.prog.underlying t=some (.slice (Tryz.prog.elem t))) (hsz:∀ w,(sizeOf (Tryz.prog.elem t)).run Tryz.prog w=.ok sz w)
  (h:OwnT w base e sz (.slice A n c) n xs) (h1:∀ u ∈ xs,u.oneCell'=true) (hk:k≤n) (hl:l≤n) :
  ∃ A',(∀ w',(Instr.slice t (.slice A n c) none (some (.int .i64 (k:Int))) none).run Tryz.prog w'=.ok (.slice A k c) w') ∧
   (∀ w',(Instr.slice t (.slice A n c) (some (.int .i64 (l:Int))) none none).run Tryz.prog w'=.ok (.slice A' (n - l) (c - l)) w') ∧
   (A=none→n=0∧c=0∧A'=none∧xs=[]) ∧
   (∀ w1,OwnT w1 base e sz (.slice A n c) n xs→(∀ ad,A=some ad→Nws w1 ad k sz (xs.take (k * sz)))∧(A'=none→n - l=0∧c - l=0∧xs.drop (l * sz)=[])∧∀ ad,A'=some ad→Nws w1 ad (n - l) sz (xs.drop (l * sz))):=by
 have hlen:=h.1
 rcases h.2 with ⟨e1,hn⟩ | ⟨g,cap,cur,e1,_,_,hnc,_,_,_⟩
 ·injection e1 with ea eb ec
  subst ea eb ec
  have hx:xs=[]:=List.eq_nil_of_length_eq_zero (by rw [hlen]; simp)
  subst hx
  have hk0:k=0:=by omega
  have hl0:l=0:=by omega
  subst hk0 hl0
  refine ⟨none,fun w'=>?_,fun w'=>?_,fun _=>⟨rfl,rfl,rfl,rfl⟩,fun w1 _=>⟨(fun ad e=>by cases e),fun _=>⟨rfl,rfl,by simp⟩,fun ad e=>by cases e⟩⟩
  ·rw [run_slice_h w' _ _ _ _ ht .i64 _ (by omega) (by omega),hsz]
   simp [Result.andThen,sliced]
  ·rw [run_slice_l w' _ _ _ _ ht .i64 _ (by omega) (by omega),hsz]
   simp [Result.andThen,sliced]
 ·injection e1 with ea eb ec
  subst ea ec
  refine ⟨if c=l then some ⟨g,0,none⟩ else some ⟨g,l * sz,none⟩,fun w'=>?_,fun w'=>?_,(fun e=>by cases e),fun w1 h2=>⟨fun ad e=>?_,(fun e=>by split at e <;> cases e),fun ad e=>?_⟩⟩
  ·rw [run_slice_h w' _ _ _ _ ht .i64 _ (by omega) (by omega),hsz]
   simp only [Result.andThen,sliced,Int.toNat_natCast,Nat.zero_mul,Nat.sub_zero,Option.map_some,add_none,Nat.add_zero,ite_self]
  ·rw [run_slice_l w' _ _ _ _ ht .i64 _ (by omega) (by omega),hsz]
   simp only [Result.andThen,sliced,Int.toNat_natCast,Option.map_some,add_none,Nat.zero_add]
  ·injection e with e
   subst e
   have:=h2.part h1 (l:=0) (m:=k) (by omega)
   simpa using this
  ·split at e
   ·rename_i hcl
    injection e with e
    subst e
    have hn0:n - l=0:=by omega
    have hd:xs.drop (l * sz)=[]:=by
     refine List.drop_eq_nil_of_le ?_
     rw [hlen]
     exact Nat.mul_le_mul_right _ (by omega)
    rw [hn0,hd]
    exact nws_none _ _
   ·injection e with e
    subst e
    have:=h2.part h1 (l:=l) (m:=n - l) (by omega)
    rwa [List.take_of_length_le (by rw [List.length_drop,hlen,Nat.sub_mul]; omega)] at this
theorem knC_take:∀ (L:List (Nat × Nat)) (k:Nat),(knC L).take (k * 5)=knC (L.take k)
 | [],k=>by simp [knC]
 | p :: L,0=>by simp [knC]
 | p :: L,k+1=>by
  have ih:=knC_take L k
  have e:knC (p :: L)=[.int .i64 (p.1:Int),.int .u32 (cO p.2:Int),.int .u16 (cS p.2:Int),.int .u16 (cL p.2:Int),.int .u32 (cG p.2:Int)] ++ knC L:=rfl
  have e2:knC (p :: L.take k)=[.int .i64 (p.1:Int),.int .u32 (cO p.2:Int),.int .u16 (cS p.2:Int),.int .u16 (cL p.2:Int),.int .u32 (cG p.2:Int)] ++ knC (L.take k):=rfl
  rw [List.take_succ_cons,e,e2,← ih,List.take_append,List.take_of_length_le (by simp; omega)]
  congr 2
  simp
  omega
theorem knC_drop:∀ (L:List (Nat × Nat)) (k:Nat),(knC L).drop (k * 5)=knC (L.drop k)
 | [],k=>by simp [knC]
 | p :: L,0=>by simp
 | p :: L,k+1=>by
  have ih:=knC_drop L k
  have e:knC (p :: L)=[.int .i64 (p.1:Int),.int .u32 (cO p.2:Int),.int .u16 (cS p.2:Int),.int .u16 (cL p.2:Int),.int .u32 (cG p.2:Int)] ++ knC L:=rfl
  rw [List.drop_succ_cons,e,← ih,List.drop_append,List.drop_eq_nil_of_le (by simp; omega),List.nil_append]
  congr 1
  simp
  omega
theorem knC_erase (L:List (Nat × Nat)) (i:Nat):knC (L.eraseIdx i)=(knC L).take (i * 5) ++ (knC L).drop ((i+1) * 5):=by
 rw [knC_take,knC_drop,← knC_append,List.eraseIdx_eq_take_drop_succ]
theorem kn_elem:Tryz.prog.elem 40=149:=by kernel_rfl
theorem kn_under:Tryz.prog.underlying 40=some (.slice (Tryz.prog.elem 40)):=by rw [kn_elem]; exact Tryz.underlying40
theorem kn_cells:Tryz.prog.cellsOf 149=5:=by kernel_rfl
theorem kn_size (w:World):(sizeOf (Tryz.prog.elem 40)).run Tryz.prog w=.ok 5 w:=by
 obtain ⟨⟨i0,hi0,hz0,hz1,hz2⟩,_⟩:=ty_kn
 rw [kn_elem]
 have hc:=kn_cells
 simp [run_sizeOf,hi0,hz1,hc]
/-- F, the result's cell, and the vault's box. -/
def Fy (F:Nat→Prop) (s0 k:Nat):Prop:=Fz F s0 k∨k=s0
theorem RfR.grow {w w1:World} {F F1:Nat→Prop} {D:Dk} {vc vl:Value} {cs:List (Value × List UInt8)} {ls:List (Nat × (Value × List UInt8))} (h:RfR w F D vc vl cs ls) (hk:Kp No w w1) (hF:∀ k,F1 k→F k∨(w.heap.size≤k∧k < w1.heap.size)):RfR w1 F1 D vc vl cs ls :=
 h.step (hk.of_no F) fun k hk'=>by
  rcases hF k hk' with f | f
  ·exact ⟨.inl f,Nat.lt_of_lt_of_le (h.bd k f) hk.size⟩
  ·exact ⟨.inr f.1,f.2⟩
set_option maxHeartbeats 8000000 in
theorem rdrop12_any {w:World} {F:Nat→Prop} {V:Vt} {v:Value} {s:Nat} (h:RvAt w F V v) (hs:s < N96) (hL:V.D.loose.length+2≤1000000) (hsy:V.D.syncs+1≤1000000000) :
  Calls Tryz.prog 88 #[v,shV s] w (RvPost w F (V.dr s) (tupE (V.drE s))):=by
 obtain ⟨vc,vl,vk,cs,ls,rfl,h⟩:=h
 obtain ⟨gc,cc,A,cl,A2,ck,rfl,rfl,rfl⟩:=h.forms
 have HS0:=hide (BgS.begin w (.int .i64 (V.D.size:Int)) (.slice (some ⟨gc,0,none⟩) V.D.cells.length cc) (.slice A V.D.loose.length cl) (.int .i64 (V.D.syncs:Int)) (.slice A2 V.L.length ck) s)
 have HH:=hide h
 have HSN:=hide hs
 have HLN:Hid (V.L.length≤1024):=Nat.le_trans h.ok.kn.len h.ok.dk.n1
 obtain ⟨E,hE⟩:∃ E,E=V.drE s:=⟨_,rfl⟩
 obtain ⟨V2,hV2⟩:∃ V2,V2=V.dr s:=⟨_,rfl⟩
 rw [← hE,← hV2]
 have HEE:=hide hE
 have HV2:=hide hV2
 clear h hE hV2
 unfold rvV
 go_enter Tryz.func88,Tryz.ntmps88
 go_upto_region 1 with fail
 generalize (((w.alloc (.cells #[.int .i64 (V.D.size:Int),.slice (some ⟨gc,0,none⟩) V.D.cells.length cc,.slice A V.D.loose.length cl,.int .i64 (V.D.syncs:Int),.slice A2 V.L.length ck] 42)).alloc (.cells #[.int .u32 (cO s:Int),.int .u16 (cS s:Int),.int .u16 (cL s:Int),.int .u32 (cG s:Int)] 53)).alloc (.cells #[.int .i64 0,.slice none 0 0,.slice none 0 0,.int .i64 0,.slice none 0 0] 42))=w0 at HS0 ⊢
 obtain ⟨s0,hs0⟩:∃ s0,s0=w.heap.size:=⟨_,rfl⟩
 rw [← hs0] at HS0 ⊢
 clear hs0
 obtain ⟨v0,v1,v2,v3,v4⟩:=HS0.out.bv.cell
 obtain ⟨b0,b1,b2,b3⟩:=HS0.out.bs.cell
 have hix:=rindex_any (x0:=.int .i64 (V.D.size:Int)) (x1:=.slice (some ⟨gc,0,none⟩) V.D.cells.length cc) (x2:=.slice A V.D.loose.length cl) (x3:=.int .i64 (V.D.syncs:Int)) (HH.out.kn.no HS0.out.kp) hs HH.out.ok.kn.nm rfl rfl rfl rfl
 have HIX:=hide hix
 clear hix
 by_cases hk:kn V.L s=true
 ·have hix:=HIX.out
  obtain ⟨i,hi⟩:∃ i,i=ixl V.L s:=⟨_,rfl⟩
  obtain ⟨q,hq⟩:∃ q,q=cel V.L s:=⟨_,rfl⟩
  have hget:=ix_get hk
  rw [ixZ_yes hk,← hi] at hix
  rw [← hi,← hq] at hget
  have HIX2:=hide hix
  have hE0:V.drE s=0:=by unfold Vt.drE; rw [if_pos hk]
  have hVV:=Vt.dr_yes hE0
  have hput:=HH.out.ok.dr_put hk
  have hok2:=HH.out.ok.dr s
  rw [← hq] at hput
  rw [hVV,← hq,← hi] at hok2
  rw [← HV2.out,← hq,← hi] at hVV
  have hil:i < V.L.length:=by rw [hi]; exact kn_ix.1 hk
  have hqn:(q:Int)=(cel V.L s:Int):=by rw [hq]
  generalize hD2:V.D.put (q:Int) []=D2 at hVV hok2
  have HE0:Hid (E=0):=by show _=_; rw [HEE.out]; exact hE0
  have HVV:=hide hVV
  have HOK2:=hide hok2
  have HPU:=hide hput
  have HD2:=hide hD2
  have HD2B:Hid (D2.loose.length≤1000000∧D2.syncs+1≤1000000000):=by
   show _∧_
   rw [← hD2]
   have:=put_loose V.D (q:Int) []
   exact ⟨by omega,by rw [put_syncs]; exact hsy⟩
  have hiz:¬ (i:Int) < 0:=by omega
  have hiz2:(i:Int) < V.L.length:=by omega
  have HGET:=hide hget
  clear hix hk hi hq hget hE0 hVV hput hok2 hqn hD2 HIX
  go_wp2_with fail
  refine HIX2.out.mono ?_
  rintro e w1 ⟨rfl,k1⟩
  have HS:=hide (HS0.out.no k1)
  clear v0 v1 v2 v3 v4 b0 b1 b2 b3 k1 HIX2 HS0
  obtain ⟨gk,rfl,c0,_⟩:=(HH.out.kn.no HS.out.kp).cell HGET.out
  have HC0:=hide c0
  have HRF:Hid (RfR w1 (Fy F s0) V.D (.slice (some ⟨gc,0,none⟩) V.D.cells.length cc) (.slice A V.D.loose.length cl) cs ls):=HH.out.rf.grow HS.out.kp fun k hk'=>by
   have h1:=HS.out.bz.lt
   have h2:=HS.out.sl
   rcases hk' with (f | rfl) | rfl
   ·exact .inl f
   ·exact .inr ⟨by omega,h1⟩
   ·exact .inr ⟨h2,by omega⟩
  have HPT:Hid (∀ (F':Nat→Prop) w',RfR w' F' V.D (.slice (some ⟨gc,0,none⟩) V.D.cells.length cc) (.slice A V.D.loose.length cl) cs ls→Calls Tryz.prog 84 #[rfV V.D (.slice (some ⟨gc,0,none⟩) V.D.cells.length cc) (.slice A V.D.loose.length cl),.int .i64 (q:Int),.slice none 0 0] w' (RfPost w' F' D2 (tupE 0))):=fun F' w' hr=>by
   have hp:=rput_any ⟨_,_,_,_,rfl,hr⟩ (⟨Bts.nil w',fun e=>absurd rfl e,fun A n c e=>by injection e with _ e1 e2; omega⟩:BtF w' F' (.slice none 0 0) []) hL (q:Int)
   rw [HPU.out,HD2.out] at hp
   exact hp
  unfold rfV at HPT
  have hS:∀ w',Kp No w1 w'→Kp No w1 w'∧w'.cell? ⟨s0,0,none⟩=some (.int .i64 (V.D.size:Int))∧w'.cell? ⟨s0,1,none⟩=some (.slice (some ⟨gc,0,none⟩) V.D.cells.length cc)∧w'.cell? ⟨s0,2,none⟩=some (.slice A V.D.loose.length cl)∧w'.cell? ⟨s0,3,none⟩=some (.int .i64 (V.D.syncs:Int))∧w'.cell? ⟨s0,4,none⟩=some (.slice (some ⟨gk,0,none⟩) V.L.length ck)∧w'.cell? ⟨gk,i * 5,none⟩=some (.int .i64 (q:Int)):=fun w' hk'=>by
   obtain ⟨y0,y1,y2,y3,y4⟩:=(HS.out.bv.no hk').cell
   exact ⟨hk',y0,y1,y2,y3,y4,kp_cell HC0.out hk'⟩
  clear c0
  go_upto_region 4 with fail
  go_cut [7,8] (fun p e wx=>∃ bx vc2 vl2 cs2 ls2,p=.pointer (some ⟨bx,0,none⟩)∧e=.int .i64 0∧BxD wx bx D2 vc2 vl2∧w1.heap.size≤bx∧RfR wx (Fy F s0) D2 vc2 vl2 cs2 ls2∧Kp No w1 wx)
  case first =>
   refine wp_region_noPanic ?_
   refine wp_region_held_drew (S:=fun w'=>Kp No w1 w'∧w'.cell? ⟨s0,0,none⟩=some (.int .i64 (V.D.size:Int))∧w'.cell? ⟨s0,1,none⟩=some (.slice (some ⟨gc,0,none⟩) V.D.cells.length cc)∧w'.cell? ⟨s0,2,none⟩=some (.slice A V.D.loose.length cl)∧w'.cell? ⟨s0,3,none⟩=some (.int .i64 (V.D.syncs:Int))∧w'.cell? ⟨s0,4,none⟩=some (.slice (some ⟨gk,0,none⟩) V.L.length ck)∧w'.cell? ⟨gk,i * 5,none⟩=some (.int .i64 (q:Int))) (by kernel_rfl) (hS _ (Kp.refl No w1).drew) (fun hHeld=>?_)
   refine wpAnyH_take (i:=0) (v:=?vax1) (oi:=?oax1) ?hax1 (by kernel_rfl) (by kernel_rfl) (by kernel_rfl) (fun _ _ _ h=>h) (Or.inl ⟨?wax1,?yax1⟩) hHeld ?rax1
   case hax1=>simp only [gA0,gA1,gA2]; rfl
   case wax1=>rfl
   case yax1=>intro w hSw; (try dsimp only at hSw); go_simp; (try with_reducible rfl)
   simp only [Act.put,sA0,sA1,sA2]
   refine wpAnyH_take (i:=1) (v:=?vax2) (oi:=?oax2) ?hax2 (by kernel_rfl) (by kernel_rfl) (by kernel_rfl) (fun _ _ _ h=>h) (Or.inl ⟨?wax2,?yax2⟩) hHeld ?rax2
   case hax2=>simp only [gA0,gA1,gA2]; rfl
   case wax2=>rfl
   case yax2=>intro w hSw; (try dsimp only at hSw); go_simp; (try with_reducible rfl)
   simp only [Act.put,sA0,sA1,sA2]
   refine wpAnyH_take (i:=2) (v:=?vax3) (oi:=?oax3) ?hax3 (by kernel_rfl) (by kernel_rfl) (by kernel_rfl) (fun _ _ _ h=>h) (Or.inl ⟨?wax3,?yax3⟩) hHeld ?rax3
   case hax3=>simp only [gA0,gA1,gA2]; rfl
   case wax3=>rfl
   case yax3=>intro w hSw; (try dsimp only at hSw); go_simp; (try with_reducible rfl)
   simp only [Act.put,sA0,sA1,sA2]
   refine wpAnyH_take (i:=3) (v:=?vax4) (oi:=?oax4) ?hax4 (by kernel_rfl) (by kernel_rfl) (by kernel_rfl) (fun _ _ _ h=>h) (Or.inl ⟨?wax4,?yax4⟩) hHeld ?rax4
   case hax4=>simp only [gA0,gA1,gA2]; rfl
   case wax4=>rfl
   case yax4=>intro w hSw; (try dsimp only at hSw); go_simp; (try with_reducible rfl)
   simp only [Act.put,sA0,sA1,sA2]
   refine wpAnyH_take (i:=4) (v:=?vax5) (oi:=?oax5) ?hax5 (by kernel_rfl) (by kernel_rfl) (by kernel_rfl) (fun _ _ _ h=>h) (Or.inl ⟨?wax5,?yax5⟩) hHeld ?rax5
   case hax5=>simp only [gA0,gA1,gA2]; rfl
   case wax5=>rfl
   case yax5=>intro w hSw; (try dsimp only at hSw); go_simp; (try with_reducible rfl)
   simp only [Act.put,sA0,sA1,sA2]
   refine wpAnyH_take (i:=5) (v:=?vax6) (oi:=?oax6) ?hax6 (by kernel_rfl) (by kernel_rfl) (by kernel_rfl) (fun _ _ _ h=>h) (Or.inl ⟨?wax6,?yax6⟩) hHeld ?rax6
   case hax6=>simp only [gA0,gA1,gA2]; rfl
   case wax6=>rfl
   case yax6=>intro w hSw; (try dsimp only at hSw); go_simp; (try with_reducible rfl)
   simp only [Act.put,sA0,sA1,sA2]
   refine wpAnyH_take (i:=6) (v:=?vax7) (oi:=?oax7) ?hax7 (by kernel_rfl) (by kernel_rfl) (by kernel_rfl) (fun _ _ _ h=>h) (Or.inl ⟨?wax7,?yax7⟩) hHeld ?rax7
   case hax7=>simp only [gA0,gA1,gA2]; rfl
   case wax7=>rfl
   case yax7=>intro w hSw; (try dsimp only at hSw); go_simp; (try with_reducible rfl)
   simp only [Act.put,sA0,sA1,sA2]
   refine wpAnyH_take (i:=7) (v:=?vax8) (oi:=?oax8) ?hax8 (by kernel_rfl) (by kernel_rfl) (by kernel_rfl) (fun _ _ _ h=>h) (Or.inl ⟨?wax8,?yax8⟩) hHeld ?rax8
   case hax8=>simp only [gA0,gA1,gA2]; rfl
   case wax8=>rfl
   case yax8=>intro w hSw; (try dsimp only at hSw); go_simp; (try with_reducible rfl)
   simp only [Act.put,sA0,sA1,sA2]
   refine wpAnyH_ready (rs:=[8,12]) (by kernel_rfl) (by simp) ?_
   refine (AllReadyH.cons (o:=?oax10) ?hax10 (fun K hK=>?sax10) (AllReadyH.cons (o:=?oax11) ?hax11 (fun K hK=>?sax11) AllReadyH.nil))
   case hax10=>simp only [gA0,gA1,gA2]; rfl
   case hax11=>simp only [gA0,gA1,gA2]; rfl
   case sax10 =>
    go_simp
    have hrf:=HRF.out.no hHeld.1
    refine (HPT.out _ _ hrf).mono ?_
    rintro e w4 ⟨v4',rfl,⟨vc2,vl2,cs2,ls2,rfl,rf4⟩,k4⟩
    have h4:=hS _ (hHeld.1.trans' k4)
    obtain ⟨g4,e4,rfl,_⟩:=rf4.vc_
    obtain ⟨g5,e5,rfl,_,_⟩:=rf4.vl_
    have HR4:=hide rf4
    clear rf4 hrf
    unfold tupE rfV
    go_wp2_with fail
    refine hK.out _ _ (h4) (fun hHeld=>?_)
    clear hK K
    try simp only [Act.put,sA0,sA1,sA2]
    refine wpAnyH_take (i:=9) (v:=?vax12) (oi:=?oax12) ?hax12 (by kernel_rfl) (by kernel_rfl) (by kernel_rfl) (fun _ _ _ h=>h) (Or.inl ⟨?wax12,?yax12⟩) hHeld ?rax12
    case hax12=>simp only [gA0,gA1,gA2]; rfl
    case wax12=>rfl
    case yax12=>intro w hSw; (try dsimp only at hSw); go_simp; (try with_reducible rfl)
    simp only [Act.put,sA0,sA1,sA2]
    refine wpAnyH_take (i:=10) (v:=?vax13) (oi:=?oax13) ?hax13 (by kernel_rfl) (by kernel_rfl) (by kernel_rfl) (fun _ _ _ h=>h) (Or.inl ⟨?wax13,?yax13⟩) hHeld ?rax13
    case hax13=>simp only [gA0,gA1,gA2]; rfl
    case wax13=>rfl
    case yax13=>intro w hSw; (try dsimp only at hSw); go_simp; (try with_reducible rfl)
    simp only [Act.put,sA0,sA1,sA2]
    refine wpAnyH_take (i:=11) (v:=?vax14) (oi:=?oax14) ?hax14 (by kernel_rfl) (by kernel_rfl) (by kernel_rfl) (fun _ _ _ h=>h) (Or.inl ⟨?wax14,?yax14⟩) hHeld ?rax14
    case hax14=>simp only [gA0,gA1,gA2]; rfl
    case wax14=>rfl
    case yax14=>intro w hSw; (try dsimp only at hSw); go_simp; (try with_reducible rfl)
    simp only [Act.put,sA0,sA1,sA2]
    refine wpAnyH_ready (rs:=[12]) (by kernel_rfl) (by simp) ?_
    refine AllReadyH.cons (o:=?oax15) ?hax15 (fun K hK=>?sax15) AllReadyH.nil
    case hax15=>simp only [gA0,gA1,gA2]; rfl
    go_simp
    refine hK.out _ _ (hS _ (hHeld.1.trans' (Kp.alloc No _ _))) (fun hHeld=>?_)
    clear hK K
    try simp only [Act.put,sA0,sA1,sA2]
    refine wpAnyH_ready (rs:=[13]) (by kernel_rfl) (by simp) ?_
    refine AllReadyH.cons (o:=?oax16) ?hax16 (fun K hK=>?sax16) AllReadyH.nil
    case hax16=>simp only [gA0,gA1,gA2]; rfl
    have BX:=(BxD.new w4 ⟨0,[],[],0⟩ (.slice none 0 0) (.slice none 0 0))
    have t0:=BX.c0
    have t1:=BX.c1
    have t2:=BX.c2
    have t3:=BX.c3
    have q0:=BX.fz 0
    have q1:=BX.fz 1
    have q2:=BX.fz 2
    have q3:=BX.fz 3
    go_simp
    refine hK.out _ _ (hS _ (h4.1.trans' (Kp.alloc No w4 _))) (fun hHeld=>?_)
    clear hK K
    try simp only [Act.put,sA0,sA1,sA2]
    refine wpAnyH_ready (rs:=[14]) (by kernel_rfl) (by simp) ?_
    refine AllReadyH.cons (o:=?oax17) ?hax17 (fun K hK=>?sax17) AllReadyH.nil
    case hax17=>simp only [gA0,gA1,gA2]; rfl
    go_simp
    refine hK.out _ _ (hHeld) (fun hHeld=>?_)
    clear hK K
    try simp only [Act.put,sA0,sA1,sA2]
    refine wpAnyH_done (by kernel_rfl) ?_ _
    refine NoPanic.normal ?_
    have hB:=hide (BxD.new w4 D2 (.slice (some ⟨g4,0,none⟩) D2.cells.length e4) (.slice g5 D2.loose.length e5))
    have hR:=hide (HR4.out.no (Kp.alloc No w4 (.cells #[.int .i64 (D2.size:Int),(.slice (some ⟨g4,0,none⟩) D2.cells.length e4),(.slice g5 D2.loose.length e5),.int .i64 (D2.syncs:Int)] 39)))
    have hK:=hide hHeld.1
    clear hHeld BX t0 t1 t2 t3 q0 q1 q2 q3 h4
    go_wp2_with fail
    go_meet
    exact ⟨_,_,_,_,_,rfl,rfl,hB.out,k4.size,hR.out,hK.out⟩
   case sax11 =>
    go_simp
    refine hK.out _ _ (hS _ (hHeld.1.trans' (Kp.alloc No _ _))) (fun hHeld=>?_)
    clear hK K
    try simp only [Act.put,sA0,sA1,sA2]
    refine wpAnyH_ready (rs:=[8]) (by kernel_rfl) (by simp) ?_
    refine AllReadyH.cons (o:=?oax19) ?hax19 (fun K hK=>?sax19) AllReadyH.nil
    case hax19=>simp only [gA0,gA1,gA2]; rfl
    go_simp
    have hrf:=HRF.out.plus hHeld.1 (Nat.le_refl w1.heap.size) (show w1.heap.size < (w1.drew.alloc (.cells #[.int .i64 0,.slice none 0 0,.slice none 0 0,.int .i64 0] 39)).heap.size by simp)
    refine (HPT.out _ _ hrf).mono ?_
    rintro e w4 ⟨v4',rfl,⟨vc2,vl2,cs2,ls2,rfl,rf4⟩,k4⟩
    have h4:=hS _ (hHeld.1.trans' k4)
    obtain ⟨g4,e4,rfl,_⟩:=rf4.vc_
    obtain ⟨g5,e5,rfl,_,_⟩:=rf4.vl_
    have HR4:=hide rf4
    clear rf4 hrf
    unfold tupE rfV
    go_wp2_with fail
    refine hK.out _ _ (h4) (fun hHeld=>?_)
    clear hK K
    try simp only [Act.put,sA0,sA1,sA2]
    refine wpAnyH_take (i:=9) (v:=?vax20) (oi:=?oax20) ?hax20 (by kernel_rfl) (by kernel_rfl) (by kernel_rfl) (fun _ _ _ h=>h) (Or.inl ⟨?wax20,?yax20⟩) hHeld ?rax20
    case hax20=>simp only [gA0,gA1,gA2]; rfl
    case wax20=>rfl
    case yax20=>intro w hSw; (try dsimp only at hSw); go_simp; (try with_reducible rfl)
    simp only [Act.put,sA0,sA1,sA2]
    refine wpAnyH_take (i:=10) (v:=?vax21) (oi:=?oax21) ?hax21 (by kernel_rfl) (by kernel_rfl) (by kernel_rfl) (fun _ _ _ h=>h) (Or.inl ⟨?wax21,?yax21⟩) hHeld ?rax21
    case hax21=>simp only [gA0,gA1,gA2]; rfl
    case wax21=>rfl
    case yax21=>intro w hSw; (try dsimp only at hSw); go_simp; (try with_reducible rfl)
    simp only [Act.put,sA0,sA1,sA2]
    refine wpAnyH_take (i:=11) (v:=?vax22) (oi:=?oax22) ?hax22 (by kernel_rfl) (by kernel_rfl) (by kernel_rfl) (fun _ _ _ h=>h) (Or.inl ⟨?wax22,?yax22⟩) hHeld ?rax22
    case hax22=>simp only [gA0,gA1,gA2]; rfl
    case wax22=>rfl
    case yax22=>intro w hSw; (try dsimp only at hSw); go_simp; (try with_reducible rfl)
    simp only [Act.put,sA0,sA1,sA2]
    refine wpAnyH_ready (rs:=[13]) (by kernel_rfl) (by simp) ?_
    refine AllReadyH.cons (o:=?oax23) ?hax23 (fun K hK=>?sax23) AllReadyH.nil
    case hax23=>simp only [gA0,gA1,gA2]; rfl
    have BX:=(show BxD w4 w1.heap.size ⟨0,[],[],0⟩ (.slice none 0 0) (.slice none 0 0) from (BxD.new w1.drew ⟨0,[],[],0⟩ (.slice none 0 0) (.slice none 0 0)).no k4)
    have t0:=BX.c0
    have t1:=BX.c1
    have t2:=BX.c2
    have t3:=BX.c3
    have q0:=BX.fz 0
    have q1:=BX.fz 1
    have q2:=BX.fz 2
    have q3:=BX.fz 3
    go_simp
    refine hK.out _ _ (hS _ (hHeld.1.trans (kpU4 w4 w1.heap.size _ _ _ _ (.inr (Nat.le_refl _))))) (fun hHeld=>?_)
    clear hK K
    try simp only [Act.put,sA0,sA1,sA2]
    refine wpAnyH_ready (rs:=[14]) (by kernel_rfl) (by simp) ?_
    refine AllReadyH.cons (o:=?oax24) ?hax24 (fun K hK=>?sax24) AllReadyH.nil
    case hax24=>simp only [gA0,gA1,gA2]; rfl
    go_simp
    refine hK.out _ _ (hHeld) (fun hHeld=>?_)
    clear hK K
    try simp only [Act.put,sA0,sA1,sA2]
    refine wpAnyH_done (by kernel_rfl) ?_ _
    refine NoPanic.normal ?_
    have hB:=hide (BX.set4 (D:=D2) (vc:=(.slice (some ⟨g4,0,none⟩) D2.cells.length e4)) (vl:=(.slice g5 D2.loose.length e5)))
    have hR:=hide ((HR4.out.keep (kp_set4 w4 w1.heap.size (.int .i64 (D2.size:Int)) (.slice (some ⟨g4,0,none⟩) D2.cells.length e4) (.slice g5 D2.loose.length e5) (.int .i64 (D2.syncs:Int))) (fun k _ hn e=>hn (.inr e))).less (F1:=Fy F s0) fun k hk=>.inl hk)
    have hK:=hide hHeld.1
    clear hHeld BX t0 t1 t2 t3 q0 q1 q2 q3 h4
    go_wp2_with fail
    go_meet
    exact ⟨_,_,_,_,_,rfl,rfl,hB.out,Nat.le_refl _,hR.out,hK.out⟩
  case rest =>
   obtain ⟨bx,vc2,vl2,cs2,ls2,rfl,rfl,hbx,hbl,hr2,hkx⟩:=hcut
   obtain ⟨g4,e4,rfl,_⟩:=hr2.vc_
   obtain ⟨g5,e5,rfl,_,_⟩:=hr2.vl_
   rename World=>wx
   have hSx:=HS.out.no hkx
   have hsync:=rsync_any ⟨_,_,_,_,rfl,hr2⟩ HD2B.out.1 HD2B.out.2
   have HSY:=hide hsync
   have HSX:=hide hSx
   have x0:=hbx.c0
   have x1:=hbx.c1
   have x2:=hbx.c2
   have x3:=hbx.c3
   clear hS hsync hSx hr2 hbx hbl
   unfold rfV at HSY
   go_wp2_with fail
   refine HSY.out.mono ?_
   rintro e w4 ⟨v4',rfl,⟨vc3,vl3,cs3,ls3,rfl,hrf3⟩,k4⟩
   obtain ⟨g6,e6,rfl,_⟩:=hrf3.vc_
   obtain ⟨g7,e7,rfl,_,_⟩:=hrf3.vl_
   have hn3:D2.sync.cells.length=D2.cells.length:=sync_n _
   generalize hD3:D2.sync=D3 at hrf3 hn3
   have HVV:Hid (V2=⟨D3,V.L.eraseIdx i⟩):=by show _=_; rw [HVV.out,hD3]
   have hS4:=HSX.out.no k4
   have K5:=kpU4 (S:=fun q=>q=s0) w4 s0 (.int .i64 (D3.size:Int)) (.slice (some ⟨g6,0,none⟩) D3.cells.length e6) (.slice g7 D3.loose.length e7) (.int .i64 (D3.syncs:Int)) rfl
   have hB5:=hS4.bv.four (.int .i64 (D3.size:Int)) (.slice (some ⟨g6,0,none⟩) D3.cells.length e6) (.slice g7 D3.loose.length e7) (.int .i64 (D3.syncs:Int))
   have hZ5:=hS4.bz.keep K5 (by omega)
   have hR5:=hrf3.keep K5 (fun k _ hn e=>hn (.inr e))
   have hkn4:=HH.out.kn.no hS4.kp
   have hO5:=hkn4.own.keep K5 fun q e e2=>hkn4.own.not_at hS4.bv (by decide) (by rw [e,e2])
   have KW5:=hS4.kp.trans (K5.mono fun q e=>.inr (by subst e; exact hS4.sl))
   obtain ⟨y0,y1,y2,y3,y4⟩:=hS4.bv.cell
   have f0:=hS4.bv.frozen 0
   have f1:=hS4.bv.frozen 1
   have f2:=hS4.bv.frozen 2
   have f3:=hS4.bv.frozen 3
   have HB5:=hide hB5
   have HZ5:=hide hZ5
   have HR5:=hide hR5
   have HO5:=hide hO5
   have HK5:=hide KW5
   have HOK3:=hide hrf3.ok
   have HOK2:Hid (Vt.Ok ⟨D3,V.L.eraseIdx i⟩):=by show Vt.Ok _; rw [← hD3]; exact HOK2.out
   have HN3:=hide hn3
   clear hS4 K5 hB5 hZ5 hR5 hkn4 hO5 KW5 hrf3 k4 hn3 hD3 x0 x1 x2 x3 HSY
   unfold rfV id
   go_upto_region 6 with fail
   generalize ((((w4.setCell ⟨s0,0,none⟩ (.int .i64 (D3.size:Int))).setCell ⟨s0,1,none⟩ (.slice (some ⟨g6,0,none⟩) D3.cells.length e6)).setCell ⟨s0,2,none⟩ (.slice g7 D3.loose.length e7)).setCell ⟨s0,3,none⟩ (.int .i64 (D3.syncs:Int)))=w5 at HB5 HZ5 HR5 HO5 HK5 ⊢
   clear y0 y1 y2 y3 y4 f0 f1 f2 f3
   obtain ⟨i1,hi1⟩:∃ j,j=i+1:=⟨_,rfl⟩
   have zw:IntKind.i64.wrap ((i:Int)+1)=(i1:Int):=by rw [IntKind.wrap_i64]; have:=HLN.out; omega
   obtain ⟨A',hto,hfrom,_,hpart⟩:=slice_parts (k:=i) (l:=i1) kn_under kn_size HO5.out (knC_one V.L) (by omega) (by omega)
   have HI1:=hide hi1
   have HN1:Hid (∀ w',Kp No w5 w'→Nws w' ⟨gk,0,none⟩ i 5 ((knC V.L).take (i * 5))):=fun w' hk'=>(hpart w' (HO5.out.no hk')).1 _ rfl
   have HN2:Hid (∀ w',Kp No w5 w'→(A'=none→V.L.length - i1=0∧ck - i1=0∧(knC V.L).drop (i1 * 5)=[])∧∀ ad,A'=some ad→Nws w' ad (V.L.length - i1) 5 ((knC V.L).drop (i1 * 5))):=fun w' hk'=>(hpart w' (HO5.out.no hk')).2
   obtain ⟨m2,hm2⟩:∃ m,m=V.L.length - i1:=⟨_,rfl⟩
   obtain ⟨c2,hc2⟩:∃ m,m=ck - i1:=⟨_,rfl⟩
   rw [← hm2,← hc2] at hfrom HN2
   have HM2:=hide hm2
   have hS6:∀ w',Kp No w5 w'→Kp No w5 w'∧w'.cell? ⟨s0,4,none⟩=some (.slice (some ⟨gk,0,none⟩) V.L.length ck):=fun w' hk'=>by
    obtain ⟨_,_,_,_,y4⟩:=(HB5.out.no hk').cell
    exact ⟨hk',y4⟩
   have HM2':Hid (m2≤V.L.length):=by show _≤_; omega
   clear hpart hm2 hc2 hi1
   have HLN:Hid (i+m2≤1024∧i≤1024):=by have:=HLN.out; have:=HM2'.out; have:=HM2.out; have:=HI1.out; exact ⟨by omega,by omega⟩
   refine wp_region_noPanic ?_
   refine LastR.begin (S:=fun w'=>Kp No w5 w'∧w'.cell? ⟨s0,4,none⟩=some (.slice (some ⟨gk,0,none⟩) V.L.length ck)) (t:=13) (by kernel_rfl) (hS6 _ (Kp.refl No w5).drew) (fun hHeld=>?_)
   refine LastR.take (i:=1) (v:=?vb1) (oi:=?ob1) ?hb1 (by kernel_rfl) (by kernel_rfl) (by kernel_rfl) (by kernel_rfl) (fun _ _ _ h=>h) (Or.inl ⟨?wb1,?yb1⟩) hHeld ?rb1
   case hb1=>simp only [gA0,gA1,gA2]; rfl
   case wb1=>rfl
   case yb1=>intro w hSw; (try dsimp only at hSw); go_simp; (try with_reducible rfl)
   simp only [Act.put,sA0,sA1,sA2]
   refine LastR.take (i:=2) (v:=?vb2) (oi:=?ob2) ?hb2 (by kernel_rfl) (by kernel_rfl) (by kernel_rfl) (by kernel_rfl) (fun _ _ _ h=>h) (Or.inl ⟨?wb2,?yb2⟩) hHeld ?rb2
   case hb2=>simp only [gA0,gA1,gA2]; rfl
   case wb2=>rfl
   case yb2=>intro w hSw; (try dsimp only at hSw); go_simp; (try with_reducible rfl)
   simp only [Act.put,sA0,sA1,sA2]
   refine LastR.take (i:=3) (v:=?vb3) (oi:=?ob3) ?hb3 (by kernel_rfl) (by kernel_rfl) (by kernel_rfl) (by kernel_rfl) (fun _ _ _ h=>h) (Or.inl ⟨?wb3,?yb3⟩) hHeld ?rb3
   case hb3=>simp only [gA0,gA1,gA2]; rfl
   case wb3=>rfl
   case yb3=>intro w hSw; (try dsimp only at hSw); go_simp; (try with_reducible rfl)
   simp only [Act.put,sA0,sA1,sA2]
   refine LastR.take (i:=4) (v:=?vb4) (oi:=?ob4) ?hb4 (by kernel_rfl) (by kernel_rfl) (by kernel_rfl) (by kernel_rfl) (fun _ _ _ h=>h) (Or.inl ⟨?wb4,?yb4⟩) hHeld ?rb4
   case hb4=>simp only [gA0,gA1,gA2]; rfl
   case wb4=>rfl
   case yb4=>intro w hSw; (try dsimp only at hSw); go_simp; (try with_reducible rfl)
   simp only [Act.put,sA0,sA1,sA2]
   refine LastR.take (i:=6) (v:=?vb6) (oi:=?ob6) ?hb6 (by kernel_rfl) (by kernel_rfl) (by kernel_rfl) (by kernel_rfl) (fun _ _ _ h=>h) (Or.inl ⟨?wb6,?yb6⟩) hHeld ?rb6
   case hb6=>simp only [gA0,gA1,gA2]; rfl
   case wb6=>rfl
   case yb6=>intro w hSw; (try dsimp only at hSw); go_simp; (try with_reducible rfl)
   simp only [Act.put,sA0,sA1,sA2]
   refine LastR.take (i:=7) (v:=?vb7) (oi:=?ob7) ?hb7 (by kernel_rfl) (by kernel_rfl) (by kernel_rfl) (by kernel_rfl) (fun _ _ _ h=>h) (Or.inl ⟨?wb7,?yb7⟩) hHeld ?rb7
   case hb7=>simp only [gA0,gA1,gA2]; rfl
   case wb7=>rfl
   case yb7=>intro w hSw; (try dsimp only at hSw); go_simp; (try with_reducible rfl)
   simp only [Act.put,sA0,sA1,sA2]
   refine LastR.take (i:=8) (v:=?vb8) (oi:=?ob8) ?hb8 (by kernel_rfl) (by kernel_rfl) (by kernel_rfl) (by kernel_rfl) (fun _ _ _ h=>h) (Or.inl ⟨?wb8,?yb8⟩) hHeld ?rb8
   case hb8=>simp only [gA0,gA1,gA2]; rfl
   case wb8=>rfl
   case yb8=>intro w hSw; (try dsimp only at hSw); go_simp; (try with_reducible rfl)
   simp only [Act.put,sA0,sA1,sA2]
   refine LastR.take (i:=9) (v:=?vb9) (oi:=?ob9) ?hb9 (by kernel_rfl) (by kernel_rfl) (by kernel_rfl) (by kernel_rfl) (fun _ _ _ h=>h) (Or.inl ⟨?wb9,?yb9⟩) hHeld ?rb9
   case hb9=>simp only [gA0,gA1,gA2]; rfl
   case wb9=>rfl
   case yb9=>intro w hSw; (try dsimp only at hSw); go_simp; (try with_reducible rfl)
   simp only [Act.put,sA0,sA1,sA2]
   refine LastR.take (i:=10) (v:=?vb10) (oi:=?ob10) ?hb10 (by kernel_rfl) (by kernel_rfl) (by kernel_rfl) (by kernel_rfl) (fun _ _ _ h=>h) (Or.inl ⟨?wb10,?yb10⟩) hHeld ?rb10
   case hb10=>simp only [gA0,gA1,gA2]; rfl
   case wb10=>rfl
   case yb10=>intro w hSw; (try dsimp only at hSw); go_simp; (try with_reducible rfl)
   simp only [Act.put,sA0,sA1,sA2]
   refine LastR.run (i:=0) (o:=?ob0) ?hb0 (by kernel_rfl) (fun K hK=>?sb0)
   case hb0=>simp only [gA0,gA1,gA2]; rfl
   go_simp
   refine hK.out _ _ (fun _=>hS6 _ (hHeld.1.trans' (Kp.alloc No _ _))) (fun hHe=>?_)
   have hHeld:=hHe (by decide)
   clear hK K hHe
   try simp only [Act.put,sA0,sA1,sA2]
   refine LastR.run (i:=5) (o:=?ob5) ?hb5 (by kernel_rfl) (fun K hK=>?sb5)
   case hb5=>simp only [gA0,gA1,gA2]; rfl
   have oe:=ownT_none w5.drew 149 5
   refine step_appS ty_kn rfl (.tmp 30) (.tmp 34) _ rfl Tryz.underlying40 rfl oe _ rfl (fun e=>by cases e) (fun ad e=>by injection e with e; subst e; exact HN1.out _ (hHeld.1)) (by have:=HLN.out; omega) (by simp <;> omega) ?_
   intro A4 n4 c4 w6 hn4 ha4
   have hk6:Kp No w5 w6:=hHeld.1.trans (ha4.kp.mono fun q e=>.inr (Nat.le_trans (by simp <;> omega) (oe.ge q e)))
   have hn4':=hide hn4
   clear hn4
   refine hK.out _ _ (fun _=>hS6 _ hk6) (fun hHe=>?_)
   have hHeld:=hHe (by decide)
   clear hK K hHe
   try simp only [Act.put,sA0,sA1,sA2]
   refine LastR.run (i:=11) (o:=?ob11) ?hb11 (by kernel_rfl) (fun K hK=>?sb11)
   case hb11=>simp only [gA0,gA1,gA2]; rfl
   have o4:=ha4.own
   rw [Nat.zero_add,List.nil_append] at o4
   have hnw:=HN2.out _ hHeld.1
   refine step_appS ty_kn rfl (.tmp 35) (.tmp 40) _ rfl Tryz.underlying40 rfl o4 _ rfl hnw.1 hnw.2 (by have:=HLN.out; omega) (by have h1:=ha4.kp.size; simp at h1 ⊢; omega) ?_
   intro A5 n5 c5 w7 hn5 ha5
   have hk7:Kp No w5 w7:=hHeld.1.trans (ha5.kp.mono fun q e=>.inr (Nat.le_trans (by simp <;> omega) (o4.ge q e)))
   have hge:∀ q,(Value.slice A5 n5 c5).ownBlock=some q→w5.heap.size≤q:=fun q e=>Nat.le_trans (by simp <;> omega) (ha5.own.ge q e)
   have hn5':=hide hn5
   clear hn5
   refine hK.out _ _ (fun _=>hS6 _ hk7) (fun hHe=>?_)
   have hHeld:=hHe (by decide)
   clear hK K hHe
   try simp only [Act.put,sA0,sA1,sA2]
   refine LastR.take (i:=12) (v:=?vb12) (oi:=?ob12) ?hb12 (by kernel_rfl) (by kernel_rfl) (by kernel_rfl) (by kernel_rfl) (fun _ _ _ h=>h) (Or.inl ⟨?wb12,?yb12⟩) hHeld ?rb12
   case hb12=>simp only [gA0,gA1,gA2]; rfl
   case wb12=>rfl
   case yb12=>intro w hSw; (try dsimp only at hSw); go_simp; (try with_reducible rfl)
   simp only [Act.put,sA0,sA1,sA2]
   refine LastR.run (i:=13) (o:=?ob13) ?hb13 (by kernel_rfl) (fun K hK=>?sb13)
   case hb13=>simp only [gA0,gA1,gA2]; rfl
   have hb7:=HB5.out.no hk7
   have q4:=hb7.frozen 4
   obtain ⟨_,_,_,_,y4⟩:=hb7.cell
   go_simp
   refine hK.out _ _ (fun h=>absurd rfl h) (fun _=>?_)
   clear hK K
   try simp only [Act.put,sA0,sA1,sA2]
   refine LastR.done (by kernel_rfl) ?_ _
   refine NoPanic.normal ?_
   have HB8:=hide (hb7.set4 (.slice A5 n5 c5))
   have K8:=Kp.setCell (S:=fun q=>q=s0) (p:=⟨s0,4,none⟩) (w:=w7) rfl (.slice A5 n5 c5)
   have hlt:=HB5.out.lt
   have HZ8:=hide ((HZ5.out.no hk7).keep K8 (by omega))
   have HK8:=hide ((HK5.out.trans' hk7).trans (K8.mono fun q e=>.inr (by subst e; exact HS.out.sl)))
   have hlen8:i+m2=(V.L.eraseIdx i).length:=by rw [List.length_eraseIdx,if_pos (by omega)]; have:=HM2.out; have:=HI1.out; omega
   have HR8:Hid (RvR (w7.setCell ⟨s0,4,none⟩ (.slice A5 n5 c5)) (Fz F s0) ⟨D3,V.L.eraseIdx i⟩ (.slice (some ⟨g6,0,none⟩) D3.cells.length e6) (.slice g7 D3.loose.length e7) (.slice A5 n5 c5) cs3 ls3):=by
    have hown:=ha5.own.keep K8 fun q e e2=>by have:=hge q e; omega
    rw [HI1.out,← knC_erase,hlen8] at hown
    refine ⟨((HR5.out.no hk7).keep K8 (fun k _ hn e=>hn (.inr e))).less (F1:=Fz F s0) (fun k hk=>.inl hk),⟨ownT_base0 hown,fun q e f=>?_⟩,?_⟩
    ·have h1:=hge q e
     have h2:=HR5.out.bd q (.inl f)
     omega
    ·exact HOK2.out
   generalize w7.setCell ⟨s0,4,none⟩ (.slice A5 n5 c5)=w8 at HB8 HZ8 HK8 HR8 ⊢
   clear hb7 K8 q4 y4 hk7 hge ha5 ha4 o4 oe hk6
   obtain ⟨x0,x1,x2,x3,x4⟩:=HB8.out.cell
   obtain ⟨z0,z1,z2,z3,z4⟩:=HZ8.out.cell
   have f0:=HZ8.out.frozen 0
   have f1:=HZ8.out.frozen 1
   have f2:=HZ8.out.frozen 2
   have f3:=HZ8.out.frozen 3
   have f4:=HZ8.out.frozen 4
   obtain ⟨r0,r1,r2,r3,r4⟩:=(HZ8.out.all (.int .i64 (D3.size:Int)) (.slice (some ⟨g6,0,none⟩) D3.cells.length e6) (.slice g7 D3.loose.length e7) (.int .i64 (D3.syncs:Int)) (.slice A5 n5 c5)).cell
   have HFIN:=hide (HR8.out.out5 (.int .i64 (D3.size:Int)) (.slice (some ⟨g6,0,none⟩) D3.cells.length e6) (.slice g7 D3.loose.length e7) (.int .i64 (D3.syncs:Int)) (.slice A5 n5 c5))
   have HKF:=hide (HK8.out.trans (kp5 (S:=Up No w) w8 (s0+2) (.int .i64 (D3.size:Int)) (.slice (some ⟨g6,0,none⟩) D3.cells.length e6) (.slice g7 D3.loose.length e7) (.int .i64 (D3.syncs:Int)) (.slice A5 n5 c5) (.inr (Nat.le_trans HS.out.sl (Nat.le_add_right _ _)))))
   go_wp2_with fail
   refine bodyPost_ret (v:=tupE 0 (rvV D3 (.slice (some ⟨g6,0,none⟩) D3.cells.length e6) (.slice g7 D3.loose.length e7) (.slice A5 n5 c5))) (by simp [results,Tryz.results88,go_sem,rvV,tupE,r0,r1,r2,r3,r4]) rfl ?_
   exact ⟨_,by rw [HE0.out],by rw [HVV.out]; exact ⟨_,_,_,_,_,rfl,HFIN.out⟩,HKF.out⟩
 ·have hkf:kn V.L s=false:=by simpa using hk
  have hix:=HIX.out
  rw [ixZ_no hkf] at hix
  have HIX2:=hide hix
  have HE6:Hid (V.drE s=6):=by show _=_; unfold Vt.drE; rw [if_neg hk]
  clear hix hk hkf HIX
  go_wp2_with fail
  refine HIX2.out.mono ?_
  rintro e w1 ⟨rfl,k1⟩
  have HS:=hide (HS0.out.no k1)
  clear v0 v1 v2 v3 v4 b0 b1 b2 b3 k1 HIX2
  obtain ⟨v0,v1,v2,v3,v4⟩:=HS.out.bv.cell
  obtain ⟨z0,z1,z2,z3,z4⟩:=HS.out.bz.cell
  have f0:=HS.out.bz.frozen 0
  have f1:=HS.out.bz.frozen 1
  have f2:=HS.out.bz.frozen 2
  have f3:=HS.out.bz.frozen 3
  have f4:=HS.out.bz.frozen 4
  obtain ⟨r0,r1,r2,r3,r4⟩:=(HS.out.bz.all (.int .i64 (V.D.size:Int)) (.slice (some ⟨gc,0,none⟩) V.D.cells.length cc) (.slice A V.D.loose.length cl) (.int .i64 (V.D.syncs:Int)) (.slice A2 V.L.length ck)).cell
  have Kw:Kp No w (((((w1.setCell ⟨(s0+2),0,none⟩ (.int .i64 (V.D.size:Int))).setCell ⟨(s0+2),1,none⟩ (.slice (some ⟨gc,0,none⟩) V.D.cells.length cc)).setCell ⟨(s0+2),2,none⟩ (.slice A V.D.loose.length cl)).setCell ⟨(s0+2),3,none⟩ (.int .i64 (V.D.syncs:Int))).setCell ⟨(s0+2),4,none⟩ (.slice A2 V.L.length ck)):=HS.out.kp.trans (kp5 (S:=Up No w) w1 (s0+2) (.int .i64 (V.D.size:Int)) (.slice (some ⟨gc,0,none⟩) V.D.cells.length cc) (.slice A V.D.loose.length cl) (.int .i64 (V.D.syncs:Int)) (.slice A2 V.L.length ck) (.inr (Nat.le_trans HS.out.sl (Nat.le_add_right _ _))))
  have HF:=hide (show RvAt (((((w1.setCell ⟨(s0+2),0,none⟩ (.int .i64 (V.D.size:Int))).setCell ⟨(s0+2),1,none⟩ (.slice (some ⟨gc,0,none⟩) V.D.cells.length cc)).setCell ⟨(s0+2),2,none⟩ (.slice A V.D.loose.length cl)).setCell ⟨(s0+2),3,none⟩ (.int .i64 (V.D.syncs:Int))).setCell ⟨(s0+2),4,none⟩ (.slice A2 V.L.length ck)) F V (rvV V.D (.slice (some ⟨gc,0,none⟩) V.D.cells.length cc) (.slice A V.D.loose.length cl) (.slice A2 V.L.length ck)) from ⟨_,_,_,cs,ls,rfl,HH.out.no Kw⟩)
  have HKW:=hide Kw
  clear Kw
  go_wp2_with fail
  refine bodyPost_ret (v:=tupE 6 (rvV V.D (.slice (some ⟨gc,0,none⟩) V.D.cells.length cc) (.slice A V.D.loose.length cl) (.slice A2 V.L.length ck))) (by simp [results,Tryz.results88,go_sem,rvV,tupE,r0,r1,r2,r3,r4]) rfl ?_
  exact ⟨_,by rw [HEE.out,HE6.out],by rw [HV2.out,Vt.dr_no (by rw [HE6.out]; omega)]; exact HF.out,HKW.out⟩
end Go.Proofs.YtnfcfdhlmeimhaaGreat
