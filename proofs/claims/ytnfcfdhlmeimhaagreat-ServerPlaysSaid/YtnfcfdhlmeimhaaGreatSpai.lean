/- Read, Write, Spoil and Wipe of package platter's disk, each as a contract over memory; no condition. -/
import Derived.Test.YtnfcfdhlmeimhaaGreatSpah
import Derived.Test.YtnfcfdhlmeimhaaGreatSpac
import Derived.Test.YtnfcfdhlmeimhaaGreatSpaa
namespace Go.Proofs.YtnfcfdhlmeimhaaGreat
open Go.RowKit
set_option linter.unusedVariables false
set_option maxRecDepth 20000
set_option linter.unusedSimpArgs false
theorem write_info:(Tryz.prog.info? 153).map (fun i=>(i.zero,i.size,i.bytes))=some (some (.agg #[.int .i64 0,.slice none 0 0]),2,32):=by kernel_rfl
theorem ty_write:Ty 153 (.agg #[.int .i64 0,.slice none 0 0]) 2 32:=ty_of write_info rfl (by omega) (by omega)
/-- What a call on a disk comes to: v is returned, the disk is D', all else is as it was. -/
def DkPost (w:World) (F:Nat→Prop) (g:Nat) (D':Dk) (v:Value) (e:Ending) (w1:World):Prop:=e=.returned v∧DkAt w1 (Up F w) g D'∧Kp F w w1
section
variable {w w1 w2:World} {F S:Nat→Prop} {g gc n c k:Nat} {D:Dk} {vc vl v:Value} {cs:List (Value × List UInt8)} {ls:List (Nat × (Value × List UInt8))} {b:List UInt8}
theorem DkAt.stay (h:DkAt w F g D) (v:Value):DkPost w F g D v (.returned v) w:=⟨rfl,h.mono fun _ hk=>.inl hk,Kp.refl _ _⟩
theorem DkR.at_ (h:DkR w F g D vc vl cs ls):DkAt w F g D:=⟨vc,vl,cs,ls,h⟩
theorem fst_mem {p:Value × List UInt8} (hp:p ∈ cs):p.1 ∈ cs.map Prod.fst:=List.mem_map.2 ⟨p,hp,rfl⟩
/-- A byte of a cell is set. -/
theorem DkR.byte (h:DkR w F g D vc vl cs ls) {gb m c' a:Nat} {bs:List UInt8} (hp:cs[k]?=some (.slice (some ⟨gb,0,none⟩) m c',bs)) (ha:a < m) (x:UInt8) (u:Value) (hu:u=bv x) :
  DkR (w.setCell ⟨gb,a,none⟩ u) F g ⟨D.size,D.cells.set k (bs.set a x),D.loose,D.syncs⟩ vc vl (cs.set k (.slice (some ⟨gb,0,none⟩) m c',bs.set a x)) ls∧Kp F w (w.setCell ⟨gb,a,none⟩ u):=by
 have hm:=List.mem_of_getElem? hp
 have hkl:=(List.getElem?_eq_some_iff.1 hp).1
 have hbo:=h.rc _ hm
 have hks:Kp (fun q=>q=gb) w (w.setCell ⟨gb,a,none⟩ u):=Kp.setCell (p:=⟨gb,a,none⟩) (S:=fun q=>q=gb) rfl u
 have hfst:(cs.set k (.slice (some ⟨gb,0,none⟩) m c',bs.set a x)).map Prod.fst=cs.map Prod.fst:=by
  rw [List.map_set]
  apply List.ext_getElem?
  intro i
  rw [List.getElem?_set]
  split
  ·rename_i e
   subst e
   rw [if_pos (by rw [List.length_map]; exact hkl),List.getElem?_map,hp]
   rfl
  ·rfl
 refine ⟨⟨(hks.block g h.glt fun e=>?_).trans h.blk,?_,h.ol.keep hks fun q hq e=>?_,fun p hq=>?_,fun p hq=>(h.rl p hq).keep hks fun q hq' e=>?_,?_,?_,h.dl,h.fg,h.fc,h.fl,fun p hq=>?_,h.fs,?_⟩,hks.mono fun q e=>?_⟩
 ·subst e; exact own_ne_at hbo h.blk (by decide) rfl
 ·rw [List.length_set,hfst]
  exact h.oc.keep hks fun q hq e=>by subst e; exact ownT_far (e:=5) (sz:=1) (n:=bs.length) (xs:=bs.map bv) hbo h.oc (by decide) rfl hq
 ·subst e; exact ownT_far (e:=5) (sz:=1) (n:=bs.length) (xs:=bs.map bv) hbo h.ol (by decide) rfl hq
 ·obtain ⟨i,hi⟩:=List.getElem?_of_mem hq
  rw [List.getElem?_set] at hi
  by_cases e:k=i
  ·rw [if_pos e,if_pos hkl] at hi
   injection hi with hi
   subst hi
   exact hbo.set ha x u hu
  ·rw [if_neg e] at hi
   refine (h.rc p (List.mem_of_getElem? hi)).keep hks fun q hq' e'=>?_
   subst e'
   exact e (h.ap.cc k i _ p.1 _ (by rw [List.getElem?_map,hp]; rfl) (by rw [List.getElem?_map,hi]; rfl) rfl hq')
 ·subst e
  exact h.ap.cl _ (fst_mem hm) p.2.1 (List.mem_map.2 ⟨p,hq,rfl⟩) _ rfl hq'
 ·rw [hfst]; exact h.ap
 ·rw [List.map_set,h.dc]
 ·intro q hq'
  rcases mem_set hq with hq | rfl
  ·exact h.fr p hq q hq'
  ·exact h.fr _ hm q hq'
 ·refine h.ok.setc k ?_ _
  rw [List.length_set]
  exact h.ok.cl bs (by rw [h.dc]; exact List.mem_map.2 ⟨_,hm,rfl⟩)
 ·subst e; exact h.fr _ hm _ rfl
/-- A loose write more. -/
theorem DkR.wrote (h:DkR w F g D vc vl cs ls) (hk1:Kp No w w1) (ho:Own w1 0 5 v b) (hfr:∀ q,v.ownBlock=some q→w.heap.size≤q) (hk:k < D.cells.length) (hb:b.length≤D.size) {v2:Value}
  (ha:AppT w1 0 153 2 vl ls.length (lsC (mp Prod.fst ls)) 1 [.int .i64 (k:Int),v] v2 w2) :
  DkR (w2.setCell ⟨g,2,none⟩ v2) (Up F w) g ⟨D.size,D.cells,D.loose ++ [(k,b)],D.syncs⟩ vc v2 cs (ls ++ [(k,(v,b))])∧Kp F w (w2.setCell ⟨g,2,none⟩ v2):=by
 have h1:=h.no hk1
 have hg2:w2.heap[g]?=some (.cells #[vc,.int .i64 (D.size:Int),vl,.int .i64 (D.syncs:Int)] 92 (0,0)):=(ha.kp.block g h1.glt fun e=>h1.ol.not_at h1.blk (by decide) e).trans h1.blk
 have offB:∀ {u:Value} {bs:List UInt8},Own w1 0 5 u bs→Own (w2.setCell ⟨g,2,none⟩ v2) 0 5 u bs:=fun hu=>by
  have h2:=hu.keep ha.kp fun q hq e=>ownT_far (e:=5) (sz:=1) (n:=_) (xs:=_) hu h1.ol (by decide) hq e
  exact h2.keep (Kp.setCell (p:=⟨g,2,none⟩) (S:=fun q=>q=g) rfl v2) fun q hq e=>by subst e; exact own_ne_at h2 hg2 (by decide) hq
 have hks:Kp (fun q=>q=g) w2 (w2.setCell ⟨g,2,none⟩ v2):=Kp.setCell (p:=⟨g,2,none⟩) (S:=fun q=>q=g) rfl v2
 have hok:D.Ok:=h.ok
 refine ⟨⟨?_,?_,?_,fun p hp=>offB (h1.rc p hp),fun p hp=>?_,?_,h.dc,?_,.inl h.fg,fun q hq=>.inl (h.fc q hq),fun q hq=>?_,fun p hp q hq=>.inl (h.fr p hp q hq),fun p hp q hq=>?_,?_⟩,?_⟩
 ·exact heap_setCell_same w2 g 2 _ 92 _ hg2
 ·have h2:=h1.oc.keep ha.kp fun q hq e=>ownT_far h1.oc h1.ol (by decide) hq e
  exact h2.keep hks fun q hq e=>by subst e; exact h2.not_at hg2 (by decide) hq
 ·rw [List.length_append,mp_snoc,lsC_snoc]
  exact ha.own.keep hks fun q hq e=>by subst e; exact ha.own.not_at hg2 (by decide) hq
 ·rcases List.mem_append.1 hp with hp | hp
  ·exact offB (h1.rl p hp)
  ·rw [List.mem_singleton] at hp; subst hp; exact offB ho
 ·rw [List.map_append]
  refine h.ap.snoc (fun u hu q hq hq'=>?_) fun u hu q hq hq'=>?_
  ·obtain ⟨p,hp,rfl⟩:=List.mem_map.1 hu
   have:=(h.rc p hp).lt q hq
   have:=hfr q hq'
   omega
  ·obtain ⟨p,hp,rfl⟩:=List.mem_map.1 hu
   have:=(h.rl p hp).lt q hq
   have:=hfr q hq'
   omega
 ·rw [mp_snoc,h.dl]
 ·rcases ha.at_ with e | e
  ·exact .inl (h.fl q (e ▸ hq))
  ·rw [hq] at e
   injection e with e
   exact .inr (by have:=hk1.size; omega)
 ·rcases List.mem_append.1 hp with hp | hp
  ·exact .inl (h.fs p hp q hq)
  ·rw [List.mem_singleton] at hp; subst hp; exact .inr (hfr q hq)
 ·exact ⟨hok.n0,hok.n1,hok.s0,hok.s1,hok.cl,fun p hp=>by
   rcases List.mem_append.1 hp with hp | hp
   ·exact hok.ll p hp
   ·rw [List.mem_singleton] at hp; subst hp; exact ⟨hk,hb⟩⟩
 ·exact ((hk1.of_no F).trans (ha.kp.mono fun q e=>.inl (h.fl q e))).trans (Kp.setCell (p:=⟨g,2,none⟩) (.inl h.fg) v2)
theorem DkR.blk_app (h:DkR w F g D vc vl cs ls) {n' m':Nat} {xs ys:List Value} {v2:Value} (ha:AppT w 0 153 2 vl n' xs m' ys v2 w2):w2.heap[g]?=some (.cells #[vc,.int .i64 (D.size:Int),vl,.int .i64 (D.syncs:Int)] 92 (0,0)) :=
 (ha.kp.block g h.glt fun e=>h.ol.not_at h.blk (by decide) e).trans h.blk
/-- One of the loose writes. -/
theorem DkR.lw (h:DkR w F g D vc vl cs ls) {A:Option Addr} {m cl:Nat} (hv:vl=.slice A m cl) {j:Nat} (hj:j < D.loose.length):∃ gl q A' m' c' bs,A=some ⟨gl,0,none⟩∧D.loose[j]?=some (q,bs)∧ls[j]?=some (q,(.slice A' m' c',bs))∧w.cell? ⟨gl,j * 2,none⟩=some (.int .i64 (q:Int))∧w.cell? ⟨gl,j * 2+1,none⟩=some (.slice A' m' c')∧Own w 0 5 (.slice A' m' c') bs∧q < D.cells.length∧bs.length≤D.size:=by
 subst hv
 have hn:=h.nls
 obtain ⟨p,hp⟩:∃ p,ls[j]?=some p:=⟨_,List.getElem?_eq_getElem (by omega)⟩
 have ho:=h.rl p (List.mem_of_getElem? hp)
 obtain ⟨q,v,bs⟩:=p
 obtain ⟨A',m',c',e⟩:=ho.form
 obtain ⟨h1,h2⟩:=lsC_get (lv:=mp Prod.fst ls) (j:=j) (p:=(q,v)) (by rw [mp_get,hp]; rfl)
 obtain ⟨gl,e1,_,_,_,x1⟩:=h.ol.cell h1
 have x2:=OwnT.cellAt (by rw [e1] at h; exact h.ol) h2
 have hd:D.loose[j]?=some (q,bs):=by rw [h.dl,mp_get,hp]; rfl
 have hll:=h.ok.ll _ (List.mem_of_getElem? hd)
 simp only at e
 subst e
 exact ⟨gl,q,A',m',c',bs,e1,hd,hp,x1,x2,ho,hll.1,hll.2⟩
end
section
variable {w:World} {F:Nat→Prop} {g:Nat} {D:Dk}
set_option maxHeartbeats 2000000 in
theorem pread_any (h:DkAt w F g D) (z:Int):Calls Tryz.prog 94 #[.pointer (some ⟨g,0,none⟩),.int .i64 z] w (OwnPost w (D.rd z)):=by
 by_cases hz:D.In z
 ·have hhas:=has_in h z hz
  obtain ⟨q,rfl⟩:∃ q:Nat,z=q:=⟨z.toNat,by have:=hz.1; omega⟩
  have hq:q < D.cells.length:=by have:=hz.2; omega
  have hrd:D.rd (q:Int)=rdL D.loose q (D.cell q):=by unfold Dk.rd; rw [if_pos hz,Int.toNat_natCast]
  rw [hrd]
  clear hrd hz
  obtain ⟨vc,vl,cs,ls,h⟩:=h
  obtain ⟨gc,c,rfl,hc,hg⟩:=h.vc_
  obtain ⟨A,cl,rfl,hcl,hA⟩:=h.vl_
  clear hA
  have x0:=h.c0
  have x2:=h.c2
  have hL:D.loose.length≤maxLen:=by
   rcases h.ol.2 with ⟨_,e⟩ | ⟨g',cap,cur,_,_,_,h1,h2,_⟩
   ·have:=h.nls; omega
   ·have:=h.nls; omega
  unfold maxLen at hL
  obtain ⟨A',m,c',_,xk,hok,hm⟩:=h.cell rfl hq
  have hsz:=h.ok.cell_le q
  have hs1:=h.ok.s1
  have HM:=hide hm
  clear hm
  go_enter Tryz.func94,Tryz.ntmps94
  go_wp2_with fail
  refine hhas.mono ?_
  rintro e w1 ⟨rfl,rfl⟩
  go_wp2_with fail
  go_loop [5] (fun i=>(∃ j:Nat,j < D.loose.length∧i=.int .i64 (j:Int)∧Hid (rdL D.loose q (D.cell q)=rdL (D.loose.take (j+1)) q (D.cell q)))∨(i=.int .i64 (-1)∧Hid (rdL D.loose q (D.cell q)=D.cell q))) (fun i=>(intOf i+1).toNat)
  case atStart =>
   by_cases h0:D.loose.length=0
   ·refine .inr ⟨by rw [h0]; rfl,?_⟩
    rw [List.eq_nil_of_length_eq_zero h0]
    rfl
   ·refine .inl ⟨D.loose.length - 1,by omega,?_,?_⟩
    ·congr 1
     omega
    ·rw [List.take_of_length_le (by omega)]
     rfl
  case round =>
   rcases hrel with ⟨j,hj,rfl,HJ⟩ | ⟨rfl,HJ⟩
   ·obtain ⟨gl,p,A2,m2,c2,bs,rfl,hp,_,y0,y1,hob,_,hbl⟩:=h.lw rfl hj
    have HP:=hide (rdL_next hp q (D.cell q))
    clear hp
    by_cases hpq:p=q
    ·subst hpq
     have HR:Hid (rdL D.loose p (D.cell p)=bs):=by show _=_; rw [HJ.out,HP.out,if_pos rfl]
     go_wp2_with fail
     refine (sclone_any hob.bts (by omega)).mono ?_
     rintro e w1 hp
     have HP2:Hid (OwnPost w bs e w1):=hp
     obtain ⟨A3,n3,c3,rfl,_⟩:=hp
     go_wp2_with fail
     go_ret
     rw [HR.out]
     exact HP2.out
    ·have HR:Hid (rdL D.loose q (D.cell q)=rdL (D.loose.take j) q (D.cell q)):=by show _=_; rw [HJ.out,HP.out,if_neg hpq]
     have hne:((p:Int) == (q:Int))=false:=by simp; omega
     clear HJ HP
     go_wp2_with fail
     go_round
     case rel =>
      by_cases h0:j=0
      ·subst h0
       exact .inr ⟨rfl,HR⟩
      ·refine .inl ⟨j - 1,by omega,?_,?_⟩
       ·congr 1
        omega
       ·rw [show j - 1+1=j by omega]
        exact HR
     case measure=>simp [intOf]
   ·go_wp2_with fail
    refine (sclone_any hok.bts (by omega)).mono ?_
    rintro e w1 hp
    have HP2:Hid (OwnPost w (D.cell q) e w1):=hp
    obtain ⟨A3,n3,c3,rfl,_⟩:=hp
    go_wp2_with fail
    go_ret
    rw [HJ.out]
    exact HP2.out
 ·have hhas:=has_out h z hz
  have hrd:D.rd z=[]:=by unfold Dk.rd; rw [if_neg hz]
  rw [hrd]
  go_enter Tryz.func94,Tryz.ntmps94
  go_wp2_with fail
  refine hhas.mono ?_
  rintro e w1 ⟨rfl,rfl⟩
  go_wp2_with fail
  go_ret
  exact ⟨none,0,0,rfl,Own.nil _ _ _,Kp.refl _ _⟩
set_option maxHeartbeats 2000000 in
theorem pwrite_any {u:Value} {b:List UInt8} (h:DkAt w F g D) (hu:Bts w u b) (hL:D.loose.length+1≤1000000) (z:Int):Calls Tryz.prog 81 #[.pointer (some ⟨g,0,none⟩),.int .i64 z,u] w (DkPost w F g (D.put z b) (.int .i64 (D.putE z b:Int))):=by
 obtain ⟨B,m,d,rfl⟩:=hu.form
 have HM:=hide hu.len
 by_cases hz:D.In z
 ·have hhas:=has_in h z hz
  by_cases hs:D.size < m
  ·have hE:D.putE z b=29:=by unfold Dk.putE; rw [if_pos hz,if_pos (by have:=HM.out; omega)]
   have hP:D.put z b=D:=by unfold Dk.put; rw [if_neg (by omega)]
   rw [hE,hP]
   have HH:=hide h
   clear hE hP
   obtain ⟨vc,vl,cs,ls,h⟩:=h
   have x1:=h.c1
   go_enter Tryz.func81,Tryz.ntmps81
   go_wp2_with fail
   refine hhas.mono ?_
   rintro e w1 ⟨rfl,rfl⟩
   go_wp2_with fail
   go_ret
   exact HH.out.stay _
  ·have hb:b.length≤D.size:=by have:=HM.out; omega
   have hE:D.putE z b=0:=by unfold Dk.putE; rw [if_pos hz,if_neg (by omega)]
   obtain ⟨q,rfl⟩:∃ q:Nat,z=q:=⟨z.toNat,by have:=hz.1; omega⟩
   have hq:q < D.cells.length:=by have:=hz.2; omega
   have hP:D.put (q:Int) b=⟨D.size,D.cells,D.loose ++ [(q,b)],D.syncs⟩:=by unfold Dk.put; rw [if_pos hE,Int.toNat_natCast]
   rw [hE,hP]
   clear hE hP hz
   obtain ⟨vc,vl,cs,ls,h⟩:=h
   obtain ⟨A,cl,rfl,hcl,hA⟩:=h.vl_
   clear hA
   have x1:=h.c1
   have x2:=h.c2
   have xx2:w.drew.cell? ⟨g,2,none⟩=some (.slice A D.loose.length cl):=x2
   have hs1:=h.ok.s1
   have HH:=hide h
   have HNL:=hide h.nls
   go_enter Tryz.func81,Tryz.ntmps81
   go_wp2_with fail
   refine hhas.mono ?_
   rintro e w1 ⟨rfl,rfl⟩
   go_wp2_with fail
   refine wp_region_noPanic ?_
   refine LastR.begin (S:=fun w'=>w'.cell? ⟨g,2,none⟩=some (.slice A D.loose.length cl)) (t:=13) (by kernel_rfl) (xx2) (fun hHeld=>?_)
   refine LastR.take (i:=0) (v:=?va0) (oi:=?oa0) ?ha0 (by kernel_rfl) (by kernel_rfl) (by kernel_rfl) (by kernel_rfl) (fun _ _ _ h=>h) (Or.inl ⟨?wa0,?ya0⟩) hHeld ?ra0
   case ha0=>simp only [gA0,gA1,gA2]; rfl
   case wa0=>rfl
   case ya0=>intro w hSw; (try dsimp only at hSw); go_simp; (try with_reducible rfl)
   simp only [Act.put,sA0,sA1,sA2]
   refine LastR.take (i:=1) (v:=?va1) (oi:=?oa1) ?ha1 (by kernel_rfl) (by kernel_rfl) (by kernel_rfl) (by kernel_rfl) (fun _ _ _ h=>h) (Or.inl ⟨?wa1,?ya1⟩) hHeld ?ra1
   case ha1=>simp only [gA0,gA1,gA2]; rfl
   case wa1=>rfl
   case ya1=>intro w hSw; (try dsimp only at hSw); go_simp; (try with_reducible rfl)
   simp only [Act.put,sA0,sA1,sA2]
   refine LastR.take (i:=2) (v:=?va2) (oi:=?oa2) ?ha2 (by kernel_rfl) (by kernel_rfl) (by kernel_rfl) (by kernel_rfl) (fun _ _ _ h=>h) (Or.inl ⟨?wa2,?ya2⟩) hHeld ?ra2
   case ha2=>simp only [gA0,gA1,gA2]; rfl
   case wa2=>rfl
   case ya2=>intro w hSw; (try dsimp only at hSw); go_simp; (try with_reducible rfl)
   simp only [Act.put,sA0,sA1,sA2]
   refine LastR.take (i:=3) (v:=?va3) (oi:=?oa3) ?ha3 (by kernel_rfl) (by kernel_rfl) (by kernel_rfl) (by kernel_rfl) (fun _ _ _ h=>h) (Or.inl ⟨?wa3,?ya3⟩) hHeld ?ra3
   case ha3=>simp only [gA0,gA1,gA2]; rfl
   case wa3=>rfl
   case ya3=>intro w hSw; (try dsimp only at hSw); go_simp; (try with_reducible rfl)
   simp only [Act.put,sA0,sA1,sA2]
   refine LastR.take (i:=4) (v:=?va4) (oi:=?oa4) ?ha4 (by kernel_rfl) (by kernel_rfl) (by kernel_rfl) (by kernel_rfl) (fun _ _ _ h=>h) (Or.inl ⟨?wa4,?ya4⟩) hHeld ?ra4
   case ha4=>simp only [gA0,gA1,gA2]; rfl
   case wa4=>rfl
   case ya4=>intro w hSw; (try dsimp only at hSw); go_simp; (try with_reducible rfl)
   simp only [Act.put,sA0,sA1,sA2]
   refine LastR.take (i:=5) (v:=?va5) (oi:=?oa5) ?ha5 (by kernel_rfl) (by kernel_rfl) (by kernel_rfl) (by kernel_rfl) (fun _ _ _ h=>h) (Or.inl ⟨?wa5,?ya5⟩) hHeld ?ra5
   case ha5=>simp only [gA0,gA1,gA2]; rfl
   case wa5=>rfl
   case ya5=>intro w hSw; (try dsimp only at hSw); go_simp; (try with_reducible rfl)
   simp only [Act.put,sA0,sA1,sA2]
   refine LastR.take (i:=6) (v:=?va6) (oi:=?oa6) ?ha6 (by kernel_rfl) (by kernel_rfl) (by kernel_rfl) (by kernel_rfl) (fun _ _ _ h=>h) (Or.inl ⟨?wa6,?ya6⟩) hHeld ?ra6
   case ha6=>simp only [gA0,gA1,gA2]; rfl
   case wa6=>rfl
   case ya6=>intro w hSw; (try dsimp only at hSw); go_simp; (try with_reducible rfl)
   simp only [Act.put,sA0,sA1,sA2]
   refine LastR.run (i:=7) (o:=?oa7) ?ha7 (by kernel_rfl) (fun K hK=>?sa7)
   case ha7=>simp only [gA0,gA1,gA2]; rfl
   go_simp
   refine (sclone_any hu.drew (by have:=HM.out; omega)).mono ?_
   rintro e w5 ⟨A5,n5,c5,rfl,ho5,k5d⟩
   have k5:Kp No w w5:=(Kp.refl No w).drew.trans' k5d
   have x5:w5.cell? ⟨g,2,none⟩=some (.slice A D.loose.length cl):=k5.cell x2 fun f=>f
   go_wp2_with fail
   refine hK.out _ _ (fun _=>x5) (fun hHe=>?_)
   have hHeld:=hHe (by decide)
   clear hK K hHe
   try simp only [Act.put,sA0,sA1,sA2]
   refine LastR.take (i:=8) (v:=?va8) (oi:=?oa8) ?ha8 (by kernel_rfl) (by kernel_rfl) (by kernel_rfl) (by kernel_rfl) (fun _ _ _ h=>h) (Or.inl ⟨?wa8,?ya8⟩) hHeld ?ra8
   case ha8=>simp only [gA0,gA1,gA2]; rfl
   case wa8=>rfl
   case ya8=>intro w hSw; (try dsimp only at hSw); go_simp; (try with_reducible rfl)
   simp only [Act.put,sA0,sA1,sA2]
   refine LastR.run (i:=9) (o:=?oa9) ?ha9 (by kernel_rfl) (fun K hK=>?sa9)
   case ha9=>simp only [gA0,gA1,gA2]; rfl
   go_simp
   refine hK.out _ _ (fun _=>(Kp.alloc No w5 _).cell x5 (fun f=>f)) (fun hHe=>?_)
   have hHeld:=hHe (by decide)
   clear hK K hHe
   try simp only [Act.put,sA0,sA1,sA2]
   refine LastR.run (i:=10) (o:=?oa10) ?ha10 (by kernel_rfl) (fun K hK=>?sa10)
   case ha10=>simp only [gA0,gA1,gA2]; rfl
   have hI5:=(HH.out.no k5).ol.no (Kp.alloc No w5 (.cells #[.int .i64 (q:Int),.slice A5 n5 c5] 153))
   refine step_appT ty_write rfl (.tmp 24) (.tmp 29) _ rfl Tryz.underlying90 rfl hI5 _ _ rfl (nws_two (u0:=.int .i64 (q:Int)) (u1:=.slice A5 n5 c5) (by rw [World.cell?_alloc_mark]; rfl) (by rw [World.cell?_alloc_mark]; rfl) rfl rfl) (by have:=HNL.out; omega) (Nat.zero_le _) ?_
   intro A6 n6 c6 w6 hn6 ha6
   clear hn6
   have hb6:=((HH.out.no k5).no (Kp.alloc No w5 (.cells #[.int .i64 (q:Int),.slice A5 n5 c5] 153))).blk_app ha6
   have x6:w6.cell? ⟨g,2,none⟩=some (.slice A D.loose.length cl):=by rw [cell_of_row w6 g 2 _ _ _ hb6]; rfl
   have xf6:w6.frozen? ⟨g,2,none⟩=false:=frozen_of_row w6 g 2 _ _ hb6
   clear hb6
   refine hK.out _ _ (fun _=>x6) (fun hHe=>?_)
   have hHeld:=hHe (by decide)
   clear hK K hHe
   try simp only [Act.put,sA0,sA1,sA2]
   refine LastR.run (i:=11) (o:=?oa11) ?ha11 (by kernel_rfl) (fun K hK=>?sa11)
   case ha11=>simp only [gA0,gA1,gA2]; rfl
   go_simp
   refine hK.out _ _ (fun _=>x6) (fun hHe=>?_)
   have hHeld:=hHe (by decide)
   clear hK K hHe
   try simp only [Act.put,sA0,sA1,sA2]
   refine LastR.take (i:=12) (v:=?va12) (oi:=?oa12) ?ha12 (by kernel_rfl) (by kernel_rfl) (by kernel_rfl) (by kernel_rfl) (fun _ _ _ h=>h) (Or.inl ⟨?wa12,?ya12⟩) hHeld ?ra12
   case ha12=>simp only [gA0,gA1,gA2]; rfl
   case wa12=>rfl
   case ya12=>intro w hSw; (try dsimp only at hSw); go_simp; (try with_reducible rfl)
   simp only [Act.put,sA0,sA1,sA2]
   refine LastR.run (i:=13) (o:=?oa13) ?ha13 (by kernel_rfl) (fun K hK=>?sa13)
   case ha13=>simp only [gA0,gA1,gA2]; rfl
   go_simp
   refine hK.out _ _ (fun h=>absurd rfl h) (fun _=>?_)
   clear hK K
   try simp only [Act.put,sA0,sA1,sA2]
   refine LastR.done (by kernel_rfl) ?_ _
   refine NoPanic.normal ?_
   have hW:=HH.out.wrote (w1:=w5.alloc (.cells #[.int .i64 (q:Int),.slice A5 n5 c5] 153)) (k5.al _) (ho5.base0.no (Kp.alloc No w5 _)) ho5.ge hq hb ha6
   have HW:=hide hW
   clear hW
   go_wp2_with fail
   go_ret
   exact ⟨rfl,HW.out.1.at_,HW.out.2⟩
 ·have hhas:=has_out h z hz
  have hE:D.putE z b=1:=by unfold Dk.putE; rw [if_neg hz]
  have hP:D.put z b=D:=by unfold Dk.put; rw [if_neg (by omega)]
  rw [hE,hP]
  clear hE hP
  go_enter Tryz.func81,Tryz.ntmps81
  go_wp2_with fail
  refine hhas.mono ?_
  rintro e w1 ⟨rfl,rfl⟩
  go_wp2_with fail
  go_ret
  exact h.stay _
theorem xor_byte (x y:UInt8):Value.int .u8 (bits .xor .u8 (x.toNat:Int) (y.toNat:Int))=bv (x ^^^ y):=by
 rw [u8_xor_nat _ _ x.toNat_lt y.toNat_lt]
 unfold bv
 rw [UInt8.toNat_xor]
set_option maxHeartbeats 2000000 in
theorem pspoil_any (h:DkAt w F g D) (z a:Int) (x:UInt8):Calls Tryz.prog 16 #[.pointer (some ⟨g,0,none⟩),.int .i64 z,.int .i64 a,.int .u8 (x.toNat:Int)] w (DkPost w F g (D.spoil z a x) (.int .i64 (D.spoilE z a:Int))):=by
 by_cases hz:D.In z
 ·have hhas:=has_in h z hz
  obtain ⟨q,rfl⟩:∃ q:Nat,z=q:=⟨z.toNat,by have:=hz.1; omega⟩
  have hq:q < D.cells.length:=by have:=hz.2; omega
  by_cases ha:0≤a∧a < (D.cell q).length
  ·obtain ⟨p,rfl⟩:∃ p:Nat,a=p:=⟨a.toNat,by have:=ha.1; omega⟩
   have hp:p < (D.cell q).length:=by have:=ha.2; omega
   have hE:D.spoilE (q:Int) (p:Int)=0:=by unfold Dk.spoilE; rw [Int.toNat_natCast,if_pos ⟨hz,ha.1,ha.2⟩]
   obtain ⟨y,hy⟩:∃ y,(D.cell q)[p]?=some y:=⟨_,List.getElem?_eq_getElem hp⟩
   have hP:D.spoil (q:Int) (p:Int) x=⟨D.size,D.cells.set q ((D.cell q).set p (y ^^^ x)),D.loose,D.syncs⟩:=by unfold Dk.spoil; rw [if_pos hE,Int.toNat_natCast,Int.toNat_natCast,List.getD_eq_getElem?_getD,hy]; rfl
   rw [hE,hP]
   clear hE hP hz ha
   obtain ⟨vc,vl,cs,ls,h⟩:=h
   obtain ⟨gc,c,rfl,hc,hg⟩:=h.vc_
   have x0:=h.c0
   obtain ⟨A',m,c',hcs,xk,hok,hm⟩:=h.cell rfl hq
   obtain ⟨gb,cb,e,_,_⟩:=hok.some_ (by omega)
   injection e with e1 e2 e3
   subst e1 e3
   have hpm:p < m:=by omega
   have xb:=hok.cellAt hy
   have xf:=hok.frozenAt p
   have hy1:=y.toNat_lt
   have hx1:=x.toNat_lt
   have HW:=hide (h.byte hcs hpm (y ^^^ x) _ (xor_byte y x))
   have hmx:m≤4096:=by have:=h.ok.cell_le q; have:=h.ok.s1; omega
   clear hm e2 hp hy
   go_enter Tryz.func16,Tryz.ntmps16
   go_wp2_with fail
   refine hhas.mono ?_
   rintro e w1 ⟨rfl,rfl⟩
   go_wp2_with fail
   go_ret
   exact ⟨rfl,(HW.out.1.mono fun _ hk=>.inl hk).at_,HW.out.2⟩
  ·have hE:D.spoilE (q:Int) a=1:=by unfold Dk.spoilE; rw [Int.toNat_natCast,if_neg fun g=>ha g.2]
   have hP:D.spoil (q:Int) a x=D:=by unfold Dk.spoil; rw [if_neg (by omega)]
   rw [hE,hP]
   clear hE hP hz
   have HH:=hide h
   obtain ⟨vc,vl,cs,ls,h⟩:=h
   obtain ⟨gc,c,rfl,hc,hg⟩:=h.vc_
   have x0:=h.c0
   obtain ⟨A',m,c',hcs,xk,hok,hm⟩:=h.cell rfl hq
   by_cases h0:0≤a
   ·have h1:(m:Int)≤a:=by
     have:¬ a < (D.cell q).length:=fun g=>ha ⟨h0,g⟩
     omega
    clear ha hm
    go_enter Tryz.func16,Tryz.ntmps16
    go_wp2_with fail
    refine hhas.mono ?_
    rintro e w1 ⟨rfl,rfl⟩
    go_wp2_with fail
    go_ret
    exact HH.out.stay _
   ·clear ha hm
    go_enter Tryz.func16,Tryz.ntmps16
    go_wp2_with fail
    refine hhas.mono ?_
    rintro e w1 ⟨rfl,rfl⟩
    go_wp2_with fail
    go_ret
    exact HH.out.stay _
 ·have hhas:=has_out h z hz
  have hE:D.spoilE z a=1:=by unfold Dk.spoilE; rw [if_neg fun g=>hz g.1]
  have hP:D.spoil z a x=D:=by unfold Dk.spoil; rw [if_neg (by omega)]
  rw [hE,hP]
  clear hE hP
  go_enter Tryz.func16,Tryz.ntmps16
  go_wp2_with fail
  refine hhas.mono ?_
  rintro e w1 ⟨rfl,rfl⟩
  go_wp2_with fail
  go_ret
  exact h.stay _
end
end Go.Proofs.YtnfcfdhlmeimhaaGreat
