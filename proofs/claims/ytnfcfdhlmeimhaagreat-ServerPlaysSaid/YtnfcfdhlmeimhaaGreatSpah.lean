/- A disk of package platter in memory; New, has, Len, Loose, each as a contract. No condition; The order of names: the program's Compare and the document's Less. -/
import Derived.Test.YtnfcfdhlmeimhaaGreatSpaf
import Derived.Test.YtnfcfdhlmeimhaaGreatSpag
import Derived.Deep.QuietTactic
import Derived.BigQuiet
namespace Go.Proofs.YtnfcfdhlmeimhaaGreat
open Go.RowKit
set_option linter.unusedVariables false
set_option maxRecDepth 20000
set_option linter.unusedSimpArgs false
/-- A cell of what was just made. -/
theorem cell_new (w:World) (cs:Array Value) (t:TypeId) {j s:Nat} {v:Value} (h:cs[j]?=some v) (hs:s=w.heap.size):(w.alloc (.cells cs t)).cell? ⟨s,j,none⟩=some v:=by
 subst hs
 rw [World.cell?_alloc_mark]
 exact h
/-- A cell of a box that was made ahead. -/
theorem Kp.box {w w1:World} {cs:Array Value} {t:TypeId} (h:Kp No (w.alloc (.cells cs t)) w1) {j:Nat} {v:Value} (hv:cs[j]?=some v):w1.cell? ⟨w.heap.size,j,none⟩=some v:=h.cell (cell_new w cs t hv rfl) fun f=>f
/-- Numbers and slices side by side, as cells. -/
def lsC (lv:List (Nat × Value)):List Value:=lv.flatMap fun p=>[.int .i64 (p.1:Int),p.2]
theorem lsC_len (lv:List (Nat × Value)):(lsC lv).length=lv.length * 2:=by
 induction lv with
 | nil=>rfl
 | cons p t ih =>
  have e:lsC (p :: t)=[.int .i64 (p.1:Int),p.2] ++ lsC t:=rfl
  rw [e,List.length_append,ih]
  simp only [List.length_cons,List.length_nil]
  omega
theorem lsC_snoc (lv:List (Nat × Value)) (p:Nat × Value):lsC (lv ++ [p])=lsC lv ++ [.int .i64 (p.1:Int),p.2]:=by simp [lsC]
theorem lsC_get {lv:List (Nat × Value)} {j:Nat} {p:Nat × Value} (h:lv[j]?=some p):(lsC lv)[j * 2]?=some (.int .i64 (p.1:Int))∧(lsC lv)[j * 2+1]?=some p.2:=by
 induction lv generalizing j with
 | nil=>simp at h
 | cons q t ih =>
  have e:lsC (q :: t)=[.int .i64 (q.1:Int),q.2] ++ lsC t:=rfl
  rw [e]
  match j,h with
  | 0,h =>
   simp at h
   subst h
   exact ⟨rfl,rfl⟩
  | j+1,h =>
   have h':=ih (j:=j) (by simpa using h)
   have l2:([.int .i64 (q.1:Int),q.2]:List Value).length=2:=rfl
   refine ⟨?_,?_⟩
   ·rw [List.getElem?_append_right (by rw [l2]; omega),l2,show (j+1) * 2 - 2=j * 2 by omega]; exact h'.1
   ·rw [List.getElem?_append_right (by rw [l2]; omega),l2,show (j+1) * 2+1 - 2=j * 2+1 by omega]; exact h'.2
/-- A slice that reads as numbers and slices side by side. -/
structure LsR (w:World) (A:Option Addr) (n:Nat) (lv:List (Nat × Value)):Prop where
 len:n=lv.length
 at_:∀ (j:Nat) p,lv[j]?=some p→∃ B off,A=some ⟨B,off,none⟩∧w.cell? ⟨B,off+j * 2,none⟩=some (.int .i64 (p.1:Int))∧w.cell? ⟨B,off+j * 2+1,none⟩=some p.2
theorem OwnT.lsR {w:World} {base c m:Nat} {e:TypeId} {A:Option Addr} {lv:List (Nat × Value)} (h:OwnT w base e 2 (.slice A m c) lv.length (lsC lv)):LsR w A m lv :=
 ⟨h.len,fun j p hp=>by
  obtain ⟨h1,h2⟩:=lsC_get hp
  obtain ⟨g,rfl,_,_,_,c1⟩:=h.cell h1
  obtain ⟨g',e',_,_,_,c2⟩:=h.cell h2
  injection e' with e'
  injection e' with e'
  subst e'
  exact ⟨g,0,rfl,by rw [Nat.zero_add]; exact c1,by rw [Nat.zero_add]; exact c2⟩⟩
theorem LsR.keep {w w1:World} {S:Nat→Prop} {A:Option Addr} {n:Nat} {lv:List (Nat × Value)} (h:LsR w A n lv) (hk:Kp S w w1) (hS:∀ a,A=some a→¬ S a.block):LsR w1 A n lv :=
 ⟨h.len,fun j p hp=>by
  obtain ⟨B,off,rfl,c1,c2⟩:=h.at_ j p hp
  exact ⟨B,off,rfl,hk.cell c1 (hS ⟨B,off,none⟩ rfl),hk.cell c2 (hS ⟨B,off,none⟩ rfl)⟩⟩
/-- The slices cv, and those of lv, lie each in a block of its own. -/
structure Ap (cv lv:List Value):Prop where
 cc:∀ (i j:Nat) u v b,cv[i]?=some u→cv[j]?=some v→u.ownBlock=some b→v.ownBlock=some b→i=j
 ll:∀ (i j:Nat) u v b,lv[i]?=some u→lv[j]?=some v→u.ownBlock=some b→v.ownBlock=some b→i=j
 cl:∀ u ∈ cv,∀ v ∈ lv,∀ b,u.ownBlock=some b→v.ownBlock≠some b
section
variable {cv lv:List Value} {v:Value}
theorem Ap.cells (h:Ap cv lv):Ap cv []:=⟨h.cc,(fun i j u v b hi=>by simp at hi),(fun u _ v hv=>by simp at hv)⟩
theorem Ap.set (h:Ap cv lv) (i:Nat) (hc:∀ u ∈ cv,∀ b,u.ownBlock=some b→v.ownBlock≠some b) (hl:∀ u ∈ lv,∀ b,u.ownBlock=some b→v.ownBlock≠some b):Ap (cv.set i v) lv:=by
 refine ⟨fun p q u u' b hp hq hu hu'=>?_,h.ll,fun u hu u' hu' b e e'=>?_⟩
 ·rw [List.getElem?_set] at hp hq
  split at hp <;> split at hq
  ·omega
  ·split at hp
   ·injection hp with hp
    subst hp
    exact absurd hu (hc u' (List.mem_of_getElem? hq) b hu')
   ·cases hp
  ·split at hq
   ·injection hq with hq
    subst hq
    exact absurd hu' (hc u (List.mem_of_getElem? hp) b hu)
   ·cases hq
  ·exact h.cc p q u u' b hp hq hu hu'
 ·rcases mem_set hu with hu | rfl
  ·exact h.cl u hu u' hu' b e e'
  ·exact hl u' hu' b e' e
/-- The first of lv is put to a place. -/
theorem Ap.step (h:Ap cv (v :: lv)) (i:Nat):Ap (cv.set i v) lv:=by
 have h':Ap cv lv:=⟨h.cc,fun i j u u' b hi hj hu hu'=>by
  have:=h.ll (i+1) (j+1) u u' b (by simpa using hi) (by simpa using hj) hu hu'
  omega,fun u hu u' hu'=>h.cl u hu u' (by simp [hu'])⟩
 refine h'.set i (fun u hu b e=>h.cl u hu v (by simp) b e) fun u hu b e e'=>?_
 obtain ⟨j,hj⟩:=List.getElem?_of_mem hu
 have:=h.ll 0 (j+1) v u b rfl (by simpa using hj) e' e
 omega
theorem Ap.snoc (h:Ap cv lv) (hc:∀ u ∈ cv,∀ b,u.ownBlock=some b→v.ownBlock≠some b) (hl:∀ u ∈ lv,∀ b,u.ownBlock=some b→v.ownBlock≠some b):Ap cv (lv ++ [v]):=by
 refine ⟨h.cc,fun p q u u' b hp hq hu hu'=>?_,fun u hu u' hu' b e=>?_⟩
 ·rw [List.getElem?_append] at hp hq
  split at hp <;> split at hq
  ·exact h.ll p q u u' b hp hq hu hu'
  ·have:=List.mem_of_getElem? hq
   rw [List.mem_singleton] at this
   subst this
   exact absurd hu' (hl u (List.mem_of_getElem? hp) b hu)
  ·have:=List.mem_of_getElem? hp
   rw [List.mem_singleton] at this
   subst this
   exact absurd hu (hl u' (List.mem_of_getElem? hq) b hu')
  ·have h1:=(List.getElem?_eq_some_iff.1 hp).1
   have h2:=(List.getElem?_eq_some_iff.1 hq).1
   simp only [List.length_cons,List.length_nil] at h1 h2
   omega
 ·rcases List.mem_append.1 hu' with hu' | hu'
  ·exact h.cl u hu u' hu' b e
  ·rw [List.mem_singleton] at hu'
   subst hu'
   exact hc u hu b e
end
theorem ap_nils (n:Nat):Ap (List.replicate n (.slice none 0 0)) [] :=
 ⟨(fun i j u v b hi hj hu=>by
  have:=List.eq_of_mem_replicate (List.mem_of_getElem? hi)
  subst this
  cases hu),(fun i j u v b hi=>by simp at hi),(fun u _ v hv=>by simp at hv)⟩
/-- At block g lies a disk D: its cells' row and its loose writes' row, and the slices that they hold; all that is its own lies in F. -/
structure DkR (w:World) (F:Nat→Prop) (g:Nat) (D:Dk) (vc vl:Value) (cs:List (Value × List UInt8)) (ls:List (Nat × (Value × List UInt8))):Prop where
 blk:w.heap[g]?=some (.cells #[vc,.int .i64 (D.size:Int),vl,.int .i64 (D.syncs:Int)] 92 (0,0))
 oc:OwnT w 0 54 1 vc cs.length (cs.map Prod.fst)
 ol:OwnT w 0 153 2 vl ls.length (lsC (mp Prod.fst ls))
 rc:∀ p ∈ cs,Own w 0 5 p.1 p.2
 rl:∀ p ∈ ls,Own w 0 5 p.2.1 p.2.2
 ap:Ap (cs.map Prod.fst) (ls.map fun p=>p.2.1)
 dc:D.cells=cs.map Prod.snd
 dl:D.loose=mp Prod.snd ls
 fg:F g
 fc:∀ k,vc.ownBlock=some k→F k
 fl:∀ k,vl.ownBlock=some k→F k
 fr:∀ p ∈ cs,∀ k,p.1.ownBlock=some k→F k
 fs:∀ p ∈ ls,∀ k,p.2.1.ownBlock=some k→F k
 ok:D.Ok
def DkAt (w:World) (F:Nat→Prop) (g:Nat) (D:Dk):Prop:=∃ vc vl cs ls,DkR w F g D vc vl cs ls
section
variable {w w1:World} {F S T:Nat→Prop} {g:Nat} {D:Dk} {vc vl:Value} {cs:List (Value × List UInt8)} {ls:List (Nat × (Value × List UInt8))}
theorem DkR.mono (h:DkR w F g D vc vl cs ls) (hF:∀ k,F k→T k):DkR w T g D vc vl cs ls :=
 ⟨h.blk,h.oc,h.ol,h.rc,h.rl,h.ap,h.dc,h.dl,hF _ h.fg,fun k hk=>hF _ (h.fc k hk),fun k hk=>hF _ (h.fl k hk),fun p hp k hk=>hF _ (h.fr p hp k hk),fun p hp k hk=>hF _ (h.fs p hp k hk),h.ok⟩
theorem DkR.glt (h:DkR w F g D vc vl cs ls):g < w.heap.size:=(Array.getElem?_eq_some_iff.1 h.blk).1
theorem DkR.lt (h:DkR w F g D vc vl cs ls):DkR w (fun k=>F k∧k < w.heap.size) g D vc vl cs ls :=
 ⟨h.blk,h.oc,h.ol,h.rc,h.rl,h.ap,h.dc,h.dl,⟨h.fg,h.glt⟩,fun k hk=>⟨h.fc k hk,h.oc.lt k hk⟩,fun k hk=>⟨h.fl k hk,h.ol.lt k hk⟩,fun p hp k hk=>⟨h.fr p hp k hk,(h.rc p hp).lt k hk⟩,fun p hp k hk=>⟨h.fs p hp k hk,(h.rl p hp).lt k hk⟩,h.ok⟩
theorem DkR.keep (h:DkR w F g D vc vl cs ls) (hk:Kp S w w1) (hS:∀ k,k < w.heap.size→F k→¬ S k):DkR w1 F g D vc vl cs ls:=by
 have hl:=h.lt
 have key:∀ k,(F k∧k < w.heap.size)→¬ S k:=fun k hk=>hS k hk.2 hk.1
 exact ⟨(hk.block g hl.fg.2 (key _ hl.fg)).trans h.blk,h.oc.keep hk fun k hk=>key k (hl.fc k hk),h.ol.keep hk fun k hk=>key k (hl.fl k hk),fun p hp=>(h.rc p hp).keep hk fun k hk=>key k (hl.fr p hp k hk),fun p hp=>(h.rl p hp).keep hk fun k hk=>key k (hl.fs p hp k hk),h.ap,h.dc,h.dl,h.fg,h.fc,h.fl,h.fr,h.fs,h.ok⟩
theorem DkR.no (h:DkR w F g D vc vl cs ls) (hk:Kp No w w1):DkR w1 F g D vc vl cs ls:=h.keep hk fun _ _ _ f=>f
theorem DkAt.mono (h:DkAt w F g D) (hF:∀ k,F k→T k):DkAt w T g D:=by
 obtain ⟨vc,vl,cs,ls,h⟩:=h
 exact ⟨vc,vl,cs,ls,h.mono hF⟩
theorem DkAt.lt (h:DkAt w F g D):DkAt w (fun k=>F k∧k < w.heap.size) g D:=by
 obtain ⟨vc,vl,cs,ls,h⟩:=h
 exact ⟨vc,vl,cs,ls,h.lt⟩
theorem DkAt.keep (h:DkAt w F g D) (hk:Kp S w w1) (hS:∀ k,k < w.heap.size→F k→¬ S k):DkAt w1 F g D:=by
 obtain ⟨vc,vl,cs,ls,h⟩:=h
 exact ⟨vc,vl,cs,ls,h.keep hk hS⟩
theorem DkAt.no (h:DkAt w F g D) (hk:Kp No w w1):DkAt w1 F g D:=h.keep hk fun _ _ _ f=>f
theorem DkAt.ok (h:DkAt w F g D):D.Ok:=by
 obtain ⟨vc,vl,cs,ls,h⟩:=h
 exact h.ok
theorem DkR.ncs (h:DkR w F g D vc vl cs ls):cs.length=D.cells.length:=by rw [h.dc,List.length_map]
theorem DkR.nls (h:DkR w F g D vc vl cs ls):ls.length=D.loose.length:=by rw [h.dl,mp_len]
/-- The disk's four cells, and where its cells' row lies. -/
theorem DkR.c0 (h:DkR w F g D vc vl cs ls):w.cell? ⟨g,0,none⟩=some vc:=by rw [cell_of_row w g 0 _ _ _ h.blk]; rfl
theorem DkR.c1 (h:DkR w F g D vc vl cs ls):w.cell? ⟨g,1,none⟩=some (.int .i64 (D.size:Int)):=by rw [cell_of_row w g 1 _ _ _ h.blk]; rfl
theorem DkR.c2 (h:DkR w F g D vc vl cs ls):w.cell? ⟨g,2,none⟩=some vl:=by rw [cell_of_row w g 2 _ _ _ h.blk]; rfl
theorem DkR.vc_ (h:DkR w F g D vc vl cs ls):∃ gc c,vc=.slice (some ⟨gc,0,none⟩) D.cells.length c∧D.cells.length≤c∧gc≠g:=by
 have hn:=h.ok.n0
 have hcs:=h.ncs
 obtain ⟨A,c,e⟩:=h.oc.form
 have ho:=h.oc
 rw [e] at ho
 obtain ⟨gc,e1,_⟩:=ho.some_ (by omega)
 subst e1
 have:=ho.cap
 refine ⟨gc,c,by rw [e,hcs],by omega,fun e2=>?_⟩
 subst e2
 exact ho.not_at h.blk (by decide) rfl
theorem DkR.vl_ (h:DkR w F g D vc vl cs ls):∃ A c,vl=.slice A D.loose.length c∧D.loose.length≤c∧∀ a,A=some a→a.block≠g∧a.off=0:=by
 obtain ⟨A,c,e⟩:=h.ol.form
 have ho:=h.ol
 rw [e] at ho
 refine ⟨A,c,by rw [e,h.nls],?_,fun a ha=>?_⟩
 ·rw [← h.nls]
  rcases ho.2 with ⟨e1,e2⟩ | ⟨g',cap,cur,e1,_,_,h1,_⟩
  ·omega
  ·injection e1 with _ _ e3
   omega
 ·subst ha
  refine ⟨fun e2=>?_,?_⟩
  ·exact ho.not_at h.blk (by decide) (by rw [← e2]; rfl)
  ·rcases ho.2 with ⟨e1,e2⟩ | ⟨g',cap,cur,e1,_⟩
   ·cases e1
   ·injection e1 with e1
    injection e1 with e1
    rw [e1]
/-- One of the cells. -/
theorem DkR.cell (h:DkR w F g D vc vl cs ls) {gc c n:Nat} (hv:vc=.slice (some ⟨gc,0,none⟩) n c) {k:Nat} (hk:k < D.cells.length):∃ A' m c' ,cs[k]?=some (.slice A' m c',D.cell k)∧w.cell? ⟨gc,k,none⟩=some (.slice A' m c')∧Own w 0 5 (.slice A' m c') (D.cell k)∧m=(D.cell k).length:=by
 subst hv
 have hcs:=h.ncs
 have hp:cs[k]?=some cs[k]:=List.getElem?_eq_getElem (by omega)
 have ho:=h.rc _ (List.mem_of_getElem? hp)
 obtain ⟨A',m,c',e⟩:=ho.form
 have hd:D.cell k=cs[k].2:=by
  unfold Dk.cell
  rw [h.dc,List.getD_eq_getElem?_getD,List.getElem?_map,hp]
  rfl
 have hc:w.cell? ⟨gc,k,none⟩=some cs[k].1:=h.oc.cellAt (by rw [List.getElem?_map,hp]; rfl)
 rw [e] at ho hc
 rw [hd]
 exact ⟨A',m,c',by rw [hp,← e],hc,ho,ho.len⟩
end
/-- What New returns. -/
def PnPost (w:World) (n s:Nat) (e:Ending) (w1:World):Prop:=∃ g,e=.returned (.tuple #[.pointer (some ⟨g,0,none⟩),.int .i64 0])∧w.heap.size≤g∧DkAt w1 (fun k=>w.heap.size≤k) g (Dk.new n s)∧Kp No w w1
theorem pnew_yes (w:World) (n s:Nat) (h1:1≤n) (h2:n≤1024) (h3:1≤s) (h4:s≤4096):Calls Tryz.prog 9 #[.int .i64 (n:Int),.int .i64 (s:Int)] w (PnPost w n s):=by
 have hmk:=make_slcs w n (n:Int) rfl (by omega)
 have ho:=ownT_slcs w 0 n (Nat.zero_le _) (by omega)
 have HO:=hide ho
 clear ho
 go_enter Tryz.func9,Tryz.ntmps9
 go_wp2
 go_ret2
 refine ⟨w.heap.size+1,rfl,by omega,⟨.slice (some ⟨w.heap.size,0,none⟩) n n,.slice none 0 0,List.replicate n (.slice none 0 0,[]),[],⟨?_,?_,OwnT.nil _ _ _ _,(fun p hp=>?_),(fun p hp=>by simp at hp),?_,?_,rfl,by omega,(fun k hk=>?_),(fun k hk=>by cases hk),(fun p hp k hk=>?_),(fun p hp=>by simp at hp),Dk.new_ok h1 h2 h3 h4⟩⟩,((Kp.refl No w).al _).al _⟩
 ·have e:(w.alloc (.cells (zsl n) 54)).heap.size=w.heap.size+1:=by simp
  rw [← e]
  exact heap_alloc_new _ _
 ·have:=HO.out.no (Kp.alloc No _ (.cells #[.slice (some ⟨w.heap.size,0,none⟩) n n,.int .i64 (s:Int),.slice none 0 0,.int .i64 0] 92))
  simpa using this
 ·obtain rfl:=List.eq_of_mem_replicate hp
  exact Own.nil _ _ _
 ·simpa using ap_nils n
 ·simp [Dk.new]
 ·have hk2:w.heap.size=k:=Option.some.inj hk
  show w.heap.size≤k
  omega
 ·obtain rfl:=List.eq_of_mem_replicate hp
  cases hk
section
variable {w:World} {F:Nat→Prop} {g:Nat} {D:Dk}
theorem has_in (h:DkAt w F g D) (z:Int) (hz:D.In z):Calls Tryz.prog 36 #[.pointer (some ⟨g,0,none⟩),.int .i64 z] w fun e w1=>e=.returned (.bool true)∧w=w1:=by
 obtain ⟨vc,vl,cs,ls,h⟩:=h
 obtain ⟨gc,c,rfl,hc,hg⟩:=h.vc_
 have x0:=h.c0
 obtain ⟨z0,z1⟩:=hz
 go_enter Tryz.func36,Tryz.ntmps36
 go_wp2
 go_ret
 exact ⟨rfl,rfl⟩
theorem has_out (h:DkAt w F g D) (z:Int) (hz:¬ D.In z):Calls Tryz.prog 36 #[.pointer (some ⟨g,0,none⟩),.int .i64 z] w fun e w1=>e=.returned (.bool false)∧w=w1:=by
 obtain ⟨vc,vl,cs,ls,h⟩:=h
 obtain ⟨gc,c,rfl,hc,hg⟩:=h.vc_
 have x0:=h.c0
 by_cases z0:0≤z
 ·have z1:¬ z < D.cells.length:=fun g=>hz ⟨z0,g⟩
  clear hz
  go_enter Tryz.func36,Tryz.ntmps36
  go_wp2
  go_ret
  exact ⟨rfl,rfl⟩
 ·clear hz
  go_enter Tryz.func36,Tryz.ntmps36
  go_wp2
  go_ret
  exact ⟨rfl,rfl⟩
theorem plen_any (h:DkAt w F g D):Calls Tryz.prog 79 #[.pointer (some ⟨g,0,none⟩)] w fun e w1=>e=.returned (.tuple #[.int .i64 (D.cells.length:Int),.int .i64 (D.size:Int)])∧Kp No w w1:=by
 obtain ⟨vc,vl,cs,ls,h⟩:=h
 obtain ⟨gc,c,rfl,hc,hg⟩:=h.vc_
 have x0:=h.c0
 have x1:=h.c1
 go_enter Tryz.func79,Tryz.ntmps79
 go_wp2
 go_quiet (fail)
 go_wp2
 go_ret2
 exact ⟨rfl,(Kp.refl No w).drewN _⟩
end
end Go.Proofs.YtnfcfdhlmeimhaaGreat
namespace Go.Proofs.YtnfcfdhlmeimhaaGreat
open Go.RowKit
set_option linter.unusedVariables false
set_option linter.unusedSimpArgs false
set_option maxRecDepth 20000
/-- How two numbers compare. -/
def cmpN (a b:Nat):Int:=if a < b then -1 else if b < a then 1 else 0
theorem cmpN_lt {a b:Nat} (h:a < b):cmpN a b=-1:=by unfold cmpN; rw [if_pos h]
theorem cmpN_eq {a b:Nat} (h:a=b):cmpN a b=0:=by unfold cmpN; rw [if_neg (by omega),if_neg (by omega)]
theorem cmpN_gt {a b:Nat} (h:b < a):cmpN a b=1:=by unfold cmpN; rw [if_neg (by omega),if_pos h]
/-- The first that isn't nought. -/
def orZ:List Int→Int
 | []=>0
 | x :: l=>if x=0 then orZ l else x
theorem cmpN_parts (a b:Nat):orZ [cmpN (cO a) (cO b),cmpN (cS a) (cS b),cmpN (cL a) (cL b),cmpN (cG a) (cG b)]=cmpN a b:=by
 have h1:=lt_parts (m:=a) (n:=b)
 have h2:=lt_parts (m:=b) (n:=a)
 have hne:cO a=cO b→cS a=cS b→cL a=cL b→cG a=cG b→a=b:=c_inj
 simp only [orZ]
 generalize cO a=a0 at *
 generalize cO b=b0 at *
 generalize cS a=a1 at *
 generalize cS b=b1 at *
 generalize cL a=a2 at *
 generalize cL b=b2 at *
 generalize cG a=a3 at *
 generalize cG b=b3 at *
 rcases Nat.lt_trichotomy a0 b0 with h | h | h
 ·rw [cmpN_lt h,if_neg (by omega),cmpN_lt (by omega)]
 ·rw [cmpN_eq h,if_pos rfl]
  rcases Nat.lt_trichotomy a1 b1 with g | g | g
  ·rw [cmpN_lt g,if_neg (by omega),cmpN_lt (by omega)]
  ·rw [cmpN_eq g,if_pos rfl]
   rcases Nat.lt_trichotomy a2 b2 with k | k | k
   ·rw [cmpN_lt k,if_neg (by omega),cmpN_lt (by omega)]
   ·rw [cmpN_eq k,if_pos rfl]
    rcases Nat.lt_trichotomy a3 b3 with l | l | l
    ·rw [cmpN_lt l,if_neg (by omega),cmpN_lt (by omega)]
    ·rw [cmpN_eq l,if_pos rfl,cmpN_eq (hne h g k l)]
    ·rw [cmpN_gt l,if_neg (by omega),cmpN_gt (by omega)]
   ·rw [cmpN_gt k,if_neg (by omega),cmpN_gt (by omega)]
  ·rw [cmpN_gt g,if_neg (by omega),cmpN_gt (by omega)]
 ·rw [cmpN_gt h,if_neg (by omega),cmpN_gt (by omega)]
theorem ret_int {a b:Int} (h:a=b):Ending.returned (.int .i64 a)=.returned (.int .i64 b):=by rw [h]
theorem isnan_u32 (w:World) (a:Nat):Calls Tryz.prog 132 #[.int .u32 (a:Int)] w fun e w'=>e=.returned (.bool false)∧w=w':=by
 go_enter Tryz.func132,Tryz.ntmps132
 go_wp2
 go_ret
 exact ⟨rfl,rfl⟩
theorem cmp_u32 (w:World) (a b:Nat):Calls Tryz.prog 98 #[.int .u32 (a:Int),.int .u32 (b:Int)] w fun e w'=>e=.returned (.int .i64 (cmpN a b))∧w=w':=by
 have h1:=isnan_u32 w a
 have h2:=isnan_u32 w b
 rcases Nat.lt_trichotomy a b with h | h | h
 ·have hz:(a:Int) < b:=by omega
  have hc:Hid (-1=cmpN a b):=by show _=_; unfold cmpN; rw [if_pos h]
  go_enter Tryz.func98,Tryz.ntmps98
  go_wp2_with fail
  refine h1.mono ?_
  rintro e w' ⟨rfl,rfl⟩
  go_wp2_with fail
  refine h2.mono ?_
  rintro e w' ⟨rfl,rfl⟩
  go_wp2_with fail
  go_ret
  exact ⟨ret_int hc.out,rfl⟩
 ·have hc:Hid (0=cmpN a b):=by show _=_; unfold cmpN; rw [if_neg (by omega),if_neg (by omega)]
  subst h
  go_enter Tryz.func98,Tryz.ntmps98
  go_wp2_with fail
  refine h1.mono ?_
  rintro e w' ⟨rfl,rfl⟩
  go_wp2_with fail
  refine h2.mono ?_
  rintro e w' ⟨rfl,rfl⟩
  go_wp2_with fail
  go_ret
  exact ⟨ret_int hc.out,rfl⟩
 ·have hz:(b:Int) < a:=by omega
  have hz2:¬ (a:Int) < b:=by omega
  have hc:Hid (1=cmpN a b):=by show _=_; unfold cmpN; rw [if_neg (by omega),if_pos h]
  go_enter Tryz.func98,Tryz.ntmps98
  go_wp2_with fail
  refine h1.mono ?_
  rintro e w' ⟨rfl,rfl⟩
  go_wp2_with fail
  refine h2.mono ?_
  rintro e w' ⟨rfl,rfl⟩
  go_wp2_with fail
  go_ret
  exact ⟨ret_int hc.out,rfl⟩
theorem isnan_u16 (w:World) (a:Nat):Calls Tryz.prog 133 #[.int .u16 (a:Int)] w fun e w'=>e=.returned (.bool false)∧w=w':=by
 go_enter Tryz.func133,Tryz.ntmps133
 go_wp2
 go_ret
 exact ⟨rfl,rfl⟩
theorem cmp_u16 (w:World) (a b:Nat):Calls Tryz.prog 99 #[.int .u16 (a:Int),.int .u16 (b:Int)] w fun e w'=>e=.returned (.int .i64 (cmpN a b))∧w=w':=by
 have h1:=isnan_u16 w a
 have h2:=isnan_u16 w b
 rcases Nat.lt_trichotomy a b with h | h | h
 ·have hz:(a:Int) < b:=by omega
  have hc:Hid (-1=cmpN a b):=by show _=_; unfold cmpN; rw [if_pos h]
  go_enter Tryz.func99,Tryz.ntmps99
  go_wp2_with fail
  refine h1.mono ?_
  rintro e w' ⟨rfl,rfl⟩
  go_wp2_with fail
  refine h2.mono ?_
  rintro e w' ⟨rfl,rfl⟩
  go_wp2_with fail
  go_ret
  exact ⟨ret_int hc.out,rfl⟩
 ·have hc:Hid (0=cmpN a b):=by show _=_; unfold cmpN; rw [if_neg (by omega),if_neg (by omega)]
  subst h
  go_enter Tryz.func99,Tryz.ntmps99
  go_wp2_with fail
  refine h1.mono ?_
  rintro e w' ⟨rfl,rfl⟩
  go_wp2_with fail
  refine h2.mono ?_
  rintro e w' ⟨rfl,rfl⟩
  go_wp2_with fail
  go_ret
  exact ⟨ret_int hc.out,rfl⟩
 ·have hz:(b:Int) < a:=by omega
  have hz2:¬ (a:Int) < b:=by omega
  have hc:Hid (1=cmpN a b):=by show _=_; unfold cmpN; rw [if_neg (by omega),if_pos h]
  go_enter Tryz.func99,Tryz.ntmps99
  go_wp2_with fail
  refine h1.mono ?_
  rintro e w' ⟨rfl,rfl⟩
  go_wp2_with fail
  refine h2.mono ?_
  rintro e w' ⟨rfl,rfl⟩
  go_wp2_with fail
  go_ret
  exact ⟨ret_int hc.out,rfl⟩
/-- Four whole numbers stand in a block. -/
def Four (w:World) (s:Nat) (x0 x1 x2 x3:Int):Prop:=w.cell? ⟨s,0,none⟩=some (.int .i64 x0)∧w.cell? ⟨s,1,none⟩=some (.int .i64 x1)∧w.cell? ⟨s,2,none⟩=some (.int .i64 x2)∧w.cell? ⟨s,3,none⟩=some (.int .i64 x3)
theorem or_any {w:World} {s:Nat} {x0 x1 x2 x3:Int} (h:Four w s x0 x1 x2 x3):Calls Tryz.prog 97 #[.slice (some ⟨s,0,none⟩) 4 4] w fun e w1=>e=.returned (.int .i64 (orZ [x0,x1,x2,x3]))∧w=w1:=by
 obtain ⟨h0,h1,h2,h3⟩:=h
 have H:∀ k:Nat,k < 4→w.cell? ⟨s,k,none⟩=some (.int .i64 ([x0,x1,x2,x3].getD k 0)):=fun k hk=>by
  match k,hk with
  | 0,_=>exact h0
  | 1,_=>exact h1
  | 2,_=>exact h2
  | 3,_=>exact h3
  | k+4,hk=>omega
 have HZ:∀ k:Nat,k < 4→[x0,x1,x2,x3].getD k 0≠0→orZ ([x0,x1,x2,x3].drop k)=[x0,x1,x2,x3].getD k 0:=fun k hk hne=>by
  match k,hk with
  | 0,_=>simp [orZ] at hne ⊢; simp [hne]
  | 1,_=>simp [orZ] at hne ⊢; simp [hne]
  | 2,_=>simp [orZ] at hne ⊢; simp [hne]
  | 3,_=>simp [orZ] at hne ⊢; simp [hne]
  | k+4,hk=>omega
 have HN:∀ k:Nat,k < 4→[x0,x1,x2,x3].getD k 0=0→orZ ([x0,x1,x2,x3].drop k)=orZ ([x0,x1,x2,x3].drop (k+1)):=fun k hk hne=>by
  match k,hk with
  | 0,_=>simp at hne; simp [orZ,hne]
  | 1,_=>simp at hne; simp [orZ,hne]
  | 2,_=>simp at hne; simp [orZ,hne]
  | 3,_=>simp at hne; simp [orZ,hne]
  | k+4,hk=>omega
 generalize hl:[x0,x1,x2,x3]=l at H HZ HN
 have hlen:l.length=4:=by rw [← hl]; rfl
 have H':=hide H
 have HZ':=hide HZ
 have HN':=hide HN
 clear h0 h1 h2 h3 H HZ HN hl x0 x1 x2 x3
 go_enter Tryz.func97,Tryz.ntmps97
 go_wp2_with fail
 go_loopw [8] (fun i wr=>∃ k:Nat,k≤4∧i=.int .i64 (k:Int)∧orZ (l.drop k)=orZ l∧w=wr) (fun i _=>4 - (intOf i).toNat)
 case atStart=>exact ⟨0,by omega,rfl,by rw [List.drop_zero],rfl⟩
 case round =>
  obtain ⟨k,hk,rfl,hz,rfl⟩:=hrel
  by_cases hlt:k < 4
  ·have hc:=H'.out k hlt
   have hkz:(k:Int) < 4:=by omega
   obtain ⟨x,hx⟩:∃ x,x=l.getD k 0:=⟨_,rfl⟩
   rw [← hx] at hc
   have HX:=hide hx
   clear hx
   by_cases h0:x=0
   ·have hN:=HN'.out k hlt (by rw [← HX.out,h0])
    subst h0
    have HQ:=hide (hN.symm.trans hz)
    clear hN hz
    go_wp2_with fail
    go_round
    case rel=>exact ⟨k+1,by omega,by go_num,HQ.out,trivial⟩
    case measure=>simp [intOf]; omega
   ·have hN:=HZ'.out k hlt (by rw [← HX.out]; exact h0)
    rw [← HX.out] at hN
    have HQ:=hide (hN.symm.trans hz)
    have hne:(x == 0)=false:=by simp [h0]
    clear hN hz
    go_wp2_with fail
    go_ret
    exact ⟨ret_int HQ.out,rfl⟩
  ·have hkz:¬ (k:Int) < 4:=by omega
   obtain rfl:k=4:=by omega
   rw [List.drop_of_length_le (by omega)] at hz
   have HQ:=hide hz
   clear hz
   go_wp2_with fail
   go_ret
   exact ⟨ret_int HQ.out,rfl⟩
theorem four_new (w:World) (A B:Obj) (x0 x1 x2 x3:Int) (t:TypeId):Four (((w.alloc A).alloc B).alloc (.cells #[.int .i64 x0,.int .i64 x1,.int .i64 x2,.int .i64 x3] t)).drew (w.heap.size+1+1) x0 x1 x2 x3 :=
 ⟨cell_new ((w.alloc A).alloc B) _ t rfl (by simp),cell_new ((w.alloc A).alloc B) _ t rfl (by simp),cell_new ((w.alloc A).alloc B) _ t rfl (by simp),cell_new ((w.alloc A).alloc B) _ t rfl (by simp)⟩
theorem kp_cell {w w1:World} {p:Addr} {v:Value} (h:w.cell? p=some v) (hk:Kp No w w1):w1.cell? p=some v:=hk.cell h fun f=>f
set_option maxHeartbeats 4000000 in
theorem compare_any (w:World) (a b:Nat):Calls Tryz.prog 54 #[shV a,shV b] w fun e w1=>e=.returned (.int .i64 (cmpN a b))∧Kp No w w1:=by
 have hp:=hide (cmpN_parts a b)
 unfold shV
 generalize cO a=a0 at hp ⊢
 generalize cO b=b0 at hp ⊢
 generalize cS a=a1 at hp ⊢
 generalize cS b=b1 at hp ⊢
 generalize cL a=a2 at hp ⊢
 generalize cL b=b2 at hp ⊢
 generalize cG a=a3 at hp ⊢
 generalize cG b=b3 at hp ⊢
 go_enter Tryz.func54,Tryz.ntmps54
 go_wp2_with fail
 obtain ⟨p0,p1,p2,p3⟩:=(Box4.new1 w (.cells #[.int .u32 b0,.int .u16 b1,.int .u16 b2,.int .u32 b3] 53) (.int .u32 a0) (.int .u16 a1) (.int .u16 a2) (.int .u32 a3)).cell
 obtain ⟨q0,q1,q2,q3⟩:=(Box4.new2 w (.cells #[.int .u32 a0,.int .u16 a1,.int .u16 a2,.int .u32 a3] 53) (.int .u32 b0) (.int .u16 b1) (.int .u16 b2) (.int .u32 b3)).cell
 go_region_held3 (fun w'=>w'.cell? ⟨w.heap.size,0,none⟩=some (.int .u32 a0)∧w'.cell? ⟨w.heap.size,1,none⟩=some (.int .u16 a1)∧w'.cell? ⟨w.heap.size,2,none⟩=some (.int .u16 a2)∧w'.cell? ⟨w.heap.size,3,none⟩=some (.int .u32 a3) ∧
   w'.cell? ⟨w.heap.size+1,0,none⟩=some (.int .u32 b0)∧w'.cell? ⟨w.heap.size+1,1,none⟩=some (.int .u16 b1)∧w'.cell? ⟨w.heap.size+1,2,none⟩=some (.int .u16 b2)∧w'.cell? ⟨w.heap.size+1,3,none⟩=some (.int .u32 b3)) (first | assumption | go_keep)
  (first
   | (go_at_call 98; ((with_reducible refine (cmp_u32 _ a0 b0).mono ?_); rintro e w1 ⟨rfl,rfl⟩))
   | (go_at_call 99; ((with_reducible refine (cmp_u16 _ a1 b1).mono ?_); rintro e w1 ⟨rfl,rfl⟩))
   | (go_at_call 99; ((with_reducible refine (cmp_u16 _ a2 b2).mono ?_); rintro e w1 ⟨rfl,rfl⟩))
   | (go_at_call 98; ((with_reducible refine (cmp_u32 _ a3 b3).mono ?_); rintro e w1 ⟨rfl,rfl⟩))
   | (go_at_call 97; ((with_reducible refine (or_any (four_new _ _ _ _ _ _ _ _)).mono ?_); rintro e w1 ⟨rfl,rfl⟩)))
 go_wp2
 go_ret
 exact ⟨ret_int hp.out,(((Kp.alloc No w _).trans' (Kp.alloc No _ _)).drew).trans' (Kp.alloc No _ _)⟩
end Go.Proofs.YtnfcfdhlmeimhaaGreat
