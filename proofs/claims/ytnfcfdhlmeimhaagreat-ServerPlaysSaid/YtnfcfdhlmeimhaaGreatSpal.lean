/- A slice of bytes within its room that lies outside a set of blocks. No condition; The document's disk of layer 11 in memory; its Has, New and Read, each as a contract. No condition; The document's Read of layer 12, as a contract over memory; Names held against each other: laws at the operation. -/
import Derived.Test.YtnfcfdhlmeimhaaGreatSpag
import Derived.Test.YtnfcfdhlmeimhaaGreatSpai
import Derived.Test.YtnfcfdhlmeimhaaGreatSpae
import Derived.Test.YtnfcfdhlmeimhaaGreatSpad
import Derived.Test.YtnfcfdhlmeimhaaGreatSpak
namespace Go.Proofs.YtnfcfdhlmeimhaaGreat
open Go.RowKit
set_option linter.unusedVariables false
set_option maxRecDepth 20000
set_option linter.unusedSimpArgs false
/-- The slice v reads as bs, is within its room, and, if there are bytes, lies outside F. -/
structure BtF (w:World) (F:Nat→Prop) (v:Value) (bs:List UInt8):Prop where
 bts:Bts w v bs
 far:bs≠[]→∀ k,v.ownBlock=some k→¬ F k∧k < w.heap.size
 room:∀ A n c,v=.slice A n c→n≤c
section
variable {w w1 w2:World} {F F1 S:Nat→Prop} {v:Value} {bs:List UInt8}
theorem BtF.mk_ (h:Bts w v bs) (hF:bs≠[]→∀ k,v.ownBlock=some k→¬ F k) (hr:∀ A n c,v=.slice A n c→n≤c):BtF w F v bs:=by
 refine ⟨h,fun hb k hk=>⟨hF hb k hk,?_⟩,hr⟩
 obtain ⟨A,c,rfl,hn,hc⟩:=h
 rcases A with _ | a
 ·cases hk
 ·have h0:=hc a rfl 0 _ (List.getElem?_eq_getElem (List.length_pos_iff.2 hb))
  have hl:=World.block_lt_of_cell? w _ h0
  rw [blk_add] at hl
  have e:a.block=k:=Option.some.inj hk
  omega
theorem BtF.keep (h:BtF w F v bs) (hk:Kp S w w1) (hS:∀ k,k < w.heap.size→¬ F k→¬ S k):BtF w1 F v bs:=by
 by_cases hb:bs=[]
 ·subst hb
  obtain ⟨⟨A,c,rfl,hn,hc⟩,_,hr⟩:=h
  exact ⟨⟨A,c,rfl,hn,fun ad ha j u hu=>by simp at hu⟩,fun g=>absurd rfl g,hr⟩
 ·refine ⟨h.1.keep hk fun k hk'=>hS k (h.2 hb k hk').2 (h.2 hb k hk').1,fun _ k hk'=>⟨(h.2 hb k hk').1,?_⟩,h.3⟩
  have:=(h.2 hb k hk').2
  have:=hk.size
  omega
theorem BtF.no (h:BtF w F v bs) (hk:Kp No w w1):BtF w1 F v bs:=h.keep hk fun _ _ _ f=>f
theorem BtF.up (h:BtF w F v bs) (hF:∀ k,k < w.heap.size→F1 k→F k):BtF w F1 v bs :=
 ⟨h.1,fun hb k hk=>⟨fun g=>(h.2 hb k hk).1 (hF k (h.2 hb k hk).2 g),(h.2 hb k hk).2⟩,h.3⟩
theorem BtF.new {e:TypeId} (h:Own w1 w.heap.size e v bs) (hF:∀ k,F k→k < w.heap.size):BtF w1 F v bs :=
 ⟨h.bts,fun _ k hk=>⟨fun g=>by have:=hF k g; have:=h.ge k hk; omega,h.lt k hk⟩,fun A n c e=>by rw [e] at h; exact h.cap⟩
theorem BtF.step (h:BtF w F v bs) (hk:Kp F w w1) (hF:∀ k,F1 k→Up F w k):BtF w1 F1 v bs:=by
 have h1:=h.keep hk fun k _ g=>g
 exact ⟨h1.1,(fun hb k hk'=>⟨fun g=>by
  rcases hF k g with f | f
  ·exact (h.2 hb k hk').1 f
  ·have:=(h.2 hb k hk').2
   omega,(h1.2 hb k hk').2⟩),h.3⟩
end
end Go.Proofs.YtnfcfdhlmeimhaaGreat
namespace Go.Proofs.YtnfcfdhlmeimhaaGreat
open Go.RowKit
set_option linter.unusedVariables false
set_option maxRecDepth 20000
set_option linter.unusedSimpArgs false
theorem rwrite_info:(Tryz.prog.info? 156).map (fun i=>(i.zero,i.size,i.bytes))=some (some (.agg #[.int .i64 0,.slice none 0 0]),2,32):=by kernel_rfl
theorem ty_rwrite:Ty 156 (.agg #[.int .i64 0,.slice none 0 0]) 2 32:=ty_of rwrite_info rfl (by omega) (by omega)
/-- The document's disk D, in the value of its four fields; what it holds lies outside F. -/
structure RfR (w:World) (F:Nat→Prop) (D:Dk) (vc vl:Value) (cs:List (Value × List UInt8)) (ls:List (Nat × (Value × List UInt8))):Prop where
 oc:OwnT w 0 54 1 vc cs.length (cs.map Prod.fst)
 ol:OwnT w 0 156 2 vl ls.length (lsC (mp Prod.fst ls))
 rc:∀ p ∈ cs,BtF w F p.1 p.2
 rl:∀ p ∈ ls,BtF w F p.2.1 p.2.2
 dc:D.cells=cs.map Prod.snd
 dl:D.loose=mp Prod.snd ls
 fc:∀ k,vc.ownBlock=some k→¬ F k
 fl:∀ k,vl.ownBlock=some k→¬ F k
 bd:∀ k,F k→k < w.heap.size
 ok:D.Ok
def rfV (D:Dk) (vc vl:Value):Value:=.agg #[.int .i64 (D.size:Int),vc,vl,.int .i64 (D.syncs:Int)]
def RfAt (w:World) (F:Nat→Prop) (D:Dk) (v:Value):Prop:=∃ vc vl cs ls,v=rfV D vc vl∧RfR w F D vc vl cs ls
section
variable {w w1:World} {F F1 S:Nat→Prop} {D:Dk} {vc vl v:Value} {cs:List (Value × List UInt8)} {ls:List (Nat × (Value × List UInt8))} {gc n c k q:Nat}
theorem RfR.keep (h:RfR w F D vc vl cs ls) (hk:Kp S w w1) (hS:∀ k,k < w.heap.size→¬ F k→¬ S k):RfR w1 F D vc vl cs ls :=
 ⟨h.oc.keep hk fun k hk=>hS k (h.oc.lt k hk) (h.fc k hk),h.ol.keep hk fun k hk=>hS k (h.ol.lt k hk) (h.fl k hk),fun p hp=>(h.rc p hp).keep hk hS,fun p hp=>(h.rl p hp).keep hk hS,h.dc,h.dl,h.fc,h.fl,fun k hF=>Nat.lt_of_lt_of_le (h.bd k hF) hk.size,h.ok⟩
theorem RfR.no (h:RfR w F D vc vl cs ls) (hk:Kp No w w1):RfR w1 F D vc vl cs ls:=h.keep hk fun _ _ _ f=>f
/-- The other blocks have grown. -/
theorem RfR.step (h:RfR w F D vc vl cs ls) (hk:Kp F w w1) (hF:∀ k,F1 k→Up F w k∧k < w1.heap.size):RfR w1 F1 D vc vl cs ls:=by
 have h1:=h.keep hk fun k _ g=>g
 have key:∀ k,k < w.heap.size→¬ F k→¬ F1 k:=fun k hk hn g=>by
  rcases (hF k g).1 with f | f
  ·exact hn f
  ·omega
 exact ⟨h1.oc,h1.ol,fun p hp=>(h.rc p hp).step hk fun k g=>(hF k g).1,fun p hp=>(h.rl p hp).step hk fun k g=>(hF k g).1,h1.dc,h1.dl,fun k hk=>key k (h.oc.lt k hk) (h.fc k hk),fun k hk=>key k (h.ol.lt k hk) (h.fl k hk),fun k g=>(hF k g).2,h1.ok⟩
theorem RfR.less (h:RfR w F D vc vl cs ls) (hF:∀ k,F1 k→F k):RfR w F1 D vc vl cs ls :=
 ⟨h.oc,h.ol,fun p hp=>(h.rc p hp).up fun k _ g=>hF k g,fun p hp=>(h.rl p hp).up fun k _ g=>hF k g,h.dc,h.dl,fun k hk g=>h.fc k hk (hF k g),fun k hk g=>h.fl k hk (hF k g),fun k g=>h.bd k (hF k g),h.ok⟩
theorem RfR.ncs (h:RfR w F D vc vl cs ls):cs.length=D.cells.length:=by rw [h.dc,List.length_map]
theorem RfR.nls (h:RfR w F D vc vl cs ls):ls.length=D.loose.length:=by rw [h.dl,mp_len]
theorem RfR.vc_ (h:RfR w F D vc vl cs ls):∃ gc c,vc=.slice (some ⟨gc,0,none⟩) D.cells.length c∧D.cells.length≤c:=by
 have hn:=h.ok.n0
 have hcs:=h.ncs
 obtain ⟨A,c,e⟩:=h.oc.form
 have ho:=h.oc
 rw [e] at ho
 obtain ⟨gc,e1,_⟩:=ho.some_ (by omega)
 subst e1
 have:=ho.cap
 exact ⟨gc,c,by rw [e,hcs],by omega⟩
theorem RfR.vl_ (h:RfR w F D vc vl cs ls):∃ A c,vl=.slice A D.loose.length c∧D.loose.length≤c∧D.loose.length≤maxLen:=by
 obtain ⟨A,c,e⟩:=h.ol.form
 have ho:=h.ol
 rw [e] at ho
 refine ⟨A,c,by rw [e,h.nls],?_,?_⟩
 all_goals
  rw [← h.nls]
  rcases ho.2 with ⟨e1,e2⟩ | ⟨g',cap,cur,e1,_,_,h1,h2,_⟩
  ·omega
  ·injection e1 with _ _ e3
   omega
/-- One of the cells. -/
theorem RfR.cell (h:RfR w F D vc vl cs ls) (hv:vc=.slice (some ⟨gc,0,none⟩) n c) (hk:k < D.cells.length):∃ A' m c',cs[k]?=some (.slice A' m c',D.cell k)∧w.cell? ⟨gc,k,none⟩=some (.slice A' m c')∧BtF w F (.slice A' m c') (D.cell k)∧m=(D.cell k).length:=by
 subst hv
 have hcs:=h.ncs
 have hp:cs[k]?=some cs[k]:=List.getElem?_eq_getElem (by omega)
 have ho:=h.rc _ (List.mem_of_getElem? hp)
 obtain ⟨A',m,c',e⟩:=ho.1.form
 have hd:D.cell k=cs[k].2:=by
  unfold Dk.cell
  rw [h.dc,List.getD_eq_getElem?_getD,List.getElem?_map,hp]
  rfl
 have hc:w.cell? ⟨gc,k,none⟩=some cs[k].1:=h.oc.cellAt (by rw [List.getElem?_map,hp]; rfl)
 rw [e] at ho hc
 rw [hd]
 exact ⟨A',m,c',by rw [hp,← e],hc,ho,ho.1.len⟩
/-- One of the loose writes. -/
theorem RfR.lw (h:RfR w F D vc vl cs ls) {A:Option Addr} {m cl:Nat} (hv:vl=.slice A m cl) {j:Nat} (hj:j < D.loose.length):∃ gl q A' m' c' bs,A=some ⟨gl,0,none⟩∧D.loose[j]?=some (q,bs)∧ls[j]?=some (q,(.slice A' m' c',bs))∧w.cell? ⟨gl,j * 2,none⟩=some (.int .i64 (q:Int))∧w.cell? ⟨gl,j * 2+1,none⟩=some (.slice A' m' c')∧BtF w F (.slice A' m' c') bs∧q < D.cells.length∧bs.length≤D.size:=by
 subst hv
 have hn:=h.nls
 obtain ⟨p,hp⟩:∃ p,ls[j]?=some p:=⟨_,List.getElem?_eq_getElem (by omega)⟩
 have ho:=h.rl p (List.mem_of_getElem? hp)
 obtain ⟨q,v,bs⟩:=p
 obtain ⟨A',m',c',e⟩:=ho.1.form
 obtain ⟨h1,h2⟩:=lsC_get (lv:=mp Prod.fst ls) (j:=j) (p:=(q,v)) (by rw [mp_get,hp]; rfl)
 obtain ⟨gl,e1,_,_,_,x1⟩:=h.ol.cell h1
 have x2:=OwnT.cellAt (by rw [e1] at h; exact h.ol) h2
 have hd:D.loose[j]?=some (q,bs):=by rw [h.dl,mp_get,hp]; rfl
 have hll:=h.ok.ll _ (List.mem_of_getElem? hd)
 simp only at e
 subst e
 exact ⟨gl,q,A',m',c',bs,e1,hd,hp,x1,x2,ho,hll.1,hll.2⟩
end
section
variable {w:World} {F:Nat→Prop} {D:Dk} {vc vl v:Value} {cs:List (Value × List UInt8)} {ls:List (Nat × (Value × List UInt8))}
theorem rhas_in (h:RfR w F D vc vl cs ls) (z:Int) (hz:D.In z):Calls Tryz.prog 37 #[rfV D vc vl,.int .i64 z] w fun e w1=>e=.returned (.bool true)∧Kp No w w1:=by
 obtain ⟨gc,c,rfl,hc⟩:=h.vc_
 obtain ⟨z0,z1⟩:=hz
 unfold rfV
 go_enter Tryz.func37,Tryz.ntmps37
 go_wp2
 go_ret
 exact ⟨rfl,Kp.alloc No _ _⟩
theorem rhas_out (h:RfR w F D vc vl cs ls) (z:Int) (hz:¬ D.In z):Calls Tryz.prog 37 #[rfV D vc vl,.int .i64 z] w fun e w1=>e=.returned (.bool false)∧Kp No w w1:=by
 obtain ⟨gc,c,rfl,hc⟩:=h.vc_
 unfold rfV
 by_cases z0:0≤z
 ·have z1:¬ z < D.cells.length:=fun g=>hz ⟨z0,g⟩
  clear hz
  go_enter Tryz.func37,Tryz.ntmps37
  go_wp2
  go_ret
  exact ⟨rfl,Kp.alloc No _ _⟩
 ·clear hz
  go_enter Tryz.func37,Tryz.ntmps37
  go_wp2
  go_ret
  exact ⟨rfl,Kp.alloc No _ _⟩
/-- What the document's New returns. -/
def RnewPost (w:World) (F:Nat→Prop) (n s:Nat) (e:Ending) (w1:World):Prop:=∃ v,e=.returned v∧RfAt w1 F (Dk.new n s) v∧Kp No w w1
theorem rnew_any (w:World) (F:Nat→Prop) (hF:∀ k,F k→k < w.heap.size) (n s:Nat) (h1:1≤n) (h2:n≤1024) (h3:1≤s) (h4:s≤4096):Calls Tryz.prog 12 #[.int .i64 (n:Int),.int .i64 (s:Int)] w (RnewPost w F n s):=by
 have hmk:=fun w=>make_slcs w n (n:Int) rfl (by omega)
 go_enter Tryz.func12,Tryz.ntmps12
 go_wp2
 have e1:(w.alloc (.cells #[.int .i64 (s:Int),.slice (some ⟨w.heap.size+1,0,none⟩) n n,.slice none 0 0,.int .i64 0] 39)).heap.size=w.heap.size+1:=by simp
 have ho:=ownT_slcs (w.alloc (.cells #[.int .i64 (s:Int),.slice (some ⟨w.heap.size+1,0,none⟩) n n,.slice none 0 0,.int .i64 0] 39)) 0 n (Nat.zero_le _) (by omega)
 rw [e1] at ho
 have K:=(Kp.alloc No w (.cells #[.int .i64 (s:Int),.slice (some ⟨w.heap.size+1,0,none⟩) n n,.slice none 0 0,.int .i64 0] 39)).al (.cells (zsl n) 54)
 have k1:=Kp.alloc No (w.alloc (.cells #[.int .i64 (s:Int),.slice (some ⟨w.heap.size+1,0,none⟩) n n,.slice none 0 0,.int .i64 0] 39)) (.cells (zsl n) 54)
 have c0:=k1.box (j:=0) rfl
 have c1:=k1.box (j:=1) rfl
 have c2:=k1.box (j:=2) rfl
 have c3:=k1.box (j:=3) rfl
 have HO:=hide ho
 have HK:=hide K
 clear ho K k1 e1 hmk
 generalize (w.alloc (.cells #[.int .i64 (s:Int),.slice (some ⟨w.heap.size+1,0,none⟩) n n,.slice none 0 0,.int .i64 0] 39)).alloc (.cells (zsl n) 54)=w2 at HO HK c0 c1 c2 c3 ⊢
 refine bodyPost_ret (v:=.agg #[.int .i64 (s:Int),.slice (some ⟨w.heap.size+1,0,none⟩) n n,.slice none 0 0,.int .i64 0]) (by simp [results,Tryz.results12,go_sem,c0,c1,c2,c3]) rfl ?_
 refine ⟨_,rfl,⟨.slice (some ⟨w.heap.size+1,0,none⟩) n n,.slice none 0 0,List.replicate n (.slice none 0 0,[]),[],rfl,⟨?_,OwnT.nil _ _ _ _,(fun p hp=>?_),(fun p hp=>by simp at hp),?_,rfl,(fun k hk g=>?_),(fun k hk=>by cases hk),(fun k g=>Nat.lt_of_lt_of_le (hF k g) HK.out.size),Dk.new_ok h1 h2 h3 h4⟩⟩,HK.out⟩
 ·have:=HO.out
  simpa using this
 ·obtain rfl:=List.eq_of_mem_replicate hp
  exact ⟨Bts.nil _,fun g=>absurd rfl g,fun A n c e=>by injection e with _ e1 e2; omega⟩
 ·simp [Dk.new]
 ·have hk2:w.heap.size+1=k:=Option.some.inj hk
  have:=hF k g
  omega
/-- What the document's Read returns. -/
def RrdPost (w:World) (bs:List UInt8) (e:Ending) (w1:World):Prop:=∃ A n c,e=.returned (.slice A n c)∧n≤c∧Bts w1 (.slice A n c) bs∧Kp No w w1
set_option maxHeartbeats 2000000 in
theorem rread_any (h:RfAt w F D v) (z:Int):Calls Tryz.prog 69 #[v,.int .i64 z] w (RrdPost w (D.rd z)):=by
 obtain ⟨vc,vl,cs,ls,rfl,h⟩:=h
 by_cases hz:D.In z
 ·have hhas:=fun w1 (hk:Kp No w w1)=>rhas_in (h.no hk) z hz
  obtain ⟨q,rfl⟩:∃ q:Nat,z=q:=⟨z.toNat,by have:=hz.1; omega⟩
  have hq:q < D.cells.length:=by have:=hz.2; omega
  have hrd:D.rd (q:Int)=rdL D.loose q (D.cell q):=by unfold Dk.rd; rw [if_pos hz,Int.toNat_natCast]
  rw [hrd]
  clear hrd hz
  obtain ⟨gc,c,rfl,hc⟩:=h.vc_
  obtain ⟨A,cl,rfl,hcl,hL⟩:=h.vl_
  unfold maxLen at hL
  unfold rfV at *
  have HHAS:=hide hhas
  have HH:=hide h
  clear hhas h
  go_enter Tryz.func69,Tryz.ntmps69
  go_wp2_with fail
  refine (HHAS.out _ (Kp.alloc No _ _)).mono ?_
  rintro e w1 ⟨rfl,k1⟩
  have c1:=k1.box (j:=1) rfl
  have c2:=k1.box (j:=2) rfl
  have K1:Kp No w w1:=(Kp.alloc No _ _).trans' k1
  have h1:=HH.out.no K1
  obtain ⟨A',m,c',_,xk,hok,hm⟩:=h1.cell rfl hq
  have hmc:=hok.room _ _ _ rfl
  clear hm
  have HK1:=hide K1
  clear K1 k1
  generalize w.heap.size=s at c1 c2 ⊢
  go_wp2_with fail
  go_loop [5,6] (fun b i=>∃ (k:Nat) (A1:Option Addr) (n1 cc1:Nat),k≤D.loose.length∧i=.int .i64 (k:Int)∧b=.slice A1 n1 cc1∧n1≤cc1∧Bts w1 (.slice A1 n1 cc1) (rdL (D.loose.take k) q (D.cell q))) (fun _ i=>D.loose.length - (intOf i).toNat)
  case atStart=>exact ⟨0,A',m,c',Nat.zero_le _,rfl,rfl,hmc,hok.1⟩
  case round =>
   obtain ⟨k,A1,n1,cc1,hk,rfl,rfl,hroom,hB⟩:=hrel
   clear hmc
   by_cases hlt:k < D.loose.length
   ·obtain ⟨gl,p,A2,m2,c2',bs,rfl,hp,_,y0,y1,hob,_,hbl⟩:=h1.lw rfl hlt
    have hN:=rdL_next hp q (D.cell q)
    by_cases hpq:p=q
    ·rw [if_pos hpq] at hN
     have HN:Hid (Bts w1 (.slice A2 m2 c2') (rdL (D.loose.take (k+1)) q (D.cell q))):=by show Bts _ _ _; rw [hN]; exact hob.1
     have HRM:Hid (m2≤c2'):=hob.room _ _ _ rfl
     have hne:((p:Int) == (q:Int))=true:=by simp; omega
     clear hN hp hob hB hpq
     go_wp2_with fail
     go_round
     case rel=>exact ⟨k+1,A2,m2,c2',by omega,by go_num,rfl,HRM.out,HN.out⟩
     case measure=>simp [intOf]; omega
    ·rw [if_neg hpq] at hN
     have HN:Hid (Bts w1 (.slice A1 n1 cc1) (rdL (D.loose.take (k+1)) q (D.cell q))):=by show Bts _ _ _; rw [hN]; exact hB
     have hne:((p:Int) == (q:Int))=false:=by simp; omega
     clear hN hp hob hB hpq
     go_wp2_with fail
     go_round
     case rel=>exact ⟨k+1,A1,n1,cc1,by omega,by go_num,rfl,hroom,HN.out⟩
     case measure=>simp [intOf]; omega
   ·obtain rfl:k=D.loose.length:=by omega
    rw [List.take_of_length_le (Nat.le_refl _)] at hB
    have HB:=hide hB
    clear hB
    go_wp2_with fail
    go_ret
    exact ⟨A1,n1,cc1,rfl,hroom,HB.out,HK1.out⟩
 ·have hhas:=fun w1 (hk:Kp No w w1)=>rhas_out (h.no hk) z hz
  have hrd:D.rd z=[]:=by unfold Dk.rd; rw [if_neg hz]
  rw [hrd]
  clear hz
  unfold rfV at *
  have HHAS:=hide hhas
  clear hhas h
  go_enter Tryz.func69,Tryz.ntmps69
  go_wp2_with fail
  refine (HHAS.out _ (Kp.alloc No _ _)).mono ?_
  rintro e w1 ⟨rfl,k1⟩
  go_wp2_with fail
  go_ret
  exact ⟨none,0,0,rfl,Nat.le_refl _,Bts.nil _,(Kp.alloc No _ _).trans' k1⟩
end
end Go.Proofs.YtnfcfdhlmeimhaaGreat
namespace Go.Proofs.YtnfcfdhlmeimhaaGreat
open Go.RowKit
set_option linter.unusedVariables false
set_option linter.unusedSimpArgs false
set_option maxRecDepth 20000
def R12Post (w:World) (bs:List UInt8) (e:Ending) (w1:World):Prop :=
 ∃ A n c,e=.returned (.tuple #[shV (rdS bs),.slice A n c,.int .i64 (rdE bs:Int)])∧Bts w1 (.slice A n c) (rdB bs)∧Kp No w w1
theorem R12Post.err {w w1:World} {bs:List UInt8} {er:Int} (h:er≠0∧er=(rdE bs:Int)) (hk:Kp No w w1):R12Post w bs (.returned (.tuple #[.agg #[.int .u32 0,.int .u16 0,.int .u16 0,.int .u32 0],.slice none 0 0,.int .i64 er])) w1:=by
 have hs:rdS bs=0:=by unfold rdS; rw [if_neg (by omega)]
 have hb:rdB bs=[]:=by unfold rdB; rw [if_neg (by omega)]
 refine ⟨none,0,0,?_,by rw [hb]; exact Bts.nil _,hk⟩
 rw [hs,h.2]
 rfl
set_option maxHeartbeats 4000000 in
theorem rread12_any {w:World} {A:Option Addr} {n c:Nat} {bs:List UInt8} (hb:Bts w (.slice A n c) bs) (hnc:n≤c) (hbig:n≤900000000):Calls Tryz.prog 68 #[.slice A n c] w (R12Post w bs):=by
 have HLN:=hide hb.len
 obtain ⟨er,her⟩:∃ q,q=opE bs:=⟨_,rfl⟩
 obtain ⟨kd,hkd⟩:∃ q,q=opK bs:=⟨_,rfl⟩
 obtain ⟨ld,hld⟩:∃ q,q=opL bs:=⟨_,rfl⟩
 have HER:=hide her
 have HKD:=hide hkd
 have HLD:=hide hld
 have HB:=hide hb
 have hopen:=ropen_any (hb.no (Kp.alloc No w (.cells #[.int .u32 0,.int .u16 0,.int .u16 0,.int .u32 0] 53))) hnc hbig
 rw [← her,← hkd,← hld] at hopen
 clear her hkd hld hb
 go_enter Tryz.func68,Tryz.ntmps68
 go_wp2_with fail
 have R0:Box4 (w.alloc (.cells #[.int .u32 0,.int .u16 0,.int .u16 0,.int .u32 0] 53)) w.heap.size (.int .u32 0) (.int .u16 0) (.int .u16 0) (.int .u32 0):=Bx4.new w _ _ _ _
 have K0:Kp No w (w.alloc (.cells #[.int .u32 0,.int .u16 0,.int .u16 0,.int .u32 0] 53)):=Kp.alloc No w _
 refine hopen.mono ?_
 rintro e w1 ⟨A5,n5,c5,rfl,r5,hall,hk5⟩
 have R9:=R0.keep hk5 (fun f=>f)
 have K9:=K0.trans' hk5
 have hld5:=hall _ (HB.out.no K9)
 have hn5:=hld5.len
 have HL5:=hide hld5
 have hs1:w.heap.size < w1.heap.size:=by have:=hk5.size; simp at this; omega
 clear R0 K0 hk5 hall hopen hld5
 by_cases h0:er=0
 ·subst h0
  have hN:=opN_eq HER.out.symm
  rw [← HLD.out] at hN
  have hkdl:kd < 65536:=by rw [HKD.out]; unfold opK; rw [if_pos HER.out.symm]; exact kdO_lt bs
  have hldl:n5≤900000000:=by have:=HLN.out; omega
  have HN5:=hide hn5
  clear hN hn5
  by_cases hk1:kd=1
  ·subst hk1
   by_cases hsh:n5 < 12
   ·have HFin:Hid ((21:Int)≠0∧(21:Int)=(rdE bs:Int)):=hide ⟨by omega,by rw [rdE_no HER.out.symm (by rw [← HLD.out]; have:=HN5.out; omega)]; rfl⟩
    have hz:(n5:Int) < 12:=by omega
    obtain ⟨t0,t1,t2,t3⟩:=R9.cell
    have g0:=R9.frozen 0
    have g1:=R9.frozen 1
    have g2:=R9.frozen 2
    have g3:=R9.frozen 3
    have R10:=R9.all (.int .u32 0) (.int .u16 0) (.int .u16 0) (.int .u32 0)
    obtain ⟨q0,q1,q2,q3⟩:=R10.cell
    have K10:=K9.trans (kp4 (S:=Up No w) _ w.heap.size (.int .u32 0) (.int .u16 0) (.int .u16 0) (.int .u32 0) (.inr (Nat.le_refl _)))
    have HK10:=hide K10
    clear K10 R10 K9 R9
    go_wp2_with fail
    refine bodyPost_ret (v:=.tuple #[.agg #[.int .u32 0,.int .u16 0,.int .u16 0,.int .u32 0],.slice none 0 0,.int .i64 21]) (by simp [results,Tryz.results68,go_sem,q0,q1,q2,q3]) rfl ?_
    exact R12Post.err HFin.out HK10.out
   ·have hz:¬ (n5:Int) < 12:=by omega
    by_cases hnn:n=12+n5
    ·have HOK:Hid (rdE bs=0):=by show _=_; exact rdE_yes HER.out.symm (by rw [← HLD.out,← HKD.out]; have:=HN5.out; have:=HLN.out; omega)
     have hzz:((n:Int) != 12+(n5:Int))=false:=by simp; omega
     have HT0:Hid (TkAt (w1.alloc (.cells #[.slice A5 n5 c5,.bool false] 166)) w1.heap.size ld):=⟨A5,n5,c5,TkB.new w1 _,HL5.out.no (Kp.alloc No w1 _),r5⟩
     have hz12:12≤ld.length:=by have:=HN5.out; omega
     have HZ12:=hide hz12
     have HK9:=hide (K9.trans' (Kp.alloc No w1 (.cells #[.slice A5 n5 c5,.bool false] 166)))
     have HR9:=hide (R9.keep (Kp.alloc No w1 (.cells #[.slice A5 n5 c5,.bool false] 166)) fun f=>f)
     have HW:Hid (w.heap.size≠w1.heap.size):=by show _≠_; omega
     have HX:Hid (w.heap.size < w1.heap.size):=hs1
     clear hnn hz12 R9 K9 hs1
     go_wp2_with fail
     refine (tshard_any HT0.out HZ12.out).mono ?_
     rintro e w2 ⟨rfl,ht2,k2⟩
     have R2:=HR9.out.keep k2 HW.out
     have K2:Kp No w w2:=HK9.out.trans (k2.mono fun q hq=>.inr (by subst hq; exact Nat.le_of_lt HX.out))
     have hz2:w1.heap.size < w2.heap.size:=ht2.lt
     obtain ⟨t,hnm⟩:∃ t,t=nmO ld:=⟨_,rfl⟩
     rw [← hnm]
     have HNM:=hide hnm
     have R3:=R2.keep (Kp.alloc No w2 (.cells #[.int .u32 (cO t:Int),.int .u16 (cS t:Int),.int .u16 (cL t:Int),.int .u32 (cG t:Int)] 53)) fun f=>f
     have ht3:=ht2.no (Kp.alloc No w2 (.cells #[.int .u32 (cO t:Int),.int .u16 (cS t:Int),.int .u16 (cL t:Int),.int .u32 (cG t:Int)] 53))
     have K3:=K2.trans' (Kp.alloc No w2 (.cells #[.int .u32 (cO t:Int),.int .u16 (cS t:Int),.int .u16 (cL t:Int),.int .u32 (cG t:Int)] 53))
     have B3:=Bx4.new w2 (.int .u32 (cO t:Int)) (.int .u16 (cS t:Int)) (.int .u16 (cL t:Int)) (.int .u32 (cG t:Int))
     clear R2 K2 ht2 k2 hnm
     go_upto_region 8 with fail
     generalize w2.alloc (.cells #[.int .u32 (cO t:Int),.int .u16 (cS t:Int),.int .u16 (cL t:Int),.int .u32 (cG t:Int)] 53)=w3 at R3 ht3 K3 B3 ⊢
     generalize w2.heap.size=s2 at hz2 B3 ⊢
     obtain ⟨A6,n6,c6,tb6,hb6,_⟩:=ht3
     have x0:=tb6.c0
     obtain ⟨t0,t1,t2,t3⟩:=R3.cell
     have g0:=R3.frozen 0
     have g1:=R3.frozen 1
     have g2:=R3.frozen 2
     have g3:=R3.frozen 3
     obtain ⟨y0,y1,y2,y3⟩:=B3.cell
     have R10:=R3.all (.int .u32 (cO t:Int)) (.int .u16 (cS t:Int)) (.int .u16 (cL t:Int)) (.int .u32 (cG t:Int))
     obtain ⟨q0,q1,q2,q3⟩:=R10.cell
     have K10:=K3.trans (kp4 (S:=Up No w) _ w.heap.size (.int .u32 (cO t:Int)) (.int .u16 (cS t:Int)) (.int .u16 (cL t:Int)) (.int .u32 (cG t:Int)) (.inr (Nat.le_refl _)))
     have hb10:=R3.stay hb6 (kp4 (S:=fun k=>k=w.heap.size) _ w.heap.size (.int .u32 (cO t:Int)) (.int .u16 (cS t:Int)) (.int .u16 (cL t:Int)) (.int .u32 (cG t:Int)) rfl)
     have HQ:=hide (And.intro hb10 K10)
     have n1:¬ w1.heap.size=w.heap.size:=by have:=HX.out; omega
     have n2:¬ s2=w.heap.size:=by have:=HX.out; omega
     clear hb10 K10 R10 K3 R3 B3 tb6 hb6
     go_region
     go_wp2_with fail
     refine bodyPost_ret (v:=.tuple #[shV t,.slice A6 n6 c6,.int .i64 0]) (by simp [results,Tryz.results68,go_sem,q0,q1,q2,q3]) rfl ?_
     refine ⟨A6,n6,c6,?_,?_,?_⟩
     ·rw [HOK.out]; unfold rdS; rw [if_pos HOK.out,HNM.out,HLD.out]; rfl
     ·unfold rdB; rw [if_pos HOK.out,← HLD.out]; exact HQ.out.1
     ·exact HQ.out.2.drew
    ·have HFin:Hid ((21:Int)≠0∧(21:Int)=(rdE bs:Int)):=hide ⟨by omega,by rw [rdE_no HER.out.symm (by rw [← HLD.out]; have:=HN5.out; have:=HLN.out; omega)]; rfl⟩
     have hzz:((n:Int) != 12+(n5:Int))=true:=by simp; omega
     obtain ⟨t0,t1,t2,t3⟩:=R9.cell
     have g0:=R9.frozen 0
     have g1:=R9.frozen 1
     have g2:=R9.frozen 2
     have g3:=R9.frozen 3
     have R10:=R9.all (.int .u32 0) (.int .u16 0) (.int .u16 0) (.int .u32 0)
     obtain ⟨q0,q1,q2,q3⟩:=R10.cell
     have K10:=K9.trans (kp4 (S:=Up No w) _ w.heap.size (.int .u32 0) (.int .u16 0) (.int .u16 0) (.int .u32 0) (.inr (Nat.le_refl _)))
     have HK10:=hide K10
     clear K10 R10 K9 R9
     go_wp2_with fail
     refine bodyPost_ret (v:=.tuple #[.agg #[.int .u32 0,.int .u16 0,.int .u16 0,.int .u32 0],.slice none 0 0,.int .i64 21]) (by simp [results,Tryz.results68,go_sem,q0,q1,q2,q3]) rfl ?_
     exact R12Post.err HFin.out HK10.out
  ·have HFin:Hid ((21:Int)≠0∧(21:Int)=(rdE bs:Int)):=hide ⟨by omega,by rw [rdE_no HER.out.symm (by rw [← HKD.out]; omega)]; rfl⟩
   have hkne:((kd:Int) != 1)=true:=by simp; omega
   clear hk1
   obtain ⟨t0,t1,t2,t3⟩:=R9.cell
   have g0:=R9.frozen 0
   have g1:=R9.frozen 1
   have g2:=R9.frozen 2
   have g3:=R9.frozen 3
   have R10:=R9.all (.int .u32 0) (.int .u16 0) (.int .u16 0) (.int .u32 0)
   obtain ⟨q0,q1,q2,q3⟩:=R10.cell
   have K10:=K9.trans (kp4 (S:=Up No w) _ w.heap.size (.int .u32 0) (.int .u16 0) (.int .u16 0) (.int .u32 0) (.inr (Nat.le_refl _)))
   have HK10:=hide K10
   clear K10 R10 K9 R9
   go_wp2_with fail
   refine bodyPost_ret (v:=.tuple #[.agg #[.int .u32 0,.int .u16 0,.int .u16 0,.int .u32 0],.slice none 0 0,.int .i64 21]) (by simp [results,Tryz.results68,go_sem,q0,q1,q2,q3]) rfl ?_
   exact R12Post.err HFin.out HK10.out
 ·have hne:((er:Int) != 0)=true:=by simp; omega
  have HFin:Hid ((er:Int)≠0∧(er:Int)=(rdE bs:Int)):=hide ⟨by omega,by rw [rdE_opE (by rw [← HER.out]; exact h0),HER.out]⟩
  clear h0
  obtain ⟨t0,t1,t2,t3⟩:=R9.cell
  have g0:=R9.frozen 0
  have g1:=R9.frozen 1
  have g2:=R9.frozen 2
  have g3:=R9.frozen 3
  have R10:=R9.all (.int .u32 0) (.int .u16 0) (.int .u16 0) (.int .u32 0)
  obtain ⟨q0,q1,q2,q3⟩:=R10.cell
  have K10:=K9.trans (kp4 (S:=Up No w) _ w.heap.size (.int .u32 0) (.int .u16 0) (.int .u16 0) (.int .u32 0) (.inr (Nat.le_refl _)))
  have HK10:=hide K10
  clear K10 R10 K9 R9
  go_wp2_with fail
  refine bodyPost_ret (v:=.tuple #[.agg #[.int .u32 0,.int .u16 0,.int .u16 0,.int .u32 0],.slice none 0 0,.int .i64 er]) (by simp [results,Tryz.results68,go_sem,q0,q1,q2,q3]) rfl ?_
  exact R12Post.err HFin.out HK10.out
end Go.Proofs.YtnfcfdhlmeimhaaGreat
namespace Go.Proofs.YtnfcfdhlmeimhaaGreat
open Go.RowKit
set_option linter.unusedVariables false
set_option linter.unusedSimpArgs false
set_option maxRecDepth 20000
section
variable {w:World} {s t:Nat} {ops:Array Oper} {rest:List Oper} {o:Oper} {a:Act} {Q:Exit→Act→World→Prop}
theorem wpList_sneq (hg:o.guard=none) (x y:Operand) (hop:o.op=Op.binOp .neq 53 x y 53) (hx:a.eval x=shV s) (hy:a.eval y=shV t) (hs:s < N96) (ht:t < N96) (r:Bool) (hr:(!(s == t))=r)
  (hK:wpList Tryz.prog ops Q rest (a.put o.dst (.bool r)) w):wpList Tryz.prog ops Q (o :: rest) a w:=by
 subst hr
 refine wpList_plain hg fun K' hK'=>?_
 have hq:=sh_equal w hs ht
 have hgd:=sh_guard
 unfold Oper.wp
 simp [execOp,hop,hx,hy,eqGuard,binOp,hgd,hq,Result.andThen]
 exact hK' _ _ hK
end
end Go.Proofs.YtnfcfdhlmeimhaaGreat
