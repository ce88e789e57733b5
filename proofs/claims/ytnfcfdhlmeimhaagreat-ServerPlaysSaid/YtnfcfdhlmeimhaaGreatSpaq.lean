/- A node in plain words: what it answers to a request, what it remembers, how it starts again. No program is spoken of; Package vault's Open, as a contract over memory; Package vault's framed, as a contract over memory; Package vault's free, as a contract over memory. -/
import Derived.Test.YtnfcfdhlmeimhaaGreatSpaf
import Derived.Test.YtnfcfdhlmeimhaaGreatSpap
import Derived.Test.YtnfcfdhlmeimhaaGreatSpao
import Derived.Test.YtnfcfdhlmeimhaaGreatSpam
import Derived.Test.YtnfcfdhlmeimhaaGreatSpaj
import Derived.Test.YtnfcfdhlmeimhaaGreatSpac
namespace Go.Proofs.YtnfcfdhlmeimhaaGreat
set_option linter.unusedVariables false
set_option linter.unusedSimpArgs false
set_option maxRecDepth 20000
section
variable (n a:Nat) (x:Nat→UInt8) (V:Vt) (s lost:Nat) (q:Rq)
/-- What Help comes to. -/
def hlpE:Nat:=if V.gtE s=0 then (if n≤lost∨(V.gtB s).length=0∨(V.gtB s).length % a≠0 then 1 else 0) else V.gtE s
def hlpB:List UInt8:=if hlpE n a V s lost=0 then rowL ((V.gtB s).length / a) (frE a ((V.gtB s).length / a) (V.gtB s) (x lost)) else []
/-- The reply's error and data, and the vault behind it. -/
def ndE:Nat:=if q.kind=2 then V.bgE q.s q.data else if q.kind=3 then V.gtE q.s else if q.kind=4 then hlpE n a V q.s q.lost else if q.kind=5 then V.drE q.s else if q.kind=6 then V.gtE q.s else 0
def ndB:List UInt8:=if q.kind=3 then V.gtB q.s else if q.kind=4 then hlpB n a x V q.s q.lost else []
def ndV:Vt:=if q.kind=2 then V.pt q.s q.data else if q.kind=5 then V.dr q.s else V
def ndP:Rp:=⟨q.num,(ndE n a V q:Int),ndB n a x V q⟩
end
/-- Is a request of this kind done once alone? -/
def chgK (k:Int):Bool:=k == 2 || k == 5
/-- A reply is remembered; at most so many. -/
def remL (sn:List Rp) (p:Rp):List Rp:=if sn.length=32 then sn.drop 1 ++ [p] else sn ++ [p]
/-- A node: its vault, the replies that it remembers, how many requests it did. -/
structure Nd where
 V:Vt
 sn:List Rp
 done:Nat
namespace Nd
def up (D:Dk):Nd:=⟨Vt.opened D,[],0⟩
def restart (N:Nd) (z y:Int):Nd:=up (N.V.D.crash z y)
def old (N:Nd) (q:Rq):Option Rp:=if chgK q.kind=true then N.sn.find? fun p=>p.num == q.num else none
def did (n a:Nat) (x:Nat→UInt8) (N:Nd) (q:Rq):Nd:=⟨ndV N.V q,if chgK q.kind=true then remL N.sn (ndP n a x N.V q) else N.sn,N.done+1⟩
def hand (n a:Nat) (x:Nat→UInt8) (N:Nd) (q:Rq):Nd:=if N.old q=none then N.did n a x q else N
def out (n a:Nat) (x:Nat→UInt8) (N:Nd) (q:Rq):Rp:=(N.old q).getD (ndP n a x N.V q)
def handB (n a:Nat) (x:Nat→UInt8) (N:Nd) (b:List UInt8):Nd:=if rqE b=true then N.hand n a x (rqO b) else N
def outB (n a:Nat) (x:Nat→UInt8) (N:Nd) (b:List UInt8):List UInt8:=if rqE b=true then (N.out n a x (rqO b)).bytes else []
/-- The vault behind what a Put writes. -/
def begun (V:Vt) (b:List UInt8):Vt:=if rqE b=true∧(rqO b).kind=2 then V.bg (rqO b).s (rqO b).data else V
def trip (N:Nd) (b:List UInt8) (z y:Int):Nd:=up ((begun N.V b).D.crash z y)
/-- A reply that may be remembered. -/
structure RpOk (p:Rp):Prop where
 num:p.num < 18446744073709551616
 nil:p.data=[]
 e0:0≤p.e
 e1:p.e≤255
structure Ok (N:Nd):Prop where
 v:N.V.Ok
 few:N.sn.length≤32
 all:∀ p ∈ N.sn,RpOk p
end Nd
theorem Nd.RpOk.rgt {p:Rp} (h:Nd.RpOk p):p.rgt=true:=by
 unfold Rp.rgt RpB
 rw [h.nil]
 exact decide_eq_true ⟨h.e0,h.e1,.inr rfl⟩
section
variable {n a:Nat} {x:Nat→UInt8} {V:Vt} {s lost:Nat} {q:Rq} {b:List UInt8}
theorem rdE_le (bs:List UInt8):rdE bs≤22:=by
 unfold rdE
 have h:=opE_cases bs
 split
 ·omega
 ·split <;> omega
theorem Vt.gtE_le (V:Vt) (s:Nat):V.gtE s≤22:=by
 unfold Vt.gtE
 have:=rdE_le (V.at_ s)
 split
 ·split
  ·split <;> omega
  ·omega
 ·omega
theorem Vt.bgE_le (V:Vt) (s:Nat) (b:List UInt8):V.bgE s b≤29:=by
 unfold Vt.bgE
 split
 ·omega
 ·split
  ·omega
  ·split <;> omega
theorem Vt.drE_le (V:Vt) (s:Nat):V.drE s≤6:=by unfold Vt.drE; split <;> omega
theorem hlpE_le (n a:Nat) (V:Vt) (s lost:Nat):hlpE n a V s lost≤22:=by
 unfold hlpE
 have:=V.gtE_le s
 split
 ·split <;> omega
 ·omega
theorem ndE_le (n a:Nat) (V:Vt) (q:Rq):ndE n a V q≤29:=by
 unfold ndE
 have:=V.gtE_le q.s
 have:=V.bgE_le q.s q.data
 have:=V.drE_le q.s
 have:=hlpE_le n a V q.s q.lost
 split
 ·omega
 ·split
  ·omega
  ·split
   ·omega
   ·split
    ·omega
    ·split <;> omega
theorem Vt.gtB_nil (h:V.gtE s≠0):V.gtB s=[]:=by unfold Vt.gtB; rw [if_neg h]
theorem hlpB_nil (h:hlpE n a V s lost≠0):hlpB n a x V s lost=[]:=by unfold hlpB; rw [if_neg h]
theorem hlpE_err (h:V.gtE s≠0):hlpE n a V s lost=V.gtE s:=by unfold hlpE; rw [if_neg h]
theorem hlpE_bad (h:V.gtE s=0) (h2:n≤lost∨(V.gtB s).length=0∨(V.gtB s).length % a≠0):hlpE n a V s lost=1:=by unfold hlpE; rw [if_pos h,if_pos h2]
theorem hlpE_good (h:V.gtE s=0) (h2:¬ (n≤lost∨(V.gtB s).length=0∨(V.gtB s).length % a≠0)):hlpE n a V s lost=0:=by unfold hlpE; rw [if_pos h,if_neg h2]
theorem hlpB_good (h:hlpE n a V s lost=0):hlpB n a x V s lost=rowL ((V.gtB s).length / a) (frE a ((V.gtB s).length / a) (V.gtB s) (x lost)):=by unfold hlpB; rw [if_pos h]
theorem ndB_nil (h:ndE n a V q≠0):ndB n a x V q=[]:=by
 unfold ndB
 unfold ndE at h
 by_cases h3:q.kind=3
 ·rw [if_neg (by omega),if_pos h3] at h
  rw [if_pos h3]
  exact Vt.gtB_nil h
 ·rw [if_neg h3]
  by_cases h4:q.kind=4
  ·rw [if_neg (by omega),if_neg h3,if_pos h4] at h
   rw [if_pos h4]
   exact hlpB_nil h
  ·rw [if_neg h4]
theorem ndP_rgt (n a:Nat) (x:Nat→UInt8) (V:Vt) (q:Rq):(ndP n a x V q).rgt=true:=by
 unfold Rp.rgt RpB ndP
 have h:=ndE_le n a V q
 refine decide_eq_true ⟨by dsimp only; omega,by dsimp only; omega,?_⟩
 by_cases e:ndE n a V q=0
 ·left
  dsimp only
  omega
 ·right
  dsimp only
  rw [ndB_nil e]
  rfl
theorem chgK_iff {k:Int}:chgK k=true ↔ k=2∨k=5:=by unfold chgK; simp
theorem chgK_no {k:Int} (h2:k≠2) (h5:k≠5):chgK k=false:=by unfold chgK; simp [h2,h5]
theorem ndP_ok (hq:q.num < 18446744073709551616) (h:chgK q.kind=true):Nd.RpOk (ndP n a x V q):=by
 have hk:=chgK_iff.1 h
 have:=ndE_le n a V q
 refine ⟨hq,?_,by unfold ndP; dsimp only; omega,by unfold ndP; dsimp only; omega⟩
 unfold ndP ndB
 dsimp only
 rw [if_neg (by omega),if_neg (by omega)]
theorem Nd.old_none {N:Nd} (h:chgK q.kind=false):N.old q=none:=by unfold Nd.old; rw [h]; rfl
end
end Go.Proofs.YtnfcfdhlmeimhaaGreat
namespace Go.Proofs.YtnfcfdhlmeimhaaGreat
open Go.RowKit
set_option linter.unusedVariables false
set_option linter.unusedSimpArgs false
set_option maxRecDepth 20000
/-- So many cells are read. -/
structure OpI (w:World) (F:Nat→Prop) (gd:Nat) (D:Dk) (k:Nat) (wr:World):Prop where
 mp:MpAt wr w.heap.size (opn D k)
 vb:VtB wr (w.heap.size+1) gd w.heap.size
 dk:DkAt wr (fun q=>F q∧q < w.heap.size) gd D
 kp:Kp No w wr
theorem OpI.no {w wr w1:World} {F:Nat→Prop} {gd k:Nat} {D:Dk} (h:OpI w F gd D k wr) (hk:Kp No wr w1):OpI w F gd D k w1:=⟨h.mp.no hk,h.vb.no hk,h.dk.no hk,h.kp.trans' hk⟩
def VoPost (w:World) (F:Nat→Prop) (gd:Nat) (D:Dk) (e:Ending) (w1:World):Prop :=
 ∃ g b,e=.returned (.tuple #[.pointer (some ⟨g,0,none⟩),.int .i64 0])∧w.heap.size≤g∧w.heap.size≤b∧VtR w1 (Up F w) g gd b (Vt.opened D)∧Kp No w w1
set_option maxHeartbeats 4000000 in
theorem vopen_any {w:World} {F:Nat→Prop} {gd:Nat} {D:Dk} (h:DkAt w F gd D):Calls Tryz.prog 67 #[.pointer (some ⟨gd,0,none⟩)] w (VoPost w F gd D):=by
 have hok:=h.ok
 have HOK:=hide hok
 have hmm:=@run_makeMap Tryz.prog
 have hI0:OpI w F gd D 0 ((w.alloc (.map #[] 0)).alloc (.cells #[.pointer (some ⟨gd,0,none⟩),.map (some w.heap.size)] 126)):=by
  have e:=VtB.new (w.alloc (.map #[] 0)) gd w.heap.size
  rw [World.size_alloc] at e
  have k1:=Kp.alloc No w (.map #[] 0)
  have k2:=Kp.alloc No (w.alloc (.map #[] 0)) (.cells #[.pointer (some ⟨gd,0,none⟩),.map (some w.heap.size)] 126)
  exact ⟨(MpAt.new w).no k2,e,(h.lt.no k1).no k2,k1.trans' k2⟩
 have HI0:=hide hI0
 clear hok h hI0
 go_enter Tryz.func67,Tryz.ntmps67
 go_wp2_with fail
 refine (plen_any HI0.out.dk).mono ?_
 rintro e w1 ⟨rfl,hk1⟩
 have hI1:=HI0.out.no hk1
 obtain ⟨n,hn⟩:∃ n,n=D.cells.length:=⟨_,rfl⟩
 rw [← hn]
 have HN:=hide hn
 clear hn hmm hk1
 have hn1:n≤1024:=by rw [HN.out]; exact HOK.out.n1
 go_wp2_with fail
 go_loopw [23] (fun iv wr=>∃ k:Nat,k≤n∧iv=.int .i64 (k:Int)∧OpI w F gd D k wr) (fun iv _=>n - (intOf iv).toNat)
 case atStart=>exact ⟨0,by omega,rfl,hI1⟩
 case round =>
  clear hI1
  obtain ⟨k,hkn,rfl,hI⟩:=hrel
  by_cases hlt:k < n
  ·have hkz:(k:Int) < n:=by omega
   have HI:=hide hI
   clear hI
   rename World=>wr
   obtain ⟨rb,hrb⟩:∃ r,r=D.rd (k:Int):=⟨_,rfl⟩
   have HRB:=hide hrb
   have hlen:rb.length≤4096:=by rw [hrb]; exact Nat.le_trans (HOK.out.rd_le _) HOK.out.s1
   have HLEN:=hide hlen
   clear hrb hlen
   go_wp2_with fail
   refine (pread_any HI.out.dk (k:Int)).mono ?_
   rintro e w2 ⟨A2,n2,c2,rfl,ho2,hk2⟩
   rw [← HRB.out] at ho2
   have hl2:=hide ho2.len
   go_wp2_with fail
   refine (opened_any ho2.bts (own_cap ho2) (by have:=hl2.out; have:=HLEN.out; omega)).mono ?_
   rintro e w3 ⟨A3,n3,c3,rfl,ho3,hk3⟩
   have hI3:=hide ((HI.out.no hk2).no hk3)
   clear ho2 ho3 hl2 HI hk2 hk3
   obtain ⟨s,hs⟩:∃ s,s=rdS rb:=⟨_,rfl⟩
   obtain ⟨er,her⟩:∃ er,er=rdE rb:=⟨_,rfl⟩
   have hsl:s < N96:=hs ▸ rdS_lt rb
   rw [← hs,← her]
   unfold shV
   have HER:=hide her
   have HSS:=hide hs
   have HSL:=hide hsl
   clear hs her hsl
   have hbx:=Bx4.new w3 (.int .u32 (cO s:Int)) (.int .u16 (cS s:Int)) (.int .u16 (cL s:Int)) (.int .u32 (cG s:Int))
   have hI4:=hide (hI3.out.no (Kp.alloc No w3 (.cells #[.int .u32 (cO s:Int),.int .u16 (cS s:Int),.int .u16 (cL s:Int),.int .u32 (cG s:Int)] 53)))
   have HBX:=hide hbx
   clear hbx hI3
   by_cases e0:er=0
   ·subst e0
    have hhas:=vhas_any hI4.out.vb hI4.out.mp HSL.out
    unfold shV at hhas
    rcases hkk:kn (opn D k) s with _ | _
    ·rw [hkk] at hhas
     have hnext:opn D (k+1)=opn D k ++ [(k,s)]:=by rw [HSS.out,HRB.out]; exact opn_hit ⟨by rw [← HRB.out,← HER.out],by rw [← HRB.out,← HSS.out]; exact hkk⟩
     have HNX:=hide hnext
     have HKN:=hide hkk
     have HK1:Hid (k < 1024):=hide (by omega)
     have HKU:Hid (usd (opn D k) k=false):=hide (by
      cases hu:usd (opn D k) k
      ·rfl
      ·obtain ⟨p,hp,e⟩:=usd_iff.1 hu
       have:=(opn_ok D k).cl p hp
       omega)
     clear hnext hkk
     obtain ⟨p0,p1,p2,p3⟩:=HBX.out.cell
     go_wp2_with fail
     refine hhas.mono ?_
     rintro e w4 ⟨rfl,hk4⟩
     clear hhas
     have hI5:=hI4.out.no hk4
     have c5:=hI5.vb.c1
     obtain ⟨q0,q1,q2,q3⟩:=(HBX.out.keep hk4 (fun f=>f)).cell
     have HI5:=hide hI5
     clear hI5 p0 p1 p2 p3
     go_wp2_with fail
     refine wp_region_noPanic ?_
     refine LastR.begin (S:=fun w'=>w'.cell? ⟨w.heap.size+1,1,none⟩=some (.map (some w.heap.size))∧w'.cell? ⟨w3.heap.size,0,none⟩=some (.int .u32 ((cO s):Int))∧w'.cell? ⟨w3.heap.size,1,none⟩=some (.int .u16 ((cS s):Int))∧w'.cell? ⟨w3.heap.size,2,none⟩=some (.int .u16 ((cL s):Int))∧w'.cell? ⟨w3.heap.size,3,none⟩=some (.int .u32 ((cG s):Int))∧MpAt w' w.heap.size (opn D k)) (t:=6) (by kernel_rfl) (⟨c5,q0,q1,q2,q3,HI5.out.mp⟩) (fun hHeld=>?_)
     refine LastR.take (i:=0) (v:=?v0) (oi:=?o0) ?h0 (by kernel_rfl) (by kernel_rfl) (by kernel_rfl) (by kernel_rfl) (fun _ _ _ h=>h) (Or.inl ⟨?w0,?y0⟩) hHeld ?r0
     case h0=>simp only [gA0,gA1,gA2]; rfl
     case w0=>rfl
     case y0=>intro w hSw; (try dsimp only at hSw); go_simp; (try with_reducible rfl)
     simp only [Act.put,sA0,sA1,sA2]
     refine LastR.take (i:=1) (v:=?v1) (oi:=?o1) ?h1 (by kernel_rfl) (by kernel_rfl) (by kernel_rfl) (by kernel_rfl) (fun _ _ _ h=>h) (Or.inl ⟨?w1,?y1⟩) hHeld ?r1
     case h1=>simp only [gA0,gA1,gA2]; rfl
     case w1=>rfl
     case y1=>intro w hSw; (try dsimp only at hSw); go_simp; (try with_reducible rfl)
     simp only [Act.put,sA0,sA1,sA2]
     refine LastR.take (i:=2) (v:=?v2) (oi:=?o2) ?h2 (by kernel_rfl) (by kernel_rfl) (by kernel_rfl) (by kernel_rfl) (fun _ _ _ h=>h) (Or.inl ⟨?w2,?y2⟩) hHeld ?r2
     case h2=>simp only [gA0,gA1,gA2]; rfl
     case w2=>rfl
     case y2=>intro w hSw; (try dsimp only at hSw); go_simp; (try with_reducible rfl)
     simp only [Act.put,sA0,sA1,sA2]
     refine LastR.take (i:=3) (v:=?v3) (oi:=?o3) ?h3 (by kernel_rfl) (by kernel_rfl) (by kernel_rfl) (by kernel_rfl) (fun _ _ _ h=>h) (Or.inl ⟨?w3,?y3⟩) hHeld ?r3
     case h3=>simp only [gA0,gA1,gA2]; rfl
     case w3=>rfl
     case y3=>intro w hSw; (try dsimp only at hSw); go_simp; (try with_reducible rfl)
     simp only [Act.put,sA0,sA1,sA2]
     refine LastR.take (i:=4) (v:=?v4) (oi:=?o4) ?h4 (by kernel_rfl) (by kernel_rfl) (by kernel_rfl) (by kernel_rfl) (fun _ _ _ h=>h) (Or.inl ⟨?w4,?y4⟩) hHeld ?r4
     case h4=>simp only [gA0,gA1,gA2]; rfl
     case w4=>rfl
     case y4=>intro w hSw; (try dsimp only at hSw); go_simp; (try with_reducible rfl)
     simp only [Act.put,sA0,sA1,sA2]
     refine LastR.take (i:=5) (v:=?v5) (oi:=?o5) ?h5 (by kernel_rfl) (by kernel_rfl) (by kernel_rfl) (by kernel_rfl) (fun _ _ _ h=>h) (Or.inl ⟨?w5,?y5⟩) hHeld ?r5
     case h5=>simp only [gA0,gA1,gA2]; rfl
     case w5=>rfl
     case y5=>intro w hSw; (try dsimp only at hSw); go_simp; (try with_reducible rfl)
     simp only [Act.put,sA0,sA1,sA2]
     refine LastR.run (i:=6) (o:=?o6) ?h6 (by kernel_rfl) (fun K hK=>?s6)
     case h6=>simp only [gA0,gA1,gA2]; rfl
     refine step_mput (c:=k) (s:=s) (L:=opn D k) (b:=w.heap.size) rfl _ _ _ rfl rfl rfl rfl hHeld.2.2.2.2.2 HSL.out HKN.out HK1.out HKU.out ?_
     intro w9 hm9 hk9
     refine hK.out _ _ (fun h=>absurd rfl h) (fun _=>?_)
     clear hK K
     try simp only [Act.put,sA0,sA1,sA2]
     refine LastR.done (by kernel_rfl) ?_ _
     refine NoPanic.normal ?_
     have hnb:¬ (w.heap.size+1=w.heap.size):=by omega
     have hI9:OpI w F gd D (k+1) w9:=⟨by rw [HNX.out]; exact hm9,(HI5.out.vb.no (Kp.refl No w4).drew).keep hk9 hnb,(HI5.out.dk.no (Kp.refl No w4).drew).keep hk9 (fun q _ hf e=>by have:=hf.2; have e':q=w.heap.size:=e; omega),HI5.out.kp.drew.trans (hk9.mono fun q hq=>.inr (by subst hq; exact Nat.le_refl _))⟩
     have HI9:=hide hI9
     clear hI9 hm9 hk9 q0 q1 q2 q3 c5
     go_wp2_with fail
     go_round
     case rel=>exact ⟨k+1,by omega,by go_num,HI9.out⟩
     case measure=>simp [intOf]; omega
    ·rw [hkk] at hhas
     have hnext:opn D (k+1)=opn D k:=opn_miss (by rw [← HRB.out,← HSS.out,hkk]; simp)
     have HNX:=hide hnext
     clear hnext hkk
     obtain ⟨p0,p1,p2,p3⟩:=HBX.out.cell
     go_wp2_with fail
     refine hhas.mono ?_
     rintro e w4 ⟨rfl,hk4⟩
     clear hhas
     have hI5:=hI4.out.no hk4
     have HI9:Hid (OpI w F gd D (k+1) w4):=hide ⟨by rw [HNX.out]; exact hI5.mp,hI5.vb,hI5.dk,hI5.kp⟩
     clear hI5 p0 p1 p2 p3 hk4
     go_wp2_with fail
     go_round
     case rel=>exact ⟨k+1,by omega,by go_num,HI9.out⟩
     case measure=>simp [intOf]; omega
   ·have hne:((er:Int) == 0)=false:=by simp; omega
    have hnext:opn D (k+1)=opn D k:=opn_miss (by rw [← HRB.out,← HER.out]; simp [e0])
    have HI9:Hid (OpI w F gd D (k+1) (w3.alloc (.cells #[.int .u32 (cO s:Int),.int .u16 (cS s:Int),.int .u16 (cL s:Int),.int .u32 (cG s:Int)] 53))):=hide ⟨by rw [hnext]; exact hI4.out.mp,hI4.out.vb,hI4.out.dk,hI4.out.kp⟩
    clear hnext
    go_wp2_with fail
    go_round
    case rel=>exact ⟨k+1,by omega,by go_num,HI9.out⟩
    case measure=>simp [intOf]; omega
  ·have hkz:¬ (k:Int) < n:=by omega
   obtain rfl:k=n:=by omega
   have HI:=hide hI
   clear hI
   go_wp2_with fail
   go_ret2
   have hI:=HI.out
   refine ⟨w.heap.size+1,w.heap.size,rfl,Nat.le_succ _,Nat.le_refl _,⟨hI.vb,hI.dk.mono fun q hq=>⟨.inl hq.1,by omega,by omega⟩,?_,.inr (Nat.le_succ _),.inr (Nat.le_refl _),Vt.opened_ok HOK.out⟩,hI.kp⟩
   show MpAt _ _ (opn D D.cells.length)
   rw [← HN.out]
   exact hI.mp
end Go.Proofs.YtnfcfdhlmeimhaaGreat
namespace Go.Proofs.YtnfcfdhlmeimhaaGreat
open Go.RowKit
set_option linter.unusedVariables false
set_option linter.unusedSimpArgs false
set_option maxRecDepth 20000
/-- What framed comes to. -/
def FrdPost (w:World) (bs:List UInt8) (e:Ending) (w1:World):Prop:=∃ A n c,e=.returned (.slice A n c)∧Own w1 w.heap.size 5 (.slice A n c) bs∧Kp No w w1
set_option maxHeartbeats 2000000 in
theorem framed_any {w:World} {s n c:Nat} {A:Option Addr} {b:List UInt8} (hs:s < N96) (hb:Bts w (.slice A n c) b) (hl:b.length≤800000000) :
  Calls Tryz.prog 78 #[shV s,.slice A n c] w (FrdPost w (if b.length≤65524 then frV s b else [])):=by
 generalize hR:(if b.length≤65524 then frV s b else [])=R
 have HRR:=hide hR
 clear hR
 have HL:=hide hl
 have i0:=cO_lt hs
 have i1:=cS_lt s
 have i2:=cL_lt s
 have i3:=cG_lt s
 have k0:Kp No w (w.alloc (.cells #[.int .u32 (cO s:Int),.int .u16 (cS s:Int),.int .u16 (cL s:Int),.int .u32 (cG s:Int)] 53)):=Kp.alloc No w _
 have a0:=(WrAt.new (w.alloc (.cells #[.int .u32 (cO s:Int),.int .u16 (cS s:Int),.int .u16 (cL s:Int),.int .u32 (cG s:Int)] 53))).mono (T:=Fr w.heap.size) fun k hk=>by subst hk; rw [World.size_alloc]; exact Nat.le_succ _
 rw [World.size_alloc] at a0
 have k1:=k0.trans' (Kp.alloc No (w.alloc (.cells #[.int .u32 (cO s:Int),.int .u16 (cS s:Int),.int .u16 (cL s:Int),.int .u32 (cG s:Int)] 53)) (.cells #[.slice none 0 0] 134))
 have HA:=hide a0
 have HK:=hide k1
 have HFR:Hid (frV s b=frm 1 (shardB (cO s) (cS s) (cL s) (cG s) ++ b)):=hide rfl
 have HSL:=hide (shB_len s)
 have hd:shB s=shardB (cO s) (cS s) (cL s) (cG s):=rfl
 rw [hd] at HSL
 clear a0 k0 k1 hl hd
 unfold shV
 generalize cO s=o0 at *
 generalize cS s=o1 at *
 generalize cL s=o2 at *
 generalize cG s=o3 at *
 go_enter Tryz.func78,Tryz.ntmps78
 go_wp2_with fail
 refine (shard_any (F:=Fr w.heap.size) (bs:=[]) o0 o1 o2 o3 i0 i1 i2 i3 HA.out (by simp)).mono ?_
 rintro e w1 hp
 obtain rfl:=hp.1
 have k1:=HK.out.thenFr hp.2.2
 have a1:=hp.again (fun k hk'=>Nat.le_trans (HK.out.size) hk')
 clear hp
 rw [List.nil_append] at a1
 go_wp2_with fail
 refine (raw_any (F:=Fr w.heap.size) a1 (hb.no k1) (by have:=HSL.out; have:=HL.out; omega)).mono ?_
 rintro e w2 hp
 obtain rfl:=hp.1
 have k2:=k1.thenFr hp.2.2
 have a2:=hp.again (fun k hk'=>Nat.le_trans (k1.size) hk')
 clear hp a1
 go_wp2_with fail
 refine (bytes_any a2 (by rw [List.length_append,HSL.out]; have:=HL.out; omega)).mono ?_
 rintro e w3 ⟨A4,n4,c4,rfl,ho4,hk4⟩
 have k3:=k2.trans' hk4
 clear a2
 have hn4:Hid (n4=12+b.length):=by have:=ho4.len; rw [List.length_append,HSL.out] at this; exact this
 by_cases hle:b.length≤65524
 ·have hfr:=sfr_yes (w:=w3) (k:=1) (c:=c4) ho4.bts (by omega) (by have:=hn4.out; omega)
  rw [← HFR.out,show frV s b=R by rw [← HRR.out,if_pos hle]] at hfr
  clear HFR HRR
  go_wp2_with fail
  refine hfr.mono ?_
  rintro e w4 ⟨A5,n5,c5,rfl,ho5,hk5⟩
  clear hfr
  have z:=k3.size
  have HO:=hide (ho5.rebase fun j hj=>Nat.le_trans z (ho5.ge j hj))
  have HK5:=hide (k3.trans' hk5)
  clear ho5 hk5 k3 z
  go_wp2
  go_ret
  exact ⟨A5,n5,c5,rfl,HO.out,HK5.out⟩
 ·have hfr:=sfr_no (w:=w3) (k:=1) (A:=A4) (c:=c4) (n:=n4) (by have:=hn4.out; omega)
  obtain rfl:[]=R:=by rw [← HRR.out,if_neg hle]
  clear HFR HRR
  go_wp2_with fail
  refine hfr.mono ?_
  rintro e w4 ⟨rfl,rfl⟩
  go_wp2
  go_ret
  exact ⟨none,0,0,rfl,Own.nil _ _ _,k3⟩
end Go.Proofs.YtnfcfdhlmeimhaaGreat
namespace Go.Proofs.YtnfcfdhlmeimhaaGreat
open Go.RowKit
set_option linter.unusedVariables false
set_option linter.unusedSimpArgs false
set_option maxRecDepth 20000
/-- The taken cells so far. -/
structure TkI (w:World) (b r s n:Nat) (L:List (Nat × Nat)) (wr:World):Prop where
 ex:∃ dn left,RgAt wr b r L dn left∧BRow wr s n (usd dn)
 kp:Kp No w wr
theorem usd_snoc (dn:List (Nat × Nat)) (c s j:Nat):usd (dn ++ [(c,s)]) j=if j=c then true else usd dn j:=by
 unfold usd
 rw [List.any_append]
 by_cases e:j=c
 ·subst e; simp
 ·have:(c == j)=false:=by simp; omega
  simp [e,this]
theorem usd_perm {a b:List (Nat × Nat)} (h:a.Perm b):usd a=usd b:=by
 funext j
 unfold usd
 exact h.any_eq
theorem left_same {w w1:World} {b r:Nat} {L dn left:List (Nat × Nat)} {s c:Nat} {u:Value} (h:RgAt w b r L dn left) (h1:b≠s) (h2:r≠s):(w.setCell ⟨s,c,none⟩ u).rangeLeft b r=w.rangeLeft b r:=by
 unfold World.rangeLeft
 rw [RowKit.Below.heap_setCell _ _ _ _ h1,RowKit.Below.heap_setCell _ _ _ _ h2]
theorem free_any {w:World} {F:Nat→Prop} {g gd b:Nat} {D:Dk} {L:List (Nat × Nat)} (hb:VtB w g gd b) (hm:MpAt w b L) (hd:DkAt w F gd D) (hn:D.cells.length≤1000) (hL:KnOk D.cells.length L) :
  Calls Tryz.prog 80 #[.pointer (some ⟨g,0,none⟩)] w (CelPost w (fstZ D.cells.length (usd L))):=by
 have h0:=hb.c0
 have h1:=hb.c1
 have hbl:=hm.lt
 have HM:=hide hm
 have HC:=hide hL
 clear hb hm hL
 go_enter Tryz.func80,Tryz.ntmps80
 go_wp2_with fail
 refine (plen_any hd).mono ?_
 rintro e w1 ⟨rfl,hk1⟩
 clear hd
 obtain ⟨n,hnn⟩:∃ n,n=D.cells.length:=⟨_,rfl⟩
 rw [← hnn] at hn HC ⊢
 have hmk:=fun w=>make_bools w n (n:Int) rfl hn
 have c1:=kp_cell (kp_cell h1 hk1) (Kp.alloc No w1 (.cells (zbl n) 4))
 have m1:=(HM.out.no hk1).no (Kp.alloc No w1 (.cells (zbl n) 4))
 have k1:=hk1.trans' (Kp.alloc No w1 (.cells (zbl n) 4))
 have b1:BRow (w1.alloc (.cells (zbl n) 4)) w1.heap.size n (usd []):=⟨_,heap_alloc_new w1 _,fun j hj=>zbl_get hj⟩
 have hg1:=hk1.size
 have HNN:=hide hnn
 clear hnn h0 h1 hk1 HM
 have HB1:=hide b1
 have HM1:=hide m1
 have HK1:=hide k1
 clear b1 m1 k1
 go_wp2_with (first | (at_range; refine wpList_mrange rfl _ rfl rfl HM1.out (w1.heap.size+1) (World.size_alloc _ _).symm ?_; intro w2 hr2 hk2 hz2; go_frame))
 have hI:TkI w b (w1.heap.size+1) w1.heap.size n L w2:=⟨⟨[],L,hr2,HB1.out.no hk2⟩,HK1.out.trans' hk2⟩
 clear hr2 hk2 hz2 c1
 go_loopw [7] (fun _ wr=>TkI w b (w1.heap.size+1) w1.heap.size n L wr) (fun _ wr=>wr.rangeLeft b (w1.heap.size+1))
 case atStart=>exact hI
 case round =>
  clear hI
  obtain ⟨⟨dn,left,hr,hB⟩,hkp⟩:=hrel
  rename World=>wr
  have HB:=hide hB
  have HKP:=hide hkp
  clear hB hkp
  go_wp2_with (first | (at_next; refine wpList_mnext rfl _ rfl rfl hr ?done ?more))
  case done =>
   intro hl
   subst hl
   have hpm:=hr.pm
   rw [List.append_nil] at hpm
   have hB2:=HB.out
   rw [usd_perm hpm] at hB2
   clear hr
   go_wp2_with fail
   refine (index_any hB2 hn).mono ?_
   rintro e w' ⟨rfl,rfl⟩
   go_wp2
   go_ret
   exact ⟨ret_int (by rw [HNN.out]),HKP.out⟩
  case more =>
   intro c s w3 left' hs hc hmem hr3 hlt hk3 he
   have hcn:c < n:=HC.out.cl _ hmem
   have hne:¬ (w1.heap.size=w1.heap.size+1):=by omega
   have hB3:=HB.out.keep hk3 hne
   have fB:=hB3.frozen c
   have cB:=hB3.cell hcn
   have hcz:(c:Int) < n:=by omega
   have HLT:=hide hlt
   have HR3:=hide hr3
   have HB3:=hide hB3
   have HK3:=hide hk3
   clear hr hlt hr3 hB3 hk3
   go_wp2_with fail
   have hkS:Kp (fun q=>q=w1.heap.size) w3 (w3.setCell ⟨w1.heap.size,c,none⟩ (.bool true)):=Kp.setCell (S:=fun q=>q=w1.heap.size) (p:=⟨w1.heap.size,c,none⟩) rfl _
   have hbs:¬ (b=w1.heap.size):=fun e=>by omega
   have hrs:¬ (w1.heap.size+1=w1.heap.size):=by omega
   have hr4:=HR3.out.keep hkS hbs hrs
   go_round
   case rel =>
    refine ⟨⟨_,_,hr4,(HB3.out.set hcn).eq fun j hj=>(usd_snoc dn c s j).symm⟩,?_⟩
    exact (HKP.out.trans (HK3.out.mono fun q hq=>.inr (by subst hq; omega))).trans (hkS.mono fun q hq=>.inr (by subst hq; omega))
   case measure =>
    have e:(w3.setCell ⟨w1.heap.size,c,none⟩ (.bool true)).rangeLeft b (w1.heap.size+1)=w3.rangeLeft b (w1.heap.size+1):=left_same (w1:=w1) HR3.out hbs hrs
    rw [e]
    exact HLT.out
end Go.Proofs.YtnfcfdhlmeimhaaGreat
