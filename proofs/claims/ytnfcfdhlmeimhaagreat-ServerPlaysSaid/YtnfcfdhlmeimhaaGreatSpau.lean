/- Package wire's Request.Bytes of a request that is right, and law 15's awake, as contracts over memory; Package wire's right and Bytes of a reply, and the document's bytes, as contracts over memory; Arguments opened to cells: the document's request and reply of layer 15, by value. No condition; A node in memory: its block, its code, its vault and disk, and the replies that it remembers. -/
import Derived.Test.YtnfcfdhlmeimhaaGreatSpap
import Derived.Test.YtnfcfdhlmeimhaaGreatSpam
import Derived.Lib.SmallJoins
import Derived.Test.YtnfcfdhlmeimhaaGreatSpaq
import Derived.Test.YtnfcfdhlmeimhaaGreatSpat
import Derived.Test.YtnfcfdhlmeimhaaGreatSpal
namespace Go.Proofs.YtnfcfdhlmeimhaaGreat
open Go.RowKit
set_option linter.unusedVariables false
set_option linter.unusedSimpArgs false
set_option maxRecDepth 20000
set_option maxHeartbeats 4000000 in
theorem bytes15_any {w:World} (q:Rq) {A:Option Addr} {n c:Nat} (hf:q.Fit) (hr:q.rgt=true) (hb:Bts w (.slice A n c) q.data) (hl:n≤100000):Calls Tryz.prog 29 #[rqV q (.slice A n c)] w (OwnPost w q.bytes):=by
 have hk:=q.rgt_kind hr
 have hln:=hb.len
 have H:∀ w',Calls Tryz.prog 60 #[rqV q (.slice A n c)] w' (RtPostK w' true):=fun w'=>by
  have:=right15_any (w:=w') q A n c
  rw [hln] at this ⊢
  rwa [show RgtB q.kind q.lost q.data.length=true from hr] at this
 have HR:=hide H
 clear H
 obtain ⟨hn,hs,hlo⟩:=hf
 have z0:=cO_lt hs
 have z1:=cS_lt q.s
 have z2:=cL_lt q.s
 have z3:=cG_lt q.s
 have HB:=hide (fun w' (k:Kp No w w')=>hb.no k)
 have HE:Hid (numB q.kind.toNat 1 ++ numB q.num 8 ++ shardB (cO q.s) (cS q.s) (cL q.s) (cG q.s) ++ numB q.lost 2 ++ q.data=q.bytes):=by show _=_; simp [Rq.bytes,shB,List.append_assoc]
 have HD:Hid (q.data.length≤100000):=by show _≤_; rw [← hln]; exact hl
 have hx:=BxQ.new w 84 q (.slice A n c)
 have HX:=hide hx
 clear hx hr hb hln
 obtain ⟨num,k,s,l,data⟩:=q
 dsimp only at *
 obtain ⟨j,rfl⟩:∃ j:Nat,k=j:=⟨k.toNat,by omega⟩
 rw [Int.toNat_natCast] at HE
 have hj1:j < 18446744073709551616:=by omega
 have hj2:l < 18446744073709551616:=by omega
 have q0:IntKind.u64.wrap (j:Int)=j:=IntWalk.u64_in _ (by omega)
 have q1:IntKind.u64.wrap (l:Int)=l:=IntWalk.u64_in _ (by omega)
 clear hk hlo hs hl
 have K8:IsK 8 8:=⟨by omega,by omega⟩
 have K1:IsK 1 1:=⟨by omega,by omega⟩
 have K2:IsK 2 2:=⟨by omega,by omega⟩
 obtain ⟨b0,hb0⟩:∃ b0,b0=w.heap.size:=⟨_,rfl⟩
 have HB0:=hide hb0
 go_enter Tryz.func29,Tryz.ntmps29
 go_wp2_with fail
 refine (HR.out _).mono ?_
 rintro e w1 ⟨rfl,hk1⟩
 have X1:=HX.out.no hk1
 have K0:Kp No w w1:=(Kp.alloc No w _).trans' hk1
 have X2:=X1.no (Kp.alloc No w1 (.cells #[.slice none 0 0] 134))
 have HC:=hide X2.cells
 have hne:¬ (Fr w1.heap.size w.heap.size):=by have:=X1.lt; unfold Fr; omega
 have HN:=hide hne
 have kA:Kp No w1 (w1.alloc (.cells #[.slice none 0 0] 134)):=Kp.alloc No w1 _
 have a0:WrAt (w1.alloc (.cells #[.slice none 0 0] 134)) (Fr w1.heap.size) w1.heap.size []:=(WrAt.new w1).mono fun k hk=>by subst hk; exact Nat.le_refl _
 have HA:=hide a0
 have HK:=hide (And.intro K0 kA)
 clear X1 X2 hne a0 kA K0 hk1
 go_wp2_with fail
 go_region_held3 (fun w'=>w'.cell? ⟨w.heap.size,0,none⟩=some (.int .u64 num)∧w'.cell? ⟨w.heap.size,1,none⟩=some (.int .i64 j)∧w'.cell? ⟨w.heap.size,2,none⟩=some (.int .u32 (cO s))∧w'.cell? ⟨w.heap.size,3,none⟩=some (.int .u16 (cS s))∧w'.cell? ⟨w.heap.size,4,none⟩=some (.int .u16 (cL s))∧w'.cell? ⟨w.heap.size,5,none⟩=some (.int .u32 (cG s))∧w'.cell? ⟨w.heap.size,6,none⟩=some (.int .u16 l)∧w'.cell? ⟨w.heap.size,7,none⟩=some (.slice A n c)) (first | assumption | exact kept8 ((Kp.refl No _).drew) (fun f=>f) HC.out | go_keep)
  (first
   | (go_at_call 61; ((with_reducible refine (num_any (bs:=[]) (F:=Fr w1.heap.size) (g:=w1.heap.size) j 1 1 hj1 K1 (WrAt.drew HA.out) (by simp)).mono ?_); rintro e w2 hp2; obtain rfl:=hp2.1); have k2:=HK.out.2.drew.thenFr hp2.2.2; have a2:=hp2.again (fun k hk'=>Nat.le_trans HK.out.2.size hk'); have s2:=kept8 hp2.2.2 HN.out (by assumption))
   | (go_at_call 61; ((with_reducible refine (num_any (F:=Fr w1.heap.size) (g:=w1.heap.size) num 8 8 hn K8 a2 (by simp [numB_length])).mono ?_); rintro e w3 hp3; obtain rfl:=hp3.1); have k3:=k2.thenFr hp3.2.2; have a3:=hp3.again (fun k hk'=>Nat.le_trans k2.size hk'); have s3:=kept8 hp3.2.2 HN.out (by assumption))
   | (go_at_call 61; ((with_reducible refine (num_any (F:=Fr w1.heap.size) (g:=w1.heap.size) l 2 2 hj2 K2 a4 (by simp [numB_length,shardB])).mono ?_); rintro e w5 hp5; obtain rfl:=hp5.1); have s5:=kept8 hp5.2.2 HN.out (by assumption))
   | (go_at_call 62; ((with_reducible refine (shard_any (F:=Fr w1.heap.size) (g:=w1.heap.size) (cO s) (cS s) (cL s) (cG s) z0 z1 z2 z3 a3 (by simp [numB_length])).mono ?_); rintro e w4 hp4; obtain rfl:=hp4.1); have k4:=k3.thenFr hp4.2.2; have a4:=hp4.again (fun k hk'=>Nat.le_trans k3.size hk'); have s4:=kept8 hp4.2.2 HN.out (by assumption)))
 have k5:=k4.thenFr hp5.2.2
 have a5:=hp5.again (fun k hk'=>Nat.le_trans k4.size hk')
 have HS:=hide (kept8 (Kp.refl No _) (fun f=>f) s5)
 clear hp2 hp3 hp4 hp5 s2 s3 s4 s5 k2 k3 k4 a2 a3 a4
 obtain ⟨t0,t1,t2,t3,t4,t5,t6,t7⟩:=HS.out
 go_wp2_with fail
 refine (raw_any (F:=Fr w1.heap.size) (g:=w1.heap.size) a5 (HB.out _ (HK.out.1.trans' k5)) (by simp [numB_length,shardB]; have:=HD.out; omega)).mono ?_
 rintro e w6 hp
 obtain rfl:=hp.1
 have k6:=k5.thenFr hp.2.2
 have a6:=hp.again (fun k hk'=>Nat.le_trans k5.size hk')
 rw [List.nil_append,HE.out] at a6
 clear hp a5 t0 t1 t2 t3 t4 t5 t6 t7 HS
 go_wp2_with fail
 refine (bytes_any (g:=w1.heap.size) a6 (by rw [Rq.bytes_len]; have:=HD.out; simp; omega)).mono ?_
 rintro e w7 ⟨A7,n7,c7,rfl,ho7,hk7⟩
 have z7:=(HK.out.1.trans' k6).size
 go_wp2
 go_ret
 exact ⟨A7,n7,c7,rfl,ho7.rebase fun i hi=>Nat.le_trans z7 (ho7.ge i hi),(HK.out.1.trans' k6).trans' hk7⟩
end Go.Proofs.YtnfcfdhlmeimhaaGreat
namespace Go.Proofs.YtnfcfdhlmeimhaaGreat
open Go.RowKit
set_option linter.unusedVariables false
set_option linter.unusedSimpArgs false
set_option maxRecDepth 20000
/-- A reply's value. -/
abbrev rplV (p:Rp) (u:Value):Value:=.agg #[.int .u64 (p.num:Int),.int .i64 p.e,u]
theorem rpright_any {w:World} (p:Rp) (A:Option Addr) (n c:Nat):Calls Tryz.prog 59 #[rplV p (.slice A n c)] w (RtPostK w (RpB p.e n)):=by
 obtain ⟨num,e,data⟩:=p
 dsimp only
 by_cases hn:n=0
 ·subst hn
  by_cases h0:e < 0
  ·have hr:RpB e 0=false:=decide_eq_false (by omega)
   have HR:=hide hr.symm
   have a1:¬ (0:Int)≤e:=by omega
   clear hr
   go_enter Tryz.func59,Tryz.ntmps59
   go_wp2
   go_ret
   rw [← HR.out]
   exact ⟨rfl,Kp.alloc No w _⟩
  by_cases h1:255 < e
  ·have hr:RpB e 0=false:=decide_eq_false (by omega)
   have HR:=hide hr.symm
   have a1:(0:Int)≤e:=by omega
   have a2:¬ e≤(255:Int):=by omega
   clear hr
   go_enter Tryz.func59,Tryz.ntmps59
   go_wp2
   go_ret
   rw [← HR.out]
   exact ⟨rfl,Kp.alloc No w _⟩
  ·have hr:RpB e 0=true:=decide_eq_true (by omega)
   have HR:=hide hr.symm
   have a1:(0:Int)≤e:=by omega
   have a2:e≤(255:Int):=by omega
   clear hr
   go_enter Tryz.func59,Tryz.ntmps59
   go_wp2
   go_ret
   rw [← HR.out]
   exact ⟨rfl,Kp.alloc No w _⟩
 by_cases h0:e=0
 ·subst h0
  have hr:RpB 0 n=true:=decide_eq_true (by omega)
  have HR:=hide hr.symm
  have a1:(0:Int) < (n:Int):=by omega
  have a3:decide ((0:Int) < (n:Int))=true:=decide_eq_true a1
  clear hr
  go_enter Tryz.func59,Tryz.ntmps59
  go_wp2
  go_ret
  rw [← HR.out]
  exact ⟨rfl,Kp.alloc No w _⟩
 ·have hr:RpB e n=false:=decide_eq_false (by omega)
  have HR:=hide hr.symm
  have a1:(0:Int) < (n:Int):=by omega
  have a3:decide ((0:Int) < (n:Int))=true:=decide_eq_true a1
  have a4:(e == 0)=false:=beq_eq_false_iff_ne.2 h0
  have a5:(e != 0)=true:=bne_iff_ne.2 h0
  clear hr
  go_enter Tryz.func59,Tryz.ntmps59
  go_wp2
  go_ret
  rw [← HR.out]
  exact ⟨rfl,Kp.alloc No w _⟩
/-- Block b is three cells of the type t. -/
def Bx3 (t:TypeId) (w:World) (b:Nat) (x0 x1 x2:Value):Prop:=w.heap[b]?=some (.cells #[x0,x1,x2] t (0,0))
section
variable {t:TypeId} {w w1:World} {b:Nat} {x0 x1 x2 u:Value}
theorem Bx3.lt (h:Bx3 t w b x0 x1 x2):b < w.heap.size:=(Array.getElem?_eq_some_iff.1 h).1
theorem Bx3.keep {S:Nat→Prop} (h:Bx3 t w b x0 x1 x2) (hk:Kp S w w1) (hb:¬ S b):Bx3 t w1 b x0 x1 x2:=(hk.block b h.lt hb).trans h
theorem Bx3.no (h:Bx3 t w b x0 x1 x2) (hk:Kp No w w1):Bx3 t w1 b x0 x1 x2:=h.keep hk fun f=>f
theorem Bx3.fz (h:Bx3 t w b x0 x1 x2) (j:Nat):w.frozen? ⟨b,j,none⟩=false:=frozen_of_row w b j _ _ h
theorem Bx3.new (w:World) (t:TypeId) (x0 x1 x2:Value):Bx3 t (w.alloc (.cells #[x0,x1,x2] t)) w.heap.size x0 x1 x2:=heap_alloc_new w _
theorem Bx3.cell (h:Bx3 t w b x0 x1 x2):w.cell? ⟨b,0,none⟩=some x0∧w.cell? ⟨b,1,none⟩=some x1∧w.cell? ⟨b,2,none⟩=some x2:=by
 refine ⟨?_,?_,?_⟩ <;> (rw [cell_of_row w b _ _ _ _ h]; rfl)
theorem Bx3.set0 (h:Bx3 t w b x0 x1 x2) (u:Value):Bx3 t (w.setCell ⟨b,0,none⟩ u) b u x1 x2:=heap_setCell_same w b 0 _ t u h
theorem Bx3.set1 (h:Bx3 t w b x0 x1 x2) (u:Value):Bx3 t (w.setCell ⟨b,1,none⟩ u) b x0 u x2:=heap_setCell_same w b 1 _ t u h
theorem Bx3.set2 (h:Bx3 t w b x0 x1 x2) (u:Value):Bx3 t (w.setCell ⟨b,2,none⟩ u) b x0 x1 u:=heap_setCell_same w b 2 _ t u h
theorem Bx3.all (h:Bx3 t w b x0 x1 x2) (u0 u1 u2:Value):Bx3 t (((w.setCell ⟨b,0,none⟩ u0).setCell ⟨b,1,none⟩ u1).setCell ⟨b,2,none⟩ u2) b u0 u1 u2:=((h.set0 u0).set1 u1).set2 u2
theorem kp3 {S:Nat→Prop} (w:World) (b:Nat) (u0 u1 u2:Value) (hb:S b):Kp S w (((w.setCell ⟨b,0,none⟩ u0).setCell ⟨b,1,none⟩ u1).setCell ⟨b,2,none⟩ u2) :=
 ((Kp.setCell (p:=⟨b,0,none⟩) hb u0).trans' (Kp.setCell (p:=⟨b,1,none⟩) hb u1)).trans' (Kp.setCell (p:=⟨b,2,none⟩) hb u2)
end
theorem rows3 {w1 w2:World} {b1 b2:Nat} {v1 v2 v3:Value} {x1 x2 x3:List UInt8} (h1:Own w1 b1 5 v1 x1) (h2:Own w2 b2 5 v2 x2) (h3:Bts w2 v3 x3) (k2:Kp No w1 w2):RowsAt (w2.alloc (.cells #[v1,v2,v3] 54)) w2.heap.size [v1,v2,v3] [x1,x2,x3]:=by
 refine RowsAt.new w2 _ _ rfl ?_
 intro j v bs hj hb
 match j,hj,hb with
 | 0,hj,hb =>
  simp at hj hb
  subst hj hb
  exact (h1.no k2).bts
 | 1,hj,hb =>
  simp at hj hb
  subst hj hb
  exact h2.bts
 | 2,hj,hb =>
  simp at hj hb
  subst hj hb
  exact h3
 | j+3,hj,_=>simp at hj
theorem keptP {W w1:World} {b:Nat} {x0 x1 x2:Value} {S:Nat→Prop} (hk:Kp S W w1) (hb:¬ S b) (h:W.cell? ⟨b,0,none⟩=some x0∧W.cell? ⟨b,1,none⟩=some x1∧W.cell? ⟨b,2,none⟩=some x2) :
  w1.cell? ⟨b,0,none⟩=some x0∧w1.cell? ⟨b,1,none⟩=some x1∧w1.cell? ⟨b,2,none⟩=some x2:=⟨hk.cell h.1 hb,hk.cell h.2.1 hb,hk.cell h.2.2 hb⟩
set_option maxHeartbeats 4000000 in
theorem rpbytes_any {w:World} (p:Rp) {A:Option Addr} {n c:Nat} (hn:p.num < 18446744073709551616) (hr:p.rgt=true) (hb:Bts w (.slice A n c) p.data) (hl:n≤100000):Calls Tryz.prog 47 #[rplV p (.slice A n c)] w (OwnPost w p.bytes):=by
 have hk:=p.rgt_e hr
 have HL:=hide hb.len
 have HB:=hide (fun w' (k:Kp No w w')=>hb.no k)
 have HE:Hid ([numB p.num 8,numB p.e.toNat 1,p.data].flatten=p.bytes):=by show _=_; simp [Rp.bytes]
 obtain ⟨num,e,data⟩:=p
 dsimp only at *
 obtain ⟨j,rfl⟩:∃ j:Nat,e=j:=⟨e.toNat,by omega⟩
 rw [Int.toNat_natCast] at HE
 have hj1:j < 18446744073709551616:=by omega
 have q0:IntKind.u64.wrap (j:Int)=j:=IntWalk.u64_in _ (by omega)
 have HD:Hid (data.length≤100000):=by show _≤_; rw [← HL.out]; exact hl
 clear hr hb hk hl HL
 have HX:=hide (Bx3.new w 118 (.int .u64 num) (.int .i64 j) (.slice A n c)).cell
 have K8:IsK 8 8:=⟨by omega,by omega⟩
 have K1:IsK 1 1:=⟨by omega,by omega⟩
 go_enter Tryz.func47,Tryz.ntmps47
 go_wp2_with fail
 go_region_held3 (fun w'=>w'.cell? ⟨w.heap.size,0,none⟩=some (.int .u64 num)∧w'.cell? ⟨w.heap.size,1,none⟩=some (.int .i64 j)∧w'.cell? ⟨w.heap.size,2,none⟩=some (.slice A n c)) (first | assumption | exact keptP ((Kp.refl No _).drew) (fun f=>f) HX.out | go_keep)
  (first
   | (go_at_call 40; ((with_reducible refine (rnum_any num 8 8 hn K8).mono ?_); rintro e w1 ⟨A1,n1,c1,rfl,ho1,hk1⟩); have s1:=keptP hk1 (fun f=>f) (by assumption))
   | (go_at_call 40; ((with_reducible refine (rnum_any j 1 1 hj1 K1).mono ?_); rintro e w2 ⟨A2,n2,c2,rfl,ho2,hk2⟩); have s2:=keptP hk2 (fun f=>f) (by assumption))
   | (go_at_call 39; ((with_reducible refine (join_any (n:=3) (rows3 ho1 ho2 (HB.out _ ((Kp.alloc No w _).drew.trans' (hk1.trans' hk2))) hk2) rfl (by simp) (by simp [numB_length]; have:=HD.out; omega)).mono ?_); rintro e w5 ⟨A5,n5,c5,rfl,ho5,hk5⟩); have s5:=keptP (hk2.trans ((Kp.alloc _ _ _).trans (hk5.of_no _))) (fun f=>f) (by assumption)))
 go_wp2
 go_ret
 have k5:Kp No w w5:=(Kp.alloc No w _).drew.trans' (hk1.trans' (hk2.trans' ((Kp.alloc No w2 _).trans' hk5)))
 rw [HE.out] at ho5
 refine ⟨A5,n5,c5,rfl,ho5.rebase fun k hk=>?_,k5⟩
 have a1:=ho5.ge k hk
 have a2:=((Kp.alloc No w _).drew.trans' (hk1.trans' hk2)).size
 simp at a1
 omega
set_option maxHeartbeats 4000000 in
theorem pbytes_any {w:World} (p:Rp) {A:Option Addr} {n c:Nat} (hn:p.num < 18446744073709551616) (hr:p.rgt=true) (hb:Bts w (.slice A n c) p.data) (hl:n≤100000):Calls Tryz.prog 49 #[rplV p (.slice A n c)] w (OwnPost w p.bytes):=by
 have hk:=p.rgt_e hr
 have hln:=hb.len
 have H:∀ w',Calls Tryz.prog 59 #[rplV p (.slice A n c)] w' (RtPostK w' true):=fun w'=>by
  have:=rpright_any (w:=w') p A n c
  rw [hln] at this ⊢
  rwa [show RpB p.e p.data.length=true from hr] at this
 have HR:=hide H
 clear H
 have HB:=hide (fun w' (k:Kp No w w')=>hb.no k)
 have HE:Hid (numB p.num 8 ++ numB p.e.toNat 1 ++ p.data=p.bytes):=by show _=_; simp [Rp.bytes]
 have HD:Hid (p.data.length≤100000):=by show _≤_; rw [← hln]; exact hl
 have hx:=Bx3.new w 81 (.int .u64 (p.num:Int)) (.int .i64 p.e) (.slice A n c)
 have HX:=hide hx
 clear hx hr hb hln
 obtain ⟨num,e,data⟩:=p
 dsimp only at *
 obtain ⟨j,rfl⟩:∃ j:Nat,e=j:=⟨e.toNat,by omega⟩
 rw [Int.toNat_natCast] at HE
 have hj1:j < 18446744073709551616:=by omega
 have q0:IntKind.u64.wrap (j:Int)=j:=IntWalk.u64_in _ (by omega)
 clear hk hl
 have K8:IsK 8 8:=⟨by omega,by omega⟩
 have K1:IsK 1 1:=⟨by omega,by omega⟩
 go_enter Tryz.func49,Tryz.ntmps49
 go_wp2_with fail
 refine (HR.out _).mono ?_
 rintro e w1 ⟨rfl,hk1⟩
 have X1:=HX.out.no hk1
 have K0:Kp No w w1:=(Kp.alloc No w _).trans' hk1
 have X2:=X1.no (Kp.alloc No w1 (.cells #[.slice none 0 0] 134))
 have HC:=hide X2.cell
 have hne:¬ (Fr w1.heap.size w.heap.size):=by have:=X1.lt; unfold Fr; omega
 have HN:=hide hne
 have kA:Kp No w1 (w1.alloc (.cells #[.slice none 0 0] 134)):=Kp.alloc No w1 _
 have a0:WrAt (w1.alloc (.cells #[.slice none 0 0] 134)) (Fr w1.heap.size) w1.heap.size []:=(WrAt.new w1).mono fun k hk=>by subst hk; exact Nat.le_refl _
 have HA:=hide a0
 have HK:=hide (And.intro K0 kA)
 clear X1 X2 hne a0 kA K0 hk1
 go_wp2_with fail
 go_region_held3 (fun w'=>w'.cell? ⟨w.heap.size,0,none⟩=some (.int .u64 num)∧w'.cell? ⟨w.heap.size,1,none⟩=some (.int .i64 j)∧w'.cell? ⟨w.heap.size,2,none⟩=some (.slice A n c)) (first | assumption | exact keptP ((Kp.refl No _).drew) (fun f=>f) HC.out | go_keep)
  (first
   | (go_at_call 61; ((with_reducible refine (num_any (bs:=[]) (F:=Fr w1.heap.size) (g:=w1.heap.size) num 8 8 hn K8 (WrAt.drew HA.out) (by simp)).mono ?_); rintro e w2 hp2; obtain rfl:=hp2.1); have k2:=HK.out.2.drew.thenFr hp2.2.2; have a2:=hp2.again (fun k hk'=>Nat.le_trans HK.out.2.size hk'); have s2:=keptP hp2.2.2 HN.out (by assumption))
   | (go_at_call 61; ((with_reducible refine (num_any (F:=Fr w1.heap.size) (g:=w1.heap.size) j 1 1 hj1 K1 a2 (by simp [numB_length])).mono ?_); rintro e w3 hp3; obtain rfl:=hp3.1); have k3:=k2.thenFr hp3.2.2; have a3:=hp3.again (fun k hk'=>Nat.le_trans k2.size hk'); have s3:=keptP hp3.2.2 HN.out (by assumption))
   | (go_at_call 63; ((with_reducible refine (raw_any (F:=Fr w1.heap.size) (g:=w1.heap.size) a3 (HB.out _ (HK.out.1.trans' k3)) (by simp [numB_length]; have:=HD.out; omega)).mono ?_); rintro e w6 hp6; obtain rfl:=hp6.1); have k6:=k3.thenFr hp6.2.2; have a6:=hp6.again (fun k hk'=>Nat.le_trans k3.size hk'); have s6:=keptP hp6.2.2 HN.out (by assumption); rw [List.nil_append,HE.out] at a6)
   | (go_at_call 64; ((with_reducible refine (bytes_any (g:=w1.heap.size) a6 (by rw [Rp.bytes_len]; have:=HD.out; simp; omega)).mono ?_); rintro e w7 ⟨A7,n7,c7,rfl,ho7,hk7⟩); have s7:=keptP hk7 (fun f=>f) (by assumption)))
 have z7:=(HK.out.1.trans' k6).size
 go_wp2
 go_ret
 exact ⟨A7,n7,c7,rfl,ho7.rebase fun i hi=>Nat.le_trans z7 (ho7.ge i hi),(HK.out.1.trans' k6).trans' hk7⟩
end Go.Proofs.YtnfcfdhlmeimhaaGreat
namespace Go.Proofs.YtnfcfdhlmeimhaaGreat
open Go.ChangeShapes Go.WideShapes Go.RowKit Go.Deep Go.Joins
set_option linter.unusedVariables false
set_option maxRecDepth 100000
theorem cells_rqv:Tryz.prog.cellsOf 56=8:=by kernel_rfl
theorem cells_u64w:Tryz.prog.cellsOf 44=1:=by kernel_rfl
theorem cells_u16w:Tryz.prog.cellsOf 51=1:=by kernel_rfl
theorem cells_n64w:Tryz.prog.cellsOf 3=1:=by kernel_rfl
theorem cells_slcw:Tryz.prog.cellsOf 54=1:=by kernel_rfl
section
variable {H:Type} {enc:TypeId × Value→H} {w:World} {base:Nat} {spare:Nat→Bool} {held:Bool} {fuel:Nat} {v:Value}
theorem open_rq {cs:List Value} {y:DataW H × List MemPlace} (h:DataW.trod enc Tryz.prog w base spare held fuel 56 cs=some y):∃ q u,q.Fit∧.agg cs.toArray=rqV q u∧Bts w u q.data:=by
 obtain ⟨n,hl,hf⟩:=open_parts Tryz.underlying56 h
 rw [cells_rqv] at hl
 match cs,hl with
 | [v0,v1,v2,v3,v4,v5,v6,v7],_ =>
  obtain ⟨y0,h0⟩:=hf 0 44 0 _ rfl cells_u64w
  obtain ⟨y1,h1⟩:=hf 1 3 1 _ rfl cells_n64w
  obtain ⟨y2,h2⟩:=hf 2 53 2 _ rfl sh_cells
  obtain ⟨y3,h3⟩:=hf 3 51 6 _ rfl cells_u16w
  obtain ⟨y4,h4⟩:=hf 4 54 7 _ rfl cells_slcw
  simp only [List.drop_zero,List.drop_succ_cons,List.take_succ_cons,List.take_zero] at h0 h1 h2 h3 h4
  obtain ⟨a,e0,_,w0⟩:=DataW.trod_int Tryz.underlying44 h0
  obtain ⟨b,e1,_,w1⟩:=DataW.trod_int Tryz.underlying3 h1
  obtain ⟨s,hs,e2⟩:=open_sh h2
  obtain ⟨c,e3,_,w3⟩:=DataW.trod_int Tryz.underlying51 h3
  obtain ⟨A,m,d,bs,e4,⟨hb,hr⟩,hm⟩:=open_btc h4
  simp only [List.cons.injEq,and_true] at e0 e1 e3
  simp only [shV,Value.agg.injEq,Array.mk.injEq,List.cons.injEq,and_true] at e2
  obtain ⟨f1,f2,f3,f4⟩:=e2
  subst e0 e1 e3 e4 f1 f2 f3 f4
  have b0:=bounds_u64 w0
  obtain ⟨a0,rfl⟩:∃ a0:Nat,a=a0:=⟨a.toNat,by omega⟩
  obtain ⟨c0,rfl,b3⟩:=of_u16 w3
  exact ⟨⟨a0,b,s,c0,bs⟩,.slice A m d,⟨by show a0 < _; omega,hs,b3⟩,rfl,hb⟩
end
end Go.Proofs.YtnfcfdhlmeimhaaGreat
namespace Go.Proofs.YtnfcfdhlmeimhaaGreat
open Go.RowKit
set_option linter.unusedVariables false
set_option linter.unusedSimpArgs false
set_option maxRecDepth 20000
/-- The cells of replies to Puts and Drops. -/
def rpC (sn:List Rp):List Value:=sn.flatMap fun p=>[.int .u64 (p.num:Int),.int .i64 p.e,.slice none 0 0]
theorem rpC_app (a b:List Rp):rpC (a ++ b)=rpC a ++ rpC b:=by simp [rpC]
theorem rpC_len:∀ (sn:List Rp),(rpC sn).length=sn.length * 3
 | []=>rfl
 | p :: sn=>by
  have ih:=rpC_len sn
  have e:rpC (p :: sn)=[.int .u64 (p.num:Int),.int .i64 p.e,.slice none 0 0] ++ rpC sn:=rfl
  rw [e,List.length_append,ih,List.length_cons]
  simp
  omega
theorem rpC_one (sn:List Rp):∀ u ∈ rpC sn,u.oneCell'=true:=fun u hu=>by
 obtain ⟨p,_,hp⟩:=List.mem_flatMap.1 hu
 simp at hp
 rcases hp with rfl | rfl | rfl <;> rfl
theorem rpC_get:∀ {sn:List Rp} {j:Nat} {p:Rp},sn[j]?=some p→(rpC sn)[j * 3]?=some (.int .u64 (p.num:Int))∧(rpC sn)[j * 3+1]?=some (.int .i64 p.e)∧(rpC sn)[j * 3+2]?=some (.slice none 0 0)
 | [],j,p,h=>by simp at h
 | x :: sn,0,p,h=>by
  simp at h
  subst h
  exact ⟨rfl,rfl,rfl⟩
 | x :: sn,j+1,p,h=>by
  rw [List.getElem?_cons_succ] at h
  have ih:=rpC_get h
  have e:rpC (x :: sn)=[.int .u64 (x.num:Int),.int .i64 x.e,.slice none 0 0] ++ rpC sn:=rfl
  have key:∀ i,(rpC (x :: sn))[(j+1) * 3+i]?=(rpC sn)[j * 3+i]?:=fun i=>by
   rw [e,List.getElem?_append_right (by simp; omega)]
   congr 1
   simp
   omega
  exact ⟨(key 0).trans ih.1,(key 1).trans ih.2.1,(key 2).trans ih.2.2⟩
theorem rpC_drop (sn:List Rp):rpC (sn.drop 1)=(rpC sn).drop 3:=by
 cases sn with
 | nil=>rfl
 | cons p l=>rfl
theorem ty_rp:Ty 81 (.agg #[.int .u64 0,.int .i64 0,.slice none 0 0]) 3 40:=ty_of (by kernel_rfl) rfl (by omega) (by omega)
/-- A node's block. -/
def BxN (w:World) (g:Nat) (x0 x1 x2 x3 x4:Value):Prop:=w.heap[g]?=some (.cells #[x0,x1,x2,x3,x4] 95 (0,0))
section
variable {w w1:World} {g:Nat} {x0 x1 x2 x3 x4:Value}
theorem BxN.lt (h:BxN w g x0 x1 x2 x3 x4):g < w.heap.size:=(Array.getElem?_eq_some_iff.1 h).1
theorem BxN.keep {S:Nat→Prop} (h:BxN w g x0 x1 x2 x3 x4) (hk:Kp S w w1) (hb:¬ S g):BxN w1 g x0 x1 x2 x3 x4:=(hk.block g h.lt hb).trans h
theorem BxN.no (h:BxN w g x0 x1 x2 x3 x4) (hk:Kp No w w1):BxN w1 g x0 x1 x2 x3 x4:=h.keep hk fun f=>f
theorem BxN.fz (h:BxN w g x0 x1 x2 x3 x4) (j:Nat):w.frozen? ⟨g,j,none⟩=false:=frozen_of_row w g j _ _ h
theorem BxN.new (w:World) (x0 x1 x2 x3 x4:Value):BxN (w.alloc (.cells #[x0,x1,x2,x3,x4] 95)) w.heap.size x0 x1 x2 x3 x4:=heap_alloc_new w _
theorem BxN.cell (h:BxN w g x0 x1 x2 x3 x4):w.cell? ⟨g,0,none⟩=some x0∧w.cell? ⟨g,1,none⟩=some x1∧w.cell? ⟨g,2,none⟩=some x2∧w.cell? ⟨g,3,none⟩=some x3∧w.cell? ⟨g,4,none⟩=some x4:=by
 refine ⟨?_,?_,?_,?_,?_⟩ <;> (rw [cell_of_row w g _ _ _ _ h]; rfl)
theorem BxN.set2 (h:BxN w g x0 x1 x2 x3 x4) (u:Value):BxN (w.setCell ⟨g,2,none⟩ u) g x0 x1 u x3 x4:=heap_setCell_same w g 2 _ 95 u h
theorem BxN.set3 (h:BxN w g x0 x1 x2 x3 x4) (u:Value):BxN (w.setCell ⟨g,3,none⟩ u) g x0 x1 x2 u x4:=heap_setCell_same w g 3 _ 95 u h
theorem BxN.set4 (h:BxN w g x0 x1 x2 x3 x4) (u:Value):BxN (w.setCell ⟨g,4,none⟩ u) g x0 x1 x2 x3 u:=heap_setCell_same w g 4 _ 95 u h
end
/-- A code whose blocks are older than B. -/
structure CdF (w:World) (B g n k:Nat) (x:Nat→UInt8):Prop where
 ex:∃ A cp,w.heap[g]?=some (.cells #[.int .i64 (k:Int),.slice A n cp] 89 (0,0))∧Bts w (.slice A n cp) (rowL n x)∧∀ z,(Value.slice A n cp).ownBlock=some z→z < B
 ng:g < B
 bw:B≤w.heap.size
section
variable {w w1:World} {S:Nat→Prop} {B g n k:Nat} {x:Nat→UInt8}
theorem CdF.at_ (h:CdF w B g n k x):CodeAt w g n k x:=by
 obtain ⟨A,cp,h1,h2,_⟩:=h.ex
 exact ⟨A,cp,h1,h2⟩
theorem CdF.keep (h:CdF w B g n k x) (hk:Kp S w w1) (hS:∀ z,S z→B≤z):CdF w1 B g n k x:=by
 obtain ⟨A,cp,h1,h2,h3⟩:=h.ex
 exact ⟨⟨A,cp,(hk.block g (Nat.lt_of_lt_of_le h.ng h.bw) fun f=>by have:=hS g f; have:=h.ng; omega).trans h1,h2.keep hk fun z hz f=>by have:=hS z f; have:=h3 z hz; omega,h3⟩,h.ng,Nat.le_trans h.bw hk.size⟩
theorem CdF.no (h:CdF w B g n k x) (hk:Kp No w w1):CdF w1 B g n k x:=h.keep hk fun _ f=>f.elim
theorem CdF.of (h:CodeAt w g n k x) (hn:0 < n):CdF w w.heap.size g n k x:=by
 obtain ⟨A,cp,h1,h2⟩:=h.head
 refine ⟨⟨A,cp,h1,h2,fun z hz=>?_⟩,(Array.getElem?_eq_some_iff.1 h1).1,Nat.le_refl _⟩
 obtain ⟨A',c',e,hn',hc⟩:=h2
 injection e with e1 e2 e3
 subst e1 e3
 rcases A with _ | ad
 ·cases hz
 ·have hz':ad.block=z:=Option.some.inj hz
  have h0:=hc ad rfl 0 _ (List.getElem?_eq_getElem (by rw [rowL_len]; exact hn))
  have hl:=World.block_lt_of_cell? w _ h0
  rw [blk_add] at hl
  omega
end
/-- What is a vault's of all that is a node's. -/
def Fsv (F:Nat→Prop) (g:Nat) (rv:Value) (k:Nat):Prop:=F k∧k≠g∧rv.ownBlock≠some k
/-- A node at g, its code at gc, its disk at gd, its vault at gv: all that is its own, but for the code, in F; the code is older than B, F younger. -/
structure SvR (w:World) (F:Nat→Prop) (B n k:Nat) (x:Nat→UInt8) (g gc gd gv b:Nat) (rv:Value) (N:Nd):Prop where
 blk:BxN w g (.pointer (some ⟨gc,0,none⟩)) (.pointer (some ⟨gd,0,none⟩)) (.pointer (some ⟨gv,0,none⟩)) rv (.int .u64 (N.done:Int))
 cd:CdF w B gc n k x
 vt:VtR w (Fsv F g rv) gv gd b N.V
 rp:OwnT w 0 81 3 rv N.sn.length (rpC N.sn)
 rf:∀ k,rv.ownBlock=some k→F k
 fg:F g
 fb:∀ z,F z→B≤z
 ok:N.Ok
def SvAt (w:World) (F:Nat→Prop) (B n k:Nat) (x:Nat→UInt8) (g gc gd:Nat) (N:Nd):Prop:=∃ gv b rv,SvR w F B n k x g gc gd gv b rv N
section
variable {w w1:World} {F S T:Nat→Prop} {B n k g gc gd gv b:Nat} {x:Nat→UInt8} {rv:Value} {N:Nd}
theorem SvR.ng (h:SvR w F B n k x g gc gd gv b rv N):rv.ownBlock≠some g:=fun e=>by
 obtain ⟨cur,hc⟩:=h.rp.kind e
 have hb:w.heap[g]?=_:=h.blk
 rw [hb] at hc
 injection hc with hc
 injection hc with _ h2
 exact absurd h2 (by decide)
theorem SvR.keep (h:SvR w F B n k x g gc gd gv b rv N) (hk:Kp S w w1) (hS:∀ k,k < w.heap.size→F k→¬ S k) (hB:∀ z,S z→B≤z):SvR w1 F B n k x g gc gd gv b rv N :=
 ⟨h.blk.keep hk (hS g h.blk.lt h.fg),h.cd.keep hk hB,h.vt.keep hk (fun k hk f=>hS k hk f.1),h.rp.keep hk (fun k hk'=>hS k (h.rp.lt k hk') (h.rf k hk')),h.rf,h.fg,h.fb,h.ok⟩
theorem SvR.no (h:SvR w F B n k x g gc gd gv b rv N) (hk:Kp No w w1):SvR w1 F B n k x g gc gd gv b rv N:=h.keep hk (fun _ _ _ f=>f) fun _ f=>f.elim
theorem SvR.mono (h:SvR w F B n k x g gc gd gv b rv N) (hF:∀ k,F k→T k) (hT:∀ k,T k→B≤k):SvR w T B n k x g gc gd gv b rv N :=
 ⟨h.blk,h.cd,h.vt.mono fun k f=>⟨hF k f.1,f.2⟩,h.rp,fun k e=>hF k (h.rf k e),hF g h.fg,hT,h.ok⟩
theorem SvR.up (h:SvR w F B n k x g gc gd gv b rv N):∀ z,Up F w z→B≤z:=fun z f=>f.elim (h.fb z) fun f=>Nat.le_trans h.cd.bw f
/-- All that is the node's is in memory. -/
theorem SvR.lt (h:SvR w F B n k x g gc gd gv b rv N):SvR w (fun z=>F z∧z < w.heap.size) B n k x g gc gd gv b rv N :=
 ⟨h.blk,h.cd,h.vt.lt.mono fun k f=>⟨⟨f.1.1,f.2⟩,f.1.2⟩,h.rp,fun k e=>⟨h.rf k e,h.rp.lt k e⟩,⟨h.fg,h.blk.lt⟩,fun z f=>h.fb z f.1,h.ok⟩
theorem SvR.rp_int (h:SvR w F B n k x g gc gd gv b rv N) (z:Int):¬ rv=.int .u8 z:=fun e=>by
 obtain ⟨A,c,e2⟩:=h.rp.form
 rw [e2] at e
 cases e
/-- A call on the vault. -/
theorem SvR.vault (h:SvR w F B n k x g gc gd gv b rv N) {V1:Vt} {b1:Nat} (hv:VtR w1 (Up (Fsv F g rv) w) gv gd b1 V1) (hk:Kp (Fsv F g rv) w w1):SvR w1 (Up F w) B n k x g gc gd gv b1 rv ⟨V1,N.sn,N.done⟩:=by
 have l1:=h.blk.lt
 refine ⟨h.blk.keep hk fun f=>f.2.1 rfl,h.cd.keep hk fun z f=>h.fb z f.1,hv.mono fun k f=>?_,h.rp.keep hk fun k hk' f=>f.2.2 hk',fun k e=>.inl (h.rf k e),.inl h.fg,h.up,⟨hv.ok,h.ok.few,h.ok.all⟩⟩
 rcases f with f | f
 ·exact ⟨.inl f.1,f.2⟩
 ·exact ⟨.inr f,by omega,fun e=>by have:=h.rp.lt k e; omega⟩
/-- The number of what was done has turned. -/
theorem SvR.count (h:SvR w F B n k x g gc gd gv b rv N) (m:Nat):SvR (w.setCell ⟨g,4,none⟩ (.int .u64 (m:Int))) F B n k x g gc gd gv b rv ⟨N.V,N.sn,m⟩:=by
 have K:Kp (fun q=>q=g) w (w.setCell ⟨g,4,none⟩ (.int .u64 (m:Int))):=Kp.setCell (S:=fun q=>q=g) (p:=⟨g,4,none⟩) rfl _
 exact ⟨h.blk.set4 _,h.cd.keep K fun z e=>e ▸ h.fb g h.fg,h.vt.keep K fun k _ f e=>f.2.1 e,h.rp.keep K fun k hk e=>h.ng (e ▸ hk),h.rf,h.fg,h.fb,⟨h.ok.v,h.ok.few,h.ok.all⟩⟩
/-- What is remembered has turned. -/
theorem SvR.reps (h:SvR w F B n k x g gc gd gv b rv N) {sn:List Rp} {rv1:Value} (hr:OwnT w1 0 81 3 rv1 sn.length (rpC sn)) (hk:Kp (fun q=>rv.ownBlock=some q) w w1) (ha:∀ q,rv1.ownBlock=some q→rv.ownBlock=some q∨w.heap.size≤q) (hl:sn.length≤32) (ho:∀ p ∈ sn,Nd.RpOk p) :
  SvR (w1.setCell ⟨g,3,none⟩ rv1) (Up F w) B n k x g gc gd gv b rv1 ⟨N.V,sn,N.done⟩:=by
 have K:Kp (fun q=>q=g) w1 (w1.setCell ⟨g,3,none⟩ rv1):=Kp.setCell (S:=fun q=>q=g) (p:=⟨g,3,none⟩) rfl _
 have h1:=h.blk.keep hk h.ng
 have hng:∀ q,rv1.ownBlock=some q→¬ q=g:=fun q hq e=>by
  subst e
  rcases ha q hq with f | f
  ·exact h.ng f
  ·have:=h.blk.lt
   omega
 have hc:CdF w1 B gc n k x:=h.cd.keep hk fun z e=>h.fb z (h.rf z e)
 have hlt:∀ k,Fsv F g rv k→k < w.heap.size→Fsv (Up F w) g rv1 k:=fun k f hl=>⟨.inl f.1,f.2.1,fun e=>by
  rcases ha k e with f' | f'
  ·exact f.2.2 f'
  ·omega⟩
 have hv2:VtR w1 (Fsv (Up F w) g rv1) gv gd b N.V:=by
  have hb:=(h.vt.lt).keep hk fun k _ f e=>f.1.2.2 e
  exact hb.mono fun k f=>hlt k f.1 f.2
 refine ⟨h1.set3 _,hc.keep K fun z e=>e ▸ h.fb g h.fg,hv2.keep K fun k _ f e=>f.2.1 e,hr.keep K fun k hk' e=>hng k hk' e,fun k e=>(ha k e).imp (h.rf k) fun f=>f,.inl h.fg,h.up,⟨h.ok.v,hl,ho⟩⟩
end
/-- What a call on a node comes to. -/
def SvPost (w:World) (F:Nat→Prop) (B n k:Nat) (x:Nat→UInt8) (g gc gd:Nat) (N:Nd) (v:Ending) (e:Ending) (w1:World):Prop:=e=v∧SvAt w1 (Up F w) B n k x g gc gd N∧Kp F w w1
end Go.Proofs.YtnfcfdhlmeimhaaGreat
