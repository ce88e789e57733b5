/- The Reader's other calls: bytes, a text, a shard, the rest, and whether it is done; Names (api.Shard): a name is one number, its parts, its bytes, its value, as a map's key, held against another; The document's Take of layer 1 (Raw, Num, Shard), as contracts over memory. -/
import Derived.Test.YtnfcfdhlmeimhaaGreatSpad
import Derived.Maps.RangeWalk
import Derived.DeepKeys4
namespace Go.Proofs.YtnfcfdhlmeimhaaGreat
open Go.RowKit
set_option linter.unusedVariables false
set_option maxRecDepth 20000
set_option linter.unusedSimpArgs false
/-- What reading bytes comes to: a copy of xs. -/
def RwPost (w:World) (F:Nat→Prop) (g:Nat) (xs ys:List UInt8) (e:Ending) (w1:World):Prop :=
 ∃ A m c,e=.returned (.slice A m c)∧Own w1 w.heap.size 5 (.slice A m c) xs∧RdAt w1 F g ys∧Kp (fun b=>b=g) w w1
theorem rdraw_any {w:World} {F:Nat→Prop} {g k:Nat} {xs ys:List UInt8} (h:RdAt w F g (xs ++ ys)) (hk:k=xs.length) (hl:k≤900000000) :
  Calls Tryz.prog 102 #[.pointer (some ⟨g,0,none⟩),.int .i64 k] w (RwPost w F g xs ys):=by
 have HK:=hide hk
 clear hk
 go_enter Tryz.func102,Tryz.ntmps102
 go_wp2_with fail
 refine (take_any h HK.out (by omega)).mono ?_
 rintro e w1 ⟨A,m,c,rfl,hb,hr,hkp⟩
 go_wp2_with fail
 refine (clone_any hb (by have:=HK.out; omega)).mono ?_
 rintro e w2 ⟨A1,n1,c1,rfl,ho,hk2⟩
 go_wp2
 go_ret
 exact ⟨A1,n1,c1,rfl,ho.rebase fun k hk=>Nat.le_trans hkp.size (ho.ge k hk),hr.no hk2,hkp.trans (hk2.of_no _)⟩
theorem rdleft_any {w:World} {F:Nat→Prop} {g:Nat} {ys:List UInt8} (h:RdAt w F g ys) :
  Calls Tryz.prog 103 #[.pointer (some ⟨g,0,none⟩)] w fun e w1=>e=.returned (.int .i64 ys.length)∧w=w1:=by
 obtain ⟨A,m,c,h1,h2,h3,h4,h5⟩:=h
 have hm:=h2.len
 obtain ⟨L,hL⟩:∃ L,L=ys.length:=⟨_,rfl⟩
 rw [← hL] at hm ⊢
 subst hm
 have hc0:w.cell? ⟨g,0,none⟩=some (.slice A m c):=by rw [cell_of_row w g 0 _ _ _ h1]; rfl
 have H1:=hide h1
 clear h1 hL
 go_enter Tryz.func103,Tryz.ntmps103
 go_wp2
 go_ret
 exact ⟨rfl,rfl⟩
theorem rdtorn_any {w:World} {F:Nat→Prop} {g:Nat} {ys:List UInt8} (h:RdAt w F g ys) :
  Calls Tryz.prog 58 #[.pointer (some ⟨g,0,none⟩)] w fun e w1=>e=.returned (.bool false)∧w=w1:=by
 obtain ⟨A,m,c,h1,h2,h3,h4,h5⟩:=h
 have hc1:w.cell? ⟨g,1,none⟩=some (.bool false):=by rw [cell_of_row w g 1 _ _ _ h1]; rfl
 have H1:=hide h1
 clear h1
 go_enter Tryz.func58,Tryz.ntmps58
 go_wp2
 go_ret
 exact ⟨rfl,rfl⟩
theorem rdrest_any {w:World} {F:Nat→Prop} {g:Nat} {xs:List UInt8} (h:RdAt w F g xs) (hl:xs.length≤900000000) :
  Calls Tryz.prog 57 #[.pointer (some ⟨g,0,none⟩)] w (RwPost w F g xs []):=by
 have h':RdAt w F g (xs ++ []):=by rwa [List.append_nil]
 have HL:=hide hl
 clear hl
 have hlf:=rdleft_any h
 obtain ⟨L,hL⟩:∃ L,L=xs.length:=⟨_,rfl⟩
 rw [← hL] at hlf
 have HLL:=hide hL
 clear hL
 go_enter Tryz.func57,Tryz.ntmps57
 go_wp2_with fail
 refine hlf.mono ?_
 rintro e w1 ⟨rfl,rfl⟩
 clear hlf
 go_wp2_with fail
 refine (rdraw_any h' HLL.out (by have:=HL.out; have:=HLL.out; omega)).mono ?_
 rintro e w2 ⟨A1,n1,c1,rfl,ho,hr2,hk2⟩
 go_wp2
 go_ret
 exact ⟨A1,n1,c1,rfl,ho,hr2,hk2⟩
/-- What reading a shard comes to. -/
def ShPost (w:World) (F:Nat→Prop) (g:Nat) (o st sl gn:Nat) (ys:List UInt8) (e:Ending) (w1:World):Prop :=
 e=.returned (.agg #[.int .u32 o,.int .u16 st,.int .u16 sl,.int .u32 gn])∧RdAt w1 F g ys∧Kp (fun b=>b=g) w w1
theorem RdAt.g_lt {w:World} {F:Nat→Prop} {g:Nat} {bs:List UInt8} (h:RdAt w F g bs):g < w.heap.size:=by
 obtain ⟨A,m,c,h1,_⟩:=h
 exact (Array.getElem?_eq_some_iff.1 h1).1
/-- Block b is a shard's four cells. -/
def Box4 (w:World) (b:Nat) (x0 x1 x2 x3:Value):Prop:=w.heap[b]?=some (.cells #[x0,x1,x2,x3] 53 (0,0))
section
variable {w w1:World} {b:Nat} {x0 x1 x2 x3:Value}
theorem Box4.cell (h:Box4 w b x0 x1 x2 x3):w.cell? ⟨b,0,none⟩=some x0∧w.cell? ⟨b,1,none⟩=some x1∧w.cell? ⟨b,2,none⟩=some x2∧w.cell? ⟨b,3,none⟩=some x3:=by
 refine ⟨?_,?_,?_,?_⟩ <;> (rw [cell_of_row w b _ _ _ _ h]; rfl)
theorem Box4.frozen (h:Box4 w b x0 x1 x2 x3) (j:Nat):w.frozen? ⟨b,j,none⟩=false:=frozen_of_row w b j _ _ h
theorem Box4.keep {S:Nat→Prop} (h:Box4 w b x0 x1 x2 x3) (hk:Kp S w w1) (hb:¬ S b):Box4 w1 b x0 x1 x2 x3:=(hk.block b (Array.getElem?_eq_some_iff.1 h).1 hb).trans h
theorem Box4.set0 (h:Box4 w b x0 x1 x2 x3) (u:Value):Box4 (w.setCell ⟨b,0,none⟩ u) b u x1 x2 x3:=heap_setCell_same w b 0 _ 53 u h
theorem Box4.set1 (h:Box4 w b x0 x1 x2 x3) (u:Value):Box4 (w.setCell ⟨b,1,none⟩ u) b x0 u x2 x3:=heap_setCell_same w b 1 _ 53 u h
theorem Box4.set2 (h:Box4 w b x0 x1 x2 x3) (u:Value):Box4 (w.setCell ⟨b,2,none⟩ u) b x0 x1 u x3:=heap_setCell_same w b 2 _ 53 u h
theorem Box4.set3 (h:Box4 w b x0 x1 x2 x3) (u:Value):Box4 (w.setCell ⟨b,3,none⟩ u) b x0 x1 x2 u:=heap_setCell_same w b 3 _ 53 u h
end
theorem Box4.new2 (w:World) (ob:Obj) (x0 x1 x2 x3:Value):Box4 ((w.alloc ob).alloc (.cells #[x0,x1,x2,x3] 53)) (w.heap.size+1) x0 x1 x2 x3:=by
 have:=heap_alloc_new (w.alloc ob) (.cells #[x0,x1,x2,x3] 53)
 rwa [World.size_alloc] at this
theorem Box4.new1 (w:World) (ob:Obj) (x0 x1 x2 x3:Value):Box4 ((w.alloc (.cells #[x0,x1,x2,x3] 53)).alloc ob) w.heap.size x0 x1 x2 x3 :=
 (Below.heap_alloc (w.alloc _) ob _ (by rw [World.size_alloc]; omega)).trans (heap_alloc_new w _)
theorem RdAt.set {w:World} {F:Nat→Prop} {g b j:Nat} {bs:List UInt8} (h:RdAt w F g bs) (hb:∀ k,F k→k≠b) (u:Value):RdAt (w.setCell ⟨b,j,none⟩ u) F g bs :=
 h.keep (Kp.setCell (S:=fun k=>k=b) (p:=⟨b,j,none⟩) rfl u) fun k hk e=>hb k hk e
set_option maxHeartbeats 2000000 in
theorem rdshard_any {w:World} {F:Nat→Prop} {g:Nat} {ys:List UInt8} (o st sl gn:Nat) (ho:o < 4294967296) (hst:st < 65536) (hsl:sl < 65536) (hgn:gn < 4294967296)
  (h:RdAt w F g (shardB o st sl gn ++ ys)) (hF:∀ k,F k→k < w.heap.size):Calls Tryz.prog 75 #[.pointer (some ⟨g,0,none⟩)] w (ShPost w F g o st sl gn ys):=by
 have h':∀ ob1 ob2:Obj,RdAt ((w.alloc ob1).alloc ob2) F g (numB o 4 ++ (numB st 2 ++ (numB sl 2 ++ (numB gn 4 ++ ys)))):=by
  intro ob1 ob2
  have:=(h.no (Kp.alloc No w ob1)).no (Kp.alloc No _ ob2)
  simpa [shardB,List.append_assoc] using this
 have H':=hide h'
 have HF:=hide hF
 have hg:=h.g_lt
 have n0:ofB (numB o 4)=o:=by rw [ofB_numB]; omega
 have n1:ofB (numB st 2)=st:=by rw [ofB_numB]; omega
 have n2:ofB (numB sl 2)=sl:=by rw [ofB_numB]; omega
 have n3:ofB (numB gn 4)=gn:=by rw [ofB_numB]; omega
 have N0:=hide n0
 have N1:=hide n1
 have N2:=hide n2
 have N3:=hide n3
 clear h h' hF n0 n1 n2 n3
 go_enter Tryz.func75,Tryz.ntmps75
 go_wp2_with fail
 refine (rdnum_any 4 (by rw [numB_length]) (by omega) (H'.out _ _)).mono ?_
 rw [N0.out]
 rintro e w1 ⟨rfl,hr,hk⟩
 have hFb:∀ k,F k→k≠w.heap.size+1:=fun k hk=>by have:=HF.out k hk; omega
 have HFb:=hide hFb
 clear hFb
 have B1:Box4 w1 (w.heap.size+1) (.int .u32 0) (.int .u16 0) (.int .u16 0) (.int .u32 0):=(Box4.new2 w _ _ _ _ _).keep hk (by omega)
 have R1:Box4 w1 w.heap.size (.int .u32 0) (.int .u16 0) (.int .u16 0) (.int .u32 0):=(Box4.new1 w _ _ _ _ _).keep hk (by omega)
 obtain ⟨p0,p1,p2,p3⟩:=B1.cell
 have f0:=B1.frozen 0
 go_wp2_with fail
 clear p0 p1 p2 p3 f0
 refine (rdnum_any 2 (by rw [numB_length]) (by omega) (hr.set HFb.out _)).mono ?_
 rw [N1.out]
 rintro e w2 ⟨rfl,hr2,hk2⟩
 have B2:=(B1.set0 (.int .u32 o)).keep hk2 (by omega)
 have R2:=(R1.keep (Kp.setCell (S:=fun k=>k=w.heap.size+1) (p:=⟨w.heap.size+1,0,none⟩) rfl (.int .u32 o)) (by omega)).keep hk2 (by omega)
 obtain ⟨p0,p1,p2,p3⟩:=B2.cell
 have f0:=B2.frozen 1
 go_wp2_with fail
 clear p0 p1 p2 p3 f0
 refine (rdnum_any 2 (by rw [numB_length]) (by omega) (hr2.set HFb.out _)).mono ?_
 rw [N2.out]
 rintro e w3 ⟨rfl,hr3,hk3⟩
 have B3:=(B2.set1 (.int .u16 st)).keep hk3 (by omega)
 have R3:=(R2.keep (Kp.setCell (S:=fun k=>k=w.heap.size+1) (p:=⟨w.heap.size+1,1,none⟩) rfl (.int .u16 st)) (by omega)).keep hk3 (by omega)
 obtain ⟨p0,p1,p2,p3⟩:=B3.cell
 have f0:=B3.frozen 2
 go_wp2_with fail
 clear p0 p1 p2 p3 f0
 refine (rdnum_any 4 (by rw [numB_length]) (by omega) (hr3.set HFb.out _)).mono ?_
 rw [N3.out]
 rintro e w4 ⟨rfl,hr4,hk4⟩
 have B4:=(B3.set2 (.int .u16 sl)).keep hk4 (by omega)
 have R4:=(R3.keep (Kp.setCell (S:=fun k=>k=w.heap.size+1) (p:=⟨w.heap.size+1,2,none⟩) rfl (.int .u16 sl)) (by omega)).keep hk4 (by omega)
 have B5:=B4.set3 (.int .u32 gn)
 obtain ⟨p0,p1,p2,p3⟩:=B4.cell
 obtain ⟨s0,s1,s2,s3⟩:=B5.cell
 have f3:=B4.frozen 3
 have R5:=R4.keep (Kp.setCell (S:=fun k=>k=w.heap.size+1) (p:=⟨w.heap.size+1,3,none⟩) rfl (.int .u32 gn)) (by omega)
 obtain ⟨t0,t1,t2,t3⟩:=R5.cell
 have g0:=R5.frozen 0
 have g1:=R5.frozen 1
 have g2:=R5.frozen 2
 have g3:=R5.frozen 3
 have R9:=(((R5.set0 (.int .u32 o)).set1 (.int .u16 st)).set2 (.int .u16 sl)).set3 (.int .u32 gn)
 obtain ⟨q0,q1,q2,q3⟩:=R9.cell
 have HR9:=hide R9
 clear R9
 have hFr:∀ k,F k→k≠w.heap.size:=fun k hk=>by have:=HF.out k hk; omega
 have HFr:=hide hFr
 clear hFr
 go_wp2
 refine bodyPost_ret (v:=.agg #[.int .u32 o,.int .u16 st,.int .u16 sl,.int .u32 gn]) (by simp [results,Tryz.results75,go_sem,q0,q1,q2,q3]) rfl ⟨rfl,?_,?_⟩
 ·exact (((((hr4.set HFb.out _).set HFr.out _).set HFr.out _).set HFr.out _).set HFr.out _)
 ·have y1:Up (fun b=>b=g) w (w.heap.size+1):=.inr (by omega)
  have y0:Up (fun b=>b=g) w w.heap.size:=.inr (by omega)
  have z:Kp (fun b=>b=g) w w4 :=
   ((((((((Kp.alloc _ w _).trans' (Kp.alloc _ _ _)).trans' hk).trans (Kp.setCell (p:=⟨w.heap.size+1,0,none⟩) y1 _)).trans' hk2).trans (Kp.setCell (p:=⟨w.heap.size+1,1,none⟩) y1 _)).trans' hk3).trans (Kp.setCell (p:=⟨w.heap.size+1,2,none⟩) y1 _)).trans' hk4
  exact ((((z.trans (Kp.setCell (p:=⟨w.heap.size+1,3,none⟩) y1 _)).trans (Kp.setCell (p:=⟨w.heap.size,0,none⟩) y0 _)).trans (Kp.setCell (p:=⟨w.heap.size,1,none⟩) y0 _)).trans (Kp.setCell (p:=⟨w.heap.size,2,none⟩) y0 _)).trans (Kp.setCell (p:=⟨w.heap.size,3,none⟩) y0 _)
end Go.Proofs.YtnfcfdhlmeimhaaGreat
namespace Go.Proofs.YtnfcfdhlmeimhaaGreat
open Go.RowKit
set_option linter.unusedVariables false
set_option linter.unusedSimpArgs false
set_option maxRecDepth 20000
/-- A name's number: rising by its parts. -/
def mkN (o st sl gn:Nat):Nat:=((o * 65536+st) * 65536+sl) * 4294967296+gn
def cO (n:Nat):Nat:=n / 18446744073709551616
def cS (n:Nat):Nat:=n / 281474976710656 % 65536
def cL (n:Nat):Nat:=n / 4294967296 % 65536
def cG (n:Nat):Nat:=n % 4294967296
abbrev N96:Nat:=79228162514264337593543950336
section
variable {o st sl gn:Nat}
theorem mkN_lt (ho:o < 4294967296) (hst:st < 65536) (hsl:sl < 65536) (hgn:gn < 4294967296):mkN o st sl gn < N96:=by unfold mkN N96; omega
theorem cO_mk (hst:st < 65536) (hsl:sl < 65536) (hgn:gn < 4294967296):cO (mkN o st sl gn)=o:=by unfold cO mkN; omega
theorem cS_mk (hst:st < 65536) (hsl:sl < 65536) (hgn:gn < 4294967296):cS (mkN o st sl gn)=st:=by unfold cS mkN; omega
theorem cL_mk (hsl:sl < 65536) (hgn:gn < 4294967296):cL (mkN o st sl gn)=sl:=by unfold cL mkN; omega
theorem cG_mk (hgn:gn < 4294967296):cG (mkN o st sl gn)=gn:=by unfold cG mkN; omega
theorem cO_lt {n:Nat} (h:n < N96):cO n < 4294967296:=by unfold cO; unfold N96 at h; omega
theorem cS_lt (n:Nat):cS n < 65536:=Nat.mod_lt _ (by omega)
theorem cL_lt (n:Nat):cL n < 65536:=Nat.mod_lt _ (by omega)
theorem cG_lt (n:Nat):cG n < 4294967296:=Nat.mod_lt _ (by omega)
theorem c_inj {m n:Nat} (h0:cO m=cO n) (h1:cS m=cS n) (h2:cL m=cL n) (h3:cG m=cG n):m=n:=by unfold cO at h0; unfold cS at h1; unfold cL at h2; unfold cG at h3; omega
/-- One name stands before another, part by part. -/
theorem lt_parts {m n:Nat}:m < n ↔ cO m < cO n∨(cO m=cO n∧(cS m < cS n∨(cS m=cS n∧(cL m < cL n∨(cL m=cL n∧cG m < cG n))))):=by unfold cO cS cL cG; omega
end
/-- A name's bytes. -/
def shB (s:Nat):List UInt8:=shardB (cO s) (cS s) (cL s) (cG s)
theorem shB_len (s:Nat):(shB s).length=12:=by simp [shB,shardB,numB_length]
theorem numB_ofB (l:List UInt8):numB (ofB l) l.length=l:=by
 have h:∀ (k:Nat) (l:List UInt8),l.length=k→numB (ofB l) k=l:=by
  intro k
  induction k with
  | zero=>intro l hl; rw [List.eq_nil_of_length_eq_zero hl]; rfl
  | succ k ih =>
   intro l hl
   have hne:l≠[]:=fun e=>by rw [e] at hl; simp at hl
   obtain ⟨i,b,rfl⟩:∃ i b,l=i ++ [b]:=⟨l.dropLast,l.getLast hne,(List.dropLast_concat_getLast hne).symm⟩
   have hi:i.length=k:=by simp at hl; exact hl
   have h1:=ofB_lt i
   rw [hi] at h1
   have hb:=b.toNat_lt
   rw [ofB_snoc,hi,numB_succ]
   have e1:numB (ofB i+b.toNat * 2 ^ (8 * k)) k=numB (ofB i) k:=by
    unfold numB
    refine List.map_congr_left fun j hj=>?_
    have hj':j < k:=List.mem_range.1 hj
    have hp:2 ^ (8 * k)=2 ^ (8 * j) * (256 * 2 ^ (8 * (k - j - 1))):=by
     rw [show (256:Nat)=2 ^ 8 from rfl,← Nat.pow_add,← Nat.pow_add]
     congr 1
     omega
    rw [hp,show b.toNat * (2 ^ (8 * j) * (256 * 2 ^ (8 * (k - j - 1))))=2 ^ (8 * j) * (256 * (b.toNat * 2 ^ (8 * (k - j - 1)))) by
     rw [Nat.mul_left_comm,Nat.mul_left_comm b.toNat 256],Nat.add_mul_div_left _ _ (Nat.pow_pos (by omega))]
    apply UInt8.toNat_inj.1
    rw [UInt8.toNat_ofNat',UInt8.toNat_ofNat']
    omega
   rw [e1,ih i hi]
   congr 2
   rw [Nat.add_mul_div_right _ _ (Nat.pow_pos (by omega)),Nat.div_eq_of_lt h1]
   apply UInt8.toNat_inj.1
   rw [UInt8.toNat_ofNat']
   omega
 exact h _ l rfl
/-- The name that bytes begin with. -/
def nmO (bs:List UInt8):Nat:=mkN (ofB (bs.take 4)) (ofB ((bs.drop 4).take 2)) (ofB ((bs.drop 6).take 2)) (ofB ((bs.drop 8).take 4))
theorem nmO_lt (bs:List UInt8):nmO bs < N96:=mkN_lt (ofB_take 4) (ofB_take 2) (ofB_take 2) (ofB_take 4)
theorem nm_c (bs:List UInt8):cO (nmO bs)=ofB (bs.take 4)∧cS (nmO bs)=ofB ((bs.drop 4).take 2)∧cL (nmO bs)=ofB ((bs.drop 6).take 2)∧cG (nmO bs)=ofB ((bs.drop 8).take 4) :=
 ⟨cO_mk (ofB_take 2) (ofB_take 2) (ofB_take 4),cS_mk (ofB_take 2) (ofB_take 2) (ofB_take 4),cL_mk (ofB_take 2) (ofB_take 4),cG_mk (ofB_take 4)⟩
theorem nm_parts {bs:List UInt8} (h:12≤bs.length):shB (nmO bs) ++ bs.drop 12=bs:=by
 obtain ⟨e0,e1,e2,e3⟩:=nm_c bs
 unfold shB shardB
 rw [e0,e1,e2,e3]
 have n0:=numB_ofB (bs.take 4)
 have n1:=numB_ofB ((bs.drop 4).take 2)
 have n2:=numB_ofB ((bs.drop 6).take 2)
 have n3:=numB_ofB ((bs.drop 8).take 4)
 rw [List.length_take,show min 4 bs.length=4 by omega] at n0
 rw [List.length_take,List.length_drop,show min 2 (bs.length - 4)=2 by omega] at n1
 rw [List.length_take,List.length_drop,show min 2 (bs.length - 6)=2 by omega] at n2
 rw [List.length_take,List.length_drop,show min 4 (bs.length - 8)=4 by omega] at n3
 rw [n0,n1,n2,n3]
 have d1:bs.drop 6=(bs.drop 4).drop 2:=by rw [List.drop_drop]
 have d2:bs.drop 8=(bs.drop 6).drop 2:=by rw [List.drop_drop]
 have d3:bs.drop 12=(bs.drop 8).drop 4:=by rw [List.drop_drop]
 rw [d3,List.append_assoc,List.take_append_drop,d2,List.append_assoc,List.take_append_drop,d1,List.append_assoc,List.take_append_drop,List.take_append_drop]
theorem nm_shB {s:Nat} (hs:s < N96) (m:List UInt8):nmO (shB s ++ m)=s:=by
 have h:shB (nmO (shB s ++ m)) ++ (shB s ++ m).drop 12=shB s ++ m:=nm_parts (by rw [List.length_append,shB_len]; omega)
 have e:shB (nmO (shB s ++ m))=shB s:=by
  have:=congrArg (List.take 12) h
  rwa [List.take_left' (shB_len _),List.take_left' (shB_len _)] at this
 have key:∀ a b:Nat,shB a=shB b→a < N96→b < N96→a=b:=fun a b hab ha hb=>by
  unfold shB shardB at hab
  have l4:∀ x y,x < 4294967296→y < 4294967296→numB x 4=numB y 4→x=y:=fun x y hx hy hh=>by
   have:=congrArg ofB hh
   rw [ofB_numB,ofB_numB] at this
   omega
  have l2:∀ x y,x < 65536→y < 65536→numB x 2=numB y 2→x=y:=fun x y hx hy hh=>by
   have:=congrArg ofB hh
   rw [ofB_numB,ofB_numB] at this
   omega
  obtain ⟨h1,g3⟩:=List.append_inj' hab (by simp [numB_length])
  obtain ⟨h2,g2⟩:=List.append_inj' h1 (by simp [numB_length])
  obtain ⟨g0,g1⟩:=List.append_inj' h2 (by simp [numB_length])
  exact c_inj (l4 _ _ (cO_lt ha) (cO_lt hb) g0) (l2 _ _ (cS_lt _) (cS_lt _) g1) (l2 _ _ (cL_lt _) (cL_lt _) g2) (l4 _ _ (cG_lt _) (cG_lt _) g3)
 exact key _ _ e (nmO_lt _) hs
/-- A name's value. -/
abbrev shV (s:Nat):Value:=.agg #[.int .u32 (cO s:Int),.int .u16 (cS s:Int),.int .u16 (cL s:Int),.int .u32 (cG s:Int)]
theorem shV_inj {s t:Nat} (h:shV s=shV t):s=t:=by
 simp only [shV,Value.agg.injEq,Array.mk.injEq,List.cons.injEq,Value.int.injEq,true_and,and_true] at h
 exact c_inj (by omega) (by omega) (by omega) (by omega)
theorem sh_row:(53:TypeId) < Tryz.prog.types.size:=of_decide_eq_true (by kernel_rfl)
theorem sh_laid:laidOutB Tryz.prog=true:=by kernel_rfl
theorem sh_deep:Tryz.prog.keyType 53=true:=by kernel_rfl
theorem sh_wide:(match Tryz.prog.underlying 53 with | some (.array _ _) | some (.struct _)=>true | _=>false)=true:=by kernel_rfl
theorem sh_law:Maps.Keyed Tryz.prog 53:=Maps.Keyed.of_law (deep_law_laid sh_laid (m:=2) (by omega) sh_row (by kernel_rfl) sh_wide)
theorem sh_cells:Tryz.prog.cellsOf 53=4:=by kernel_rfl
theorem nat_u32 {x:Nat} (h:x < 4294967296):(Lit.int .u32 (x:Int)).wf=true:=WalkArith.wf_u32 ⟨by omega,by omega⟩
theorem nat_u16 {x:Nat} (h:x < 65536):(Lit.int .u16 (x:Int)).wf=true:=WalkArith.wf_u16 ⟨by omega,by omega⟩
theorem of_u32 {n:Int} (h:(Lit.int .u32 n).wf=true):∃ a:Nat,n=(a:Int)∧a < 4294967296:=by
 simp [Lit.wf,IntKind.min,IntKind.max,IntKind.signed,IntKind.bits] at h
 exact ⟨n.toNat,by omega,by omega⟩
theorem of_u16 {n:Int} (h:(Lit.int .u16 n).wf=true):∃ a:Nat,n=(a:Int)∧a < 65536:=by
 simp [Lit.wf,IntKind.min,IntKind.max,IntKind.signed,IntKind.bits] at h
 exact ⟨n.toNat,by omega,by omega⟩
theorem sh_one:Tryz.prog.cellsOf 50=1∧Tryz.prog.cellsOf 51=1:=⟨by kernel_rfl,by kernel_rfl⟩
theorem key_ex {s:Nat} (hs:s < N96):∃ l,keyOf Tryz.prog 53 (shV s)=some l:=by
 obtain ⟨m,hm⟩:∃ m,Tryz.prog.types.size=m+1:=Nat.exists_eq_succ_of_ne_zero (Nat.ne_of_gt (Nat.lt_of_le_of_lt (Nat.zero_le _) sh_row))
 have h0:=nat_u32 (cO_lt hs)
 have h1:=nat_u16 (cS_lt s)
 have h2:=nat_u16 (cL_lt s)
 have h3:=nat_u32 (cG_lt s)
 have hd:=sh_deep
 have hc:=sh_cells
 have cc:=sh_one
 unfold keyOf
 rw [hm]
 simp [Tryz.underlying53,hd,Value.formed,hc,Program.keyLits,shV,Value.cells,Tryz.underlying50,Tryz.underlying51,cc.1,cc.2,h0,h1,h2,h3]
theorem one_lit {P:Program} {m:Nat} {t:TypeId} {q:IntKind} {v:Value} {l:List Lit} (ht:P.underlying t=some (.int q)) (h:P.keyLits (m+1) t [v]=some l):∃ n,v=.int q n∧(Lit.int q n).wf=true:=by
 cases v <;> simp [Program.keyLits,ht] at h
 obtain ⟨⟨rfl,hw⟩,_⟩:=h
 exact ⟨_,rfl,hw⟩
theorem key_inv {key:Value} {l:Lit} (h:keyOf Tryz.prog 53 key=some l):∃ s,s < N96∧key=shV s:=by
 obtain ⟨m,hm⟩:∃ m,Tryz.prog.types.size=m+1:=Nat.exists_eq_succ_of_ne_zero (Nat.ne_of_gt (Nat.lt_of_le_of_lt (Nat.zero_le _) sh_row))
 have hc:=sh_cells
 have cc:=sh_one
 unfold keyOf at h
 rw [hm] at h
 simp only [Tryz.underlying53] at h
 split at h
 ·rename_i hf
  simp only [Bool.and_eq_true] at hf
  have hf2:=hf.2
  cases key <;> simp [Value.formed,Tryz.underlying53,hc] at hf2
  rename_i cs
  obtain ⟨l4⟩:=cs
  match l4,hf2 with
  | [a,b,c,d],_ =>
   rw [Option.map_eq_some_iff] at h
   obtain ⟨ls,h,_⟩:=h
   rw [Program.keyLits.eq_def] at h
   simp only [Tryz.underlying53,Value.cells,hc] at h
   simp [cc.1,cc.2] at h
   rcases g0:Tryz.prog.keyLits (m+1) 50 [a] with _ | x0
   ·simp [g0] at h
   rcases g1:Tryz.prog.keyLits (m+1) 51 [b] with _ | x1
   ·simp [g0,g1] at h
   rcases g2:Tryz.prog.keyLits (m+1) 51 [c] with _ | x2
   ·simp [g0,g1,g2] at h
   rcases g3:Tryz.prog.keyLits (m+1) 50 [d] with _ | x3
   ·simp [g0,g1,g2,g3] at h
   obtain ⟨n0,rfl,w0⟩:=one_lit Tryz.underlying50 g0
   obtain ⟨n1,rfl,w1⟩:=one_lit Tryz.underlying51 g1
   obtain ⟨n2,rfl,w2⟩:=one_lit Tryz.underlying51 g2
   obtain ⟨n3,rfl,w3⟩:=one_lit Tryz.underlying50 g3
   obtain ⟨a0,rfl,b0⟩:=of_u32 w0
   obtain ⟨a1,rfl,b1⟩:=of_u16 w1
   obtain ⟨a2,rfl,b2⟩:=of_u16 w2
   obtain ⟨a3,rfl,b3⟩:=of_u32 w3
   refine ⟨mkN a0 a1 a2 a3,mkN_lt b0 b1 b2 b3,?_⟩
   unfold shV
   rw [cO_mk b1 b2 b3,cS_mk b1 b2 b3,cL_mk b2 b3,cG_mk b3]
  | [],hl=>simp at hl
  | [_],hl=>simp at hl
  | [_,_],hl=>simp at hl
  | [_,_,_],hl=>simp at hl
  | _ :: _ :: _ :: _ :: _ :: _,hl=>simp at hl
 ·cases h
/-- What a name reads as. -/
noncomputable def klN (s:Nat):Lit:=(keyOf Tryz.prog 53 (shV s)).getD (.bool false)
section
variable {s t:Nat}
theorem key_kl (hs:s < N96):keyOf Tryz.prog 53 (shV s)=some (klN s):=by
 obtain ⟨l,h⟩:=key_ex hs
 unfold klN
 rw [h]
 rfl
theorem kl_inj (hs:s < N96) (ht:t < N96) (h:klN s=klN t):s=t:=shV_inj (sh_law.inj (key_kl hs) (by rw [h]; exact key_kl ht))
theorem kl_key (hs:s < N96):WideAt.IsKeyLit (klN s):=sh_law.key (key_kl hs)
theorem kl_same (hs:s < N96) (ht:t < N96):(klN s).sameKey (klN t)=(s == t):=by
 by_cases e:s=t
 ·subst e
  rw [WideAt.sameKey_self (kl_key hs)]
  simp
 ·rw [Maps.sameKey_ne (fun h=>e (kl_inj hs ht h))]
  simp [e]
end
theorem sh_equal (w:World) {s t:Nat} (hs:s < N96) (ht:t < N96):(Op.equal 53 (shV s) (shV t)).run Tryz.prog w=.ok (s == t) w:=by
 obtain ⟨r,h1,h2⟩:=run_equal_deep w (P:=Tryz.prog) (m:=2) (by omega) (k:=53) (by kernel_rfl) sh_wide (key_kl hs) (key_kl ht)
 rw [h1]
 congr 1
 by_cases e:s=t
 ·subst e
  rw [h2.2 rfl]
  simp
 ·cases r
  ·simp [e]
  ·exact absurd (kl_inj hs ht (h2.1 rfl)) e
theorem sh_guard:Tryz.prog.eqGuardType Tryz.prog.depth 53=false:=by kernel_rfl
end Go.Proofs.YtnfcfdhlmeimhaaGreat
namespace Go.Proofs.YtnfcfdhlmeimhaaGreat
open Go.RowKit
set_option linter.unusedVariables false
set_option linter.unusedSimpArgs false
set_option maxRecDepth 20000
/-- A box of the document's Take. -/
def TkB (w:World) (g:Nat) (v:Value):Prop:=w.heap[g]?=some (.cells #[v,.bool false] 166 (0,0))
def TkAt (w:World) (g:Nat) (bs:List UInt8):Prop:=∃ A n c,TkB w g (.slice A n c)∧Bts w (.slice A n c) bs∧n≤c
section
variable {w w1:World} {g:Nat} {v u:Value} {bs:List UInt8}
theorem TkB.lt (h:TkB w g v):g < w.heap.size:=(Array.getElem?_eq_some_iff.1 h).1
theorem TkB.c0 (h:TkB w g v):w.cell? ⟨g,0,none⟩=some v:=by rw [cell_of_row w g 0 _ _ _ h]; rfl
theorem TkB.fz (h:TkB w g v) (j:Nat):w.frozen? ⟨g,j,none⟩=false:=frozen_of_row w g j _ _ h
theorem TkB.set0 (h:TkB w g v) (u:Value):TkB (w.setCell ⟨g,0,none⟩ u) g u:=heap_setCell_same w g 0 _ 166 u h
theorem TkB.no (h:TkB w g v) (hk:Kp No w w1):TkB w1 g v:=(hk.block g h.lt fun f=>f).trans h
theorem TkB.new (w:World) (v:Value):TkB (w.alloc (.cells #[v,.bool false] 166)) w.heap.size v:=heap_alloc_new w _
/-- Bytes lie elsewhere. -/
theorem TkB.off {A:Option Addr} {n c:Nat} (h:TkB w g (.slice A n c)) (hb:Bts w u bs) (hne:bs≠[]):u.ownBlock≠some g:=fun e=>by
 obtain ⟨A',c',rfl,hn,hc⟩:=hb
 rcases A' with _ | ad
 ·cases e
 ·have h0:=hc ad rfl 0 _ (List.getElem?_eq_getElem (List.length_pos_iff.2 hne))
  obtain ⟨B,off,sp⟩:=ad
  have eB:B=g:=Option.some.inj e
  subst eB
  have hs:sp=none:=by simpa [Addr.add] using World.cell?_spot h0
  subst hs
  rw [add_none,cell_of_row w B _ _ _ _ h] at h0
  match off,h0 with
  | 0,h0=>simp [bv] at h0
  | 1,h0=>simp [bv] at h0
  | k+2,h0=>simp at h0
theorem TkB.stay {A:Option Addr} {n c:Nat} (h:TkB w g (.slice A n c)) (hb:Bts w u bs) (hk:Kp (fun k=>k=g) w w1):Bts w1 u bs:=by
 by_cases e:bs=[]
 ·subst e
  obtain ⟨A',c',rfl,hn,hc⟩:=hb
  exact ⟨A',c',rfl,hn,fun ad ha j u hu=>by simp at hu⟩
 ·exact hb.keep hk fun k hk' e'=>h.off hb e (by rw [hk',e'])
theorem TkAt.no (h:TkAt w g bs) (hk:Kp No w w1):TkAt w1 g bs:=by
 obtain ⟨A,n,c,h1,h2,h3⟩:=h
 exact ⟨A,n,c,h1.no hk,h2.no hk,h3⟩
theorem TkAt.lt (h:TkAt w g bs):g < w.heap.size:=by
 obtain ⟨A,n,c,h1,h2,h3⟩:=h
 exact h1.lt
end
def TawPost (w:World) (g:Nat) (xs ys:List UInt8) (e:Ending) (w1:World):Prop:=∃ A m c,e=.returned (.slice A m c)∧Bts w1 (.slice A m c) xs∧TkAt w1 g ys∧Kp (fun b=>b=g) w w1
theorem traw_any {w:World} {g k:Nat} {bs:List UInt8} (h:TkAt w g bs) (hk:k≤bs.length) (hbig:k≤100000000):Calls Tryz.prog 112 #[.pointer (some ⟨g,0,none⟩),.int .i64 (k:Int)] w (TawPost w g (bs.take k) (bs.drop k)):=by
 obtain ⟨A,n,c,hg,hb,hnc⟩:=h
 have hl:=hb.len
 obtain ⟨s1,b1,r1⟩:=slice_u hb hnc k (k:Int) rfl (by omega)
 obtain ⟨A2,s2,b2,r2⟩:=slice_l hb hnc k (n - k) (c - k) (k:Int) rfl (by omega) rfl rfl
 have c0:=hg.c0
 have f0:=hg.fz 0
 have z1:¬ (k:Int) < 0:=by omega
 have z2:¬ (n:Int) < (k:Int):=by omega
 have HB1:=hide b1
 have HB2:=hide b2
 have HG:=hide hg
 obtain ⟨m,hm⟩:∃ m,m=n - k:=⟨_,rfl⟩
 obtain ⟨d,hd⟩:∃ m,m=c - k:=⟨_,rfl⟩
 rw [← hm,← hd] at s2 HB2 r2
 have HR:=hide r2
 clear b1 b2 hg hb hl hk hm hd r1 r2
 go_enter Tryz.func112,Tryz.ntmps112
 go_wp2
 go_ret
 have K:=Kp.setCell (S:=fun b=>b=g) (p:=⟨g,0,none⟩) (w:=w) rfl (.slice A2 m d)
 exact ⟨A,k,c,rfl,HG.out.stay HB1.out K,⟨A2,m,d,HG.out.set0 _,HG.out.stay HB2.out K,HR.out⟩,K⟩
def TknPost (w:World) (g z:Nat) (ys:List UInt8) (e:Ending) (w1:World):Prop:=e=.returned (.int .u64 (z:Int))∧TkAt w1 g ys∧Kp (fun b=>b=g) w w1
theorem tnum_any {w:World} {g k:Nat} {bs:List UInt8} (h:TkAt w g bs) (hk:k≤bs.length) (h8:k≤8):Calls Tryz.prog 82 #[.pointer (some ⟨g,0,none⟩),.int .i64 (k:Int)] w (TknPost w g (ofB (bs.take k)) (bs.drop k)):=by
 have hr:=traw_any h hk (by omega)
 have HR:=hide hr
 have HL:Hid ((bs.take k).length≤8):=by show _≤_; rw [List.length_take]; omega
 clear hr h hk
 have z1:¬ (k:Int) < 0:=by omega
 have z2:¬ (8:Int) < (k:Int):=by omega
 go_enter Tryz.func82,Tryz.ntmps82
 go_wp2_with fail
 refine HR.out.mono ?_
 rintro e w1 ⟨A,m,c,rfl,hb,ht,hk1⟩
 go_wp2_with fail
 refine (rof_any hb HL.out).mono ?_
 rintro e w' ⟨rfl,rfl⟩
 go_wp2_with fail
 go_ret
 exact ⟨rfl,ht,hk1⟩
section
variable {w w1:World} {b g:Nat} {o0 o1 o2 o3:Int} {u:Value} {bs:List UInt8}
theorem Box4.stay (h:Box4 w b (.int .u32 o0) (.int .u16 o1) (.int .u16 o2) (.int .u32 o3)) (hb:Bts w u bs) (hk:Kp (fun k=>k=b) w w1):Bts w1 u bs:=by
 by_cases e:bs=[]
 ·subst e
  obtain ⟨A',c',rfl,hn,hc⟩:=hb
  exact ⟨A',c',rfl,hn,fun ad ha j u hu=>by simp at hu⟩
 ·refine hb.keep hk fun k hk' e'=>?_
  subst e'
  obtain ⟨A',c',rfl,hn,hc⟩:=hb
  rcases A' with _ | ad
  ·cases hk'
  ·have h0:=hc ad rfl 0 _ (List.getElem?_eq_getElem (List.length_pos_iff.2 e))
   obtain ⟨B,off,sp⟩:=ad
   have eB:B=k:=Option.some.inj hk'
   subst eB
   have hs:sp=none:=by simpa [Addr.add] using World.cell?_spot h0
   subst hs
   rw [add_none,cell_of_row w B _ _ _ _ h] at h0
   match off,h0 with
   | 0,h0=>simp [bv] at h0
   | 1,h0=>simp [bv] at h0
   | 2,h0=>simp [bv] at h0
   | 3,h0=>simp [bv] at h0
   | k+4,h0=>simp at h0
theorem TkAt.sh (h:TkAt w g bs) (hB:Box4 w b (.int .u32 o0) (.int .u16 o1) (.int .u16 o2) (.int .u32 o3)) (hne:g≠b) (j:Nat) (v:Value):TkAt (w.setCell ⟨b,j,none⟩ v) g bs:=by
 obtain ⟨A,n,c,h1,h2,h3⟩:=h
 have K:=Kp.setCell (S:=fun k=>k=b) (p:=⟨b,j,none⟩) (w:=w) rfl v
 exact ⟨A,n,c,(K.block g h1.lt hne).trans h1,hB.stay h2 K,h3⟩
end
def TsPost (w:World) (g s:Nat) (ys:List UInt8) (e:Ending) (w1:World):Prop:=e=.returned (shV s)∧TkAt w1 g ys∧Kp (fun b=>b=g) w w1
theorem u32_of {x:Nat} (h:x < 4294967296):IntKind.u32.wrap (x:Int)=(x:Int):=by rw [IntKind.wrap_u32]; omega
theorem u16_of {x:Nat} (h:x < 65536):IntKind.u16.wrap (x:Int)=(x:Int):=by rw [IntKind.wrap_u16]; omega
set_option maxHeartbeats 2000000 in
theorem tshard_parts {w:World} {g:Nat} {y0 y1 y2 y3 y4:List UInt8} {x0 x1 x2 x3:Nat} (hx0:x0 < 4294967296) (hx1:x1 < 65536) (hx2:x2 < 65536) (hx3:x3 < 4294967296) (h:TkAt w g y0)
  (T0:∀ w',TkAt w' g y0→Calls Tryz.prog 82 #[.pointer (some ⟨g,0,none⟩),.int .i64 4] w' (TknPost w' g x0 y1)) (T1:∀ w',TkAt w' g y1→Calls Tryz.prog 82 #[.pointer (some ⟨g,0,none⟩),.int .i64 2] w' (TknPost w' g x1 y2))
  (T2:∀ w',TkAt w' g y2→Calls Tryz.prog 82 #[.pointer (some ⟨g,0,none⟩),.int .i64 2] w' (TknPost w' g x2 y3)) (T3:∀ w',TkAt w' g y3→Calls Tryz.prog 82 #[.pointer (some ⟨g,0,none⟩),.int .i64 4] w' (TknPost w' g x3 y4)) :
  Calls Tryz.prog 83 #[.pointer (some ⟨g,0,none⟩)] w fun e w1=>e=.returned (.agg #[.int .u32 (x0:Int),.int .u16 (x1:Int),.int .u16 (x2:Int),.int .u32 (x3:Int)])∧TkAt w1 g y4∧Kp (fun b=>b=g) w w1:=by
 have H':∀ ob1 ob2:Obj,TkAt ((w.alloc ob1).alloc ob2) g y0:=fun ob1 ob2=>(h.no (Kp.alloc No w ob1)).no (Kp.alloc No _ ob2)
 have hg:=h.lt
 have HH:=hide H'
 have HT0:=hide T0
 have HT1:=hide T1
 have HT2:=hide T2
 have HT3:=hide T3
 have e0:=u32_of hx0
 have e1:=u16_of hx1
 have e2:=u16_of hx2
 have e3:=u32_of hx3
 clear H' h T0 T1 T2 T3
 have ng:g≠w.heap.size+1:=by omega
 have ng0:g≠w.heap.size:=by omega
 go_enter Tryz.func83,Tryz.ntmps83
 go_wp2_with fail
 refine (HT0.out _ (HH.out _ _)).mono ?_
 rintro e w1 ⟨rfl,hr,hk⟩
 have B1:Box4 w1 (w.heap.size+1) (.int .u32 0) (.int .u16 0) (.int .u16 0) (.int .u32 0):=(Box4.new2 w _ _ _ _ _).keep hk (fun e=>ng e.symm)
 have R1:Box4 w1 w.heap.size (.int .u32 0) (.int .u16 0) (.int .u16 0) (.int .u32 0):=(Box4.new1 w _ _ _ _ _).keep hk (fun e=>ng0 e.symm)
 have K1:Kp (fun b=>b=g) w w1:=((Kp.alloc _ w _).trans' (Kp.alloc _ _ _)).trans' hk
 obtain ⟨p0,p1,p2,p3⟩:=B1.cell
 have f0:=B1.frozen 0
 go_wp2_with fail
 clear p0 p1 p2 p3 f0
 have K1':=K1.trans (Kp.setCell (S:=Up (fun b=>b=g) w) (p:=⟨w.heap.size+1,0,none⟩) (w:=w1) (.inr (Nat.le_succ _)) (.int .u32 (x0:Int)))
 refine (HT1.out _ (hr.sh B1 ng 0 _)).mono ?_
 rintro e w2 ⟨rfl,hr2,hk2⟩
 have B2:=(B1.set0 (.int .u32 x0)).keep hk2 (fun e=>ng e.symm)
 have R2:=(R1.keep (Kp.setCell (S:=fun k=>k=w.heap.size+1) (p:=⟨w.heap.size+1,0,none⟩) rfl (.int .u32 x0)) (by omega)).keep hk2 (fun e=>ng0 e.symm)
 have K2:=K1'.trans' hk2
 obtain ⟨p0,p1,p2,p3⟩:=B2.cell
 have f0:=B2.frozen 1
 go_wp2_with fail
 clear p0 p1 p2 p3 f0
 have K2':=K2.trans (Kp.setCell (S:=Up (fun b=>b=g) w) (p:=⟨w.heap.size+1,1,none⟩) (w:=w2) (.inr (Nat.le_succ _)) (.int .u16 (x1:Int)))
 refine (HT2.out _ (hr2.sh B2 ng 1 _)).mono ?_
 rintro e w3 ⟨rfl,hr3,hk3⟩
 have B3:=(B2.set1 (.int .u16 x1)).keep hk3 (fun e=>ng e.symm)
 have R3:=(R2.keep (Kp.setCell (S:=fun k=>k=w.heap.size+1) (p:=⟨w.heap.size+1,1,none⟩) rfl (.int .u16 x1)) (by omega)).keep hk3 (fun e=>ng0 e.symm)
 have K3:=K2'.trans' hk3
 obtain ⟨p0,p1,p2,p3⟩:=B3.cell
 have f0:=B3.frozen 2
 go_wp2_with fail
 clear p0 p1 p2 p3 f0
 have K3':=K3.trans (Kp.setCell (S:=Up (fun b=>b=g) w) (p:=⟨w.heap.size+1,2,none⟩) (w:=w3) (.inr (Nat.le_succ _)) (.int .u16 (x2:Int)))
 refine (HT3.out _ (hr3.sh B3 ng 2 _)).mono ?_
 rintro e w4 ⟨rfl,hr4,hk4⟩
 have B4:=(B3.set2 (.int .u16 x2)).keep hk4 (fun e=>ng e.symm)
 have R4:=(R3.keep (Kp.setCell (S:=fun k=>k=w.heap.size+1) (p:=⟨w.heap.size+1,2,none⟩) rfl (.int .u16 x2)) (by omega)).keep hk4 (fun e=>ng0 e.symm)
 have K4:=K3'.trans' hk4
 have B5:=B4.set3 (.int .u32 x3)
 obtain ⟨p0,p1,p2,p3⟩:=B4.cell
 obtain ⟨s0,s1,s2,s3⟩:=B5.cell
 have f3:=B4.frozen 3
 have R5:=R4.keep (Kp.setCell (S:=fun k=>k=w.heap.size+1) (p:=⟨w.heap.size+1,3,none⟩) rfl (.int .u32 x3)) (by omega)
 have K4':=K4.trans (Kp.setCell (S:=Up (fun b=>b=g) w) (p:=⟨w.heap.size+1,3,none⟩) (w:=w4) (.inr (Nat.le_succ _)) (.int .u32 (x3:Int)))
 have q5:=hr4.sh B4 ng 3 (.int .u32 x3)
 have q6:=q5.sh R5 ng0 0 (.int .u32 x0)
 have R6:=R5.set0 (.int .u32 x0)
 have q7:=q6.sh R6 ng0 1 (.int .u16 x1)
 have R7:=R6.set1 (.int .u16 x1)
 have q8:=q7.sh R7 ng0 2 (.int .u16 x2)
 have R8:=R7.set2 (.int .u16 x2)
 have q9:=q8.sh R8 ng0 3 (.int .u32 x3)
 have R9:=R8.set3 (.int .u32 x3)
 have K9:=(((K4'.trans (Kp.setCell (S:=Up (fun b=>b=g) w) (p:=⟨w.heap.size,0,none⟩) (.inr (Nat.le_refl _)) (.int .u32 (x0:Int)))).trans (Kp.setCell (S:=Up (fun b=>b=g) w) (p:=⟨w.heap.size,1,none⟩) (.inr (Nat.le_refl _)) (.int .u16 (x1:Int)))).trans (Kp.setCell (S:=Up (fun b=>b=g) w) (p:=⟨w.heap.size,2,none⟩) (.inr (Nat.le_refl _)) (.int .u16 (x2:Int)))).trans (Kp.setCell (S:=Up (fun b=>b=g) w) (p:=⟨w.heap.size,3,none⟩) (.inr (Nat.le_refl _)) (.int .u32 (x3:Int)))
 obtain ⟨t0,t1,t2,t3⟩:=R5.cell
 have g0:=R5.frozen 0
 have g1:=R5.frozen 1
 have g2:=R5.frozen 2
 have g3:=R5.frozen 3
 obtain ⟨z0,z1,z2,z3⟩:=R9.cell
 have HQ:=hide (And.intro q9 K9)
 clear q5 q6 q7 q8 q9 R6 R7 R8 R9 K1 K1' K2 K2' K3 K3' K4 K4' K9 hr hk hr2 hk2 hr3 hk3 hr4 hk4 B1 B2 B3 B4 B5 R1 R2 R3 R4 R5 HT0 HT1 HT2 HT3
 go_wp2
 refine bodyPost_ret (v:=.agg #[.int .u32 (x0:Int),.int .u16 (x1:Int),.int .u16 (x2:Int),.int .u32 (x3:Int)]) (by simp [results,Tryz.results83,go_sem,z0,z1,z2,z3]) rfl ⟨rfl,HQ.out.1,HQ.out.2⟩
theorem tshard_any {w:World} {g:Nat} {bs:List UInt8} (h:TkAt w g bs) (hl:12≤bs.length):Calls Tryz.prog 83 #[.pointer (some ⟨g,0,none⟩)] w (TsPost w g (nmO bs) (bs.drop 12)):=by
 obtain ⟨p0,p1,p2,p3⟩:=nm_c bs
 have hN:shV (nmO bs)=.agg #[.int .u32 (ofB (bs.take 4):Int),.int .u16 (ofB ((bs.drop 4).take 2):Int),.int .u16 (ofB ((bs.drop 6).take 2):Int),.int .u32 (ofB ((bs.drop 8).take 4):Int)]:=by unfold shV; rw [p0,p1,p2,p3]
 have T1:=fun w' (h:TkAt w' g (bs.drop 4))=>tnum_any h (show 2≤(bs.drop 4).length by rw [List.length_drop]; omega) (by omega)
 have T2:=fun w' (h:TkAt w' g (bs.drop 6))=>tnum_any h (show 2≤(bs.drop 6).length by rw [List.length_drop]; omega) (by omega)
 have T3:=fun w' (h:TkAt w' g (bs.drop 8))=>tnum_any h (show 4≤(bs.drop 8).length by rw [List.length_drop]; omega) (by omega)
 rw [List.drop_drop] at T1 T2 T3
 unfold TsPost
 rw [hN]
 exact tshard_parts (ofB_take 4) (ofB_take 2) (ofB_take 2) (ofB_take 4) h (fun w' h'=>tnum_any h' (Nat.le_trans (by decide) hl) (by decide)) T1 T2 T3
end Go.Proofs.YtnfcfdhlmeimhaaGreat
