/- Package seal's Sum and Go and the document's Sum, each as a contract over memory; The document's own answers for package pack (a text, a shard, rows joined), each as a contract over memory; Package seal's Frame and the document's Frame, each as a contract over memory; A slice of bytes cut: b[l:u], b[:u] and b[l:], what each reads as and that it doesn't panic; no condition; Rows brought to steps, in plain words: a column's step, what it keeps, the rank, and what solves equations. No condition; Rows of rows of bytes of the call's own, whose rows are set, swapped and written: what memory holds. No condition; Package solve's leader, divide and addTimes, each as a contract over memory; A region that draws its order and whose last operation stores where the others read: the others may be taken first under a condition that holds up to that store. And append as one step of a region. No condition; The document's times and plus, each as a contract over memory. -/
import Derived.Test.YtnfcfdhlmeimhaaGreatSpab
import Derived.IntWalk
import Derived.Laws.BitsAllLaws
import Derived.Deep.RegionHeld3
import Derived.Test.YtnfcfdhlmeimhaaGreatSpaa
import Derived.StillTailTactics
namespace Go.Proofs.YtnfcfdhlmeimhaaGreat
open Go.RowKit
set_option linter.unusedVariables false
set_option maxRecDepth 20000
set_option linter.unusedSimpArgs false
/-- The sum of any bytes whose sum is s, and bs behind them. -/
def goS (s:Nat) (bs:List UInt8):Nat:=c1s - cbs (c1s - s) bs
theorem goS_crc (a b:List UInt8):goS (crc a) b=crc (a ++ b):=crc_go a b
/-- One bit, as the program reckons. -/
theorem bit_step (x:Nat) (h:x < 4294967296):bits .xor .u32 ((x:Int) / 2) (bits .and .u32 (-(bits .and .u32 (x:Int) 1) % 4294967296) 2197175160)=((cb x:Nat):Int):=by
  have e1:bits .and .u32 (x:Int) 1=((x % 2:Nat):Int):=by
    have:=u32_and_nat x 1 h (by omega)
    rw [Nat.and_one_is_mod] at this
    exact this
  have e2:((x:Int) / 2)=((x / 2:Nat):Int):=by omega
  rw [e1,e2]
  rcases (by omega:x % 2=0∨x % 2=1) with g | g
  · have e3:bits .and .u32 (-((x % 2:Nat):Int) % 4294967296) 2197175160=((0:Nat):Int):=by
      rw [g]; exact u32_and_nat 0 2197175160 (by omega) (by omega)
    rw [e3,u32_xor_nat _ _ (by omega) (by omega),Nat.xor_zero]
    unfold cb; rw [if_neg (by omega)]
  · have e3:bits .and .u32 (-((x % 2:Nat):Int) % 4294967296) 2197175160=((2197175160:Nat):Int):=by
      rw [g]; exact (u32_and_nat 4294967295 2197175160 (by omega) (by omega)).trans (by decide)
    rw [e3,u32_xor_nat _ _ (by omega) (by omega)]
    unfold cb; rw [if_pos g]
theorem byte_in (q:Nat) (b:UInt8) (h:q < 4294967296):bits .xor .u32 (q:Int) (b.toNat:Int)=((q ^^^ b.toNat:Nat):Int)∧q ^^^ b.toNat < 4294967296:=by
  have:=b.toNat_lt
  exact ⟨u32_xor_nat _ _ h (by omega),Nat.xor_lt_two_pow (n:=32) h (by omega)⟩
theorem ones_xor (x:Nat) (h:x < 4294967296):bits .xor .u32 IntKind.u32.max (x:Int)=((c1s - x:Nat):Int):=by
  have e:IntKind.u32.max=((c1s:Nat):Int):=by decide
  rw [e,u32_xor_nat _ _ (by decide) h,comp_xor h,Nat.xor_comm]
theorem cn_step (k x:Nat):cb (cn k x)=cn (k+1) x:=by rw [cn_add]; rfl
theorem cbs_step {bs:List UInt8} {j:Nat} {b:UInt8} (c:Nat) (h:bs[j]?=some b):cbs c (bs.take (j+1))=cn 8 (cbs c (bs.take j) ^^^ b.toNat):=by
  obtain ⟨hj,e⟩:=List.getElem?_eq_some_iff.1 h
  rw [List.take_succ_eq_append_getElem hj,cbs_app,e]
  rfl
set_option maxHeartbeats 1000000 in
theorem sgo_any {w:World} {bs:List UInt8} {u:Value} (s:Nat) (hs:s < 4294967296) (hu:Bts w u bs) (hl:bs.length≤900000000) :
    Calls Tryz.prog 150 #[.int .u32 s,u] w fun e w'=>e=.returned (.int .u32 ((goS s bs:Nat):Int))∧w=w':=by
  obtain ⟨A,m,c,rfl⟩:=hu.form
  have HM:=hide hu.len
  have hm2:m≤900000000:=by have:=HM.out; omega
  go_enter Tryz.func150,Tryz.ntmps150
  go_wp2
  go_loop [5,7,12,20] (fun r _ i _=>∃ (j q:Nat),j≤m∧i=.int .i64 (j:Int)∧r=.int .u32 (q:Int)∧q < 4294967296∧Hid (q=cbs (c1s - s) (bs.take j))) (fun _ _ i _=>m - (intOf i).toNat)
  case atStart=>exact ⟨0,c1s - s,by omega,rfl,by rw [ones_xor s hs],by unfold c1s; omega,rfl⟩
  case round =>
    obtain ⟨j,q,hj,rfl,rfl,hq,HQ⟩:=hrel
    by_cases hlt:j < m
    · obtain ⟨B,off,b,hA,hb',hcell⟩:=hu.at_ hlt
      have HB:=hide hb'
      clear hb'
      subst hA
      have hbl:=b.toNat_lt
      go_wp2
      go_loop [5,20] (fun r i=>∃ (k x:Nat),k≤8∧i=.int .i64 (k:Int)∧r=.int .u32 (x:Int)∧x < 4294967296∧Hid (x=cn k (q ^^^ b.toNat))) (fun _ i=>8 - (intOf i).toNat)
      case atStart=>exact ⟨0,q ^^^ b.toNat,by omega,rfl,by rw [(byte_in q b hq).1],(byte_in q b hq).2,rfl⟩
      case round =>
        obtain ⟨k,x,hk,rfl,rfl,hx,HX⟩:=hrel
        by_cases hk8:k < 8
        · go_wp2
          go_round
          case rel=>exact ⟨k+1,cb x,by omega,by go_num,by rw [bit_step x hx],cb_lt hx,by show cb x=_; rw [HX.out,cn_step]⟩
          case measure=>simp [intOf]; omega
        · have hk9:k=8:=by omega
          subst hk9
          go_wp2
          go_round
          case rel=>exact ⟨j+1,x,by omega,by go_num,rfl,hx,by show x=_; rw [HX.out,HQ.out,cbs_step _ HB.out]⟩
          case measure=>simp [intOf]; omega
    · have hjm:j=m:=by omega
      subst hjm
      go_wp2
      go_ret
      refine ⟨?_,rfl⟩
      rw [ones_xor q hq,HQ.out,List.take_of_length_le (by have:=HM.out; omega)]
      rfl
theorem ssum_any {w:World} {bs:List UInt8} {u:Value} (hu:Bts w u bs) (hl:bs.length≤900000000) :
    Calls Tryz.prog 151 #[u] w fun e w'=>e=.returned (.int .u32 ((crc bs:Nat):Int))∧w=w':=by
  go_enter Tryz.func151,Tryz.ntmps151
  go_wp2_with (go_at_call 150; refine (sgo_any 0 (by omega) hu hl).mono ?_; rintro e w' ⟨rfl,rfl⟩)
  go_ret
  exact ⟨rfl,rfl⟩
set_option maxHeartbeats 1000000 in
/-- The document's Sum. -/
theorem srsum_any {w:World} {bs:List UInt8} {u:Value} (hu:Bts w u bs) (hl:bs.length≤900000000) :
    Calls Tryz.prog 136 #[u] w fun e w'=>e=.returned (.int .u32 ((crc bs:Nat):Int))∧w=w':=by
  obtain ⟨A,m,c,rfl⟩:=hu.form
  have HM:=hide hu.len
  have hm2:m≤900000000:=by have:=HM.out; omega
  go_enter Tryz.func136,Tryz.ntmps136
  go_wp2
  go_loop [3,4,5,6] (fun r i _ _=>∃ (j q:Nat),j≤m∧i=.int .i64 (j:Int)∧r=.int .u32 (q:Int)∧q < 4294967296∧Hid (q=cbs c1s (bs.take j))) (fun _ i _ _=>m - (intOf i).toNat)
  case atStart=>exact ⟨0,c1s,by omega,rfl,rfl,by decide,rfl⟩
  case round =>
    obtain ⟨j,q,hj,rfl,rfl,hq,HQ⟩:=hrel
    by_cases hlt:j < m
    · obtain ⟨B,off,b,hA,hb',hcell⟩:=hu.at_ hlt
      have HB:=hide hb'
      clear hb'
      subst hA
      have hbl:=b.toNat_lt
      go_wp2
      go_loop [3,5,6] (fun r i _=>∃ (k x:Nat),k≤8∧i=.int .i64 (k:Int)∧r=.int .u32 (x:Int)∧x < 4294967296∧Hid (x=cn k (q ^^^ b.toNat))) (fun _ i _=>8 - (intOf i).toNat)
      case atStart=>exact ⟨0,q ^^^ b.toNat,by omega,rfl,by rw [(byte_in q b hq).1],(byte_in q b hq).2,rfl⟩
      case round =>
        obtain ⟨k,x,hk,rfl,rfl,hx,HX⟩:=hrel
        by_cases hk8:k < 8
        · rcases (by omega:x % 2=1∨x % 2=0) with g | g
          · have hodd:(x:Int) % 2=1:=by omega
            have e1:cb x=x / 2 ^^^ 2197175160:=by unfold cb; rw [if_pos g]
            have E1:=hide e1
            clear e1
            go_wp2
            refine ⟨⟨k+1,cb x,by omega,by go_num,?_,cb_lt hx,by show cb x=_; rw [HX.out,cn_step]⟩,by simp [intOf]; omega⟩
            have e2:bits .xor .u32 ((x / 2:Nat):Int) 2197175160=((x / 2 ^^^ 2197175160:Nat):Int):=u32_xor_nat (x / 2) 2197175160 (by omega) (by omega)
            rw [show ((x:Int) / 2)=((x / 2:Nat):Int) by omega,e2,E1.out]
          · have hodd:(x:Int) % 2=0:=by omega
            have e1:cb x=x / 2:=by unfold cb; rw [if_neg (by omega)]
            have E1:=hide e1
            clear e1
            go_wp2
            go_round
            case rel=>exact ⟨k+1,cb x,by omega,by go_num,by rw [E1.out]; rfl,cb_lt hx,by show cb x=_; rw [HX.out,cn_step]⟩
            case measure=>simp [intOf]; omega
        · have hk9:k=8:=by omega
          subst hk9
          go_wp2
          go_round
          case rel=>exact ⟨j+1,x,by omega,by go_num,rfl,hx,by show x=_; rw [HX.out,HQ.out,cbs_step _ HB.out]⟩
          case measure=>simp [intOf]; omega
    · have hjm:j=m:=by omega
      subst hjm
      go_wp2
      go_ret
      refine ⟨?_,rfl⟩
      have e:q=cbs c1s bs:=by rw [HQ.out,List.take_of_length_le (by have:=HM.out; omega)]
      show Ending.returned (.int .u32 (4294967295 - (q:Int)))=_
      have e2:(4294967295 - (q:Int))=((crc bs:Nat):Int):=by unfold crc; rw [← e]; unfold c1s; omega
      rw [e2]
end Go.Proofs.YtnfcfdhlmeimhaaGreat
namespace Go.Proofs.YtnfcfdhlmeimhaaGreat
open Go.RowKit
set_option linter.unusedVariables false
set_option maxRecDepth 20000
/-- From block b on lie the slices vs, which read as the rows bss. -/
structure RowsAt (w:World) (b:Nat) (vs:List Value) (bss:List (List UInt8)):Prop where
  len:vs.length=bss.length
  cell:∀ (j:Nat) v,vs[j]?=some v→w.cell? ⟨b,j,none⟩=some v
  bts:∀ (j:Nat) v bs,vs[j]?=some v→bss[j]?=some bs→Bts w v bs
theorem RowsAt.keep {w w1:World} {b:Nat} {vs:List Value} {bss:List (List UInt8)} (h:RowsAt w b vs bss) (hk:Kp No w w1):RowsAt w1 b vs bss :=
  ⟨h.len,fun j v hj=>hk.cell (h.cell j v hj) (fun f=>f),fun j v bs hj hb=>(h.bts j v bs hj hb).keep hk fun _ _ f=>f⟩
theorem RowsAt.new (w:World) (vs:List Value) (bss:List (List UInt8)) (hl:vs.length=bss.length) (hb:∀ (j:Nat) v bs,vs[j]?=some v→bss[j]?=some bs→Bts w v bs) :
    RowsAt (w.alloc (.cells vs.toArray 54)) w.heap.size vs bss :=
  ⟨hl,fun j v hj=>by rw [World.cell?_alloc_mark]; simpa using hj,fun j v bs hj hbs=>(hb j v bs hj hbs).no (Kp.alloc No w _)⟩
theorem take_flat (bss:List (List UInt8)) (k:Nat) (bs:List UInt8) (h:bss[k]?=some bs):(bss.take (k+1)).flatten=(bss.take k).flatten ++ bs:=by
  have hk:=(List.getElem?_eq_some_iff.1 h).1
  rw [List.take_succ_eq_append_getElem hk,List.flatten_append]
  simp [(List.getElem?_eq_some_iff.1 h).2]
theorem take_flat_le (bss:List (List UInt8)) (k:Nat):(bss.take k).flatten.length≤bss.flatten.length:=by
  conv=>rhs; rw [← List.take_append_drop k bss,List.flatten_append,List.length_append]
  omega
set_option maxHeartbeats 1000000 in
theorem join_any {w:World} {b n:Nat} {vs:List Value} {bss:List (List UInt8)} (h:RowsAt w b vs bss) (hn:n=bss.length) (hs:bss.length≤1000) (hl:bss.flatten.length≤900000000) :
    Calls Tryz.prog 39 #[.slice (some ⟨b,0,none⟩) n n] w (OwnPost w bss.flatten):=by
  obtain ⟨i0,hi0,hz0,hz1,hz2⟩:=byte_parts
  have HN:=hide hn
  have hn2:n≤1000:=by omega
  clear hn
  go_enter Tryz.func39,Tryz.ntmps39
  go_wp2
  go_loopw [3,4] (fun o i wr=>∃ k A l c,k≤n∧i=.int .i64 ((k:Nat):Int)∧o=.slice A l c∧Own wr w.heap.size 5 (.slice A l c) (bss.take k).flatten∧Kp No w wr) (fun _ i _=>n - (intOf i).toNat)
  case atStart=>exact ⟨0,none,0,0,Nat.zero_le _,rfl,rfl,Own.nil _ _ _,Kp.refl _ _⟩
  case round =>
    obtain ⟨k,A,l,c,hk,rfl,rfl,hb,hkp⟩:=hrel
    by_cases hlt:k < n
    · obtain ⟨v,hv⟩:∃ v,vs[k]?=some v:=⟨_,List.getElem?_eq_getElem (by rw [h.len]; have:=HN.out; omega)⟩
      obtain ⟨bs,hbs⟩:∃ bs,bss[k]?=some bs:=⟨_,List.getElem?_eq_getElem (by have:=HN.out; omega)⟩
      have hr:=h.keep hkp
      have hc:wr.cell? ⟨b,k,none⟩=some v:=hr.cell k v hv
      have hbt:=hr.bts k v bs hv hbs
      obtain ⟨B,m,d,rfl⟩:=hbt.form
      have HF:=hide (take_flat bss k bs hbs)
      have hle:(bss.take (k+1)).flatten.length≤900000000:=Nat.le_trans (take_flat_le bss (k+1)) hl
      rw [HF.out,List.length_append] at hle
      have HV:=hide hv
      have HB:=hide hbs
      clear hv hbs
      go_wp2_with (first
        | (at_builtin
           refine wpList_app rfl (.tmp 11) (.tmp 15) _ rfl i0 Tryz.underlying54 hi0 hz0 hz1 hz2 rfl hb rfl hbt ?hl ?hs ?_
           case hl=>omega
           case hs=>exact hkp.size
           intro A1 n1 c1 w1 ha))
      go_round
      case rel=>exact ⟨k+1,A1,n1,c1,by omega,by go_num,rfl,by rw [HF.out]; exact ha.own,ha.keeps hb hkp⟩
      case measure=>simp [intOf]; omega
    · have hkn:k=n:=by omega
      subst hkn
      go_wp2
      go_ret
      have e:bss.take k=bss:=List.take_of_length_le (by have:=HN.out; omega)
      rw [e] at hb
      exact ⟨A,l,c,rfl,hb,hkp⟩
theorem kept4 {W w1:World} {b:Nat} {x0 x1 x2 x3:Value} (hk:Kp No W w1)
    (h:W.cell? ⟨b,0,none⟩=some x0∧W.cell? ⟨b,1,none⟩=some x1∧W.cell? ⟨b,2,none⟩=some x2∧W.cell? ⟨b,3,none⟩=some x3) :
    w1.cell? ⟨b,0,none⟩=some x0∧w1.cell? ⟨b,1,none⟩=some x1∧w1.cell? ⟨b,2,none⟩=some x2∧w1.cell? ⟨b,3,none⟩=some x3 :=
  ⟨hk.cell h.1 fun f=>f,hk.cell h.2.1 fun f=>f,hk.cell h.2.2.1 fun f=>f,hk.cell h.2.2.2 fun f=>f⟩
theorem rows4 {w1 w2 w3 w4:World} {b1 b2 b3 b4:Nat} {v1 v2 v3 v4:Value} {x1 x2 x3 x4:List UInt8} (h1:Own w1 b1 5 v1 x1) (h2:Own w2 b2 5 v2 x2) (h3:Own w3 b3 5 v3 x3) (h4:Own w4 b4 5 v4 x4)
    (k2:Kp No w1 w2) (k3:Kp No w2 w3) (k4:Kp No w3 w4):RowsAt (w4.alloc (.cells #[v1,v2,v3,v4] 54)) w4.heap.size [v1,v2,v3,v4] [x1,x2,x3,x4]:=by
  refine RowsAt.new w4 _ _ rfl ?_
  intro j v bs hj hb
  match j,hj,hb with
  | 0,hj,hb =>
    simp at hj hb
    subst hj hb
    exact ((h1.no k2).no k3).no k4 |>.bts
  | 1,hj,hb =>
    simp at hj hb
    subst hj hb
    exact (h2.no k3).no k4 |>.bts
  | 2,hj,hb =>
    simp at hj hb
    subst hj hb
    exact (h3.no k4).bts
  | 3,hj,hb =>
    simp at hj hb
    subst hj hb
    exact h4.bts
  | j+4,hj,_=>simp at hj
theorem shard_flat (o st sl gn:Nat):[numB o 4,numB st 2,numB sl 2,numB gn 4].flatten=shardB o st sl gn:=by simp [shardB]
set_option maxHeartbeats 4000000 in
theorem rshard_any {w:World} (o st sl gn:Nat) (ho:o < 4294967296) (hst:st < 65536) (hsl:sl < 65536) (hgn:gn < 4294967296) :
    Calls Tryz.prog 41 #[.agg #[.int .u32 o,.int .u16 st,.int .u16 sl,.int .u32 gn]] w (OwnPost w (shardB o st sl gn)):=by
  have z0:o < 18446744073709551616:=by omega
  have z1:st < 18446744073709551616:=by omega
  have z2:sl < 18446744073709551616:=by omega
  have z3:gn < 18446744073709551616:=by omega
  have q0:IntKind.u64.wrap (o:Int)=o:=IntWalk.u64_in _ (by omega)
  have q1:IntKind.u64.wrap (st:Int)=st:=IntWalk.u64_in _ (by omega)
  have q2:IntKind.u64.wrap (sl:Int)=sl:=IntWalk.u64_in _ (by omega)
  have q3:IntKind.u64.wrap (gn:Int)=gn:=IntWalk.u64_in _ (by omega)
  have K4:IsK 4 4:=⟨by omega,by omega⟩
  have K2:IsK 2 2:=⟨by omega,by omega⟩
  go_enter Tryz.func41,Tryz.ntmps41
  go_wp2_with fail
  go_region_held3 (fun w'=>w'.cell? ⟨w.heap.size,0,none⟩=some (.int .u32 o)∧w'.cell? ⟨w.heap.size,1,none⟩=some (.int .u16 st)∧w'.cell? ⟨w.heap.size,2,none⟩=some (.int .u16 sl)∧w'.cell? ⟨w.heap.size,3,none⟩=some (.int .u32 gn)) (first | assumption | go_keep)
    (first
      | (go_at_call 40; ((with_reducible refine (rnum_any o 4 4 z0 K4).mono ?_); rintro e w1 ⟨A1,n1,c1,rfl,ho1,hk1⟩); have s1:=kept4 hk1 (by assumption))
      | (go_at_call 40; ((with_reducible refine (rnum_any st 2 2 z1 K2).mono ?_); rintro e w2 ⟨A2,n2,c2,rfl,ho2,hk2⟩); have s2:=kept4 hk2 (by assumption))
      | (go_at_call 40; ((with_reducible refine (rnum_any sl 2 2 z2 K2).mono ?_); rintro e w3 ⟨A3,n3,c3,rfl,ho3,hk3⟩); have s3:=kept4 hk3 (by assumption))
      | (go_at_call 40; ((with_reducible refine (rnum_any gn 4 4 z3 K4).mono ?_); rintro e w4 ⟨A4,n4,c4,rfl,ho4,hk4⟩); have s4:=kept4 hk4 (by assumption))
      | (go_at_call 39; ((with_reducible refine (join_any (n:=4) (rows4 ho1 ho2 ho3 ho4 hk2 hk3 hk4) rfl (by simp) (by simp [numB_length])).mono ?_); rintro e w5 ⟨A5,n5,c5,rfl,ho5,hk5⟩); have s5:=kept4 (hk4.trans ((Kp.alloc _ _ _).trans (hk5.of_no _))) (by assumption)))
  go_wp2
  go_ret
  have k5:Kp No w w5:=(Kp.alloc No w _).drew.trans' (hk1.trans' (hk2.trans' (hk3.trans' (hk4.trans' ((Kp.alloc No w4 _).trans' hk5)))))
  rw [shard_flat] at ho5
  refine ⟨A5,n5,c5,rfl,ho5.rebase fun k hk=>?_,k5⟩
  have a1:=ho5.ge k hk
  have a2:=((Kp.alloc No w _).drew.trans' (hk1.trans' (hk2.trans' (hk3.trans' hk4)))).size
  simp at a1
  omega
end Go.Proofs.YtnfcfdhlmeimhaaGreat
namespace Go.Proofs.YtnfcfdhlmeimhaaGreat
open Go.RowKit
set_option linter.unusedVariables false
set_option maxRecDepth 20000
set_option linter.unusedSimpArgs false
/-- The eight bytes ahead of a frame's sum. -/
def hdr (k n:Nat):List UInt8:=numB 53021 2 ++ numB k 2 ++ numB n 4
/-- A frame's sum. -/
def fsum (k:Nat) (bs:List UInt8):Nat:=crc (hdr k bs.length ++ bs)
/-- A frame. -/
def frm (k:Nat) (bs:List UInt8):List UInt8:=hdr k bs.length ++ numB (fsum k bs) 4 ++ bs
theorem hdr_len (k n:Nat):(hdr k n).length=8:=by simp [hdr,numB_length]
theorem frm_len (k:Nat) (bs:List UInt8):(frm k bs).length=12+bs.length:=by simp [frm,hdr_len,numB_length]; omega
theorem fsum_lt (k:Nat) (bs:List UInt8):fsum k bs < 4294967296:=crc_lt _
/-- The blocks from b on. -/
def Fr (b k:Nat):Prop:=b≤k
theorem Kp.thenFr {w w1 w2:World} (h:Kp No w w1) (k:Kp (Fr w.heap.size) w1 w2):Kp No w w2:=h.trans (k.mono fun _ hk=>.inr hk)
theorem sfsum_any {w:World} {hs bs:List UInt8} {u v:Value} (hu:Bts w u hs) (hv:Bts w v bs) (l1:hs.length≤900000000) (l2:bs.length≤900000000) :
    Calls Tryz.prog 138 #[u,v] w fun e w'=>e=.returned (.int .u32 ((crc (hs ++ bs):Nat):Int))∧w=w':=by
  go_enter Tryz.func138,Tryz.ntmps138
  go_wp2_with fail
  refine (ssum_any hu l1).mono ?_
  rintro e w' ⟨rfl,rfl⟩
  go_wp2_with fail
  refine (sgo_any (crc hs) (crc_lt hs) hv l2).mono ?_
  rintro e w' ⟨rfl,rfl⟩
  rw [goS_crc]
  go_wp2
  go_ret
  exact ⟨rfl,rfl⟩
theorem sfr_no {w:World} {k n c:Nat} {A:Option Addr} (h:65536 < n) :
    Calls Tryz.prog 108 #[.int .u16 k,.slice A n c] w fun e w'=>e=.returned (.slice none 0 0)∧w=w':=by
  go_enter Tryz.func108,Tryz.ntmps108
  go_wp2
  go_ret
  exact ⟨rfl,rfl⟩
set_option maxHeartbeats 1000000 in
theorem sfr_yes {w:World} {k n c:Nat} {A:Option Addr} {bs:List UInt8} (hb:Bts w (.slice A n c) bs) (hk:k < 65536) (h:n≤65536) :
    Calls Tryz.prog 108 #[.int .u16 k,.slice A n c] w (OwnPost w (frm k bs)):=by
  have HL:=hide hb.len
  have hl:bs.length≤65536:=by have:=HL.out; omega
  have K2:IsK 2 2:=⟨by omega,by omega⟩
  have K4:IsK 4 4:=⟨by omega,by omega⟩
  have k0:Kp No w (w.alloc (.cells #[.slice none 0 0] 134)):=Kp.alloc No w _
  have a0:WrAt (w.alloc (.cells #[.slice none 0 0] 134)) (Fr w.heap.size) w.heap.size []:=(WrAt.new w).mono fun k hk=>by subst hk; exact Nat.le_refl _
  have HA:=hide a0
  have HK:=hide k0
  clear a0 k0
  go_enter Tryz.func108,Tryz.ntmps108
  go_wp2_with fail
  refine (num_any (bs:=[]) (F:=Fr w.heap.size) (g:=w.heap.size) 53021 2 2 (by omega) K2 HA.out (by simp)).mono ?_
  rintro e w1 hp
  obtain rfl:=hp.1
  have k1:=HK.out.thenFr hp.2.2
  have a1:=hp.again (fun k hk'=>Nat.le_trans (HK.out.size) hk')
  clear hp
  go_wp2_with fail
  refine (num_any (F:=Fr w.heap.size) (g:=w.heap.size) k 2 2 (by omega) K2 a1 (by simp [numB_length])).mono ?_
  rintro e w2 hp
  obtain rfl:=hp.1
  have k2:=k1.thenFr hp.2.2
  have a2:=hp.again (fun k hk'=>Nat.le_trans (k1.size) hk')
  clear hp a1
  go_wp2_with fail
  refine (num_any (F:=Fr w.heap.size) (g:=w.heap.size) n 4 4 (by omega) K4 a2 (by simp [numB_length])).mono ?_
  rintro e w3 hp
  obtain rfl:=hp.1
  have k3:=k2.thenFr hp.2.2
  have a3:=hp.again (fun k hk'=>Nat.le_trans (k2.size) hk')
  clear hp a2
  have e3:([] ++ numB 53021 2 ++ numB k 2 ++ numB n 4)=hdr k bs.length:=by rw [← HL.out]; rfl
  rw [e3] at a3
  clear e3
  go_wp2_with fail
  refine (bytes_any (g:=w.heap.size) a3 (by rw [hdr_len]; omega)).mono ?_
  rintro e w4 ⟨A4,n4,c4,rfl,ho4,hk4⟩
  have k4:=k3.trans' hk4
  have a4:=a3.keep hk4 (fun _ _ _ f=>f)
  clear a3
  go_wp2_with fail
  refine (sfsum_any ho4.bts (hb.no k4) (by rw [hdr_len]; omega) (by omega)).mono ?_
  rintro e w' ⟨rfl,rfl⟩
  rw [show crc (hdr k bs.length ++ bs)=fsum k bs from rfl]
  have hs:=fsum_lt k bs
  go_wp2_with fail
  refine (num_any (F:=Fr w.heap.size) (g:=w.heap.size) (fsum k bs) 4 4 (by omega) K4 a4 (by simp [hdr_len])).mono ?_
  rintro e w5 hp
  obtain rfl:=hp.1
  have k5:=k4.thenFr hp.2.2
  have a5:=hp.again (fun k hk'=>Nat.le_trans (k4.size) hk')
  clear hp a4
  go_wp2_with fail
  refine (raw_any (F:=Fr w.heap.size) (g:=w.heap.size) a5 (hb.no k5) (by simp [hdr_len,numB_length]; omega)).mono ?_
  rintro e w6 hp
  obtain rfl:=hp.1
  have k6:=k5.thenFr hp.2.2
  have a6:=hp.again (fun k hk'=>Nat.le_trans (k5.size) hk')
  clear hp a5
  rw [show hdr k bs.length ++ numB (fsum k bs) 4 ++ bs=frm k bs from rfl] at a6
  go_wp2_with fail
  refine (bytes_any (g:=w.heap.size) a6 (by rw [frm_len]; omega)).mono ?_
  rintro e w7 ⟨A7,n7,c7,rfl,ho7,hk7⟩
  have z6:=k6.size
  go_wp2
  go_ret
  exact ⟨A7,n7,c7,rfl,ho7.rebase fun j hj=>Nat.le_trans z6 (ho7.ge j hj),k6.trans' hk7⟩
end Go.Proofs.YtnfcfdhlmeimhaaGreat
namespace Go.Proofs.YtnfcfdhlmeimhaaGreat
open Go.RowKit
set_option linter.unusedVariables false
set_option maxRecDepth 20000
set_option linter.unusedSimpArgs false
theorem bts_upto {w:World} {A:Option Addr} {m c k:Nat} {bs:List UInt8} (h:Bts w (.slice A m c) bs) (hk:k≤m):Bts w (.slice A k c) (bs.take k):=by
  have hl:=h.len
  obtain ⟨A',c',e,hn,hc⟩:=h
  injection e with e1 e2 e3
  subst e1 e3
  refine ⟨A,c,by rw [List.length_take]; congr 1; omega,fun ha=>⟨by rw [(hn ha).1]; simp,(hn ha).2⟩,fun ad ha j u hu=>?_⟩
  rw [List.getElem?_take] at hu
  split at hu
  · exact hc ad ha j u hu
  · cases hu
theorem add_two (a:Addr) (i j:Nat):(a.add i).add j=a.add (i+j):=by
  unfold Addr.add
  by_cases hi:i=0 <;> by_cases hj:j=0 <;> simp [hi,hj,Nat.add_assoc]
theorem bts_from {w:World} {A:Option Addr} {m c k:Nat} {bs:List UInt8} (h:Bts w (.slice A m c) bs) (hk:k≤m) (hm:m≤c) :
    Bts w (.slice (if c=k then A else A.map (·.add k)) (m - k) (c - k)) (bs.drop k):=by
  have hl:=h.len
  obtain ⟨A',c',e,hn,hc⟩:=h
  injection e with e1 e2 e3
  subst e1 e3
  refine ⟨_,c - k,by rw [List.length_drop]; congr 1; omega,fun ha=>?_,fun ad ha j u hu=>?_⟩
  · split at ha
    · have:=hn ha
      exact ⟨by rw [this.1]; simp,by omega⟩
    · rw [Option.map_eq_none_iff] at ha
      have:=hn ha
      exact ⟨by rw [this.1]; simp,by omega⟩
  · rw [List.getElem?_drop] at hu
    have hlt:=(List.getElem?_eq_some_iff.1 hu).1
    rw [if_neg (by omega)] at ha
    obtain ⟨ad',ha',rfl⟩:=Option.map_eq_some_iff.1 ha
    rw [add_two]
    exact hc ad' ha' _ u hu
theorem size_bytes (w:World):(sizeOf (Tryz.prog.elem 54)).run Tryz.prog w=.ok 1 w:=by
  obtain ⟨i0,hi0,hz0,hz1,hz2⟩:=byte_parts
  have he:Tryz.prog.elem 54=5:=by kernel_rfl
  have hc:Tryz.prog.cellsOf 5=1:=by kernel_rfl
  rw [he]
  simp [run_sizeOf,hi0,hz1,hc]
theorem elem_bytes:Tryz.prog.underlying 54=some (.slice (Tryz.prog.elem 54)):=by
  have he:Tryz.prog.elem 54=5:=by kernel_rfl
  rw [he]; exact Tryz.underlying54
section
variable {w:World} {A:Option Addr} {n c:Nat} {bs:List UInt8}
/-- b[l:u], in every world in which b reads as something. -/
theorem slice_lu_all (n c:Nat) (A:Option Addr) (hnc:n≤c) (l u r rc:Nat) (x y:Int) (hx:x=l) (hy:y=u) (hlu:l≤u) (hu:u≤n) (hr:r=u - l) (hrc:rc=c - l) :
    ∃ A',(∀ w',(Instr.slice 54 (.slice A n c) (some (.int .i64 x)) (some (.int .i64 y)) none).run Tryz.prog w'=.ok (.slice A' r rc) w')∧(∀ w bs,Bts w (.slice A n c) bs→Bts w (.slice A' r rc) ((bs.drop l).take r))∧r≤rc:=by
  subst hx hy hr hrc
  refine ⟨if c=l then A else A.map (·.add l),fun w'=>?_,fun w bs h=>bts_upto (bts_from h (by omega) hnc) (by omega),by omega⟩
  rw [run_slice_lh w' _ _ _ _ elem_bytes .i64 .i64 _ _ (by omega) (by omega) (by omega),size_bytes]
  simp only [Result.andThen,sliced,Int.toNat_natCast,Nat.mul_one]
/-- b[l:u]. -/
theorem slice_lu (h:Bts w (.slice A n c) bs) (hnc:n≤c) (l u r rc:Nat) (x y:Int) (hx:x=l) (hy:y=u) (hlu:l≤u) (hu:u≤n) (hr:r=u - l) (hrc:rc=c - l) :
    ∃ A',(∀ w',(Instr.slice 54 (.slice A n c) (some (.int .i64 x)) (some (.int .i64 y)) none).run Tryz.prog w'=.ok (.slice A' r rc) w')∧Bts w (.slice A' r rc) ((bs.drop l).take r)∧r≤rc:=by
  obtain ⟨A',h1,h2,h3⟩:=slice_lu_all n c A hnc l u r rc x y hx hy hlu hu hr hrc
  exact ⟨A',h1,h2 w bs h,h3⟩
/-- b[:u]. -/
theorem slice_u (h:Bts w (.slice A n c) bs) (hnc:n≤c) (u:Nat) (y:Int) (hy:y=u) (hu:u≤n) :
    (∀ w',(Instr.slice 54 (.slice A n c) none (some (.int .i64 y)) none).run Tryz.prog w'=.ok (.slice A u c) w')∧Bts w (.slice A u c) (bs.take u)∧u≤c:=by
  subst hy
  refine ⟨fun w'=>?_,bts_upto h hu,by omega⟩
  rw [run_slice_h w' _ _ _ _ elem_bytes .i64 _ (by omega) (by omega),size_bytes]
  simp only [Result.andThen,sliced,Int.toNat_natCast,Nat.zero_mul,Nat.sub_zero]
  congr 2
  split
  · rfl
  · rcases A with _ | a
    · rfl
    · simp [Addr.add]
/-- b[l:], in every world in which b reads as something. -/
theorem slice_l_all (n c:Nat) (A:Option Addr) (hnc:n≤c) (l r rc:Nat) (x:Int) (hx:x=l) (hl:l≤n) (hr:r=n - l) (hrc:rc=c - l) :
    ∃ A',(∀ w',(Instr.slice 54 (.slice A n c) (some (.int .i64 x)) none none).run Tryz.prog w'=.ok (.slice A' r rc) w')∧(∀ w bs,Bts w (.slice A n c) bs→Bts w (.slice A' r rc) (bs.drop l))∧r≤rc:=by
  subst hx hr hrc
  refine ⟨if c=l then A else A.map (·.add l),fun w'=>?_,fun w bs h=>bts_from h hl hnc,by omega⟩
  rw [run_slice_l w' _ _ _ _ elem_bytes .i64 _ (by omega) (by omega),size_bytes]
  simp only [Result.andThen,sliced,Int.toNat_natCast,Nat.mul_one]
/-- b[l:]. -/
theorem slice_l (h:Bts w (.slice A n c) bs) (hnc:n≤c) (l r rc:Nat) (x:Int) (hx:x=l) (hl:l≤n) (hr:r=n - l) (hrc:rc=c - l) :
    ∃ A',(∀ w',(Instr.slice 54 (.slice A n c) (some (.int .i64 x)) none none).run Tryz.prog w'=.ok (.slice A' r rc) w')∧Bts w (.slice A' r rc) (bs.drop l)∧r≤rc:=by
  obtain ⟨A',h1,h2,h3⟩:=slice_l_all n c A hnc l r rc x hx hl hr hrc
  exact ⟨A',h1,h2 w bs h,h3⟩
end
end Go.Proofs.YtnfcfdhlmeimhaaGreat
namespace Go.Proofs.YtnfcfdhlmeimhaaGreat
set_option linter.unusedVariables false
set_option maxRecDepth 20000
theorem u8_ne {a:UInt8} (h:a≠0):a.toNat≠0:=fun e=>h (u8_ext e)
end Go.Proofs.YtnfcfdhlmeimhaaGreat
namespace Go.Proofs.YtnfcfdhlmeimhaaGreat
open Go.RowKit
set_option linter.unusedVariables false
set_option maxRecDepth 20000
/-- One value is set. -/
def upd {α:Type} (h:Nat→α) (i:Nat) (x:α) (j:Nat):α:=if j=i then x else h j
section
variable {w w1:World} {base b L c:Nat} {s:Nat→UInt8} {S:Nat→Prop}
/-- A row of the call's own, of L bytes. -/
def RowAt (w:World) (base b L c:Nat) (s:Nat→UInt8):Prop:=Own w base 5 (.slice (some ⟨b,0,none⟩) L c) (rowL L s)
theorem RowAt.cell (h:RowAt w base b L c s) {k:Nat} (hk:k < L):w.cell? ⟨b,k,none⟩=some (.int .u8 ((s k).toNat:Int)):=by
  obtain ⟨cur,h1,_,_,_,_,_,h2⟩:=Own.block h
  rw [cell_of_row w b k _ _ _ h1,h2 k _ (rowL_get s hk)]
  rfl
theorem RowAt.frozen (h:RowAt w base b L c s) (k:Nat):w.frozen? ⟨b,k,none⟩=false:=by
  obtain ⟨cur,h1,_⟩:=Own.block h
  exact frozen_of_row w b k _ _ h1
theorem RowAt.eq {t:Nat→UInt8} (h:RowAt w base b L c s) (he:∀ k,k < L→s k=t k):RowAt w base b L c t:=by
  have e:rowL L s=rowL L t:=List.map_congr_left fun k hk=>he k (List.mem_range.1 hk)
  unfold RowAt
  rw [← e]
  exact h
theorem RowAt.set (h:RowAt w base b L c s) {k:Nat} (hk:k < L) (x:UInt8) (v:Value) (hv:v=bv x):RowAt (w.setCell ⟨b,k,none⟩ v) base b L c (upd s k x):=by
  subst hv
  obtain ⟨cur,h1,h2,h3,h4,h5,h6,h7⟩:=Own.block h
  refine Own.mk (cur:=cur.setIfInBounds k (bv x)) (heap_setCell_same w b k cur _ _ h1) (by rw [rowL_len]) h3 h4 (by rw [Array.size_setIfInBounds]; exact h5) h6 fun j y hj=>?_
  have hjl:j < L:=by have:=(List.getElem?_eq_some_iff.1 hj).1; rwa [rowL_len] at this
  rw [rowL_get _ hjl] at hj
  injection hj with hj
  subst hj
  rw [Array.getElem?_setIfInBounds]
  unfold upd
  by_cases e:k=j
  · subst e
    rw [if_pos rfl,if_pos (by omega),if_pos rfl]
  · rw [if_neg e,if_neg (fun e'=>e e'.symm)]
    exact h7 j _ (rowL_get s hjl)
theorem RowAt.kpset (b k:Nat) (v:Value) (w:World):Kp (fun q=>q=b) w (w.setCell ⟨b,k,none⟩ v):=Kp.setCell (p:=⟨b,k,none⟩) (S:=fun q=>q=b) rfl v
theorem RowAt.keep (h:RowAt w base b L c s) (hk:Kp S w w1) (hS:¬ S b):RowAt w1 base b L c s:=Own.keep h hk fun k hk e=>by
  injection hk with hk
  subst hk
  exact hS e
theorem RowAt.no (h:RowAt w base b L c s) (hk:Kp No w w1):RowAt w1 base b L c s:=h.keep hk fun f=>f
variable {g n:Nat} {hv:Nat→Value} {bs:Nat→List UInt8}
end
end Go.Proofs.YtnfcfdhlmeimhaaGreat
namespace Go.Proofs.YtnfcfdhlmeimhaaGreat
open Go.RowKit
set_option linter.unusedVariables false
set_option maxRecDepth 20000
/-- The first k are t's, the others s's. -/
def upS (t s:Nat→UInt8) (k j:Nat):UInt8:=if j < k then t j else s j
theorem upS_step (t s:Nat→UInt8) (k j:Nat):upd (upS t s k) k (t k) j=upS t s (k+1) j:=by
  unfold upd upS
  by_cases e:j=k
  · rw [if_pos e,if_pos (by omega),e]
  · rw [if_neg e]
    by_cases h:j < k
    · rw [if_pos h,if_pos (by omega)]
    · rw [if_neg h,if_neg (by omega)]
theorem ux_ne0 {a:UInt8} (h:a≠0):((a.toNat:Int) != 0)=true:=by
  have:=u8_ne h
  simp
  exact this
end Go.Proofs.YtnfcfdhlmeimhaaGreat
namespace Go.Proofs.YtnfcfdhlmeimhaaGreat
open Go.RowKit
set_option linter.unusedVariables false
set_option maxRecDepth 20000
section
variable {P:Program} {ops:Array Oper} {Q:Exit→Act→World→Prop} {md:Region.Mode} {S:World→Prop} {t:Nat}
/-- Whatever comes up next; behind all but number t the condition holds. -/
def LastR (P:Program) (md:Region.Mode) (ops:Array Oper) (Q:Exit→Act→World→Prop) (S:World→Prop) (t:Nat):Nat→Array Bool→Act→World→Prop
  | 0,listed,a,w=>Region.ready md ops listed=[]∧Q .normal a w
  | n+1,listed,a,w=>(Region.ready md ops listed=[]→Q .normal a w) ∧
      ∀ i ∈ Region.ready md ops listed,wpOp P ops Q i (fun a1 w1=>(i≠t→S w1)∧LastR P md ops Q S t n (listed.setIfInBounds i true) a1 w1) a w
theorem LastR.any:∀ (n:Nat) (listed:Array Bool) (a:Act) (w:World),LastR P md ops Q S t n listed a w→wpAny P md ops Q n listed a w
  | 0,_,_,_,h=>h
  | n+1,_,_,_,h=>⟨h.1,fun i hi=>wpOp_mono (fun a1 w1 g=>LastR.any n _ a1 w1 g.2) (h.2 i hi)⟩
theorem not_listed {listed:Array Bool} {i:Nat} (h0:listed.getD i true=false) (h1:listed.getD i false=true):False:=by
  rw [getD_both h0] at h1
  cases h1
theorem LastR.first {i:Nat} {oi:Oper} {v:Value} (hi:ops[i]?=some oi) (hsel:∀ (j:Nat) (o:Oper) cs b,ops[j]?=some o→o.op≠.select cs b) (hQ:∀ c a w,Q (.panic c) (a.put oi.dst v) w→Q (.panic c) a w) (hwt:Region.waitsFor md ops t i=true) :
    ∀ (n:Nat) (listed:Array Bool) (a:Act) (w:World),(∀ j oj,ops[j]?=some oj→j≠i→listed.getD j true=false→(∀ e ∈ oj.after,Region.binds md e=true→e.on≠i)→oi.apart ops oj=true)→i ∈ Region.ready md ops listed→YieldsIf P ops S oi v a→S w →
      LastR P md ops Q S t n (listed.setIfInBounds i true) (a.put oi.dst v) w→LastR P md ops Q S t (n+1) listed a w:=by
  intro n
  induction n with
  | zero =>
    intro listed a w _ hr hy hS H
    refine ⟨fun e=>absurd hr (by rw [e]; simp),fun j hj=>?_⟩
    by_cases e:j=i
    · subst e
      exact hy.wpOp hi hS ⟨fun _=>hS,H⟩
    · exact absurd (ready_mono hj e) (by rw [H.1]; simp)
  | succ n ih =>
    intro listed a w hfree hr hy hS H
    refine ⟨fun e=>absurd hr (by rw [e]; simp),fun j hj=>?_⟩
    by_cases e:j=i
    · subst e
      exact hy.wpOp hi hS ⟨fun _=>hS,H⟩
    · obtain ⟨hjun,oj,hoj,hall⟩:=mem_ready.1 hj
      have hiun:=(mem_ready.1 hr).1
      have hno:∀ x ∈ oj.after,Region.binds md x=true→x.on≠i:=fun x hx hb hxe=>not_listed hiun (hxe ▸ hall x hx hb)
      have hjt:j≠t:=fun ejt=>by
        obtain ⟨o',ho',x,hx,hb,hon⟩:=Region.waitsFor_spec hwt
        subst ejt
        obtain rfl:o'=oj:=Option.some.inj (ho'.symm.trans hoj)
        exact hno x hx hb hon
      have h2:=wpOp_putIf hoj (hfree j oj hoj e hjun hno) (fun cs b=>hsel i oi cs b hi) (fun cs b=>hsel j oj cs b hoj) hQ hy (H.2 j (ready_mono hj e))
      refine wpOp_mono (fun a1 w1 g=>⟨g.2.1,ih (listed.setIfInBounds j true) a1 w1 (fun k ok hk hki hun hn=>hfree k ok hk hki ?_ hn) (ready_mono hr (Ne.symm e)) g.1 (g.2.1 hjt) ?_⟩) h2
      · by_cases ejk:j=k
        · exact ejk ▸ hjun
        · rw [getD_set_ne true ejk] at hun
          exact hun
      · rw [Array.setIfInBounds_comm _ _ e]
        exact g.2.2
/-- Number i is taken first. -/
theorem LastR.take {i:Nat} {oi:Oper} {v:Value} {n:Nat} {listed:Array Bool} {a:Act} {w:World} (hi:ops[i]?=some oi) (hs:Region.noSelect ops=true) (hf:Region.free md ops listed i=true) (hr:(Region.ready md ops listed).contains i=true) (hwt:Region.waitsFor md ops t i=true)
    (hQ:∀ c a w,Q (.panic c) (a.put oi.dst v) w→Q (.panic c) a w) (hy:YieldsIf P ops S oi v a) (hS:S w) (h:LastR P md ops Q S t n (listed.setIfInBounds i true) (a.put oi.dst v) w):LastR P md ops Q S t (n+1) listed a w :=
  LastR.first hi (Region.noSelect_spec hs) hQ hwt n listed a w (Region.free_spec hi hf) (by simpa using hr) hy hS h
/-- Number i, the only one that may come up, is run. -/
theorem LastR.run {i:Nat} {o:Oper} {n:Nat} {listed:Array Bool} {a:Act} {w:World} (ho:ops[i]?=some o) (hr:Region.ready md ops listed=[i])
    (h:∀ K:Act→World→Prop,Shut (∀ a1 w1,(i≠t→S w1)→((i≠t→S w1)→LastR P md ops Q S t n (listed.setIfInBounds i true) a1 w1)→K a1 w1)→if Region.wanted o (yielded ops a.tmps)=true then Oper.wp P o a w K Q else K (a.put o.dst undef) w):LastR P md ops Q S t (n+1) listed a w:=by
  refine ⟨fun e=>absurd (hr.symm.trans e) (by simp),fun j hj=>?_⟩
  rw [hr] at hj
  obtain rfl:j=i:=by simpa using hj
  exact wpOp_step ho (fun K hK=>h K fun a1 w1 hS hW=>hK a1 w1 ⟨hS,hW hS⟩)
theorem LastR.done {listed:Array Bool} {a:Act} {w:World} (hr:Region.ready md ops listed=[]) (h:Q .normal a w):∀ n,LastR P md ops Q S t n listed a w
  | 0=>⟨hr,h⟩
  | _+1=>⟨fun _=>h,by rw [hr]; simp⟩
theorem LastR.begin {id:Nat} {a:Act} {w:World} (hm:P.follows .mixedOrders=true) (hS:S w.drew) (h:S w.drew→LastR P .any ops Q S t ops.size (Array.replicate ops.size false) a w.drew):(Code.region id ops true).wp P Q a w :=
  wp_region_any hm (LastR.any _ _ _ _ (h hS))
/-- append, as one step of a region. -/
theorem step_app {w:World} {base:Nat} {e:TypeId} {v u:Value} {bs cs:List UInt8} {o:Oper} {a:Act} {K:Act→World→Prop} {E:Prop} (hgd:o.guard=none) (s x:Operand) (t:TypeId)
    (ho:o.op=.call { callee:=.builtin .append,args:=#[s,x],argTypes:=#[t,t] })
    (i:TypeInfo) (ht:P.underlying t=some (.slice e)) (hi:P.info? e=some i) (hz:i.zero=some (.int .u8 0)) (hsize:i.size=1) (hby:i.bytes=1)
    (hs:a.eval s=v) (h:Own w base e v bs) (hx:a.eval x=u) (hu:Bts w u cs) (hlen:bs.length+cs.length≤1000000000) (hb:base≤w.heap.size)
    (hQ:∀ A1 n1 c1 w1,App w base e v bs cs (.slice A1 n1 c1) w1→K (a.put o.dst (.slice A1 n1 c1)) w1):if Region.wanted o (yielded ops a.tmps)=true then Oper.wp P o a w K Q else E:=by
  have hw:Region.wanted o (yielded ops a.tmps)=true:=by simp [Region.wanted,hgd]
  rw [if_pos hw]
  obtain ⟨v1,w1,hr,h1⟩:=run_app (P:=P) t o.type i ht hi hz hsize hby h hu hlen hb
  obtain ⟨A1,n1,c1,rfl⟩:=h1.own.form
  have:=hQ A1 n1 c1 w1 h1
  unfold Oper.wp
  simp [execOp,ho,resolve,invoke,builtin,hs,hx,hr,Result.andThen]
  exact this
end
end Go.Proofs.YtnfcfdhlmeimhaaGreat
namespace Go.Proofs.YtnfcfdhlmeimhaaGreat
open Go.RowKit
set_option linter.unusedVariables false
set_option maxRecDepth 20000
/-- A new row of noughts. -/
theorem row_new (w:World) (L:Nat) (hL:L≤1000):RowAt (w.alloc (.cells (zc L) 5)) w.heap.size w.heap.size L L fun _=>0 :=
  Own.mk (heap_alloc_new w _) (rowL_len _ _).symm (Nat.le_refl _) (by simp only [maxLen]; omega) (zc_size L) (Nat.le_refl _) fun k x hk=>by
    have hkl:k < L:=by have:=(List.getElem?_eq_some_iff.1 hk).1; rwa [rowL_len] at this
    rw [rowL_get _ hkl] at hk
    injection hk with hk
    subst hk
    exact zc_get hkl
theorem Bts.cell {w:World} {A:Option Addr} {L c k:Nat} {s:Nat→UInt8} (h:Bts w (.slice A L c) (rowL L s)) (hk:k < L):∃ B off,A=some ⟨B,off,none⟩∧w.cell? ⟨B,off+k,none⟩=some (.int .u8 ((s k).toNat:Int)):=by
  obtain ⟨B,off,b,rfl,hb,hc⟩:=h.at_ hk
  rw [rowL_get _ hk] at hb
  injection hb with hb
  subst hb
  exact ⟨B,off,rfl,hc⟩
end Go.Proofs.YtnfcfdhlmeimhaaGreat
