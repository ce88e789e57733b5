/- The calls of package pack's Reader, each as a contract over memory; Package seal's Open, as a contract over memory; The document's Of (a number's bytes read) and Frame of layer 10, each as a contract over memory; The document's Open of layer 10, as a contract over memory. -/
import Derived.Test.YtnfcfdhlmeimhaaGreatSpab
import Derived.Test.YtnfcfdhlmeimhaaGreatSpac
import Derived.Deep.RegionHeld3
namespace Go.Proofs.YtnfcfdhlmeimhaaGreat
open Go.RowKit
set_option linter.unusedVariables false
set_option maxRecDepth 20000
set_option linter.unusedSimpArgs false
/-- At block g lies a Reader that is not torn and has bs left; it and its row lie in F. -/
def RdAt (w:World) (F:Nat→Prop) (g:Nat) (bs:List UInt8):Prop :=
  ∃ A m c,w.heap[g]?=some (.cells #[.slice A m c,.bool false] 183 (0,0))∧Bts w (.slice A m c) bs∧m≤c∧F g∧∀ k,(Value.slice A m c).ownBlock=some k→F k∧k≠g
section
variable {w w1:World} {F S:Nat→Prop} {g:Nat} {bs:List UInt8}
theorem RdAt.drew (h:RdAt w F g bs):RdAt w.drew F g bs:=h
theorem RdAt.keep (h:RdAt w F g bs) (hk:Kp S w w1) (hS:∀ k,F k→¬ S k):RdAt w1 F g bs:=by
  obtain ⟨A,m,c,h1,h2,h3,h4,h5⟩:=h
  exact ⟨A,m,c,(hk.block g (Array.getElem?_eq_some_iff.1 h1).1 (hS g h4)).trans h1,h2.keep hk fun k hk'=>hS k (h5 k hk').1,h3,h4,h5⟩
theorem RdAt.no (h:RdAt w F g bs) (hk:Kp No w w1):RdAt w1 F g bs:=h.keep hk fun _ _ f=>f
end
theorem own_cap {w:World} {base:Nat} {e:TypeId} {A:Option Addr} {m c:Nat} {bs:List UInt8} (h:Own w base e (.slice A m c) bs):m≤c:=by
  rcases h.2 with ⟨h1,_⟩ | ⟨g,cap,cur,h1,_,_,hc,_⟩
  · injection h1 with _ h1 h2
    omega
  · injection h1 with _ h1 h2
    omega
/-- Read: a reader of a copy. -/
theorem read_any {w:World} {bs:List UInt8} {u:Value} (hu:Bts w u bs) (hl:bs.length≤900000000) :
    Calls Tryz.prog 55 #[u] w fun e w1=>∃ g,e=.returned (.pointer (some ⟨g,0,none⟩))∧RdAt w1 (fun k=>w.heap.size≤k∧k < w1.heap.size) g bs∧Kp No w w1:=by
  go_enter Tryz.func55,Tryz.ntmps55
  go_wp2_with (go_at_call 100; refine (clone_any hu hl).mono ?_; rintro e w1 ⟨A1,n1,c1,rfl,ho,hk⟩)
  go_ret
  refine ⟨w1.heap.size,rfl,⟨A1,n1,c1,heap_alloc_new w1 _,ho.bts.no (Kp.alloc No w1 _),own_cap ho,⟨hk.size,by simp⟩,fun k hk'=>⟨⟨ho.ge k hk',by have:=ho.lt k hk'; simp; omega⟩,by have:=ho.lt k hk'; omega⟩⟩,hk.trans' (Kp.alloc No w1 _)⟩
/-- What taking xs from the front comes to. -/
def TkPost (w:World) (F:Nat→Prop) (g:Nat) (xs ys:List UInt8) (e:Ending) (w1:World):Prop :=
  ∃ A m c,e=.returned (.slice A m c)∧Bts w1 (.slice A m c) xs∧RdAt w1 F g ys∧Kp (fun b=>b=g) w w1
theorem rd_set {w:World} {F:Nat→Prop} {g k m c:Nat} {A:Option Addr} {xs ys:List UInt8} (h1:w.heap[g]?=some (.cells #[.slice A m c,.bool false] 183 (0,0))) (h2:Bts w (.slice A m c) (xs ++ ys))
    (hk:k=xs.length) (hm:m≤c) (h4:F g) (h5:∀ k,(Value.slice A m c).ownBlock=some k→F k∧k≠g) (A':Option Addr) (hA':A'=if c=k then A else A.map (·.add k)) :
    TkPost w F g xs ys (.returned (.slice A k c)) (w.setCell ⟨g,0,none⟩ (.slice A' (m - k) (c - k))):=by
  subst hA'
  have hl:=h2.len
  rw [List.length_append] at hl
  have hkp:Kp (fun b=>b=g) w (w.setCell ⟨g,0,none⟩ (.slice (if c=k then A else A.map (·.add k)) (m - k) (c - k))):=Kp.setCell (S:=fun b=>b=g) (p:=⟨g,0,none⟩) rfl _
  have hbk:∀ j,(Value.slice (if c=k then A else A.map (·.add k)) (m - k) (c - k)).ownBlock=some j→F j∧j≠g:=by
    intro j hj
    apply h5 j
    split at hj
    · rcases A with _ | a <;> exact hj
    · rcases A with _ | a
      · exact hj
      · simpa [Value.ownBlock,blk_add] using hj
  refine ⟨A,k,c,rfl,?_,⟨_,_,_,heap_setCell_same w g 0 _ 183 _ h1,?_,by omega,h4,hbk⟩,hkp⟩
  · have:=bts_upto h2 (k:=k) (by omega)
    rw [hk,List.take_left,← hk] at this
    exact this.keep hkp fun j hj e=>(h5 j (by rcases A with _ | a <;> exact hj)).2 e
  · have:=bts_from h2 (k:=k) (by omega) hm
    have e:(xs ++ ys).drop k=ys:=by rw [hk,List.drop_left]
    rw [e] at this
    exact this.keep hkp fun j hj e=>(hbk j hj).2 e
set_option maxHeartbeats 1000000 in
theorem take_any {w:World} {F:Nat→Prop} {g k:Nat} {xs ys:List UInt8} (h:RdAt w F g (xs ++ ys)) (hk:k=xs.length) (hl:k≤900000000) :
    Calls Tryz.prog 101 #[.pointer (some ⟨g,0,none⟩),.int .i64 k] w (TkPost w F g xs ys):=by
  obtain ⟨A,m,c,h1,h2,h3,h4,h5⟩:=h
  have HL:=hide h2.len
  have HK:=hide hk
  have hkm:k≤m:=by have:=HL.out; rw [List.length_append] at this; omega
  clear hk
  have hc0:w.cell? ⟨g,0,none⟩=some (.slice A m c):=by rw [cell_of_row w g 0 _ _ _ h1]; rfl
  have hf0:w.frozen? ⟨g,0,none⟩=false:=frozen_of_row w g 0 _ _ h1
  have H1:=hide h1
  have HS:=fun A' hA'=>rd_set h1 h2 HK.out h3 h4 h5 A' hA'
  have HS':=hide HS
  clear h1 HS
  have hki:(k:Int)≤m:=by omega
  have hki2:¬ (m:Int) < k:=by omega
  have hneg:decide ((k:Int) < 0)=false:=by simp
  by_cases hck:c=k
  · subst hck
    have HS2:=HS'.out A (by simp)
    have hmc:m - c=0:=by omega
    rw [Nat.sub_self,hmc] at HS2
    clear hmc
    have HS3:=hide HS2
    clear HS2
    go_enter Tryz.func101,Tryz.ntmps101
    go_wp2
    go_ret
    exact HS3.out
  · go_enter Tryz.func101,Tryz.ntmps101
    go_wp2
    go_ret
    exact HS'.out _ (by rw [if_neg hck])
/-- The number that bytes are, the least first. -/
def ofB:List UInt8→Nat
  | []=>0
  | b :: l=>b.toNat+256 * ofB l
theorem ofB_snoc (l:List UInt8) (b:UInt8):ofB (l ++ [b])=ofB l+b.toNat * 2 ^ (8 * l.length):=by
  induction l with
  | nil=>simp [ofB]
  | cons a l ih =>
    simp only [List.cons_append,ofB,ih,List.length_cons]
    rw [show 8 * (l.length+1)=8 * l.length+8 by omega,Nat.pow_add]
    rw [Nat.mul_add]
    have:256 * (b.toNat * 2 ^ (8 * l.length))=b.toNat * (2 ^ (8 * l.length) * 2 ^ 8):=by
      rw [Nat.mul_comm 256,Nat.mul_assoc]
    omega
theorem ofB_lt (l:List UInt8):ofB l < 2 ^ (8 * l.length):=by
  induction l with
  | nil=>simp [ofB]
  | cons a l ih =>
    simp only [ofB,List.length_cons]
    rw [show 8 * (l.length+1)=8 * l.length+8 by omega,Nat.pow_add]
    have:=a.toNat_lt
    omega
theorem ofB_numB (x k:Nat):ofB (numB x k)=x % 2 ^ (8 * k):=by
  induction k with
  | zero=>simp [numB,ofB,Nat.mod_one]
  | succ k ih =>
    rw [numB_succ,ofB_snoc,ih,numB_length,UInt8.toNat_ofNat']
    rw [show 8 * (k+1)=8 * k+8 by omega,Nat.pow_add,Nat.mod_mul,Nat.mul_comm (x / 2 ^ (8 * k) % 2 ^ 8)]
theorem or_shift (a b j:Nat) (ha:a < 2 ^ (8 * j)) (hb:b < 256) (hj:j < 8) :
    bits .or .u64 (a:Int) (IntKind.u64.wrap ((b:Int) * 2 ^ (8 * j)))=((a+b * 2 ^ (8 * j):Nat):Int):=by
  have hp:2 ^ (8 * j)≤2 ^ 56:=Nat.pow_le_pow_right (by omega) (by omega)
  have hm:b * 2 ^ (8 * j)≤255 * 2 ^ 56:=Nat.mul_le_mul (by omega) hp
  have e:((b:Int) * 2 ^ (8 * j))=((b * 2 ^ (8 * j):Nat):Int):=by simp
  rw [e,IntWalk.u64_in _ ⟨by omega,by omega⟩,u64_or_nat _ _ (by omega) (by omega)]
  congr 1
  have h:=Nat.shiftLeft_add_eq_or_of_lt ha b
  rw [Nat.shiftLeft_eq] at h
  rw [Nat.or_comm,← h,Nat.add_comm]
/-- What reading a number comes to. -/
def NmPost (w:World) (F:Nat→Prop) (g:Nat) (x:Nat) (ys:List UInt8) (e:Ending) (w1:World):Prop :=
  e=.returned (.int .u64 x)∧RdAt w1 F g ys∧Kp (fun b=>b=g) w w1
set_option maxHeartbeats 1000000 in
theorem rdnum_any {w:World} {F:Nat→Prop} {g:Nat} {xs ys:List UInt8} (k:Nat) (hk:k=xs.length) (hk8:k≤8) (h:RdAt w F g (xs ++ ys)) :
    Calls Tryz.prog 56 #[.pointer (some ⟨g,0,none⟩),.int .i64 k] w (NmPost w F g (ofB xs) ys):=by
  have HK:=hide hk
  clear hk
  go_enter Tryz.func56,Tryz.ntmps56
  go_wp2_with fail
  refine (take_any h HK.out (by omega)).mono ?_
  rintro e w1 ⟨A,m,c,rfl,hb,hr,hkp⟩
  have hm:m≤8:=by have:=hb.len; have:=HK.out; omega
  have HM:=hide hb.len
  go_wp2_with fail
  go_loop [5,14] (fun s i=>∃ j:Nat,j≤m∧i=.int .i64 (j:Int)∧s=.int .u64 ((ofB (xs.take j):Nat):Int)) (fun _ i=>m - (intOf i).toNat)
  case atStart=>exact ⟨0,by omega,rfl,rfl⟩
  case round =>
    obtain ⟨j,hj,rfl,rfl⟩:=hrel
    by_cases hlt:j < m
    · obtain ⟨B,off,b,hA,hb',hcell⟩:=hb.at_ hlt
      have HB:=hide hb'
      clear hb'
      subst hA
      have hbl:=b.toNat_lt
      have hji:(j:Int) < m:=by omega
      have hlen:(xs.take j).length=j:=by rw [List.length_take]; have:=HM.out; omega
      have ht:ofB (xs.take (j+1))=ofB (xs.take j)+b.toNat * 2 ^ (8 * j):=by
        have hj':=(List.getElem?_eq_some_iff.1 HB.out).1
        rw [List.take_succ_eq_append_getElem hj',ofB_snoc,hlen,(List.getElem?_eq_some_iff.1 HB.out).2]
      have hof:ofB (xs.take j) < 2 ^ (8 * j):=by have:=ofB_lt (xs.take j); rwa [hlen] at this
      have HT:=hide ht
      have HO:=hide hof
      clear ht hof hlen
      go_wp2
      go_round
      case rel=>exact ⟨j+1,by omega,by go_num,by rw [or_shift _ _ j HO.out hbl (by omega),HT.out]⟩
      case measure=>simp [intOf]; omega
    · have hji:¬ (j:Int) < m:=by omega
      have hjm:j=m:=by omega
      subst hjm
      go_wp2
      go_ret
      have e:xs.take j=xs:=List.take_of_length_le (by have:=HM.out; omega)
      rw [e]
      exact ⟨rfl,hr,hkp⟩
end Go.Proofs.YtnfcfdhlmeimhaaGreat
namespace Go.Proofs.YtnfcfdhlmeimhaaGreat
open Go.RowKit
set_option linter.unusedVariables false
set_option maxRecDepth 20000
set_option linter.unusedSimpArgs false
/-- A frame's mark, kind, count, sum, and what it bears. -/
def mkO (bs:List UInt8):Nat:=ofB (bs.take 2)
def kdO (bs:List UInt8):Nat:=ofB ((bs.drop 2).take 2)
def ctO (bs:List UInt8):Nat:=ofB ((bs.drop 4).take 4)
def smO (bs:List UInt8):Nat:=ofB ((bs.drop 8).take 4)
def ldO (bs:List UInt8) (n:Nat):List UInt8:=(bs.drop 12).take n
def csO (bs:List UInt8) (n:Nat):Nat:=crc (bs.take 8 ++ ldO bs n)
/-- What Open says of bytes: the error, and the rest. -/
def opE (bs:List UInt8):Nat:=if bs.length < 12∨mkO bs≠53021∨65536 < ctO bs∨bs.length - 12 < ctO bs then 21 else if smO bs≠csO bs (ctO bs) then 22 else 0
def opK (bs:List UInt8):Nat:=if opE bs=0 then kdO bs else 0
def opL (bs:List UInt8):List UInt8:=if opE bs=0 then ldO bs (ctO bs) else []
def opN (bs:List UInt8):Nat:=if opE bs=0 then 12+ctO bs else 0
theorem ofB_take {l:List UInt8} (k:Nat):ofB (l.take k) < 2 ^ (8 * k) :=
  Nat.lt_of_lt_of_le (ofB_lt _) (Nat.pow_le_pow_right (by omega) (by have:=List.length_take_le k l; omega))
theorem kdO_lt (bs:List UInt8):kdO bs < 65536:=ofB_take 2
theorem ctO_lt (bs:List UInt8):ctO bs < 4294967296:=ofB_take 4
theorem smO_lt (bs:List UInt8):smO bs < 4294967296:=ofB_take 4
theorem csO_lt (bs:List UInt8) (n:Nat):csO bs n < 4294967296:=crc_lt _
theorem head_parts (bs:List UInt8):bs.take 12=bs.take 2 ++ ((bs.drop 2).take 2 ++ ((bs.drop 4).take 4 ++ ((bs.drop 8).take 4 ++ []))):=by
  rw [show (12:Nat)=2+(2+(4+4)) from rfl,List.take_add,List.take_add,List.take_add,List.drop_drop,List.drop_drop,List.append_nil]
/-- What Open returns. -/
def OpPost (w:World) (k:Nat) (ld:List UInt8) (sz er:Nat) (e:Ending) (w1:World):Prop :=
  ∃ A n c,e=.returned (.tuple #[.int .u16 (k:Int),.slice A n c,.int .i64 (sz:Int),.int .i64 (er:Int)])∧Own w1 w.heap.size 5 (.slice A n c) ld∧Kp No w w1
theorem OpPost.err {w w1:World} {er:Nat} (hk:Kp No w w1):OpPost w 0 [] 0 er (.returned (.tuple #[.int .u16 0,.slice none 0 0,.int .i64 0,.int .i64 (er:Int)])) w1:=⟨none,0,0,rfl,Own.nil _ _ _,hk⟩
theorem sop_short {w:World} {n c:Nat} {A:Option Addr} (h:n < 12):Calls Tryz.prog 121 #[.slice A n c] w (OpPost w 0 [] 0 21):=by
  go_enter Tryz.func121,Tryz.ntmps121
  go_wp2
  exact bodyPost_ret (v:=.tuple #[.int .u16 0,.slice none 0 0,.int .i64 0,.int .i64 21]) (by simp [results,Tryz.results121,go_sem]) rfl (OpPost.err (Kp.refl _ _))
section
variable {w:World} {n c:Nat} {A:Option Addr} {bs:List UInt8}
/-- A block that is younger than w, and what a reader's call there keeps. -/
theorem Kp.thenAt {w w1 w2:World} {g:Nat} (h:Kp No w w1) (hg:w.heap.size≤g) (k:Kp (fun b=>b=g) w1 w2):Kp No w w2:=h.trans (k.mono fun b hb=>.inr (by omega))
theorem RdAt.in_ {F:Nat→Prop} {g:Nat} (h:RdAt w F g bs):F g:=by
  obtain ⟨_,_,_,_,_,_,h4,_⟩:=h
  exact h4
theorem op_err {er:Nat} {e:Ending} {w1:World} (h:opE bs=er) (h0:er≠0) (hp:OpPost w 0 [] 0 er e w1):OpPost w (opK bs) (opL bs) (opN bs) (opE bs) e w1:=by
  unfold opK opL opN
  rw [if_neg (by omega),if_neg (by omega),if_neg (by omega),h]
  exact hp
theorem op_ok {e:Ending} {w1:World} (h:opE bs=0) (hp:OpPost w (kdO bs) (ldO bs (ctO bs)) (12+ctO bs) 0 e w1):OpPost w (opK bs) (opL bs) (opN bs) (opE bs) e w1:=by
  unfold opK opL opN
  rw [if_pos h,if_pos h,if_pos h,h]
  exact hp
theorem opE_21 (h:bs.length < 12∨mkO bs≠53021∨65536 < ctO bs∨bs.length - 12 < ctO bs):opE bs=21:=by unfold opE; rw [if_pos h]
set_option maxHeartbeats 2000000 in
theorem sopen_any (hb:Bts w (.slice A n c) bs) (hnc:n≤c) (hbig:n≤900000000):Calls Tryz.prog 121 #[.slice A n c] w (OpPost w (opK bs) (opL bs) (opN bs) (opE bs)):=by
  have HL:=hide hb.len
  by_cases h:n < 12
  · exact (sop_short h).mono fun e w1 hp=>op_err (opE_21 (by have:=HL.out; omega)) (by omega) hp
  have h:12≤n:=by omega
  obtain ⟨s1,b1,_⟩:=slice_u hb hnc 12 12 rfl h
  rw [head_parts] at b1
  obtain ⟨s2,b2,_⟩:=slice_u hb hnc 8 8 rfl (by omega)
  obtain ⟨q,hq⟩:∃ q,q=mkO bs:=⟨_,rfl⟩
  obtain ⟨k,hk⟩:∃ q,q=kdO bs:=⟨_,rfl⟩
  obtain ⟨t,ht⟩:∃ q,q=ctO bs:=⟨_,rfl⟩
  obtain ⟨z,hz⟩:∃ q,q=smO bs:=⟨_,rfl⟩
  have kl:k < 65536:=hk ▸ kdO_lt bs
  have tl:t < 4294967296:=ht ▸ ctO_lt bs
  have zl:z < 4294967296:=hz ▸ smO_lt bs
  have HQ:=hide hq
  have HK:=hide hk
  have HT:=hide ht
  have HZ:=hide hz
  clear hq hk ht hz
  go_enter Tryz.func121,Tryz.ntmps121
  go_wp2_with fail
  refine (read_any b1 (by simp; omega)).mono ?_
  rintro e w1 ⟨g,rfl,hr,hk1⟩
  have hg:=hr.in_.1
  go_wp2_with fail
  refine (rdnum_any 2 (by simp; have:=HL.out; omega) (by omega) hr).mono ?_
  rintro e w2 ⟨rfl,hr2,hk2⟩
  rw [show ofB (bs.take 2)=q from HQ.out.symm]
  have k2:=hk1.thenAt hg hk2
  clear hr hk1 hk2
  by_cases hm:q=53021
  · have HM:=hide hm
    subst hm
    go_wp2_with fail
    refine (rdnum_any 2 (by simp; have:=HL.out; omega) (by omega) hr2).mono ?_
    rintro e w3 ⟨rfl,hr3,hk3⟩
    rw [show ofB ((bs.drop 2).take 2)=k from HK.out.symm]
    have k3:=k2.thenAt hg hk3
    clear hr2 hk3
    go_wp2_with fail
    refine (rdnum_any 4 (by simp; have:=HL.out; omega) (by omega) hr3).mono ?_
    rintro e w4 ⟨rfl,hr4,hk4⟩
    rw [show ofB ((bs.drop 4).take 4)=t from HT.out.symm]
    have k4:=k3.thenAt hg hk4
    clear hr3 hk4 k2 k3
    by_cases ht1:65536 < t
    · go_wp2
      exact bodyPost_ret (v:=.tuple #[.int .u16 0,.slice none 0 0,.int .i64 0,.int .i64 21]) (by simp [results,Tryz.results121,go_sem]) rfl (op_err (opE_21 (by have:=HT.out; omega)) (by omega) (OpPost.err k4))
    have ht1:t≤65536:=by omega
    by_cases ht2:n - 12 < t
    · have ht3:(n:Int) - 12 < t:=by omega
      go_wp2
      exact bodyPost_ret (v:=.tuple #[.int .u16 0,.slice none 0 0,.int .i64 0,.int .i64 21]) (by simp [results,Tryz.results121,go_sem]) rfl (op_err (opE_21 (by have:=HT.out; have:=HL.out; omega)) (by omega) (OpPost.err k4))
    have ht2:12+t≤n:=by omega
    have ht3:¬ ((n:Int) - 12 < t):=by omega
    obtain ⟨A3,s3,b3,c3⟩:=slice_lu hb hnc 12 (12+t) t (c - 12) 12 (12+(t:Int)) rfl (by omega) (by omega) ht2 (by omega) rfl
    obtain ⟨y,hy⟩:∃ y,y=csO bs t:=⟨_,rfl⟩
    have yl:y < 4294967296:=hy ▸ csO_lt bs t
    have HY:=hide hy
    clear hy
    have HS2:=hide b2
    have HS3:=hide b3
    have l4:4=((bs.drop 8).take 4).length:=by simp; have:=HL.out; omega
    have L4:=hide l4
    have l8:(bs.take 8).length≤900000000:=by simp; omega
    have l9:((bs.drop 12).take t).length≤900000000:=by simp; omega
    clear l4 b2 b3
    have HR:=hide hr4
    clear hr4
    have E4:(4:Nat)≤8:=by omega
    have hnm:∀ w',RdAt w' (fun k=>w.heap.size≤k∧k < w1.heap.size) g ((bs.drop 8).take 4 ++ [])→Calls Tryz.prog 56 #[.pointer (some ⟨g,0,none⟩),.int .i64 4] w' (NmPost w' (fun k=>w.heap.size≤k∧k < w1.heap.size) g z []):=fun w' h=>by
      have:=rdnum_any 4 L4.out E4 h
      rw [show ofB ((bs.drop 8).take 4)=z from HZ.out.symm] at this
      exact this
    have HNM:=hide hnm
    clear hnm
    have hw:IntKind.u32.wrap (z:Int)=z:=IntWalk.u32_in _ (by omega)
    by_cases hzy:z=y
    · have HZY:=hide hzy
      subst hzy
      go_wp2_with fail
      go_region_held3 (fun _=>True) (trivial)
        (first
          | (go_at_call 56; ((with_reducible refine (HNM.out _ (RdAt.drew HR.out)).mono ?_); rintro e w5 ⟨rfl,hr5,hk5⟩); have k5:=k4.drew.thenAt hg hk5; clear hr5 hk5)
          | (go_at_call 138; ((with_reducible refine (sfsum_any (HS2.out.no k5) (HS3.out.no k5) l8 l9).mono ?_); rintro e w6 ⟨rfl,rfl⟩); rw [show crc (bs.take 8 ++ (bs.drop 12).take t)=z from HY.out.symm]))
      clear hw
      go_wp2_with fail
      refine (clone_any (HS3.out.no k5) l9).mono ?_
      rintro e w7 ⟨A7,n7,c7,rfl,ho7,hk7⟩
      have z5:=k5.size
      go_wp2
      refine bodyPost_ret (v:=.tuple #[.int .u16 (k:Int),.slice A7 n7 c7,.int .i64 (12+(t:Int)),.int .i64 0]) (by simp [results,Tryz.results121,go_sem]) rfl (op_ok ?_ ⟨A7,n7,c7,?_,?_,k5.trans' hk7⟩)
      · unfold opE
        rw [if_neg (by have:=HM.out; have:=HT.out; have:=HL.out; have:=HQ.out; omega),if_neg]
        rw [← HT.out,← HY.out,← HZ.out]; simp
      · rw [← HK.out,← HT.out]; congr 5
      · rw [← HT.out]; exact ho7.rebase fun j hj=>Nat.le_trans z5 (ho7.ge j hj)
    · have hne:((z:Int) != (y:Int))=true:=by simp; omega
      go_wp2_with fail
      go_region_held3 (fun _=>True) (trivial)
        (first
          | (go_at_call 56; ((with_reducible refine (HNM.out _ (RdAt.drew HR.out)).mono ?_); rintro e w5 ⟨rfl,hr5,hk5⟩); have k5:=k4.drew.thenAt hg hk5; clear hr5 hk5)
          | (go_at_call 138; ((with_reducible refine (sfsum_any (HS2.out.no k5) (HS3.out.no k5) l8 l9).mono ?_); rintro e w6 ⟨rfl,rfl⟩); rw [show crc (bs.take 8 ++ (bs.drop 12).take t)=y from HY.out.symm]))
      clear hw hne
      go_wp2
      refine bodyPost_ret (v:=.tuple #[.int .u16 0,.slice none 0 0,.int .i64 0,.int .i64 22]) (by simp [results,Tryz.results121,go_sem]) rfl (op_err (er:=22) ?_ (by omega) (OpPost.err k5))
      unfold opE
      rw [if_neg (by have:=HM.out; have:=HT.out; have:=HL.out; have:=HQ.out; omega),if_pos]
      rw [← HT.out,← HY.out,← HZ.out]; exact hzy
  · have hm2:((q:Int) != 53021)=true:=by simp; omega
    go_wp2
    exact bodyPost_ret (v:=.tuple #[.int .u16 0,.slice none 0 0,.int .i64 0,.int .i64 21]) (by simp [results,Tryz.results121,go_sem]) rfl (op_err (opE_21 (by have:=HQ.out; omega)) (by omega) (OpPost.err k2))
end
end Go.Proofs.YtnfcfdhlmeimhaaGreat
namespace Go.Proofs.YtnfcfdhlmeimhaaGreat
open Go.RowKit
set_option linter.unusedVariables false
set_option maxRecDepth 20000
set_option linter.unusedSimpArgs false
theorem ofB_drop {bs:List UInt8} {p:Nat} {b:UInt8} (h:bs[p]?=some b):ofB (bs.drop p)=ofB (bs.drop (p+1)) * 256+b.toNat:=by
  obtain ⟨hp,e⟩:=List.getElem?_eq_some_iff.1 h
  rw [List.drop_eq_getElem_cons hp,e]
  show b.toNat+256 * ofB _=_
  omega
set_option maxHeartbeats 1000000 in
/-- The document's number of bytes. -/
theorem rof_any {w:World} {bs:List UInt8} {u:Value} (hu:Bts w u bs) (h8:bs.length≤8) :
    Calls Tryz.prog 111 #[u] w fun e w'=>e=.returned (.int .u64 ((ofB bs:Nat):Int))∧w=w':=by
  obtain ⟨A,m,c,rfl⟩:=hu.form
  have HM:=hide hu.len
  have hm2:m≤8:=by have:=HM.out; omega
  go_enter Tryz.func111,Tryz.ntmps111
  go_wp2
  go_loop [3,4] (fun r i=>∃ (j q:Nat) (z:Int),j≤m∧z+1≤j∧j≤z+1∧i=.int .i64 z∧r=.int .u64 (q:Int)∧Hid (q=ofB (bs.drop j))) (fun _ i=>(intOf i+1).toNat)
  case atStart=>exact ⟨m,0,(m:Int) - 1,by omega,by omega,by omega,rfl,rfl,by show 0=_; rw [List.drop_eq_nil_of_le (by have:=HM.out; omega)]; rfl⟩
  case round =>
    obtain ⟨j,q,z,hj,hz1,hz2,rfl,rfl,HQ⟩:=hrel
    by_cases h0:0≤z
    · obtain ⟨p,rfl⟩:=Int.eq_ofNat_of_zero_le h0
      obtain ⟨B,off,b,hA,hb',hcell⟩:=hu.at_ (j:=p) (by omega)
      have HB:=hide hb'
      clear hb'
      subst hA
      have hbl:=b.toNat_lt
      have hq:q≤72057594037927935:=by
        have h1:=ofB_lt (bs.drop j)
        have h2:(2:Nat) ^ (8 * (bs.drop j).length)≤2 ^ 56:=Nat.pow_le_pow_right (by omega) (by rw [List.length_drop]; have:=HM.out; omega)
        have:=HQ.out
        omega
      go_wp2
      go_round
      case rel=>exact ⟨p,q * 256+b.toNat,(p:Int) - 1,by omega,by omega,by omega,rfl,by go_num,by show q * 256+b.toNat=_; rw [HQ.out,ofB_drop HB.out,show j=p+1 by omega]⟩
      case measure=>simp [intOf]
    · go_wp2
      go_ret
      refine ⟨?_,rfl⟩
      rw [HQ.out,show j=0 by omega]
      rfl
set_option maxHeartbeats 1000000 in
/-- The document's frame. -/
theorem rfr_any {w:World} {k n c:Nat} {A:Option Addr} {bs:List UInt8} (hb:Bts w (.slice A n c) bs) (hk:k < 65536) (h:n≤65536) :
    Calls Tryz.prog 113 #[.int .u16 k,.slice A n c] w (OwnPost w (frm k bs)):=by
  obtain ⟨i0,hi0,hz0,hz1,hz2⟩:=byte_parts
  have HL:=hide hb.len
  have hl:bs.length≤65536:=by have:=HL.out; omega
  have K2:IsK 2 2:=⟨by omega,by omega⟩
  have K4:IsK 4 4:=⟨by omega,by omega⟩
  go_enter Tryz.func113,Tryz.ntmps113
  go_wp2_with fail
  refine (rnum_any 53021 2 2 (by omega) K2).mono ?_
  rintro e w1 ⟨A1,n1,c1,rfl,ho1,k1⟩
  go_wp2_with fail
  refine (rnum_any k 2 2 (by omega) K2).mono ?_
  rintro e w2 ⟨A2,n2,c2,rfl,ho2,k2⟩
  go_wp2_with fail
  refine (rnum_any n 4 4 (by omega) K4).mono ?_
  rintro e w3 ⟨A3,n3,c3,rfl,ho3,k3⟩
  have K03:Kp No w w3:=(k1.trans' k2).trans' k3
  have HB1:=hide ((ho1.bts.no k2).no k3)
  have HB2:=hide (ho2.bts.no k3)
  have HB3:=hide ho3.bts
  have z3:=K03.size
  clear ho1 ho2 ho3
  go_wp2_with fail
  refine (join_any (bss:=[numB 53021 2,numB k 2,numB n 4]) (RowsAt.new w3 [.slice A1 n1 c1,.slice A2 n2 c2,.slice A3 n3 c3] [numB 53021 2,numB k 2,numB n 4] rfl ?hb) rfl (by simp) (by simp [numB_length])).mono ?_
  case hb =>
    intro j v bs hj hb
    match j,hj,hb with
    | 0,hj,hb =>
      simp at hj hb
      subst hj hb
      exact HB1.out
    | 1,hj,hb =>
      simp at hj hb
      subst hj hb
      exact HB2.out
    | 2,hj,hb =>
      simp at hj hb
      subst hj hb
      exact HB3.out
    | j+3,hj,_=>simp at hj
  rintro e w4 ⟨A4,n4,c4,rfl,ho4,k4⟩
  have e4:[numB 53021 2,numB k 2,numB n 4].flatten=hdr k bs.length:=by rw [← HL.out]; simp [hdr]
  rw [e4] at ho4
  have K04:Kp No w w4:=(K03.trans' (Kp.alloc No _ _)).trans' k4
  have z4:=K04.size
  have l8:=hdr_len k bs.length
  go_wp2_with (first
    | (at_builtin
       refine wpList_app rfl (.tmp 17) (.tmp 18) _ rfl i0 Tryz.underlying54 hi0 hz0 hz1 hz2 rfl (own_empty w4) rfl (ho4.bts.no (Kp.alloc No w4 _)) ?hl (by simp) ?_
       case hl=>rw [l8]; simp
       intro A5 n5 c5 w5 h5
       have k5:Kp No w4 w5:=h5.keeps (own_empty w4) (Kp.alloc No w4 _)
       have z5:=k5.size)
    | (at_builtin
       refine wpList_app rfl (.tmp 19) (.tmp 20) _ rfl i0 Tryz.underlying54 hi0 hz0 hz1 hz2 rfl h5.own rfl (hb.no (K04.trans' k5)) ?hl z5 ?_
       case hl=>simp [l8]; omega
       intro A6 n6 c6 w6 h6
       have k6:Kp No w4 w6:=h6.keeps h5.own k5))
  have b6:Bts w6 (.slice A6 n6 c6) (hdr k bs.length ++ bs):=by simpa using h6.own.bts
  refine (srsum_any b6 (by simp [l8]; omega)).mono ?_
  rintro e w' ⟨rfl,rfl⟩
  rw [show crc (hdr k bs.length ++ bs)=fsum k bs from rfl]
  have hs:=fsum_lt k bs
  have K06:Kp No w w6:=K04.trans' k6
  go_wp2_with fail
  refine (rnum_any (fsum k bs) 4 4 (by omega) K4).mono ?_
  rintro e w7 ⟨A7,n7,c7,rfl,ho7,k7⟩
  have K07:Kp No w w7:=K06.trans' k7
  have HB4:=hide ((ho4.bts.no k6).no k7)
  have HB7:=hide ho7.bts
  have HBb:=hide (hb.no K07)
  clear ho4 ho7
  go_wp2_with fail
  refine (join_any (bss:=[hdr k bs.length,numB (fsum k bs) 4,bs]) (RowsAt.new w7 [.slice A4 n4 c4,.slice A7 n7 c7,.slice A n c] [hdr k bs.length,numB (fsum k bs) 4,bs] rfl ?hb) rfl (by simp) ?hl).mono ?_
  case hl=>simp [hdr_len,numB_length]; omega
  case hb =>
    intro j v bs hj hb
    match j,hj,hb with
    | 0,hj,hb =>
      simp at hj hb
      subst hj hb
      exact HB4.out
    | 1,hj,hb =>
      simp at hj hb
      subst hj hb
      exact HB7.out
    | 2,hj,hb =>
      simp at hj hb
      subst hj hb
      exact HBb.out
    | j+3,hj,_=>simp at hj
  rintro e w8 ⟨A8,n8,c8,rfl,ho8,k8⟩
  have e8:[hdr k bs.length,numB (fsum k bs) 4,bs].flatten=frm k bs:=by simp [frm]
  rw [e8] at ho8
  have z7:=(K07.trans' (Kp.alloc No w7 (.cells #[.slice A4 n4 c4,.slice A7 n7 c7,.slice A n c] 54))).size
  go_wp2
  go_ret
  exact ⟨A8,n8,c8,rfl,ho8.rebase fun j hj=>Nat.le_trans z7 (ho8.ge j hj),(K07.trans' (Kp.alloc No w7 _)).trans' k8⟩
end Go.Proofs.YtnfcfdhlmeimhaaGreat
namespace Go.Proofs.YtnfcfdhlmeimhaaGreat
open Go.RowKit
set_option linter.unusedVariables false
set_option maxRecDepth 20000
set_option linter.unusedSimpArgs false
/-- What the document's Open returns. -/
def RoPost (w:World) (v:Value) (bs:List UInt8) (k:Nat) (ld:List UInt8) (er:Nat) (e:Ending) (w1:World):Prop :=
  ∃ A n c,e=.returned (.tuple #[.int .u16 (k:Int),.slice A n c,.int .i64 (er:Int)])∧n≤c∧(∀ w0,Bts w0 v bs→Bts w0 (.slice A n c) ld)∧Kp No w w1
theorem RoPost.err {w w1:World} {v:Value} {bs:List UInt8} {er:Nat} (hk:Kp No w w1):RoPost w v bs 0 [] er (.returned (.tuple #[.int .u16 0,.slice none 0 0,.int .i64 (er:Int)])) w1:=⟨none,0,0,rfl,Nat.le_refl _,fun _ _=>Bts.nil _,hk⟩
section
variable {w:World} {n c:Nat} {A:Option Addr} {bs:List UInt8}
theorem ro_err {v:Value} {er:Nat} {e:Ending} {w1:World} (h:opE bs=er) (h0:er≠0) (hp:RoPost w v bs 0 [] er e w1):RoPost w v bs (opK bs) (opL bs) (opE bs) e w1:=by
  unfold opK opL
  rw [if_neg (by omega),if_neg (by omega),h]
  exact hp
theorem ro_ok {v:Value} {e:Ending} {w1:World} (h:opE bs=0) (hp:RoPost w v bs (kdO bs) (ldO bs (ctO bs)) 0 e w1):RoPost w v bs (opK bs) (opL bs) (opE bs) e w1:=by
  unfold opK opL
  rw [if_pos h,if_pos h,h]
  exact hp
theorem rop_short {w:World} {n c:Nat} {A:Option Addr} {bs:List UInt8} (h:n < 12):Calls Tryz.prog 106 #[.slice A n c] w (RoPost w (.slice A n c) bs 0 [] 21):=by
  go_enter Tryz.func106,Tryz.ntmps106
  go_wp2
  exact bodyPost_ret (v:=.tuple #[.int .u16 0,.slice none 0 0,.int .i64 21]) (by simp [results,Tryz.results106,go_sem]) rfl (RoPost.err (Kp.refl _ _))
set_option maxHeartbeats 4000000 in
theorem ropen_any (hb:Bts w (.slice A n c) bs) (hnc:n≤c) (hbig:n≤900000000):Calls Tryz.prog 106 #[.slice A n c] w (RoPost w (.slice A n c) bs (opK bs) (opL bs) (opE bs)):=by
  obtain ⟨i0,hi0,hz0,hz1,hz2⟩:=byte_parts
  have HL:=hide hb.len
  by_cases h:n < 12
  · exact (rop_short h).mono fun e w1 hp=>ro_err (opE_21 (by have:=HL.out; omega)) (by omega) hp
  have h:12≤n:=by omega
  obtain ⟨A4,s4,b4,_⟩:=slice_lu hb hnc 4 8 4 (c - 4) 4 8 rfl rfl (by omega) (by omega) rfl rfl
  obtain ⟨s1,b1,_⟩:=slice_u hb hnc 2 2 rfl (by omega)
  obtain ⟨s2,b2,_⟩:=slice_u hb hnc 8 8 rfl (by omega)
  obtain ⟨A8,s8,b8,_⟩:=slice_lu hb hnc 8 12 4 (c - 8) 8 12 rfl rfl (by omega) (by omega) rfl rfl
  obtain ⟨A2,s5,b5,_⟩:=slice_lu hb hnc 2 4 2 (c - 2) 2 4 rfl rfl (by omega) (by omega) rfl rfl
  obtain ⟨q,hq⟩:∃ q,q=mkO bs:=⟨_,rfl⟩
  obtain ⟨k,hk⟩:∃ q,q=kdO bs:=⟨_,rfl⟩
  obtain ⟨t,ht⟩:∃ q,q=ctO bs:=⟨_,rfl⟩
  obtain ⟨z,hz⟩:∃ q,q=smO bs:=⟨_,rfl⟩
  have kl:k < 65536:=hk ▸ kdO_lt bs
  have tl:t < 4294967296:=ht ▸ ctO_lt bs
  have zl:z < 4294967296:=hz ▸ smO_lt bs
  have HQ:=hide hq
  have HK:=hide hk
  have HT:=hide ht
  have HZ:=hide hz
  have B8:=hide b2
  have BZ:=hide b8
  have BK:=hide b5
  clear hq hk ht hz b2 b8 b5
  go_enter Tryz.func106,Tryz.ntmps106
  go_wp2_with fail
  refine (rof_any b4 (by simp; omega)).mono ?_
  rintro e w' ⟨rfl,rfl⟩
  rw [show ofB ((bs.drop 4).take 4)=t from HT.out.symm]
  go_wp2_with fail
  refine (rof_any b1 (by simp; omega)).mono ?_
  rintro e w' ⟨rfl,rfl⟩
  rw [show ofB (bs.take 2)=q from HQ.out.symm]
  clear b4 b1
  by_cases hm:q=53021
  · have HM:=hide hm
    subst hm
    by_cases ht1:65536 < t
    · go_wp2
      exact bodyPost_ret (v:=.tuple #[.int .u16 0,.slice none 0 0,.int .i64 21]) (by simp [results,Tryz.results106,go_sem]) rfl (ro_err (opE_21 (by have:=HT.out; have:=HL.out; have:=HQ.out; omega)) (by omega) (RoPost.err (Kp.refl _ _)))
    have ht1:t≤65536:=by omega
    by_cases ht2:n - 12 < t
    · have ht3:(n:Int) - 12 < t:=by omega
      go_wp2
      exact bodyPost_ret (v:=.tuple #[.int .u16 0,.slice none 0 0,.int .i64 21]) (by simp [results,Tryz.results106,go_sem]) rfl (ro_err (opE_21 (by have:=HT.out; have:=HL.out; have:=HQ.out; omega)) (by omega) (RoPost.err (Kp.refl _ _)))
    have ht2:12+t≤n:=by omega
    have ht3:¬ ((n:Int) - 12 < t):=by omega
    obtain ⟨A3,s3,ball,c3⟩:=slice_lu_all n c A hnc 12 (12+t) t (c - 12) 12 (12+(t:Int)) rfl (by omega) (by omega) ht2 (by omega) rfl
    have BALL:=hide ball
    have BL:=hide (ball w bs hb)
    obtain ⟨y,hy⟩:∃ y,y=csO bs t:=⟨_,rfl⟩
    have yl:y < 4294967296:=hy ▸ csO_lt bs t
    have HY:=hide hy
    clear hy ball
    have hw:IntKind.u32.wrap (z:Int)=z:=IntWalk.u32_in _ (by omega)
    by_cases hzy:z=y
    · have HZY:=hide hzy
      subst hzy
      go_wp2_with fail
      refine wp_region_noPanic ?_
      refine wp_region_held_drew (S:=fun w'=>Kp No w w') (by kernel_rfl) ((Kp.refl No w).drew) (fun hHeld=>?_)
      refine wpAnyH_take (i:=1) (v:=?vgx1) (oi:=?ogx1) ?hgx1 (by kernel_rfl) (by kernel_rfl) (by kernel_rfl) (fun _ _ _ h=>h) (Or.inl ⟨?wgx1,?ygx1⟩) hHeld ?rgx1
      case hgx1=>simp only [gA0,gA1,gA2]; rfl
      case wgx1=>rfl
      case ygx1=>intro w hSw; (try dsimp only at hSw); go_simp; (try with_reducible rfl)
      simp only [Act.put,sA0,sA1,sA2]
      refine wpAnyH_take (i:=2) (v:=?vgx2) (oi:=?ogx2) ?hgx2 (by kernel_rfl) (by kernel_rfl) (by kernel_rfl) (fun _ _ _ h=>h) (Or.inl ⟨?wgx2,?ygx2⟩) hHeld ?rgx2
      case hgx2=>simp only [gA0,gA1,gA2]; rfl
      case wgx2=>rfl
      case ygx2=>intro w hSw; (try dsimp only at hSw); go_simp; (try with_reducible rfl)
      simp only [Act.put,sA0,sA1,sA2]
      refine wpAnyH_take (i:=4) (v:=?vgx3) (oi:=?ogx3) ?hgx3 (by kernel_rfl) (by kernel_rfl) (by kernel_rfl) (fun _ _ _ h=>h) (Or.inl ⟨?wgx3,?ygx3⟩) hHeld ?rgx3
      case hgx3=>simp only [gA0,gA1,gA2]; rfl
      case wgx3=>rfl
      case ygx3=>intro w hSw; (try dsimp only at hSw); go_simp; (try with_reducible rfl)
      simp only [Act.put,sA0,sA1,sA2]
      refine wpAnyH_take (i:=7) (v:=?vgx4) (oi:=?ogx4) ?hgx4 (by kernel_rfl) (by kernel_rfl) (by kernel_rfl) (fun _ _ _ h=>h) (Or.inl ⟨?wgx4,?ygx4⟩) hHeld ?rgx4
      case hgx4=>simp only [gA0,gA1,gA2]; rfl
      case wgx4=>rfl
      case ygx4=>intro w hSw; (try dsimp only at hSw); go_simp; (try with_reducible rfl)
      simp only [Act.put,sA0,sA1,sA2]
      refine wpAnyH_take (i:=8) (v:=?vgx5) (oi:=?ogx5) ?hgx5 (by kernel_rfl) (by kernel_rfl) (by kernel_rfl) (fun _ _ _ h=>h) (Or.inl ⟨?wgx5,?ygx5⟩) hHeld ?rgx5
      case hgx5=>simp only [gA0,gA1,gA2]; rfl
      case wgx5=>rfl
      case ygx5=>intro w hSw; (try dsimp only at hSw); go_simp; (try with_reducible rfl)
      simp only [Act.put,sA0,sA1,sA2]
      refine wpAnyH_ready (rs:=[0]) (by kernel_rfl) (by simp) ?_
      refine AllReadyH.cons (o:=?ogx6) ?hgx6 (fun K hK=>?sgx6) AllReadyH.nil
      case hgx6=>simp only [gA0,gA1,gA2]; rfl
      go_simp
      refine hK.out _ _ (hHeld.trans' (Kp.alloc No _ _)) (fun hHeld=>?_)
      clear hK K
      try simp only [Act.put,sA0,sA1,sA2]
      refine wpAnyH_ready (rs:=[3]) (by kernel_rfl) (by simp) ?_
      refine AllReadyH.cons (o:=?ogx7) ?hgx7 (fun K hK=>?sgx7) AllReadyH.nil
      case hgx7=>simp only [gA0,gA1,gA2]; rfl
      have o3:=own_empty w.drew
      refine step_app rfl (.tmp 34) (.tmp 36) _ rfl i0 Tryz.underlying54 hi0 hz0 hz1 hz2 rfl o3 rfl (B8.out.no hHeld) ?l3 ?b3 ?_
      case l3=>simp; omega
      case b3=>simp
      intro A5 n5 c5 w5 ha5
      have k5:Kp No w.drew w5:=ha5.keeps o3 (Kp.alloc No _ _)
      refine hK.out _ _ ((Kp.refl No w).drew.trans' k5) (fun hHeld=>?_)
      clear hK K
      try simp only [Act.put,sA0,sA1,sA2]
      refine wpAnyH_ready (rs:=[5]) (by kernel_rfl) (by simp) ?_
      refine AllReadyH.cons (o:=?ogx8) ?hgx8 (fun K hK=>?sgx8) AllReadyH.nil
      case hgx8=>simp only [gA0,gA1,gA2]; rfl
      refine step_app rfl (.tmp 37) (.tmp 38) _ rfl i0 Tryz.underlying54 hi0 hz0 hz1 hz2 rfl ha5.own rfl (BL.out.no hHeld) ?l5 ?b5 ?_
      case l5=>simp; omega
      case b5=>exact k5.size
      intro A6 n6 c6 w6 ha6
      have k6:Kp No w.drew w6:=ha6.keeps ha5.own k5
      have b6:Bts w6 (.slice A6 n6 c6) (bs.take 8 ++ (bs.drop 12).take t):=by simpa using ha6.own.bts
      refine hK.out _ _ ((Kp.refl No w).drew.trans' k6) (fun hHeld=>?_)
      clear hK K
      try simp only [Act.put,sA0,sA1,sA2]
      refine wpAnyH_ready (rs:=[6]) (by kernel_rfl) (by simp) ?_
      refine AllReadyH.cons (o:=?ogx9) ?hgx9 (fun K hK=>?sgx9) AllReadyH.nil
      case hgx9=>simp only [gA0,gA1,gA2]; rfl
      go_simp
      refine (srsum_any b6 ?l6).mono ?_
      case l6=>simp; omega
      rintro e w' ⟨rfl,rfl⟩
      rw [show crc (bs.take 8 ++ (bs.drop 12).take t)=z from HY.out.symm]
      go_wp2_with fail
      refine hK.out _ _ (hHeld) (fun hHeld=>?_)
      clear hK K
      try simp only [Act.put,sA0,sA1,sA2]
      refine wpAnyH_ready (rs:=[9]) (by kernel_rfl) (by simp) ?_
      refine AllReadyH.cons (o:=?ogx10) ?hgx10 (fun K hK=>?sgx10) AllReadyH.nil
      case hgx10=>simp only [gA0,gA1,gA2]; rfl
      go_simp
      refine (rof_any (BZ.out.no hHeld) ?l9).mono ?_
      case l9=>simp; omega
      rintro e w' ⟨rfl,rfl⟩
      rw [show ofB ((bs.drop 8).take 4)=z from HZ.out.symm]
      go_wp2_with fail
      refine hK.out _ _ (hHeld) (fun hHeld=>?_)
      clear hK K
      try simp only [Act.put,sA0,sA1,sA2]
      refine wpAnyH_take (i:=10) (v:=?vgx11) (oi:=?ogx11) ?hgx11 (by kernel_rfl) (by kernel_rfl) (by kernel_rfl) (fun _ _ _ h=>h) (Or.inl ⟨?wgx11,?ygx11⟩) hHeld ?rgx11
      case hgx11=>simp only [gA0,gA1,gA2]; rfl
      case wgx11=>rfl
      case ygx11=>intro w hSw; (try dsimp only at hSw); go_simp; (try with_reducible rfl)
      simp only [Act.put,sA0,sA1,sA2]
      refine wpAnyH_take (i:=11) (v:=?vgx12) (oi:=?ogx12) ?hgx12 (by kernel_rfl) (by kernel_rfl) (by kernel_rfl) (fun _ _ _ h=>h) (Or.inl ⟨?wgx12,?ygx12⟩) hHeld ?rgx12
      case hgx12=>simp only [gA0,gA1,gA2]; rfl
      case wgx12=>rfl
      case ygx12=>intro w hSw; (try dsimp only at hSw); go_simp; (try with_reducible rfl)
      simp only [Act.put,sA0,sA1,sA2]
      refine wpAnyH_done (by kernel_rfl) ?_ _
      refine NoPanic.normal ?_
      clear hw
      go_wp2_with fail
      refine (rof_any (BK.out.no hHeld) ?lk).mono ?_
      case lk=>simp; omega
      rintro e w' ⟨rfl,rfl⟩
      rw [show ofB ((bs.drop 2).take 2)=k from HK.out.symm]
      go_wp2
      refine bodyPost_ret (v:=.tuple #[.int .u16 (k:Int),.slice A3 t (c - 12),.int .i64 0]) (by simp [results,Tryz.results106,go_sem]) rfl (ro_ok ?_ ⟨A3,t,c - 12,?_,c3,?_,hHeld⟩)
      · unfold opE
        rw [if_neg (by have:=HM.out; have:=HT.out; have:=HL.out; have:=HQ.out; omega),if_neg]
        rw [← HT.out,← HY.out,← HZ.out]; simp
      · rw [← HK.out]; rfl
      · rw [← HT.out]; exact fun w0 h0=>BALL.out w0 bs h0
    · have hne:((y:Int) != (z:Int))=true:=by simp; omega
      go_wp2_with fail
      refine wp_region_noPanic ?_
      refine wp_region_held_drew (S:=fun w'=>Kp No w w') (by kernel_rfl) ((Kp.refl No w).drew) (fun hHeld=>?_)
      refine wpAnyH_take (i:=1) (v:=?vhx1) (oi:=?ohx1) ?hhx1 (by kernel_rfl) (by kernel_rfl) (by kernel_rfl) (fun _ _ _ h=>h) (Or.inl ⟨?whx1,?yhx1⟩) hHeld ?rhx1
      case hhx1=>simp only [gA0,gA1,gA2]; rfl
      case whx1=>rfl
      case yhx1=>intro w hSw; (try dsimp only at hSw); go_simp; (try with_reducible rfl)
      simp only [Act.put,sA0,sA1,sA2]
      refine wpAnyH_take (i:=2) (v:=?vhx2) (oi:=?ohx2) ?hhx2 (by kernel_rfl) (by kernel_rfl) (by kernel_rfl) (fun _ _ _ h=>h) (Or.inl ⟨?whx2,?yhx2⟩) hHeld ?rhx2
      case hhx2=>simp only [gA0,gA1,gA2]; rfl
      case whx2=>rfl
      case yhx2=>intro w hSw; (try dsimp only at hSw); go_simp; (try with_reducible rfl)
      simp only [Act.put,sA0,sA1,sA2]
      refine wpAnyH_take (i:=4) (v:=?vhx3) (oi:=?ohx3) ?hhx3 (by kernel_rfl) (by kernel_rfl) (by kernel_rfl) (fun _ _ _ h=>h) (Or.inl ⟨?whx3,?yhx3⟩) hHeld ?rhx3
      case hhx3=>simp only [gA0,gA1,gA2]; rfl
      case whx3=>rfl
      case yhx3=>intro w hSw; (try dsimp only at hSw); go_simp; (try with_reducible rfl)
      simp only [Act.put,sA0,sA1,sA2]
      refine wpAnyH_take (i:=7) (v:=?vhx4) (oi:=?ohx4) ?hhx4 (by kernel_rfl) (by kernel_rfl) (by kernel_rfl) (fun _ _ _ h=>h) (Or.inl ⟨?whx4,?yhx4⟩) hHeld ?rhx4
      case hhx4=>simp only [gA0,gA1,gA2]; rfl
      case whx4=>rfl
      case yhx4=>intro w hSw; (try dsimp only at hSw); go_simp; (try with_reducible rfl)
      simp only [Act.put,sA0,sA1,sA2]
      refine wpAnyH_take (i:=8) (v:=?vhx5) (oi:=?ohx5) ?hhx5 (by kernel_rfl) (by kernel_rfl) (by kernel_rfl) (fun _ _ _ h=>h) (Or.inl ⟨?whx5,?yhx5⟩) hHeld ?rhx5
      case hhx5=>simp only [gA0,gA1,gA2]; rfl
      case whx5=>rfl
      case yhx5=>intro w hSw; (try dsimp only at hSw); go_simp; (try with_reducible rfl)
      simp only [Act.put,sA0,sA1,sA2]
      refine wpAnyH_ready (rs:=[0]) (by kernel_rfl) (by simp) ?_
      refine AllReadyH.cons (o:=?ohx6) ?hhx6 (fun K hK=>?shx6) AllReadyH.nil
      case hhx6=>simp only [gA0,gA1,gA2]; rfl
      go_simp
      refine hK.out _ _ (hHeld.trans' (Kp.alloc No _ _)) (fun hHeld=>?_)
      clear hK K
      try simp only [Act.put,sA0,sA1,sA2]
      refine wpAnyH_ready (rs:=[3]) (by kernel_rfl) (by simp) ?_
      refine AllReadyH.cons (o:=?ohx7) ?hhx7 (fun K hK=>?shx7) AllReadyH.nil
      case hhx7=>simp only [gA0,gA1,gA2]; rfl
      have o3:=own_empty w.drew
      refine step_app rfl (.tmp 34) (.tmp 36) _ rfl i0 Tryz.underlying54 hi0 hz0 hz1 hz2 rfl o3 rfl (B8.out.no hHeld) ?l3 ?b3 ?_
      case l3=>simp; omega
      case b3=>simp
      intro A5 n5 c5 w5 ha5
      have k5:Kp No w.drew w5:=ha5.keeps o3 (Kp.alloc No _ _)
      refine hK.out _ _ ((Kp.refl No w).drew.trans' k5) (fun hHeld=>?_)
      clear hK K
      try simp only [Act.put,sA0,sA1,sA2]
      refine wpAnyH_ready (rs:=[5]) (by kernel_rfl) (by simp) ?_
      refine AllReadyH.cons (o:=?ohx8) ?hhx8 (fun K hK=>?shx8) AllReadyH.nil
      case hhx8=>simp only [gA0,gA1,gA2]; rfl
      refine step_app rfl (.tmp 37) (.tmp 38) _ rfl i0 Tryz.underlying54 hi0 hz0 hz1 hz2 rfl ha5.own rfl (BL.out.no hHeld) ?l5 ?b5 ?_
      case l5=>simp; omega
      case b5=>exact k5.size
      intro A6 n6 c6 w6 ha6
      have k6:Kp No w.drew w6:=ha6.keeps ha5.own k5
      have b6:Bts w6 (.slice A6 n6 c6) (bs.take 8 ++ (bs.drop 12).take t):=by simpa using ha6.own.bts
      refine hK.out _ _ ((Kp.refl No w).drew.trans' k6) (fun hHeld=>?_)
      clear hK K
      try simp only [Act.put,sA0,sA1,sA2]
      refine wpAnyH_ready (rs:=[6]) (by kernel_rfl) (by simp) ?_
      refine AllReadyH.cons (o:=?ohx9) ?hhx9 (fun K hK=>?shx9) AllReadyH.nil
      case hhx9=>simp only [gA0,gA1,gA2]; rfl
      go_simp
      refine (srsum_any b6 ?l6).mono ?_
      case l6=>simp; omega
      rintro e w' ⟨rfl,rfl⟩
      rw [show crc (bs.take 8 ++ (bs.drop 12).take t)=y from HY.out.symm]
      go_wp2_with fail
      refine hK.out _ _ (hHeld) (fun hHeld=>?_)
      clear hK K
      try simp only [Act.put,sA0,sA1,sA2]
      refine wpAnyH_ready (rs:=[9]) (by kernel_rfl) (by simp) ?_
      refine AllReadyH.cons (o:=?ohx10) ?hhx10 (fun K hK=>?shx10) AllReadyH.nil
      case hhx10=>simp only [gA0,gA1,gA2]; rfl
      go_simp
      refine (rof_any (BZ.out.no hHeld) ?l9).mono ?_
      case l9=>simp; omega
      rintro e w' ⟨rfl,rfl⟩
      rw [show ofB ((bs.drop 8).take 4)=z from HZ.out.symm]
      go_wp2_with fail
      refine hK.out _ _ (hHeld) (fun hHeld=>?_)
      clear hK K
      try simp only [Act.put,sA0,sA1,sA2]
      refine wpAnyH_take (i:=10) (v:=?vhx11) (oi:=?ohx11) ?hhx11 (by kernel_rfl) (by kernel_rfl) (by kernel_rfl) (fun _ _ _ h=>h) (Or.inl ⟨?whx11,?yhx11⟩) hHeld ?rhx11
      case hhx11=>simp only [gA0,gA1,gA2]; rfl
      case whx11=>rfl
      case yhx11=>intro w hSw; (try dsimp only at hSw); go_simp; (try with_reducible rfl)
      simp only [Act.put,sA0,sA1,sA2]
      refine wpAnyH_take (i:=11) (v:=?vhx12) (oi:=?ohx12) ?hhx12 (by kernel_rfl) (by kernel_rfl) (by kernel_rfl) (fun _ _ _ h=>h) (Or.inl ⟨?whx12,?yhx12⟩) hHeld ?rhx12
      case hhx12=>simp only [gA0,gA1,gA2]; rfl
      case whx12=>rfl
      case yhx12=>intro w hSw; (try dsimp only at hSw); go_simp; (try with_reducible rfl)
      simp only [Act.put,sA0,sA1,sA2]
      refine wpAnyH_done (by kernel_rfl) ?_ _
      refine NoPanic.normal ?_
      clear hw hne
      go_wp2
      refine bodyPost_ret (v:=.tuple #[.int .u16 0,.slice none 0 0,.int .i64 22]) (by simp [results,Tryz.results106,go_sem]) rfl (ro_err (er:=22) ?_ (by omega) (RoPost.err hHeld))
      unfold opE
      rw [if_neg (by have:=HM.out; have:=HT.out; have:=HL.out; have:=HQ.out; omega),if_pos]
      rw [← HT.out,← HY.out,← HZ.out]; exact hzy
  · have hm2:((q:Int) != 53021)=true:=by simp; omega
    go_wp2
    exact bodyPost_ret (v:=.tuple #[.int .u16 0,.slice none 0 0,.int .i64 21]) (by simp [results,Tryz.results106,go_sem]) rfl (ro_err (opE_21 (by have:=HT.out; have:=HL.out; have:=HQ.out; omega)) (by omega) (RoPost.err (Kp.refl _ _)))
end
end Go.Proofs.YtnfcfdhlmeimhaaGreat
