/- Readings of arguments opened to cells: bytes, numbers, and structs within slices. No condition; Package gf's powers, inverses and quotients, each as a contract: what the call returns, with memory as it was; The document's powers (coldframeref02) as a contract: what the call returns, with memory as it was; Rows of any type that the call made and appends to. No condition; The calls of package pack's Writer, each as a contract over memory, and the plain functions of bytes that they come to; bytes.Clone, the Writer's Bytes, and the document's own answers for package pack, each as a contract over memory; CRC-32C in plain words: the register's step on any number, that it keeps xor, that bytes are fed as one great number, and that bits turned within 32 side by side change what comes out. No program is spoken of. -/
import Derived.Test.YtnfcfdhlmeimhaaGreatSpaa
import Derived.Deep.Slices
import Derived.Deep.Fields
import Derived.ChangeSame
import Derived.ChangeSlices
import Derived.OpenShut
import Derived.Test.YtnfcfdhlmeimhaaGreatProg
import Derived.WalkLawsBesides
import Derived.WalkSpells
import Derived.KernelRfl
namespace Go.Proofs.YtnfcfdhlmeimhaaGreat
open Go.ChangeShapes Go.WideShapes Go.RowKit Go.Deep
set_option linter.unusedVariables false
set_option maxRecDepth 20000
section
variable {H:Type} {enc:TypeId × Value→H} {P:Program} {w:World} {base:Nat} {spare:Nat→Bool} {held:Bool} {fuel:Nat} {v:Value} {x:DataW H × List MemPlace}
theorem toNat_byte (z:Int) (h:0≤z∧z≤255):((UInt8.ofNat z.toNat).toNat:Int)=z:=by
  rw [UInt8.toNat_ofNat']
  omega
/-- A slice of bytes that came in. -/
theorem open_bts {t e:TypeId} (ht:P.underlying t=some (.slice e)) (he:P.underlying e=some (.int .u8)) (hc:P.cellsOf e=1) (h:DataW.trod enc P w base spare held fuel t [v]=some x) :
    ∃ A m c bs,v=.slice A m c∧Bts w (.slice A m c) bs∧m≤maxLen:=by
  rcases open_ints ht he hc h with ⟨hcs,_⟩ | ⟨a,len,cap,zs,hcs,_,hl,hm,hz,_,hcell,hwz⟩
  · simp only [List.cons.injEq,and_true] at hcs
    exact ⟨none,0,0,[],hcs,Bts.nil w,Nat.zero_le _⟩
  · simp only [List.cons.injEq,and_true] at hcs
    have hle:len≤zs.length:=by rw [hz]; split <;> omega
    refine ⟨some a,len,cap,(zs.take len).map (fun z=>UInt8.ofNat z.toNat),hcs,⟨some a,cap,by simp [hle],(fun h=>by cases h),fun ad ha j u hu=>?_⟩,by omega⟩
    injection ha with ha
    subst ha
    simp only [List.getElem?_map,Option.map_eq_some_iff] at hu
    obtain ⟨z,hz',rfl⟩:=hu
    rw [List.getElem?_take] at hz'
    split at hz'
    · have hj:=(List.getElem?_eq_some_iff.1 hz').1
      rw [hcell j hj]
      have hg:zs.getD j 0=z:=by simp [List.getD,hz']
      rw [hg]
      have hb:=bounds_u8 (hwz z (List.mem_of_getElem? hz'))
      unfold bv
      rw [toNat_byte z hb]
    · cases hz'
/-- An unsigned number that came in. -/
theorem open_nat {t:TypeId} {k:IntKind} (ht:P.underlying t=some (.int k)) (h0:∀ n,(Lit.int k n).wf=true→0≤n) (h:DataW.trod enc P w base spare held fuel t [v]=some x) :
    ∃ n:Nat,v=.int k (n:Int)∧(Lit.int k (n:Int)).wf=true:=by
  obtain ⟨n,hcs,_,hwf⟩:=DataW.trod_int ht h
  simp only [List.cons.injEq,and_true] at hcs
  have:=h0 n hwf
  obtain ⟨m,rfl⟩:=Int.eq_ofNat_of_zero_le this
  exact ⟨m,hcs,hwf⟩
/-- A struct's fields, one by one. -/
theorem open_parts {t:TypeId} {fs:Array Field} {cs:List Value} (ht:P.underlying t=some (.struct fs)) (h:DataW.trod enc P w base spare held fuel t cs=some x) :
    ∃ n,cs.length=P.cellsOf t∧∀ (i:Nat) (ty:TypeId) (off k:Nat),(fs[i]?).map (fun f=>(f.type,f.offset))=some (ty,off)→P.cellsOf ty=k→∃ y,DataW.trod enc P w base spare held n ty ((cs.drop off).take k)=some y:=by
  obtain ⟨xs,n,_,_,hl,hx,hf⟩:=DataW.trod_struct ht h
  refine ⟨n,hl,fun i ty off k hi hk=>?_⟩
  obtain ⟨f,hfi,he⟩:=Option.map_eq_some_iff.1 hi
  have hlt:i < xs.length:=by rw [hx]; exact (Array.getElem?_eq_some_iff.1 hfi).1
  simp only [Prod.mk.injEq] at he
  obtain ⟨rfl,rfl⟩:=he
  subst hk
  exact ⟨xs[i],(hf i f hfi).trans (List.getElem?_eq_getElem hlt)⟩
end
end Go.Proofs.YtnfcfdhlmeimhaaGreat
namespace Go.Proofs.YtnfcfdhlmeimhaaGreat
open Go.RowKit
set_option linter.unusedVariables false
theorem and1_i64 (n:Int):bits .and .i64 n 1=n % 2:=by
  have h1:(BitVec.ofInt 64 1).toNat=2 ^ 1 - 1:=by decide
  have key:(BitVec.ofInt 64 n &&& BitVec.ofInt 64 1).toNat=(n % ((2 ^ 64:Nat):Int)).toNat % 2 ^ 1:=by
    rw [BitVec.toNat_and,BitVec.toNat_ofInt,h1,Nat.and_two_pow_sub_one_eq_mod]
  show IntKind.i64.wrap ((BitVec.ofInt 64 n &&& BitVec.ofInt 64 1).toNat:Nat)=n % 2
  rw [key,IntKind.wrap_i64]
  omega
theorem pow_even {x p m:Nat} (hx:x < 256) (h:m % 2=0):gmul p (gpow (gmul x x) (m / 2))=gmul p (gpow x m):=by
  rw [gpow_sq hx,show 2 * (m / 2)=m by omega]
theorem pow_odd {x p m:Nat} (hx:x < 256) (hp:p < 256) (h:m % 2=1):gmul (gmul p x) (gpow (gmul x x) (m / 2))=gmul p (gpow x m):=by
  rw [gpow_sq hx,gmul_assoc hp hx (gpow_lt _)]
  congr 1
  have:gpow x m=gpow x (1+2 * (m / 2)):=by congr 1; omega
  rw [this,gpow_add hx,gpow_one hx]
set_option maxHeartbeats 1000000 in
theorem pow_any (a:Nat) (n:Int) (w:World) (ha:a < 256) (h1:-9223372036854775808≤n) (h2:n≤9223372036854775807) :
    Calls Tryz.prog 66 #[.int .u8 a,.int .i64 n] w fun e w'=>e=.returned (.int .u8 (gpow a n.toNat:Int))∧w=w':=by
  go_enter Tryz.func66,Tryz.ntmps66
  go_wp2_with fail
  go_loop [0,1,5] (fun x y z=>∃ (x' p:Nat) (m:Int),x' < 256∧p < 256∧-9223372036854775808≤m∧m≤9223372036854775807∧x=.int .u8 x'∧y=.int .i64 m∧z=.int .u8 p∧Hid (gmul p (gpow x' m.toNat)=gpow a n.toNat)) (fun _ y _=>(intOf y).toNat)
  case atStart=>exact ⟨a,1,n,ha,by decide,h1,h2,rfl,rfl,rfl,one_gmul (gpow_lt _)⟩
  case round =>
    obtain ⟨x,p,m,hx,hp,hm1,hm2,rfl,rfl,rfl,hh⟩:=hrel
    by_cases hlt:0 < m
    · have ht:=and1_i64 m
      by_cases hodd:m % 2=1
      · rw [hodd] at ht
        have hs:Hid (gmul (gmul p x) (gpow (gmul x x) (m / 2).toNat)=gpow a n.toNat):=by
          show gmul (gmul p x) (gpow (gmul x x) (m / 2).toNat)=gpow a n.toNat
          rw [show (m / 2).toNat=m.toNat / 2 by omega,pow_odd hx hp (by omega),hh.out]
        clear hodd
        go_wp2_with fail
        refine (mul_any _ _ _ hp hx).mono ?_
        rintro e w' ⟨rfl,rfl⟩
        go_wp2_with fail
        refine (mul_any _ _ _ hx hx).mono ?_
        rintro e w' ⟨rfl,rfl⟩
        go_wp2_with fail
        go_round
        case rel=>exact ⟨gmul x x,gmul p x,m / 2,gmul_lt hx _,gmul_lt hp _,by omega,by omega,rfl,rfl,rfl,hs⟩
        case measure=>simp [intOf]; omega
      · rw [show m % 2=0 by omega] at ht
        have hs:Hid (gmul p (gpow (gmul x x) (m / 2).toNat)=gpow a n.toNat):=by
          show gmul p (gpow (gmul x x) (m / 2).toNat)=gpow a n.toNat
          rw [show (m / 2).toNat=m.toNat / 2 by omega,pow_even hx (by omega),hh.out]
        clear hodd
        go_wp2_with fail
        refine (mul_any _ _ _ hx hx).mono ?_
        rintro e w' ⟨rfl,rfl⟩
        go_wp2_with fail
        go_round
        case rel=>exact ⟨gmul x x,p,m / 2,gmul_lt hx _,hp,by omega,by omega,rfl,rfl,rfl,hs⟩
        case measure=>simp [intOf]; omega
    · go_wp2_with fail
      go_ret
      have h0:m.toNat=0:=by omega
      have:=hh.out
      rw [h0,show gpow x 0=1 from rfl,gmul_one hp] at this
      exact ⟨ret_u8 (by rw [this]),rfl⟩
end Go.Proofs.YtnfcfdhlmeimhaaGreat
namespace Go.Proofs.YtnfcfdhlmeimhaaGreat
open Go.RowKit
set_option linter.unusedVariables false
set_option maxRecDepth 100000 in
set_option maxHeartbeats 1000000 in
theorem refpow_any (a n:Nat) (w:World) (ha:a < 256) (hn:n≤1000000) :
    Calls Tryz.prog 154 #[.int .u8 a,.int .i64 n] w fun e w'=>e=.returned (.int .u8 (gpow a n:Int))∧w=w':=by
  go_enter Tryz.func154,Tryz.ntmps154
  go_wp2_with fail
  go_loop [5,6] (fun p i=>∃ k:Nat,k≤n∧i=.int .i64 k∧p=.int .u8 (gpow a k:Int)) (fun _ i=>n - (intOf i).toNat)
  case atStart=>exact ⟨0,by omega,rfl,rfl⟩
  case round =>
    obtain ⟨k,hk,rfl,rfl⟩:=hrel
    by_cases hlt:k < n
    · go_wp2_with fail
      refine (refmul_any _ _ _ (gpow_lt k) ha).mono ?_
      rintro e w' ⟨rfl,rfl⟩
      go_wp2_with fail
      go_round
      case rel=>exact ⟨k+1,by omega,by go_num,rfl⟩
      case measure=>simp [intOf]; omega
    · obtain rfl:k=n:=by omega
      go_wp2_with fail
      go_ret
      exact ⟨rfl,rfl⟩
end Go.Proofs.YtnfcfdhlmeimhaaGreat
namespace Go.Proofs.YtnfcfdhlmeimhaaGreat
open Go.RowKit
set_option linter.unusedVariables false
set_option maxRecDepth 20000
/-- The type e takes sz cells and bt bytes, and is z when it is new. -/
structure Ty (e:TypeId) (z:Value) (sz bt:Nat):Prop where
  ex:∃ i,Tryz.prog.info? e=some i∧i.zero=some z∧i.size=sz∧i.bytes=bt
  zs:z.cells.size=sz
  s0:0 < sz
  b0:bt≤100
theorem ty_of {e:TypeId} {z:Value} {sz bt:Nat} (h:(Tryz.prog.info? e).map (fun i=>(i.zero,i.size,i.bytes))=some (some z,sz,bt)) (h2:z.cells.size=sz) (h3:0 < sz) (h4:bt≤100):Ty e z sz bt:=by
  refine ⟨?_,h2,h3,h4⟩
  rcases hi:Tryz.prog.info? e with _ | i
  · rw [hi] at h; cases h
  · rw [hi] at h
    simp only [Option.map_some,Option.some.injEq,Prod.mk.injEq] at h
    exact ⟨i,rfl,h.1,h.2.1,h.2.2⟩
/-- Cells that are appended. -/
structure Nws (w:World) (ad:Addr) (m sz:Nat) (cs:List Value):Prop where
  len:cs.length=m * sz
  at_:∀ (j:Nat) u,cs[j]?=some u→w.cell? (ad.add j)=some u
  one:∀ u ∈ cs,u.oneCell'=true
def OwnT (w:World) (base:Nat) (e:TypeId) (sz:Nat) (v:Value) (n:Nat) (xs:List Value):Prop:=w.ownsRow base e sz v n xs
section
variable {w w1 w2:World} {S:Nat→Prop} {base:Nat} {e:TypeId} {sz n m:Nat} {v v1 z:Value} {xs cs:List Value}
theorem OwnT.nil (w:World) (base:Nat) (e:TypeId) (sz:Nat):OwnT w base e sz (.slice none 0 0) 0 []:=World.ownsRow_nil w base e sz
theorem OwnT.lt (h:OwnT w base e sz v n xs) (k:Nat) (hk:v.ownBlock=some k):k < w.heap.size:=(World.ownsRow.lt h k hk).2
theorem OwnT.ge (h:OwnT w base e sz v n xs) (k:Nat) (hk:v.ownBlock=some k):base≤k:=(World.ownsRow.lt h k hk).1
theorem OwnT.keep (h:OwnT w base e sz v n xs) (hk:Kp S w w1) (hS:∀ k,v.ownBlock=some k→¬ S k):OwnT w1 base e sz v n xs:=by
  refine ⟨h.1,?_⟩
  rcases h.2 with hn | ⟨g,cap,cur,rfl,hb,hg,r⟩
  · exact .inl hn
  · exact .inr ⟨g,cap,cur,rfl,hb,by rw [hk.block g (Array.getElem?_eq_some_iff.1 hg).1 (hS g rfl)]; exact hg,r⟩
theorem OwnT.no (h:OwnT w base e sz v n xs) (hk:Kp No w w1):OwnT w1 base e sz v n xs:=h.keep hk fun _ _ f=>f
theorem OwnT.form (h:OwnT w base e sz v n xs):∃ A c,v=.slice A n c:=by
  rcases h.2 with ⟨rfl,rfl⟩ | ⟨g,cap,cur,rfl,_⟩
  · exact ⟨none,0,rfl⟩
  · exact ⟨_,_,rfl⟩
theorem OwnT.cell {A:Option Addr} {n' c j:Nat} (h:OwnT w base e sz (.slice A n' c) n xs) {u:Value} (hj:xs[j]?=some u):∃ g,A=some ⟨g,0,none⟩∧base≤g∧g < w.heap.size∧n≤c∧w.cell? ⟨g,j,none⟩=some u:=by
  have hjl:j < xs.length:=(List.getElem?_eq_some_iff.1 hj).1
  rcases h.2 with ⟨h1,hn⟩ | ⟨g,cap,cur,h1,hb,hg,hc,_,_,ht⟩
  · have:=h.1
    rw [hn,Nat.zero_mul] at this
    omega
  · injection h1 with h1 h2 h3
    subst h3
    refine ⟨g,h1,hb,(Array.getElem?_eq_some_iff.1 hg).1,hc,?_⟩
    rw [cell_of_row w g j cur _ _ hg]
    have h2:(cur.toList.take (n * sz))[j]?=xs[j]?:=by rw [ht]
    rw [List.getElem?_take,if_pos (by rw [← h.1]; exact hjl),Array.getElem?_toList,hj] at h2
    exact h2
theorem OwnT.kind (h:OwnT w base e sz v n xs) {g:Nat} (hg:v.ownBlock=some g):∃ cur,w.heap[g]?=some (.cells cur e (0,0)):=by
  rcases h.2 with ⟨rfl,_⟩ | ⟨g',cap,cur,rfl,_,h1,_⟩
  · cases hg
  · injection hg with hg
    subst hg
    exact ⟨cur,h1⟩
/-- What append leaves. -/
structure AppT (w:World) (base:Nat) (e:TypeId) (sz:Nat) (v:Value) (n:Nat) (xs:List Value) (m:Nat) (cs:List Value) (v1:Value) (w1:World):Prop where
  own:OwnT w1 base e sz v1 (n+m) (xs ++ cs)
  kp:Kp (fun k=>v.ownBlock=some k) w w1
  at_:v1.ownBlock=v.ownBlock∨v1.ownBlock=some w.heap.size
theorem run_appT {bt:Nat} (hT:Ty e z sz bt) (t ty:TypeId) (ht:Tryz.prog.underlying t=some (.slice e)) (h:OwnT w base e sz v n xs) (ad:Addr) (c:Nat) (hN:Nws w ad m sz cs) (hlen:n+m≤1000000) (hb:base≤w.heap.size) :
    ∃ v1 w1,(Builtin.append_ #[t,t] ty #[v,.slice (some ad) m c]).run Tryz.prog w=.ok v1 w1∧AppT w base e sz v n xs m cs v1 w1:=by
  obtain ⟨⟨i0,hi0,hz0,hz1,hz2⟩,h1,h2,h3⟩:=hT
  have h5:(n+m) * bt≤1000000 * 100:=Nat.mul_le_mul hlen h3
  obtain ⟨v1,w1,hr,e1,e2,e3,e4⟩:=run_append_own_at (P:=Tryz.prog) w base t ty e i0 z sz bt ht hi0 hz0 hz1 hz2 h1 h2 v n xs h ad m c cs hN.len hN.at_ hN.one (by simp only [maxLen]; omega) (by omega) hb
  exact ⟨v1,w1,hr,⟨e1,Kp.grown e2,e4⟩⟩
theorem AppT.keeps {w0:World} (ha:AppT w w0.heap.size e sz v n xs m cs v1 w1) (h:OwnT w w0.heap.size e sz v n xs) (hk:Kp S w0 w):Kp S w0 w1 :=
  hk.trans (ha.kp.mono fun k hk=>.inr (h.ge k hk))
theorem wpList_appT {ops:Array Oper} {rest:List Oper} {o:Oper} {a:Act} {Q:Exit→Act→World→Prop} {bt:Nat} (hT:Ty e z sz bt) (hgd:o.guard=none) (s x:Operand) (t:TypeId)
    (ho:o.op=.call { callee:=.builtin .append,args:=#[s,x],argTypes:=#[t,t] })
    (ht:Tryz.prog.underlying t=some (.slice e)) (hs:a.eval s=v) (h:OwnT w base e sz v n xs) (ad:Addr) (c:Nat) (hx:a.eval x=.slice (some ad) m c) (hN:Nws w ad m sz cs) (hlen:n+m≤1000000) (hb:base≤w.heap.size)
    (hQ:∀ A1 n1 c1 w1,n1=n+m→AppT w base e sz v n xs m cs (.slice A1 n1 c1) w1→wpList Tryz.prog ops Q rest (a.put o.dst (.slice A1 n1 c1)) w1):wpList Tryz.prog ops Q (o :: rest) a w:=by
  refine wpList_plain hgd fun K hK=>?_
  obtain ⟨v1,w1,hr,h1⟩:=run_appT hT t o.type ht h ad c hN hlen hb
  unfold Oper.wp execOp
  simp only [ho,resolve,invoke,builtin,Sem.run_bind,Sem.run_pure,Result.andThen_ok,List.map_toArray,List.map_cons,List.map_nil,hs,hx,hr]
  obtain ⟨A1,c1,rfl⟩:=h1.own.form
  exact hK _ _ (hQ A1 _ c1 w1 rfl h1)
theorem step_appT {ops:Array Oper} {o:Oper} {a:Act} {Q:Exit→Act→World→Prop} {K:Act→World→Prop} {E:Prop} {bt:Nat} (hT:Ty e z sz bt) (hgd:o.guard=none) (s x:Operand) (t:TypeId)
    (ho:o.op=.call { callee:=.builtin .append,args:=#[s,x],argTypes:=#[t,t] })
    (ht:Tryz.prog.underlying t=some (.slice e)) (hs:a.eval s=v) (h:OwnT w base e sz v n xs) (ad:Addr) (c:Nat) (hx:a.eval x=.slice (some ad) m c) (hN:Nws w ad m sz cs) (hlen:n+m≤1000000) (hb:base≤w.heap.size)
    (hQ:∀ A1 n1 c1 w1,n1=n+m→AppT w base e sz v n xs m cs (.slice A1 n1 c1) w1→K (a.put o.dst (.slice A1 n1 c1)) w1):if Region.wanted o (yielded ops a.tmps)=true then Oper.wp Tryz.prog o a w K Q else E:=by
  have hw:Region.wanted o (yielded ops a.tmps)=true:=by simp [Region.wanted,hgd]
  rw [if_pos hw]
  obtain ⟨v1,w1,hr,h1⟩:=run_appT hT t o.type ht h ad c hN hlen hb
  obtain ⟨A1,c1,rfl⟩:=h1.own.form
  have hq:=hQ A1 _ c1 w1 rfl h1
  unfold Oper.wp
  simp only [execOp,ho,resolve,invoke,builtin,Sem.run_bind,Sem.run_pure,Result.andThen_ok,List.map_toArray,List.map_cons,List.map_nil,hs,hx,hr]
  exact hq
end
theorem nws_two {w:World} {m:Nat} {u0 u1:Value} (h0:w.cell? ⟨m,0,none⟩=some u0) (h1:w.cell? ⟨m,1,none⟩=some u1) (o0:u0.oneCell'=true) (o1:u1.oneCell'=true):Nws w ⟨m,0,none⟩ 1 2 [u0,u1]:=by
  refine ⟨rfl,fun j x hx=>?_,fun x hx=>?_⟩
  · match j,hx with
    | 0,hx=>simp at hx; subst hx; rw [add_none]; exact h0
    | 1,hx=>simp at hx; subst hx; rw [add_none]; exact h1
    | j+2,hx=>simp at hx
  · simp at hx
    rcases hx with rfl | rfl
    · exact o0
    · exact o1
theorem nws_none {w:World} (ad:Addr) (sz:Nat):Nws w ad 0 sz []:=⟨by simp,fun j u hj=>by simp at hj,fun u hu=>by simp at hu⟩
theorem ownT_far {w:World} {b b':Nat} {e e':TypeId} {sz sz' n n':Nat} {v v':Value} {xs xs':List Value} (h:OwnT w b e sz v n xs) (h':OwnT w b' e' sz' v' n' xs') (hne:e≠e') {k:Nat} (hk:v.ownBlock=some k):v'.ownBlock≠some k:=fun hk'=>by
  obtain ⟨c1,h1⟩:=h.kind hk
  obtain ⟨c2,h2⟩:=h'.kind hk'
  rw [h1] at h2
  injection h2 with h2
  injection h2 with h3 h4
  exact hne h4
theorem nws_three {w:World} {m:Nat} {u0 u1 u2:Value} (h0:w.cell? ⟨m,0,none⟩=some u0) (h1:w.cell? ⟨m,1,none⟩=some u1) (h2:w.cell? ⟨m,2,none⟩=some u2) (o0:u0.oneCell'=true) (o1:u1.oneCell'=true) (o2:u2.oneCell'=true):Nws w ⟨m,0,none⟩ 1 3 [u0,u1,u2]:=by
  refine ⟨rfl,fun j x hx=>?_,fun x hx=>?_⟩
  · match j,hx with
    | 0,hx=>simp at hx; subst hx; rw [add_none]; exact h0
    | 1,hx=>simp at hx; subst hx; rw [add_none]; exact h1
    | 2,hx=>simp at hx; subst hx; rw [add_none]; exact h2
    | j+3,hx=>simp at hx
  · simp at hx
    rcases hx with rfl | rfl | rfl
    · exact o0
    · exact o1
    · exact o2
theorem ty_slc:Ty 54 (.slice none 0 0) 1 24:=ty_of (by kernel_rfl) rfl (by omega) (by omega)
theorem OwnT.len {w:World} {base:Nat} {e:TypeId} {sz r c n:Nat} {A:Option Addr} {xs:List Value} (h:OwnT w base e sz (.slice A r c) n xs):r=n:=by
  obtain ⟨A',c',e'⟩:=h.form
  injection e'
theorem OwnT.cellAt {w:World} {base:Nat} {e:TypeId} {sz r c n g:Nat} {xs:List Value} (h:OwnT w base e sz (.slice (some ⟨g,0,none⟩) r c) n xs) {j:Nat} {u:Value} (hj:xs[j]?=some u):w.cell? ⟨g,j,none⟩=some u:=by
  obtain ⟨g',e',_,_,_,hc⟩:=h.cell hj
  injection e' with e'
  injection e' with e'
  subst e'
  exact hc
theorem OwnT.cap {w:World} {base g c r:Nat} {e:TypeId} {xs:List Value} {sz n:Nat} (h:OwnT w base e sz (.slice (some ⟨g,0,none⟩) r c) n xs):n≤c:=by
  rcases h.2 with ⟨e,_⟩ | ⟨g',cap,cur,e,_,_,h1,_⟩
  · cases e
  · injection e with _ _ e3
    omega
theorem OwnT.some_ {w:World} {base c r:Nat} {e:TypeId} {A:Option Addr} {xs:List Value} {sz n:Nat} (h:OwnT w base e sz (.slice A r c) n xs) (hn:0 < n):∃ g,A=some ⟨g,0,none⟩∧n=r:=by
  rcases h.2 with ⟨_,e⟩ | ⟨g',cap,cur,e,_⟩
  · omega
  · injection e with e1 e2 e3
    exact ⟨g',e1,e2.symm⟩
theorem ownT_rebase {w:World} {base b n sz:Nat} {e:TypeId} {v:Value} {xs:List Value} (h:OwnT w base e sz v n xs) (hb:∀ k,v.ownBlock=some k→b≤k):OwnT w b e sz v n xs:=by
  refine ⟨h.1,?_⟩
  rcases h.2 with hn | ⟨g,cap,cur,rfl,_,r⟩
  · exact .inl hn
  · exact .inr ⟨g,cap,cur,rfl,hb g rfl,r⟩
end Go.Proofs.YtnfcfdhlmeimhaaGreat
namespace Go.Proofs.YtnfcfdhlmeimhaaGreat
open Go.RowKit
set_option linter.unusedVariables false
set_option maxRecDepth 20000
/-- The lowest k bytes of n, the least first. -/
def numB (n k:Nat):List UInt8:=(List.range k).map fun i=>UInt8.ofNat (n / 2 ^ (8 * i))
theorem numB_succ (n k:Nat):numB n (k+1)=numB n k ++ [UInt8.ofNat (n / 2 ^ (8 * k))]:=by simp [numB,List.range_succ]
theorem numB_length (n k:Nat):(numB n k).length=k:=by simp [numB]
theorem bv_ofNat (m:Nat):bv (UInt8.ofNat m)=.int .u8 ((m:Int) % 256):=by
  unfold bv
  rw [UInt8.toNat_ofNat']
  congr 1
/-- At block g lies a Writer that holds bs; it and its row lie in F. -/
def WrAt (w:World) (F:Nat→Prop) (g:Nat) (bs:List UInt8):Prop :=
  ∃ v,w.heap[g]?=some (.cells #[v] 134 (0,0))∧Own w 0 5 v bs∧F g∧∀ k,v.ownBlock=some k→F k
theorem own_ne {w:World} {base:Nat} {v:Value} {bs:List UInt8} {g:Nat} {t:TypeId} {cs:Array Value} (h:Own w base 5 v bs) (hg:w.heap[g]?=some (.cells cs t (0,0))) (ht:t≠5):v.ownBlock≠some g:=by
  rcases h.2 with ⟨rfl,_⟩ | ⟨g',cap,cur,rfl,_,hh,_⟩
  · simp [Value.ownBlock]
  · intro he
    simp only [Value.ownBlock,Option.some.injEq] at he
    subst he
    rw [hh] at hg
    simp only [Option.some.injEq,Obj.cells.injEq] at hg
    exact ht hg.2.1.symm
section
variable {w w1:World} {F S:Nat→Prop} {g:Nat} {bs:List UInt8}
theorem WrAt.mono {T:Nat→Prop} (h:WrAt w F g bs) (hF:∀ k,F k→T k):WrAt w T g bs:=by
  obtain ⟨v,h1,h2,h3,h4⟩:=h
  exact ⟨v,h1,h2,hF _ h3,fun k hk=>hF _ (h4 k hk)⟩
theorem WrAt.lt (h:WrAt w F g bs):WrAt w (fun k=>F k∧k < w.heap.size) g bs:=by
  obtain ⟨v,h1,h2,h3,h4⟩:=h
  exact ⟨v,h1,h2,⟨h3,(Array.getElem?_eq_some_iff.1 h1).1⟩,fun k hk=>⟨h4 k hk,h2.lt k hk⟩⟩
theorem WrAt.keep (h:WrAt w F g bs) (hk:Kp S w w1) (hS:∀ k,k < w.heap.size→F k→¬ S k):WrAt w1 F g bs:=by
  obtain ⟨v,h1,h2,h3,h4⟩:=h.lt
  exact ⟨v,(hk.block g h3.2 (hS g h3.2 h3.1)).trans h1,h2.keep hk fun k hk=>hS k (h4 k hk).2 (h4 k hk).1,h3.1,fun k hk=>(h4 k hk).1⟩
theorem WrAt.drew (h:WrAt w F g bs):WrAt w.drew F g bs:=h
theorem WrAt.new (w:World):WrAt (w.alloc (.cells #[.slice none 0 0] 134)) (fun k=>k=w.heap.size) w.heap.size [] :=
  ⟨_,heap_alloc_new w _,Own.nil _ _ _,rfl,fun k hk=>by simp [Value.ownBlock] at hk⟩
end
/-- What a call on a Writer comes to: the pointer is returned, cs is appended, all else is as it was. -/
def WrPost (w:World) (F:Nat→Prop) (g:Nat) (bs:List UInt8) (e:Ending) (w1:World):Prop :=
  e=.returned (.pointer (some ⟨g,0,none⟩))∧WrAt w1 (Up F w) g bs∧Kp F w w1
theorem raw_any {w:World} {F:Nat→Prop} {g:Nat} {bs cs:List UInt8} {u:Value} (h:WrAt w F g bs) (hu:Bts w u cs) (hl:bs.length+cs.length≤1000000000) :
    Calls Tryz.prog 63 #[.pointer (some ⟨g,0,none⟩),u] w (WrPost w F g (bs ++ cs)):=by
  obtain ⟨i0,hi0,hz0,hz1,hz2⟩:=byte_parts
  obtain ⟨v,h1,h2,h3,h4⟩:=h
  obtain ⟨A,n,c,rfl⟩:=h2.form
  obtain ⟨B,m,d,rfl⟩:=hu.form
  have hne:=own_ne h2 h1 (by decide)
  have hc:w.cell? ⟨g,0,none⟩=some (.slice A n c):=by rw [cell_of_row w g 0 _ _ _ h1]; rfl
  go_enter Tryz.func63,Tryz.ntmps63
  go_wp2_with (first
    | (at_builtin
       refine wpList_app rfl (.tmp 11) (.tmp 12) _ rfl i0 Tryz.underlying54 hi0 hz0 hz1 hz2 rfl h2 rfl hu hl (Nat.zero_le _) ?_
       intro A1 n1 c1 w1 ha
       have hg1:w1.heap[g]?=some (.cells #[.slice A n c] 134 (0,0)):=(ha.kp.block g (Array.getElem?_eq_some_iff.1 h1).1 hne).trans h1
       have hc1:w1.cell? ⟨g,0,none⟩=some (.slice A n c):=by rw [cell_of_row w1 g 0 _ _ _ hg1]; rfl
       have hf1:w1.frozen? ⟨g,0,none⟩=false:=frozen_of_row w1 g 0 _ _ hg1
       have HG:=hide hg1
       clear hg1))
  go_ret
  have hg1:=HG.out
  refine ⟨rfl,⟨_,heap_setCell_same w1 g 0 _ 134 _ hg1,?_,.inl h3,fun k hk=>?_⟩,?_⟩
  · refine ha.own.keep (Kp.setCell (p:=⟨g,0,none⟩) (S:=fun k=>k=g) rfl _) fun k hk e=>?_
    subst e
    exact own_ne ha.own hg1 (by decide) hk
  · rcases ha.at_ with e | e
    · exact .inl (h4 k (e ▸ hk))
    · refine .inr ?_
      rw [hk] at e
      injection e with e
      omega
  · exact (ha.kp.mono h4).trans (Kp.setCell (.inl h3) _)
theorem WrPost.trans {w w1:World} {F:Nat→Prop} {g:Nat} {bs:List UInt8} {e:Ending} {w2:World} (hk:Kp F w w1) (h:WrPost w1 (Up F w) g bs e w2):WrPost w F g bs e w2 :=
  ⟨h.1,h.2.1.mono fun _ hk'=>hk'.two hk.size,hk.trans h.2.2⟩
/-- How many bytes Num writes. -/
def IsK (sz:Int) (K:Nat):Prop:=K≤8∧((sz < 0∧K=0)∨(8 < sz∧K=8)∨sz=K)
set_option maxHeartbeats 1000000 in
theorem num_any {w:World} {F:Nat→Prop} {g:Nat} {bs:List UInt8} (n:Nat) (sz:Int) (K:Nat) (hn:n < 18446744073709551616) (hK:IsK sz K) (h:WrAt w F g bs) (hl:bs.length≤900000000) :
    Calls Tryz.prog 61 #[.pointer (some ⟨g,0,none⟩),.int .u64 n,.int .i64 sz] w (WrPost w F g (bs ++ numB n K)):=by
  obtain ⟨i0,hi0,hz0,hz1,hz2⟩:=byte_parts
  have h8:=hK.1
  have hcase:(sz < 0∧K≤0)∨(8 < sz∧8≤K)∨sz=K:=by have:=hK.2; omega
  clear hK
  rcases hcase with ⟨hs,hK⟩ | ⟨hs,hK⟩ | rfl
  all_goals
    go_enter Tryz.func61,Tryz.ntmps61
    go_wp2
    go_loopw [7,12] (fun b i wr=>∃ k A m c,k≤K∧i=.int .i64 ((k:Nat):Int)∧b=.slice A m c∧Own wr w.heap.size 5 (.slice A m c) (numB n k)∧Kp No w wr) (fun _ i _=>8 - (intOf i).toNat)
    case atStart=>exact ⟨0,none,0,0,Nat.zero_le _,rfl,rfl,Own.nil _ _ _,Kp.refl _ _⟩
    case round =>
      obtain ⟨k,A,m,c,hk,rfl,rfl,hb,hkp⟩:=hrel
      by_cases hlt:k < K
      · first
        | (exfalso; omega)
        | (go_wp2_with (first
            | (at_builtin
               refine wpList_app rfl (.tmp 15) (.tmp 21) _ rfl i0 Tryz.underlying54 hi0 hz0 hz1 hz2 rfl (hb.alloc _) rfl (bts_new _ (UInt8.ofNat (n / 2 ^ (8 * k))) _ ?hv) ?hl ?hs ?_
               case hv=>rw [bv_ofNat]; simp
               case hl=>simp [numB_length]; omega
               case hs=>have:=hkp.size; simp; omega
               intro A1 n1 c1 w1 ha))
           go_round
           case rel=>exact ⟨k+1,A1,n1,c1,by omega,by go_num,rfl,by rw [numB_succ]; exact ha.own,ha.keeps (hb.alloc _) (hkp.trans (Kp.alloc _ _ _))⟩
           case measure=>simp [intOf]; omega)
      · have hkK:k=K:=by omega
        subst hkK
        go_wp2_with (go_at_call 63; refine (raw_any (bs:=bs) (cs:=numB n k) (F:=Up F w) (g:=g) ((h.keep hkp fun _ _ _ f=>f).mono fun _ x=>.inl x) hb.bts ?hlen).mono ?_; (case hlen=>rw [numB_length]; omega); rintro e w2 hp; obtain rfl:=hp.1)
        go_ret
        exact WrPost.trans (hkp.of_no F) hp
/-- A shard's bytes. -/
def shardB (o st sl gn:Nat):List UInt8:=numB o 4 ++ numB st 2 ++ numB sl 2 ++ numB gn 4
theorem WrPost.again {w:World} {G:Nat→Prop} {g:Nat} {bs:List UInt8} {e:Ending} {w1:World} (h:WrPost w G g bs e w1) (hG:∀ k,w.heap.size≤k→G k):WrAt w1 G g bs :=
  h.2.1.mono fun k hk=>hk.elim id (hG k)
/-- The blocks that F names or that are younger than w, but for the one that is made next. -/
def Nx (F:Nat→Prop) (w:World) (k:Nat):Prop:=k≠w.heap.size∧Up F w k
set_option maxHeartbeats 1000000 in
theorem shard_any {w:World} {F:Nat→Prop} {g:Nat} {bs:List UInt8} (o st sl gn:Nat) (ho:o < 4294967296) (hst:st < 65536) (hsl:sl < 65536) (hgn:gn < 4294967296) (h:WrAt w F g bs) (hl:bs.length≤800000000) :
    Calls Tryz.prog 62 #[.pointer (some ⟨g,0,none⟩),.agg #[.int .u32 o,.int .u16 st,.int .u16 sl,.int .u32 gn]] w (WrPost w F g (bs ++ shardB o st sl gn)):=by
  have hG:∀ k,w.heap.size+1≤k→Nx F w k:=fun k hk=>⟨by omega,.inr (by omega)⟩
  have HG:=hide hG
  clear hG
  have hW:∀ ob:Obj,WrAt (w.alloc ob) (Nx F w) g bs:=fun ob=>(h.lt.keep (Kp.alloc No w ob) fun _ _ _ f=>f).mono fun k hk=>⟨by omega,.inl hk.1⟩
  have HW:=hide hW
  clear hW
  have cells:∀ (W0 w1:World) (j:Nat) (x:Value),Kp (Nx F w) W0 w1→W0.cell? ⟨w.heap.size,j,none⟩=some x→w1.cell? ⟨w.heap.size,j,none⟩=some x :=
    fun W0 w1 j x hk hc=>hk.cell hc fun hn=>hn.1 rfl
  have CS:=hide cells
  clear cells
  go_enter Tryz.func62,Tryz.ntmps62
  go_wp2_with fail
  refine (num_any (bs:=bs) (F:=Nx F w) (g:=g) o 4 4 (by omega) ⟨by omega,by omega⟩ (HW.out _) (by omega)).mono ?_
  rintro e w1 hp
  obtain rfl:=hp.1
  have c1:w1.cell? ⟨w.heap.size,1,none⟩=some (.int .u16 st):=CS.out _ _ 1 _ hp.2.2 (by simp)
  have c2:w1.cell? ⟨w.heap.size,2,none⟩=some (.int .u16 sl):=CS.out _ _ 2 _ hp.2.2 (by simp)
  have c3:w1.cell? ⟨w.heap.size,3,none⟩=some (.int .u32 gn):=CS.out _ _ 3 _ hp.2.2 (by simp)
  have ha1:=hp.again (fun k hk=>HG.out k (by simpa using hk))
  have z1:w.heap.size+1≤w1.heap.size:=by have:=hp.2.2.size; simpa using this
  have k1:=hp.2.2
  clear hp
  go_wp2_with fail
  refine (num_any (bs:=bs ++ numB o 4) (F:=Nx F w) (g:=g) st 2 2 (by omega) ⟨by omega,by omega⟩ ha1 (by rw [List.length_append,numB_length]; omega)).mono ?_
  rintro e w2 hp
  obtain rfl:=hp.1
  have d2:w2.cell? ⟨w.heap.size,2,none⟩=some (.int .u16 sl):=CS.out _ _ 2 _ hp.2.2 c2
  have d3:w2.cell? ⟨w.heap.size,3,none⟩=some (.int .u32 gn):=CS.out _ _ 3 _ hp.2.2 c3
  have ha2:=hp.again (fun k hk=>HG.out k (by omega))
  have z2:w.heap.size+1≤w2.heap.size:=by have:=hp.2.2.size; omega
  have k2:=k1.trans' hp.2.2
  clear hp
  go_wp2_with fail
  refine (num_any (bs:=bs ++ numB o 4 ++ numB st 2) (F:=Nx F w) (g:=g) sl 2 2 (by omega) ⟨by omega,by omega⟩ ha2 (by simp only [List.length_append,numB_length]; omega)).mono ?_
  rintro e w3 hp
  obtain rfl:=hp.1
  have e3:w3.cell? ⟨w.heap.size,3,none⟩=some (.int .u32 gn):=CS.out _ _ 3 _ hp.2.2 d3
  have ha3:=hp.again (fun k hk=>HG.out k (by omega))
  have z3:w.heap.size+1≤w3.heap.size:=by have:=hp.2.2.size; omega
  have k3:=k2.trans' hp.2.2
  clear hp
  go_wp2_with fail
  refine (num_any (bs:=bs ++ numB o 4 ++ numB st 2 ++ numB sl 2) (F:=Nx F w) (g:=g) gn 4 4 (by omega) ⟨by omega,by omega⟩ ha3 (by simp only [List.length_append,numB_length]; omega)).mono ?_
  rintro e w4 hp
  obtain rfl:=hp.1
  have ha4:=hp.again (fun k hk=>HG.out k (by omega))
  have k4:=k3.trans' hp.2.2
  clear hp
  go_wp2
  go_ret
  refine ⟨rfl,?_,(Kp.alloc F w _).trans (k4.mono fun _ hk=>hk.2)⟩
  have e:bs ++ shardB o st sl gn=bs ++ numB o 4 ++ numB st 2 ++ numB sl 2 ++ numB gn 4:=by simp [shardB,List.append_assoc]
  rw [e]
  exact ha4.mono fun _ hk=>hk.2
end Go.Proofs.YtnfcfdhlmeimhaaGreat
namespace Go.Proofs.YtnfcfdhlmeimhaaGreat
open Go.RowKit
set_option linter.unusedVariables false
set_option maxRecDepth 20000
/-- The Writer's Bytes: a copy. -/
theorem bytes_any {w:World} {F:Nat→Prop} {g:Nat} {bs:List UInt8} (h:WrAt w F g bs) (hl:bs.length≤900000000):Calls Tryz.prog 64 #[.pointer (some ⟨g,0,none⟩)] w (OwnPost w bs):=by
  obtain ⟨v,h1,h2,h3,h4⟩:=h
  obtain ⟨A,n,c,rfl⟩:=h2.form
  have hc:w.cell? ⟨g,0,none⟩=some (.slice A n c):=by rw [cell_of_row w g 0 _ _ _ h1]; rfl
  go_enter Tryz.func64,Tryz.ntmps64
  go_wp2_with (go_at_call 100; refine (clone_any h2.bts hl).mono ?_; rintro e w1 ⟨A1,n1,c1,rfl,ho,hk⟩)
  go_ret
  exact ⟨A1,n1,c1,rfl,ho,hk⟩
theorem div_step (n k:Nat):n / 2 ^ (8 * k) / 256=n / 2 ^ (8 * (k+1)):=by
  rw [Nat.div_div_eq_div_mul]
  congr 1
  rw [show 8 * (k+1)=8 * k+8 by omega,Nat.pow_add]
set_option maxHeartbeats 1000000 in
/-- The document's number: so many bytes of n. -/
theorem rnum_any {w:World} (n:Nat) (sz:Int) (K:Nat) (hn:n < 18446744073709551616) (hK:IsK sz K):Calls Tryz.prog 40 #[.int .u64 n,.int .i64 sz] w (OwnPost w (numB n K)):=by
  obtain ⟨i0,hi0,hz0,hz1,hz2⟩:=byte_parts
  have h8:=hK.1
  have hcase:(sz < 0∧K≤0)∨(8 < sz∧8≤K)∨(0≤sz∧sz≤8∧sz≤K∧K≤sz):=by have:=hK.2; omega
  clear hK
  go_enter Tryz.func40,Tryz.ntmps40
  go_wp2
  go_loopw [0,5,6] (fun m b i wr=>∃ k A l c q,k≤K∧i=.int .i64 ((k:Nat):Int)∧m=.int .u64 ((q:Nat):Int)∧q < 18446744073709551616∧Hid (q=n / 2 ^ (8 * k))∧b=.slice A l c∧Own wr w.heap.size 5 (.slice A l c) (numB n k)∧Kp No w wr) (fun _ _ i _=>8 - (intOf i).toNat)
  case atStart=>exact ⟨0,none,0,0,n,Nat.zero_le _,rfl,rfl,hn,by show n=n / 2 ^ 0; simp,rfl,Own.nil _ _ _,Kp.refl _ _⟩
  case round =>
    obtain ⟨k,A,l,c,q,hk,rfl,rfl,hq,HQ,rfl,hb,hkp⟩:=hrel
    by_cases hlt:k < K
    · have ht:(k:Int) < sz:=by omega
      have ht8:(k:Int) < 8:=by omega
      clear hcase
      go_wp2_with (first
        | (at_builtin
           refine wpList_app rfl (.tmp 16) (.tmp 20) _ rfl i0 Tryz.underlying54 hi0 hz0 hz1 hz2 rfl (hb.alloc _) rfl (bts_new _ (UInt8.ofNat (n / 2 ^ (8 * k))) _ ?hv) ?hl ?hs ?_
           case hv=>rw [bv_ofNat,← HQ.out]
           case hl=>simp [numB_length]; omega
           case hs=>have:=hkp.size; simp; omega
           intro A1 n1 c1 w1 ha))
      go_round
      case rel=>exact ⟨k+1,A1,n1,c1,q / 256,by omega,by go_num,by go_num,by omega,by show q / 256=_; rw [HQ.out,div_step],rfl,by rw [numB_succ]; exact ha.own,ha.keeps (hb.alloc _) (hkp.trans (Kp.alloc _ _ _))⟩
      case measure=>simp [intOf]; omega
    · have hkK:k=K:=by omega
      subst hkK
      by_cases ht:(k:Int) < sz
      · have ht8:¬ (k:Int) < 8:=by omega
        clear hcase
        go_wp2
        go_ret
        exact ⟨A,l,c,rfl,hb,hkp⟩
      · clear hcase
        go_wp2
        go_ret
        exact ⟨A,l,c,rfl,hb,hkp⟩
end Go.Proofs.YtnfcfdhlmeimhaaGreat
namespace Go.Proofs.YtnfcfdhlmeimhaaGreat
set_option linter.unusedVariables false
set_option maxRecDepth 20000
set_option linter.unusedSimpArgs false
/-- One bit leaves the register. -/
def cb (c:Nat):Nat:=if c % 2=1 then c / 2 ^^^ 0x82f63b78 else c / 2
/-- So many bits leave it. -/
def cn:Nat→Nat→Nat
  | 0,c=>c
  | k+1,c=>cn k (cb c)
/-- One byte is fed. -/
def cby (c b:Nat):Nat:=cn 8 (c ^^^ b)
/-- Bytes are fed. -/
def cbs (c:Nat) (bs:List UInt8):Nat:=bs.foldl (fun c b=>cby c b.toNat) c
/-- All ones. -/
def c1s:Nat:=4294967295
/-- The sum of bytes. -/
def crc (bs:List UInt8):Nat:=c1s - cbs c1s bs
theorem cn_add (k l c:Nat):cn (k+l) c=cn l (cn k c):=by
  induction k generalizing c with
  | zero=>rw [Nat.zero_add]; rfl
  | succ k ih=>rw [Nat.succ_add]; exact ih _
theorem cb_lt {c:Nat} (h:c < 2 ^ 32):cb c < 2 ^ 32:=by
  unfold cb
  split
  · exact Nat.xor_lt_two_pow (by omega) (by decide)
  · omega
theorem cn_lt {c:Nat} (h:c < 2 ^ 32) (k:Nat):cn k c < 2 ^ 32:=by
  induction k generalizing c with
  | zero=>exact h
  | succ k ih=>exact ih (cb_lt h)
theorem cby_lt {c b:Nat} (h:c < 2 ^ 32) (hb:b < 256):cby c b < 2 ^ 32:=cn_lt (Nat.xor_lt_two_pow h (by omega)) 8
theorem cbs_lt {c:Nat} (h:c < 2 ^ 32) (bs:List UInt8):cbs c bs < 2 ^ 32:=by
  induction bs generalizing c with
  | nil=>exact h
  | cons b t ih=>exact ih (cby_lt h (by have:=b.toNat_lt; omega))
theorem cbs_app (c:Nat) (a b:List UInt8):cbs c (a ++ b)=cbs (cbs c a) b:=List.foldl_append
theorem c1s_lt:c1s < 2 ^ 32:=by decide
/-- The complement. -/
theorem comp_xor {x:Nat} (h:x < 2 ^ 32):c1s - x=x ^^^ c1s:=by
  have e:c1s=2 ^ 32 - 1:=rfl
  apply Nat.eq_of_testBit_eq
  intro i
  rw [Nat.testBit_xor,e,show 2 ^ 32 - 1 - x=2 ^ 32 - (x+1) by omega,Nat.testBit_two_pow_sub_succ h,Nat.testBit_two_pow_sub_one]
  by_cases g:i < 32
  · simp [g]
  · have:x.testBit i=false:=Nat.testBit_lt_two_pow (Nat.lt_of_lt_of_le h (Nat.pow_le_pow_right (by omega) (by omega)))
    simp [g,this]
theorem crc_lt (bs:List UInt8):crc bs < 2 ^ 32:=by unfold crc c1s; omega
/-- Go. -/
theorem crc_go (a b:List UInt8):c1s - cbs (c1s - crc a) b=crc (a ++ b):=by
  have h:=cbs_lt c1s_lt a
  have e:c1s - crc a=cbs c1s a:=by unfold crc; have:cbs c1s a≤c1s:=(by unfold c1s; unfold c1s at h; omega); omega
  rw [e]
  unfold crc
  rw [cbs_app]
end Go.Proofs.YtnfcfdhlmeimhaaGreat
