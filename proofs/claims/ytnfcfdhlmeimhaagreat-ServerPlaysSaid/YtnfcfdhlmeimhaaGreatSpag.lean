/- A map from names to cells in memory: what it holds is a list of cells with their names; Rows of the call's own, of any type: their block, an element set; rows of slices just made; slices.Clone of bytes. No condition. -/
import Derived.Test.YtnfcfdhlmeimhaaGreatSpaf
import Derived.Test.YtnfcfdhlmeimhaaGreatSpae
import Derived.Maps.RangeWalk
import Derived.DeepKeys4
import Derived.Test.YtnfcfdhlmeimhaaGreatSpab
namespace Go.Proofs.YtnfcfdhlmeimhaaGreat
open Go.RowKit
set_option linter.unusedVariables false
set_option linter.unusedSimpArgs false
set_option maxRecDepth 20000
/-- A map as it reads holds these. -/
structure MpR (D:DataW Unit) (L:List (Nat × Nat)):Prop where
  has:∀ s,s < N96→Maps.has D (klN s)=kn L s
  get:∀ s,s < N96→kn L s=true→D.atKey (klN s) (.lit (.int .i64 0))=.lit (.int .i64 (cel L s:Int))
  sz:Maps.size D=L.length
noncomputable abbrev intE:Value→Option (DataW Unit × List MemPlace):=plainElem Tryz.prog 3
/-- The block b is a map that holds these. -/
def MpAt (w:World) (b:Nat) (L:List (Nat × Nat)):Prop:=KnOk 1024 L∧∃ D,w.ownsMap Tryz.prog 53 intE b L.length D∧MpR D L
section
variable {w w1:World} {b:Nat} {L:List (Nat × Nat)} {S:Nat→Prop} {s c:Nat}
theorem MpAt.lt (h:MpAt w b L):b < w.heap.size:=by
  obtain ⟨_,D,h1,_⟩:=h
  exact h1.lt
theorem MpAt.keep (h:MpAt w b L) (hk:Kp S w w1) (hS:¬ S b):MpAt w1 b L:=by
  obtain ⟨h0,D,h1,h2⟩:=h
  have hlt:=h1.lt
  obtain ⟨es,clock,hb,r⟩:=h1
  exact ⟨h0,D,⟨es,clock,(hk.block b hlt hS).trans hb,r⟩,h2⟩
theorem MpAt.no (h:MpAt w b L) (hk:Kp No w w1):MpAt w1 b L:=h.keep hk fun f=>f
theorem MpAt.new (w:World):MpAt (w.alloc (.map #[] 0)) w.heap.size [] :=
  ⟨KnOk.nil _,_,World.ownsMap_made w _ _ _,fun s _=>rfl,fun s _ h=>by simp [kn] at h,rfl⟩
theorem MpAt.blk {o:Obj} (h:MpAt w b L) (hb:w.heap[b]?=some o):∃ es clock,o=.map es clock:=by
  obtain ⟨_,D,⟨es,clock,h1,_⟩,_⟩:=h
  rw [hb] at h1
  exact ⟨es,clock,Option.some.inj h1⟩
/-- As many entries as the datum has: the bound may be drawn tight. -/
theorem ownsMap_tight {n:Nat} {D:DataW Unit} (h:w.ownsMap Tryz.prog 53 intE b n D):w.ownsMap Tryz.prog 53 intE b (Maps.size D) D:=by
  obtain ⟨es,clock,hb,F,_,rfl⟩:=h
  refine ⟨es,clock,hb,F,?_,rfl⟩
  simp [Maps.size,length_sorted]
theorem zero_int (w:World):(zeroValue 3).run Tryz.prog w=.ok (.int .i64 0) w:=by kernel_rfl
/-- What looking up comes to. -/
theorem MpAt.look (h:MpAt w b L) (hs:s < N96):(Instr.lookup 124 (.map (some b)) (shV s) true).run Tryz.prog w=.ok (.tuple #[.int .i64 (if kn L s=true then (cel L s:Int) else 0),.bool (kn L s)]) w:=by
  obtain ⟨h0,D,h1,h2⟩:=h
  obtain ⟨v,ps,hr,hv⟩:=h1.look_ok sh_law Tryz.underlying124 (zero_int w) (plainElem_int (H:=Unit) Tryz.underlying3 (by decide)) (key_kl hs)
  obtain ⟨c,rfl,hc,_⟩:=plainElem_int_inv Tryz.underlying3 hv
  rw [hr,h2.has s hs]
  by_cases hk:kn L s=true
  · rw [h2.get s hs hk] at hc
    have e:((cel L s:Nat):Int)=c:=by
      injection hc with e1 _
      injection e1 with e1
      injection e1
    rw [if_pos hk,e]
  · have hf:Maps.has D (klN s)=false:=by rw [h2.has s hs]; simpa using hk
    rw [Maps.atKey_of_not_has hf] at hc
    have e:(0:Int)=c:=by
      injection hc with e1 _
      injection e1 with e1
      injection e1
    rw [if_neg hk,e]
/-- A new name is stored. -/
theorem MpAt.put (h:MpAt w b L) (hs:s < N96) (hk:kn L s=false) (hc:c < 1024) (hu:usd L c=false) :
    ∃ w',(Instr.mapUpdate 124 (.map (some b)) (shV s) (.int .i64 (c:Int))).run Tryz.prog w=.ok () w'∧MpAt w' b (L ++ [(c,s)])∧Kp (fun q=>q=b) w w':=by
  obtain ⟨h0,D,h1,h2⟩:=h
  have hl:=h0.len
  have hok:=h0.snoc hc hs hk hu
  obtain ⟨w',hr,ho,hg⟩:=h1.update sh_law Tryz.underlying124 (by unfold maxLen; omega) (val:=.int .i64 (c:Int)) (key_kl hs) (plainElem_int (H:=Unit) Tryz.underlying3 (WalkArith.wf_i64 ⟨by omega,by omega⟩))
  have hm:=h1.isMap
  refine ⟨w',hr,⟨hok,_,by rw [List.length_append]; exact ho,fun t ht=>?_,fun t ht hkt=>?_,?_⟩,(Kp.grown hg).mono fun q hq=>by injection hq with hq; exact hq.symm⟩
  · rw [kn_snoc]
    by_cases e:s=t
    · subst e
      rw [Maps.has_put_same hm (kl_key hs)]
      simp
    · rw [Maps.has_put_other (fun e2=>e (kl_inj hs ht e2.symm)),h2.has t ht]
      simp [e]
  · by_cases e:s=t
    · subst e
      rw [Maps.atKey_put_same hm (kl_key hs),(hok.one (c:=c) (s:=s) (by simp)).2]
    · have hkt2:kn L t=true:=by
        rw [kn_snoc] at hkt
        simpa [e] using hkt
      rw [Maps.atKey_put_other (fun e2=>e (kl_inj hs ht e2.symm)),h2.get t ht hkt2,(hok.one (c:=cel L t) (s:=t) (List.mem_append_left _ (cel_mem hkt2))).2]
  · have:=Maps.size_put (h1.tidy sh_law) (k:=klN s) (.lit (.int .i64 (c:Int)))
    rw [h2.has s hs,hk] at this
    rw [this]
    simp [h2.sz]
/-- A name is struck. -/
theorem MpAt.del (h:MpAt w b L) (hs:s < N96) (hk:kn L s=true) (ty:TypeId) :
    ∃ w',(Builtin.delete_ #[124,53] ty #[.map (some b),shV s]).run Tryz.prog w=.ok (.tuple #[]) w'∧MpAt w' b (L.eraseIdx (ixl L s))∧Kp (fun q=>q=b) w w':=by
  obtain ⟨h0,D,h1,h2⟩:=h
  have hok:=h0.erase (ixl L s)
  obtain ⟨w',hr,ho,hg⟩:=h1.drop sh_law Tryz.underlying124 (key_kl hs) ty
  have hsz:Maps.size (D.del (klN s))=(L.eraseIdx (ixl L s)).length:=by
    have:=Maps.size_del (h1.tidy sh_law) (k:=klN s)
    rw [h2.has s hs,hk,h2.sz] at this
    rw [List.length_eraseIdx,if_pos (kn_ix.1 hk)]
    simp at this
    omega
  refine ⟨w',hr,⟨hok,_,by rw [← hsz]; exact ownsMap_tight ho,fun t ht=>?_,fun t ht hkt=>?_,hsz⟩,(Kp.grown hg.grown).mono fun q hq=>by injection hq with hq; exact hq.symm⟩
  · rw [kn_erase h0 hk]
    by_cases e:s=t
    · subst e
      rw [Maps.has_del_same]
      simp
    · rw [Maps.has_del_other (fun e2=>e (kl_inj hs ht e2.symm)),h2.has t ht]
      simp [e]
  · have hkt2:=hkt
    rw [kn_erase h0 hk] at hkt2
    simp only [Bool.and_eq_true,Bool.not_eq_true',beq_eq_false_iff_ne] at hkt2
    rw [Maps.atKey_del_other (fun e2=>hkt2.2 (kl_inj hs ht e2.symm)),h2.get t ht hkt2.1]
    have hm:=cel_mem hkt
    rw [(h0.one (List.mem_of_mem_eraseIdx hm)).2]
end
/-- A new name is stored, as a step of a region. -/
theorem step_mput {w:World} {b:Nat} {L:List (Nat × Nat)} {s c:Nat} {ops:Array Oper} {o:Oper} {a:Act} {Q:Exit→Act→World→Prop} {K:Act→World→Prop} {E:Prop} (hgd:o.guard=none) (m x v:Operand)
    (ho:o.op=.mapUpdate 124 m x v) (hm:a.eval m=.map (some b)) (hx:a.eval x=shV s) (hv:a.eval v=.int .i64 (c:Int)) (h:MpAt w b L) (hs:s < N96) (hk:kn L s=false) (hc:c < 1024) (hu:usd L c=false)
    (hQ:∀ w1,MpAt w1 b (L ++ [(c,s)])→Kp (fun q=>q=b) w w1→K (a.put o.dst undef) w1):if Region.wanted o (yielded ops a.tmps)=true then Oper.wp Tryz.prog o a w K Q else E:=by
  have hw:Region.wanted o (yielded ops a.tmps)=true:=by simp [Region.wanted,hgd]
  rw [if_pos hw]
  obtain ⟨w1,hr,h1,h2⟩:=h.put hs hk hc hu
  have hq:=hQ w1 h1 h2
  unfold Oper.wp
  simp only [execOp,ho,hm,hx,hv,hr,Sem.run_bind,Sem.run_pure,Result.andThen_ok]
  exact hq
/-- A name is struck, as a step of a region. -/
theorem step_mdel {w:World} {b:Nat} {L:List (Nat × Nat)} {s:Nat} {ops:Array Oper} {o:Oper} {a:Act} {Q:Exit→Act→World→Prop} {K:Act→World→Prop} {E:Prop} (hgd:o.guard=none) (m x:Operand)
    (ho:o.op=.call { callee:=.builtin .delete,args:=#[m,x],argTypes:=#[124,53] }) (hm:a.eval m=.map (some b)) (hx:a.eval x=shV s) (h:MpAt w b L) (hs:s < N96) (hk:kn L s=true)
    (hQ:∀ w1,MpAt w1 b (L.eraseIdx (ixl L s))→Kp (fun q=>q=b) w w1→K (a.put o.dst (.tuple #[])) w1):if Region.wanted o (yielded ops a.tmps)=true then Oper.wp Tryz.prog o a w K Q else E:=by
  have hw:Region.wanted o (yielded ops a.tmps)=true:=by simp [Region.wanted,hgd]
  rw [if_pos hw]
  obtain ⟨w1,hr,h1,h2⟩:=h.del hs hk o.type
  have hq:=hQ w1 h1 h2
  unfold Oper.wp
  simp only [execOp,ho,resolve,invoke,builtin,List.map_toArray,List.map_cons,List.map_nil,hm,hx,hr,Sem.run_bind,Sem.run_pure,Result.andThen_ok]
  exact hq
/-- 'for .. range m' under way: dn are done, in their order, left are to come. -/
structure RgAt (w:World) (b r:Nat) (L dn left:List (Nat × Nat)):Prop where
  ok:KnOk 1024 L
  pm:(dn ++ left).Perm L
  ex:∃ D lf cnt,w.ranges Tryz.prog 53 intE b r L.length D lf cnt∧MpR D L∧∀ s,s < N96→lf (klN s)=kn left s
section
variable {w w1:World} {b r:Nat} {L dn left:List (Nat × Nat)} {S:Nat→Prop}
theorem RgAt.keep (h:RgAt w b r L dn left) (hk:Kp S w w1) (hb:¬ S b) (hr:¬ S r):RgAt w1 b r L dn left:=by
  obtain ⟨h0,h1,D,lf,cnt,h2,h3,h4⟩:=h
  have l1:=h2.owns.lt
  have l2:=h2.lt
  obtain ⟨es,clock,since,seen,c0,hbb,F,hs,hD,hrr,rest⟩:=h2
  exact ⟨h0,h1,D,lf,cnt,⟨es,clock,since,seen,c0,(hk.block b l1 hb).trans hbb,F,hs,hD,(hk.block r l2 hr).trans hrr,rest⟩,h3,h4⟩
theorem RgAt.no (h:RgAt w b r L dn left) (hk:Kp No w w1):RgAt w1 b r L dn left:=h.keep hk (fun f=>f) (fun f=>f)
theorem RgAt.map (h:RgAt w b r L dn left):MpAt w b L:=by
  obtain ⟨h0,h1,D,lf,cnt,h2,h3,h4⟩:=h
  exact ⟨h0,D,h2.owns,h3⟩
theorem RgAt.lt (h:RgAt w b r L dn left):r < w.heap.size:=by
  obtain ⟨h0,h1,D,lf,cnt,h2,h3,h4⟩:=h
  exact h2.lt
theorem MpAt.range (h:MpAt w b L):∃ w',(Instr.range 124 (.map (some b))).run Tryz.prog w=.ok (.pointer (some ⟨w.heap.size,0,none⟩)) w'∧RgAt w' b w.heap.size L [] L∧Kp No w w'∧w'.heap.size=w.heap.size+1:=by
  obtain ⟨h0,D,h1,h2⟩:=h
  obtain ⟨w',hr,hg,hk,hz⟩:=h1.range sh_law Tryz.underlying124
  exact ⟨w',hr,⟨h0,by simp,D,_,_,hg,h2,h2.has⟩,(Kp.grown hk).mono (fun q hq=>by cases hq),hz⟩
theorem RgAt.next (h:RgAt w b r L dn left) (ty:TypeId) :
    (left=[]∧w.rangeLeft b r=0∧(Instr.next (.pointer (some ⟨r,0,none⟩)) false ty).run Tryz.prog w=.ok (.tuple #[.bool false]) w) ∨
    ∃ c s w' left',s < N96∧c < 1024∧(c,s) ∈ L∧(Instr.next (.pointer (some ⟨r,0,none⟩)) false ty).run Tryz.prog w=.ok (.tuple #[.bool true,shV s,.int .i64 (c:Int)]) w'∧RgAt w' b r L (dn ++ [(c,s)]) left' ∧
      w'.rangeLeft b r < w.rangeLeft b r∧Kp (fun q=>q=r) w w'∧w'.heap.size=w.heap.size∧(Instr.entry (.pointer (some ⟨r,0,none⟩))).run Tryz.prog w'=.ok (.tuple #[shV s,.int .i64 (c:Int)]) w':=by
  obtain ⟨h0,h1,D,lf,cnt,h2,h3,h4⟩:=h
  have hsub:∀ p ∈ left,p ∈ L:=fun p hp=>h1.mem_iff.1 (List.mem_append_right _ hp)
  rcases h2.next sh_law ty with ⟨hc,hl,hr⟩ | ⟨key,v,l,y,w',cnt',hkey,hlf,hv,hat,hr,hg,hlt,hk,hz,he⟩
  · left
    refine ⟨?_,by rw [h2.left_eq,hc],hr⟩
    rcases hll:left with _ | ⟨p,t⟩
    · rfl
    · exfalso
      have hp:p ∈ left:=by rw [hll]; simp
      have hn:=h0.nm p (hsub p hp)
      have:=h4 p.2 hn
      rw [hl] at this
      rw [kn_iff.2 ⟨p,hp,rfl⟩] at this
      cases this
  · right
    obtain ⟨s,hs,rfl⟩:=key_inv hkey
    have hl:l=klN s:=by
      rw [key_kl hs] at hkey
      injection hkey with hkey
      exact hkey.symm
    subst hl
    rw [h4 s hs] at hlf
    obtain ⟨p,hp,e⟩:=kn_iff.1 hlf
    obtain ⟨c,s'⟩:=p
    obtain rfl:s'=s:=e
    have hm:=hsub _ hp
    have hone:=h0.one hm
    have hc:c < 1024:=h0.cl _ hm
    obtain ⟨z,rfl,hz2,_⟩:=plainElem_int_inv Tryz.underlying3 hv
    have hat2:=hat (.lit (.int .i64 0))
    rw [h3.get s' hs hone.1,hone.2] at hat2
    rw [hz2] at hat2
    have ez:(c:Int)=z:=by
      injection hat2 with e1
      injection e1 with e1 e2
    subst ez
    have hn2:((dn ++ left).map Prod.snd).Nodup:=((h1.map Prod.snd).nodup_iff).2 h0.dn
    have hnl:(left.map Prod.snd).Nodup:=by
      rw [List.map_append] at hn2
      exact (List.nodup_append.1 hn2).2.1
    refine ⟨c,s',w',left.erase (c,s'),hs,hc,hm,hr,⟨h0,?_,D,_,cnt',hg,h3,fun t ht=>?_⟩,?_,(Kp.grown hk).mono fun q hq=>by injection hq with hq; exact hq.symm,hz,he⟩
    · refine List.Perm.trans ?_ h1
      rw [List.append_assoc]
      exact ((List.perm_cons_erase hp).symm).append_left dn
    · show (lf (klN t) && !(klN t).sameKey (klN s'))=_
      rw [h4 t ht,kl_same ht hs]
      by_cases et:t=s'
      · subst et
        simp only [beq_self_eq_true,Bool.not_true,Bool.and_false]
        cases hx:kn (left.erase (c,t)) t
        · rfl
        · exfalso
          obtain ⟨q,hq,e2⟩:=kn_iff.1 hx
          have hq2:=List.mem_of_mem_erase hq
          have e3:q=(c,t):=by
            have:=(h0.one (c:=q.1) (s:=t) (by rw [← e2]; exact hsub q hq2)).2
            rw [hone.2] at this
            exact Prod.ext this.symm e2
          rw [e3] at hq
          have hnd:left.Nodup:=(List.pairwise_map.1 hnl).imp fun hne e=>hne (congrArg Prod.snd e)
          exact ((List.Nodup.mem_erase_iff hnd).1 hq).1 rfl
      · have:(t == s')=false:=by simp [et]
        rw [this,Bool.not_false,Bool.and_true]
        cases hx:kn left t
        · cases hy:kn (left.erase (c,s')) t
          · rfl
          · obtain ⟨q,hq,e2⟩:=kn_iff.1 hy
            exact absurd e2 (kn_not hx q (List.mem_of_mem_erase hq))
        · obtain ⟨q,hq,e2⟩:=kn_iff.1 hx
          exact (kn_iff.2 ⟨q,(List.mem_erase_of_ne (fun e3=>et (by rw [← e2,e3]))).2 hq,e2⟩).symm
    · rw [hg.left_eq,h2.left_eq]
      exact hlt
end
end Go.Proofs.YtnfcfdhlmeimhaaGreat
namespace Go.Proofs.YtnfcfdhlmeimhaaGreat
open Go.RowKit
set_option linter.unusedVariables false
set_option maxRecDepth 20000
set_option linter.unusedSimpArgs false
section
variable {w:World} {base g r c n sz k:Nat} {e:TypeId} {xs:List Value}
theorem OwnT.row (h:OwnT w base e sz (.slice (some ⟨g,0,none⟩) r c) n xs):∃ cur:Array Value,w.heap[g]?=some (.cells cur e (0,0))∧base≤g∧n≤c∧c≤maxLen∧cur.size=c * sz∧cur.toList.take (n * sz)=xs∧r=n:=by
  rcases h.2 with ⟨e,_⟩ | ⟨g',cap,cur,e,h1,h2,h3,h4,h5,h6⟩
  · cases e
  · injection e with e1 e2 e3
    injection e1 with e1
    injection e1 with e1
    subst e1 e3
    exact ⟨cur,h2,h1,h3,h4,h5,h6,e2⟩
theorem OwnT.frozenAt (h:OwnT w base e sz (.slice (some ⟨g,0,none⟩) r c) n xs) (k:Nat):w.frozen? ⟨g,k,none⟩=false:=by
  obtain ⟨cur,h1,_⟩:=h.row
  exact frozen_of_row w g k _ _ h1
theorem OwnT.blk (h:OwnT w base e sz (.slice (some ⟨g,0,none⟩) r c) n xs):g < w.heap.size:=h.lt g rfl
/-- One element, of one cell, is set. -/
theorem OwnT.set1 (h:OwnT w base e 1 (.slice (some ⟨g,0,none⟩) r c) n xs) (hk:k < n) (v:Value):OwnT (w.setCell ⟨g,k,none⟩ v) base e 1 (.slice (some ⟨g,0,none⟩) r c) n (xs.set k v):=by
  obtain ⟨cur,h2,h1,h3,h4,h5,h6,h7⟩:=h.row
  refine ⟨by rw [List.length_set]; exact h.1,.inr ⟨g,c,cur.setIfInBounds k v,by rw [h7],h1,heap_setCell_same w g k cur _ _ h2,h3,h4,by rw [Array.size_setIfInBounds]; exact h5,?_⟩⟩
  rw [Array.toList_setIfInBounds,← h6,List.take_set]
/-- A row of another type lies elsewhere. -/
theorem OwnT.off (h:OwnT w base e sz (.slice (some ⟨g,0,none⟩) r c) n xs) {b2 sz2 n2:Nat} {e2:TypeId} {v2:Value} {xs2:List Value} (h2:OwnT w b2 e2 sz2 v2 n2 xs2) (hne:e2≠e):v2.ownBlock≠some g:=fun hk=>ownT_far h2 h hne hk rfl
theorem OwnT.offB (h:OwnT w base e sz (.slice (some ⟨g,0,none⟩) r c) n xs) {b2:Nat} {v2:Value} {bs:List UInt8} (h2:Own w b2 5 v2 bs) (hne:5≠e):v2.ownBlock≠some g:=fun hk=>ownT_far (e:=5) (sz:=1) (n:=bs.length) (xs:=bs.map bv) h2 h hne hk rfl
/-- A row lies in no block of another type. -/
theorem OwnT.not_at {v:Value} {t:TypeId} {cs:Array Value} (h:OwnT w base e sz v n xs) (hg:w.heap[g]?=some (.cells cs t (0,0))) (ht:t≠e):v.ownBlock≠some g:=fun hk=>by
  obtain ⟨cur,h1⟩:=h.kind hk
  rw [h1] at hg
  injection hg with hg
  injection hg with _ hg _
  exact ht hg.symm
end
theorem own_ne_at {w:World} {base g:Nat} {v:Value} {bs:List UInt8} {t:TypeId} {cs:Array Value} (h:Own w base 5 v bs) (hg:w.heap[g]?=some (.cells cs t (0,0))) (ht:t≠5):v.ownBlock≠some g :=
  OwnT.not_at (e:=5) (sz:=1) (n:=bs.length) (xs:=bs.map bv) h hg ht
theorem Own.cap {w:World} {base n c:Nat} {e:TypeId} {A:Option Addr} {bs:List UInt8} (h:Own w base e (.slice A n c) bs):n≤c:=by
  rcases h.2 with ⟨e1,hn⟩ | ⟨g,cap,cur,e1,_,_,h1,_⟩
  · injection e1 with _ e2 e3; omega
  · injection e1 with _ e2 e3; omega
/-- So many nil slices. -/
def zsl (n:Nat):Array Value:=madeCells (Value.slice none 0 0).cells (n * 1)
theorem zsl_list (n:Nat):(zsl n).toList=List.replicate n (.slice none 0 0):=by unfold zsl; rw [Nat.mul_one]; exact toList_madeCells_one _ _
theorem zsl_size (n:Nat):(zsl n).size=n:=by unfold zsl; rw [size_madeCells,Nat.mul_one]
/-- make([][]byte, n). -/
theorem make_slcs (w:World) (n:Nat) (x:Int) (hx:x=n) (hn:n≤100000) :
    (Instr.makeSlice 36 (.int .i64 x) (.int .i64 x)).run Tryz.prog w=.ok (.slice (some ⟨w.heap.size,0,none⟩) n n) (w.alloc (.cells (zsl n) 54)):=by
  obtain ⟨⟨i0,hi0,hz0,hz1,hz2⟩,_⟩:=ty_slc
  subst hx
  have:=run_make (P:=Tryz.prog) w 36 54 i0 (.slice none 0 0) Tryz.underlying36 hi0 hz0 .i64 .i64 n n (by omega) (by omega) (by rw [hz2]; omega) (by omega)
  rw [hz1] at this
  simpa [zsl] using this
theorem ownT_slcs (w:World) (base n:Nat) (hb:base≤w.heap.size) (hn:n≤100000):OwnT (w.alloc (.cells (zsl n) 54)) base 54 1 (.slice (some ⟨w.heap.size,0,none⟩) n n) n (List.replicate n (.slice none 0 0)) :=
  ⟨by simp,.inr ⟨w.heap.size,n,zsl n,rfl,hb,heap_alloc_new w _,Nat.le_refl _,by unfold maxLen; omega,by rw [zsl_size]; omega,by rw [zsl_list,Nat.mul_one,List.take_of_length_le (by simp)]⟩⟩
/-- A row just made with no elements. -/
theorem ownT_none (w:World) (e:TypeId) (sz:Nat):OwnT (w.alloc (.cells #[] e)) w.heap.size e sz (.slice (some ⟨w.heap.size,0,none⟩) 0 0) 0 []:=World.ownsRow_made w #[] 0 (Nat.le_refl _) (Nat.zero_le _) (by simp)
theorem ownT_base0 {w:World} {base n sz:Nat} {e:TypeId} {v:Value} {xs:List Value} (h:OwnT w base e sz v n xs):OwnT w 0 e sz v n xs:=ownT_rebase h fun _ _=>Nat.zero_le _
theorem sclone_any {w:World} {bs:List UInt8} {u:Value} (hu:Bts w u bs) (hl:bs.length≤900000000):Calls Tryz.prog 110 #[u] w (OwnPost w bs):=by
  obtain ⟨i0,hi0,hz0,hz1,hz2⟩:=byte_parts
  obtain ⟨A,n,c,rfl⟩:=hu.form
  have hq:=fun (w:World) (a:Option Addr) (n c:Nat)=>Lib.run_eql_slice_nil (P:=Tryz.prog) w 54 5 a n c 0 0 Tryz.underlying54
  rcases A with _ | ad
  · have hb:bs=[]∧n=0∧c=0:=by
      obtain ⟨A',c',e,hn,_⟩:=hu
      injection e with e1 e2 e3
      subst e1 e2 e3
      exact ⟨(hn rfl).1,by simp [(hn rfl).1],(hn rfl).2⟩
    obtain ⟨rfl,rfl,rfl⟩:=hb
    go_enter Tryz.func110,Tryz.ntmps110
    go_wp2
    go_ret
    exact ⟨none,0,0,rfl,Own.nil _ _ _,Kp.refl _ _⟩
  · go_enter Tryz.func110,Tryz.ntmps110
    go_wp2_with (first
      | (at_builtin
         refine wpList_app rfl (.tmp 5) (.tmp 6) _ rfl i0 Tryz.underlying54 hi0 hz0 hz1 hz2 rfl (own_empty w) rfl (hu.keep (Kp.alloc No w _) fun _ _ f=>f) (by simp; omega) (by simp) ?_
         intro A1 n1 c1 w1 ha))
    go_ret
    exact ⟨A1,n1,c1,rfl,by simpa using ha.own,ha.keeps (own_empty w) (Kp.alloc No w _)⟩
end Go.Proofs.YtnfcfdhlmeimhaaGreat
