/- The document's Frame of layer 12; rows of any type: parts of them, appended. -/
import Derived.Test.YtnfcfdhlmeimhaaGreatSpbe
import Derived.Test.YtnfcfdhlmeimhaaGreatSpad
namespace Go.Proofs.YtnfcfdhlmeimhaaGreat
open Go.RowKit
set_option linter.unusedVariables false
set_option linter.unusedSimpArgs false
set_option maxRecDepth 20000
theorem rframe12_any {w:World} {s n c:Nat} {A:Option Addr} {bs:List UInt8} (hs:s < N96) (hb:Bts w (.slice A n c) bs) (hl:bs.length≤65524):Calls Tryz.prog 85 #[shV s,.slice A n c] w (OwnPost w (frV s bs)):=by
  obtain ⟨i0,hi0,hz0,hz1,hz2⟩:=byte_parts
  have hsh:=fun w'=>rshard_any (w:=w') (cO s) (cS s) (cL s) (cG s) (cO_lt hs) (cS_lt s) (cL_lt s) (cG_lt s)
  have HSH:=hide hsh
  have hbx:=Bx4.new w (.int .u32 (cO s:Int)) (.int .u16 (cS s:Int)) (.int .u16 (cL s:Int)) (.int .u32 (cG s:Int))
  have k0:=Kp.alloc No w (.cells #[.int .u32 (cO s:Int),.int .u16 (cS s:Int),.int .u16 (cL s:Int),.int .u32 (cG s:Int)] 53)
  have HB:=hide (hb.no k0)
  have HK:=hide k0
  have HFR:Hid (frm 1 (shardB (cO s) (cS s) (cL s) (cG s) ++ bs)=frV s bs):=rfl
  have hl12:(shardB (cO s) (cS s) (cL s) (cG s)).length=12:=shB_len s
  generalize shardB (cO s) (cS s) (cL s) (cG s)=y at HSH HFR hl12
  obtain ⟨p0,p1,p2,p3⟩:=hbx.cell
  clear hsh hb k0 hbx
  go_enter Tryz.func85,Tryz.ntmps85
  go_wp2_with fail
  refine (HSH.out _).mono ?_
  rintro e w1 ⟨A1,n1,c1,rfl,ho1,k1⟩
  have hb1:=HB.out.no k1
  have HK1:=hide k1
  have HO:=hide ho1
  have hs1:=k1.size
  have HL:=hide hl
  have HL12:=hide hl12
  clear k1 p0 p1 p2 p3 ho1 hl hl12
  go_wp2_with (first
    | (at_builtin
       refine wpList_app rfl (.tmp 6) (.tmp 7) _ rfl i0 Tryz.underlying54 hi0 hz0 hz1 hz2 rfl HO.out rfl hb1 (by have:=HL.out; have:=HL12.out; omega) hs1 ?_
       intro A2 n2 c2 w2 ha2
       have HK2:=hide (HK.out.trans' (ha2.keeps HO.out HK1.out))
       have HO2:=hide ha2.own
       clear ha2 hb1 hs1))
  refine (rfr_any (k:=1) HO2.out.bts (by omega) (by have:=HO2.out.len; rw [List.length_append] at this; have:=HL.out; have:=HL12.out; omega)).mono ?_
  rintro e w3 ⟨A3,n3,c3,rfl,ho3,k3⟩
  rw [HFR.out] at ho3
  have HO3:=hide ho3
  have HK3:=hide k3
  clear ho3 k3
  go_wp2_with fail
  go_ret
  exact ⟨A3,n3,c3,rfl,HO3.out.rebase fun q hq=>Nat.le_trans HK2.out.size (HO3.out.ge q hq),HK2.out.trans' HK3.out⟩
/-- append of any slice as a step of a region. -/
theorem step_appS {w:World} {base:Nat} {e:TypeId} {sz n m c:Nat} {v z:Value} {xs cs:List Value} {ops:Array Oper} {o:Oper} {a:Act} {Q:Exit→Act→World→Prop} {K:Act→World→Prop} {E:Prop} {bt:Nat} (hT:Ty e z sz bt) (hgd:o.guard=none) (s x:Operand) (t:TypeId)
    (ho:o.op=.call { callee:=.builtin .append,args:=#[s,x],argTypes:=#[t,t] })
    (ht:Tryz.prog.underlying t=some (.slice e)) (hs:a.eval s=v) (h:OwnT w base e sz v n xs) (A:Option Addr) (hx:a.eval x=.slice A m c) (h0:A=none→m=0∧c=0∧cs=[]) (hN:∀ ad,A=some ad→Nws w ad m sz cs) (hlen:n+m≤1000000) (hb:base≤w.heap.size)
    (hQ:∀ A1 n1 c1 w1,n1=n+m→AppT w base e sz v n xs m cs (.slice A1 n1 c1) w1→K (a.put o.dst (.slice A1 n1 c1)) w1):if Region.wanted o (yielded ops a.tmps)=true then Oper.wp Tryz.prog o a w K Q else E:=by
  rcases A with _ | ad
  · obtain ⟨rfl,rfl,rfl⟩:=h0 rfl
    have hw:Region.wanted o (yielded ops a.tmps)=true:=by simp [Region.wanted,hgd]
    rw [if_pos hw]
    obtain ⟨⟨i0,hi0,hz0,hz1,hz2⟩,_⟩:=hT
    have hr:=fun ty=>run_append_owned_none (P:=Tryz.prog) w base t ty e i0 sz ht hi0 v n _ h
    obtain ⟨A1,c1,rfl⟩:=h.form
    have hq:=hQ A1 n c1 w (by omega) ⟨by simpa using h,Kp.refl _ _,.inl rfl⟩
    unfold Oper.wp
    simp only [execOp,ho,resolve,invoke,builtin,Sem.run_bind,Sem.run_pure,Result.andThen_ok,List.map_toArray,List.map_cons,List.map_nil,hs,hx,hr]
    exact hq
  · exact step_appT hT hgd s x t ho ht hs h ad c hx (hN ad rfl) hlen hb hQ
/-- A part of a row as what is appended. -/
theorem OwnT.part {w:World} {base n sz r c g:Nat} {e:TypeId} {xs:List Value} (h:OwnT w base e sz (.slice (some ⟨g,0,none⟩) r c) n xs) (h1:∀ u ∈ xs,u.oneCell'=true) {l m:Nat} (hlm:l+m≤n):Nws w ⟨g,l * sz,none⟩ m sz ((xs.drop (l * sz)).take (m * sz)):=by
  have hx:=h.1
  refine ⟨?_,fun j u hj=>?_,fun u hu=>h1 u (List.mem_of_mem_drop (List.mem_of_mem_take hu))⟩
  · rw [List.length_take,List.length_drop,hx]
    have:(l+m) * sz≤n * sz:=Nat.mul_le_mul_right _ hlm
    rw [Nat.add_mul] at this
    omega
  · rw [add_none]
    rw [List.getElem?_take] at hj
    split at hj
    · rw [List.getElem?_drop] at hj
      exact h.cellAt hj
    · cases hj
theorem KnR.none_ {w:World} {F:Nat→Prop} {n c:Nat} {L:List (Nat × Nat)} (h:KnR w F (.slice none n c) L):n=0∧c=0∧L=[]:=by
  rcases h.own.2 with ⟨e1,e2⟩ | ⟨g,cap,cur,e1,_⟩
  · injection e1 with _ e3 e4
    exact ⟨e3,e4,List.eq_nil_of_length_eq_zero e2⟩
  · cases e1
theorem KnR.at0 {w:World} {F:Nat→Prop} {n c:Nat} {ad:Addr} {L:List (Nat × Nat)} (h:KnR w F (.slice (some ad) n c) L):ad=⟨ad.block,0,none⟩∧n=L.length∧n≤c:=by
  rcases h.own.2 with ⟨e1,e2⟩ | ⟨g,cap,cur,e1,_,_,h1,_⟩
  · cases e1
  · injection e1 with e2 e3 e4
    injection e2 with e2
    subst e2
    exact ⟨rfl,e3,by omega⟩
/-- What is known as what is appended. -/
theorem KnR.nws {w:World} {F:Nat→Prop} {n c:Nat} {A:Option Addr} {L:List (Nat × Nat)} (h:KnR w F (.slice A n c) L):(A=none→n=0∧c=0∧knC L=[])∧∀ ad,A=some ad→Nws w ad n 5 (knC L):=by
  refine ⟨fun e=>?_,fun ad e=>?_⟩
  · subst e
    obtain ⟨h1,h2,h3⟩:=h.none_
    exact ⟨h1,h2,by rw [h3]; rfl⟩
  · subst e
    obtain ⟨h1,h2,_⟩:=h.at0
    generalize ad.block=g at h1
    subst h1
    rw [h2]
    have:=h.own.nws (knC_one L)
    rw [← h2] at this ⊢
    exact this
theorem nat_beq (a b:Nat):((a:Int) == (b:Int))=(a == b):=by
  by_cases h:a=b
  · subst h
    simp
  · rw [beq_eq_false_iff_ne.2 h,beq_eq_false_iff_ne.2 (by omega)]
end Go.Proofs.YtnfcfdhlmeimhaaGreat
