/- Powers, polynomials, the polynomial through points (Newton's way), matrices of powers, and the elements whose powers are unlike, in plain words. No condition; Package vand's Row and Value, and the document's Row and Value, each as a contract over memory; Which elements were seen, and package vand's fit, and the document's Twice, each as a contract over memory; Package vand's Points, the document's power and Points, and law05's awake, each as a contract over memory; The document's power and Points, and law05's awake, each as a contract over memory. -/
import Derived.Test.YtnfcfdhlmeimhaaGreatSpac
import Derived.Test.YtnfcfdhlmeimhaaGreatSpab
namespace Go.Proofs.YtnfcfdhlmeimhaaGreat
set_option linter.unusedVariables false
set_option maxRecDepth 20000
/-- A byte's power. -/
def upw (x:UInt8):Nat→UInt8
  | 0=>1
  | n+1=>um (upw x n) x
theorem upw_nat (x:UInt8):∀ n,(upw x n).toNat=gpow x.toNat n
  | 0=>rfl
  | n+1=>by rw [upw,um_nat,upw_nat x n]; rfl
/-- No two of the first n are alike. -/
def Uq (n:Nat) (p:Nat→UInt8):Prop:=∀ i k,k < i→i < n→p i≠p k
/-- The matrix of powers. -/
def vF (p:Nat→UInt8) (i k:Nat):UInt8:=upw (p i) k
/-- The first elements, below x, whose powers are unlike. -/
def fnd (e:Nat):Nat→List UInt8
  | 0=>[]
  | x+1=>if upw (UInt8.ofNat x) e ∈ (fnd e x).map (fun a=>upw a e) then fnd e x else fnd e x ++ [UInt8.ofNat x]
/-- Their powers. -/
def fpw (e x:Nat):List UInt8:=(fnd e x).map fun a=>upw a e
theorem fpw_len (e x:Nat):(fpw e x).length=(fnd e x).length:=by simp [fpw]
theorem fnd_in {e x:Nat} (h:upw (UInt8.ofNat x) e ∈ fpw e x):fnd e (x+1)=fnd e x:=if_pos h
theorem fnd_new {e x:Nat} (h:upw (UInt8.ofNat x) e ∉ fpw e x):fnd e (x+1)=fnd e x ++ [UInt8.ofNat x]:=if_neg h
theorem fpw_in {e x:Nat} (h:upw (UInt8.ofNat x) e ∈ fpw e x):fpw e (x+1)=fpw e x:=by unfold fpw; rw [fnd_in h]
theorem fpw_new {e x:Nat} (h:upw (UInt8.ofNat x) e ∉ fpw e x):fpw e (x+1)=fpw e x ++ [upw (UInt8.ofNat x) e]:=by
  show (fnd e (x+1)).map _=_
  rw [fnd_new h,List.map_append]
  rfl
theorem fnd_pre (e x:Nat):∀ d,fnd e x <+: fnd e (x+d)
  | 0=>List.prefix_refl _
  | d+1=>by
    refine (fnd_pre e x d).trans ?_
    show fnd e (x+d) <+: fnd e (x+d+1)
    by_cases h:upw (UInt8.ofNat (x+d)) e ∈ fpw e (x+d)
    · rw [fnd_in h]
      exact List.prefix_refl _
    · rw [fnd_new h]
      exact List.prefix_append _ _
theorem fnd_le {e x y:Nat} (h:x≤y):(fnd e x).length≤(fnd e y).length:=by
  have:=(fnd_pre e x (y - x)).length_le
  rwa [show x+(y - x)=y by omega] at this
theorem fnd_take {e x y:Nat} (h:x≤y):(fnd e y).take (fnd e x).length=fnd e x:=by
  have:=List.prefix_iff_eq_take.1 (fnd_pre e x (y - x))
  rw [show x+(y - x)=y by omega] at this
  exact this.symm
theorem fnd_len (e:Nat):∀ x,(fnd e x).length≤x
  | 0=>Nat.le_refl _
  | x+1=>by
    have:=fnd_len e x
    by_cases h:upw (UInt8.ofNat x) e ∈ fpw e x
    · rw [fnd_in h]
      omega
    · rw [fnd_new h,List.length_append]
      simp
      omega
end Go.Proofs.YtnfcfdhlmeimhaaGreat
namespace Go.Proofs.YtnfcfdhlmeimhaaGreat
open Go.RowKit
set_option linter.unusedVariables false
set_option maxRecDepth 20000
theorem refpowU_any (x:UInt8) (k:Nat) (w:World) (hk:k≤1000):Calls Tryz.prog 154 #[.int .u8 (x.toNat:Int),.int .i64 (k:Int)] w fun e w'=>e=.returned (.int .u8 ((upw x k).toNat:Int))∧w=w':=by
  rw [upw_nat]
  exact refpow_any x.toNat k w (u8_lt x) (by omega)
theorem rowL_succ (k:Nat) (s:Nat→UInt8):rowL (k+1) s=rowL k s ++ [s k]:=by
  unfold rowL
  rw [List.range_succ,List.map_append]
  rfl
set_option maxHeartbeats 1000000 in
theorem vrow_any (x:UInt8) (n:Nat) (w:World) (h1:1≤n) (h2:n≤1000):Calls Tryz.prog 164 #[.int .u8 (x.toNat:Int),.int .i64 (n:Int)] w (OwnPost w (rowL n (upw x))):=by
  have hmk:=fun w=>make_bytes w n (n:Int) rfl (by omega)
  have hst:=row_new w n h2
  have hk0:Kp No w (w.alloc (.cells (zc n) 5)):=Kp.alloc No _ _
  obtain ⟨g,hg⟩:∃ g,g=w.heap.size:=⟨_,rfl⟩
  go_enter Tryz.func164,Tryz.ntmps164
  go_wp2_with fail
  rw [← hg] at hst ⊢
  have HG:=hide hg
  clear hg
  go_loopw [6,18] (fun q i wr=>∃ k:Nat,k≤n∧i=.int .i64 (k:Int)∧q=.int .u8 ((upw x k).toNat:Int)∧RowAt wr g g n n (upS (upw x) (fun _=>0) k)∧Kp No w wr) (fun _ i _=>n - (intOf i).toNat)
  case atStart=>exact ⟨0,Nat.zero_le _,rfl,rfl,hst.eq fun k _=>by simp [upS],hk0⟩
  case round =>
    obtain ⟨k,hk,rfl,rfl,hR,hkw⟩:=hrel
    by_cases hlt:k < n
    · have hy:=hR.cell hlt
      have hf:=hR.frozen k
      have hstep:Hid (um (upw x k) x=upw x (k+1)):=(rfl:um (upw x k) x=upw x (k+1))
      go_wp2_with fail
      refine (mulU_any (upw x k) x _).mono ?_
      rintro e w2 ⟨rfl,rfl⟩
      rw [hstep.out]
      go_wp2_with fail
      go_round
      case rel=>exact ⟨k+1,by omega,by go_num,rfl,(hR.set hlt (upw x k) _ rfl).eq fun j _=>upS_step (upw x) _ k j,hkw.trans ((RowAt.kpset _ _ _ _).mono fun q hq=>.inr (by rw [hq,HG.out]; exact Nat.le_refl _))⟩
      case measure=>simp [intOf]; omega
    · obtain rfl:k=n:=by omega
      go_wp2_with fail
      go_ret
      refine ⟨_,_,_,rfl,?_,hkw⟩
      rw [← HG.out]
      exact hR.eq fun j hj=>by unfold upS; rw [if_pos hj]
set_option maxHeartbeats 1000000 in
theorem rrow_any (x:UInt8) (n:Nat) (w:World) (h2:n≤1000):Calls Tryz.prog 140 #[.int .u8 (x.toNat:Int),.int .i64 (n:Int)] w (OwnPost w (rowL n (upw x))):=by
  obtain ⟨i0,hi0,hz0,hz1,hz2⟩:=byte_parts
  go_enter Tryz.func140,Tryz.ntmps140
  go_wp2_with fail
  go_loopw [5,6] (fun v i wr=>∃ (k:Nat) (A:Option Addr) (m c:Nat),k≤n∧i=.int .i64 (k:Int)∧v=.slice A m c∧Own wr w.heap.size 5 (.slice A m c) (rowL k (upw x))∧Kp No w wr) (fun _ i _=>n - (intOf i).toNat)
  case atStart=>exact ⟨0,none,0,0,Nat.zero_le _,rfl,rfl,Own.nil _ _ _,Kp.refl _ _⟩
  case round =>
    obtain ⟨k,A,m,c,hk,rfl,rfl,ho,hkw⟩:=hrel
    by_cases hlt:k < n
    · have hsz:=hkw.size
      have hb:=bts_new wr (upw x k) _ rfl
      have ho2:=ho.alloc (.cells #[bv (upw x k)] 5)
      have hl:(rowL k (upw x)).length+[upw x k].length≤1000000000:=by rw [rowL_len]; simp; omega
      go_wp2_with fail
      refine (refpowU_any x k _ (by omega)).mono ?_
      rintro e w' ⟨rfl,rfl⟩
      go_wp2_with (first
        | (at_builtin
           refine wpList_app rfl (.tmp 12) (.tmp 16) _ rfl i0 Tryz.underlying54 hi0 hz0 hz1 hz2 rfl ho2 rfl hb hl (by simp; omega) ?_
           intro A1 n1 c1 w1 ha))
      go_round
      case rel=>exact ⟨k+1,A1,n1,c1,by omega,by go_num,rfl,by rw [rowL_succ]; exact ha.own,ha.keeps ho2 (hkw.trans' (Kp.alloc No _ _))⟩
      case measure=>simp [intOf]; omega
    · obtain rfl:k=n:=by omega
      go_wp2_with fail
      go_ret
      exact ⟨A,m,c,rfl,ho,hkw⟩
end Go.Proofs.YtnfcfdhlmeimhaaGreat
namespace Go.Proofs.YtnfcfdhlmeimhaaGreat
open Go.RowKit
set_option linter.unusedVariables false
set_option maxRecDepth 20000
/-- Nothing was seen. -/
def elZ:Array Value:=Array.replicate 256 (.bool false)
theorem el_info:(Tryz.prog.info? 139).map (fun i=>i.zero)=some (some (.agg elZ)):=by kernel_rfl
theorem el_zero (w:World):(zeroValue 139).run Tryz.prog w=.ok (.agg elZ) w:=by
  have h:=el_info
  rcases hi:Tryz.prog.info? 139 with _ | i
  · rw [hi] at h; cases h
  · rw [hi] at h
    simp only [Option.map_some,Option.some.injEq] at h
    simp [zeroValue,typeInfo,go_sem,hi,h]
/-- The block g tells which elements were seen: those of l. -/
def SetAt (w:World) (g:Nat) (l:List UInt8):Prop:=∃ cs:Array Value,w.heap[g]?=some (.cells cs 139 (0,0))∧cs.size=256∧∀ a:UInt8,cs[a.toNat]?=some (.bool (decide (a ∈ l)))
section
variable {w w1:World} {g:Nat} {l l':List UInt8} {S:Nat→Prop}
theorem SetAt.new (w:World):SetAt (w.alloc (.cells elZ 139)) w.heap.size []:=by
  refine ⟨elZ,heap_alloc_new w _,by simp [elZ],fun a=>?_⟩
  unfold elZ
  rw [Array.getElem?_replicate,if_pos (u8_lt a)]
  simp
theorem SetAt.eq (h:SetAt w g l) (he:∀ a,a ∈ l ↔ a ∈ l'):SetAt w g l':=by
  obtain ⟨cs,h1,h2,h3⟩:=h
  exact ⟨cs,h1,h2,fun a=>by rw [h3 a,decide_eq_decide.2 (he a)]⟩
theorem SetAt.keep (h:SetAt w g l) (hk:Kp S w w1) (hS:¬ S g):SetAt w1 g l:=by
  obtain ⟨cs,h1,h2,h3⟩:=h
  exact ⟨cs,by rw [hk.block g (Array.getElem?_eq_some_iff.1 h1).1 hS]; exact h1,h2,h3⟩
theorem SetAt.no (h:SetAt w g l) (hk:Kp No w w1):SetAt w1 g l:=h.keep hk fun f=>f
theorem SetAt.cell (h:SetAt w g l) (x:UInt8):w.cell? ⟨g,x.toNat,none⟩=some (.bool (decide (x ∈ l))):=by
  obtain ⟨cs,h1,h2,h3⟩:=h
  rw [cell_of_row w g _ _ _ _ h1,h3 x]
theorem SetAt.frozen (h:SetAt w g l) (o:Nat):w.frozen? ⟨g,o,none⟩=false:=by
  obtain ⟨cs,h1,h2,h3⟩:=h
  exact frozen_of_row w g o _ _ h1
theorem SetAt.set (h:SetAt w g l) (x:UInt8):SetAt (w.setCell ⟨g,x.toNat,none⟩ (.bool true)) g (l ++ [x]):=by
  obtain ⟨cs,h1,h2,h3⟩:=h
  refine ⟨cs.setIfInBounds x.toNat (.bool true),heap_setCell_same w g _ cs _ _ h1,by rw [Array.size_setIfInBounds]; exact h2,fun a=>?_⟩
  rw [Array.getElem?_setIfInBounds]
  by_cases e:x.toNat=a.toNat
  · have e2:x=a:=u8_ext e
    subst e2
    rw [if_pos rfl,if_pos (by rw [h2]; exact u8_lt x)]
    simp
  · rw [if_neg e,h3 a]
    have e2:a≠x:=fun e'=>e (by rw [e'])
    congr 2
    rw [decide_eq_decide]
    simp [e2]
end
/-- What add leaves. -/
def AddPost (w:World) (g:Nat) (l:List UInt8) (x:UInt8) (e:Ending) (w1:World):Prop:=e=.returned (.bool (!decide (x ∈ l)))∧SetAt w1 g (l ++ [x])∧Kp (fun q=>q=g) w w1
theorem eladd_any {w:World} {g:Nat} {l:List UInt8} (h:SetAt w g l) (x:UInt8):Calls Tryz.prog 65 #[.pointer (some ⟨g,0,none⟩),.int .u8 (x.toNat:Int)] w (AddPost w g l x):=by
  have hc:=h.cell x
  have hf:=h.frozen x.toNat
  have hx:=u8_lt x
  have HS:=hide (h.set x)
  clear h
  unfold AddPost
  generalize decide (x ∈ l)=b at *
  go_enter Tryz.func65,Tryz.ntmps65
  go_wp2_with fail
  go_ret
  exact ⟨rfl,HS.out,Kp.setCell (p:=⟨g,x.toNat,none⟩) (S:=fun q=>q=g) rfl _⟩
/-- No two are alike: none is among those ahead of it. -/
theorem uq_iff (bs:List UInt8):Uq bs.length (lg bs) ↔ ∀ (k:Nat) b,bs[k]?=some b→b ∉ bs.take k:=by
  constructor
  · intro h k b hb hm
    obtain ⟨j,hj,e⟩:=List.mem_iff_getElem.1 hm
    rw [List.length_take] at hj
    have hkl:k < bs.length:=(List.getElem?_eq_some_iff.1 hb).1
    rw [List.getElem_take] at e
    exact h k j (by omega) hkl (by rw [lg_of hb,lg_of (b:=bs[j]) (List.getElem?_eq_getElem _),e])
  · intro h i k hk hi e
    refine h i _ (List.getElem?_eq_getElem hi) ?_
    rw [lg_of (List.getElem?_eq_getElem hi),lg_of (List.getElem?_eq_getElem (show k < bs.length by omega))] at e
    rw [e]
    exact List.mem_iff_getElem.2 ⟨k,by rw [List.length_take]; omega,by rw [List.getElem_take]⟩
section
variable {w:World} {A:Option Addr} {n c:Nat} {bs:List UInt8}
/-- Twice's answer. -/
def TwPost (w:World) (n:Nat) (s:Nat→UInt8) (e:Ending) (w1:World):Prop:=∃ b,e=.returned (.bool b)∧(b=false ↔ Uq n s)∧Sm w w1
set_option maxHeartbeats 1000000 in
theorem twice_any (h:Bts w (.slice A n c) bs) (hn:n≤1000):Calls Tryz.prog 153 #[.slice A n c] w (TwPost w n (lg bs)):=by
  go_enter Tryz.func153,Tryz.ntmps153
  go_wp2_with fail
  go_loopw [3] (fun i wr=>∃ k:Nat,k≤n∧i=.int .i64 (k:Int)∧Hid (Uq k (lg bs))∧Sm w wr) (fun i _=>n - (intOf i).toNat)
  case atStart=>exact ⟨0,Nat.zero_le _,rfl,(fun i k _ hi=>absurd hi (Nat.not_lt_zero _):Uq 0 (lg bs)),Sm.refl _⟩
  case round =>
    obtain ⟨k,hk,rfl,hU,hs⟩:=hrel
    by_cases hlt:k < n
    · obtain ⟨B1,o1,y,rfl,hy,c1⟩:=h.at_ hlt
      have HY:=hide (lg_of hy)
      clear hy
      go_wp2_with fail
      go_loopw [4] (fun i wr=>∃ q:Nat,q≤k∧i=.int .i64 (q:Int)∧Hid (∀ j,j < q→lg bs k≠lg bs j)∧Sm w wr) (fun i _=>k - (intOf i).toNat)
      case atStart=>exact ⟨0,Nat.zero_le _,rfl,(fun j hj=>absurd hj (Nat.not_lt_zero _):∀ j,j < 0→lg bs k≠lg bs j),hs⟩
      case round =>
        obtain ⟨q,hq,rfl,hV,hs2⟩:=hrel
        by_cases hlq:q < k
        · have hqn:q < n:=by omega
          obtain ⟨B2,o2,z,hA,hz,c2⟩:=h.at_ hqn
          injection hA with hA
          injection hA with hA1 hA2
          subst hA1 hA2
          have HZ:=hide (lg_of hz)
          have d1:wr.cell? ⟨B1,o1+k,none⟩=some (.int .u8 (y.toNat:Int)):=by rw [hs2.cell]; exact c1
          have d2:wr.cell? ⟨B1,o1+q,none⟩=some (.int .u8 (z.toNat:Int)):=by rw [hs2.cell]; exact c2
          clear hz
          by_cases he:y=z
          · have HE:=hide he
            have t0:((y.toNat:Int) == (z.toNat:Int))=true:=by rw [he]; simp
            clear he
            go_wp2_with fail
            go_quiet (fail)
            go_wp2_with fail
            go_ret
            exact ⟨true,rfl,⟨fun e=>(by cases e),fun e=>absurd (by rw [HY.out,HZ.out]; exact HE.out) (e k q hlq hlt)⟩,hs2.trans (Sm.drewN _ _)⟩
          · have HE:=hide he
            have t0:((y.toNat:Int) == (z.toNat:Int))=false:=by
              simp
              exact fun e=>he (u8_ext (by omega))
            clear he
            go_wp2_with fail
            go_quiet (fail)
            go_wp2_with fail
            go_round
            case rel =>
              refine ⟨q+1,by omega,by go_num,(fun j hj=>?_:∀ j,j < q+1→lg bs k≠lg bs j),hs2.trans (Sm.drewN _ _)⟩
              by_cases e:j=q
              · subst e
                rw [HY.out,HZ.out]
                exact HE.out
              · exact hV.out j (by omega)
            case measure=>simp [intOf]; omega
        · obtain rfl:q=k:=by omega
          go_wp2_with fail
          go_round
          case rel =>
            refine ⟨q+1,by omega,by go_num,(fun i j hj hi=>?_:Uq (q+1) (lg bs)),hs2⟩
            by_cases e:i=q
            · subst e
              exact hV.out j hj
            · exact hU.out i j hj (by omega)
          case measure=>simp [intOf]; omega
    · obtain rfl:k=n:=by omega
      go_wp2_with fail
      go_ret
      exact ⟨false,rfl,⟨fun _=>hU.out,fun _=>rfl⟩,hs⟩
theorem twice_no (h:Bts w (.slice A n c) bs) (hn:n≤1000) (hU:Uq n (lg bs)):Calls Tryz.prog 153 #[.slice A n c] w fun e w'=>e=.returned (.bool false)∧Sm w w' :=
  (twice_any h hn).mono fun e w1 ⟨b,he,hb,hk⟩=>⟨by rw [he,hb.2 hU],hk⟩
theorem twice_yes (h:Bts w (.slice A n c) bs) (hn:n≤1000) (hU:¬ Uq n (lg bs)):Calls Tryz.prog 153 #[.slice A n c] w fun e w'=>e=.returned (.bool true)∧Sm w w':=by
  refine (twice_any h hn).mono fun e w1 ⟨b,he,hb,hk⟩=>⟨?_,hk⟩
  rcases b with _ | _
  · exact absurd (hb.1 rfl) hU
  · exact he
end
end Go.Proofs.YtnfcfdhlmeimhaaGreat
namespace Go.Proofs.YtnfcfdhlmeimhaaGreat
open Go.RowKit
set_option linter.unusedVariables false
set_option maxRecDepth 20000
theorem powU_any (x:UInt8) (z n:Int) (e:Nat) (w:World) (hz:(x.toNat:Int)=z) (h1:1≤n) (h2:n≤9223372036854775807) (he:e=n.toNat):Calls Tryz.prog 66 #[.int .u8 z,.int .i64 n] w fun r w'=>r=.returned (.int .u8 ((upw x e).toNat:Int))∧w=w':=by
  rw [upw_nat,he,← hz]
  exact pow_any x.toNat n w (u8_lt x) (by omega) h2
/-- A row of the call's own comes back, and no error. -/
def OwnPostB (w:World) (bs:List UInt8) (e:Ending) (w1:World):Prop:=∃ A n c,e=.returned (.tuple #[.slice A n c,.int .i64 0])∧Own w1 w.heap.size 5 (.slice A n c) bs∧Kp No w w1
theorem ofNat_nat {k:Nat} (h:k < 256):((UInt8.ofNat k).toNat:Int)=(k:Int):=by
  rw [UInt8.toNat_ofNat',Nat.mod_eq_of_lt (by omega)]
/-- What the elements' loop keeps. -/
structure PtI (w:World) (g e k:Nat) (A:Option Addr) (m c:Nat) (wr:World):Prop where
  own:Own wr w.heap.size 5 (.slice A m c) (fnd e k)
  set:SetAt wr g (fpw e k)
  kp:Kp No w wr
theorem own_set {w:World} {b g:Nat} {v:Value} {bs l:List UInt8} (h:Own w b 5 v bs) (h':SetAt w g l):v.ownBlock≠some g:=by
  intro hv
  obtain ⟨cs,h1,_⟩:=h'
  rcases h.2 with ⟨rfl,_⟩ | ⟨b',cap',cur',rfl,_,hg',_⟩
  · simp [Value.ownBlock] at hv
  · simp only [Value.ownBlock,Option.some.injEq] at hv
    subst hv
    rw [h1] at hg'
    simp only [Option.some.injEq,Obj.cells.injEq] at hg'
    exact absurd hg'.2.1 (by decide)
theorem PtI.same {w wr w2:World} {g e k m c:Nat} {A:Option Addr} (h:PtI w g e k A m c wr) (hg:w.heap.size≤g) (hin:upw (UInt8.ofNat k) e ∈ fpw e k) (hS:SetAt w2 g (fpw e k ++ [upw (UInt8.ofNat k) e])) (hk:Kp (fun q=>q=g) wr w2):PtI w g e (k+1) A m c w2:=by
  refine ⟨?_,?_,h.kp.trans (hk.mono fun q hq=>.inr (by omega))⟩
  · rw [fnd_in hin]
    exact h.own.keep hk fun q hq e=>own_set h.own h.set (by rw [hq,e])
  · rw [fpw_in hin]
    exact hS.eq fun a=>by
      rw [List.mem_append,List.mem_singleton]
      exact ⟨fun h=>h.elim id fun e=>e ▸ hin,.inl⟩
theorem PtI.add {w wr w2:World} {g e k m c:Nat} {A:Option Addr} (h:PtI w g e k A m c wr) (hk:Kp (fun q=>q=g) wr w2):Own w2 w.heap.size 5 (.slice A m c) (fnd e k):=h.own.keep hk fun q hq e=>own_set h.own h.set (by rw [hq,e])
theorem PtI.next {w wr w2 w3:World} {g e k m c m1 c1:Nat} {A A1:Option Addr} {o:Obj} (h:PtI w g e k A m c wr) (hg:w.heap.size≤g) (hin:upw (UInt8.ofNat k) e ∉ fpw e k) (hS:SetAt w2 g (fpw e k ++ [upw (UInt8.ofNat k) e])) (hk:Kp (fun q=>q=g) wr w2)
    (ha:App (w2.alloc o) w.heap.size 5 (.slice A m c) (fnd e k) [UInt8.ofNat k] (.slice A1 m1 c1) w3):PtI w g e (k+1) A1 m1 c1 w3:=by
  have ho:=(h.add hk).alloc o
  have hS2:=hS.no (Kp.alloc No w2 o)
  refine ⟨by rw [fnd_new hin]; exact ha.own,?_,ha.keeps ho ((h.kp.trans (hk.mono fun q hq=>.inr (by omega))).trans' (Kp.alloc No _ _))⟩
  rw [fpw_new hin]
  exact hS2.keep ha.kp fun e=>own_set ho hS2 e
set_option maxHeartbeats 2000000 in
set_option maxRecDepth 100000 in
theorem points_yes (n:Nat) (x:Int) (e N:Nat) (w:World) (h1:1≤n) (hx1:1≤x) (hx2:x≤9223372036854775807) (he:Hid (e=x.toNat)) (hN:Hid (N=256)) (HN:Hid (n≤(fnd e N).length)) :
    Calls Tryz.prog 30 #[.int .i64 (n:Int),.int .i64 x] w (OwnPostB w ((fnd e N).take n)):=by
  obtain ⟨i0,hi0,hz0,hz1,hz2⟩:=byte_parts
  have hn2:n≤256:=Nat.le_trans HN.out (hN.out ▸ fnd_len e N)
  have hb:=el_zero
  have hnew:=SetAt.new w
  have hk0:Kp No w (w.alloc (.cells elZ 139)):=Kp.alloc No _ _
  obtain ⟨g,hg⟩:∃ g,g=w.heap.size:=⟨_,rfl⟩
  go_enter Tryz.func30,Tryz.ntmps30
  go_wp2_with fail
  rw [← hg] at hnew ⊢
  have HG:Hid (w.heap.size≤g):=Nat.le_of_eq hg.symm
  clear hg hb
  go_loopw [7,16] (fun v i wr=>∃ (k:Nat) (A:Option Addr) (m c:Nat),k≤256∧i=.int .i64 (k:Int)∧v=.slice A m c∧Hid (((fnd e k).length:Int) < n)∧PtI w g e k A m c wr) (fun _ i _=>256 - (intOf i).toNat)
  case atStart=>exact ⟨0,none,0,0,Nat.zero_le _,rfl,rfl,(by show ((0:Nat):Int) < n; omega:(((fnd e 0).length:Nat):Int) < n),Own.nil _ _ _,hnew,hk0⟩
  case round =>
    obtain ⟨k,A,m,c,hk,rfl,rfl,hlen,hI⟩:=hrel
    by_cases hlt:k < 256
    · have hcv:=ofNat_nat hlt
      have hcm:(k:Int) % 256=(k:Int):=by omega
      have hsz:=hI.kp.size
      have HLE:Hid ((fnd e k).length≤k):=fnd_len e k
      have HU:Hid ((fnd e (k+1)).length≤(fnd e N).length):=fnd_le (by have:=hN.out; omega)
      have HT:Hid ((fnd e N).take (fnd e (k+1)).length=fnd e (k+1)):=fnd_take (by have:=hN.out; omega)
      obtain ⟨a,ha⟩:∃ a,a=UInt8.ofNat k:=⟨_,rfl⟩
      rw [← ha] at hcv
      have HA:=hide ha
      have HC:=hide hcv
      clear ha hcv
      go_wp2_with fail
      refine (powU_any a _ x e _ HC.out hx1 hx2 he.out).mono ?_
      rintro r w1 ⟨rfl,rfl⟩
      go_wp2_with fail
      refine (eladd_any hI.set (upw a e)).mono ?_
      rintro r w2 ⟨rfl,hS2,hk2⟩
      have hk2s:=hk2.size
      by_cases hm:upw a e ∈ fpw e k
      · have HM:Hid (upw (UInt8.ofNat k) e ∈ fpw e k):=by show upw (UInt8.ofNat k) e ∈ fpw e k; rw [← HA.out]; exact hm
        have HI:=hide (hI.same HG.out HM.out (by rw [← HA.out]; exact hS2) hk2)
        rw [decide_eq_true hm]
        clear hm
        go_wp2_with fail
        go_round
        case rel=>exact ⟨k+1,A,m,c,by omega,by go_num,rfl,(by rw [fnd_in HM.out]; exact hlen.out:((fnd e (k+1)).length:Int) < n),HI.out⟩
        case measure=>simp [intOf]; omega
      · have HM:Hid (upw (UInt8.ofNat k) e ∉ fpw e k):=by show upw (UInt8.ofNat k) e ∉ fpw e k; rw [← HA.out]; exact hm
        have HL:Hid ((fnd e (k+1)).length=(fnd e k).length+1):=by show (fnd e (k+1)).length=_; rw [fnd_new HM.out,List.length_append]; rfl
        rw [decide_eq_false hm]
        have ho2:=(hI.add hk2).alloc (.cells #[.int .u8 (k:Int)] 5)
        have hb:=bts_new w2 a (.int .u8 (k:Int)) (by unfold bv; rw [HC.out])
        have hl:(fnd e k).length+[a].length≤1000000000:=by have:=HLE.out; simp; omega
        clear hm
        by_cases hfull:(fnd e k).length+1=n
        · have HF:=hide hfull
          clear hfull
          go_wp2_with (first
            | (at_builtin
               refine wpList_app rfl (.tmp 26) (.tmp 28) _ rfl i0 Tryz.underlying54 hi0 hz0 hz1 hz2 rfl ho2 rfl hb hl (by simp; omega) ?_
               intro A1 n1 c1 w3 ha
               have ht:((n1:Int) == (n:Int))=true:=by
                 have h4:=ha.own.len
                 rw [List.length_append] at h4
                 simp at h4
                 have h5:=HF.out
                 simp
                 omega))
          go_ret2
          have hn:=hI.next HG.out HM.out (by rw [← HA.out]; exact hS2) hk2 (by rw [← HA.out]; exact ha)
          have h8:(fnd e N).take n=fnd e (k+1):=by rw [← HT.out,HL.out,HF.out]
          exact ⟨A1,n1,c1,rfl,by rw [h8]; exact hn.own,hn.kp⟩
        · have HF:=hide hfull
          clear hfull
          go_wp2_with (first
            | (at_builtin
               refine wpList_app rfl (.tmp 26) (.tmp 28) _ rfl i0 Tryz.underlying54 hi0 hz0 hz1 hz2 rfl ho2 rfl hb hl (by simp; omega) ?_
               intro A1 n1 c1 w3 ha
               have ht:((n1:Int) == (n:Int))=false:=by
                 have h4:=ha.own.len
                 rw [List.length_append] at h4
                 simp at h4
                 have h5:=HF.out
                 simp
                 omega))
          go_round
          case rel=>exact ⟨k+1,A1,n1,c1,by omega,by go_num,rfl,(by have h5:=HF.out; have h6:=hlen.out; have h7:=HL.out; omega:((fnd e (k+1)).length:Int) < n),hI.next HG.out HM.out (by rw [← HA.out]; exact hS2) hk2 (by rw [← HA.out]; exact ha)⟩
          case measure=>simp [intOf]; omega
    · have hkN:k=N:=by have:=hN.out; omega
      have:=HN.out
      have:=hlen.out
      subst hkN
      omega
end Go.Proofs.YtnfcfdhlmeimhaaGreat
namespace Go.Proofs.YtnfcfdhlmeimhaaGreat
open Go.RowKit
set_option linter.unusedVariables false
set_option maxRecDepth 20000
theorem uq_snoc {l:List UInt8} {y:UInt8}:Uq (l ++ [y]).length (lg (l ++ [y])) ↔ Uq l.length (lg l)∧y ∉ l:=by
  rw [uq_iff,uq_iff]
  constructor
  · intro h
    refine ⟨fun k b hb=>?_,?_⟩
    · have hk:=(List.getElem?_eq_some_iff.1 hb).1
      have:=h k b (by rw [List.getElem?_append_left hk]; exact hb)
      rwa [List.take_append_of_le_length (by omega)] at this
    · have:=h l.length y (by simp)
      rwa [List.take_append_of_le_length (Nat.le_refl _),List.take_length] at this
  · rintro ⟨h1,h2⟩ k b hb
    have hk:=(List.getElem?_eq_some_iff.1 hb).1
    rw [List.length_append] at hk
    simp at hk
    rw [List.take_append_of_le_length (by omega)]
    by_cases e:k=l.length
    · subst e
      simp at hb
      subst hb
      rw [List.take_length]
      exact h2
    · rw [List.getElem?_append_left (by omega)] at hb
      exact h1 k b hb
theorem fpw_uq (e:Nat):∀ x,Uq (fpw e x).length (lg (fpw e x))
  | 0=>fun i k _ hi=>absurd hi (Nat.not_lt_zero _)
  | x+1=>by
    by_cases h:upw (UInt8.ofNat x) e ∈ fpw e x
    · rw [fpw_in h]
      exact fpw_uq e x
    · rw [fpw_new h]
      exact uq_snoc.2 ⟨fpw_uq e x,h⟩
theorem upw_mod {x:UInt8} (h:x≠0) (n:Nat):(upw x (n % 255)).toNat=(upw x n).toNat:=by
  rw [upw_nat,upw_nat,gpow_mod (u8_lt x) (u8_ne h)]
theorem upw_zero {e:Nat} (h:1≤e):upw 0 e=0:=by
  obtain ⟨d,rfl⟩:∃ d,e=d+1:=⟨e - 1,by omega⟩
  rw [upw,um_zero]
theorem rpower_any (x:UInt8) (z n:Int) (e:Nat) (w:World) (hz:(x.toNat:Int)=z) (h1:1≤n) (h2:n≤9223372036854775807) (he:e=n.toNat):Calls Tryz.prog 152 #[.int .u8 z,.int .i64 n] w fun r w'=>r=.returned (.int .u8 ((upw x e).toNat:Int))∧w=w':=by
  subst hz
  by_cases h0:x=0
  · subst h0
    have HZ:=hide (upw_zero (e:=e) (by omega))
    clear he
    go_enter Tryz.func152,Tryz.ntmps152
    go_wp2_with fail
    go_ret
    exact ⟨by rw [HZ.out]; rfl,rfl⟩
  · have t0:=ux_ne0 h0
    have t1:((x.toNat:Int) == 0)=false:=by simpa using t0
    have HM:=hide (upw_mod h0 e)
    have hm:n % 255=((e % 255:Nat):Int):=by omega
    obtain ⟨q,hq⟩:∃ q,q=e % 255:=⟨_,rfl⟩
    rw [← hq] at hm HM
    have hq2:q≤1000:=by omega
    clear h0 t0 hq he
    go_enter Tryz.func152,Tryz.ntmps152
    go_wp2_with fail
    rw [hm]
    refine (refpowU_any x q _ hq2).mono ?_
    rintro r w' ⟨rfl,rfl⟩
    go_wp2_with fail
    go_ret
    exact ⟨ret_u8 (by rw [HM.out]),rfl⟩
/-- Two rows of the call's own, each a block of its own. -/
structure Two (w:World) (l l':List UInt8) (v u:Value) (wr:World):Prop where
  out:Own wr w.heap.size 5 v l
  pow:Own wr w.heap.size 5 u l'
  apart:∀ q,v.ownBlock=some q→u.ownBlock≠some q
  kp:Kp No w wr
section
variable {w wr w1 w2:World} {l l' cs:List UInt8} {v u v1:Value} {o:Obj}
theorem Two.no (h:Two w l l' v u wr) (hk:Kp No wr w1):Two w l l' v u w1:=⟨h.out.no hk,h.pow.no hk,h.apart,h.kp.trans' hk⟩
theorem Two.symm (h:Two w l l' v u wr):Two w l' l u v wr:=⟨h.pow,h.out,fun q hq e=>h.apart q e hq,h.kp⟩
theorem Two.app1 (h:Two w l l' v u wr) (ha:App (wr.alloc o) w.heap.size 5 v l cs v1 w2):Two w (l ++ cs) l' v1 u w2:=by
  have hp:=h.pow.alloc o
  refine ⟨ha.own,hp.keep ha.kp fun q hq e=>h.apart q e hq,fun q hq hu=>?_,ha.keeps (h.out.alloc o) (h.kp.trans' (Kp.alloc No _ _))⟩
  rcases ha.at_ with e | e
  · exact h.apart q (e ▸ hq) hu
  · rw [e] at hq
    injection hq with hq
    have:=hp.lt q hu
    omega
theorem Two.app2 (h:Two w l l' v u wr) (ha:App (wr.alloc o) w.heap.size 5 u l' cs v1 w2):Two w l (l' ++ cs) v v1 w2:=(h.symm.app1 ha).symm
end
set_option maxHeartbeats 4000000 in
set_option maxRecDepth 100000 in
theorem rpoints_yes (n:Nat) (x:Int) (e N:Nat) (w:World) (h1:1≤n) (hn2:n≤256) (hx1:1≤x) (hx2:x≤9223372036854775807) (he:Hid (e=x.toNat)) (hN:Hid (N=256)) (HN:Hid (n≤(fnd e N).length)) :
    Calls Tryz.prog 139 #[.int .i64 (n:Int),.int .i64 x] w (OwnPost w ((fnd e N).take n)):=by
  obtain ⟨i0,hi0,hz0,hz1,hz2⟩:=byte_parts
  go_enter Tryz.func139,Tryz.ntmps139
  go_wp2_with fail
  go_loopw [5,6,7] (fun v u i wr=>∃ (k:Nat) (A:Option Addr) (m c:Nat) (A2:Option Addr) (m2 c2:Nat),k≤256∧i=.int .i64 (k:Int)∧v=.slice A m c∧u=.slice A2 m2 c2∧m≤n∧Two w (fnd e k) (fpw e k) (.slice A m c) (.slice A2 m2 c2) wr) (fun _ _ i _=>256 - (intOf i).toNat)
  case atStart=>exact ⟨0,none,0,0,none,0,0,Nat.zero_le _,rfl,rfl,rfl,Nat.zero_le _,Own.nil _ _ _,Own.nil _ _ _,fun q hq=>(by simp [Value.ownBlock] at hq),Kp.refl _ _⟩
  case round =>
    obtain ⟨k,A,m,c,A2,m2,c2,hk,rfl,rfl,rfl,hmn,hI⟩:=hrel
    have HM:=hide hI.out.len
    by_cases hlt:k < 256
    · by_cases hmlt:m < n
      · have hcv:=ofNat_nat hlt
        have hcm:(k:Int) % 256=(k:Int):=by omega
        have hsz:=hI.kp.size
        have hLE:=fnd_len e k
        have hLP:=fpw_len e k
        have hp0:=hI.pow
        have HUq:=hide (fpw_uq e k)
        have HU:Hid ((fnd e (k+1)).length≤(fnd e N).length):=fnd_le (by have:=hN.out; omega)
        obtain ⟨a,ha⟩:∃ a,a=UInt8.ofNat k:=⟨_,rfl⟩
        rw [← ha] at hcv
        have HA:=hide ha
        have HC:=hide hcv
        have hlp:(fpw e k).length+[upw a e].length≤1000000000:=by simp; omega
        have hlo:(fnd e k).length+[a].length≤1000000000:=by simp; omega
        have hlw:([]:List UInt8).length+(fpw e k).length≤1000000000:=by simp; omega
        clear ha hcv hLE
        go_wp2_with fail
        refine (rpower_any a _ x e _ HC.out hx1 hx2 he.out).mono ?_
        rintro r w1 ⟨rfl,rfl⟩
        clear hLP
        go_wp2_with (first
          | (at_builtin
             refine wpList_app rfl (.tmp 23) (.tmp 24) _ rfl i0 Tryz.underlying54 hi0 hz0 hz1 hz2 rfl (own_empty wr) rfl (hp0.bts.no (Kp.alloc No wr _)) (by simp; omega) (by simp) ?_
             intro A5 n5 c5 w5 ha5
             have h5:Own w5 wr.heap.size 5 (.slice A5 n5 c5) (fpw e k):=by simpa using ha5.own
             have k5:Kp No wr w5:=ha5.keeps (own_empty wr) (Kp.alloc No wr _)
             have k5s:=k5.size
             have h5a:=h5.alloc (.cells #[bv (upw a e)] 5)
             have b5:=bts_new w5 (upw a e) _ rfl)
          | (at_builtin
             refine wpList_app rfl (.tmp 25) (.tmp 27) _ rfl i0 Tryz.underlying54 hi0 hz0 hz1 hz2 rfl h5a rfl b5 hlp (by simp; omega) ?_
             intro A6 n6 c6 w6 ha6
             have k6:Kp No wr w6:=ha6.keeps h5a (k5.trans' (Kp.alloc No _ _))))
        have hb6:=ha6.own.bts
        have hl6:=ha6.own.len
        have H6:=hide hl6
        have h61:n6≤1000:=by rw [List.length_append] at hl6; have:=fpw_len e k; have:=fnd_len e k; simp at hl6; omega
        clear hl6
        by_cases hm:upw a e ∈ fpw e k
        · have HI:Hid (upw (UInt8.ofNat k) e ∈ fpw e k):=by show upw (UInt8.ofNat k) e ∈ fpw e k; rw [← HA.out]; exact hm
          have htw:=twice_yes hb6 h61 (by rw [H6.out]; exact fun h=>(uq_snoc.1 h).2 hm)
          clear hm
          refine htw.mono ?_
          rintro r w7 ⟨rfl,s7⟩
          have k7:=k6.trans' s7.kp
          go_wp2_with fail
          go_round
          case rel=>exact ⟨k+1,A,m,c,A2,m2,c2,by omega,by go_num,rfl,rfl,hmn,(by rw [fnd_in HI.out,fpw_in HI.out]; exact hI.no k7)⟩
          case measure=>simp [intOf]; omega
        · have HI:Hid (upw (UInt8.ofNat k) e ∉ fpw e k):=by show upw (UInt8.ofNat k) e ∉ fpw e k; rw [← HA.out]; exact hm
          have htw:=twice_no hb6 h61 (by rw [H6.out]; exact uq_snoc.2 ⟨HUq.out,hm⟩)
          clear hm
          refine htw.mono ?_
          rintro r w7 ⟨rfl,s7⟩
          have k7:=k6.trans' s7.kp
          have T7:=hI.no k7
          have k7s:=k7.size
          have o7:=T7.out.alloc (.cells #[.int .u8 (k:Int)] 5)
          have b7:=bts_new w7 a (.int .u8 (k:Int)) (by unfold bv; rw [HC.out])
          clear hb6 htw
          go_wp2_with (first
            | (at_builtin
               refine wpList_app rfl (.tmp 31) (.tmp 34) _ rfl i0 Tryz.underlying54 hi0 hz0 hz1 hz2 rfl o7 rfl b7 hlo (by simp; omega) ?_
               intro A8 n8 c8 w8 ha8
               have T8:=T7.app1 ha8
               have T8s:=T8.kp.size
               have o8:=T8.pow.alloc (.cells #[bv (upw a e)] 5)
               have b8:=bts_new w8 (upw a e) _ rfl)
            | (at_builtin
               refine wpList_app rfl (.tmp 36) (.tmp 38) _ rfl i0 Tryz.underlying54 hi0 hz0 hz1 hz2 rfl o8 rfl b8 hlp (by simp; omega) ?_
               intro A9 n9 c9 w9 ha9))
          have T9:=T8.app2 ha9
          have hl9:=T9.out.len
          have H9:Hid (n8≤n):=by
            show n8≤n
            rw [List.length_append] at hl9
            have:=HM.out
            simp at hl9
            omega
          clear hl9
          go_round
          case rel=>exact ⟨k+1,A8,n8,c8,A9,n9,c9,by omega,by go_num,rfl,rfl,H9.out,(by rw [fnd_new HI.out,fpw_new HI.out,← HA.out]; exact T9)⟩
          case measure=>simp [intOf]; omega
      · have HE:Hid (m=n):=by show m=n; omega
        have HT:Hid ((fnd e N).take (fnd e k).length=fnd e k):=fnd_take (by have:=hN.out; omega)
        go_wp2_with fail
        go_ret
        have h8:(fnd e N).take n=fnd e k:=by rw [← HE.out,HM.out,HT.out]
        exact ⟨A,m,c,rfl,by rw [h8]; exact hI.out,hI.kp⟩
    · have hkN:N=k:=by have:=hN.out; omega
      have HE:Hid (m=n):=by show m=n; have:=HN.out; have:=HM.out; rw [hkN] at *; omega
      have hmn2:¬ m < n:=by have:=HE.out; omega
      have HT:Hid ((fnd e N).take (fnd e k).length=fnd e k):=fnd_take (by omega)
      clear hkN
      go_wp2_with fail
      go_ret
      have h8:(fnd e N).take n=fnd e k:=by rw [← HE.out,HM.out,HT.out]
      exact ⟨A,m,c,rfl,by rw [h8]; exact hI.out,hI.kp⟩
end Go.Proofs.YtnfcfdhlmeimhaaGreat
