/- Rows of names: one set, two changed, and names put in order one by one. -/
import Derived.Test.YtnfcfdhlmeimhaaGreatSpbp
import Derived.Test.YtnfcfdhlmeimhaaGreatSpah
namespace Go.Proofs.YtnfcfdhlmeimhaaGreat
open Go.RowKit
set_option linter.unusedVariables false
set_option linter.unusedSimpArgs false
set_option maxRecDepth 20000
section
variable {w:World} {base g r c n sz k:Nat} {e:TypeId} {xs:List Value}
theorem OwnT.frozenE (h:OwnT w base e sz (.slice (some ⟨g,0,none⟩) r c) n xs) (k:Nat):w.frozen? ⟨g,k,none⟩=false:=by
 obtain ⟨cur,h1,_⟩:=h.row
 exact frozen_of_row w g k _ _ h1
/-- One cell is set. -/
theorem OwnT.setc (h:OwnT w base e sz (.slice (some ⟨g,0,none⟩) r c) n xs) (v:Value):OwnT (w.setCell ⟨g,k,none⟩ v) base e sz (.slice (some ⟨g,0,none⟩) r c) n (xs.set k v):=by
 obtain ⟨cur,h2,h1,h3,h4,h5,h6,h7⟩:=h.row
 refine ⟨by rw [List.length_set]; exact h.1,.inr ⟨g,c,cur.setIfInBounds k v,by rw [h7],h1,heap_setCell_same w g k cur _ _ h2,h3,h4,by rw [Array.size_setIfInBounds]; exact h5,?_⟩⟩
 rw [Array.toList_setIfInBounds,← h6,List.take_set]
end
/-- A name's four cells are set. -/
def set4 (w:World) (g k s:Nat):World:=(((w.setCell ⟨g,k,none⟩ (.int .u32 (cO s:Int))).setCell ⟨g,k+1,none⟩ (.int .u16 (cS s:Int))).setCell ⟨g,k+2,none⟩ (.int .u16 (cL s:Int))).setCell ⟨g,k+3,none⟩ (.int .u32 (cG s:Int))
theorem nmC_set:∀ {ns:List Nat} {j s:Nat},j < ns.length→nmC (ns.set j s)=((((nmC ns).set (j * 4) (.int .u32 (cO s:Int))).set (j * 4+1) (.int .u16 (cS s:Int))).set (j * 4+2) (.int .u16 (cL s:Int))).set (j * 4+3) (.int .u32 (cG s:Int))
 | [],j,s,h=>by simp at h
 | x :: ns,0,s,h=>rfl
 | x :: ns,j+1,s,h=>by
  have ih:=nmC_set (ns:=ns) (j:=j) (s:=s) (by simpa using h)
  have e:nmC (x :: ns)=[.int .u32 (cO x:Int),.int .u16 (cS x:Int),.int .u16 (cL x:Int),.int .u32 (cG x:Int)] ++ nmC ns:=rfl
  have e2:nmC (x :: ns.set j s)=[.int .u32 (cO x:Int),.int .u16 (cS x:Int),.int .u16 (cL x:Int),.int .u32 (cG x:Int)] ++ nmC (ns.set j s):=rfl
  have key:∀ (l:List Value) (i:Nat) (v:Value),(([.int .u32 (cO x:Int),.int .u16 (cS x:Int),.int .u16 (cL x:Int),.int .u32 (cG x:Int)]:List Value) ++ l).set ((j+1) * 4+i) v=[.int .u32 (cO x:Int),.int .u16 (cS x:Int),.int .u16 (cL x:Int),.int .u32 (cG x:Int)] ++ l.set (j * 4+i) v:=fun l i v=>by
   rw [List.set_append_right _ _ (by simp; omega)]
   congr 2
   simp
   omega
  have k0:=fun l v=>key l 0 v
  simp only [Nat.add_zero] at k0
  rw [List.set_cons_succ,e2,ih,e,k0,key,key,key]
theorem OwnT.set4 {w:World} {base g r c:Nat} {ns:List Nat} {j s:Nat} (h:OwnT w base 53 4 (.slice (some ⟨g,0,none⟩) r c) ns.length (nmC ns)) (hj:j < ns.length):OwnT (Go.Proofs.YtnfcfdhlmeimhaaGreat.set4 w g (j * 4) s) base 53 4 (.slice (some ⟨g,0,none⟩) r c) (ns.set j s).length (nmC (ns.set j s)):=by
 rw [nmC_set hj,List.length_set]
 exact (((h.setc (k:=j * 4) (.int .u32 (cO s:Int))).setc (k:=j * 4+1) (.int .u16 (cS s:Int))).setc (k:=j * 4+2) (.int .u16 (cL s:Int))).setc (k:=j * 4+3) (.int .u32 (cG s:Int))
theorem kp_set4n (w:World) (g k s:Nat):Kp (fun q=>q=g) w (set4 w g k s) :=
 (((Kp.setCell (S:=fun q=>q=g) (p:=⟨g,k,none⟩) rfl _).trans' (Kp.setCell (S:=fun q=>q=g) (p:=⟨g,k+1,none⟩) rfl _)).trans' (Kp.setCell (S:=fun q=>q=g) (p:=⟨g,k+2,none⟩) rfl _)).trans' (Kp.setCell (S:=fun q=>q=g) (p:=⟨g,k+3,none⟩) rfl _)
/-- The names behind so many rounds. -/
def srt (ns:List Nat) (i:Nat):List Nat:=lst (ns.map fun s=>(0,s)) i
theorem srt_succ {ns:List Nat} {i x:Nat} (h:ns[i]?=some x):srt ns (i+1)=insL x (srt ns i):=by
 show insL ((ns.map fun s=>(0,s)).getD i (0,0)).2 _=_
 rw [List.getD_eq_getElem?_getD,List.getElem?_map,h]
 rfl
theorem srt_len (ns:List Nat) (i:Nat):(srt ns i).length=i:=lst_len _ _
theorem srt_done {ns ms:List Nat} (h:ns.Nodup) (hs:ms.Pairwise (· < ·)) (hm:∀ x,x ∈ ms ↔ x ∈ ns):srt ns ns.length=ms:=by
 have hd:((ns.map fun s=>((0:Nat),s)).map Prod.snd)=ns:=by simp [Function.comp_def]
 have hl:(ns.map fun s=>((0:Nat),s)).length=ns.length:=by simp
 have h1:=lst_sorted (L:=ns.map fun s=>((0:Nat),s)) (by rw [hd]; exact h) ns.length (by rw [hl]; exact Nat.le_refl _)
 have h2:=lst_perm (ns.map fun s=>((0:Nat),s)) ns.length (by rw [hl]; exact Nat.le_refl _)
 rw [List.take_of_length_le (by rw [hl]; exact Nat.le_refl _),hd] at h2
 exact sorted_one h1 hs fun x=>(h2.mem_iff).trans (hm x).symm
/-- One name on its way down. -/
def mid (ns:List Nat) (i x j:Nat):List Nat:=(srt ns i).take j ++ [x] ++ (srt ns i).drop j ++ ns.drop (i+1)
theorem mid_len {ns:List Nat} {i x j:Nat} (hi:i < ns.length) (hj:j≤i):(mid ns i x j).length=ns.length:=by
 have:=srt_len ns i
 unfold mid
 simp only [List.length_append,List.length_take,List.length_drop,List.length_cons,List.length_nil]
 omega
theorem mid_start {ns:List Nat} {i x:Nat} (h:ns[i]?=some x):mid ns i x i=srt ns i ++ ns.drop i:=by
 have hl:=srt_len ns i
 obtain ⟨hi,e⟩:=List.getElem?_eq_some_iff.1 h
 unfold mid
 rw [List.take_of_length_le (by omega),List.drop_eq_nil_of_le (by omega),List.append_nil,List.append_assoc,List.singleton_append,← e,List.getElem_cons_drop]
theorem mid_end {ns:List Nat} {i x j:Nat} (h:ns[i]?=some x) (hj:dwn x (srt ns i) i=j):mid ns i x j=srt ns (i+1) ++ ns.drop (i+1):=by
 rw [srt_succ h]
 unfold mid insL
 rw [srt_len,hj]
theorem mid_at {ns:List Nat} {i x j:Nat} (hi:i < ns.length) (hj:j≤i):(mid ns i x j)[j]?=some x:=by
 have hl:=srt_len ns i
 unfold mid
 rw [List.append_assoc,List.append_assoc,List.getElem?_append_right (by rw [List.length_take]; omega),List.length_take,show j - min j (srt ns i).length=0 by omega]
 rfl
theorem mid_below {ns:List Nat} {i x j y:Nat} (hj:j+1≤i) (hy:(srt ns i)[j]?=some y):(mid ns i x (j+1))[j]?=some y:=by
 have hl:=srt_len ns i
 unfold mid
 rw [List.append_assoc,List.append_assoc,List.getElem?_append_left (by rw [List.length_take]; omega),List.getElem?_take,if_pos (by omega)]
 exact hy
theorem mid_swap {ns:List Nat} {i x j y:Nat} (hj:j+1≤i) (hy:(srt ns i)[j]?=some y):((mid ns i x (j+1)).set (j+1) y).set j x=mid ns i x j:=by
 have hl:=srt_len ns i
 have e1:(srt ns i).take (j+1)=(srt ns i).take j ++ [y]:=by rw [List.take_add_one,hy]; rfl
 have e2:(srt ns i).drop j=y :: (srt ns i).drop (j+1):=by
  obtain ⟨h1,h2⟩:=List.getElem?_eq_some_iff.1 hy
  rw [← h2,List.getElem_cons_drop]
 have ht:((srt ns i).take j).length=j:=by rw [List.length_take]; omega
 unfold mid
 rw [e1,e2]
 generalize (srt ns i).take j=a at ht
 generalize (srt ns i).drop (j+1)=b
 generalize ns.drop (i+1)=d
 have e3:a ++ [y] ++ [x] ++ b ++ d=a ++ ([y,x] ++ (b ++ d)):=by simp
 have e4:a ++ [x] ++ y :: b ++ d=a ++ ([x,y] ++ (b ++ d)):=by simp
 rw [e3,e4,List.set_append_right _ _ (by omega),List.set_append_right _ _ (by omega),ht,show j+1 - j=1 by omega,Nat.sub_self]
 rfl
end Go.Proofs.YtnfcfdhlmeimhaaGreat
