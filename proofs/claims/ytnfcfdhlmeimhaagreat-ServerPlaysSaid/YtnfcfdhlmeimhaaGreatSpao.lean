/- Package msr's New, N, K, Helpers, Parts, Symbols, has and Row, each as a contract over memory; The document's Right and Rows, and law06's small and awake, each as a contract over memory; Package heal's exists, fits, elementsAt, Fragment and Cost, each as a contract over memory; Law 7's small and awake, and the document's Fragment, each as a contract over memory. -/
import Derived.Test.YtnfcfdhlmeimhaaGreatSpan
import Derived.Test.YtnfcfdhlmeimhaaGreatSpac
import Derived.Test.YtnfcfdhlmeimhaaGreatSpab
import Derived.Test.YtnfcfdhlmeimhaaGreatSpaa
namespace Go.Proofs.YtnfcfdhlmeimhaaGreat
open Go.RowKit
set_option linter.unusedVariables false
set_option maxRecDepth 20000
theorem kpt2 {W w1:World} {p q:Addr} {x0 x1:Value} (hk:Kp No W w1) (h:W.cell? p=some x0∧W.cell? q=some x1):w1.cell? p=some x0∧w1.cell? q=some x1:=⟨hk.cell h.1 fun f=>f,hk.cell h.2 fun f=>f⟩
/-- A code's numbers: n shards, k suffice, a parts, d helpers, q symbols. -/
structure Dim (n k a d q:Nat):Prop where
  k_:k=a+1
  d_:d=a+a
  q_:q=(a+1) * a
  a1:1≤a
  a7:a≤7
  n1:d < n
  n2:n≤24
theorem dim_of {n k:Nat} (h1:2≤k) (h2:k≤8) (h3:2 * k≤n+1) (h4:n≤24):∃ a d q,Dim n k a d q :=
  ⟨k - 1,k - 1+(k - 1),(k - 1+1) * (k - 1),by omega,rfl,rfl,by omega,by omega,by omega,h4⟩
/-- The powers that were found, each reckoned once. -/
def fqs (e:Nat) (l:List UInt8) (x:Nat):List UInt8:=if upw (UInt8.ofNat x) e ∈ l then l else l ++ [upw (UInt8.ofNat x) e]
theorem fpw_fold (e:Nat):∀ x,fpw e x=(List.range x).foldl (fqs e) []
  | 0=>rfl
  | x+1=>by
    rw [List.range_succ,List.foldl_append,← fpw_fold e x]
    show fpw e (x+1)=fqs e (fpw e x) x
    unfold fqs
    by_cases h:upw (UInt8.ofNat x) e ∈ fpw e x
    · rw [fpw_in h,if_pos h]
    · rw [fpw_new h,if_neg h]
theorem enough:∀ e,e < 8→0 < e→24≤((List.range 60).foldl (fqs e) []).length:=by decide +kernel
theorem fnd_enough {a:Nat} (h1:1≤a) (h7:a≤7):24≤(fnd a 256).length:=by
  have h:=enough a (by omega) (by omega)
  rw [← fpw_fold,fpw_len] at h
  exact Nat.le_trans h (fnd_le (by omega))
/-- The points of the slots: the first ones whose powers are unlike. -/
structure Pts (n a:Nat) (x:Nat→UInt8):Prop where
  eq:∃ N,N=256∧n≤(fnd a N).length∧(fnd a N).take n=rowL n x
  uq:Uq n fun i=>upw (x i) a
theorem lg_take {l:List UInt8} {n i:Nat} (h:i < n):lg (l.take n) i=lg l i:=by
  unfold lg
  rw [List.getD_eq_getElem?_getD,List.getD_eq_getElem?_getD,List.getElem?_take,if_pos h]
theorem pts_ex {n a:Nat} (h1:1≤a) (h7:a≤7) (hn:n≤24):∃ x,Pts n a x:=by
  have he:=fnd_enough h1 h7
  have hu:=fpw_uq a 256
  rw [fpw_len] at hu
  refine ⟨lg ((fnd a 256).take n),⟨256,rfl,by omega,?_⟩,fun i j hj hi=>?_⟩
  · have h:=rowL_lg ((fnd a 256).take n)
    rw [List.length_take,Nat.min_eq_left (by omega)] at h
    exact h.symm
  · have key:∀ m,m < n→upw (lg ((fnd a 256).take n) m) a=lg (fpw a 256) m:=fun m hm=>by
      rw [lg_take hm]
      have hl:m < (fnd a 256).length:=by omega
      have hl2:m < (fpw a 256).length:=by rw [fpw_len]; exact hl
      rw [lg_of (List.getElem?_eq_getElem hl),lg_of (List.getElem?_eq_getElem hl2)]
      simp [fpw]
    show upw (lg ((fnd a 256).take n) i) a≠upw (lg ((fnd a 256).take n) j) a
    rw [key i hi,key j (by omega)]
    exact hu i j hj (by omega)
/-- A code in memory. -/
structure CodeAt (w:World) (g n k:Nat) (x:Nat→UInt8):Prop where
  head:∃ A cp,w.heap[g]?=some (.cells #[.int .i64 (k:Int),.slice A n cp] 89 (0,0))∧Bts w (.slice A n cp) (rowL n x)
section
variable {w w1:World} {g n k a d q:Nat} {x:Nat→UInt8}
theorem CodeAt.no (h:CodeAt w g n k x) (hk:Kp No w w1):CodeAt w1 g n k x:=by
  obtain ⟨A,cp,h1,h2⟩:=h.head
  exact ⟨A,cp,by rw [hk.block g (Array.getElem?_eq_some_iff.1 h1).1 fun f=>f]; exact h1,h2.no hk⟩
theorem CodeAt.c0 (h:CodeAt w g n k x):w.cell? ⟨g,0,none⟩=some (.int .i64 (k:Int)):=by
  obtain ⟨A,cp,h1,h2⟩:=h.head
  rw [cell_of_row w g _ _ _ _ h1]
  rfl
theorem CodeAt.c1 (h:CodeAt w g n k x):∃ A cp,w.cell? ⟨g,1,none⟩=some (.slice A n cp)∧Bts w (.slice A n cp) (rowL n x):=by
  obtain ⟨A,cp,h1,h2⟩:=h.head
  refine ⟨A,cp,?_,h2⟩
  rw [cell_of_row w g _ _ _ _ h1]
  rfl
abbrev cptr (g:Nat):Value:=.pointer (some ⟨g,0,none⟩)
theorem kk_any (h:CodeAt w g n k x):Calls Tryz.prog 166 #[cptr g] w fun e w'=>e=.returned (.int .i64 (k:Int))∧w=w':=by
  have c:=h.c0
  go_enter Tryz.func166,Tryz.ntmps166
  go_wp2_with fail
  go_ret
  exact ⟨rfl,rfl⟩
theorem nn_any (h:CodeAt w g n k x):Calls Tryz.prog 162 #[cptr g] w fun e w'=>e=.returned (.int .i64 (n:Int))∧w=w':=by
  obtain ⟨A,cp,c,_⟩:=h.c1
  go_enter Tryz.func162,Tryz.ntmps162
  go_wp2_with fail
  go_ret
  exact ⟨rfl,rfl⟩
theorem aa_any (h:CodeAt w g n k x) (hD:Dim n k a d q):Calls Tryz.prog 158 #[cptr g] w fun e w'=>e=.returned (.int .i64 (a:Int))∧w=w':=by
  have hk:=hD.k_
  have ha:=hD.a7
  have h1:1≤k:=by omega
  have h2:k≤8:=by omega
  have HK:=hide hk
  clear hk hD
  go_enter Tryz.func158,Tryz.ntmps158
  go_wp2_with fail
  refine (kk_any h).mono ?_
  rintro e w' ⟨rfl,rfl⟩
  go_wp2_with fail
  go_ret
  exact ⟨ret_i64 (by have:=HK.out; omega),rfl⟩
theorem dd_any (h:CodeAt w g n k x) (hD:Dim n k a d q):Calls Tryz.prog 165 #[cptr g] w fun e w'=>e=.returned (.int .i64 (d:Int))∧w=w':=by
  have HD:=hide hD.d_
  have ha:=hD.a7
  have hc:=aa_any h hD
  clear hD
  go_enter Tryz.func165,Tryz.ntmps165
  go_wp2_with fail
  refine hc.mono ?_
  rintro e w' ⟨rfl,rfl⟩
  go_wp2_with fail
  go_ret
  exact ⟨ret_i64 (by have:=HD.out; omega),rfl⟩
theorem has_yes (h:CodeAt w g n k x) (i:Nat) (hi:i < n):Calls Tryz.prog 163 #[cptr g,.int .i64 (i:Int)] w fun e w'=>e=.returned (.bool true)∧w=w':=by
  go_enter Tryz.func163,Tryz.ntmps163
  go_wp2_with fail
  refine (nn_any h).mono ?_
  rintro e w' ⟨rfl,rfl⟩
  go_wp2_with fail
  go_ret
  exact ⟨rfl,rfl⟩
set_option maxHeartbeats 1000000 in
theorem rowo_in (h:CodeAt w g n k x) (hD:Dim n k a d q) (i:Nat) (hi:i < n):Calls Tryz.prog 157 #[cptr g,.int .i64 (i:Int)] w (OwnPost w (rowL d (upw (x i)))):=by
  obtain ⟨A,cp,hc,hb⟩:=h.c1
  obtain ⟨B,off,rfl,hcell⟩:=hb.cell hi
  have hd1:1≤d:=by have:=hD.a1; have:=hD.d_; omega
  have hd2:d≤1000:=by have:=hD.a7; have:=hD.d_; omega
  go_enter Tryz.func157,Tryz.ntmps157
  go_wp2_with fail
  refine (has_yes h i hi).mono ?_
  rintro e w' ⟨rfl,rfl⟩
  go_wp2_with fail
  have hdd:=dd_any (h.no (Sm.drew w).kp) hD
  have hvr:=vrow_any (x i) d w.drew hd1 hd2
  go_region_held3 (fun w'=>w'.cell? ⟨g,1,none⟩=some (.slice (some ⟨B,off,none⟩) n cp)∧w'.cell? ⟨B,off+i,none⟩=some (.int .u8 ((x i).toNat:Int))) (first | assumption | exact ⟨hc,hcell⟩ | go_keep)
    (first | (go_at_call 165; ((with_reducible refine hdd.mono ?_); rintro e w' ⟨rfl,rfl⟩)) | (go_at_call 164; ((with_reducible refine hvr.mono ?_); rintro e w2 ⟨A1,n1,c1,rfl,ho,hk⟩); have s1:=kpt2 hk ⟨hc,hcell⟩))
  go_wp2_with fail
  go_ret
  exact ⟨A1,n1,c1,rfl,ho,(Sm.drew w).kp.trans' hk⟩
/-- A code comes back. -/
def CodePost (w:World) (n k:Nat) (x:Nat→UInt8) (e:Ending) (w1:World):Prop :=
  ∃ g,e=.returned (.tuple #[cptr g,.int .i64 0])∧CodeAt w1 g n k x∧Kp No w w1
set_option maxHeartbeats 1000000 in
theorem mnew_yes (w:World) (hD:Dim n k a d q) (hP:Pts n a x):Calls Tryz.prog 8 #[.int .i64 (n:Int),.int .i64 (k:Int)] w (CodePost w n k x):=by
  have hk:=hD.k_
  have hd:=hD.d_
  have ha1:=hD.a1
  have ha7:=hD.a7
  have hn1:=hD.n1
  have hn2:=hD.n2
  have h2:2≤k:=by omega
  have h8:k≤8:=by omega
  have h3:2 * (k:Int) - 1≤n:=by omega
  have hz:(a:Nat)=((k:Int) - 1).toNat:=by omega
  obtain ⟨N,hN,hN2,hN3⟩:=hP.eq
  have hp:=points_yes n ((k:Int) - 1) a N w (by omega) (by omega) (by omega) hz hN hN2
  rw [hN3] at hp
  have HP:=hide hp
  clear hk hd hN hN2 hN3 hz hp hD hP
  go_enter Tryz.func8,Tryz.ntmps8
  go_wp2_with fail
  refine HP.out.mono ?_
  rintro e w1 ⟨A,m,c,rfl,ho,hkp⟩
  have hm:m=n:=by rw [ho.len,rowL_len]
  subst hm
  go_wp2_with fail
  go_ret2
  refine ⟨w1.heap.size,rfl,⟨A,c,heap_alloc_new w1 _,ho.bts.no (Kp.alloc No _ _)⟩,hkp.trans' (Kp.alloc No _ _)⟩
end
end Go.Proofs.YtnfcfdhlmeimhaaGreat
namespace Go.Proofs.YtnfcfdhlmeimhaaGreat
open Go.RowKit
set_option linter.unusedVariables false
set_option maxRecDepth 20000
/-- There is such a code. -/
def Rgt (n k:Int):Prop:=2≤k∧k≤8∧2 * k≤n+1∧n≤24
theorem rright_yes (n k:Int) (w:World) (h:Rgt n k):Calls Tryz.prog 6 #[.int .i64 n,.int .i64 k] w fun e w'=>e=.returned (.bool true)∧w=w':=by
  obtain ⟨h1,h2,h3,h4⟩:=h
  have h5:2 * k - 1≤n:=by omega
  clear h3
  go_enter Tryz.func6,Tryz.ntmps6
  go_wp2_with fail
  go_ret
  exact ⟨rfl,rfl⟩
theorem rright_no (n k:Int) (w:World) (h:¬ Rgt n k):Calls Tryz.prog 6 #[.int .i64 n,.int .i64 k] w fun e w'=>e=.returned (.bool false)∧w=w':=by
  unfold Rgt at h
  by_cases h3:k < 2
  · clear h
    go_enter Tryz.func6,Tryz.ntmps6
    go_wp2_with fail
    go_ret
    exact ⟨rfl,rfl⟩
  have h3:2≤k:=by omega
  by_cases h4:8 < k
  · clear h
    go_enter Tryz.func6,Tryz.ntmps6
    go_wp2_with fail
    go_ret
    exact ⟨rfl,rfl⟩
  have h4:k≤8:=by omega
  by_cases h5:n < 2 * k - 1
  · clear h
    go_enter Tryz.func6,Tryz.ntmps6
    go_wp2_with fail
    go_ret
    exact ⟨rfl,rfl⟩
  have h5:2 * k - 1≤n:=by omega
  have h6:24 < n:=by omega
  clear h
  go_enter Tryz.func6,Tryz.ntmps6
  go_wp2_with fail
  go_ret
  exact ⟨ret_b (decide_eq_false (by omega)),rfl⟩
set_option maxHeartbeats 1000000 in
theorem rrows_any (w:World) {n k a d q:Nat} {x:Nat→UInt8} (hD:Dim n k a d q) (hP:Pts n a x):Calls Tryz.prog 115 #[.int .i64 (n:Int),.int .i64 (k:Int)] w (RowsPost w n (matL n d (vF x))):=by
  have hk:=hD.k_
  have hd:=hD.d_
  have ha1:=hD.a1
  have ha7:=hD.a7
  have hn1:=hD.n1
  have hn2:=hD.n2
  have h8:k≤8:=by omega
  have h1:1≤k:=by omega
  have hz:(a:Nat)=((k:Int) - 1).toNat:=by omega
  have h2k:2 * (k:Int) - 2=(d:Int):=by omega
  have hd1000:d≤1000:=by omega
  obtain ⟨N,hN,hN2,hN3⟩:=hP.eq
  have hp:=rpoints_yes n ((k:Int) - 1) a N w (by omega) (by omega) (by omega) (by omega) hz hN hN2
  rw [hN3] at hp
  have HP:=hide hp
  have H2:=hide h2k
  clear hk hd hN hN2 hN3 hz hp hD hP h2k
  go_enter Tryz.func115,Tryz.ntmps115
  go_wp2_with fail
  refine HP.out.mono ?_
  rintro e w1 ⟨A0,m,c0,rfl,ho,hkp⟩
  have hm:m=n:=by rw [ho.len,rowL_len]
  subst hm
  have hbt:=ho.bts
  clear ho
  go_wp2_with fail
  go_loopw [6,7] (fun v i wr=>∃ (j:Nat) (A:Option Addr) (r cp:Nat) (vs:List Value),j≤m∧i=.int .i64 (j:Int)∧v=.slice A r cp∧RInv w1 (fun i=>rowL d (vF x i)) j (.slice A r cp) vs wr) (fun _ i _=>m - (intOf i).toNat)
  case atStart=>exact ⟨0,none,0,0,[],Nat.zero_le _,rfl,rfl,OwnV.nil _ _,rfl,(fun j u hj=>by simp at hj),Kp.refl _ _⟩
  case round =>
    obtain ⟨j,A,r,cp,vs,hj,rfl,rfl,hI⟩:=hrel
    by_cases hlt:j < m
    · obtain ⟨B,off,rfl,c1⟩:=(hbt.no hI.kp).cell hlt
      have h2k:=H2.out
      go_wp2_with fail
      clear h2k
      refine (rrow_any (x j) d _ hd1000).mono ?_
      rintro e w2 ⟨A1,n1,cc1,rfl,ho1,hk1⟩
      have hkw:=hI.kp.size
      have hk1s:=hk1.size
      have hlen:vs.length≤1000000:=by rw [hI.len]; omega
      have ho2:OwnV (w2.alloc (.cells #[.slice A1 n1 cc1] 54)) w1.heap.size (.slice A r cp) vs:=(hI.own.no hk1).no (Kp.alloc No _ _)
      go_wp2_with (first
        | (at_builtin
           refine wpList_appV rfl (.tmp 18) (.tmp 27) _ rfl Tryz.underlying36 rfl ho2 _ rfl (fresh_cell _ _ _) rfl rfl hlen ?hs ?_
           case hs=>simp; omega
           intro A3 n3 c3 w3 ha))
      go_round
      case rel=>exact ⟨j+1,A3,n3,c3,_,by omega,by go_num,rfl,hI.step hk1 ho1 hkw ha⟩
      case measure=>simp [intOf]; omega
    · have hjm:j=m:=by omega
      subst hjm
      have hn:r=j:=by rw [hI.own.len,hI.len]
      subst hn
      go_wp2_with fail
      go_ret
      exact ⟨A,cp,rfl,hI.rws (matL_len _ _ _) fun i hi=>matL_get _ hi,hkp.trans' hI.kp⟩
end Go.Proofs.YtnfcfdhlmeimhaaGreat
namespace Go.Proofs.YtnfcfdhlmeimhaaGreat
open Go.RowKit
set_option linter.unusedVariables false
set_option linter.unusedSimpArgs false
set_option maxRecDepth 100000
section
variable {w:World} {g n k a d q:Nat} {x:Nat→UInt8}
theorem ex_yes (h:CodeAt w g n k x) (i:Nat) (hi:i < n):Calls Tryz.prog 155 #[cptr g,.int .i64 (i:Int)] w fun e w'=>e=.returned (.bool true)∧w=w':=by
  go_enter Tryz.func155,Tryz.ntmps155
  go_wp2_with fail
  refine (nn_any h).mono ?_
  rintro e w' ⟨rfl,rfl⟩
  go_wp2_with fail
  go_ret
  exact ⟨rfl,rfl⟩
theorem ex_no (h:CodeAt w g n k x) (i:Int) (hi:i < 0∨(n:Int)≤i):Calls Tryz.prog 155 #[cptr g,.int .i64 i] w fun e w'=>e=.returned (.bool false)∧w=w':=by
  rcases Int.lt_or_le i 0 with h0 | h0
  · clear hi
    go_enter Tryz.func155,Tryz.ntmps155
    go_wp2_with fail
    go_ret
    exact ⟨rfl,rfl⟩
  · have hi:(n:Int)≤i:=by omega
    go_enter Tryz.func155,Tryz.ntmps155
    go_wp2_with fail
    refine (nn_any h).mono ?_
    rintro e w' ⟨rfl,rfl⟩
    go_wp2_with fail
    go_ret
    exact ⟨ret_b (decide_eq_false (by omega)),rfl⟩
theorem fh_yes (h:CodeAt w g n k x) (hD:Dim n k a d q) {m:Nat} (hm:1≤m) (hr:m % a=0):Calls Tryz.prog 156 #[cptr g,.int .i64 (m:Int)] w fun e w'=>e=.returned (.bool true)∧w=w':=by
  have hc:=aa_any h hD
  have ha1:=hD.a1
  have ha7:=hD.a7
  have hr1:(m:Int) % (a:Int)=0:=by rw [← Int.natCast_emod,hr]; rfl
  have hr2:(m:Int).tmod (a:Int)=0:=by rw [Int.tmod_eq_emod_of_nonneg (by omega),hr1]
  clear hD hr
  go_enter Tryz.func156,Tryz.ntmps156
  go_wp2_with fail
  refine hc.mono ?_
  rintro e w' ⟨rfl,rfl⟩
  go_wp2_with fail
  refine hc.mono ?_
  rintro e w' ⟨rfl,rfl⟩
  go_wp2_with fail
  go_ret
  exact ⟨rfl,rfl⟩
theorem fh_no (h:CodeAt w g n k x) (hD:Dim n k a d q) {m:Nat} (hm:m=0∨m % a≠0):Calls Tryz.prog 156 #[cptr g,.int .i64 (m:Int)] w fun e w'=>e=.returned (.bool false)∧w=w':=by
  have hc:=aa_any h hD
  have ha1:=hD.a1
  have ha7:=hD.a7
  by_cases h0:m=0
  · subst h0
    clear hm hD
    go_enter Tryz.func156,Tryz.ntmps156
    go_wp2_with fail
    go_ret
    exact ⟨rfl,rfl⟩
  · have h1:1≤m:=by omega
    obtain ⟨rr,hrr⟩:∃ rr,rr=m % a:=⟨_,rfl⟩
    have hr1:(m:Int) % (a:Int)=(rr:Int):=by rw [hrr,Int.natCast_emod]
    have hr2:(m:Int).tmod (a:Int)=(rr:Int):=by rw [Int.tmod_eq_emod_of_nonneg (by omega),hr1]
    have hr0:((rr:Int) == 0)=false:=by simp; omega
    clear hm hD h0 hrr
    go_enter Tryz.func156,Tryz.ntmps156
    go_wp2_with fail
    refine hc.mono ?_
    rintro e w' ⟨rfl,rfl⟩
    go_wp2_with fail
    refine hc.mono ?_
    rintro e w' ⟨rfl,rfl⟩
    go_wp2_with fail
    go_ret
    exact ⟨rfl,rfl⟩
end
set_option maxHeartbeats 1000000 in
theorem hel_any {w:World} {A:Option Addr} {m cp a L i:Nat} {bs:List UInt8} (hb:Bts w (.slice A m cp) bs) (hm:m=a * L) (ha:a≤1000) (hi:i < L) (hmb:m≤100000) (hL:L≤100000) :
    Calls Tryz.prog 160 #[.slice A m cp,.int .i64 (L:Int),.int .i64 (i:Int)] w (OwnPost w (rowL a fun t=>lg bs (t * L+i))):=by
  obtain ⟨i0,hi0,hz0,hz1,hz2⟩:=byte_parts
  have HM:=hide hm
  clear hm
  go_enter Tryz.func160,Tryz.ntmps160
  go_wp2_with fail
  go_loopw [7,8] (fun v iv wr=>∃ (t I:Nat) (A':Option Addr) (r cc:Nat),t≤a∧I≤1000000∧Hid (I=t * L+i)∧iv=.int .i64 (I:Int)∧v=.slice A' r cc∧Own wr w.heap.size 5 (.slice A' r cc) (rowL t fun t=>lg bs (t * L+i))∧Kp No w wr) (fun _ iv _=>2000000 - (intOf iv).toNat)
  case atStart=>exact ⟨0,i,none,0,0,Nat.zero_le _,by omega,(by simp:i=0 * L+i),rfl,rfl,Own.nil _ _ _,Kp.refl _ _⟩
  case round =>
    obtain ⟨t,I,A',r,cc,ht,hI1,hI,rfl,rfl,ho,hkw⟩:=hrel
    by_cases hltt:t < a
    · have hIr:I < m:=by rw [hI.out,HM.out]; exact idx_lt hltt hi
      obtain ⟨B1,o1,u,rfl,hu,x2⟩:=(hb.no hkw).at_ hIr
      have hval:Hid (u=lg bs (t * L+i)):=by show u=lg bs (t * L+i); rw [← hI.out,lg_of hu]
      clear hu
      have hsz:=hkw.size
      have hbn:=bts_new wr u _ rfl
      have ho2:=ho.alloc (.cells #[bv u] 5)
      have hln:(rowL t fun t=>lg bs (t * L+i)).length+[u].length≤1000000000:=by rw [rowL_len]; simp; omega
      have hI2:I+L≤1000000:=by omega
      go_wp2_with (first
        | (at_builtin
           refine wpList_app rfl (.tmp 17) (.tmp 22) _ rfl i0 Tryz.underlying54 hi0 hz0 hz1 hz2 rfl ho2 rfl hbn hln (by simp; omega) ?_
           intro A3 n3 c3 w3 ha3))
      go_round
      case rel =>
        refine ⟨t+1,I+L,A3,n3,c3,by omega,hI2,(by have:=hI.out; rw [Nat.add_mul,Nat.one_mul]; omega:I+L=(t+1) * L+i),by go_num,rfl,?_,ha3.keeps ho2 (hkw.trans' (Kp.alloc No _ _))⟩
        rw [rowL_succ,← hval.out]
        exact ha3.own
      case measure=>simp [intOf]; omega
    · obtain rfl:t=a:=by omega
      have hIr:m≤I:=by rw [hI.out,HM.out]; omega
      go_wp2_with fail
      go_ret
      exact ⟨A',r,cc,rfl,ho,hkw⟩
/-- What a helper sends. -/
def frE (a L:Nat) (bs:List UInt8) (y:UInt8) (t:Nat):UInt8:=ud (upw y) (fun j=>lg bs (j * L+t)) a
theorem Own.first {w:World} {b n c:Nat} {A:Option Addr} {f:Nat→UInt8} {d:Nat} (h:Own w b 5 (.slice A n c) (rowL d f)) (hd:0 < d):∃ g,A=some ⟨g,0,none⟩∧d≤c∧∀ a,a≤d→Bts w (.slice (some ⟨g,0,none⟩) a c) (rowL a f):=by
  have hn:n=d:=by rw [h.len,rowL_len]
  subst hn
  obtain ⟨B,off,u,rfl,_,_⟩:=h.bts.at_ hd
  have h1:=h.2
  rcases h1 with ⟨e,_⟩ | ⟨g,cap,cur,e,_⟩
  · cases e
  · injection e with e1 _ _
    injection e1 with e1
    injection e1 with e1 e2 _
    subst e1 e2
    obtain ⟨cur,_,_,hc,_⟩:=Own.block h
    refine ⟨B,rfl,hc,fun a ha=>⟨_,c,by rw [rowL_len],(fun h=>by cases h),fun ad hx j u hu=>?_⟩⟩
    injection hx with hx
    subst hx
    have hj:j < a:=by have:=(List.getElem?_eq_some_iff.1 hu).1; rwa [rowL_len] at this
    rw [rowL_get _ hj] at hu
    injection hu with hu
    subst hu
    obtain ⟨B',o',u',e',hu',hcell⟩:=h.bts.at_ (show j < n by omega)
    injection e' with e'
    injection e' with e1 e2 _
    subst e1 e2
    rw [rowL_get _ (by omega)] at hu'
    injection hu' with hu'
    subst hu'
    rw [add_none]
    exact hcell
/-- Bytes come back, and no error. -/
def BokPost (w:World) (bs:List UInt8) (e:Ending) (w1:World):Prop:=∃ A n c,e=.returned (.tuple #[.slice A n c,.int .i64 0])∧Own w1 w.heap.size 5 (.slice A n c) bs∧Kp No w w1
section
variable {w:World} {g n k a d q m cp:Nat} {x:Nat→UInt8} {A:Option Addr} {bs:List UInt8}
theorem frag_out (h:CodeAt w g n k x) (i:Int) (hi:i < 0∨(n:Int)≤i):Calls Tryz.prog 144 #[cptr g,.int .i64 i,.slice A m cp] w fun e w'=>e=.returned (.tuple #[.slice none 0 0,.int .i64 1])∧w=w':=by
  have hx:=ex_no h i hi
  clear hi
  go_enter Tryz.func144,Tryz.ntmps144
  go_wp2_with fail
  refine hx.mono ?_
  rintro e w' ⟨rfl,rfl⟩
  go_wp2_with fail
  go_ret2
  exact ⟨rfl,rfl⟩
theorem frag_no (h:CodeAt w g n k x) (hD:Dim n k a d q) (i:Nat) (hi:i < n) (hm:m=0∨m % a≠0):Calls Tryz.prog 144 #[cptr g,.int .i64 (i:Int),.slice A m cp] w fun e w'=>e=.returned (.tuple #[.slice none 0 0,.int .i64 1])∧w=w':=by
  have hx:=ex_yes h i hi
  have hf:=fh_no h hD hm
  clear hm hD hi
  go_enter Tryz.func144,Tryz.ntmps144
  go_wp2_with fail
  refine hx.mono ?_
  rintro e w' ⟨rfl,rfl⟩
  go_wp2_with fail
  refine hf.mono ?_
  rintro e w' ⟨rfl,rfl⟩
  go_wp2_with fail
  go_ret2
  exact ⟨rfl,rfl⟩
set_option maxHeartbeats 2000000 in
theorem frag_yes {L:Nat} (h:CodeAt w g n k x) (hD:Dim n k a d q) (i:Nat) (hi:i < n) (hb:Bts w (.slice A m cp) bs) (hm:m=a * L) (hL1:1≤L) (hmb:m≤1000):Calls Tryz.prog 144 #[cptr g,.int .i64 (i:Int),.slice A m cp] w (BokPost w (rowL L (frE a L bs (x i)))):=by
  have ha1:=hD.a1
  have ha7:=hD.a7
  have hm1:1≤m:=by rw [hm]; have:=Nat.mul_le_mul ha1 hL1; omega
  have hLm:L≤m:=by rw [hm]; have:=Nat.mul_le_mul_right L ha1; omega
  have hx:=ex_yes h i hi
  have hf:=fh_yes h hD hm1 (by rw [hm,Nat.mul_mod_right])
  have hrow:=rowo_in h hD i hi
  have HA:=hide (fun w' (hk:Kp No w w')=>aa_any (h.no hk) hD)
  have hd1:Hid (0 < d):=by show 0 < d; have:=hD.d_; omega
  have had:Hid (a≤d):=by show a≤d; have:=hD.d_; omega
  have HD1:Hid ((m:Int) / (a:Int)=(L:Int)):=by show (m:Int) / (a:Int)=(L:Int); rw [hm,Int.natCast_mul,Int.mul_ediv_cancel_left _ (by omega)]
  have HD2:Hid ((m:Int).tdiv (a:Int)=(L:Int)):=by show (m:Int).tdiv (a:Int)=(L:Int); rw [Int.tdiv_eq_ediv_of_nonneg (by omega),HD1.out]
  have HM:=hide hm
  clear hm hi hD
  go_enter Tryz.func144,Tryz.ntmps144
  go_wp2_with fail
  refine hx.mono ?_
  rintro e w' ⟨rfl,rfl⟩
  go_wp2_with fail
  refine hf.mono ?_
  rintro e w' ⟨rfl,rfl⟩
  go_wp2_with fail
  refine hrow.mono ?_
  rintro e w1 ⟨A5,n5,c5,rfl,ho5,hk5⟩
  obtain rfl:d=n5:=by rw [ho5.len,rowL_len]
  obtain ⟨g5,rfl,hc5,hfst⟩:=ho5.first hd1.out
  have hbh:=hfst a had.out
  have hac:a≤c5:=Nat.le_trans had.out hc5
  have had':=had.out
  have HK5:=hide hk5
  clear hx hf hrow hfst ho5 hk5
  go_wp2_with fail
  refine (HA.out w1 HK5.out).mono ?_
  rintro e w' ⟨rfl,rfl⟩
  have hd1:=HD1.out
  have hd2:=HD2.out
  have hmk:=make_bytes w1 L (L:Int) rfl (by omega)
  have hst:=row_new w1 L (by omega)
  have hk0:Kp No w1 (w1.alloc (.cells (zc L) 5)):=Kp.alloc No _ _
  obtain ⟨gb,hgb⟩:∃ gb,gb=w1.heap.size:=⟨_,rfl⟩
  go_wp2_with fail
  refine (HA.out w1 HK5.out).mono ?_
  rintro e w' ⟨rfl,rfl⟩
  go_wp2_with fail
  rw [← hgb] at hst ⊢
  have HG:=hide hgb
  clear hgb hmk hd1 hd2
  go_loopw [36] (fun iv wr=>∃ t:Nat,t≤L∧iv=.int .i64 (t:Int)∧RowAt wr gb gb L L (upS (frE a L bs (x i)) (fun _=>0) t)∧Kp No w1 wr) (fun iv _=>L - (intOf iv).toNat)
  case atStart=>exact ⟨0,Nat.zero_le _,rfl,hst.eq fun k _=>by simp [upS],hk0⟩
  case round =>
    clear hst hk0
    obtain ⟨t,ht,rfl,hR,hkw⟩:=hrel
    by_cases hlt:t < L
    · have hel:=hel_any (hb.no (HK5.out.trans' hkw)) HM.out (by omega) hlt (by omega) (by omega)
      go_wp2_with fail
      refine hel.mono ?_
      rintro e w2 ⟨A6,n6,c6,rfl,ho6,hk6⟩
      have hkw2:=hkw.trans' hk6
      have hdot:=dot_any (hbh.no hkw2) ho6.bts a (by rw [rowL_len,rowL_len]; omega) (by rw [rowL_len]; omega) (by rw [rowL_len]; omega)
      have HVal:Hid (ud (lg (rowL a (upw (x i)))) (lg (rowL a fun j=>lg bs (j * L+t))) a=frE a L bs (x i) t):=by
        show ud (lg (rowL a (upw (x i)))) (lg (rowL a fun j=>lg bs (j * L+t))) a=ud (upw (x i)) (fun j=>lg bs (j * L+t)) a
        exact ud_congr (fun u hu=>lg_rowL _ hu) fun u hu=>lg_rowL (fun j=>lg bs (j * L+t)) hu
      clear hel
      go_wp2_with fail
      refine hdot.mono ?_
      rintro e w3 ⟨rfl,hs3⟩
      rw [HVal.out]
      have hR3:=(hR.no hk6).no hs3.kp
      have x3:=hR3.cell hlt
      have x4:=hR3.frozen t
      have HN:=hide ((hR3.set hlt (frE a L bs (x i) t) _ rfl).eq fun j _=>upS_step (frE a L bs (x i)) (fun _=>0) t j)
      have HKN:Hid (Kp No w1 (w3.setCell ⟨gb,t,none⟩ (bv (frE a L bs (x i) t)))):=(hkw2.trans' hs3.kp).trans ((RowAt.kpset gb t _ w3).mono fun q hq=>.inr (by rw [hq,HG.out]; exact Nat.le_refl _))
      clear hR hdot hR3
      generalize frE a L bs (x i) t=z at *
      go_wp2_with fail
      go_round
      case rel=>exact ⟨t+1,by omega,by go_num,HN.out,HKN.out⟩
      case measure=>simp [intOf]; omega
    · obtain rfl:t=L:=by omega
      have hR2:=hR.eq (t:=frE a t bs (x i)) fun j hj=>by unfold upS; rw [if_pos hj]
      clear hR
      go_wp2_with fail
      go_ret2
      exact ⟨_,_,_,rfl,(show Own _ _ _ _ _ from hR2).rebase fun b hb=>by injection hb with hb; rw [← hb,HG.out]; exact HK5.out.size,HK5.out.trans' hkw⟩
end
end Go.Proofs.YtnfcfdhlmeimhaaGreat
namespace Go.Proofs.YtnfcfdhlmeimhaaGreat
open Go.RowKit
set_option linter.unusedVariables false
set_option linter.unusedSimpArgs false
set_option maxRecDepth 100000
/-- A law's end. -/
def R7 (w:World) (e:Ending) (w1:World):Prop:=e=.returned (.bool true)∧Below w.heap.size w w1
set_option maxHeartbeats 4000000 in
theorem rfrag_any {w:World} {n k a d q L m cp i:Nat} {x:Nat→UInt8} {A:Option Addr} {bs:List UInt8} (hD:Dim n k a d q) (hX:Pts n a x) (hi:i < n) (hb:Bts w (.slice A m cp) bs) (hm:m=a * L) (hL1:1≤L) (hmb:m≤1000) :
    Calls Tryz.prog 87 #[.int .i64 (n:Int),.int .i64 (k:Int),.int .i64 (i:Int),.slice A m cp] w (OwnPost w (rowL L (frE a L bs (x i)))):=by
  obtain ⟨i0,hi0,hz0,hz1,hz2⟩:=byte_parts
  have ha1:=hD.a1
  have ha7:=hD.a7
  have hk1:1≤k:=by have:=hD.k_; omega
  have hk8:k≤8:=by have:=hD.k_; omega
  have hn24:=hD.n2
  have hLm:L≤m:=by rw [hm]; have:=Nat.mul_le_mul_right L ha1; omega
  have had:Hid (a≤d):=by show a≤d; have:=hD.d_; omega
  have HKA:Hid ((k:Int) - 1=(a:Int)):=by show (k:Int) - 1=(a:Int); have:=hD.k_; omega
  have HDV:Hid ((m:Int) / (a:Int)=(L:Int)):=by show (m:Int) / (a:Int)=(L:Int); rw [hm,Int.natCast_mul,Int.mul_ediv_cancel_left _ (by omega)]
  have hrows:=rrows_any w hD hX
  have HM:=hide hm
  clear hm hD hX
  go_enter Tryz.func87,Tryz.ntmps87
  go_wp2_with fail
  refine hrows.mono ?_
  rintro e w1 ⟨A1,c1,rfl,hR1,hk⟩
  obtain ⟨B1,o1,A2,r2,c2,b2,rfl,y1,hb2,hbt⟩:=hR1.get hi
  rw [matL_get _ hi] at hb2
  injection hb2 with hb2
  subst hb2
  have hb1:=hb.no hk
  have hka:=HKA.out
  have hdv:=HDV.out
  clear hrows hR1
  go_wp2_with fail
  clear hdv y1
  go_loopw [11,12] (fun v jv wr=>∃ (t:Nat) (A':Option Addr) (r cc:Nat),t≤L∧jv=.int .i64 (t:Int)∧v=.slice A' r cc∧Own wr w1.heap.size 5 (.slice A' r cc) (rowL t (frE a L bs (x i)))∧Kp No w1 wr) (fun _ jv _=>L - (intOf jv).toNat)
  case atStart=>exact ⟨0,none,0,0,Nat.zero_le _,rfl,rfl,Own.nil _ _ _,Kp.refl _ _⟩
  case round =>
    obtain ⟨t,A',r,cc,ht,rfl,rfl,ho,hkw⟩:=hrel
    by_cases hlt:t < L
    · go_wp2_with fail
      go_loopw [13,14] (fun s jv wr=>∃ u:Nat,u≤a∧jv=.int .i64 (u:Int)∧s=.int .u8 ((ud (upw (x i)) (fun j=>lg bs (j * L+t)) u).toNat:Int)∧Own wr w1.heap.size 5 (.slice A' r cc) (rowL t (frE a L bs (x i)))∧Kp No w1 wr) (fun _ jv _=>a - (intOf jv).toNat)
      case atStart=>exact ⟨0,Nat.zero_le _,rfl,rfl,ho,hkw⟩
      case round =>
        clear ho hkw
        obtain ⟨u,hu,rfl,rfl,ho,hkw⟩:=hrel
        by_cases hltu:u < a
        · have hr2:u < r2:=by rw [hbt.len,rowL_len]; have:=had.out; omega
          obtain ⟨B3,o3,b3,rfl,hb3,e3⟩:=(hbt.no hkw).at_ hr2
          obtain rfl:b3=upw (x i) u:=by
            rw [rowL_get _ (by have:=had.out; omega)] at hb3
            injection hb3 with hb3
            exact hb3.symm
          obtain ⟨yy,hyy⟩:∃ yy,yy=u * L:=⟨_,rfl⟩
          obtain ⟨o,hoo⟩:∃ o,o=yy+t:=⟨_,rfl⟩
          have hlo:o < m:=by rw [hoo,hyy,HM.out]; exact idx_lt hltu hlt
          obtain ⟨B2,o2,b,rfl,hb',e4⟩:=(hb1.no hkw).at_ hlo
          have hstep:Hid (ud (upw (x i)) (fun j=>lg bs (j * L+t)) (u+1)=ux (ud (upw (x i)) (fun j=>lg bs (j * L+t)) u) (um (upw (x i) u) b)):=by
            show ud (upw (x i)) (fun j=>lg bs (j * L+t)) (u+1)=_
            rw [ud_succ,← hyy,← hoo,lg_of hb']
            rfl
          have hw1:IntKind.i64.wrap ((u:Int) * (L:Int))=(yy:Int):=by
            rw [hyy,← Int.natCast_mul]
            exact IntWalk.i64_in _ (by omega)
          have hw2:IntKind.i64.wrap ((yy:Int)+(t:Int))=(o:Int):=by
            rw [hoo,Int.natCast_add]
            exact IntWalk.i64_in _ (by omega)
          have hlz:(0:Int)≤(o:Int):=by omega
          have hlo':(o:Int) < (m:Int):=by omega
          have hr2':(u:Int) < (r2:Int):=by omega
          clear hyy hoo hb' hb3
          generalize ud (upw (x i)) (fun j=>lg bs (j * L+t)) u=s at *
          have hxor:=xorU s (um (upw (x i) u) b)
          go_wp2_with fail
          go_quiet ((go_at_call 116; exact refmulU_q _ _ (upw (x i) u) b))
          go_wp2_with fail
          go_round
          case rel=>exact ⟨u+1,by omega,by go_num,by rw [hstep.out],ho.drewN _,hkw.drewN _⟩
          case measure=>simp [intOf]; omega
        · obtain rfl:u=a:=by omega
          have hval:Hid (ud (upw (x i)) (fun j=>lg bs (j * L+t)) u=frE u L bs (x i) t):=rfl
          rw [hval.out]
          have hsz:=hkw.size
          have hbn:=bts_new wr (frE u L bs (x i) t) _ rfl
          have ho2:=ho.alloc (.cells #[bv (frE u L bs (x i) t)] 5)
          have hl:(rowL t (frE u L bs (x i))).length+[frE u L bs (x i) t].length≤1000000000:=by rw [rowL_len]; simp; omega
          go_wp2_with (first
            | (at_builtin
               refine wpList_app rfl (.tmp 52) (.tmp 54) _ rfl i0 Tryz.underlying54 hi0 hz0 hz1 hz2 rfl ho2 rfl hbn hl (by simp; omega) ?_
               intro A3 n3 c3 w3 ha))
          go_round
          case rel=>exact ⟨t+1,A3,n3,c3,by omega,by go_num,rfl,by rw [rowL_succ]; exact ha.own,ha.keeps ho2 (hkw.trans' (Kp.alloc No _ _))⟩
          case measure=>simp [intOf]; omega
    · obtain rfl:t=L:=by omega
      go_wp2_with fail
      go_ret
      exact ⟨A',r,cc,rfl,ho.rebase fun q hq=>Nat.le_trans hk.size (ho.ge q hq),hk.trans' hkw⟩
end Go.Proofs.YtnfcfdhlmeimhaaGreat
