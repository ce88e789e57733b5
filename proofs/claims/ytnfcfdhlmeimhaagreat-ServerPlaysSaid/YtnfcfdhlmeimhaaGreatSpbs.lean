/- Package math/bits' Len of a small number; package slices' sorts of few names; package vault's List, as contracts over memory. -/
import Derived.Test.YtnfcfdhlmeimhaaGreatSpbr
import Derived.Test.YtnfcfdhlmeimhaaGreatSpaq
namespace Go.Proofs.YtnfcfdhlmeimhaaGreat
open Go.RowKit
set_option linter.unusedVariables false
set_option linter.unusedSimpArgs false
set_option maxRecDepth 20000
def LnPost (w:World) (e:Ending) (w1:World):Prop:=∃ z,e=.returned (.int .i64 z)∧w=w1
set_option maxRecDepth 100000 in
theorem len64_any {w:World} {n:Nat} (hn:n≤12):Calls Tryz.prog 131 #[.int .u64 (n:Int)] w (LnPost w):=by
  have z1:¬ (4294967296:Int)≤(n:Int):=by omega
  have z2:¬ (65536:Int)≤(n:Int):=by omega
  have z3:¬ (256:Int)≤(n:Int):=by omega
  have hu:IntKind.u8.wrap (n:Int)=(n:Int):=by rw [IntKind.wrap_u8]; omega
  go_enter Tryz.func131,Tryz.ntmps131
  go_wp2_with fail
  go_ret
  exact ⟨_,rfl,rfl⟩
theorem blen_any {w:World} {n:Nat} (hn:n≤12):Calls Tryz.prog 96 #[.int .u64 (n:Int)] w (LnPost w):=by
  have hw:IntKind.u64.wrap (n:Int)=(n:Int):=by rw [IntKind.wrap_u64]; omega
  have hl:=len64_any (w:=w) hn
  go_enter Tryz.func96,Tryz.ntmps96
  go_wp2_with fail
  refine hl.mono ?_
  rintro e w' ⟨z,rfl,rfl⟩
  go_wp2_with fail
  go_ret
  exact ⟨z,rfl,rfl⟩
set_option maxHeartbeats 1000000 in
theorem pdq_any {w:World} {base g c n:Nat} {ns:List Nat} (h:OwnT w base 53 4 (.slice (some ⟨g,0,none⟩) n c) ns.length (nmC ns)) (h0:0 < n) (h12:n≤12) (z:Int) :
    Calls Tryz.prog 95 #[.slice (some ⟨g,0,none⟩) n c,.int .i64 0,.int .i64 (n:Int),.int .i64 z,cmpV] w (IsPost w base g n c ns):=by
  have hz:(n:Int)≤12:=by omega
  have hi:=insortn_any h h0 (by omega)
  have HI:=hide hi
  unfold cmpV at HI ⊢
  clear hi h
  go_enter Tryz.func95,Tryz.ntmps95
  go_wp2_with fail
  go_loopw [1,2] (fun av bv wr=>av=.int .i64 0∧bv=.int .i64 (n:Int)∧w=wr) (fun _ _ _=>0)
  case atStart=>exact ⟨rfl,rfl,rfl⟩
  case round =>
    obtain ⟨rfl,rfl,rfl⟩:=hrel
    go_wp2_with fail
    refine HI.out.mono ?_
    rintro e w1 ⟨rfl,ho,hk⟩
    go_wp2_with fail
    go_end0
    exact ⟨rfl,ho,hk⟩
set_option maxHeartbeats 1000000 in
theorem sortf_any {w:World} {base g c n:Nat} {ns:List Nat} (h:OwnT w base 53 4 (.slice (some ⟨g,0,none⟩) n c) ns.length (nmC ns)) (h0:0 < n) (h12:n≤12) :
    Calls Tryz.prog 53 #[.slice (some ⟨g,0,none⟩) n c,cmpV] w (IsPost w base g n c ns):=by
  have hw:IntKind.u64.wrap (n:Int)=(n:Int):=by rw [IntKind.wrap_u64]; omega
  have hp:=fun z=>pdq_any h h0 h12 z
  have HP:=hide hp
  unfold cmpV at HP ⊢
  clear hp h
  go_enter Tryz.func53,Tryz.ntmps53
  go_wp2_with fail
  refine (blen_any h12).mono ?_
  rintro e w' ⟨z,rfl,rfl⟩
  go_wp2_with fail
  refine (HP.out z).mono ?_
  rintro e w1 ⟨rfl,ho,hk⟩
  go_wp2_with fail
  go_end0
  exact ⟨rfl,ho,hk⟩
/-- The same of no names. -/
theorem insort0 (w:World):Calls Tryz.prog 122 #[.slice none 0 0,.int .i64 0,.int .i64 0,cmpV] w fun e w1=>e=.returned (.tuple #[])∧w=w1:=by
  unfold cmpV
  go_enter Tryz.func122,Tryz.ntmps122
  go_wp2_with fail
  go_loopw [8] (fun iv wr=>iv=.int .i64 1∧w=wr) (fun _ _=>0)
  case atStart=>exact ⟨by go_num,rfl⟩
  case round =>
    obtain ⟨rfl,rfl⟩:=hrel
    go_wp2_with fail
    go_end0
    exact ⟨rfl,rfl⟩
theorem pdq0 (w:World) (z:Int):Calls Tryz.prog 95 #[.slice none 0 0,.int .i64 0,.int .i64 0,.int .i64 z,cmpV] w fun e w1=>e=.returned (.tuple #[])∧w=w1:=by
  have hi:=insort0 w
  unfold cmpV at hi ⊢
  go_enter Tryz.func95,Tryz.ntmps95
  go_wp2_with fail
  go_loopw [1,2] (fun av bv wr=>av=.int .i64 0∧bv=.int .i64 0∧w=wr) (fun _ _ _=>0)
  case atStart=>exact ⟨rfl,rfl,rfl⟩
  case round =>
    obtain ⟨rfl,rfl,rfl⟩:=hrel
    go_wp2_with fail
    refine hi.mono ?_
    rintro e w1 ⟨rfl,rfl⟩
    go_wp2_with fail
    refine bodyPost_ret (results_none rfl _ _ _) rfl ?_
    exact ⟨rfl,rfl⟩
theorem sortf0 (w:World):Calls Tryz.prog 53 #[.slice none 0 0,cmpV] w fun e w1=>e=.returned (.tuple #[])∧w=w1:=by
  have hp:=pdq0 w
  have hb:=blen_any (w:=w) (n:=0) (by omega)
  unfold cmpV at hp ⊢
  go_enter Tryz.func53,Tryz.ntmps53
  go_wp2_with fail
  refine hb.mono ?_
  rintro e w' ⟨z,rfl,rfl⟩
  go_wp2_with fail
  refine (hp z).mono ?_
  rintro e w1 ⟨rfl,rfl⟩
  go_wp2_with fail
  go_end0
  exact ⟨rfl,rfl⟩
theorem left_kp {S:Nat→Prop} {w w1:World} {b r:Nat} (hk:Kp S w w1) (hb:¬ S b) (hr:¬ S r) (lb:b < w.heap.size) (lr:r < w.heap.size):w1.rangeLeft b r=w.rangeLeft b r:=by
  unfold World.rangeLeft
  rw [hk.block b lb hb,hk.block r lr hr]
/-- The names gone through so far. -/
structure VlI (w:World) (b:Nat) (L:List (Nat × Nat)) (A:Option Addr) (n c:Nat) (wr:World):Prop where
  ex:∃ dn left,RgAt wr b w.heap.size L dn left∧OwnT wr (w.heap.size+1) 53 4 (.slice A n c) n (nmC (dn.map Prod.snd))∧n=dn.length
  kp:Kp No w wr
  z:n=0→A=none∧c=0
set_option maxHeartbeats 2000000 in
theorem vlist_any {w:World} {F:Nat→Prop} {g gd b:Nat} {V:Vt} (h:VtR w F g gd b V) (h12:V.D.cells.length≤12):Calls Tryz.prog 26 #[.pointer (some ⟨g,0,none⟩)] w (RlPost w V.lst):=by
  have hLn:V.L.length≤12:=Nat.le_trans h.ok.kn.len h12
  have hsort:=h.ok.sorted
  have hdn:=h.ok.kn.dn
  have HSO:=hide hsort
  have HDN:=hide hdn
  have HM:=hide h.mp
  have c1:=h.blk.c1
  have hbl:=h.mp.lt
  have HLN:=hide hLn
  have hcl:∀ p ∈ V.L,p.2 < N96:=h.ok.kn.nm
  have HCL:=hide hcl
  clear h hsort hdn hLn hcl
  go_enter Tryz.func26,Tryz.ntmps26
  go_wp2_with (first | (at_range; refine wpList_mrange rfl _ rfl rfl HM.out w.heap.size rfl ?_; intro w2 hr2 hk2 hz2; go_frame))
  have hI:VlI w b V.L none 0 0 w2:=⟨⟨[],V.L,hr2,OwnT.nil _ _ _ _,rfl⟩,hk2,fun _=>⟨rfl,rfl⟩⟩
  have HI:=hide hI
  clear hr2 hk2 hz2 c1 hI
  go_loopw [3] (fun lv wr=>∃ (A:Option Addr) (n c:Nat),lv=.slice A n c∧VlI w b V.L A n c wr) (fun _ wr=>wr.rangeLeft b w.heap.size)
  case atStart=>exact ⟨none,0,0,rfl,HI.out⟩
  case round =>
    clear HI
    obtain ⟨A,n,c,rfl,⟨dn,left,hr,hO,hn⟩,hkp,hz⟩:=hrel
    rename World=>wr
    have HO:=hide hO
    have HKP:=hide hkp
    have HN:=hide hn
    have HZ:=hide hz
    have HR:=hide hr
    clear hO hkp hn hz
    go_wp2_with (first | (at_next; refine wpList_mnext rfl _ rfl rfl hr ?done ?more))
    case done =>
      intro hl
      subst hl
      have hpm:=hr.pm
      rw [List.append_nil] at hpm
      have hlen:n=V.L.length:=by rw [HN.out]; exact hpm.length_eq
      have hn12:n≤12:=by rw [hlen]; exact HLN.out
      have hnd:(dn.map Prod.snd).Nodup:=(hpm.map Prod.snd).nodup_iff.2 HDN.out
      have hmem:∀ x,x ∈ V.lst ↔ x ∈ dn.map Prod.snd:=fun x=>by
        rw [Vt.lst_mem,kn_iff,List.mem_map]
        constructor
        · rintro ⟨p,hp,e⟩
          exact ⟨p,hpm.mem_iff.2 hp,e⟩
        · rintro ⟨p,hp,e⟩
          exact ⟨p,hpm.mem_iff.1 hp,e⟩
      have hdone:=srt_done hnd HSO.out hmem
      have hml:(dn.map Prod.snd).length=n:=by rw [List.length_map,HN.out]
      have hll:V.lst.length=n:=by unfold Vt.lst; rw [lst_len,hlen]
      have HDONE:=hide hdone
      have HML:=hide hml
      have HLL:=hide hll
      have ho:=HO.out
      clear hr hpm hlen hnd hmem hdone hml hll
      rcases Nat.eq_zero_or_pos n with h0 | h0
      · obtain ⟨rfl,rfl⟩:=HZ.out h0
        subst h0
        clear ho
        go_wp2_with fail
        refine (sortf0 _).mono ?_
        rintro e w' ⟨rfl,rfl⟩
        go_wp2_with fail
        go_ret
        refine ⟨none,0,0,rfl,?_,HLL.out.symm,HKP.out⟩
        rw [List.eq_nil_of_length_eq_zero HLL.out]
        exact OwnT.nil _ _ _ _
      · obtain ⟨gl,rfl,_⟩:=ho.some_ h0
        have ho2:OwnT wr (w.heap.size+1) 53 4 (.slice (some ⟨gl,0,none⟩) n c) (dn.map Prod.snd).length (nmC (dn.map Prod.snd)):=by rw [HML.out]; exact ho
        have hs:=sortf_any ho2 h0 hn12
        have HS:=hide hs
        clear ho ho2 hs
        unfold cmpV at HS
        go_wp2_with fail
        refine HS.out.mono ?_
        rintro e w5 ⟨rfl,ho5,hk5⟩
        rw [HDONE.out,HML.out] at ho5
        have HO5:=hide ho5
        have HK5:=hide hk5
        clear ho5 hk5
        go_wp2_with fail
        go_ret
        exact ⟨_,n,c,rfl,ownT_rebase HO5.out fun q e=>by have:=HO5.out.ge q e; omega,HLL.out.symm,HKP.out.trans (HK5.out.mono fun q e=>.inr (by rw [e]; have:=HO.out.ge gl rfl; omega))⟩
    case more =>
      intro c' s w3 left' hs hc hmem hr3 hlt hk3 he
      have HR3:=hide hr3
      have hrl:=hr.lt
      have hbl2:=hr.map.lt
      have HO3:=hide (HO.out.keep hk3 fun q e e2=>by have:=HO.out.ge q e; omega)
      have HK3:=hide (HKP.out.trans (hk3.mono fun q e=>.inr (by subst e; exact Nat.le_refl _)))
      have HLT:=hide hlt
      have hdl:n≤100:=by rw [HN.out]; have:=hr.pm.length_eq; rw [List.length_append] at this; have:=HLN.out; omega
      have HS3:=hide hk3.size
      have hb3:=Bx4.new w3 (.int .u32 (cO s:Int)) (.int .u16 (cS s:Int)) (.int .u16 (cL s:Int)) (.int .u32 (cG s:Int))
      have K3:=(Kp.alloc No w3 (.cells #[.int .u32 (cO s:Int),.int .u16 (cS s:Int),.int .u16 (cL s:Int),.int .u32 (cG s:Int)] 53))
      have K4:=K3.trans' (Kp.alloc No _ (.cells #[.int .u32 (cO s:Int),.int .u16 (cS s:Int),.int .u16 (cL s:Int),.int .u32 (cG s:Int)] 53))
      have ho4:=HO3.out.no K4
      have HK4:=hide K4
      have hb4:=Box4.new2 w3 (.cells #[.int .u32 (cO s:Int),.int .u16 (cS s:Int),.int .u16 (cL s:Int),.int .u32 (cG s:Int)] 53) (.int .u32 (cO s:Int)) (.int .u16 (cS s:Int)) (.int .u16 (cL s:Int)) (.int .u32 (cG s:Int))
      have hbase:w.heap.size+1≤((w3.alloc (.cells #[.int .u32 (cO s:Int),.int .u16 (cS s:Int),.int .u16 (cL s:Int),.int .u32 (cG s:Int)] 53)).alloc (.cells #[.int .u32 (cO s:Int),.int .u16 (cS s:Int),.int .u16 (cL s:Int),.int .u32 (cG s:Int)] 53)).heap.size:=by have h1:=hk3.size; simp; omega
      obtain ⟨p0,p1,p2,p3⟩:=hb3.cell
      clear hr hlt hr3 hk3 K3 K4
      go_wp2_with (first
        | (at_builtin
           refine wpList_appT ty_sh rfl (.tmp 16) (.tmp 18) _ rfl Tryz.underlying74 rfl ho4 _ _ rfl (nws_box hb4 rfl rfl rfl rfl) (by omega) hbase ?_
           intro A5 n5 c5 w5 hn5 ha5
           have HN5:=hide hn5
           have HA5:=hide ha5
           clear hn5 ha5 ho4 hb4 hbase p0 p1 p2 p3 hb3))
      have hSb:¬ (fun k=>(Value.slice A n c).ownBlock=some k) b:=fun e=>by have:=HO3.out.ge b e; omega
      have hSr:¬ (fun k=>(Value.slice A n c).ownBlock=some k) w.heap.size:=fun e=>by have:=HO3.out.ge w.heap.size e; omega
      go_round
      case rel =>
        refine ⟨A5,n5,c5,rfl,⟨dn ++ [(c',s)],left',(HR3.out.no HK4.out).keep HA5.out.kp hSb hSr,?_,?_⟩,?_,fun e=>?_⟩
        · have ho5:=HA5.out.own
          rw [← HN5.out] at ho5
          rw [List.map_append,nmC_append]
          exact ho5
        · rw [HN5.out,List.length_append,HN.out]; rfl
        · exact (HK3.out.trans' HK4.out).trans (HA5.out.kp.mono fun q e=>.inr (by have:=HO3.out.ge q e; omega))
        · rw [HN5.out] at e; omega
      case measure =>
        have e1:=left_kp HK4.out (fun f=>f) (fun f=>f) (b:=b) (r:=w.heap.size) (by have:=HS3.out; omega) (by have:=HS3.out; omega)
        have e2:=left_kp HA5.out.kp hSb hSr (by have:=HS3.out; have:=HK4.out.size; omega) (by have:=HS3.out; have:=HK4.out.size; omega)
        rw [e2,e1]
        exact HLT.out
end Go.Proofs.YtnfcfdhlmeimhaaGreat
