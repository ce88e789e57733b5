/- An argument of bytes opened, with its room. No condition; Arguments opened to cells: names by value. No condition; The acts of layer 12's statements as they lie in memory. No condition; Truth values in a block of the call's own. No condition; Package vault's ranging over a vault's map, and slices.Index of truth values; A vault and its disk in memory; slices.Concat of rows of bytes, as a contract over memory; no condition. -/
import Derived.Test.YtnfcfdhlmeimhaaGreatSpab
import Derived.Test.YtnfcfdhlmeimhaaGreatSpaa
import Derived.Test.YtnfcfdhlmeimhaaGreatSpae
import Derived.Lib.SmallJoins
import Derived.Test.YtnfcfdhlmeimhaaGreatSpag
import Derived.Test.YtnfcfdhlmeimhaaGreatSpaj
import Derived.Test.YtnfcfdhlmeimhaaGreatSpak
import Derived.Test.YtnfcfdhlmeimhaaGreatSpal
import Derived.Lib.AppendZeros
namespace Go.Proofs.YtnfcfdhlmeimhaaGreat
open Go.ChangeShapes Go.WideShapes Go.RowKit
set_option linter.unusedVariables false
set_option maxRecDepth 20000
section
variable {H:Type} {enc:TypeId × Value→H} {w:World} {base:Nat} {spare:Nat→Bool} {held:Bool} {fuel:Nat} {v:Value} {x:DataW H × List MemPlace}
theorem open_btc (h:DataW.trod enc Tryz.prog w base spare held fuel 54 [v]=some x):∃ A m c bs,v=.slice A m c∧(Bts w (.slice A m c) bs∧m≤c)∧m≤maxLen:=by
  obtain ⟨A,m,c,bs,rfl,hb,hm⟩:=open_bts Tryz.underlying54 Tryz.underlying5 cells_u8 h
  refine ⟨A,m,c,bs,rfl,⟨hb,?_⟩,hm⟩
  rcases open_ints Tryz.underlying54 Tryz.underlying5 cells_u8 h with ⟨hcs,_⟩ | ⟨a,len,cap,zs,hcs,_,hl,hm,hz,_,hcell,hwz⟩
  · simp only [List.cons.injEq,and_true] at hcs
    injection hcs with h1 h2 h3
    omega
  · simp only [List.cons.injEq,and_true] at hcs
    injection hcs with h1 h2 h3
    omega
end
end Go.Proofs.YtnfcfdhlmeimhaaGreat
namespace Go.Proofs.YtnfcfdhlmeimhaaGreat
open Go.ChangeShapes Go.WideShapes Go.RowKit Go.Deep Go.Joins
set_option linter.unusedVariables false
set_option maxRecDepth 100000
section
variable {H:Type} {enc:TypeId × Value→H} {w:World} {base:Nat} {spare:Nat→Bool} {held:Bool} {fuel:Nat} {v:Value}
theorem open_sh {cs:List Value} {y:DataW H × List MemPlace} (h:DataW.trod enc Tryz.prog w base spare held fuel 53 cs=some y):∃ s,s < N96∧.agg cs.toArray=shV s:=by
  obtain ⟨n,hl,hf⟩:=open_parts Tryz.underlying53 h
  rw [sh_cells] at hl
  match cs,hl with
  | [v0,v1,v2,v3],_ =>
    obtain ⟨y0,h0⟩:=hf 0 50 0 _ rfl sh_one.1
    obtain ⟨y1,h1⟩:=hf 1 51 1 _ rfl sh_one.2
    obtain ⟨y2,h2⟩:=hf 2 51 2 _ rfl sh_one.2
    obtain ⟨y3,h3⟩:=hf 3 50 3 _ rfl sh_one.1
    simp only [List.drop_zero,List.drop_succ_cons,List.take_succ_cons,List.take_zero] at h0 h1 h2 h3
    obtain ⟨a,e0,_,w0⟩:=DataW.trod_int Tryz.underlying50 h0
    obtain ⟨b,e1,_,w1⟩:=DataW.trod_int Tryz.underlying51 h1
    obtain ⟨c,e2,_,w2⟩:=DataW.trod_int Tryz.underlying51 h2
    obtain ⟨d,e3,_,w3⟩:=DataW.trod_int Tryz.underlying50 h3
    simp only [List.cons.injEq,and_true] at e0 e1 e2 e3
    subst e0 e1 e2 e3
    obtain ⟨a0,rfl,b0⟩:=of_u32 w0
    obtain ⟨a1,rfl,b1⟩:=of_u16 w1
    obtain ⟨a2,rfl,b2⟩:=of_u16 w2
    obtain ⟨a3,rfl,b3⟩:=of_u32 w3
    refine ⟨mkN a0 a1 a2 a3,mkN_lt b0 b1 b2 b3,?_⟩
    unfold shV
    rw [cO_mk b1 b2 b3,cS_mk b1 b2 b3,cL_mk b2 b3,cG_mk b3]
end
end Go.Proofs.YtnfcfdhlmeimhaaGreat
namespace Go.Proofs.YtnfcfdhlmeimhaaGreat
open Go.RowKit Go.ChangeShapes Go.WideShapes Go.Deep
set_option linter.unusedVariables false
set_option maxRecDepth 20000
/-- What an act holds. -/
structure ActV where
  kind:Int
  s:Nat
  b:List UInt8
  n:Int
  m:Int
  bits:UInt8
section
variable {H:Type} {enc:TypeId × Value→H} {w:World} {base:Nat} {spare:Nat→Bool} {held:Bool} {fuel:Nat}
end
end Go.Proofs.YtnfcfdhlmeimhaaGreat
namespace Go.Proofs.YtnfcfdhlmeimhaaGreat
open Go.RowKit
set_option linter.unusedVariables false
set_option linter.unusedSimpArgs false
set_option maxRecDepth 100000
/-- Truth values in a block of the call's own. -/
def BRow (w:World) (b n:Nat) (f:Nat→Bool):Prop:=∃ cur:Array Value,w.heap[b]?=some (.cells cur 4 (0,0))∧∀ j,j < n→cur[j]?=some (.bool (f j))
section
variable {w w1:World} {b n:Nat} {f f':Nat→Bool} {S:Nat→Prop}
theorem BRow.cell (h:BRow w b n f) {j:Nat} (hj:j < n):w.cell? ⟨b,j,none⟩=some (.bool (f j)):=by
  obtain ⟨cur,h1,h2⟩:=h
  rw [cell_of_row w b j _ _ _ h1,h2 j hj]
theorem BRow.cellv (h:BRow w b n f) {j:Nat} {u:Bool} (hj:j < n) (hu:f j=u):w.cell? ⟨b,j,none⟩=some (.bool u):=hu ▸ h.cell hj
theorem BRow.frozen (h:BRow w b n f) (j:Nat):w.frozen? ⟨b,j,none⟩=false:=by
  obtain ⟨cur,h1,_⟩:=h
  exact frozen_of_row w b j _ _ h1
theorem BRow.keep (h:BRow w b n f) (hk:Kp S w w1) (hS:¬ S b):BRow w1 b n f:=by
  obtain ⟨cur,h1,h2⟩:=h
  exact ⟨cur,by rw [hk.block b (Array.getElem?_eq_some_iff.1 h1).1 hS]; exact h1,h2⟩
theorem BRow.no (h:BRow w b n f) (hk:Kp No w w1):BRow w1 b n f:=h.keep hk fun f=>f
theorem BRow.eq (h:BRow w b n f) (he:∀ j,j < n→f j=f' j):BRow w b n f':=by
  obtain ⟨cur,h1,h2⟩:=h
  exact ⟨cur,h1,fun j hj=>by rw [← he j hj]; exact h2 j hj⟩
theorem BRow.set (h:BRow w b n f) {i:Nat} (hi:i < n):BRow (w.setCell ⟨b,i,none⟩ (.bool true)) b n fun j=>if j=i then true else f j:=by
  obtain ⟨cur,h1,h2⟩:=h
  have hsz:i < cur.size:=(Array.getElem?_eq_some_iff.1 (h2 i hi)).1
  refine ⟨cur.setIfInBounds i (.bool true),heap_setCell_same w b i cur _ _ h1,fun j hj=>?_⟩
  rw [Array.getElem?_setIfInBounds]
  show _=some (Value.bool (if j=i then true else f j))
  by_cases e:i=j
  · subst e
    rw [if_pos rfl,if_pos hsz,if_pos rfl]
  · rw [if_neg e,if_neg (fun e':j=i=>e e'.symm)]
    exact h2 j hj
end
def zbl (n:Nat):Array Value:=madeCells (Value.bool false).cells (n * 1)
theorem zbl_get {n j:Nat} (h:j < n):(zbl n)[j]?=some (.bool false):=by
  have e:(zbl n).toList=List.replicate n (.bool false):=by unfold zbl; rw [Nat.mul_one]; exact toList_madeCells_one _ _
  rw [← Array.getElem?_toList,e,List.getElem?_replicate,if_pos h]
theorem ty_bool:Ty 4 (.bool false) 1 1:=ty_of (by kernel_rfl) rfl (by omega) (by omega)
/-- make([]bool, n). -/
theorem make_bools (w:World) (n:Nat) (x:Int) (hx:x=n) (hn:n≤1000) :
    (Instr.makeSlice 191 (.int .i64 x) (.int .i64 x)).run Tryz.prog w=.ok (.slice (some ⟨w.heap.size,0,none⟩) n n) (w.alloc (.cells (zbl n) 4)):=by
  obtain ⟨⟨i0,hi0,hz0,hz1,hz2⟩,_⟩:=ty_bool
  subst hx
  have:=run_make (P:=Tryz.prog) w 191 4 i0 (.bool false) Tryz.underlying191 hi0 hz0 .i64 .i64 n n (by omega) (by omega) (by rw [hz2]; omega) (by omega)
  rw [hz1] at this
  simpa [zbl] using this
end Go.Proofs.YtnfcfdhlmeimhaaGreat
namespace Go.Proofs.YtnfcfdhlmeimhaaGreat
open Go.RowKit
set_option linter.unusedVariables false
set_option linter.unusedSimpArgs false
set_option maxRecDepth 20000
section
variable {w:World} {b r:Nat} {L dn left:List (Nat × Nat)} {ops:Array Oper} {rest:List Oper} {o:Oper} {a:Act} {Q:Exit→Act→World→Prop}
/-- 'range m', at the operation. -/
theorem wpList_mrange (hg:o.guard=none) (m:Operand) (hop:o.op=Op.range 124 m) (hm:a.eval m=.map (some b)) (h:MpAt w b L) (r:Nat) (hrz:r=w.heap.size)
    (hK:∀ w',RgAt w' b r L [] L→Kp No w w'→w'.heap.size=r+1→wpList Tryz.prog ops Q rest (a.put o.dst (.pointer (some ⟨r,0,none⟩))) w'):wpList Tryz.prog ops Q (o :: rest) a w:=by
  subst hrz
  refine wpList_plain hg fun K' hK'=>?_
  obtain ⟨w',hrun,r1,r2,r3⟩:=h.range
  unfold Oper.wp
  simp [execOp,hop,hm,hrun,Result.andThen]
  exact hK' _ _ (hK w' r1 r2 r3)
/-- The step, at the operation. -/
theorem wpList_mnext (hg:o.guard=none) (it:Operand) (hop:o.op=Op.next it false) (hit:a.eval it=.pointer (some ⟨r,0,none⟩)) (h:RgAt w b r L dn left)
    (hDone:left=[]→wpList Tryz.prog ops Q rest (a.put o.dst (.tuple #[.bool false])) w)
    (hMore:∀ c s w' left',s < N96→c < 1024→(c,s) ∈ L→RgAt w' b r L (dn ++ [(c,s)]) left'→w'.rangeLeft b r < w.rangeLeft b r→Kp (fun q=>q=r) w w'→(Instr.entry (.pointer (some ⟨r,0,none⟩))).run Tryz.prog w'=.ok (.tuple #[shV s,.int .i64 (c:Int)]) w' →
      wpList Tryz.prog ops Q rest (a.put o.dst (.tuple #[.bool true,shV s,.int .i64 (c:Int)])) w'):wpList Tryz.prog ops Q (o :: rest) a w:=by
  refine wpList_plain hg fun K' hK'=>?_
  unfold Oper.wp
  rcases h.next o.type with ⟨hl,_,hrun⟩ | ⟨c,s,w',left',hs,hc,hm,hrun,hr,hlt,hk,_,he⟩
  · simp [execOp,hop,hit,hrun,Result.andThen]
    exact hK' _ _ (hDone hl)
  · simp [execOp,hop,hit,hrun,Result.andThen]
    exact hK' _ _ (hMore c s w' left' hs hc hm hr hlt hk he)
end
/-- The first that is false. -/
def fstF (n:Nat) (f:Nat→Bool):Nat:=(List.range n).findIdx fun j=>!f j
section
variable {n:Nat} {f:Nat→Bool}
theorem fstF_at {k:Nat} (hk:k < n) (h:∀ j,j < k→f j=true) (hf:f k=false):fstF n f=k:=by
  unfold fstF
  refine (List.findIdx_eq (xs:=List.range n) (by rw [List.length_range]; exact hk)).2 ⟨by simp [hf],fun j hj=>?_⟩
  rw [List.getElem_range]
  simp [h j hj]
theorem fstF_none (h:∀ j,j < n→f j=true):fstF n f=n:=by
  have:(List.range n).findIdx (fun j=>!f j)=(List.range n).length:=List.findIdx_eq_length.2 fun x hx=>by simp [h x (List.mem_range.1 hx)]
  rw [List.length_range] at this
  exact this
end
def fstZ (n:Nat) (f:Nat→Bool):Int:=if fstF n f < n then (fstF n f:Int) else -1
theorem index_any {w:World} {b n c:Nat} {f:Nat→Bool} (h:BRow w b n f) (hn:n≤1000):Calls Tryz.prog 109 #[.slice (some ⟨b,0,none⟩) n c,.bool false] w fun e w1=>e=.returned (.int .i64 (fstZ n f))∧w=w1:=by
  have HB:=hide h
  clear h
  go_enter Tryz.func109,Tryz.ntmps109
  go_wp2_with fail
  go_loopw [8] (fun i wr=>∃ k:Nat,k≤n∧i=.int .i64 (k:Int)∧(∀ j,j < k→f j=true)∧w=wr) (fun i _=>n - (intOf i).toNat)
  case atStart=>exact ⟨0,by omega,rfl,fun j hj=>by omega,rfl⟩
  case round =>
    obtain ⟨k,hk,rfl,hz,rfl⟩:=hrel
    have HZ:=hide hz
    clear hz
    by_cases hlt:k < n
    · have hkz:(k:Int) < n:=by omega
      rcases hf:f k with _ | _
      · have hc:=HB.out.cellv hlt hf
        have hq:fstZ n f=(k:Int):=by unfold fstZ; rw [fstF_at hlt HZ.out hf,if_pos hlt]
        have HQ:=hide hq
        have HF:=hide hf
        clear hq hf
        go_wp2_with fail
        go_ret
        exact ⟨ret_int HQ.out.symm,rfl⟩
      · have hc:=HB.out.cellv hlt hf
        have HF:=hide hf
        clear hf
        go_wp2_with fail
        go_round
        case rel=>exact ⟨k+1,by omega,by go_num,fun j hj=>by
          rcases Nat.lt_or_ge j k with g | g
          · exact HZ.out j g
          · rw [show j=k by omega]; exact HF.out,trivial⟩
        case measure=>simp [intOf]; omega
    · have hkz:¬ (k:Int) < n:=by omega
      obtain rfl:k=n:=by omega
      have hq:fstZ k f=-1:=by unfold fstZ; rw [fstF_none HZ.out,if_neg (by omega)]
      have HQ:=hide hq
      clear hq
      go_wp2_with fail
      go_ret
      exact ⟨ret_int HQ.out.symm,rfl⟩
end Go.Proofs.YtnfcfdhlmeimhaaGreat
namespace Go.Proofs.YtnfcfdhlmeimhaaGreat
open Go.RowKit
set_option linter.unusedVariables false
set_option linter.unusedSimpArgs false
set_option maxRecDepth 20000
/-- A vault and its disk: all that is its own in F, but for the disk's the two blocks g and b. -/
def Fd (F:Nat→Prop) (g b k:Nat):Prop:=F k∧k≠g∧k≠b
structure VtR (w:World) (F:Nat→Prop) (g gd b:Nat) (V:Vt):Prop where
  blk:VtB w g gd b
  dk:DkAt w (Fd F g b) gd V.D
  mp:MpAt w b V.L
  fg:F g
  fb:F b
  ok:V.Ok
section
variable {w w1:World} {F S T:Nat→Prop} {g gd b:Nat} {V:Vt}
theorem VtR.ne (h:VtR w F g gd b V):g≠b:=fun e=>by
  subst e
  obtain ⟨es,clock,e⟩:=h.mp.blk h.blk
  cases e
theorem VtR.keep (h:VtR w F g gd b V) (hk:Kp S w w1) (hS:∀ k,k < w.heap.size→F k→¬ S k):VtR w1 F g gd b V :=
  ⟨h.blk.keep hk (hS g h.blk.lt h.fg),h.dk.keep hk (fun k hk hf=>hS k hk hf.1),h.mp.keep hk (hS b h.mp.lt h.fb),h.fg,h.fb,h.ok⟩
theorem VtR.no (h:VtR w F g gd b V) (hk:Kp No w w1):VtR w1 F g gd b V:=h.keep hk fun _ _ _ f=>f
theorem VtR.mono (h:VtR w F g gd b V) (hF:∀ k,F k→T k):VtR w T g gd b V:=⟨h.blk,h.dk.mono fun k hk=>⟨hF k hk.1,hk.2⟩,h.mp,hF _ h.fg,hF _ h.fb,h.ok⟩
/-- The disk has turned. -/
theorem VtR.disk (h:VtR w F g gd b V) {D:Dk} (hn:D.cells.length=V.D.cells.length) (hd:DkAt w1 (Up (Fd F g b) w) gd D) (hk:Kp (Fd F g b) w w1):VtR w1 (Up F w) g gd b ⟨D,V.L⟩:=by
  have l1:=h.blk.lt
  have l2:=h.mp.lt
  refine ⟨h.blk.keep hk (fun f=>f.2.1 rfl),hd.mono fun k hk'=>?_,h.mp.keep hk (fun f=>f.2.2 rfl),.inl h.fg,.inl h.fb,h.ok.disk hd.ok hn⟩
  rcases hk' with hf | hf
  · exact ⟨.inl hf.1,hf.2⟩
  · exact ⟨.inr hf,by omega,by omega⟩
/-- The map has turned. -/
theorem VtR.map (h:VtR w F g gd b V) {L':List (Nat × Nat)} (hm:MpAt w1 b L') (hk:Kp (fun q=>q=b) w w1) (hok:(Vt.mk V.D L').Ok):VtR w1 F g gd b ⟨V.D,L'⟩ :=
  ⟨h.blk.keep hk h.ne,h.dk.keep hk (fun k _ hf e=>hf.2.2 e),hm,h.fg,h.fb,hok⟩
theorem VtR.up (h:VtR w F g gd b V) (hk:Kp No w w1):VtR w1 (Up F w) g gd b V:=(h.no hk).mono fun k hk=>.inl hk
end
/-- What Get comes to. -/
def GetPost (w:World) (er:Nat) (bs:List UInt8) (e:Ending) (w1:World):Prop :=
  ∃ A n c,e=.returned (.tuple #[.slice A n c,.int .i64 (er:Int)])∧Own w1 w.heap.size 5 (.slice A n c) bs∧Kp No w w1
theorem GetPost.err {w w1:World} {er:Nat} {z:Int} (h:z=(er:Int)) (hk:Kp No w w1):GetPost w er [] (.returned (.tuple #[.slice none 0 0,.int .i64 z])) w1:=by
  subst h
  exact ⟨none,0,0,rfl,Own.nil _ _ _,hk⟩
end Go.Proofs.YtnfcfdhlmeimhaaGreat
namespace Go.Proofs.YtnfcfdhlmeimhaaGreat
open Go.RowKit
set_option linter.unusedVariables false
set_option maxRecDepth 20000
set_option linter.unusedSimpArgs false
/-- A row with room and no bytes comes back. -/
def GrowPost (w:World) (e:Ending) (w1:World):Prop:=∃ A c,e=.returned (.slice A 0 c)∧Own w1 w.heap.size 5 (.slice A 0 c) []∧Kp No w w1
theorem sgrow_nil (w:World) (n:Nat) (hn:n≤1000000):Calls Tryz.prog 137 #[.slice none 0 0,.int .i64 (n:Int)] w (GrowPost w):=by
  obtain ⟨i0,hi0,hz0,hz1,hz2⟩:=byte_parts
  by_cases h0:0 < n
  · have hr:=fun ty=>Lib.run_append_nil_zeros (P:=Tryz.prog) w 54 3 ty 5 i0 (.int .u8 0) .i64 .i64 Tryz.underlying54 Tryz.underlying3 hi0 hz0 n h0 (by omega) (by omega) (by rw [hz2]; omega)
    have hG1:=grownCap_ge w n 0 5
    have hG2:=grownCap_le_maxLen w n 0 5 (by unfold maxLen; omega)
    obtain ⟨G,hG⟩:∃ G,G=grownCap w n 0 5:=⟨_,rfl⟩
    rw [← hG] at hr hG1 hG2
    have hG3:=hG2
    unfold maxLen at hG3
    have hcut:∀ w':World,(Instr.slice 54 (.slice (some ⟨w.heap.size,0,none⟩) n G) none (some (.int .i64 0)) none).run Tryz.prog w'=.ok (.slice (some ⟨w.heap.size,0,none⟩) 0 G) w':=fun w'=>by
      have he:Tryz.prog.elem 54=5:=by kernel_rfl
      have hel:Tryz.prog.underlying 54=some (.slice (Tryz.prog.elem 54)):=by rw [he]; exact Tryz.underlying54
      have hsz:(sizeOf (Tryz.prog.elem 54)).run Tryz.prog w'=.ok 1 w':=by
        have hc:Tryz.prog.cellsOf 5=1:=by kernel_rfl
        rw [he]
        simp [run_sizeOf,hi0,hz1,hc]
      have:=run_slice_h (P:=Tryz.prog) w' 54 (some ⟨w.heap.size,0,none⟩) n G hel .i64 0 (by omega) (by omega)
      rw [this,hsz]
      simp [Result.andThen,sliced,Addr.add]
    have HG:=hide hG1
    have hp:¬ ((n:Int) < 0):=by omega
    have hq:(n:Int) > 0:=by omega
    clear hG hG1 hG2
    go_enter Tryz.func137,Tryz.ntmps137
    go_wp2_with (at_builtin; refine Lib.wpList_append_run _ rfl _ _ _ _ rfl _ _ rfl rfl _ _ (hr _) ?_)
    go_ret
    refine ⟨_,G,rfl,⟨rfl,.inr ⟨w.heap.size,G,_,rfl,Nat.le_refl _,heap_alloc_new w.drew _,Nat.zero_le _,by unfold maxLen; omega,?_,rfl⟩⟩,(Kp.refl No w).drew.al _⟩
    have:=HG.out
    simp [Builtin.zeroCells]
    omega
  · obtain rfl:n=0:=by omega
    go_enter Tryz.func137,Tryz.ntmps137
    go_wp2
    go_ret
    exact ⟨none,0,rfl,Own.nil _ _ _,Kp.refl _ _⟩
theorem flat_next {bss:List (List UInt8)} {k:Nat} {b:List UInt8} (h:bss[k]?=some b):(bss.take (k+1)).flatten=(bss.take k).flatten ++ b:=by
  rw [List.take_add_one,h]; simp
theorem flat_le (bss:List (List UInt8)) (k:Nat):(bss.take k).flatten.length≤bss.flatten.length:=by
  have:=congrArg (fun l=>(List.flatten l).length) (List.take_append_drop k bss)
  simp only [List.flatten_append,List.length_append] at this
  omega
set_option maxHeartbeats 2000000 in
theorem scat_any {w:World} {A:Option Addr} {n c:Nat} {bss:List (List UInt8)} (h:Rws w A n bss) (hn:n≤1000000) (hl:bss.flatten.length≤1000000):Calls Tryz.prog 107 #[.slice A n c] w (OwnPost w bss.flatten):=by
  obtain ⟨i0,hi0,hz0,hz1,hz2⟩:=byte_parts
  have HL:=hide h.len
  go_enter Tryz.func107,Tryz.ntmps107
  go_wp2
  go_loop [3,11] (fun s i=>∃ k q:Nat,k≤n∧i=.int .i64 (k:Int)∧s=.int .i64 (q:Int)∧q≤1000000∧Hid (q=(bss.take k).flatten.length)) (fun _ i=>n - (intOf i).toNat)
  case atStart=>exact ⟨0,0,Nat.zero_le _,rfl,rfl,by omega,rfl⟩
  case round =>
    obtain ⟨k,q,hk,rfl,rfl,hq,HQ⟩:=hrel
    by_cases hlt:k < n
    · obtain ⟨B,off,A',m,c',bs,rfl,hc,hb,hB⟩:=h.get hlt
      have hm:=hB.len
      have hq2:q+m≤1000000:=by
        have h1:=flat_next hb
        have h2:=flat_le bss (k+1)
        rw [h1,List.length_append] at h2
        have:=HQ.out
        omega
      have HN:Hid (q+m=(bss.take (k+1)).flatten.length):=by
        show _=_
        rw [flat_next hb,List.length_append,← HQ.out,hm]
      clear hm hb
      have hq3:¬ ((q:Int)+(m:Int) < 0):=by omega
      go_wp2
      go_round
      case rel=>exact ⟨k+1,q+m,by omega,by go_num,by go_num,by omega,HN⟩
      case measure=>simp [intOf]; omega
    · obtain rfl:k=n:=by omega
      have HQ2:Hid (q=bss.flatten.length):=by
        show _=_
        rw [HQ.out,List.take_of_length_le (by have:=HL.out; omega)]
      clear HQ
      go_wp2_with fail
      refine (sgrow_nil w q hq).mono ?_
      rintro e w1 ⟨A1,c1,rfl,ho1,k1⟩
      go_wp2_with fail
      go_loopw [6,27] (fun b i wr=>∃ k' A2 m2 c2,k'≤k∧i=.int .i64 ((k':Nat):Int)∧b=.slice A2 m2 c2∧Own wr w.heap.size 5 (.slice A2 m2 c2) (bss.take k').flatten∧Kp No w wr) (fun _ i _=>k - (intOf i).toNat)
      case atStart=>exact ⟨0,A1,0,c1,Nat.zero_le _,rfl,rfl,ho1,k1⟩
      case round =>
        obtain ⟨k',A2,m2,c2,hk',rfl,rfl,ho2,k2⟩:=hrel
        by_cases hlt':k' < k
        · obtain ⟨B,off,A',m,c',bs,rfl,hc,hb,hB⟩:=(h.no k2).get hlt'
          have hfl:(bss.take k').flatten.length+bs.length≤1000000:=by
            have h1:=flat_next hb
            have h2:=flat_le bss (k'+1)
            rw [h1,List.length_append] at h2
            omega
          have HE:=hide (flat_next hb)
          clear hb
          go_wp2_with (first
            | (at_builtin
               refine wpList_app rfl (.tmp 31) (.tmp 32) _ rfl i0 Tryz.underlying54 hi0 hz0 hz1 hz2 rfl ho2 rfl hB (by omega) k2.size ?_
               intro A3 n3 c3 w3 ha))
          go_round
          case rel=>exact ⟨k'+1,A3,n3,c3,by omega,by go_num,rfl,by rw [HE.out]; exact ha.own,ha.keeps ho2 k2⟩
          case measure=>simp [intOf]; omega
        · obtain rfl:k'=k:=by omega
          rw [List.take_of_length_le (by have:=HL.out; omega)] at ho2
          go_wp2
          go_ret
          exact ⟨A2,m2,c2,rfl,ho2,k2⟩
end Go.Proofs.YtnfcfdhlmeimhaaGreat
