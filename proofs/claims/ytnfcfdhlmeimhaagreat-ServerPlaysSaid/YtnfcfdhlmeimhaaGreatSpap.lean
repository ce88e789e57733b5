/- Requests and replies in plain words: which are right, their bytes, and what bytes are read as. No program is spoken of; Package wire's Name and Right and the document's, as contracts over memory; Right of package wire and of the document, and the law's to, as contracts over memory; Package wire's Request.Bytes and the document's, and the law's to, as contracts over memory. -/
import Derived.Test.YtnfcfdhlmeimhaaGreatSpae
import Derived.Test.YtnfcfdhlmeimhaaGreatSpac
import Derived.Deep.RegionHeld3
namespace Go.Proofs.YtnfcfdhlmeimhaaGreat
set_option linter.unusedVariables false
set_option linter.unusedSimpArgs false
set_option maxRecDepth 20000
/-- A kind's name. -/
def nmK (k:Int):ByteArray :=
 if k=1 then ⟨#[112,105,110,103]⟩ else if k=2 then ⟨#[112,117,116]⟩ else if k=3 then ⟨#[103,101,116]⟩ else if k=4 then ⟨#[104,101,108,112]⟩
 else if k=5 then ⟨#[100,114,111,112]⟩ else if k=6 then ⟨#[99,104,101,99,107]⟩ else ⟨#[]⟩
theorem nmK_none {k:Int} (h:k < 1∨6 < k):nmK k=⟨#[]⟩:=by
 unfold nmK
 rw [if_neg (by omega),if_neg (by omega),if_neg (by omega),if_neg (by omega),if_neg (by omega),if_neg (by omega)]
/-- A request: its number, kind, name, lost slot and data. -/
structure Rq where
 num:Nat
 kind:Int
 s:Nat
 lost:Nat
 data:List UInt8
/-- Is a request of this kind right, with this slot and so many bytes? -/
def RgtB (k:Int) (lost n:Nat):Bool:=decide (1≤k∧k≤6∧(k=2∨n=0)∧(k=4∨lost=0))
def Rq.rgt (q:Rq):Bool:=RgtB q.kind q.lost q.data.length
structure Rq.Fit (q:Rq):Prop where
 num:q.num < 18446744073709551616
 s:q.s < N96
 lost:q.lost < 65536
def Rq.bytes (q:Rq):List UInt8:=numB q.kind.toNat 1 ++ (numB q.num 8 ++ (shB q.s ++ (numB q.lost 2 ++ q.data)))
/-- The request that bytes are read as; the zero one. -/
def rqO (b:List UInt8):Rq:=⟨ofB ((b.drop 1).take 8),(ofB (b.take 1):Int),nmO (b.drop 9),ofB ((b.drop 21).take 2),b.drop 23⟩
def rq0:Rq:=⟨0,0,0,0,[]⟩
/-- Are these the bytes of a request that is right? -/
def rqE (b:List UInt8):Bool:=decide (23≤b.length) && (rqO b).rgt
theorem rqO_fit (b:List UInt8):(rqO b).Fit:=⟨ofB_take 8,nmO_lt _,ofB_take 2⟩
theorem rq0_fit:rq0.Fit:=⟨by decide,by decide,by decide⟩
theorem Rq.bytes_len (q:Rq):q.bytes.length=23+q.data.length:=by
 simp only [Rq.bytes,List.length_append,numB_length,shB_len]
 omega
theorem Rq.rgt_kind {q:Rq} (h:q.rgt=true):1≤q.kind∧q.kind≤6:=by
 unfold Rq.rgt RgtB at h
 have:=of_decide_eq_true h
 exact ⟨this.1,this.2.1⟩
theorem Rq.back {q:Rq} (hf:q.Fit) (hr:q.rgt=true):rqO q.bytes=q:=by
 have hk:=q.rgt_kind hr
 obtain ⟨hn,hs,hl⟩:=hf
 have e1:∀ x:List UInt8,(numB q.kind.toNat 1 ++ x).drop 1=x:=fun x=>List.drop_left' (numB_length _ _)
 have e2:∀ x:List UInt8,(numB q.num 8 ++ x).drop 8=x:=fun x=>List.drop_left' (numB_length _ _)
 have e3:∀ x:List UInt8,(shB q.s ++ x).drop 12=x:=fun x=>List.drop_left' (shB_len _)
 have e4:∀ x:List UInt8,(numB q.lost 2 ++ x).drop 2=x:=fun x=>List.drop_left' (numB_length _ _)
 have d9:q.bytes.drop 9=shB q.s ++ (numB q.lost 2 ++ q.data):=by
  rw [show (9:Nat)=1+8 from rfl,← List.drop_drop]
  unfold Rq.bytes
  rw [e1,e2]
 have d21:q.bytes.drop 21=numB q.lost 2 ++ q.data:=by
  rw [show (21:Nat)=9+12 from rfl,← List.drop_drop,d9,e3]
 have d23:q.bytes.drop 23=q.data:=by
  rw [show (23:Nat)=21+2 from rfl,← List.drop_drop,d21,e4]
 have t1:ofB (q.bytes.take 1)=q.kind.toNat:=by
  unfold Rq.bytes
  rw [List.take_left' (numB_length _ _),ofB_numB]
  omega
 have t8:ofB ((q.bytes.drop 1).take 8)=q.num:=by
  unfold Rq.bytes
  rw [e1,List.take_left' (numB_length _ _),ofB_numB]
  omega
 have t2:ofB ((q.bytes.drop 21).take 2)=q.lost:=by
  rw [d21,List.take_left' (numB_length _ _),ofB_numB]
  omega
 unfold rqO
 rw [t1,t8,t2,d23,d9,nm_shB hs]
 have:((q.kind.toNat:Nat):Int)=q.kind:=Int.toNat_of_nonneg (by omega)
 rw [this]
theorem Rq.read {q:Rq} (hf:q.Fit) (hr:q.rgt=true):rqE q.bytes=true:=by
 unfold rqE
 rw [Rq.back hf hr,hr,Bool.and_true]
 exact decide_eq_true (by rw [Rq.bytes_len]; omega)
/-- A reply: its number, error and data. -/
structure Rp where
 num:Nat
 e:Int
 data:List UInt8
def RpB (e:Int) (n:Nat):Bool:=decide (0≤e∧e≤255∧(e=0∨n=0))
def Rp.rgt (p:Rp):Bool:=RpB p.e p.data.length
def Rp.bytes (p:Rp):List UInt8:=numB p.num 8 ++ (numB p.e.toNat 1 ++ p.data)
def rpO (b:List UInt8):Rp:=⟨ofB (b.take 8),(ofB ((b.drop 8).take 1):Int),b.drop 9⟩
def rp0:Rp:=⟨0,0,[]⟩
def rpE (b:List UInt8):Bool:=decide (9≤b.length) && (rpO b).rgt
theorem Rp.bytes_len (p:Rp):p.bytes.length=9+p.data.length:=by
 simp only [Rp.bytes,List.length_append,numB_length]
 omega
theorem Rp.rgt_e {p:Rp} (h:p.rgt=true):0≤p.e∧p.e≤255:=by
 unfold Rp.rgt RpB at h
 have:=of_decide_eq_true h
 exact ⟨this.1,this.2.1⟩
theorem Rp.back {p:Rp} (hn:p.num < 18446744073709551616) (hr:p.rgt=true):rpO p.bytes=p:=by
 have hk:=p.rgt_e hr
 have e1:∀ x:List UInt8,(numB p.num 8 ++ x).drop 8=x:=fun x=>List.drop_left' (numB_length _ _)
 have e2:∀ x:List UInt8,(numB p.e.toNat 1 ++ x).drop 1=x:=fun x=>List.drop_left' (numB_length _ _)
 have d8:p.bytes.drop 8=numB p.e.toNat 1 ++ p.data:=by unfold Rp.bytes; rw [e1]
 have d9:p.bytes.drop 9=p.data:=by rw [show (9:Nat)=8+1 from rfl,← List.drop_drop,d8,e2]
 have t8:ofB (p.bytes.take 8)=p.num:=by
  unfold Rp.bytes
  rw [List.take_left' (numB_length _ _),ofB_numB]
  omega
 have t1:ofB ((p.bytes.drop 8).take 1)=p.e.toNat:=by
  rw [d8,List.take_left' (numB_length _ _),ofB_numB]
  omega
 unfold rpO
 rw [t8,t1,d9]
 have:((p.e.toNat:Nat):Int)=p.e:=Int.toNat_of_nonneg (by omega)
 rw [this]
theorem Rp.read {p:Rp} (hn:p.num < 18446744073709551616) (hr:p.rgt=true):rpE p.bytes=true:=by
 unfold rpE
 rw [Rp.back hn hr,hr,Bool.and_true]
 exact decide_eq_true (by rw [Rp.bytes_len]; omega)
end Go.Proofs.YtnfcfdhlmeimhaaGreat
namespace Go.Proofs.YtnfcfdhlmeimhaaGreat
open Go.RowKit
set_option linter.unusedVariables false
set_option linter.unusedSimpArgs false
set_option maxRecDepth 20000
/-- A request's value. -/
abbrev rqV (q:Rq) (u:Value):Value:=.agg #[.int .u64 (q.num:Int),.int .i64 q.kind,.int .u32 (cO q.s:Int),.int .u16 (cS q.s:Int),.int .u16 (cL q.s:Int),.int .u32 (cG q.s:Int),.int .u16 (q.lost:Int),u]
theorem name_any {w:World} (k:Int):Calls Tryz.prog 104 #[.int .i64 k] w fun e w1=>e=.returned (.string (nmK k))∧w=w1:=by
 by_cases h1:k=1
 ·subst h1
  go_enter Tryz.func104,Tryz.ntmps104
  go_wp2
  go_ret
  exact ⟨rfl,rfl⟩
 by_cases h2:k=2
 ·subst h2
  go_enter Tryz.func104,Tryz.ntmps104
  go_wp2
  go_ret
  exact ⟨rfl,rfl⟩
 by_cases h3:k=3
 ·subst h3
  go_enter Tryz.func104,Tryz.ntmps104
  go_wp2
  go_ret
  exact ⟨rfl,rfl⟩
 by_cases h4:k=4
 ·subst h4
  go_enter Tryz.func104,Tryz.ntmps104
  go_wp2
  go_ret
  exact ⟨rfl,rfl⟩
 by_cases h5:k=5
 ·subst h5
  go_enter Tryz.func104,Tryz.ntmps104
  go_wp2
  go_ret
  exact ⟨rfl,rfl⟩
 by_cases h6:k=6
 ·subst h6
  go_enter Tryz.func104,Tryz.ntmps104
  go_wp2
  go_ret
  exact ⟨rfl,rfl⟩
 have hn:nmK k=⟨#[]⟩:=nmK_none (by omega)
 have HN:=hide hn
 clear hn
 go_enter Tryz.func104,Tryz.ntmps104
 go_wp2
 go_ret
 rw [HN.out]
 exact ⟨rfl,rfl⟩
end Go.Proofs.YtnfcfdhlmeimhaaGreat
namespace Go.Proofs.YtnfcfdhlmeimhaaGreat
open Go.RowKit
set_option linter.unusedVariables false
set_option linter.unusedSimpArgs false
set_option maxRecDepth 20000
theorem ba_loop (b:ByteArray):∀ (m i:Nat) (r:List UInt8),m=b.size - i→(ByteArray.toList.loop b i r).length=r.length+m:=by
 intro m
 induction m with
 | zero =>
  intro i r hm
  rw [ByteArray.toList.loop,if_neg (by omega)]
  simp
 | succ m ih =>
  intro i r hm
  rw [ByteArray.toList.loop,if_pos (by omega),ih _ _ (by omega)]
  simp
  omega
theorem ba_empty (b:ByteArray):b.toList.isEmpty=decide (b.size=0):=by
 have h:=ba_loop b b.size 0 [] (by simp)
 have e:b.toList.length=b.size:=by unfold ByteArray.toList; rw [h]; simp
 rw [← e]
 rcases hb:b.toList with _ | ⟨x,l⟩ <;> simp
def RtPostK (w:World) (b:Bool) (e:Ending) (w1:World):Prop:=e=.returned (.bool b)∧Kp No w w1
theorem rright15_any {w:World} (q:Rq) (A:Option Addr) (n c:Nat):Calls Tryz.prog 18 #[rqV q (.slice A n c)] w (RtPostK w (RgtB q.kind q.lost n)):=by
 obtain ⟨num,k,s,l,data⟩:=q
 dsimp only
 by_cases h1:k < 1
 ·have hr:RgtB k l n=false:=decide_eq_false (by omega)
  have HR:=hide hr.symm
  clear hr
  go_enter Tryz.func18,Tryz.ntmps18
  go_wp2
  go_ret
  rw [← HR.out]
  exact ⟨rfl,Kp.alloc No w _⟩
 by_cases h6:6 < k
 ·have hr:RgtB k l n=false:=decide_eq_false (by omega)
  have HR:=hide hr.symm
  clear hr
  go_enter Tryz.func18,Tryz.ntmps18
  go_wp2
  go_ret
  rw [← HR.out]
  exact ⟨rfl,Kp.alloc No w _⟩
 by_cases h2:k=2
 ·subst h2
  by_cases hl:l=0
  ·subst hl
   have hr:RgtB 2 0 n=true:=decide_eq_true (by omega)
   have HR:=hide hr.symm
   clear hr
   go_enter Tryz.func18,Tryz.ntmps18
   go_wp2
   go_ret
   rw [← HR.out]
   exact ⟨rfl,Kp.alloc No w _⟩
  ·have hr:RgtB 2 l n=false:=decide_eq_false (by omega)
   have HR:=hide hr.symm
   have a5:((l:Int) == 0)=false:=beq_eq_false_iff_ne.2 (by omega)
   have a6:((l:Int) != 0)=true:=bne_iff_ne.2 (by omega)
   clear hr
   go_enter Tryz.func18,Tryz.ntmps18
   go_wp2
   go_ret
   rw [← HR.out]
   exact ⟨rfl,Kp.alloc No w _⟩
 by_cases hn:n=0
 ·subst hn
  by_cases h4:k=4
  ·subst h4
   have hr:RgtB 4 l 0=true:=decide_eq_true (by omega)
   have HR:=hide hr.symm
   clear hr
   go_enter Tryz.func18,Tryz.ntmps18
   go_wp2
   go_ret
   rw [← HR.out]
   exact ⟨rfl,Kp.alloc No w _⟩
  by_cases hl:l=0
  ·subst hl
   have hr:RgtB k 0 0=true:=decide_eq_true (by omega)
   have HR:=hide hr.symm
   have a1:(k == 2)=false:=beq_eq_false_iff_ne.2 h2
   have a2:(k != 2)=true:=bne_iff_ne.2 h2
   have a3:(k == 4)=false:=beq_eq_false_iff_ne.2 h4
   have a4:(k != 4)=true:=bne_iff_ne.2 h4
   clear hr
   go_enter Tryz.func18,Tryz.ntmps18
   go_wp2
   go_ret
   rw [← HR.out]
   exact ⟨rfl,Kp.alloc No w _⟩
  ·have hr:RgtB k l 0=false:=decide_eq_false (by omega)
   have HR:=hide hr.symm
   have a1:(k == 2)=false:=beq_eq_false_iff_ne.2 h2
   have a2:(k != 2)=true:=bne_iff_ne.2 h2
   have a3:(k == 4)=false:=beq_eq_false_iff_ne.2 h4
   have a4:(k != 4)=true:=bne_iff_ne.2 h4
   have a5:((l:Int) == 0)=false:=beq_eq_false_iff_ne.2 (by omega)
   have a6:((l:Int) != 0)=true:=bne_iff_ne.2 (by omega)
   clear hr
   go_enter Tryz.func18,Tryz.ntmps18
   go_wp2
   go_ret
   rw [← HR.out]
   exact ⟨rfl,Kp.alloc No w _⟩
 ·have hr:RgtB k l n=false:=decide_eq_false (by omega)
  have HR:=hide hr.symm
  have a1:(k == 2)=false:=beq_eq_false_iff_ne.2 h2
  have a2:(k != 2)=true:=bne_iff_ne.2 h2
  have a7:(0:Int) < (n:Int):=by omega
  have a8:decide ((0:Int) < (n:Int))=true:=decide_eq_true a7
  clear hr
  go_enter Tryz.func18,Tryz.ntmps18
  go_wp2
  go_ret
  rw [← HR.out]
  exact ⟨rfl,Kp.alloc No w _⟩
theorem right15_any {w:World} (q:Rq) (A:Option Addr) (n c:Nat):Calls Tryz.prog 60 #[rqV q (.slice A n c)] w (RtPostK w (RgtB q.kind q.lost n)):=by
 obtain ⟨num,k,s,l,data⟩:=q
 dsimp only
 -- what stands behind both tests
 have hk:∀ (h:(k=2∨n=0)∧(k=4∨l=0)),(!(nmK k).toList.isEmpty)=RgtB k l n:=by
  intro h
  by_cases h1:k < 1∨6 < k
  ·rw [nmK_none h1,show RgtB k l n=false from decide_eq_false (by omega)]
   rw [ba_empty]
   rfl
  ·rw [show RgtB k l n=true from decide_eq_true (by omega)]
   obtain ⟨j,rfl⟩:∃ j:Nat,k=j:=⟨k.toNat,by omega⟩
   have hj:j≤6:=by omega
   have hj1:1≤j:=by omega
   match j,hj,hj1 with
   | 1,_,_ | 2,_,_ | 3,_,_ | 4,_,_ | 5,_,_ | 6,_,_=>rw [ba_empty]; rfl
   | j+7,h,_=>omega
 by_cases h2:k=2
 ·subst h2
  by_cases hl:l=0
  ·subst hl
   have hr:=hk ⟨.inl rfl,.inr rfl⟩
   have HR:=hide hr
   clear hr hk
   go_enter Tryz.func60,Tryz.ntmps60
   go_wp2_with (go_at_call 104; refine (name_any _).mono ?_; rintro e w1 ⟨rfl,rfl⟩)
   all_goals (go_ret; rw [← HR.out]; exact ⟨rfl,Kp.alloc No w _⟩)
  ·have hr:RgtB 2 l n=false:=decide_eq_false (by omega)
   have HR:=hide hr.symm
   have a5:((l:Int) == 0)=false:=beq_eq_false_iff_ne.2 (by omega)
   have a6:((l:Int) != 0)=true:=bne_iff_ne.2 (by omega)
   clear hr
   go_enter Tryz.func60,Tryz.ntmps60
   go_wp2
   all_goals (go_ret; rw [← HR.out]; exact ⟨rfl,Kp.alloc No w _⟩)
 by_cases hn:n=0
 ·subst hn
  by_cases h4:k=4
  ·subst h4
   have hr:=hk ⟨.inr rfl,.inl rfl⟩
   have HR:=hide hr
   clear hr hk
   go_enter Tryz.func60,Tryz.ntmps60
   go_wp2_with (go_at_call 104; refine (name_any _).mono ?_; rintro e w1 ⟨rfl,rfl⟩)
   all_goals (go_ret; rw [← HR.out]; exact ⟨rfl,Kp.alloc No w _⟩)
  by_cases hl:l=0
  ·subst hl
   have hr:=hk ⟨.inr rfl,.inr rfl⟩
   have HR:=hide hr
   have a1:(k == 2)=false:=beq_eq_false_iff_ne.2 h2
   have a2:(k != 2)=true:=bne_iff_ne.2 h2
   have a3:(k == 4)=false:=beq_eq_false_iff_ne.2 h4
   have a4:(k != 4)=true:=bne_iff_ne.2 h4
   clear hr hk
   go_enter Tryz.func60,Tryz.ntmps60
   go_wp2_with (go_at_call 104; refine (name_any _).mono ?_; rintro e w1 ⟨rfl,rfl⟩)
   all_goals (go_ret; rw [← HR.out]; exact ⟨rfl,Kp.alloc No w _⟩)
  ·have hr:RgtB k l 0=false:=decide_eq_false (by omega)
   have HR:=hide hr.symm
   have a1:(k == 2)=false:=beq_eq_false_iff_ne.2 h2
   have a2:(k != 2)=true:=bne_iff_ne.2 h2
   have a3:(k == 4)=false:=beq_eq_false_iff_ne.2 h4
   have a4:(k != 4)=true:=bne_iff_ne.2 h4
   have a5:((l:Int) == 0)=false:=beq_eq_false_iff_ne.2 (by omega)
   have a6:((l:Int) != 0)=true:=bne_iff_ne.2 (by omega)
   clear hr
   go_enter Tryz.func60,Tryz.ntmps60
   go_wp2
   all_goals (go_ret; rw [← HR.out]; exact ⟨rfl,Kp.alloc No w _⟩)
 ·have hr:RgtB k l n=false:=decide_eq_false (by omega)
  have HR:=hide hr.symm
  have a1:(k == 2)=false:=beq_eq_false_iff_ne.2 h2
  have a2:(k != 2)=true:=bne_iff_ne.2 h2
  have a7:(0:Int) < (n:Int):=by omega
  have a8:decide ((0:Int) < (n:Int))=true:=decide_eq_true a7
  clear hr
  go_enter Tryz.func60,Tryz.ntmps60
  go_wp2
  go_ret
  rw [← HR.out]
  exact ⟨rfl,Kp.alloc No w _⟩
end Go.Proofs.YtnfcfdhlmeimhaaGreat
namespace Go.Proofs.YtnfcfdhlmeimhaaGreat
open Go.RowKit
set_option linter.unusedVariables false
set_option linter.unusedSimpArgs false
set_option maxRecDepth 20000
/-- Block b is eight cells of the type t that hold the request q with its data u. -/
def BxQ (t:TypeId) (w:World) (b:Nat) (q:Rq) (u:Value):Prop :=
 w.heap[b]?=some (.cells #[.int .u64 (q.num:Int),.int .i64 q.kind,.int .u32 (cO q.s:Int),.int .u16 (cS q.s:Int),.int .u16 (cL q.s:Int),.int .u32 (cG q.s:Int),.int .u16 (q.lost:Int),u] t (0,0))
section
variable {t:TypeId} {w w1:World} {b:Nat} {q:Rq} {u:Value}
theorem BxQ.lt (h:BxQ t w b q u):b < w.heap.size:=(Array.getElem?_eq_some_iff.1 h).1
theorem BxQ.keep {S:Nat→Prop} (h:BxQ t w b q u) (hk:Kp S w w1) (hb:¬ S b):BxQ t w1 b q u:=(hk.block b h.lt hb).trans h
theorem BxQ.no (h:BxQ t w b q u) (hk:Kp No w w1):BxQ t w1 b q u:=h.keep hk fun f=>f
theorem BxQ.new (w:World) (t:TypeId) (q:Rq) (u:Value):BxQ t (w.alloc (.cells #[.int .u64 (q.num:Int),.int .i64 q.kind,.int .u32 (cO q.s:Int),.int .u16 (cS q.s:Int),.int .u16 (cL q.s:Int),.int .u32 (cG q.s:Int),.int .u16 (q.lost:Int),u] t)) w.heap.size q u:=heap_alloc_new w _
theorem BxQ.cells (h:BxQ t w b q u):w.cell? ⟨b,0,none⟩=some (.int .u64 (q.num:Int))∧w.cell? ⟨b,1,none⟩=some (.int .i64 q.kind)∧w.cell? ⟨b,2,none⟩=some (.int .u32 (cO q.s:Int))∧w.cell? ⟨b,3,none⟩=some (.int .u16 (cS q.s:Int)) ∧
  w.cell? ⟨b,4,none⟩=some (.int .u16 (cL q.s:Int))∧w.cell? ⟨b,5,none⟩=some (.int .u32 (cG q.s:Int))∧w.cell? ⟨b,6,none⟩=some (.int .u16 (q.lost:Int))∧w.cell? ⟨b,7,none⟩=some u:=by
 refine ⟨?_,?_,?_,?_,?_,?_,?_,?_⟩ <;> (rw [cell_of_row w b _ _ _ _ h]; rfl)
end
theorem rows5 {w1 w2 w3 w4:World} {b1 b2 b3 b4:Nat} {v1 v2 v3 v4 v5:Value} {x1 x2 x3 x4 x5:List UInt8} (h1:Own w1 b1 5 v1 x1) (h2:Own w2 b2 5 v2 x2) (h3:Own w3 b3 5 v3 x3) (h4:Own w4 b4 5 v4 x4) (h5:Bts w4 v5 x5)
  (k2:Kp No w1 w2) (k3:Kp No w2 w3) (k4:Kp No w3 w4):RowsAt (w4.alloc (.cells #[v1,v2,v3,v4,v5] 54)) w4.heap.size [v1,v2,v3,v4,v5] [x1,x2,x3,x4,x5]:=by
 refine RowsAt.new w4 _ _ rfl ?_
 intro j v bs hj hb
 match j,hj,hb with
 | 0,hj,hb =>
  simp at hj hb
  subst hj hb
  exact ((h1.no k2).no k3).no k4 |>.bts
 | 1,hj,hb =>
  simp at hj hb
  subst hj hb
  exact (h2.no k3).no k4 |>.bts
 | 2,hj,hb =>
  simp at hj hb
  subst hj hb
  exact (h3.no k4).bts
 | 3,hj,hb =>
  simp at hj hb
  subst hj hb
  exact h4.bts
 | 4,hj,hb =>
  simp at hj hb
  subst hj hb
  exact h5
 | j+5,hj,_=>simp at hj
theorem kept8 {W w1:World} {b:Nat} {x0 x1 x2 x3 x4 x5 x6 x7:Value} {S:Nat→Prop} (hk:Kp S W w1) (hb:¬ S b)
  (h:W.cell? ⟨b,0,none⟩=some x0∧W.cell? ⟨b,1,none⟩=some x1∧W.cell? ⟨b,2,none⟩=some x2∧W.cell? ⟨b,3,none⟩=some x3∧W.cell? ⟨b,4,none⟩=some x4∧W.cell? ⟨b,5,none⟩=some x5∧W.cell? ⟨b,6,none⟩=some x6∧W.cell? ⟨b,7,none⟩=some x7) :
  w1.cell? ⟨b,0,none⟩=some x0∧w1.cell? ⟨b,1,none⟩=some x1∧w1.cell? ⟨b,2,none⟩=some x2∧w1.cell? ⟨b,3,none⟩=some x3∧w1.cell? ⟨b,4,none⟩=some x4∧w1.cell? ⟨b,5,none⟩=some x5∧w1.cell? ⟨b,6,none⟩=some x6∧w1.cell? ⟨b,7,none⟩=some x7 :=
 ⟨hk.cell h.1 hb,hk.cell h.2.1 hb,hk.cell h.2.2.1 hb,hk.cell h.2.2.2.1 hb,hk.cell h.2.2.2.2.1 hb,hk.cell h.2.2.2.2.2.1 hb,hk.cell h.2.2.2.2.2.2.1 hb,hk.cell h.2.2.2.2.2.2.2 hb⟩
set_option maxHeartbeats 4000000 in
theorem rbytes15_any {w:World} (q:Rq) {A:Option Addr} {n c:Nat} (hf:q.Fit) (hr:q.rgt=true) (hb:Bts w (.slice A n c) q.data) (hl:n≤100000):Calls Tryz.prog 19 #[rqV q (.slice A n c)] w (OwnPost w q.bytes):=by
 have hk:=q.rgt_kind hr
 obtain ⟨hn,hs,hlo⟩:=hf
 have z0:=cO_lt hs
 have z1:=cS_lt q.s
 have z2:=cL_lt q.s
 have z3:=cG_lt q.s
 have HL:=hide hb.len
 have HB:=hide (fun w' (k:Kp No w w')=>hb.no k)
 have HE:Hid ([numB q.kind.toNat 1,numB q.num 8,shardB (cO q.s) (cS q.s) (cL q.s) (cG q.s),numB q.lost 2,q.data].flatten=q.bytes):=by show _=_; simp [Rq.bytes,shB]
 obtain ⟨num,k,s,l,data⟩:=q
 dsimp only at *
 obtain ⟨j,rfl⟩:∃ j:Nat,k=j:=⟨k.toNat,by omega⟩
 rw [Int.toNat_natCast] at HE
 have hj1:j < 18446744073709551616:=by omega
 have hj2:l < 18446744073709551616:=by omega
 have q0:IntKind.u64.wrap (j:Int)=j:=IntWalk.u64_in _ (by omega)
 have q1:IntKind.u64.wrap (l:Int)=l:=IntWalk.u64_in _ (by omega)
 have HD:Hid (data.length≤100000):=by show _≤_; rw [← HL.out]; exact hl
 clear hr hb hk hlo hs hl HL
 have HX:=hide (BxQ.new w 56 ⟨num,j,s,l,data⟩ (.slice A n c)).cells
 dsimp only at HX
 have K8:IsK 8 8:=⟨by omega,by omega⟩
 have K1:IsK 1 1:=⟨by omega,by omega⟩
 have K2:IsK 2 2:=⟨by omega,by omega⟩
 go_enter Tryz.func19,Tryz.ntmps19
 go_wp2_with fail
 go_region_held3 (fun w'=>w'.cell? ⟨w.heap.size,0,none⟩=some (.int .u64 num)∧w'.cell? ⟨w.heap.size,1,none⟩=some (.int .i64 j)∧w'.cell? ⟨w.heap.size,2,none⟩=some (.int .u32 (cO s))∧w'.cell? ⟨w.heap.size,3,none⟩=some (.int .u16 (cS s))∧w'.cell? ⟨w.heap.size,4,none⟩=some (.int .u16 (cL s))∧w'.cell? ⟨w.heap.size,5,none⟩=some (.int .u32 (cG s))∧w'.cell? ⟨w.heap.size,6,none⟩=some (.int .u16 l)∧w'.cell? ⟨w.heap.size,7,none⟩=some (.slice A n c)) (first | assumption | exact kept8 ((Kp.refl No _).drew) (fun f=>f) HX.out | go_keep)
  (first
   | (go_at_call 40; ((with_reducible refine (rnum_any j 1 1 hj1 K1).mono ?_); rintro e w1 ⟨A1,n1,c1,rfl,ho1,hk1⟩); have s1:=kept8 hk1 (fun f=>f) (by assumption))
   | (go_at_call 40; ((with_reducible refine (rnum_any num 8 8 hn K8).mono ?_); rintro e w2 ⟨A2,n2,c2,rfl,ho2,hk2⟩); have s2:=kept8 hk2 (fun f=>f) (by assumption))
   | (go_at_call 41; ((with_reducible refine (rshard_any (cO s) (cS s) (cL s) (cG s) z0 z1 z2 z3).mono ?_); rintro e w3 ⟨A3,n3,c3,rfl,ho3,hk3⟩); have s3:=kept8 hk3 (fun f=>f) (by assumption))
   | (go_at_call 40; ((with_reducible refine (rnum_any l 2 2 hj2 K2).mono ?_); rintro e w4 ⟨A4,n4,c4,rfl,ho4,hk4⟩); have s4:=kept8 hk4 (fun f=>f) (by assumption))
   | (go_at_call 39; ((with_reducible refine (join_any (n:=5) (rows5 ho1 ho2 ho3 ho4 (HB.out _ ((Kp.alloc No w _).drew.trans' (hk1.trans' (hk2.trans' (hk3.trans' hk4))))) hk2 hk3 hk4) rfl (by simp) (by simp [numB_length,shardB]; have:=HD.out; omega)).mono ?_); rintro e w5 ⟨A5,n5,c5,rfl,ho5,hk5⟩); have s5:=kept8 (hk4.trans ((Kp.alloc _ _ _).trans (hk5.of_no _))) (fun f=>f) (by assumption)))
 go_wp2
 go_ret
 have k5:Kp No w w5:=(Kp.alloc No w _).drew.trans' (hk1.trans' (hk2.trans' (hk3.trans' (hk4.trans' ((Kp.alloc No w4 _).trans' hk5)))))
 rw [HE.out] at ho5
 refine ⟨A5,n5,c5,rfl,ho5.rebase fun k hk=>?_,k5⟩
 have a1:=ho5.ge k hk
 have a2:=((Kp.alloc No w _).drew.trans' (hk1.trans' (hk2.trans' (hk3.trans' hk4)))).size
 simp at a1
 omega
end Go.Proofs.YtnfcfdhlmeimhaaGreat
