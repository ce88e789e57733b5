/- A vault in memory; package vault's Cell, Has, Len, made: contracts, and those of a nil vault and of one that nobody made; Package pack's Reader where bytes are missing: it is torn behind a shard's name. -/
import Derived.Test.YtnfcfdhlmeimhaaGreatSpah
import Derived.Test.YtnfcfdhlmeimhaaGreatSpai
import Derived.Test.YtnfcfdhlmeimhaaGreatSpae
import Derived.Test.YtnfcfdhlmeimhaaGreatSpad
namespace Go.Proofs.YtnfcfdhlmeimhaaGreat
open Go.RowKit
set_option linter.unusedVariables false
set_option linter.unusedSimpArgs false
set_option maxRecDepth 20000
/-- A vault's own block. -/
def VtB (w:World) (g gd b:Nat):Prop:=w.heap[g]?=some (.cells #[.pointer (some ⟨gd,0,none⟩),.map (some b)] 126 (0,0))
section
variable {w w1:World} {g gd b:Nat} {S:Nat→Prop}
theorem VtB.lt (h:VtB w g gd b):g < w.heap.size:=(Array.getElem?_eq_some_iff.1 h).1
theorem VtB.keep (h:VtB w g gd b) (hk:Kp S w w1) (hS:¬ S g):VtB w1 g gd b:=(hk.block g h.lt hS).trans h
theorem VtB.no (h:VtB w g gd b) (hk:Kp No w w1):VtB w1 g gd b:=h.keep hk fun f=>f
theorem VtB.c0 (h:VtB w g gd b):w.cell? ⟨g,0,none⟩=some (.pointer (some ⟨gd,0,none⟩)):=by rw [cell_of_row w g 0 _ _ _ h]; rfl
theorem VtB.c1 (h:VtB w g gd b):w.cell? ⟨g,1,none⟩=some (.map (some b)):=by rw [cell_of_row w g 1 _ _ _ h]; rfl
theorem VtB.new (w:World) (gd b:Nat):VtB (w.alloc (.cells #[.pointer (some ⟨gd,0,none⟩),.map (some b)] 126)) w.heap.size gd b:=heap_alloc_new w _
theorem Bx4.new (w:World) (x0 x1 x2 x3:Value):Box4 (w.alloc (.cells #[x0,x1,x2,x3] 53)) w.heap.size x0 x1 x2 x3:=heap_alloc_new w _
end
/-- The cell that Cell tells. -/
def celZ (L:List (Nat × Nat)) (s:Nat):Int:=if kn L s=true then (cel L s:Int) else -1
theorem celZ_yes {L:List (Nat × Nat)} {s:Nat} (h:kn L s=true):celZ L s=(cel L s:Int):=by unfold celZ; rw [if_pos h]
theorem celZ_no {L:List (Nat × Nat)} {s:Nat} (h:kn L s=false):celZ L s=-1:=by unfold celZ; rw [if_neg (by rw [h]; simp)]
def CelPost (w:World) (z:Int) (e:Ending) (w1:World):Prop:=e=.returned (.int .i64 z)∧Kp No w w1
set_option maxHeartbeats 1000000 in
theorem vcell_any {w:World} {g gd b s:Nat} {L:List (Nat × Nat)} (hb:VtB w g gd b) (hm:MpAt w b L) (hs:s < N96):Calls Tryz.prog 92 #[.pointer (some ⟨g,0,none⟩),shV s] w (CelPost w (celZ L s)):=by
 have hl:∀ w',Kp No w w'→(Instr.lookup 124 (.map (some b)) (shV s) true).run Tryz.prog w'=.ok (.tuple #[.int .i64 (if kn L s=true then (cel L s:Int) else 0),.bool (kn L s)]) w':=fun w' hk=>(hm.no hk).look hs
 have HL:=hide hl
 have h1:=hb.c1
 clear hl hm hb
 unfold celZ
 unfold shV at HL ⊢
 generalize (cel L s:Int)=z at HL ⊢
 generalize cO s=a0 at HL ⊢
 generalize cS s=a1 at HL ⊢
 generalize cL s=a2 at HL ⊢
 generalize cG s=a3 at HL ⊢
 unfold CelPost
 cases hk:kn L s
 ·have hr:∀ w',Kp No w w'→(Instr.lookup 124 (.map (some b)) (.agg #[.int .u32 (a0:Int),.int .u16 (a1:Int),.int .u16 (a2:Int),.int .u32 (a3:Int)]) true).run Tryz.prog w'=.ok (.tuple #[.int .i64 0,.bool false]) w':=fun w' hk'=>by
   have:=HL.out w' hk'
   rwa [hk,if_neg (by simp)] at this
  have HR:=hide hr
  clear hr HL
  go_enter Tryz.func92,Tryz.ntmps92
  go_wp2_with fail
  obtain ⟨q0,q1,q2,q3⟩:=(Bx4.new w (.int .u32 (a0:Int)) (.int .u16 (a1:Int)) (.int .u16 (a2:Int)) (.int .u32 (a3:Int))).cell
  have qg:=kp_cell h1 (Kp.alloc No w (.cells #[.int .u32 (a0:Int),.int .u16 (a1:Int),.int .u16 (a2:Int),.int .u32 (a3:Int)] 53))
  refine wp_region_noPanic ?_
  refine wp_region_held_drew (S:=fun w'=>w'.cell? ⟨g,1,none⟩=some (.map (some b))∧w'.cell? ⟨w.heap.size,0,none⟩=some (.int .u32 (a0:Int))∧w'.cell? ⟨w.heap.size,1,none⟩=some (.int .u16 (a1:Int))∧w'.cell? ⟨w.heap.size,2,none⟩=some (.int .u16 (a2:Int))∧w'.cell? ⟨w.heap.size,3,none⟩=some (.int .u32 (a3:Int))∧(Instr.lookup 124 (.map (some b)) (.agg #[.int .u32 (a0:Int),.int .u16 (a1:Int),.int .u16 (a2:Int),.int .u32 (a3:Int)]) true).run Tryz.prog w'=.ok (.tuple #[.int .i64 0,.bool false]) w') (by kernel_rfl) (⟨qg,q0,q1,q2,q3,HR.out _ (Kp.alloc No w _).drew⟩) (fun hHeld=>?_)
  refine wpAnyH_take (i:=0) (v:=?vn0) (oi:=?on0) ?hn0 (by kernel_rfl) (by kernel_rfl) (by kernel_rfl) (fun _ _ _ h=>h) (Or.inl ⟨?wn0,?yn0⟩) hHeld ?rn0
  case hn0=>simp only [gA0,gA1,gA2]; rfl
  case wn0=>rfl
  case yn0=>intro w hSw; (try dsimp only at hSw); go_simp; (try with_reducible rfl)
  simp only [Act.put,sA0,sA1,sA2]
  refine wpAnyH_take (i:=1) (v:=?vn1) (oi:=?on1) ?hn1 (by kernel_rfl) (by kernel_rfl) (by kernel_rfl) (fun _ _ _ h=>h) (Or.inl ⟨?wn1,?yn1⟩) hHeld ?rn1
  case hn1=>simp only [gA0,gA1,gA2]; rfl
  case wn1=>rfl
  case yn1=>intro w hSw; (try dsimp only at hSw); go_simp; (try with_reducible rfl)
  simp only [Act.put,sA0,sA1,sA2]
  refine wpAnyH_take (i:=2) (v:=?vn2) (oi:=?on2) ?hn2 (by kernel_rfl) (by kernel_rfl) (by kernel_rfl) (fun _ _ _ h=>h) (Or.inl ⟨?wn2,?yn2⟩) hHeld ?rn2
  case hn2=>simp only [gA0,gA1,gA2]; rfl
  case wn2=>rfl
  case yn2=>intro w hSw; (try dsimp only at hSw); go_simp; (try with_reducible rfl)
  simp only [Act.put,sA0,sA1,sA2]
  refine wpAnyH_take (i:=3) (v:=?vn3) (oi:=?on3) ?hn3 (by kernel_rfl) (by kernel_rfl) (by kernel_rfl) (fun _ _ _ h=>h) (Or.inl ⟨?wn3,?yn3⟩) hHeld ?rn3
  case hn3=>simp only [gA0,gA1,gA2]; rfl
  case wn3=>rfl
  case yn3=>intro w hSw; (try dsimp only at hSw); go_simp; (try with_reducible rfl)
  simp only [Act.put,sA0,sA1,sA2]
  refine wpAnyH_take (i:=4) (v:=?vn4) (oi:=?on4) ?hn4 (by kernel_rfl) (by kernel_rfl) (by kernel_rfl) (fun _ _ _ h=>h) (Or.inl ⟨?wn4,?yn4⟩) hHeld ?rn4
  case hn4=>simp only [gA0,gA1,gA2]; rfl
  case wn4=>rfl
  case yn4=>intro w hSw; (try dsimp only at hSw); go_simp; (try with_reducible rfl)
  simp only [Act.put,sA0,sA1,sA2]
  refine wpAnyH_take (i:=5) (v:=?vn5) (oi:=?on5) ?hn5 (by kernel_rfl) (by kernel_rfl) (by kernel_rfl) (fun _ _ _ h=>h) (Or.inl ⟨?wn5,?yn5⟩) hHeld ?rn5
  case hn5=>simp only [gA0,gA1,gA2]; rfl
  case wn5=>rfl
  case yn5=>intro w hSw; (try dsimp only at hSw); go_simp; (try with_reducible rfl)
  simp only [Act.put,sA0,sA1,sA2]
  refine wpAnyH_take (i:=6) (v:=?vn6) (oi:=?on6) ?hn6 (by kernel_rfl) (by kernel_rfl) (by kernel_rfl) (fun _ _ _ h=>h) (Or.inl ⟨?wn6,?yn6⟩) hHeld ?rn6
  case hn6=>simp only [gA0,gA1,gA2]; rfl
  case wn6=>rfl
  case yn6=>intro w hSw; (try dsimp only at hSw); go_simp; (try with_reducible rfl)
  simp only [Act.put,sA0,sA1,sA2]
  refine wpAnyH_take (i:=7) (v:=?vn7) (oi:=?on7) ?hn7 (by kernel_rfl) (by kernel_rfl) (by kernel_rfl) (fun _ _ _ h=>h) (Or.inl ⟨?wn7,?yn7⟩) hHeld ?rn7
  case hn7=>simp only [gA0,gA1,gA2]; rfl
  case wn7=>rfl
  case yn7=>intro w hSw; (try dsimp only at hSw); go_simp; (try with_reducible rfl)
  simp only [Act.put,sA0,sA1,sA2]
  refine wpAnyH_take (i:=8) (v:=?vn8) (oi:=?on8) ?hn8 (by kernel_rfl) (by kernel_rfl) (by kernel_rfl) (fun _ _ _ h=>h) (Or.inl ⟨?wn8,?yn8⟩) hHeld ?rn8
  case hn8=>simp only [gA0,gA1,gA2]; rfl
  case wn8=>rfl
  case yn8=>intro w hSw; (try dsimp only at hSw); go_simp; (try with_reducible rfl)
  simp only [Act.put,sA0,sA1,sA2]
  refine wpAnyH_take (i:=9) (v:=?vn9) (oi:=?on9) ?hn9 (by kernel_rfl) (by kernel_rfl) (by kernel_rfl) (fun _ _ _ h=>h) (Or.inl ⟨?wn9,?yn9⟩) hHeld ?rn9
  case hn9=>simp only [gA0,gA1,gA2]; rfl
  case wn9=>rfl
  case yn9=>intro w hSw; (try dsimp only at hSw); go_simp; (try with_reducible rfl)
  simp only [Act.put,sA0,sA1,sA2]
  refine wpAnyH_take (i:=10) (v:=?vn10) (oi:=?on10) ?hn10 (by kernel_rfl) (by kernel_rfl) (by kernel_rfl) (fun _ _ _ h=>h) (Or.inl ⟨?wn10,?yn10⟩) hHeld ?rn10
  case hn10=>simp only [gA0,gA1,gA2]; rfl
  case wn10=>rfl
  case yn10=>intro w hSw; (try dsimp only at hSw); go_simp; (try with_reducible rfl)
  simp only [Act.put,sA0,sA1,sA2]
  refine wpAnyH_done (by kernel_rfl) ?_ _
  refine NoPanic.normal ?_
  go_wp2_with fail
  go_ret
  exact ⟨rfl,(Kp.alloc No w _).drew⟩
 ·have hr:∀ w',Kp No w w'→(Instr.lookup 124 (.map (some b)) (.agg #[.int .u32 (a0:Int),.int .u16 (a1:Int),.int .u16 (a2:Int),.int .u32 (a3:Int)]) true).run Tryz.prog w'=.ok (.tuple #[.int .i64 z,.bool true]) w':=fun w' hk'=>by
   have:=HL.out w' hk'
   rwa [hk,if_pos rfl] at this
  have HR:=hide hr
  clear hr HL
  go_enter Tryz.func92,Tryz.ntmps92
  go_wp2_with fail
  obtain ⟨q0,q1,q2,q3⟩:=(Bx4.new w (.int .u32 (a0:Int)) (.int .u16 (a1:Int)) (.int .u16 (a2:Int)) (.int .u32 (a3:Int))).cell
  have qg:=kp_cell h1 (Kp.alloc No w (.cells #[.int .u32 (a0:Int),.int .u16 (a1:Int),.int .u16 (a2:Int),.int .u32 (a3:Int)] 53))
  refine wp_region_noPanic ?_
  refine wp_region_held_drew (S:=fun w'=>w'.cell? ⟨g,1,none⟩=some (.map (some b))∧w'.cell? ⟨w.heap.size,0,none⟩=some (.int .u32 (a0:Int))∧w'.cell? ⟨w.heap.size,1,none⟩=some (.int .u16 (a1:Int))∧w'.cell? ⟨w.heap.size,2,none⟩=some (.int .u16 (a2:Int))∧w'.cell? ⟨w.heap.size,3,none⟩=some (.int .u32 (a3:Int))∧(Instr.lookup 124 (.map (some b)) (.agg #[.int .u32 (a0:Int),.int .u16 (a1:Int),.int .u16 (a2:Int),.int .u32 (a3:Int)]) true).run Tryz.prog w'=.ok (.tuple #[.int .i64 z,.bool true]) w') (by kernel_rfl) (⟨qg,q0,q1,q2,q3,HR.out _ (Kp.alloc No w _).drew⟩) (fun hHeld=>?_)
  refine wpAnyH_take (i:=0) (v:=?vy0) (oi:=?oy0) ?hy0 (by kernel_rfl) (by kernel_rfl) (by kernel_rfl) (fun _ _ _ h=>h) (Or.inl ⟨?wy0,?yy0⟩) hHeld ?ry0
  case hy0=>simp only [gA0,gA1,gA2]; rfl
  case wy0=>rfl
  case yy0=>intro w hSw; (try dsimp only at hSw); go_simp; (try with_reducible rfl)
  simp only [Act.put,sA0,sA1,sA2]
  refine wpAnyH_take (i:=1) (v:=?vy1) (oi:=?oy1) ?hy1 (by kernel_rfl) (by kernel_rfl) (by kernel_rfl) (fun _ _ _ h=>h) (Or.inl ⟨?wy1,?yy1⟩) hHeld ?ry1
  case hy1=>simp only [gA0,gA1,gA2]; rfl
  case wy1=>rfl
  case yy1=>intro w hSw; (try dsimp only at hSw); go_simp; (try with_reducible rfl)
  simp only [Act.put,sA0,sA1,sA2]
  refine wpAnyH_take (i:=2) (v:=?vy2) (oi:=?oy2) ?hy2 (by kernel_rfl) (by kernel_rfl) (by kernel_rfl) (fun _ _ _ h=>h) (Or.inl ⟨?wy2,?yy2⟩) hHeld ?ry2
  case hy2=>simp only [gA0,gA1,gA2]; rfl
  case wy2=>rfl
  case yy2=>intro w hSw; (try dsimp only at hSw); go_simp; (try with_reducible rfl)
  simp only [Act.put,sA0,sA1,sA2]
  refine wpAnyH_take (i:=3) (v:=?vy3) (oi:=?oy3) ?hy3 (by kernel_rfl) (by kernel_rfl) (by kernel_rfl) (fun _ _ _ h=>h) (Or.inl ⟨?wy3,?yy3⟩) hHeld ?ry3
  case hy3=>simp only [gA0,gA1,gA2]; rfl
  case wy3=>rfl
  case yy3=>intro w hSw; (try dsimp only at hSw); go_simp; (try with_reducible rfl)
  simp only [Act.put,sA0,sA1,sA2]
  refine wpAnyH_take (i:=4) (v:=?vy4) (oi:=?oy4) ?hy4 (by kernel_rfl) (by kernel_rfl) (by kernel_rfl) (fun _ _ _ h=>h) (Or.inl ⟨?wy4,?yy4⟩) hHeld ?ry4
  case hy4=>simp only [gA0,gA1,gA2]; rfl
  case wy4=>rfl
  case yy4=>intro w hSw; (try dsimp only at hSw); go_simp; (try with_reducible rfl)
  simp only [Act.put,sA0,sA1,sA2]
  refine wpAnyH_take (i:=5) (v:=?vy5) (oi:=?oy5) ?hy5 (by kernel_rfl) (by kernel_rfl) (by kernel_rfl) (fun _ _ _ h=>h) (Or.inl ⟨?wy5,?yy5⟩) hHeld ?ry5
  case hy5=>simp only [gA0,gA1,gA2]; rfl
  case wy5=>rfl
  case yy5=>intro w hSw; (try dsimp only at hSw); go_simp; (try with_reducible rfl)
  simp only [Act.put,sA0,sA1,sA2]
  refine wpAnyH_take (i:=6) (v:=?vy6) (oi:=?oy6) ?hy6 (by kernel_rfl) (by kernel_rfl) (by kernel_rfl) (fun _ _ _ h=>h) (Or.inl ⟨?wy6,?yy6⟩) hHeld ?ry6
  case hy6=>simp only [gA0,gA1,gA2]; rfl
  case wy6=>rfl
  case yy6=>intro w hSw; (try dsimp only at hSw); go_simp; (try with_reducible rfl)
  simp only [Act.put,sA0,sA1,sA2]
  refine wpAnyH_take (i:=7) (v:=?vy7) (oi:=?oy7) ?hy7 (by kernel_rfl) (by kernel_rfl) (by kernel_rfl) (fun _ _ _ h=>h) (Or.inl ⟨?wy7,?yy7⟩) hHeld ?ry7
  case hy7=>simp only [gA0,gA1,gA2]; rfl
  case wy7=>rfl
  case yy7=>intro w hSw; (try dsimp only at hSw); go_simp; (try with_reducible rfl)
  simp only [Act.put,sA0,sA1,sA2]
  refine wpAnyH_take (i:=8) (v:=?vy8) (oi:=?oy8) ?hy8 (by kernel_rfl) (by kernel_rfl) (by kernel_rfl) (fun _ _ _ h=>h) (Or.inl ⟨?wy8,?yy8⟩) hHeld ?ry8
  case hy8=>simp only [gA0,gA1,gA2]; rfl
  case wy8=>rfl
  case yy8=>intro w hSw; (try dsimp only at hSw); go_simp; (try with_reducible rfl)
  simp only [Act.put,sA0,sA1,sA2]
  refine wpAnyH_take (i:=9) (v:=?vy9) (oi:=?oy9) ?hy9 (by kernel_rfl) (by kernel_rfl) (by kernel_rfl) (fun _ _ _ h=>h) (Or.inl ⟨?wy9,?yy9⟩) hHeld ?ry9
  case hy9=>simp only [gA0,gA1,gA2]; rfl
  case wy9=>rfl
  case yy9=>intro w hSw; (try dsimp only at hSw); go_simp; (try with_reducible rfl)
  simp only [Act.put,sA0,sA1,sA2]
  refine wpAnyH_take (i:=10) (v:=?vy10) (oi:=?oy10) ?hy10 (by kernel_rfl) (by kernel_rfl) (by kernel_rfl) (fun _ _ _ h=>h) (Or.inl ⟨?wy10,?yy10⟩) hHeld ?ry10
  case hy10=>simp only [gA0,gA1,gA2]; rfl
  case wy10=>rfl
  case yy10=>intro w hSw; (try dsimp only at hSw); go_simp; (try with_reducible rfl)
  simp only [Act.put,sA0,sA1,sA2]
  refine wpAnyH_done (by kernel_rfl) ?_ _
  refine NoPanic.normal ?_
  go_wp2_with fail
  go_ret
  exact ⟨rfl,(Kp.alloc No w _).drew⟩
theorem vhas_no {w:World} {p:Value} {s:Nat} (_:Unit) (hc:∀ w',Kp No w w'→Calls Tryz.prog 92 #[p,shV s] w' (CelPost w' (-1))):Calls Tryz.prog 77 #[p,shV s] w (BoolPost w false):=by
 unfold shV at hc ⊢
 generalize cO s=a0 at hc ⊢
 generalize cS s=a1 at hc ⊢
 generalize cL s=a2 at hc ⊢
 generalize cG s=a3 at hc ⊢
 have HC:=hide hc
 clear hc
 have hz:¬ ((0:Int)≤-1):=by omega
 go_enter Tryz.func77,Tryz.ntmps77
 go_wp2_with fail
 refine (HC.out _ (Kp.alloc No w _)).mono ?_
 rintro e w1 ⟨rfl,hk⟩
 go_wp2_with fail
 go_ret
 exact ⟨rfl,(Kp.alloc No w _).trans' hk⟩
theorem vhas_yes {w:World} {p:Value} {s z:Nat} (_:Unit) (hc:∀ w',Kp No w w'→Calls Tryz.prog 92 #[p,shV s] w' (CelPost w' (z:Int))):Calls Tryz.prog 77 #[p,shV s] w (BoolPost w true):=by
 unfold shV at hc ⊢
 generalize cO s=a0 at hc ⊢
 generalize cS s=a1 at hc ⊢
 generalize cL s=a2 at hc ⊢
 generalize cG s=a3 at hc ⊢
 have HC:=hide hc
 clear hc
 have hz:(0:Int)≤(z:Int):=by omega
 go_enter Tryz.func77,Tryz.ntmps77
 go_wp2_with fail
 refine (HC.out _ (Kp.alloc No w _)).mono ?_
 rintro e w1 ⟨rfl,hk⟩
 go_wp2_with fail
 go_ret
 exact ⟨rfl,(Kp.alloc No w _).trans' hk⟩
theorem vhas_any {w:World} {g gd b s:Nat} {L:List (Nat × Nat)} (hb:VtB w g gd b) (hm:MpAt w b L) (hs:s < N96):Calls Tryz.prog 77 #[.pointer (some ⟨g,0,none⟩),shV s] w (BoolPost w (kn L s)):=by
 cases hk:kn L s
 ·exact vhas_no () (s:=s) (fun w' hk'=>by have:=vcell_any (hb.no hk') (hm.no hk') hs; rwa [celZ_no hk] at this)
 ·exact vhas_yes () (s:=s) (z:=cel L s) (fun w' hk'=>by have:=vcell_any (hb.no hk') (hm.no hk') hs; rwa [celZ_yes hk] at this)
theorem vmade_any {w:World} {g gd b:Nat} (hb:VtB w g gd b):Calls Tryz.prog 76 #[.pointer (some ⟨g,0,none⟩)] w fun e w1=>e=.returned (.bool true)∧w=w1:=by
 have h0:=hb.c0
 clear hb
 go_enter Tryz.func76,Tryz.ntmps76
 go_wp2_with fail
 go_ret
 exact ⟨rfl,rfl⟩
end Go.Proofs.YtnfcfdhlmeimhaaGreat
namespace Go.Proofs.YtnfcfdhlmeimhaaGreat
open Go.RowKit
set_option linter.unusedVariables false
set_option linter.unusedSimpArgs false
set_option maxRecDepth 20000
/-- At block g lies a Reader, torn or not, that has bs left. -/
def RdQ (w:World) (F:Nat→Prop) (g:Nat) (bs:List UInt8) (tb:Bool):Prop :=
 ∃ A m c,w.heap[g]?=some (.cells #[.slice A m c,.bool tb] 183 (0,0))∧Bts w (.slice A m c) bs∧m≤c∧F g∧∀ k,(Value.slice A m c).ownBlock=some k→F k∧k≠g
section
variable {w w1:World} {F S:Nat→Prop} {g:Nat} {bs:List UInt8} {tb:Bool}
theorem RdAt.q (h:RdAt w F g bs):RdQ w F g bs false:=h
theorem RdQ.at_ (h:RdQ w F g bs false):RdAt w F g bs:=h
theorem RdQ.keep (h:RdQ w F g bs tb) (hk:Kp S w w1) (hS:∀ k,F k→¬ S k):RdQ w1 F g bs tb:=by
 obtain ⟨A,m,c,h1,h2,h3,h4,h5⟩:=h
 exact ⟨A,m,c,(hk.block g (Array.getElem?_eq_some_iff.1 h1).1 (hS g h4)).trans h1,h2.keep hk fun k hk'=>hS k (h5 k hk').1,h3,h4,h5⟩
theorem RdQ.no (h:RdQ w F g bs tb) (hk:Kp No w w1):RdQ w1 F g bs tb:=h.keep hk fun _ _ f=>f
theorem RdQ.g_lt (h:RdQ w F g bs tb):g < w.heap.size:=by
 obtain ⟨A,m,c,h1,_⟩:=h
 exact (Array.getElem?_eq_some_iff.1 h1).1
theorem RdQ.set {b j:Nat} (h:RdQ w F g bs tb) (hb:∀ k,F k→k≠b) (u:Value):RdQ (w.setCell ⟨b,j,none⟩ u) F g bs tb :=
 h.keep (Kp.setCell (S:=fun k=>k=b) (p:=⟨b,j,none⟩) rfl u) fun k hk e=>hb k hk e
end
theorem taket_any {w:World} {F:Nat→Prop} {g k:Nat} {bs:List UInt8} {tb:Bool} (h:RdQ w F g bs tb) (hk:bs.length < k) (hl:k≤8) :
  Calls Tryz.prog 101 #[.pointer (some ⟨g,0,none⟩),.int .i64 k] w fun e w1=>e=.returned (.slice none 0 0)∧RdQ w1 F g [] true∧Kp (fun b=>b=g) w w1:=by
 obtain ⟨A,m,c,h1,h2,h3,h4,h5⟩:=h
 have hm:m=bs.length:=h2.len
 have hkm:(m:Int) < k:=by omega
 have hneg:decide ((k:Int) < 0)=false:=by simp
 have hc0:w.cell? ⟨g,0,none⟩=some (.slice A m c):=by rw [cell_of_row w g 0 _ _ _ h1]; rfl
 have hf0:w.frozen? ⟨g,0,none⟩=false:=frozen_of_row w g 0 _ _ h1
 have b1:(w.setCell ⟨g,0,none⟩ (.slice none 0 0)).heap[g]?=some (.cells #[.slice none 0 0,.bool tb] 183 (0,0)):=heap_setCell_same w g 0 _ 183 (.slice none 0 0) h1
 have hc1:(w.setCell ⟨g,0,none⟩ (.slice none 0 0)).cell? ⟨g,1,none⟩=some (.bool tb):=by rw [cell_of_row _ g 1 _ _ _ b1]; rfl
 have hf1:(w.setCell ⟨g,0,none⟩ (.slice none 0 0)).frozen? ⟨g,1,none⟩=false:=frozen_of_row _ g 1 _ _ b1
 have b2:=heap_setCell_same _ g 1 _ 183 (.bool true) b1
 have HB:=hide b2
 clear h1 b1 b2
 go_enter Tryz.func101,Tryz.ntmps101
 go_wp2_with fail
 go_ret
 exact ⟨rfl,⟨none,0,0,HB.out,Bts.nil _,Nat.le_refl _,h4,fun k hk'=>by cases hk'⟩,(Kp.setCell (S:=fun b=>b=g) (p:=⟨g,0,none⟩) rfl _).trans' (Kp.setCell (S:=fun b=>b=g) (p:=⟨g,1,none⟩) rfl _)⟩
/-- What reading a number comes to, torn or not. -/
def NqPost (w:World) (F:Nat→Prop) (g:Nat) (bs:List UInt8) (tb:Bool) (k:Nat) (e:Ending) (w1:World):Prop :=
 ∃ (x:Nat) (bs':List UInt8) (tb':Bool),e=.returned (.int .u64 (x:Int))∧RdQ w1 F g bs' tb'∧bs'.length=bs.length - k∧(tb'=true ↔ (tb=true∨bs.length < k))∧(tb'=false∨bs'=[])∧Kp (fun b=>b=g) w w1
theorem numz_any {w:World} {F:Nat→Prop} {g k:Nat} {bs:List UInt8} {tb:Bool} (h:RdQ w F g bs tb) (hk:bs.length < k) (hl:k≤8) :
  Calls Tryz.prog 56 #[.pointer (some ⟨g,0,none⟩),.int .i64 k] w fun e w1=>e=.returned (.int .u64 0)∧RdQ w1 F g [] true∧Kp (fun b=>b=g) w w1:=by
 have HK:=hide hk
 clear hk
 have hk8:¬ (8:Int) < k:=by omega
 go_enter Tryz.func56,Tryz.ntmps56
 go_wp2_with fail
 refine (taket_any h HK.out hl).mono ?_
 rintro e w1 ⟨rfl,hr,hkp⟩
 go_wp2_with fail
 go_loop [5,14] (fun s i=>i=.int .i64 0∧s=.int .u64 0) (fun _ i=>0)
 case atStart=>exact ⟨rfl,rfl⟩
 case round =>
  obtain ⟨rfl,rfl⟩:=hrel
  go_wp2
  go_ret
  exact ⟨rfl,hr,hkp⟩
theorem numt_any {w:World} {F:Nat→Prop} {g k:Nat} {bs:List UInt8} {tb:Bool} (h:RdQ w F g bs tb) (hk:bs.length < k) (hl:k≤8) :
  Calls Tryz.prog 56 #[.pointer (some ⟨g,0,none⟩),.int .i64 k] w (NqPost w F g bs tb k) :=
 (numz_any h hk hl).mono fun e w1 ⟨h1,h2,h3⟩=>⟨0,[],true,h1,h2,by simp; omega,by simp [hk],.inr rfl,h3⟩
theorem numq_any {w:World} {F:Nat→Prop} {g k:Nat} {bs:List UInt8} {tb:Bool} (h:RdQ w F g bs tb) (ht:tb=false∨bs=[]) (h1:1≤k) (hl:k≤8) :
  Calls Tryz.prog 56 #[.pointer (some ⟨g,0,none⟩),.int .i64 k] w (NqPost w F g bs tb k):=by
 rcases Nat.lt_or_ge bs.length k with hk | hk
 ·exact numt_any h hk hl
 ·rcases ht with rfl | rfl
  ·have h':RdAt w F g (bs.take k ++ bs.drop k):=by rw [List.take_append_drop]; exact h.at_
   refine (rdnum_any k (by rw [List.length_take]; omega) hl h').mono ?_
   rintro e w1 ⟨rfl,hr,hk'⟩
   exact ⟨_,_,false,rfl,hr.q,by simp,by simp; exact hk,.inl rfl,hk'⟩
  ·simp at hk; omega
theorem rdtorn_yes {w:World} {F:Nat→Prop} {g:Nat} {ys:List UInt8} (h:RdQ w F g ys true) :
  Calls Tryz.prog 58 #[.pointer (some ⟨g,0,none⟩)] w fun e w1=>e=.returned (.bool true)∧w=w1:=by
 obtain ⟨A,m,c,h1,h2,h3,h4,h5⟩:=h
 have hc1:w.cell? ⟨g,1,none⟩=some (.bool true):=by rw [cell_of_row w g 1 _ _ _ h1]; rfl
 have H1:=hide h1
 clear h1
 go_enter Tryz.func58,Tryz.ntmps58
 go_wp2
 go_ret
 exact ⟨rfl,rfl⟩
/-- What reading a name comes to, torn or not. -/
def ShqPost (w:World) (F:Nat→Prop) (g:Nat) (bs:List UInt8) (tb:Bool) (e:Ending) (w1:World):Prop :=
 ∃ (x0 x1 x2 x3:Int) (bs':List UInt8) (tb':Bool),e=.returned (.agg #[.int .u32 x0,.int .u16 x1,.int .u16 x2,.int .u32 x3])∧RdQ w1 F g bs' tb'∧bs'.length=bs.length - 12∧(tb'=true ↔ (tb=true∨bs.length < 12))∧(tb'=false∨bs'=[])∧Kp (fun b=>b=g) w w1
set_option maxHeartbeats 2000000 in
theorem shr_any {w:World} {F:Nat→Prop} {g:Nat} {bs:List UInt8} {tb:Bool} (h:RdQ w F g bs tb) (ht:tb=false∨bs=[]) (hF:∀ k,F k→k < w.heap.size) :
  Calls Tryz.prog 75 #[.pointer (some ⟨g,0,none⟩)] w (ShqPost w F g bs tb):=by
 have h':∀ ob1 ob2:Obj,RdQ ((w.alloc ob1).alloc ob2) F g bs tb:=fun ob1 ob2=>(h.no (Kp.alloc No w ob1)).no (Kp.alloc No _ ob2)
 have H':=hide h'
 have HF:=hide hF
 have hg:=h.g_lt
 have n0:¬ (w.heap.size=g):=by omega
 have n1:¬ (w.heap.size+1=g):=by omega
 have n2:¬ (w.heap.size=w.heap.size+1):=by omega
 have HTb:=hide ht
 clear h h' hF ht
 go_enter Tryz.func75,Tryz.ntmps75
 go_wp2_with fail
 refine (numq_any (k:=4) (H'.out _ _) HTb.out (by omega) (by omega)).mono ?_
 rintro e w1 ⟨y0,bs1,tb1,rfl,hr,l1,t1,d1,hk⟩
 have hFb:∀ k,F k→k≠w.heap.size+1:=fun k hk=>by have:=HF.out k hk; omega
 have HFb:=hide hFb
 clear hFb
 have B1:Box4 w1 (w.heap.size+1) (.int .u32 0) (.int .u16 0) (.int .u16 0) (.int .u32 0):=(Box4.new2 w _ _ _ _ _).keep hk n1
 have R1:Box4 w1 w.heap.size (.int .u32 0) (.int .u16 0) (.int .u16 0) (.int .u32 0):=(Box4.new1 w _ _ _ _ _).keep hk n0
 obtain ⟨p0,p1,p2,p3⟩:=B1.cell
 have f0:=B1.frozen 0
 have HT1:=hide (And.intro l1 t1)
 clear l1 t1
 go_wp2_with fail
 clear p0 p1 p2 p3 f0
 generalize (y0:Int) % 4294967296=x0
 refine (numq_any (k:=2) (hr.set HFb.out _) d1 (by omega) (by omega)).mono ?_
 rintro e w2 ⟨y1,bs2,tb2,rfl,hr2,l2,t2,d2,hk2⟩
 have B2:=(B1.set0 (.int .u32 x0)).keep hk2 n1
 have R2:=(R1.keep (Kp.setCell (S:=fun k=>k=w.heap.size+1) (p:=⟨w.heap.size+1,0,none⟩) rfl (.int .u32 x0)) n2).keep hk2 n0
 obtain ⟨p0,p1,p2,p3⟩:=B2.cell
 have f0:=B2.frozen 1
 have HT2:=hide (And.intro l2 t2)
 clear l2 t2
 go_wp2_with fail
 clear p0 p1 p2 p3 f0
 generalize IntKind.u16.wrap (y1:Int)=x1
 refine (numq_any (k:=2) (hr2.set HFb.out _) d2 (by omega) (by omega)).mono ?_
 rintro e w3 ⟨y2,bs3,tb3,rfl,hr3,l3,t3,d3,hk3⟩
 have B3:=(B2.set1 (.int .u16 x1)).keep hk3 n1
 have R3:=(R2.keep (Kp.setCell (S:=fun k=>k=w.heap.size+1) (p:=⟨w.heap.size+1,1,none⟩) rfl (.int .u16 x1)) n2).keep hk3 n0
 obtain ⟨p0,p1,p2,p3⟩:=B3.cell
 have f0:=B3.frozen 2
 have HT3:=hide (And.intro l3 t3)
 clear l3 t3
 go_wp2_with fail
 clear p0 p1 p2 p3 f0
 generalize IntKind.u16.wrap (y2:Int)=x2
 refine (numq_any (k:=4) (hr3.set HFb.out _) d3 (by omega) (by omega)).mono ?_
 rintro e w4 ⟨y3,bs4,tb4,rfl,hr4,l4,t4,d4,hk4⟩
 have B4:=(B3.set2 (.int .u16 x2)).keep hk4 n1
 have R4:=(R3.keep (Kp.setCell (S:=fun k=>k=w.heap.size+1) (p:=⟨w.heap.size+1,2,none⟩) rfl (.int .u16 x2)) n2).keep hk4 n0
 have B5:=B4.set3 (.int .u32 ((y3:Int) % 4294967296))
 obtain ⟨p0,p1,p2,p3⟩:=B4.cell
 obtain ⟨s0,s1,s2,s3⟩:=B5.cell
 have f3:=B4.frozen 3
 have R5:=R4.keep (Kp.setCell (S:=fun k=>k=w.heap.size+1) (p:=⟨w.heap.size+1,3,none⟩) rfl (.int .u32 ((y3:Int) % 4294967296))) n2
 obtain ⟨t0,t1,t2,t3⟩:=R5.cell
 have g0:=R5.frozen 0
 have g1:=R5.frozen 1
 have g2:=R5.frozen 2
 have g3:=R5.frozen 3
 have R9:=(((R5.set0 (.int .u32 x0)).set1 (.int .u16 x1)).set2 (.int .u16 x2)).set3 (.int .u32 ((y3:Int) % 4294967296))
 obtain ⟨q0,q1,q2,q3⟩:=R9.cell
 have HR9:=hide R9
 clear R9
 have hFr:∀ k,F k→k≠w.heap.size:=fun k hk=>by have:=HF.out k hk; omega
 have HFr:=hide hFr
 have HT4:=hide (And.intro l4 t4)
 clear hFr l4 t4
 go_wp2_with fail
 refine bodyPost_ret (v:=.agg #[.int .u32 x0,.int .u16 x1,.int .u16 x2,.int .u32 ((y3:Int) % 4294967296)]) (by simp [results,Tryz.results75,go_sem,q0,q1,q2,q3]) rfl ⟨_,_,_,_,bs4,tb4,rfl,?_,?_,?_,d4,?_⟩
 ·exact (((((hr4.set HFb.out _).set HFr.out _).set HFr.out _).set HFr.out _).set HFr.out _)
 ·have l1:=HT1.out.1
  have l2:=HT2.out.1
  have l3:=HT3.out.1
  have l4:=HT4.out.1
  omega
 ·obtain ⟨l1,t1⟩:=HT1.out
  obtain ⟨l2,t2⟩:=HT2.out
  obtain ⟨l3,t3⟩:=HT3.out
  obtain ⟨l4,t4⟩:=HT4.out
  rw [t4,t3,t2,t1]
  constructor
  ·rintro ((((h | h) | h) | h) | h)
   ·exact .inl h
   all_goals exact .inr (by omega)
  ·rintro (h | h)
   ·exact .inl (.inl (.inl (.inl h)))
   ·have:bs.length < 4∨bs1.length < 2∨bs2.length < 2∨bs3.length < 4:=by omega
    rcases this with h | h | h | h
    ·exact .inl (.inl (.inl (.inr h)))
    ·exact .inl (.inl (.inr h))
    ·exact .inl (.inr h)
    ·exact .inr h
 ·have y1:Up (fun b=>b=g) w (w.heap.size+1):=.inr (by omega)
  have y0:Up (fun b=>b=g) w w.heap.size:=.inr (by omega)
  have z:Kp (fun b=>b=g) w w4 :=
   ((((((((Kp.alloc _ w _).trans' (Kp.alloc _ _ _)).trans' hk).trans (Kp.setCell (p:=⟨w.heap.size+1,0,none⟩) y1 _)).trans' hk2).trans (Kp.setCell (p:=⟨w.heap.size+1,1,none⟩) y1 _)).trans' hk3).trans (Kp.setCell (p:=⟨w.heap.size+1,2,none⟩) y1 _)).trans' hk4
  exact ((((z.trans (Kp.setCell (p:=⟨w.heap.size+1,3,none⟩) y1 _)).trans (Kp.setCell (p:=⟨w.heap.size,0,none⟩) y0 _)).trans (Kp.setCell (p:=⟨w.heap.size,1,none⟩) y0 _)).trans (Kp.setCell (p:=⟨w.heap.size,2,none⟩) y0 _)).trans (Kp.setCell (p:=⟨w.heap.size,3,none⟩) y0 _)
theorem shq_any {w:World} {F:Nat→Prop} {g:Nat} {bs:List UInt8} (h:RdQ w F g bs false) (hl:bs.length < 12) (hF:∀ k,F k→k < w.heap.size) :
  Calls Tryz.prog 75 #[.pointer (some ⟨g,0,none⟩)] w fun e w1=>(∃ x0 x1 x2 x3:Int,e=.returned (.agg #[.int .u32 x0,.int .u16 x1,.int .u16 x2,.int .u32 x3]))∧RdQ w1 F g [] true∧Kp (fun b=>b=g) w w1:=by
 refine (shr_any h (.inl rfl) hF).mono ?_
 rintro e w1 ⟨x0,x1,x2,x3,bs',tb',he,hr,h1,h2,h3,hk⟩
 have e4:bs'=[]:=List.eq_nil_of_length_eq_zero (by omega)
 have e5:tb'=true:=h2.2 (.inr hl)
 subst e4
 subst e5
 exact ⟨⟨x0,x1,x2,x3,he⟩,hr,hk⟩
/-- Left, torn or not; the rest of a torn Reader. -/
theorem leftq_any {w:World} {F:Nat→Prop} {g:Nat} {ys:List UInt8} {tb:Bool} (h:RdQ w F g ys tb) :
  Calls Tryz.prog 103 #[.pointer (some ⟨g,0,none⟩)] w fun e w1=>e=.returned (.int .i64 ys.length)∧w=w1:=by
 obtain ⟨A,m,c,h1,h2,h3,h4,h5⟩:=h
 have hm:=h2.len
 obtain ⟨L,hL⟩:∃ L,L=ys.length:=⟨_,rfl⟩
 rw [← hL] at hm ⊢
 subst hm
 have hc0:w.cell? ⟨g,0,none⟩=some (.slice A m c):=by rw [cell_of_row w g 0 _ _ _ h1]; rfl
 have H1:=hide h1
 clear h1 hL
 go_enter Tryz.func103,Tryz.ntmps103
 go_wp2
 go_ret
 exact ⟨rfl,rfl⟩
def TkqPost (w:World) (F:Nat→Prop) (g:Nat) (tb:Bool) (e:Ending) (w1:World):Prop :=
 ∃ A m c,e=.returned (.slice A m c)∧Bts w1 (.slice A m c) []∧RdQ w1 F g [] tb∧Kp (fun b=>b=g) w w1
theorem takeq_any {w:World} {F:Nat→Prop} {g:Nat} {tb:Bool} (h:RdQ w F g [] tb) :
  Calls Tryz.prog 101 #[.pointer (some ⟨g,0,none⟩),.int .i64 0] w (TkqPost w F g tb):=by
 obtain ⟨A,m,c,h1,h2,h3,h4,h5⟩:=h
 have hm:m=0:=h2.len
 subst hm
 have hc0:w.cell? ⟨g,0,none⟩=some (.slice A 0 c):=by rw [cell_of_row w g 0 _ _ _ h1]; rfl
 have hf0:w.frozen? ⟨g,0,none⟩=false:=frozen_of_row w g 0 _ _ h1
 have hB:Bts w (.slice A 0 c) []:=h2
 have HB:=hide hB
 have H1:=hide h1
 have H4:=hide h4
 have H5:=hide h5
 have HS:∀ A' c',Hid ((∀ k,(Value.slice A' 0 c').ownBlock=some k→F k∧k≠g)→(Bts (w.setCell ⟨g,0,none⟩ (.slice A' 0 c')) (.slice A' 0 c') [])→TkqPost w F g tb (.returned (.slice A 0 c)) (w.setCell ⟨g,0,none⟩ (.slice A' 0 c'))):=fun A' c' hb hB'=>by
  have hkp:Kp (fun b=>b=g) w (w.setCell ⟨g,0,none⟩ (.slice A' 0 c')):=Kp.setCell (S:=fun b=>b=g) (p:=⟨g,0,none⟩) rfl _
  exact ⟨A,0,c,rfl,HB.out.keep hkp fun j hj e=>(H5.out j hj).2 e,⟨A',0,c',heap_setCell_same w g 0 _ 183 _ H1.out,hB',Nat.zero_le _,H4.out,hb⟩,hkp⟩
 clear h1 h2 h4 h5 hB
 by_cases hck:c=0
 ·subst hck
  go_enter Tryz.func101,Tryz.ntmps101
  go_wp2
  go_ret
  exact (HS A 0).out H5.out (HB.out.keep (Kp.setCell (S:=fun b=>b=g) (p:=⟨g,0,none⟩) rfl _) fun j hj e=>(H5.out j hj).2 e)
 ·go_enter Tryz.func101,Tryz.ntmps101
  go_wp2
  go_ret
  rcases A with _ | ad
  ·obtain ⟨A',c',e,hn,_⟩:=HB.out
   injection e with e1 e2 e3
   subst e1 e3
   exact absurd (hn rfl).2 hck
  ·exact (HS (some (ad.add 0)) c).out (fun k hk'=>H5.out k (by simpa [Value.ownBlock,blk_add] using hk')) ⟨_,c,rfl,fun e=>(by cases e),fun _ _ j u hu=>by simp at hu⟩
/-- What the rest of a Reader is that is torn. -/
theorem restq_any {w:World} {F:Nat→Prop} {g:Nat} {tb:Bool} (h:RdQ w F g [] tb) :
  Calls Tryz.prog 57 #[.pointer (some ⟨g,0,none⟩)] w fun e w1=>∃ A m c,e=.returned (.slice A m c)∧RdQ w1 F g [] tb∧Kp (fun b=>b=g) w w1:=by
 have hl:=leftq_any h
 have HT:=hide (fun w' (h:RdQ w' F g [] tb)=>takeq_any h)
 have HL:=hide hl
 have HH:=hide h
 clear hl h
 have hraw:Calls Tryz.prog 102 #[.pointer (some ⟨g,0,none⟩),.int .i64 0] w fun e w1=>∃ A m c,e=.returned (.slice A m c)∧RdQ w1 F g [] tb∧Kp (fun b=>b=g) w w1:=by
  go_enter Tryz.func102,Tryz.ntmps102
  go_wp2_with fail
  refine (HT.out _ HH.out).mono ?_
  rintro e w1 ⟨A,m,c,rfl,hb,hr,hkp⟩
  go_wp2_with fail
  refine (clone_any hb (by simp)).mono ?_
  rintro e w2 ⟨A1,n1,c1,rfl,ho,hk2⟩
  go_wp2
  go_ret
  exact ⟨A1,n1,c1,rfl,hr.no hk2,hkp.trans (hk2.of_no _)⟩
 have HR:=hide hraw
 clear hraw
 go_enter Tryz.func57,Tryz.ntmps57
 go_wp2_with fail
 refine HL.out.mono ?_
 rintro e w1 ⟨rfl,rfl⟩
 go_wp2_with fail
 refine HR.out.mono ?_
 rintro e w2 ⟨A1,n1,c1,rfl,hr2,hk2⟩
 go_wp2
 go_ret
 exact ⟨A1,n1,c1,rfl,hr2,hk2⟩
end Go.Proofs.YtnfcfdhlmeimhaaGreat
