/- A vault in memory; package vault's Cell, Has, Len, made: contracts, and those of a nil vault and of one that nobody made. -/
import Derived.Test.YtndghapdpfgmoaaVcm
import Derived.Test.YtndghapdpfgmoaaPlb
namespace Go.Proofs.Ytndghapdpfgmoaa
open Go.RowKit
set_option linter.unusedVariables false
set_option linter.unusedSimpArgs false
set_option maxRecDepth 20000

/-- A vault's own block. -/
def VtB (w : World) (g gd b : Nat) : Prop := w.heap[g]? = some (.cells #[.pointer (some ⟨gd, 0, none⟩), .map (some b)] 51 (0, 0))
section
variable {w w1 : World} {g gd b : Nat} {S : Nat → Prop}
theorem VtB.lt (h : VtB w g gd b) : g < w.heap.size := (Array.getElem?_eq_some_iff.1 h).1
theorem VtB.keep (h : VtB w g gd b) (hk : Kp S w w1) (hS : ¬ S g) : VtB w1 g gd b := (hk.block g h.lt hS).trans h
theorem VtB.no (h : VtB w g gd b) (hk : Kp No w w1) : VtB w1 g gd b := h.keep hk fun f => f
theorem VtB.c0 (h : VtB w g gd b) : w.cell? ⟨g, 0, none⟩ = some (.pointer (some ⟨gd, 0, none⟩)) := by rw [cell_of_row w g 0 _ _ _ h]; rfl
theorem VtB.c1 (h : VtB w g gd b) : w.cell? ⟨g, 1, none⟩ = some (.map (some b)) := by rw [cell_of_row w g 1 _ _ _ h]; rfl
theorem VtB.new (w : World) (gd b : Nat) : VtB (w.alloc (.cells #[.pointer (some ⟨gd, 0, none⟩), .map (some b)] 51)) w.heap.size gd b := heap_alloc_new w _
theorem Bx4.new (w : World) (x0 x1 x2 x3 : Value) : Box4 (w.alloc (.cells #[x0, x1, x2, x3] 26)) w.heap.size x0 x1 x2 x3 := heap_alloc_new w _
end
/-- The cell that Cell tells. -/
def celZ (L : List (Nat × Nat)) (s : Nat) : Int := if kn L s = true then (cel L s : Int) else -1
theorem celZ_yes {L : List (Nat × Nat)} {s : Nat} (h : kn L s = true) : celZ L s = (cel L s : Int) := by unfold celZ; rw [if_pos h]
theorem celZ_no {L : List (Nat × Nat)} {s : Nat} (h : kn L s = false) : celZ L s = -1 := by unfold celZ; rw [if_neg (by rw [h]; simp)]
def CelPost (w : World) (z : Int) (e : Ending) (w1 : World) : Prop := e = .returned (.int .i64 z) ∧ Kp No w w1
set_option maxHeartbeats 1000000 in
theorem vcell_any {w : World} {g gd b s : Nat} {L : List (Nat × Nat)} (hb : VtB w g gd b) (hm : MpAt w b L) (hs : s < N96) : Calls Try.prog 14 #[.pointer (some ⟨g, 0, none⟩), shV s] w (CelPost w (celZ L s)) := by
  have hl : ∀ w', Kp No w w' → (Instr.lookup 49 (.map (some b)) (shV s) true).run Try.prog w' = .ok (.tuple #[.int .i64 (if kn L s = true then (cel L s : Int) else 0), .bool (kn L s)]) w' := fun w' hk => (hm.no hk).look hs
  have HL := hide hl
  have h1 := hb.c1
  clear hl hm hb
  unfold celZ
  unfold shV at HL ⊢
  generalize (cel L s : Int) = z at HL ⊢
  generalize cO s = a0 at HL ⊢
  generalize cS s = a1 at HL ⊢
  generalize cL s = a2 at HL ⊢
  generalize cG s = a3 at HL ⊢
  unfold CelPost
  cases hk : kn L s
  · have hr : ∀ w', Kp No w w' → (Instr.lookup 49 (.map (some b)) (.agg #[.int .u32 (a0 : Int), .int .u16 (a1 : Int), .int .u16 (a2 : Int), .int .u32 (a3 : Int)]) true).run Try.prog w' = .ok (.tuple #[.int .i64 0, .bool false]) w' := fun w' hk' => by
      have := HL.out w' hk'
      rwa [hk, if_neg (by simp)] at this
    have HR := hide hr
    clear hr HL
    go_enter Try.func14, Try.ntmps14
    go_wp2_with fail
    obtain ⟨q0, q1, q2, q3⟩ := (Bx4.new w (.int .u32 (a0 : Int)) (.int .u16 (a1 : Int)) (.int .u16 (a2 : Int)) (.int .u32 (a3 : Int))).cell
    have qg := kp_cell h1 (Kp.alloc No w (.cells #[.int .u32 (a0 : Int), .int .u16 (a1 : Int), .int .u16 (a2 : Int), .int .u32 (a3 : Int)] 26))
    refine wp_region_noPanic ?_
    refine wp_region_held_drew (S := fun w' => w'.cell? ⟨g, 1, none⟩ = some (.map (some b)) ∧ w'.cell? ⟨w.heap.size, 0, none⟩ = some (.int .u32 (a0 : Int)) ∧ w'.cell? ⟨w.heap.size, 1, none⟩ = some (.int .u16 (a1 : Int)) ∧ w'.cell? ⟨w.heap.size, 2, none⟩ = some (.int .u16 (a2 : Int)) ∧ w'.cell? ⟨w.heap.size, 3, none⟩ = some (.int .u32 (a3 : Int)) ∧ (Instr.lookup 49 (.map (some b)) (.agg #[.int .u32 (a0 : Int), .int .u16 (a1 : Int), .int .u16 (a2 : Int), .int .u32 (a3 : Int)]) true).run Try.prog w' = .ok (.tuple #[.int .i64 0, .bool false]) w') (by kernel_rfl) (⟨qg, q0, q1, q2, q3, HR.out _ (Kp.alloc No w _).drew⟩) (fun hHeld => ?_)
    refine wpAnyH_take (i := 0) (v := ?vn0) (oi := ?on0) ?hn0 (by kernel_rfl) (by kernel_rfl) (by kernel_rfl) (fun _ _ _ h => h) (Or.inl ⟨?wn0, ?yn0⟩) hHeld ?rn0
    case hn0 => simp only [List.getElem?_toArray, List.getElem?_cons_zero, List.getElem?_cons_succ]; rfl
    case wn0 => rfl
    case yn0 => intro w hSw; (try dsimp only at hSw); go_simp; (try with_reducible rfl)
    simp only [Act.put, List.setIfInBounds_toArray, List.set_cons_zero, List.set_cons_succ]
    refine wpAnyH_take (i := 1) (v := ?vn1) (oi := ?on1) ?hn1 (by kernel_rfl) (by kernel_rfl) (by kernel_rfl) (fun _ _ _ h => h) (Or.inl ⟨?wn1, ?yn1⟩) hHeld ?rn1
    case hn1 => simp only [List.getElem?_toArray, List.getElem?_cons_zero, List.getElem?_cons_succ]; rfl
    case wn1 => rfl
    case yn1 => intro w hSw; (try dsimp only at hSw); go_simp; (try with_reducible rfl)
    simp only [Act.put, List.setIfInBounds_toArray, List.set_cons_zero, List.set_cons_succ]
    refine wpAnyH_take (i := 2) (v := ?vn2) (oi := ?on2) ?hn2 (by kernel_rfl) (by kernel_rfl) (by kernel_rfl) (fun _ _ _ h => h) (Or.inl ⟨?wn2, ?yn2⟩) hHeld ?rn2
    case hn2 => simp only [List.getElem?_toArray, List.getElem?_cons_zero, List.getElem?_cons_succ]; rfl
    case wn2 => rfl
    case yn2 => intro w hSw; (try dsimp only at hSw); go_simp; (try with_reducible rfl)
    simp only [Act.put, List.setIfInBounds_toArray, List.set_cons_zero, List.set_cons_succ]
    refine wpAnyH_take (i := 3) (v := ?vn3) (oi := ?on3) ?hn3 (by kernel_rfl) (by kernel_rfl) (by kernel_rfl) (fun _ _ _ h => h) (Or.inl ⟨?wn3, ?yn3⟩) hHeld ?rn3
    case hn3 => simp only [List.getElem?_toArray, List.getElem?_cons_zero, List.getElem?_cons_succ]; rfl
    case wn3 => rfl
    case yn3 => intro w hSw; (try dsimp only at hSw); go_simp; (try with_reducible rfl)
    simp only [Act.put, List.setIfInBounds_toArray, List.set_cons_zero, List.set_cons_succ]
    refine wpAnyH_take (i := 4) (v := ?vn4) (oi := ?on4) ?hn4 (by kernel_rfl) (by kernel_rfl) (by kernel_rfl) (fun _ _ _ h => h) (Or.inl ⟨?wn4, ?yn4⟩) hHeld ?rn4
    case hn4 => simp only [List.getElem?_toArray, List.getElem?_cons_zero, List.getElem?_cons_succ]; rfl
    case wn4 => rfl
    case yn4 => intro w hSw; (try dsimp only at hSw); go_simp; (try with_reducible rfl)
    simp only [Act.put, List.setIfInBounds_toArray, List.set_cons_zero, List.set_cons_succ]
    refine wpAnyH_take (i := 5) (v := ?vn5) (oi := ?on5) ?hn5 (by kernel_rfl) (by kernel_rfl) (by kernel_rfl) (fun _ _ _ h => h) (Or.inl ⟨?wn5, ?yn5⟩) hHeld ?rn5
    case hn5 => simp only [List.getElem?_toArray, List.getElem?_cons_zero, List.getElem?_cons_succ]; rfl
    case wn5 => rfl
    case yn5 => intro w hSw; (try dsimp only at hSw); go_simp; (try with_reducible rfl)
    simp only [Act.put, List.setIfInBounds_toArray, List.set_cons_zero, List.set_cons_succ]
    refine wpAnyH_take (i := 6) (v := ?vn6) (oi := ?on6) ?hn6 (by kernel_rfl) (by kernel_rfl) (by kernel_rfl) (fun _ _ _ h => h) (Or.inl ⟨?wn6, ?yn6⟩) hHeld ?rn6
    case hn6 => simp only [List.getElem?_toArray, List.getElem?_cons_zero, List.getElem?_cons_succ]; rfl
    case wn6 => rfl
    case yn6 => intro w hSw; (try dsimp only at hSw); go_simp; (try with_reducible rfl)
    simp only [Act.put, List.setIfInBounds_toArray, List.set_cons_zero, List.set_cons_succ]
    refine wpAnyH_take (i := 7) (v := ?vn7) (oi := ?on7) ?hn7 (by kernel_rfl) (by kernel_rfl) (by kernel_rfl) (fun _ _ _ h => h) (Or.inl ⟨?wn7, ?yn7⟩) hHeld ?rn7
    case hn7 => simp only [List.getElem?_toArray, List.getElem?_cons_zero, List.getElem?_cons_succ]; rfl
    case wn7 => rfl
    case yn7 => intro w hSw; (try dsimp only at hSw); go_simp; (try with_reducible rfl)
    simp only [Act.put, List.setIfInBounds_toArray, List.set_cons_zero, List.set_cons_succ]
    refine wpAnyH_take (i := 8) (v := ?vn8) (oi := ?on8) ?hn8 (by kernel_rfl) (by kernel_rfl) (by kernel_rfl) (fun _ _ _ h => h) (Or.inl ⟨?wn8, ?yn8⟩) hHeld ?rn8
    case hn8 => simp only [List.getElem?_toArray, List.getElem?_cons_zero, List.getElem?_cons_succ]; rfl
    case wn8 => rfl
    case yn8 => intro w hSw; (try dsimp only at hSw); go_simp; (try with_reducible rfl)
    simp only [Act.put, List.setIfInBounds_toArray, List.set_cons_zero, List.set_cons_succ]
    refine wpAnyH_take (i := 9) (v := ?vn9) (oi := ?on9) ?hn9 (by kernel_rfl) (by kernel_rfl) (by kernel_rfl) (fun _ _ _ h => h) (Or.inl ⟨?wn9, ?yn9⟩) hHeld ?rn9
    case hn9 => simp only [List.getElem?_toArray, List.getElem?_cons_zero, List.getElem?_cons_succ]; rfl
    case wn9 => rfl
    case yn9 => intro w hSw; (try dsimp only at hSw); go_simp; (try with_reducible rfl)
    simp only [Act.put, List.setIfInBounds_toArray, List.set_cons_zero, List.set_cons_succ]
    refine wpAnyH_take (i := 10) (v := ?vn10) (oi := ?on10) ?hn10 (by kernel_rfl) (by kernel_rfl) (by kernel_rfl) (fun _ _ _ h => h) (Or.inl ⟨?wn10, ?yn10⟩) hHeld ?rn10
    case hn10 => simp only [List.getElem?_toArray, List.getElem?_cons_zero, List.getElem?_cons_succ]; rfl
    case wn10 => rfl
    case yn10 => intro w hSw; (try dsimp only at hSw); go_simp; (try with_reducible rfl)
    simp only [Act.put, List.setIfInBounds_toArray, List.set_cons_zero, List.set_cons_succ]
    refine wpAnyH_done (by kernel_rfl) ?_ _
    refine NoPanic.normal ?_
    go_wp2_with fail
    go_ret
    exact ⟨rfl, (Kp.alloc No w _).drew⟩
  · have hr : ∀ w', Kp No w w' → (Instr.lookup 49 (.map (some b)) (.agg #[.int .u32 (a0 : Int), .int .u16 (a1 : Int), .int .u16 (a2 : Int), .int .u32 (a3 : Int)]) true).run Try.prog w' = .ok (.tuple #[.int .i64 z, .bool true]) w' := fun w' hk' => by
      have := HL.out w' hk'
      rwa [hk, if_pos rfl] at this
    have HR := hide hr
    clear hr HL
    go_enter Try.func14, Try.ntmps14
    go_wp2_with fail
    obtain ⟨q0, q1, q2, q3⟩ := (Bx4.new w (.int .u32 (a0 : Int)) (.int .u16 (a1 : Int)) (.int .u16 (a2 : Int)) (.int .u32 (a3 : Int))).cell
    have qg := kp_cell h1 (Kp.alloc No w (.cells #[.int .u32 (a0 : Int), .int .u16 (a1 : Int), .int .u16 (a2 : Int), .int .u32 (a3 : Int)] 26))
    refine wp_region_noPanic ?_
    refine wp_region_held_drew (S := fun w' => w'.cell? ⟨g, 1, none⟩ = some (.map (some b)) ∧ w'.cell? ⟨w.heap.size, 0, none⟩ = some (.int .u32 (a0 : Int)) ∧ w'.cell? ⟨w.heap.size, 1, none⟩ = some (.int .u16 (a1 : Int)) ∧ w'.cell? ⟨w.heap.size, 2, none⟩ = some (.int .u16 (a2 : Int)) ∧ w'.cell? ⟨w.heap.size, 3, none⟩ = some (.int .u32 (a3 : Int)) ∧ (Instr.lookup 49 (.map (some b)) (.agg #[.int .u32 (a0 : Int), .int .u16 (a1 : Int), .int .u16 (a2 : Int), .int .u32 (a3 : Int)]) true).run Try.prog w' = .ok (.tuple #[.int .i64 z, .bool true]) w') (by kernel_rfl) (⟨qg, q0, q1, q2, q3, HR.out _ (Kp.alloc No w _).drew⟩) (fun hHeld => ?_)
    refine wpAnyH_take (i := 0) (v := ?vy0) (oi := ?oy0) ?hy0 (by kernel_rfl) (by kernel_rfl) (by kernel_rfl) (fun _ _ _ h => h) (Or.inl ⟨?wy0, ?yy0⟩) hHeld ?ry0
    case hy0 => simp only [List.getElem?_toArray, List.getElem?_cons_zero, List.getElem?_cons_succ]; rfl
    case wy0 => rfl
    case yy0 => intro w hSw; (try dsimp only at hSw); go_simp; (try with_reducible rfl)
    simp only [Act.put, List.setIfInBounds_toArray, List.set_cons_zero, List.set_cons_succ]
    refine wpAnyH_take (i := 1) (v := ?vy1) (oi := ?oy1) ?hy1 (by kernel_rfl) (by kernel_rfl) (by kernel_rfl) (fun _ _ _ h => h) (Or.inl ⟨?wy1, ?yy1⟩) hHeld ?ry1
    case hy1 => simp only [List.getElem?_toArray, List.getElem?_cons_zero, List.getElem?_cons_succ]; rfl
    case wy1 => rfl
    case yy1 => intro w hSw; (try dsimp only at hSw); go_simp; (try with_reducible rfl)
    simp only [Act.put, List.setIfInBounds_toArray, List.set_cons_zero, List.set_cons_succ]
    refine wpAnyH_take (i := 2) (v := ?vy2) (oi := ?oy2) ?hy2 (by kernel_rfl) (by kernel_rfl) (by kernel_rfl) (fun _ _ _ h => h) (Or.inl ⟨?wy2, ?yy2⟩) hHeld ?ry2
    case hy2 => simp only [List.getElem?_toArray, List.getElem?_cons_zero, List.getElem?_cons_succ]; rfl
    case wy2 => rfl
    case yy2 => intro w hSw; (try dsimp only at hSw); go_simp; (try with_reducible rfl)
    simp only [Act.put, List.setIfInBounds_toArray, List.set_cons_zero, List.set_cons_succ]
    refine wpAnyH_take (i := 3) (v := ?vy3) (oi := ?oy3) ?hy3 (by kernel_rfl) (by kernel_rfl) (by kernel_rfl) (fun _ _ _ h => h) (Or.inl ⟨?wy3, ?yy3⟩) hHeld ?ry3
    case hy3 => simp only [List.getElem?_toArray, List.getElem?_cons_zero, List.getElem?_cons_succ]; rfl
    case wy3 => rfl
    case yy3 => intro w hSw; (try dsimp only at hSw); go_simp; (try with_reducible rfl)
    simp only [Act.put, List.setIfInBounds_toArray, List.set_cons_zero, List.set_cons_succ]
    refine wpAnyH_take (i := 4) (v := ?vy4) (oi := ?oy4) ?hy4 (by kernel_rfl) (by kernel_rfl) (by kernel_rfl) (fun _ _ _ h => h) (Or.inl ⟨?wy4, ?yy4⟩) hHeld ?ry4
    case hy4 => simp only [List.getElem?_toArray, List.getElem?_cons_zero, List.getElem?_cons_succ]; rfl
    case wy4 => rfl
    case yy4 => intro w hSw; (try dsimp only at hSw); go_simp; (try with_reducible rfl)
    simp only [Act.put, List.setIfInBounds_toArray, List.set_cons_zero, List.set_cons_succ]
    refine wpAnyH_take (i := 5) (v := ?vy5) (oi := ?oy5) ?hy5 (by kernel_rfl) (by kernel_rfl) (by kernel_rfl) (fun _ _ _ h => h) (Or.inl ⟨?wy5, ?yy5⟩) hHeld ?ry5
    case hy5 => simp only [List.getElem?_toArray, List.getElem?_cons_zero, List.getElem?_cons_succ]; rfl
    case wy5 => rfl
    case yy5 => intro w hSw; (try dsimp only at hSw); go_simp; (try with_reducible rfl)
    simp only [Act.put, List.setIfInBounds_toArray, List.set_cons_zero, List.set_cons_succ]
    refine wpAnyH_take (i := 6) (v := ?vy6) (oi := ?oy6) ?hy6 (by kernel_rfl) (by kernel_rfl) (by kernel_rfl) (fun _ _ _ h => h) (Or.inl ⟨?wy6, ?yy6⟩) hHeld ?ry6
    case hy6 => simp only [List.getElem?_toArray, List.getElem?_cons_zero, List.getElem?_cons_succ]; rfl
    case wy6 => rfl
    case yy6 => intro w hSw; (try dsimp only at hSw); go_simp; (try with_reducible rfl)
    simp only [Act.put, List.setIfInBounds_toArray, List.set_cons_zero, List.set_cons_succ]
    refine wpAnyH_take (i := 7) (v := ?vy7) (oi := ?oy7) ?hy7 (by kernel_rfl) (by kernel_rfl) (by kernel_rfl) (fun _ _ _ h => h) (Or.inl ⟨?wy7, ?yy7⟩) hHeld ?ry7
    case hy7 => simp only [List.getElem?_toArray, List.getElem?_cons_zero, List.getElem?_cons_succ]; rfl
    case wy7 => rfl
    case yy7 => intro w hSw; (try dsimp only at hSw); go_simp; (try with_reducible rfl)
    simp only [Act.put, List.setIfInBounds_toArray, List.set_cons_zero, List.set_cons_succ]
    refine wpAnyH_take (i := 8) (v := ?vy8) (oi := ?oy8) ?hy8 (by kernel_rfl) (by kernel_rfl) (by kernel_rfl) (fun _ _ _ h => h) (Or.inl ⟨?wy8, ?yy8⟩) hHeld ?ry8
    case hy8 => simp only [List.getElem?_toArray, List.getElem?_cons_zero, List.getElem?_cons_succ]; rfl
    case wy8 => rfl
    case yy8 => intro w hSw; (try dsimp only at hSw); go_simp; (try with_reducible rfl)
    simp only [Act.put, List.setIfInBounds_toArray, List.set_cons_zero, List.set_cons_succ]
    refine wpAnyH_take (i := 9) (v := ?vy9) (oi := ?oy9) ?hy9 (by kernel_rfl) (by kernel_rfl) (by kernel_rfl) (fun _ _ _ h => h) (Or.inl ⟨?wy9, ?yy9⟩) hHeld ?ry9
    case hy9 => simp only [List.getElem?_toArray, List.getElem?_cons_zero, List.getElem?_cons_succ]; rfl
    case wy9 => rfl
    case yy9 => intro w hSw; (try dsimp only at hSw); go_simp; (try with_reducible rfl)
    simp only [Act.put, List.setIfInBounds_toArray, List.set_cons_zero, List.set_cons_succ]
    refine wpAnyH_take (i := 10) (v := ?vy10) (oi := ?oy10) ?hy10 (by kernel_rfl) (by kernel_rfl) (by kernel_rfl) (fun _ _ _ h => h) (Or.inl ⟨?wy10, ?yy10⟩) hHeld ?ry10
    case hy10 => simp only [List.getElem?_toArray, List.getElem?_cons_zero, List.getElem?_cons_succ]; rfl
    case wy10 => rfl
    case yy10 => intro w hSw; (try dsimp only at hSw); go_simp; (try with_reducible rfl)
    simp only [Act.put, List.setIfInBounds_toArray, List.set_cons_zero, List.set_cons_succ]
    refine wpAnyH_done (by kernel_rfl) ?_ _
    refine NoPanic.normal ?_
    go_wp2_with fail
    go_ret
    exact ⟨rfl, (Kp.alloc No w _).drew⟩
theorem vcell_nil (w : World) (s : Nat) : Calls Try.prog 14 #[.pointer none, shV s] w (CelPost w (-1)) := by
  unfold shV
  generalize cO s = a0 at ⊢
  generalize cS s = a1 at ⊢
  generalize cL s = a2 at ⊢
  generalize cG s = a3 at ⊢
  go_enter Try.func14, Try.ntmps14
  go_wp2_with fail
  go_ret
  exact ⟨rfl, Kp.alloc No w _⟩
def BoolPost (w : World) (x : Bool) (e : Ending) (w1 : World) : Prop := e = .returned (.bool x) ∧ Kp No w w1
theorem vhas_no {w : World} {p : Value} {s : Nat} (_ : Unit) (hc : ∀ w', Kp No w w' → Calls Try.prog 14 #[p, shV s] w' (CelPost w' (-1))) : Calls Try.prog 15 #[p, shV s] w (BoolPost w false) := by
  unfold shV at hc ⊢
  generalize cO s = a0 at hc ⊢
  generalize cS s = a1 at hc ⊢
  generalize cL s = a2 at hc ⊢
  generalize cG s = a3 at hc ⊢
  have HC := hide hc
  clear hc
  have hz : ¬ ((0 : Int) ≤ -1) := by omega
  go_enter Try.func15, Try.ntmps15
  go_wp2_with fail
  refine (HC.out _ (Kp.alloc No w _)).mono ?_
  rintro e w1 ⟨rfl, hk⟩
  go_wp2_with fail
  go_ret
  exact ⟨rfl, (Kp.alloc No w _).trans' hk⟩
theorem vhas_yes {w : World} {p : Value} {s z : Nat} (_ : Unit) (hc : ∀ w', Kp No w w' → Calls Try.prog 14 #[p, shV s] w' (CelPost w' (z : Int))) : Calls Try.prog 15 #[p, shV s] w (BoolPost w true) := by
  unfold shV at hc ⊢
  generalize cO s = a0 at hc ⊢
  generalize cS s = a1 at hc ⊢
  generalize cL s = a2 at hc ⊢
  generalize cG s = a3 at hc ⊢
  have HC := hide hc
  clear hc
  have hz : (0 : Int) ≤ (z : Int) := by omega
  go_enter Try.func15, Try.ntmps15
  go_wp2_with fail
  refine (HC.out _ (Kp.alloc No w _)).mono ?_
  rintro e w1 ⟨rfl, hk⟩
  go_wp2_with fail
  go_ret
  exact ⟨rfl, (Kp.alloc No w _).trans' hk⟩

theorem vhas_any {w : World} {g gd b s : Nat} {L : List (Nat × Nat)} (hb : VtB w g gd b) (hm : MpAt w b L) (hs : s < N96) : Calls Try.prog 15 #[.pointer (some ⟨g, 0, none⟩), shV s] w (BoolPost w (kn L s)) := by
  cases hk : kn L s
  · exact vhas_no () (s := s) (fun w' hk' => by have := vcell_any (hb.no hk') (hm.no hk') hs; rwa [celZ_no hk] at this)
  · exact vhas_yes () (s := s) (z := cel L s) (fun w' hk' => by have := vcell_any (hb.no hk') (hm.no hk') hs; rwa [celZ_yes hk] at this)
theorem vhas_nil (w : World) (s : Nat) : Calls Try.prog 15 #[.pointer none, shV s] w (BoolPost w false) := vhas_no () (s := s) (fun w' _ => vcell_nil w' s)
theorem vlen_any {w : World} {g gd b : Nat} {L : List (Nat × Nat)} (hb : VtB w g gd b) (hm : MpAt w b L) : Calls Try.prog 12 #[.pointer (some ⟨g, 0, none⟩)] w fun e w1 => e = .returned (.int .i64 (L.length : Int)) ∧ w = w1 := by
  have h1 := hb.c1
  have hl := fun ty => hm.len ty
  clear hb hm
  go_enter Try.func12, Try.ntmps12
  go_wp2_with fail
  go_ret
  exact ⟨rfl, rfl⟩
theorem vlen_nil (w : World) : Calls Try.prog 12 #[.pointer none] w fun e w1 => e = .returned (.int .i64 0) ∧ w = w1 := by
  go_enter Try.func12, Try.ntmps12
  go_wp2_with fail
  go_ret
  exact ⟨rfl, rfl⟩
theorem vmade_any {w : World} {g gd b : Nat} (hb : VtB w g gd b) : Calls Try.prog 25 #[.pointer (some ⟨g, 0, none⟩)] w fun e w1 => e = .returned (.bool true) ∧ w = w1 := by
  have h0 := hb.c0
  clear hb
  go_enter Try.func25, Try.ntmps25
  go_wp2_with fail
  go_ret
  exact ⟨rfl, rfl⟩
theorem vmade_nil (w : World) : Calls Try.prog 25 #[.pointer none] w fun e w1 => e = .returned (.bool false) ∧ w = w1 := by
  go_enter Try.func25, Try.ntmps25
  go_wp2_with fail
  go_ret
  exact ⟨rfl, rfl⟩
/-- A vault that nobody made. -/
def VtZ (w : World) (g : Nat) : Prop := w.cell? ⟨g, 0, none⟩ = some (.pointer none) ∧ w.cell? ⟨g, 1, none⟩ = some (.map none)
theorem VtZ.no {w w1 : World} {g : Nat} (h : VtZ w g) (hk : Kp No w w1) : VtZ w1 g := ⟨kp_cell h.1 hk, kp_cell h.2 hk⟩
theorem vmade_zero {w : World} {g : Nat} (h : VtZ w g) : Calls Try.prog 25 #[.pointer (some ⟨g, 0, none⟩)] w fun e w1 => e = .returned (.bool false) ∧ w = w1 := by
  have h0 := h.1
  clear h
  go_enter Try.func25, Try.ntmps25
  go_wp2_with fail
  go_ret
  exact ⟨rfl, rfl⟩
set_option maxHeartbeats 1000000 in
theorem vcell_zero {w : World} {g s : Nat} (h : VtZ w g) (hs : s < N96) : Calls Try.prog 14 #[.pointer (some ⟨g, 0, none⟩), shV s] w (CelPost w (-1)) := by
  have hr : ∀ w' : World, (Instr.lookup 49 (.map none) (shV s) true).run Try.prog w' = .ok (.tuple #[.int .i64 0, .bool false]) w' := fun w' => Maps.look_nil true sh_law Try.underlying49 (zero_int w') (key_kl hs)
  have HR := hide hr
  have h1 := h.2
  clear hr h
  unfold shV at HR ⊢
  generalize cO s = a0 at HR ⊢
  generalize cS s = a1 at HR ⊢
  generalize cL s = a2 at HR ⊢
  generalize cG s = a3 at HR ⊢
  unfold CelPost
  go_enter Try.func14, Try.ntmps14
  go_wp2_with fail
  obtain ⟨q0, q1, q2, q3⟩ := (Bx4.new w (.int .u32 (a0 : Int)) (.int .u16 (a1 : Int)) (.int .u16 (a2 : Int)) (.int .u32 (a3 : Int))).cell
  have qg := kp_cell h1 (Kp.alloc No w (.cells #[.int .u32 (a0 : Int), .int .u16 (a1 : Int), .int .u16 (a2 : Int), .int .u32 (a3 : Int)] 26))
  refine wp_region_noPanic ?_
  refine wp_region_held_drew (S := fun w' => w'.cell? ⟨g, 1, none⟩ = some (.map none) ∧ w'.cell? ⟨w.heap.size, 0, none⟩ = some (.int .u32 (a0 : Int)) ∧ w'.cell? ⟨w.heap.size, 1, none⟩ = some (.int .u16 (a1 : Int)) ∧ w'.cell? ⟨w.heap.size, 2, none⟩ = some (.int .u16 (a2 : Int)) ∧ w'.cell? ⟨w.heap.size, 3, none⟩ = some (.int .u32 (a3 : Int)) ∧ (Instr.lookup 49 (.map none) (.agg #[.int .u32 (a0 : Int), .int .u16 (a1 : Int), .int .u16 (a2 : Int), .int .u32 (a3 : Int)]) true).run Try.prog w' = .ok (.tuple #[.int .i64 0, .bool false]) w') (by kernel_rfl) (⟨qg, q0, q1, q2, q3, HR.out _⟩) (fun hHeld => ?_)
  refine wpAnyH_take (i := 0) (v := ?v0) (oi := ?o0) ?h0 (by kernel_rfl) (by kernel_rfl) (by kernel_rfl) (fun _ _ _ h => h) (Or.inl ⟨?w0, ?y0⟩) hHeld ?r0
  case h0 => simp only [List.getElem?_toArray, List.getElem?_cons_zero, List.getElem?_cons_succ]; rfl
  case w0 => rfl
  case y0 => intro w hSw; (try dsimp only at hSw); go_simp; (try with_reducible rfl)
  simp only [Act.put, List.setIfInBounds_toArray, List.set_cons_zero, List.set_cons_succ]
  refine wpAnyH_take (i := 1) (v := ?v1) (oi := ?o1) ?h1 (by kernel_rfl) (by kernel_rfl) (by kernel_rfl) (fun _ _ _ h => h) (Or.inl ⟨?w1, ?y1⟩) hHeld ?r1
  case h1 => simp only [List.getElem?_toArray, List.getElem?_cons_zero, List.getElem?_cons_succ]; rfl
  case w1 => rfl
  case y1 => intro w hSw; (try dsimp only at hSw); go_simp; (try with_reducible rfl)
  simp only [Act.put, List.setIfInBounds_toArray, List.set_cons_zero, List.set_cons_succ]
  refine wpAnyH_take (i := 2) (v := ?v2) (oi := ?o2) ?h2 (by kernel_rfl) (by kernel_rfl) (by kernel_rfl) (fun _ _ _ h => h) (Or.inl ⟨?w2, ?y2⟩) hHeld ?r2
  case h2 => simp only [List.getElem?_toArray, List.getElem?_cons_zero, List.getElem?_cons_succ]; rfl
  case w2 => rfl
  case y2 => intro w hSw; (try dsimp only at hSw); go_simp; (try with_reducible rfl)
  simp only [Act.put, List.setIfInBounds_toArray, List.set_cons_zero, List.set_cons_succ]
  refine wpAnyH_take (i := 3) (v := ?v3) (oi := ?o3) ?h3 (by kernel_rfl) (by kernel_rfl) (by kernel_rfl) (fun _ _ _ h => h) (Or.inl ⟨?w3, ?y3⟩) hHeld ?r3
  case h3 => simp only [List.getElem?_toArray, List.getElem?_cons_zero, List.getElem?_cons_succ]; rfl
  case w3 => rfl
  case y3 => intro w hSw; (try dsimp only at hSw); go_simp; (try with_reducible rfl)
  simp only [Act.put, List.setIfInBounds_toArray, List.set_cons_zero, List.set_cons_succ]
  refine wpAnyH_take (i := 4) (v := ?v4) (oi := ?o4) ?h4 (by kernel_rfl) (by kernel_rfl) (by kernel_rfl) (fun _ _ _ h => h) (Or.inl ⟨?w4, ?y4⟩) hHeld ?r4
  case h4 => simp only [List.getElem?_toArray, List.getElem?_cons_zero, List.getElem?_cons_succ]; rfl
  case w4 => rfl
  case y4 => intro w hSw; (try dsimp only at hSw); go_simp; (try with_reducible rfl)
  simp only [Act.put, List.setIfInBounds_toArray, List.set_cons_zero, List.set_cons_succ]
  refine wpAnyH_take (i := 5) (v := ?v5) (oi := ?o5) ?h5 (by kernel_rfl) (by kernel_rfl) (by kernel_rfl) (fun _ _ _ h => h) (Or.inl ⟨?w5, ?y5⟩) hHeld ?r5
  case h5 => simp only [List.getElem?_toArray, List.getElem?_cons_zero, List.getElem?_cons_succ]; rfl
  case w5 => rfl
  case y5 => intro w hSw; (try dsimp only at hSw); go_simp; (try with_reducible rfl)
  simp only [Act.put, List.setIfInBounds_toArray, List.set_cons_zero, List.set_cons_succ]
  refine wpAnyH_take (i := 6) (v := ?v6) (oi := ?o6) ?h6 (by kernel_rfl) (by kernel_rfl) (by kernel_rfl) (fun _ _ _ h => h) (Or.inl ⟨?w6, ?y6⟩) hHeld ?r6
  case h6 => simp only [List.getElem?_toArray, List.getElem?_cons_zero, List.getElem?_cons_succ]; rfl
  case w6 => rfl
  case y6 => intro w hSw; (try dsimp only at hSw); go_simp; (try with_reducible rfl)
  simp only [Act.put, List.setIfInBounds_toArray, List.set_cons_zero, List.set_cons_succ]
  refine wpAnyH_take (i := 7) (v := ?v7) (oi := ?o7) ?h7 (by kernel_rfl) (by kernel_rfl) (by kernel_rfl) (fun _ _ _ h => h) (Or.inl ⟨?w7, ?y7⟩) hHeld ?r7
  case h7 => simp only [List.getElem?_toArray, List.getElem?_cons_zero, List.getElem?_cons_succ]; rfl
  case w7 => rfl
  case y7 => intro w hSw; (try dsimp only at hSw); go_simp; (try with_reducible rfl)
  simp only [Act.put, List.setIfInBounds_toArray, List.set_cons_zero, List.set_cons_succ]
  refine wpAnyH_take (i := 8) (v := ?v8) (oi := ?o8) ?h8 (by kernel_rfl) (by kernel_rfl) (by kernel_rfl) (fun _ _ _ h => h) (Or.inl ⟨?w8, ?y8⟩) hHeld ?r8
  case h8 => simp only [List.getElem?_toArray, List.getElem?_cons_zero, List.getElem?_cons_succ]; rfl
  case w8 => rfl
  case y8 => intro w hSw; (try dsimp only at hSw); go_simp; (try with_reducible rfl)
  simp only [Act.put, List.setIfInBounds_toArray, List.set_cons_zero, List.set_cons_succ]
  refine wpAnyH_take (i := 9) (v := ?v9) (oi := ?o9) ?h9 (by kernel_rfl) (by kernel_rfl) (by kernel_rfl) (fun _ _ _ h => h) (Or.inl ⟨?w9, ?y9⟩) hHeld ?r9
  case h9 => simp only [List.getElem?_toArray, List.getElem?_cons_zero, List.getElem?_cons_succ]; rfl
  case w9 => rfl
  case y9 => intro w hSw; (try dsimp only at hSw); go_simp; (try with_reducible rfl)
  simp only [Act.put, List.setIfInBounds_toArray, List.set_cons_zero, List.set_cons_succ]
  refine wpAnyH_take (i := 10) (v := ?v10) (oi := ?o10) ?h10 (by kernel_rfl) (by kernel_rfl) (by kernel_rfl) (fun _ _ _ h => h) (Or.inl ⟨?w10, ?y10⟩) hHeld ?r10
  case h10 => simp only [List.getElem?_toArray, List.getElem?_cons_zero, List.getElem?_cons_succ]; rfl
  case w10 => rfl
  case y10 => intro w hSw; (try dsimp only at hSw); go_simp; (try with_reducible rfl)
  simp only [Act.put, List.setIfInBounds_toArray, List.set_cons_zero, List.set_cons_succ]
  refine wpAnyH_done (by kernel_rfl) ?_ _
  refine NoPanic.normal ?_
  go_wp2_with fail
  go_ret
  exact ⟨rfl, (Kp.alloc No w _).drew⟩
end Go.Proofs.Ytndghapdpfgmoaa
