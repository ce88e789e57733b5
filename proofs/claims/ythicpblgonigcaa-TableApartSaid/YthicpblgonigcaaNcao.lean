/- slices.Insert of one object into a new row, slices.Delete of one object, each as a contract over memory (printed by tools/gen_tbl.py). No condition. -/
import Derived.Test.YthicpblgonigcaaNcan
namespace Go.Proofs.Ythicpblgonigcaa
open Go.RowKit
set_option linter.unusedVariables false
set_option linter.unusedSimpArgs false
set_option maxRecDepth 20000

theorem zcells_size (k : Nat) : (Builtin.zeroCells (Value.cells (.agg #[.int .u32 0, .string ByteArray.empty, .int .i64 0, .int .i64 0, .int .i64 0, .slice none 0 0])) k).size = k * 6 := by simp [Builtin.zeroCells, Value.cells]
section
variable {w : World} {A : Option Addr} {n c i vb g : Nat} {xs : List (Ob × Value)} {x : Ob × Value}
set_option maxHeartbeats 4000000 in
set_option maxRecDepth 100000 in
theorem tins_grow (h : OwnT w 0 54 6 (.slice (some ⟨g, 0, none⟩) n c) n (obC xs)) (hx : ∀ y ∈ xs, y.2.oneCell' = true) (hi : i < n) (hr : c < n + 1) (hn : n ≤ 1000) (hb : Bx 54 w vb (obF x)) (h1 : x.2.oneCell' = true) :
    Calls Try.prog 49 #[.slice (some ⟨g, 0, none⟩) n c, .int .i64 (i : Int), .slice (some ⟨vb, 0, none⟩) 1 1] w (InPost w (some ⟨g, 0, none⟩) n c (obC (xs.take i) ++ obF x ++ obC (xs.drop i))) := by
  obtain ⟨cur, hg, _, hnc, hcm, hsz, htk, _⟩ := h.row
  obtain ⟨⟨i0, hi0, hz0, hz1, hz2⟩, _⟩ := ty_ob
  have hxl : xs.length = n := by have := h.1; rw [obC_len] at this; omega
  have hdl : (obC (xs.drop i)).length = (n - i) * 6 := by rw [obC_len, List.length_drop, hxl]
  have hlt : (obC (xs.take i)).length = i * 6 := by rw [obC_len, List.length_take, hxl, Nat.min_eq_left (by omega)]
  have hl6 : (obF x).length = 6 := rfl
  have hd1 : ∀ u ∈ obC (xs.drop i), u.oneCell' = true := obC_one fun y hy => hx y (List.mem_of_mem_drop hy)
  have hf1 : ∀ u ∈ obF x, u.oneCell' = true := (obx_nws hb h1).one
  have hgl : g < w.heap.size := (Array.getElem?_eq_some_iff.1 hg).1
  have hvl := hb.lt
  generalize obF x = X6 at hb hf1 hl6 ⊢
  clear h1
  have hkk : (n : Int) + 1 - (i : Int) = ((n + 1 - i : Nat) : Int) := by omega
  have hik : i + (n + 1 - i) = n + 1 := by omega
  have hold : (Builtin.firstCells i0.size i (.slice (some ⟨g, 0, none⟩) i c)).run Try.prog w.drew = .ok (obC (xs.take i)).toArray w.drew := by
    rw [hz1]
    exact run_firstCells_some w.drew 6 i ⟨g, 0, none⟩ i c _ hlt fun j v hj => by
      have hj' := (List.getElem?_eq_some_iff.1 hj).1
      rw [add_none, Nat.zero_add]
      rw [← obC_take, List.getElem?_take, if_pos (by omega), ← htk, List.getElem?_take, if_pos (by omega)] at hj
      rw [cell_of_row w.drew g _ _ _ _ (show w.drew.heap[g]? = _ from hg), ← Array.getElem?_toList]
      exact hj
  have hrz : ∀ ty, (Builtin.append_ #[72, 3] ty #[.slice (some ⟨g, 0, none⟩) i c, .int .i64 ((n : Int) + 1 - (i : Int))]).run Try.prog w = .ok (.slice (some ⟨w.heap.size, 0, none⟩) (n + 1) (grownCap w (n + 1) c 54)) (w.drew.alloc (.cells ((obC (xs.take i)).toArray ++ Builtin.zeroCells (Value.cells (.agg #[.int .u32 0, .string ByteArray.empty, .int .i64 0, .int .i64 0, .int .i64 0, .slice none 0 0])) (n + 1 - i) ++ Builtin.zeroCells (Value.cells (.agg #[.int .u32 0, .string ByteArray.empty, .int .i64 0, .int .i64 0, .int .i64 0, .slice none 0 0])) (grownCap w (n + 1) c 54 - (n + 1))) 54)) := fun ty => by
    have h := Lib.run_append_grow_zeros w 72 3 ty 54 i0 _ .i64 .i64 Try.underlying72 Try.underlying3 hi0 hz0 (some ⟨g, 0, none⟩) i c _ hold (n + 1 - i) (by omega) (by omega) (by omega) (by omega) (by rw [hz2]; omega) (by rw [hz2, hik]; exact growslice_fits hr (by omega))
    rw [hik] at h
    rw [hkk]
    exact h
  obtain ⟨G, hG⟩ : ∃ G, G = grownCap w (n + 1) c 54 := ⟨_, rfl⟩
  have hGn : n + 1 ≤ G := by rw [hG]; exact grownCap_ge w _ _ _
  have hG63 : G ≤ maxLen := by rw [hG]; exact grownCap_le_maxLen w (n + 1) c 54 (by unfold maxLen; omega)
  obtain ⟨ROW, hROW⟩ : ∃ ROW : Array Value, ROW = (obC (xs.take i)).toArray ++ Builtin.zeroCells (Value.cells (.agg #[.int .u32 0, .string ByteArray.empty, .int .i64 0, .int .i64 0, .int .i64 0, .slice none 0 0])) (n + 1 - i) ++ Builtin.zeroCells (Value.cells (.agg #[.int .u32 0, .string ByteArray.empty, .int .i64 0, .int .i64 0, .int .i64 0, .slice none 0 0])) (G - (n + 1)) := ⟨_, rfl⟩
  rw [← hG, ← hROW] at hrz
  have hRs : ROW.size = G * 6 := by rw [hROW, Array.size_append, Array.size_append, zcells_size, zcells_size]; simp only [List.size_toArray, hlt]; omega
  have hRt : ROW.toList.take (i * 6) = obC (xs.take i) := by
    rw [hROW, Array.toList_append, Array.toList_append, List.append_assoc, List.take_append_of_le_length (by simp only []; rw [hlt]; exact Nat.le_refl _), List.take_of_length_le (by rw [hlt]; exact Nat.le_refl _)]
  clear hROW hold hG
  obtain ⟨N, hN⟩ : ∃ N, N = w.heap.size := ⟨_, rfl⟩
  have hW1 : ((w.drew.alloc (.cells ROW 54)).heap)[N]? = some (.cells ROW 54 (0, 0)) := by rw [hN]; exact heap_alloc_new w.drew _
  have hka : Kp No w (w.drew.alloc (.cells ROW 54)) := ((Kp.refl No w).drew).al _
  have e1 : i * 6 + (X6).length ≤ ROW.size := by rw [hl6, hRs]; omega
  obtain ⟨c1, g1, z1, t1⟩ := heap_setL (X6) (i * 6) (w.drew.alloc (.cells ROW 54)) ROW hW1 e1
  have e2 : (i + 1) * 6 + (obC (xs.drop i)).length ≤ c1.size := by rw [z1, hRs, hdl]; omega
  obtain ⟨c2, g2, z2, t2⟩ := heap_setL (obC (xs.drop i)) ((i + 1) * 6) ((w.drew.alloc (.cells ROW 54)).setCells N (i * 6) (X6)).drew c1 g1 e2
  have hvN : vb ≠ N := by omega
  have hgN : g ≠ N := by omega
  have hcpA : ∀ ty, (Builtin.copy_ #[72, 72] ty #[.slice (some ⟨N, i * 6, none⟩) (n + 1 - i) (G - i), .slice (some ⟨vb, 0, none⟩) 1 1]).run Try.prog (w.drew.alloc (.cells ROW 54)) = .ok (goInt 1) ((w.drew.alloc (.cells ROW 54)).setCells N (i * 6) (X6)) := fun ty => by
    have hWN := hW1
    have hWb : Bx 54 (w.drew.alloc (.cells ROW 54)) vb (X6) := hb.no hka
    exact obs_copy _ ty N (i * 6) (n + 1 - i) (G - i) ⟨vb, 0, none⟩ 1 1 1 _ (by simp only [Nat.min_def]; split <;> omega) hl6
      (fun j v hj => by rw [add_none, Nat.zero_add]; exact hWb.cell hj)
      (fun j hj => by rw [cell_of_row _ N _ _ _ _ hWN, Array.getElem?_eq_getElem (by omega)]; rfl) (fun j hj => frozen_of_row _ N _ _ _ hWN) hf1
  have hcpB : ∀ ty, (Builtin.copy_ #[72, 72] ty #[.slice (some ⟨N, (i + 1) * 6, none⟩) (n - i) (G - (i + 1)), .slice (some ⟨g, i * 6, none⟩) (n - i) (c - i)]).run Try.prog ((w.drew.alloc (.cells ROW 54)).setCells N (i * 6) (X6)).drew = .ok (goInt ((n - i : Nat))) (((w.drew.alloc (.cells ROW 54)).setCells N (i * 6) (X6)).drew.setCells N ((i + 1) * 6) (obC (xs.drop i))) := fun ty => by
    have hWN : ((w.drew.alloc (.cells ROW 54)).setCells N (i * 6) (X6)).drew.heap[N]? = some (.cells c1 54 (0, 0)) := g1
    have hWg : ((w.drew.alloc (.cells ROW 54)).setCells N (i * 6) (X6)).drew.heap[g]? = some (.cells cur 54 (0, 0)) := by
      show ((w.drew.alloc (.cells ROW 54)).setCells N (i * 6) (X6)).heap[g]? = _
      rw [(kp_setL N _ _ _).block g (by simp; omega) hgN]
      exact (hka.block g hgl fun f => f).trans hg
    generalize ((w.drew.alloc (.cells ROW 54)).setCells N (i * 6) (X6)).drew = W at hWN hWg ⊢
    exact obs_copy W ty N ((i + 1) * 6) (n - i) (G - (i + 1)) ⟨g, i * 6, none⟩ (n - i) (c - i) (n - i) _ (Nat.min_self _) hdl
      (fun j v hj => by
        rw [add_none]
        have hj' := (List.getElem?_eq_some_iff.1 hj).1
        rw [← obC_drop, List.getElem?_drop, ← htk, List.getElem?_take, if_pos (by omega)] at hj
        rw [cell_of_row W g _ _ _ _ hWg, ← Array.getElem?_toList]
        exact hj)
      (fun j hj => by rw [cell_of_row W N _ _ _ _ hWN, Array.getElem?_eq_getElem (by omega)]; rfl) (fun j hj => frozen_of_row W N _ _ _ hWN) hd1
  have HOW : Hid (OwnT (((w.drew.alloc (.cells ROW 54)).setCells N (i * 6) (X6)).drew.setCells N ((i + 1) * 6) (obC (xs.drop i))) 0 54 6 (.slice (some ⟨N, 0, none⟩) (n + 1) G) (n + 1) (obC (xs.take i) ++ X6 ++ obC (xs.drop i))) := by
    refine ⟨by simp only [List.length_append, hlt, hl6, hdl]; omega, .inr ⟨N, G, c2, rfl, Nat.zero_le _, g2, by omega, hG63, by omega, ?_⟩⟩
    have h5 : c1.toList.take ((i + 1) * 6) = obC (xs.take i) ++ X6 := by
      rw [t1, hRt]
      have := take_join (A := obC (xs.take i)) (X := X6) (R := ROW.toList.drop (i * 6 + (X6).length)) (D := []) (m := 0) (N := (i + 1) * 6) (by simp) (by rw [hlt, hl6]; omega)
      rw [this]
      simp
    have h6 := take_join (A := obC (xs.take i) ++ X6) (X := obC (xs.drop i)) (R := c1.toList.drop ((i + 1) * 6 + (obC (xs.drop i)).length)) (D := []) (m := 0) (N := (n + 1) * 6) (by simp) (by rw [List.length_append, hlt, hl6, hdl]; omega)
    rw [t2, h5, h6]
    simp
  have s1 : ∀ w', (Instr.slice 72 (.slice (some ⟨g, 0, none⟩) n c) (some (.int .i64 (i : Int))) none none).run Try.prog w' = .ok (.slice (some ⟨g, i * 6, none⟩) (n - i) (c - i)) w' := fun w' => by
    have := obs_l (g := g) (o := 0) (n := n) (c := c) (i := i) (by omega) (by omega) hnc w'
    rwa [Nat.zero_add] at this
  have s2 : ∀ w', (Instr.slice 72 (.slice (some ⟨g, 0, none⟩) n c) none (some (.int .i64 (i : Int))) none).run Try.prog w' = .ok (.slice (some ⟨g, 0, none⟩) i c) w' := fun w' => obs_u (some ⟨g, 0, none⟩) (by omega) w'
  have s3 : ∀ w', (Instr.slice 72 (.slice (some ⟨N, 0, none⟩) (n + 1) G) (some (.int .i64 ((i : Int) + 1))) none none).run Try.prog w' = .ok (.slice (some ⟨N, (i + 1) * 6, none⟩) (n - i) (G - (i + 1))) w' := fun w' => by
    have := obs_l (g := N) (o := 0) (n := n + 1) (c := G) (i := i + 1) (by omega) (by omega) (by omega) w'
    rwa [Nat.zero_add, show n + 1 - (i + 1) = n - i by omega] at this
  have s4 : ∀ w', (Instr.slice 72 (.slice (some ⟨N, 0, none⟩) (n + 1) G) (some (.int .i64 (i : Int))) none none).run Try.prog w' = .ok (.slice (some ⟨N, i * 6, none⟩) (n + 1 - i) (G - i)) w' := fun w' => by
    have := obs_l (g := N) (o := 0) (n := n + 1) (c := G) (i := i) (by omega) (by omega) (by omega) w'
    rwa [Nat.zero_add] at this
  have hw1 : IntKind.i64.wrap ((i : Int) + 1) = (i : Int) + 1 := IntWalk.i64_in _ (by omega)
  have hin : ((i : Int) == (n : Int)) = false := by simp; omega
  have hroom : (c : Int) < (n : Int) + 1 := by omega
  have hz0' : (0 : Int) ≤ (n : Int) + 1 - (i : Int) := by omega
  rw [← hN] at hrz
  have HNN := hide hN
  have HRZ := hide hrz
  have HCA2 := hide hcpA
  have HKP : Hid (Kp (fun k => (Value.slice (some ⟨g, 0, none⟩) n c).ownBlock = some k) w (((w.drew.alloc (.cells ROW 54)).setCells N (i * 6) (X6)).drew.setCells N ((i + 1) * 6) (obC (xs.drop i)))) := by
    have hk1 := (hka.of_no (fun k => (Value.slice (some ⟨g, 0, none⟩) n c).ownBlock = some k)).trans ((kp_setL N (X6) (i * 6) _).mono fun q hq => .inr (by rw [hq, hN]; exact Nat.le_refl _))
    exact hk1.drew.trans ((kp_setL N (obC (xs.drop i)) ((i + 1) * 6) _).mono fun q hq => .inr (by rw [hq, hN]; exact Nat.le_refl _))
  have HCB := hide hcpB
  clear h hx hb hg hnc hcm hsz htk hdl hlt hl6 hd1 hf1 hgl hvl hkk hik hz0 hz1 hz2 hi0 hRs hRt hW1 hka e1 g1 z1 t1 e2 g2 z2 t2 hcpA hcpB hrz hN hxl
  go_enter Try.func49, Try.ntmps49
  go_wp2_with (first
    | (at_builtin
       refine wpList_apz (o := ⟨some 40, _, _, _, _, _⟩) (v := .slice (some ⟨g, 0, none⟩) i c) (u := .int .i64 ((n : Int) + 1 - (i : Int))) rfl (.tmp 34) (.tmp 39) 72 3 rfl rfl rfl (HRZ.out _) ?_
       clear HRZ
       generalize w.drew.alloc (.cells ROW 54) = W1 at HCA2 HCB HOW HKP ⊢)
    | ((with_reducible refine wpList_cpy (o := ⟨some 45, _, _, _, _, _⟩) (v := .slice (some ⟨N, i * 6, none⟩) (n + 1 - i) (G - i)) (u := .slice (some ⟨vb, 0, none⟩) 1 1) (v' := goInt 1) (w' := W1.setCells N (i * 6) X6) ?hg (.tmp 43) (.tmp 44) 72 ?ho ?hd ?hx ?hr ?_)
       case hg => rfl
       case ho => rfl
       case hd => rfl
       case hx => rfl
       case hr => exact HCA2.out _
       clear HCA2
       generalize W1.setCells N (i * 6) (X6) = W2 at HCB HOW HKP ⊢))
  refine wp_region_noPanic ?_
  refine wp_region_held_drew (S := fun _ => True) (by kernel_rfl) (trivial) (fun hHeld => ?_)
  refine wpAnyH_take (i := 0) (v := ?vdx1) (oi := ?odx1) ?hdx1 (by kernel_rfl) (by kernel_rfl) (by kernel_rfl) (fun _ _ _ h => h) (Or.inl ⟨?wdx1, ?ydx1⟩) hHeld ?rdx1
  case hdx1 => simp only [List.getElem?_toArray, List.getElem?_cons_zero, List.getElem?_cons_succ]; rfl
  case wdx1 => rfl
  case ydx1 => intro w hSw; (try dsimp only at hSw); go_simp; (try with_reducible rfl)
  simp only [Act.put, List.setIfInBounds_toArray, List.set_cons_zero, List.set_cons_succ]
  refine wpAnyH_take (i := 1) (v := ?vdx2) (oi := ?odx2) ?hdx2 (by kernel_rfl) (by kernel_rfl) (by kernel_rfl) (fun _ _ _ h => h) (Or.inl ⟨?wdx2, ?ydx2⟩) hHeld ?rdx2
  case hdx2 => simp only [List.getElem?_toArray, List.getElem?_cons_zero, List.getElem?_cons_succ]; rfl
  case wdx2 => rfl
  case ydx2 => intro w hSw; (try dsimp only at hSw); go_simp; (try with_reducible rfl)
  simp only [Act.put, List.setIfInBounds_toArray, List.set_cons_zero, List.set_cons_succ]
  refine wpAnyH_take (i := 2) (v := ?vdx3) (oi := ?odx3) ?hdx3 (by kernel_rfl) (by kernel_rfl) (by kernel_rfl) (fun _ _ _ h => h) (Or.inl ⟨?wdx3, ?ydx3⟩) hHeld ?rdx3
  case hdx3 => simp only [List.getElem?_toArray, List.getElem?_cons_zero, List.getElem?_cons_succ]; rfl
  case wdx3 => rfl
  case ydx3 => intro w hSw; (try dsimp only at hSw); go_simp; (try with_reducible rfl)
  simp only [Act.put, List.setIfInBounds_toArray, List.set_cons_zero, List.set_cons_succ]
  refine wpAnyH_take (i := 3) (v := ?vdx4) (oi := ?odx4) ?hdx4 (by kernel_rfl) (by kernel_rfl) (by kernel_rfl) (fun _ _ _ h => h) (Or.inl ⟨?wdx4, ?ydx4⟩) hHeld ?rdx4
  case hdx4 => simp only [List.getElem?_toArray, List.getElem?_cons_zero, List.getElem?_cons_succ]; rfl
  case wdx4 => rfl
  case ydx4 => intro w hSw; (try dsimp only at hSw); go_simp; (try with_reducible rfl)
  simp only [Act.put, List.setIfInBounds_toArray, List.set_cons_zero, List.set_cons_succ]
  refine wpAnyH_take (i := 4) (v := ?vdx5) (oi := ?odx5) ?hdx5 (by kernel_rfl) (by kernel_rfl) (by kernel_rfl) (fun _ _ _ h => h) (Or.inl ⟨?wdx5, ?ydx5⟩) hHeld ?rdx5
  case hdx5 => simp only [List.getElem?_toArray, List.getElem?_cons_zero, List.getElem?_cons_succ]; rfl
  case wdx5 => rfl
  case ydx5 => intro w hSw; (try dsimp only at hSw); go_simp; (try with_reducible rfl)
  simp only [Act.put, List.setIfInBounds_toArray, List.set_cons_zero, List.set_cons_succ]
  refine wpAnyH_take (i := 5) (v := ?vdx6) (oi := ?odx6) ?hdx6 (by kernel_rfl) (by kernel_rfl) (by kernel_rfl) (fun _ _ _ h => h) (Or.inl ⟨?wdx6, ?ydx6⟩) hHeld ?rdx6
  case hdx6 => simp only [List.getElem?_toArray, List.getElem?_cons_zero, List.getElem?_cons_succ]; rfl
  case wdx6 => rfl
  case ydx6 => intro w hSw; (try dsimp only at hSw); go_simp; (try with_reducible rfl)
  simp only [Act.put, List.setIfInBounds_toArray, List.set_cons_zero, List.set_cons_succ]
  refine wpAnyH_take (i := 6) (v := ?vdx7) (oi := ?odx7) ?hdx7 (by kernel_rfl) (by kernel_rfl) (by kernel_rfl) (fun _ _ _ h => h) (Or.inl ⟨?wdx7, ?ydx7⟩) hHeld ?rdx7
  case hdx7 => simp only [List.getElem?_toArray, List.getElem?_cons_zero, List.getElem?_cons_succ]; rfl
  case wdx7 => rfl
  case ydx7 => intro w hSw; (try dsimp only at hSw); go_simp; (try with_reducible rfl)
  simp only [Act.put, List.setIfInBounds_toArray, List.set_cons_zero, List.set_cons_succ]
  refine wpAnyH_take (i := 7) (v := ?vdx8) (oi := ?odx8) ?hdx8 (by kernel_rfl) (by kernel_rfl) (by kernel_rfl) (fun _ _ _ h => h) (Or.inl ⟨?wdx8, ?ydx8⟩) hHeld ?rdx8
  case hdx8 => simp only [List.getElem?_toArray, List.getElem?_cons_zero, List.getElem?_cons_succ]; rfl
  case wdx8 => rfl
  case ydx8 => intro w hSw; (try dsimp only at hSw); go_simp; (try with_reducible rfl)
  simp only [Act.put, List.setIfInBounds_toArray, List.set_cons_zero, List.set_cons_succ]
  refine wpAnyH_ready (rs := [8]) (by kernel_rfl) (by simp) ?_
  refine AllReadyH.cons (o := ?odx9) ?hdx9 (fun K hK => ?sdx9) AllReadyH.nil
  case hdx9 => simp only [List.getElem?_toArray, List.getElem?_cons_zero, List.getElem?_cons_succ]; rfl
  refine step_cpy (v := .slice (some ⟨N, (i + 1) * 6, none⟩) (n - i) (G - (i + 1))) (u := .slice (some ⟨g, i * 6, none⟩) (n - i) (c - i)) rfl (.tmp 50) (.tmp 53) 72 rfl (by simp [Act.eval, Act.put]) (by simp [Act.eval, Act.put]) (HCB.out _) ?_
  refine hK.out _ _ (trivial) (fun hHeld => ?_)
  clear hK K
  try simp only [Act.put, List.setIfInBounds_toArray, List.set_cons_zero, List.set_cons_succ]
  refine wpAnyH_done (by kernel_rfl) ?_ _
  refine NoPanic.normal ?_
  clear hHeld HCB
  generalize W2.drew.setCells N ((i + 1) * 6) (obC (xs.drop i)) = W3 at HOW HKP ⊢
  go_wp2_with fail
  go_ret
  refine ⟨_, _, _, rfl, ?_, HKP.out, fun k hk => .inr ?_⟩
  · exact HOW.out
  · exact Nat.le_of_eq (by rw [← HNN.out]; exact Option.some.inj hk)
/-- clear of one object. -/
theorem zero_ob (w : World) : (zeroValue 54).run Try.prog w = .ok (.agg #[.int .u32 0, .string ByteArray.empty, .int .i64 0, .int .i64 0, .int .i64 0, .slice none 0 0]) w := by
  obtain ⟨⟨i, hi, hz, _, _⟩, _⟩ := ty_ob
  simp [zeroValue, typeInfo, go_sem, hi, hz]
theorem clear_ob (w : World) (g o c : Nat) (ty : TypeId) (hc : ∀ j, j < 6 → (w.cell? ⟨g, o + j, none⟩).isSome = true) (hf : ∀ j, j < 6 → w.frozen? ⟨g, o + j, none⟩ = false) :
    (Builtin.clear_ #[72] ty #[.slice (some ⟨g, o, none⟩) 1 c]).run Try.prog w = .ok (.tuple #[]) (w.setCells g o [.int .u32 0, .string ByteArray.empty, .int .i64 0, .int .i64 0, .int .i64 0, .slice none 0 0]) := by
  have hst := run_storeCells_cells (P := Try.prog) g o [.int .u32 0, .string ByteArray.empty, .int .i64 0, .int .i64 0, .int .i64 0, .slice none 0 0] 0 w (by simpa using hc) (by simpa using hf) (by intro v hv; simp at hv; rcases hv with rfl | rfl | rfl | rfl | rfl | rfl <;> rfl)
  simp only [Nat.add_zero] at hst
  have hz : (Builtin.zeroCells (Value.cells (.agg #[.int .u32 0, .string ByteArray.empty, .int .i64 0, .int .i64 0, .int .i64 0, .slice none 0 0])) 1).toList = [.int .u32 0, .string ByteArray.empty, .int .i64 0, .int .i64 0, .int .i64 0, .slice none 0 0] := by kernel_rfl
  have hv := zero_ob
  simp [Builtin.clear_, run_underlying Try.underlying72, hv, hz, hst]
/-- A row of objects with one less comes back. -/
def DlPost (w : World) (g n c : Nat) (L : List Value) (e : Ending) (w1 : World) : Prop :=
  e = .returned (.slice (some ⟨g, 0, none⟩) (n - 1) c) ∧ OwnT w1 0 54 6 (.slice (some ⟨g, 0, none⟩) (n - 1) c) (n - 1) L ∧ Kp (fun k => k = g) w w1
theorem obs_lhm {g n c i j : Nat} (hij : i ≤ j) (hj : j ≤ n) (hnc : n ≤ c) (hin : i < n) (w' : World) : (Instr.slice 72 (.slice (some ⟨g, 0, none⟩) n c) (some (.int .i64 (i : Int))) (some (.int .i64 (j : Int))) (some (.int .i64 (n : Int)))).run Try.prog w' = .ok (.slice (some ⟨g, i * 6, none⟩) (j - i) (n - i)) w' := by
  rw [run_slice_lhm w' _ _ _ _ obs_under .i64 .i64 .i64 _ _ _ (by omega) (by omega) (by omega) (by omega), obs_size]
  simp only [Result.andThen, sliced, Option.map_some, add_none, Int.toNat_natCast, Nat.zero_add]
  rw [if_neg (by omega)]
theorem obs_lh {g n c i j : Nat} (hij : i ≤ j) (hj : j ≤ c) (hic : i < c) (w' : World) : (Instr.slice 72 (.slice (some ⟨g, 0, none⟩) n c) (some (.int .i64 (i : Int))) (some (.int .i64 (j : Int))) none).run Try.prog w' = .ok (.slice (some ⟨g, i * 6, none⟩) (j - i) (c - i)) w' := by
  rw [run_slice_lh w' _ _ _ _ obs_under .i64 .i64 _ _ (by omega) (by omega) (by omega), obs_size]
  simp only [Result.andThen, sliced, Option.map_some, add_none, Int.toNat_natCast, Nat.zero_add]
  rw [if_neg (by omega)]
theorem obs_ga (g : Nat) {n c i : Nat} (hi : i ≤ n) (hnc : n ≤ c) : ∃ ad : Addr, (∀ w' : World, (Instr.slice 72 (.slice (some ⟨g, 0, none⟩) n c) (some (.int .i64 (i : Int))) none none).run Try.prog w' = .ok (.slice (some ad) (n - i) (c - i)) w') ∧ (i < n → ad = ⟨g, i * 6, none⟩) := by
  by_cases h : c = i
  · refine ⟨⟨g, 0, none⟩, fun w' => ?_, fun e => by omega⟩
    rw [run_slice_l w' _ _ _ _ obs_under .i64 _ (by omega) (by omega), obs_size]
    simp only [Result.andThen, sliced, Int.toNat_natCast]
    rw [if_pos h]
  · refine ⟨⟨g, i * 6, none⟩, fun w' => ?_, fun _ => rfl⟩
    have := obs_l (g := g) (o := 0) (n := n) (c := c) (i := i) hi (by omega) hnc w'
    rwa [Nat.zero_add] at this
set_option maxHeartbeats 4000000 in
set_option maxRecDepth 100000 in
theorem tdel_any (h : OwnT w 0 54 6 (.slice (some ⟨g, 0, none⟩) n c) n (obC xs)) (hx : ∀ y ∈ xs, y.2.oneCell' = true) (hi : i < n) (hn : n ≤ 1000) :
    Calls Try.prog 50 #[.slice (some ⟨g, 0, none⟩) n c, .int .i64 (i : Int), .int .i64 ((i : Int) + 1)] w (DlPost w g n c (obC (xs.take i ++ xs.drop (i + 1)))) := by
  obtain ⟨cur, hg, _, hnc, hcm, hsz, htk, _⟩ := h.row
  obtain ⟨⟨i0, hi0, hz0, hz1, hz2⟩, _⟩ := ty_ob
  have hxl : xs.length = n := by have := h.1; rw [obC_len] at this; omega
  have hdl : (obC (xs.drop (i + 1))).length = (n - (i + 1)) * 6 := by rw [obC_len, List.length_drop, hxl]
  have hlt : (obC (xs.take i)).length = i * 6 := by rw [obC_len, List.length_take, hxl, Nat.min_eq_left (by omega)]
  have hd1 : ∀ u ∈ obC (xs.drop (i + 1)), u.oneCell' = true := obC_one fun y hy => hx y (List.mem_of_mem_drop hy)
  have hcm2 : c ≤ maxLen := hcm
  obtain ⟨ad, sA, had⟩ := obs_ga g (n := n) (c := c) (i := i + 1) (by omega) hnc
  have hgd : w.drew.heap[g]? = some (.cells cur 54 (0, 0)) := hg
  have e1 : i * 6 + (obC (xs.drop (i + 1))).length ≤ cur.size := by rw [hdl, hsz]; omega
  have hnw : Hid (∀ (j : Nat) u, (obC (xs.drop (i + 1)))[j]? = some u → w.drew.cell? (ad.add j) = some u) := fun j u hu => by
    have hj := (List.getElem?_eq_some_iff.1 hu).1
    rw [had (by omega), add_none]
    rw [← obC_drop, List.getElem?_drop, ← htk, List.getElem?_take, if_pos (by omega)] at hu
    rw [cell_of_row w.drew g _ _ _ _ hgd, ← Array.getElem?_toList]
    exact hu
  have hsp : Hid (∀ j, j < (obC (xs.drop (i + 1))).length → (w.drew.cell? ⟨g, 0 + i * 6 + j, none⟩).isSome = true ∧ w.drew.frozen? ⟨g, 0 + i * 6 + j, none⟩ = false) := fun j hj =>
    ⟨by rw [cell_of_row w.drew g _ _ _ _ hgd, Array.getElem?_eq_getElem (by omega)]; rfl, frozen_of_row w.drew g _ _ _ hgd⟩
  obtain ⟨c1, g1, z1, t1⟩ := heap_setL (obC (xs.drop (i + 1))) (i * 6) w.drew cur hgd e1
  obtain ⟨Z6, hZ6⟩ : ∃ Z6 : List Value, Z6 = [.int .u32 0, .string ByteArray.empty, .int .i64 0, .int .i64 0, .int .i64 0, .slice none 0 0] := ⟨_, rfl⟩
  have hz6l : Z6.length = 6 := by rw [hZ6]; rfl
  have e2 : (n - 1) * 6 + Z6.length ≤ c1.size := by rw [hz6l, z1, hsz]; omega
  obtain ⟨c2, g2, z2, t2⟩ := heap_setL Z6 ((n - 1) * 6) (w.drew.setCells g (i * 6) (obC (xs.drop (i + 1)))) c1 g1 e2
  have hcl : ∀ ty, (Builtin.clear_ #[72] ty #[.slice (some ⟨g, (n - 1) * 6, none⟩) (n - (n - 1)) (c - (n - 1))]).run Try.prog (w.drew.setCells g (i * 6) (obC (xs.drop (i + 1)))) = .ok (.tuple #[]) ((w.drew.setCells g (i * 6) (obC (xs.drop (i + 1)))).setCells g ((n - 1) * 6) Z6) := fun ty => by
    rw [hZ6, show n - (n - 1) = 1 by omega]
    exact clear_ob _ g ((n - 1) * 6) _ ty (fun j hj => by rw [cell_of_row _ g _ _ _ _ g1, Array.getElem?_eq_getElem (by omega)]; rfl) (fun j hj => frozen_of_row _ g _ _ _ g1)
  have HOW : Hid (OwnT ((w.drew.setCells g (i * 6) (obC (xs.drop (i + 1)))).setCells g ((n - 1) * 6) Z6) 0 54 6 (.slice (some ⟨g, 0, none⟩) (n - 1) c) (n - 1) (obC (xs.take i ++ xs.drop (i + 1)))) := by
    have hap : obC (xs.take i ++ xs.drop (i + 1)) = obC (xs.take i) ++ obC (xs.drop (i + 1)) := by simp [obC]
    refine ⟨by rw [hap, List.length_append, hlt, hdl]; omega, .inr ⟨g, c, c2, rfl, Nat.zero_le _, g2, by omega, hcm2, by omega, ?_⟩⟩
    have ht1 : cur.toList.take (i * 6) = obC (xs.take i) := by rw [← obC_take, ← htk, List.take_take, Nat.min_eq_left (by omega)]
    have h5 := take_join (A := obC (xs.take i)) (X := obC (xs.drop (i + 1))) (R := cur.toList.drop (i * 6 + (obC (xs.drop (i + 1))).length)) (D := []) (m := 0) (N := (n - 1) * 6) (by simp) (by rw [hlt, hdl]; omega)
    rw [← ht1, ← t1, ht1, List.append_nil, ← hap] at h5
    rw [t2, List.append_assoc, List.take_append_of_le_length (by rw [List.length_take]; simp only [Array.length_toList]; omega), List.take_take, Nat.min_self]
    exact h5
  have HKP : Hid (Kp (fun k => k = g) w ((w.drew.setCells g (i * 6) (obC (xs.drop (i + 1)))).setCells g ((n - 1) * 6) Z6)) := (((Kp.refl _ w).drew).trans' (kp_setL g _ _ _)).trans' (kp_setL g _ _ _)
  have s0 : ∀ w', (Instr.slice 72 (.slice (some ⟨g, 0, none⟩) n c) (some (.int .i64 (i : Int))) (some (.int .i64 ((i : Int) + 1))) (some (.int .i64 (n : Int)))).run Try.prog w' = .ok (.slice (some ⟨g, i * 6, none⟩) (i + 1 - i) (n - i)) w' := fun w' => obs_lhm (j := i + 1) (by omega) (by omega) hnc hi w'
  have s1 : ∀ w', (Instr.slice 72 (.slice (some ⟨g, 0, none⟩) n c) none (some (.int .i64 (i : Int))) none).run Try.prog w' = .ok (.slice (some ⟨g, 0, none⟩) i c) w' := fun w' => obs_u _ (by omega) w'
  have s2 : ∀ w', (Instr.slice 72 (.slice (some ⟨g, 0, none⟩) n c) (some (.int .i64 ((i : Int) + 1))) none none).run Try.prog w' = .ok (.slice (some ad) (n - (i + 1)) (c - (i + 1))) w' := fun w' => sA w'
  obtain ⟨n1, hn1⟩ : ∃ n1, n1 = n - 1 := ⟨_, rfl⟩
  have hlen : i + (n - (i + 1)) = n1 := by omega
  have s3 : ∀ w', (Instr.slice 72 (.slice (some ⟨g, 0, none⟩) n1 c) (some (.int .i64 (n1 : Int))) (some (.int .i64 (n : Int))) none).run Try.prog w' = .ok (.slice (some ⟨g, n1 * 6, none⟩) (n - n1) (c - n1)) w' := fun w' => obs_lh (by omega) (by omega) (by omega) w'
  rw [← hn1] at hcl HOW HKP
  have HLN := hide hlen
  have HDL := hide hdl
  have HD1 := hide hd1
  have HPO : Hid (∀ e w1, (e = .returned (.slice (some ⟨g, 0, none⟩) n1 c) ∧ OwnT w1 0 54 6 (.slice (some ⟨g, 0, none⟩) n1 c) n1 (obC (xs.take i ++ xs.drop (i + 1))) ∧ Kp (fun k => k = g) w w1) → DlPost w g n c (obC (xs.take i ++ xs.drop (i + 1))) e w1) := fun e w1 hh => by rw [hn1] at hh; exact hh
  have hii : ((i : Int) == (i : Int) + 1) = false := by rw [beq_eq_false_iff_ne]; omega
  have HCL := hide hcl
  have HI0 := hide hi0
  have HZ1 := hide hz1
  have hic : i + (n - (i + 1)) ≤ c := by omega
  have HIC := hide hic
  clear h hx hg hnc hcm hsz htk hdl hlt hd1 hcm2 sA had hgd e1 g1 z1 t1 e2 g2 z2 t2 hcl hxl hz0 hz2 hi0 hz1 hZ6 hz6l hn1 hlen hic
  go_enter Try.func50, Try.ntmps50
  go_wp2_with fail
  refine wp_region_noPanic ?_
  refine wp_region_held_drew (S := fun _ => True) (by kernel_rfl) (trivial) (fun hHeld => ?_)
  refine wpAnyH_take (i := 0) (v := ?vfx1) (oi := ?ofx1) ?hfx1 (by kernel_rfl) (by kernel_rfl) (by kernel_rfl) (fun _ _ _ h => h) (Or.inl ⟨?wfx1, ?yfx1⟩) hHeld ?rfx1
  case hfx1 => simp only [List.getElem?_toArray, List.getElem?_cons_zero, List.getElem?_cons_succ]; rfl
  case wfx1 => rfl
  case yfx1 => intro w hSw; (try dsimp only at hSw); go_simp; (try with_reducible rfl)
  simp only [Act.put, List.setIfInBounds_toArray, List.set_cons_zero, List.set_cons_succ]
  refine wpAnyH_take (i := 1) (v := ?vfx2) (oi := ?ofx2) ?hfx2 (by kernel_rfl) (by kernel_rfl) (by kernel_rfl) (fun _ _ _ h => h) (Or.inl ⟨?wfx2, ?yfx2⟩) hHeld ?rfx2
  case hfx2 => simp only [List.getElem?_toArray, List.getElem?_cons_zero, List.getElem?_cons_succ]; rfl
  case wfx2 => rfl
  case yfx2 => intro w hSw; (try dsimp only at hSw); go_simp; (try with_reducible rfl)
  simp only [Act.put, List.setIfInBounds_toArray, List.set_cons_zero, List.set_cons_succ]
  refine wpAnyH_take (i := 2) (v := ?vfx3) (oi := ?ofx3) ?hfx3 (by kernel_rfl) (by kernel_rfl) (by kernel_rfl) (fun _ _ _ h => h) (Or.inl ⟨?wfx3, ?yfx3⟩) hHeld ?rfx3
  case hfx3 => simp only [List.getElem?_toArray, List.getElem?_cons_zero, List.getElem?_cons_succ]; rfl
  case wfx3 => rfl
  case yfx3 => intro w hSw; (try dsimp only at hSw); go_simp; (try with_reducible rfl)
  simp only [Act.put, List.setIfInBounds_toArray, List.set_cons_zero, List.set_cons_succ]
  refine wpAnyH_take (i := 3) (v := ?vfx4) (oi := ?ofx4) ?hfx4 (by kernel_rfl) (by kernel_rfl) (by kernel_rfl) (fun _ _ _ h => h) (Or.inl ⟨?wfx4, ?yfx4⟩) hHeld ?rfx4
  case hfx4 => simp only [List.getElem?_toArray, List.getElem?_cons_zero, List.getElem?_cons_succ]; rfl
  case wfx4 => rfl
  case yfx4 => intro w hSw; (try dsimp only at hSw); go_simp; (try with_reducible rfl)
  simp only [Act.put, List.setIfInBounds_toArray, List.set_cons_zero, List.set_cons_succ]
  refine wpAnyH_take (i := 4) (v := ?vfx5) (oi := ?ofx5) ?hfx5 (by kernel_rfl) (by kernel_rfl) (by kernel_rfl) (fun _ _ _ h => h) (Or.inl ⟨?wfx5, ?yfx5⟩) hHeld ?rfx5
  case hfx5 => simp only [List.getElem?_toArray, List.getElem?_cons_zero, List.getElem?_cons_succ]; rfl
  case wfx5 => rfl
  case yfx5 => intro w hSw; (try dsimp only at hSw); go_simp; (try with_reducible rfl)
  simp only [Act.put, List.setIfInBounds_toArray, List.set_cons_zero, List.set_cons_succ]
  refine wpAnyH_take (i := 5) (v := ?vfx6) (oi := ?ofx6) ?hfx6 (by kernel_rfl) (by kernel_rfl) (by kernel_rfl) (fun _ _ _ h => h) (Or.inl ⟨?wfx6, ?yfx6⟩) hHeld ?rfx6
  case hfx6 => simp only [List.getElem?_toArray, List.getElem?_cons_zero, List.getElem?_cons_succ]; rfl
  case wfx6 => rfl
  case yfx6 => intro w hSw; (try dsimp only at hSw); go_simp; (try with_reducible rfl)
  simp only [Act.put, List.setIfInBounds_toArray, List.set_cons_zero, List.set_cons_succ]
  refine wpAnyH_ready (rs := [6]) (by kernel_rfl) (by simp) ?_
  refine AllReadyH.cons (o := ?ofx7) ?hfx7 (fun K hK => ?sfx7) AllReadyH.nil
  case hfx7 => simp only [List.getElem?_toArray, List.getElem?_cons_zero, List.getElem?_cons_succ]; rfl
  refine step_append_room (P := Try.prog) rfl (.tmp 22) (.tmp 25) 72 rfl 54 i0 6 Try.underlying72 HI0.out HZ1.out g 0 i c (by simp [Act.eval, Act.put]) ad (n - (i + 1)) (c - (i + 1)) (obC (xs.drop (i + 1))) (by simp [Act.eval, Act.put]) HDL.out hnw.out HD1.out HIC.out hsp.out ?_
  rw [Nat.zero_add, HLN.out]
  refine hK.out _ _ (trivial) (fun hHeld => ?_)
  clear hK K
  try simp only [Act.put, List.setIfInBounds_toArray, List.set_cons_zero, List.set_cons_succ]
  refine wpAnyH_take (i := 7) (v := ?vfx8) (oi := ?ofx8) ?hfx8 (by kernel_rfl) (by kernel_rfl) (by kernel_rfl) (fun _ _ _ h => h) (Or.inl ⟨?wfx8, ?yfx8⟩) hHeld ?rfx8
  case hfx8 => simp only [List.getElem?_toArray, List.getElem?_cons_zero, List.getElem?_cons_succ]; rfl
  case wfx8 => rfl
  case yfx8 => intro w hSw; (try dsimp only at hSw); go_simp; (try with_reducible rfl)
  simp only [Act.put, List.setIfInBounds_toArray, List.set_cons_zero, List.set_cons_succ]
  refine wpAnyH_done (by kernel_rfl) ?_ _
  refine NoPanic.normal ?_
  clear hHeld hnw hsp s0 s1 s2
  generalize w.drew.setCells g (i * 6) (obC (xs.drop (i + 1))) = W1 at HOW HKP HCL ⊢
  have hcl := HCL.out
  go_wp2_with fail
  go_ret
  exact HPO.out _ _ ⟨rfl, HOW.out, HKP.out⟩
end
end Go.Proofs.Ythicpblgonigcaa
