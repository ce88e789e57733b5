/- A purse of package purse in memory; each of its calls as a contract. No condition. -/
import Derived.Test.YtjjdkkncdnipcaaPua
import Derived.Test.YtjjdkkncdnipcaaRgh
import Derived.Laws.Cover1
import Derived.Deep.DeepCutAuto
namespace Go.Proofs.Ytjjdkkncdnipcaa
open Go.RowKit
set_option linter.unusedVariables false
set_option maxRecDepth 20000
set_option linter.unusedSimpArgs false

/-- What a box of a purse holds. -/
def puC (T : Pu) : Array Value := #[.int .u64 (T.rate : Int), .int .u64 (T.burst : Int), .int .u64 (T.level : Int), .int .u64 (T.spent : Int)]
/-- At block g lies a purse T. -/
structure PuAt (w : World) (g : Nat) (T : Pu) : Prop where
  blk : w.heap[g]? = some (.cells (puC T) 49 (0, 0))
  ok : T.Ok
section
variable {w w1 : World} {S : Nat → Prop} {g : Nat} {T : Pu}
theorem PuAt.lt (h : PuAt w g T) : g < w.heap.size := (Array.getElem?_eq_some_iff.1 h.blk).1
theorem PuAt.keep (h : PuAt w g T) (hk : Kp S w w1) (hS : ¬ S g) : PuAt w1 g T := ⟨(hk.block g h.lt hS).trans h.blk, h.ok⟩
theorem PuAt.no (h : PuAt w g T) (hk : Kp No w w1) : PuAt w1 g T := h.keep hk fun f => f
theorem PuAt.c0 (h : PuAt w g T) : w.cell? ⟨g, 0, none⟩ = some (.int .u64 (T.rate : Int)) := by rw [cell_of_row w g 0 _ _ _ h.blk]; rfl
theorem PuAt.c1 (h : PuAt w g T) : w.cell? ⟨g, 1, none⟩ = some (.int .u64 (T.burst : Int)) := by rw [cell_of_row w g 1 _ _ _ h.blk]; rfl
theorem PuAt.c2 (h : PuAt w g T) : w.cell? ⟨g, 2, none⟩ = some (.int .u64 (T.level : Int)) := by rw [cell_of_row w g 2 _ _ _ h.blk]; rfl
theorem PuAt.c3 (h : PuAt w g T) : w.cell? ⟨g, 3, none⟩ = some (.int .u64 (T.spent : Int)) := by rw [cell_of_row w g 3 _ _ _ h.blk]; rfl
theorem PuAt.fz (h : PuAt w g T) (j : Nat) : w.frozen? ⟨g, j, none⟩ = false := frozen_of_row w g j _ _ h.blk
theorem PuAt.setLevel (h : PuAt w g T) {n : Nat} (hn : n ≤ T.burst) : PuAt (w.setCell ⟨g, 2, none⟩ (.int .u64 (n : Int))) g ⟨T.rate, T.burst, n, T.spent⟩ := ⟨heap_setCell_same w g 2 _ _ _ h.blk, ⟨h.ok.rt, h.ok.bu, hn, h.ok.sp⟩⟩
theorem PuAt.setSpent (h : PuAt w g T) {n : Nat} (hn : n ≤ 18446744073709551615) : PuAt (w.setCell ⟨g, 3, none⟩ (.int .u64 (n : Int))) g ⟨T.rate, T.burst, T.level, n⟩ := ⟨heap_setCell_same w g 3 _ _ _ h.blk, ⟨h.ok.rt, h.ok.bu, h.ok.lv, hn⟩⟩
theorem kp_pu (w : World) (g j : Nat) (u : Value) : Kp (fun k => k = g) w (w.setCell ⟨g, j, none⟩ u) := Kp.setCell (p := ⟨g, j, none⟩) (S := fun k => k = g) rfl u
end

/-- A purse comes back. -/
def PnPost (w : World) (T : Pu) (e : Ending) (w1 : World) : Prop := ∃ g, e = .returned (.tuple #[.pointer (some ⟨g, 0, none⟩), .int .i64 0]) ∧ PuAt w1 g T ∧ w.heap.size ≤ g ∧ Kp No w w1
theorem pnew_no (w : World) (r b : Nat) (h : ¬ (r ≤ 1152921504606846976 ∧ b ≤ 1152921504606846976)) : Calls Try.prog 7 #[.int .u64 (r : Int), .int .u64 (b : Int)] w fun e w1 => e = .returned (.tuple #[.pointer none, .int .i64 1]) ∧ w = w1 := by
  by_cases h1 : 1152921504606846976 < r
  · clear h
    go_enter Try.func7, Try.ntmps7
    go_wp2
    go_ret2
    exact ⟨rfl, rfl⟩
  · have h2 : 1152921504606846976 < b := by omega
    clear h
    go_enter Try.func7, Try.ntmps7
    go_wp2
    go_ret2
    exact ⟨rfl, rfl⟩
theorem pnew_any (w : World) (r b : Nat) (hr : r ≤ 1152921504606846976) (hb : b ≤ 1152921504606846976) : Calls Try.prog 7 #[.int .u64 (r : Int), .int .u64 (b : Int)] w (PnPost w (Pu.new r b)) := by
  have hok := hide (Pu.new_ok hr hb)
  go_enter Try.func7, Try.ntmps7
  go_wp2
  go_ret2
  have h1 := heap_alloc_new w (.cells (puC (Pu.new r b)) 49)
  have k1 := Kp.alloc No w (.cells (puC (Pu.new r b)) 49)
  exact ⟨w.heap.size, rfl, ⟨h1, hok.out⟩, Nat.le_refl _, k1⟩

theorem plevel_nil (w : World) : Calls Try.prog 11 #[.pointer none] w (NumPost w 0) := by
  go_enter Try.func11, Try.ntmps11
  go_wp2
  go_ret
  exact ⟨rfl, rfl⟩
theorem pspent_nil (w : World) : Calls Try.prog 12 #[.pointer none] w (NumPost w 0) := by
  go_enter Try.func12, Try.ntmps12
  go_wp2
  go_ret
  exact ⟨rfl, rfl⟩
theorem pbound_nil (w : World) (n : Nat) : Calls Try.prog 13 #[.pointer none, .int .u64 (n : Int)] w (NumPost w 0) := by
  go_enter Try.func13, Try.ntmps13
  go_wp2
  go_ret
  exact ⟨rfl, rfl⟩
theorem pspend_nil (w : World) (n : Nat) : Calls Try.prog 14 #[.pointer none, .int .u64 (n : Int)] w fun e w1 => e = .returned (.bool false) ∧ w = w1 := by
  go_enter Try.func14, Try.ntmps14
  go_wp2
  go_ret
  exact ⟨rfl, rfl⟩
theorem pwait_nil (w : World) (n : Nat) : Calls Try.prog 10 #[.pointer none, .int .u64 (n : Int)] w fun e w1 => e = .returned (.tuple #[.int .u64 0, .bool false]) ∧ w = w1 := by
  go_enter Try.func10, Try.ntmps10
  go_wp2
  go_ret2
  exact ⟨rfl, rfl⟩
theorem ptick_nil (w : World) (n : Nat) : Calls Try.prog 8 #[.pointer none, .int .u64 (n : Int)] w fun e w1 => e = .returned (.tuple #[]) ∧ w = w1 := by
  go_enter Try.func8, Try.ntmps8
  go_wp2
  refine bodyPost_ret (results_none rfl _ _ _) rfl ?_
  exact ⟨rfl, rfl⟩
theorem pback_nil (w : World) (n : Nat) : Calls Try.prog 9 #[.pointer none, .int .u64 (n : Int)] w fun e w1 => e = .returned (.tuple #[]) ∧ w = w1 := by
  go_enter Try.func9, Try.ntmps9
  go_wp2
  refine bodyPost_ret (results_none rfl _ _ _) rfl ?_
  exact ⟨rfl, rfl⟩

section
variable {w : World} {g : Nat} {T : Pu}
theorem plevel_any (h : PuAt w g T) : Calls Try.prog 11 #[.pointer (some ⟨g, 0, none⟩)] w (NumPost w T.level) := by
  have x2 := h.c2
  clear h
  go_enter Try.func11, Try.ntmps11
  go_wp2
  go_ret
  exact ⟨rfl, rfl⟩
theorem pspent_any (h : PuAt w g T) : Calls Try.prog 12 #[.pointer (some ⟨g, 0, none⟩)] w (NumPost w T.spent) := by
  have x3 := h.c3
  clear h
  go_enter Try.func12, Try.ntmps12
  go_wp2
  go_ret
  exact ⟨rfl, rfl⟩
theorem pbound_any (h : PuAt w g T) (n : Nat) (hn : n ≤ 18446744073709551615) : Calls Try.prog 13 #[.pointer (some ⟨g, 0, none⟩), .int .u64 (n : Int)] w fun e w1 => e = .returned (.int .u64 (T.bound n : Int)) ∧ Kp No w w1 := by
  have c1 := fun w => product_any w T.rate n (by have := h.ok.rt; omega) hn
  have c2 := fun w => sum_any w T.burst (cutN (T.rate * n)) (by have := h.ok.bu; omega) (cutN_le _)
  have e : cutN (T.burst + cutN (T.rate * n)) = T.bound n := cutN_cut T.burst (T.rate * n)
  rw [e] at c2
  clear e
  generalize cutN (T.rate * n) = B1 at c1 c2
  generalize T.bound n = B2 at c2 ⊢
  have C1 := hide c1
  have C2 := hide c2
  have H := hide h
  clear h hn c1 c2
  go_enter Try.func13, Try.ntmps13
  go_upto_region 3 with fail
  refine wp_region_noPanic ?_
  refine wp_region_held_drew (S := fun w' => PuAt w' g T ∧ Kp No w w') (by kernel_rfl) (⟨H.out.no (Kp.refl No _).drew, (Kp.refl No _).drew⟩) (fun hHeld => ?_)
  refine wpAnyH_take (i := 0) (v := ?vbdx1) (oi := ?obdx1) ?hbdx1 (by kernel_rfl) (by kernel_rfl) (by kernel_rfl) (fun _ _ _ h => h) (Or.inl ⟨?wbdx1, ?ybdx1⟩) hHeld ?rbdx1
  case hbdx1 => simp only [List.getElem?_toArray, List.getElem?_cons_zero, List.getElem?_cons_succ]; rfl
  case wbdx1 => rfl
  case ybdx1 => intro w hSw; (try dsimp only at hSw); go_simp; (try with_reducible rfl)
  simp only [Act.put, List.setIfInBounds_toArray, List.set_cons_zero, List.set_cons_succ]
  refine wpAnyH_take (i := 1) (v := ?vbdx2) (oi := ?obdx2) ?hbdx2 (by kernel_rfl) (by kernel_rfl) (by kernel_rfl) (fun _ _ _ h => h) (Or.inl ⟨?wbdx2, ?ybdx2⟩) hHeld ?rbdx2
  case hbdx2 => simp only [List.getElem?_toArray, List.getElem?_cons_zero, List.getElem?_cons_succ]; rfl
  case wbdx2 => rfl
  case ybdx2 => intro w hSw; (try dsimp only at hSw); go_simp; (try with_reducible rfl)
  simp only [Act.put, List.setIfInBounds_toArray, List.set_cons_zero, List.set_cons_succ]
  refine wpAnyH_take (i := 2) (v := ?vbdx3) (oi := ?obdx3) ?hbdx3 (by kernel_rfl) (by kernel_rfl) (by kernel_rfl) (fun _ _ _ h => h) (Or.inl ⟨?wbdx3, ?ybdx3⟩) hHeld ?rbdx3
  case hbdx3 => simp only [List.getElem?_toArray, List.getElem?_cons_zero, List.getElem?_cons_succ]; rfl
  case wbdx3 => rfl
  case ybdx3 => intro w hSw; (try dsimp only at hSw); go_simp; (try with_reducible rfl)
  simp only [Act.put, List.setIfInBounds_toArray, List.set_cons_zero, List.set_cons_succ]
  refine wpAnyH_take (i := 3) (v := ?vbdx4) (oi := ?obdx4) ?hbdx4 (by kernel_rfl) (by kernel_rfl) (by kernel_rfl) (fun _ _ _ h => h) (Or.inl ⟨?wbdx4, ?ybdx4⟩) hHeld ?rbdx4
  case hbdx4 => simp only [List.getElem?_toArray, List.getElem?_cons_zero, List.getElem?_cons_succ]; rfl
  case wbdx4 => rfl
  case ybdx4 =>
    intro w hSw
    (try dsimp only at hSw)
    have i0 := hSw.1.c1
    go_simp
    try with_reducible rfl
  simp only [Act.put, List.setIfInBounds_toArray, List.set_cons_zero, List.set_cons_succ]
  refine wpAnyH_take (i := 4) (v := ?vbdx5) (oi := ?obdx5) ?hbdx5 (by kernel_rfl) (by kernel_rfl) (by kernel_rfl) (fun _ _ _ h => h) (Or.inl ⟨?wbdx5, ?ybdx5⟩) hHeld ?rbdx5
  case hbdx5 => simp only [List.getElem?_toArray, List.getElem?_cons_zero, List.getElem?_cons_succ]; rfl
  case wbdx5 => rfl
  case ybdx5 => intro w hSw; (try dsimp only at hSw); go_simp; (try with_reducible rfl)
  simp only [Act.put, List.setIfInBounds_toArray, List.set_cons_zero, List.set_cons_succ]
  refine wpAnyH_take (i := 5) (v := ?vbdx6) (oi := ?obdx6) ?hbdx6 (by kernel_rfl) (by kernel_rfl) (by kernel_rfl) (fun _ _ _ h => h) (Or.inl ⟨?wbdx6, ?ybdx6⟩) hHeld ?rbdx6
  case hbdx6 => simp only [List.getElem?_toArray, List.getElem?_cons_zero, List.getElem?_cons_succ]; rfl
  case wbdx6 => rfl
  case ybdx6 => intro w hSw; (try dsimp only at hSw); go_simp; (try with_reducible rfl)
  simp only [Act.put, List.setIfInBounds_toArray, List.set_cons_zero, List.set_cons_succ]
  refine wpAnyH_take (i := 6) (v := ?vbdx7) (oi := ?obdx7) ?hbdx7 (by kernel_rfl) (by kernel_rfl) (by kernel_rfl) (fun _ _ _ h => h) (Or.inl ⟨?wbdx7, ?ybdx7⟩) hHeld ?rbdx7
  case hbdx7 => simp only [List.getElem?_toArray, List.getElem?_cons_zero, List.getElem?_cons_succ]; rfl
  case wbdx7 => rfl
  case ybdx7 => intro w hSw; (try dsimp only at hSw); go_simp; (try with_reducible rfl)
  simp only [Act.put, List.setIfInBounds_toArray, List.set_cons_zero, List.set_cons_succ]
  refine wpAnyH_take (i := 7) (v := ?vbdx8) (oi := ?obdx8) ?hbdx8 (by kernel_rfl) (by kernel_rfl) (by kernel_rfl) (fun _ _ _ h => h) (Or.inl ⟨?wbdx8, ?ybdx8⟩) hHeld ?rbdx8
  case hbdx8 => simp only [List.getElem?_toArray, List.getElem?_cons_zero, List.getElem?_cons_succ]; rfl
  case wbdx8 => rfl
  case ybdx8 =>
    intro w hSw
    (try dsimp only at hSw)
    have i0 := hSw.1.c0
    go_simp
    try with_reducible rfl
  simp only [Act.put, List.setIfInBounds_toArray, List.set_cons_zero, List.set_cons_succ]
  refine wpAnyH_take (i := 8) (v := ?vbdx9) (oi := ?obdx9) ?hbdx9 (by kernel_rfl) (by kernel_rfl) (by kernel_rfl) (fun _ _ _ h => h) (Or.inl ⟨?wbdx9, ?ybdx9⟩) hHeld ?rbdx9
  case hbdx9 => simp only [List.getElem?_toArray, List.getElem?_cons_zero, List.getElem?_cons_succ]; rfl
  case wbdx9 => rfl
  case ybdx9 => intro w hSw; (try dsimp only at hSw); go_simp; (try with_reducible rfl)
  simp only [Act.put, List.setIfInBounds_toArray, List.set_cons_zero, List.set_cons_succ]
  refine wpAnyH_ready (rs := [9]) (by kernel_rfl) (by simp) ?_
  refine AllReadyH.cons (o := ?obdx10) ?hbdx10 (fun K hK => ?sbdx10) AllReadyH.nil
  case hbdx10 => simp only [List.getElem?_toArray, List.getElem?_cons_zero, List.getElem?_cons_succ]; rfl
  go_simp
  refine (C1.out _).mono ?_
  rintro e w9 ⟨rfl, rfl⟩
  refine hK.out _ _ (hHeld) (fun hHeld => ?_)
  clear hK K
  try simp only [Act.put, List.setIfInBounds_toArray, List.set_cons_zero, List.set_cons_succ]
  refine wpAnyH_ready (rs := [10]) (by kernel_rfl) (by simp) ?_
  refine AllReadyH.cons (o := ?obdx11) ?hbdx11 (fun K hK => ?sbdx11) AllReadyH.nil
  case hbdx11 => simp only [List.getElem?_toArray, List.getElem?_cons_zero, List.getElem?_cons_succ]; rfl
  go_simp
  refine (C2.out _).mono ?_
  rintro e w9 ⟨rfl, rfl⟩
  refine hK.out _ _ (hHeld) (fun hHeld => ?_)
  clear hK K
  try simp only [Act.put, List.setIfInBounds_toArray, List.set_cons_zero, List.set_cons_succ]
  refine wpAnyH_take (i := 11) (v := ?vbdx12) (oi := ?obdx12) ?hbdx12 (by kernel_rfl) (by kernel_rfl) (by kernel_rfl) (fun _ _ _ h => h) (Or.inl ⟨?wbdx12, ?ybdx12⟩) hHeld ?rbdx12
  case hbdx12 => simp only [List.getElem?_toArray, List.getElem?_cons_zero, List.getElem?_cons_succ]; rfl
  case wbdx12 => rfl
  case ybdx12 => intro w hSw; (try dsimp only at hSw); go_simp; (try with_reducible rfl)
  simp only [Act.put, List.setIfInBounds_toArray, List.set_cons_zero, List.set_cons_succ]
  refine wpAnyH_done (by kernel_rfl) ?_ _
  refine NoPanic.normal ?_
  have K9 := hide hHeld.2
  clear hHeld
  go_wp2_with fail
  go_ret
  exact ⟨rfl, K9.out⟩
/-- What a call that turns a purse comes to. -/
def PkPost (w : World) (g : Nat) (T' : Pu) (v : Value) (e : Ending) (w1 : World) : Prop := e = .returned v ∧ PuAt w1 g T' ∧ Kp (fun k => k = g) w w1
theorem pspend_no (h : PuAt w g T) (n : Nat) (hn : ¬ n ≤ T.level) : Calls Try.prog 14 #[.pointer (some ⟨g, 0, none⟩), .int .u64 (n : Int)] w (PkPost w g (T.spend n) (.bool false)) := by
  have x2 := h.c2
  have e : T.spend n = T := if_neg hn
  rw [e]
  have H := hide h
  have hn2 : T.level < n := by omega
  clear h e hn
  go_enter Try.func14, Try.ntmps14
  go_wp2
  go_ret
  exact ⟨rfl, H.out, Kp.refl _ _⟩
theorem pspend_yes (h : PuAt w g T) (n : Nat) (hn : n ≤ T.level) : Calls Try.prog 14 #[.pointer (some ⟨g, 0, none⟩), .int .u64 (n : Int)] w (PkPost w g (T.spend n) (.bool true)) := by
  have x2 := h.c2
  have f2 := h.fz 2
  have e : T.spend n = ⟨T.rate, T.burst, T.level - n, cutN (T.spent + n)⟩ := if_pos hn
  have E := hide e
  have hlv := h.ok.lv
  have hbu := h.ok.bu
  have e2 : IntKind.u64.wrap ((T.level : Int) - (n : Int)) = ((T.level - n : Nat) : Int) := by rw [IntKind.wrap_u64]; omega
  have HL := hide (h.setLevel (n := T.level - n) (by omega))
  have HK := hide (kp_pu w g 2 (.int .u64 ((T.level - n : Nat) : Int)))
  have C2 := hide (fun w => sum_any w T.spent n h.ok.sp (by omega))
  have CL := hide (cutN_le (T.spent + n))
  generalize T.level - n = m at e2 HL HK E
  generalize cutN (T.spent + n) = q at C2 CL E
  have E2 := hide e2
  clear h e e2 hlv hbu
  go_enter Try.func14, Try.ntmps14
  go_upto_region 4 with fail
  rw [E2.out]
  generalize w.setCell ⟨g, 2, none⟩ (.int .u64 (m : Int)) = w2 at HL HK ⊢
  clear x2 f2
  have x3 := HL.out.c3
  have f3 := HL.out.fz 3
  go_wp2_with fail
  refine (C2.out _).mono ?_
  rintro e w9 ⟨rfl, rfl⟩
  go_wp2_with fail
  go_ret
  exact ⟨rfl, by rw [E.out]; exact HL.out.setSpent CL.out, HK.out.trans' (kp_pu _ g 3 _)⟩
set_option maxHeartbeats 1000000 in
theorem pback_any (h : PuAt w g T) (n : Nat) (hn : n ≤ 18446744073709551615) : Calls Try.prog 9 #[.pointer (some ⟨g, 0, none⟩), .int .u64 (n : Int)] w (PkPost w g (T.back n) (.tuple #[])) := by
  have x1 : w.drew.cell? ⟨g, 1, none⟩ = some (.int .u64 (T.burst : Int)) := h.c1
  have x2 : w.drew.cell? ⟨g, 2, none⟩ = some (.int .u64 (T.level : Int)) := h.c2
  have x3 : w.drew.cell? ⟨g, 3, none⟩ = some (.int .u64 (T.spent : Int)) := h.c3
  have hlv := h.ok.lv
  have hbu := h.ok.bu
  have hsp := h.ok.sp
  have hb := T.bk_le n
  have e : T.back n = ⟨T.rate, T.burst, T.level + T.bk n, T.spent - T.bk n⟩ := rfl
  have em : (if (((T.burst : Int) - (T.level : Int)) < (if T.spent < n then (T.spent : Int) else (n : Int))) then ((T.burst : Int) - (T.level : Int)) else (if T.spent < n then (T.spent : Int) else (n : Int))) = (T.bk n : Int) := by
    unfold Pu.bk
    split <;> split <;> omega
  obtain ⟨m, hm⟩ : ∃ m, m = T.bk n := ⟨_, rfl⟩
  rw [← hm] at em e hb
  have EM := hide em
  have W1 : IntKind.u64.wrap ((T.burst : Int) - (T.level : Int)) = (T.burst : Int) - (T.level : Int) := IntWalk.u64_in _ (by omega)
  obtain ⟨q, hq⟩ : ∃ q, q = T.level + m := ⟨_, rfl⟩
  obtain ⟨q3, hq3⟩ : ∃ q3, q3 = T.spent - m := ⟨_, rfl⟩
  have HL : Hid (PuAt (w.setCell ⟨g, 2, none⟩ (.int .u64 (q : Int))).drew g ⟨T.rate, T.burst, q, T.spent⟩) := ⟨(h.setLevel (n := q) (by omega)).blk, (h.setLevel (n := q) (by omega)).ok⟩
  have HK := hide ((kp_pu w g 2 (.int .u64 (q : Int))).drew)
  have f2 : w.drew.frozen? ⟨g, 2, none⟩ = false := h.fz 2
  have e2 : IntKind.u64.wrap ((T.level : Int) + (m : Int)) = (q : Int) := by rw [IntKind.wrap_u64]; omega
  have e3 : IntKind.u64.wrap ((T.spent : Int) - (m : Int)) = (q3 : Int) := by rw [IntKind.wrap_u64]; omega
  rw [← hq, ← hq3] at e
  have E := hide e
  have E2 := hide e2
  have E3 := hide e3
  have S3 : Hid (q3 ≤ 18446744073709551615) := by show _ ≤ _; omega
  clear h e em hm hb e2 e3 hq hq3
  go_enter Try.func9, Try.ntmps9
  go_wp2_with fail
  go_region
  rw [EM.out]
  go_upto_region 3 with fail
  rw [E2.out]

  generalize (w.setCell ⟨g, 2, none⟩ (.int .u64 (q : Int))).drew = w2 at HL HK ⊢
  clear x1 x2 x3 f2 W1
  have x3 : w2.cell? ⟨g, 3, none⟩ = some (.int .u64 (T.spent : Int)) := HL.out.c3
  have f3 := HL.out.fz 3
  go_wp2_with fail
  go_end0
  rw [E3.out]
  exact ⟨rfl, by rw [E.out]; exact HL.out.setSpent S3.out, HK.out.trans' (kp_pu _ g 3 _)⟩
set_option maxHeartbeats 1000000 in
theorem ptick_any (h : PuAt w g T) (n : Nat) (hn : n ≤ 18446744073709551615) : Calls Try.prog 8 #[.pointer (some ⟨g, 0, none⟩), .int .u64 (n : Int)] w (PkPost w g (T.tick n) (.tuple #[])) := by
  have c1 := fun w => product_any w T.rate n (by have := h.ok.rt; omega) hn
  have c2 := fun w => sum_any w T.level (cutN (T.rate * n)) (by have := h.ok.lv; have := h.ok.bu; omega) (cutN_le _)
  have em := Pu.tick_cut h.ok n
  have hle := (h.ok.tick n).lv
  have e : T.tick n = ⟨T.rate, T.burst, (T.tick n).level, T.spent⟩ := rfl
  generalize hL : (T.tick n).level = L at em hle e
  clear hL
  generalize cutN (T.level + cutN (T.rate * n)) = q at c2 em
  generalize cutN (T.rate * n) = q1 at c1 c2
  have em2 : (if T.burst < q then (T.burst : Int) else (q : Int)) = (L : Int) := by
    rw [← em]
    split <;> split <;> omega
  have EM := hide em2
  have E := hide e
  have C1 := hide c1
  have C2 := hide c2
  have H := hide h
  have HLE : Hid (L ≤ T.burst) := hle
  clear h hn c1 c2 em em2 e hle
  go_enter Try.func8, Try.ntmps8
  go_upto_region 1 with fail
  refine wp_region_noPanic ?_
  refine HeldR.begin (S := fun w' => PuAt w' g T ∧ Kp No w w') (t := 19) (by kernel_rfl) (⟨H.out.no (Kp.refl No _).drew, (Kp.refl No _).drew⟩) (fun hHeld => ?_)
  refine HeldR.take (i := 0) (v := ?vtk0) (oi := ?otk0) ?htk0 (by kernel_rfl) (by kernel_rfl) (by kernel_rfl) (by kernel_rfl) (by kernel_rfl) (fun _ _ _ h => h) (Or.inl ⟨?wtk0, ?ytk0⟩) hHeld ?rtk0
  case htk0 => simp only [List.getElem?_toArray, List.getElem?_cons_zero, List.getElem?_cons_succ]; rfl
  case wtk0 => rfl
  case ytk0 => intro w hSw; (try dsimp only at hSw); go_simp; (try with_reducible rfl)
  simp only [Act.put, List.setIfInBounds_toArray, List.set_cons_zero, List.set_cons_succ]
  refine HeldR.take (i := 1) (v := ?vtk1) (oi := ?otk1) ?htk1 (by kernel_rfl) (by kernel_rfl) (by kernel_rfl) (by kernel_rfl) (by kernel_rfl) (fun _ _ _ h => h) (Or.inl ⟨?wtk1, ?ytk1⟩) hHeld ?rtk1
  case htk1 => simp only [List.getElem?_toArray, List.getElem?_cons_zero, List.getElem?_cons_succ]; rfl
  case wtk1 => rfl
  case ytk1 => intro w hSw; (try dsimp only at hSw); go_simp; (try with_reducible rfl)
  simp only [Act.put, List.setIfInBounds_toArray, List.set_cons_zero, List.set_cons_succ]
  refine HeldR.take (i := 2) (v := ?vtk2) (oi := ?otk2) ?htk2 (by kernel_rfl) (by kernel_rfl) (by kernel_rfl) (by kernel_rfl) (by kernel_rfl) (fun _ _ _ h => h) (Or.inl ⟨?wtk2, ?ytk2⟩) hHeld ?rtk2
  case htk2 => simp only [List.getElem?_toArray, List.getElem?_cons_zero, List.getElem?_cons_succ]; rfl
  case wtk2 => rfl
  case ytk2 => intro w hSw; (try dsimp only at hSw); go_simp; (try with_reducible rfl)
  simp only [Act.put, List.setIfInBounds_toArray, List.set_cons_zero, List.set_cons_succ]
  refine HeldR.take (i := 3) (v := ?vtk3) (oi := ?otk3) ?htk3 (by kernel_rfl) (by kernel_rfl) (by kernel_rfl) (by kernel_rfl) (by kernel_rfl) (fun _ _ _ h => h) (Or.inl ⟨?wtk3, ?ytk3⟩) hHeld ?rtk3
  case htk3 => simp only [List.getElem?_toArray, List.getElem?_cons_zero, List.getElem?_cons_succ]; rfl
  case wtk3 => rfl
  case ytk3 => intro w hSw; (try dsimp only at hSw); go_simp; (try with_reducible rfl)
  simp only [Act.put, List.setIfInBounds_toArray, List.set_cons_zero, List.set_cons_succ]
  refine HeldR.take (i := 4) (v := ?vtk4) (oi := ?otk4) ?htk4 (by kernel_rfl) (by kernel_rfl) (by kernel_rfl) (by kernel_rfl) (by kernel_rfl) (fun _ _ _ h => h) (Or.inl ⟨?wtk4, ?ytk4⟩) hHeld ?rtk4
  case htk4 => simp only [List.getElem?_toArray, List.getElem?_cons_zero, List.getElem?_cons_succ]; rfl
  case wtk4 => rfl
  case ytk4 =>
    intro w hSw
    (try dsimp only at hSw)
    have i0 := hSw.1.c2
    go_simp
    try with_reducible rfl
  simp only [Act.put, List.setIfInBounds_toArray, List.set_cons_zero, List.set_cons_succ]
  refine HeldR.take (i := 5) (v := ?vtk5) (oi := ?otk5) ?htk5 (by kernel_rfl) (by kernel_rfl) (by kernel_rfl) (by kernel_rfl) (by kernel_rfl) (fun _ _ _ h => h) (Or.inl ⟨?wtk5, ?ytk5⟩) hHeld ?rtk5
  case htk5 => simp only [List.getElem?_toArray, List.getElem?_cons_zero, List.getElem?_cons_succ]; rfl
  case wtk5 => rfl
  case ytk5 => intro w hSw; (try dsimp only at hSw); go_simp; (try with_reducible rfl)
  simp only [Act.put, List.setIfInBounds_toArray, List.set_cons_zero, List.set_cons_succ]
  refine HeldR.take (i := 6) (v := ?vtk6) (oi := ?otk6) ?htk6 (by kernel_rfl) (by kernel_rfl) (by kernel_rfl) (by kernel_rfl) (by kernel_rfl) (fun _ _ _ h => h) (Or.inl ⟨?wtk6, ?ytk6⟩) hHeld ?rtk6
  case htk6 => simp only [List.getElem?_toArray, List.getElem?_cons_zero, List.getElem?_cons_succ]; rfl
  case wtk6 => rfl
  case ytk6 => intro w hSw; (try dsimp only at hSw); go_simp; (try with_reducible rfl)
  simp only [Act.put, List.setIfInBounds_toArray, List.set_cons_zero, List.set_cons_succ]
  refine HeldR.take (i := 7) (v := ?vtk7) (oi := ?otk7) ?htk7 (by kernel_rfl) (by kernel_rfl) (by kernel_rfl) (by kernel_rfl) (by kernel_rfl) (fun _ _ _ h => h) (Or.inl ⟨?wtk7, ?ytk7⟩) hHeld ?rtk7
  case htk7 => simp only [List.getElem?_toArray, List.getElem?_cons_zero, List.getElem?_cons_succ]; rfl
  case wtk7 => rfl
  case ytk7 => intro w hSw; (try dsimp only at hSw); go_simp; (try with_reducible rfl)
  simp only [Act.put, List.setIfInBounds_toArray, List.set_cons_zero, List.set_cons_succ]
  refine HeldR.take (i := 8) (v := ?vtk8) (oi := ?otk8) ?htk8 (by kernel_rfl) (by kernel_rfl) (by kernel_rfl) (by kernel_rfl) (by kernel_rfl) (fun _ _ _ h => h) (Or.inl ⟨?wtk8, ?ytk8⟩) hHeld ?rtk8
  case htk8 => simp only [List.getElem?_toArray, List.getElem?_cons_zero, List.getElem?_cons_succ]; rfl
  case wtk8 => rfl
  case ytk8 =>
    intro w hSw
    (try dsimp only at hSw)
    have i0 := hSw.1.c0
    go_simp
    try with_reducible rfl
  simp only [Act.put, List.setIfInBounds_toArray, List.set_cons_zero, List.set_cons_succ]
  refine HeldR.take (i := 9) (v := ?vtk9) (oi := ?otk9) ?htk9 (by kernel_rfl) (by kernel_rfl) (by kernel_rfl) (by kernel_rfl) (by kernel_rfl) (fun _ _ _ h => h) (Or.inl ⟨?wtk9, ?ytk9⟩) hHeld ?rtk9
  case htk9 => simp only [List.getElem?_toArray, List.getElem?_cons_zero, List.getElem?_cons_succ]; rfl
  case wtk9 => rfl
  case ytk9 => intro w hSw; (try dsimp only at hSw); go_simp; (try with_reducible rfl)
  simp only [Act.put, List.setIfInBounds_toArray, List.set_cons_zero, List.set_cons_succ]
  refine HeldR.take (i := 12) (v := ?vtk12) (oi := ?otk12) ?htk12 (by kernel_rfl) (by kernel_rfl) (by kernel_rfl) (by kernel_rfl) (by kernel_rfl) (fun _ _ _ h => h) (Or.inl ⟨?wtk12, ?ytk12⟩) hHeld ?rtk12
  case htk12 => simp only [List.getElem?_toArray, List.getElem?_cons_zero, List.getElem?_cons_succ]; rfl
  case wtk12 => rfl
  case ytk12 => intro w hSw; (try dsimp only at hSw); go_simp; (try with_reducible rfl)
  simp only [Act.put, List.setIfInBounds_toArray, List.set_cons_zero, List.set_cons_succ]
  refine HeldR.take (i := 13) (v := ?vtk13) (oi := ?otk13) ?htk13 (by kernel_rfl) (by kernel_rfl) (by kernel_rfl) (by kernel_rfl) (by kernel_rfl) (fun _ _ _ h => h) (Or.inl ⟨?wtk13, ?ytk13⟩) hHeld ?rtk13
  case htk13 => simp only [List.getElem?_toArray, List.getElem?_cons_zero, List.getElem?_cons_succ]; rfl
  case wtk13 => rfl
  case ytk13 => intro w hSw; (try dsimp only at hSw); go_simp; (try with_reducible rfl)
  simp only [Act.put, List.setIfInBounds_toArray, List.set_cons_zero, List.set_cons_succ]
  refine HeldR.take (i := 14) (v := ?vtk14) (oi := ?otk14) ?htk14 (by kernel_rfl) (by kernel_rfl) (by kernel_rfl) (by kernel_rfl) (by kernel_rfl) (fun _ _ _ h => h) (Or.inl ⟨?wtk14, ?ytk14⟩) hHeld ?rtk14
  case htk14 => simp only [List.getElem?_toArray, List.getElem?_cons_zero, List.getElem?_cons_succ]; rfl
  case wtk14 => rfl
  case ytk14 => intro w hSw; (try dsimp only at hSw); go_simp; (try with_reducible rfl)
  simp only [Act.put, List.setIfInBounds_toArray, List.set_cons_zero, List.set_cons_succ]
  refine HeldR.take (i := 15) (v := ?vtk15) (oi := ?otk15) ?htk15 (by kernel_rfl) (by kernel_rfl) (by kernel_rfl) (by kernel_rfl) (by kernel_rfl) (fun _ _ _ h => h) (Or.inl ⟨?wtk15, ?ytk15⟩) hHeld ?rtk15
  case htk15 => simp only [List.getElem?_toArray, List.getElem?_cons_zero, List.getElem?_cons_succ]; rfl
  case wtk15 => rfl
  case ytk15 =>
    intro w hSw
    (try dsimp only at hSw)
    have i0 := hSw.1.c1
    go_simp
    try with_reducible rfl
  simp only [Act.put, List.setIfInBounds_toArray, List.set_cons_zero, List.set_cons_succ]
  refine HeldR.runS (i := 10) (o := ?otk10) ?htk10 (by kernel_rfl) (fun K hK => ?stk10)
  case htk10 => simp only [List.getElem?_toArray, List.getElem?_cons_zero, List.getElem?_cons_succ]; rfl
  go_simp
  refine (C1.out _).mono ?_
  rintro e w9 ⟨rfl, rfl⟩
  refine hK.out _ _ (hHeld) (fun hHeld => ?_)
  clear hK K
  try simp only [Act.put, List.setIfInBounds_toArray, List.set_cons_zero, List.set_cons_succ]
  refine HeldR.runS (i := 11) (o := ?otk11) ?htk11 (by kernel_rfl) (fun K hK => ?stk11)
  case htk11 => simp only [List.getElem?_toArray, List.getElem?_cons_zero, List.getElem?_cons_succ]; rfl
  go_simp
  refine (C2.out _).mono ?_
  rintro e w9 ⟨rfl, rfl⟩
  refine hK.out _ _ (hHeld) (fun hHeld => ?_)
  clear hK K
  try simp only [Act.put, List.setIfInBounds_toArray, List.set_cons_zero, List.set_cons_succ]
  refine HeldR.runS (i := 16) (o := ?otk16) ?htk16 (by kernel_rfl) (fun K hK => ?stk16)
  case htk16 => simp only [List.getElem?_toArray, List.getElem?_cons_zero, List.getElem?_cons_succ]; rfl
  go_simp
  rw [EM.out]
  refine hK.out _ _ (hHeld) (fun hHeld => ?_)
  clear hK K
  try simp only [Act.put, List.setIfInBounds_toArray, List.set_cons_zero, List.set_cons_succ]
  refine HeldR.takeP (i := 17) (v := ?vtk17) (oi := ?otk17) ?htk17 (by kernel_rfl) (by kernel_rfl) (by kernel_rfl) (by decide) (fun _ _ _ h => h) (Or.inl ⟨?wtk17, ?ytk17⟩) (fun _ => hHeld) ?rtk17
  case htk17 => simp only [List.getElem?_toArray, List.getElem?_cons_zero, List.getElem?_cons_succ]; rfl
  case wtk17 => rfl
  case ytk17 => intro w hSw; (try dsimp only at hSw); go_simp; (try with_reducible rfl)
  simp only [Act.put, List.setIfInBounds_toArray, List.set_cons_zero, List.set_cons_succ]
  refine HeldR.take (i := 18) (v := ?vtk18) (oi := ?otk18) ?htk18 (by kernel_rfl) (by kernel_rfl) (by kernel_rfl) (by kernel_rfl) (by kernel_rfl) (fun _ _ _ h => h) (Or.inl ⟨?wtk18, ?ytk18⟩) hHeld ?rtk18
  case htk18 => simp only [List.getElem?_toArray, List.getElem?_cons_zero, List.getElem?_cons_succ]; rfl
  case wtk18 => rfl
  case ytk18 => intro w hSw; (try dsimp only at hSw); go_simp; (try with_reducible rfl)
  simp only [Act.put, List.setIfInBounds_toArray, List.set_cons_zero, List.set_cons_succ]
  refine HeldR.runD (i := 19) (o := ?otk19) ?htk19 (by kernel_rfl) (by kernel_rfl) (fun K hK => ?stk19)
  case htk19 => simp only [List.getElem?_toArray, List.getElem?_cons_zero, List.getElem?_cons_succ]; rfl
  go_simp
  have y2 : w.cell? ⟨g, 2, none⟩ = some (.int .u64 (T.level : Int)) := hHeld.1.c2
  have f2 : w.frozen? ⟨g, 2, none⟩ = false := hHeld.1.fz 2
  go_simp
  clear y2 f2
  refine hK.out _ _ ?_
  clear hK K
  try simp only [Act.put, List.setIfInBounds_toArray, List.set_cons_zero, List.set_cons_succ]
  refine HeldR.done (by kernel_rfl) ?_ _
  refine NoPanic.normal ?_
  have HL := hide (hHeld.1.setLevel HLE.out)
  have HK := hide ((hHeld.2.of_no fun k => k = g).trans' (kp_pu _ g 2 (.int .u64 (L : Int))))
  clear hHeld
  go_end0
  exact ⟨rfl, by rw [E.out]; exact HL.out, HK.out⟩
/-- What Wait comes to. -/
def PwPost (w : World) (n : Nat) (b : Bool) (e : Ending) (w1 : World) : Prop := e = .returned (.tuple #[.int .u64 (n : Int), .bool b]) ∧ w = w1
theorem pwait_in (h : PuAt w g T) {n : Nat} (hn : n ≤ T.level) : Calls Try.prog 10 #[.pointer (some ⟨g, 0, none⟩), .int .u64 (n : Int)] w (PwPost w 0 true) := by
  have x2 := h.c2
  clear h
  go_enter Try.func10, Try.ntmps10
  go_wp2
  go_ret2
  exact ⟨rfl, rfl⟩
theorem pwait_never (h : PuAt w g T) {n : Nat} (hn : T.never n) : Calls Try.prog 10 #[.pointer (some ⟨g, 0, none⟩), .int .u64 (n : Int)] w (PwPost w 0 false) := by
  have x0 := h.c0
  have x1 := h.c1
  have x2 := h.c2
  obtain ⟨h1, h2⟩ := hn
  clear h
  by_cases hb : T.burst < n
  · clear h2
    go_enter Try.func10, Try.ntmps10
    go_wp2
    go_ret2
    exact ⟨rfl, rfl⟩
  · have hr : T.rate = 0 := by omega
    rw [hr] at x0
    clear h2 hr
    go_enter Try.func10, Try.ntmps10
    go_wp2
    go_ret2
    exact ⟨rfl, rfl⟩
theorem pwait_out (h : PuAt w g T) {n : Nat} (hl : T.level < n) (hb : n ≤ T.burst) (hr : 1 ≤ T.rate) : Calls Try.prog 10 #[.pointer (some ⟨g, 0, none⟩), .int .u64 (n : Int)] w (PwPost w (T.wait n) true) := by
  have x0 := h.c0
  have x1 := h.c1
  have x2 := h.c2
  have hbu := h.ok.bu
  rw [T.wait_out (by omega)]
  obtain ⟨d, hd⟩ : ∃ d, n = T.level + 1 + d := ⟨n - T.level - 1, by omega⟩
  have e : n - T.level - 1 = d := by omega
  rw [e]
  have hq := Nat.div_le_self d T.rate
  have e1 : IntKind.u64.wrap ((n : Int) - (T.level : Int)) = ((d + 1 : Nat) : Int) := by rw [IntKind.wrap_u64]; omega
  have e2 : IntKind.u64.wrap (d : Int) = (d : Int) := wr64_in _ (by omega)
  have e3 : IntKind.u64.wrap ((d : Int).tdiv (T.rate : Int)) = ((d / T.rate : Nat) : Int) := by rw [IntWalk.up_tdiv rfl rfl]; exact wr64_in _ (by omega)
  generalize d / T.rate = k at *
  have e4 : IntKind.u64.wrap ((k : Int) + 1) = ((k + 1 : Nat) : Int) := by rw [IntKind.wrap_u64]; omega
  have g1 : decide (T.burst < n) = false := decide_eq_false (by omega)
  have g2 : ((T.rate : Int) == 0) = false := by simp; omega
  have E2 := hide e2
  have E3 := hide e3
  have E4 := hide e4
  clear h hd e hq e2 e3 e4
  go_enter Try.func10, Try.ntmps10
  go_wp2
  simp only [E2.out, E3.out, E4.out]
  go_ret2
  exact ⟨rfl, rfl⟩
theorem pwait_any (h : PuAt w g T) {n : Nat} (hn : ¬ T.never n) : Calls Try.prog 10 #[.pointer (some ⟨g, 0, none⟩), .int .u64 (n : Int)] w (PwPost w (T.wait n) true) := by
  by_cases hl : n ≤ T.level
  · rw [T.wait_in hl]
    exact pwait_in h hl
  · unfold Pu.never at hn
    exact pwait_out h (by omega) (by omega) (by omega)
end
end Go.Proofs.Ytjjdkkncdnipcaa
