/- slices.Insert of one object, slices.Delete of one object, each as a contract over memory (printed by tools/gen_tbk.py). No condition. -/
import Derived.Test.YthicpblgonigcaaNcam
import Derived.Test.YthicpblgonigcaaProg
import Derived.Test.YthicpblgonigcaaNcaa
import Derived.Deep.RegionLaw
import Derived.Lib.SliceRun
import Derived.Lib.Overlaps
import Derived.Lib.AppendZerosOnto
import Derived.Laws.IdiomCopy
import Derived.Laws.NewBlocks
namespace Go.Proofs.Ythicpblgonigcaa
open Go.RowKit
set_option linter.unusedVariables false
set_option linter.unusedSimpArgs false
set_option maxRecDepth 20000

theorem heap_setL {t : TypeId} {g : Nat} : ∀ (vs : List Value) (o : Nat) (w : World) (cur : Array Value), w.heap[g]? = some (.cells cur t (0, 0)) → o + vs.length ≤ cur.size →
    ∃ cur' : Array Value, (w.setCells g o vs).heap[g]? = some (.cells cur' t (0, 0)) ∧ cur'.size = cur.size ∧ cur'.toList = cur.toList.take o ++ vs ++ cur.toList.drop (o + vs.length)
  | [], o, w, cur, h, hl => ⟨cur, h, rfl, by simp⟩
  | v :: r, o, w, cur, h, hl => by
    rw [List.length_cons] at hl
    have h1 := heap_setCell_same w g o cur t v h
    obtain ⟨c2, e1, e2, e3⟩ := heap_setL r (o + 1) (w.setCell ⟨g, o, none⟩ v) _ h1 (by simp; omega)
    refine ⟨c2, e1, e2.trans (by simp), e3.trans ?_⟩
    have hset : (cur.setIfInBounds o v).toList = cur.toList.set o v := by simp
    rw [hset, List.length_cons, show o + 1 + r.length = o + (r.length + 1) by omega]
    have hs : cur.toList.length = cur.size := by simp
    have ht : (cur.toList.set o v).take (o + 1) = cur.toList.take o ++ [v] := by
      rw [List.take_set, List.take_add_one, List.getElem?_eq_getElem (by simp; omega)]
      apply List.ext_getElem?
      intro i
      simp only [List.getElem?_set, List.getElem?_append, List.length_take, List.length_append]
      rcases Nat.lt_trichotomy o i with g1 | g1 | g1
      · rw [if_neg (by omega), if_neg (by omega), if_neg (by omega), List.getElem?_eq_none (by simp; omega), List.getElem?_eq_none (by simp; omega)]
      · subst g1
        rw [if_pos rfl, if_pos (by simp; omega), if_neg (by omega), Nat.min_eq_left (by omega), Nat.sub_self]
        rfl
      · rw [if_neg (by omega), if_pos (by omega), if_pos (by omega)]
    have hd : (cur.toList.set o v).drop (o + (r.length + 1)) = cur.toList.drop (o + (r.length + 1)) := by
      rw [List.drop_set, if_pos (by omega)]
    rw [ht, hd]
    simp
theorem kp_setL (b : Nat) (vs : List Value) (o : Nat) (w : World) : Kp (fun k => k = b) w (w.setCells b o vs) := by
  induction vs generalizing o w with
  | nil => exact Kp.refl _ _
  | cons v r ih => exact (Kp.setCell (p := ⟨b, o, none⟩) (S := fun k => k = b) rfl v).trans' (ih (o + 1) _)
theorem step_cpy {v u v' : Value} {w w' : World} {ops : Array Oper} {o : Oper} {a : Act} {Q : Exit → Act → World → Prop} {K : Act → World → Prop} {E : Prop} (hgd : o.guard = none) (d x : Operand) (t : TypeId)
    (ho : o.op = .call { callee := .builtin .copy, args := #[d, x], argTypes := #[t, t] }) (hd : a.eval d = v) (hx : a.eval x = u) (hr : (Builtin.copy_ #[t, t] o.type #[v, u]).run Try.prog w = .ok v' w')
    (hQ : K (a.put o.dst v') w') : if Region.wanted o (yielded ops a.tmps) = true then Oper.wp Try.prog o a w K Q else E := by
  have hw : Region.wanted o (yielded ops a.tmps) = true := by simp [Region.wanted, hgd]
  rw [if_pos hw]
  unfold Oper.wp execOp
  simp only [ho, resolve, invoke, builtin, Sem.run_bind, Sem.run_pure, Result.andThen_ok, List.map_toArray, List.map_cons, List.map_nil, hd, hx, hr]
  exact hQ
theorem wpList_cpy {v u v' : Value} {w w' : World} {ops : Array Oper} {rest : List Oper} {o : Oper} {a : Act} {Q : Exit → Act → World → Prop} (hgd : o.guard = none) (d x : Operand) (t : TypeId)
    (ho : o.op = .call { callee := .builtin .copy, args := #[d, x], argTypes := #[t, t] }) (hd : a.eval d = v) (hx : a.eval x = u) (hr : (Builtin.copy_ #[t, t] o.type #[v, u]).run Try.prog w = .ok v' w')
    (hQ : wpList Try.prog ops Q rest (a.put o.dst v') w') : wpList Try.prog ops Q (o :: rest) a w := by
  refine wpList_plain hgd fun K hK => ?_
  unfold Oper.wp execOp
  simp only [ho, resolve, invoke, builtin, Sem.run_bind, Sem.run_pure, Result.andThen_ok, List.map_toArray, List.map_cons, List.map_nil, hd, hx, hr]
  exact hK _ _ hQ
theorem wpList_apz {v u v' : Value} {w w' : World} {ops : Array Oper} {rest : List Oper} {o : Oper} {a : Act} {Q : Exit → Act → World → Prop} (hgd : o.guard = none) (d x : Operand) (t s : TypeId)
    (ho : o.op = .call { callee := .builtin .append, args := #[d, x], argTypes := #[t, s] }) (hd : a.eval d = v) (hx : a.eval x = u) (hr : (Builtin.append_ #[t, s] o.type #[v, u]).run Try.prog w = .ok v' w')
    (hQ : wpList Try.prog ops Q rest (a.put o.dst v') w') : wpList Try.prog ops Q (o :: rest) a w := by
  refine wpList_plain hgd fun K hK => ?_
  unfold Oper.wp execOp
  simp only [ho, resolve, invoke, builtin, Sem.run_bind, Sem.run_pure, Result.andThen_ok, List.map_toArray, List.map_cons, List.map_nil, hd, hx, hr]
  exact hK _ _ hQ
theorem take_join {A X R D : List Value} {m N : Nat} (hR : R.take m = D) (hN : N = A.length + X.length + m) : (A ++ X ++ R).take N = A ++ X ++ D := by
  have h1 : (A ++ X).length = A.length + X.length := List.length_append
  rw [List.take_append, List.take_of_length_le (by omega), show N - (A ++ X).length = m by omega, hR]
/-! Slices of objects. -/
theorem obs_size (w : World) : (sizeOf (Try.prog.elem 72)).run Try.prog w = .ok 6 w := by
  have he : Try.prog.elem 72 = 54 := by unfold Program.elem; rw [Try.underlying72]
  obtain ⟨⟨i, hi, _, hs, _⟩, _⟩ := ty_ob
  rw [he]
  simp [sizeOf, typeInfo, hi, hs]
theorem obs_under : Try.prog.underlying 72 = some (.slice (Try.prog.elem 72)) := by
  have he : Try.prog.elem 72 = 54 := by unfold Program.elem; rw [Try.underlying72]
  rw [he]; exact Try.underlying72
theorem obs_l {g o n c i : Nat} (hi : i ≤ n) (hc : i < c) (hnc : n ≤ c) (w' : World) : (Instr.slice 72 (.slice (some ⟨g, o, none⟩) n c) (some (.int .i64 (i : Int))) none none).run Try.prog w' = .ok (.slice (some ⟨g, o + i * 6, none⟩) (n - i) (c - i)) w' := by
  rw [run_slice_l w' _ _ _ _ obs_under .i64 _ (by omega) (by omega), obs_size]
  simp only [Result.andThen, sliced, Int.toNat_natCast, Option.map_some, add_none]
  rw [if_neg (by omega)]
theorem obs_e (A : Option Addr) {n c : Nat} (hnc : n ≤ c) : ∃ A', ∀ w' : World, (Instr.slice 72 (.slice A n c) (some (.int .i64 (n : Int))) none none).run Try.prog w' = .ok (.slice A' 0 (c - n)) w' := by
  refine ⟨if c = n then A else A.map (·.add (n * 6)), fun w' => ?_⟩
  rw [run_slice_l w' _ _ _ _ obs_under .i64 _ (by omega) (by omega), obs_size]
  simp only [Result.andThen, sliced, Int.toNat_natCast, Nat.sub_self]
theorem obs_u (A : Option Addr) {n c k : Nat} (hk : k ≤ c) (w' : World) : (Instr.slice 72 (.slice A n c) none (some (.int .i64 (k : Int))) none).run Try.prog w' = .ok (.slice A k c) w' := by
  rw [run_slice_h w' _ _ _ _ obs_under .i64 _ (by omega) (by omega), obs_size]
  simp only [Result.andThen, sliced, Int.toNat_natCast, Nat.zero_mul, Nat.sub_zero]
  congr 2
  split
  · rfl
  · rcases A with _ | a
    · rfl
    · simp [Addr.add]
/-- copy of objects. -/
theorem obs_copy (w : World) (ty : TypeId) (b o dLen dCap : Nat) (a : Addr) (sLen sCap m : Nat) (cs : List Value) (hm : Nat.min sLen dLen = m) (hn : cs.length = m * 6)
    (hsrc : ∀ (j : Nat) v, cs[j]? = some v → w.cell? (a.add j) = some v) (hc : ∀ j, j < cs.length → (w.cell? ⟨b, o + j, none⟩).isSome = true) (hf : ∀ j, j < cs.length → w.frozen? ⟨b, o + j, none⟩ = false) (h1 : ∀ v ∈ cs, v.oneCell' = true) :
    (Builtin.copy_ #[72, 72] ty #[.slice (some ⟨b, o, none⟩) dLen dCap, .slice (some a) sLen sCap]).run Try.prog w = .ok (goInt m) (w.setCells b o cs) := by
  have hl := run_loadCells_list (P := Try.prog) w a cs hsrc
  have hst := run_storeCells_cells (P := Try.prog) b o cs 0 w (by simpa using hc) (by simpa using hf) h1
  obtain ⟨⟨i, hi, _, hs, _⟩, _⟩ := ty_ob
  have hu := Try.underlying72
  simp [Builtin.copy_, run_underlying hu, Builtin.lenOf, Builtin.firstCells, sizeOf, typeInfo, hi, hs, hm, ← hn, hl, hst]
/-- A row of objects with one more comes back. -/
def InPost (w : World) (A : Option Addr) (n c : Nat) (L : List Value) (e : Ending) (w1 : World) : Prop :=
  ∃ A1 n1 c1, e = .returned (.slice A1 n1 c1) ∧ OwnT w1 0 54 6 (.slice A1 n1 c1) (n + 1) L ∧ Kp (fun k => (Value.slice A n c).ownBlock = some k) w w1 ∧ ∀ k, (Value.slice A1 n1 c1).ownBlock = some k → (Value.slice A n c).ownBlock = some k ∨ w.heap.size ≤ k
section
variable {w : World} {A : Option Addr} {n c i vb g : Nat} {xs : List (Ob × Value)} {x : Ob × Value}
theorem obx_nws (hb : Bx 54 w vb (obF x)) (h1 : x.2.oneCell' = true) : Nws w ⟨vb, 0, none⟩ 1 6 (obF x) :=
  ⟨rfl, fun j u hu => by rw [add_none, Nat.zero_add]; exact hb.cell hu, fun u hu => by
    simp [obF] at hu
    rcases hu with rfl | rfl | rfl | rfl | rfl | rfl <;> first | rfl | exact h1⟩
theorem obC_split (xs ys : List (Ob × Value)) (x : Ob × Value) : obC (xs ++ [x] ++ ys) = obC xs ++ obF x ++ obC ys := by simp [obC]
theorem obC_take (xs : List (Ob × Value)) (k : Nat) : (obC xs).take (k * 6) = obC (xs.take k) := fl_take obF_len xs k
theorem obC_drop (xs : List (Ob × Value)) (k : Nat) : (obC xs).drop (k * 6) = obC (xs.drop k) := fl_drop obF_len xs k
set_option maxHeartbeats 2000000 in
theorem tins_end (h : OwnT w 0 54 6 (.slice A n c) n (obC xs)) (hn : n ≤ 1000) (hb : Bx 54 w vb (obF x)) (h1 : x.2.oneCell' = true) :
    Calls Try.prog 49 #[.slice A n c, .int .i64 (n : Int), .slice (some ⟨vb, 0, none⟩) 1 1] w (InPost w A n c (obC xs ++ obF x)) := by
  obtain ⟨A', hsl⟩ := obs_e A (OwnT.le_cap h)
  have hnw := obx_nws hb h1
  have H := hide h
  have HNW := hide hnw
  clear h hb h1 hnw
  go_enter Try.func49, Try.ntmps49
  go_wp2_with (first
    | (at_builtin
       refine wpList_appT ty_ob rfl (.tmp 23) (.tmp 24) _ rfl Try.underlying72 rfl H.out _ _ rfl HNW.out (by omega) (Nat.zero_le _) ?_
       intro A3 n3 c3 w3 hn3 ha
       have HA := hide ha
       clear ha hn3))
  go_ret
  exact ⟨A3, n3, c3, rfl, HA.out.own, HA.out.kp, fun k hk => HA.out.at_.elim (fun e => .inl (e.symm.trans hk)) fun e => .inr (Nat.le_of_eq (Option.some.inj (e.symm.trans hk)))⟩
theorem obs_overlap (w' : World) {o la ca lb cb : Nat} (hne : vb ≠ g) (hb : Bx 54 w' vb (obF x)) (hg : ∃ cur : Array Value, w'.heap[g]? = some (.cells cur 54 (0, 0)) ∧ cur.size ≠ 0) :
    (callFunc 64 #[.slice (some ⟨vb, 0, none⟩) la ca, .slice (some ⟨g, o, none⟩) lb cb]).run Try.prog w' = .ok (.value (.bool false)) w' := by
  obtain ⟨cur, hg, hc⟩ := hg
  have hs : ∀ w, (Go.sizeOf 54).run Try.prog w = .ok 6 w := fun w => by
    obtain ⟨⟨i, hi, _, hs, _⟩, _⟩ := ty_ob
    simp [sizeOf, typeInfo, hi, hs]
  rw [run_callFunc_extern Try.func64 (by kernel_rfl) (by kernel_rfl) (by kernel_rfl) (e := Extern.SlicesOverlaps.overlaps #[72, 72] #[4]) (by kernel_rfl),
    Lib.run_overlaps_apart w' 72 4 54 Try.underlying72 6 hs ⟨vb, 0, none⟩ ⟨g, o, none⟩ la ca lb cb hne 54 54 6 cur.size
      (by unfold World.shape?; rw [show w'.heap[vb]? = _ from hb]; rfl) (by unfold World.shape?; rw [hg]) hc (hb.fz 0) (hb.fz 6)]
  rfl
theorem isSome_setL (b : Nat) (vs : List Value) (o : Nat) (w : World) (cur : Array Value) (t : TypeId) (hg : w.heap[b]? = some (.cells cur t (0, 0))) (hl : o + vs.length ≤ cur.size) (k : Nat) (hk : k < cur.size) :
    ((w.setCells b o vs).cell? ⟨b, k, none⟩).isSome = true ∧ (w.setCells b o vs).frozen? ⟨b, k, none⟩ = false := by
  obtain ⟨c2, e1, e2, _⟩ := heap_setL vs o w cur hg hl
  exact ⟨by rw [cell_of_row _ b k _ _ _ e1, Array.getElem?_eq_getElem (by omega)]; rfl, frozen_of_row _ b k _ _ e1⟩
set_option maxHeartbeats 4000000 in
set_option maxRecDepth 100000 in
theorem tins_room (h : OwnT w 0 54 6 (.slice (some ⟨g, 0, none⟩) n c) n (obC xs)) (hx : ∀ y ∈ xs, y.2.oneCell' = true) (hi : i < n) (hr : n < c) (hn : n ≤ 1000) (hb : Bx 54 w vb (obF x)) (h1 : x.2.oneCell' = true) (hne : vb ≠ g) :
    Calls Try.prog 49 #[.slice (some ⟨g, 0, none⟩) n c, .int .i64 (i : Int), .slice (some ⟨vb, 0, none⟩) 1 1] w (InPost w (some ⟨g, 0, none⟩) n c (obC (xs.take i) ++ obF x ++ obC (xs.drop i))) := by
  obtain ⟨cur, hg, _, hnc, hcm, hsz, htk, _⟩ := h.row
  have hxl : xs.length = n := by have := h.1; rw [obC_len] at this; omega
  have hc63 : c ≤ 9223372036854775807 := by unfold maxLen at hcm; exact hcm
  have hgd : w.drew.heap[g]? = some (.cells cur 54 (0, 0)) := hg
  have hdl : (obC (xs.drop i)).length = (n - i) * 6 := by rw [obC_len, List.length_drop, hxl]
  have hd1 : ∀ u ∈ obC (xs.drop i), u.oneCell' = true := obC_one fun y hy => hx y (List.mem_of_mem_drop hy)
  have hf1 : ∀ u ∈ obF x, u.oneCell' = true := (obx_nws hb h1).one
  have hl6 : (obF x).length = 6 := rfl
  have hov : ∀ la ca lb cb, (callFunc 64 #[.slice (some ⟨vb, 0, none⟩) la ca, .slice (some ⟨g, (i + 1) * 6, none⟩) lb cb]).run Try.prog w = .ok (.value (.bool false)) w := fun la ca lb cb => obs_overlap w hne hb ⟨cur, hg, by omega⟩
  generalize obF x = X6 at hb hf1 hl6 ⊢
  have hcl : cur.toList.length = cur.size := by simp
  have e1 : (i + 1) * 6 + (obC (xs.drop i)).length ≤ cur.size := by rw [hdl, hsz]; have : (n + 1) * 6 ≤ c * 6 := Nat.mul_le_mul_right 6 hr; omega
  obtain ⟨c1, g1, z1, t1⟩ := heap_setL (obC (xs.drop i)) ((i + 1) * 6) w.drew cur hgd e1
  have e2 : i * 6 + (X6).length ≤ c1.size := by rw [z1, hl6]; omega
  obtain ⟨c2, g2, z2, t2⟩ := heap_setL (X6) (i * 6) (w.drew.setCells g ((i + 1) * 6) (obC (xs.drop i))) c1 g1 e2
  have hcp1 : ∀ ty, (Builtin.copy_ #[72, 72] ty #[.slice (some ⟨g, (i + 1) * 6, none⟩) (n - i) (c - (i + 1)), .slice (some ⟨g, i * 6, none⟩) (n + 1 - i) (c - i)]).run Try.prog w.drew = .ok (goInt ((n - i : Nat))) (w.drew.setCells g ((i + 1) * 6) (obC (xs.drop i))) := fun ty =>
    obs_copy w.drew ty g ((i + 1) * 6) (n - i) (c - (i + 1)) ⟨g, i * 6, none⟩ (n + 1 - i) (c - i) (n - i) _ (by simp only [Nat.min_def]; split <;> omega) hdl
      (fun j v hj => by
        rw [add_none]
        have hj' := (List.getElem?_eq_some_iff.1 hj).1
        rw [← obC_drop, List.getElem?_drop, ← htk, List.getElem?_take, if_pos (by omega)] at hj
        rw [cell_of_row w.drew g _ _ _ _ hgd, ← Array.getElem?_toList]
        exact hj)
      (fun j hj => by rw [cell_of_row w.drew g _ _ _ _ hgd, Array.getElem?_eq_getElem (by omega)]; rfl) (fun j hj => frozen_of_row w.drew g _ _ _ hgd) hd1
  have hcp2 : ∀ (W : World), W = w.drew.setCells g ((i + 1) * 6) (obC (xs.drop i)) → ∀ ty, (Builtin.copy_ #[72, 72] ty #[.slice (some ⟨g, i * 6, none⟩) (n + 1 - i) (c - i), .slice (some ⟨vb, 0, none⟩) 1 1]).run Try.prog W = .ok (goInt 1) (W.setCells g (i * 6) (X6)) := fun W hW ty => by
    subst hW
    have hbk : Bx 54 (w.drew.setCells g ((i + 1) * 6) (obC (xs.drop i))) vb (X6) := (hb.no (Kp.refl No w).drew).keep (kp_setL g _ _ _) hne
    exact obs_copy _ ty g (i * 6) (n + 1 - i) (c - i) ⟨vb, 0, none⟩ 1 1 1 _ (by simp only [Nat.min_def]; split <;> omega) hl6
      (fun j v hj => by rw [add_none, Nat.zero_add]; exact hbk.cell hj)
      (fun j hj => (isSome_setL g _ _ w.drew cur 54 hgd e1 _ (by omega)).1) (fun j hj => (isSome_setL g _ _ w.drew cur 54 hgd e1 (i * 6 + j) (by omega)).2) hf1
  have HOW : Hid (OwnT ((w.drew.setCells g ((i + 1) * 6) (obC (xs.drop i))).setCells g (i * 6) (X6)) 0 54 6 (.slice (some ⟨g, 0, none⟩) (n + 1) c) (n + 1) (obC (xs.take i) ++ X6 ++ obC (xs.drop i))) := by
    have hlt : (obC (xs.take i)).length = i * 6 := by rw [obC_len, List.length_take, hxl, Nat.min_eq_left (by omega)]
    refine ⟨by simp only [List.length_append, hlt, hl6, hdl]; omega, .inr ⟨g, c, c2, rfl, Nat.zero_le _, g2, by omega, hcm, by omega, ?_⟩⟩
    have ht1 : cur.toList.take (i * 6) = obC (xs.take i) := by
      rw [← obC_take, ← htk, List.take_take, Nat.min_eq_left (by omega)]
    have hc1 : c1.toList.take (i * 6) = obC (xs.take i) := by
      rw [t1, List.append_assoc, List.take_append_of_le_length (by rw [List.length_take]; omega), List.take_take, Nat.min_eq_left (by omega), ht1]
    have hc2 : (c1.toList.drop ((i + 1) * 6)).take ((n - i) * 6) = obC (xs.drop i) := by
      have e5 : (cur.toList.take ((i + 1) * 6)).length = (i + 1) * 6 := by rw [List.length_take]; omega
      rw [t1, List.append_assoc, List.drop_append, e5, Nat.sub_self, List.drop_zero, List.drop_of_length_le (by rw [e5]; exact Nat.le_refl _), List.nil_append, List.take_append_of_le_length (by rw [hdl]; exact Nat.le_refl _), List.take_of_length_le (by rw [hdl]; exact Nat.le_refl _)]
    rw [t2, hc1, hl6, show i * 6 + 6 = (i + 1) * 6 by omega]
    exact take_join hc2 (by rw [hlt, hl6]; omega)
  have HKP : Hid (Kp (fun k => (Value.slice (some ⟨g, 0, none⟩) n c).ownBlock = some k) w ((w.drew.setCells g ((i + 1) * 6) (obC (xs.drop i))).setCells g (i * 6) (X6))) :=
    (((Kp.refl _ w).drew).trans' ((kp_setL g _ _ _).mono fun k e => by subst e; rfl)).trans' ((kp_setL g _ _ _).mono fun k e => by subst e; rfl)
  have s1 : ∀ w', (Instr.slice 72 (.slice (some ⟨g, 0, none⟩) n c) (some (.int .i64 (i : Int))) none none).run Try.prog w' = .ok (.slice (some ⟨g, i * 6, none⟩) (n - i) (c - i)) w' := fun w' => by
    have := obs_l (g := g) (o := 0) (n := n) (c := c) (i := i) (by omega) (by omega) hnc w'
    rwa [Nat.zero_add] at this
  have s2 : ∀ w', (Instr.slice 72 (.slice (some ⟨g, 0, none⟩) n c) none (some (.int .i64 ((n : Int) + 1))) none).run Try.prog w' = .ok (.slice (some ⟨g, 0, none⟩) (n + 1) c) w' := fun w' => obs_u (some ⟨g, 0, none⟩) (n := n) (k := n + 1) (by omega) w'
  have s3 : ∀ w', (Instr.slice 72 (.slice (some ⟨g, 0, none⟩) (n + 1) c) (some (.int .i64 ((i : Int) + 1))) none none).run Try.prog w' = .ok (.slice (some ⟨g, (i + 1) * 6, none⟩) (n - i) (c - (i + 1))) w' := fun w' => by
    have := obs_l (g := g) (o := 0) (n := n + 1) (c := c) (i := i + 1) (by omega) (by omega) (by omega) w'
    rwa [Nat.zero_add, show n + 1 - (i + 1) = n - i by omega] at this
  have s4 : ∀ w', (Instr.slice 72 (.slice (some ⟨g, 0, none⟩) (n + 1) c) (some (.int .i64 (i : Int))) none none).run Try.prog w' = .ok (.slice (some ⟨g, i * 6, none⟩) (n + 1 - i) (c - i)) w' := fun w' => by
    have := obs_l (g := g) (o := 0) (n := n + 1) (c := c) (i := i) (by omega) (by omega) (by omega) w'
    rwa [Nat.zero_add] at this
  have hw1 : IntKind.i64.wrap ((i : Int) + 1) = (i : Int) + 1 := IntWalk.i64_in _ (by omega)
  have hin : ((i : Int) == (n : Int)) = false := by simp; omega
  have hroom : ¬ (c : Int) < (n : Int) + 1 := by omega
  have hcp2' := hcp2 _ rfl
  clear hl6 h hx hb h1 hg hnc hcm hsz htk hgd hdl hd1 hf1 hcl e1 g1 z1 t1 e2 g2 z2 t2 hcp2 hxl
  go_enter Try.func49, Try.ntmps49
  go_wp2_with (simp only [hov])
  refine wp_region_noPanic ?_
  refine wp_region_held_drew (S := fun _ => True) (by kernel_rfl) (trivial) (fun hHeld => ?_)
  refine wpAnyH_take (i := 0) (v := ?vdx1) (oi := ?odx1) ?hdx1 (by kernel_rfl) (by kernel_rfl) (by kernel_rfl) (fun _ _ _ h => h) (Or.inl ⟨?wdx1, ?ydx1⟩) hHeld ?rdx1
  case hdx1 => simp only [List.getElem?_toArray, List.getElem?_cons_zero, List.getElem?_cons_succ]; rfl
  case wdx1 => rfl
  case ydx1 => intro w hSw; (try dsimp only at hSw); go_simp; (try with_reducible rfl)
  simp only [Act.put, List.setIfInBounds_toArray, List.set_cons_zero, List.set_cons_succ]
  refine wpAnyH_take (i := 1) (v := ?vdx2) (oi := ?odx2) ?hdx2 (by kernel_rfl) (by kernel_rfl) (by kernel_rfl) (fun _ _ _ h => h) (Or.inl ⟨?wdx2, ?ydx2⟩) hHeld ?rdx2
  case hdx2 => simp only [List.getElem?_toArray, List.getElem?_cons_zero, List.getElem?_cons_succ]; rfl
  case wdx2 => rfl
  case ydx2 => intro w hSw; (try dsimp only at hSw); go_simp; (try with_reducible rfl)
  simp only [Act.put, List.setIfInBounds_toArray, List.set_cons_zero, List.set_cons_succ]
  refine wpAnyH_take (i := 2) (v := ?vdx3) (oi := ?odx3) ?hdx3 (by kernel_rfl) (by kernel_rfl) (by kernel_rfl) (fun _ _ _ h => h) (Or.inl ⟨?wdx3, ?ydx3⟩) hHeld ?rdx3
  case hdx3 => simp only [List.getElem?_toArray, List.getElem?_cons_zero, List.getElem?_cons_succ]; rfl
  case wdx3 => rfl
  case ydx3 => intro w hSw; (try dsimp only at hSw); go_simp; (try with_reducible rfl)
  simp only [Act.put, List.setIfInBounds_toArray, List.set_cons_zero, List.set_cons_succ]
  refine wpAnyH_take (i := 3) (v := ?vdx4) (oi := ?odx4) ?hdx4 (by kernel_rfl) (by kernel_rfl) (by kernel_rfl) (fun _ _ _ h => h) (Or.inl ⟨?wdx4, ?ydx4⟩) hHeld ?rdx4
  case hdx4 => simp only [List.getElem?_toArray, List.getElem?_cons_zero, List.getElem?_cons_succ]; rfl
  case wdx4 => rfl
  case ydx4 => intro w hSw; (try dsimp only at hSw); go_simp; (try with_reducible rfl)
  simp only [Act.put, List.setIfInBounds_toArray, List.set_cons_zero, List.set_cons_succ]
  refine wpAnyH_take (i := 4) (v := ?vdx5) (oi := ?odx5) ?hdx5 (by kernel_rfl) (by kernel_rfl) (by kernel_rfl) (fun _ _ _ h => h) (Or.inl ⟨?wdx5, ?ydx5⟩) hHeld ?rdx5
  case hdx5 => simp only [List.getElem?_toArray, List.getElem?_cons_zero, List.getElem?_cons_succ]; rfl
  case wdx5 => rfl
  case ydx5 => intro w hSw; (try dsimp only at hSw); go_simp; (try with_reducible rfl)
  simp only [Act.put, List.setIfInBounds_toArray, List.set_cons_zero, List.set_cons_succ]
  refine wpAnyH_take (i := 5) (v := ?vdx6) (oi := ?odx6) ?hdx6 (by kernel_rfl) (by kernel_rfl) (by kernel_rfl) (fun _ _ _ h => h) (Or.inl ⟨?wdx6, ?ydx6⟩) hHeld ?rdx6
  case hdx6 => simp only [List.getElem?_toArray, List.getElem?_cons_zero, List.getElem?_cons_succ]; rfl
  case wdx6 => rfl
  case ydx6 => intro w hSw; (try dsimp only at hSw); go_simp; (try with_reducible rfl)
  simp only [Act.put, List.setIfInBounds_toArray, List.set_cons_zero, List.set_cons_succ]
  refine wpAnyH_take (i := 6) (v := ?vdx7) (oi := ?odx7) ?hdx7 (by kernel_rfl) (by kernel_rfl) (by kernel_rfl) (fun _ _ _ h => h) (Or.inl ⟨?wdx7, ?ydx7⟩) hHeld ?rdx7
  case hdx7 => simp only [List.getElem?_toArray, List.getElem?_cons_zero, List.getElem?_cons_succ]; rfl
  case wdx7 => rfl
  case ydx7 => intro w hSw; (try dsimp only at hSw); go_simp; (try with_reducible rfl)
  simp only [Act.put, List.setIfInBounds_toArray, List.set_cons_zero, List.set_cons_succ]
  refine wpAnyH_take (i := 7) (v := ?vdx8) (oi := ?odx8) ?hdx8 (by kernel_rfl) (by kernel_rfl) (by kernel_rfl) (fun _ _ _ h => h) (Or.inl ⟨?wdx8, ?ydx8⟩) hHeld ?rdx8
  case hdx8 => simp only [List.getElem?_toArray, List.getElem?_cons_zero, List.getElem?_cons_succ]; rfl
  case wdx8 => rfl
  case ydx8 => intro w hSw; (try dsimp only at hSw); go_simp; (try with_reducible rfl)
  simp only [Act.put, List.setIfInBounds_toArray, List.set_cons_zero, List.set_cons_succ]
  refine wpAnyH_ready (rs := [8]) (by kernel_rfl) (by simp) ?_
  refine AllReadyH.cons (o := ?odx9) ?hdx9 (fun K hK => ?sdx9) AllReadyH.nil
  case hdx9 => simp only [List.getElem?_toArray, List.getElem?_cons_zero, List.getElem?_cons_succ]; rfl
  refine step_cpy (v := .slice (some ⟨g, (i + 1) * 6, none⟩) (n - i) (c - (i + 1))) (u := .slice (some ⟨g, i * 6, none⟩) (n + 1 - i) (c - i)) rfl (.tmp 73) (.tmp 76) 72 rfl (by simp [Act.eval, Act.put]) (by simp [Act.eval, Act.put]) (hcp1 _) ?_
  refine hK.out _ _ (trivial) (fun hHeld => ?_)
  clear hK K
  try simp only [Act.put, List.setIfInBounds_toArray, List.set_cons_zero, List.set_cons_succ]
  refine wpAnyH_done (by kernel_rfl) ?_ _
  refine NoPanic.normal ?_
  clear hHeld
  have HCP2 := hide hcp2'
  clear hcp2' hcp1
  generalize w.drew.setCells g ((i + 1) * 6) (obC (xs.drop i)) = W1 at HOW HKP HCP2 ⊢
  go_wp2_with
    ((with_reducible refine wpList_cpy (o := ⟨some 82, _, _, _, _, _⟩) (v := .slice (some ⟨g, i * 6, none⟩) (n + 1 - i) (c - i)) (u := .slice (some ⟨vb, 0, none⟩) 1 1) (v' := goInt 1) (w' := W1.setCells g (i * 6) X6) ?hg (.tmp 80) (.tmp 81) 72 ?ho ?hd ?hx ?hr ?_)
     case hg => rfl
     case ho => rfl
     case hd => rfl
     case hx => rfl
     case hr => exact HCP2.out _)
  go_ret
  exact ⟨_, _, _, rfl, HOW.out, HKP.out, fun k hk => .inl hk⟩
end
end Go.Proofs.Ythicpblgonigcaa
