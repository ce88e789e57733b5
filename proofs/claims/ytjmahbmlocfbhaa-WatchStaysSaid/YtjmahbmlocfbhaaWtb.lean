/- What is thought of all nodes, as an array of 32 states: made, held against another one; states and mark of package watch, each as a contract. No condition. -/
import Derived.Test.YtjmahbmlocfbhaaWta
import Derived.DeepKeys
import Derived.Deep.WholeRow
import Derived.Deep.RegionHeld3
namespace Go.Proofs.Ytjmahbmlocfbhaa
open Go.RowKit
set_option linter.unusedVariables false
set_option maxRecDepth 20000
set_option linter.unusedSimpArgs false

theorem mapM_all {α β : Type} {g : α → Option β} {h : α → β} : ∀ l : List α, (∀ a ∈ l, g a = some (h a)) → l.mapM g = some (l.map h)
  | [], _ => rfl
  | a :: l, hl => by
    rw [List.mapM_cons, hl a (List.mem_cons_self ..), mapM_all l fun b hb => hl b (List.mem_cons_of_mem _ hb)]
    rfl
/-- The states of the first i nodes, and nought of the others. -/
def stF (T : Wt) (i k : Nat) : Nat := if k < i then T.stN k else 0
def stA (T : Wt) (i : Nat) : Array Value := ((List.range 32).map fun k => Value.int .i64 ((stF T i k : Nat) : Int)).toArray
def stZ : Array Value := Array.replicate 32 (.int .i64 0)
theorem st_info : (Try.prog.info? 52).map (fun i => (i.zero, i.size)) = some (some (.agg stZ), 32) := by kernel_rfl
theorem st_cells : Try.prog.cellsOf 52 = 32 := by kernel_rfl
theorem st_one : Try.prog.cellsOf 40 = 1 := by kernel_rfl
theorem stA_size (T : Wt) (i : Nat) : (stA T i).size = 32 := by unfold stA; simp
theorem stA_get (T : Wt) (i k : Nat) (h : k < 32) : (stA T i)[k]? = some (.int .i64 ((stF T i k : Nat) : Int)) := by
  unfold stA
  rw [List.getElem?_toArray, List.getElem?_map, List.getElem?_range h]
  rfl
theorem stA_far (T : Wt) (i k : Nat) (h : 32 ≤ k) : (stA T i)[k]? = none := Array.getElem?_eq_none (by rw [stA_size]; exact h)
theorem stA_zero (T : Wt) : stA T 0 = stZ := by
  apply Array.ext_getElem?
  intro k
  by_cases h : k < 32
  · rw [stA_get T 0 k h]
    unfold stZ stF
    rw [Array.getElem?_replicate, if_pos h, if_neg (Nat.not_lt_zero _)]
    rfl
  · rw [stA_far T 0 k (by omega)]
    unfold stZ
    rw [Array.getElem?_replicate, if_neg h]
theorem stA_set (T : Wt) (i : Nat) (h : i < 32) : (stA T i).setIfInBounds i (.int .i64 ((T.stN i : Nat) : Int)) = stA T (i + 1) := by
  apply Array.ext_getElem?
  intro k
  rw [Array.getElem?_setIfInBounds]
  by_cases h32 : k < 32
  · rw [stA_get T (i + 1) k h32]
    by_cases e : i = k
    · subst e
      rw [if_pos rfl, if_pos (by rw [stA_size]; exact h)]
      unfold stF
      rw [if_pos (by omega)]
    · rw [if_neg e, stA_get T i k h32]
      unfold stF
      by_cases hk : k < i
      · rw [if_pos hk, if_pos (by omega)]
      · rw [if_neg hk, if_neg (by omega)]
  · rw [stA_far T (i + 1) k (by omega), if_neg (by omega), stA_far T i k (by omega)]
theorem stA_all (T : Wt) (i : Nat) : (stA T i).all (·.oneCell') = true := by
  rw [Array.all_eq_true_iff_forall_mem]
  intro u hu
  obtain ⟨k, hk⟩ := Array.getElem?_of_mem hu
  by_cases h : k < 32
  · rw [stA_get T i k h] at hk
    injection hk with hk
    subst hk
    rfl
  · rw [stA_far T i k (by omega)] at hk
    cases hk
theorem st_lits (T : Wt) : Try.prog.keyLits 2 52 (stA T 32).toList = some ((List.range 32).map fun k => Lit.int .i64 ((T.stN k : Nat) : Int)) := by
  have hl : (stA T 32).toList.length = Try.prog.cellsOf 52 := by rw [st_cells, Array.length_toList, stA_size]
  rw [Program.keyLits.eq_def]
  simp only [Try.underlying52, hl, if_true, st_one, Nat.mul_one]
  rw [mapM_all (h := fun k => [Lit.int .i64 ((T.stN k : Nat) : Int)])]
  · simp only [Option.map_some, Option.some.injEq]
    induction List.range 32 with
    | nil => rfl
    | cons a l ih => simp only [List.map_cons, List.flatten_cons, ih, List.singleton_append]
  · intro k hk
    have hk32 : k < 32 := List.mem_range.1 hk
    have e : ((stA T 32).toList.drop k).take 1 = [.int .i64 ((T.stN k : Nat) : Int)] := by
      have hg := stA_get T 32 k hk32
      unfold stF at hg
      rw [if_pos hk32, ← Array.getElem?_toList] at hg
      rw [List.drop_eq_getElem_cons (List.getElem?_eq_some_iff.1 hg).1, List.take_succ_cons, List.take_zero, (List.getElem?_eq_some_iff.1 hg).2]
    have hle := T.stN_le k
    have hw : (Lit.int .i64 ((T.stN k : Nat) : Int)).wf = true := WalkArith.wf_i64 ⟨by omega, by omega⟩
    rw [e, Program.keyLits.eq_def]
    simp [Try.underlying40, hw]
theorem st_equal (w : World) (T T' : Wt) : (Op.equal 52 (.agg (stA T' 32)) (.agg (stA T 32))).run Try.prog w = .ok (!tnd T T' 32) w := by
  have hf : ∀ T : Wt, (Value.agg (stA T 32)).formed Try.prog 52 = true := fun T => by
    simp [Value.formed, Try.underlying52, st_cells, stA_size]
  obtain ⟨r, hr, hiff⟩ := run_equalIn_deep (P := Try.prog) 9998 2 52 (by kernel_rfl) w 2 2 _ _ _ _ (hf T') (hf T) (st_lits T') (st_lits T)
  have hr2 : (Op.equal 52 (.agg (stA T' 32)) (.agg (stA T 32))).run Try.prog w = .ok r w := hr
  rw [hr2]
  congr 1
  have hq : r = true ↔ tnd T T' 32 = false := by
    rw [hiff, tnd_false, List.map_inj_left]
    constructor
    · intro h i hi
      have := h i (List.mem_range.2 hi)
      injection this with _ this
      omega
    · intro h i hi
      rw [h i (List.mem_range.1 hi)]
  cases r <;> cases hb : tnd T T' 32 <;> simp [hb] at hq ⊢
theorem st_guard : Try.prog.eqGuardType Try.prog.depth 52 = false := by kernel_rfl
/-- '!=' of two arrays of states. -/
theorem run_stneq (w : World) (T T' : Wt) (x y : Operand) : (do eqGuard .neq 52 x y (.agg (stA T' 32)) (.agg (stA T 32)); binOp .neq 52 (.agg (stA T' 32)) (.agg (stA T 32))).run Try.prog w = .ok (.bool (tnd T T' 32)) w := by
  have hq := st_equal w T T'
  have hg := st_guard
  simp [eqGuard, binOp, hg, hq, Sem.run_bind, Result.andThen]

theorem Kp.setRow {w : World} {g : Nat} {S : Nat → Prop} (hg : S g) (cs : Array Value) : Kp S w (w.setRow g cs) :=
  ⟨rfl, rfl, rfl, by rw [setRow_size]; exact Nat.le_refl _, fun k _ hn => setRow_other w g k cs fun e => hn (e ▸ hg)⟩
theorem st_size (T : Wt) (i : Nat) : (Try.prog.info? 52).map (·.size) = some (stA T i).size := by
  rw [stA_size]
  exact (zero_of_info st_info).2
/-- The block b holds the states of the first i nodes. -/
def SAt (w : World) (b : Nat) (T : Wt) (i : Nat) : Prop := w.heap[b]? = some (.cells (stA T i) 52 (0, 0))
section
variable {w w1 : World} {F S : Nat → Prop} {g b i : Nat} {T T' : Wt}
theorem SAt.lt (h : SAt w b T i) : b < w.heap.size := (Array.getElem?_eq_some_iff.1 h).1
theorem SAt.keep (h : SAt w b T i) (hk : Kp S w w1) (hS : ¬ S b) : SAt w1 b T i := (hk.block b h.lt hS).trans h
theorem SAt.no (h : SAt w b T i) (hk : Kp No w w1) : SAt w1 b T i := h.keep hk fun f => f
theorem SAt.fz (h : SAt w b T i) (j : Nat) : w.frozen? ⟨b, j, none⟩ = false := frozen_of_row w b j _ _ h
theorem SAt.cell (h : SAt w b T i) {j : Nat} (hj : j < 32) : w.cell? ⟨b, j, none⟩ = some (.int .i64 ((stF T i j : Nat) : Int)) := by rw [cell_of_row w b j _ _ _ h, stA_get T i j hj]
theorem SAt.set (h : SAt w b T i) (hi : i < 32) : SAt (w.setCell ⟨b, i, none⟩ (.int .i64 ((T.stN i : Nat) : Int))) b T (i + 1) := by
  unfold SAt
  rw [← stA_set T i hi]
  exact heap_setCell_same w b i _ _ _ h
theorem SAt.load (h : SAt w b T i) : (Instr.loadAt 52 (.pointer (some ⟨b, 0, none⟩))).run Try.prog w = .ok (.agg (stA T i)) w := by
  simp only [Instr.loadAt, Instr.sureAddr, Sem.run_bind, Sem.run_pure, Result.andThen]
  exact run_loadVar_row w b _ _ (stA T i) (0, 0) _ h Try.underlying52 rfl (st_size T i)
theorem SAt.store (h : SAt w b T i) (T' : Wt) (j : Nat) : (Instr.storeAt 52 (.pointer (some ⟨b, 0, none⟩)) (.agg (stA T' j))).run Try.prog w = .ok () (w.setRow b (stA T' j)) := by
  simp only [Instr.storeAt, Instr.sureAddr, Sem.run_bind, Sem.run_pure, Result.andThen]
  exact run_storeVar_row w b _ _ (stA T i) (stA T' j) h (st_size T' j) (by rw [stA_size, stA_size]) (stA_all T' j)
theorem SAt.row (h : SAt w b T i) (T' : Wt) (j : Nat) : SAt (w.setRow b (stA T' j)) b T' j := setRow_heap w b _ _ _ _ h

theorem SAt.wload {ops : Array Oper} {rest : List Oper} {o : Oper} {a : Act} {Q : Exit → Act → World → Prop} (h : SAt w b T i) (hgd : o.guard = none) (x : Operand) (ho : o.op = .load 52 x) (hx : a.eval x = .pointer (some ⟨b, 0, none⟩))
    (hK : wpList Try.prog ops Q rest (a.put o.dst (.agg (stA T i))) w) : wpList Try.prog ops Q (o :: rest) a w :=
  wpList_load_row hgd _ x ho b hx _ (stA T i) (0, 0) _ h Try.underlying52 rfl (st_size T i) hK
theorem SAt.wstore {ops : Array Oper} {rest : List Oper} {o : Oper} {a : Act} {Q : Exit → Act → World → Prop} (h : SAt w b T i) (T' : Wt) (j : Nat) (hgd : o.guard = none) (x y : Operand) (ho : o.op = .store 52 x y) (hx : a.eval x = .pointer (some ⟨b, 0, none⟩)) (hy : a.eval y = .agg (stA T' j))
    (hK : wpList Try.prog ops Q rest (a.put o.dst undef) (w.setRow b (stA T' j))) : wpList Try.prog ops Q (o :: rest) a w :=
  wpList_store_row hgd _ x y ho b (stA T' j) hx hy _ (stA T i) h (st_size T' j) (by rw [stA_size, stA_size]) (stA_all T' j) hK

/-- All states come back. -/
def StPost (w : World) (T : Wt) (e : Ending) (w1 : World) : Prop := e = .returned (.agg (stA T 32)) ∧ Kp No w w1
set_option maxHeartbeats 1000000 in
theorem wstates_any (h : WtAt w F g T) : Calls Try.prog 19 #[.pointer (some ⟨g, 0, none⟩)] w (StPost w T) := by
  have hb := (zero_of_info (P := Try.prog) st_info).1
  have k2 := (Kp.alloc No w (.cells stZ 52)).al (.cells stZ 52)
  have s0 : SAt ((w.alloc (.cells stZ 52)).alloc (.cells stZ 52)) w.heap.size T 0 := by
    unfold SAt
    rw [stA_zero, (Kp.alloc No (w.alloc (.cells stZ 52)) (.cells stZ 52)).block w.heap.size (by simp) fun f => f]
    exact heap_alloc_new w _
  have s1 : SAt ((w.alloc (.cells stZ 52)).alloc (.cells stZ 52)) (w.heap.size + 1) T 0 := by
    unfold SAt
    rw [stA_zero]
    have := heap_alloc_new (w.alloc (.cells stZ 52)) (.cells stZ 52)
    have e : (w.alloc (.cells stZ 52)).heap.size = w.heap.size + 1 := by simp
    rw [e] at this
    exact this
  go_enter Try.func19, Try.ntmps19
  go_wp2_with fail
  have HK := hide k2
  have HS0 := hide s0
  have HS1 := hide s1
  clear k2 s0 s1 hb
  generalize (w.alloc (.cells stZ 52)).alloc (.cells stZ 52) = w2 at HK HS0 HS1 ⊢
  obtain ⟨s, hs⟩ : ∃ s, s = w.heap.size := ⟨_, rfl⟩
  rw [← hs] at HS0 HS1 ⊢
  have HSZ := hide hs
  clear hs
  go_loopw [5] (fun i wr => ∃ k : Nat, k ≤ 32 ∧ i = .int .i64 (k : Int) ∧ SAt wr s T 0 ∧ SAt wr (s + 1) T k ∧ Kp No w wr) (fun i _ => 32 - (intOf i).toNat)
  case atStart => exact ⟨0, by omega, rfl, HS0.out, HS1.out, HK.out⟩
  case round =>
    obtain ⟨k, hk, rfl, hS0, hS1, hkw⟩ := hrel
    by_cases hlt : k < 32
    · have HS0 := hide hS0
      have HS1 := hide hS1
      clear hS0 hS1
      go_wp2_with fail
      refine (wof_any (h.no hkw) (k : Int)).mono ?_
      rintro e w3 ⟨rfl, k3⟩
      rw [T.st_nat]
      have hfz := (HS1.out.no k3).fz k
      have hcl := (HS1.out.no k3).cell hlt
      go_wp2_with fail
      go_round
      case rel => exact ⟨k + 1, by omega, by go_num, (HS0.out.no k3).keep (Kp.setCell (p := ⟨s + 1, k, none⟩) (S := fun q => q = s + 1) rfl _) (by show ¬ s = s + 1; omega), (HS1.out.no k3).set hlt, (hkw.trans' k3).trans (Kp.setCell (p := ⟨s + 1, k, none⟩) (S := Up No w) (.inr (by rw [← HSZ.out]; show s ≤ s + 1; omega)) _)⟩
      case measure => simp [intOf]; omega
    · obtain rfl : k = 32 := by omega
      have HS0 := hide hS0
      have HS1 := hide hS1
      have HR := hide (hS0.row T 32)
      have HKW := hide hkw
      clear hkw hS0 hS1
      go_wp2_with (first
        | (refine HS1.out.wload rfl _ rfl rfl ?_)
        | (refine HS0.out.wstore T 32 rfl _ _ rfl rfl rfl ?_))
      refine bodyPost_ret (v := .agg (stA T 32)) (by exact results_cell_row Try.results19 _ _ s _ _ _ _ rfl HR.out Try.underlying52 rfl (st_size T 32)) rfl ?_
      exact ⟨rfl, HKW.out.trans (Kp.setRow (S := Up No w) (.inr (by rw [← HSZ.out]; exact Nat.le_refl _)) _)⟩
end
end Go.Proofs.Ytjmahbmlocfbhaa
