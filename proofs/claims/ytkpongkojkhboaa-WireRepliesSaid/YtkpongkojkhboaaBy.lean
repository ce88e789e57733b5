/- A byte's type, rows of bytes of the call's own, make and bytes.Clone, each as a contract over memory. -/
import Derived.Test.YtkpongkojkhboaaProg
import Derived.Test.YtkpongkojkhboaaMem
import Derived.WalkLawsBesides
import Derived.WalkSpells
import Derived.KernelRfl
import Derived.Laws.OwnMore
namespace Go.Proofs.Ytkpongkojkhboaa
open Go.RowKit
set_option linter.unusedVariables false
set_option maxRecDepth 20000

theorem byte_info : (Try.prog.info? 5).map (fun i => (i.zero, i.size, i.bytes)) = some (some (.int .u8 0), 1, 1) := by kernel_rfl
theorem cells_u8 : Try.prog.cellsOf 5 = 1 := by kernel_rfl
theorem byte_parts : ∃ i, Try.prog.info? 5 = some i ∧ i.zero = some (.int .u8 0) ∧ i.size = 1 ∧ i.bytes = 1 := by
  have h := byte_info
  rcases hi : Try.prog.info? 5 with _ | i
  · rw [hi] at h; cases h
  · rw [hi] at h
    simp only [Option.map_some, Option.some.injEq, Prod.mk.injEq] at h
    exact ⟨i, rfl, h.1, h.2.1, h.2.2⟩
theorem bts_new (w : World) (u : UInt8) (v : Value) (hv : v = bv u) : Bts (w.alloc (.cells #[v] 5)) (.slice (some ⟨w.heap.size, 0, none⟩) 1 1) [u] := by
  subst hv
  refine ⟨_, 1, rfl, (fun h => by cases h), fun ad ha j x hx => ?_⟩
  injection ha with ha
  subst ha
  match j, hx with
  | 0, hx =>
    simp at hx
    subst hx
    simp [Addr.add]
  | j + 1, hx => simp at hx

theorem bts_row (w : World) (bs : List UInt8) (n : Nat) (fr : Nat × Nat) (hn : n = bs.length) : Bts (w.alloc (.cells (bs.map bv).toArray 5 fr)) (.slice (some ⟨w.heap.size, 0, none⟩) n n) bs := by
  subst hn
  refine ⟨_, _, rfl, (fun h => by cases h), fun ad ha j x hx => ?_⟩
  injection ha with ha
  subst ha
  rw [add_none, Nat.zero_add, World.cell?_alloc_mark]
  simp [hx]
theorem conv_bts {w : World} {v : Value} {bs : List UInt8} (h : Bts w v bs) : (convert 27 9 v).run Try.prog w = .ok (.string (strOf bs)) w := h.str 27 9 5 Try.underlying27 Try.underlying5 Try.underlying9

/-- So many noughts. -/
def zc (n : Nat) : Array Value := madeCells (Value.int .u8 0).cells (n * 1)
theorem zc_size (n : Nat) : (zc n).size = n := by unfold zc; rw [size_madeCells, Nat.mul_one]
theorem zc_get {n j : Nat} (h : j < n) : (zc n)[j]? = some (bv 0) := by
  have e : (zc n).toList = List.replicate n (.int .u8 0) := by unfold zc; rw [Nat.mul_one]; exact toList_madeCells_one _ _
  rw [← Array.getElem?_toList, e, List.getElem?_replicate, if_pos h]
  rfl
/-- make([]byte, n). -/
theorem make_bytes (w : World) (n : Nat) (x : Int) (hx : x = n) (hn : n ≤ 1000000000) :
    (Instr.makeSlice 27 (.int .i64 x) (.int .i64 x)).run Try.prog w = .ok (.slice (some ⟨w.heap.size, 0, none⟩) n n) (w.alloc (.cells (zc n) 5)) := by
  obtain ⟨i0, hi0, hz0, hz1, hz2⟩ := byte_parts
  subst hx
  have := run_make (P := Try.prog) w 27 5 i0 (.int .u8 0) Try.underlying27 hi0 hz0 .i64 .i64 n n (by omega) (by omega) (by rw [hz2]; omega) (by omega)
  rw [hz1] at this
  simpa [zc] using this

/-- A row of the call's own comes back. -/
def OwnPost (w : World) (bs : List UInt8) (e : Ending) (w1 : World) : Prop := ∃ A n c, e = .returned (.slice A n c) ∧ Own w1 w.heap.size 5 (.slice A n c) bs ∧ Kp No w w1

theorem own_empty (w : World) : Own (w.alloc (.cells #[] 5)) w.heap.size 5 (.slice (some ⟨w.heap.size, 0, none⟩) 0 0) [] :=
  World.ownsRow_made w #[] 0 (Nat.le_refl _) (Nat.zero_le _) rfl

theorem clone_any {w : World} {bs : List UInt8} {u : Value} (hu : Bts w u bs) (hl : bs.length ≤ 900000000) : Calls Try.prog 36 #[u] w (OwnPost w bs) := by
  obtain ⟨i0, hi0, hz0, hz1, hz2⟩ := byte_parts
  obtain ⟨A, n, c, rfl⟩ := hu.form
  have hq := fun (w : World) (a : Option Addr) (n c : Nat) => Lib.run_eql_slice_nil (P := Try.prog) w 27 5 a n c 0 0 Try.underlying27
  rcases A with _ | ad
  · have hb : bs = [] ∧ n = 0 ∧ c = 0 := by
      obtain ⟨A', c', e, hn, _⟩ := hu
      injection e with e1 e2 e3
      subst e1 e2 e3
      exact ⟨(hn rfl).1, by simp [(hn rfl).1], (hn rfl).2⟩
    obtain ⟨rfl, rfl, rfl⟩ := hb
    go_enter Try.func36, Try.ntmps36
    go_wp2
    go_ret
    exact ⟨none, 0, 0, rfl, Own.nil _ _ _, Kp.refl _ _⟩
  · go_enter Try.func36, Try.ntmps36
    go_wp2_with (first
      | (at_builtin
         refine wpList_app rfl (.tmp 5) (.tmp 6) _ rfl i0 Try.underlying27 hi0 hz0 hz1 hz2 rfl (own_empty w) rfl (hu.keep (Kp.alloc No w _) fun _ _ f => f) (by simp; omega) (by simp) ?_
         intro A1 n1 c1 w1 ha))
    go_ret
    exact ⟨A1, n1, c1, rfl, by simpa using ha.own, ha.keeps (own_empty w) (Kp.alloc No w _)⟩
end Go.Proofs.Ytkpongkojkhboaa
