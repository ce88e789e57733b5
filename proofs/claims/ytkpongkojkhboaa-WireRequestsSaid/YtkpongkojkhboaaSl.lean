/- A slice of bytes cut: b[l:u], b[:u] and b[l:], what each reads as and that it doesn't panic; no condition. -/
import Derived.Test.YtkpongkojkhboaaBy
namespace Go.Proofs.Ytkpongkojkhboaa
open Go.RowKit
set_option linter.unusedVariables false
set_option maxRecDepth 20000
set_option linter.unusedSimpArgs false

theorem bts_upto {w : World} {A : Option Addr} {m c k : Nat} {bs : List UInt8} (h : Bts w (.slice A m c) bs) (hk : k ≤ m) : Bts w (.slice A k c) (bs.take k) := by
  have hl := h.len
  obtain ⟨A', c', e, hn, hc⟩ := h
  injection e with e1 e2 e3
  subst e1 e3
  refine ⟨A, c, by rw [List.length_take]; congr 1; omega, fun ha => ⟨by rw [(hn ha).1]; simp, (hn ha).2⟩, fun ad ha j u hu => ?_⟩
  rw [List.getElem?_take] at hu
  split at hu
  · exact hc ad ha j u hu
  · cases hu
theorem add_two (a : Addr) (i j : Nat) : (a.add i).add j = a.add (i + j) := by
  unfold Addr.add
  by_cases hi : i = 0 <;> by_cases hj : j = 0 <;> simp [hi, hj, Nat.add_assoc]
theorem bts_from {w : World} {A : Option Addr} {m c k : Nat} {bs : List UInt8} (h : Bts w (.slice A m c) bs) (hk : k ≤ m) (hm : m ≤ c) :
    Bts w (.slice (if c = k then A else A.map (·.add k)) (m - k) (c - k)) (bs.drop k) := by
  have hl := h.len
  obtain ⟨A', c', e, hn, hc⟩ := h
  injection e with e1 e2 e3
  subst e1 e3
  refine ⟨_, c - k, by rw [List.length_drop]; congr 1; omega, fun ha => ?_, fun ad ha j u hu => ?_⟩
  · split at ha
    · have := hn ha
      exact ⟨by rw [this.1]; simp, by omega⟩
    · rw [Option.map_eq_none_iff] at ha
      have := hn ha
      exact ⟨by rw [this.1]; simp, by omega⟩
  · rw [List.getElem?_drop] at hu
    have hlt := (List.getElem?_eq_some_iff.1 hu).1
    rw [if_neg (by omega)] at ha
    obtain ⟨ad', ha', rfl⟩ := Option.map_eq_some_iff.1 ha
    rw [add_two]
    exact hc ad' ha' _ u hu

theorem size_bytes (w : World) : (sizeOf (Try.prog.elem 27)).run Try.prog w = .ok 1 w := by
  obtain ⟨i0, hi0, hz0, hz1, hz2⟩ := byte_parts
  have he : Try.prog.elem 27 = 5 := by kernel_rfl
  have hc : Try.prog.cellsOf 5 = 1 := by kernel_rfl
  rw [he]
  simp [run_sizeOf, hi0, hz1, hc]
theorem elem_bytes : Try.prog.underlying 27 = some (.slice (Try.prog.elem 27)) := by
  have he : Try.prog.elem 27 = 5 := by kernel_rfl
  rw [he]; exact Try.underlying27
section
variable {w : World} {A : Option Addr} {n c : Nat} {bs : List UInt8}
/-- b[l:u], in every world in which b reads as something. -/
theorem slice_lu_all (n c : Nat) (A : Option Addr) (hnc : n ≤ c) (l u r rc : Nat) (x y : Int) (hx : x = l) (hy : y = u) (hlu : l ≤ u) (hu : u ≤ n) (hr : r = u - l) (hrc : rc = c - l) :
    ∃ A', (∀ w', (Instr.slice 27 (.slice A n c) (some (.int .i64 x)) (some (.int .i64 y)) none).run Try.prog w' = .ok (.slice A' r rc) w') ∧ (∀ w bs, Bts w (.slice A n c) bs → Bts w (.slice A' r rc) ((bs.drop l).take r)) ∧ r ≤ rc := by
  subst hx hy hr hrc
  refine ⟨if c = l then A else A.map (·.add l), fun w' => ?_, fun w bs h => bts_upto (bts_from h (by omega) hnc) (by omega), by omega⟩
  rw [run_slice_lh w' _ _ _ _ elem_bytes .i64 .i64 _ _ (by omega) (by omega) (by omega), size_bytes]
  simp only [Result.andThen, sliced, Int.toNat_natCast, Nat.mul_one]
/-- b[l:u]. -/
theorem slice_lu (h : Bts w (.slice A n c) bs) (hnc : n ≤ c) (l u r rc : Nat) (x y : Int) (hx : x = l) (hy : y = u) (hlu : l ≤ u) (hu : u ≤ n) (hr : r = u - l) (hrc : rc = c - l) :
    ∃ A', (∀ w', (Instr.slice 27 (.slice A n c) (some (.int .i64 x)) (some (.int .i64 y)) none).run Try.prog w' = .ok (.slice A' r rc) w') ∧ Bts w (.slice A' r rc) ((bs.drop l).take r) ∧ r ≤ rc := by
  obtain ⟨A', h1, h2, h3⟩ := slice_lu_all n c A hnc l u r rc x y hx hy hlu hu hr hrc
  exact ⟨A', h1, h2 w bs h, h3⟩
/-- b[:u]. -/
theorem slice_u (h : Bts w (.slice A n c) bs) (hnc : n ≤ c) (u : Nat) (y : Int) (hy : y = u) (hu : u ≤ n) :
    (∀ w', (Instr.slice 27 (.slice A n c) none (some (.int .i64 y)) none).run Try.prog w' = .ok (.slice A u c) w') ∧ Bts w (.slice A u c) (bs.take u) ∧ u ≤ c := by
  subst hy
  refine ⟨fun w' => ?_, bts_upto h hu, by omega⟩
  rw [run_slice_h w' _ _ _ _ elem_bytes .i64 _ (by omega) (by omega), size_bytes]
  simp only [Result.andThen, sliced, Int.toNat_natCast, Nat.zero_mul, Nat.sub_zero]
  congr 2
  split
  · rfl
  · rcases A with _ | a
    · rfl
    · simp [Addr.add]
/-- b[l:], in every world in which b reads as something. -/
theorem slice_l_all (n c : Nat) (A : Option Addr) (hnc : n ≤ c) (l r rc : Nat) (x : Int) (hx : x = l) (hl : l ≤ n) (hr : r = n - l) (hrc : rc = c - l) :
    ∃ A', (∀ w', (Instr.slice 27 (.slice A n c) (some (.int .i64 x)) none none).run Try.prog w' = .ok (.slice A' r rc) w') ∧ (∀ w bs, Bts w (.slice A n c) bs → Bts w (.slice A' r rc) (bs.drop l)) ∧ r ≤ rc := by
  subst hx hr hrc
  refine ⟨if c = l then A else A.map (·.add l), fun w' => ?_, fun w bs h => bts_from h hl hnc, by omega⟩
  rw [run_slice_l w' _ _ _ _ elem_bytes .i64 _ (by omega) (by omega), size_bytes]
  simp only [Result.andThen, sliced, Int.toNat_natCast, Nat.mul_one]
/-- b[l:]. -/
theorem slice_l (h : Bts w (.slice A n c) bs) (hnc : n ≤ c) (l r rc : Nat) (x : Int) (hx : x = l) (hl : l ≤ n) (hr : r = n - l) (hrc : rc = c - l) :
    ∃ A', (∀ w', (Instr.slice 27 (.slice A n c) (some (.int .i64 x)) none none).run Try.prog w' = .ok (.slice A' r rc) w') ∧ Bts w (.slice A' r rc) (bs.drop l) ∧ r ≤ rc := by
  obtain ⟨A', h1, h2, h3⟩ := slice_l_all n c A hnc l r rc x hx hl hr hrc
  exact ⟨A', h1, h2 w bs h, h3⟩
end
end Go.Proofs.Ytkpongkojkhboaa
