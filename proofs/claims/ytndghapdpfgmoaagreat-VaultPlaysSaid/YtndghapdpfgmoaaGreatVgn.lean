/- Rows of names in memory: their cells, parts of them; The document's Less, as a contract. -/
import Derived.Test.YtndghapdpfgmoaaGreatVgf
import Derived.Test.YtndghapdpfgmoaaGreatVge
import Derived.Test.YtndghapdpfgmoaaGreatVcm
namespace Go.Proofs.YtndghapdpfgmoaaGreat
open Go.RowKit
set_option linter.unusedVariables false
set_option linter.unusedSimpArgs false
set_option maxRecDepth 20000

/-- The cells of these names. -/
def nmC (ns : List Nat) : List Value := ns.flatMap fun s => [.int .u32 (cO s : Int), .int .u16 (cS s : Int), .int .u16 (cL s : Int), .int .u32 (cG s : Int)]
theorem nmC_snoc (ns : List Nat) (s : Nat) : nmC (ns ++ [s]) = nmC ns ++ [.int .u32 (cO s : Int), .int .u16 (cS s : Int), .int .u16 (cL s : Int), .int .u32 (cG s : Int)] := by simp [nmC]
theorem nmC_get : ∀ {ns : List Nat} {j s : Nat}, ns[j]? = some s → (nmC ns)[j * 4]? = some (.int .u32 (cO s : Int)) ∧ (nmC ns)[j * 4 + 1]? = some (.int .u16 (cS s : Int)) ∧ (nmC ns)[j * 4 + 2]? = some (.int .u16 (cL s : Int)) ∧ (nmC ns)[j * 4 + 3]? = some (.int .u32 (cG s : Int))
  | [], j, s, h => by simp at h
  | x :: ns, 0, s, h => by
    simp at h
    subst h
    exact ⟨rfl, rfl, rfl, rfl⟩
  | x :: ns, j + 1, s, h => by
    rw [List.getElem?_cons_succ] at h
    have ih := nmC_get h
    have e : nmC (x :: ns) = [.int .u32 (cO x : Int), .int .u16 (cS x : Int), .int .u16 (cL x : Int), .int .u32 (cG x : Int)] ++ nmC ns := rfl
    have key : ∀ i, (nmC (x :: ns))[(j + 1) * 4 + i]? = (nmC ns)[j * 4 + i]? := fun i => by
      rw [e, List.getElem?_append_right (by simp; omega)]
      congr 1
      simp
      omega
    exact ⟨(key 0).trans ih.1, (key 1).trans ih.2.1, (key 2).trans ih.2.2.1, (key 3).trans ih.2.2.2⟩
theorem ty_sh : Ty 46 (.agg #[.int .u32 0, .int .u16 0, .int .u16 0, .int .u32 0]) 4 12 := ty_of (by kernel_rfl) rfl (by omega) (by omega)
theorem nws_box {w : World} {m : Nat} {u0 u1 u2 u3 : Value} (h : Box4 w m u0 u1 u2 u3) (o0 : u0.oneCell' = true) (o1 : u1.oneCell' = true) (o2 : u2.oneCell' = true) (o3 : u3.oneCell' = true) : Nws w ⟨m, 0, none⟩ 1 4 [u0, u1, u2, u3] := by
  obtain ⟨h0, h1, h2, h3⟩ := h.cell
  refine ⟨rfl, fun j x hx => ?_, fun x hx => ?_⟩
  · match j, hx with
    | 0, hx => simp at hx; subst hx; rw [add_none]; exact h0
    | 1, hx => simp at hx; subst hx; rw [add_none]; exact h1
    | 2, hx => simp at hx; subst hx; rw [add_none]; exact h2
    | 3, hx => simp at hx; subst hx; rw [add_none]; exact h3
    | j + 4, hx => simp at hx
  · simp at hx
    rcases hx with rfl | rfl | rfl | rfl
    · exact o0
    · exact o1
    · exact o2
    · exact o3
theorem nmC_append (L M : List Nat) : nmC (L ++ M) = nmC L ++ nmC M := by simp [nmC]
theorem nmC_len : ∀ (L : List Nat), (nmC L).length = L.length * 4
  | [] => rfl
  | p :: L => by
    have ih := nmC_len L
    have e : nmC (p :: L) = [.int .u32 (cO p : Int), .int .u16 (cS p : Int), .int .u16 (cL p : Int), .int .u32 (cG p : Int)] ++ nmC L := rfl
    rw [e, List.length_append, ih, List.length_cons]
    simp
    omega
theorem nmC_one (L : List Nat) : ∀ u ∈ nmC L, u.oneCell' = true := fun u hu => by
  obtain ⟨p, _, hp⟩ := List.mem_flatMap.1 hu
  simp at hp
  rcases hp with rfl | rfl | rfl | rfl <;> rfl
theorem nmC_take : ∀ (L : List Nat) (k : Nat), (nmC L).take (k * 4) = nmC (L.take k)
  | [], k => by simp [nmC]
  | p :: L, 0 => by simp [nmC]
  | p :: L, k + 1 => by
    have ih := nmC_take L k
    have e : nmC (p :: L) = [.int .u32 (cO p : Int), .int .u16 (cS p : Int), .int .u16 (cL p : Int), .int .u32 (cG p : Int)] ++ nmC L := rfl
    have e2 : nmC (p :: L.take k) = [.int .u32 (cO p : Int), .int .u16 (cS p : Int), .int .u16 (cL p : Int), .int .u32 (cG p : Int)] ++ nmC (L.take k) := rfl
    rw [List.take_succ_cons, e, e2, ← ih, List.take_append, List.take_of_length_le (by simp; omega)]
    congr 2
    simp
    omega
theorem nmC_drop : ∀ (L : List Nat) (k : Nat), (nmC L).drop (k * 4) = nmC (L.drop k)
  | [], k => by simp [nmC]
  | p :: L, 0 => by simp
  | p :: L, k + 1 => by
    have ih := nmC_drop L k
    have e : nmC (p :: L) = [.int .u32 (cO p : Int), .int .u16 (cS p : Int), .int .u16 (cL p : Int), .int .u32 (cG p : Int)] ++ nmC L := rfl
    rw [List.drop_succ_cons, e, ← ih, List.drop_append, List.drop_eq_nil_of_le (by simp; omega), List.nil_append]
    congr 1
    simp
    omega
theorem nm_elem : Tryz.prog.elem 90 = 46 := by kernel_rfl
theorem nm_under : Tryz.prog.underlying 90 = some (.slice (Tryz.prog.elem 90)) := by rw [nm_elem]; exact Tryz.underlying90
theorem nm_size (w : World) : (sizeOf (Tryz.prog.elem 90)).run Tryz.prog w = .ok 4 w := by
  obtain ⟨⟨i0, hi0, hz0, hz1, hz2⟩, _⟩ := ty_sh
  rw [nm_elem]
  have hc := sh_cells
  simp [run_sizeOf, hi0, hz1, hc]
/-- One of the names. -/
theorem nm_cell {w : World} {base n c j s : Nat} {A : Option Addr} {ns : List Nat} (h : OwnT w base 46 4 (.slice A n c) ns.length (nmC ns)) (hj : ns[j]? = some s) : ∃ g, A = some ⟨g, 0, none⟩ ∧ g < w.heap.size ∧ w.cell? ⟨g, j * 4, none⟩ = some (.int .u32 (cO s : Int)) ∧ w.cell? ⟨g, j * 4 + 1, none⟩ = some (.int .u16 (cS s : Int)) ∧ w.cell? ⟨g, j * 4 + 2, none⟩ = some (.int .u16 (cL s : Int)) ∧ w.cell? ⟨g, j * 4 + 3, none⟩ = some (.int .u32 (cG s : Int)) := by
  obtain ⟨e0, e1, e2, e3⟩ := nmC_get hj
  obtain ⟨g, rfl, _, hl, _, c0⟩ := h.cell e0
  exact ⟨g, rfl, hl, c0, h.cellAt e1, h.cellAt e2, h.cellAt e3⟩
end Go.Proofs.YtndghapdpfgmoaaGreat
namespace Go.Proofs.YtndghapdpfgmoaaGreat
open Go.RowKit
set_option linter.unusedVariables false
set_option linter.unusedSimpArgs false
set_option maxRecDepth 20000

theorem less_yes {a b : Nat} (h : a < b) (w : World) : Calls Tryz.prog 60 #[shV a, shV b] w fun e w1 => e = .returned (.bool true) ∧ Kp No w w1 := by
  have hl := lt_parts (m := a) (n := b)
  unfold shV
  generalize cO a = a0 at hl ⊢
  generalize cO b = b0 at hl ⊢
  generalize cS a = a1 at hl ⊢
  generalize cS b = b1 at hl ⊢
  generalize cL a = a2 at hl ⊢
  generalize cL b = b2 at hl ⊢
  generalize cG a = a3 at hl ⊢
  generalize cG b = b3 at hl ⊢
  have k2 : Kp No w ((w.alloc (.cells #[.int .u32 (a0 : Int), .int .u16 (a1 : Int), .int .u16 (a2 : Int), .int .u32 (a3 : Int)] 46)).alloc (.cells #[.int .u32 (b0 : Int), .int .u16 (b1 : Int), .int .u16 (b2 : Int), .int .u32 (b3 : Int)] 46)) := (Kp.alloc No w _).trans' (Kp.alloc No _ _)
  have HK := hide k2
  clear k2
  by_cases e0 : a0 = b0
  · subst e0
    by_cases e1 : a1 = b1
    · subst e1
      by_cases e2 : a2 = b2
      · subst e2
        have y3 : (a3 : Int) < (b3 : Int) := by omega
        clear hl h
        go_enter Tryz.func60, Tryz.ntmps60
        go_wp2
        go_ret
        exact ⟨rfl, HK.out⟩
      · have z2 : ((a2 : Int) == (b2 : Int)) = false := by simp; omega
        have y2 : (a2 : Int) < (b2 : Int) := by omega
        clear hl h
        go_enter Tryz.func60, Tryz.ntmps60
        go_wp2
        go_ret
        exact ⟨rfl, HK.out⟩
    · have z1 : ((a1 : Int) == (b1 : Int)) = false := by simp; omega
      have y1 : (a1 : Int) < (b1 : Int) := by omega
      clear hl h
      go_enter Tryz.func60, Tryz.ntmps60
      go_wp2
      go_ret
      exact ⟨rfl, HK.out⟩
  · have z0 : ((a0 : Int) == (b0 : Int)) = false := by simp; omega
    have y0 : (a0 : Int) < (b0 : Int) := by omega
    clear hl h
    go_enter Tryz.func60, Tryz.ntmps60
    go_wp2
    go_ret
    exact ⟨rfl, HK.out⟩
theorem less_no {a b : Nat} (h : ¬ a < b) (w : World) : Calls Tryz.prog 60 #[shV a, shV b] w fun e w1 => e = .returned (.bool false) ∧ Kp No w w1 := by
  have hl := lt_parts (m := a) (n := b)
  unfold shV
  generalize cO a = a0 at hl ⊢
  generalize cO b = b0 at hl ⊢
  generalize cS a = a1 at hl ⊢
  generalize cS b = b1 at hl ⊢
  generalize cL a = a2 at hl ⊢
  generalize cL b = b2 at hl ⊢
  generalize cG a = a3 at hl ⊢
  generalize cG b = b3 at hl ⊢
  have k2 : Kp No w ((w.alloc (.cells #[.int .u32 (a0 : Int), .int .u16 (a1 : Int), .int .u16 (a2 : Int), .int .u32 (a3 : Int)] 46)).alloc (.cells #[.int .u32 (b0 : Int), .int .u16 (b1 : Int), .int .u16 (b2 : Int), .int .u32 (b3 : Int)] 46)) := (Kp.alloc No w _).trans' (Kp.alloc No _ _)
  have HK := hide k2
  clear k2
  by_cases e0 : a0 = b0
  · subst e0
    by_cases e1 : a1 = b1
    · subst e1
      by_cases e2 : a2 = b2
      · subst e2
        have y3 : ¬ (a3 : Int) < (b3 : Int) := by omega
        clear hl h
        go_enter Tryz.func60, Tryz.ntmps60
        go_wp2
        go_ret
        exact ⟨rfl, HK.out⟩
      · have z2 : ((a2 : Int) == (b2 : Int)) = false := by simp; omega
        have y2 : ¬ (a2 : Int) < (b2 : Int) := by omega
        clear hl h
        go_enter Tryz.func60, Tryz.ntmps60
        go_wp2
        go_ret
        exact ⟨rfl, HK.out⟩
    · have z1 : ((a1 : Int) == (b1 : Int)) = false := by simp; omega
      have y1 : ¬ (a1 : Int) < (b1 : Int) := by omega
      clear hl h
      go_enter Tryz.func60, Tryz.ntmps60
      go_wp2
      go_ret
      exact ⟨rfl, HK.out⟩
  · have z0 : ((a0 : Int) == (b0 : Int)) = false := by simp; omega
    have y0 : ¬ (a0 : Int) < (b0 : Int) := by omega
    clear hl h
    go_enter Tryz.func60, Tryz.ntmps60
    go_wp2
    go_ret
    exact ⟨rfl, HK.out⟩
end Go.Proofs.YtndghapdpfgmoaaGreat
