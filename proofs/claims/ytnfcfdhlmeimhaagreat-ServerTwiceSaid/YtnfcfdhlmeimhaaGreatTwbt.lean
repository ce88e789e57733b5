/- Rows of names in memory: their cells, parts of them; The document's List of layer 12, as a contract over memory; Rows of names: one set, two changed, and names put in order one by one; Package slices' insertion sort of names, as a contract over memory. -/
import Derived.Test.YtnfcfdhlmeimhaaGreatTwao
import Derived.Test.YtnfcfdhlmeimhaaGreatTwaj
import Derived.Test.YtnfcfdhlmeimhaaGreatTwaf
import Derived.Test.YtnfcfdhlmeimhaaGreatTwae
import Derived.Test.YtnfcfdhlmeimhaaGreatTwam
import Derived.Test.YtnfcfdhlmeimhaaGreatTwap
import Derived.Test.YtnfcfdhlmeimhaaGreatTwan
import Derived.Test.YtnfcfdhlmeimhaaGreatTwas
import Derived.Test.YtnfcfdhlmeimhaaGreatTwaq
import Derived.Test.YtnfcfdhlmeimhaaGreatTwad
import Derived.Test.YtnfcfdhlmeimhaaGreatTwal
import Derived.Deep.DeepCutAuto
import Derived.Deep.CutBlock
namespace Go.Proofs.YtnfcfdhlmeimhaaGreat
open Go.RowKit
set_option linter.unusedVariables false
set_option linter.unusedSimpArgs false
set_option maxRecDepth 20000

/-- The cells of these names. -/
def nmC (ns : List Nat) : List Value := ns.flatMap fun s => [.int .u32 (cO s : Int), .int .u16 (cS s : Int), .int .u16 (cL s : Int), .int .u32 (cG s : Int)]
theorem nmC_get : ∀ {ns : List Nat} {j s : Nat}, ns[j]? = some s → (nmC ns)[j * 4]? = some (.int .u32 (cO s : Int)) ∧ (nmC ns)[j * 4 + 1]? = some (.int .u16 (cS s : Int)) ∧ (nmC ns)[j * 4 + 2]? = some (.int .u16 (cL s : Int)) ∧ (nmC ns)[j * 4 + 3]? = some (.int .u32 (cG s : Int))
  | [], j, s, h => by simp at h
  | x :: ns, 0, s, h => by
    simp at h
    subst h
    exact ⟨rfl, rfl, rfl, rfl⟩
  | x :: ns, j + 1, s, h => by
    rw [List.getElem?_cons_succ] at h
    have ih := nmC_get h
    have e : nmC (x :: ns) = [.int .u32 (cO x : Int), .int .u16 (cS x : Int), .int .u16 (cL x : Int), .int .u32 (cG x : Int)] ++ nmC ns := rfl
    have key : ∀ i, (nmC (x :: ns))[(j + 1) * 4 + i]? = (nmC ns)[j * 4 + i]? := fun i => by
      rw [e, List.getElem?_append_right (by simp; omega)]
      congr 1
      simp
      omega
    exact ⟨(key 0).trans ih.1, (key 1).trans ih.2.1, (key 2).trans ih.2.2.1, (key 3).trans ih.2.2.2⟩
theorem ty_sh : Ty 53 (.agg #[.int .u32 0, .int .u16 0, .int .u16 0, .int .u32 0]) 4 12 := ty_of (by kernel_rfl) rfl (by omega) (by omega)
theorem nws_box {w : World} {m : Nat} {u0 u1 u2 u3 : Value} (h : Box4 w m u0 u1 u2 u3) (o0 : u0.oneCell' = true) (o1 : u1.oneCell' = true) (o2 : u2.oneCell' = true) (o3 : u3.oneCell' = true) : Nws w ⟨m, 0, none⟩ 1 4 [u0, u1, u2, u3] := by
  obtain ⟨h0, h1, h2, h3⟩ := h.cell
  refine ⟨rfl, fun j x hx => ?_, fun x hx => ?_⟩
  · match j, hx with
    | 0, hx => simp at hx; subst hx; rw [add_none]; exact h0
    | 1, hx => simp at hx; subst hx; rw [add_none]; exact h1
    | 2, hx => simp at hx; subst hx; rw [add_none]; exact h2
    | 3, hx => simp at hx; subst hx; rw [add_none]; exact h3
    | j + 4, hx => simp at hx
  · simp at hx
    rcases hx with rfl | rfl | rfl | rfl
    · exact o0
    · exact o1
    · exact o2
    · exact o3
theorem nmC_append (L M : List Nat) : nmC (L ++ M) = nmC L ++ nmC M := by simp [nmC]
theorem nmC_len : ∀ (L : List Nat), (nmC L).length = L.length * 4
  | [] => rfl
  | p :: L => by
    have ih := nmC_len L
    have e : nmC (p :: L) = [.int .u32 (cO p : Int), .int .u16 (cS p : Int), .int .u16 (cL p : Int), .int .u32 (cG p : Int)] ++ nmC L := rfl
    rw [e, List.length_append, ih, List.length_cons]
    simp
    omega
/-- One of the names. -/
theorem nm_cell {w : World} {base n c j s : Nat} {A : Option Addr} {ns : List Nat} (h : OwnT w base 53 4 (.slice A n c) ns.length (nmC ns)) (hj : ns[j]? = some s) : ∃ g, A = some ⟨g, 0, none⟩ ∧ g < w.heap.size ∧ w.cell? ⟨g, j * 4, none⟩ = some (.int .u32 (cO s : Int)) ∧ w.cell? ⟨g, j * 4 + 1, none⟩ = some (.int .u16 (cS s : Int)) ∧ w.cell? ⟨g, j * 4 + 2, none⟩ = some (.int .u16 (cL s : Int)) ∧ w.cell? ⟨g, j * 4 + 3, none⟩ = some (.int .u32 (cG s : Int)) := by
  obtain ⟨e0, e1, e2, e3⟩ := nmC_get hj
  obtain ⟨g, rfl, _, hl, _, c0⟩ := h.cell e0
  exact ⟨g, rfl, hl, c0, h.cellAt e1, h.cellAt e2, h.cellAt e3⟩
end Go.Proofs.YtnfcfdhlmeimhaaGreat
namespace Go.Proofs.YtnfcfdhlmeimhaaGreat
open Go.RowKit
set_option linter.unusedVariables false
set_option linter.unusedSimpArgs false
set_option maxRecDepth 20000

/-- What the document's List returns. -/
def RlPost (w : World) (ns : List Nat) (e : Ending) (w1 : World) : Prop := ∃ A n c, e = .returned (.slice A n c) ∧ OwnT w1 w.heap.size 53 4 (.slice A n c) n (nmC ns) ∧ n = ns.length ∧ Kp No w w1
end Go.Proofs.YtnfcfdhlmeimhaaGreat
namespace Go.Proofs.YtnfcfdhlmeimhaaGreat
open Go.RowKit
set_option linter.unusedVariables false
set_option linter.unusedSimpArgs false
set_option maxRecDepth 20000

section
variable {w : World} {base g r c n sz k : Nat} {e : TypeId} {xs : List Value}
end
/-- The names behind so many rounds. -/
def srt (ns : List Nat) (i : Nat) : List Nat := lst (ns.map fun s => (0, s)) i
theorem srt_done {ns ms : List Nat} (h : ns.Nodup) (hs : ms.Pairwise (· < ·)) (hm : ∀ x, x ∈ ms ↔ x ∈ ns) : srt ns ns.length = ms := by
  have hd : ((ns.map fun s => ((0 : Nat), s)).map Prod.snd) = ns := by simp [Function.comp_def]
  have hl : (ns.map fun s => ((0 : Nat), s)).length = ns.length := by simp
  have h1 := lst_sorted (L := ns.map fun s => ((0 : Nat), s)) (by rw [hd]; exact h) ns.length (by rw [hl]; exact Nat.le_refl _)
  have h2 := lst_perm (ns.map fun s => ((0 : Nat), s)) ns.length (by rw [hl]; exact Nat.le_refl _)
  rw [List.take_of_length_le (by rw [hl]; exact Nat.le_refl _), hd] at h2
  exact sorted_one h1 hs fun x => (h2.mem_iff).trans (hm x).symm
end Go.Proofs.YtnfcfdhlmeimhaaGreat
namespace Go.Proofs.YtnfcfdhlmeimhaaGreat
open Go.RowKit
set_option linter.unusedVariables false
set_option linter.unusedSimpArgs false
set_option maxRecDepth 20000

abbrev cmpV : Value := .func (.func 54) #[] #[]
end Go.Proofs.YtnfcfdhlmeimhaaGreat
