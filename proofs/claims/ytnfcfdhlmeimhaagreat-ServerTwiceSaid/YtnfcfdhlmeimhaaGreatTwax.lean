/- A node in plain words: what it answers to a request, what it remembers, how it starts again. No program is spoken of. -/
import Derived.Test.YtnfcfdhlmeimhaaGreatTwah
import Derived.Test.YtnfcfdhlmeimhaaGreatTwaw
import Derived.Test.YtnfcfdhlmeimhaaGreatTwav
namespace Go.Proofs.YtnfcfdhlmeimhaaGreat
set_option linter.unusedVariables false
set_option linter.unusedSimpArgs false
set_option maxRecDepth 20000

section
variable (n a : Nat) (x : Nat → UInt8) (V : Vt) (s lost : Nat) (q : Rq)
/-- What Help comes to. -/
def hlpE : Nat := if V.gtE s = 0 then (if n ≤ lost ∨ (V.gtB s).length = 0 ∨ (V.gtB s).length % a ≠ 0 then 1 else 0) else V.gtE s
def hlpB : List UInt8 := if hlpE n a V s lost = 0 then rowL ((V.gtB s).length / a) (frE a ((V.gtB s).length / a) (V.gtB s) (x lost)) else []
/-- The reply's error and data, and the vault behind it. -/
def ndE : Nat := if q.kind = 2 then V.bgE q.s q.data else if q.kind = 3 then V.gtE q.s else if q.kind = 4 then hlpE n a V q.s q.lost else if q.kind = 5 then V.drE q.s else if q.kind = 6 then V.gtE q.s else 0
def ndB : List UInt8 := if q.kind = 3 then V.gtB q.s else if q.kind = 4 then hlpB n a x V q.s q.lost else []
def ndV : Vt := if q.kind = 2 then V.pt q.s q.data else if q.kind = 5 then V.dr q.s else V
def ndP : Rp := ⟨q.num, (ndE n a V q : Int), ndB n a x V q⟩
end
/-- Is a request of this kind done once alone? -/
def chgK (k : Int) : Bool := k == 2 || k == 5
/-- A reply is remembered; at most so many. -/
def remL (sn : List Rp) (p : Rp) : List Rp := if sn.length = 32 then sn.drop 1 ++ [p] else sn ++ [p]
/-- A node: its vault, the replies that it remembers, how many requests it did. -/
structure Nd where
  V : Vt
  sn : List Rp
  done : Nat
namespace Nd
def up (D : Dk) : Nd := ⟨Vt.opened D, [], 0⟩
def old (N : Nd) (q : Rq) : Option Rp := if chgK q.kind = true then N.sn.find? fun p => p.num == q.num else none
def did (n a : Nat) (x : Nat → UInt8) (N : Nd) (q : Rq) : Nd := ⟨ndV N.V q, if chgK q.kind = true then remL N.sn (ndP n a x N.V q) else N.sn, N.done + 1⟩
def hand (n a : Nat) (x : Nat → UInt8) (N : Nd) (q : Rq) : Nd := if N.old q = none then N.did n a x q else N
def out (n a : Nat) (x : Nat → UInt8) (N : Nd) (q : Rq) : Rp := (N.old q).getD (ndP n a x N.V q)
def handB (n a : Nat) (x : Nat → UInt8) (N : Nd) (b : List UInt8) : Nd := if rqE b = true then N.hand n a x (rqO b) else N
def outB (n a : Nat) (x : Nat → UInt8) (N : Nd) (b : List UInt8) : List UInt8 := if rqE b = true then (N.out n a x (rqO b)).bytes else []
/-- A reply that may be remembered. -/
structure RpOk (p : Rp) : Prop where
  num : p.num < 18446744073709551616
  nil : p.data = []
  e0 : 0 ≤ p.e
  e1 : p.e ≤ 255
structure Ok (N : Nd) : Prop where
  v : N.V.Ok
  few : N.sn.length ≤ 32
  all : ∀ p ∈ N.sn, RpOk p
end Nd
theorem Nd.RpOk.rgt {p : Rp} (h : Nd.RpOk p) : p.rgt = true := by
  unfold Rp.rgt RpB
  rw [h.nil]
  exact decide_eq_true ⟨h.e0, h.e1, .inr rfl⟩
section
variable {n a : Nat} {x : Nat → UInt8} {V : Vt} {s lost : Nat} {q : Rq} {b : List UInt8}
theorem rdE_le (bs : List UInt8) : rdE bs ≤ 22 := by
  unfold rdE
  have h := opE_cases bs
  split
  · omega
  · split <;> omega
theorem Vt.gtE_le (V : Vt) (s : Nat) : V.gtE s ≤ 22 := by
  unfold Vt.gtE
  have := rdE_le (V.at_ s)
  split
  · split
    · split <;> omega
    · omega
  · omega
theorem Vt.bgE_le (V : Vt) (s : Nat) (b : List UInt8) : V.bgE s b ≤ 29 := by
  unfold Vt.bgE
  split
  · omega
  · split
    · omega
    · split <;> omega
theorem Vt.drE_le (V : Vt) (s : Nat) : V.drE s ≤ 6 := by unfold Vt.drE; split <;> omega
theorem hlpE_le (n a : Nat) (V : Vt) (s lost : Nat) : hlpE n a V s lost ≤ 22 := by
  unfold hlpE
  have := V.gtE_le s
  split
  · split <;> omega
  · omega
theorem ndE_le (n a : Nat) (V : Vt) (q : Rq) : ndE n a V q ≤ 29 := by
  unfold ndE
  have := V.gtE_le q.s
  have := V.bgE_le q.s q.data
  have := V.drE_le q.s
  have := hlpE_le n a V q.s q.lost
  split
  · omega
  · split
    · omega
    · split
      · omega
      · split
        · omega
        · split <;> omega
theorem Vt.gtB_nil (h : V.gtE s ≠ 0) : V.gtB s = [] := by unfold Vt.gtB; rw [if_neg h]
theorem hlpB_nil (h : hlpE n a V s lost ≠ 0) : hlpB n a x V s lost = [] := by unfold hlpB; rw [if_neg h]
theorem hlpE_err (h : V.gtE s ≠ 0) : hlpE n a V s lost = V.gtE s := by unfold hlpE; rw [if_neg h]
theorem ndB_nil (h : ndE n a V q ≠ 0) : ndB n a x V q = [] := by
  unfold ndB
  unfold ndE at h
  by_cases h3 : q.kind = 3
  · rw [if_neg (by omega), if_pos h3] at h
    rw [if_pos h3]
    exact Vt.gtB_nil h
  · rw [if_neg h3]
    by_cases h4 : q.kind = 4
    · rw [if_neg (by omega), if_neg h3, if_pos h4] at h
      rw [if_pos h4]
      exact hlpB_nil h
    · rw [if_neg h4]
theorem ndP_rgt (n a : Nat) (x : Nat → UInt8) (V : Vt) (q : Rq) : (ndP n a x V q).rgt = true := by
  unfold Rp.rgt RpB ndP
  have h := ndE_le n a V q
  refine decide_eq_true ⟨by dsimp only; omega, by dsimp only; omega, ?_⟩
  by_cases e : ndE n a V q = 0
  · left
    dsimp only
    omega
  · right
    dsimp only
    rw [ndB_nil e]
    rfl
theorem chgK_iff {k : Int} : chgK k = true ↔ k = 2 ∨ k = 5 := by unfold chgK; simp
theorem chgK_no {k : Int} (h2 : k ≠ 2) (h5 : k ≠ 5) : chgK k = false := by unfold chgK; simp [h2, h5]
theorem ndP_ok (hq : q.num < 18446744073709551616) (h : chgK q.kind = true) : Nd.RpOk (ndP n a x V q) := by
  have hk := chgK_iff.1 h
  have := ndE_le n a V q
  refine ⟨hq, ?_, by unfold ndP; dsimp only; omega, by unfold ndP; dsimp only; omega⟩
  unfold ndP ndB
  dsimp only
  rw [if_neg (by omega), if_neg (by omega)]
theorem Nd.old_none {N : Nd} (h : chgK q.kind = false) : N.old q = none := by unfold Nd.old; rw [h]; rfl
end
end Go.Proofs.YtnfcfdhlmeimhaaGreat
