/- Law 20's gone numbers: plain, and in memory. No condition. -/
import Derived.Test.YthicpblgonigcaaNcax
namespace Go.Proofs.Ythicpblgonigcaa
open Go.RowKit
set_option linter.unusedVariables false
set_option linter.unusedSimpArgs false
set_option maxRecDepth 20000

/-- Numbers that are no object's, and none above the last. -/
def Gone (T : Tb) (Z : List Nat) : Prop := ∀ z ∈ Z, z ≤ T.lt ∧ ∀ (i : Nat) o, T.os[i]? = some o → o.num ≠ z
section
variable {T T' : Tb} {Z : List Nat} {q : Oq} {o : Ob}
theorem Gone.of (h : Gone T Z) (hl : T.lt ≤ T'.lt) (hm : ∀ (i : Nat) o, T'.os[i]? = some o → T.lt < o.num ∨ ∃ (j : Nat) (p : Ob), T.os[j]? = some p ∧ p.num = o.num) : Gone T' Z := fun z hz => by
  obtain ⟨h1, h2⟩ := h z hz
  refine ⟨by omega, fun i o ho e => ?_⟩
  rcases hm i o ho with g | ⟨j, p, hp, e2⟩
  · omega
  · exact h2 j p hp (by omega)
theorem Gone.app (h : Gone T Z) : Gone (T.app q) Z := by
  unfold Tb.app
  split
  · unfold Tb.bg
    split
    · exact h.of (Nat.le_refl _) fun i o ho => .inr ⟨i, o, ho, rfl⟩
    · exact h
  · split
    · unfold Tb.cmt
      split
      · rename_i e
        have hz := cmtE_zero e
        refine h.of (Nat.le_of_lt hz.2.2.2.1) fun i o ho => ?_
        rcases (insO_get T.os q.o i o).1 ho with ⟨_, g⟩ | ⟨_, rfl⟩ | ⟨_, g⟩
        · exact .inr ⟨_, _, g, rfl⟩
        · exact .inl hz.2.2.2.1
        · exact .inr ⟨_, _, g, rfl⟩
      · exact h
    · split
      · unfold Tb.rem
        split
        · rename_i g
          refine h.of (Nat.le_refl _) fun i o ho => ?_
          rcases (remO_get T.os _ i o g).1 ho with ⟨_, g⟩ | ⟨_, g⟩
          · exact .inr ⟨_, _, g, rfl⟩
          · exact .inr ⟨_, _, g, rfl⟩
        · exact h
      · split
        · unfold Tb.mv
          rcases ho : T.os[fNo T.os q.o.num]? with _ | p
          · exact h
          · show Gone (if T.mvE q = 0 then ({ T with os := T.os.set (fNo T.os q.o.num) (newO p q) } : Tb) else T) Z
            split
            · refine h.of (Nat.le_refl _) fun i o hi => ?_
              have hi' : (T.os.set (fNo T.os q.o.num) (newO p q))[i]? = some o := hi
              rw [List.getElem?_set] at hi'
              split at hi'
              · split at hi'
                · injection hi' with hi'
                  subst hi'
                  exact .inr ⟨_, p, ho, rfl⟩
                · cases hi'
              · exact .inr ⟨i, o, hi', rfl⟩
            · exact h
        · exact h
/-- One more is gone. -/
theorem Gone.more (h : Gone T Z) (ht : T.Ok) (hk : q.kd = 3) (ho : T.os[fNm T.os q.o.nm]? = some o) : Gone (T.app q) (Z ++ [o.num]) := fun z hz => by
  rcases List.mem_append.1 hz with g | g
  · exact h.app z g
  · obtain rfl : z = o.num := by simpa using g
    have hlt := (List.getElem?_eq_some_iff.1 ho).1
    have ha : T.app q = { T with os := remO T.os (fNm T.os q.o.nm) } := by
      unfold Tb.app Tb.rem
      rw [hk, if_neg (by decide), if_neg (by decide), if_pos rfl, if_pos hlt]
    rw [ha]
    refine ⟨ht.num _ _ ho, fun i p hp e => ?_⟩
    rcases (remO_get T.os _ i p hlt).1 hp with ⟨g1, g2⟩ | ⟨g1, g2⟩
    · have := ht.one _ _ _ _ g2 ho e
      omega
    · have := ht.one _ _ _ _ g2 ho e
      omega
end

theorem ty_u32 : Ty 29 (.int .u32 0) 1 4 := ty_of (by kernel_rfl) rfl (by omega) (by omega)
/-- Numbers as cells. -/
def uC (Z : List Nat) : List Value := Z.map fun (x : Nat) => .int .u32 (x : Int)
theorem uC_get {Z : List Nat} {j z : Nat} (h : Z[j]? = some z) : (uC Z)[j]? = some (.int .u32 (z : Int)) := by
  unfold uC
  rw [List.getElem?_map, h]
  rfl
theorem uC_snoc (Z : List Nat) (z : Nat) : uC (Z ++ [z]) = uC Z ++ [.int .u32 (z : Int)] := by simp [uC]
/-- The table and the row of gone numbers, each of its own. -/
structure ApI (W : World) (g : Nat) (T : Tb) (Z : List Nat) (v : Value) (w : World) : Prop where
  tb : ∃ F, TbAt w F g T ∧ (∀ b, v.ownBlock = some b → ¬ F b) ∧ ∀ b, F b → W.heap.size ≤ b
  row : OwnT w W.heap.size 29 1 v Z.length (uC Z)
  kp : Kp No W w
section
variable {W w w1 : World} {g : Nat} {T T' : Tb} {Z : List Nat} {v : Value} {z : Int} {e : Ending}
theorem ApI.no (h : ApI W g T Z v w) (hk : Kp No w w1) : ApI W g T Z v w1 := by
  obtain ⟨F, h1, h2, h3⟩ := h.tb
  exact ⟨⟨F, h1.no hk, h2, h3⟩, h.row.no hk, h.kp.trans' hk⟩
theorem ApI.first (h : TbL W g T w) : ApI W g T [] (.slice none 0 0) w := ⟨⟨_, h.at_, (fun b hb => by cases hb), fun b hb => hb⟩, OwnT.nil _ _ _ _, h.kp⟩
theorem ApI.push {A1 : Option Addr} {n1 c1 n : Nat} {x : Nat} (h : ApI W g T Z v w) (hn : n = Z.length) (ha : AppT w W.heap.size 29 1 v n (uC Z) 1 [.int .u32 (x : Int)] (.slice A1 n1 c1) w1) : ApI W g T (Z ++ [x]) (.slice A1 n1 c1) w1 := by
  subst hn
  obtain ⟨F, h1, h2, h3⟩ := h.tb
  refine ⟨⟨fun k => F k ∧ k < w.heap.size, (h1.mono fun k hk f => ⟨f, hk⟩).keep ha.kp fun k hk f e => h2 k e f.1, fun b hb f => ?_, fun b f => h3 b f.1⟩, ?_, ha.keeps h.row h.kp⟩
  · rcases ha.at_ with e | e
    · rw [e] at hb; exact h2 b hb f.1
    · rw [e] at hb; injection hb with hb; omega
  · have := ha.own
    rw [List.length_append, uC_snoc]
    exact this
end
end Go.Proofs.Ythicpblgonigcaa
