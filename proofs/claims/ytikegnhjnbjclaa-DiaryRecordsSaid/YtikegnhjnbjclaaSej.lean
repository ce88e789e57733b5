/- Frames side by side, in plain words: what Scan finds, step by step, and where it ends. No program is spoken of but by its bytes' rows. -/
import Derived.Test.YtikegnhjnbjclaaSee
namespace Go.Proofs.Ytikegnhjnbjclaa
set_option linter.unusedVariables false
set_option maxRecDepth 20000
set_option linter.unusedSimpArgs false

/-- An item: where a frame begins, its kind, what it bears. -/
structure ItD where
  at_ : Nat
  kd : Nat
  ld : List UInt8
/-- Behind so many frames: where one is, and the items. -/
def scN (bs : List UInt8) : Nat → Nat × List ItD
  | 0 => (0, [])
  | i + 1 => if opE (bs.drop (scN bs i).1) = 0 then ((scN bs i).1 + opN (bs.drop (scN bs i).1), (scN bs i).2 ++ [⟨(scN bs i).1, opK (bs.drop (scN bs i).1), opL (bs.drop (scN bs i).1)⟩]) else scN bs i
theorem scN_succ (bs : List UInt8) (i : Nat) : scN bs (i + 1) = if opE (bs.drop (scN bs i).1) = 0 then ((scN bs i).1 + opN (bs.drop (scN bs i).1), (scN bs i).2 ++ [⟨(scN bs i).1, opK (bs.drop (scN bs i).1), opL (bs.drop (scN bs i).1)⟩]) else scN bs i := rfl
/-- What Scan finds, so far. -/
def ScA (bs : List UInt8) (a : Nat) (l : List ItD) : Prop := ∃ i, scN bs i = (a, l)
theorem opN_le {bs : List UInt8} (h : opE bs = 0) : 12 ≤ opN bs ∧ opN bs ≤ bs.length ∧ opN bs = 12 + (opL bs).length := by
  have h1 : ¬ (bs.length < 12 ∨ mkO bs ≠ 53021 ∨ 65536 < ctO bs ∨ bs.length - 12 < ctO bs) := fun g => by
    unfold opE at h; rw [if_pos g] at h; omega
  have h2 : opN bs = 12 + ctO bs := by unfold opN; rw [if_pos h]
  have h3 : (opL bs).length = ctO bs := by unfold opL; rw [if_pos h]; unfold ldO; rw [List.length_take, List.length_drop]; omega
  omega
theorem scN_bound (bs : List UInt8) (i : Nat) : (scN bs i).1 ≤ bs.length ∧ 12 * (scN bs i).2.length ≤ (scN bs i).1 := by
  induction i with
  | zero => exact ⟨Nat.zero_le _, Nat.le_refl _⟩
  | succ i ih =>
    unfold scN
    by_cases h : opE (bs.drop (scN bs i).1) = 0
    · rw [if_pos h]
      have := opN_le h
      rw [List.length_drop] at this
      simp only [List.length_append, List.length_cons, List.length_nil]
      omega
    · rw [if_neg h]; exact ih
theorem ScA.zero (bs : List UInt8) : ScA bs 0 [] := ⟨0, rfl⟩
theorem ScA.bound {bs : List UInt8} {a : Nat} {l : List ItD} (h : ScA bs a l) : a ≤ bs.length ∧ 12 * l.length ≤ a := by
  obtain ⟨i, h⟩ := h
  have := scN_bound bs i
  rw [h] at this
  exact this
theorem ScA.next {bs : List UInt8} {a : Nat} {l : List ItD} (h : ScA bs a l) (h0 : opE (bs.drop a) = 0) : ScA bs (a + opN (bs.drop a)) (l ++ [⟨a, opK (bs.drop a), opL (bs.drop a)⟩]) := by
  obtain ⟨i, h⟩ := h
  refine ⟨i + 1, ?_⟩
  unfold scN
  rw [h]
  exact if_pos h0
theorem scN_stays {bs : List UInt8} {i : Nat} (h : opE (bs.drop (scN bs i).1) ≠ 0) (j : Nat) : scN bs (i + j) = scN bs i := by
  induction j with
  | zero => rfl
  | succ j ih =>
    show scN bs (i + j + 1) = _
    rw [scN_succ, ih, if_neg h]
/-- There is one end. -/
theorem ScA.one {bs : List UInt8} {a b : Nat} {l m : List ItD} (h : ScA bs a l) (k : ScA bs b m) (ha : opE (bs.drop a) ≠ 0) (hb : opE (bs.drop b) ≠ 0) : a = b ∧ l = m := by
  obtain ⟨i, h⟩ := h
  obtain ⟨j, k⟩ := k
  have e1 := scN_stays (bs := bs) (i := i) (by rw [h]; exact ha) j
  have e2 := scN_stays (bs := bs) (i := j) (by rw [k]; exact hb) i
  rw [Nat.add_comm, h] at e1
  rw [k, e1] at e2
  exact ⟨congrArg Prod.fst e2, congrArg Prod.snd e2⟩
theorem opE_nil : opE [] ≠ 0 := by unfold opE; rw [if_pos (.inl (by decide))]; omega

open Go.RowKit
/-- Items and the slices of what they bear, as cells. -/
def itC (ps : List (ItD × Value)) : List Value := ps.flatMap fun p => [.int .i64 (p.1.at_ : Int), .int .u16 (p.1.kd : Int), p.2]
theorem itC_len (ps : List (ItD × Value)) : (itC ps).length = ps.length * 3 := by
  induction ps with
  | nil => rfl
  | cons p t ih =>
    have e : itC (p :: t) = [.int .i64 (p.1.at_ : Int), .int .u16 (p.1.kd : Int), p.2] ++ itC t := rfl
    rw [e, List.length_append, ih]
    simp only [List.length_cons, List.length_nil]
    omega
theorem itC_snoc (ps : List (ItD × Value)) (p : ItD × Value) : itC (ps ++ [p]) = itC ps ++ [.int .i64 (p.1.at_ : Int), .int .u16 (p.1.kd : Int), p.2] := by simp [itC]
theorem itC_get {ps : List (ItD × Value)} {j : Nat} {p : ItD × Value} (h : ps[j]? = some p) : (itC ps)[j * 3]? = some (.int .i64 (p.1.at_ : Int)) ∧ (itC ps)[j * 3 + 1]? = some (.int .u16 (p.1.kd : Int)) ∧ (itC ps)[j * 3 + 2]? = some p.2 := by
  induction ps generalizing j with
  | nil => simp at h
  | cons q t ih =>
    have e : itC (q :: t) = [.int .i64 (q.1.at_ : Int), .int .u16 (q.1.kd : Int), q.2] ++ itC t := rfl
    rw [e]
    match j, h with
    | 0, h =>
      simp at h
      subst h
      exact ⟨rfl, rfl, rfl⟩
    | j + 1, h =>
      have h' := ih (j := j) (by simpa using h)
      have l3 : ([.int .i64 (q.1.at_ : Int), .int .u16 (q.1.kd : Int), q.2] : List Value).length = 3 := rfl
      refine ⟨?_, ?_, ?_⟩
      · rw [List.getElem?_append_right (by rw [l3]; omega), l3, show (j + 1) * 3 - 3 = j * 3 by omega]; exact h'.1
      · rw [List.getElem?_append_right (by rw [l3]; omega), l3, show (j + 1) * 3 + 1 - 3 = j * 3 + 1 by omega]; exact h'.2.1
      · rw [List.getElem?_append_right (by rw [l3]; omega), l3, show (j + 1) * 3 + 2 - 3 = j * 3 + 2 by omega]; exact h'.2.2
end Go.Proofs.Ytikegnhjnbjclaa
