/- A table in plain words: objects in the order of their names, operations on them, their bytes, the use of nodes. No condition. -/
import Derived.Test.YthicpblgonigcaaProg
import Derived.Test.YthicpblgonigcaaNcaa
namespace Go.Proofs.Ythicpblgonigcaa
open Go.RowKit
set_option linter.unusedVariables false
set_option linter.unusedSimpArgs false
set_option maxRecDepth 20000

/-! Names in order. -/
theorem bl_irr : ∀ x : List UInt8, Op.bytesLess x x = false
  | [] => rfl
  | a :: x => by
    have ih := bl_irr x
    simp only [Op.bytesLess, ih]
    simp [UInt8.lt_irrefl]
theorem bl_trans : ∀ x y z : List UInt8, Op.bytesLess x y = true → Op.bytesLess y z = true → Op.bytesLess x z = true
  | x, [], _, h, _ => by cases x <;> simp [Op.bytesLess] at h
  | _, y :: _, [], _, h => by simp [Op.bytesLess] at h
  | [], _ :: _, _ :: _, _, _ => rfl
  | a :: x, b :: y, c :: z, h, g => by
    have ih := bl_trans x y z
    simp only [Op.bytesLess, Bool.or_eq_true, Bool.and_eq_true, decide_eq_true_eq, beq_iff_eq, UInt8.lt_iff_toNat_lt] at h g ⊢
    rcases h with h | ⟨rfl, h⟩
    · rcases g with g | ⟨rfl, g⟩
      · exact .inl (by omega)
      · exact .inl h
    · rcases g with g | ⟨rfl, g⟩
      · exact .inl g
      · exact .inr ⟨rfl, ih h g⟩
theorem bl_tri : ∀ x y : List UInt8, Op.bytesLess x y = false → Op.bytesLess y x = false → x = y
  | [], [], _, _ => rfl
  | [], _ :: _, h, _ => by cases h
  | _ :: _, [], _, h => by cases h
  | a :: x, b :: y, h, g => by
    have ih := bl_tri x y
    simp only [Op.bytesLess, Bool.or_eq_false_iff, Bool.and_eq_false_imp, decide_eq_false_iff_not, beq_iff_eq, UInt8.lt_iff_toNat_lt] at h g
    have e : a = b := UInt8.toNat_inj.1 (by omega)
    subst e
    rw [ih (h.2 rfl) (g.2 rfl)]
theorem bl_ne {x y : List UInt8} (h : Op.bytesLess x y = true) : x ≠ y := fun e => by subst e; rw [bl_irr] at h; cases h
/-- How two names compare. -/
def cmpL (x y : List UInt8) : Int := if Op.bytesLess x y = true then -1 else if Op.bytesLess y x = true then 1 else 0

/-- A place: a node, a generation. -/
abbrev Pc := Int × Nat
/-- An object: its number, name, plan (length, count, piece) and places. -/
structure Ob where
  num : Nat
  nm : List UInt8
  ln : Int
  ct : Int
  pc : Int
  pl : List (List Pc)
/-- A table. -/
structure Tb where
  sl : Nat
  nd : Nat
  nx : Nat
  lt : Nat
  os : List Ob
/-- An operation. -/
structure Oq where
  kd : Int
  o : Ob
  st : Int
  so : Int
  tn : Int
  tg : Nat

def okN (s : List UInt8) : Bool := decide (1 ≤ s.length ∧ s.length ≤ 64 ∧ ∀ b ∈ s, 33 ≤ b.toNat ∧ b.toNat ≤ 126)
def okP (ln ct pc : Int) : Bool := decide (0 ≤ ln ∧ ln ≤ 16384 ∧ 0 ≤ ct ∧ ct ≤ 32 ∧ 1 ≤ pc ∧ pc ≤ 256)
def okS (sl nd : Nat) (l : List Pc) : Bool := decide (l.length = sl ∧ (∀ p ∈ l, 0 ≤ p.1 ∧ p.1 < nd) ∧ (l.map Prod.fst).Nodup)
def okL (sl nd : Nat) (P : List (List Pc)) : Bool := decide (∀ l ∈ P, okS sl nd l = true)
def okO (sl nd : Nat) (o : Ob) : Bool := okN o.nm && (okP o.ln o.ct o.pc && (decide ((o.pl.length : Int) = o.ct) && okL sl nd o.pl))

/-- At which place a name, a number stands (behind all: at none); at which a name would. -/
def fNm (os : List Ob) (s : List UInt8) : Nat := os.findIdx fun o => decide (o.nm = s)
def fNo (os : List Ob) (n : Nat) : Nat := os.findIdx fun o => decide (o.num = n)
def pN (os : List Ob) (s : List UInt8) : Nat := os.findIdx fun o => !Op.bytesLess o.nm s
/-- A place, or -1. -/
def ixZ (k n : Nat) : Int := if k < n then (k : Int) else -1

def Tb.cmtE (T : Tb) (o : Ob) : Int :=
  if okO T.sl T.nd o = false then 1
  else if fNm T.os o.nm < T.os.length ∨ fNo T.os o.num < T.os.length then 7
  else if o.num ≤ T.lt ∨ T.nx ≤ o.num then 28
  else if 64 ≤ T.os.length then 20 else 0
def insO (os : List Ob) (o : Ob) : List Ob := os.take (pN os o.nm) ++ [o] ++ os.drop (pN os o.nm)
def Tb.put (T : Tb) (o : Ob) : Tb := { T with lt := o.num, os := insO T.os o }
def Tb.cmt (T : Tb) (o : Ob) : Tb := if T.cmtE o = 0 then T.put o else T
def Tb.remE (T : Tb) (s : List UInt8) : Int := if fNm T.os s < T.os.length then 0 else 6
def remO (os : List Ob) (i : Nat) : List Ob := os.take i ++ os.drop (i + 1)
def Tb.rem (T : Tb) (s : List UInt8) : Tb := if fNm T.os s < T.os.length then { T with os := remO T.os (fNm T.os s) } else T
/-- Of a stripe, one slot's place is another one. -/
def newS (o : Ob) (q : Oq) : List Pc := (o.pl.getD q.st.toNat []).set q.so.toNat (q.tn, q.tg)
def oldG (o : Ob) (q : Oq) : Nat := ((o.pl.getD q.st.toNat []).getD q.so.toNat (0, 0)).2
def inO (sl : Nat) (o : Ob) (q : Oq) : Bool := decide (0 ≤ q.st ∧ q.st < o.pl.length ∧ 0 ≤ q.so ∧ q.so < sl)
def newO (o : Ob) (q : Oq) : Ob := { o with pl := o.pl.set q.st.toNat (newS o q) }
def Tb.mvE (T : Tb) (q : Oq) : Int :=
  match T.os[fNo T.os q.o.num]? with
  | none => 6
  | some o => if inO T.sl o q = false then 6 else if okS T.sl T.nd (newS o q) = false then 1 else if q.tg ≤ oldG o q then 28 else 0
def Tb.mv (T : Tb) (q : Oq) : Tb :=
  match T.os[fNo T.os q.o.num]? with
  | none => T
  | some o => if T.mvE q = 0 then { T with os := T.os.set (fNo T.os q.o.num) (newO o q) } else T
def Tb.bgE (T : Tb) (n : Nat) : Int := if n ≠ T.nx ∨ n = 4294967295 then 28 else 0
def Tb.bg (T : Tb) (n : Nat) : Tb := if T.bgE n = 0 then { T with nx := T.nx + 1 } else T
def Tb.appE (T : Tb) (q : Oq) : Int := if q.kd = 1 then T.bgE q.o.num else if q.kd = 2 then T.cmtE q.o else if q.kd = 3 then T.remE q.o.nm else if q.kd = 4 then T.mvE q else 1
def Tb.app (T : Tb) (q : Oq) : Tb := if q.kd = 1 then T.bg q.o.num else if q.kd = 2 then T.cmt q.o else if q.kd = 3 then T.rem q.o.nm else if q.kd = 4 then T.mv q else T
def newT (sl nd : Nat) : Tb := ⟨sl, nd, 1, 0, []⟩

/-- Names rise. -/
def RisN (os : List Ob) : Prop := ∀ (i j : Nat) (a b : Ob), i < j → os[i]? = some a → os[j]? = some b → Op.bytesLess a.nm b.nm = true
structure Tb.Ok (T : Tb) : Prop where
  sl1 : 1 ≤ T.sl
  sl2 : T.sl ≤ 24
  nd1 : 1 ≤ T.nd
  nd2 : T.nd ≤ 32
  nx : T.nx < 4294967296
  lt : T.lt < T.nx
  len : T.os.length ≤ 64
  ris : RisN T.os
  rgt : ∀ (i : Nat) o, T.os[i]? = some o → okO T.sl T.nd o = true
  num : ∀ (i : Nat) o, T.os[i]? = some o → o.num ≤ T.lt
  one : ∀ (i j : Nat) a b, T.os[i]? = some a → T.os[j]? = some b → a.num = b.num → i = j

section
variable {os : List Ob} {s : List UInt8} {n k i : Nat} {o : Ob}
theorem findIdx_of {p : Ob → Bool} (hk : os[k]? = some o) (hp : p o = true) (hb : ∀ (j : Nat) a, j < k → os[j]? = some a → p a = false) : os.findIdx p = k := by
  obtain ⟨hl, rfl⟩ := List.getElem?_eq_some_iff.1 hk
  refine (List.findIdx_eq hl).2 ⟨hp, fun j hj => ?_⟩
  exact hb j _ hj (List.getElem?_eq_getElem (by omega))
theorem findIdx_none {p : Ob → Bool} (hb : ∀ (j : Nat) a, os[j]? = some a → p a = false) : os.findIdx p = os.length := by
  refine List.findIdx_eq_length.2 fun a ha => ?_
  obtain ⟨j, hj⟩ := List.getElem?_of_mem ha
  exact hb j a hj
theorem findIdx_at {p : Ob → Bool} (h : os.findIdx p < os.length) : ∃ o, os[os.findIdx p]? = some o ∧ p o = true := ⟨_, List.getElem?_eq_getElem h, List.findIdx_getElem (w := h)⟩
theorem findIdx_bef {p : Ob → Bool} {j : Nat} {a : Ob} (hj : j < os.findIdx p) (ha : os[j]? = some a) : p a = false := by
  obtain ⟨hl, rfl⟩ := List.getElem?_eq_some_iff.1 ha
  have := List.not_of_lt_findIdx hj
  simpa using this
theorem fNm_at (h : fNm os s < os.length) : ∃ o, os[fNm os s]? = some o ∧ o.nm = s := by
  obtain ⟨o, h1, h2⟩ := findIdx_at h
  exact ⟨o, h1, of_decide_eq_true h2⟩
theorem fNm_of (hk : os[k]? = some o) (hp : o.nm = s) (hb : ∀ (j : Nat) a, j < k → os[j]? = some a → a.nm ≠ s) : fNm os s = k :=
  findIdx_of hk (decide_eq_true hp) fun j a hj ha => decide_eq_false (hb j a hj ha)
theorem fNo_of (hk : os[k]? = some o) (hp : o.num = n) (hb : ∀ (j : Nat) a, j < k → os[j]? = some a → a.num ≠ n) : fNo os n = k :=
  findIdx_of hk (decide_eq_true hp) fun j a hj ha => decide_eq_false (hb j a hj ha)
theorem fNo_none (hb : ∀ (j : Nat) a, os[j]? = some a → a.num ≠ n) : fNo os n = os.length := findIdx_none fun j a ha => decide_eq_false (hb j a ha)
theorem fNm_ge (h : ¬ fNm os s < os.length) (ho : os[i]? = some o) : o.nm ≠ s := fun e => by
  have hl := (List.getElem?_eq_some_iff.1 ho).1
  have : i < fNm os s := by omega
  have := findIdx_bef this ho
  simp at this
  exact this e
theorem pN_le : pN os s ≤ os.length := List.findIdx_le_length
theorem pN_of (hk : k ≤ os.length) (hb : ∀ (j : Nat) a, j < k → os[j]? = some a → Op.bytesLess a.nm s = true) (ha : ∀ a, os[k]? = some a → Op.bytesLess a.nm s = false) : pN os s = k := by
  rcases Nat.lt_or_ge k os.length with g | g
  · have hk' := List.getElem?_eq_getElem g
    exact findIdx_of hk' (by rw [ha _ hk']; rfl) fun j a hj h => by rw [hb j a hj h]; rfl
  · obtain rfl : k = os.length := by omega
    exact findIdx_none fun j a h => by rw [hb j a (List.getElem?_eq_some_iff.1 h).1 h]; rfl
theorem pN_bef {j : Nat} {a : Ob} (hj : j < pN os s) (ha : os[j]? = some a) : Op.bytesLess a.nm s = true := by
  have := findIdx_bef hj ha
  simpa using this
theorem pN_at {a : Ob} (ha : os[pN os s]? = some a) : Op.bytesLess a.nm s = false := by
  have hl := (List.getElem?_eq_some_iff.1 ha).1
  obtain ⟨o, h1, h2⟩ := findIdx_at hl
  unfold pN at ha
  rw [h1] at ha
  injection ha with ha
  subst ha
  simpa using h2
theorem RisN.from_ (hr : RisN os) {j : Nat} {a : Ob} (hj : pN os s ≤ j) (ha : os[j]? = some a) : Op.bytesLess a.nm s = false := by
  rcases Nat.lt_or_ge (pN os s) j with g | g
  · have hl := (List.getElem?_eq_some_iff.1 ha).1
    have hp := List.getElem?_eq_getElem (show pN os s < os.length by omega)
    have h1 := pN_at hp
    have h2 := hr _ _ _ _ g hp ha
    rcases e : Op.bytesLess a.nm s with _ | _
    · rfl
    · have := bl_trans _ _ _ h2 e
      rw [h1] at this
      cases this
  · obtain rfl : j = pN os s := by omega
    exact pN_at ha
/-- Where a name stands is where it would stand. -/
theorem RisN.same (hr : RisN os) (h : fNm os s < os.length) : pN os s = fNm os s := by
  obtain ⟨o, h1, rfl⟩ := fNm_at h
  exact pN_of (Nat.le_of_lt h) (fun j a hj ha => hr _ _ _ _ hj ha h1) fun a ha => by
    rw [h1] at ha
    injection ha with ha
    subst ha
    exact bl_irr _
theorem RisN.found (hr : RisN os) {a : Ob} (ha : os[pN os s]? = some a) (e : a.nm = s) : fNm os s = pN os s :=
  fNm_of ha e fun j b hj hb => bl_ne (pN_bef hj hb)
theorem RisN.lost (hr : RisN os) (h : ∀ a, os[pN os s]? = some a → a.nm ≠ s) : ¬ fNm os s < os.length := fun g => by
  obtain ⟨o, h1, h2⟩ := fNm_at g
  rw [← hr.same g] at h1
  exact h o h1 h2
end

section
variable {T : Tb} {o : Ob} {q : Oq} {s : List UInt8} {n i : Nat}
theorem okO_parts {sl nd : Nat} (h : okO sl nd o = true) : okN o.nm = true ∧ okP o.ln o.ct o.pc = true ∧ (o.pl.length : Int) = o.ct ∧ ∀ l ∈ o.pl, okS sl nd l = true := by
  simp only [okO, Bool.and_eq_true, decide_eq_true_eq, okL] at h
  exact ⟨h.1, h.2.1, h.2.2.1, h.2.2.2⟩
theorem okP_parts {ln ct pc : Int} (h : okP ln ct pc = true) : 0 ≤ ln ∧ ln ≤ 16384 ∧ 0 ≤ ct ∧ ct ≤ 32 ∧ 1 ≤ pc ∧ pc ≤ 256 := by simpa [okP] using h
theorem okS_parts {sl nd : Nat} {l : List Pc} (h : okS sl nd l = true) : l.length = sl ∧ (∀ p ∈ l, 0 ≤ p.1 ∧ p.1 < nd) ∧ (l.map Prod.fst).Nodup := of_decide_eq_true h
theorem insO_get (os : List Ob) (o : Ob) (j : Nat) (a : Ob) : (insO os o)[j]? = some a ↔ (j < pN os o.nm ∧ os[j]? = some a) ∨ (j = pN os o.nm ∧ a = o) ∨ (pN os o.nm < j ∧ os[j - 1]? = some a) := by
  have hp := pN_le (os := os) (s := o.nm)
  unfold insO
  rw [List.append_assoc]
  rcases Nat.lt_trichotomy j (pN os o.nm) with g | g | g
  · rw [List.getElem?_append_left (by rw [List.length_take]; omega), List.getElem?_take, if_pos g]
    constructor
    · exact fun h => .inl ⟨g, h⟩
    · rintro (h | h | h)
      · exact h.2
      · omega
      · omega
  · subst g
    rw [List.getElem?_append_right (by rw [List.length_take]; omega), List.length_take, Nat.min_eq_left hp, Nat.sub_self]
    simp only [List.cons_append, List.nil_append, List.getElem?_cons_zero, Option.some.injEq]
    constructor
    · exact fun h => .inr (.inl ⟨trivial, h.symm⟩)
    · rintro (h | h | h)
      · omega
      · exact h.2.symm
      · omega
  · rw [List.getElem?_append_right (by rw [List.length_take]; omega), List.length_take, Nat.min_eq_left hp, show j - pN os o.nm = (j - pN os o.nm - 1) + 1 by omega]
    simp only [List.cons_append, List.nil_append, List.getElem?_cons_succ, List.getElem?_drop]
    rw [show pN os o.nm + (j - pN os o.nm - 1) = j - 1 by omega]
    constructor
    · exact fun h => .inr (.inr ⟨g, h⟩)
    · rintro (h | h | h)
      · omega
      · omega
      · exact h.2
theorem remO_get (os : List Ob) (k j : Nat) (a : Ob) (hk : k < os.length) : (remO os k)[j]? = some a ↔ (j < k ∧ os[j]? = some a) ∨ (k ≤ j ∧ os[j + 1]? = some a) := by
  unfold remO
  rcases Nat.lt_or_ge j k with g | g
  · rw [List.getElem?_append_left (by rw [List.length_take]; omega), List.getElem?_take, if_pos g]
    constructor
    · exact fun h => .inl ⟨g, h⟩
    · rintro (h | h)
      · exact h.2
      · omega
  · rw [List.getElem?_append_right (by rw [List.length_take]; omega), List.length_take, Nat.min_eq_left (by omega), List.getElem?_drop, show k + 1 + (j - k) = j + 1 by omega]
    constructor
    · exact fun h => .inr ⟨g, h⟩
    · rintro (h | h)
      · omega
      · exact h.2
theorem newT_ok {sl nd : Nat} (h1 : 1 ≤ sl) (h2 : sl ≤ 24) (h3 : 1 ≤ nd) (h4 : nd ≤ 32) : (newT sl nd).Ok :=
  ⟨h1, h2, h3, h4, by simp [newT], by simp [newT], by simp [newT], fun i j a b _ h => by simp [newT] at h, fun i o h => by simp [newT] at h, fun i o h => by simp [newT] at h, fun i j a b h => by simp [newT] at h⟩
theorem Tb.Ok.bg (h : T.Ok) : (T.bg n).Ok := by
  unfold Tb.bg Tb.bgE
  have := h.nx
  have := h.lt
  by_cases e : n ≠ T.nx ∨ n = 4294967295
  · rw [if_pos e, if_neg (by omega)]; exact h
  · rw [if_neg e, if_pos rfl]
    exact ⟨h.sl1, h.sl2, h.nd1, h.nd2, by show T.nx + 1 < 4294967296; omega, by show T.lt < T.nx + 1; omega, h.len, h.ris, h.rgt, h.num, h.one⟩
/-- What the error 0 says. -/
theorem cmtE_zero (e : T.cmtE o = 0) : okO T.sl T.nd o = true ∧ ¬ fNm T.os o.nm < T.os.length ∧ ¬ fNo T.os o.num < T.os.length ∧ T.lt < o.num ∧ o.num < T.nx ∧ T.os.length < 64 := by
  unfold Tb.cmtE at e
  split at e
  · omega
  · rename_i h1
    split at e
    · omega
    · rename_i h2
      split at e
      · omega
      · rename_i h3
        split at e
        · omega
        · rename_i h4
          exact ⟨by simpa using h1, fun g => h2 (.inl g), fun g => h2 (.inr g), by omega, by omega, by omega⟩
theorem Tb.Ok.put (h : T.Ok) (e : T.cmtE o = 0) : (T.put o).Ok := by
  obtain ⟨e1, e2, e3, e4, e5, e6⟩ := cmtE_zero e
  have hn := h.num
  refine ⟨h.sl1, h.sl2, h.nd1, h.nd2, h.nx, e5, ?_, ?_, ?_, ?_, ?_⟩
  · show (insO T.os o).length ≤ 64
    unfold insO
    simp only [List.length_append, List.length_take, List.length_drop, List.length_singleton]
    have := pN_le (os := T.os) (s := o.nm)
    omega
  · intro i j a b hij ha hb
    replace ha := (insO_get T.os o i a).1 ha
    replace hb := (insO_get T.os o j b).1 hb
    rcases ha with ⟨g, ha⟩ | ⟨g, rfl⟩ | ⟨g, ha⟩
    · rcases hb with ⟨g2, hb⟩ | ⟨g2, rfl⟩ | ⟨g2, hb⟩
      · exact h.ris _ _ _ _ hij ha hb
      · exact pN_bef g ha
      · exact h.ris _ _ _ _ (by omega) ha hb
    · rcases hb with ⟨g2, hb⟩ | ⟨g2, rfl⟩ | ⟨g2, hb⟩
      · omega
      · omega
      · have h1 := h.ris.from_ (show pN T.os a.nm ≤ j - 1 by omega) hb
        rcases e9 : Op.bytesLess a.nm b.nm with _ | _
        · exact absurd (bl_tri _ _ e9 h1).symm (fNm_ge e2 hb)
        · rfl
    · rcases hb with ⟨g2, hb⟩ | ⟨g2, rfl⟩ | ⟨g2, hb⟩
      · omega
      · omega
      · exact h.ris _ _ _ _ (by omega) ha hb
  · intro i a ha
    rcases (insO_get T.os o i a).1 ha with ⟨g, ha⟩ | ⟨g, rfl⟩ | ⟨g, ha⟩
    · exact h.rgt _ _ ha
    · exact e1
    · exact h.rgt _ _ ha
  · intro i a ha
    show a.num ≤ o.num
    rcases (insO_get T.os o i a).1 ha with ⟨g, ha⟩ | ⟨g, rfl⟩ | ⟨g, ha⟩
    · have := h.num _ _ ha; omega
    · omega
    · have := h.num _ _ ha; omega
  · intro i j a b ha hb hab
    replace ha := (insO_get T.os o i a).1 ha
    replace hb := (insO_get T.os o j b).1 hb
    rcases ha with ⟨g, ha⟩ | ⟨g, rfl⟩ | ⟨g, ha⟩
    · rcases hb with ⟨g2, hb⟩ | ⟨g2, rfl⟩ | ⟨g2, hb⟩
      · exact h.one _ _ _ _ ha hb hab
      · have := h.num _ _ ha; omega
      · have := h.one _ _ _ _ ha hb hab; omega
    · rcases hb with ⟨g2, hb⟩ | ⟨g2, rfl⟩ | ⟨g2, hb⟩
      · have := h.num _ _ hb; omega
      · omega
      · have := h.num _ _ hb; omega
    · rcases hb with ⟨g2, hb⟩ | ⟨g2, rfl⟩ | ⟨g2, hb⟩
      · have := h.one _ _ _ _ ha hb hab; omega
      · have := h.num _ _ ha; omega
      · have := h.one _ _ _ _ ha hb hab; omega
theorem Tb.Ok.remO (h : T.Ok) {k : Nat} (hk : k < T.os.length) : ({ T with os := remO T.os k } : Tb).Ok := by
  have hg := remO_get T.os k
  refine ⟨h.sl1, h.sl2, h.nd1, h.nd2, h.nx, h.lt, ?_, ?_, ?_, ?_, ?_⟩
  · show (Proofs.Ythicpblgonigcaa.remO T.os k).length ≤ 64
    unfold Proofs.Ythicpblgonigcaa.remO
    have := h.len
    simp only [List.length_append, List.length_take, List.length_drop]
    omega
  · intro i j a b hij ha hb
    rcases (hg i a hk).1 ha with ⟨g, ha⟩ | ⟨g, ha⟩ <;> rcases (hg j b hk).1 hb with ⟨g2, hb⟩ | ⟨g2, hb⟩ <;> exact h.ris _ _ _ _ (by omega) ha hb
  · intro i a ha
    rcases (hg i a hk).1 ha with ⟨g, ha⟩ | ⟨g, ha⟩ <;> exact h.rgt _ _ ha
  · intro i a ha
    rcases (hg i a hk).1 ha with ⟨g, ha⟩ | ⟨g, ha⟩ <;> exact h.num _ _ ha
  · intro i j a b ha hb hab
    rcases (hg i a hk).1 ha with ⟨g, ha⟩ | ⟨g, ha⟩ <;> rcases (hg j b hk).1 hb with ⟨g2, hb⟩ | ⟨g2, hb⟩ <;> (have := h.one _ _ _ _ ha hb hab; omega)
theorem newO_ok {sl nd : Nat} (h : okO sl nd o = true) (h2 : okS sl nd (newS o q) = true) : okO sl nd (newO o q) = true := by
  obtain ⟨a1, a2, a3, a4⟩ := okO_parts h
  simp only [okO, Bool.and_eq_true, decide_eq_true_eq, okL]
  refine ⟨a1, a2, ?_, fun l hl => ?_⟩
  · show ((o.pl.set q.st.toNat (newS o q)).length : Int) = o.ct
    rw [List.length_set]; exact a3
  · have hl : l ∈ o.pl.set q.st.toNat (newS o q) := hl
    rcases List.mem_or_eq_of_mem_set hl with g | rfl
    · exact a4 l g
    · exact h2
theorem Tb.Ok.mv (h : T.Ok) : (T.mv q).Ok := by
  unfold Tb.mv
  rcases ho : T.os[fNo T.os q.o.num]? with _ | o
  · exact h
  · show (if T.mvE q = 0 then ({ T with os := T.os.set (fNo T.os q.o.num) (newO o q) } : Tb) else T).Ok
    by_cases e : T.mvE q = 0
    · rw [if_pos e]
      unfold Tb.mvE at e
      rw [ho] at e
      simp only at e
      generalize fNo T.os q.o.num = k at ho ⊢
      have h2 : okS T.sl T.nd (newS o q) = true := by
        split at e
        · omega
        · split at e
          · omega
          · rename_i g; simpa using g
      have hk := (List.getElem?_eq_some_iff.1 ho).1
      have hs : ∀ (j : Nat) a, (T.os.set k (newO o q))[j]? = some a → ∃ b, T.os[j]? = some b ∧ a.nm = b.nm ∧ a.num = b.num ∧ (okO T.sl T.nd a = true) := fun j a ha => by
        rw [List.getElem?_set] at ha
        by_cases e : k = j
        · subst e
          rw [if_pos rfl, if_pos hk] at ha
          injection ha with ha
          subst ha
          exact ⟨o, ho, rfl, rfl, newO_ok (h.rgt _ _ ho) h2⟩
        · rw [if_neg e] at ha
          exact ⟨a, ha, rfl, rfl, h.rgt _ _ ha⟩
      refine ⟨h.sl1, h.sl2, h.nd1, h.nd2, h.nx, h.lt, by show (T.os.set _ _).length ≤ 64; rw [List.length_set]; exact h.len, ?_, ?_, ?_, ?_⟩
      · intro i j a b hij ha hb
        obtain ⟨a', ha', e1, _⟩ := hs i a ha
        obtain ⟨b', hb', e2, _⟩ := hs j b hb
        rw [e1, e2]
        exact h.ris _ _ _ _ hij ha' hb'
      · intro i a ha
        exact (hs i a ha).choose_spec.2.2.2
      · intro i a ha
        obtain ⟨a', ha', _, e1, _⟩ := hs i a ha
        rw [e1]
        exact h.num _ _ ha'
      · intro i j a b ha hb hab
        obtain ⟨a', ha', _, e1, _⟩ := hs i a ha
        obtain ⟨b', hb', _, e2, _⟩ := hs j b hb
        exact h.one _ _ _ _ ha' hb' (by rw [← e1, ← e2]; exact hab)
    · rw [if_neg e]; exact h
end

/-- The nodes of all slots. -/
def sNd (l : List Pc) : List Nat := l.map fun p => p.1.toNat
theorem flat_take {α β : Type} (f : α → List β) (l : List α) {k : Nat} {x : α} (h : l[k]? = some x) : (l.take (k + 1)).flatMap f = (l.take k).flatMap f ++ f x := by
  rw [List.take_add_one, h, List.flatMap_append]
  simp
end Go.Proofs.Ythicpblgonigcaa
