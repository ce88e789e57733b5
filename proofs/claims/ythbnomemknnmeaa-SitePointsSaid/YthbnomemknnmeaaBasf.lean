/- Readings of arguments opened to cells: bytes, numbers, and structs within slices. No condition; Arguments opened to cells: rows of bytes, bytes, whole numbers. No condition; Package mat's Pick, as a contract over memory; whole numbers in a slice; A slice of whole numbers that came in, opened to cells. No condition; Package gf's powers, inverses and quotients, each as a contract: what the call returns, with memory as it was; The document's inverse (coldframeref02), searched, as a contract: what the call returns, with memory as it was; The document's powers (coldframeref02) as a contract: what the call returns, with memory as it was. -/
import Derived.Test.YthbnomemknnmeaaBase
import Derived.Deep.Slices
import Derived.Deep.Fields
import Derived.ChangeSame
import Derived.ChangeSlices
import Derived.OpenShut
namespace Go.Proofs.Ythbnomemknnmeaa
open Go.ChangeShapes Go.WideShapes Go.RowKit Go.Deep
set_option linter.unusedVariables false

section
variable {H : Type} {enc : TypeId × Value → H} {P : Program} {w : World} {base : Nat} {spare : Nat → Bool} {held : Bool} {fuel : Nat} {v : Value} {x : DataW H × List MemPlace}

theorem toNat_byte (z : Int) (h : 0 ≤ z ∧ z ≤ 255) : ((UInt8.ofNat z.toNat).toNat : Int) = z := by
  rw [UInt8.toNat_ofNat']
  omega

/-- A slice of bytes that came in. -/
theorem open_bts {t e : TypeId} (ht : P.underlying t = some (.slice e)) (he : P.underlying e = some (.int .u8)) (hc : P.cellsOf e = 1) (h : DataW.trod enc P w base spare held fuel t [v] = some x) :
    ∃ A m c bs, v = .slice A m c ∧ Bts w (.slice A m c) bs ∧ m ≤ maxLen := by
  rcases open_ints ht he hc h with ⟨hcs, _⟩ | ⟨a, len, cap, zs, hcs, _, hl, hm, hz, _, hcell, hwz⟩
  · simp only [List.cons.injEq, and_true] at hcs
    exact ⟨none, 0, 0, [], hcs, Bts.nil w, Nat.zero_le _⟩
  · simp only [List.cons.injEq, and_true] at hcs
    have hle : len ≤ zs.length := by rw [hz]; split <;> omega
    refine ⟨some a, len, cap, (zs.take len).map (fun z => UInt8.ofNat z.toNat), hcs, ⟨some a, cap, by simp [hle], (fun h => by cases h), fun ad ha j u hu => ?_⟩, by omega⟩
    injection ha with ha
    subst ha
    simp only [List.getElem?_map, Option.map_eq_some_iff] at hu
    obtain ⟨z, hz', rfl⟩ := hu
    rw [List.getElem?_take] at hz'
    split at hz'
    · have hj := (List.getElem?_eq_some_iff.1 hz').1
      rw [hcell j hj]
      have hg : zs.getD j 0 = z := by simp [List.getD, hz']
      rw [hg]
      have hb := bounds_u8 (hwz z (List.mem_of_getElem? hz'))
      unfold bv
      rw [toNat_byte z hb]
    · cases hz'

/-- An unsigned number that came in. -/
theorem open_nat {t : TypeId} {k : IntKind} (ht : P.underlying t = some (.int k)) (h0 : ∀ n, (Lit.int k n).wf = true → 0 ≤ n) (h : DataW.trod enc P w base spare held fuel t [v] = some x) :
    ∃ n : Nat, v = .int k (n : Int) ∧ (Lit.int k (n : Int)).wf = true := by
  obtain ⟨n, hcs, _, hwf⟩ := DataW.trod_int ht h
  simp only [List.cons.injEq, and_true] at hcs
  have := h0 n hwf
  obtain ⟨m, rfl⟩ := Int.eq_ofNat_of_zero_le this
  exact ⟨m, hcs, hwf⟩

/-- A struct's fields, one by one. -/
theorem open_parts {t : TypeId} {fs : Array Field} {cs : List Value} (ht : P.underlying t = some (.struct fs)) (h : DataW.trod enc P w base spare held fuel t cs = some x) :
    ∃ n, cs.length = P.cellsOf t ∧ ∀ (i : Nat) (ty : TypeId) (off k : Nat), (fs[i]?).map (fun f => (f.type, f.offset)) = some (ty, off) → P.cellsOf ty = k → ∃ y, DataW.trod enc P w base spare held n ty ((cs.drop off).take k) = some y := by
  obtain ⟨xs, n, _, _, hl, hx, hf⟩ := DataW.trod_struct ht h
  refine ⟨n, hl, fun i ty off k hi hk => ?_⟩
  obtain ⟨f, hfi, he⟩ := Option.map_eq_some_iff.1 hi
  have hlt : i < xs.length := by rw [hx]; exact (Array.getElem?_eq_some_iff.1 hfi).1
  simp only [Prod.mk.injEq] at he
  obtain ⟨rfl, rfl⟩ := he
  subst hk
  exact ⟨xs[i], (hf i f hfi).trans (List.getElem?_eq_getElem hlt)⟩

/-- A slice's elements, one by one: the cells of each, and its reading. -/
theorem open_elems {t e : TypeId} (ht : P.underlying t = some (.slice e)) (h : DataW.trod enc P w base spare held fuel t [v] = some x) :
    ∃ A len cap n, v = .slice A len cap ∧ len ≤ maxLen ∧ (A = none → len = 0 ∧ cap = 0) ∧
      ∀ i, i < len → ∃ a cs y, A = some a ∧ cs.length = P.cellsOf e ∧ (∀ j, j < P.cellsOf e → w.cell? (a.add (i * P.cellsOf e + j)) = cs[j]?) ∧ DataW.trod enc P w base spare held n e cs = some y := by
  rcases open_slice ht h with ⟨hcs, _⟩ | ⟨a, len, cap, m, n, D, Pl, hcs, _, hl, hm, hmm, _, hi⟩
  · simp only [List.cons.injEq, and_true] at hcs
    exact ⟨none, 0, 0, 0, hcs, Nat.zero_le _, fun _ => ⟨rfl, rfl⟩, fun i hi => by omega⟩
  · simp only [List.cons.injEq, and_true] at hcs
    refine ⟨some a, len, cap, n, hcs, by omega, (fun h => by cases h), fun i hil => ?_⟩
    have him : i < m := by rw [hmm]; split <;> omega
    obtain ⟨cs', hc, ht'⟩ := hi i him
    obtain ⟨_, hcl, hat⟩ := World.cells?_some hc
    exact ⟨a, cs', _, rfl, hcl, fun j hj => by rw [← Go.Deep.add_add]; exact hat j hj, ht'⟩
end
end Go.Proofs.Ythbnomemknnmeaa
namespace Go.Proofs.Ythbnomemknnmeaa
open Go.ChangeShapes Go.WideShapes Go.RowKit Go.Deep
set_option linter.unusedVariables false

theorem cells_u8 : Try.prog.cellsOf 5 = 1 := by kernel_rfl
section
variable {H : Type} {enc : TypeId × Value → H} {w : World} {base : Nat} {spare : Nat → Bool} {held : Bool} {fuel : Nat} {v : Value} {x : DataW H × List MemPlace}

end
end Go.Proofs.Ythbnomemknnmeaa
namespace Go.Proofs.Ythbnomemknnmeaa
open Go.RowKit
set_option linter.unusedVariables false

/-- The slice at A of n numbers reads as zs. -/
structure Ints (w : World) (A : Option Addr) (n : Nat) (zs : List Int) : Prop where
  len : n = zs.length
  at_ : ∀ (j : Nat) z, zs[j]? = some z → ∃ B off, A = some ⟨B, off, none⟩ ∧ w.cell? ⟨B, off + j, none⟩ = some (.int .i64 z)
theorem Ints.no {w w1 : World} {A : Option Addr} {n : Nat} {zs : List Int} (h : Ints w A n zs) (hk : Kp No w w1) : Ints w1 A n zs := by
  refine ⟨h.len, fun j z hj => ?_⟩
  obtain ⟨B, off, h1, h2⟩ := h.at_ j z hj
  exact ⟨B, off, h1, hk.cell h2 (fun f => f)⟩
theorem Ints.get {w : World} {A : Option Addr} {n : Nat} {zs : List Int} (h : Ints w A n zs) {j : Nat} (hj : j < n) : ∃ B off z, A = some ⟨B, off, none⟩ ∧ zs[j]? = some z ∧ w.cell? ⟨B, off + j, none⟩ = some (.int .i64 z) := by
  have hl := h.len
  obtain ⟨B, off, h1, h2⟩ := h.at_ j _ (List.getElem?_eq_getElem (by omega))
  exact ⟨B, off, _, h1, List.getElem?_eq_getElem (by omega), h2⟩

/-- The rows with these numbers. -/
def pickL (c : Nat) (f : Nat → Nat → UInt8) (zs : List Int) : List (List UInt8) := zs.map fun z => rowL c (f z.toNat)
theorem pickL_len (c : Nat) (f : Nat → Nat → UInt8) (zs : List Int) : (pickL c f zs).length = zs.length := by simp [pickL]
theorem pickL_get {c : Nat} {f : Nat → Nat → UInt8} {zs : List Int} {j : Nat} {z : Int} (h : zs[j]? = some z) : (pickL c f zs)[j]? = some (rowL c (f z.toNat)) := by simp [pickL, h]
theorem pickL_row {c : Nat} {f : Nat → Nat → UInt8} {zs : List Int} {j : Nat} {bs : List UInt8} (h : (pickL c f zs)[j]? = some bs) : bs.length = c := by
  unfold pickL at h
  rw [List.getElem?_map, Option.map_eq_some_iff] at h
  obtain ⟨z, _, rfl⟩ := h
  exact rowL_len _ _
theorem pickL_rect {c : Nat} {f : Nat → Nat → UInt8} {zs : List Int} (h1 : 1 ≤ zs.length) (h2 : zs.length ≤ 64) (c1 : 1 ≤ c) (c2 : c ≤ 64) : Rect (pickL c f zs) zs.length c :=
  ⟨pickL_len _ _ _, fun j bs hj => pickL_row hj, h1, h2, c1, c2⟩

section
variable {w : World} {m : MB} {r c n cp : Nat} {f : Nat → Nat → UInt8} {A : Option Addr} {zs : List Int}

theorem ArgPost.of_kp {w w1 w2 : World} {e : Ending} (hk : Kp No w w1) (h : ArgPost w1 e w2) : ArgPost w e w2 := ⟨h.1, hk.trans' h.2⟩

/-- A pair comes back. -/
def PairPost (P : Value → Value → World → Prop) (e : Ending) (w1 : World) : Prop := ∃ a b, e = .returned (.tuple #[a, b]) ∧ P a b w1

end
end Go.Proofs.Ythbnomemknnmeaa
namespace Go.Proofs.Ythbnomemknnmeaa
open Go.ChangeShapes Go.WideShapes Go.RowKit Go.Deep
set_option linter.unusedVariables false

theorem cells_int : Try.prog.cellsOf 3 = 1 := by kernel_rfl

section
variable {H : Type} {enc : TypeId × Value → H} {w : World} {base : Nat} {spare : Nat → Bool} {held : Bool} {fuel : Nat} {v : Value} {x : DataW H × List MemPlace}

/-- A slice of whole numbers that came in. -/
theorem open_intsl (h : DataW.trod enc Try.prog w base spare held fuel 42 [v] = some x) : ∃ A n c zs, v = .slice A n c ∧ Ints w A n zs ∧ n ≤ maxLen := by
  rcases open_ints Try.underlying42 Try.underlying3 cells_int h with ⟨hcs, _⟩ | ⟨a, len, cap, zs, hcs, _, hl, hm, hz, _, hcell, hwz⟩
  · simp only [List.cons.injEq, and_true] at hcs
    exact ⟨none, 0, 0, [], hcs, ⟨rfl, fun j z hj => by simp at hj⟩, Nat.zero_le _⟩
  · simp only [List.cons.injEq, and_true] at hcs
    have hle : len ≤ zs.length := by rw [hz]; split <;> omega
    refine ⟨some a, len, cap, zs.take len, hcs, ⟨by simp [hle], fun j z hj => ?_⟩, by omega⟩
    rw [List.getElem?_take] at hj
    split at hj
    · have hjl := (List.getElem?_eq_some_iff.1 hj).1
      have hc := hcell j hjl
      have hg : zs.getD j 0 = z := by simp [List.getD, hj]
      rw [hg] at hc
      obtain ⟨B, off, spot⟩ := a
      have hsp : spot = none := by
        have h0 := hcell 0 (by omega)
        simpa [Addr.add] using World.cell?_spot h0
      subst hsp
      rw [add_none] at hc
      exact ⟨B, off, rfl, hc⟩
    · cases hj
end
end Go.Proofs.Ythbnomemknnmeaa
namespace Go.Proofs.Ythbnomemknnmeaa
open Go.RowKit
set_option linter.unusedVariables false

theorem and1_i64 (n : Int) : bits .and .i64 n 1 = n % 2 := by
  have h1 : (BitVec.ofInt 64 1).toNat = 2 ^ 1 - 1 := by decide
  have key : (BitVec.ofInt 64 n &&& BitVec.ofInt 64 1).toNat = (n % ((2 ^ 64 : Nat) : Int)).toNat % 2 ^ 1 := by
    rw [BitVec.toNat_and, BitVec.toNat_ofInt, h1, Nat.and_two_pow_sub_one_eq_mod]
  show IntKind.i64.wrap ((BitVec.ofInt 64 n &&& BitVec.ofInt 64 1).toNat : Nat) = n % 2
  rw [key, IntKind.wrap_i64]
  omega

theorem pow_even {x p m : Nat} (hx : x < 256) (h : m % 2 = 0) : gmul p (gpow (gmul x x) (m / 2)) = gmul p (gpow x m) := by
  rw [gpow_sq hx, show 2 * (m / 2) = m by omega]
theorem pow_odd {x p m : Nat} (hx : x < 256) (hp : p < 256) (h : m % 2 = 1) : gmul (gmul p x) (gpow (gmul x x) (m / 2)) = gmul p (gpow x m) := by
  rw [gpow_sq hx, gmul_assoc hp hx (gpow_lt _)]
  congr 1
  have : gpow x m = gpow x (1 + 2 * (m / 2)) := by congr 1; omega
  rw [this, gpow_add hx, gpow_one hx]

end Go.Proofs.Ythbnomemknnmeaa
namespace Go.Proofs.Ythbnomemknnmeaa
open Go.RowKit
set_option linter.unusedVariables false

end Go.Proofs.Ythbnomemknnmeaa
namespace Go.Proofs.Ythbnomemknnmeaa
open Go.RowKit
set_option linter.unusedVariables false

end Go.Proofs.Ythbnomemknnmeaa
