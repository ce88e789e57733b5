/- Readings of arguments opened to cells: bytes, numbers, and structs within slices. No condition; Arguments opened to cells: rows of bytes, bytes, whole numbers. No condition; Slices of slices of bytes whose rows' capacities are known: read, opened. No condition; Package mat's Pick, as a contract over memory; whole numbers in a slice; A slice of whole numbers that came in, opened to cells. No condition; Package gf's powers, inverses and quotients, each as a contract: what the call returns, with memory as it was; The document's inverse (coldframeref02), searched, as a contract: what the call returns, with memory as it was; The document's powers (coldframeref02) as a contract: what the call returns, with memory as it was; Rows of any type that the call made and appends to. No condition. -/
import Derived.Test.YtjjdkkncdnipcaaBase
import Derived.Deep.Slices
import Derived.Deep.Fields
import Derived.ChangeSame
import Derived.ChangeSlices
import Derived.OpenShut
namespace Go.Proofs.Ytjjdkkncdnipcaa
open Go.ChangeShapes Go.WideShapes Go.RowKit Go.Deep
set_option linter.unusedVariables false
set_option maxRecDepth 20000

section
variable {H : Type} {enc : TypeId × Value → H} {P : Program} {w : World} {base : Nat} {spare : Nat → Bool} {held : Bool} {fuel : Nat} {v : Value} {x : DataW H × List MemPlace}

theorem toNat_byte (z : Int) (h : 0 ≤ z ∧ z ≤ 255) : ((UInt8.ofNat z.toNat).toNat : Int) = z := by
  rw [UInt8.toNat_ofNat']
  omega

/-- A slice of bytes that came in. -/
theorem open_bts {t e : TypeId} (ht : P.underlying t = some (.slice e)) (he : P.underlying e = some (.int .u8)) (hc : P.cellsOf e = 1) (h : DataW.trod enc P w base spare held fuel t [v] = some x) :
    ∃ A m c bs, v = .slice A m c ∧ Bts w (.slice A m c) bs ∧ m ≤ maxLen := by
  rcases open_ints ht he hc h with ⟨hcs, _⟩ | ⟨a, len, cap, zs, hcs, _, hl, hm, hz, _, hcell, hwz⟩
  · simp only [List.cons.injEq, and_true] at hcs
    exact ⟨none, 0, 0, [], hcs, Bts.nil w, Nat.zero_le _⟩
  · simp only [List.cons.injEq, and_true] at hcs
    have hle : len ≤ zs.length := by rw [hz]; split <;> omega
    refine ⟨some a, len, cap, (zs.take len).map (fun z => UInt8.ofNat z.toNat), hcs, ⟨some a, cap, by simp [hle], (fun h => by cases h), fun ad ha j u hu => ?_⟩, by omega⟩
    injection ha with ha
    subst ha
    simp only [List.getElem?_map, Option.map_eq_some_iff] at hu
    obtain ⟨z, hz', rfl⟩ := hu
    rw [List.getElem?_take] at hz'
    split at hz'
    · have hj := (List.getElem?_eq_some_iff.1 hz').1
      rw [hcell j hj]
      have hg : zs.getD j 0 = z := by simp [List.getD, hz']
      rw [hg]
      have hb := bounds_u8 (hwz z (List.mem_of_getElem? hz'))
      unfold bv
      rw [toNat_byte z hb]
    · cases hz'

/-- An unsigned number that came in. -/
theorem open_nat {t : TypeId} {k : IntKind} (ht : P.underlying t = some (.int k)) (h0 : ∀ n, (Lit.int k n).wf = true → 0 ≤ n) (h : DataW.trod enc P w base spare held fuel t [v] = some x) :
    ∃ n : Nat, v = .int k (n : Int) ∧ (Lit.int k (n : Int)).wf = true := by
  obtain ⟨n, hcs, _, hwf⟩ := DataW.trod_int ht h
  simp only [List.cons.injEq, and_true] at hcs
  have := h0 n hwf
  obtain ⟨m, rfl⟩ := Int.eq_ofNat_of_zero_le this
  exact ⟨m, hcs, hwf⟩

/-- A struct's fields, one by one. -/
theorem open_parts {t : TypeId} {fs : Array Field} {cs : List Value} (ht : P.underlying t = some (.struct fs)) (h : DataW.trod enc P w base spare held fuel t cs = some x) :
    ∃ n, cs.length = P.cellsOf t ∧ ∀ (i : Nat) (ty : TypeId) (off k : Nat), (fs[i]?).map (fun f => (f.type, f.offset)) = some (ty, off) → P.cellsOf ty = k → ∃ y, DataW.trod enc P w base spare held n ty ((cs.drop off).take k) = some y := by
  obtain ⟨xs, n, _, _, hl, hx, hf⟩ := DataW.trod_struct ht h
  refine ⟨n, hl, fun i ty off k hi hk => ?_⟩
  obtain ⟨f, hfi, he⟩ := Option.map_eq_some_iff.1 hi
  have hlt : i < xs.length := by rw [hx]; exact (Array.getElem?_eq_some_iff.1 hfi).1
  simp only [Prod.mk.injEq] at he
  obtain ⟨rfl, rfl⟩ := he
  subst hk
  exact ⟨xs[i], (hf i f hfi).trans (List.getElem?_eq_getElem hlt)⟩

/-- A slice's elements, one by one: the cells of each, and its reading. -/
theorem open_elems {t e : TypeId} (ht : P.underlying t = some (.slice e)) (h : DataW.trod enc P w base spare held fuel t [v] = some x) :
    ∃ A len cap n, v = .slice A len cap ∧ len ≤ maxLen ∧ (A = none → len = 0 ∧ cap = 0) ∧
      ∀ i, i < len → ∃ a cs y, A = some a ∧ cs.length = P.cellsOf e ∧ (∀ j, j < P.cellsOf e → w.cell? (a.add (i * P.cellsOf e + j)) = cs[j]?) ∧ DataW.trod enc P w base spare held n e cs = some y := by
  rcases open_slice ht h with ⟨hcs, _⟩ | ⟨a, len, cap, m, n, D, Pl, hcs, _, hl, hm, hmm, _, hi⟩
  · simp only [List.cons.injEq, and_true] at hcs
    exact ⟨none, 0, 0, 0, hcs, Nat.zero_le _, fun _ => ⟨rfl, rfl⟩, fun i hi => by omega⟩
  · simp only [List.cons.injEq, and_true] at hcs
    refine ⟨some a, len, cap, n, hcs, by omega, (fun h => by cases h), fun i hil => ?_⟩
    have him : i < m := by rw [hmm]; split <;> omega
    obtain ⟨cs', hc, ht'⟩ := hi i him
    obtain ⟨_, hcl, hat⟩ := World.cells?_some hc
    exact ⟨a, cs', _, rfl, hcl, fun j hj => by rw [← Go.Deep.add_add]; exact hat j hj, ht'⟩
end
end Go.Proofs.Ytjjdkkncdnipcaa
namespace Go.Proofs.Ytjjdkkncdnipcaa
open Go.ChangeShapes Go.WideShapes Go.RowKit Go.Deep
set_option linter.unusedVariables false

section
variable {H : Type} {enc : TypeId × Value → H} {w : World} {base : Nat} {spare : Nat → Bool} {held : Bool} {fuel : Nat} {v : Value} {x : DataW H × List MemPlace}

end
end Go.Proofs.Ytjjdkkncdnipcaa
namespace Go.Proofs.Ytjjdkkncdnipcaa
open Go.ChangeShapes Go.WideShapes Go.RowKit Go.Deep
set_option linter.unusedVariables false
set_option maxRecDepth 20000

/-- No row is longer than there is room. -/
def Caps (w : World) (A : Option Addr) (n : Nat) : Prop := ∀ j, j < n → ∀ B off A' m c, A = some ⟨B, off, none⟩ → w.cell? ⟨B, off + j, none⟩ = some (.slice A' m c) → m ≤ c
structure Rwc (w : World) (A : Option Addr) (n : Nat) (bss : List (List UInt8)) : Prop where
  rws : Rws w A n bss
  cap : Caps w A n
theorem Rwc.no {w w1 : World} {A : Option Addr} {n : Nat} {bss : List (List UInt8)} (h : Rwc w A n bss) (hk : Kp No w w1) : Rwc w1 A n bss := by
  refine ⟨h.rws.no hk, fun j hj B off A' m c hA hc => ?_⟩
  obtain ⟨B', off', A1, m1, c1, b1, hA', hc1, _, _⟩ := h.rws.get hj
  have e : w.cell? ⟨B, off + j, none⟩ = some (.slice A1 m1 c1) := by
    rw [hA] at hA'
    injection hA' with hA'
    injection hA' with e1 e2
    subst e1 e2
    exact hc1
  rw [hk.cell e fun f => f] at hc
  injection hc with hc
  rw [hc] at e
  exact h.cap j hj B off A' m c hA e
theorem Rwc.get {w : World} {A : Option Addr} {n : Nat} {bss : List (List UInt8)} (h : Rwc w A n bss) {j : Nat} (hj : j < n) :
    ∃ B off A' m c bs, A = some ⟨B, off, none⟩ ∧ w.cell? ⟨B, off + j, none⟩ = some (.slice A' m c) ∧ bss[j]? = some bs ∧ Bts w (.slice A' m c) bs ∧ m ≤ c := by
  obtain ⟨B, off, A', m, c, bs, h1, h2, h3, h4⟩ := h.rws.get hj
  exact ⟨B, off, A', m, c, bs, h1, h2, h3, h4, h.cap j hj B off A' m c h1 h2⟩

section
variable {H : Type} {enc : TypeId × Value → H} {w : World} {base : Nat} {spare : Nat → Bool} {held : Bool} {fuel : Nat} {v : Value} {x : DataW H × List MemPlace}
end
end Go.Proofs.Ytjjdkkncdnipcaa
namespace Go.Proofs.Ytjjdkkncdnipcaa
open Go.RowKit
set_option linter.unusedVariables false

/-- The slice at A of n numbers reads as zs. -/
structure Ints (w : World) (A : Option Addr) (n : Nat) (zs : List Int) : Prop where
  len : n = zs.length
  at_ : ∀ (j : Nat) z, zs[j]? = some z → ∃ B off, A = some ⟨B, off, none⟩ ∧ w.cell? ⟨B, off + j, none⟩ = some (.int .i64 z)
theorem Ints.no {w w1 : World} {A : Option Addr} {n : Nat} {zs : List Int} (h : Ints w A n zs) (hk : Kp No w w1) : Ints w1 A n zs := by
  refine ⟨h.len, fun j z hj => ?_⟩
  obtain ⟨B, off, h1, h2⟩ := h.at_ j z hj
  exact ⟨B, off, h1, hk.cell h2 (fun f => f)⟩
theorem Ints.get {w : World} {A : Option Addr} {n : Nat} {zs : List Int} (h : Ints w A n zs) {j : Nat} (hj : j < n) : ∃ B off z, A = some ⟨B, off, none⟩ ∧ zs[j]? = some z ∧ w.cell? ⟨B, off + j, none⟩ = some (.int .i64 z) := by
  have hl := h.len
  obtain ⟨B, off, h1, h2⟩ := h.at_ j _ (List.getElem?_eq_getElem (by omega))
  exact ⟨B, off, _, h1, List.getElem?_eq_getElem (by omega), h2⟩

/-- The rows with these numbers. -/
def pickL (c : Nat) (f : Nat → Nat → UInt8) (zs : List Int) : List (List UInt8) := zs.map fun z => rowL c (f z.toNat)
theorem pickL_len (c : Nat) (f : Nat → Nat → UInt8) (zs : List Int) : (pickL c f zs).length = zs.length := by simp [pickL]
theorem pickL_get {c : Nat} {f : Nat → Nat → UInt8} {zs : List Int} {j : Nat} {z : Int} (h : zs[j]? = some z) : (pickL c f zs)[j]? = some (rowL c (f z.toNat)) := by simp [pickL, h]
theorem pickL_row {c : Nat} {f : Nat → Nat → UInt8} {zs : List Int} {j : Nat} {bs : List UInt8} (h : (pickL c f zs)[j]? = some bs) : bs.length = c := by
  unfold pickL at h
  rw [List.getElem?_map, Option.map_eq_some_iff] at h
  obtain ⟨z, _, rfl⟩ := h
  exact rowL_len _ _
theorem pickL_rect {c : Nat} {f : Nat → Nat → UInt8} {zs : List Int} (h1 : 1 ≤ zs.length) (h2 : zs.length ≤ 64) (c1 : 1 ≤ c) (c2 : c ≤ 64) : Rect (pickL c f zs) zs.length c :=
  ⟨pickL_len _ _ _, fun j bs hj => pickL_row hj, h1, h2, c1, c2⟩

section
variable {w : World} {m : MB} {r c n cp : Nat} {f : Nat → Nat → UInt8} {A : Option Addr} {zs : List Int}

theorem ArgPost.of_kp {w w1 w2 : World} {e : Ending} (hk : Kp No w w1) (h : ArgPost w1 e w2) : ArgPost w e w2 := ⟨h.1, hk.trans' h.2⟩

/-- A pair comes back. -/
def PairPost (P : Value → Value → World → Prop) (e : Ending) (w1 : World) : Prop := ∃ a b, e = .returned (.tuple #[a, b]) ∧ P a b w1

end
end Go.Proofs.Ytjjdkkncdnipcaa
namespace Go.Proofs.Ytjjdkkncdnipcaa
open Go.ChangeShapes Go.WideShapes Go.RowKit Go.Deep
set_option linter.unusedVariables false

theorem cells_int : Try.prog.cellsOf 3 = 1 := by kernel_rfl

section
variable {H : Type} {enc : TypeId × Value → H} {w : World} {base : Nat} {spare : Nat → Bool} {held : Bool} {fuel : Nat} {v : Value} {x : DataW H × List MemPlace}

end
end Go.Proofs.Ytjjdkkncdnipcaa
namespace Go.Proofs.Ytjjdkkncdnipcaa
open Go.RowKit
set_option linter.unusedVariables false

theorem and1_i64 (n : Int) : bits .and .i64 n 1 = n % 2 := by
  have h1 : (BitVec.ofInt 64 1).toNat = 2 ^ 1 - 1 := by decide
  have key : (BitVec.ofInt 64 n &&& BitVec.ofInt 64 1).toNat = (n % ((2 ^ 64 : Nat) : Int)).toNat % 2 ^ 1 := by
    rw [BitVec.toNat_and, BitVec.toNat_ofInt, h1, Nat.and_two_pow_sub_one_eq_mod]
  show IntKind.i64.wrap ((BitVec.ofInt 64 n &&& BitVec.ofInt 64 1).toNat : Nat) = n % 2
  rw [key, IntKind.wrap_i64]
  omega

theorem pow_even {x p m : Nat} (hx : x < 256) (h : m % 2 = 0) : gmul p (gpow (gmul x x) (m / 2)) = gmul p (gpow x m) := by
  rw [gpow_sq hx, show 2 * (m / 2) = m by omega]
theorem pow_odd {x p m : Nat} (hx : x < 256) (hp : p < 256) (h : m % 2 = 1) : gmul (gmul p x) (gpow (gmul x x) (m / 2)) = gmul p (gpow x m) := by
  rw [gpow_sq hx, gmul_assoc hp hx (gpow_lt _)]
  congr 1
  have : gpow x m = gpow x (1 + 2 * (m / 2)) := by congr 1; omega
  rw [this, gpow_add hx, gpow_one hx]

end Go.Proofs.Ytjjdkkncdnipcaa
namespace Go.Proofs.Ytjjdkkncdnipcaa
open Go.RowKit
set_option linter.unusedVariables false

end Go.Proofs.Ytjjdkkncdnipcaa
namespace Go.Proofs.Ytjjdkkncdnipcaa
open Go.RowKit
set_option linter.unusedVariables false

end Go.Proofs.Ytjjdkkncdnipcaa
namespace Go.Proofs.Ytjjdkkncdnipcaa
open Go.RowKit
set_option linter.unusedVariables false
set_option maxRecDepth 20000

/-- The type e takes sz cells and bt bytes, and is z when it is new. -/
structure Ty (e : TypeId) (z : Value) (sz bt : Nat) : Prop where
  ex : ∃ i, Try.prog.info? e = some i ∧ i.zero = some z ∧ i.size = sz ∧ i.bytes = bt
  zs : z.cells.size = sz
  s0 : 0 < sz
  b0 : bt ≤ 100
theorem ty_of {e : TypeId} {z : Value} {sz bt : Nat} (h : (Try.prog.info? e).map (fun i => (i.zero, i.size, i.bytes)) = some (some z, sz, bt)) (h2 : z.cells.size = sz) (h3 : 0 < sz) (h4 : bt ≤ 100) : Ty e z sz bt := by
  refine ⟨?_, h2, h3, h4⟩
  rcases hi : Try.prog.info? e with _ | i
  · rw [hi] at h; cases h
  · rw [hi] at h
    simp only [Option.map_some, Option.some.injEq, Prod.mk.injEq] at h
    exact ⟨i, rfl, h.1, h.2.1, h.2.2⟩
theorem ty_int : Ty 3 (.int .i64 0) 1 8 := ty_of (by kernel_rfl) rfl (by omega) (by omega)

/-- Cells that are appended. -/
structure Nws (w : World) (ad : Addr) (m sz : Nat) (cs : List Value) : Prop where
  len : cs.length = m * sz
  at_ : ∀ (j : Nat) u, cs[j]? = some u → w.cell? (ad.add j) = some u
  one : ∀ u ∈ cs, u.oneCell' = true
def OwnT (w : World) (base : Nat) (e : TypeId) (sz : Nat) (v : Value) (n : Nat) (xs : List Value) : Prop := w.ownsRow base e sz v n xs
section
variable {w w1 w2 : World} {S : Nat → Prop} {base : Nat} {e : TypeId} {sz n m : Nat} {v v1 z : Value} {xs cs : List Value}
theorem OwnT.nil (w : World) (base : Nat) (e : TypeId) (sz : Nat) : OwnT w base e sz (.slice none 0 0) 0 [] := World.ownsRow_nil w base e sz
theorem OwnT.lt (h : OwnT w base e sz v n xs) (k : Nat) (hk : v.ownBlock = some k) : k < w.heap.size := (World.ownsRow.lt h k hk).2
theorem OwnT.ge (h : OwnT w base e sz v n xs) (k : Nat) (hk : v.ownBlock = some k) : base ≤ k := (World.ownsRow.lt h k hk).1
theorem OwnT.keep (h : OwnT w base e sz v n xs) (hk : Kp S w w1) (hS : ∀ k, v.ownBlock = some k → ¬ S k) : OwnT w1 base e sz v n xs := by
  refine ⟨h.1, ?_⟩
  rcases h.2 with hn | ⟨g, cap, cur, rfl, hb, hg, r⟩
  · exact .inl hn
  · exact .inr ⟨g, cap, cur, rfl, hb, by rw [hk.block g (Array.getElem?_eq_some_iff.1 hg).1 (hS g rfl)]; exact hg, r⟩
theorem OwnT.no (h : OwnT w base e sz v n xs) (hk : Kp No w w1) : OwnT w1 base e sz v n xs := h.keep hk fun _ _ f => f
theorem OwnT.form (h : OwnT w base e sz v n xs) : ∃ A c, v = .slice A n c := by
  rcases h.2 with ⟨rfl, rfl⟩ | ⟨g, cap, cur, rfl, _⟩
  · exact ⟨none, 0, rfl⟩
  · exact ⟨_, _, rfl⟩
theorem OwnT.cell {A : Option Addr} {n' c j : Nat} (h : OwnT w base e sz (.slice A n' c) n xs) {u : Value} (hj : xs[j]? = some u) : ∃ g, A = some ⟨g, 0, none⟩ ∧ base ≤ g ∧ g < w.heap.size ∧ n ≤ c ∧ w.cell? ⟨g, j, none⟩ = some u := by
  have hjl : j < xs.length := (List.getElem?_eq_some_iff.1 hj).1
  rcases h.2 with ⟨h1, hn⟩ | ⟨g, cap, cur, h1, hb, hg, hc, _, _, ht⟩
  · have := h.1
    rw [hn, Nat.zero_mul] at this
    omega
  · injection h1 with h1 h2 h3
    subst h3
    refine ⟨g, h1, hb, (Array.getElem?_eq_some_iff.1 hg).1, hc, ?_⟩
    rw [cell_of_row w g j cur _ _ hg]
    have h2 : (cur.toList.take (n * sz))[j]? = xs[j]? := by rw [ht]
    rw [List.getElem?_take, if_pos (by rw [← h.1]; exact hjl), Array.getElem?_toList, hj] at h2
    exact h2
theorem OwnT.kind (h : OwnT w base e sz v n xs) {g : Nat} (hg : v.ownBlock = some g) : ∃ cur, w.heap[g]? = some (.cells cur e (0, 0)) := by
  rcases h.2 with ⟨rfl, _⟩ | ⟨g', cap, cur, rfl, _, h1, _⟩
  · cases hg
  · injection hg with hg
    subst hg
    exact ⟨cur, h1⟩
/-- What append leaves. -/
structure AppT (w : World) (base : Nat) (e : TypeId) (sz : Nat) (v : Value) (n : Nat) (xs : List Value) (m : Nat) (cs : List Value) (v1 : Value) (w1 : World) : Prop where
  own : OwnT w1 base e sz v1 (n + m) (xs ++ cs)
  kp : Kp (fun k => v.ownBlock = some k) w w1
  at_ : v1.ownBlock = v.ownBlock ∨ v1.ownBlock = some w.heap.size
theorem run_appT {bt : Nat} (hT : Ty e z sz bt) (t ty : TypeId) (ht : Try.prog.underlying t = some (.slice e)) (h : OwnT w base e sz v n xs) (ad : Addr) (c : Nat) (hN : Nws w ad m sz cs) (hlen : n + m ≤ 1000000) (hb : base ≤ w.heap.size) :
    ∃ v1 w1, (Builtin.append_ #[t, t] ty #[v, .slice (some ad) m c]).run Try.prog w = .ok v1 w1 ∧ AppT w base e sz v n xs m cs v1 w1 := by
  obtain ⟨⟨i0, hi0, hz0, hz1, hz2⟩, h1, h2, h3⟩ := hT
  have h5 : (n + m) * bt ≤ 1000000 * 100 := Nat.mul_le_mul hlen h3
  obtain ⟨v1, w1, hr, e1, e2, e3, e4⟩ := run_append_own_at (P := Try.prog) w base t ty e i0 z sz bt ht hi0 hz0 hz1 hz2 h1 h2 v n xs h ad m c cs hN.len hN.at_ hN.one (by simp only [maxLen]; omega) (by omega) hb
  exact ⟨v1, w1, hr, ⟨e1, Kp.grown e2, e4⟩⟩
theorem AppT.keeps {w0 : World} (ha : AppT w w0.heap.size e sz v n xs m cs v1 w1) (h : OwnT w w0.heap.size e sz v n xs) (hk : Kp S w0 w) : Kp S w0 w1 :=
  hk.trans (ha.kp.mono fun k hk => .inr (h.ge k hk))
theorem wpList_appT {ops : Array Oper} {rest : List Oper} {o : Oper} {a : Act} {Q : Exit → Act → World → Prop} {bt : Nat} (hT : Ty e z sz bt) (hgd : o.guard = none) (s x : Operand) (t : TypeId)
    (ho : o.op = .call { callee := .builtin .append, args := #[s, x], argTypes := #[t, t] })
    (ht : Try.prog.underlying t = some (.slice e)) (hs : a.eval s = v) (h : OwnT w base e sz v n xs) (ad : Addr) (c : Nat) (hx : a.eval x = .slice (some ad) m c) (hN : Nws w ad m sz cs) (hlen : n + m ≤ 1000000) (hb : base ≤ w.heap.size)
    (hQ : ∀ A1 n1 c1 w1, n1 = n + m → AppT w base e sz v n xs m cs (.slice A1 n1 c1) w1 → wpList Try.prog ops Q rest (a.put o.dst (.slice A1 n1 c1)) w1) : wpList Try.prog ops Q (o :: rest) a w := by
  refine wpList_plain hgd fun K hK => ?_
  obtain ⟨v1, w1, hr, h1⟩ := run_appT hT t o.type ht h ad c hN hlen hb
  unfold Oper.wp execOp
  simp only [ho, resolve, invoke, builtin, Sem.run_bind, Sem.run_pure, Result.andThen_ok, List.map_toArray, List.map_cons, List.map_nil, hs, hx, hr]
  obtain ⟨A1, c1, rfl⟩ := h1.own.form
  exact hK _ _ (hQ A1 _ c1 w1 rfl h1)
theorem step_appT {ops : Array Oper} {o : Oper} {a : Act} {Q : Exit → Act → World → Prop} {K : Act → World → Prop} {E : Prop} {bt : Nat} (hT : Ty e z sz bt) (hgd : o.guard = none) (s x : Operand) (t : TypeId)
    (ho : o.op = .call { callee := .builtin .append, args := #[s, x], argTypes := #[t, t] })
    (ht : Try.prog.underlying t = some (.slice e)) (hs : a.eval s = v) (h : OwnT w base e sz v n xs) (ad : Addr) (c : Nat) (hx : a.eval x = .slice (some ad) m c) (hN : Nws w ad m sz cs) (hlen : n + m ≤ 1000000) (hb : base ≤ w.heap.size)
    (hQ : ∀ A1 n1 c1 w1, n1 = n + m → AppT w base e sz v n xs m cs (.slice A1 n1 c1) w1 → K (a.put o.dst (.slice A1 n1 c1)) w1) : if Region.wanted o (yielded ops a.tmps) = true then Oper.wp Try.prog o a w K Q else E := by
  have hw : Region.wanted o (yielded ops a.tmps) = true := by simp [Region.wanted, hgd]
  rw [if_pos hw]
  obtain ⟨v1, w1, hr, h1⟩ := run_appT hT t o.type ht h ad c hN hlen hb
  obtain ⟨A1, c1, rfl⟩ := h1.own.form
  have hq := hQ A1 _ c1 w1 rfl h1
  unfold Oper.wp
  simp only [execOp, ho, resolve, invoke, builtin, Sem.run_bind, Sem.run_pure, Result.andThen_ok, List.map_toArray, List.map_cons, List.map_nil, hs, hx, hr]
  exact hq
theorem nws_one {u : Value} (h : w.cell? ⟨m, 0, none⟩ = some u) (h1 : u.oneCell' = true) : Nws w ⟨m, 0, none⟩ 1 1 [u] := by
  refine ⟨rfl, fun j x hx => ?_, fun x hx => by simp at hx; subst hx; exact h1⟩
  match j, hx with
  | 0, hx =>
    simp at hx
    subst hx
    rw [add_none]
    exact h
  | j + 1, hx => simp at hx
end

theorem nws_two {w : World} {m : Nat} {u0 u1 : Value} (h0 : w.cell? ⟨m, 0, none⟩ = some u0) (h1 : w.cell? ⟨m, 1, none⟩ = some u1) (o0 : u0.oneCell' = true) (o1 : u1.oneCell' = true) : Nws w ⟨m, 0, none⟩ 1 2 [u0, u1] := by
  refine ⟨rfl, fun j x hx => ?_, fun x hx => ?_⟩
  · match j, hx with
    | 0, hx => simp at hx; subst hx; rw [add_none]; exact h0
    | 1, hx => simp at hx; subst hx; rw [add_none]; exact h1
    | j + 2, hx => simp at hx
  · simp at hx
    rcases hx with rfl | rfl
    · exact o0
    · exact o1
theorem nws_none {w : World} (ad : Addr) (sz : Nat) : Nws w ad 0 sz [] := ⟨by simp, fun j u hj => by simp at hj, fun u hu => by simp at hu⟩
theorem ownT_far {w : World} {b b' : Nat} {e e' : TypeId} {sz sz' n n' : Nat} {v v' : Value} {xs xs' : List Value} (h : OwnT w b e sz v n xs) (h' : OwnT w b' e' sz' v' n' xs') (hne : e ≠ e') {k : Nat} (hk : v.ownBlock = some k) : v'.ownBlock ≠ some k := fun hk' => by
  obtain ⟨c1, h1⟩ := h.kind hk
  obtain ⟨c2, h2⟩ := h'.kind hk'
  rw [h1] at h2
  injection h2 with h2
  injection h2 with h3 h4
  exact hne h4
theorem nws_three {w : World} {m : Nat} {u0 u1 u2 : Value} (h0 : w.cell? ⟨m, 0, none⟩ = some u0) (h1 : w.cell? ⟨m, 1, none⟩ = some u1) (h2 : w.cell? ⟨m, 2, none⟩ = some u2) (o0 : u0.oneCell' = true) (o1 : u1.oneCell' = true) (o2 : u2.oneCell' = true) : Nws w ⟨m, 0, none⟩ 1 3 [u0, u1, u2] := by
  refine ⟨rfl, fun j x hx => ?_, fun x hx => ?_⟩
  · match j, hx with
    | 0, hx => simp at hx; subst hx; rw [add_none]; exact h0
    | 1, hx => simp at hx; subst hx; rw [add_none]; exact h1
    | 2, hx => simp at hx; subst hx; rw [add_none]; exact h2
    | j + 3, hx => simp at hx
  · simp at hx
    rcases hx with rfl | rfl | rfl
    · exact o0
    · exact o1
    · exact o2
/-- So many noughts. -/
def zi (n : Nat) : Array Value := madeCells (Value.int .i64 0).cells (n * 1)
theorem zi_size (n : Nat) : (zi n).size = n := by unfold zi; rw [size_madeCells, Nat.mul_one]
theorem zi_get {n j : Nat} (h : j < n) : (zi n)[j]? = some (.int .i64 ((0 : Nat) : Int)) := by
  have e : (zi n).toList = List.replicate n (.int .i64 0) := by unfold zi; rw [Nat.mul_one]; exact toList_madeCells_one _ _
  rw [← Array.getElem?_toList, e, List.getElem?_replicate, if_pos h]
  rfl
theorem OwnT.len {w : World} {base : Nat} {e : TypeId} {sz r c n : Nat} {A : Option Addr} {xs : List Value} (h : OwnT w base e sz (.slice A r c) n xs) : r = n := by
  obtain ⟨A', c', e'⟩ := h.form
  injection e'
theorem OwnT.cellAt {w : World} {base : Nat} {e : TypeId} {sz r c n g : Nat} {xs : List Value} (h : OwnT w base e sz (.slice (some ⟨g, 0, none⟩) r c) n xs) {j : Nat} {u : Value} (hj : xs[j]? = some u) : w.cell? ⟨g, j, none⟩ = some u := by
  obtain ⟨g', e', _, _, _, hc⟩ := h.cell hj
  injection e' with e'
  injection e' with e'
  subst e'
  exact hc
theorem OwnT.cap {w : World} {base g c r : Nat} {e : TypeId} {xs : List Value} {sz n : Nat} (h : OwnT w base e sz (.slice (some ⟨g, 0, none⟩) r c) n xs) : n ≤ c := by
  rcases h.2 with ⟨e, _⟩ | ⟨g', cap, cur, e, _, _, h1, _⟩
  · cases e
  · injection e with _ _ e3
    omega
theorem OwnT.some_ {w : World} {base c r : Nat} {e : TypeId} {A : Option Addr} {xs : List Value} {sz n : Nat} (h : OwnT w base e sz (.slice A r c) n xs) (hn : 0 < n) : ∃ g, A = some ⟨g, 0, none⟩ ∧ n = r := by
  rcases h.2 with ⟨_, e⟩ | ⟨g', cap, cur, e, _⟩
  · omega
  · injection e with e1 e2 e3
    exact ⟨g', e1, e2.symm⟩
theorem ownT_rebase {w : World} {base b n sz : Nat} {e : TypeId} {v : Value} {xs : List Value} (h : OwnT w base e sz v n xs) (hb : ∀ k, v.ownBlock = some k → b ≤ k) : OwnT w b e sz v n xs := by
  refine ⟨h.1, ?_⟩
  rcases h.2 with hn | ⟨g, cap, cur, rfl, _, r⟩
  · exact .inl hn
  · exact .inr ⟨g, cap, cur, rfl, hb g rfl, r⟩
end Go.Proofs.Ytjjdkkncdnipcaa
