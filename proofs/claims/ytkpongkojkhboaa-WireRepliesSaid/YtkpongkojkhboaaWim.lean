/- Requests and replies in plain words: which are right, their bytes, and what bytes are read as. No program is spoken of. -/
import Derived.Test.YtkpongkojkhboaaNam
namespace Go.Proofs.Ytkpongkojkhboaa
set_option linter.unusedVariables false
set_option linter.unusedSimpArgs false
set_option maxRecDepth 20000

/-- A kind's name. -/
def nmK (k : Int) : ByteArray :=
  if k = 1 then ⟨#[112, 105, 110, 103]⟩ else if k = 2 then ⟨#[112, 117, 116]⟩ else if k = 3 then ⟨#[103, 101, 116]⟩ else if k = 4 then ⟨#[104, 101, 108, 112]⟩
  else if k = 5 then ⟨#[100, 114, 111, 112]⟩ else if k = 6 then ⟨#[99, 104, 101, 99, 107]⟩ else ⟨#[]⟩
theorem nmK_none {k : Int} (h : k < 1 ∨ 6 < k) : nmK k = ⟨#[]⟩ := by
  unfold nmK
  rw [if_neg (by omega), if_neg (by omega), if_neg (by omega), if_neg (by omega), if_neg (by omega), if_neg (by omega)]
/-- A request: its number, kind, name, lost slot and data. -/
structure Rq where
  num : Nat
  kind : Int
  s : Nat
  lost : Nat
  data : List UInt8
/-- Is a request of this kind right, with this slot and so many bytes? -/
def RgtB (k : Int) (lost n : Nat) : Bool := decide (1 ≤ k ∧ k ≤ 6 ∧ (k = 2 ∨ n = 0) ∧ (k = 4 ∨ lost = 0))
def Rq.rgt (q : Rq) : Bool := RgtB q.kind q.lost q.data.length
structure Rq.Fit (q : Rq) : Prop where
  num : q.num < 18446744073709551616
  s : q.s < N96
  lost : q.lost < 65536
def Rq.bytes (q : Rq) : List UInt8 := numB q.kind.toNat 1 ++ (numB q.num 8 ++ (shB q.s ++ (numB q.lost 2 ++ q.data)))
/-- The request that bytes are read as; the zero one. -/
def rqO (b : List UInt8) : Rq := ⟨ofB ((b.drop 1).take 8), (ofB (b.take 1) : Int), nmO (b.drop 9), ofB ((b.drop 21).take 2), b.drop 23⟩
def rq0 : Rq := ⟨0, 0, 0, 0, []⟩
/-- Are these the bytes of a request that is right? -/
def rqE (b : List UInt8) : Bool := decide (23 ≤ b.length) && (rqO b).rgt
theorem rqO_fit (b : List UInt8) : (rqO b).Fit := ⟨ofB_take 8, nmO_lt _, ofB_take 2⟩
theorem rq0_fit : rq0.Fit := ⟨by decide, by decide, by decide⟩
theorem Rq.bytes_len (q : Rq) : q.bytes.length = 23 + q.data.length := by
  simp only [Rq.bytes, List.length_append, numB_length, shB_len]
  omega
theorem Rq.rgt_kind {q : Rq} (h : q.rgt = true) : 1 ≤ q.kind ∧ q.kind ≤ 6 := by
  unfold Rq.rgt RgtB at h
  have := of_decide_eq_true h
  exact ⟨this.1, this.2.1⟩
theorem Rq.back {q : Rq} (hf : q.Fit) (hr : q.rgt = true) : rqO q.bytes = q := by
  have hk := q.rgt_kind hr
  obtain ⟨hn, hs, hl⟩ := hf
  have e1 : ∀ x : List UInt8, (numB q.kind.toNat 1 ++ x).drop 1 = x := fun x => List.drop_left' (numB_length _ _)
  have e2 : ∀ x : List UInt8, (numB q.num 8 ++ x).drop 8 = x := fun x => List.drop_left' (numB_length _ _)
  have e3 : ∀ x : List UInt8, (shB q.s ++ x).drop 12 = x := fun x => List.drop_left' (shB_len _)
  have e4 : ∀ x : List UInt8, (numB q.lost 2 ++ x).drop 2 = x := fun x => List.drop_left' (numB_length _ _)
  have d9 : q.bytes.drop 9 = shB q.s ++ (numB q.lost 2 ++ q.data) := by
    rw [show (9 : Nat) = 1 + 8 from rfl, ← List.drop_drop]
    unfold Rq.bytes
    rw [e1, e2]
  have d21 : q.bytes.drop 21 = numB q.lost 2 ++ q.data := by
    rw [show (21 : Nat) = 9 + 12 from rfl, ← List.drop_drop, d9, e3]
  have d23 : q.bytes.drop 23 = q.data := by
    rw [show (23 : Nat) = 21 + 2 from rfl, ← List.drop_drop, d21, e4]
  have t1 : ofB (q.bytes.take 1) = q.kind.toNat := by
    unfold Rq.bytes
    rw [List.take_left' (numB_length _ _), ofB_numB]
    omega
  have t8 : ofB ((q.bytes.drop 1).take 8) = q.num := by
    unfold Rq.bytes
    rw [e1, List.take_left' (numB_length _ _), ofB_numB]
    omega
  have t2 : ofB ((q.bytes.drop 21).take 2) = q.lost := by
    rw [d21, List.take_left' (numB_length _ _), ofB_numB]
    omega
  unfold rqO
  rw [t1, t8, t2, d23, d9, nm_shB hs]
  have : ((q.kind.toNat : Nat) : Int) = q.kind := Int.toNat_of_nonneg (by omega)
  rw [this]
theorem Rq.read {q : Rq} (hf : q.Fit) (hr : q.rgt = true) : rqE q.bytes = true := by
  unfold rqE
  rw [Rq.back hf hr, hr, Bool.and_true]
  exact decide_eq_true (by rw [Rq.bytes_len]; omega)
/-- A reply: its number, error and data. -/
structure Rp where
  num : Nat
  e : Int
  data : List UInt8
def RpB (e : Int) (n : Nat) : Bool := decide (0 ≤ e ∧ e ≤ 255 ∧ (e = 0 ∨ n = 0))
def Rp.rgt (p : Rp) : Bool := RpB p.e p.data.length
def Rp.bytes (p : Rp) : List UInt8 := numB p.num 8 ++ (numB p.e.toNat 1 ++ p.data)
def rpO (b : List UInt8) : Rp := ⟨ofB (b.take 8), (ofB ((b.drop 8).take 1) : Int), b.drop 9⟩
def rp0 : Rp := ⟨0, 0, []⟩
def rpE (b : List UInt8) : Bool := decide (9 ≤ b.length) && (rpO b).rgt
theorem Rp.bytes_len (p : Rp) : p.bytes.length = 9 + p.data.length := by
  simp only [Rp.bytes, List.length_append, numB_length]
  omega
theorem Rp.rgt_e {p : Rp} (h : p.rgt = true) : 0 ≤ p.e ∧ p.e ≤ 255 := by
  unfold Rp.rgt RpB at h
  have := of_decide_eq_true h
  exact ⟨this.1, this.2.1⟩
theorem Rp.back {p : Rp} (hn : p.num < 18446744073709551616) (hr : p.rgt = true) : rpO p.bytes = p := by
  have hk := p.rgt_e hr
  have e1 : ∀ x : List UInt8, (numB p.num 8 ++ x).drop 8 = x := fun x => List.drop_left' (numB_length _ _)
  have e2 : ∀ x : List UInt8, (numB p.e.toNat 1 ++ x).drop 1 = x := fun x => List.drop_left' (numB_length _ _)
  have d8 : p.bytes.drop 8 = numB p.e.toNat 1 ++ p.data := by unfold Rp.bytes; rw [e1]
  have d9 : p.bytes.drop 9 = p.data := by rw [show (9 : Nat) = 8 + 1 from rfl, ← List.drop_drop, d8, e2]
  have t8 : ofB (p.bytes.take 8) = p.num := by
    unfold Rp.bytes
    rw [List.take_left' (numB_length _ _), ofB_numB]
    omega
  have t1 : ofB ((p.bytes.drop 8).take 1) = p.e.toNat := by
    rw [d8, List.take_left' (numB_length _ _), ofB_numB]
    omega
  unfold rpO
  rw [t8, t1, d9]
  have : ((p.e.toNat : Nat) : Int) = p.e := Int.toNat_of_nonneg (by omega)
  rw [this]
theorem Rp.read {p : Rp} (hn : p.num < 18446744073709551616) (hr : p.rgt = true) : rpE p.bytes = true := by
  unfold rpE
  rw [Rp.back hn hr, hr, Bool.and_true]
  exact decide_eq_true (by rw [Rp.bytes_len]; omega)
end Go.Proofs.Ytkpongkojkhboaa
