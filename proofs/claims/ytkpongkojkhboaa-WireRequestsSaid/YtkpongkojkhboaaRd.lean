/- The calls of package pack's Reader, each as a contract over memory. -/
import Derived.Test.YtkpongkojkhboaaCl
import Derived.Test.YtkpongkojkhboaaSl
namespace Go.Proofs.Ytkpongkojkhboaa
open Go.RowKit
set_option linter.unusedVariables false
set_option maxRecDepth 20000
set_option linter.unusedSimpArgs false

/-- At block g lies a Reader that is not torn and has bs left; it and its row lie in F. -/
def RdAt (w : World) (F : Nat → Prop) (g : Nat) (bs : List UInt8) : Prop :=
  ∃ A m c, w.heap[g]? = some (.cells #[.slice A m c, .bool false] 75 (0, 0)) ∧ Bts w (.slice A m c) bs ∧ m ≤ c ∧ F g ∧ ∀ k, (Value.slice A m c).ownBlock = some k → F k ∧ k ≠ g

section
variable {w w1 : World} {F S : Nat → Prop} {g : Nat} {bs : List UInt8}
theorem RdAt.mono {T : Nat → Prop} (h : RdAt w F g bs) (hF : ∀ k, F k → T k) : RdAt w T g bs := by
  obtain ⟨A, m, c, h1, h2, h3, h4, h5⟩ := h
  exact ⟨A, m, c, h1, h2, h3, hF _ h4, fun k hk => ⟨hF _ (h5 k hk).1, (h5 k hk).2⟩⟩
theorem RdAt.drew (h : RdAt w F g bs) : RdAt w.drew F g bs := h
theorem RdAt.keep (h : RdAt w F g bs) (hk : Kp S w w1) (hS : ∀ k, F k → ¬ S k) : RdAt w1 F g bs := by
  obtain ⟨A, m, c, h1, h2, h3, h4, h5⟩ := h
  exact ⟨A, m, c, (hk.block g (Array.getElem?_eq_some_iff.1 h1).1 (hS g h4)).trans h1, h2.keep hk fun k hk' => hS k (h5 k hk').1, h3, h4, h5⟩
theorem RdAt.no (h : RdAt w F g bs) (hk : Kp No w w1) : RdAt w1 F g bs := h.keep hk fun _ _ f => f
end

theorem own_cap {w : World} {base : Nat} {e : TypeId} {A : Option Addr} {m c : Nat} {bs : List UInt8} (h : Own w base e (.slice A m c) bs) : m ≤ c := by
  rcases h.2 with ⟨h1, _⟩ | ⟨g, cap, cur, h1, _, _, hc, _⟩
  · injection h1 with _ h1 h2
    omega
  · injection h1 with _ h1 h2
    omega

/-- Read: a reader of a copy. -/
theorem read_any {w : World} {bs : List UInt8} {u : Value} (hu : Bts w u bs) (hl : bs.length ≤ 900000000) :
    Calls Try.prog 20 #[u] w fun e w1 => ∃ g, e = .returned (.pointer (some ⟨g, 0, none⟩)) ∧ RdAt w1 (fun k => w.heap.size ≤ k ∧ k < w1.heap.size) g bs ∧ Kp No w w1 := by
  go_enter Try.func20, Try.ntmps20
  go_wp2_with (go_at_call 36; refine (clone_any hu hl).mono ?_; rintro e w1 ⟨A1, n1, c1, rfl, ho, hk⟩)
  go_ret
  refine ⟨w1.heap.size, rfl, ⟨A1, n1, c1, heap_alloc_new w1 _, ho.bts.no (Kp.alloc No w1 _), own_cap ho, ⟨hk.size, by simp⟩, fun k hk' => ⟨⟨ho.ge k hk', by have := ho.lt k hk'; simp; omega⟩, by have := ho.lt k hk'; omega⟩⟩, hk.trans' (Kp.alloc No w1 _)⟩

/-- What taking xs from the front comes to. -/
def TkPost (w : World) (F : Nat → Prop) (g : Nat) (xs ys : List UInt8) (e : Ending) (w1 : World) : Prop :=
  ∃ A m c, e = .returned (.slice A m c) ∧ Bts w1 (.slice A m c) xs ∧ RdAt w1 F g ys ∧ Kp (fun b => b = g) w w1

theorem rd_set {w : World} {F : Nat → Prop} {g k m c : Nat} {A : Option Addr} {xs ys : List UInt8} (h1 : w.heap[g]? = some (.cells #[.slice A m c, .bool false] 75 (0, 0))) (h2 : Bts w (.slice A m c) (xs ++ ys))
    (hk : k = xs.length) (hm : m ≤ c) (h4 : F g) (h5 : ∀ k, (Value.slice A m c).ownBlock = some k → F k ∧ k ≠ g) (A' : Option Addr) (hA' : A' = if c = k then A else A.map (·.add k)) :
    TkPost w F g xs ys (.returned (.slice A k c)) (w.setCell ⟨g, 0, none⟩ (.slice A' (m - k) (c - k))) := by
  subst hA'
  have hl := h2.len
  rw [List.length_append] at hl
  have hkp : Kp (fun b => b = g) w (w.setCell ⟨g, 0, none⟩ (.slice (if c = k then A else A.map (·.add k)) (m - k) (c - k))) := Kp.setCell (S := fun b => b = g) (p := ⟨g, 0, none⟩) rfl _
  have hbk : ∀ j, (Value.slice (if c = k then A else A.map (·.add k)) (m - k) (c - k)).ownBlock = some j → F j ∧ j ≠ g := by
    intro j hj
    apply h5 j
    split at hj
    · rcases A with _ | a <;> exact hj
    · rcases A with _ | a
      · exact hj
      · simpa [Value.ownBlock, blk_add] using hj
  refine ⟨A, k, c, rfl, ?_, ⟨_, _, _, heap_setCell_same w g 0 _ 75 _ h1, ?_, by omega, h4, hbk⟩, hkp⟩
  · have := bts_upto h2 (k := k) (by omega)
    rw [hk, List.take_left, ← hk] at this
    exact this.keep hkp fun j hj e => (h5 j (by rcases A with _ | a <;> exact hj)).2 e
  · have := bts_from h2 (k := k) (by omega) hm
    have e : (xs ++ ys).drop k = ys := by rw [hk, List.drop_left]
    rw [e] at this
    exact this.keep hkp fun j hj e => (hbk j hj).2 e

set_option maxHeartbeats 1000000 in
theorem take_any {w : World} {F : Nat → Prop} {g k : Nat} {xs ys : List UInt8} (h : RdAt w F g (xs ++ ys)) (hk : k = xs.length) (hl : k ≤ 900000000) :
    Calls Try.prog 37 #[.pointer (some ⟨g, 0, none⟩), .int .i64 k] w (TkPost w F g xs ys) := by
  obtain ⟨A, m, c, h1, h2, h3, h4, h5⟩ := h
  have HL := hide h2.len
  have HK := hide hk
  have hkm : k ≤ m := by have := HL.out; rw [List.length_append] at this; omega
  clear hk
  have hc0 : w.cell? ⟨g, 0, none⟩ = some (.slice A m c) := by rw [cell_of_row w g 0 _ _ _ h1]; rfl
  have hf0 : w.frozen? ⟨g, 0, none⟩ = false := frozen_of_row w g 0 _ _ h1
  have H1 := hide h1
  have HS := fun A' hA' => rd_set h1 h2 HK.out h3 h4 h5 A' hA'
  have HS' := hide HS
  clear h1 HS
  have hki : (k : Int) ≤ m := by omega
  have hki2 : ¬ (m : Int) < k := by omega
  have hneg : decide ((k : Int) < 0) = false := by simp
  by_cases hck : c = k
  · subst hck
    have HS2 := HS'.out A (by simp)
    have hmc : m - c = 0 := by omega
    rw [Nat.sub_self, hmc] at HS2
    clear hmc
    have HS3 := hide HS2
    clear HS2
    go_enter Try.func37, Try.ntmps37
    go_wp2
    go_ret
    exact HS3.out
  · go_enter Try.func37, Try.ntmps37
    go_wp2
    go_ret
    exact HS'.out _ (by rw [if_neg hck])

/-- The number that bytes are, the least first. -/
def ofB : List UInt8 → Nat
  | [] => 0
  | b :: l => b.toNat + 256 * ofB l
theorem ofB_snoc (l : List UInt8) (b : UInt8) : ofB (l ++ [b]) = ofB l + b.toNat * 2 ^ (8 * l.length) := by
  induction l with
  | nil => simp [ofB]
  | cons a l ih =>
    simp only [List.cons_append, ofB, ih, List.length_cons]
    rw [show 8 * (l.length + 1) = 8 * l.length + 8 by omega, Nat.pow_add]
    rw [Nat.mul_add]
    have : 256 * (b.toNat * 2 ^ (8 * l.length)) = b.toNat * (2 ^ (8 * l.length) * 2 ^ 8) := by
      rw [Nat.mul_comm 256, Nat.mul_assoc]
    omega
theorem ofB_lt (l : List UInt8) : ofB l < 2 ^ (8 * l.length) := by
  induction l with
  | nil => simp [ofB]
  | cons a l ih =>
    simp only [ofB, List.length_cons]
    rw [show 8 * (l.length + 1) = 8 * l.length + 8 by omega, Nat.pow_add]
    have := a.toNat_lt
    omega
theorem ofB_numB (x k : Nat) : ofB (numB x k) = x % 2 ^ (8 * k) := by
  induction k with
  | zero => simp [numB, ofB, Nat.mod_one]
  | succ k ih =>
    rw [numB_succ, ofB_snoc, ih, numB_length, UInt8.toNat_ofNat']
    rw [show 8 * (k + 1) = 8 * k + 8 by omega, Nat.pow_add, Nat.mod_mul, Nat.mul_comm (x / 2 ^ (8 * k) % 2 ^ 8)]

theorem or_shift (a b j : Nat) (ha : a < 2 ^ (8 * j)) (hb : b < 256) (hj : j < 8) :
    bits .or .u64 (a : Int) (IntKind.u64.wrap ((b : Int) * 2 ^ (8 * j))) = ((a + b * 2 ^ (8 * j) : Nat) : Int) := by
  have hp : 2 ^ (8 * j) ≤ 2 ^ 56 := Nat.pow_le_pow_right (by omega) (by omega)
  have hm : b * 2 ^ (8 * j) ≤ 255 * 2 ^ 56 := Nat.mul_le_mul (by omega) hp
  have e : ((b : Int) * 2 ^ (8 * j)) = ((b * 2 ^ (8 * j) : Nat) : Int) := by simp
  rw [e, IntWalk.u64_in _ ⟨by omega, by omega⟩, u64_or_nat _ _ (by omega) (by omega)]
  congr 1
  have h := Nat.shiftLeft_add_eq_or_of_lt ha b
  rw [Nat.shiftLeft_eq] at h
  rw [Nat.or_comm, ← h, Nat.add_comm]

/-- What reading a number comes to. -/
def NmPost (w : World) (F : Nat → Prop) (g : Nat) (x : Nat) (ys : List UInt8) (e : Ending) (w1 : World) : Prop :=
  e = .returned (.int .u64 x) ∧ RdAt w1 F g ys ∧ Kp (fun b => b = g) w w1

set_option maxHeartbeats 1000000 in
theorem rdnum_any {w : World} {F : Nat → Prop} {g : Nat} {xs ys : List UInt8} (k : Nat) (hk : k = xs.length) (hk8 : k ≤ 8) (h : RdAt w F g (xs ++ ys)) :
    Calls Try.prog 21 #[.pointer (some ⟨g, 0, none⟩), .int .i64 k] w (NmPost w F g (ofB xs) ys) := by
  have HK := hide hk
  clear hk
  go_enter Try.func21, Try.ntmps21
  go_wp2_with fail
  refine (take_any h HK.out (by omega)).mono ?_
  rintro e w1 ⟨A, m, c, rfl, hb, hr, hkp⟩
  have hm : m ≤ 8 := by have := hb.len; have := HK.out; omega
  have HM := hide hb.len
  go_wp2_with fail
  go_loop [5, 14] (fun s i => ∃ j : Nat, j ≤ m ∧ i = .int .i64 (j : Int) ∧ s = .int .u64 ((ofB (xs.take j) : Nat) : Int)) (fun _ i => m - (intOf i).toNat)
  case atStart => exact ⟨0, by omega, rfl, rfl⟩
  case round =>
    obtain ⟨j, hj, rfl, rfl⟩ := hrel
    by_cases hlt : j < m
    · obtain ⟨B, off, b, hA, hb', hcell⟩ := hb.at_ hlt
      have HB := hide hb'
      clear hb'
      subst hA
      have hbl := b.toNat_lt
      have hji : (j : Int) < m := by omega
      have hlen : (xs.take j).length = j := by rw [List.length_take]; have := HM.out; omega
      have ht : ofB (xs.take (j + 1)) = ofB (xs.take j) + b.toNat * 2 ^ (8 * j) := by
        have hj' := (List.getElem?_eq_some_iff.1 HB.out).1
        rw [List.take_succ_eq_append_getElem hj', ofB_snoc, hlen, (List.getElem?_eq_some_iff.1 HB.out).2]
      have hof : ofB (xs.take j) < 2 ^ (8 * j) := by have := ofB_lt (xs.take j); rwa [hlen] at this
      have HT := hide ht
      have HO := hide hof
      clear ht hof hlen
      go_wp2
      go_round
      case rel => exact ⟨j + 1, by omega, by go_num, by rw [or_shift _ _ j HO.out hbl (by omega), HT.out]⟩
      case measure => simp [intOf]; omega
    · have hji : ¬ (j : Int) < m := by omega
      have hjm : j = m := by omega
      subst hjm
      go_wp2
      go_ret
      have e : xs.take j = xs := List.take_of_length_le (by have := HM.out; omega)
      rw [e]
      exact ⟨rfl, hr, hkp⟩
end Go.Proofs.Ytkpongkojkhboaa
