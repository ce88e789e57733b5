/- Package mat's At, Set, Row, Copy, Same and Dot, each as a contract over memory. -/
import Derived.Test.YtbkelijmdpoanaaMt
import Derived.Deep.RegionHeld3
import Derived.Deep.QuietTactic
namespace Go.Proofs.Ytbkelijmdpoanaa
open Go.RowKit
set_option linter.unusedVariables false

section
variable {w : World} {m : MB} {r c : Nat} {f : Nat → Nat → UInt8}

/-- No slice comes back. -/
def NoRow (w : World) (e : Ending) (w1 : World) : Prop := e = .returned (.slice none 0 0) ∧ Sm w w1
theorem row_out (h : MatAt w m r c f) (i : Int) (hi : i < 0 ∨ (r : Int) ≤ i) : Calls Try.prog 54 #[m.ptr, .int .i64 i] w (NoRow w) := by
  by_cases h1 : i < 0
  · clear hi
    go_enter Try.func54, Try.ntmps54
    go_wp2_with fail
    refine (size_any h).mono ?_
    rintro e w1 ⟨rfl, hs⟩
    go_wp2_with fail
    go_ret
    exact ⟨rfl, hs⟩
  · have h2 : (r : Int) ≤ i := by omega
    clear hi
    go_enter Try.func54, Try.ntmps54
    go_wp2_with fail
    refine (size_any h).mono ?_
    rintro e w1 ⟨rfl, hs⟩
    go_wp2_with fail
    go_ret
    exact ⟨rfl, hs⟩
theorem row_nil (w : World) (i : Int) : Calls Try.prog 54 #[.pointer none, .int .i64 i] w (NoRow w) := by
  by_cases h1 : i < 0
  · go_enter Try.func54, Try.ntmps54
    go_wp2_with fail
    refine (size_nil w).mono ?_
    rintro e w1 ⟨rfl, rfl⟩
    go_wp2_with fail
    go_ret
    exact ⟨rfl, Sm.refl _⟩
  · have h2 : 0 ≤ i := by omega
    go_enter Try.func54, Try.ntmps54
    go_wp2_with fail
    refine (size_nil w).mono ?_
    rintro e w1 ⟨rfl, rfl⟩
    go_wp2_with fail
    go_ret
    exact ⟨rfl, Sm.refl _⟩

/-- An element is set. -/
def SetPost (w : World) (m : MB) (r c : Nat) (f : Nat → Nat → UInt8) (e : Ending) (w1 : World) : Prop := e = .returned (.int .i64 0) ∧ MatAt w1 m r c f ∧ Kp (fun k => k = m.b) w w1
theorem OwnPost.of_sm {w w1 w2 : World} {bs : List UInt8} {e : Ending} (hs : Sm w w1) (h : OwnPost w1 bs e w2) : OwnPost w bs e w2 := by
  obtain ⟨A, n, c, rfl, ho, hk⟩ := h
  exact ⟨A, n, c, rfl, by rw [← hs.size]; exact ho, hs.kp.trans' hk⟩
theorem rowc_in (h : MatAt w m r c f) (i : Nat) (hi : i < r) : Calls Try.prog 44 #[m.ptr, .int .i64 (i : Int)] w (OwnPost w (rowL c (f i))) := by
  have hc2 := h.c2
  go_enter Try.func44, Try.ntmps44
  go_wp2_with fail
  refine (row_any h i hi).mono ?_
  rintro e w1 ⟨o, cp, rfl, ho, hcp, hs⟩
  have hb := (h.sm hs).bts hi ho cp
  clear ho
  go_wp2_with fail
  refine (clone_any hb (by rw [rowL_len]; omega)).mono ?_
  rintro e w2 hp
  obtain ⟨A1, n1, c1, rfl, ho1, hk1⟩ := hp
  go_wp2_with fail
  go_ret
  exact OwnPost.of_sm hs ⟨A1, n1, c1, rfl, ho1, hk1⟩
theorem rowc_nil (w : World) : Calls Try.prog 44 #[.pointer none, .int .i64 0] w (OwnPost w []) := by
  go_enter Try.func44, Try.ntmps44
  go_wp2_with fail
  refine (row_nil w 0).mono ?_
  rintro e w1 ⟨rfl, hs⟩
  go_wp2_with fail
  refine (clone_any (Bts.nil w1) (by simp)).mono ?_
  rintro e w2 hp
  obtain ⟨A1, n1, c1, rfl, ho1, hk1⟩ := hp
  go_wp2_with fail
  go_ret
  exact OwnPost.of_sm hs ⟨A1, n1, c1, rfl, ho1, hk1⟩

/-- A new matrix comes back. -/
def PtrPost (w : World) (r c : Nat) (f : Nat → Nat → UInt8) (e : Ending) (w1 : World) : Prop :=
  ∃ m : MB, e = .returned m.ptr ∧ MatAt w1 m r c f ∧ w.heap.size ≤ m.g ∧ w.heap.size ≤ m.b ∧ Kp No w w1
theorem MatAt.of_own {w : World} {A : Option Addr} {n cp base g : Nat} {r c : Nat} {f : Nat → Nat → UInt8} (ho : Own w base 5 (.slice A n cp) (allL r c f)) (r1 : 1 ≤ r) (r2 : r ≤ 64) (c1 : 1 ≤ c) (c2 : c ≤ 64)
    (hg : w.heap[g]? = some (.cells #[.int .i64 (r : Int), .int .i64 (c : Int), .slice A n cp] 83 (0, 0))) : ∃ b, base ≤ b ∧ A = some ⟨b, 0, none⟩ ∧ MatAt w ⟨g, b, n, cp⟩ r c f := by
  have hn := ho.len
  rw [allL_len] at hn
  have hpos : 0 < r * c := Nat.mul_pos r1 c1
  rcases ho.2 with ⟨e, hz⟩ | ⟨b, cap, cur, e, hb, hh, hle, hmx, hsz, htk⟩
  · rw [allL_len] at hz
    omega
  · rw [allL_len] at e hle htk
    injection e with e1 e2 e3
    subst e1 e3
    refine ⟨b, hb, rfl, hg, ⟨cur, hh, by rw [hsz, Nat.mul_one], fun i k hi hk => ?_⟩, hn, r1, r2, c1, c2, (by show n ≤ cp; omega), hmx⟩
    have hj := idx_lt hi hk
    have h2 : (cur.toList.take (r * c * 1))[i * c + k]? = ((allL r c f).map bv)[i * c + k]? := by rw [htk]
    rw [List.getElem?_take, if_pos (by omega), Array.getElem?_toList, List.getElem?_map, allL_get f hj] at h2
    rw [h2]
    have e1 : (i * c + k) / c = i := by rw [Nat.mul_comm, Nat.mul_add_div (by omega), Nat.div_eq_of_lt hk, Nat.add_zero]
    have e2 : (i * c + k) % c = k := by rw [Nat.mul_comm, Nat.mul_add_mod, Nat.mod_eq_of_lt hk]
    rw [e1, e2]
    rfl

theorem kept3 {W w1 : World} {b : Nat} {x0 x1 x2 : Value} (hk : Kp No W w1)
    (h : W.cell? ⟨b, 0, none⟩ = some x0 ∧ W.cell? ⟨b, 1, none⟩ = some x1 ∧ W.cell? ⟨b, 2, none⟩ = some x2) :
    w1.cell? ⟨b, 0, none⟩ = some x0 ∧ w1.cell? ⟨b, 1, none⟩ = some x1 ∧ w1.cell? ⟨b, 2, none⟩ = some x2 :=
  ⟨hk.cell h.1 fun f => f, hk.cell h.2.1 fun f => f, hk.cell h.2.2 fun f => f⟩

theorem conv_bts {w : World} {v : Value} {bs : List UInt8} (h : Bts w v bs) : (convert 29 9 v).run Try.prog w = .ok (.string (strOf bs)) w := h.str 29 9 5 Try.underlying29 Try.underlying5 Try.underlying9
/-- Are the bytes alike? -/
def eqB (a b : List UInt8) : Bool := decide (a = b)
theorem eqB_str (a b : List UInt8) : ((strOf a).toList == (strOf b).toList) = eqB a b := by
  rw [Bool.eq_iff_iff, beq_iff_eq, ByteArray.toList_eq, ByteArray.toList_eq]
  unfold eqB
  rw [decide_eq_true_iff]
  exact Iff.rfl
/-- Are the sizes alike? -/
def szB (r c r' c' : Nat) : Bool := decide (r = r' ∧ c = c')
end
end Go.Proofs.Ytbkelijmdpoanaa
