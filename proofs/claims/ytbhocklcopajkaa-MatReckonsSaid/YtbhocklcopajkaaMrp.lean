/- MatReckons: the product and the sum of any two matrices, or that they don't fit, one turned, and any rows picked. -/
import Derived.Test.YtbhocklcopajkaaMsw
import Derived.Test.YtbhocklcopajkaaMtw
namespace Go.Proofs.Ytbhocklcopajkaa
open Go.RowKit
set_option linter.unusedVariables false
set_option linter.unusedSimpArgs false

/-- What the loop over the numbers keeps: while ok, so many rows are picked; else one of the numbers is no row's. -/
structure PW (w : World) (r c : Nat) (f : Nat → Nat → UInt8) (zs : List Int) (k : Nat) (ok : Bool) (v : Value) (vs : List Value) (wr : World) : Prop where
  yes : ok = true → (∀ (j : Nat) z, j < k → zs[j]? = some z → 0 ≤ z ∧ z < r) ∧ PInv w c f zs k v vs wr
  no : ok = false → ∃ (q : Nat) (z : Int), zs[q]? = some z ∧ (z < 0 ∨ (r : Int) ≤ z)
  kp : Kp No w wr
theorem row_of_rect {bss : List (List UInt8)} {n c : Nat} (hR : Rect bss n c) {i : Nat} {bs : List UInt8} (h : bss[i]? = some bs) : rowL c (fnL bss i) = bs := by
  have hl := hR.row i bs h
  rw [show fnL bss i = lg bs from funext fun k => fnL_of h k, ← hl, rowL_lg]
theorem kept2' {W w1 : World} {p q : Addr} {x0 x1 : Value} (hk : Kp No W w1) (h : W.cell? p = some x0 ∧ W.cell? q = some x1) : w1.cell? p = some x0 ∧ w1.cell? q = some x1 := kept2 hk h

section
variable {w : World} {A1 A2 A3 : Option Addr} {n1 n2 n3 c1 c2 p1 p2 p3 : Nat} {l1 l2 : List (List UInt8)} {zs : List Int}

set_option maxHeartbeats 16000000 in
set_option maxRecDepth 100000 in
theorem reck_not1 (h1 : Rws w A1 n1 l1) (hS : ¬ Sml l1 n1 (len0 l1)) : Calls Try.prog 5 #[.slice A1 n1 p1, .slice A2 n2 p2, .slice A3 n3 p3] w (TBel w) := by
  go_enter Try.func5, Try.ntmps5
  go_wp2_with fail
  refine (small_no h1 hS).mono ?_
  rintro e w1 ⟨rfl, hs1⟩
  go_wp2_with fail
  refine (awake_any _).mono ?_
  rintro e w99 ⟨rfl, hk⟩
  go_wp2_with fail
  go_ret
  exact ⟨rfl, (hs1.kp.trans' hk).below0⟩

set_option maxHeartbeats 16000000 in
set_option maxRecDepth 100000 in
theorem reck_not2 (h1 : Rws w A1 n1 l1) (hS1 : Sml l1 n1 c1) (h2 : Rws w A2 n2 l2) (hS : ¬ Sml l2 n2 (len0 l2)) : Calls Try.prog 5 #[.slice A1 n1 p1, .slice A2 n2 p2, .slice A3 n3 p3] w (TBel w) := by
  go_enter Try.func5, Try.ntmps5
  go_wp2_with fail
  refine (small_yes h1 hS1).mono ?_
  rintro e w1 ⟨rfl, hs1⟩
  go_wp2_with fail
  refine (small_no (h2.no hs1.kp) hS).mono ?_
  rintro e w2 ⟨rfl, hs2⟩
  go_wp2_with fail
  refine (awake_any _).mono ?_
  rintro e w99 ⟨rfl, hk⟩
  go_wp2_with fail
  go_ret
  exact ⟨rfl, ((hs1.trans hs2).kp.trans' hk).below0⟩

set_option maxHeartbeats 16000000 in
set_option maxRecDepth 100000 in
theorem reck_not3 (h1 : Rws w A1 n1 l1) (hS1 : Sml l1 n1 c1) (h2 : Rws w A2 n2 l2) (hS2 : Sml l2 n2 c2) (h80 : 80 < n3) : Calls Try.prog 5 #[.slice A1 n1 p1, .slice A2 n2 p2, .slice A3 n3 p3] w (TBel w) := by
  go_enter Try.func5, Try.ntmps5
  go_wp2_with fail
  refine (small_yes h1 hS1).mono ?_
  rintro e w1 ⟨rfl, hs1⟩
  go_wp2_with fail
  refine (small_yes (h2.no hs1.kp) hS2).mono ?_
  rintro e w2 ⟨rfl, hs2⟩
  go_wp2_with fail
  refine (awake_any _).mono ?_
  rintro e w99 ⟨rfl, hk⟩
  go_wp2_with fail
  go_ret
  exact ⟨rfl, ((hs1.trans hs2).kp.trans' hk).below0⟩
end
end Go.Proofs.Ytbhocklcopajkaa
