/- The document's answers for matrices that only read (Right, Same, At, Dot), and the laws' small and awake, each as a contract over memory. -/
import Derived.Test.YtllcmblkjcppnaaMo
import Derived.Test.YtllcmblkjcppnaaGfr
namespace Go.Proofs.Ytllcmblkjcppnaa
open Go.RowKit
set_option linter.unusedVariables false

section
variable {w : World} {A : Option Addr} {n c cp : Nat} {bss : List (List UInt8)}

/-- Are the rows alike? -/
def eqR (a b : List (List UInt8)) : Bool := decide (a = b)
theorem eqR_diff {a b : List (List UInt8)} {k : Nat} {x y : List UInt8} (ha : a[k]? = some x) (hb : b[k]? = some y) (h : eqB x y = false) : eqR a b = false := by
  unfold eqR
  rw [decide_eq_false_iff_not]
  rintro rfl
  rw [ha] at hb
  injection hb with hb
  subst hb
  simp [eqB] at h
theorem take_snoc {a b : List (List UInt8)} {k : Nat} {x y : List UInt8} (ht : a.take k = b.take k) (ha : a[k]? = some x) (hb : b[k]? = some y) (h : eqB x y = true) : a.take (k + 1) = b.take (k + 1) := by
  have : x = y := by simpa [eqB] using h
  subst this
  rw [List.take_add_one, List.take_add_one, ht, ha, hb]

end

theorem refmulU_any (a b : UInt8) (w : World) : Calls Try.prog 34 #[.int .u8 (a.toNat : Int), .int .u8 (b.toNat : Int)] w fun e w' => e = .returned (.int .u8 ((um a b).toNat : Int)) ∧ w = w' := by
  rw [um_nat]
  exact refmul_any a.toNat b.toNat w (u8_lt a) (u8_lt b)
theorem refmulU_q (w : World) (n : Nat) (a b : UInt8) : Calls Try.prog 34 #[.int .u8 (a.toNat : Int), .int .u8 (b.toNat : Int)] (w.drewN n) fun e w' => e = .returned (.int .u8 ((um a b).toNat : Int)) ∧ ∃ k, w' = w.drewN k :=
  (refmulU_any a b _).mono fun _ _ ⟨he, hw⟩ => ⟨he, n, hw.symm⟩
theorem xorU (a b : UInt8) : bits .xor .u8 (a.toNat : Int) (b.toNat : Int) = ((ux a b).toNat : Int) := by
  rw [ux_toNat]
  exact u8_xor_nat a.toNat b.toNat (u8_lt a) (u8_lt b)

section
variable {w : World} {A : Option Addr} {n c cp : Nat} {bss : List (List UInt8)}
/-- A matrix of few elements. -/
structure Sml (bss : List (List UInt8)) (r c : Nat) : Prop where
  rect : Rect bss r c
  r9 : r ≤ 9
  c9 : c ≤ 9
end

theorem bts_two (w : World) (x y : UInt8) : Bts (w.alloc (.cells #[bv x, bv y] 5)) (.slice (some ⟨w.heap.size, 0, none⟩) 2 2) [x, y] := by
  refine ⟨_, 2, rfl, (fun h => by cases h), fun ad ha j u hu => ?_⟩
  injection ha with ha
  subst ha
  match j, hu with
  | 0, hu =>
    simp at hu
    subst hu
    simp [Addr.add]
  | 1, hu =>
    simp at hu
    subst hu
    simp [Addr.add]
  | j + 2, hu => simp at hu

end Go.Proofs.Ytllcmblkjcppnaa
