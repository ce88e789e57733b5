/- Package site's points, and the document's, as contracts. -/
import Derived.Test.YthbnomemknnmeaaFlm
import Derived.Test.YthbnomemknnmeaaBase
import Derived.BigQuiet
namespace Go.Proofs.Ythbnomemknnmeaa
open Go.RowKit
set_option linter.unusedVariables false
set_option linter.unusedSimpArgs false
set_option maxRecDepth 100000

/-- A point may have this part. -/
abbrev Alw (x : Int) : Prop := -1048576 ≤ x ∧ x ≤ 1048576
/-- The document's point. -/
abbrev rpV (x y : Int) : Value := .agg #[.int .i64 x, .int .i64 y]
/-- The square of the distance. -/
def farZ (x y z t : Int) : Int := (x - z) * (x - z) + (y - t) * (y - t)
/-- Both parts of a turned point. -/
def trX (n : Nat) (x y : Int) : Int := if n = 0 then x else if n = 1 then -y else if n = 2 then -x else y
def trY (n : Nat) (x y : Int) : Int := if n = 0 then y else if n = 1 then x else if n = 2 then -y else -x
theorem sq_le {x B : Int} (h : -B ≤ x) (h2 : x ≤ B) : 0 ≤ x * x ∧ x * x ≤ B * B := by
  constructor
  · rcases Int.le_total 0 x with g | g
    · exact Int.mul_nonneg g g
    · exact Int.mul_nonneg_of_nonpos_of_nonpos g g
  · have := Int.mul_nonneg (show 0 ≤ B - x by omega) (show 0 ≤ B + x by omega)
    have e : (B - x) * (B + x) = B * B - x * x := by rw [Int.sub_mul, Int.mul_add, Int.mul_add, Int.mul_comm x B]; omega
    omega
theorem far_bnd {x y z t : Int} (h1 : Alw x) (h2 : Alw y) (h3 : Alw z) (h4 : Alw t) : 0 ≤ farZ x y z t ∧ farZ x y z t ≤ 8796093022208 := by
  unfold Alw at *
  have a := sq_le (x := x - z) (B := 2097152) (by omega) (by omega)
  have b := sq_le (x := y - t) (B := 2097152) (by omega) (by omega)
  unfold farZ
  omega
section
variable (w : World)
theorem allowed_yes (x : Int) (h : Alw x) : Calls Try.prog 21 #[.int .i64 x] w fun e w' => e = .returned (.bool true) ∧ w = w' := by
  obtain ⟨h1, h2⟩ := h
  go_enter Try.func21, Try.ntmps21
  go_wp2
  go_ret
  exact ⟨rfl, rfl⟩
theorem allowed_no (x : Int) (h : ¬ Alw x) : Calls Try.prog 21 #[.int .i64 x] w fun e w' => e = .returned (.bool false) ∧ w = w' := by
  unfold Alw at h
  by_cases h1 : -1048576 ≤ x
  · have h2 : ¬ x ≤ 1048576 := by omega
    clear h
    go_enter Try.func21, Try.ntmps21
    go_wp2
    go_ret
    exact ⟨rfl, rfl⟩
  · clear h
    go_enter Try.func21, Try.ntmps21
    go_wp2
    go_ret
    exact ⟨rfl, rfl⟩
theorem at_no (x y : Int) (h : ¬ (Alw x ∧ Alw y)) : Calls Try.prog 6 #[.int .i64 x, .int .i64 y] w fun e w' => e = .returned (.tuple #[.complex .f64 0 0, .int .i64 1]) ∧ w = w' := by
  by_cases h1 : Alw x
  · have h2 := allowed_no w y fun g => h ⟨h1, g⟩
    have h1 := allowed_yes w x h1
    clear h
    go_enter Try.func6, Try.ntmps6
    go_wp2_with fail
    refine h1.mono ?_
    rintro e w' ⟨rfl, rfl⟩
    go_wp2_with fail
    refine h2.mono ?_
    rintro e w' ⟨rfl, rfl⟩
    go_wp2_with fail
    go_ret2
    exact ⟨rfl, rfl⟩
  · have h1 := allowed_no w x h1
    clear h
    go_enter Try.func6, Try.ntmps6
    go_wp2_with fail
    refine h1.mono ?_
    rintro e w' ⟨rfl, rfl⟩
    go_wp2_with fail
    go_ret2
    exact ⟨rfl, rfl⟩
theorem at_yes (x y : Int) (hx : Alw x) (hy : Alw y) : Calls Try.prog 6 #[.int .i64 x, .int .i64 y] w fun e w' => e = .returned (.tuple #[.complex .f64 (floatOfInt .f64 x) (floatOfInt .f64 y), .int .i64 0]) ∧ w = w' := by
  have h2 := allowed_yes w y hy
  have h1 := allowed_yes w x hx
  clear hx hy
  have c1 : ∀ w, (convert 3 50 (.int .i64 x)).run Try.prog w = .ok (.float .f64 (floatOfInt .f64 x)) w := fun w => run_convert_int_float w _ _ _ _ _ (by rw [Try.underlying3]; rfl) Try.underlying50
  have c2 : ∀ w, (convert 3 50 (.int .i64 y)).run Try.prog w = .ok (.float .f64 (floatOfInt .f64 y)) w := fun w => run_convert_int_float w _ _ _ _ _ (by rw [Try.underlying3]; rfl) Try.underlying50
  go_enter Try.func6, Try.ntmps6
  go_wp2_with fail
  refine h1.mono ?_
  rintro e w' ⟨rfl, rfl⟩
  go_wp2_with fail
  refine h2.mono ?_
  rintro e w' ⟨rfl, rfl⟩
  go_wp2_with fail
  go_ret2
  exact ⟨rfl, rfl⟩
theorem Fl.at_ {x : Int} (h : Alw x) : Fl (floatOfInt .f64 x) x := Fl.ofInt (by unfold Alw at h; omega)
end
section
variable {a b c d : Nat} {x y z t : Int}
theorem parts_any (w : World) (ha : Fl a x) (hb : Fl b y) : Calls Try.prog 22 #[.complex .f64 a b] w fun e w' => e = .returned (.tuple #[.int .i64 x, .int .i64 y]) ∧ w = w' := by
  have c1 : ∀ w, (convert 50 3 (.float .f64 a)).run Try.prog w = .ok (.int .i64 x) w := fun w => run_convert_float_int w _ _ _ _ _ _ (by rw [Try.underlying50]; rfl) Try.underlying3 ha.toInt
  have c2 : ∀ w, (convert 50 3 (.float .f64 b)).run Try.prog w = .ok (.int .i64 y) w := fun w => run_convert_float_int w _ _ _ _ _ _ (by rw [Try.underlying50]; rfl) Try.underlying3 hb.toInt
  clear ha hb
  go_enter Try.func22, Try.ntmps22
  go_wp2_with fail
  go_ret2
  exact ⟨rfl, rfl⟩
theorem far_any (w : World) (ha : Fl a x) (hb : Fl b y) (hc : Fl c z) (hd : Fl d t) (h1 : -2000000000 ≤ x - z ∧ x - z ≤ 2000000000) (h2 : -2000000000 ≤ y - t ∧ y - t ≤ 2000000000) :
    Calls Try.prog 10 #[.complex .f64 a b, .complex .f64 c d] w fun e w' => e = .returned (.int .i64 (farZ x y z t)) ∧ w = w' := by
  obtain ⟨re, im, h, f1, f2⟩ := ha.cdiff hb hc hd (by omega) (by omega)
  have hop := fun t w => run_complex_sum (P := Try.prog) w .sub (Or.inr rfl) t .f64 a b c d re im h
  have hp := fun w => parts_any w f1 f2
  have e : Hid ((x - z) * (x - z) + (y - t) * (y - t) = farZ x y z t) := rfl
  generalize x - z = p at hp h1 e
  generalize y - t = q at hp h2 e
  have b1 := sq_le (B := 2000000000) h1.1 h1.2
  have b2 := sq_le (B := 2000000000) h2.1 h2.2
  have m1 : IntKind.i64.wrap (p * p) = p * p := by rw [IntKind.wrap_i64]; omega
  have m2 : IntKind.i64.wrap (q * q) = q * q := by rw [IntKind.wrap_i64]; omega
  have m3 : IntKind.i64.wrap (p * p + q * q) = p * p + q * q := by rw [IntKind.wrap_i64]; omega
  have HP := hide hp
  clear ha hb hc hd h f1 f2 h1 h2 hp b1 b2
  go_enter Try.func10, Try.ntmps10
  go_wp2_with (simp only [hop])
  refine (HP.out _).mono ?_
  rintro e' w' ⟨rfl, rfl⟩
  go_wp2_with fail
  go_ret
  exact ⟨ret_i64 e.out, rfl⟩
end
end Go.Proofs.Ythbnomemknnmeaa
