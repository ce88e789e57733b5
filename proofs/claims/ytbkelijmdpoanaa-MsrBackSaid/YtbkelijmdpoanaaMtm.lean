/- Bytes as the field's elements, sums of products, and matrices as functions, in plain words. No condition. -/
import Derived.Test.YtbkelijmdpoanaaGfm
namespace Go.Proofs.Ytbkelijmdpoanaa
set_option linter.unusedVariables false

/-- The product of two bytes. -/
def um (a b : UInt8) : UInt8 := UInt8.ofNat (gmul a.toNat b.toNat)
theorem u8_lt (a : UInt8) : a.toNat < 256 := a.toNat_lt
theorem um_nat (a b : UInt8) : (um a b).toNat = gmul a.toNat b.toNat := by
  unfold um
  rw [UInt8.toNat_ofNat', Nat.mod_eq_of_lt (gmul_lt (u8_lt a) _)]
theorem ux_nat (a b : UInt8) : (a ^^^ b).toNat = a.toNat ^^^ b.toNat := UInt8.toNat_xor a b
theorem u8_ext {a b : UInt8} (h : a.toNat = b.toNat) : a = b := UInt8.toNat_inj.1 h
theorem um_comm (a b : UInt8) : um a b = um b a := u8_ext (by rw [um_nat, um_nat, gmul_comm (u8_lt a) (u8_lt b)])
theorem um_assoc (a b c : UInt8) : um (um a b) c = um a (um b c) := u8_ext (by simp only [um_nat]; exact gmul_assoc (u8_lt a) (u8_lt b) (u8_lt c))
theorem um_xor_left (a b c : UInt8) : um (a ^^^ b) c = um a c ^^^ um b c := u8_ext (by simp only [um_nat, ux_nat, gmul_xor_left])
theorem um_xor_right (a b c : UInt8) : um a (b ^^^ c) = um a b ^^^ um a c := u8_ext (by simp only [um_nat, ux_nat, gmul_xor_right])
theorem zero_um (a : UInt8) : um 0 a = 0 := u8_ext (by rw [um_nat]; exact zero_gmul _)
theorem um_zero (a : UInt8) : um a 0 = 0 := u8_ext (by rw [um_nat]; exact gmul_zero _)
theorem one_um (a : UInt8) : um 1 a = a := u8_ext (by rw [um_nat]; exact one_gmul (u8_lt a))
theorem um_one (a : UInt8) : um a 1 = a := by rw [um_comm, one_um]
theorem ux_self (a : UInt8) : a ^^^ a = 0 := UInt8.xor_self
theorem ux_zero (a : UInt8) : a ^^^ 0 = a := UInt8.xor_zero
theorem zero_ux (a : UInt8) : 0 ^^^ a = a := UInt8.zero_xor
theorem ux_comm (a b : UInt8) : a ^^^ b = b ^^^ a := UInt8.xor_comm a b
theorem ux_assoc (a b c : UInt8) : a ^^^ b ^^^ c = a ^^^ (b ^^^ c) := UInt8.xor_assoc a b c
theorem ux4 (a b c d : UInt8) : a ^^^ b ^^^ (c ^^^ d) = a ^^^ c ^^^ (b ^^^ d) := by
  rw [ux_assoc, ux_assoc, ← ux_assoc b, ← ux_assoc c, ux_comm b c]

/-- The sum of the first n. -/
def us (s : Nat → UInt8) : Nat → UInt8
  | 0 => 0
  | n + 1 => us s n ^^^ s n
/-- The sum of products. -/
def ud (f g : Nat → UInt8) (n : Nat) : UInt8 := us (fun j => um (f j) (g j)) n
theorem ud_zero (f g : Nat → UInt8) : ud f g 0 = 0 := rfl
theorem ud_succ (f g : Nat → UInt8) (n : Nat) : ud f g (n + 1) = ud f g n ^^^ um (f n) (g n) := rfl
theorem us_congr {s t : Nat → UInt8} : ∀ {n : Nat}, (∀ j, j < n → s j = t j) → us s n = us t n
  | 0, _ => rfl
  | n + 1, h => by rw [us, us, us_congr fun j hj => h j (by omega), h n (by omega)]
theorem ud_congr {f g f' g' : Nat → UInt8} {n : Nat} (hf : ∀ j, j < n → f j = f' j) (hg : ∀ j, j < n → g j = g' j) : ud f g n = ud f' g' n :=
  us_congr fun j hj => by rw [hf j hj, hg j hj]
theorem us_zero (n : Nat) : us (fun _ => 0) n = 0 := by
  induction n with
  | zero => rfl
  | succ n ih => rw [us, ih, ux_zero]
theorem us_xor (s t : Nat → UInt8) (n : Nat) : us (fun j => s j ^^^ t j) n = us s n ^^^ us t n := by
  induction n with
  | zero => exact (ux_self 0).symm
  | succ n ih => rw [us, us, us, ih, ux4]
theorem us_um (s : Nat → UInt8) (x : UInt8) (n : Nat) : um (us s n) x = us (fun j => um (s j) x) n := by
  induction n with
  | zero => exact zero_um x
  | succ n ih => rw [us, us, um_xor_left, ih]
theorem um_us (s : Nat → UInt8) (x : UInt8) (n : Nat) : um x (us s n) = us (fun j => um x (s j)) n := by
  rw [um_comm, us_um]
  exact us_congr fun j _ => um_comm _ _
theorem us_swap (t : Nat → Nat → UInt8) (m n : Nat) : us (fun i => us (fun j => t i j) n) m = us (fun j => us (fun i => t i j) m) n := by
  induction m with
  | zero => exact (us_zero n).symm
  | succ m ih =>
    show us (fun i => us (fun j => t i j) n) m ^^^ us (fun j => t m j) n = us (fun j => us (fun i => t i j) m ^^^ t m j) n
    rw [us_xor, ih]
theorem ud_comm (f g : Nat → UInt8) (n : Nat) : ud f g n = ud g f n := us_congr fun j _ => um_comm _ _
/-- Products may be taken together in any way. -/
theorem ud_assoc (f : Nat → UInt8) (g : Nat → Nat → UInt8) (h : Nat → UInt8) (m n : Nat) :
    ud (fun j => ud f (fun l => g l j) n) h m = ud f (fun l => ud (g l) h m) n := by
  unfold ud
  rw [us_congr (n := m) (t := fun j => us (fun l => um (f l) (um (g l j) (h j))) n) fun j _ => by rw [us_um]; exact us_congr fun l _ => um_assoc _ _ _]
  rw [us_swap]
  exact us_congr fun l _ => by rw [um_us]

/-- A matrix's product, turned, the matrix of ones on the diagonal. -/
def mulF (n : Nat) (f g : Nat → Nat → UInt8) (i k : Nat) : UInt8 := ud (f i) (fun j => g j k) n
def turnF (f : Nat → Nat → UInt8) (i k : Nat) : UInt8 := f k i
def oneF (i k : Nat) : UInt8 := if i = k then 1 else 0
def addF (f g : Nat → Nat → UInt8) (i k : Nat) : UInt8 := f i k ^^^ g i k
/-- Alike where there are elements. -/
def EqF (r c : Nat) (f g : Nat → Nat → UInt8) : Prop := ∀ i k, i < r → k < c → f i k = g i k
theorem EqF.refl (r c : Nat) (f : Nat → Nat → UInt8) : EqF r c f f := fun _ _ _ _ => rfl
theorem EqF.symm {r c : Nat} {f g : Nat → Nat → UInt8} (h : EqF r c f g) : EqF r c g f := fun i k hi hk => (h i k hi hk).symm
theorem EqF.trans {r c : Nat} {f g h : Nat → Nat → UInt8} (h1 : EqF r c f g) (h2 : EqF r c g h) : EqF r c f h := fun i k hi hk => (h1 i k hi hk).trans (h2 i k hi hk)
theorem mulF_assoc (f g h : Nat → Nat → UInt8) (m n i k : Nat) : mulF m (mulF n f g) h i k = mulF n f (mulF m g h) i k := ud_assoc (f i) g (fun j => h j k) m n
theorem turn_mul (f g : Nat → Nat → UInt8) (n i k : Nat) : turnF (mulF n f g) i k = mulF n (turnF g) (turnF f) i k := ud_comm _ _ n
end Go.Proofs.Ytbkelijmdpoanaa
