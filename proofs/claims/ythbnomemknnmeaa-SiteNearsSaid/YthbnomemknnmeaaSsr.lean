/- Package slices' ranges swapped and rotated, as contracts over memory. -/
import Derived.Test.YthbnomemknnmeaaSsi
namespace Go.Proofs.Ythbnomemknnmeaa
open Go.RowKit
set_option linter.unusedVariables false
set_option linter.unusedSimpArgs false
set_option maxRecDepth 100000

theorem insort_none {w : World} {b n cp bf bl : Nat} (a : Nat) (hn : n ≤ 1000) (ha : a ≤ n) :
    Calls Try.prog 28 #[.slice (some ⟨b, 0, none⟩) n cp, .int .i64 (a : Int), .int .i64 (a : Int), nearV bf bl] w fun e w' => e = .returned (.tuple #[]) ∧ w = w' := by
  go_enter Try.func28, Try.ntmps28
  go_wp2_with fail
  go_loopw [8] (fun iv wr => iv = .int .i64 ((a : Int) + 1) ∧ wr = w) (fun _ _ => 0)
  case atStart => exact ⟨by go_num, rfl⟩
  case round =>
    obtain ⟨rfl, rfl⟩ := hrel
    go_wp2_with fail
    go_end0
    exact ⟨rfl, rfl⟩
/-- The row is another one, all else as it was. -/
def RowPost2 (w : World) (b n : Nat) (d' : Nat → Nat) (en : Ending) (w1 : World) : Prop := en = .returned (.tuple #[]) ∧ IRow w1 b n d' ∧ Kp (On b) w w1
/-- So many places are swapped. -/
structure SwI (w : World) (b n : Nat) (d' : Nat → Nat) (wr : World) : Prop where
  row : IRow wr b n d'
  kp : Kp (On b) w wr
set_option maxHeartbeats 4000000 in
theorem swapr_any {w : World} {b n cp bf bl : Nat} {d : Nat → Nat} (h : IRow w b n d) (a q c : Nat) (h1 : a + c ≤ q) (h2 : q + c ≤ n) (hn : n ≤ 1000) :
    Calls Try.prog 31 #[.slice (some ⟨b, 0, none⟩) n cp, .int .i64 (a : Int), .int .i64 (q : Int), .int .i64 (c : Int), nearV bf bl] w (RowPost2 w b n (soX d a q c)) := by
  have h0 : SwI w b n (soX d a q 0) w := ⟨by rw [sx_zero]; exact h, Kp.refl _ _⟩
  clear h
  go_enter Try.func31, Try.ntmps31
  go_wp2_with fail
  go_loopw [10] (fun iv wr => ∃ i : Nat, i ≤ c ∧ iv = .int .i64 (i : Int) ∧ SwI w b n (soX d a q i) wr) (fun iv _ => c - (intOf iv).toNat)
  case atStart => exact ⟨0, Nat.zero_le _, rfl, h0⟩
  case round =>
    clear h0
    obtain ⟨i, hi, rfl, hS⟩ := hrel
    by_cases hlt : i < c
    · obtain ⟨p, hp⟩ : ∃ p, p = a + i := ⟨_, rfl⟩
      obtain ⟨r, hr⟩ : ∃ r, r = q + i := ⟨_, rfl⟩
      have zp : (a : Int) + (i : Int) = (p : Int) := by omega
      have zr : (q : Int) + (i : Int) = (r : Int) := by omega
      have hpn : p < n := by omega
      have hrn : r < n := by omega
      have HX := hide (sx_step (d := d) h1 hlt)
      rw [← hp, ← hr] at HX
      have x1 := hS.row.cell hpn
      have x2 := hS.row.cell hrn
      have xf := hS.row.frozen p
      have xf2 := hS.row.frozen r
      obtain ⟨u, hu⟩ : ∃ u, soX d a q i p = u := ⟨_, rfl⟩
      obtain ⟨v, hv⟩ : ∃ v, soX d a q i r = v := ⟨_, rfl⟩
      rw [hu] at x1
      rw [hv] at x2
      obtain ⟨vv, x3⟩ := hS.row.cell2 hpn hrn v
      have HW := hide (hS.row.swap hpn hrn hu hv)
      have HK := hide hS.kp
      clear hS hu hv hp hr h1 h2
      go_wp2_with fail
      go_region
      clear x1 x2 x3 xf xf2
      have hI3 := HW.out.1
      have hk3 := HK.out.trans' HW.out.2
      clear HW HK
      generalize ((wr.setCell ⟨b, p, none⟩ (.int .i64 (v : Int))).setCell ⟨b, r, none⟩ (.int .i64 (u : Int))) = w2 at *
      go_wp2_with fail
      go_round
      case rel => exact ⟨i + 1, by omega, by go_num, by rw [← HX.out]; exact hI3, hk3.drew⟩
      case measure => simp [intOf]; omega
    · obtain rfl : i = c := by omega
      go_wp2_with fail
      go_end0
      exact ⟨rfl, hS.row, hS.kp⟩
/-- What is left to be rotated. -/
structure RoJ (w : World) (b n : Nat) (R : Nat → Nat) (a m e i j : Nat) (wr : World) : Prop where
  i0 : 0 < i
  j0 : 0 < j
  im : i ≤ m - a
  je : m + j ≤ e
  ex : ∃ d', IRow wr b n d' ∧ soRot d' (m - i) m (m + j) = R
  kp : Kp (On b) w wr
set_option maxHeartbeats 4000000 in
theorem rotate_any {w : World} {b n cp bf bl : Nat} {d : Nat → Nat} (h : IRow w b n d) (a m e : Nat) (h1 : a < m) (h2 : m < e) (h3 : e ≤ n) (hn : n ≤ 1000) :
    Calls Try.prog 30 #[.slice (some ⟨b, 0, none⟩) n cp, .int .i64 (a : Int), .int .i64 (m : Int), .int .i64 (e : Int), nearV bf bl] w (RowPost2 w b n (soRot d a m e)) := by
  have h0 : RoJ w b n (soRot d a m e) a m e (m - a) (e - m) w := ⟨by omega, by omega, by omega, by omega, ⟨d, h, by rw [show m - (m - a) = a by omega, show m + (e - m) = e by omega]⟩, Kp.refl _ _⟩
  generalize soRot d a m e = R at h0 ⊢
  clear h
  go_enter Try.func30, Try.ntmps30
  go_wp2_with fail
  go_loopw [10, 11] (fun iv jv wr => ∃ i j : Nat, iv = .int .i64 (i : Int) ∧ jv = .int .i64 (j : Int) ∧ RoJ w b n R a m e i j wr) (fun iv jv _ => (intOf iv).toNat + (intOf jv).toNat)
  case atStart => exact ⟨m - a, e - m, by go_num, by go_num, h0⟩
  case round =>
    clear h0
    obtain ⟨i, j, rfl, rfl, hJ⟩ := hrel
    obtain ⟨i0, j0, im, je, hex, hkp⟩ := hJ
    have HEX := hide hex
    have HK := hide hkp
    clear hex hkp
    rcases Nat.lt_trichotomy i j with g | g | g
    · have HC := hide (fun d' (hd : IRow wr b n d') => swapr_any (cp := cp) (bf := bf) (bl := bl) hd (m - i) (m + j - i) i (by omega) (by omega) hn)
      have z1 : ((m - i : Nat) : Int) = (m : Int) - (i : Int) := by omega
      have z2 : ((m + j - i : Nat) : Int) = (m : Int) + (j : Int) - (i : Int) := by omega
      rw [z1, z2] at HC
      clear z1 z2
      go_wp2_with fail
      obtain ⟨d', hI, hR⟩ := HEX.out
      refine (HC.out d' hI).mono ?_
      rintro en w1 ⟨rfl, hI1, hk1⟩
      have HR := hide hR
      clear hI hR
      go_wp2_with fail
      go_round
      case rel =>
        refine ⟨i, j - i, by rfl, by go_num, ⟨i0, by omega, im, by omega, ⟨_, hI1, ?_⟩, HK.out.trans' hk1⟩⟩
        rw [rot_lt (by omega) g i0]
        exact HR.out
      case measure => simp [intOf]; omega
    · subst g
      have HC := hide (fun d' (hd : IRow wr b n d') => swapr_any (cp := cp) (bf := bf) (bl := bl) hd (m - i) m i (by omega) (by omega) hn)
      have z1 : ((m - i : Nat) : Int) = (m : Int) - (i : Int) := by omega
      rw [z1] at HC
      clear z1
      go_wp2_with fail
      obtain ⟨d', hI, hR⟩ := HEX.out
      refine (HC.out d' hI).mono ?_
      rintro en w1 ⟨rfl, hI1, hk1⟩
      have HR := hide hR
      clear hI hR
      go_wp2_with fail
      go_end0
      refine ⟨rfl, ?_, HK.out.trans' hk1⟩
      rw [← HR.out, ← rot_eq (by omega) i0]
      exact hI1
    · have HC := hide (fun d' (hd : IRow wr b n d') => swapr_any (cp := cp) (bf := bf) (bl := bl) hd (m - i) m j (by omega) (by omega) hn)
      have z1 : ((m - i : Nat) : Int) = (m : Int) - (i : Int) := by omega
      rw [z1] at HC
      clear z1
      go_wp2_with fail
      obtain ⟨d', hI, hR⟩ := HEX.out
      refine (HC.out d' hI).mono ?_
      rintro en w1 ⟨rfl, hI1, hk1⟩
      have HR := hide hR
      clear hI hR
      go_wp2_with fail
      go_round
      case rel =>
        refine ⟨i - j, j, by go_num, by rfl, ⟨by omega, j0, by omega, je, ⟨_, hI1, ?_⟩, HK.out.trans' hk1⟩⟩
        rw [rot_gt (by omega) g j0]
        exact HR.out
      case measure => simp [intOf]; omega
end Go.Proofs.Ythbnomemknnmeaa
