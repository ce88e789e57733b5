/- Spread, Mid, and law09's right and to, as contracts over memory. -/
import Derived.Test.YthbnomemknnmeaaSnq
namespace Go.Proofs.Ythbnomemknnmeaa
open Go.RowKit
set_option linter.unusedVariables false
set_option linter.unusedSimpArgs false
set_option maxRecDepth 100000

/-- The least so far. -/
def spS (b x : Int) : Int := if b < 0 then x else if x < b then x else b
def spI (g : Nat → Nat → Int) (i : Nat) (b : Int) : Nat → Int
  | 0 => b
  | c + 1 => spS (spI g i b c) (g i (i + 1 + c))
def spO (g : Nat → Nat → Int) (n : Nat) : Nat → Int
  | 0 => -1
  | i + 1 => spI g i (spO g n i) (n - (i + 1))
/-- So many numbers added. -/
def smF (f : Nat → Int) : Nat → Int
  | 0 => 0
  | n + 1 => smF f n + f n
theorem smF_bnd {f : Nat → Int} {n : Nat} (h : ∀ j, j < n → Alw (f j)) : -(1048576 * (n : Int)) ≤ smF f n ∧ smF f n ≤ 1048576 * (n : Int) := by
  induction n with
  | zero => simp [smF]
  | succ n ih =>
    have := ih fun j hj => h j (by omega)
    have h2 := h n (by omega)
    unfold Alw at h2
    show _ ≤ smF f n + f n ∧ smF f n + f n ≤ _
    omega
theorem cells_pt : Try.prog.cellsOf 25 = 1 := by kernel_rfl
theorem ty_pt : Ty 25 (.complex .f64 0 0) 1 16 := ty_of (by kernel_rfl) rfl (by omega) (by omega)
/-- l[k:]. -/
theorem slice_pts (g n c k : Nat) (hk : k ≤ n) (hc : n ≤ c) : ∃ O rc, (∀ w, (Instr.slice 39 (.slice (some ⟨g, 0, none⟩) n c) (some (.int .i64 (k : Int))) none none).run Try.prog w = .ok (.slice (some ⟨g, O, none⟩) (n - k) rc) w) ∧ (k < n → O = k) := by
  obtain ⟨⟨i0, hi0, hz0, hz1, hz2⟩, _⟩ := ty_pt
  have he : Try.prog.elem 39 = 25 := by kernel_rfl
  have hs : ∀ w, (sizeOf (Try.prog.elem 39)).run Try.prog w = .ok 1 w := fun w => by
    rw [he]
    have hc : Try.prog.cellsOf 25 = 1 := cells_pt
    simp [run_sizeOf, hi0, hz1, hc]
  refine ⟨if k < c then k else 0, c - k, fun w => ?_, fun h => if_pos (by omega)⟩
  rw [run_slice_l w _ _ _ _ (by rw [he]; exact Try.underlying39) .i64 _ (by omega) (by omega), hs]
  simp only [Result.andThen, sliced, Int.toNat_natCast]
  by_cases g : k < c
  · rw [if_neg (by omega), Option.map_some, Nat.mul_one, add_none, if_pos g, Nat.zero_add]
  · rw [if_pos (by omega), if_neg g]
set_option maxHeartbeats 4000000 in
theorem spread_any {w : World} {A : Option Addr} {n c : Nat} {re im : Nat → Nat} {X Y : Nat → Int} (hP : PtR w A n re im) (hc : n ≤ c) (hr : ∀ j, j < n → Fl (re j) (X j)) (hi : ∀ j, j < n → Fl (im j) (Y j))
    (hX : ∀ j, j < n → Alw (X j)) (hY : ∀ j, j < n → Alw (Y j)) (hn : n ≤ 60) :
    Calls Try.prog 18 #[.slice A n c] w fun e w' => e = .returned (.int .i64 (spO (fun i j => farZ (X i) (Y i) (X j) (Y j)) n n)) ∧ w = w' := by
  obtain ⟨gg, hgg⟩ : ∃ gg : Nat → Nat → Int, gg = fun i j => farZ (X i) (Y i) (X j) (Y j) := ⟨_, rfl⟩
  have hF : ∀ p q, p < n → q < n → ∀ w, Calls Try.prog 10 #[.complex .f64 (re p) (im p), .complex .f64 (re q) (im q)] w fun e w' => e = .returned (.int .i64 (gg p q)) ∧ w = w' := fun p q hp hq w => by
    rw [hgg]
    exact far_any w (hr p hp) (hi p hp) (hr q hq) (hi q hq) (by have := hX q hq; have := hX p hp; unfold Alw at *; omega) (by have := hY q hq; have := hY p hp; unfold Alw at *; omega)
  rw [← hgg]
  have HF := hide hF
  have HP := hide hP
  clear hF hP hr hi hX hY hgg
  go_enter Try.func18, Try.ntmps18
  go_wp2_with fail
  go_loopw [3, 11] (fun bv iv wr => ∃ i : Nat, i ≤ n ∧ bv = .int .i64 (spO gg n i) ∧ iv = .int .i64 (i : Int) ∧ wr = w) (fun _ iv _ => n - (intOf iv).toNat)
  case atStart => exact ⟨0, Nat.zero_le _, rfl, rfl, rfl⟩
  case round =>
    obtain ⟨i, hin, rfl, rfl, rfl⟩ := hrel
    by_cases hlt : i < n
    · obtain ⟨g, rfl, ci⟩ := HP.out.at_ i hlt
      obtain ⟨O, rc, hsl, hO⟩ := slice_pts g n c (i + 1) (by omega) hc
      rw [show ((i + 1 : Nat) : Int) = (i : Int) + 1 by omega] at hsl
      obtain ⟨r, hr⟩ : ∃ r, r = n - (i + 1) := ⟨_, rfl⟩
      rw [← hr] at hsl
      have HO := hide hO
      have HR := hide hr
      have HNX : Hid (spO gg n (i + 1) = spI gg i (spO gg n i) r) := by show spO gg n (i + 1) = _; rw [hr]; rfl
      have hrb : r ≤ 60 := by omega
      obtain ⟨b0, hb0⟩ : ∃ b0, b0 = spO gg n i := ⟨_, rfl⟩
      rw [← hb0] at HNX ⊢
      obtain ⟨ri, hri⟩ : ∃ u, re i = u := ⟨_, rfl⟩
      obtain ⟨ii, hii⟩ : ∃ u, im i = u := ⟨_, rfl⟩
      have HFI : Hid (∀ q, q < n → ∀ w, Calls Try.prog 10 #[.complex .f64 ri ii, .complex .f64 (re q) (im q)] w fun e w' => e = .returned (.int .i64 (gg i q)) ∧ w = w') := hide fun q hq w => by
        rw [← hri, ← hii]; exact HF.out i q hlt hq w
      rw [hri, hii] at ci
      clear hO hr hb0 hri hii
      go_wp2_with fail
      rename World => wo
      go_loopw [3, 21] (fun bv jv wr => ∃ q : Nat, q ≤ r ∧ bv = .int .i64 (spI gg i b0 q) ∧ jv = .int .i64 (q : Int) ∧ wr = wo) (fun _ jv _ => r - (intOf jv).toNat)
      case atStart => exact ⟨0, Nat.zero_le _, rfl, rfl, rfl⟩
      case round =>
        obtain ⟨q, hq, rfl, rfl, rfl⟩ := hrel
        by_cases hlt2 : q < r
        · have hO2 : O = i + 1 := HO.out (by have := HR.out; omega)
          obtain ⟨p, hp⟩ : ∃ p, p = i + 1 + q := ⟨_, rfl⟩
          have hpn : p < n := by have := HR.out; omega
          obtain ⟨g', hg', cp⟩ := HP.out.at_ p hpn
          injection hg' with hg'
          injection hg' with hg'
          subst hg'
          have cq : wr.cell? ⟨g, O + q, none⟩ = some (.complex .f64 (re p) (im p)) := by rw [show O + q = p by omega]; exact cp
          have hFp := HFI.out p hpn wr
          have HFP := hide hFp
          have HS : Hid (spI gg i b0 (q + 1) = spS (spI gg i b0 q) (gg i p)) := by show spI gg i b0 (q + 1) = _; rw [hp]; rfl
          generalize re p = rp at cq HFP
          generalize im p = ip at cq HFP
          generalize gg i p = f at HFP HS
          generalize spI gg i b0 q = b at HS ⊢
          clear hO2 hp cp hFp
          by_cases c1 : b < 0
          · have HE : Hid (spI gg i b0 (q + 1) = f) := by show _ = _; rw [HS.out]; unfold spS; rw [if_pos c1]
            have hd : decide (b < 0) = true := decide_eq_true c1
            go_wp2_with fail
            refine HFP.out.mono ?_
            rintro e w' ⟨rfl, rfl⟩
            go_wp2_with fail
            go_round
            case rel => exact ⟨q + 1, by omega, by rw [HE.out], by go_num, trivial⟩
            case measure => simp [intOf]; omega
          · have hd : decide (b < 0) = false := decide_eq_false c1
            by_cases c2 : f < b
            · have HE : Hid (spI gg i b0 (q + 1) = f) := by show _ = _; rw [HS.out]; unfold spS; rw [if_neg c1, if_pos c2]
              have hd2 : decide (f < b) = true := decide_eq_true c2
              go_wp2_with fail
              refine HFP.out.mono ?_
              rintro e w' ⟨rfl, rfl⟩
              go_wp2_with fail
              go_round
              case rel => exact ⟨q + 1, by omega, by rw [HE.out], by go_num, trivial⟩
              case measure => simp [intOf]; omega
            · have HE : Hid (spI gg i b0 (q + 1) = b) := by show _ = _; rw [HS.out]; unfold spS; rw [if_neg c1, if_neg c2]
              have hd2 : decide (f < b) = false := decide_eq_false c2
              go_wp2_with fail
              refine HFP.out.mono ?_
              rintro e w' ⟨rfl, rfl⟩
              go_wp2_with fail
              go_round
              case rel => exact ⟨q + 1, by omega, by rw [HE.out], by go_num, trivial⟩
              case measure => simp [intOf]; omega
        · obtain rfl : q = r := by omega
          go_wp2_with fail
          go_round
          case rel => exact ⟨i + 1, by omega, by rw [HNX.out], by go_num, trivial⟩
          case measure => simp [intOf]; omega
    · obtain rfl : i = n := by omega
      go_wp2_with fail
      go_ret
      exact ⟨rfl, rfl⟩
set_option maxHeartbeats 4000000 in
theorem mid_any {w : World} {A : Option Addr} {n c : Nat} {re im : Nat → Nat} {X Y : Nat → Int} (hP : PtR w A n re im) (hr : ∀ j, j < n → Fl (re j) (X j)) (hi : ∀ j, j < n → Fl (im j) (Y j))
    (hX : ∀ j, j < n → Alw (X j)) (hY : ∀ j, j < n → Alw (Y j)) (hn : n ≤ 60) :
    Calls Try.prog 20 #[.slice A n c] w (TrPost (smF X n) (smF Y n) w) := by
  have HC := hide (fun i (hlt : i < n) a b (h1 : Fl a (smF X i)) (h2 : Fl b (smF Y i)) => h1.csum h2 (hr i hlt) (hi i hlt)
    (by have h3 := smF_bnd (f := X) (n := i) fun j hj => hX j (by omega)
        have h4 := hX i hlt
        unfold Alw at h4
        omega)
    (by have h3 := smF_bnd (f := Y) (n := i) fun j hj => hY j (by omega)
        have h4 := hY i hlt
        unfold Alw at h4
        omega))
  have HP := hide hP
  have h0 : Fl 0 (smF X 0) ∧ Fl 0 (smF Y 0) := ⟨Fl.zero, Fl.zero⟩
  clear hP hr hi hX hY
  go_enter Try.func20, Try.ntmps20
  go_wp2_with fail
  go_loopw [3, 8] (fun sv iv wr => ∃ i a b : Nat, i ≤ n ∧ sv = .complex .f64 a b ∧ iv = .int .i64 (i : Int) ∧ Fl a (smF X i) ∧ Fl b (smF Y i) ∧ wr = w) (fun _ iv _ => n - (intOf iv).toNat)
  case atStart => exact ⟨0, 0, 0, Nat.zero_le _, rfl, rfl, h0.1, h0.2, rfl⟩
  case round =>
    obtain ⟨i, a, b, hin, rfl, rfl, f1, f2, rfl⟩ := hrel
    clear h0
    by_cases hlt : i < n
    · obtain ⟨g, rfl, ci⟩ := HP.out.at_ i hlt
      obtain ⟨s1, s2, hcs, g1, g2⟩ := HC.out i hlt a b f1 f2
      have hop := fun t w => run_complex_sum (P := Try.prog) w .add (Or.inl rfl) t .f64 a b (re i) (im i) s1 s2 hcs
      have G1 : Hid (Fl s1 (smF X (i + 1))) := hide g1
      have G2 : Hid (Fl s2 (smF Y (i + 1))) := hide g2
      generalize re i = ri at ci hop
      generalize im i = ii at ci hop
      clear f1 f2 hcs g1 g2
      go_wp2_with (simp only [hop])
      go_round
      case rel => exact ⟨i + 1, s1, s2, by omega, rfl, by go_num, G1.out, G2.out, trivial⟩
      case measure => simp [intOf]; omega
    · obtain rfl : i = n := by omega
      have F1 := hide f1
      have F2 := hide f2
      clear f1 f2
      go_wp2_with fail
      go_ret
      exact ⟨a, b, rfl, F1.out, F2.out, rfl⟩
end Go.Proofs.Ythbnomemknnmeaa
