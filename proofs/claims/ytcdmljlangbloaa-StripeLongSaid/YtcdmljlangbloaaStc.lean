/- The document's Of, law 8's plan, small and awake, each as a contract over memory. -/
import Derived.Test.YtcdmljlangbloaaStb
import Derived.Test.YtcdmljlangbloaaMsa
namespace Go.Proofs.Ytcdmljlangbloaa
open Go.RowKit
set_option linter.unusedVariables false
set_option linter.unusedSimpArgs false
set_option maxRecDepth 100000

section
variable {w : World} {g n k a d q : Nat} {x : Nat → UInt8}
/-- Of answers as its plain numbers say. -/
theorem of_any (h : CodeAt w g n k x) (hD : Dim n k a d q) {len pc : Int} {l c p e : Nat} (hR : OfR q len pc l c p e) : Calls Try.prog 10 #[cptr g, .int .i64 len, .int .i64 pc] w (OfPost w l c p e) := by
  cases hR with
  | arg h1 => exact of_arg h hD len pc h1
  | long h0 h1 h2 h3 => exact of_long h hD len pc h1 h2 h3
  | many l p hl hp h0 h1 h2 h3 => subst hl hp; exact of_many h hD l p h0 h1 h2 h3
  | full l p hl hp h0 h1 h2 h3 h4 => subst hl hp; exact of_full h hD l p h0 h1 h2 h3 h4
  | short l p hl hp h0 h1 h2 h3 h4 => subst hl hp; exact of_short h hD l p h0 h1 h2 h3 h4
theorem rof_arg (w : World) (k l p : Int) (hb : l < 0 ∨ p < 1 ∨ 256 < p) : Calls Try.prog 11 #[.int .i64 k, .int .i64 l, .int .i64 p] w (OfPost w 0 0 0 1) := by
  have HB := hide hb
  clear hb
  by_cases h1 : l < 0
  · go_enter Try.func11, Try.ntmps11
    go_wp2_with fail
    exact bodyPost_ret (v := .tuple #[plV 0 0 0, .int .i64 1]) (by simp [results, Try.results11, go_sem]) rfl ⟨rfl, (by repeat (first | exact Kp.refl _ _ | assumption | refine Kp.fresh ?_ (by simp) _ | refine Kp.al ?_ _))⟩
  have h1 : 0 ≤ l := by omega
  by_cases h2 : p < 1
  · go_enter Try.func11, Try.ntmps11
    go_wp2_with fail
    exact bodyPost_ret (v := .tuple #[plV 0 0 0, .int .i64 1]) (by simp [results, Try.results11, go_sem]) rfl ⟨rfl, (by repeat (first | exact Kp.refl _ _ | assumption | refine Kp.fresh ?_ (by simp) _ | refine Kp.al ?_ _))⟩
  have h2 : 1 ≤ p := by omega
  have h3 : 256 < p := by have := HB.out; omega
  go_enter Try.func11, Try.ntmps11
  go_wp2_with fail
  exact bodyPost_ret (v := .tuple #[plV 0 0 0, .int .i64 1]) (by simp [results, Try.results11, go_sem]) rfl ⟨rfl, (by repeat (first | exact Kp.refl _ _ | assumption | refine Kp.fresh ?_ (by simp) _ | refine Kp.al ?_ _))⟩
theorem rof_long (w : World) (k l p : Int) (h1 : 1 ≤ p) (h2 : p ≤ 256) (h3 : 16384 < l) : Calls Try.prog 11 #[.int .i64 k, .int .i64 l, .int .i64 p] w (OfPost w 0 0 0 29) := by
  go_enter Try.func11, Try.ntmps11
  go_wp2_with fail
  exact bodyPost_ret (v := .tuple #[plV 0 0 0, .int .i64 29]) (by simp [results, Try.results11, go_sem]) rfl ⟨rfl, (by repeat (first | exact Kp.refl _ _ | assumption | refine Kp.fresh ?_ (by simp) _ | refine Kp.al ?_ _))⟩
set_option maxHeartbeats 1000000 in
theorem rof_many (w : World) (hD : Dim n k a d q) (l p : Nat) (h0 : l ≤ 16384) (h1 : 1 ≤ p) (h2 : p ≤ 256) (h3 : 32 < cup l (q * p)) : Calls Try.prog 11 #[.int .i64 (k : Int), .int .i64 (l : Int), .int .i64 (p : Int)] w (OfPost w 0 0 0 29) := by
  have hq2 : 2 ≤ q ∧ q ≤ 56 := by have := hD.q56; omega
  have ha7 := hD.a7
  have hk8 : k ≤ 8 := by have := hD.k_; omega
  have hk1 : 1 ≤ k := by have := hD.k_; omega
  have HKA : Hid ((k : Int) - 1 = (a : Int)) := by show (k : Int) - 1 = (a : Int); have := hD.k_; omega
  have HKQ : Hid ((k : Int) * (a : Int) = (q : Int)) := by show (k : Int) * (a : Int) = (q : Int); rw [hD.k_, hD.q_, Int.natCast_mul]
  obtain ⟨f, hf⟩ : ∃ f, f = q * p := ⟨_, rfl⟩
  have hf1 : 1 ≤ f ∧ f ≤ 14336 := by rw [hf]; exact ⟨Nat.mul_pos (by omega) (by omega), Nat.mul_le_mul hq2.2 h2⟩
  have HQF : Hid ((q : Int) * (p : Int) = (f : Int)) := by show (q : Int) * (p : Int) = (f : Int); rw [hf, Int.natCast_mul]
  obtain ⟨hf1, hf2⟩ := hf1
  obtain ⟨hq2, hq56⟩ := hq2
  rw [← hf] at h3
  have HZ := hide (fun i => cup_lt (l := l) (i := i) hf1)
  have hcb : cup l f ≤ l := cup_bnd hf1
  generalize cup l f = z at *
  clear hD hf
  have hka := HKA.out
  have hkq := HKQ.out
  have hqf := HQF.out
  go_enter Try.func11, Try.ntmps11
  go_wp2_with fail
  clear hka hkq hqf
  go_loop [9] (fun iv => ∃ i : Nat, i ≤ z ∧ iv = .int .i64 (i : Int)) (fun iv => z - (intOf iv).toNat)
  case atStart => exact ⟨0, Nat.zero_le _, rfl⟩
  case round =>
    obtain ⟨i, hi, rfl⟩ := hrel
    obtain ⟨y, hy⟩ : ∃ y, y = i * f := ⟨_, rfl⟩
    have hyi : (i : Int) * (f : Int) = (y : Int) := by rw [hy, Int.natCast_mul]
    have hyb : y ≤ 1000000000 := by rw [hy]; exact Nat.le_trans (Nat.mul_le_mul (show i ≤ 16384 by omega) hf2) (by omega)
    by_cases hlt : i < z
    · have hyl : y < l := by rw [hy]; exact (HZ.out i).1 hlt
      clear hy
      go_wp2_with fail
      go_round
      case rel => exact ⟨i + 1, by omega, by go_num⟩
      case measure => simp [intOf]; omega
    · have hyl : l ≤ y := by
        rcases Nat.lt_or_ge y l with g | g
        · rw [hy] at g
          exact absurd ((HZ.out i).2 g) hlt
        · exact g
      obtain rfl : z = i := by omega
      clear hy
      clear hi hlt
      go_wp2_with fail
      exact bodyPost_ret (v := .tuple #[plV 0 0 0, .int .i64 29]) (by simp [results, Try.results11, go_sem]) rfl ⟨rfl, (by repeat (first | exact Kp.refl _ _ | assumption | refine Kp.fresh ?_ (by simp) _ | refine Kp.al ?_ _))⟩
set_option maxHeartbeats 1000000 in
theorem rof_full (w : World) (hD : Dim n k a d q) (l p : Nat) (h0 : l ≤ 16384) (h1 : 1 ≤ p) (h2 : p ≤ 256) (h3 : cup l (q * p) ≤ 32) (h4 : l = 0 ∨ q * p ≤ l) : Calls Try.prog 11 #[.int .i64 (k : Int), .int .i64 (l : Int), .int .i64 (p : Int)] w (OfPost w l (cup l (q * p)) p 0) := by
  have hq2 : 2 ≤ q ∧ q ≤ 56 := by have := hD.q56; omega
  have ha7 := hD.a7
  have hk8 : k ≤ 8 := by have := hD.k_; omega
  have hk1 : 1 ≤ k := by have := hD.k_; omega
  have HKA : Hid ((k : Int) - 1 = (a : Int)) := by show (k : Int) - 1 = (a : Int); have := hD.k_; omega
  have HKQ : Hid ((k : Int) * (a : Int) = (q : Int)) := by show (k : Int) * (a : Int) = (q : Int); rw [hD.k_, hD.q_, Int.natCast_mul]
  obtain ⟨f, hf⟩ : ∃ f, f = q * p := ⟨_, rfl⟩
  have hf1 : 1 ≤ f ∧ f ≤ 14336 := by rw [hf]; exact ⟨Nat.mul_pos (by omega) (by omega), Nat.mul_le_mul hq2.2 h2⟩
  have HQF : Hid ((q : Int) * (p : Int) = (f : Int)) := by show (q : Int) * (p : Int) = (f : Int); rw [hf, Int.natCast_mul]
  obtain ⟨hf1, hf2⟩ := hf1
  obtain ⟨hq2, hq56⟩ := hq2
  rw [← hf] at h3 h4 ⊢
  have HZ := hide (fun i => cup_lt (l := l) (i := i) hf1)
  have hcb : cup l f ≤ l := cup_bnd hf1
  generalize cup l f = z at *
  clear hD hf
  have H4 := hide h4
  clear h4
  have hka := HKA.out
  have hkq := HKQ.out
  have hqf := HQF.out
  go_enter Try.func11, Try.ntmps11
  go_wp2_with fail
  clear hka hkq hqf
  go_loop [9] (fun iv => ∃ i : Nat, i ≤ z ∧ iv = .int .i64 (i : Int)) (fun iv => z - (intOf iv).toNat)
  case atStart => exact ⟨0, Nat.zero_le _, rfl⟩
  case round =>
    obtain ⟨i, hi, rfl⟩ := hrel
    obtain ⟨y, hy⟩ : ∃ y, y = i * f := ⟨_, rfl⟩
    have hyi : (i : Int) * (f : Int) = (y : Int) := by rw [hy, Int.natCast_mul]
    have hyb : y ≤ 1000000000 := by rw [hy]; exact Nat.le_trans (Nat.mul_le_mul (show i ≤ 16384 by omega) hf2) (by omega)
    by_cases hlt : i < z
    · have hyl : y < l := by rw [hy]; exact (HZ.out i).1 hlt
      clear hy
      go_wp2_with fail
      go_round
      case rel => exact ⟨i + 1, by omega, by go_num⟩
      case measure => simp [intOf]; omega
    · have hyl : l ≤ y := by
        rcases Nat.lt_or_ge y l with g | g
        · rw [hy] at g
          exact absurd ((HZ.out i).2 g) hlt
        · exact g
      obtain rfl : z = i := by omega
      clear hy
      clear hi hlt
      by_cases h5 : 0 < l
      · have h4 : f ≤ l := by have := H4.out; omega
        go_wp2_with fail
        exact bodyPost_ret (v := .tuple #[plV l z p, .int .i64 0]) (by simp [results, Try.results11, go_sem]) rfl ⟨rfl, (by repeat (first | exact Kp.refl _ _ | assumption | refine Kp.fresh ?_ (by simp) _ | refine Kp.al ?_ _))⟩
      · have h5 : l ≤ 0 := by omega
        go_wp2_with fail
        exact bodyPost_ret (v := .tuple #[plV l z p, .int .i64 0]) (by simp [results, Try.results11, go_sem]) rfl ⟨rfl, (by repeat (first | exact Kp.refl _ _ | assumption | refine Kp.fresh ?_ (by simp) _ | refine Kp.al ?_ _))⟩
set_option maxHeartbeats 1000000 in
theorem rof_short (w : World) (hD : Dim n k a d q) (l p : Nat) (h0 : l ≤ 16384) (h1 : 1 ≤ p) (h2 : p ≤ 256) (h3 : 1 ≤ l) (h4 : l < q * p) : Calls Try.prog 11 #[.int .i64 (k : Int), .int .i64 (l : Int), .int .i64 (p : Int)] w (OfPost w l 1 (cup l q) 0) := by
  have hq2 : 2 ≤ q ∧ q ≤ 56 := by have := hD.q56; omega
  have ha7 := hD.a7
  have hk8 : k ≤ 8 := by have := hD.k_; omega
  have hk1 : 1 ≤ k := by have := hD.k_; omega
  have HKA : Hid ((k : Int) - 1 = (a : Int)) := by show (k : Int) - 1 = (a : Int); have := hD.k_; omega
  have HKQ : Hid ((k : Int) * (a : Int) = (q : Int)) := by show (k : Int) * (a : Int) = (q : Int); rw [hD.k_, hD.q_, Int.natCast_mul]
  obtain ⟨f, hf⟩ : ∃ f, f = q * p := ⟨_, rfl⟩
  have hf1 : 1 ≤ f ∧ f ≤ 14336 := by rw [hf]; exact ⟨Nat.mul_pos (by omega) (by omega), Nat.mul_le_mul hq2.2 h2⟩
  have HQF : Hid ((q : Int) * (p : Int) = (f : Int)) := by show (q : Int) * (p : Int) = (f : Int); rw [hf, Int.natCast_mul]
  obtain ⟨hf1, hf2⟩ := hf1
  obtain ⟨hq2, hq56⟩ := hq2
  rw [← hf] at h4
  have HZ := hide (fun i => cup_lt (l := l) (i := i) hf1)
  have HU := hide (fun i => cup_lt (l := l) (f := q) (i := i) (by omega))
  have hz : cup l f = 1 := cup_one h3 (by omega)
  have hub : cup l q ≤ l := cup_bnd (by omega)
  have hu1 : 1 ≤ cup l q := (HU.out 0).2 (by omega)
  rw [hz] at HZ
  obtain ⟨z, hz1⟩ : ∃ z : Nat, z = 1 := ⟨1, rfl⟩
  rw [← hz1] at HZ ⊢
  have hzz : z ≤ 32 := by omega
  have hcb : z ≤ l := by omega
  generalize cup l q = u at *
  clear hD hf hz hz1
  have hka := HKA.out
  have hkq := HKQ.out
  have hqf := HQF.out
  go_enter Try.func11, Try.ntmps11
  go_wp2_with fail
  clear hka hkq hqf
  go_loop [9] (fun iv => ∃ i : Nat, i ≤ z ∧ iv = .int .i64 (i : Int)) (fun iv => z - (intOf iv).toNat)
  case atStart => exact ⟨0, Nat.zero_le _, rfl⟩
  case round =>
    obtain ⟨i, hi, rfl⟩ := hrel
    obtain ⟨y, hy⟩ : ∃ y, y = i * f := ⟨_, rfl⟩
    have hyi : (i : Int) * (f : Int) = (y : Int) := by rw [hy, Int.natCast_mul]
    have hyb : y ≤ 1000000000 := by rw [hy]; exact Nat.le_trans (Nat.mul_le_mul (show i ≤ 16384 by omega) hf2) (by omega)
    by_cases hlt : i < z
    · have hyl : y < l := by rw [hy]; exact (HZ.out i).1 hlt
      clear hy
      go_wp2_with fail
      go_round
      case rel => exact ⟨i + 1, by omega, by go_num⟩
      case measure => simp [intOf]; omega
    · have hyl : l ≤ y := by
        rcases Nat.lt_or_ge y l with g | g
        · rw [hy] at g
          exact absurd ((HZ.out i).2 g) hlt
        · exact g
      obtain rfl : z = i := by omega
      clear hy
      clear hi hlt
      go_wp2_with fail
      have hka := HKA.out
      have hkq := HKQ.out
      clear hyi
      go_loop [10] (fun iv => ∃ i : Nat, 1 ≤ i ∧ i ≤ u ∧ iv = .int .i64 (i : Int)) (fun iv => u - (intOf iv).toNat)
      case atStart => exact ⟨1, Nat.le_refl _, hu1, rfl⟩
      case round =>
        obtain ⟨i, hi1, hi, rfl⟩ := hrel
        obtain ⟨y2, hy⟩ : ∃ y2, y2 = i * q := ⟨_, rfl⟩
        have hyi : (q : Int) * (i : Int) = (y2 : Int) := by rw [hy, Int.natCast_mul, Int.mul_comm]
        have hyb : y2 ≤ 1000000000 := by rw [hy]; exact Nat.le_trans (Nat.mul_le_mul (show i ≤ 16384 by omega) hq56) (by omega)
        have hka := HKA.out
        have hkq := HKQ.out
        by_cases hlt : i < u
        · have hyl : y2 < l := by rw [hy]; exact (HU.out i).1 hlt
          clear hy
          go_wp2_with fail
          go_round
          case rel => exact ⟨i + 1, by omega, by omega, by go_num⟩
          case measure => simp [intOf]; omega
        · have hyl : l ≤ y2 := by
            rcases Nat.lt_or_ge y2 l with g | g
            · rw [hy] at g
              exact absurd ((HU.out i).2 g) hlt
            · exact g
          obtain rfl : u = i := by omega
          clear hy
          clear hi hlt
          go_wp2_with fail
          exact bodyPost_ret (v := .tuple #[plV l z u, .int .i64 0]) (by simp [results, Try.results11, go_sem]) rfl ⟨rfl, (by repeat (first | exact Kp.refl _ _ | assumption | refine Kp.fresh ?_ (by simp) _ | refine Kp.al ?_ _))⟩
/-- The document's Of answers as its plain numbers say. -/
theorem rof_any (w : World) (hD : Dim n k a d q) {len pc : Int} {l c p e : Nat} (hR : OfR q len pc l c p e) : Calls Try.prog 11 #[.int .i64 (k : Int), .int .i64 len, .int .i64 pc] w (OfPost w l c p e) := by
  cases hR with
  | arg h1 => exact rof_arg w k len pc h1
  | long h0 h1 h2 h3 => exact rof_long w k len pc h1 h2 h3
  | many l p hl hp h0 h1 h2 h3 => subst hl hp; exact rof_many w hD l p h0 h1 h2 h3
  | full l p hl hp h0 h1 h2 h3 h4 => subst hl hp; exact rof_full w hD l p h0 h1 h2 h3 h4
  | short l p hl hp h0 h1 h2 h3 h4 => subst hl hp; exact rof_short w hD l p h0 h1 h2 h3 h4
end
/-- A plan comes back. -/
def PlPost (w : World) (l c p : Int) (en : Ending) (w1 : World) : Prop := en = .returned (plV l c p) ∧ Kp No w w1
theorem to_any (w : World) (l c p : Int) : Calls Try.prog 12 #[plV l c p] w (PlPost w l c p) := by
  go_enter Try.func12, Try.ntmps12
  go_wp2_with fail
  exact bodyPost_ret (v := plV l c p) (by simp [results, Try.results12, go_sem]) rfl ⟨rfl, (by repeat (first | exact Kp.refl _ _ | assumption | refine Kp.fresh ?_ (by simp) _ | refine Kp.al ?_ _))⟩
/-- A law's end. -/
def R8 (w : World) (e : Ending) (w1 : World) : Prop := e = .returned (.bool true) ∧ Below w.heap.size w w1
theorem small8_yes (n k : Int) (w : World) (h : Rgt n k) (h1 : n ≤ 12) (h2 : k ≤ 4) : Calls Try.prog 15 #[.int .i64 n, .int .i64 k] w fun e w' => e = .returned (.bool true) ∧ w = w' := by
  have hr := rright_yes n k w h
  clear h
  go_enter Try.func15, Try.ntmps15
  go_wp2_with fail
  refine hr.mono ?_
  rintro e w' ⟨rfl, rfl⟩
  go_wp2_with fail
  go_ret
  exact ⟨rfl, rfl⟩
theorem small8_no (n k : Int) (w : World) (h : ¬ (Rgt n k ∧ n ≤ 12 ∧ k ≤ 4)) : Calls Try.prog 15 #[.int .i64 n, .int .i64 k] w fun e w' => e = .returned (.bool false) ∧ w = w' := by
  by_cases hr : Rgt n k
  · have hr1 := rright_yes n k w hr
    by_cases h1 : n ≤ 12
    · have h2 : 4 < k := by
        rcases Int.lt_or_le 4 k with g | g
        · exact g
        · exact absurd ⟨hr, h1, g⟩ h
      clear hr h
      go_enter Try.func15, Try.ntmps15
      go_wp2_with fail
      refine hr1.mono ?_
      rintro e w' ⟨rfl, rfl⟩
      go_wp2_with fail
      go_ret
      exact ⟨ret_b (decide_eq_false (by omega)), rfl⟩
    · have h1 : 12 < n := by omega
      clear hr h
      go_enter Try.func15, Try.ntmps15
      go_wp2_with fail
      refine hr1.mono ?_
      rintro e w' ⟨rfl, rfl⟩
      go_wp2_with fail
      go_ret
      exact ⟨rfl, rfl⟩
  · have hr1 := rright_no n k w hr
    clear hr h
    go_enter Try.func15, Try.ntmps15
    go_wp2_with fail
    refine hr1.mono ?_
    rintro e w' ⟨rfl, rfl⟩
    go_wp2_with fail
    go_ret
    exact ⟨rfl, rfl⟩
/-- The chapter's example holds. -/
theorem awake8_any (w : World) : Calls Try.prog 8 #[] w fun e w' => e = .returned (.bool true) ∧ Kp No w w' := by
  obtain ⟨x, hP⟩ := pts_ex (n := 3) (a := 1) (by omega) (by omega) (by omega)
  have hD : Dim 3 2 1 2 2 := ⟨rfl, rfl, rfl, by omega, by omega, by omega, by omega⟩
  have HN := hide (mnew_yes w hD hP)
  have hR : OfR 2 5 2 5 2 2 0 := .full 5 2 rfl rfl (by omega) (by omega) (by omega) (by decide) (by omega)
  have HC := hide (fun w1 g (hC : CodeAt w1 g 3 2 x) => of_any hC hD hR)
  clear hD hP hR
  go_enter Try.func8, Try.ntmps8
  go_wp2_with fail
  refine HN.out.mono ?_
  rintro e w1 ⟨g, rfl, hC, hk⟩
  go_wp2_with fail
  refine (HC.out _ _ hC).mono ?_
  rintro e w2 ⟨rfl, hs⟩
  go_wp2_with fail
  go_ret
  exact ⟨rfl, (hk.trans' hs).al _⟩
end Go.Proofs.Ytcdmljlangbloaa
