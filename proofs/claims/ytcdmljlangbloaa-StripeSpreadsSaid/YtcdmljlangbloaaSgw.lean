/- StripeSpreads: the shards of every stripe of every object, or why there are none. -/
import Derived.Test.YtcdmljlangbloaaStg
import Derived.Test.YtcdmljlangbloaaEwR
import Derived.Test.YtcdmljlangbloaaStc
import Derived.Deep.RegionHeld3
namespace Go.Proofs.Ytcdmljlangbloaa
open Go.RowKit
set_option linter.unusedVariables false
set_option linter.unusedSimpArgs false
set_option maxRecDepth 100000

theorem PC.six {W w1 : World} {b b' : Nat} {l c p l' c' p' : Int} (hk : Kp No W w1) (h : PC W b l c p ∧ PC W b' l' c' p') : w1.cell? ⟨b, 0, none⟩ = some (.int .i64 l) ∧ w1.cell? ⟨b, 1, none⟩ = some (.int .i64 c) ∧ w1.cell? ⟨b, 2, none⟩ = some (.int .i64 p) ∧ w1.cell? ⟨b', 0, none⟩ = some (.int .i64 l') ∧ w1.cell? ⟨b', 1, none⟩ = some (.int .i64 c') ∧ w1.cell? ⟨b', 2, none⟩ = some (.int .i64 p') :=
  ⟨(h.1.no hk).c0, (h.1.no hk).c1, (h.1.no hk).c2, (h.2.no hk).c0, (h.2.no hk).c1, (h.2.no hk).c2⟩
section
variable {w : World} {A : Option Addr} {m cp : Nat} {bs : List UInt8}
theorem spr_not (n k pc : Int) (h : ¬ (Rgt n k ∧ n ≤ 12 ∧ k ≤ 4)) : Calls Try.prog 5 #[.int .i64 n, .int .i64 k, .int .i64 pc, .slice A m cp] w (R8 w) := by
  have hs := small8_no n k w h
  clear h
  go_enter Try.func5, Try.ntmps5
  go_wp2_with fail
  refine hs.mono ?_
  rintro e w' ⟨rfl, rfl⟩
  clear hs
  go_wp2_with fail
  refine (awake8_any _).mono ?_
  rintro e w9 ⟨rfl, k9⟩
  go_wp2_with fail
  go_ret
  exact ⟨rfl, k9.below0⟩
theorem spr_long (n k pc : Int) (hR : Rgt n k) (h1 : n ≤ 12) (h2 : k ≤ 4) (h3 : 300 < m) : Calls Try.prog 5 #[.int .i64 n, .int .i64 k, .int .i64 pc, .slice A m cp] w (R8 w) := by
  have hs := small8_yes n k w hR h1 h2
  clear hR
  go_enter Try.func5, Try.ntmps5
  go_wp2_with fail
  refine hs.mono ?_
  rintro e w' ⟨rfl, rfl⟩
  clear hs
  go_wp2_with fail
  refine (awake8_any _).mono ?_
  rintro e w9 ⟨rfl, k9⟩
  go_wp2_with fail
  go_ret
  exact ⟨rfl, k9.below0⟩
set_option maxHeartbeats 4000000 in
theorem spr_err {n k a d q : Nat} {x : Nat → UInt8} (hD : Dim n k a d q) (hX : Pts n a x) (h1 : n ≤ 12) (h2 : k ≤ 4) (h3 : m ≤ 300) (pc : Int) {l c p er : Nat} (hO : OfR q (m : Int) pc l c p er) (he : er = 1 ∨ er = 29) : Calls Try.prog 5 #[.int .i64 (n : Int), .int .i64 (k : Int), .int .i64 pc, .slice A m cp] w (R8 w) := by
  have hR : Rgt (n : Int) (k : Int) := by have := hD.k_; have := hD.d_; have := hD.n1; have := hD.n2; have := hD.a7; have := hD.a1; unfold Rgt; omega
  have hs := small8_yes (n : Int) (k : Int) w hR (by omega) (by omega)
  have HN := hide (mnew_yes w hD hX)
  have HS := hide (fun w' g (hC : CodeAt w' g n k x) (hk : Kp No w w') => spread_err (A := A) (cp := cp) hC hD hO he (by omega))
  have HRS := hide (fun w' (hk : Kp No w w') => rspread_err (w := w') (A := A) (cp := cp) hD hO he (by omega))
  have he2 : ((er : Int) != (er : Int)) = false := by simp
  clear he hO
  clear hR hD hX
  go_enter Try.func5, Try.ntmps5
  go_wp2_with fail
  refine hs.mono ?_
  rintro e w' ⟨rfl, rfl⟩
  clear hs
  go_wp2_with fail
  refine HN.out.mono ?_
  rintro e w1 ⟨g, rfl, hC, hk1⟩
  go_wp2_with fail
  refine (HS.out w1 g hC hk1).mono ?_
  rintro e w2 ⟨rfl, hk2⟩
  go_wp2_with fail
  refine (HRS.out _ ((hk1.trans' hk2).al _)).mono ?_
  rintro e w3 ⟨rfl, hk3⟩
  have P1 : PC w3 w2.heap.size 0 0 0 := (PC.new w2 _ _ _ _).no hk3
  have P2 := PC.new w3 0 0 0 32
  have K4 : Kp No w3 (w3.alloc (.cells #[.int .i64 0, .int .i64 0, .int .i64 0] 32)) := Kp.alloc No _ _
  obtain ⟨b1, hb1⟩ : ∃ b1, b1 = w2.heap.size := ⟨_, rfl⟩
  obtain ⟨b2, hb2⟩ : ∃ b2, b2 = w3.heap.size := ⟨_, rfl⟩
  have K3 : Kp No w w3 := ((hk1.trans' hk2).al _).trans' hk3
  go_wp2_with fail
  rw [← hb1] at P1 ⊢
  rw [← hb2] at P2 ⊢
  clear hb1 hb2
  generalize (w3.alloc (.cells #[.int .i64 0, .int .i64 0, .int .i64 0] 32)) = w4 at *
  have PP := hide (And.intro (P1.no K4) P2)
  clear P1 P2
  go_region_held3 (fun w' => w'.cell? ⟨b1, 0, none⟩ = some (.int .i64 0) ∧ w'.cell? ⟨b1, 1, none⟩ = some (.int .i64 0) ∧ w'.cell? ⟨b1, 2, none⟩ = some (.int .i64 0) ∧ w'.cell? ⟨b2, 0, none⟩ = some (.int .i64 0) ∧ w'.cell? ⟨b2, 1, none⟩ = some (.int .i64 0) ∧ w'.cell? ⟨b2, 2, none⟩ = some (.int .i64 0))
    (first | assumption | exact PC.six ((Kp.refl No w4).drew) PP.out | go_keep)
    (first | (go_at_call 12; ((with_reducible refine (to_any _ _ _ _).mono ?_); rintro e w5 ⟨rfl, hk5⟩); have s5 := PC.six ((Kp.refl No w4).drew.trans' hk5) PP.out))
  have K5 : Kp No w4 w5 := (Kp.refl No w4).drew.trans' hk5
  clear PP s5
  go_wp2_with fail
  go_loop [17] (fun iv => iv = .int .i64 0) (fun _ => 0)
  case atStart => exact rfl
  case round =>
    obtain rfl := hrel
    go_wp2_with fail
    refine (awake8_any _).mono ?_
    rintro e w9 ⟨rfl, k9⟩
    go_wp2_with fail
    go_ret
    exact ⟨rfl, ((((K3.trans' K4).trans' K5).trans' k9)).below0⟩
set_option maxHeartbeats 4000000 in
theorem spr_ok {n k a d q : Nat} {x : Nat → UInt8} (hD : Dim n k a d q) (hX : Pts n a x) (h1 : n ≤ 12) (h2 : k ≤ 4) (h3 : m ≤ 300) (pc : Int) {c p : Nat} (hO : OfR q (m : Int) pc m c p 0) (hB : Bts w (.slice A m cp) bs) (hcap : m ≤ cp) (hsz : 1 ≤ c → q * p ≤ 1000) : Calls Try.prog 5 #[.int .i64 (n : Int), .int .i64 (k : Int), .int .i64 pc, .slice A m cp] w (R8 w) := by
  have hR : Rgt (n : Int) (k : Int) := by have := hD.k_; have := hD.d_; have := hD.n1; have := hD.n2; have := hD.a7; have := hD.a1; unfold Rgt; omega
  have hs := small8_yes (n : Int) (k : Int) w hR (by omega) (by omega)
  have HN := hide (mnew_yes w hD hX)
  have HS := hide (fun w' g (hC : CodeAt w' g n k x) (hk : Kp No w w') => spread_ok hC hD (hB.no hk) hcap hO rfl hsz)
  have HRS := hide (fun w' (hk : Kp No w w') => rspread_ok hD hX (hB.no hk) hcap hO rfl hsz)
  have hc32 : c ≤ 32 := (hO.pln hD.q56.1).c32
  generalize spF a d p (q * p) bs x = F at *
  clear hO hsz hB
  clear hR hD hX
  go_enter Try.func5, Try.ntmps5
  go_wp2_with fail
  refine hs.mono ?_
  rintro e w' ⟨rfl, rfl⟩
  clear hs
  go_wp2_with fail
  refine HN.out.mono ?_
  rintro e w1 ⟨g, rfl, hC, hk1⟩
  go_wp2_with fail
  refine (HS.out w1 g hC hk1).mono ?_
  rintro e w2 ⟨A2, c2, rfl, hR2, hk2⟩
  go_wp2_with fail
  refine (HRS.out _ ((hk1.trans' hk2).al _)).mono ?_
  rintro e w3 ⟨A3, c3, rfl, hR3, hk3⟩
  have P1 : PC w3 w2.heap.size (m : Int) (c : Int) (p : Int) := (PC.new w2 _ _ _ _).no hk3
  have P2 := PC.new w3 (m : Int) (c : Int) (p : Int) 32
  have K4 : Kp No w3 (w3.alloc (.cells #[.int .i64 (m : Int), .int .i64 (c : Int), .int .i64 (p : Int)] 32)) := Kp.alloc No _ _
  obtain ⟨b1, hb1⟩ : ∃ b1, b1 = w2.heap.size := ⟨_, rfl⟩
  obtain ⟨b2, hb2⟩ : ∃ b2, b2 = w3.heap.size := ⟨_, rfl⟩
  have K3 : Kp No w w3 := ((hk1.trans' hk2).al _).trans' hk3
  have R2 := (hR2.no (Kp.alloc No _ _)).no hk3
  have R2 := R2.no K4
  have R3 := hR3.no K4
  clear hR2 hR3
  go_wp2_with fail
  rw [← hb1] at P1 ⊢
  rw [← hb2] at P2 ⊢
  clear hb1 hb2
  generalize (w3.alloc (.cells #[.int .i64 (m : Int), .int .i64 (c : Int), .int .i64 (p : Int)] 32)) = w4 at *
  have PP := hide (And.intro (P1.no K4) P2)
  clear P1 P2
  go_region_held3 (fun w' => w'.cell? ⟨b1, 0, none⟩ = some (.int .i64 (m : Int)) ∧ w'.cell? ⟨b1, 1, none⟩ = some (.int .i64 (c : Int)) ∧ w'.cell? ⟨b1, 2, none⟩ = some (.int .i64 (p : Int)) ∧ w'.cell? ⟨b2, 0, none⟩ = some (.int .i64 (m : Int)) ∧ w'.cell? ⟨b2, 1, none⟩ = some (.int .i64 (c : Int)) ∧ w'.cell? ⟨b2, 2, none⟩ = some (.int .i64 (p : Int)))
    (first | assumption | exact PC.six ((Kp.refl No w4).drew) PP.out | go_keep)
    (first | (go_at_call 12; ((with_reducible refine (to_any _ _ _ _).mono ?_); rintro e w5 ⟨rfl, hk5⟩); have s5 := PC.six ((Kp.refl No w4).drew.trans' hk5) PP.out))
  have K5 : Kp No w4 w5 := (Kp.refl No w4).drew.trans' hk5
  clear PP s5
  have Q2 := R2.no K5
  have Q3 := R3.no K5
  clear R2 R3
  go_wp2_with fail
  go_loopw [17] (fun iv wr => ∃ i : Nat, i ≤ c ∧ iv = .int .i64 (i : Int) ∧ Sm w5 wr) (fun iv _ => c - (intOf iv).toNat)
  case atStart => exact ⟨0, Nat.zero_le _, rfl, Sm.refl _⟩
  case round =>
    obtain ⟨i, hi, rfl, hs⟩ := hrel
    by_cases hlt : i < c
    · obtain ⟨G2, A4, c4, rfl, x4, r4⟩ := (Q2.no hs.kp) i hlt
      obtain ⟨G3, A5, c5, rfl, x5, r5⟩ := (Q3.no hs.kp) i hlt
      have HSM : Hid (∀ t, Calls Try.prog 17 #[.slice A4 n c4, .slice A5 n c5] (wr.drewN t) fun e w' => e = .returned (.bool true) ∧ ∃ u, w' = wr.drewN u) := fun t =>
        (rs6_any (r4.no (Sm.drewN wr t).kp) (r5.no (Sm.drewN wr t).kp) (by omega) (by omega)).mono fun e w' ⟨h, hs⟩ => by
          rw [eqR_self] at h
          obtain ⟨u, hu⟩ := (Sm.drewN wr t).trans hs
          exact ⟨h, u, hu⟩
      clear r4 r5
      go_wp2_with fail
      go_quiet ((go_at_call 17; exact HSM.out _))
      go_wp2_with fail
      go_round
      case rel => exact ⟨i + 1, by omega, by go_num, hs.trans (Sm.drewN _ _)⟩
      case measure => simp [intOf]; omega
    · obtain rfl : c = i := by omega
      clear hi hlt
      go_wp2_with fail
      refine (awake8_any _).mono ?_
      rintro e w9 ⟨rfl, k9⟩
      go_wp2_with fail
      go_ret
      exact ⟨rfl, (((((K3.trans' K4).trans' K5).trans' hs.kp).trans' k9)).below0⟩
end
theorem stripespreads_walk {w : World} {A : Option Addr} {m cp : Nat} {bs : List UInt8} (n k pc : Int) (hB : Bts w (.slice A m cp) bs) (hcap : m ≤ cp) : Calls Try.prog 5 #[.int .i64 n, .int .i64 k, .int .i64 pc, .slice A m cp] w fun e w' => e = .returned (.bool true) ∧ Below w.heap.size w w' := by
  show Calls _ _ _ _ (R8 w)
  by_cases h : Rgt n k ∧ n ≤ 12 ∧ k ≤ 4
  · obtain ⟨hR, h1, h2⟩ := h
    by_cases h3 : m ≤ 300
    · obtain ⟨r1, r2, r3, r4⟩ := hR
      obtain ⟨n', rfl⟩ : ∃ n' : Nat, n = n' := ⟨n.toNat, by omega⟩
      obtain ⟨k', rfl⟩ : ∃ k' : Nat, k = k' := ⟨k.toNat, by omega⟩
      obtain ⟨a, d, q, hD⟩ := dim_of (n := n') (k := k') (by omega) (by omega) (by omega) (by omega)
      obtain ⟨x, hX⟩ := pts_ex (n := n') hD.a1 hD.a7 hD.n2
      have hq := hD.q56
      obtain ⟨l, c, p, e, hO⟩ := ofR_ex q (by omega) (m : Int) pc
      rcases hO.err with ⟨rfl, hl⟩ | ⟨he, _⟩
      · obtain rfl : l = m := by omega
        refine spr_ok hD hX (by omega) (by omega) h3 pc hO hB hcap fun hc => ?_
        have := hO.few hq.1 hc
        omega
      · exact spr_err hD hX (by omega) (by omega) h3 pc hO he
    · exact spr_long n k pc hR h1 h2 (by omega)
  · exact spr_not n k pc h
end Go.Proofs.Ytcdmljlangbloaa
