/- MsrEncodes: all shards of every message, or that its length doesn't fit. -/
import Derived.Test.YtbkelijmdpoanaaEn
import Derived.Test.YtbkelijmdpoanaaRr
namespace Go.Proofs.Ytbkelijmdpoanaa
open Go.RowKit
set_option linter.unusedVariables false
set_option linter.unusedSimpArgs false
set_option maxRecDepth 100000

/-- A law's end. -/
def R6 (w : World) (e : Ending) (w1 : World) : Prop := e = .returned (.bool true) ∧ Below w.heap.size w w1
theorem rs6_any {w : World} {A A' : Option Addr} {n n' cp cp' : Nat} {bss bss' : List (List UInt8)} (h : Rws w A n bss) (h' : Rws w A' n' bss') (hn : n ≤ 1000000) (hn' : n' ≤ 1000000) : Calls Try.prog 21 #[.slice A n cp, .slice A' n' cp'] w fun e w' => e = .returned (.bool (eqR bss bss')) ∧ Sm w w' := by
  have hs := rsame_any (cp := cp) (cp' := cp') h h' hn hn'
  go_enter Try.func21, Try.ntmps21
  go_wp2_with fail
  refine hs.mono ?_
  rintro e w1 ⟨rfl, hs1⟩
  go_wp2_with fail
  go_ret
  exact ⟨rfl, hs1⟩
theorem eqR_self (b : List (List UInt8)) : eqR b b = true := decide_eq_true rfl
section
variable {w : World} {A : Option Addr} {m c : Nat} {bs : List UInt8}
theorem enc_notsmall (n k : Int) (h : ¬ (Rgt n k ∧ n ≤ 12 ∧ k ≤ 4)) : Calls Try.prog 4 #[.int .i64 n, .int .i64 k, .slice A m c] w (R6 w) := by
  have hs := small6_no n k w h
  clear h
  go_enter Try.func4, Try.ntmps4
  go_wp2_with fail
  refine hs.mono ?_
  rintro e w' ⟨rfl, rfl⟩
  go_wp2_with fail
  refine (awake6_any _).mono ?_
  rintro e w9 ⟨rfl, k9⟩
  go_wp2_with fail
  go_ret
  exact ⟨rfl, k9.below0⟩
theorem enc_long (n k : Int) (h : Rgt n k) (h1 : n ≤ 12) (h2 : k ≤ 4) (hm : 200 < m) : Calls Try.prog 4 #[.int .i64 n, .int .i64 k, .slice A m c] w (R6 w) := by
  have hs := small6_yes n k w h h1 h2
  clear h
  go_enter Try.func4, Try.ntmps4
  go_wp2_with fail
  refine hs.mono ?_
  rintro e w' ⟨rfl, rfl⟩
  go_wp2_with fail
  refine (awake6_any _).mono ?_
  rintro e w9 ⟨rfl, k9⟩
  go_wp2_with fail
  go_ret
  exact ⟨rfl, k9.below0⟩
theorem encw_no {n k a d q : Nat} {x : Nat → UInt8} (hD : Dim n k a d q) (hX : Pts n a x) (h1 : n ≤ 12) (h2 : k ≤ 4) (hm : m ≤ 200) (hf : m = 0 ∨ m % q ≠ 0) : Calls Try.prog 4 #[.int .i64 (n : Int), .int .i64 (k : Int), .slice A m c] w (R6 w) := by
  have hR : Rgt (n : Int) (k : Int) := by have := hD.k_; have := hD.d_; have := hD.n1; have := hD.a1; unfold Rgt; omega
  have hs := small6_yes (n : Int) (k : Int) w hR (by omega) (by omega)
  have HN := hide (mnew_yes w hD hX)
  have HE := hide (fun w' g (hC : CodeAt w' g n k x) => enc_no (w := w') (A := A) (cp := c) hC hD hf (by omega))
  have HRE := hide (fun w' => renc_no (w := w') (n := (n : Int)) (A := A) (c := c) hD.k_ hD.q_ hD.a1 hD.a7 hf (by omega))
  clear hD hX hR hf
  go_enter Try.func4, Try.ntmps4
  go_wp2_with fail
  refine hs.mono ?_
  rintro e w' ⟨rfl, rfl⟩
  go_wp2_with fail
  refine HN.out.mono ?_
  rintro e w1 ⟨g, rfl, hC, hk⟩
  go_wp2_with fail
  refine (HE.out w1 g hC).mono ?_
  rintro e w' ⟨rfl, rfl⟩
  go_wp2_with fail
  refine (HRE.out w1).mono ?_
  rintro e w' ⟨rfl, rfl⟩
  go_wp2_with fail
  refine (rs6_any (Rws.nil w1) (Rws.nil w1) (by omega) (by omega)).mono ?_
  rintro e w2 ⟨rfl, hs2⟩
  rw [eqR_self]
  go_wp2_with fail
  refine (awake6_any _).mono ?_
  rintro e w9 ⟨rfl, k9⟩
  go_wp2_with fail
  go_ret
  exact ⟨rfl, ((hk.trans' hs2.kp).trans' k9).below0⟩
theorem encw_yes {n k a d q L : Nat} {x : Nat → UInt8} (hB : Bts w (.slice A m c) bs) (hD : Dim n k a d q) (hX : Pts n a x) (h1 : n ≤ 12) (h2 : k ≤ 4) (hm : m ≤ 200) (hf : m = q * L) (hL : 1 ≤ L) : Calls Try.prog 4 #[.int .i64 (n : Int), .int .i64 (k : Int), .slice A m c] w (R6 w) := by
  have hR : Rgt (n : Int) (k : Int) := by have := hD.k_; have := hD.d_; have := hD.n1; have := hD.a1; unfold Rgt; omega
  have hs := small6_yes (n : Int) (k : Int) w hR (by omega) (by omega)
  have HN := hide (mnew_yes w hD hX)
  have HE := hide (fun w' g (hk : Kp No w w') (hC : CodeAt w' g n k x) => enc_yes (L := L) hC hD (hB.no hk) hf (by omega) hL)
  have HRE := hide (fun w' (hk : Kp No w w') => renc_yes (L := L) hD hX (hB.no hk) hf (by omega) hL)
  clear hD hX hR hf
  go_enter Try.func4, Try.ntmps4
  go_wp2_with fail
  refine hs.mono ?_
  rintro e w' ⟨rfl, rfl⟩
  go_wp2_with fail
  refine HN.out.mono ?_
  rintro e w1 ⟨g, rfl, hC, hk⟩
  go_wp2_with fail
  refine (HE.out w1 g hk hC).mono ?_
  rintro e w2 ⟨A2, c2, rfl, hR2, hk2⟩
  have hk2' := hk.trans' hk2
  go_wp2_with fail
  refine (HRE.out w2 hk2').mono ?_
  rintro e w3 ⟨A3, c3, rfl, hR3, hk3⟩
  go_wp2_with fail
  refine (rs6_any (hR2.no hk3) hR3 (by omega) (by omega)).mono ?_
  rintro e w4 ⟨rfl, hs4⟩
  rw [eqR_self]
  go_wp2_with fail
  refine (awake6_any _).mono ?_
  rintro e w9 ⟨rfl, k9⟩
  go_wp2_with fail
  go_ret
  exact ⟨rfl, (((hk2'.trans' hk3).trans' hs4.kp).trans' k9).below0⟩
end
theorem msrencodes_walk {w : World} {A : Option Addr} {m c : Nat} {bs : List UInt8} (n k : Int) (hB : Bts w (.slice A m c) bs) : Calls Try.prog 4 #[.int .i64 n, .int .i64 k, .slice A m c] w fun e w' => e = .returned (.bool true) ∧ Below w.heap.size w w' := by
  show Calls _ _ _ _ (R6 w)
  by_cases h : Rgt n k ∧ n ≤ 12 ∧ k ≤ 4
  · obtain ⟨hR, h1, h2⟩ := h
    by_cases hm : m ≤ 200
    · obtain ⟨r1, r2, r3, r4⟩ := hR
      obtain ⟨n', rfl⟩ : ∃ n' : Nat, n = n' := ⟨n.toNat, by omega⟩
      obtain ⟨k', rfl⟩ : ∃ k' : Nat, k = k' := ⟨k.toNat, by omega⟩
      obtain ⟨a, d, q, hD⟩ := dim_of (n := n') (k := k') (by omega) (by omega) (by omega) (by omega)
      obtain ⟨x, hX⟩ := pts_ex (n := n') hD.a1 hD.a7 hD.n2
      have hq := hD.q56
      by_cases hf : m = 0 ∨ m % q ≠ 0
      · exact encw_no hD hX (by omega) (by omega) hm hf
      · have hf1 : m % q = 0 := by omega
        have hdv : m = q * (m / q) := by have := Nat.div_add_mod m q; omega
        refine encw_yes hB hD hX (by omega) (by omega) hm hdv ?_
        rcases Nat.eq_zero_or_pos (m / q) with e | e
        · rw [e, Nat.mul_zero] at hdv; omega
        · exact e
    · exact enc_long n k hR h1 h2 (by omega)
  · exact enc_notsmall n k h
end Go.Proofs.Ytbkelijmdpoanaa
