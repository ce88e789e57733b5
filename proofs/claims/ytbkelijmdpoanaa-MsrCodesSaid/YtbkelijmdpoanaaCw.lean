/- MsrCodes: which codes there are, and the row of every slot. -/
import Derived.Test.YtbkelijmdpoanaaEw
import Derived.Test.YtbkelijmdpoanaaDe
import Derived.Deep.RegionHeld3
namespace Go.Proofs.Ytbkelijmdpoanaa
open Go.RowKit
set_option linter.unusedVariables false
set_option linter.unusedSimpArgs false
set_option maxRecDepth 100000

set_option maxHeartbeats 4000000 in
theorem codes_no {w : World} (n k s : Int) (h : ¬ Rgt n k) (h1 : -9223372036854775808 ≤ k) (h2 : k ≤ 9223372036854775807) : Calls Try.prog 3 #[.int .i64 n, .int .i64 k, .int .i64 s] w (R6 w) := by
  have HN := hide (mnew_no n k w h h1 h2)
  have HR := hide (fun w => rright_no n k w h)
  clear h h1 h2
  go_enter Try.func3, Try.ntmps3
  go_wp2_with fail
  refine HN.out.mono ?_
  rintro e w1 ⟨rfl, hk⟩
  go_wp2_with fail
  refine (enc_nil _ _ _).mono ?_
  rintro e w' ⟨rfl, rfl⟩
  go_wp2_with fail
  refine (dec_nil _).mono ?_
  rintro e w' ⟨rfl, rfl⟩
  go_wp2_with fail
  refine (nn_nil _).mono ?_
  rintro e w' ⟨rfl, rfl⟩
  go_wp2_with fail
  refine (kk_nil _).mono ?_
  rintro e w' ⟨rfl, rfl⟩
  go_wp2_with fail
  refine (dd_nil _).mono ?_
  rintro e w' ⟨rfl, rfl⟩
  go_wp2_with fail
  refine (aa_nil _).mono ?_
  rintro e w' ⟨rfl, rfl⟩
  go_wp2_with fail
  refine (qq_nil _).mono ?_
  rintro e w' ⟨rfl, rfl⟩
  go_wp2_with fail
  refine (rowo_nil _).mono ?_
  rintro e w2 ⟨A2, n2, c2, rfl, ho2, hk2⟩
  obtain rfl : n2 = 0 := ho2.len
  have hk12 := (hk.trans' (Kp.alloc No _ _)).trans' hk2
  clear ho2
  go_wp2_with fail
  refine (HR.out _).mono ?_
  rintro e w' ⟨rfl, rfl⟩
  go_wp2_with fail
  refine (awake6_any _).mono ?_
  rintro e w9 ⟨rfl, k9⟩
  go_wp2_with fail
  go_ret
  exact ⟨rfl, (hk12.trans' k9).below0⟩
section
variable {w : World} {n k a d q : Nat} {x : Nat → UInt8}
set_option maxHeartbeats 4000000 in
theorem codes_out (s : Int) (hs : s < 0 ∨ (n : Int) ≤ s) (hD : Dim n k a d q) (hX : Pts n a x) : Calls Try.prog 3 #[.int .i64 (n : Int), .int .i64 (k : Int), .int .i64 s] w (R6 w) := by
  have HRow := hide (fun w' g (hC : CodeAt w' g n k x) => rowo_out hC s hs)
  have hR : Rgt (n : Int) (k : Int) := by have := hD.k_; have := hD.d_; have := hD.n1; have := hD.n2; have := hD.a1; have := hD.a7; unfold Rgt; omega
  have HN := hide (mnew_yes w hD hX)
  have HR := hide (fun w => rright_yes (n : Int) (k : Int) w hR)
  have HRows := hide (fun w => rrows_any w hD hX)
  have hn24 := hD.n2
  have hk8 : k ≤ 8 := by have := hD.k_; have := hD.a7; omega
  have hk2' : 2 ≤ k := by have := hD.k_; have := hD.a1; omega
  have H2K : Hid (2 * (k : Int) - 2 = (d : Int)) := by show 2 * (k : Int) - 2 = (d : Int); have := hD.k_; have := hD.d_; omega
  have HKA : Hid ((k : Int) - 1 = (a : Int)) := by show (k : Int) - 1 = (a : Int); have := hD.k_; omega
  have HKQ : Hid ((k : Int) * (a : Int) = (q : Int)) := by show (k : Int) * (a : Int) = (q : Int); rw [hD.k_, hD.q_, Int.natCast_mul]
  have hq := hD.q56
  have HD := hide hD
  have hd14 : d ≤ 14 := by have := hD.d_; have := hD.a7; omega
  obtain ⟨hq1, hq2, hq3⟩ := hq
  clear hD hX hR
  rcases Int.lt_or_le s 0 with hs0 | hs0
  · clear hs
    go_enter Try.func3, Try.ntmps3
    go_wp2_with fail
    refine HN.out.mono ?_
    rintro e w1 ⟨g, rfl, hC, hk⟩
    go_wp2_with fail
    refine (enc_nil _ _ _).mono ?_
    rintro e w' ⟨rfl, rfl⟩
    go_wp2_with fail
    refine (dec_nil _).mono ?_
    rintro e w' ⟨rfl, rfl⟩
    go_wp2_with fail
    refine (nn_nil _).mono ?_
    rintro e w' ⟨rfl, rfl⟩
    go_wp2_with fail
    refine (kk_nil _).mono ?_
    rintro e w' ⟨rfl, rfl⟩
    go_wp2_with fail
    refine (dd_nil _).mono ?_
    rintro e w' ⟨rfl, rfl⟩
    go_wp2_with fail
    refine (aa_nil _).mono ?_
    rintro e w' ⟨rfl, rfl⟩
    go_wp2_with fail
    refine (qq_nil _).mono ?_
    rintro e w' ⟨rfl, rfl⟩
    go_wp2_with fail
    refine (rowo_nil _).mono ?_
    rintro e w2 ⟨A2, n2, c2, rfl, ho2, hk2⟩
    obtain rfl : n2 = 0 := ho2.len
    have hk12 := (hk.trans' (Kp.alloc No _ _)).trans' hk2
    clear ho2
    go_wp2_with fail
    refine (HR.out _).mono ?_
    rintro e w' ⟨rfl, rfl⟩
    go_wp2_with fail
    refine (HRows.out w2).mono ?_
    rintro e w3 ⟨Ar, cr, rfl, hRr, hk3⟩
    have hk13 := hk12.trans' hk3
    have hC3 := (hC.no ((Kp.alloc No _ _).trans' hk2)).no hk3
    go_wp2_with fail
    refine (nn_any hC3).mono ?_
    rintro e w' ⟨rfl, rfl⟩
    go_wp2_with fail
    refine (kk_any hC3).mono ?_
    rintro e w' ⟨rfl, rfl⟩
    have h2k := H2K.out
    go_wp2_with fail
    refine (dd_any hC3 HD.out).mono ?_
    rintro e w' ⟨rfl, rfl⟩
    have hka := HKA.out
    go_wp2_with fail
    refine (aa_any hC3 HD.out).mono ?_
    rintro e w' ⟨rfl, rfl⟩
    have hkq := HKQ.out
    go_wp2_with fail
    refine (qq_any hC3 HD.out).mono ?_
    rintro e w' ⟨rfl, rfl⟩
    go_wp2_with fail
    clear h2k hka hkq
    refine (HRow.out _ _ hC3).mono ?_
    rintro e w4 ⟨A4, n4, c4, rfl, ho4, hk4⟩
    obtain rfl : n4 = 0 := ho4.len
    clear ho4
    go_wp2_with fail
    refine (awake6_any _).mono ?_
    rintro e w9 ⟨rfl, k9⟩
    go_wp2_with fail
    go_ret
    exact ⟨rfl, ((hk13.trans' hk4).trans' k9).below0⟩
  · have hs1 : (n : Int) ≤ s := by omega
    clear hs
    go_enter Try.func3, Try.ntmps3
    go_wp2_with fail
    refine HN.out.mono ?_
    rintro e w1 ⟨g, rfl, hC, hk⟩
    go_wp2_with fail
    refine (enc_nil _ _ _).mono ?_
    rintro e w' ⟨rfl, rfl⟩
    go_wp2_with fail
    refine (dec_nil _).mono ?_
    rintro e w' ⟨rfl, rfl⟩
    go_wp2_with fail
    refine (nn_nil _).mono ?_
    rintro e w' ⟨rfl, rfl⟩
    go_wp2_with fail
    refine (kk_nil _).mono ?_
    rintro e w' ⟨rfl, rfl⟩
    go_wp2_with fail
    refine (dd_nil _).mono ?_
    rintro e w' ⟨rfl, rfl⟩
    go_wp2_with fail
    refine (aa_nil _).mono ?_
    rintro e w' ⟨rfl, rfl⟩
    go_wp2_with fail
    refine (qq_nil _).mono ?_
    rintro e w' ⟨rfl, rfl⟩
    go_wp2_with fail
    refine (rowo_nil _).mono ?_
    rintro e w2 ⟨A2, n2, c2, rfl, ho2, hk2⟩
    obtain rfl : n2 = 0 := ho2.len
    have hk12 := (hk.trans' (Kp.alloc No _ _)).trans' hk2
    clear ho2
    go_wp2_with fail
    refine (HR.out _).mono ?_
    rintro e w' ⟨rfl, rfl⟩
    go_wp2_with fail
    refine (HRows.out w2).mono ?_
    rintro e w3 ⟨Ar, cr, rfl, hRr, hk3⟩
    have hk13 := hk12.trans' hk3
    have hC3 := (hC.no ((Kp.alloc No _ _).trans' hk2)).no hk3
    go_wp2_with fail
    refine (nn_any hC3).mono ?_
    rintro e w' ⟨rfl, rfl⟩
    go_wp2_with fail
    refine (kk_any hC3).mono ?_
    rintro e w' ⟨rfl, rfl⟩
    have h2k := H2K.out
    go_wp2_with fail
    refine (dd_any hC3 HD.out).mono ?_
    rintro e w' ⟨rfl, rfl⟩
    have hka := HKA.out
    go_wp2_with fail
    refine (aa_any hC3 HD.out).mono ?_
    rintro e w' ⟨rfl, rfl⟩
    have hkq := HKQ.out
    go_wp2_with fail
    refine (qq_any hC3 HD.out).mono ?_
    rintro e w' ⟨rfl, rfl⟩
    go_wp2_with fail
    clear h2k hka hkq
    refine (HRow.out _ _ hC3).mono ?_
    rintro e w4 ⟨A4, n4, c4, rfl, ho4, hk4⟩
    obtain rfl : n4 = 0 := ho4.len
    clear ho4
    go_wp2_with fail
    refine (awake6_any _).mono ?_
    rintro e w9 ⟨rfl, k9⟩
    go_wp2_with fail
    go_ret
    exact ⟨rfl, ((hk13.trans' hk4).trans' k9).below0⟩
set_option maxHeartbeats 8000000 in
theorem codes_in (s : Nat) (hs : s < n) (hD : Dim n k a d q) (hX : Pts n a x) : Calls Try.prog 3 #[.int .i64 (n : Int), .int .i64 (k : Int), .int .i64 (s : Int)] w (R6 w) := by
  have hD0 := hide hD
  obtain ⟨t, ht⟩ : ∃ t, t = strOf (rowL d (upw (x s))) := ⟨_, rfl⟩
  have HT := hide ht
  clear ht
  have hR : Rgt (n : Int) (k : Int) := by have := hD.k_; have := hD.d_; have := hD.n1; have := hD.n2; have := hD.a1; have := hD.a7; unfold Rgt; omega
  have HN := hide (mnew_yes w hD hX)
  have HR := hide (fun w => rright_yes (n : Int) (k : Int) w hR)
  have HRows := hide (fun w => rrows_any w hD hX)
  have hn24 := hD.n2
  have hk8 : k ≤ 8 := by have := hD.k_; have := hD.a7; omega
  have hk2' : 2 ≤ k := by have := hD.k_; have := hD.a1; omega
  have H2K : Hid (2 * (k : Int) - 2 = (d : Int)) := by show 2 * (k : Int) - 2 = (d : Int); have := hD.k_; have := hD.d_; omega
  have HKA : Hid ((k : Int) - 1 = (a : Int)) := by show (k : Int) - 1 = (a : Int); have := hD.k_; omega
  have HKQ : Hid ((k : Int) * (a : Int) = (q : Int)) := by show (k : Int) * (a : Int) = (q : Int); rw [hD.k_, hD.q_, Int.natCast_mul]
  have hq := hD.q56
  have HD := hide hD
  have hd14 : d ≤ 14 := by have := hD.d_; have := hD.a7; omega
  obtain ⟨hq1, hq2, hq3⟩ := hq
  clear hD hX hR
  go_enter Try.func3, Try.ntmps3
  go_wp2_with fail
  refine HN.out.mono ?_
  rintro e w1 ⟨g, rfl, hC, hk⟩
  go_wp2_with fail
  refine (enc_nil _ _ _).mono ?_
  rintro e w' ⟨rfl, rfl⟩
  go_wp2_with fail
  refine (dec_nil _).mono ?_
  rintro e w' ⟨rfl, rfl⟩
  go_wp2_with fail
  refine (nn_nil _).mono ?_
  rintro e w' ⟨rfl, rfl⟩
  go_wp2_with fail
  refine (kk_nil _).mono ?_
  rintro e w' ⟨rfl, rfl⟩
  go_wp2_with fail
  refine (dd_nil _).mono ?_
  rintro e w' ⟨rfl, rfl⟩
  go_wp2_with fail
  refine (aa_nil _).mono ?_
  rintro e w' ⟨rfl, rfl⟩
  go_wp2_with fail
  refine (qq_nil _).mono ?_
  rintro e w' ⟨rfl, rfl⟩
  go_wp2_with fail
  refine (rowo_nil _).mono ?_
  rintro e w2 ⟨A2, n2, c2, rfl, ho2, hk2⟩
  obtain rfl : n2 = 0 := ho2.len
  have hk12 := (hk.trans' (Kp.alloc No _ _)).trans' hk2
  clear ho2
  go_wp2_with fail
  refine (HR.out _).mono ?_
  rintro e w' ⟨rfl, rfl⟩
  go_wp2_with fail
  refine (HRows.out w2).mono ?_
  rintro e w3 ⟨Ar, cr, rfl, hRr, hk3⟩
  have hk13 := hk12.trans' hk3
  have hC3 := (hC.no ((Kp.alloc No _ _).trans' hk2)).no hk3
  go_wp2_with fail
  refine (nn_any hC3).mono ?_
  rintro e w' ⟨rfl, rfl⟩
  go_wp2_with fail
  refine (kk_any hC3).mono ?_
  rintro e w' ⟨rfl, rfl⟩
  have h2k := H2K.out
  go_wp2_with fail
  refine (dd_any hC3 HD.out).mono ?_
  rintro e w' ⟨rfl, rfl⟩
  have hka := HKA.out
  go_wp2_with fail
  refine (aa_any hC3 HD.out).mono ?_
  rintro e w' ⟨rfl, rfl⟩
  have hkq := HKQ.out
  go_wp2_with fail
  refine (qq_any hC3 HD.out).mono ?_
  rintro e w' ⟨rfl, rfl⟩
  go_wp2_with fail
  clear h2k hka hkq
  obtain ⟨B, off, A3, r3, c3, b3, rfl, z3, hb3, hB3⟩ := hRr.get hs
  rw [matL_get _ hs] at hb3
  injection hb3 with hb3
  subst hb3
  obtain rfl : d = r3 := by rw [hB3.len, rowL_len]
  have hS0 : w3.drew.cell? ⟨B, off + s, none⟩ = some (.slice A3 d c3) ∧ Bts w3.drew (.slice A3 d c3) (rowL d (upw (x s))) := ⟨by rw [(Sm.drew w3).cell]; exact z3, hB3.no (Sm.drew w3).kp⟩
  have hSno : ∀ {u v : World}, (u.cell? ⟨B, off + s, none⟩ = some (.slice A3 d c3) ∧ Bts u (.slice A3 d c3) (rowL d (upw (x s)))) → Kp No u v → (v.cell? ⟨B, off + s, none⟩ = some (.slice A3 d c3) ∧ Bts v (.slice A3 d c3) (rowL d (upw (x s)))) := fun h hk => ⟨hk.cell h.1 fun f => f, h.2.no hk⟩
  have hCd : CodeAt w3.drew g n k x := hC3.no (Sm.drew w3).kp
  have HRow := hide (fun w' (hC : CodeAt w' g n k x) => rowo_in hC hD0.out s hs)
  have hkd : Kp No w w3.drew := hk13.trans' (Sm.drew w3).kp
  clear hRr hB3 z3 hC3 hC hk hk2 hk3 hk12 hk13 HRows HR HN
  refine wp_region_noPanic ?_
  refine wp_region_held_drew (S := fun w' => w'.cell? ⟨B, off + s, none⟩ = some (.slice A3 d c3) ∧ Bts w' (.slice A3 d c3) (rowL d (upw (x s)))) (by kernel_rfl) (hS0) (fun hHeld => ?_)
  refine wpAnyH_take (i := 0) (v := ?vax1) (oi := ?oax1) ?hax1 (by kernel_rfl) (by kernel_rfl) (by kernel_rfl) (fun _ _ _ h => h) (Or.inl ⟨?wax1, ?yax1⟩) hHeld ?rax1
  case hax1 => simp only [List.getElem?_toArray, List.getElem?_cons_zero, List.getElem?_cons_succ]; rfl
  case wax1 => rfl
  case yax1 => intro w hSw; (try dsimp only at hSw); go_simp; (try with_reducible rfl)
  simp only [Act.put, List.setIfInBounds_toArray, List.set_cons_zero, List.set_cons_succ]
  refine wpAnyH_take (i := 1) (v := ?vax2) (oi := ?oax2) ?hax2 (by kernel_rfl) (by kernel_rfl) (by kernel_rfl) (fun _ _ _ h => h) (Or.inl ⟨?wax2, ?yax2⟩) hHeld ?rax2
  case hax2 => simp only [List.getElem?_toArray, List.getElem?_cons_zero, List.getElem?_cons_succ]; rfl
  case wax2 => rfl
  case yax2 => intro w hSw; (try dsimp only at hSw); go_simp; (try with_reducible rfl)
  simp only [Act.put, List.setIfInBounds_toArray, List.set_cons_zero, List.set_cons_succ]
  refine wpAnyH_take (i := 4) (v := ?vax3) (oi := ?oax3) ?hax3 (by kernel_rfl) (by kernel_rfl) (by kernel_rfl) (fun _ _ _ h => h) (Or.inl ⟨?wax3, ?yax3⟩) hHeld ?rax3
  case hax3 => simp only [List.getElem?_toArray, List.getElem?_cons_zero, List.getElem?_cons_succ]; rfl
  case wax3 => rfl
  case yax3 => intro w hSw; (try dsimp only at hSw); go_simp; (try with_reducible rfl)
  simp only [Act.put, List.setIfInBounds_toArray, List.set_cons_zero, List.set_cons_succ]
  refine wpAnyH_take (i := 5) (v := ?vax4) (oi := ?oax4) ?hax4 (by kernel_rfl) (by kernel_rfl) (by kernel_rfl) (fun _ _ _ h => h) (Or.inl ⟨?wax4, ?yax4⟩) hHeld ?rax4
  case hax4 => simp only [List.getElem?_toArray, List.getElem?_cons_zero, List.getElem?_cons_succ]; rfl
  case wax4 => rfl
  case yax4 => intro w hSw; (try dsimp only at hSw); go_simp; (try with_reducible rfl)
  simp only [Act.put, List.setIfInBounds_toArray, List.set_cons_zero, List.set_cons_succ]
  refine wpAnyH_take (i := 6) (v := ?vax5) (oi := ?oax5) ?hax5 (by kernel_rfl) (by kernel_rfl) (by kernel_rfl) (fun _ _ _ h => h) (Or.inl ⟨?wax5, ?yax5⟩) hHeld ?rax5
  case hax5 => simp only [List.getElem?_toArray, List.getElem?_cons_zero, List.getElem?_cons_succ]; rfl
  case wax5 => rfl
  case yax5 => intro w hSw; (try dsimp only at hSw); go_simp; (try with_reducible rfl)
  simp only [Act.put, List.setIfInBounds_toArray, List.set_cons_zero, List.set_cons_succ]
  refine wpAnyH_take (i := 7) (v := ?vax6) (oi := ?oax6) ?hax6 (by kernel_rfl) (by kernel_rfl) (by kernel_rfl) (fun _ _ _ h => h) (Or.inl ⟨?wax6, ?yax6⟩) hHeld ?rax6
  case hax6 => simp only [List.getElem?_toArray, List.getElem?_cons_zero, List.getElem?_cons_succ]; rfl
  case wax6 => rfl
  case yax6 => intro w hSw; (try dsimp only at hSw); go_simp; (try with_reducible rfl)
  simp only [Act.put, List.setIfInBounds_toArray, List.set_cons_zero, List.set_cons_succ]
  refine wpAnyH_ready (rs := [2, 8]) (by kernel_rfl) (by simp) ?_
  refine (AllReadyH.cons (o := ?oax8) ?hax8 (fun K hK => ?sax8) (AllReadyH.cons (o := ?oax9) ?hax9 (fun K hK => ?sax9) AllReadyH.nil))
  case hax8 => simp only [List.getElem?_toArray, List.getElem?_cons_zero, List.getElem?_cons_succ]; rfl
  case hax9 => simp only [List.getElem?_toArray, List.getElem?_cons_zero, List.getElem?_cons_succ]; rfl
  case sax8 =>
    go_simp
    refine (HRow.out _ (by assumption)).mono ?_
    rintro e w5 ⟨A5, n5, c5, rfl, ho5, hk5⟩
    have hx := hSno hHeld hk5
    go_wp2_with fail
    refine hK.out _ _ (hx) (fun hHeld => ?_)
    clear hK K
    try simp only [Act.put, List.setIfInBounds_toArray, List.set_cons_zero, List.set_cons_succ]
    refine wpAnyH_ready (rs := [3, 8]) (by kernel_rfl) (by simp) ?_
    refine (AllReadyH.cons (o := ?oax11) ?hax11 (fun K hK => ?sax11) (AllReadyH.cons (o := ?oax12) ?hax12 (fun K hK => ?sax12) AllReadyH.nil))
    case hax11 => simp only [List.getElem?_toArray, List.getElem?_cons_zero, List.getElem?_cons_succ]; rfl
    case hax12 => simp only [List.getElem?_toArray, List.getElem?_cons_zero, List.getElem?_cons_succ]; rfl
    case sax11 =>
      have v3 := conv_bts ho5.bts
      rw [← HT.out] at v3
      go_simp
      refine hK.out _ _ (hHeld) (fun hHeld => ?_)
      clear hK K
      try simp only [Act.put, List.setIfInBounds_toArray, List.set_cons_zero, List.set_cons_succ]
      refine wpAnyH_ready (rs := [8]) (by kernel_rfl) (by simp) ?_
      refine AllReadyH.cons (o := ?oax13) ?hax13 (fun K hK => ?sax13) AllReadyH.nil
      case hax13 => simp only [List.getElem?_toArray, List.getElem?_cons_zero, List.getElem?_cons_succ]; rfl
      have v8 := conv_bts hHeld.2
      rw [← HT.out] at v8
      go_simp
      refine hK.out _ _ (hHeld) (fun hHeld => ?_)
      clear hK K
      try simp only [Act.put, List.setIfInBounds_toArray, List.set_cons_zero, List.set_cons_succ]
      refine wpAnyH_take (i := 9) (v := ?vax14) (oi := ?oax14) ?hax14 (by kernel_rfl) (by kernel_rfl) (by kernel_rfl) (fun _ _ _ h => h) (Or.inl ⟨?wax14, ?yax14⟩) hHeld ?rax14
      case hax14 => simp only [List.getElem?_toArray, List.getElem?_cons_zero, List.getElem?_cons_succ]; rfl
      case wax14 => rfl
      case yax14 => intro w hSw; (try dsimp only at hSw); go_simp; (try with_reducible rfl)
      simp only [Act.put, List.setIfInBounds_toArray, List.set_cons_zero, List.set_cons_succ]
      refine wpAnyH_take (i := 10) (v := ?vax15) (oi := ?oax15) ?hax15 (by kernel_rfl) (by kernel_rfl) (by kernel_rfl) (fun _ _ _ h => h) (Or.inl ⟨?wax15, ?yax15⟩) hHeld ?rax15
      case hax15 => simp only [List.getElem?_toArray, List.getElem?_cons_zero, List.getElem?_cons_succ]; rfl
      case wax15 => rfl
      case yax15 => intro w hSw; (try dsimp only at hSw); go_simp; (try with_reducible rfl)
      simp only [Act.put, List.setIfInBounds_toArray, List.set_cons_zero, List.set_cons_succ]
      refine wpAnyH_ready (rs := [11]) (by kernel_rfl) (by simp) ?_
      refine AllReadyH.cons (o := ?oax16) ?hax16 (fun K hK => ?sax16) AllReadyH.nil
      case hax16 => simp only [List.getElem?_toArray, List.getElem?_cons_zero, List.getElem?_cons_succ]; rfl
      go_simp
      refine (awake6_any _).mono ?_
      rintro e w9 ⟨rfl, k9⟩
      have hx9 := hSno hHeld k9
      go_wp2_with fail
      refine hK.out _ _ (hx9) (fun hHeld => ?_)
      clear hK K
      try simp only [Act.put, List.setIfInBounds_toArray, List.set_cons_zero, List.set_cons_succ]
      refine wpAnyH_take (i := 12) (v := ?vax17) (oi := ?oax17) ?hax17 (by kernel_rfl) (by kernel_rfl) (by kernel_rfl) (fun _ _ _ h => h) (Or.inl ⟨?wax17, ?yax17⟩) hHeld ?rax17
      case hax17 => simp only [List.getElem?_toArray, List.getElem?_cons_zero, List.getElem?_cons_succ]; rfl
      case wax17 => rfl
      case yax17 => intro w hSw; (try dsimp only at hSw); go_simp; (try with_reducible rfl)
      simp only [Act.put, List.setIfInBounds_toArray, List.set_cons_zero, List.set_cons_succ]
      refine wpAnyH_ready (rs := [13]) (by kernel_rfl) (by simp) ?_
      refine AllReadyH.cons (o := ?oax18) ?hax18 (fun K hK => ?sax18) AllReadyH.nil
      case hax18 => simp only [List.getElem?_toArray, List.getElem?_cons_zero, List.getElem?_cons_succ]; rfl
      go_simp
      refine hK.out _ _ (hHeld) (fun hHeld => ?_)
      clear hK K
      try simp only [Act.put, List.setIfInBounds_toArray, List.set_cons_zero, List.set_cons_succ]
      refine wpAnyH_done (by kernel_rfl) ?_ _
      refine NoPanic.normal ?_
      go_wp2_with fail
      go_ret
      exact ⟨rfl, ((hkd.trans' hk5).trans' k9).below0⟩
    case sax12 =>
      have v8 := conv_bts hHeld.2
      rw [← HT.out] at v8
      go_simp
      refine hK.out _ _ (hHeld) (fun hHeld => ?_)
      clear hK K
      try simp only [Act.put, List.setIfInBounds_toArray, List.set_cons_zero, List.set_cons_succ]
      refine wpAnyH_ready (rs := [3]) (by kernel_rfl) (by simp) ?_
      refine AllReadyH.cons (o := ?oax20) ?hax20 (fun K hK => ?sax20) AllReadyH.nil
      case hax20 => simp only [List.getElem?_toArray, List.getElem?_cons_zero, List.getElem?_cons_succ]; rfl
      have v3 := conv_bts ho5.bts
      rw [← HT.out] at v3
      go_simp
      refine hK.out _ _ (hHeld) (fun hHeld => ?_)
      clear hK K
      try simp only [Act.put, List.setIfInBounds_toArray, List.set_cons_zero, List.set_cons_succ]
      refine wpAnyH_take (i := 9) (v := ?vax21) (oi := ?oax21) ?hax21 (by kernel_rfl) (by kernel_rfl) (by kernel_rfl) (fun _ _ _ h => h) (Or.inl ⟨?wax21, ?yax21⟩) hHeld ?rax21
      case hax21 => simp only [List.getElem?_toArray, List.getElem?_cons_zero, List.getElem?_cons_succ]; rfl
      case wax21 => rfl
      case yax21 => intro w hSw; (try dsimp only at hSw); go_simp; (try with_reducible rfl)
      simp only [Act.put, List.setIfInBounds_toArray, List.set_cons_zero, List.set_cons_succ]
      refine wpAnyH_take (i := 10) (v := ?vax22) (oi := ?oax22) ?hax22 (by kernel_rfl) (by kernel_rfl) (by kernel_rfl) (fun _ _ _ h => h) (Or.inl ⟨?wax22, ?yax22⟩) hHeld ?rax22
      case hax22 => simp only [List.getElem?_toArray, List.getElem?_cons_zero, List.getElem?_cons_succ]; rfl
      case wax22 => rfl
      case yax22 => intro w hSw; (try dsimp only at hSw); go_simp; (try with_reducible rfl)
      simp only [Act.put, List.setIfInBounds_toArray, List.set_cons_zero, List.set_cons_succ]
      refine wpAnyH_ready (rs := [11]) (by kernel_rfl) (by simp) ?_
      refine AllReadyH.cons (o := ?oax23) ?hax23 (fun K hK => ?sax23) AllReadyH.nil
      case hax23 => simp only [List.getElem?_toArray, List.getElem?_cons_zero, List.getElem?_cons_succ]; rfl
      go_simp
      refine (awake6_any _).mono ?_
      rintro e w9 ⟨rfl, k9⟩
      have hx9 := hSno hHeld k9
      go_wp2_with fail
      refine hK.out _ _ (hx9) (fun hHeld => ?_)
      clear hK K
      try simp only [Act.put, List.setIfInBounds_toArray, List.set_cons_zero, List.set_cons_succ]
      refine wpAnyH_take (i := 12) (v := ?vax24) (oi := ?oax24) ?hax24 (by kernel_rfl) (by kernel_rfl) (by kernel_rfl) (fun _ _ _ h => h) (Or.inl ⟨?wax24, ?yax24⟩) hHeld ?rax24
      case hax24 => simp only [List.getElem?_toArray, List.getElem?_cons_zero, List.getElem?_cons_succ]; rfl
      case wax24 => rfl
      case yax24 => intro w hSw; (try dsimp only at hSw); go_simp; (try with_reducible rfl)
      simp only [Act.put, List.setIfInBounds_toArray, List.set_cons_zero, List.set_cons_succ]
      refine wpAnyH_ready (rs := [13]) (by kernel_rfl) (by simp) ?_
      refine AllReadyH.cons (o := ?oax25) ?hax25 (fun K hK => ?sax25) AllReadyH.nil
      case hax25 => simp only [List.getElem?_toArray, List.getElem?_cons_zero, List.getElem?_cons_succ]; rfl
      go_simp
      refine hK.out _ _ (hHeld) (fun hHeld => ?_)
      clear hK K
      try simp only [Act.put, List.setIfInBounds_toArray, List.set_cons_zero, List.set_cons_succ]
      refine wpAnyH_done (by kernel_rfl) ?_ _
      refine NoPanic.normal ?_
      go_wp2_with fail
      go_ret
      exact ⟨rfl, ((hkd.trans' hk5).trans' k9).below0⟩
  case sax9 =>
    have v8 := conv_bts hHeld.2
    rw [← HT.out] at v8
    go_simp
    refine hK.out _ _ (hHeld) (fun hHeld => ?_)
    clear hK K
    try simp only [Act.put, List.setIfInBounds_toArray, List.set_cons_zero, List.set_cons_succ]
    refine wpAnyH_ready (rs := [2]) (by kernel_rfl) (by simp) ?_
    refine AllReadyH.cons (o := ?oax27) ?hax27 (fun K hK => ?sax27) AllReadyH.nil
    case hax27 => simp only [List.getElem?_toArray, List.getElem?_cons_zero, List.getElem?_cons_succ]; rfl
    go_simp
    refine (HRow.out _ (by assumption)).mono ?_
    rintro e w5 ⟨A5, n5, c5, rfl, ho5, hk5⟩
    have hx := hSno hHeld hk5
    go_wp2_with fail
    refine hK.out _ _ (hx) (fun hHeld => ?_)
    clear hK K
    try simp only [Act.put, List.setIfInBounds_toArray, List.set_cons_zero, List.set_cons_succ]
    refine wpAnyH_ready (rs := [3]) (by kernel_rfl) (by simp) ?_
    refine AllReadyH.cons (o := ?oax28) ?hax28 (fun K hK => ?sax28) AllReadyH.nil
    case hax28 => simp only [List.getElem?_toArray, List.getElem?_cons_zero, List.getElem?_cons_succ]; rfl
    have v3 := conv_bts ho5.bts
    rw [← HT.out] at v3
    go_simp
    refine hK.out _ _ (hHeld) (fun hHeld => ?_)
    clear hK K
    try simp only [Act.put, List.setIfInBounds_toArray, List.set_cons_zero, List.set_cons_succ]
    refine wpAnyH_take (i := 9) (v := ?vax29) (oi := ?oax29) ?hax29 (by kernel_rfl) (by kernel_rfl) (by kernel_rfl) (fun _ _ _ h => h) (Or.inl ⟨?wax29, ?yax29⟩) hHeld ?rax29
    case hax29 => simp only [List.getElem?_toArray, List.getElem?_cons_zero, List.getElem?_cons_succ]; rfl
    case wax29 => rfl
    case yax29 => intro w hSw; (try dsimp only at hSw); go_simp; (try with_reducible rfl)
    simp only [Act.put, List.setIfInBounds_toArray, List.set_cons_zero, List.set_cons_succ]
    refine wpAnyH_take (i := 10) (v := ?vax30) (oi := ?oax30) ?hax30 (by kernel_rfl) (by kernel_rfl) (by kernel_rfl) (fun _ _ _ h => h) (Or.inl ⟨?wax30, ?yax30⟩) hHeld ?rax30
    case hax30 => simp only [List.getElem?_toArray, List.getElem?_cons_zero, List.getElem?_cons_succ]; rfl
    case wax30 => rfl
    case yax30 => intro w hSw; (try dsimp only at hSw); go_simp; (try with_reducible rfl)
    simp only [Act.put, List.setIfInBounds_toArray, List.set_cons_zero, List.set_cons_succ]
    refine wpAnyH_ready (rs := [11]) (by kernel_rfl) (by simp) ?_
    refine AllReadyH.cons (o := ?oax31) ?hax31 (fun K hK => ?sax31) AllReadyH.nil
    case hax31 => simp only [List.getElem?_toArray, List.getElem?_cons_zero, List.getElem?_cons_succ]; rfl
    go_simp
    refine (awake6_any _).mono ?_
    rintro e w9 ⟨rfl, k9⟩
    have hx9 := hSno hHeld k9
    go_wp2_with fail
    refine hK.out _ _ (hx9) (fun hHeld => ?_)
    clear hK K
    try simp only [Act.put, List.setIfInBounds_toArray, List.set_cons_zero, List.set_cons_succ]
    refine wpAnyH_take (i := 12) (v := ?vax32) (oi := ?oax32) ?hax32 (by kernel_rfl) (by kernel_rfl) (by kernel_rfl) (fun _ _ _ h => h) (Or.inl ⟨?wax32, ?yax32⟩) hHeld ?rax32
    case hax32 => simp only [List.getElem?_toArray, List.getElem?_cons_zero, List.getElem?_cons_succ]; rfl
    case wax32 => rfl
    case yax32 => intro w hSw; (try dsimp only at hSw); go_simp; (try with_reducible rfl)
    simp only [Act.put, List.setIfInBounds_toArray, List.set_cons_zero, List.set_cons_succ]
    refine wpAnyH_ready (rs := [13]) (by kernel_rfl) (by simp) ?_
    refine AllReadyH.cons (o := ?oax33) ?hax33 (fun K hK => ?sax33) AllReadyH.nil
    case hax33 => simp only [List.getElem?_toArray, List.getElem?_cons_zero, List.getElem?_cons_succ]; rfl
    go_simp
    refine hK.out _ _ (hHeld) (fun hHeld => ?_)
    clear hK K
    try simp only [Act.put, List.setIfInBounds_toArray, List.set_cons_zero, List.set_cons_succ]
    refine wpAnyH_done (by kernel_rfl) ?_ _
    refine NoPanic.normal ?_
    go_wp2_with fail
    go_ret
    exact ⟨rfl, ((hkd.trans' hk5).trans' k9).below0⟩
end
theorem msrcodes_walk (n k s : Int) (_ : (Lit.int .i64 n).wf = true) (hk : (Lit.int .i64 k).wf = true) (_ : (Lit.int .i64 s).wf = true) (w : World) : Calls Try.prog 3 #[.int .i64 n, .int .i64 k, .int .i64 s] w fun e w' => e = .returned (.bool true) ∧ Below w.heap.size w w' := by
  show Calls _ _ _ _ (R6 w)
  obtain ⟨b1, b2⟩ := of_wf_i64 hk
  by_cases h : Rgt n k
  · obtain ⟨r1, r2, r3, r4⟩ := h
    obtain ⟨n', rfl⟩ : ∃ n' : Nat, n = n' := ⟨n.toNat, by omega⟩
    obtain ⟨k', rfl⟩ : ∃ k' : Nat, k = k' := ⟨k.toNat, by omega⟩
    obtain ⟨a, d, q, hD⟩ := dim_of (n := n') (k := k') (by omega) (by omega) (by omega) (by omega)
    obtain ⟨x, hX⟩ := pts_ex (n := n') hD.a1 hD.a7 hD.n2
    by_cases hs : s < 0 ∨ (n' : Int) ≤ s
    · exact codes_out s hs hD hX
    · obtain ⟨s', rfl⟩ : ∃ s' : Nat, s = s' := ⟨s.toNat, by omega⟩
      exact codes_in s' (by omega) hD hX
  · exact codes_no n k s h b1 b2
end Go.Proofs.Ytbkelijmdpoanaa
