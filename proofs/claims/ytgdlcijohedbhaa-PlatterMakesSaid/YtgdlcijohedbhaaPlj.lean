/- PlatterMakes walked: it returns true for any numbers. No condition. -/
import Derived.Test.YtgdlcijohedbhaaPli
namespace Go.Proofs.Ytgdlcijohedbhaa
open Go.RowKit
set_option linter.unusedVariables false
set_option maxRecDepth 20000
set_option linter.unusedSimpArgs false

set_option maxRecDepth 100000 in
set_option maxHeartbeats 4000000 in
theorem platmakes_no (W : World) (n s : Int) (h : n < 1 ∨ (1 ≤ n ∧ 1024 < n) ∨ (1 ≤ n ∧ n ≤ 1024 ∧ s < 1) ∨ (1 ≤ n ∧ n ≤ 1024 ∧ 1 ≤ s ∧ 4096 < s)) : Calls Try.prog 4 #[.int .i64 n, .int .i64 s] W (TruePost W) := by
  have HN := hide (pnew_no W n s (by omega))
  rcases h with h | ⟨h, h1⟩ | ⟨h, h1, h2⟩ | ⟨h, h1, h2, h3⟩
  all_goals
    go_enter Try.func4, Try.ntmps4
    go_wp2_with fail
    refine HN.out.mono ?_
    rintro e w ⟨rfl, rfl⟩
    go_wp2_with fail
    refine (plen_nil _).mono ?_
    rintro e w ⟨rfl, rfl⟩
    go_wp2_with fail
    refine (ploose_nil _).mono ?_
    rintro e w ⟨rfl, rfl⟩
    go_wp2_with fail
    refine (pcrash_nil _ 1 1).mono ?_
    rintro e w ⟨rfl, rfl⟩
    go_wp2_with fail
    refine (pread_nil _ 0).mono ?_
    rintro e w ⟨rfl, rfl⟩
    go_wp2_with fail
    refine (pwrite_nil _ 0 _).mono ?_
    rintro e w ⟨rfl, rfl⟩
    go_wp2_with fail
    refine (psync_nil _).mono ?_
    rintro e w ⟨rfl, rfl⟩
    go_wp2_with fail
    refine (pspoil_nil _ 0 0 1).mono ?_
    rintro e w ⟨rfl, rfl⟩
    go_wp2_with fail
    refine (pwipe_nil _ 0).mono ?_
    rintro e w ⟨rfl, rfl⟩
    go_wp2_with fail
    refine (awake11_any _).mono ?_
    rintro e w9 ⟨rfl, k9⟩
    go_wp2_with fail
    go_ret
    exact ⟨rfl, k9⟩
set_option maxRecDepth 100000 in
set_option maxHeartbeats 4000000 in
theorem platmakes_yes (W : World) (n s : Nat) (h1 : 1 ≤ n) (h2 : n ≤ 1024) (h3 : 1 ≤ s) (h4 : s ≤ 4096) : Calls Try.prog 4 #[.int .i64 (n : Int), .int .i64 (s : Int)] W (TruePost W) := by
  have HN := hide (pnew_yes W n s h1 h2 h3 h4)
  have HR : Hid ((Dk.new n s).rd ((n : Int) - 1) = []) := by
    show _ = _
    unfold Dk.rd
    split
    · show (List.replicate n []).getD _ [] = _
      rw [List.getD_eq_getElem?_getD, List.getElem?_replicate]
      split <;> rfl
    · rfl
  have HL : Hid ((Dk.new n s).cells.length = n) := by show _ = _; simp [Dk.new]
  go_enter Try.func4, Try.ntmps4
  go_wp2_with fail
  refine HN.out.mono ?_
  rintro e w ⟨g, rfl, hg, hD, k0⟩
  have HD := hide hD
  have HK := hide k0
  clear hg hD k0
  go_wp2_with fail
  refine (plen_nil _).mono ?_
  rintro e w ⟨rfl, rfl⟩
  go_wp2_with fail
  refine (ploose_nil _).mono ?_
  rintro e w ⟨rfl, rfl⟩
  go_wp2_with fail
  refine (pcrash_nil _ 1 1).mono ?_
  rintro e w ⟨rfl, rfl⟩
  go_wp2_with fail
  refine (pread_nil _ 0).mono ?_
  rintro e w ⟨rfl, rfl⟩
  go_wp2_with fail
  refine (pwrite_nil _ 0 _).mono ?_
  rintro e w ⟨rfl, rfl⟩
  go_wp2_with fail
  refine (psync_nil _).mono ?_
  rintro e w ⟨rfl, rfl⟩
  go_wp2_with fail
  refine (pspoil_nil _ 0 0 1).mono ?_
  rintro e w ⟨rfl, rfl⟩
  go_wp2_with fail
  refine (pwipe_nil _ 0).mono ?_
  rintro e w ⟨rfl, rfl⟩
  go_wp2_with fail
  refine (plen_any HD.out).mono ?_
  rintro e w2 ⟨rfl, k2⟩
  rw [HL.out]
  go_wp2_with fail
  refine (pread_any (HD.out.no k2) ((n : Int) - 1)).mono ?_
  rintro e w3 ⟨A3, n3, c3, rfl, ho3, k3⟩
  have hn3 : n3 = 0 := by rw [ho3.len, HR.out]; rfl
  subst hn3
  clear ho3
  go_wp2_with fail
  refine (awake11_any _).mono ?_
  rintro e w9 ⟨rfl, k9⟩
  go_wp2_with fail
  go_ret
  exact ⟨rfl, ((HK.out.trans' k2).trans' k3).trans' k9⟩
theorem platmakes_walk (W : World) (n s : Int) (hn : (Lit.int .i64 n).wf = true) (hs : (Lit.int .i64 s).wf = true) : Calls Try.prog 4 #[.int .i64 n, .int .i64 s] W fun e W' => e = .returned (.bool true) ∧ Below W.heap.size W W' := by
  by_cases h : 1 ≤ n ∧ n ≤ 1024 ∧ 1 ≤ s ∧ s ≤ 4096
  · obtain ⟨h1, h2, h3, h4⟩ := h
    obtain ⟨n, rfl⟩ := Int.eq_ofNat_of_zero_le (show 0 ≤ n by omega)
    obtain ⟨s, rfl⟩ := Int.eq_ofNat_of_zero_le (show 0 ≤ s by omega)
    exact (platmakes_yes W n s (by omega) (by omega) (by omega) (by omega)).mono fun e W' p => ⟨p.1, p.2.below0⟩
  · exact (platmakes_no W n s (by omega)).mono fun e W' p => ⟨p.1, p.2.below0⟩
end Go.Proofs.Ytgdlcijohedbhaa
