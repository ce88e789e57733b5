/- The document's Rank, and law04's rows, small and awake, each as a contract over memory. -/
import Derived.Test.YtcjenpkbfahiaaaRs
import Derived.Test.YtcjenpkbfahiaaaSs
namespace Go.Proofs.Ytcjenpkbfahiaaa
open Go.RowKit
set_option linter.unusedVariables false

/-- Is one of the first q not nought? -/
def anyB (s : Nat → UInt8) : Nat → Bool
  | 0 => false
  | q + 1 => anyB s q || decide (s q ≠ 0)
theorem anyB_yes {s : Nat → UInt8} {j : Nat} (h : s j ≠ 0) : ∀ q, j < q → anyB s q = true
  | 0, hj => absurd hj (Nat.not_lt_zero _)
  | q + 1, hj => by
    rw [anyB]
    by_cases e : j = q
    · subst e
      simp [h]
    · rw [anyB_yes h q (by omega), Bool.true_or]
theorem anyB_no {s : Nat → UInt8} : ∀ q, (∀ j, j < q → s j = 0) → anyB s q = false
  | 0, _ => rfl
  | q + 1, h => by
    rw [anyB, anyB_no q fun j hj => h j (by omega)]
    simp [h q (by omega)]
theorem anyB_row {n c i : Nat} (f : Nat → Nat → UInt8) (hi : i < n) : anyB ((redS n f c).f i) c = decide (i < (redS n f c).rk) := by
  by_cases h : i < (redS n f c).rk
  · obtain ⟨j, hj, hne⟩ := redS_some f h
    rw [anyB_yes hne c hj, decide_eq_true h]
  · rw [anyB_no c fun j hj => redS_zero f (by omega) hi hj, decide_eq_false h]

set_option maxHeartbeats 2000000 in
theorem rrank_any {w : World} {A : Option Addr} {n c cp : Nat} {bss : List (List UInt8)} (h : Rws w A n bss) (hR : Rect bss n c) : Calls Try.prog 14 #[.slice A n cp] w fun e w' => e = .returned (.int .i64 ((redS n (fnL bss) c).rk : Int)) ∧ Kp No w w' := by
  have hn1 := hR.r1
  have hn2 := hR.r2
  have hc1 := hR.c1
  have hc2 := hR.c2
  have hle := (redS_le n (fnL bss) c).1
  have HA : Hid (∀ i, i < n → anyB ((redS n (fnL bss) c).f i) c = decide (i < (redS n (fnL bss) c).rk)) := fun i hi => anyB_row _ hi
  have hst := rsteps_any (cp := cp) h hR
  clear h hR
  obtain ⟨s, hs⟩ : ∃ s, s = redS n (fnL bss) c := ⟨_, rfl⟩
  rw [← hs] at hle HA ⊢
  have HS := hide hs
  clear hs
  go_enter Try.func14, Try.ntmps14
  go_wp2_with fail
  refine hst.mono ?_
  rintro e w1 ⟨g, hv, cp1, rfl, hG, hk⟩
  rw [← HS.out] at hG
  go_wp2_with fail
  go_loop [4, 5] (fun cnt i => ∃ k : Nat, k ≤ n ∧ cnt = .int .i64 ((min k s.rk : Nat) : Int) ∧ i = .int .i64 (k : Int)) (fun _ i => n - (intOf i).toNat)
  case atStart => exact ⟨0, Nat.zero_le _, by rw [Nat.zero_min]; rfl, rfl⟩
  case round =>
    obtain ⟨k, hk', rfl, rfl⟩ := hrel
    by_cases hlt : k < n
    · obtain ⟨b, cb, e1, _, hRw, _, _⟩ := hG.at_ (by omega) hlt
      have x1 := hG.out.cell hlt
      rw [e1] at x1
      have HK := hide (HA.out k hlt)
      clear e1
      obtain ⟨m, hm⟩ : ∃ m, m = min k s.rk := ⟨_, rfl⟩
      rw [← hm]
      have hm2 : m ≤ 64 := by omega
      have HM := hide hm
      clear hm
      go_wp2_with fail
      go_loop [6, 7] (fun sm i => ∃ q : Nat, q ≤ c ∧ sm = .bool (anyB (s.f k) q) ∧ i = .int .i64 (q : Int)) (fun _ i => c - (intOf i).toNat)
      case atStart => exact ⟨0, Nat.zero_le _, rfl, rfl⟩
      case round =>
        obtain ⟨q, hq, rfl, rfl⟩ := hrel
        by_cases hlq : q < c
        · have x2 := hRw.cell hlq
          have hstep : Hid (anyB (s.f k) (q + 1) = (anyB (s.f k) q || decide (s.f k q ≠ 0))) := (rfl : anyB (s.f k) (q + 1) = (anyB (s.f k) q || decide (s.f k q ≠ 0)))
          rcases hb : anyB (s.f k) q with _ | _
          · by_cases h0 : s.f k q = 0
            · have t0 := ux_eq0 h0
              have hN : Hid (anyB (s.f k) (q + 1) = false) := by show anyB (s.f k) (q + 1) = false; rw [hstep.out, hb, decide_eq_false (fun h => h h0)]; rfl
              clear hb h0 hstep
              go_wp2_with fail
              go_round
              case rel => exact ⟨q + 1, by omega, by rw [hN.out], by go_num⟩
              case measure => simp [intOf]; omega
            · have t0 := ux_ne0 h0
              have hN : Hid (anyB (s.f k) (q + 1) = true) := by show anyB (s.f k) (q + 1) = true; rw [hstep.out, hb, decide_eq_true h0]; rfl
              clear hb h0 hstep
              go_wp2_with fail
              go_round
              case rel => exact ⟨q + 1, by omega, by rw [hN.out], by go_num⟩
              case measure => simp [intOf]; omega
          · have hN : Hid (anyB (s.f k) (q + 1) = true) := by show anyB (s.f k) (q + 1) = true; rw [hstep.out, hb]; rfl
            clear hb hstep
            go_wp2_with fail
            go_round
            case rel => exact ⟨q + 1, by omega, by rw [hN.out], by go_num⟩
            case measure => simp [intOf]; omega
        · obtain rfl : q = c := by omega
          rw [HK.out]
          by_cases hrk : k < s.rk
          · have hD : decide (k < s.rk) = true := decide_eq_true hrk
            have HC : Hid (m + 1 = min (k + 1) s.rk) := by show m + 1 = min (k + 1) s.rk; have := HM.out; omega
            rw [hD]
            clear hrk hD
            go_wp2_with fail
            go_round
            case rel => exact ⟨k + 1, by omega, by rw [← HC.out]; go_num, by go_num⟩
            case measure => simp [intOf]; omega
          · have hD : decide (k < s.rk) = false := decide_eq_false hrk
            have HC : Hid (m = min (k + 1) s.rk) := by show m = min (k + 1) s.rk; have := HM.out; omega
            rw [hD]
            clear hrk hD
            go_wp2_with fail
            go_round
            case rel => exact ⟨k + 1, by omega, by rw [← HC.out], by go_num⟩
            case measure => simp [intOf]; omega
    · obtain rfl : k = n := by omega
      rw [Nat.min_eq_right hle]
      go_wp2_with fail
      go_ret
      exact ⟨rfl, hk⟩

section
variable {w : World} {A : Option Addr} {n c cp : Nat} {bss : List (List UInt8)}
theorem small4_yes (h : Rws w A n bss) (hS : Sml bss n c) : Calls Try.prog 6 #[.slice A n cp] w fun e w' => e = .returned (.bool true) ∧ Sm w w' := by
  have hr9 := hS.r9
  have hc9 := hS.c9
  have hr1 := hS.rect.r1
  have hq := right_yes (cp := cp) h hS.rect
  obtain ⟨B, off, A0, m0, cp0, b0, rfl, hc0, hb0, hbt0⟩ := h.get (j := 0) (by omega)
  rw [Nat.add_zero] at hc0
  have hm0 : c = m0 := by rw [hbt0.len]; exact (hS.rect.row 0 b0 hb0).symm
  subst hm0
  clear hb0
  go_enter Try.func6, Try.ntmps6
  go_wp2_with fail
  refine hq.mono ?_
  rintro e w1 ⟨rfl, hs⟩
  have hc1 : w1.cell? ⟨B, off, none⟩ = some (.slice A0 c cp0) := by rw [hs.cell]; exact hc0
  go_wp2_with fail
  go_ret
  exact ⟨ret_b (decide_eq_true (by omega)), hs⟩
theorem small4_no (h : Rws w A n bss) (hS : ¬ Sml bss n (len0 bss)) : Calls Try.prog 6 #[.slice A n cp] w fun e w' => e = .returned (.bool false) ∧ Sm w w' := by
  by_cases hR : Rect bss n (len0 bss)
  · have hr1 := hR.r1
    have hr2 := hR.r2
    have hq := right_yes (cp := cp) h hR
    obtain ⟨B, off, A0, m0, cp0, b0, rfl, hc0, hb0, hbt0⟩ := h.get (j := 0) (by omega)
    rw [Nat.add_zero] at hc0
    have hm0 : len0 bss = m0 := by rw [hbt0.len]; exact (hR.row 0 b0 hb0).symm
    have hbad : 9 < n ∨ (n ≤ 9 ∧ 9 < m0) := by
      rcases Nat.lt_or_ge 9 n with g | g
      · exact .inl g
      · refine .inr ⟨g, ?_⟩
        rcases Nat.lt_or_ge 9 m0 with g' | g'
        · exact g'
        · exact absurd ⟨hR, g, by omega⟩ hS
    clear hb0 hm0
    rcases hbad with hb | ⟨hb, hb2⟩
    · go_enter Try.func6, Try.ntmps6
      go_wp2_with fail
      refine hq.mono ?_
      rintro e w1 ⟨rfl, hs⟩
      go_wp2_with fail
      go_ret
      exact ⟨rfl, hs⟩
    · go_enter Try.func6, Try.ntmps6
      go_wp2_with fail
      refine hq.mono ?_
      rintro e w1 ⟨rfl, hs⟩
      have hc1 : w1.cell? ⟨B, off, none⟩ = some (.slice A0 m0 cp0) := by rw [hs.cell]; exact hc0
      go_wp2_with fail
      go_ret
      exact ⟨ret_b (decide_eq_false (by omega)), hs⟩
  · have hq := right_no (cp := cp) h hR
    go_enter Try.func6, Try.ntmps6
    go_wp2_with fail
    refine hq.mono ?_
    rintro e w1 ⟨rfl, hs⟩
    go_wp2_with fail
    go_ret
    exact ⟨rfl, hs⟩
end

set_option maxHeartbeats 1000000 in
theorem rows4_any {w : World} {m : MB} {r c : Nat} {f : Nat → Nat → UInt8} (h : MatAt w m r c f) : Calls Try.prog 11 #[m.ptr] w (RowsPost w r (matL r c f)) := by
  have hr2 := h.r2
  go_enter Try.func11, Try.ntmps11
  go_wp2_with fail
  refine (size_any h).mono ?_
  rintro e w1 ⟨rfl, hs⟩
  go_wp2_with fail
  go_loopw [5, 6] (fun v i wr => ∃ (k : Nat) (A : Option Addr) (n cp : Nat) (vs : List Value), k ≤ r ∧ i = .int .i64 (k : Int) ∧ v = .slice A n cp ∧ RInv w (fun i => rowL c (f i)) k (.slice A n cp) vs wr) (fun _ i _ => r - (intOf i).toNat)
  case atStart => exact ⟨0, none, 0, 0, [], Nat.zero_le _, rfl, rfl, OwnV.nil _ _, rfl, (fun j u hj => by simp at hj), hs.kp⟩
  case round =>
    obtain ⟨k, A, n, cp, vs, hk, rfl, rfl, hI⟩ := hrel
    by_cases hlt : k < r
    · have h100 : k < 100 := by omega
      go_wp2_with fail
      refine (rowc_in (h.no hI.kp) k hlt).mono ?_
      rintro e w2 ⟨A1, n1, c1, rfl, ho1, hk1⟩
      have hkw := hI.kp.size
      have hk1s := hk1.size
      have hlen : vs.length ≤ 1000000 := by rw [hI.len]; omega
      have ho2 : OwnV (w2.alloc (.cells #[.slice A1 n1 c1] 36)) w.heap.size (.slice A n cp) vs := (hI.own.no hk1).no (Kp.alloc No _ _)
      go_wp2_with (first
        | (at_builtin
           refine wpList_appV rfl (.tmp 21) (.tmp 25) _ rfl Try.underlying22 rfl ho2 _ rfl (fresh_cell _ _ _) rfl rfl hlen ?hs ?_
           case hs => simp; omega
           intro A3 n3 c3 w3 ha))
      go_round
      case rel => exact ⟨k + 1, A3, n3, c3, _, by omega, by go_num, rfl, hI.step hk1 ho1 hkw ha⟩
      case measure => simp [intOf]; omega
    · have hkr : k = r := by omega
      subst hkr
      have hn : n = k := by rw [hI.own.len, hI.len]
      subst hn
      go_wp2_with fail
      go_ret
      exact ⟨A, cp, rfl, hI.rws (matL_len _ _ _) fun j hj => matL_get f hj, hI.kp⟩

theorem rect_two (a b c d : UInt8) : Rect [[a, b], [c, d]] 2 2 := ⟨rfl, fun j bs hj => by
  match j, hj with
  | 0, hj => simp at hj; subst hj; rfl
  | 1, hj => simp at hj; subst hj; rfl
  | j + 2, hj => simp at hj, by omega, by omega, by omega, by omega⟩
theorem rws_two {w : World} {u v : Value} {x y : List UInt8} (hu : Bts w u x) (hv : Bts w v y) (h1 : ∀ k, u.ownBlock = some k → k < w.heap.size) (h2 : ∀ k, v.ownBlock = some k → k < w.heap.size) :
    Rws (w.alloc (.cells #[u, v] 36)) (some ⟨w.heap.size, 0, none⟩) 2 [x, y] := by
  refine ⟨rfl, fun j bs hj => ?_⟩
  match j, hj with
  | 0, hj =>
    simp at hj
    subst hj
    exact ⟨_, 0, u, rfl, by simp, hu.alloc _ h1⟩
  | 1, hj =>
    simp at hj
    subst hj
    exact ⟨_, 0, v, rfl, by simp, hv.alloc _ h2⟩
  | j + 2, hj => simp at hj

theorem det_example : (detP 2 (fnL [[1, 2], [3, 4]])).toNat = 2 := by decide +kernel
/-- The chapter's example holds. -/
theorem awake4_any (w : World) : Calls Try.prog 7 #[] w fun e w' => e = .returned (.bool true) ∧ Kp No w w' := by
  have h1 : Bts ((w.alloc (.cells #[bv 1, bv 2] 5)).alloc (.cells #[bv 3, bv 4] 5)) (.slice (some ⟨w.heap.size, 0, none⟩) 2 2) [1, 2] := (bts_two w 1 2).no (Kp.alloc No _ _)
  have h2 : Bts ((w.alloc (.cells #[bv 1, bv 2] 5)).alloc (.cells #[bv 3, bv 4] 5)) (.slice (some ⟨w.heap.size + 1, 0, none⟩) 2 2) [3, 4] := by
    have := bts_two (w.alloc (.cells #[bv 1, bv 2] 5)) 3 4
    simpa using this
  have h3 := rws_two h1 h2 (fun k hk => by simp [Value.ownBlock] at hk; simp; omega) (fun k hk => by simp [Value.ownBlock] at hk; simp; omega)
  have hsz : ((w.alloc (.cells #[bv 1, bv 2] 5)).alloc (.cells #[bv 3, bv 4] 5)).heap.size = w.heap.size + 2 := by simp
  rw [hsz] at h3
  have hof := of_yes (cp := 2) h3 (rect_two 1 2 3 4)
  have hk0 : Kp No w (((w.alloc (.cells #[bv 1, bv 2] 5)).alloc (.cells #[bv 3, bv 4] 5)).alloc (.cells #[.slice (some ⟨w.heap.size, 0, none⟩) 2 2, .slice (some ⟨w.heap.size + 1, 0, none⟩) 2 2] 36)) := ((Kp.alloc No w _).trans' (Kp.alloc No _ _)).trans' (Kp.alloc No _ _)
  have HK := hide hk0
  have HE := hide det_example
  have HO := hide hof
  clear h1 h2 h3 hsz hof hk0
  go_enter Try.func7, Try.ntmps7
  go_wp2_with fail
  refine HO.out.mono ?_
  rintro e w1 ⟨m, rfl, hM, _, _, j1⟩
  have k1 := HK.out.trans' j1
  go_wp2_with fail
  refine (sdet_yes hM).mono ?_
  rintro e w2 ⟨rfl, j2⟩
  rw [HE.out]
  go_wp2_with fail
  go_ret
  exact ⟨rfl, k1.trans' j2⟩
end Go.Proofs.Ytcjenpkbfahiaaa
