/- Law 20's light and apart, each as a contract. No condition. -/
import Derived.Test.YthicpblgonigcaaNcau
import Derived.BigQuiet
namespace Go.Proofs.Ythicpblgonigcaa
open Go.RowKit
set_option linter.unusedVariables false
set_option linter.unusedSimpArgs false
set_option maxRecDepth 20000

/-- What light tells of operations, if it says yes. -/
def LightQ (qs : List Oq) : Prop := qs.length ≤ 30 ∧ ∀ (j : Nat) q, qs[j]? = some q → q.o.pl.length ≤ 40 ∧ q.o.nm.length ≤ 200
def LtPost (w : World) (qs : List Oq) (e : Ending) (w1 : World) : Prop := ∃ b, e = .returned (.bool b) ∧ (b = true → LightQ qs) ∧ w = w1
theorem strOf_size (s : List UInt8) : (strOf s).size = s.length := by simp [strOf, ByteArray.size]
set_option maxHeartbeats 2000000 in
theorem light_any {w : World} {A : Option Addr} {n c : Nat} {qs : List Oq} (h : Ops w A n qs) : Calls Try.prog 7 #[.slice A n c] w (LtPost w qs) := by
  have HL := hide h.len
  have hbig := h.big
  have HAT := hide h.at_
  clear h
  go_enter Try.func7, Try.ntmps7
  go_wp2
  go_loop [3, 4] (fun nv iv => ∃ (k : Nat) (z : Int), k ≤ n ∧ k ≤ 30 ∧ iv = .int .i64 (k : Int) ∧ nv = .int .i64 z ∧ Hid (∀ (j : Nat) q, j < k → qs[j]? = some q → q.o.pl.length ≤ 40 ∧ q.o.nm.length ≤ 200)) (fun _ iv => n - (intOf iv).toNat)
  case atStart => exact ⟨0, 0, Nat.zero_le _, by omega, rfl, rfl, hide fun j q hj => absurd hj (Nat.not_lt_zero _)⟩
  case round =>
    obtain ⟨k, z, hkn, hk30, rfl, rfl, HA⟩ := hrel
    by_cases hlt : k < n
    · by_cases hl30 : k < 30
      · obtain ⟨q, hq⟩ : ∃ q, qs[k]? = some q := ⟨_, List.getElem?_eq_getElem (by rw [← HL.out]; exact hlt)⟩
        obtain ⟨B, off, rfl, v, hc, hp, hf⟩ := HAT.out k q hq
        obtain ⟨c0, c1, c2, c3, c4, c5, c6, c7, c8, c9, c10⟩ := hc
        obtain ⟨A2, cc2, rfl, hz2, hat2⟩ := hp
        obtain ⟨m, hm⟩ : ∃ m, m = q.o.pl.length := ⟨_, rfl⟩
        obtain ⟨S2, hS2⟩ : ∃ S2, S2 = strOf q.o.nm := ⟨_, rfl⟩
        have HSZ : Hid (S2.size = q.o.nm.length) := by show _ = _; rw [hS2, strOf_size]
        have HQ := hide hq
        have HM := hide hm
        have HAT2 := hide hat2
        rw [← hm] at c6
        rw [← hS2] at c2
        clear c0 c1 c3 c4 c5 c7 c8 c9 c10 hf hat2 hz2 hq hS2 hm
        by_cases h40 : m ≤ 40
        · by_cases h200 : S2.size ≤ 200
          · have HS : Hid (q.o.pl.length ≤ 40 ∧ q.o.nm.length ≤ 200) := ⟨by rw [← HM.out]; exact h40, by rw [← HSZ.out]; exact h200⟩
            go_wp2_with fail
            go_loop [3, 5] (fun nv iv => ∃ (j : Nat) (z : Int), j ≤ m ∧ iv = .int .i64 (j : Int) ∧ nv = .int .i64 z) (fun _ iv => m - (intOf iv).toNat)
            case atStart => exact ⟨0, z, Nat.zero_le _, rfl, rfl⟩
            case round =>
              obtain ⟨j, z2, hjm, rfl, rfl⟩ := hrel
              by_cases hj : j < m
              · obtain ⟨l, hl⟩ : ∃ l, q.o.pl[j]? = some l := ⟨_, List.getElem?_eq_getElem (by rw [← HM.out]; exact hj)⟩
                obtain ⟨B2, off2, u, rfl, _, x0, x1⟩ := HAT2.out j l hl
                obtain ⟨A3, c3, rfl⟩ := x1.form
                clear x1 hl
                go_wp2_with fail
                go_round
                case rel => exact ⟨j + 1, _, by omega, by go_num, rfl⟩
                case measure => simp [intOf]; omega
              · obtain rfl : j = m := by omega
                go_wp2_with fail
                go_round
                case rel =>
                  refine ⟨k + 1, _, by omega, by omega, by go_num, rfl, hide fun i p hi hp => ?_⟩
                  rcases Nat.lt_or_ge i k with g | g
                  · exact HA.out i p g hp
                  · obtain rfl : i = k := by omega
                    rw [HQ.out] at hp
                    injection hp with hp
                    rw [← hp]
                    exact HS.out
                case measure => simp [intOf]; omega
          · go_wp2_with fail
            go_ret
            exact ⟨false, rfl, fun h => (by cases h), rfl⟩
        · go_wp2_with fail
          go_ret
          exact ⟨false, rfl, fun h => (by cases h), rfl⟩
      · have h30 : ¬ n ≤ 30 := by omega
        go_wp2_with fail
        go_ret
        exact ⟨_, rfl, fun h => by simp at h, rfl⟩
    · obtain rfl : k = n := by omega
      go_wp2_with fail
      go_ret
      refine ⟨_, rfl, fun h => ⟨by rw [← HL.out]; omega, fun j q hq => HA.out j q (by rw [HL.out]; exact (List.getElem?_eq_some_iff.1 hq).1) hq⟩, rfl⟩

/-! apart. -/
theorem nd_ne {l : List Pc} {i j : Nat} {p q : Pc} (h : (l.map Prod.fst).Nodup) (hi : l[i]? = some p) (hj : l[j]? = some q) (hij : i < j) : p.1 ≠ q.1 := by
  have h4 := List.pairwise_iff_getElem.1 h
  obtain ⟨a1, a2⟩ := List.getElem?_eq_some_iff.1 hi
  obtain ⟨b1, b2⟩ := List.getElem?_eq_some_iff.1 hj
  have := h4 i j (by simpa using a1) (by simpa using b1) hij
  simp only [List.getElem_map] at this
  rw [a2, b2] at this
  exact this
set_option maxHeartbeats 2000000 in
theorem apart_any {w : World} {F : Nat → Prop} {v : Value} {P : List (List Pc)} (h : RdP w F v P) (hn : P.length ≤ 1000000000000000) (hP : ∀ l ∈ P, l.length ≤ 1000000000000000 ∧ (l.map Prod.fst).Nodup) : Calls Try.prog 25 #[v] w (TruePost w) := by
  obtain ⟨A, c, rfl, _, hat⟩ := h
  obtain ⟨n, hnl⟩ : ∃ n, n = P.length := ⟨_, rfl⟩
  rw [← hnl] at hn ⊢
  have HL := hide hnl
  have HAT := hide hat
  have HP := hide hP
  clear hnl hat hP
  go_enter Try.func25, Try.ntmps25
  go_wp2
  go_loopw [3] (fun iv wr => ∃ (k : Nat), k ≤ n ∧ iv = .int .i64 (k : Int) ∧ Kp No w wr) (fun iv _ => n - (intOf iv).toNat)
  case atStart => exact ⟨0, Nat.zero_le _, rfl, Kp.refl _ _⟩
  case round =>
    obtain ⟨k, hkn, rfl, hkw⟩ := hrel
    have HK := hide hkw
    clear hkw
    by_cases hlt : k < n
    · obtain ⟨l, hl⟩ : ∃ l, P[k]? = some l := ⟨_, List.getElem?_eq_getElem (by rw [← HL.out]; exact hlt)⟩
      obtain ⟨B, off, u, rfl, _, x0, A2, c2, rfl, _, hat2⟩ := HAT.out k l hl
      obtain ⟨m, hm⟩ : ∃ m, m = l.length := ⟨_, rfl⟩
      have HM := hide hm
      have HAT2 := hide hat2
      have HD := hide (HP.out l (List.mem_of_getElem? hl)).2
      have hmb : m ≤ 1000000000000000 := by rw [hm]; exact (HP.out l (List.mem_of_getElem? hl)).1
      rw [← hm] at x0
      have HX := hide x0
      clear hm hat2 hl x0
      go_wp2_with fail
      go_loopw [4] (fun iv wr2 => ∃ (i : Nat), i ≤ m ∧ iv = .int .i64 (i : Int) ∧ Kp No w wr2) (fun iv _ => m - (intOf iv).toNat)
      case atStart => exact ⟨0, Nat.zero_le _, rfl, HK.out⟩
      case round =>
        obtain ⟨i, him, rfl, hkw2⟩ := hrel
        have HK2 := hide hkw2
        have x0 := hkw2.cell HX.out fun f => f
        clear hkw2
        by_cases hi : i < m
        · obtain ⟨p, hp⟩ : ∃ p, l[i]? = some p := ⟨_, List.getElem?_eq_getElem (by rw [← HM.out]; exact hi)⟩
          obtain ⟨B2, off2, rfl, _, y0, _⟩ := HAT2.out i p hp
          have HPI := hide hp
          have HY := hide y0
          clear hp y0
          go_wp2_with fail
          clear x0
          go_loopw [5] (fun iv wr3 => ∃ (j : Nat), j ≤ i ∧ iv = .int .i64 (j : Int) ∧ Kp No w wr3) (fun iv _ => i - (intOf iv).toNat)
          case atStart => exact ⟨0, Nat.zero_le _, rfl, HK2.out⟩
          case round =>
            obtain ⟨j, hji, rfl, hkw3⟩ := hrel
            have HK3 := hide hkw3
            have x0 := hkw3.cell HX.out fun f => f
            have y0 := hkw3.cell HY.out fun f => f
            by_cases hj : j < i
            · obtain ⟨q, hq⟩ : ∃ q, l[j]? = some q := ⟨_, List.getElem?_eq_getElem (by rw [← HM.out]; omega)⟩
              obtain ⟨B3, off3, e3, _, z0, _⟩ := HAT2.out j q hq
              injection e3 with e3
              injection e3 with e3 e4
              subst e3 e4
              replace z0 := hkw3.cell z0 fun f => f
              have hne : (p.1 == q.1) = false := by simpa using fun e => nd_ne HD.out hq HPI.out hj e.symm
              clear hq hkw3
              have hjm : j < m := by omega
              go_wp2_with fail
              go_quiet (fail)
              go_wp2_with fail
              go_round
              case rel => exact ⟨j + 1, by omega, by go_num, HK3.out.drewN _⟩
              case measure => simp [intOf]; omega
            · obtain rfl : j = i := by omega
              clear hkw3
              go_wp2_with fail
              go_round
              case rel => exact ⟨j + 1, by omega, by go_num, HK3.out⟩
              case measure => simp [intOf]; omega
        · obtain rfl : i = m := by omega
          go_wp2_with fail
          go_round
          case rel => exact ⟨k + 1, by omega, by go_num, HK2.out⟩
          case measure => simp [intOf]; omega
    · obtain rfl : k = n := by omega
      go_wp2_with fail
      go_ret
      exact ⟨rfl, HK.out⟩
end Go.Proofs.Ythicpblgonigcaa
