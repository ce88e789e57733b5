/- Layer 12's guard: few and short acts. -/
import Derived.Test.YtndghapdpfgmoaaVac
namespace Go.Proofs.Ytndghapdpfgmoaa
open Go.RowKit
set_option linter.unusedVariables false
set_option linter.unusedSimpArgs false
set_option maxRecDepth 20000

def LgtPost (w : World) (ds : List ActV) (e : Ending) (w1 : World) : Prop := ∃ b, e = .returned (.bool b) ∧ w = w1 ∧ (b = true → ds.length ≤ 30 ∧ ∀ d ∈ ds, d.b.length ≤ 200)
set_option maxHeartbeats 1000000 in
theorem light12_any {w : World} {A : Option Addr} {n c : Nat} {ds : List ActV} (h : ActsV w A n ds) : Calls Try.prog 6 #[.slice A n c] w (LgtPost w ds) := by
  have HA := hide h
  have hmax := h.big
  clear h
  go_enter Try.func6, Try.ntmps6
  go_wp2_with fail
  go_loopw [3] (fun i wr => ∃ k : Nat, k ≤ n ∧ k ≤ 30 ∧ i = .int .i64 (k : Int) ∧ Hid (∀ (j : Nat) d, j < k → ds[j]? = some d → d.b.length ≤ 200) ∧ w = wr) (fun i _ => n - (intOf i).toNat)
  case atStart => exact ⟨0, by omega, by omega, rfl, fun j d hj => by omega, rfl⟩
  case round =>
    obtain ⟨k, hk, hk30, rfl, HQ, rfl⟩ := hrel
    by_cases hlt : k < n
    · have hi : (k : Int) < n := by omega
      by_cases h30 : k < 30
      · have hi30 : (k : Int) < 30 := by omega
        obtain ⟨d, hd⟩ : ∃ d, ds[k]? = some d := ⟨_, List.getElem?_eq_getElem (by have := HA.out.len; omega)⟩
        obtain ⟨B, off, A', m, c', hA, ha⟩ := HA.out.at_ k d hd
        have HD := hide hd
        clear hd
        subst hA
        have c5 := ha.c5
        have hm := ha.small
        have HM := hide ha.bts.len
        clear ha
        by_cases hgt : 200 < m
        · have hz : (200 : Int) < m := by omega
          go_wp2_with fail
          go_ret
          exact ⟨false, rfl, rfl, fun h => by cases h⟩
        · have hz : ¬ (200 : Int) < m := by omega
          go_wp2_with fail
          go_round
          case rel =>
            refine ⟨k + 1, by omega, by omega, by go_num, fun j d' hj hd' => ?_, trivial⟩
            rcases Nat.lt_or_ge j k with g | g
            · exact HQ.out j d' g hd'
            · obtain rfl : j = k := by omega
              rw [HD.out] at hd'
              injection hd' with hd'
              subst hd'
              have := HM.out
              omega
          case measure => simp [intOf]; omega
      · have hi30 : ¬ (k : Int) < 30 := by omega
        by_cases hn30 : n ≤ 30
        · exfalso; omega
        · have hz : ¬ (n : Int) ≤ 30 := by omega
          go_wp2_with fail
          go_ret
          exact ⟨false, rfl, rfl, fun h => by cases h⟩
    · have hi : ¬ (k : Int) < n := by omega
      have HE : Hid (k = n) := by show k = n; omega
      have hz : (n : Int) ≤ 30 := by omega
      go_wp2_with fail
      go_ret
      refine ⟨true, rfl, rfl, fun _ => ⟨by have := HA.out.len; have := HE.out; omega, fun d hd => ?_⟩⟩
      obtain ⟨j, hj⟩ := List.getElem?_of_mem hd
      refine HQ.out j d ?_ hj
      have := (List.getElem?_eq_some_iff.1 hj).1
      have := HA.out.len
      have := HE.out
      omega
end Go.Proofs.Ytndghapdpfgmoaa
