/- New, and what is right: package table's New, Len, Next, made, RightName, rightPlan, rightSlots, rightPlaces; the document's New, RightName. No condition. -/
import Derived.Test.YthicpblgonigcaaNcag
import Derived.Test.YthicpblgonigcaaNcab
import Derived.Test.YthicpblgonigcaaNcac
import Derived.Deep.RegionHeld3
import Derived.Deep.DeepCutAuto
namespace Go.Proofs.Ythicpblgonigcaa
open Go.RowKit
set_option linter.unusedVariables false
set_option linter.unusedSimpArgs false
set_option maxRecDepth 20000

theorem ret_bt {a b : Bool} (h : a = b) : Ending.returned (.bool a) = .returned (.bool b) := by rw [h]
section
variable {w : World} {F : Nat → Prop} {g : Nat} {T : Tb}
theorem tnew_yes {sl nd : Nat} (h1 : 1 ≤ sl) (h2 : sl ≤ 24) (h3 : 1 ≤ nd) (h4 : nd ≤ 32) : Calls Try.prog 8 #[.int .i64 (sl : Int), .int .i64 (nd : Int)] w fun e w1 =>
    e = .returned (.tuple #[.pointer (some ⟨w.heap.size, 0, none⟩), .int .i64 0]) ∧ TbAt w1 (fun k => k = w.heap.size) w.heap.size (newT sl nd) ∧ Kp No w w1 := by
  have hok := hide (newT_ok h1 h2 h3 h4)
  go_enter Try.func8, Try.ntmps8
  go_wp2
  go_ret2
  refine ⟨rfl, ⟨none, 0, 0, [], ⟨heap_alloc_new w _, OwnT.nil _ _ _ _, rfl, (fun j o v h => by simp [newT] at h), (fun i j u v k h => by simp at h), rfl, (fun k hk => by cases hk), hok.out⟩⟩, Kp.alloc No w _⟩
theorem tmade_any (h : TbAt w F g T) : Calls Try.prog 29 #[.pointer (some ⟨g, 0, none⟩)] w fun e w1 => e = .returned (.bool true) ∧ w = w1 := by
  obtain ⟨A, n, c, vs, h⟩ := h
  have c0 := h.c0
  have hp := h.ok.sl1
  go_enter Try.func29, Try.ntmps29
  go_wp2
  go_ret
  exact ⟨ret_bt (by simp; omega), rfl⟩
theorem tlen_any (h : TbAt w F g T) : Calls Try.prog 19 #[.pointer (some ⟨g, 0, none⟩)] w fun e w1 => e = .returned (.int .i64 (T.os.length : Int)) ∧ w = w1 := by
  obtain ⟨A, n, c, vs, h⟩ := h
  have c4 := h.c4
  have hn := h.n_
  rw [← hn]
  clear hn
  go_enter Try.func19, Try.ntmps19
  go_wp2
  go_ret
  exact ⟨rfl, rfl⟩
/-! Names. -/
theorem okN_no {s : List UInt8} {k : Nat} {b : UInt8} (h : s[k]? = some b) (hb : ¬ (33 ≤ b.toNat ∧ b.toNat ≤ 126)) : okN s = false := by
  refine decide_eq_false fun e => hb (e.2.2 b (List.mem_of_getElem? h))
theorem okN_all {s : List UInt8} (h : ∀ (k : Nat) b, k < s.length → s[k]? = some b → 33 ≤ b.toNat ∧ b.toNat ≤ 126) : okN s = decide (1 ≤ s.length ∧ s.length ≤ 64) := by
  refine decide_eq_decide.2 ⟨fun e => ⟨e.1, e.2.1⟩, fun e => ⟨e.1, e.2, fun b hb => ?_⟩⟩
  obtain ⟨k, hk⟩ := List.getElem?_of_mem hb
  exact h k b (List.getElem?_eq_some_iff.1 hk).1 hk
set_option maxHeartbeats 1000000 in
theorem rname_any (B : ByteArray) (hB : B.size ≤ 1000) : Calls Try.prog 14 #[.string B] w fun e w1 => e = .returned (.bool (okN B.data.toList)) ∧ w = w1 := by
  have HZ : Hid (B.data.toList.length = B.size) := by show _ = _; simp
  go_enter Try.func14, Try.ntmps14
  go_wp2
  go_loop [6] (fun i => ∃ k : Nat, k ≤ B.size ∧ i = .int .i64 (k : Int) ∧ Hid (∀ (j : Nat) b, j < k → B.data.toList[j]? = some b → 33 ≤ b.toNat ∧ b.toNat ≤ 126)) (fun i => B.size - (intOf i).toNat)
  case atStart => exact ⟨0, Nat.zero_le _, rfl, hide (fun j b hj => absurd hj (Nat.not_lt_zero _))⟩
  case round =>
    obtain ⟨k, hk, rfl, HA⟩ := hrel
    by_cases hlt : k < B.size
    · have HK : Hid (B.data.toList[k]? = some B[k]) := by show _ = _; rw [List.getElem?_eq_getElem (by rw [HZ.out]; exact hlt)]; rfl
      by_cases h1 : B[k].toNat < 33
      · have HN : Hid (false = okN B.data.toList) := (okN_no HK.out (by omega)).symm
        go_wp2
        go_ret
        exact ⟨ret_bt HN.out, rfl⟩
      · by_cases h2 : 126 < B[k].toNat
        · have HN : Hid (false = okN B.data.toList) := (okN_no HK.out (by omega)).symm
          go_wp2
          go_ret
          exact ⟨ret_bt HN.out, rfl⟩
        · have HN : Hid (∀ (j : Nat) b, j < k + 1 → B.data.toList[j]? = some b → 33 ≤ b.toNat ∧ b.toNat ≤ 126) := fun j b hj hb => by
            rcases Nat.lt_or_ge j k with g | g
            · exact HA.out j b g hb
            · obtain rfl : j = k := by omega
              rw [HK.out] at hb
              injection hb with hb
              rw [← hb]
              omega
          go_wp2
          go_round
          case rel => exact ⟨k + 1, by omega, by go_num, HN⟩
          case measure => simp [intOf]; omega
    · obtain rfl : k = B.size := by omega
      have HN : Hid (okN B.data.toList = decide (1 ≤ B.size ∧ B.size ≤ 64)) := by
        show _ = _
        rw [← HZ.out]
        exact okN_all fun k b hk' hb => HA.out k b (by rw [← HZ.out]; exact hk') hb
      by_cases h1 : 1 ≤ B.size
      · by_cases h2 : B.size ≤ 64
        · go_wp2
          go_ret
          exact ⟨ret_bt (by rw [HN.out, Bool.eq_iff_iff]; simp; omega), rfl⟩
        · go_wp2
          go_ret
          exact ⟨ret_bt (by rw [HN.out, Bool.eq_iff_iff]; simp; omega), rfl⟩
      · go_wp2
        go_ret
        exact ⟨ret_bt (by rw [HN.out, Bool.eq_iff_iff]; simp; omega), rfl⟩
end
end Go.Proofs.Ythicpblgonigcaa
