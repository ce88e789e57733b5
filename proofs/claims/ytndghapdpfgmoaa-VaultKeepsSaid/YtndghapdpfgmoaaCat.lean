/- slices.Concat of rows of bytes, as a contract over memory; no condition. -/
import Derived.Test.YtndghapdpfgmoaaOwt
import Derived.Test.YtndghapdpfgmoaaRw
import Derived.Lib.AppendZeros
namespace Go.Proofs.Ytndghapdpfgmoaa
open Go.RowKit
set_option linter.unusedVariables false
set_option maxRecDepth 20000
set_option linter.unusedSimpArgs false

/-- A row with room and no bytes comes back. -/
def GrowPost (w : World) (e : Ending) (w1 : World) : Prop := ∃ A c, e = .returned (.slice A 0 c) ∧ Own w1 w.heap.size 5 (.slice A 0 c) [] ∧ Kp No w w1
theorem sgrow_nil (w : World) (n : Nat) (hn : n ≤ 1000000) : Calls Try.prog 59 #[.slice none 0 0, .int .i64 (n : Int)] w (GrowPost w) := by
  obtain ⟨i0, hi0, hz0, hz1, hz2⟩ := byte_parts
  by_cases h0 : 0 < n
  · have hr := fun ty => Lib.run_append_nil_zeros (P := Try.prog) w 27 3 ty 5 i0 (.int .u8 0) .i64 .i64 Try.underlying27 Try.underlying3 hi0 hz0 n h0 (by omega) (by omega) (by rw [hz2]; omega)
    have hG1 := grownCap_ge w n 0 5
    have hG2 := grownCap_le_maxLen w n 0 5 (by unfold maxLen; omega)
    obtain ⟨G, hG⟩ : ∃ G, G = grownCap w n 0 5 := ⟨_, rfl⟩
    rw [← hG] at hr hG1 hG2
    have hG3 := hG2
    unfold maxLen at hG3
    have hcut : ∀ w' : World, (Instr.slice 27 (.slice (some ⟨w.heap.size, 0, none⟩) n G) none (some (.int .i64 0)) none).run Try.prog w' = .ok (.slice (some ⟨w.heap.size, 0, none⟩) 0 G) w' := fun w' => by
      have he : Try.prog.elem 27 = 5 := by kernel_rfl
      have hel : Try.prog.underlying 27 = some (.slice (Try.prog.elem 27)) := by rw [he]; exact Try.underlying27
      have hsz : (sizeOf (Try.prog.elem 27)).run Try.prog w' = .ok 1 w' := by
        have hc : Try.prog.cellsOf 5 = 1 := by kernel_rfl
        rw [he]
        simp [run_sizeOf, hi0, hz1, hc]
      have := run_slice_h (P := Try.prog) w' 27 (some ⟨w.heap.size, 0, none⟩) n G hel .i64 0 (by omega) (by omega)
      rw [this, hsz]
      simp [Result.andThen, sliced, Addr.add]
    have HG := hide hG1
    have hp : ¬ ((n : Int) < 0) := by omega
    have hq : (n : Int) > 0 := by omega
    clear hG hG1 hG2
    go_enter Try.func59, Try.ntmps59
    go_wp2_with (at_builtin; refine Lib.wpList_append_run _ rfl _ _ _ _ rfl _ _ rfl rfl _ _ (hr _) ?_)
    go_ret
    refine ⟨_, G, rfl, ⟨rfl, .inr ⟨w.heap.size, G, _, rfl, Nat.le_refl _, heap_alloc_new w.drew _, Nat.zero_le _, by unfold maxLen; omega, ?_, rfl⟩⟩, (Kp.refl No w).drew.al _⟩
    have := HG.out
    simp [Builtin.zeroCells]
    omega
  · obtain rfl : n = 0 := by omega
    go_enter Try.func59, Try.ntmps59
    go_wp2
    go_ret
    exact ⟨none, 0, rfl, Own.nil _ _ _, Kp.refl _ _⟩

theorem flat_next {bss : List (List UInt8)} {k : Nat} {b : List UInt8} (h : bss[k]? = some b) : (bss.take (k + 1)).flatten = (bss.take k).flatten ++ b := by
  rw [List.take_add_one, h]; simp
theorem flat_le (bss : List (List UInt8)) (k : Nat) : (bss.take k).flatten.length ≤ bss.flatten.length := by
  have := congrArg (fun l => (List.flatten l).length) (List.take_append_drop k bss)
  simp only [List.flatten_append, List.length_append] at this
  omega
set_option maxHeartbeats 2000000 in
theorem scat_any {w : World} {A : Option Addr} {n c : Nat} {bss : List (List UInt8)} (h : Rws w A n bss) (hn : n ≤ 1000000) (hl : bss.flatten.length ≤ 1000000) : Calls Try.prog 48 #[.slice A n c] w (OwnPost w bss.flatten) := by
  obtain ⟨i0, hi0, hz0, hz1, hz2⟩ := byte_parts
  have HL := hide h.len
  go_enter Try.func48, Try.ntmps48
  go_wp2
  go_loop [3, 11] (fun s i => ∃ k q : Nat, k ≤ n ∧ i = .int .i64 (k : Int) ∧ s = .int .i64 (q : Int) ∧ q ≤ 1000000 ∧ Hid (q = (bss.take k).flatten.length)) (fun _ i => n - (intOf i).toNat)
  case atStart => exact ⟨0, 0, Nat.zero_le _, rfl, rfl, by omega, rfl⟩
  case round =>
    obtain ⟨k, q, hk, rfl, rfl, hq, HQ⟩ := hrel
    by_cases hlt : k < n
    · obtain ⟨B, off, A', m, c', bs, rfl, hc, hb, hB⟩ := h.get hlt
      have hm := hB.len
      have hq2 : q + m ≤ 1000000 := by
        have h1 := flat_next hb
        have h2 := flat_le bss (k + 1)
        rw [h1, List.length_append] at h2
        have := HQ.out
        omega
      have HN : Hid (q + m = (bss.take (k + 1)).flatten.length) := by
        show _ = _
        rw [flat_next hb, List.length_append, ← HQ.out, hm]
      clear hm hb
      have hq3 : ¬ ((q : Int) + (m : Int) < 0) := by omega
      go_wp2
      go_round
      case rel => exact ⟨k + 1, q + m, by omega, by go_num, by go_num, by omega, HN⟩
      case measure => simp [intOf]; omega
    · obtain rfl : k = n := by omega
      have HQ2 : Hid (q = bss.flatten.length) := by
        show _ = _
        rw [HQ.out, List.take_of_length_le (by have := HL.out; omega)]
      clear HQ
      go_wp2_with fail
      refine (sgrow_nil w q hq).mono ?_
      rintro e w1 ⟨A1, c1, rfl, ho1, k1⟩
      go_wp2_with fail
      go_loopw [6, 27] (fun b i wr => ∃ k' A2 m2 c2, k' ≤ k ∧ i = .int .i64 ((k' : Nat) : Int) ∧ b = .slice A2 m2 c2 ∧ Own wr w.heap.size 5 (.slice A2 m2 c2) (bss.take k').flatten ∧ Kp No w wr) (fun _ i _ => k - (intOf i).toNat)
      case atStart => exact ⟨0, A1, 0, c1, Nat.zero_le _, rfl, rfl, ho1, k1⟩
      case round =>
        obtain ⟨k', A2, m2, c2, hk', rfl, rfl, ho2, k2⟩ := hrel
        by_cases hlt' : k' < k
        · obtain ⟨B, off, A', m, c', bs, rfl, hc, hb, hB⟩ := (h.no k2).get hlt'
          have hfl : (bss.take k').flatten.length + bs.length ≤ 1000000 := by
            have h1 := flat_next hb
            have h2 := flat_le bss (k' + 1)
            rw [h1, List.length_append] at h2
            omega
          have HE := hide (flat_next hb)
          clear hb
          go_wp2_with (first
            | (at_builtin
               refine wpList_app rfl (.tmp 31) (.tmp 32) _ rfl i0 Try.underlying27 hi0 hz0 hz1 hz2 rfl ho2 rfl hB (by omega) k2.size ?_
               intro A3 n3 c3 w3 ha))
          go_round
          case rel => exact ⟨k' + 1, A3, n3, c3, by omega, by go_num, rfl, by rw [HE.out]; exact ha.own, ha.keeps ho2 k2⟩
          case measure => simp [intOf]; omega
        · obtain rfl : k' = k := by omega
          rw [List.take_of_length_le (by have := HL.out; omega)] at ho2
          go_wp2
          go_ret
          exact ⟨A2, m2, c2, rfl, ho2, k2⟩
end Go.Proofs.Ytndghapdpfgmoaa
