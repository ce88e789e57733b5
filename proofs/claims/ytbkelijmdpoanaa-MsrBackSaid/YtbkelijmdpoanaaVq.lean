/- The document's power and Points, and law05's awake, each as a contract over memory. -/
import Derived.Test.YtbkelijmdpoanaaVp
namespace Go.Proofs.Ytbkelijmdpoanaa
open Go.RowKit
set_option linter.unusedVariables false
set_option maxRecDepth 20000

theorem uq_snoc {l : List UInt8} {y : UInt8} : Uq (l ++ [y]).length (lg (l ++ [y])) ↔ Uq l.length (lg l) ∧ y ∉ l := by
  rw [uq_iff, uq_iff]
  constructor
  · intro h
    refine ⟨fun k b hb => ?_, ?_⟩
    · have hk := (List.getElem?_eq_some_iff.1 hb).1
      have := h k b (by rw [List.getElem?_append_left hk]; exact hb)
      rwa [List.take_append_of_le_length (by omega)] at this
    · have := h l.length y (by simp)
      rwa [List.take_append_of_le_length (Nat.le_refl _), List.take_length] at this
  · rintro ⟨h1, h2⟩ k b hb
    have hk := (List.getElem?_eq_some_iff.1 hb).1
    rw [List.length_append] at hk
    simp at hk
    rw [List.take_append_of_le_length (by omega)]
    by_cases e : k = l.length
    · subst e
      simp at hb
      subst hb
      rw [List.take_length]
      exact h2
    · rw [List.getElem?_append_left (by omega)] at hb
      exact h1 k b hb
theorem fpw_uq (e : Nat) : ∀ x, Uq (fpw e x).length (lg (fpw e x))
  | 0 => fun i k _ hi => absurd hi (Nat.not_lt_zero _)
  | x + 1 => by
    by_cases h : upw (UInt8.ofNat x) e ∈ fpw e x
    · rw [fpw_in h]
      exact fpw_uq e x
    · rw [fpw_new h]
      exact uq_snoc.2 ⟨fpw_uq e x, h⟩

theorem upw_mod {x : UInt8} (h : x ≠ 0) (n : Nat) : (upw x (n % 255)).toNat = (upw x n).toNat := by
  rw [upw_nat, upw_nat, gpow_mod (u8_lt x) (u8_ne h)]
theorem upw_zero {e : Nat} (h : 1 ≤ e) : upw 0 e = 0 := by
  obtain ⟨d, rfl⟩ : ∃ d, e = d + 1 := ⟨e - 1, by omega⟩
  rw [upw, um_zero]
theorem rpower_any (x : UInt8) (z n : Int) (e : Nat) (w : World) (hz : (x.toNat : Int) = z) (h1 : 1 ≤ n) (h2 : n ≤ 9223372036854775807) (he : e = n.toNat) : Calls Try.prog 45 #[.int .u8 z, .int .i64 n] w fun r w' => r = .returned (.int .u8 ((upw x e).toNat : Int)) ∧ w = w' := by
  subst hz
  by_cases h0 : x = 0
  · subst h0
    have HZ := hide (upw_zero (e := e) (by omega))
    clear he
    go_enter Try.func45, Try.ntmps45
    go_wp2_with fail
    go_ret
    exact ⟨by rw [HZ.out]; rfl, rfl⟩
  · have t0 := ux_ne0 h0
    have t1 : ((x.toNat : Int) == 0) = false := by simpa using t0
    have HM := hide (upw_mod h0 e)
    have hm : n % 255 = ((e % 255 : Nat) : Int) := by omega
    obtain ⟨q, hq⟩ : ∃ q, q = e % 255 := ⟨_, rfl⟩
    rw [← hq] at hm HM
    have hq2 : q ≤ 1000 := by omega
    clear h0 t0 hq he
    go_enter Try.func45, Try.ntmps45
    go_wp2_with fail
    rw [hm]
    refine (refpowU_any x q _ hq2).mono ?_
    rintro r w' ⟨rfl, rfl⟩
    go_wp2_with fail
    go_ret
    exact ⟨ret_u8 (by rw [HM.out]), rfl⟩

/-- Two rows of the call's own, each a block of its own. -/
structure Two (w : World) (l l' : List UInt8) (v u : Value) (wr : World) : Prop where
  out : Own wr w.heap.size 5 v l
  pow : Own wr w.heap.size 5 u l'
  apart : ∀ q, v.ownBlock = some q → u.ownBlock ≠ some q
  kp : Kp No w wr
section
variable {w wr w1 w2 : World} {l l' cs : List UInt8} {v u v1 : Value} {o : Obj}
theorem Two.no (h : Two w l l' v u wr) (hk : Kp No wr w1) : Two w l l' v u w1 := ⟨h.out.no hk, h.pow.no hk, h.apart, h.kp.trans' hk⟩
theorem Two.symm (h : Two w l l' v u wr) : Two w l' l u v wr := ⟨h.pow, h.out, fun q hq e => h.apart q e hq, h.kp⟩
theorem Two.app1 (h : Two w l l' v u wr) (ha : App (wr.alloc o) w.heap.size 5 v l cs v1 w2) : Two w (l ++ cs) l' v1 u w2 := by
  have hp := h.pow.alloc o
  refine ⟨ha.own, hp.keep ha.kp fun q hq e => h.apart q e hq, fun q hq hu => ?_, ha.keeps (h.out.alloc o) (h.kp.trans' (Kp.alloc No _ _))⟩
  rcases ha.at_ with e | e
  · exact h.apart q (e ▸ hq) hu
  · rw [e] at hq
    injection hq with hq
    have := hp.lt q hu
    omega
theorem Two.app2 (h : Two w l l' v u wr) (ha : App (wr.alloc o) w.heap.size 5 u l' cs v1 w2) : Two w l (l' ++ cs) v v1 w2 := (h.symm.app1 ha).symm
end

set_option maxHeartbeats 4000000 in
set_option maxRecDepth 100000 in
theorem rpoints_yes (n : Nat) (x : Int) (e N : Nat) (w : World) (h1 : 1 ≤ n) (hn2 : n ≤ 256) (hx1 : 1 ≤ x) (hx2 : x ≤ 9223372036854775807) (he : Hid (e = x.toNat)) (hN : Hid (N = 256)) (HN : Hid (n ≤ (fnd e N).length)) :
    Calls Try.prog 32 #[.int .i64 (n : Int), .int .i64 x] w (OwnPost w ((fnd e N).take n)) := by
  obtain ⟨i0, hi0, hz0, hz1, hz2⟩ := byte_parts
  go_enter Try.func32, Try.ntmps32
  go_wp2_with fail
  go_loopw [5, 6, 7] (fun v u i wr => ∃ (k : Nat) (A : Option Addr) (m c : Nat) (A2 : Option Addr) (m2 c2 : Nat), k ≤ 256 ∧ i = .int .i64 (k : Int) ∧ v = .slice A m c ∧ u = .slice A2 m2 c2 ∧ m ≤ n ∧ Two w (fnd e k) (fpw e k) (.slice A m c) (.slice A2 m2 c2) wr) (fun _ _ i _ => 256 - (intOf i).toNat)
  case atStart => exact ⟨0, none, 0, 0, none, 0, 0, Nat.zero_le _, rfl, rfl, rfl, Nat.zero_le _, Own.nil _ _ _, Own.nil _ _ _, fun q hq => (by simp [Value.ownBlock] at hq), Kp.refl _ _⟩
  case round =>
    obtain ⟨k, A, m, c, A2, m2, c2, hk, rfl, rfl, rfl, hmn, hI⟩ := hrel
    have HM := hide hI.out.len
    by_cases hlt : k < 256
    · by_cases hmlt : m < n
      · have hcv := ofNat_nat hlt
        have hcm : (k : Int) % 256 = (k : Int) := by omega
        have hsz := hI.kp.size
        have hLE := fnd_len e k
        have hLP := fpw_len e k
        have hp0 := hI.pow
        have HUq := hide (fpw_uq e k)
        have HU : Hid ((fnd e (k + 1)).length ≤ (fnd e N).length) := fnd_le (by have := hN.out; omega)
        obtain ⟨a, ha⟩ : ∃ a, a = UInt8.ofNat k := ⟨_, rfl⟩
        rw [← ha] at hcv
        have HA := hide ha
        have HC := hide hcv
        have hlp : (fpw e k).length + [upw a e].length ≤ 1000000000 := by simp; omega
        have hlo : (fnd e k).length + [a].length ≤ 1000000000 := by simp; omega
        have hlw : ([] : List UInt8).length + (fpw e k).length ≤ 1000000000 := by simp; omega
        clear ha hcv hLE
        go_wp2_with fail
        refine (rpower_any a _ x e _ HC.out hx1 hx2 he.out).mono ?_
        rintro r w1 ⟨rfl, rfl⟩
        clear hLP
        go_wp2_with (first
          | (at_builtin
             refine wpList_app rfl (.tmp 23) (.tmp 24) _ rfl i0 Try.underlying29 hi0 hz0 hz1 hz2 rfl (own_empty wr) rfl (hp0.bts.no (Kp.alloc No wr _)) (by simp; omega) (by simp) ?_
             intro A5 n5 c5 w5 ha5
             have h5 : Own w5 wr.heap.size 5 (.slice A5 n5 c5) (fpw e k) := by simpa using ha5.own
             have k5 : Kp No wr w5 := ha5.keeps (own_empty wr) (Kp.alloc No wr _)
             have k5s := k5.size
             have h5a := h5.alloc (.cells #[bv (upw a e)] 5)
             have b5 := bts_new w5 (upw a e) _ rfl)
          | (at_builtin
             refine wpList_app rfl (.tmp 25) (.tmp 27) _ rfl i0 Try.underlying29 hi0 hz0 hz1 hz2 rfl h5a rfl b5 hlp (by simp; omega) ?_
             intro A6 n6 c6 w6 ha6
             have k6 : Kp No wr w6 := ha6.keeps h5a (k5.trans' (Kp.alloc No _ _))))
        have hb6 := ha6.own.bts
        have hl6 := ha6.own.len
        have H6 := hide hl6
        have h61 : n6 ≤ 1000 := by rw [List.length_append] at hl6; have := fpw_len e k; have := fnd_len e k; simp at hl6; omega
        clear hl6
        by_cases hm : upw a e ∈ fpw e k
        · have HI : Hid (upw (UInt8.ofNat k) e ∈ fpw e k) := by show upw (UInt8.ofNat k) e ∈ fpw e k; rw [← HA.out]; exact hm
          have htw := twice_yes hb6 h61 (by rw [H6.out]; exact fun h => (uq_snoc.1 h).2 hm)
          clear hm
          refine htw.mono ?_
          rintro r w7 ⟨rfl, s7⟩
          have k7 := k6.trans' s7.kp
          go_wp2_with fail
          go_round
          case rel => exact ⟨k + 1, A, m, c, A2, m2, c2, by omega, by go_num, rfl, rfl, hmn, (by rw [fnd_in HI.out, fpw_in HI.out]; exact hI.no k7)⟩
          case measure => simp [intOf]; omega
        · have HI : Hid (upw (UInt8.ofNat k) e ∉ fpw e k) := by show upw (UInt8.ofNat k) e ∉ fpw e k; rw [← HA.out]; exact hm
          have htw := twice_no hb6 h61 (by rw [H6.out]; exact uq_snoc.2 ⟨HUq.out, hm⟩)
          clear hm
          refine htw.mono ?_
          rintro r w7 ⟨rfl, s7⟩
          have k7 := k6.trans' s7.kp
          have T7 := hI.no k7
          have k7s := k7.size
          have o7 := T7.out.alloc (.cells #[.int .u8 (k : Int)] 5)
          have b7 := bts_new w7 a (.int .u8 (k : Int)) (by unfold bv; rw [HC.out])
          clear hb6 htw
          go_wp2_with (first
            | (at_builtin
               refine wpList_app rfl (.tmp 31) (.tmp 34) _ rfl i0 Try.underlying29 hi0 hz0 hz1 hz2 rfl o7 rfl b7 hlo (by simp; omega) ?_
               intro A8 n8 c8 w8 ha8
               have T8 := T7.app1 ha8
               have T8s := T8.kp.size
               have o8 := T8.pow.alloc (.cells #[bv (upw a e)] 5)
               have b8 := bts_new w8 (upw a e) _ rfl)
            | (at_builtin
               refine wpList_app rfl (.tmp 36) (.tmp 38) _ rfl i0 Try.underlying29 hi0 hz0 hz1 hz2 rfl o8 rfl b8 hlp (by simp; omega) ?_
               intro A9 n9 c9 w9 ha9))
          have T9 := T8.app2 ha9
          have hl9 := T9.out.len
          have H9 : Hid (n8 ≤ n) := by
            show n8 ≤ n
            rw [List.length_append] at hl9
            have := HM.out
            simp at hl9
            omega
          clear hl9
          go_round
          case rel => exact ⟨k + 1, A8, n8, c8, A9, n9, c9, by omega, by go_num, rfl, rfl, H9.out, (by rw [fnd_new HI.out, fpw_new HI.out, ← HA.out]; exact T9)⟩
          case measure => simp [intOf]; omega
      · have HE : Hid (m = n) := by show m = n; omega
        have HT : Hid ((fnd e N).take (fnd e k).length = fnd e k) := fnd_take (by have := hN.out; omega)
        go_wp2_with fail
        go_ret
        have h8 : (fnd e N).take n = fnd e k := by rw [← HE.out, HM.out, HT.out]
        exact ⟨A, m, c, rfl, by rw [h8]; exact hI.out, hI.kp⟩
    · have hkN : N = k := by have := hN.out; omega
      have HE : Hid (m = n) := by show m = n; have := HN.out; have := HM.out; rw [hkN] at *; omega
      have hmn2 : ¬ m < n := by have := HE.out; omega
      have HT : Hid ((fnd e N).take (fnd e k).length = fnd e k) := fnd_take (by omega)
      clear hkN
      go_wp2_with fail
      go_ret
      have h8 : (fnd e N).take n = fnd e k := by rw [← HE.out, HM.out, HT.out]
      exact ⟨A, m, c, rfl, by rw [h8]; exact hI.out, hI.kp⟩
set_option maxHeartbeats 4000000 in
set_option maxRecDepth 100000 in
theorem rpoints_no (n : Nat) (x : Int) (e N : Nat) (w : World) (h1 : 1 ≤ n) (hn2 : n ≤ 256) (hx1 : 1 ≤ x) (hx2 : x ≤ 9223372036854775807) (he : Hid (e = x.toNat)) (hN : Hid (N = 256)) (HN : Hid ((fnd e N).length < n)) :
    Calls Try.prog 32 #[.int .i64 (n : Int), .int .i64 x] w (OwnPost w []) := by
  obtain ⟨i0, hi0, hz0, hz1, hz2⟩ := byte_parts
  go_enter Try.func32, Try.ntmps32
  go_wp2_with fail
  go_loopw [5, 6, 7] (fun v u i wr => ∃ (k : Nat) (A : Option Addr) (m c : Nat) (A2 : Option Addr) (m2 c2 : Nat), k ≤ 256 ∧ i = .int .i64 (k : Int) ∧ v = .slice A m c ∧ u = .slice A2 m2 c2 ∧ m ≤ n ∧ Two w (fnd e k) (fpw e k) (.slice A m c) (.slice A2 m2 c2) wr) (fun _ _ i _ => 256 - (intOf i).toNat)
  case atStart => exact ⟨0, none, 0, 0, none, 0, 0, Nat.zero_le _, rfl, rfl, rfl, Nat.zero_le _, Own.nil _ _ _, Own.nil _ _ _, fun q hq => (by simp [Value.ownBlock] at hq), Kp.refl _ _⟩
  case round =>
    obtain ⟨k, A, m, c, A2, m2, c2, hk, rfl, rfl, rfl, hmn, hI⟩ := hrel
    have HM := hide hI.out.len
    by_cases hlt : k < 256
    · by_cases hmlt : m < n
      · have hcv := ofNat_nat hlt
        have hcm : (k : Int) % 256 = (k : Int) := by omega
        have hsz := hI.kp.size
        have hLE := fnd_len e k
        have hLP := fpw_len e k
        have hp0 := hI.pow
        have HUq := hide (fpw_uq e k)
        have HU : Hid ((fnd e (k + 1)).length ≤ (fnd e N).length) := fnd_le (by have := hN.out; omega)
        obtain ⟨a, ha⟩ : ∃ a, a = UInt8.ofNat k := ⟨_, rfl⟩
        rw [← ha] at hcv
        have HA := hide ha
        have HC := hide hcv
        have hlp : (fpw e k).length + [upw a e].length ≤ 1000000000 := by simp; omega
        have hlo : (fnd e k).length + [a].length ≤ 1000000000 := by simp; omega
        have hlw : ([] : List UInt8).length + (fpw e k).length ≤ 1000000000 := by simp; omega
        clear ha hcv hLE
        go_wp2_with fail
        refine (rpower_any a _ x e _ HC.out hx1 hx2 he.out).mono ?_
        rintro r w1 ⟨rfl, rfl⟩
        clear hLP
        go_wp2_with (first
          | (at_builtin
             refine wpList_app rfl (.tmp 23) (.tmp 24) _ rfl i0 Try.underlying29 hi0 hz0 hz1 hz2 rfl (own_empty wr) rfl (hp0.bts.no (Kp.alloc No wr _)) (by simp; omega) (by simp) ?_
             intro A5 n5 c5 w5 ha5
             have h5 : Own w5 wr.heap.size 5 (.slice A5 n5 c5) (fpw e k) := by simpa using ha5.own
             have k5 : Kp No wr w5 := ha5.keeps (own_empty wr) (Kp.alloc No wr _)
             have k5s := k5.size
             have h5a := h5.alloc (.cells #[bv (upw a e)] 5)
             have b5 := bts_new w5 (upw a e) _ rfl)
          | (at_builtin
             refine wpList_app rfl (.tmp 25) (.tmp 27) _ rfl i0 Try.underlying29 hi0 hz0 hz1 hz2 rfl h5a rfl b5 hlp (by simp; omega) ?_
             intro A6 n6 c6 w6 ha6
             have k6 : Kp No wr w6 := ha6.keeps h5a (k5.trans' (Kp.alloc No _ _))))
        have hb6 := ha6.own.bts
        have hl6 := ha6.own.len
        have H6 := hide hl6
        have h61 : n6 ≤ 1000 := by rw [List.length_append] at hl6; have := fpw_len e k; have := fnd_len e k; simp at hl6; omega
        clear hl6
        by_cases hm : upw a e ∈ fpw e k
        · have HI : Hid (upw (UInt8.ofNat k) e ∈ fpw e k) := by show upw (UInt8.ofNat k) e ∈ fpw e k; rw [← HA.out]; exact hm
          have htw := twice_yes hb6 h61 (by rw [H6.out]; exact fun h => (uq_snoc.1 h).2 hm)
          clear hm
          refine htw.mono ?_
          rintro r w7 ⟨rfl, s7⟩
          have k7 := k6.trans' s7.kp
          go_wp2_with fail
          go_round
          case rel => exact ⟨k + 1, A, m, c, A2, m2, c2, by omega, by go_num, rfl, rfl, hmn, (by rw [fnd_in HI.out, fpw_in HI.out]; exact hI.no k7)⟩
          case measure => simp [intOf]; omega
        · have HI : Hid (upw (UInt8.ofNat k) e ∉ fpw e k) := by show upw (UInt8.ofNat k) e ∉ fpw e k; rw [← HA.out]; exact hm
          have htw := twice_no hb6 h61 (by rw [H6.out]; exact uq_snoc.2 ⟨HUq.out, hm⟩)
          clear hm
          refine htw.mono ?_
          rintro r w7 ⟨rfl, s7⟩
          have k7 := k6.trans' s7.kp
          have T7 := hI.no k7
          have k7s := k7.size
          have o7 := T7.out.alloc (.cells #[.int .u8 (k : Int)] 5)
          have b7 := bts_new w7 a (.int .u8 (k : Int)) (by unfold bv; rw [HC.out])
          clear hb6 htw
          go_wp2_with (first
            | (at_builtin
               refine wpList_app rfl (.tmp 31) (.tmp 34) _ rfl i0 Try.underlying29 hi0 hz0 hz1 hz2 rfl o7 rfl b7 hlo (by simp; omega) ?_
               intro A8 n8 c8 w8 ha8
               have T8 := T7.app1 ha8
               have T8s := T8.kp.size
               have o8 := T8.pow.alloc (.cells #[bv (upw a e)] 5)
               have b8 := bts_new w8 (upw a e) _ rfl)
            | (at_builtin
               refine wpList_app rfl (.tmp 36) (.tmp 38) _ rfl i0 Try.underlying29 hi0 hz0 hz1 hz2 rfl o8 rfl b8 hlp (by simp; omega) ?_
               intro A9 n9 c9 w9 ha9))
          have T9 := T8.app2 ha9
          have hl9 := T9.out.len
          have H9 : Hid (n8 ≤ n) := by
            show n8 ≤ n
            rw [List.length_append] at hl9
            have := HM.out
            simp at hl9
            omega
          clear hl9
          go_round
          case rel => exact ⟨k + 1, A8, n8, c8, A9, n9, c9, by omega, by go_num, rfl, rfl, H9.out, (by rw [fnd_new HI.out, fpw_new HI.out, ← HA.out]; exact T9)⟩
          case measure => simp [intOf]; omega
      · have h5 : (fnd e k).length ≤ (fnd e N).length := fnd_le (by have := hN.out; omega)
        have h6 := HM.out
        have h7 := HN.out
        omega
    · have hkN : N = k := by have := hN.out; omega
      have hmn2 : m < n := by have := HN.out; have := HM.out; rw [hkN] at *; omega
      clear hkN
      go_wp2_with fail
      go_ret
      exact ⟨none, 0, 0, rfl, Own.nil _ _ _, hI.kp⟩

theorem fnd_example : fnd 3 3 = [0, 1, 2] := by decide +kernel
end Go.Proofs.Ytbkelijmdpoanaa
