/- Package vand's Points, the document's power and Points, and law05's awake, each as a contract over memory. -/
import Derived.Test.YtbkelijmdpoanaaVe
namespace Go.Proofs.Ytbkelijmdpoanaa
open Go.RowKit
set_option linter.unusedVariables false
set_option maxRecDepth 20000

theorem powU_any (x : UInt8) (z n : Int) (e : Nat) (w : World) (hz : (x.toNat : Int) = z) (h1 : 1 ≤ n) (h2 : n ≤ 9223372036854775807) (he : e = n.toNat) : Calls Try.prog 39 #[.int .u8 z, .int .i64 n] w fun r w' => r = .returned (.int .u8 ((upw x e).toNat : Int)) ∧ w = w' := by
  rw [upw_nat, he, ← hz]
  exact pow_any x.toNat n w (u8_lt x) (by omega) h2

/-- No points come back, and ErrArg. -/
def ArgPostB (w : World) (e : Ending) (w1 : World) : Prop := e = .returned (.tuple #[.slice none 0 0, .int .i64 1]) ∧ Kp No w w1
/-- A row of the call's own comes back, and no error. -/
def OwnPostB (w : World) (bs : List UInt8) (e : Ending) (w1 : World) : Prop := ∃ A n c, e = .returned (.tuple #[.slice A n c, .int .i64 0]) ∧ Own w1 w.heap.size 5 (.slice A n c) bs ∧ Kp No w w1

theorem points_arg (n x : Int) (w : World) (h : n < 1 ∨ x < 1) : Calls Try.prog 23 #[.int .i64 n, .int .i64 x] w (ArgPostB w) := by
  by_cases h1 : n < 1
  · clear h
    go_enter Try.func23, Try.ntmps23
    go_wp2_with fail
    go_ret2
    exact ⟨rfl, Kp.refl _ _⟩
  · have h2 : x < 1 := by omega
    clear h
    go_enter Try.func23, Try.ntmps23
    go_wp2_with fail
    go_ret2
    exact ⟨rfl, Kp.refl _ _⟩

theorem ofNat_nat {k : Nat} (h : k < 256) : ((UInt8.ofNat k).toNat : Int) = (k : Int) := by
  rw [UInt8.toNat_ofNat', Nat.mod_eq_of_lt (by omega)]
/-- What the elements' loop keeps. -/
structure PtI (w : World) (g e k : Nat) (A : Option Addr) (m c : Nat) (wr : World) : Prop where
  own : Own wr w.heap.size 5 (.slice A m c) (fnd e k)
  set : SetAt wr g (fpw e k)
  kp : Kp No w wr
theorem own_set {w : World} {b g : Nat} {v : Value} {bs l : List UInt8} (h : Own w b 5 v bs) (h' : SetAt w g l) : v.ownBlock ≠ some g := by
  intro hv
  obtain ⟨cs, h1, _⟩ := h'
  rcases h.2 with ⟨rfl, _⟩ | ⟨b', cap', cur', rfl, _, hg', _⟩
  · simp [Value.ownBlock] at hv
  · simp only [Value.ownBlock, Option.some.injEq] at hv
    subst hv
    rw [h1] at hg'
    simp only [Option.some.injEq, Obj.cells.injEq] at hg'
    exact absurd hg'.2.1 (by decide)
theorem PtI.same {w wr w2 : World} {g e k m c : Nat} {A : Option Addr} (h : PtI w g e k A m c wr) (hg : w.heap.size ≤ g) (hin : upw (UInt8.ofNat k) e ∈ fpw e k) (hS : SetAt w2 g (fpw e k ++ [upw (UInt8.ofNat k) e])) (hk : Kp (fun q => q = g) wr w2) : PtI w g e (k + 1) A m c w2 := by
  refine ⟨?_, ?_, h.kp.trans (hk.mono fun q hq => .inr (by omega))⟩
  · rw [fnd_in hin]
    exact h.own.keep hk fun q hq e => own_set h.own h.set (by rw [hq, e])
  · rw [fpw_in hin]
    exact hS.eq fun a => by
      rw [List.mem_append, List.mem_singleton]
      exact ⟨fun h => h.elim id fun e => e ▸ hin, .inl⟩
theorem PtI.add {w wr w2 : World} {g e k m c : Nat} {A : Option Addr} (h : PtI w g e k A m c wr) (hk : Kp (fun q => q = g) wr w2) : Own w2 w.heap.size 5 (.slice A m c) (fnd e k) := h.own.keep hk fun q hq e => own_set h.own h.set (by rw [hq, e])
theorem PtI.next {w wr w2 w3 : World} {g e k m c m1 c1 : Nat} {A A1 : Option Addr} {o : Obj} (h : PtI w g e k A m c wr) (hg : w.heap.size ≤ g) (hin : upw (UInt8.ofNat k) e ∉ fpw e k) (hS : SetAt w2 g (fpw e k ++ [upw (UInt8.ofNat k) e])) (hk : Kp (fun q => q = g) wr w2)
    (ha : App (w2.alloc o) w.heap.size 5 (.slice A m c) (fnd e k) [UInt8.ofNat k] (.slice A1 m1 c1) w3) : PtI w g e (k + 1) A1 m1 c1 w3 := by
  have ho := (h.add hk).alloc o
  have hS2 := hS.no (Kp.alloc No w2 o)
  refine ⟨by rw [fnd_new hin]; exact ha.own, ?_, ha.keeps ho ((h.kp.trans (hk.mono fun q hq => .inr (by omega))).trans' (Kp.alloc No _ _))⟩
  rw [fpw_new hin]
  exact hS2.keep ha.kp fun e => own_set ho hS2 e

set_option maxHeartbeats 2000000 in
set_option maxRecDepth 100000 in
theorem points_yes (n : Nat) (x : Int) (e N : Nat) (w : World) (h1 : 1 ≤ n) (hx1 : 1 ≤ x) (hx2 : x ≤ 9223372036854775807) (he : Hid (e = x.toNat)) (hN : Hid (N = 256)) (HN : Hid (n ≤ (fnd e N).length)) :
    Calls Try.prog 23 #[.int .i64 (n : Int), .int .i64 x] w (OwnPostB w ((fnd e N).take n)) := by
  obtain ⟨i0, hi0, hz0, hz1, hz2⟩ := byte_parts
  have hn2 : n ≤ 256 := Nat.le_trans HN.out (hN.out ▸ fnd_len e N)
  have hb := el_zero
  have hnew := SetAt.new w
  have hk0 : Kp No w (w.alloc (.cells elZ 66)) := Kp.alloc No _ _
  obtain ⟨g, hg⟩ : ∃ g, g = w.heap.size := ⟨_, rfl⟩
  go_enter Try.func23, Try.ntmps23
  go_wp2_with fail
  rw [← hg] at hnew ⊢
  have HG : Hid (w.heap.size ≤ g) := Nat.le_of_eq hg.symm
  clear hg hb
  go_loopw [7, 16] (fun v i wr => ∃ (k : Nat) (A : Option Addr) (m c : Nat), k ≤ 256 ∧ i = .int .i64 (k : Int) ∧ v = .slice A m c ∧ Hid (((fnd e k).length : Int) < n) ∧ PtI w g e k A m c wr) (fun _ i _ => 256 - (intOf i).toNat)
  case atStart => exact ⟨0, none, 0, 0, Nat.zero_le _, rfl, rfl, (by show ((0 : Nat) : Int) < n; omega : (((fnd e 0).length : Nat) : Int) < n), Own.nil _ _ _, hnew, hk0⟩
  case round =>
    obtain ⟨k, A, m, c, hk, rfl, rfl, hlen, hI⟩ := hrel
    by_cases hlt : k < 256
    · have hcv := ofNat_nat hlt
      have hcm : (k : Int) % 256 = (k : Int) := by omega
      have hsz := hI.kp.size
      have HLE : Hid ((fnd e k).length ≤ k) := fnd_len e k
      have HU : Hid ((fnd e (k + 1)).length ≤ (fnd e N).length) := fnd_le (by have := hN.out; omega)
      have HT : Hid ((fnd e N).take (fnd e (k + 1)).length = fnd e (k + 1)) := fnd_take (by have := hN.out; omega)
      obtain ⟨a, ha⟩ : ∃ a, a = UInt8.ofNat k := ⟨_, rfl⟩
      rw [← ha] at hcv
      have HA := hide ha
      have HC := hide hcv
      clear ha hcv
      go_wp2_with fail
      refine (powU_any a _ x e _ HC.out hx1 hx2 he.out).mono ?_
      rintro r w1 ⟨rfl, rfl⟩
      go_wp2_with fail
      refine (eladd_any hI.set (upw a e)).mono ?_
      rintro r w2 ⟨rfl, hS2, hk2⟩
      have hk2s := hk2.size
      by_cases hm : upw a e ∈ fpw e k
      · have HM : Hid (upw (UInt8.ofNat k) e ∈ fpw e k) := by show upw (UInt8.ofNat k) e ∈ fpw e k; rw [← HA.out]; exact hm
        have HI := hide (hI.same HG.out HM.out (by rw [← HA.out]; exact hS2) hk2)
        rw [decide_eq_true hm]
        clear hm
        go_wp2_with fail
        go_round
        case rel => exact ⟨k + 1, A, m, c, by omega, by go_num, rfl, (by rw [fnd_in HM.out]; exact hlen.out : ((fnd e (k + 1)).length : Int) < n), HI.out⟩
        case measure => simp [intOf]; omega
      · have HM : Hid (upw (UInt8.ofNat k) e ∉ fpw e k) := by show upw (UInt8.ofNat k) e ∉ fpw e k; rw [← HA.out]; exact hm
        have HL : Hid ((fnd e (k + 1)).length = (fnd e k).length + 1) := by show (fnd e (k + 1)).length = _; rw [fnd_new HM.out, List.length_append]; rfl
        rw [decide_eq_false hm]
        have ho2 := (hI.add hk2).alloc (.cells #[.int .u8 (k : Int)] 5)
        have hb := bts_new w2 a (.int .u8 (k : Int)) (by unfold bv; rw [HC.out])
        have hl : (fnd e k).length + [a].length ≤ 1000000000 := by have := HLE.out; simp; omega
        clear hm
        by_cases hfull : (fnd e k).length + 1 = n
        · have HF := hide hfull
          clear hfull
          go_wp2_with (first
            | (at_builtin
               refine wpList_app rfl (.tmp 26) (.tmp 28) _ rfl i0 Try.underlying29 hi0 hz0 hz1 hz2 rfl ho2 rfl hb hl (by simp; omega) ?_
               intro A1 n1 c1 w3 ha
               have ht : ((n1 : Int) == (n : Int)) = true := by
                 have h4 := ha.own.len
                 rw [List.length_append] at h4
                 simp at h4
                 have h5 := HF.out
                 simp
                 omega))
          go_ret2
          have hn := hI.next HG.out HM.out (by rw [← HA.out]; exact hS2) hk2 (by rw [← HA.out]; exact ha)
          have h8 : (fnd e N).take n = fnd e (k + 1) := by rw [← HT.out, HL.out, HF.out]
          exact ⟨A1, n1, c1, rfl, by rw [h8]; exact hn.own, hn.kp⟩
        · have HF := hide hfull
          clear hfull
          go_wp2_with (first
            | (at_builtin
               refine wpList_app rfl (.tmp 26) (.tmp 28) _ rfl i0 Try.underlying29 hi0 hz0 hz1 hz2 rfl ho2 rfl hb hl (by simp; omega) ?_
               intro A1 n1 c1 w3 ha
               have ht : ((n1 : Int) == (n : Int)) = false := by
                 have h4 := ha.own.len
                 rw [List.length_append] at h4
                 simp at h4
                 have h5 := HF.out
                 simp
                 omega))
          go_round
          case rel => exact ⟨k + 1, A1, n1, c1, by omega, by go_num, rfl, (by have h5 := HF.out; have h6 := hlen.out; have h7 := HL.out; omega : ((fnd e (k + 1)).length : Int) < n), hI.next HG.out HM.out (by rw [← HA.out]; exact hS2) hk2 (by rw [← HA.out]; exact ha)⟩
          case measure => simp [intOf]; omega
    · have hkN : k = N := by have := hN.out; omega
      have := HN.out
      have := hlen.out
      subst hkN
      omega
set_option maxHeartbeats 2000000 in
set_option maxRecDepth 100000 in
theorem points_no (n : Int) (x : Int) (e N : Nat) (w : World) (h1 : 1 ≤ n) (hx1 : 1 ≤ x) (hx2 : x ≤ 9223372036854775807) (he : Hid (e = x.toNat)) (hN : Hid (N = 256)) (HN : Hid (((fnd e N).length : Int) < n)) :
    Calls Try.prog 23 #[.int .i64 n, .int .i64 x] w (ArgPostB w) := by
  obtain ⟨i0, hi0, hz0, hz1, hz2⟩ := byte_parts
  have hb := el_zero
  have hnew := SetAt.new w
  have hk0 : Kp No w (w.alloc (.cells elZ 66)) := Kp.alloc No _ _
  obtain ⟨g, hg⟩ : ∃ g, g = w.heap.size := ⟨_, rfl⟩
  go_enter Try.func23, Try.ntmps23
  go_wp2_with fail
  rw [← hg] at hnew ⊢
  have HG : Hid (w.heap.size ≤ g) := Nat.le_of_eq hg.symm
  clear hg hb
  go_loopw [7, 16] (fun v i wr => ∃ (k : Nat) (A : Option Addr) (m c : Nat), k ≤ 256 ∧ i = .int .i64 (k : Int) ∧ v = .slice A m c ∧ Hid (((fnd e k).length : Int) < n) ∧ PtI w g e k A m c wr) (fun _ i _ => 256 - (intOf i).toNat)
  case atStart => exact ⟨0, none, 0, 0, Nat.zero_le _, rfl, rfl, (by show ((0 : Nat) : Int) < n; omega : (((fnd e 0).length : Nat) : Int) < n), Own.nil _ _ _, hnew, hk0⟩
  case round =>
    obtain ⟨k, A, m, c, hk, rfl, rfl, hlen, hI⟩ := hrel
    by_cases hlt : k < 256
    · have hcv := ofNat_nat hlt
      have hcm : (k : Int) % 256 = (k : Int) := by omega
      have hsz := hI.kp.size
      have HLE : Hid ((fnd e k).length ≤ k) := fnd_len e k
      have HU : Hid ((fnd e (k + 1)).length ≤ (fnd e N).length) := fnd_le (by have := hN.out; omega)
      have HT : Hid ((fnd e N).take (fnd e (k + 1)).length = fnd e (k + 1)) := fnd_take (by have := hN.out; omega)
      obtain ⟨a, ha⟩ : ∃ a, a = UInt8.ofNat k := ⟨_, rfl⟩
      rw [← ha] at hcv
      have HA := hide ha
      have HC := hide hcv
      clear ha hcv
      go_wp2_with fail
      refine (powU_any a _ x e _ HC.out hx1 hx2 he.out).mono ?_
      rintro r w1 ⟨rfl, rfl⟩
      go_wp2_with fail
      refine (eladd_any hI.set (upw a e)).mono ?_
      rintro r w2 ⟨rfl, hS2, hk2⟩
      have hk2s := hk2.size
      by_cases hm : upw a e ∈ fpw e k
      · have HM : Hid (upw (UInt8.ofNat k) e ∈ fpw e k) := by show upw (UInt8.ofNat k) e ∈ fpw e k; rw [← HA.out]; exact hm
        have HI := hide (hI.same HG.out HM.out (by rw [← HA.out]; exact hS2) hk2)
        rw [decide_eq_true hm]
        clear hm
        go_wp2_with fail
        go_round
        case rel => exact ⟨k + 1, A, m, c, by omega, by go_num, rfl, (by rw [fnd_in HM.out]; exact hlen.out : ((fnd e (k + 1)).length : Int) < n), HI.out⟩
        case measure => simp [intOf]; omega
      · have HM : Hid (upw (UInt8.ofNat k) e ∉ fpw e k) := by show upw (UInt8.ofNat k) e ∉ fpw e k; rw [← HA.out]; exact hm
        have HL : Hid ((fnd e (k + 1)).length = (fnd e k).length + 1) := by show (fnd e (k + 1)).length = _; rw [fnd_new HM.out, List.length_append]; rfl
        rw [decide_eq_false hm]
        have ho2 := (hI.add hk2).alloc (.cells #[.int .u8 (k : Int)] 5)
        have hb := bts_new w2 a (.int .u8 (k : Int)) (by unfold bv; rw [HC.out])
        have hl : (fnd e k).length + [a].length ≤ 1000000000 := by have := HLE.out; simp; omega
        clear hm
        have HF : Hid (¬ (((fnd e k).length : Int) + 1 = n)) := by show ¬ (((fnd e k).length : Int) + 1 = n); have := HU.out; have := HL.out; have := HN.out; omega
        go_wp2_with (first
          | (at_builtin
             refine wpList_app rfl (.tmp 26) (.tmp 28) _ rfl i0 Try.underlying29 hi0 hz0 hz1 hz2 rfl ho2 rfl hb hl (by simp; omega) ?_
             intro A1 n1 c1 w3 ha
             have ht : ((n1 : Int) == n) = false := by
               have h4 := ha.own.len
               rw [List.length_append] at h4
               simp at h4
               have h5 := HF.out
               simp
               omega))
        go_round
        case rel => exact ⟨k + 1, A1, n1, c1, by omega, by go_num, rfl, (by have h5 := HF.out; have h6 := hlen.out; have h7 := HL.out; omega : ((fnd e (k + 1)).length : Int) < n), hI.next HG.out HM.out (by rw [← HA.out]; exact hS2) hk2 (by rw [← HA.out]; exact ha)⟩
        case measure => simp [intOf]; omega
    · have hkN : k = N := by have := hN.out; omega
      clear hkN
      go_wp2_with fail
      go_ret2
      exact ⟨rfl, hI.kp⟩

end Go.Proofs.Ytbkelijmdpoanaa
