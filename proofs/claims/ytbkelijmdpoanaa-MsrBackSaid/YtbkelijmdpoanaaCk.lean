/- Package msr's check, as a contract over memory. -/
import Derived.Test.YtbkelijmdpoanaaRe
import Derived.Deep.QuietTactic
import Derived.BigQuiet
import Derived.Deep.DeepCutAuto
namespace Go.Proofs.Ytbkelijmdpoanaa
open Go.RowKit
set_option linter.unusedVariables false
set_option linter.unusedSimpArgs false
set_option maxRecDepth 100000

/-- Shards with their slots, as a slice has them. -/
structure Prts (w : World) (A : Option Addr) (m : Nat) (sl : Nat → Int) (ds : Nat → List UInt8) : Prop where
  at_ : ∀ j, j < m → ∃ B off A' r c, A = some ⟨B, off, none⟩ ∧ w.cell? ⟨B, off + j * 2, none⟩ = some (.int .i64 (sl j)) ∧ w.cell? ⟨B, off + j * 2 + 1, none⟩ = some (.slice A' r c) ∧ Bts w (.slice A' r c) (ds j)
theorem Prts.no {w w1 : World} {A : Option Addr} {m : Nat} {sl : Nat → Int} {ds : Nat → List UInt8} (h : Prts w A m sl ds) (hk : Kp No w w1) : Prts w1 A m sl ds :=
  ⟨fun j hj => by
    obtain ⟨B, off, A', r, c, h1, h2, h3, h4⟩ := h.at_ j hj
    exact ⟨B, off, A', r, c, h1, hk.cell h2 fun f => f, hk.cell h3 fun f => f, h4.no hk⟩⟩
theorem Prts.less {w : World} {A : Option Addr} {m m' : Nat} {sl : Nat → Int} {ds : Nat → List UInt8} (h : Prts w A m sl ds) (hm : m' ≤ m) : Prts w A m' sl ds := ⟨fun j hj => h.at_ j (by omega)⟩
/-- No slot was seen. -/
def snZ : Array Value := Array.replicate 24 (.bool false)
theorem sn_info : (Try.prog.info? 70).map (fun i => i.zero) = some (some (.agg snZ)) := by kernel_rfl
theorem sn_zero (w : World) : (zeroValue 70).run Try.prog w = .ok (.agg snZ) w := by
  have h := sn_info
  rcases hi : Try.prog.info? 70 with _ | i
  · rw [hi] at h; cases h
  · rw [hi] at h
    simp only [Option.map_some, Option.some.injEq] at h
    simp [zeroValue, typeInfo, go_sem, hi, h]
/-- The block g tells which of the first j slots were seen. -/
structure SnA (w : World) (g : Nat) (sl : Nat → Int) (j : Nat) : Prop where
  ex : ∃ cs : Array Value, w.heap[g]? = some (.cells cs 70 (0, 0)) ∧ cs.size = 24 ∧ ∀ s : Nat, s < 24 → ∃ b : Bool, cs[s]? = some (.bool b) ∧ (b = true ↔ ∃ i, i < j ∧ sl i = (s : Int))
section
variable {w w1 : World} {g j : Nat} {sl : Nat → Int} {S : Nat → Prop}
theorem SnA.new (w : World) (sl : Nat → Int) : SnA (w.alloc (.cells snZ 70)) w.heap.size sl 0 := by
  refine ⟨snZ, heap_alloc_new w _, by simp [snZ], fun s hs => ⟨false, ?_, ?_⟩⟩
  · unfold snZ
    rw [Array.getElem?_replicate, if_pos hs]
  · constructor
    · intro e; cases e
    · rintro ⟨i, hi, _⟩; omega
theorem SnA.keep (h : SnA w g sl j) (hk : Kp S w w1) (hS : ¬ S g) : SnA w1 g sl j := by
  obtain ⟨cs, h1, h2, h3⟩ := h.ex
  exact ⟨cs, by rw [hk.block g (Array.getElem?_eq_some_iff.1 h1).1 hS]; exact h1, h2, h3⟩
theorem SnA.cell (h : SnA w g sl j) {s : Nat} (hs : s < 24) : ∃ b : Bool, w.cell? ⟨g, s, none⟩ = some (.bool b) ∧ (b = true ↔ ∃ i, i < j ∧ sl i = (s : Int)) := by
  obtain ⟨cs, h1, h2, h3⟩ := h.ex
  obtain ⟨b, h4, h5⟩ := h3 s hs
  exact ⟨b, by rw [cell_of_row w g _ _ _ _ h1, h4], h5⟩
theorem SnA.frozen (h : SnA w g sl j) (o : Nat) : w.frozen? ⟨g, o, none⟩ = false := by
  obtain ⟨cs, h1, _⟩ := h.ex
  exact frozen_of_row w g o _ _ h1
theorem SnA.set (h : SnA w g sl j) {s : Nat} (hs : s < 24) (he : sl j = (s : Int)) : SnA (w.setCell ⟨g, s, none⟩ (.bool true)) g sl (j + 1) := by
  obtain ⟨cs, h1, h2, h3⟩ := h.ex
  refine ⟨cs.setIfInBounds s (.bool true), heap_setCell_same w g _ cs _ _ h1, by rw [Array.size_setIfInBounds]; exact h2, fun t ht => ?_⟩
  rw [Array.getElem?_setIfInBounds]
  by_cases e : s = t
  · subst e
    rw [if_pos rfl, if_pos (by omega)]
    exact ⟨true, rfl, fun _ => ⟨j, by omega, he⟩, fun _ => rfl⟩
  · rw [if_neg e]
    obtain ⟨b, h4, h5⟩ := h3 t ht
    refine ⟨b, h4, h5.trans ⟨fun ⟨i, hi, hx⟩ => ⟨i, by omega, hx⟩, fun ⟨i, hi, hx⟩ => ?_⟩⟩
    by_cases e2 : i = j
    · subst e2
      omega
    · exact ⟨i, by omega, hx⟩
end
/-- The shard j may stand there. -/
def PGood (n : Nat) (sl : Nat → Int) (ds : Nat → List UInt8) (j : Nat) : Prop := (0 ≤ sl j ∧ sl j < (n : Int)) ∧ (∀ i, i < j → sl i ≠ sl j) ∧ (ds j).length ≠ 0 ∧ (ds j).length = (ds 0).length
/-- Decode's error. -/
def CkV (n k a m : Nat) (sl : Nat → Int) (ds : Nat → List UInt8) (z : Int) : Prop :=
  (∃ j, j < m ∧ ¬ PGood n sl ds j) ∧ z = 1 ∨ (∀ j, j < m → PGood n sl ds j) ∧ (m < k ∧ z = 24 ∨ k ≤ m ∧ ((ds 0).length % a ≠ 0 ∧ z = 1 ∨ (ds 0).length % a = 0 ∧ z = 0))
def CkPost (w : World) (n k a m : Nat) (sl : Nat → Int) (ds : Nat → List UInt8) (e : Ending) (w1 : World) : Prop := ∃ z : Int, e = .returned (.int .i64 z) ∧ CkV n k a m sl ds z ∧ Kp No w w1
theorem check_nil (w : World) (v : Value) : Calls Try.prog 27 #[.pointer none, v] w fun e w' => e = .returned (.int .i64 1) ∧ w = w' := by
  go_enter Try.func27, Try.ntmps27
  go_wp2_with fail
  refine (kk_nil w).mono ?_
  rintro e w' ⟨rfl, rfl⟩
  go_wp2_with fail
  go_ret
  exact ⟨rfl, rfl⟩
theorem has_q {w : World} {c n k : Nat} {x : Nat → UInt8} (h : CodeAt w c n k x) (i : Nat) (hi : i < n) (r : Nat) : Calls Try.prog 30 #[cptr c, .int .i64 (i : Int)] (w.drewN r) fun e w' => e = .returned (.bool true) ∧ ∃ t, w' = w.drewN t :=
  (has_yes (h.no (Sm.drewN w r).kp) i hi).mono fun _ _ ⟨he, hw⟩ => ⟨he, r, hw.symm⟩
theorem has_nq {w : World} {c n k : Nat} {x : Nat → UInt8} (h : CodeAt w c n k x) (i : Int) (hi : i < 0 ∨ (n : Int) ≤ i) (r : Nat) : Calls Try.prog 30 #[cptr c, .int .i64 i] (w.drewN r) fun e w' => e = .returned (.bool false) ∧ ∃ t, w' = w.drewN t :=
  (has_no (h.no (Sm.drewN w r).kp) i hi).mono fun _ _ ⟨he, hw⟩ => ⟨he, r, hw.symm⟩
theorem aa_q {w : World} {c n k a d q : Nat} {x : Nat → UInt8} (h : CodeAt w c n k x) (hD : Dim n k a d q) (r : Nat) : Calls Try.prog 13 #[cptr c] (w.drewN r) fun e w' => e = .returned (.int .i64 (a : Int)) ∧ ∃ t, w' = w.drewN t :=
  (aa_any (h.no (Sm.drewN w r).kp) hD).mono fun _ _ ⟨he, hw⟩ => ⟨he, r, hw.symm⟩

set_option maxHeartbeats 4000000 in
theorem check_any {w : World} {c n k a d q : Nat} {x : Nat → UInt8} {A : Option Addr} {m cp : Nat} {sl : Nat → Int} {ds : Nat → List UInt8} (h : CodeAt w c n k x) (hD : Dim n k a d q) (hP : Prts w A m sl ds) (hm : m ≤ 1000) : Calls Try.prog 27 #[cptr c, .slice A m cp] w (CkPost w n k a m sl ds) := by
  have hz := sn_zero
  have hn := hD.n2
  have ha1 := hD.a1
  have ha7 := hD.a7
  have hk0 : ((k : Int) == 0) = false := by have := hD.k_; simp; omega
  have hnew := SnA.new w sl
  have hkn : Kp No w (w.alloc (.cells snZ 70)) := Kp.alloc No _ _
  obtain ⟨g, hg⟩ : ∃ g, g = w.heap.size := ⟨_, rfl⟩
  go_enter Try.func27, Try.ntmps27
  go_wp2_with fail
  refine (kk_any h).mono ?_
  rintro e w' ⟨rfl, rfl⟩
  go_wp2_with fail
  rw [← hg] at hnew ⊢
  have HG := hide hg
  clear hg hz hk0
  go_loopw [13] (fun i wr => ∃ j : Nat, j ≤ m ∧ i = .int .i64 (j : Int) ∧ Hid (∀ i, i < j → PGood n sl ds i) ∧ SnA wr g sl j ∧ Kp No w wr) (fun i _ => m - (intOf i).toNat)
  case atStart => exact ⟨0, Nat.zero_le _, rfl, (fun i hi => absurd hi (Nat.not_lt_zero _) : ∀ i, i < 0 → PGood n sl ds i), hnew, hkn⟩
  case round =>
    clear hnew hkn
    obtain ⟨j, hj, rfl, hgood, hS, hkw⟩ := hrel
    by_cases hlt : j < m
    · obtain ⟨B, off, A', r, cc, rfl, z0, z1, hB⟩ := (hP.no hkw).at_ j hlt
      obtain ⟨B', off', A0, r0, c0, hAB, _, z00, hB0⟩ := (hP.no hkw).at_ 0 (by omega)
      injection hAB with hAB
      injection hAB with hAB1 hAB2
      subst hAB1 hAB2
      have hl := hide hB.len
      have hl0 := hide hB0.len
      have hr0 : 0 < m := by omega
      rw [Nat.zero_mul, Nat.add_zero] at z00
      go_upto_region 7 with fail
      have hC := h.no hkw
      have kb : Kp No wr (wr.alloc (.cells #[.int .i64 (sl j), .slice A' r cc] 45)) := Kp.alloc No _ _
      have b0 : (wr.alloc (.cells #[.int .i64 (sl j), .slice A' r cc] 45)).cell? ⟨wr.heap.size, 0, none⟩ = some (.int .i64 (sl j)) := by simp
      have b1 : (wr.alloc (.cells #[.int .i64 (sl j), .slice A' r cc] 45)).cell? ⟨wr.heap.size, 1, none⟩ = some (.slice A' r cc) := by simp
      have hS2 := hS.keep kb fun f => f
      have hC2 := hC.no kb
      have y00 := kb.cell z00 fun f => f
      generalize wr.alloc (.cells #[.int .i64 (sl j), .slice A' r cc] 45) = wb at *
      generalize wr.heap.size = bx at *
      clear z0 z1 z00 hC hB hB0
      by_cases hr : 0 ≤ sl j ∧ sl j < (n : Int)
      · obtain ⟨s, hs⟩ : ∃ s : Nat, sl j = (s : Int) := ⟨(sl j).toNat, by omega⟩
        have hs1 : s < n := by omega
        have hs24 : s < 24 := by omega
        obtain ⟨b, sb, hb⟩ := hS2.cell hs24
        have HE := hide hs
        have HR := hide hr
        rw [hs] at b0
        clear hs hr
        rcases b with _ | _
        · have HB : Hid (∀ i, i < j → sl i ≠ sl j) := fun i hi e => by
            have := hb.2 ⟨i, hi, by rw [e]; exact HE.out⟩
            cases this
          clear hb
          by_cases hz : r = 0
          · subst hz
            have HBad : Hid (¬ PGood n sl ds j) := fun hp => hp.2.2.1 hl.out.symm
            go_wp2_with fail
            go_quiet ((go_at_call 30; exact has_q hC2 s hs1 _))
            go_wp2_with fail
            go_ret
            exact ⟨1, rfl, .inl ⟨⟨j, hlt, HBad.out⟩, rfl⟩, (hkw.trans' kb).drewN _⟩
          · have hzr : ((r : Int) == 0) = false := by simp; omega
            have HZ := hide hz
            by_cases he : r = r0
            · subst he
              have HGood : Hid (PGood n sl ds j) := ⟨HR.out, HB.out, fun e => HZ.out (by rw [hl.out]; exact e), by rw [← hl.out, ← hl0.out]⟩
              have fz := hS2.frozen s
              have HN := hide (fun t => (hS2.keep (Sm.drewN wb t).kp (S := No) fun f => f).set hs24 HE.out)
              clear hz
              go_wp2_with fail
              go_quiet ((go_at_call 30; exact has_q hC2 s hs1 _))
              go_wp2_with fail
              go_round
              case rel =>
                refine ⟨j + 1, by omega, by go_num, (fun i hi => ?_ : ∀ i, i < j + 1 → PGood n sl ds i), HN.out _, ?_⟩
                · by_cases e : i = j
                  · rw [e]; exact HGood.out
                  · exact hgood.out i (by omega)
                · exact ((hkw.trans' kb).drewN _).own (Kp.setCell (p := ⟨g, s, none⟩) (S := fun q => w.heap.size ≤ q) (Nat.le_of_eq HG.out.symm) _)
              case measure => simp [intOf]; omega
            · have HBad : Hid (¬ PGood n sl ds j) := fun hp => he (by rw [hl.out, hl0.out]; exact hp.2.2.2)
              have hne : ((r : Int) != (r0 : Int)) = true := by simp; omega
              clear hz he
              go_wp2_with fail
              go_quiet ((go_at_call 30; exact has_q hC2 s hs1 _))
              go_wp2_with fail
              go_ret
              exact ⟨1, rfl, .inl ⟨⟨j, hlt, HBad.out⟩, rfl⟩, (hkw.trans' kb).drewN _⟩
        · have HBad : Hid (¬ PGood n sl ds j) := fun hp => by
            obtain ⟨i, hi, e⟩ := hb.1 rfl
            exact hp.2.1 i hi (by rw [e]; exact HE.out.symm)
          clear hb
          go_wp2_with fail
          go_quiet ((go_at_call 30; exact has_q hC2 s hs1 _))
          go_wp2_with fail
          go_ret
          exact ⟨1, rfl, .inl ⟨⟨j, hlt, HBad.out⟩, rfl⟩, (hkw.trans' kb).drewN _⟩
      · have HBad : Hid (¬ PGood n sl ds j) := fun hp => hr hp.1
        have hr' : sl j < 0 ∨ (n : Int) ≤ sl j := by omega
        have HQ := hide (fun t => has_nq hC2 (sl j) hr' t)
        clear hr hr'
        generalize sl j = sj at b0 HQ ⊢
        go_wp2_with fail
        go_quiet ((go_at_call 30; exact HQ.out _))
        go_wp2_with fail
        go_ret
        exact ⟨1, rfl, .inl ⟨⟨j, hlt, HBad.out⟩, rfl⟩, (hkw.trans' kb).drewN _⟩
    · obtain rfl : j = m := by omega
      have hkk := kk_any (h.no hkw)
      have hCw := h.no hkw
      by_cases hf : j < k
      · have HV : Hid (CkV n k a j sl ds 24) := .inr ⟨hgood.out, .inl ⟨hf, rfl⟩⟩
        go_wp2_with fail
        refine hkk.mono ?_
        rintro e w' ⟨rfl, rfl⟩
        go_wp2_with fail
        go_ret
        exact ⟨24, rfl, HV.out, hkw⟩
      · have hkj : k ≤ j := by omega
        have hk1 : 1 ≤ k := by have := hD.k_; omega
        obtain ⟨B, off, A0, r0, c0, rfl, _, z00, hB0⟩ := (hP.no hkw).at_ 0 (by omega)
        rw [Nat.zero_mul, Nat.add_zero] at z00
        have hl0 := hide hB0.len
        have h0j : 0 < j := by omega
        obtain ⟨rr, hrr⟩ : ∃ rr, rr = r0 % a := ⟨_, rfl⟩
        have hr1 : (r0 : Int) % (a : Int) = (rr : Int) := by rw [hrr, Int.natCast_emod]
        have hr2 : (r0 : Int).tmod (a : Int) = (rr : Int) := by rw [Int.tmod_eq_emod_of_nonneg (by omega), hr1]
        have HRR := hide hrr
        have HAQ := hide (fun t => aa_q hCw hD t)
        clear hf hB0 hrr
        by_cases hz : rr = 0
        · subst hz
          have HV : Hid (CkV n k a j sl ds 0) := .inr ⟨hgood.out, .inr ⟨hkj, .inr ⟨by rw [← hl0.out]; exact HRR.out.symm, rfl⟩⟩⟩
          go_wp2_with fail
          refine hkk.mono ?_
          rintro e w' ⟨rfl, rfl⟩
          go_wp2_with fail
          go_quiet ((go_at_call 13; exact HAQ.out _))
          go_wp2_with fail
          go_ret
          exact ⟨0, rfl, HV.out, hkw.drewN _⟩
        · have HV : Hid (CkV n k a j sl ds 1) := .inr ⟨hgood.out, .inr ⟨hkj, .inl ⟨by rw [← hl0.out, ← HRR.out]; exact hz, rfl⟩⟩⟩
          have hz' : ((rr : Int) != 0) = true := by simp; omega
          clear hz
          go_wp2_with fail
          refine hkk.mono ?_
          rintro e w' ⟨rfl, rfl⟩
          go_wp2_with fail
          go_quiet ((go_at_call 13; exact HAQ.out _))
          go_wp2_with fail
          go_ret
          exact ⟨1, rfl, HV.out, hkw.drewN _⟩
end Go.Proofs.Ytbkelijmdpoanaa
