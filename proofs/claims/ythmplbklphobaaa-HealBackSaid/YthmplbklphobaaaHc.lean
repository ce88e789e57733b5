/- Package heal's check, as a contract over memory. -/
import Derived.Test.YthmplbklphobaaaHb
import Derived.Deep.QuietTactic
import Derived.BigQuiet
import Derived.Deep.DeepCutAuto
namespace Go.Proofs.Ythmplbklphobaaa
open Go.RowKit
set_option linter.unusedVariables false
set_option linter.unusedSimpArgs false
set_option maxRecDepth 100000

/-- The lost slot, and the others behind it. -/
def slx (z : Int) (sl : Nat → Int) : Nat → Int
  | 0 => z
  | j + 1 => sl j
/-- The fragment j may help. -/
def HGood (n : Nat) (z : Int) (sl : Nat → Int) (ds : Nat → List UInt8) (j : Nat) : Prop := PGood n sl ds j ∧ sl j ≠ z
/-- Regenerate's error. -/
def HckV (n d m : Nat) (z : Int) (sl : Nat → Int) (ds : Nat → List UInt8) (y : Int) : Prop :=
  (∃ j, j < m ∧ ¬ HGood n z sl ds j) ∧ y = 1 ∨ (∀ j, j < m → HGood n z sl ds j) ∧ (m < d ∧ y = 24 ∨ d ≤ m ∧ y = 0)
def HckPost (w : World) (n d m : Nat) (z : Int) (sl : Nat → Int) (ds : Nat → List UInt8) (e : Ending) (w1 : World) : Prop := ∃ y : Int, e = .returned (.int .i64 y) ∧ HckV n d m z sl ds y ∧ Kp No w w1
theorem hck_nil (w : World) (i : Int) (v : Value) : Calls Try.prog 32 #[.pointer none, .int .i64 i, v] w fun e w' => e = .returned (.int .i64 1) ∧ w = w' := by
  go_enter Try.func32, Try.ntmps32
  go_wp2_with fail
  refine (ex_nil w i).mono ?_
  rintro e w' ⟨rfl, rfl⟩
  go_wp2_with fail
  go_ret
  exact ⟨rfl, rfl⟩
theorem hck_out {w : World} {c n k : Nat} {x : Nat → UInt8} (h : CodeAt w c n k x) (i : Int) (hi : i < 0 ∨ (n : Int) ≤ i) (v : Value) : Calls Try.prog 32 #[cptr c, .int .i64 i, v] w fun e w' => e = .returned (.int .i64 1) ∧ w = w' := by
  have hx := ex_no h i hi
  clear hi
  go_enter Try.func32, Try.ntmps32
  go_wp2_with fail
  refine hx.mono ?_
  rintro e w' ⟨rfl, rfl⟩
  go_wp2_with fail
  go_ret
  exact ⟨rfl, rfl⟩
theorem ex_q {w : World} {c n k : Nat} {x : Nat → UInt8} (h : CodeAt w c n k x) (i : Nat) (hi : i < n) (r : Nat) : Calls Try.prog 22 #[cptr c, .int .i64 (i : Int)] (w.drewN r) fun e w' => e = .returned (.bool true) ∧ ∃ t, w' = w.drewN t :=
  (ex_yes (h.no (Sm.drewN w r).kp) i hi).mono fun _ _ ⟨he, hw⟩ => ⟨he, r, hw.symm⟩
theorem ex_nq {w : World} {c n k : Nat} {x : Nat → UInt8} (h : CodeAt w c n k x) (i : Int) (hi : i < 0 ∨ (n : Int) ≤ i) (r : Nat) : Calls Try.prog 22 #[cptr c, .int .i64 i] (w.drewN r) fun e w' => e = .returned (.bool false) ∧ ∃ t, w' = w.drewN t :=
  (ex_no (h.no (Sm.drewN w r).kp) i hi).mono fun _ _ ⟨he, hw⟩ => ⟨he, r, hw.symm⟩

set_option maxHeartbeats 4000000 in
theorem hck_any {w : World} {c n k a d q : Nat} {x : Nat → UInt8} {A : Option Addr} {m cp : Nat} {sl : Nat → Int} {ds : Nat → List UInt8} (h : CodeAt w c n k x) (hD : Dim n k a d q) (hP : Prts w A m sl ds) (hm : m ≤ 1000) (i : Nat) (hi : i < n) : Calls Try.prog 32 #[cptr c, .int .i64 (i : Int), .slice A m cp] w (HckPost w n d m (i : Int) sl ds) := by
  have hz := sn_zero
  have hn := hD.n2
  have ha1 := hD.a1
  have ha7 := hD.a7
  have hi24 : i < 24 := by omega
  have hx := ex_yes h i hi
  have hnew := SnA.new w (slx (i : Int) sl)
  have hkn : Kp No w (w.alloc (.cells snZ 80)) := Kp.alloc No _ _
  obtain ⟨g, hg⟩ : ∃ g, g = w.heap.size := ⟨_, rfl⟩
  go_enter Try.func32, Try.ntmps32
  go_wp2_with fail
  refine hx.mono ?_
  rintro e w' ⟨rfl, rfl⟩
  go_upto_region 4 with fail
  rw [← hg] at hnew ⊢
  have HG := hide hg
  generalize w.alloc (.cells snZ 80) = w0 at *
  clear hg hz hx
  obtain ⟨b0, sb0, _⟩ := hnew.cell hi24
  have fz0 := hnew.frozen i
  have HN0 := hide (hnew.set hi24 (show slx (i : Int) sl 0 = (i : Int) from rfl))
  have HK0 : Hid (Kp No w (w0.setCell ⟨g, i, none⟩ (.bool true))) := hkn.own (Kp.setCell (p := ⟨g, i, none⟩) (S := fun q => w.heap.size ≤ q) (Nat.le_of_eq HG.out.symm) _)
  clear hnew hkn
  go_wp2_with fail
  go_loopw [18] (fun iv wr => ∃ j : Nat, j ≤ m ∧ iv = .int .i64 (j : Int) ∧ Hid (∀ u, u < j → HGood n (i : Int) sl ds u) ∧ SnA wr g (slx (i : Int) sl) (j + 1) ∧ Kp No w wr) (fun iv _ => m - (intOf iv).toNat)
  case atStart => exact ⟨0, Nat.zero_le _, rfl, (fun u hu => absurd hu (Nat.not_lt_zero _) : ∀ u, u < 0 → HGood n (i : Int) sl ds u), HN0.out, HK0.out⟩
  case round =>
    clear HN0 HK0 sb0 fz0
    obtain ⟨j, hj, rfl, hgood, hS, hkw⟩ := hrel
    by_cases hlt : j < m
    · obtain ⟨B, off, A', r, cc, rfl, z0, z1, hB⟩ := (hP.no hkw).at_ j hlt
      obtain ⟨B', off', A0, r0, c0, hAB, _, z00, hB0⟩ := (hP.no hkw).at_ 0 (by omega)
      injection hAB with hAB
      injection hAB with hAB1 hAB2
      subst hAB1 hAB2
      have hl := hide hB.len
      have hl0 := hide hB0.len
      have hr0 : 0 < m := by omega
      rw [Nat.zero_mul, Nat.add_zero] at z00
      go_upto_region 8 with fail
      have hC := h.no hkw
      have kb : Kp No wr (wr.alloc (.cells #[.int .i64 (sl j), .slice A' r cc] 37)) := Kp.alloc No _ _
      have b0 : (wr.alloc (.cells #[.int .i64 (sl j), .slice A' r cc] 37)).cell? ⟨wr.heap.size, 0, none⟩ = some (.int .i64 (sl j)) := by simp
      have b1 : (wr.alloc (.cells #[.int .i64 (sl j), .slice A' r cc] 37)).cell? ⟨wr.heap.size, 1, none⟩ = some (.slice A' r cc) := by simp
      have hS2 := hS.keep kb fun f => f
      have hC2 := hC.no kb
      have y00 := kb.cell z00 fun f => f
      generalize wr.alloc (.cells #[.int .i64 (sl j), .slice A' r cc] 37) = wb at *
      generalize wr.heap.size = bx at *
      clear z0 z1 z00 hC hB hB0
      by_cases hr : 0 ≤ sl j ∧ sl j < (n : Int)
      · obtain ⟨s, hs⟩ : ∃ s : Nat, sl j = (s : Int) := ⟨(sl j).toNat, by omega⟩
        have hs1 : s < n := by omega
        have hs24 : s < 24 := by omega
        obtain ⟨b, sb, hb⟩ := hS2.cell hs24
        have HE := hide hs
        have HR := hide hr
        rw [hs] at b0
        clear hs hr
        rcases b with _ | _
        · have HB : Hid (∀ u, u < j → sl u ≠ sl j) := fun u hu e => by
            have := hb.2 ⟨u + 1, by omega, by show sl u = (s : Int); rw [e]; exact HE.out⟩
            cases this
          have HL : Hid (sl j ≠ (i : Int)) := fun e => by
            have := hb.2 ⟨0, by omega, by show (i : Int) = (s : Int); rw [← e]; exact HE.out⟩
            cases this
          clear hb
          by_cases hz : r = 0
          · subst hz
            have HBad : Hid (¬ HGood n (i : Int) sl ds j) := fun hp => hp.1.2.2.1 hl.out.symm
            go_wp2_with fail
            go_quiet ((go_at_call 22; exact ex_q hC2 s hs1 _))
            go_wp2_with fail
            go_ret
            exact ⟨1, rfl, .inl ⟨⟨j, hlt, HBad.out⟩, rfl⟩, (hkw.trans' kb).drewN _⟩
          · have hzr : ((r : Int) == 0) = false := by simp; omega
            have HZ := hide hz
            by_cases he : r = r0
            · subst he
              have HGd : Hid (HGood n (i : Int) sl ds j) := ⟨⟨HR.out, HB.out, fun e => HZ.out (by rw [hl.out]; exact e), by rw [← hl.out, ← hl0.out]⟩, HL.out⟩
              have fz := hS2.frozen s
              have HN := hide (fun t => (hS2.keep (Sm.drewN wb t).kp (S := No) fun f => f).set hs24 (show slx (i : Int) sl (j + 1) = (s : Int) from HE.out))
              clear hz
              go_wp2_with fail
              go_quiet ((go_at_call 22; exact ex_q hC2 s hs1 _))
              go_wp2_with fail
              go_round
              case rel =>
                refine ⟨j + 1, by omega, by go_num, (fun u hu => ?_ : ∀ u, u < j + 1 → HGood n (i : Int) sl ds u), HN.out _, ?_⟩
                · by_cases e : u = j
                  · rw [e]; exact HGd.out
                  · exact hgood.out u (by omega)
                · exact ((hkw.trans' kb).drewN _).own (Kp.setCell (p := ⟨g, s, none⟩) (S := fun q => w.heap.size ≤ q) (Nat.le_of_eq HG.out.symm) _)
              case measure => simp [intOf]; omega
            · have HBad : Hid (¬ HGood n (i : Int) sl ds j) := fun hp => he (by rw [hl.out, hl0.out]; exact hp.1.2.2.2)
              have hne : ((r : Int) != (r0 : Int)) = true := by simp; omega
              clear hz he
              go_wp2_with fail
              go_quiet ((go_at_call 22; exact ex_q hC2 s hs1 _))
              go_wp2_with fail
              go_ret
              exact ⟨1, rfl, .inl ⟨⟨j, hlt, HBad.out⟩, rfl⟩, (hkw.trans' kb).drewN _⟩
        · have HBad : Hid (¬ HGood n (i : Int) sl ds j) := fun hp => by
            obtain ⟨u, hu, e⟩ := hb.1 rfl
            match u, hu, e with
            | 0, _, e => exact hp.2 (by rw [HE.out]; exact (show (i : Int) = (s : Int) from e).symm)
            | u + 1, hu, e => exact hp.1.2.1 u (by omega) (by rw [HE.out]; exact (show sl u = (s : Int) from e))
          clear hb
          go_wp2_with fail
          go_quiet ((go_at_call 22; exact ex_q hC2 s hs1 _))
          go_wp2_with fail
          go_ret
          exact ⟨1, rfl, .inl ⟨⟨j, hlt, HBad.out⟩, rfl⟩, (hkw.trans' kb).drewN _⟩
      · have HBad : Hid (¬ HGood n (i : Int) sl ds j) := fun hp => hr hp.1.1
        have hr' : sl j < 0 ∨ (n : Int) ≤ sl j := by omega
        have HQ := hide (fun t => ex_nq hC2 (sl j) hr' t)
        clear hr hr'
        generalize sl j = sj at b0 HQ ⊢
        go_wp2_with fail
        go_quiet ((go_at_call 22; exact HQ.out _))
        go_wp2_with fail
        go_ret
        exact ⟨1, rfl, .inl ⟨⟨j, hlt, HBad.out⟩, rfl⟩, (hkw.trans' kb).drewN _⟩
    · obtain rfl : j = m := by omega
      have hdd := dd_any (h.no hkw) hD
      by_cases hf : j < d
      · have HV : Hid (HckV n d j (i : Int) sl ds 24) := .inr ⟨hgood.out, .inl ⟨hf, rfl⟩⟩
        go_wp2_with fail
        refine hdd.mono ?_
        rintro e w' ⟨rfl, rfl⟩
        go_wp2_with fail
        go_ret
        exact ⟨24, rfl, HV.out, hkw⟩
      · have hdj : d ≤ j := by omega
        have HV : Hid (HckV n d j (i : Int) sl ds 0) := .inr ⟨hgood.out, .inr ⟨hdj, rfl⟩⟩
        clear hf
        go_wp2_with fail
        refine hdd.mono ?_
        rintro e w' ⟨rfl, rfl⟩
        go_wp2_with fail
        go_ret
        exact ⟨0, rfl, HV.out, hkw⟩
end Go.Proofs.Ythmplbklphobaaa
