/- Law 7's parted, as a contract over memory. -/
import Derived.Test.YthmplbklphobaaaDz
import Derived.Deep.QuietTactic
import Derived.BigQuiet
import Derived.Deep.DeepCutAuto
import Derived.Deep.RegionHeld3
namespace Go.Proofs.Ythmplbklphobaaa
open Go.RowKit
set_option linter.unusedVariables false
set_option linter.unusedSimpArgs false
set_option maxRecDepth 100000

/-- Shards with their slots, the shards' headers named. -/
structure Hds (w : World) (A : Option Addr) (m : Nat) (sl : Nat → Int) (hd : Nat → Value) (ds : Nat → List UInt8) : Prop where
  at_ : ∀ j, j < m → ∃ B off A' r c, A = some ⟨B, off, none⟩ ∧ w.cell? ⟨B, off + j * 2, none⟩ = some (.int .i64 (sl j)) ∧ w.cell? ⟨B, off + j * 2 + 1, none⟩ = some (.slice A' r c) ∧ hd j = .slice A' r c ∧ Bts w (.slice A' r c) (ds j)
theorem Prts.hds {w : World} {A : Option Addr} {m : Nat} {sl : Nat → Int} {ds : Nat → List UInt8} (h : Prts w A m sl ds) : ∃ hd, Hds w A m sl hd ds := by
  obtain ⟨hd, hh⟩ := h.heads
  exact ⟨hd, ⟨hh⟩⟩
theorem Hds.no {w w1 : World} {A : Option Addr} {m : Nat} {sl : Nat → Int} {hd : Nat → Value} {ds : Nat → List UInt8} (h : Hds w A m sl hd ds) (hk : Kp No w w1) : Hds w1 A m sl hd ds := ⟨fun j hj => by
  obtain ⟨B, off, A', r, c, h1, h2, h3, h4, h5⟩ := h.at_ j hj
  exact ⟨B, off, A', r, c, h1, hk.cell h2 fun f => f, hk.cell h3 fun f => f, h4, h5.no hk⟩⟩
def PtdPost (w : World) (n m : Nat) (sl : Nat → Int) (hd : Nat → Value) (ds : Nat → List UInt8) (e : Ending) (w1 : World) : Prop :=
  ∃ (b : Bool) (A1 : Option Addr) (n1 c1 : Nat) (A2 : Option Addr) (n2 c2 : Nat), e = .returned (.tuple #[.slice A1 n1 c1, .slice A2 n2 c2, .bool b]) ∧ Hid (b = true ↔ ∀ j, j < m → PGood n sl ds j) ∧ DwI w sl hd m (.slice A1 n1 c1) (.slice A2 n2 c2) w1
set_option maxHeartbeats 40000000 in
theorem parted_any {w : World} {A : Option Addr} {m cp n : Nat} {sl : Nat → Int} {hd : Nat → Value} {ds : Nat → List UInt8} (hP : Hds w A m sl hd ds) (hm : m ≤ 30) (hn : n ≤ 24) : Calls Try.prog 13 #[.int .i64 (n : Int), .slice A m cp] w (PtdPost w n m sl hd ds) := by
  have HH := hide hP.at_
  clear hP
  go_enter Try.func13, Try.ntmps13
  go_wp2_with fail
  go_loopw [7, 8, 9, 10] (fun vb v1 v2 iv wr => ∃ (i : Nat) (b : Bool) (A1 : Option Addr) (n1 c1 : Nat) (A2 : Option Addr) (n2 c2 : Nat), i ≤ m ∧ iv = .int .i64 (i : Int) ∧ vb = .bool b ∧ v1 = .slice A1 n1 c1 ∧ v2 = .slice A2 n2 c2 ∧ Hid (b = true ↔ ∀ j, j < i → PGood n sl ds j) ∧ DwI w sl hd i (.slice A1 n1 c1) (.slice A2 n2 c2) wr) (fun _ _ _ iv _ => m - (intOf iv).toNat)
  case atStart => exact ⟨0, true, none, 0, 0, none, 0, 0, Nat.zero_le _, rfl, rfl, rfl, rfl, (⟨fun _ j hj => absurd hj (Nat.not_lt_zero _), fun _ => rfl⟩ : true = true ↔ ∀ j, j < 0 → PGood n sl ds j), ⟨OwnT.nil _ _ _ _, OwnT.nil _ _ _ _, Kp.refl _ _⟩⟩
  case round =>
    obtain ⟨i, b, A1, n1, c1, A2, n2, c2, hi, rfl, rfl, rfl, rfl, hb, hI⟩ := hrel
    by_cases hlt : i < m
    · obtain ⟨B, off, A', r, cc, rfl, z0, z1, hhd, hB⟩ := HH.out i hlt
      obtain ⟨B', off', A0, r0, c0, hAB, _, z00, _, hB0⟩ := HH.out 0 (by omega)
      injection hAB with hAB
      injection hAB with hAB1 hAB2
      subst hAB1 hAB2
      rw [Nat.zero_mul, Nat.add_zero] at z00
      have hl := hide hB.len
      have hl0 := hide hB0.len
      have HHD := hide hhd
      have hm0 : 0 < m := by omega
      have y0 := hI.kp.cell z0 fun f => f
      have y1 := hI.kp.cell z1 fun f => f
      have y00 := hI.kp.cell z00 fun f => f
      clear hhd hB hB0
      go_upto_region 7 with fail
      go_cut [7] (fun v wx => ∃ b' : Bool, v = .bool b' ∧ Hid (Ok1 b' b (sl i) n r r0) ∧ DwI w sl hd i (.slice A1 n1 c1) (.slice A2 n2 c2) wx)
      case first =>
        have HIs := hide (fun t => hI.no (Sm.drewN wr t).kp)
        clear hI hb
        rcases b with _ | _
        · have HF : Hid (Ok1 false false (sl i) n r r0) := ⟨fun e => (by cases e), fun e => (by cases e.1)⟩
          go_wp2_with fail
          go_quiet (fail)
          go_wp2_with fail
          go_meet
          exact ⟨false, by simp, HF, HIs.out _⟩
        · by_cases q1 : 0 ≤ sl i
          · by_cases q2 : sl i < (n : Int)
            · have t1 : decide (0 ≤ sl i) = true := decide_eq_true q1
              have t2 : decide (sl i < (n : Int)) = true := decide_eq_true q2
              by_cases q3 : r = 0
              · subst q3
                have HF : Hid (Ok1 false true (sl i) n 0 r0) := ⟨fun e => (by cases e), fun e => absurd rfl e.2.2.1⟩
                go_wp2_with fail
                go_quiet (fail)
                go_wp2_with fail
                go_meet
                exact ⟨false, by simp, HF, HIs.out _⟩
              · have q3' : 0 < r := by omega
                have t3 : decide ((0 : Int) < (r : Int)) = true := decide_eq_true (by omega)
                by_cases q4 : r = r0
                · subst q4
                  have HF : Hid (Ok1 true true (sl i) n r r) := ⟨fun _ => ⟨rfl, ⟨q1, q2⟩, q3, rfl⟩, fun _ => rfl⟩
                  clear q3
                  go_wp2_with fail
                  go_quiet (fail)
                  go_wp2_with fail
                  go_meet
                  exact ⟨true, by simp, HF, HIs.out _⟩
                · have HF : Hid (Ok1 false true (sl i) n r r0) := ⟨fun e => (by cases e), fun e => absurd e.2.2.2 q4⟩
                  have t4 : ((r : Int) == (r0 : Int)) = false := by simp; omega
                  clear q3 q4
                  go_wp2_with fail
                  go_quiet (fail)
                  go_wp2_with fail
                  go_meet
                  exact ⟨false, by simp, HF, HIs.out _⟩
            · have HF : Hid (Ok1 false true (sl i) n r r0) := ⟨fun e => (by cases e), fun e => absurd e.2.1.2 q2⟩
              have t1 : decide (0 ≤ sl i) = true := decide_eq_true q1
              have t2 : decide (sl i < (n : Int)) = false := decide_eq_false q2
              clear q2
              go_wp2_with fail
              go_quiet (fail)
              go_wp2_with fail
              go_meet
              exact ⟨false, by simp, HF, HIs.out _⟩
          · have HF : Hid (Ok1 false true (sl i) n r r0) := ⟨fun e => (by cases e), fun e => absurd e.2.1.1 q1⟩
            have t1 : decide (0 ≤ sl i) = false := decide_eq_false q1
            clear q1
            go_wp2_with fail
            go_quiet (fail)
            go_wp2_with fail
            go_meet
            exact ⟨false, by simp, HF, HIs.out _⟩
      case rest =>
        clear hI y0 y1 y00
        obtain ⟨b', rfl, hb', hI⟩ := hcut
        go_wp2_with fail
        go_loopw [7, 11] (fun v mv wr => ∃ (mm : Nat) (b'' : Bool), mm ≤ i ∧ mv = .int .i64 (mm : Int) ∧ v = .bool b'' ∧ Hid (Ok2 b'' b' sl i mm) ∧ DwI w sl hd i (.slice A1 n1 c1) (.slice A2 n2 c2) wr) (fun _ mv _ => i - (intOf mv).toNat)
        case atStart => exact ⟨0, b', Nat.zero_le _, rfl, rfl, (⟨fun h => ⟨h, fun u hu => absurd hu (Nat.not_lt_zero _)⟩, fun h => h.1⟩ : Ok2 b' b' sl i 0), hI⟩
        case round =>
          clear hI
          obtain ⟨mm, b'', hmm, rfl, rfl, hb'', hIm⟩ := hrel
          by_cases hltm : mm < i
          · obtain ⟨B', off', A5, r5, c5, hAB, z5, _, _, _⟩ := HH.out mm (by omega)
            injection hAB with hAB
            injection hAB with hAB1 hAB2
            subst hAB1 hAB2
            have x0 := hIm.kp.cell z0 fun f => f
            have x5 := hIm.kp.cell z5 fun f => f
            have hlmm : mm < m := by omega
            have HIs := hide (fun t => hIm.no (Sm.drewN wr t).kp)
            clear hIm z5
            rcases b'' with _ | _
            · have HF : Hid (Ok2 false b' sl i (mm + 1)) := ⟨fun e => (by cases e), fun e => hb''.out.2 ⟨e.1, fun u hu => e.2 u (by omega)⟩⟩
              go_wp2_with fail
              go_quiet (fail)
              go_wp2_with fail
              go_round
              case rel => exact ⟨mm + 1, false, by omega, by go_num, rfl, HF, HIs.out _⟩
              case measure => simp [intOf]; omega
            · have HF : Hid (Ok2 (sl mm != sl i) b' sl i (mm + 1)) := by
                show (sl mm != sl i) = true ↔ b' = true ∧ ∀ u, u < mm + 1 → sl u ≠ sl i
                have h5 := hb''.out.1 rfl
                rw [bne_iff_ne]
                refine ⟨fun e => ⟨h5.1, fun u hu => ?_⟩, fun e => e.2 mm (by omega)⟩
                by_cases e2 : u = mm
                · rw [e2]; exact e
                · exact h5.2 u (by omega)
              go_wp2_with fail
              go_quiet (fail)
              go_wp2_with fail
              go_round
              case rel => exact ⟨mm + 1, _, by omega, by go_num, rfl, HF, HIs.out _⟩
              case measure => simp [intOf]; omega
          · obtain rfl : mm = i := by omega
            rename_i _
            obtain ⟨i, hii⟩ : ∃ i, i = mm := ⟨_, rfl⟩
            subst hii
            have HB3 : Hid (b'' = true ↔ ∀ j, j < i + 1 → PGood n sl ds j) := by
              show b'' = true ↔ ∀ j, j < i + 1 → PGood n sl ds j
              have g2 : b'' = true ↔ b' = true ∧ ∀ u, u < i → sl u ≠ sl i := hb''.out
              have g1 : b' = true ↔ b = true ∧ (0 ≤ sl i ∧ sl i < (n : Int)) ∧ r ≠ 0 ∧ r = r0 := hb'.out
              rw [g2, g1, hb.out]
              constructor
              · rintro ⟨⟨h5, h6, h7, h8⟩, h9⟩ j hj
                by_cases e : j = i
                · subst e
                  exact ⟨h6, h9, by rw [← hl.out]; exact h7, by rw [← hl.out, ← hl0.out]; exact h8⟩
                · exact h5 j (by omega)
              · intro h5
                have h6 := h5 i (by omega)
                exact ⟨⟨fun j hj => h5 j (by omega), h6.1, by rw [hl.out]; exact h6.2.2.1, by rw [hl.out, hl0.out]; exact h6.2.2.2⟩, h6.2.1⟩
            have hS : ∀ u, Kp No w u → (Kp No w u ∧ u.cell? ⟨B, off + i * 2, none⟩ = some (.int .i64 (sl i)) ∧ u.cell? ⟨B, off + i * 2 + 1, none⟩ = some (.slice A' r cc)) := fun u hk => ⟨hk, hk.cell z0 fun f => f, hk.cell z1 fun f => f⟩
            have HI := hide (hIm.no (Sm.drew wr).kp)
            go_wp2_with fail
            refine wp_region_noPanic ?_
            refine wp_region_held_drew (S := fun w' => Kp No w w' ∧ w'.cell? ⟨B, off + i * 2, none⟩ = some (.int .i64 (sl i)) ∧ w'.cell? ⟨B, off + i * 2 + 1, none⟩ = some (.slice A' r cc)) (by kernel_rfl) (hS _ (hIm.kp.trans' (Sm.drew wr).kp)) (fun hHeld => ?_)
            refine wpAnyH_take (i := 0) (v := ?vbx1) (oi := ?obx1) ?hbx1 (by kernel_rfl) (by kernel_rfl) (by kernel_rfl) (fun _ _ _ h => h) (Or.inl ⟨?wbx1, ?ybx1⟩) hHeld ?rbx1
            case hbx1 => simp only [List.getElem?_toArray, List.getElem?_cons_zero, List.getElem?_cons_succ]; rfl
            case wbx1 => rfl
            case ybx1 => intro w hSw; (try dsimp only at hSw); go_simp; (try with_reducible rfl)
            simp only [Act.put, List.setIfInBounds_toArray, List.set_cons_zero, List.set_cons_succ]
            refine wpAnyH_take (i := 1) (v := ?vbx2) (oi := ?obx2) ?hbx2 (by kernel_rfl) (by kernel_rfl) (by kernel_rfl) (fun _ _ _ h => h) (Or.inl ⟨?wbx2, ?ybx2⟩) hHeld ?rbx2
            case hbx2 => simp only [List.getElem?_toArray, List.getElem?_cons_zero, List.getElem?_cons_succ]; rfl
            case wbx2 => rfl
            case ybx2 => intro w hSw; (try dsimp only at hSw); go_simp; (try with_reducible rfl)
            simp only [Act.put, List.setIfInBounds_toArray, List.set_cons_zero, List.set_cons_succ]
            refine wpAnyH_take (i := 2) (v := ?vbx3) (oi := ?obx3) ?hbx3 (by kernel_rfl) (by kernel_rfl) (by kernel_rfl) (fun _ _ _ h => h) (Or.inl ⟨?wbx3, ?ybx3⟩) hHeld ?rbx3
            case hbx3 => simp only [List.getElem?_toArray, List.getElem?_cons_zero, List.getElem?_cons_succ]; rfl
            case wbx3 => rfl
            case ybx3 => intro w hSw; (try dsimp only at hSw); go_simp; (try with_reducible rfl)
            simp only [Act.put, List.setIfInBounds_toArray, List.set_cons_zero, List.set_cons_succ]
            refine wpAnyH_take (i := 3) (v := ?vbx4) (oi := ?obx4) ?hbx4 (by kernel_rfl) (by kernel_rfl) (by kernel_rfl) (fun _ _ _ h => h) (Or.inl ⟨?wbx4, ?ybx4⟩) hHeld ?rbx4
            case hbx4 => simp only [List.getElem?_toArray, List.getElem?_cons_zero, List.getElem?_cons_succ]; rfl
            case wbx4 => rfl
            case ybx4 => intro w hSw; (try dsimp only at hSw); go_simp; (try with_reducible rfl)
            simp only [Act.put, List.setIfInBounds_toArray, List.set_cons_zero, List.set_cons_succ]
            refine wpAnyH_take (i := 4) (v := ?vbx5) (oi := ?obx5) ?hbx5 (by kernel_rfl) (by kernel_rfl) (by kernel_rfl) (fun _ _ _ h => h) (Or.inl ⟨?wbx5, ?ybx5⟩) hHeld ?rbx5
            case hbx5 => simp only [List.getElem?_toArray, List.getElem?_cons_zero, List.getElem?_cons_succ]; rfl
            case wbx5 => rfl
            case ybx5 => intro w hSw; (try dsimp only at hSw); go_simp; (try with_reducible rfl)
            simp only [Act.put, List.setIfInBounds_toArray, List.set_cons_zero, List.set_cons_succ]
            refine wpAnyH_take (i := 5) (v := ?vbx6) (oi := ?obx6) ?hbx6 (by kernel_rfl) (by kernel_rfl) (by kernel_rfl) (fun _ _ _ h => h) (Or.inl ⟨?wbx6, ?ybx6⟩) hHeld ?rbx6
            case hbx6 => simp only [List.getElem?_toArray, List.getElem?_cons_zero, List.getElem?_cons_succ]; rfl
            case wbx6 => rfl
            case ybx6 => intro w hSw; (try dsimp only at hSw); go_simp; (try with_reducible rfl)
            simp only [Act.put, List.setIfInBounds_toArray, List.set_cons_zero, List.set_cons_succ]
            refine wpAnyH_take (i := 8) (v := ?vbx7) (oi := ?obx7) ?hbx7 (by kernel_rfl) (by kernel_rfl) (by kernel_rfl) (fun _ _ _ h => h) (Or.inl ⟨?wbx7, ?ybx7⟩) hHeld ?rbx7
            case hbx7 => simp only [List.getElem?_toArray, List.getElem?_cons_zero, List.getElem?_cons_succ]; rfl
            case wbx7 => rfl
            case ybx7 => intro w hSw; (try dsimp only at hSw); go_simp; (try with_reducible rfl)
            simp only [Act.put, List.setIfInBounds_toArray, List.set_cons_zero, List.set_cons_succ]
            refine wpAnyH_take (i := 9) (v := ?vbx8) (oi := ?obx8) ?hbx8 (by kernel_rfl) (by kernel_rfl) (by kernel_rfl) (fun _ _ _ h => h) (Or.inl ⟨?wbx8, ?ybx8⟩) hHeld ?rbx8
            case hbx8 => simp only [List.getElem?_toArray, List.getElem?_cons_zero, List.getElem?_cons_succ]; rfl
            case wbx8 => rfl
            case ybx8 => intro w hSw; (try dsimp only at hSw); go_simp; (try with_reducible rfl)
            simp only [Act.put, List.setIfInBounds_toArray, List.set_cons_zero, List.set_cons_succ]
            refine wpAnyH_take (i := 10) (v := ?vbx9) (oi := ?obx9) ?hbx9 (by kernel_rfl) (by kernel_rfl) (by kernel_rfl) (fun _ _ _ h => h) (Or.inl ⟨?wbx9, ?ybx9⟩) hHeld ?rbx9
            case hbx9 => simp only [List.getElem?_toArray, List.getElem?_cons_zero, List.getElem?_cons_succ]; rfl
            case wbx9 => rfl
            case ybx9 => intro w hSw; (try dsimp only at hSw); go_simp; (try with_reducible rfl)
            simp only [Act.put, List.setIfInBounds_toArray, List.set_cons_zero, List.set_cons_succ]
            refine wpAnyH_take (i := 11) (v := ?vbx10) (oi := ?obx10) ?hbx10 (by kernel_rfl) (by kernel_rfl) (by kernel_rfl) (fun _ _ _ h => h) (Or.inl ⟨?wbx10, ?ybx10⟩) hHeld ?rbx10
            case hbx10 => simp only [List.getElem?_toArray, List.getElem?_cons_zero, List.getElem?_cons_succ]; rfl
            case wbx10 => rfl
            case ybx10 => intro w hSw; (try dsimp only at hSw); go_simp; (try with_reducible rfl)
            simp only [Act.put, List.setIfInBounds_toArray, List.set_cons_zero, List.set_cons_succ]
            refine wpAnyH_take (i := 12) (v := ?vbx11) (oi := ?obx11) ?hbx11 (by kernel_rfl) (by kernel_rfl) (by kernel_rfl) (fun _ _ _ h => h) (Or.inl ⟨?wbx11, ?ybx11⟩) hHeld ?rbx11
            case hbx11 => simp only [List.getElem?_toArray, List.getElem?_cons_zero, List.getElem?_cons_succ]; rfl
            case wbx11 => rfl
            case ybx11 => intro w hSw; (try dsimp only at hSw); go_simp; (try with_reducible rfl)
            simp only [Act.put, List.setIfInBounds_toArray, List.set_cons_zero, List.set_cons_succ]
            refine wpAnyH_take (i := 13) (v := ?vbx12) (oi := ?obx12) ?hbx12 (by kernel_rfl) (by kernel_rfl) (by kernel_rfl) (fun _ _ _ h => h) (Or.inl ⟨?wbx12, ?ybx12⟩) hHeld ?rbx12
            case hbx12 => simp only [List.getElem?_toArray, List.getElem?_cons_zero, List.getElem?_cons_succ]; rfl
            case wbx12 => rfl
            case ybx12 => intro w hSw; (try dsimp only at hSw); go_simp; (try with_reducible rfl)
            simp only [Act.put, List.setIfInBounds_toArray, List.set_cons_zero, List.set_cons_succ]
            refine wpAnyH_ready (rs := [6, 14]) (by kernel_rfl) (by simp) ?_
            refine (AllReadyH.cons (o := ?obx14) ?hbx14 (fun K hK => ?sbx14) (AllReadyH.cons (o := ?obx15) ?hbx15 (fun K hK => ?sbx15) AllReadyH.nil))
            case hbx14 => simp only [List.getElem?_toArray, List.getElem?_cons_zero, List.getElem?_cons_succ]; rfl
            case hbx15 => simp only [List.getElem?_toArray, List.getElem?_cons_zero, List.getElem?_cons_succ]; rfl
            case sbx14 =>
              go_simp
              refine hK.out _ _ (hS _ (hHeld.1.trans' (Kp.alloc No _ _))) (fun hHeld => ?_)
              clear hK K
              try simp only [Act.put, List.setIfInBounds_toArray, List.set_cons_zero, List.set_cons_succ]
              refine wpAnyH_ready (rs := [7, 14]) (by kernel_rfl) (by simp) ?_
              refine (AllReadyH.cons (o := ?obx17) ?hbx17 (fun K hK => ?sbx17) (AllReadyH.cons (o := ?obx18) ?hbx18 (fun K hK => ?sbx18) AllReadyH.nil))
              case hbx17 => simp only [List.getElem?_toArray, List.getElem?_cons_zero, List.getElem?_cons_succ]; rfl
              case hbx18 => simp only [List.getElem?_toArray, List.getElem?_cons_zero, List.getElem?_cons_succ]; rfl
              case sbx17 =>
                have o7 := HI.out.o1.no (Kp.alloc No _ (.cells #[.int .i64 (sl i)] 3))
                refine step_appT ty_int rfl (.tmp 78) (.tmp 84) _ rfl Try.underlying38 rfl o7 _ _ rfl (nws_one (u := .int .i64 (sl i)) (by simp) rfl) (by omega) hHeld.1.size ?_
                intro A3 n3 c3 w3 hn3 ha1
                have HN3 := hide hn3
                clear hn3
                refine hK.out _ _ (hS _ (ha1.keeps o7 hHeld.1)) (fun hHeld => ?_)
                clear hK K
                try simp only [Act.put, List.setIfInBounds_toArray, List.set_cons_zero, List.set_cons_succ]
                refine wpAnyH_ready (rs := [14]) (by kernel_rfl) (by simp) ?_
                refine AllReadyH.cons (o := ?obx19) ?hbx19 (fun K hK => ?sbx19) AllReadyH.nil
                case hbx19 => simp only [List.getElem?_toArray, List.getElem?_cons_zero, List.getElem?_cons_succ]; rfl
                go_simp
                refine hK.out _ _ (hS _ (hHeld.1.trans' (Kp.alloc No _ _))) (fun hHeld => ?_)
                clear hK K
                try simp only [Act.put, List.setIfInBounds_toArray, List.set_cons_zero, List.set_cons_succ]
                refine wpAnyH_ready (rs := [15]) (by kernel_rfl) (by simp) ?_
                refine AllReadyH.cons (o := ?obx20) ?hbx20 (fun K hK => ?sbx20) AllReadyH.nil
                case hbx20 => simp only [List.getElem?_toArray, List.getElem?_cons_zero, List.getElem?_cons_succ]; rfl
                have o15 := HI.out.mid (Kp.alloc No _ (.cells #[.int .i64 (sl i)] 3)) ha1 (Kp.alloc No w3 (.cells #[.slice A' r cc] 22))
                have n15 : Nws (w3.alloc (.cells #[.slice A' r cc] 22)) ⟨w3.heap.size, 0, none⟩ 1 1 [.slice A' r cc] := nws_one (by simp) rfl
                refine step_appT ty_slc rfl (.tmp 86) (.tmp 92) _ rfl Try.underlying39 rfl o15 _ _ rfl n15 (by omega) hHeld.1.size ?_
                intro A4 n4 c4 w4 hn4 ha2
                have HN4 := hide hn4
                clear hn4
                refine hK.out _ _ (hS _ (ha2.keeps o15 hHeld.1)) (fun hHeld => ?_)
                clear hK K
                try simp only [Act.put, List.setIfInBounds_toArray, List.set_cons_zero, List.set_cons_succ]
                refine wpAnyH_ready (rs := [16]) (by kernel_rfl) (by simp) ?_
                refine AllReadyH.cons (o := ?obx21) ?hbx21 (fun K hK => ?sbx21) AllReadyH.nil
                case hbx21 => simp only [List.getElem?_toArray, List.getElem?_cons_zero, List.getElem?_cons_succ]; rfl
                go_simp
                refine hK.out _ _ (hHeld) (fun hHeld => ?_)
                clear hK K
                try simp only [Act.put, List.setIfInBounds_toArray, List.set_cons_zero, List.set_cons_succ]
                refine wpAnyH_ready (rs := [17]) (by kernel_rfl) (by simp) ?_
                refine AllReadyH.cons (o := ?obx22) ?hbx22 (fun K hK => ?sbx22) AllReadyH.nil
                case hbx22 => simp only [List.getElem?_toArray, List.getElem?_cons_zero, List.getElem?_cons_succ]; rfl
                go_simp
                refine hK.out _ _ (hHeld) (fun hHeld => ?_)
                clear hK K
                try simp only [Act.put, List.setIfInBounds_toArray, List.set_cons_zero, List.set_cons_succ]
                refine wpAnyH_done (by kernel_rfl) ?_ _
                refine NoPanic.normal ?_
                go_wp2_with fail
                go_round
                case rel => exact ⟨i + 1, _, A3, n3, c3, A4, n4, c4, by omega, by go_num, rfl, rfl, rfl, HB3, HI.out.fin (Kp.alloc No _ (.cells #[.int .i64 (sl i)] 3)) ha1 (Kp.alloc No w3 (.cells #[.slice A' r cc] 22)) (by rw [HHD.out]; exact ha2)⟩
                case measure => simp [intOf]; omega
              case sbx18 =>
                go_simp
                refine hK.out _ _ (hS _ (hHeld.1.trans' (Kp.alloc No _ _))) (fun hHeld => ?_)
                clear hK K
                try simp only [Act.put, List.setIfInBounds_toArray, List.set_cons_zero, List.set_cons_succ]
                refine wpAnyH_ready (rs := [7]) (by kernel_rfl) (by simp) ?_
                refine AllReadyH.cons (o := ?obx24) ?hbx24 (fun K hK => ?sbx24) AllReadyH.nil
                case hbx24 => simp only [List.getElem?_toArray, List.getElem?_cons_zero, List.getElem?_cons_succ]; rfl
                have o7 := HI.out.o1.no ((Kp.alloc No _ (.cells #[.int .i64 (sl i)] 3)).trans' (Kp.alloc No _ (.cells #[.slice A' r cc] 22)))
                refine step_appT ty_int rfl (.tmp 78) (.tmp 84) _ rfl Try.underlying38 rfl o7 _ _ rfl (nws_one (u := .int .i64 (sl i)) (by simp) rfl) (by omega) hHeld.1.size ?_
                intro A3 n3 c3 w3 hn3 ha1
                have HN3 := hide hn3
                clear hn3
                refine hK.out _ _ (hS _ (ha1.keeps o7 hHeld.1)) (fun hHeld => ?_)
                clear hK K
                try simp only [Act.put, List.setIfInBounds_toArray, List.set_cons_zero, List.set_cons_succ]
                refine wpAnyH_ready (rs := [15]) (by kernel_rfl) (by simp) ?_
                refine AllReadyH.cons (o := ?obx25) ?hbx25 (fun K hK => ?sbx25) AllReadyH.nil
                case hbx25 => simp only [List.getElem?_toArray, List.getElem?_cons_zero, List.getElem?_cons_succ]; rfl
                have o15 := HI.out.mid ((Kp.alloc No _ (.cells #[.int .i64 (sl i)] 3)).trans' (Kp.alloc No _ (.cells #[.slice A' r cc] 22))) ha1 (Kp.refl No w3)
                have c15 := ha1.kp.cell (p := ⟨wr.drew.heap.size + 1, 0, none⟩) (v := .slice A' r cc) (by simp) (fun e => by have : wr.drew.heap.size + 1 < wr.drew.heap.size := HI.out.o1.lt _ e; omega)
                have n15 := nws_one c15 rfl
                refine step_appT ty_slc rfl (.tmp 86) (.tmp 92) _ rfl Try.underlying39 rfl o15 _ _ rfl n15 (by omega) hHeld.1.size ?_
                intro A4 n4 c4 w4 hn4 ha2
                have HN4 := hide hn4
                clear hn4
                refine hK.out _ _ (hS _ (ha2.keeps o15 hHeld.1)) (fun hHeld => ?_)
                clear hK K
                try simp only [Act.put, List.setIfInBounds_toArray, List.set_cons_zero, List.set_cons_succ]
                refine wpAnyH_ready (rs := [16]) (by kernel_rfl) (by simp) ?_
                refine AllReadyH.cons (o := ?obx26) ?hbx26 (fun K hK => ?sbx26) AllReadyH.nil
                case hbx26 => simp only [List.getElem?_toArray, List.getElem?_cons_zero, List.getElem?_cons_succ]; rfl
                go_simp
                refine hK.out _ _ (hHeld) (fun hHeld => ?_)
                clear hK K
                try simp only [Act.put, List.setIfInBounds_toArray, List.set_cons_zero, List.set_cons_succ]
                refine wpAnyH_ready (rs := [17]) (by kernel_rfl) (by simp) ?_
                refine AllReadyH.cons (o := ?obx27) ?hbx27 (fun K hK => ?sbx27) AllReadyH.nil
                case hbx27 => simp only [List.getElem?_toArray, List.getElem?_cons_zero, List.getElem?_cons_succ]; rfl
                go_simp
                refine hK.out _ _ (hHeld) (fun hHeld => ?_)
                clear hK K
                try simp only [Act.put, List.setIfInBounds_toArray, List.set_cons_zero, List.set_cons_succ]
                refine wpAnyH_done (by kernel_rfl) ?_ _
                refine NoPanic.normal ?_
                go_wp2_with fail
                go_round
                case rel => exact ⟨i + 1, _, A3, n3, c3, A4, n4, c4, by omega, by go_num, rfl, rfl, rfl, HB3, HI.out.fin ((Kp.alloc No _ (.cells #[.int .i64 (sl i)] 3)).trans' (Kp.alloc No _ (.cells #[.slice A' r cc] 22))) ha1 (Kp.refl No w3) (by rw [HHD.out]; exact ha2)⟩
                case measure => simp [intOf]; omega
            case sbx15 =>
              go_simp
              refine hK.out _ _ (hS _ (hHeld.1.trans' (Kp.alloc No _ _))) (fun hHeld => ?_)
              clear hK K
              try simp only [Act.put, List.setIfInBounds_toArray, List.set_cons_zero, List.set_cons_succ]
              refine wpAnyH_ready (rs := [6]) (by kernel_rfl) (by simp) ?_
              refine AllReadyH.cons (o := ?obx29) ?hbx29 (fun K hK => ?sbx29) AllReadyH.nil
              case hbx29 => simp only [List.getElem?_toArray, List.getElem?_cons_zero, List.getElem?_cons_succ]; rfl
              go_simp
              refine hK.out _ _ (hS _ (hHeld.1.trans' (Kp.alloc No _ _))) (fun hHeld => ?_)
              clear hK K
              try simp only [Act.put, List.setIfInBounds_toArray, List.set_cons_zero, List.set_cons_succ]
              refine wpAnyH_ready (rs := [7]) (by kernel_rfl) (by simp) ?_
              refine AllReadyH.cons (o := ?obx30) ?hbx30 (fun K hK => ?sbx30) AllReadyH.nil
              case hbx30 => simp only [List.getElem?_toArray, List.getElem?_cons_zero, List.getElem?_cons_succ]; rfl
              have o7 := HI.out.o1.no ((Kp.alloc No _ (.cells #[.slice A' r cc] 22)).trans' (Kp.alloc No _ (.cells #[.int .i64 (sl i)] 3)))
              refine step_appT ty_int rfl (.tmp 78) (.tmp 84) _ rfl Try.underlying38 rfl o7 _ _ rfl (nws_one (u := .int .i64 (sl i)) (by simp) rfl) (by omega) hHeld.1.size ?_
              intro A3 n3 c3 w3 hn3 ha1
              have HN3 := hide hn3
              clear hn3
              refine hK.out _ _ (hS _ (ha1.keeps o7 hHeld.1)) (fun hHeld => ?_)
              clear hK K
              try simp only [Act.put, List.setIfInBounds_toArray, List.set_cons_zero, List.set_cons_succ]
              refine wpAnyH_ready (rs := [15]) (by kernel_rfl) (by simp) ?_
              refine AllReadyH.cons (o := ?obx31) ?hbx31 (fun K hK => ?sbx31) AllReadyH.nil
              case hbx31 => simp only [List.getElem?_toArray, List.getElem?_cons_zero, List.getElem?_cons_succ]; rfl
              have o15 := HI.out.mid ((Kp.alloc No _ (.cells #[.slice A' r cc] 22)).trans' (Kp.alloc No _ (.cells #[.int .i64 (sl i)] 3))) ha1 (Kp.refl No w3)
              have c15 := ha1.kp.cell (p := ⟨wr.drew.heap.size, 0, none⟩) (v := .slice A' r cc) (by simp) (fun e => by have : wr.drew.heap.size < wr.drew.heap.size := HI.out.o1.lt _ e; omega)
              have n15 := nws_one c15 rfl
              refine step_appT ty_slc rfl (.tmp 86) (.tmp 92) _ rfl Try.underlying39 rfl o15 _ _ rfl n15 (by omega) hHeld.1.size ?_
              intro A4 n4 c4 w4 hn4 ha2
              have HN4 := hide hn4
              clear hn4
              refine hK.out _ _ (hS _ (ha2.keeps o15 hHeld.1)) (fun hHeld => ?_)
              clear hK K
              try simp only [Act.put, List.setIfInBounds_toArray, List.set_cons_zero, List.set_cons_succ]
              refine wpAnyH_ready (rs := [16]) (by kernel_rfl) (by simp) ?_
              refine AllReadyH.cons (o := ?obx32) ?hbx32 (fun K hK => ?sbx32) AllReadyH.nil
              case hbx32 => simp only [List.getElem?_toArray, List.getElem?_cons_zero, List.getElem?_cons_succ]; rfl
              go_simp
              refine hK.out _ _ (hHeld) (fun hHeld => ?_)
              clear hK K
              try simp only [Act.put, List.setIfInBounds_toArray, List.set_cons_zero, List.set_cons_succ]
              refine wpAnyH_ready (rs := [17]) (by kernel_rfl) (by simp) ?_
              refine AllReadyH.cons (o := ?obx33) ?hbx33 (fun K hK => ?sbx33) AllReadyH.nil
              case hbx33 => simp only [List.getElem?_toArray, List.getElem?_cons_zero, List.getElem?_cons_succ]; rfl
              go_simp
              refine hK.out _ _ (hHeld) (fun hHeld => ?_)
              clear hK K
              try simp only [Act.put, List.setIfInBounds_toArray, List.set_cons_zero, List.set_cons_succ]
              refine wpAnyH_done (by kernel_rfl) ?_ _
              refine NoPanic.normal ?_
              go_wp2_with fail
              go_round
              case rel => exact ⟨i + 1, _, A3, n3, c3, A4, n4, c4, by omega, by go_num, rfl, rfl, rfl, HB3, HI.out.fin ((Kp.alloc No _ (.cells #[.slice A' r cc] 22)).trans' (Kp.alloc No _ (.cells #[.int .i64 (sl i)] 3))) ha1 (Kp.refl No w3) (by rw [HHD.out]; exact ha2)⟩
              case measure => simp [intOf]; omega
    · obtain rfl : i = m := by omega
      go_wp2_with fail
      go_ret3
      exact ⟨b, A1, n1, c1, A2, n2, c2, rfl, hb, hI⟩
end Go.Proofs.Ythmplbklphobaaa
