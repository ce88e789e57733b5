/- MsrDecodes: the message that any shards are of, or why there is none. -/
import Derived.Test.YtbkelijmdpoanaaEw
import Derived.Test.YtbkelijmdpoanaaRx
import Derived.Test.YtbkelijmdpoanaaOq
import Derived.Deep.DeepCutAuto
import Derived.Deep.RegionHeld3
namespace Go.Proofs.Ytbkelijmdpoanaa
open Go.RowKit
set_option linter.unusedVariables false
set_option linter.unusedSimpArgs false
set_option maxRecDepth 100000

theorem ownT_apart {w : World} {b b' : Nat} {e e' : TypeId} {sz sz' n n' : Nat} {v v' : Value} {xs xs' : List Value} (h : OwnT w b e sz v n xs) (h' : OwnT w b' e' sz' v' n' xs') (hne : e ≠ e') {k : Nat} (hk : v.ownBlock = some k) : v'.ownBlock ≠ some k := fun hk' => by
  obtain ⟨c1, h1⟩ := h.kind hk
  obtain ⟨c2, h2⟩ := h'.kind hk'
  rw [h1] at h2
  injection h2 with h2
  injection h2 with h3 h4
  exact hne h4
theorem map_snoc {α : Type} (f : Nat → α) (i : Nat) : (List.range i).map f ++ [f i] = (List.range (i + 1)).map f := by
  rw [List.range_succ, List.map_append]
  rfl
/-- Whether the shard may stand there, the slots ahead aside. -/
def Ok1 (b' b : Bool) (s : Int) (n r r0 : Nat) : Prop := b' = true ↔ b = true ∧ (0 ≤ s ∧ s < (n : Int)) ∧ r ≠ 0 ∧ r = r0
def Ok2 (b'' b' : Bool) (sl : Nat → Int) (i mm : Nat) : Prop := b'' = true ↔ b' = true ∧ ∀ u, u < mm → sl u ≠ sl i
/-- The slots and the shards, in two rows of the call's own. -/
structure DwI (w : World) (sl : Nat → Int) (hd : Nat → Value) (i : Nat) (v1 v2 : Value) (wr : World) : Prop where
  o1 : OwnT wr w.heap.size 3 1 v1 i ((List.range i).map fun j => .int .i64 (sl j))
  o2 : OwnT wr w.heap.size 29 1 v2 i ((List.range i).map hd)
  kp : Kp No w wr
section
variable {w wr W1 w3 W2 w4 : World} {sl : Nat → Int} {hd : Nat → Value} {i : Nat} {v1 v2 v1' v2' : Value}
theorem DwI.no (h : DwI w sl hd i v1 v2 wr) (hk : Kp No wr W1) : DwI w sl hd i v1 v2 W1 := ⟨h.o1.no hk, h.o2.no hk, h.kp.trans' hk⟩
theorem DwI.mid (h : DwI w sl hd i v1 v2 wr) (k1 : Kp No wr W1) (ha1 : AppT W1 w.heap.size 3 1 v1 i ((List.range i).map fun j => .int .i64 (sl j)) 1 [.int .i64 (sl i)] v1' w3) (k2 : Kp No w3 W2) : OwnT W2 w.heap.size 29 1 v2 i ((List.range i).map hd) :=
  ((h.o2.no k1).keep ha1.kp fun k hk e => ownT_apart (h.o2.no k1) (h.o1.no k1) (by decide) hk e).no k2
theorem DwI.fin (h : DwI w sl hd i v1 v2 wr) (k1 : Kp No wr W1) (ha1 : AppT W1 w.heap.size 3 1 v1 i ((List.range i).map fun j => .int .i64 (sl j)) 1 [.int .i64 (sl i)] v1' w3) (k2 : Kp No w3 W2) (ha2 : AppT W2 w.heap.size 29 1 v2 i ((List.range i).map hd) 1 [hd i] v2' w4) : DwI w sl hd (i + 1) v1' v2' w4 := by
  have hm := h.mid k1 ha1 k2
  have h1 := ha1.own.no k2
  refine ⟨?_, ?_, ?_⟩
  · have := h1.keep ha2.kp fun k hk e => ownT_apart h1 hm (by decide) hk e
    rwa [map_snoc (fun j => Value.int .i64 (sl j))] at this
  · have := ha2.own
    rwa [map_snoc hd] at this
  · exact ha2.keeps hm ((ha1.keeps (h.o1.no k1) (h.kp.trans' k1)).trans' k2)
theorem DwI.slot {A : Option Addr} {r c : Nat} (h : DwI w sl hd i (.slice A r c) v2 wr) (hi : 0 < i) : ∃ g, A = some ⟨g, 0, none⟩ ∧ i = r ∧ ∀ j, j < i → wr.cell? ⟨g, 0 + j, none⟩ = some (.int .i64 (sl j)) := by
  have get : ∀ j, j < i → ((List.range i).map fun j => Value.int .i64 (sl j))[j]? = some (.int .i64 (sl j)) := fun j hj => by simp [hj]
  obtain ⟨g, e, _⟩ := h.o1.cell (get 0 hi)
  refine ⟨g, e, ?_, fun j hj => ?_⟩
  · obtain ⟨A', c', e2⟩ := h.o1.form
    injection e2 with _ e3 _
    exact e3.symm
  · obtain ⟨g', e', _, _, _, hc⟩ := h.o1.cell (get j hj)
    rw [e] at e'
    injection e' with e'
    injection e' with e'
    subst e'
    rw [Nat.zero_add]
    exact hc
theorem DwI.rows {A : Option Addr} {r c : Nat} {ds : Nat → List UInt8} (h : DwI w sl hd i v1 (.slice A r c) wr) (hb : ∀ j, j < i → Bts w (hd j) (ds j)) : i = r ∧ Rws wr A i ((List.range i).map ds) := by
  refine ⟨?_, ⟨by simp, fun j bs hj => ?_⟩⟩
  · obtain ⟨A', c', e2⟩ := h.o2.form
    injection e2 with _ e3 _
    exact e3.symm
  · have hji : j < i := by have := (List.getElem?_eq_some_iff.1 hj).1; simpa using this
    obtain ⟨g, e, _, _, _, hc⟩ := h.o2.cell (j := j) (u := hd j) (by simp [hji])
    simp [hji] at hj
    subst hj
    exact ⟨g, 0, hd j, e, by rw [Nat.zero_add]; exact hc, (hb j hji).no h.kp⟩
end
section
variable {w : World} {A : Option Addr} {m cp : Nat} {sl : Nat → Int} {ds : Nat → List UInt8}
theorem decw_notsmall (n k : Int) (h : ¬ (Rgt n k ∧ n ≤ 12 ∧ k ≤ 4)) : Calls Try.prog 5 #[.int .i64 n, .int .i64 k, .slice A m cp] w (R6 w) := by
  have hs := small6_no n k w h
  clear h
  go_enter Try.func5, Try.ntmps5
  go_wp2_with fail
  refine hs.mono ?_
  rintro e w' ⟨rfl, rfl⟩
  go_wp2_with fail
  refine (awake6_any _).mono ?_
  rintro e w9 ⟨rfl, k9⟩
  go_wp2_with fail
  go_ret
  exact ⟨rfl, k9.below0⟩
theorem decw_long (n k : Int) (h : Rgt n k) (h1 : n ≤ 12) (h2 : k ≤ 4) (hm : 30 < m) : Calls Try.prog 5 #[.int .i64 n, .int .i64 k, .slice A m cp] w (R6 w) := by
  have hs := small6_yes n k w h h1 h2
  clear h
  go_enter Try.func5, Try.ntmps5
  go_wp2_with fail
  refine hs.mono ?_
  rintro e w' ⟨rfl, rfl⟩
  go_wp2_with fail
  refine (awake6_any _).mono ?_
  rintro e w9 ⟨rfl, k9⟩
  go_wp2_with fail
  go_ret
  exact ⟨rfl, k9.below0⟩
set_option maxHeartbeats 40000000 in
theorem decw_all {n k a d q : Nat} {x : Nat → UInt8} (hP : Prts w A m sl ds) (hcp : m ≤ cp) (hD : Dim n k a d q) (hX : Pts n a x) (h1 : n ≤ 12) (h2 : k ≤ 4) (hm : m ≤ 30) : Calls Try.prog 5 #[.int .i64 (n : Int), .int .i64 (k : Int), .slice A m cp] w (R6 w) := by
  have hR : Rgt (n : Int) (k : Int) := by have := hD.k_; have := hD.d_; have := hD.n1; have := hD.a1; unfold Rgt; omega
  have hs := small6_yes (n : Int) (k : Int) w hR (by omega) (by omega)
  have HN := hide (fun w => mnew_yes w hD hX)
  obtain ⟨hd, hhd⟩ := hP.heads
  have HH := hide hhd
  have HP := hide hP
  have HD := hide hD
  have HX := hide hX
  have ha1 := hD.a1
  have hk2 : 2 ≤ k := by have := hD.k_; omega
  have HKA : Hid ((k : Int) - 1 = (a : Int)) := by show (k : Int) - 1 = (a : Int); have := hD.k_; omega
  have ha3 : a ≤ 3 := by have := hD.k_; omega
  clear hP hhd hD hX hR
  go_enter Try.func5, Try.ntmps5
  go_wp2_with fail
  refine hs.mono ?_
  rintro e w' ⟨rfl, rfl⟩
  clear hs
  go_wp2_with fail
  go_loopw [7, 8, 9, 10] (fun vb v1 v2 iv wr => ∃ (i : Nat) (b : Bool) (A1 : Option Addr) (n1 c1 : Nat) (A2 : Option Addr) (n2 c2 : Nat), i ≤ m ∧ iv = .int .i64 (i : Int) ∧ vb = .bool b ∧ v1 = .slice A1 n1 c1 ∧ v2 = .slice A2 n2 c2 ∧ Hid (b = true ↔ ∀ j, j < i → PGood n sl ds j) ∧ Hid (∀ j, j < i → (ds j).length ≤ 60) ∧ DwI w sl hd i (.slice A1 n1 c1) (.slice A2 n2 c2) wr) (fun _ _ _ iv _ => m - (intOf iv).toNat)
  case atStart => exact ⟨0, true, none, 0, 0, none, 0, 0, Nat.zero_le _, rfl, rfl, rfl, rfl, (⟨fun _ j hj => absurd hj (Nat.not_lt_zero _), fun _ => rfl⟩ : true = true ↔ ∀ j, j < 0 → PGood n sl ds j), (fun j hj => absurd hj (Nat.not_lt_zero _) : ∀ j, j < 0 → (ds j).length ≤ 60), ⟨OwnT.nil _ _ _ _, OwnT.nil _ _ _ _, Kp.refl _ _⟩⟩
  case round =>
    obtain ⟨i, b, A1, n1, c1, A2, n2, c2, hi, rfl, rfl, rfl, rfl, hb, hl60, hI⟩ := hrel
    by_cases hlt : i < m
    · obtain ⟨B, off, A', r, cc, rfl, z0, z1, hhd, hB⟩ := HH.out i hlt
      obtain ⟨B', off', A0, r0, c0, hAB, _, z00, _, hB0⟩ := HH.out 0 (by omega)
      injection hAB with hAB
      injection hAB with hAB1 hAB2
      subst hAB1 hAB2
      rw [Nat.zero_mul, Nat.add_zero] at z00
      have hl := hide hB.len
      have hl0 := hide hB0.len
      have HHD := hide hhd
      have hm0 : 0 < m := by omega
      have y0 := hI.kp.cell z0 fun f => f
      have y1 := hI.kp.cell z1 fun f => f
      have y00 := hI.kp.cell z00 fun f => f
      clear hhd hB hB0
      by_cases hr : r ≤ 60
      · go_upto_region 11 with fail
        go_cut [7] (fun v wx => ∃ b' : Bool, v = .bool b' ∧ Hid (Ok1 b' b (sl i) n r r0) ∧ DwI w sl hd i (.slice A1 n1 c1) (.slice A2 n2 c2) wx)
        case first =>
          have HIs := hide (fun t => hI.no (Sm.drewN wr t).kp)
          clear hI hb
          rcases b with _ | _
          · have HF : Hid (Ok1 false false (sl i) n r r0) := ⟨fun e => (by cases e), fun e => (by cases e.1)⟩
            go_wp2_with fail
            go_quiet (fail)
            go_wp2_with fail
            go_meet
            exact ⟨false, by simp, HF, HIs.out _⟩
          · by_cases q1 : 0 ≤ sl i
            · by_cases q2 : sl i < (n : Int)
              · have t1 : decide (0 ≤ sl i) = true := decide_eq_true q1
                have t2 : decide (sl i < (n : Int)) = true := decide_eq_true q2
                by_cases q3 : r = 0
                · subst q3
                  have HF : Hid (Ok1 false true (sl i) n 0 r0) := ⟨fun e => (by cases e), fun e => absurd rfl e.2.2.1⟩
                  go_wp2_with fail
                  go_quiet (fail)
                  go_wp2_with fail
                  go_meet
                  exact ⟨false, by simp, HF, HIs.out _⟩
                · have q3' : 0 < r := by omega
                  have t3 : decide ((0 : Int) < (r : Int)) = true := decide_eq_true (by omega)
                  by_cases q4 : r = r0
                  · subst q4
                    have HF : Hid (Ok1 true true (sl i) n r r) := ⟨fun _ => ⟨rfl, ⟨q1, q2⟩, q3, rfl⟩, fun _ => rfl⟩
                    clear q3
                    go_wp2_with fail
                    go_quiet (fail)
                    go_wp2_with fail
                    go_meet
                    exact ⟨true, by simp, HF, HIs.out _⟩
                  · have HF : Hid (Ok1 false true (sl i) n r r0) := ⟨fun e => (by cases e), fun e => absurd e.2.2.2 q4⟩
                    have t4 : ((r : Int) == (r0 : Int)) = false := by simp; omega
                    clear q3 q4
                    go_wp2_with fail
                    go_quiet (fail)
                    go_wp2_with fail
                    go_meet
                    exact ⟨false, by simp, HF, HIs.out _⟩
              · have HF : Hid (Ok1 false true (sl i) n r r0) := ⟨fun e => (by cases e), fun e => absurd e.2.1.2 q2⟩
                have t1 : decide (0 ≤ sl i) = true := decide_eq_true q1
                have t2 : decide (sl i < (n : Int)) = false := decide_eq_false q2
                clear q2
                go_wp2_with fail
                go_quiet (fail)
                go_wp2_with fail
                go_meet
                exact ⟨false, by simp, HF, HIs.out _⟩
            · have HF : Hid (Ok1 false true (sl i) n r r0) := ⟨fun e => (by cases e), fun e => absurd e.2.1.1 q1⟩
              have t1 : decide (0 ≤ sl i) = false := decide_eq_false q1
              clear q1
              go_wp2_with fail
              go_quiet (fail)
              go_wp2_with fail
              go_meet
              exact ⟨false, by simp, HF, HIs.out _⟩
        case rest =>
          clear hI y0 y1 y00
          obtain ⟨b', rfl, hb', hI⟩ := hcut
          go_wp2_with fail
          go_loopw [7, 11] (fun v mv wr => ∃ (mm : Nat) (b'' : Bool), mm ≤ i ∧ mv = .int .i64 (mm : Int) ∧ v = .bool b'' ∧ Hid (Ok2 b'' b' sl i mm) ∧ DwI w sl hd i (.slice A1 n1 c1) (.slice A2 n2 c2) wr) (fun _ mv _ => i - (intOf mv).toNat)
          case atStart => exact ⟨0, b', Nat.zero_le _, rfl, rfl, (⟨fun h => ⟨h, fun u hu => absurd hu (Nat.not_lt_zero _)⟩, fun h => h.1⟩ : Ok2 b' b' sl i 0), hI⟩
          case round =>
            clear hI
            obtain ⟨mm, b'', hmm, rfl, rfl, hb'', hIm⟩ := hrel
            by_cases hltm : mm < i
            · obtain ⟨B', off', A5, r5, c5, hAB, z5, _, _, _⟩ := HH.out mm (by omega)
              injection hAB with hAB
              injection hAB with hAB1 hAB2
              subst hAB1 hAB2
              have x0 := hIm.kp.cell z0 fun f => f
              have x5 := hIm.kp.cell z5 fun f => f
              have hlmm : mm < m := by omega
              have HIs := hide (fun t => hIm.no (Sm.drewN wr t).kp)
              clear hIm z5
              rcases b'' with _ | _
              · have HF : Hid (Ok2 false b' sl i (mm + 1)) := ⟨fun e => (by cases e), fun e => hb''.out.2 ⟨e.1, fun u hu => e.2 u (by omega)⟩⟩
                go_wp2_with fail
                go_quiet (fail)
                go_wp2_with fail
                go_round
                case rel => exact ⟨mm + 1, false, by omega, by go_num, rfl, HF, HIs.out _⟩
                case measure => simp [intOf]; omega
              · have HF : Hid (Ok2 (sl mm != sl i) b' sl i (mm + 1)) := by
                  show (sl mm != sl i) = true ↔ b' = true ∧ ∀ u, u < mm + 1 → sl u ≠ sl i
                  have h5 := hb''.out.1 rfl
                  rw [bne_iff_ne]
                  refine ⟨fun e => ⟨h5.1, fun u hu => ?_⟩, fun e => e.2 mm (by omega)⟩
                  by_cases e2 : u = mm
                  · rw [e2]; exact e
                  · exact h5.2 u (by omega)
                go_wp2_with fail
                go_quiet (fail)
                go_wp2_with fail
                go_round
                case rel => exact ⟨mm + 1, _, by omega, by go_num, rfl, HF, HIs.out _⟩
                case measure => simp [intOf]; omega
            · obtain rfl : mm = i := by omega
              rename_i _
              obtain ⟨i, hii⟩ : ∃ i, i = mm := ⟨_, rfl⟩
              subst hii
              have HB3 : Hid (b'' = true ↔ ∀ j, j < i + 1 → PGood n sl ds j) := by
                show b'' = true ↔ ∀ j, j < i + 1 → PGood n sl ds j
                have g2 : b'' = true ↔ b' = true ∧ ∀ u, u < i → sl u ≠ sl i := hb''.out
                have g1 : b' = true ↔ b = true ∧ (0 ≤ sl i ∧ sl i < (n : Int)) ∧ r ≠ 0 ∧ r = r0 := hb'.out
                rw [g2, g1, hb.out]
                constructor
                · rintro ⟨⟨h5, h6, h7, h8⟩, h9⟩ j hj
                  by_cases e : j = i
                  · subst e
                    exact ⟨h6, h9, by rw [← hl.out]; exact h7, by rw [← hl.out, ← hl0.out]; exact h8⟩
                  · exact h5 j (by omega)
                · intro h5
                  have h6 := h5 i (by omega)
                  exact ⟨⟨fun j hj => h5 j (by omega), h6.1, by rw [hl.out]; exact h6.2.2.1, by rw [hl.out, hl0.out]; exact h6.2.2.2⟩, h6.2.1⟩
              have HL3 : Hid (∀ j, j < i + 1 → (ds j).length ≤ 60) := fun j hj => by
                by_cases e : j = i
                · rw [e, ← hl.out]; exact hr
                · exact hl60.out j (by omega)
              have hS : ∀ u, Kp No w u → (Kp No w u ∧ u.cell? ⟨B, off + i * 2, none⟩ = some (.int .i64 (sl i)) ∧ u.cell? ⟨B, off + i * 2 + 1, none⟩ = some (.slice A' r cc)) := fun u hk => ⟨hk, hk.cell z0 fun f => f, hk.cell z1 fun f => f⟩
              have HI := hide (hIm.no (Sm.drew wr).kp)
              go_wp2_with fail
              refine wp_region_noPanic ?_
              refine wp_region_held_drew (S := fun w' => Kp No w w' ∧ w'.cell? ⟨B, off + i * 2, none⟩ = some (.int .i64 (sl i)) ∧ w'.cell? ⟨B, off + i * 2 + 1, none⟩ = some (.slice A' r cc)) (by kernel_rfl) (hS _ (hIm.kp.trans' (Sm.drew wr).kp)) (fun hHeld => ?_)
              refine wpAnyH_take (i := 0) (v := ?vbx1) (oi := ?obx1) ?hbx1 (by kernel_rfl) (by kernel_rfl) (by kernel_rfl) (fun _ _ _ h => h) (Or.inl ⟨?wbx1, ?ybx1⟩) hHeld ?rbx1
              case hbx1 => simp only [List.getElem?_toArray, List.getElem?_cons_zero, List.getElem?_cons_succ]; rfl
              case wbx1 => rfl
              case ybx1 => intro w hSw; (try dsimp only at hSw); go_simp; (try with_reducible rfl)
              simp only [Act.put, List.setIfInBounds_toArray, List.set_cons_zero, List.set_cons_succ]
              refine wpAnyH_take (i := 1) (v := ?vbx2) (oi := ?obx2) ?hbx2 (by kernel_rfl) (by kernel_rfl) (by kernel_rfl) (fun _ _ _ h => h) (Or.inl ⟨?wbx2, ?ybx2⟩) hHeld ?rbx2
              case hbx2 => simp only [List.getElem?_toArray, List.getElem?_cons_zero, List.getElem?_cons_succ]; rfl
              case wbx2 => rfl
              case ybx2 => intro w hSw; (try dsimp only at hSw); go_simp; (try with_reducible rfl)
              simp only [Act.put, List.setIfInBounds_toArray, List.set_cons_zero, List.set_cons_succ]
              refine wpAnyH_take (i := 2) (v := ?vbx3) (oi := ?obx3) ?hbx3 (by kernel_rfl) (by kernel_rfl) (by kernel_rfl) (fun _ _ _ h => h) (Or.inl ⟨?wbx3, ?ybx3⟩) hHeld ?rbx3
              case hbx3 => simp only [List.getElem?_toArray, List.getElem?_cons_zero, List.getElem?_cons_succ]; rfl
              case wbx3 => rfl
              case ybx3 => intro w hSw; (try dsimp only at hSw); go_simp; (try with_reducible rfl)
              simp only [Act.put, List.setIfInBounds_toArray, List.set_cons_zero, List.set_cons_succ]
              refine wpAnyH_take (i := 3) (v := ?vbx4) (oi := ?obx4) ?hbx4 (by kernel_rfl) (by kernel_rfl) (by kernel_rfl) (fun _ _ _ h => h) (Or.inl ⟨?wbx4, ?ybx4⟩) hHeld ?rbx4
              case hbx4 => simp only [List.getElem?_toArray, List.getElem?_cons_zero, List.getElem?_cons_succ]; rfl
              case wbx4 => rfl
              case ybx4 => intro w hSw; (try dsimp only at hSw); go_simp; (try with_reducible rfl)
              simp only [Act.put, List.setIfInBounds_toArray, List.set_cons_zero, List.set_cons_succ]
              refine wpAnyH_take (i := 4) (v := ?vbx5) (oi := ?obx5) ?hbx5 (by kernel_rfl) (by kernel_rfl) (by kernel_rfl) (fun _ _ _ h => h) (Or.inl ⟨?wbx5, ?ybx5⟩) hHeld ?rbx5
              case hbx5 => simp only [List.getElem?_toArray, List.getElem?_cons_zero, List.getElem?_cons_succ]; rfl
              case wbx5 => rfl
              case ybx5 => intro w hSw; (try dsimp only at hSw); go_simp; (try with_reducible rfl)
              simp only [Act.put, List.setIfInBounds_toArray, List.set_cons_zero, List.set_cons_succ]
              refine wpAnyH_take (i := 5) (v := ?vbx6) (oi := ?obx6) ?hbx6 (by kernel_rfl) (by kernel_rfl) (by kernel_rfl) (fun _ _ _ h => h) (Or.inl ⟨?wbx6, ?ybx6⟩) hHeld ?rbx6
              case hbx6 => simp only [List.getElem?_toArray, List.getElem?_cons_zero, List.getElem?_cons_succ]; rfl
              case wbx6 => rfl
              case ybx6 => intro w hSw; (try dsimp only at hSw); go_simp; (try with_reducible rfl)
              simp only [Act.put, List.setIfInBounds_toArray, List.set_cons_zero, List.set_cons_succ]
              refine wpAnyH_take (i := 8) (v := ?vbx7) (oi := ?obx7) ?hbx7 (by kernel_rfl) (by kernel_rfl) (by kernel_rfl) (fun _ _ _ h => h) (Or.inl ⟨?wbx7, ?ybx7⟩) hHeld ?rbx7
              case hbx7 => simp only [List.getElem?_toArray, List.getElem?_cons_zero, List.getElem?_cons_succ]; rfl
              case wbx7 => rfl
              case ybx7 => intro w hSw; (try dsimp only at hSw); go_simp; (try with_reducible rfl)
              simp only [Act.put, List.setIfInBounds_toArray, List.set_cons_zero, List.set_cons_succ]
              refine wpAnyH_take (i := 9) (v := ?vbx8) (oi := ?obx8) ?hbx8 (by kernel_rfl) (by kernel_rfl) (by kernel_rfl) (fun _ _ _ h => h) (Or.inl ⟨?wbx8, ?ybx8⟩) hHeld ?rbx8
              case hbx8 => simp only [List.getElem?_toArray, List.getElem?_cons_zero, List.getElem?_cons_succ]; rfl
              case wbx8 => rfl
              case ybx8 => intro w hSw; (try dsimp only at hSw); go_simp; (try with_reducible rfl)
              simp only [Act.put, List.setIfInBounds_toArray, List.set_cons_zero, List.set_cons_succ]
              refine wpAnyH_take (i := 10) (v := ?vbx9) (oi := ?obx9) ?hbx9 (by kernel_rfl) (by kernel_rfl) (by kernel_rfl) (fun _ _ _ h => h) (Or.inl ⟨?wbx9, ?ybx9⟩) hHeld ?rbx9
              case hbx9 => simp only [List.getElem?_toArray, List.getElem?_cons_zero, List.getElem?_cons_succ]; rfl
              case wbx9 => rfl
              case ybx9 => intro w hSw; (try dsimp only at hSw); go_simp; (try with_reducible rfl)
              simp only [Act.put, List.setIfInBounds_toArray, List.set_cons_zero, List.set_cons_succ]
              refine wpAnyH_take (i := 11) (v := ?vbx10) (oi := ?obx10) ?hbx10 (by kernel_rfl) (by kernel_rfl) (by kernel_rfl) (fun _ _ _ h => h) (Or.inl ⟨?wbx10, ?ybx10⟩) hHeld ?rbx10
              case hbx10 => simp only [List.getElem?_toArray, List.getElem?_cons_zero, List.getElem?_cons_succ]; rfl
              case wbx10 => rfl
              case ybx10 => intro w hSw; (try dsimp only at hSw); go_simp; (try with_reducible rfl)
              simp only [Act.put, List.setIfInBounds_toArray, List.set_cons_zero, List.set_cons_succ]
              refine wpAnyH_take (i := 12) (v := ?vbx11) (oi := ?obx11) ?hbx11 (by kernel_rfl) (by kernel_rfl) (by kernel_rfl) (fun _ _ _ h => h) (Or.inl ⟨?wbx11, ?ybx11⟩) hHeld ?rbx11
              case hbx11 => simp only [List.getElem?_toArray, List.getElem?_cons_zero, List.getElem?_cons_succ]; rfl
              case wbx11 => rfl
              case ybx11 => intro w hSw; (try dsimp only at hSw); go_simp; (try with_reducible rfl)
              simp only [Act.put, List.setIfInBounds_toArray, List.set_cons_zero, List.set_cons_succ]
              refine wpAnyH_take (i := 13) (v := ?vbx12) (oi := ?obx12) ?hbx12 (by kernel_rfl) (by kernel_rfl) (by kernel_rfl) (fun _ _ _ h => h) (Or.inl ⟨?wbx12, ?ybx12⟩) hHeld ?rbx12
              case hbx12 => simp only [List.getElem?_toArray, List.getElem?_cons_zero, List.getElem?_cons_succ]; rfl
              case wbx12 => rfl
              case ybx12 => intro w hSw; (try dsimp only at hSw); go_simp; (try with_reducible rfl)
              simp only [Act.put, List.setIfInBounds_toArray, List.set_cons_zero, List.set_cons_succ]
              refine wpAnyH_ready (rs := [6, 14]) (by kernel_rfl) (by simp) ?_
              refine (AllReadyH.cons (o := ?obx14) ?hbx14 (fun K hK => ?sbx14) (AllReadyH.cons (o := ?obx15) ?hbx15 (fun K hK => ?sbx15) AllReadyH.nil))
              case hbx14 => simp only [List.getElem?_toArray, List.getElem?_cons_zero, List.getElem?_cons_succ]; rfl
              case hbx15 => simp only [List.getElem?_toArray, List.getElem?_cons_zero, List.getElem?_cons_succ]; rfl
              case sbx14 =>
                go_simp
                refine hK.out _ _ (hS _ (hHeld.1.trans' (Kp.alloc No _ _))) (fun hHeld => ?_)
                clear hK K
                try simp only [Act.put, List.setIfInBounds_toArray, List.set_cons_zero, List.set_cons_succ]
                refine wpAnyH_ready (rs := [7, 14]) (by kernel_rfl) (by simp) ?_
                refine (AllReadyH.cons (o := ?obx17) ?hbx17 (fun K hK => ?sbx17) (AllReadyH.cons (o := ?obx18) ?hbx18 (fun K hK => ?sbx18) AllReadyH.nil))
                case hbx17 => simp only [List.getElem?_toArray, List.getElem?_cons_zero, List.getElem?_cons_succ]; rfl
                case hbx18 => simp only [List.getElem?_toArray, List.getElem?_cons_zero, List.getElem?_cons_succ]; rfl
                case sbx17 =>
                  have o7 := HI.out.o1.no (Kp.alloc No _ (.cells #[.int .i64 (sl i)] 3))
                  refine step_appT ty_int rfl (.tmp 100) (.tmp 106) _ rfl Try.underlying43 rfl o7 _ _ rfl (nws_one (u := .int .i64 (sl i)) (by simp) rfl) (by omega) hHeld.1.size ?_
                  intro A3 n3 c3 w3 hn3 ha1
                  have HN3 := hide hn3
                  clear hn3
                  refine hK.out _ _ (hS _ (ha1.keeps o7 hHeld.1)) (fun hHeld => ?_)
                  clear hK K
                  try simp only [Act.put, List.setIfInBounds_toArray, List.set_cons_zero, List.set_cons_succ]
                  refine wpAnyH_ready (rs := [14]) (by kernel_rfl) (by simp) ?_
                  refine AllReadyH.cons (o := ?obx19) ?hbx19 (fun K hK => ?sbx19) AllReadyH.nil
                  case hbx19 => simp only [List.getElem?_toArray, List.getElem?_cons_zero, List.getElem?_cons_succ]; rfl
                  go_simp
                  refine hK.out _ _ (hS _ (hHeld.1.trans' (Kp.alloc No _ _))) (fun hHeld => ?_)
                  clear hK K
                  try simp only [Act.put, List.setIfInBounds_toArray, List.set_cons_zero, List.set_cons_succ]
                  refine wpAnyH_ready (rs := [15]) (by kernel_rfl) (by simp) ?_
                  refine AllReadyH.cons (o := ?obx20) ?hbx20 (fun K hK => ?sbx20) AllReadyH.nil
                  case hbx20 => simp only [List.getElem?_toArray, List.getElem?_cons_zero, List.getElem?_cons_succ]; rfl
                  have o15 := HI.out.mid (Kp.alloc No _ (.cells #[.int .i64 (sl i)] 3)) ha1 (Kp.alloc No w3 (.cells #[.slice A' r cc] 29))
                  have n15 : Nws (w3.alloc (.cells #[.slice A' r cc] 29)) ⟨w3.heap.size, 0, none⟩ 1 1 [.slice A' r cc] := nws_one (by simp) rfl
                  refine step_appT ty_slc rfl (.tmp 108) (.tmp 114) _ rfl Try.underlying26 rfl o15 _ _ rfl n15 (by omega) hHeld.1.size ?_
                  intro A4 n4 c4 w4 hn4 ha2
                  have HN4 := hide hn4
                  clear hn4
                  refine hK.out _ _ (hS _ (ha2.keeps o15 hHeld.1)) (fun hHeld => ?_)
                  clear hK K
                  try simp only [Act.put, List.setIfInBounds_toArray, List.set_cons_zero, List.set_cons_succ]
                  refine wpAnyH_ready (rs := [16]) (by kernel_rfl) (by simp) ?_
                  refine AllReadyH.cons (o := ?obx21) ?hbx21 (fun K hK => ?sbx21) AllReadyH.nil
                  case hbx21 => simp only [List.getElem?_toArray, List.getElem?_cons_zero, List.getElem?_cons_succ]; rfl
                  go_simp
                  refine hK.out _ _ (hHeld) (fun hHeld => ?_)
                  clear hK K
                  try simp only [Act.put, List.setIfInBounds_toArray, List.set_cons_zero, List.set_cons_succ]
                  refine wpAnyH_ready (rs := [17]) (by kernel_rfl) (by simp) ?_
                  refine AllReadyH.cons (o := ?obx22) ?hbx22 (fun K hK => ?sbx22) AllReadyH.nil
                  case hbx22 => simp only [List.getElem?_toArray, List.getElem?_cons_zero, List.getElem?_cons_succ]; rfl
                  go_simp
                  refine hK.out _ _ (hHeld) (fun hHeld => ?_)
                  clear hK K
                  try simp only [Act.put, List.setIfInBounds_toArray, List.set_cons_zero, List.set_cons_succ]
                  refine wpAnyH_done (by kernel_rfl) ?_ _
                  refine NoPanic.normal ?_
                  go_wp2_with fail
                  go_round
                  case rel => exact ⟨i + 1, _, A3, n3, c3, A4, n4, c4, by omega, by go_num, rfl, rfl, rfl, HB3, HL3, HI.out.fin (Kp.alloc No _ (.cells #[.int .i64 (sl i)] 3)) ha1 (Kp.alloc No w3 (.cells #[.slice A' r cc] 29)) (by rw [HHD.out]; exact ha2)⟩
                  case measure => simp [intOf]; omega
                case sbx18 =>
                  go_simp
                  refine hK.out _ _ (hS _ (hHeld.1.trans' (Kp.alloc No _ _))) (fun hHeld => ?_)
                  clear hK K
                  try simp only [Act.put, List.setIfInBounds_toArray, List.set_cons_zero, List.set_cons_succ]
                  refine wpAnyH_ready (rs := [7]) (by kernel_rfl) (by simp) ?_
                  refine AllReadyH.cons (o := ?obx24) ?hbx24 (fun K hK => ?sbx24) AllReadyH.nil
                  case hbx24 => simp only [List.getElem?_toArray, List.getElem?_cons_zero, List.getElem?_cons_succ]; rfl
                  have o7 := HI.out.o1.no ((Kp.alloc No _ (.cells #[.int .i64 (sl i)] 3)).trans' (Kp.alloc No _ (.cells #[.slice A' r cc] 29)))
                  refine step_appT ty_int rfl (.tmp 100) (.tmp 106) _ rfl Try.underlying43 rfl o7 _ _ rfl (nws_one (u := .int .i64 (sl i)) (by simp) rfl) (by omega) hHeld.1.size ?_
                  intro A3 n3 c3 w3 hn3 ha1
                  have HN3 := hide hn3
                  clear hn3
                  refine hK.out _ _ (hS _ (ha1.keeps o7 hHeld.1)) (fun hHeld => ?_)
                  clear hK K
                  try simp only [Act.put, List.setIfInBounds_toArray, List.set_cons_zero, List.set_cons_succ]
                  refine wpAnyH_ready (rs := [15]) (by kernel_rfl) (by simp) ?_
                  refine AllReadyH.cons (o := ?obx25) ?hbx25 (fun K hK => ?sbx25) AllReadyH.nil
                  case hbx25 => simp only [List.getElem?_toArray, List.getElem?_cons_zero, List.getElem?_cons_succ]; rfl
                  have o15 := HI.out.mid ((Kp.alloc No _ (.cells #[.int .i64 (sl i)] 3)).trans' (Kp.alloc No _ (.cells #[.slice A' r cc] 29))) ha1 (Kp.refl No w3)
                  have c15 := ha1.kp.cell (p := ⟨wr.drew.heap.size + 1, 0, none⟩) (v := .slice A' r cc) (by simp) (fun e => by have : wr.drew.heap.size + 1 < wr.drew.heap.size := HI.out.o1.lt _ e; omega)
                  have n15 := nws_one c15 rfl
                  refine step_appT ty_slc rfl (.tmp 108) (.tmp 114) _ rfl Try.underlying26 rfl o15 _ _ rfl n15 (by omega) hHeld.1.size ?_
                  intro A4 n4 c4 w4 hn4 ha2
                  have HN4 := hide hn4
                  clear hn4
                  refine hK.out _ _ (hS _ (ha2.keeps o15 hHeld.1)) (fun hHeld => ?_)
                  clear hK K
                  try simp only [Act.put, List.setIfInBounds_toArray, List.set_cons_zero, List.set_cons_succ]
                  refine wpAnyH_ready (rs := [16]) (by kernel_rfl) (by simp) ?_
                  refine AllReadyH.cons (o := ?obx26) ?hbx26 (fun K hK => ?sbx26) AllReadyH.nil
                  case hbx26 => simp only [List.getElem?_toArray, List.getElem?_cons_zero, List.getElem?_cons_succ]; rfl
                  go_simp
                  refine hK.out _ _ (hHeld) (fun hHeld => ?_)
                  clear hK K
                  try simp only [Act.put, List.setIfInBounds_toArray, List.set_cons_zero, List.set_cons_succ]
                  refine wpAnyH_ready (rs := [17]) (by kernel_rfl) (by simp) ?_
                  refine AllReadyH.cons (o := ?obx27) ?hbx27 (fun K hK => ?sbx27) AllReadyH.nil
                  case hbx27 => simp only [List.getElem?_toArray, List.getElem?_cons_zero, List.getElem?_cons_succ]; rfl
                  go_simp
                  refine hK.out _ _ (hHeld) (fun hHeld => ?_)
                  clear hK K
                  try simp only [Act.put, List.setIfInBounds_toArray, List.set_cons_zero, List.set_cons_succ]
                  refine wpAnyH_done (by kernel_rfl) ?_ _
                  refine NoPanic.normal ?_
                  go_wp2_with fail
                  go_round
                  case rel => exact ⟨i + 1, _, A3, n3, c3, A4, n4, c4, by omega, by go_num, rfl, rfl, rfl, HB3, HL3, HI.out.fin ((Kp.alloc No _ (.cells #[.int .i64 (sl i)] 3)).trans' (Kp.alloc No _ (.cells #[.slice A' r cc] 29))) ha1 (Kp.refl No w3) (by rw [HHD.out]; exact ha2)⟩
                  case measure => simp [intOf]; omega
              case sbx15 =>
                go_simp
                refine hK.out _ _ (hS _ (hHeld.1.trans' (Kp.alloc No _ _))) (fun hHeld => ?_)
                clear hK K
                try simp only [Act.put, List.setIfInBounds_toArray, List.set_cons_zero, List.set_cons_succ]
                refine wpAnyH_ready (rs := [6]) (by kernel_rfl) (by simp) ?_
                refine AllReadyH.cons (o := ?obx29) ?hbx29 (fun K hK => ?sbx29) AllReadyH.nil
                case hbx29 => simp only [List.getElem?_toArray, List.getElem?_cons_zero, List.getElem?_cons_succ]; rfl
                go_simp
                refine hK.out _ _ (hS _ (hHeld.1.trans' (Kp.alloc No _ _))) (fun hHeld => ?_)
                clear hK K
                try simp only [Act.put, List.setIfInBounds_toArray, List.set_cons_zero, List.set_cons_succ]
                refine wpAnyH_ready (rs := [7]) (by kernel_rfl) (by simp) ?_
                refine AllReadyH.cons (o := ?obx30) ?hbx30 (fun K hK => ?sbx30) AllReadyH.nil
                case hbx30 => simp only [List.getElem?_toArray, List.getElem?_cons_zero, List.getElem?_cons_succ]; rfl
                have o7 := HI.out.o1.no ((Kp.alloc No _ (.cells #[.slice A' r cc] 29)).trans' (Kp.alloc No _ (.cells #[.int .i64 (sl i)] 3)))
                refine step_appT ty_int rfl (.tmp 100) (.tmp 106) _ rfl Try.underlying43 rfl o7 _ _ rfl (nws_one (u := .int .i64 (sl i)) (by simp) rfl) (by omega) hHeld.1.size ?_
                intro A3 n3 c3 w3 hn3 ha1
                have HN3 := hide hn3
                clear hn3
                refine hK.out _ _ (hS _ (ha1.keeps o7 hHeld.1)) (fun hHeld => ?_)
                clear hK K
                try simp only [Act.put, List.setIfInBounds_toArray, List.set_cons_zero, List.set_cons_succ]
                refine wpAnyH_ready (rs := [15]) (by kernel_rfl) (by simp) ?_
                refine AllReadyH.cons (o := ?obx31) ?hbx31 (fun K hK => ?sbx31) AllReadyH.nil
                case hbx31 => simp only [List.getElem?_toArray, List.getElem?_cons_zero, List.getElem?_cons_succ]; rfl
                have o15 := HI.out.mid ((Kp.alloc No _ (.cells #[.slice A' r cc] 29)).trans' (Kp.alloc No _ (.cells #[.int .i64 (sl i)] 3))) ha1 (Kp.refl No w3)
                have c15 := ha1.kp.cell (p := ⟨wr.drew.heap.size, 0, none⟩) (v := .slice A' r cc) (by simp) (fun e => by have : wr.drew.heap.size < wr.drew.heap.size := HI.out.o1.lt _ e; omega)
                have n15 := nws_one c15 rfl
                refine step_appT ty_slc rfl (.tmp 108) (.tmp 114) _ rfl Try.underlying26 rfl o15 _ _ rfl n15 (by omega) hHeld.1.size ?_
                intro A4 n4 c4 w4 hn4 ha2
                have HN4 := hide hn4
                clear hn4
                refine hK.out _ _ (hS _ (ha2.keeps o15 hHeld.1)) (fun hHeld => ?_)
                clear hK K
                try simp only [Act.put, List.setIfInBounds_toArray, List.set_cons_zero, List.set_cons_succ]
                refine wpAnyH_ready (rs := [16]) (by kernel_rfl) (by simp) ?_
                refine AllReadyH.cons (o := ?obx32) ?hbx32 (fun K hK => ?sbx32) AllReadyH.nil
                case hbx32 => simp only [List.getElem?_toArray, List.getElem?_cons_zero, List.getElem?_cons_succ]; rfl
                go_simp
                refine hK.out _ _ (hHeld) (fun hHeld => ?_)
                clear hK K
                try simp only [Act.put, List.setIfInBounds_toArray, List.set_cons_zero, List.set_cons_succ]
                refine wpAnyH_ready (rs := [17]) (by kernel_rfl) (by simp) ?_
                refine AllReadyH.cons (o := ?obx33) ?hbx33 (fun K hK => ?sbx33) AllReadyH.nil
                case hbx33 => simp only [List.getElem?_toArray, List.getElem?_cons_zero, List.getElem?_cons_succ]; rfl
                go_simp
                refine hK.out _ _ (hHeld) (fun hHeld => ?_)
                clear hK K
                try simp only [Act.put, List.setIfInBounds_toArray, List.set_cons_zero, List.set_cons_succ]
                refine wpAnyH_done (by kernel_rfl) ?_ _
                refine NoPanic.normal ?_
                go_wp2_with fail
                go_round
                case rel => exact ⟨i + 1, _, A3, n3, c3, A4, n4, c4, by omega, by go_num, rfl, rfl, rfl, HB3, HL3, HI.out.fin ((Kp.alloc No _ (.cells #[.slice A' r cc] 29)).trans' (Kp.alloc No _ (.cells #[.int .i64 (sl i)] 3))) ha1 (Kp.refl No w3) (by rw [HHD.out]; exact ha2)⟩
                case measure => simp [intOf]; omega
      · have hr' : 60 < r := by omega
        clear hr
        go_wp2_with fail
        refine (awake6_any _).mono ?_
        rintro e w9 ⟨rfl, k9⟩
        go_wp2_with fail
        go_ret
        exact ⟨rfl, (hI.kp.trans' k9).below0⟩
    · obtain rfl : i = m := by omega
      rcases b with _ | _
      · have HDE := hide (fun w' g (hk : Kp No w w') (hC : CodeAt w' g n k x) => dec_err (cp := cp) hC HD.out (HP.out.no hk) (by omega) 1 (fun y hy => by
          rcases hy with ⟨_, hy⟩ | ⟨hg, _⟩
          · exact hy
          · have := hb.out.2 hg
            cases this) (by omega))
        go_wp2_with fail
        refine (HN.out _).mono ?_
        rintro e w3 ⟨g, rfl, hC, hk3⟩
        have hk3' := hI.kp.trans' hk3
        go_wp2_with fail
        refine (HDE.out _ _ hk3' hC).mono ?_
        rintro e w4 ⟨rfl, hk4⟩
        go_wp2_with fail
        refine (awake6_any _).mono ?_
        rintro e w9 ⟨rfl, k9⟩
        go_wp2_with fail
        go_ret
        exact ⟨rfl, ((hk3'.trans' hk4).trans' k9).below0⟩
      · have hgood := hide (hb.out.1 rfl)
        by_cases hf : i < k
        · have HDE := hide (fun w' g (hk : Kp No w w') (hC : CodeAt w' g n k x) => dec_err (cp := cp) hC HD.out (HP.out.no hk) (by omega) 24 (fun y hy => by
            rcases hy with ⟨⟨j, hj, hn⟩, _⟩ | ⟨_, ⟨_, hy⟩ | ⟨hk, _⟩⟩
            · exact absurd (hgood.out j hj) hn
            · exact hy
            · omega) (by omega))
          go_wp2_with fail
          refine (HN.out _).mono ?_
          rintro e w3 ⟨g, rfl, hC, hk3⟩
          have hk3' := hI.kp.trans' hk3
          go_wp2_with fail
          refine (HDE.out _ _ hk3' hC).mono ?_
          rintro e w4 ⟨rfl, hk4⟩
          go_wp2_with fail
          refine (awake6_any _).mono ?_
          rintro e w9 ⟨rfl, k9⟩
          go_wp2_with fail
          go_ret
          exact ⟨rfl, ((hk3'.trans' hk4).trans' k9).below0⟩
        · have hki : k ≤ i := by omega
          have hi0 : 0 < i := by omega
          obtain ⟨B, off, A0, r0, c0, rfl, _, z00, _, hB0⟩ := HH.out 0 hi0
          rw [Nat.zero_mul, Nat.add_zero] at z00
          have hl0 := hide hB0.len
          have hr60 : r0 ≤ 60 := by have := hl60.out 0 hi0; have := hl0.out; omega
          obtain ⟨rr, hrr⟩ : ∃ rr, rr = r0 % a := ⟨_, rfl⟩
          have hr1 : (r0 : Int) % (a : Int) = (rr : Int) := by rw [hrr, Int.natCast_emod]
          have HRR := hide hrr
          have HR1 := hide hr1
          clear hf hB0 hrr hr1
          by_cases hz : rr = 0
          · obtain ⟨L, hL⟩ : ∃ L, L = r0 / a := ⟨_, rfl⟩
            have hrL : (ds 0).length = a * L := by
              have e := Nat.div_add_mod r0 a
              rw [← HRR.out, hz, ← hL, Nat.add_zero] at e
              rw [← hl0.out]
              exact e.symm
            have hL60 : L ≤ 60 := by
              rw [hL]
              exact Nat.le_trans (Nat.div_le_self _ _) hr60
            have hL1 : 1 ≤ L := by
              rcases Nat.eq_zero_or_pos L with e | e
              · have := (hgood.out 0 hi0).2.2.1
                rw [hrL, e, Nat.mul_zero] at this
                exact absurd rfl this
              · exact e
            have hq12 : q ≤ 12 := by
              rw [HD.out.q_]
              exact Nat.le_trans (Nat.mul_le_mul (show a + 1 ≤ 4 by omega) ha3) (by omega)
            obtain ⟨W, hW⟩ : ∃ W, W = q * L := ⟨_, rfl⟩
            have hWb : W ≤ 100000 := by
              rw [hW]
              exact Nat.le_trans (Nat.mul_le_mul hq12 hL60) (by omega)
            have hss : ∀ j, j < i → sl j = (((sl j).toNat : Nat) : Int) := fun j hj => by have := (hgood.out j hj).1; omega
            have hsn : ∀ j, j < k → (sl j).toNat < n := fun j hj => by
              have := (hgood.out j (by omega)).1
              omega
            have hne : ∀ u j, u < j → j < k → (sl u).toNat ≠ (sl j).toNat := fun u j hu hj e => by
              have h5 := (hgood.out j (by omega)).2.1 u hu
              have h6 := hss u (by omega)
              have h7 := hss j (by omega)
              exact h5 (by rw [h6, h7, e])
            have hU := uq_slots HX.out.uq hsn hne
            have HDK := hide (fun w' g (hk : Kp No w w') (hC : CodeAt w' g n k x) => dec_ok (cp := cp) (ss := fun j => (sl j).toNat) (L := L) (W := W) hC HD.out HX.out (HP.out.no hk) (by omega) hcp hki hgood.out hss hrL hW hWb)
            obtain ⟨g1, e1, e1r, hsl⟩ := hI.slot hi0
            obtain ⟨e2, hrows⟩ := hI.rows (ds := ds) fun j hj => by
              obtain ⟨_, _, _, _, _, _, _, _, e, hb⟩ := HH.out j hj
              rw [e]
              exact hb
            subst e1 e1r e2
            have HRD0 := hide (fun w' (hk : Kp No wr w') => rdec_any (L := L) (W := W) (Bs := g1) (os := 0) (ms := i) (cs := c1) (cd := c2) (ss := fun j => (sl j).toNat) (ds := ds) HD.out HX.out (fun j hj => by
              rw [hk.cell (hsl j (by omega)) fun f => f, hss j (by omega)]
              rfl) hki (hrows.no hk) hki (fun j hj => by simp [show j < i by omega]) (fun j hj => by rw [(hgood.out j (by omega)).2.2.2, hrL]) hsn hU hL1 hL60 hq12 hW)
            have HWh : Hid ((redS q (eqM a (plcF a) fun j => x ((fun j => (sl j).toNat) j)) q).rk = q) := by
              have := eqM_whole (plc_ok (a := a) (by omega) ha1) ha1 rfl (x := fun j => x ((fun j => (sl j).toNat) j)) (by rw [← HD.out.k_]; exact hU)
              rw [← HD.out.q_] at this
              exact this
            have HWW := hide hW
            have hr1 := HR1.out
            subst hz
            clear hL hrL hss hsn hne hU hW hrows hsl
            go_wp2_with fail
            refine (HN.out _).mono ?_
            rintro e w3 ⟨g, rfl, hC, hk3⟩
            have hk3' := hI.kp.trans' hk3
            go_wp2_with fail
            refine (HDK.out _ _ hk3' hC).mono ?_
            rintro e w4 ⟨Xb, Ab, nb, cb, rfl, hob, hEb, hk4⟩
            have hb4 := hob.bts
            have hk4' := hk3.trans' hk4
            obtain ⟨tt, htt⟩ : ∃ tt, tt = strOf (rowL W fun t => Xb (t / L) (t % L)) := ⟨_, rfl⟩
            have HT := hide htt
            have HUn : Hid (∀ Xc, EqF q L (mulF q (eqM a (plcF a) fun j => x ((fun j => (sl j).toNat) j)) Xc) (knF a L ds) → (rowL W fun t => Xc (t / L) (t % L)) = rowL W fun t => Xb (t / L) (t % L)) := fun Xc hXc => by
              have hu := solve_only HWh.out (hXc.trans hEb.symm)
              refine rowL_congr fun t ht => hu _ _ ?_ (Nat.mod_lt _ hL1)
              rw [HWW.out, Nat.mul_comm] at ht
              exact Nat.div_lt_of_lt_mul ht
            have HRD := hide (fun w' (hk : Kp No w4 w') => HRD0.out w' (hk4'.trans' hk))
            have hSno : ∀ {u v : World}, (Kp No w4 u ∧ Bts u (.slice Ab nb cb) (rowL W fun t => Xb (t / L) (t % L))) → Kp No u v → (Kp No w4 v ∧ Bts v (.slice Ab nb cb) (rowL W fun t => Xb (t / L) (t % L))) := fun h hk => ⟨h.1.trans' hk, h.2.no hk⟩
            have y00 := (hk3'.trans' hk4).cell z00 fun f => f
            have hk4 := hk3'.trans' hk4
            have hka := HKA.out
            clear htt hob hEb hC hk3 hk3' hk4' HRD0 HWh
            go_upto_region 25 with fail
            clear hka hr1
            refine wp_region_noPanic ?_
            refine wp_region_held_drew (S := fun w' => Kp No w4 w' ∧ Bts w' (.slice Ab nb cb) (rowL W fun t => Xb (t / L) (t % L))) (by kernel_rfl) (⟨(Sm.drew w4).kp, hb4.no (Sm.drew w4).kp⟩) (fun hHeld => ?_)
            refine wpAnyH_take (i := 0) (v := ?vcx1) (oi := ?ocx1) ?hcx1 (by kernel_rfl) (by kernel_rfl) (by kernel_rfl) (fun _ _ _ h => h) (Or.inl ⟨?wcx1, ?ycx1⟩) hHeld ?rcx1
            case hcx1 => simp only [List.getElem?_toArray, List.getElem?_cons_zero, List.getElem?_cons_succ]; rfl
            case wcx1 => rfl
            case ycx1 => intro w hSw; (try dsimp only at hSw); go_simp; (try with_reducible rfl)
            simp only [Act.put, List.setIfInBounds_toArray, List.set_cons_zero, List.set_cons_succ]
            refine wpAnyH_take (i := 2) (v := ?vcx2) (oi := ?ocx2) ?hcx2 (by kernel_rfl) (by kernel_rfl) (by kernel_rfl) (fun _ _ _ h => h) (Or.inl ⟨?wcx2, ?ycx2⟩) hHeld ?rcx2
            case hcx2 => simp only [List.getElem?_toArray, List.getElem?_cons_zero, List.getElem?_cons_succ]; rfl
            case wcx2 => rfl
            case ycx2 => intro w hSw; (try dsimp only at hSw); go_simp; (try with_reducible rfl)
            simp only [Act.put, List.setIfInBounds_toArray, List.set_cons_zero, List.set_cons_succ]
            refine wpAnyH_take (i := 3) (v := ?vcx3) (oi := ?ocx3) ?hcx3 (by kernel_rfl) (by kernel_rfl) (by kernel_rfl) (fun _ _ _ h => h) (Or.inl ⟨?wcx3, ?ycx3⟩) hHeld ?rcx3
            case hcx3 => simp only [List.getElem?_toArray, List.getElem?_cons_zero, List.getElem?_cons_succ]; rfl
            case wcx3 => rfl
            case ycx3 => intro w hSw; (try dsimp only at hSw); go_simp; (try with_reducible rfl)
            simp only [Act.put, List.setIfInBounds_toArray, List.set_cons_zero, List.set_cons_succ]
            refine wpAnyH_take (i := 4) (v := ?vcx4) (oi := ?ocx4) ?hcx4 (by kernel_rfl) (by kernel_rfl) (by kernel_rfl) (fun _ _ _ h => h) (Or.inl ⟨?wcx4, ?ycx4⟩) hHeld ?rcx4
            case hcx4 => simp only [List.getElem?_toArray, List.getElem?_cons_zero, List.getElem?_cons_succ]; rfl
            case wcx4 => rfl
            case ycx4 => intro w hSw; (try dsimp only at hSw); go_simp; (try with_reducible rfl)
            simp only [Act.put, List.setIfInBounds_toArray, List.set_cons_zero, List.set_cons_succ]
            refine wpAnyH_take (i := 5) (v := ?vcx5) (oi := ?ocx5) ?hcx5 (by kernel_rfl) (by kernel_rfl) (by kernel_rfl) (fun _ _ _ h => h) (Or.inl ⟨?wcx5, ?ycx5⟩) hHeld ?rcx5
            case hcx5 => simp only [List.getElem?_toArray, List.getElem?_cons_zero, List.getElem?_cons_succ]; rfl
            case wcx5 => rfl
            case ycx5 => intro w hSw; (try dsimp only at hSw); go_simp; (try with_reducible rfl)
            simp only [Act.put, List.setIfInBounds_toArray, List.set_cons_zero, List.set_cons_succ]
            refine wpAnyH_ready (rs := [1, 6]) (by kernel_rfl) (by simp) ?_
            refine (AllReadyH.cons (o := ?ocx7) ?hcx7 (fun K hK => ?scx7) (AllReadyH.cons (o := ?ocx8) ?hcx8 (fun K hK => ?scx8) AllReadyH.nil))
            case hcx7 => simp only [List.getElem?_toArray, List.getElem?_cons_zero, List.getElem?_cons_succ]; rfl
            case hcx8 => simp only [List.getElem?_toArray, List.getElem?_cons_zero, List.getElem?_cons_succ]; rfl
            case scx7 =>
              have v1 := conv_bts hHeld.2
              rw [← HT.out] at v1
              go_simp
              refine hK.out _ _ (hHeld) (fun hHeld => ?_)
              clear hK K
              try simp only [Act.put, List.setIfInBounds_toArray, List.set_cons_zero, List.set_cons_succ]
              refine wpAnyH_ready (rs := [6]) (by kernel_rfl) (by simp) ?_
              refine AllReadyH.cons (o := ?ocx9) ?hcx9 (fun K hK => ?scx9) AllReadyH.nil
              case hcx9 => simp only [List.getElem?_toArray, List.getElem?_cons_zero, List.getElem?_cons_succ]; rfl
              go_simp
              refine (HRD.out _ hHeld.1).mono ?_
              rintro e w5 ⟨Xc, A5, n5, c5, rfl, ho5, hE5, hk5⟩
              have hx := hSno hHeld hk5
              have HL5 := hide (HUn.out Xc hE5)
              clear hE5
              go_wp2_with fail
              refine hK.out _ _ (hx) (fun hHeld => ?_)
              clear hK K
              try simp only [Act.put, List.setIfInBounds_toArray, List.set_cons_zero, List.set_cons_succ]
              refine wpAnyH_ready (rs := [7]) (by kernel_rfl) (by simp) ?_
              refine AllReadyH.cons (o := ?ocx10) ?hcx10 (fun K hK => ?scx10) AllReadyH.nil
              case hcx10 => simp only [List.getElem?_toArray, List.getElem?_cons_zero, List.getElem?_cons_succ]; rfl
              have v7 := conv_bts ho5.bts
              rw [HL5.out, ← HT.out] at v7
              go_simp
              refine hK.out _ _ (hHeld) (fun hHeld => ?_)
              clear hK K
              try simp only [Act.put, List.setIfInBounds_toArray, List.set_cons_zero, List.set_cons_succ]
              refine wpAnyH_take (i := 8) (v := ?vcx11) (oi := ?ocx11) ?hcx11 (by kernel_rfl) (by kernel_rfl) (by kernel_rfl) (fun _ _ _ h => h) (Or.inl ⟨?wcx11, ?ycx11⟩) hHeld ?rcx11
              case hcx11 => simp only [List.getElem?_toArray, List.getElem?_cons_zero, List.getElem?_cons_succ]; rfl
              case wcx11 => rfl
              case ycx11 => intro w hSw; (try dsimp only at hSw); go_simp; (try with_reducible rfl)
              simp only [Act.put, List.setIfInBounds_toArray, List.set_cons_zero, List.set_cons_succ]
              refine wpAnyH_take (i := 9) (v := ?vcx12) (oi := ?ocx12) ?hcx12 (by kernel_rfl) (by kernel_rfl) (by kernel_rfl) (fun _ _ _ h => h) (Or.inl ⟨?wcx12, ?ycx12⟩) hHeld ?rcx12
              case hcx12 => simp only [List.getElem?_toArray, List.getElem?_cons_zero, List.getElem?_cons_succ]; rfl
              case wcx12 => rfl
              case ycx12 => intro w hSw; (try dsimp only at hSw); go_simp; (try with_reducible rfl)
              simp only [Act.put, List.setIfInBounds_toArray, List.set_cons_zero, List.set_cons_succ]
              refine wpAnyH_ready (rs := [10]) (by kernel_rfl) (by simp) ?_
              refine AllReadyH.cons (o := ?ocx13) ?hcx13 (fun K hK => ?scx13) AllReadyH.nil
              case hcx13 => simp only [List.getElem?_toArray, List.getElem?_cons_zero, List.getElem?_cons_succ]; rfl
              go_simp
              refine hK.out _ _ (hHeld) (fun hHeld => ?_)
              clear hK K
              try simp only [Act.put, List.setIfInBounds_toArray, List.set_cons_zero, List.set_cons_succ]
              refine wpAnyH_ready (rs := [11]) (by kernel_rfl) (by simp) ?_
              refine AllReadyH.cons (o := ?ocx14) ?hcx14 (fun K hK => ?scx14) AllReadyH.nil
              case hcx14 => simp only [List.getElem?_toArray, List.getElem?_cons_zero, List.getElem?_cons_succ]; rfl
              go_simp
              refine hK.out _ _ (hHeld) (fun hHeld => ?_)
              clear hK K
              try simp only [Act.put, List.setIfInBounds_toArray, List.set_cons_zero, List.set_cons_succ]
              refine wpAnyH_take (i := 12) (v := ?vcx15) (oi := ?ocx15) ?hcx15 (by kernel_rfl) (by kernel_rfl) (by kernel_rfl) (fun _ _ _ h => h) (Or.inl ⟨?wcx15, ?ycx15⟩) hHeld ?rcx15
              case hcx15 => simp only [List.getElem?_toArray, List.getElem?_cons_zero, List.getElem?_cons_succ]; rfl
              case wcx15 => rfl
              case ycx15 => intro w hSw; (try dsimp only at hSw); go_simp; (try with_reducible rfl)
              simp only [Act.put, List.setIfInBounds_toArray, List.set_cons_zero, List.set_cons_succ]
              refine wpAnyH_take (i := 13) (v := ?vcx16) (oi := ?ocx16) ?hcx16 (by kernel_rfl) (by kernel_rfl) (by kernel_rfl) (fun _ _ _ h => h) (Or.inl ⟨?wcx16, ?ycx16⟩) hHeld ?rcx16
              case hcx16 => simp only [List.getElem?_toArray, List.getElem?_cons_zero, List.getElem?_cons_succ]; rfl
              case wcx16 => rfl
              case ycx16 => intro w hSw; (try dsimp only at hSw); go_simp; (try with_reducible rfl)
              simp only [Act.put, List.setIfInBounds_toArray, List.set_cons_zero, List.set_cons_succ]
              refine wpAnyH_ready (rs := [14]) (by kernel_rfl) (by simp) ?_
              refine AllReadyH.cons (o := ?ocx17) ?hcx17 (fun K hK => ?scx17) AllReadyH.nil
              case hcx17 => simp only [List.getElem?_toArray, List.getElem?_cons_zero, List.getElem?_cons_succ]; rfl
              go_simp
              refine (awake6_any _).mono ?_
              rintro e w9 ⟨rfl, k9⟩
              have hx9 := hSno hHeld k9
              go_wp2_with fail
              refine hK.out _ _ (hx9) (fun hHeld => ?_)
              clear hK K
              try simp only [Act.put, List.setIfInBounds_toArray, List.set_cons_zero, List.set_cons_succ]
              refine wpAnyH_take (i := 15) (v := ?vcx18) (oi := ?ocx18) ?hcx18 (by kernel_rfl) (by kernel_rfl) (by kernel_rfl) (fun _ _ _ h => h) (Or.inl ⟨?wcx18, ?ycx18⟩) hHeld ?rcx18
              case hcx18 => simp only [List.getElem?_toArray, List.getElem?_cons_zero, List.getElem?_cons_succ]; rfl
              case wcx18 => rfl
              case ycx18 => intro w hSw; (try dsimp only at hSw); go_simp; (try with_reducible rfl)
              simp only [Act.put, List.setIfInBounds_toArray, List.set_cons_zero, List.set_cons_succ]
              refine wpAnyH_ready (rs := [16]) (by kernel_rfl) (by simp) ?_
              refine AllReadyH.cons (o := ?ocx19) ?hcx19 (fun K hK => ?scx19) AllReadyH.nil
              case hcx19 => simp only [List.getElem?_toArray, List.getElem?_cons_zero, List.getElem?_cons_succ]; rfl
              go_simp
              refine hK.out _ _ (hHeld) (fun hHeld => ?_)
              clear hK K
              try simp only [Act.put, List.setIfInBounds_toArray, List.set_cons_zero, List.set_cons_succ]
              refine wpAnyH_done (by kernel_rfl) ?_ _
              refine NoPanic.normal ?_
              go_wp2_with fail
              go_ret
              exact ⟨rfl, (hk4.trans' hHeld.1).below0⟩
            case scx8 =>
              go_simp
              refine (HRD.out _ hHeld.1).mono ?_
              rintro e w5 ⟨Xc, A5, n5, c5, rfl, ho5, hE5, hk5⟩
              have hx := hSno hHeld hk5
              have HL5 := hide (HUn.out Xc hE5)
              clear hE5
              go_wp2_with fail
              refine hK.out _ _ (hx) (fun hHeld => ?_)
              clear hK K
              try simp only [Act.put, List.setIfInBounds_toArray, List.set_cons_zero, List.set_cons_succ]
              refine wpAnyH_ready (rs := [1, 7]) (by kernel_rfl) (by simp) ?_
              refine (AllReadyH.cons (o := ?ocx22) ?hcx22 (fun K hK => ?scx22) (AllReadyH.cons (o := ?ocx23) ?hcx23 (fun K hK => ?scx23) AllReadyH.nil))
              case hcx22 => simp only [List.getElem?_toArray, List.getElem?_cons_zero, List.getElem?_cons_succ]; rfl
              case hcx23 => simp only [List.getElem?_toArray, List.getElem?_cons_zero, List.getElem?_cons_succ]; rfl
              case scx22 =>
                have v1 := conv_bts hHeld.2
                rw [← HT.out] at v1
                go_simp
                refine hK.out _ _ (hHeld) (fun hHeld => ?_)
                clear hK K
                try simp only [Act.put, List.setIfInBounds_toArray, List.set_cons_zero, List.set_cons_succ]
                refine wpAnyH_ready (rs := [7]) (by kernel_rfl) (by simp) ?_
                refine AllReadyH.cons (o := ?ocx24) ?hcx24 (fun K hK => ?scx24) AllReadyH.nil
                case hcx24 => simp only [List.getElem?_toArray, List.getElem?_cons_zero, List.getElem?_cons_succ]; rfl
                have v7 := conv_bts ho5.bts
                rw [HL5.out, ← HT.out] at v7
                go_simp
                refine hK.out _ _ (hHeld) (fun hHeld => ?_)
                clear hK K
                try simp only [Act.put, List.setIfInBounds_toArray, List.set_cons_zero, List.set_cons_succ]
                refine wpAnyH_take (i := 8) (v := ?vcx25) (oi := ?ocx25) ?hcx25 (by kernel_rfl) (by kernel_rfl) (by kernel_rfl) (fun _ _ _ h => h) (Or.inl ⟨?wcx25, ?ycx25⟩) hHeld ?rcx25
                case hcx25 => simp only [List.getElem?_toArray, List.getElem?_cons_zero, List.getElem?_cons_succ]; rfl
                case wcx25 => rfl
                case ycx25 => intro w hSw; (try dsimp only at hSw); go_simp; (try with_reducible rfl)
                simp only [Act.put, List.setIfInBounds_toArray, List.set_cons_zero, List.set_cons_succ]
                refine wpAnyH_take (i := 9) (v := ?vcx26) (oi := ?ocx26) ?hcx26 (by kernel_rfl) (by kernel_rfl) (by kernel_rfl) (fun _ _ _ h => h) (Or.inl ⟨?wcx26, ?ycx26⟩) hHeld ?rcx26
                case hcx26 => simp only [List.getElem?_toArray, List.getElem?_cons_zero, List.getElem?_cons_succ]; rfl
                case wcx26 => rfl
                case ycx26 => intro w hSw; (try dsimp only at hSw); go_simp; (try with_reducible rfl)
                simp only [Act.put, List.setIfInBounds_toArray, List.set_cons_zero, List.set_cons_succ]
                refine wpAnyH_ready (rs := [10]) (by kernel_rfl) (by simp) ?_
                refine AllReadyH.cons (o := ?ocx27) ?hcx27 (fun K hK => ?scx27) AllReadyH.nil
                case hcx27 => simp only [List.getElem?_toArray, List.getElem?_cons_zero, List.getElem?_cons_succ]; rfl
                go_simp
                refine hK.out _ _ (hHeld) (fun hHeld => ?_)
                clear hK K
                try simp only [Act.put, List.setIfInBounds_toArray, List.set_cons_zero, List.set_cons_succ]
                refine wpAnyH_ready (rs := [11]) (by kernel_rfl) (by simp) ?_
                refine AllReadyH.cons (o := ?ocx28) ?hcx28 (fun K hK => ?scx28) AllReadyH.nil
                case hcx28 => simp only [List.getElem?_toArray, List.getElem?_cons_zero, List.getElem?_cons_succ]; rfl
                go_simp
                refine hK.out _ _ (hHeld) (fun hHeld => ?_)
                clear hK K
                try simp only [Act.put, List.setIfInBounds_toArray, List.set_cons_zero, List.set_cons_succ]
                refine wpAnyH_take (i := 12) (v := ?vcx29) (oi := ?ocx29) ?hcx29 (by kernel_rfl) (by kernel_rfl) (by kernel_rfl) (fun _ _ _ h => h) (Or.inl ⟨?wcx29, ?ycx29⟩) hHeld ?rcx29
                case hcx29 => simp only [List.getElem?_toArray, List.getElem?_cons_zero, List.getElem?_cons_succ]; rfl
                case wcx29 => rfl
                case ycx29 => intro w hSw; (try dsimp only at hSw); go_simp; (try with_reducible rfl)
                simp only [Act.put, List.setIfInBounds_toArray, List.set_cons_zero, List.set_cons_succ]
                refine wpAnyH_take (i := 13) (v := ?vcx30) (oi := ?ocx30) ?hcx30 (by kernel_rfl) (by kernel_rfl) (by kernel_rfl) (fun _ _ _ h => h) (Or.inl ⟨?wcx30, ?ycx30⟩) hHeld ?rcx30
                case hcx30 => simp only [List.getElem?_toArray, List.getElem?_cons_zero, List.getElem?_cons_succ]; rfl
                case wcx30 => rfl
                case ycx30 => intro w hSw; (try dsimp only at hSw); go_simp; (try with_reducible rfl)
                simp only [Act.put, List.setIfInBounds_toArray, List.set_cons_zero, List.set_cons_succ]
                refine wpAnyH_ready (rs := [14]) (by kernel_rfl) (by simp) ?_
                refine AllReadyH.cons (o := ?ocx31) ?hcx31 (fun K hK => ?scx31) AllReadyH.nil
                case hcx31 => simp only [List.getElem?_toArray, List.getElem?_cons_zero, List.getElem?_cons_succ]; rfl
                go_simp
                refine (awake6_any _).mono ?_
                rintro e w9 ⟨rfl, k9⟩
                have hx9 := hSno hHeld k9
                go_wp2_with fail
                refine hK.out _ _ (hx9) (fun hHeld => ?_)
                clear hK K
                try simp only [Act.put, List.setIfInBounds_toArray, List.set_cons_zero, List.set_cons_succ]
                refine wpAnyH_take (i := 15) (v := ?vcx32) (oi := ?ocx32) ?hcx32 (by kernel_rfl) (by kernel_rfl) (by kernel_rfl) (fun _ _ _ h => h) (Or.inl ⟨?wcx32, ?ycx32⟩) hHeld ?rcx32
                case hcx32 => simp only [List.getElem?_toArray, List.getElem?_cons_zero, List.getElem?_cons_succ]; rfl
                case wcx32 => rfl
                case ycx32 => intro w hSw; (try dsimp only at hSw); go_simp; (try with_reducible rfl)
                simp only [Act.put, List.setIfInBounds_toArray, List.set_cons_zero, List.set_cons_succ]
                refine wpAnyH_ready (rs := [16]) (by kernel_rfl) (by simp) ?_
                refine AllReadyH.cons (o := ?ocx33) ?hcx33 (fun K hK => ?scx33) AllReadyH.nil
                case hcx33 => simp only [List.getElem?_toArray, List.getElem?_cons_zero, List.getElem?_cons_succ]; rfl
                go_simp
                refine hK.out _ _ (hHeld) (fun hHeld => ?_)
                clear hK K
                try simp only [Act.put, List.setIfInBounds_toArray, List.set_cons_zero, List.set_cons_succ]
                refine wpAnyH_done (by kernel_rfl) ?_ _
                refine NoPanic.normal ?_
                go_wp2_with fail
                go_ret
                exact ⟨rfl, (hk4.trans' hHeld.1).below0⟩
              case scx23 =>
                have v7 := conv_bts ho5.bts
                rw [HL5.out, ← HT.out] at v7
                go_simp
                refine hK.out _ _ (hHeld) (fun hHeld => ?_)
                clear hK K
                try simp only [Act.put, List.setIfInBounds_toArray, List.set_cons_zero, List.set_cons_succ]
                refine wpAnyH_ready (rs := [1]) (by kernel_rfl) (by simp) ?_
                refine AllReadyH.cons (o := ?ocx35) ?hcx35 (fun K hK => ?scx35) AllReadyH.nil
                case hcx35 => simp only [List.getElem?_toArray, List.getElem?_cons_zero, List.getElem?_cons_succ]; rfl
                have v1 := conv_bts hHeld.2
                rw [← HT.out] at v1
                go_simp
                refine hK.out _ _ (hHeld) (fun hHeld => ?_)
                clear hK K
                try simp only [Act.put, List.setIfInBounds_toArray, List.set_cons_zero, List.set_cons_succ]
                refine wpAnyH_take (i := 8) (v := ?vcx36) (oi := ?ocx36) ?hcx36 (by kernel_rfl) (by kernel_rfl) (by kernel_rfl) (fun _ _ _ h => h) (Or.inl ⟨?wcx36, ?ycx36⟩) hHeld ?rcx36
                case hcx36 => simp only [List.getElem?_toArray, List.getElem?_cons_zero, List.getElem?_cons_succ]; rfl
                case wcx36 => rfl
                case ycx36 => intro w hSw; (try dsimp only at hSw); go_simp; (try with_reducible rfl)
                simp only [Act.put, List.setIfInBounds_toArray, List.set_cons_zero, List.set_cons_succ]
                refine wpAnyH_take (i := 9) (v := ?vcx37) (oi := ?ocx37) ?hcx37 (by kernel_rfl) (by kernel_rfl) (by kernel_rfl) (fun _ _ _ h => h) (Or.inl ⟨?wcx37, ?ycx37⟩) hHeld ?rcx37
                case hcx37 => simp only [List.getElem?_toArray, List.getElem?_cons_zero, List.getElem?_cons_succ]; rfl
                case wcx37 => rfl
                case ycx37 => intro w hSw; (try dsimp only at hSw); go_simp; (try with_reducible rfl)
                simp only [Act.put, List.setIfInBounds_toArray, List.set_cons_zero, List.set_cons_succ]
                refine wpAnyH_ready (rs := [10]) (by kernel_rfl) (by simp) ?_
                refine AllReadyH.cons (o := ?ocx38) ?hcx38 (fun K hK => ?scx38) AllReadyH.nil
                case hcx38 => simp only [List.getElem?_toArray, List.getElem?_cons_zero, List.getElem?_cons_succ]; rfl
                go_simp
                refine hK.out _ _ (hHeld) (fun hHeld => ?_)
                clear hK K
                try simp only [Act.put, List.setIfInBounds_toArray, List.set_cons_zero, List.set_cons_succ]
                refine wpAnyH_ready (rs := [11]) (by kernel_rfl) (by simp) ?_
                refine AllReadyH.cons (o := ?ocx39) ?hcx39 (fun K hK => ?scx39) AllReadyH.nil
                case hcx39 => simp only [List.getElem?_toArray, List.getElem?_cons_zero, List.getElem?_cons_succ]; rfl
                go_simp
                refine hK.out _ _ (hHeld) (fun hHeld => ?_)
                clear hK K
                try simp only [Act.put, List.setIfInBounds_toArray, List.set_cons_zero, List.set_cons_succ]
                refine wpAnyH_take (i := 12) (v := ?vcx40) (oi := ?ocx40) ?hcx40 (by kernel_rfl) (by kernel_rfl) (by kernel_rfl) (fun _ _ _ h => h) (Or.inl ⟨?wcx40, ?ycx40⟩) hHeld ?rcx40
                case hcx40 => simp only [List.getElem?_toArray, List.getElem?_cons_zero, List.getElem?_cons_succ]; rfl
                case wcx40 => rfl
                case ycx40 => intro w hSw; (try dsimp only at hSw); go_simp; (try with_reducible rfl)
                simp only [Act.put, List.setIfInBounds_toArray, List.set_cons_zero, List.set_cons_succ]
                refine wpAnyH_take (i := 13) (v := ?vcx41) (oi := ?ocx41) ?hcx41 (by kernel_rfl) (by kernel_rfl) (by kernel_rfl) (fun _ _ _ h => h) (Or.inl ⟨?wcx41, ?ycx41⟩) hHeld ?rcx41
                case hcx41 => simp only [List.getElem?_toArray, List.getElem?_cons_zero, List.getElem?_cons_succ]; rfl
                case wcx41 => rfl
                case ycx41 => intro w hSw; (try dsimp only at hSw); go_simp; (try with_reducible rfl)
                simp only [Act.put, List.setIfInBounds_toArray, List.set_cons_zero, List.set_cons_succ]
                refine wpAnyH_ready (rs := [14]) (by kernel_rfl) (by simp) ?_
                refine AllReadyH.cons (o := ?ocx42) ?hcx42 (fun K hK => ?scx42) AllReadyH.nil
                case hcx42 => simp only [List.getElem?_toArray, List.getElem?_cons_zero, List.getElem?_cons_succ]; rfl
                go_simp
                refine (awake6_any _).mono ?_
                rintro e w9 ⟨rfl, k9⟩
                have hx9 := hSno hHeld k9
                go_wp2_with fail
                refine hK.out _ _ (hx9) (fun hHeld => ?_)
                clear hK K
                try simp only [Act.put, List.setIfInBounds_toArray, List.set_cons_zero, List.set_cons_succ]
                refine wpAnyH_take (i := 15) (v := ?vcx43) (oi := ?ocx43) ?hcx43 (by kernel_rfl) (by kernel_rfl) (by kernel_rfl) (fun _ _ _ h => h) (Or.inl ⟨?wcx43, ?ycx43⟩) hHeld ?rcx43
                case hcx43 => simp only [List.getElem?_toArray, List.getElem?_cons_zero, List.getElem?_cons_succ]; rfl
                case wcx43 => rfl
                case ycx43 => intro w hSw; (try dsimp only at hSw); go_simp; (try with_reducible rfl)
                simp only [Act.put, List.setIfInBounds_toArray, List.set_cons_zero, List.set_cons_succ]
                refine wpAnyH_ready (rs := [16]) (by kernel_rfl) (by simp) ?_
                refine AllReadyH.cons (o := ?ocx44) ?hcx44 (fun K hK => ?scx44) AllReadyH.nil
                case hcx44 => simp only [List.getElem?_toArray, List.getElem?_cons_zero, List.getElem?_cons_succ]; rfl
                go_simp
                refine hK.out _ _ (hHeld) (fun hHeld => ?_)
                clear hK K
                try simp only [Act.put, List.setIfInBounds_toArray, List.set_cons_zero, List.set_cons_succ]
                refine wpAnyH_done (by kernel_rfl) ?_ _
                refine NoPanic.normal ?_
                go_wp2_with fail
                go_ret
                exact ⟨rfl, (hk4.trans' hHeld.1).below0⟩
          · have HDE := hide (fun w' g (hk : Kp No w w') (hC : CodeAt w' g n k x) => dec_err (cp := cp) hC HD.out (HP.out.no hk) (by omega) 1 (fun y hy => by
              rcases hy with ⟨⟨j, hj, hn⟩, _⟩ | ⟨_, ⟨hk, _⟩ | ⟨_, ⟨_, hy⟩ | ⟨hm0, _⟩⟩⟩
              · exact absurd (hgood.out j hj) hn
              · omega
              · exact hy
              · rw [← hl0.out, ← HRR.out] at hm0
                exact absurd hm0 hz) (by omega))
            have hz' : ((rr : Int) != 0) = true := by simp; omega
            clear hz
            go_wp2_with fail
            refine (HN.out _).mono ?_
            rintro e w3 ⟨g, rfl, hC, hk3⟩
            have hk3' := hI.kp.trans' hk3
            go_wp2_with fail
            refine (HDE.out _ _ hk3' hC).mono ?_
            rintro e w4 ⟨rfl, hk4⟩
            have y00 := (hk3'.trans' hk4).cell z00 fun f => f
            have hka := HKA.out
            have hr1 := HR1.out
            go_wp2_with fail
            refine (awake6_any _).mono ?_
            rintro e w9 ⟨rfl, k9⟩
            go_wp2_with fail
            go_ret
            exact ⟨rfl, ((hk3'.trans' hk4).trans' k9).below0⟩
end
theorem msrdecodes_walk {w : World} {A : Option Addr} {m cp : Nat} {sl : Nat → Int} {ds : Nat → List UInt8} (n k : Int) (hP : Prts w A m sl ds) (hcp : m ≤ cp) : Calls Try.prog 5 #[.int .i64 n, .int .i64 k, .slice A m cp] w fun e w' => e = .returned (.bool true) ∧ Below w.heap.size w w' := by
  show Calls _ _ _ _ (R6 w)
  by_cases h : Rgt n k ∧ n ≤ 12 ∧ k ≤ 4
  · obtain ⟨hR, h1, h2⟩ := h
    by_cases hm : m ≤ 30
    · obtain ⟨r1, r2, r3, r4⟩ := hR
      obtain ⟨n', rfl⟩ : ∃ n' : Nat, n = n' := ⟨n.toNat, by omega⟩
      obtain ⟨k', rfl⟩ : ∃ k' : Nat, k = k' := ⟨k.toNat, by omega⟩
      obtain ⟨a, d, q, hD⟩ := dim_of (n := n') (k := k') (by omega) (by omega) (by omega) (by omega)
      obtain ⟨x, hX⟩ := pts_ex (n := n') hD.a1 hD.a7 hD.n2
      exact decw_all hP hcp hD hX (by omega) (by omega) hm
    · exact decw_long n k hR h1 h2 (by omega)
  · exact decw_notsmall n k h
end Go.Proofs.Ytbkelijmdpoanaa
