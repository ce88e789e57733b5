/- Package slices' insertion sort by a closure, as a contract over memory. -/
import Derived.Test.YthbnomemknnmeaaSso
namespace Go.Proofs.Ythbnomemknnmeaa
open Go.RowKit
set_option linter.unusedVariables false
set_option linter.unusedSimpArgs false
set_option maxRecDepth 100000

/-- From a up to e the row is sorted, and the rest is as it was. -/
def SoPost (w : World) (b n : Nat) (k : Nat → Int) (d : Nat → Nat) (a e : Nat) (en : Ending) (w1 : World) : Prop :=
  en = .returned (.tuple #[]) ∧ ∃ d', IRow w1 b n d' ∧ soE d d' a e ∧ soS k d' a e ∧ Kp (On b) w w1
/-- So many numbers are in order. -/
structure InI (w : World) (b n : Nat) (k : Nat → Int) (d : Nat → Nat) (a i : Nat) (d' : Nat → Nat) (wr : World) : Prop where
  row : IRow wr b n d'
  same : soE d d' a i
  srt : soS k d' a i
  kp : Kp (On b) w wr
/-- One number has come down to j. -/
structure InJ (w : World) (b n : Nat) (k : Nat → Int) (d : Nat → Nat) (a i : Nat) (d' : Nat → Nat) (j : Nat) (wr : World) : Prop where
  row : IRow wr b n (soRot d' j i (i + 1))
  same : soE d d' a i
  srt : soS k d' a i
  up : j = i ∨ soL k (d' i) (d' j)
  kp : Kp (On b) w wr
theorem InI.begin {w : World} {b n a i : Nat} {k : Nat → Int} {d d' : Nat → Nat} {wr : World} (h : InI w b n k d a i d' wr) : InJ w b n k d a i d' i wr :=
  ⟨h.row.eq fun j _ => by
    rcases Nat.lt_trichotomy j i with p | p | p
    · rw [rot_lo p]
    · rw [p, rot_1 (Nat.le_refl _) (by omega)]; congr 1; omega
    · rw [rot_hi (Nat.le_refl _) (Nat.le_succ _) p], h.same, h.srt, .inl rfl, h.kp⟩
theorem InJ.done {w : World} {b n a i j : Nat} {k : Nat → Int} {d d' : Nat → Nat} {wr w1 : World} (h : InJ w b n k d a i d' j wr) (ha : a ≤ j) (hj : j ≤ i) (hl : j = a ∨ soL k (d' (j - 1)) (d' i)) (hs : Sm wr w1) :
    ∃ d1, InI w b n k d a (i + 1) d1 w1 :=
  ⟨_, h.row.sm hs, (h.same.wide (Nat.le_refl _) (Nat.le_succ _)).trans ((rot_same hj (Nat.le_succ _)).wide ha (Nat.le_refl _)), ins_right h.srt ha hj hl h.up, h.kp.trans' hs.kp⟩
set_option maxHeartbeats 4000000 in
theorem insort_any {w : World} {b n cp bf bl : Nat} {d : Nat → Nat} {k : Nat → Int} (h : IRow w b n d) (hd : ∀ i, i < n → d i < n) (hC : CmpAt bf bl k n b w) (a e : Nat) (hae : a < e) (hen : e ≤ n) (hn : n ≤ 1000) (hinc : ∀ i j, a ≤ i → i < j → j < e → d i < d j) :
    Calls Try.prog 28 #[.slice (some ⟨b, 0, none⟩) n cp, .int .i64 (a : Int), .int .i64 (e : Int), nearV bf bl] w (SoPost w b n k d a e) := by
  have h0 : InI w b n k d a (a + 1) d w := ⟨h, soE.refl _ _ _, fun i j h1 h2 h3 => by omega, Kp.refl _ _⟩
  have HC := hide hC
  have HD := hide hd
  have HI := hide hinc
  clear h hd hC hinc
  go_enter Try.func28, Try.ntmps28
  go_wp2_with fail
  go_loopw [8] (fun iv wr => ∃ (i : Nat) (d' : Nat → Nat), a + 1 ≤ i ∧ i ≤ e ∧ iv = .int .i64 (i : Int) ∧ InI w b n k d a i d' wr) (fun iv _ => e - (intOf iv).toNat)
  case atStart => exact ⟨a + 1, d, by omega, by omega, by go_num, h0⟩
  case round =>
    clear h0
    obtain ⟨i, d', hai, hie, rfl, hR⟩ := hrel
    by_cases hlt : i < e
    · rename World => wo
      have hJ := hR.begin
      have HL : Hid (∀ x, a ≤ x → x < i → d' x < d' i) := hide fun x h1 h2 => by
        obtain ⟨y, y1, y2, y3⟩ := hR.same.from_ h1 h2
        rw [← y3, hR.same.out i (.inr (Nat.le_refl _))]
        exact HI.out y i y1 y2 hlt
      have HV := hide (hR.same.lt HD.out (by omega))
      clear hR
      go_wp2_with fail
      go_loopw [9] (fun jv wr => ∃ j : Nat, a ≤ j ∧ j ≤ i ∧ jv = .int .i64 (j : Int) ∧ InJ w b n k d a i d' j wr) (fun jv _ => (intOf jv).toNat)
      case atStart => exact ⟨i, by omega, Nat.le_refl _, rfl, hJ⟩
      case round =>
        clear hJ
        obtain ⟨j, haj, hji, rfl, hS⟩ := hrel
        by_cases hja : a < j
        · obtain ⟨jp, hjp⟩ : ∃ jp, jp + 1 = j := ⟨j - 1, by omega⟩
          have zjp : (j : Int) - 1 = (jp : Int) := by omega
          have zw : IntKind.i64.wrap ((j : Int) - 1) = (jp : Int) := by rw [IntKind.wrap_i64]; omega
          obtain ⟨u, hu⟩ : ∃ u, d' i = u := ⟨_, rfl⟩
          obtain ⟨v, hv⟩ : ∃ v, d' jp = v := ⟨_, rfl⟩
          have ru : soRot d' j i (i + 1) j = u := by rw [rot_1 (Nat.le_refl _) (by omega), ← hu]; congr 1; omega
          have rv : soRot d' j i (i + 1) jp = v := by rw [rot_lo (by omega), ← hv]
          have x1 := hS.row.cellv (show j < n by omega) ru
          have x2 := hS.row.cellv (show jp < n by omega) rv
          have hvu : v < u := by rw [← hu, ← hv]; exact HL.out jp (by omega) (by omega)
          have hun : u < n := by rw [← hu]; exact HV.out i (by omega)
          have hq := hide (HC.out.q hS.kp hun (show v < n by omega))
          have hjz : (a : Int) < (j : Int) := by omega
          have HU := hide hu
          have HVV := hide hv
          clear hu hv
          by_cases hlt2 : k u < k v
          · have hdec : decide (cmpZ (k u) (k v) < 0) = true := by rw [cmpZ_lt]; exact decide_eq_true hlt2
            have hup : soL k (d' i) (d' jp) := by rw [HU.out, HVV.out]; exact (soL.of_lt hvu).2 hlt2
            have HUP := hide hup
            generalize cmpZ (k u) (k v) = c at hdec hq
            clear hup hlt2
            have HS := hide hS
            have HR := hide (And.intro ru rv)
            have hjpn : jp < n := by omega
            have hjn : j < n := by omega
            clear hS ru rv
            go_wp2_with fail
            go_quiet ((go_at_call 24; with_reducible exact hq.out _))
            generalize hgq : wr.drewN nq = w1
            have hs1 : Sm wr w1 := ⟨nq, hgq.symm⟩
            clear hgq x1 x2 hq
            have hI1 := HS.out.row.sm hs1
            have x1 := hI1.cellv hjn HR.out.1
            have x2 := hI1.cellv hjpn HR.out.2
            have xf := hI1.frozen j
            have xf2 := hI1.frozen jp
            obtain ⟨vv, x3⟩ := hI1.cell2 hjn hjpn v
            have HW := hide (hI1.swap hjn hjpn HR.out.1 HR.out.2)
            have HK := hide (HS.out.kp.trans' hs1.kp)
            clear hI1
            go_wp2_with fail
            go_region
            clear x1 x2 x3 xf xf2
            have hI3 := HW.out.1
            have hk3 := HK.out.trans' HW.out.2
            clear HW HK
            generalize ((w1.setCell ⟨b, j, none⟩ (.int .i64 (v : Int))).setCell ⟨b, jp, none⟩ (.int .i64 (u : Int))) = w2 at *
            go_wp2_with fail
            go_round
            case rel =>
              refine ⟨jp, by omega, by omega, by go_num, ⟨?_, HS.out.same, HS.out.srt, .inr HUP.out, hk3.drew⟩⟩
              have e := sw_rot_down (d := d') (j := j) (i := i) (by omega) hji
              rw [show j - 1 = jp by omega] at e
              rw [← e]
              exact hI3
            case measure => simp [intOf]; omega
          · have hdec : decide (cmpZ (k u) (k v) < 0) = false := by rw [cmpZ_lt]; exact decide_eq_false hlt2
            have hup : soL k (d' (j - 1)) (d' i) := by rw [show j - 1 = jp by omega, HU.out, HVV.out]; exact (soL.of_not hvu).2 hlt2
            have HUP := hide hup
            generalize cmpZ (k u) (k v) = c at hdec hq
            clear hup hlt2
            have HS := hide hS
            have hjpn : jp < n := by omega
            have hjn : j < n := by omega
            clear hS ru rv
            go_wp2_with fail
            go_quiet ((go_at_call 24; with_reducible exact hq.out _))
            go_wp2_with fail
            go_round
            case rel =>
              obtain ⟨d1, h1⟩ := HS.out.done haj hji (.inr HUP.out) (Sm.drewN wr nq)
              exact ⟨i + 1, d1, by omega, by omega, by go_num, h1⟩
            case measure => simp [intOf]; omega
        · obtain rfl : j = a := by omega
          have HS := hide hS
          clear hS
          go_wp2_with fail
          go_quiet (fail)
          go_wp2_with fail
          go_round
          case rel =>
            obtain ⟨d1, h1⟩ := HS.out.done (Nat.le_refl _) hji (.inl rfl) (Sm.drewN wr nq)
            exact ⟨i + 1, d1, by omega, by omega, by go_num, h1⟩
          case measure => simp [intOf]; omega
    · obtain rfl : i = e := by omega
      go_wp2_with fail
      go_end0
      exact ⟨rfl, d', hR.row, hR.same, hR.srt, hR.kp⟩
end Go.Proofs.Ythbnomemknnmeaa
