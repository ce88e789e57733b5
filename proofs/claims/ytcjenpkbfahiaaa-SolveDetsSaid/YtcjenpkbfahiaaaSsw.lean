/- SolveSteps: every matrix brought to steps, and its rank. -/
import Derived.Test.YtcjenpkbfahiaaaRk
namespace Go.Proofs.Ytcjenpkbfahiaaa
open Go.RowKit
set_option linter.unusedVariables false

theorem rsame4 {w : World} {A A' : Option Addr} {n n' cp cp' : Nat} {a b : List (List UInt8)} (h : Rws w A n a) (h' : Rws w A' n' b) (hn : n ≤ 1000000) (hn' : n' ≤ 1000000) (e : a = b) :
    Calls Try.prog 10 #[.slice A n cp, .slice A' n' cp'] w fun e w' => e = .returned (.bool true) ∧ Sm w w' := by
  have := rsame_any (cp := cp) (cp' := cp') h h' hn hn'
  rw [show eqR a b = true by unfold eqR; exact decide_eq_true e] at this
  exact this

set_option maxHeartbeats 8000000 in
set_option maxRecDepth 100000 in
theorem solvesteps_walk {w : World} {A : Option Addr} {n cp : Nat} {bss : List (List UInt8)} (h : Rws w A n bss) : Calls Try.prog 3 #[.slice A n cp] w fun e w' => e = .returned (.bool true) ∧ Below w.heap.size w w' := by
  by_cases hS : Sml bss n (len0 bss)
  · obtain ⟨c, hc⟩ : ∃ c, c = len0 bss := ⟨_, rfl⟩
    rw [← hc] at hS
    clear hc
    have hq := small4_yes (cp := cp) h hS
    have hR := hS.rect
    have hn := hS.r9
    have T1 := hide fun w' (hk : Kp No w w') => of_yes (cp := cp) (h.no hk) hR
    have T2 := hide fun w' (hk : Kp No w w') => rsteps_any (cp := cp) (h.no hk) hR
    have T3 := hide fun w' (hk : Kp No w w') => rrank_any (cp := cp) (h.no hk) hR
    have HM := hide (matL_fnL hR)
    clear hS hR
    go_enter Try.func3, Try.ntmps3
    go_wp2_with fail
    refine hq.mono ?_
    rintro e w1 ⟨rfl, s1⟩
    have k1 : Kp No w w1 := s1.kp
    go_wp2_with fail
    refine (T1.out _ k1).mono ?_
    rintro e w2 ⟨m, rfl, M2, _, _, j2⟩
    have k2 := k1.trans' j2
    go_wp2_with fail
    refine (steps_any M2).mono ?_
    rintro e w3 ⟨s, rfl, S3, _, _, j3⟩
    have k3 := k2.trans' j3
    have M3 := M2.no j3
    go_wp2_with fail
    refine (steps_nil _).mono ?_
    rintro e w4 ⟨rfl, j4⟩
    have k4 := k3.trans' j4
    have M4 := M3.no j4
    have S4 := S3.no j4
    go_wp2_with fail
    refine (rows4_any S4).mono ?_
    rintro e w5 ⟨A5, cp5, rfl, R5, j5⟩
    have k5 := k4.trans' j5
    have M5 := M4.no j5
    go_wp2_with fail
    refine (T2.out _ k5).mono ?_
    rintro e w6 ⟨g6, hv6, cp6, rfl, G6, j6⟩
    have k6 := k5.trans' j6
    have M6 := M5.no j6
    go_wp2_with fail
    refine (rsame4 (R5.no j6) G6.rws (by omega) (by omega) rfl).mono ?_
    rintro e w7 ⟨rfl, s7⟩
    have k7 := k6.trans' s7.kp
    have M7 := M6.sm s7
    go_wp2_with fail
    refine (rows4_any M7).mono ?_
    rintro e w8 ⟨A8, cp8, rfl, R8, j8⟩
    have k8 := k7.trans' j8
    have M8 := M7.no j8
    go_wp2_with fail
    refine (rsame4 R8 (h.no k8) (by omega) (by omega) HM.out).mono ?_
    rintro e w9 ⟨rfl, s9⟩
    have k9 := k8.trans' s9.kp
    have M9 := M8.sm s9
    go_wp2_with fail
    refine (rank_any M9).mono ?_
    rintro e w10 ⟨rfl, j10⟩
    have k10 := k9.trans' j10
    go_wp2_with fail
    refine (T3.out _ k10).mono ?_
    rintro e w11 ⟨rfl, j11⟩
    have k11 := k10.trans' j11
    go_wp2_with fail
    refine (rank_nil _).mono ?_
    rintro e w12 ⟨rfl, j12⟩
    have k12 := k11.trans' j12
    go_wp2_with fail
    refine (awake4_any _).mono ?_
    rintro e w13 ⟨rfl, j13⟩
    go_wp2_with fail
    go_ret
    exact ⟨rfl, (k12.trans' j13).below0⟩
  · have hq := small4_no (cp := cp) h hS
    clear hS
    go_enter Try.func3, Try.ntmps3
    go_wp2_with fail
    refine hq.mono ?_
    rintro e w1 ⟨rfl, s1⟩
    go_wp2_with fail
    refine (awake4_any _).mono ?_
    rintro e w2 ⟨rfl, j2⟩
    go_wp2_with fail
    go_ret
    exact ⟨rfl, (s1.kp.trans' j2).below0⟩
end Go.Proofs.Ytcjenpkbfahiaaa
