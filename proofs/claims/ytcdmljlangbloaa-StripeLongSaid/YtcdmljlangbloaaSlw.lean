/- StripeLong: an object that is too long can't be cut. -/
import Derived.Test.YtcdmljlangbloaaStg
import Derived.Test.YtcdmljlangbloaaStc
namespace Go.Proofs.Ytcdmljlangbloaa
open Go.RowKit
set_option linter.unusedVariables false
set_option linter.unusedSimpArgs false
set_option maxRecDepth 100000

set_option maxHeartbeats 4000000 in
theorem long_walk {w : World} (u v N : Nat) (hu : u ≤ 255) (hv : v ≤ 255) (hN : N = 16385 + u) : Calls Try.prog 6 #[.int .u8 (u : Int), .int .u8 (v : Int)] w (R8 w) := by
  obtain ⟨x, hX⟩ := pts_ex (n := 15) (a := 7) (by omega) (by omega) (by omega)
  have hD : Dim 15 8 7 14 56 := ⟨rfl, rfl, rfl, by omega, by omega, by omega, by omega⟩
  have hO1 : OfR 56 (N : Int) (1 + (v : Int)) 0 0 0 29 := .long (by omega) (by omega) (by omega) (by omega)
  have hO2 : OfR 56 7169 4 0 0 0 29 := .many 7169 4 rfl rfl (by omega) (by omega) (by omega) (by decide)
  have hO3 : OfR 56 7168 4 7168 32 4 0 := .full 7168 4 rfl rfl (by omega) (by omega) (by omega) (by decide) (by omega)
  have HN := hide (mnew_yes w hD hX)
  have HS := hide (fun w' g (hC : CodeAt w' g 15 8 x) A => spread_err (A := A) (cp := N) hC hD hO1 (.inr rfl) (by omega))
  have H2 := hide (fun w' g (hC : CodeAt w' g 15 8 x) => of_any hC hD hO2)
  have H3 := hide (fun w' g (hC : CodeAt w' g 15 8 x) => of_any hC hD hO3)
  have hmk := fun w => make_bytes w N (N : Int) rfl (by omega)
  have hn : (16385 : Int) + (u : Int) = (N : Int) := by omega
  have hN2 : N ≤ 20000 := by omega
  clear hD hX hO1 hO2 hO3 hN
  go_enter Try.func6, Try.ntmps6
  go_wp2_with fail
  refine HN.out.mono ?_
  rintro e w1 ⟨g, rfl, hC, hk1⟩
  go_wp2_with fail
  refine (HS.out _ g (hC.no (Kp.alloc No _ _)) _).mono ?_
  rintro e w2 ⟨rfl, hk2⟩
  have k2 := (Kp.alloc No w1 _).trans' hk2
  go_wp2_with fail
  refine (H2.out _ g (hC.no (k2.al _))).mono ?_
  rintro e w3 ⟨rfl, hk3⟩
  have k3 := (k2.al _).trans' hk3
  go_wp2_with fail
  refine (H3.out _ g (hC.no (k3.al _))).mono ?_
  rintro e w4 ⟨rfl, hk4⟩
  have k4 := (k3.al _).trans' hk4
  go_wp2_with fail
  refine (awake8_any _).mono ?_
  rintro e w9 ⟨rfl, k9⟩
  go_wp2_with fail
  go_ret
  exact ⟨rfl, (hk1.trans' ((k4.al _).trans' k9)).below0⟩
theorem stripelong_walk (a b : Int) (ha : (Lit.int .u8 a).wf = true) (hb : (Lit.int .u8 b).wf = true) (w : World) : Calls Try.prog 6 #[.int .u8 a, .int .u8 b] w fun e w' => e = .returned (.bool true) ∧ Below w.heap.size w w' := by
  obtain ⟨u, rfl, hu⟩ := of_wf_u8 ha
  obtain ⟨v, rfl, hv⟩ := of_wf_u8 hb
  exact long_walk u v _ (by omega) (by omega) rfl
end Go.Proofs.Ytcdmljlangbloaa
