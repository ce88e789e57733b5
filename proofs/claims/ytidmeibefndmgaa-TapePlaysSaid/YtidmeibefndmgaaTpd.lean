/- Layer 13's awake. No condition. -/
import Derived.Test.YtidmeibefndmgaaTpb
namespace Go.Proofs.Ytidmeibefndmgaa
open Go.RowKit
set_option linter.unusedVariables false
set_option maxRecDepth 20000
set_option linter.unusedSimpArgs false

theorem TpAt.frm {w w1 : World} {b g : Nat} {T : Tp} (h : TpAt w1 (Up (Frm b) w) g T) (hb : b ≤ w.heap.size) : TpAt w1 (Frm b) g T := h.mono fun k hk => by
  rcases hk with hk | hk
  · exact hk
  · exact Nat.le_trans hb hk
theorem awk_put : (Tp.new 5).putE [1, 2, 3] = 0 := by decide
theorem awk_gone : ((Tp.new 5).put [1, 2, 3]).gone 2 = 1 := by decide
theorem awk_len : ((Tp.new 5).put [1, 2, 3]).len = 3 := by decide
theorem awake13_any (w : World) : Calls Try.prog 5 #[] w (TruePost w) := by
  have HE := hide awk_put
  have HG := hide awk_gone
  go_enter Try.func5, Try.ntmps5
  go_wp2_with fail
  refine (tnew_any w 5 (by omega)).mono ?_
  rintro e w1 ⟨g, rfl, hg, hT1, k1⟩
  have HB := hide (show Bts (w1.alloc (.cells #[.int .u8 1, .int .u8 2, .int .u8 3] 5)) (.slice (some ⟨w1.heap.size, 0, none⟩) 3 3) [1, 2, 3] from bts_row w1 [1, 2, 3] 3 (0, 0) rfl)
  have HT1 := hide hT1
  clear hT1
  go_wp2_with fail
  refine (tput_any (HT1.out.no (Kp.alloc No w1 _)) HB.out (by decide)).mono ?_
  rintro e w2 ⟨rfl, hT2, k2⟩
  rw [HE.out]
  have K2 : Kp No w w2 := (k1.al _).fr k2 fun q hq => hq
  have hT2' := TpAt.frm (b := w.heap.size) hT2 (by have := k1.size; simp; omega)
  have HT2 := hide hT2'
  clear hT2 hT2' k2
  go_wp2_with fail
  refine (tcrash_any HT2.out (by rw [awk_len]; omega) 2 0).mono ?_
  rintro e w3 ⟨rfl, hT3, k3⟩
  rw [HG.out]
  have K3 : Kp No w w3 := K2.fr k3 fun q hq => hq
  clear hT3 k3
  go_wp2_with fail
  go_ret
  exact ⟨rfl, K3⟩
end Go.Proofs.Ytidmeibefndmgaa
