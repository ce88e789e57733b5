/- SealLong walked: it returns true for any number; no condition. -/
import Derived.Test.YthhdhihledmfoaaSec
import Derived.OpenShut
namespace Go.Proofs.Ythhdhihledmfoaa
open Go.ChangeShapes Go.WideShapes Go.RowKit
set_option linter.unusedVariables false
set_option linter.unusedSimpArgs false

/-- So many noughts. -/
def nuls (n : Nat) : List UInt8 := List.replicate n 0
theorem nuls_len (n : Nat) : (nuls n).length = n := by simp [nuls]
theorem bts_zc (w : World) (n : Nat) : Bts (w.alloc (.cells (zc n) 5)) (.slice (some ⟨w.heap.size, 0, none⟩) n n) (nuls n) := by
  refine ⟨_, n, by rw [nuls_len], (fun h => by cases h), fun ad ha j x hx => ?_⟩
  injection ha with ha
  subst ha
  obtain ⟨hj, e⟩ := List.getElem?_eq_some_iff.1 hx
  rw [nuls_len] at hj
  rw [add_none, Nat.zero_add, World.cell?_alloc_mark, zc_get hj, ← e]
  simp [nuls]

set_option maxHeartbeats 1000000 in
theorem seallong_any (W : World) (m : Nat) (hm : m < 256) : Calls Try.prog 7 #[.int .u8 m] W (TruePost W) := by
  obtain ⟨N1, hN1⟩ : ∃ N, N = 65536 := ⟨_, rfl⟩
  obtain ⟨N2, hN2⟩ : ∃ N, N = 65537 + m := ⟨_, rfl⟩
  have mk1 := make_bytes W N1 65536 (by omega) (by omega)
  have mk2 := fun w => make_bytes w N2 (65537 + (m : Int)) (by omega) (by omega)
  have b1 : N1 ≤ 65536 := by omega
  have b2 : 65536 < N2 := by omega
  have HN1 := hide hN1
  clear hN1 hN2
  go_enter Try.func7, Try.ntmps7
  go_wp2_with fail
  refine (sfr_yes (k := 1) (bts_zc W N1) (by omega) b1).mono ?_
  rintro e w1 ⟨A1, n1, c1, rfl, ho1, hk1⟩
  obtain rfl : n1 = 65548 := by rw [ho1.len, frm_len, nuls_len, HN1.out]
  have k1 : Kp No W w1 := (Kp.alloc No W _).trans' hk1
  have K1 := hide k1
  clear ho1 hk1 k1
  go_wp2_with fail
  refine (sfr_no (k := 1) b2).mono ?_
  rintro e w2 ⟨rfl, rfl⟩
  go_wp2_with fail
  refine (awake10_any _).mono ?_
  rintro e w3 hp
  obtain rfl := hp.1
  go_wp2
  go_ret
  exact ⟨rfl, (K1.out.trans' (Kp.alloc No w1 _)).trans' hp.2⟩

theorem seallong_walk (W : World) (z : Int) (hz : (Lit.int .u8 z).wf = true) : Calls Try.prog 7 #[.int .u8 z] W fun e W' => e = .returned (.bool true) ∧ Below W.heap.size W W' := by
  have hb := bounds_u8 hz
  obtain ⟨m, rfl⟩ := Int.eq_ofNat_of_zero_le hb.1
  exact (seallong_any W m (by omega)).mono fun e W' p => ⟨p.1, p.2.below0⟩
end Go.Proofs.Ythhdhihledmfoaa
