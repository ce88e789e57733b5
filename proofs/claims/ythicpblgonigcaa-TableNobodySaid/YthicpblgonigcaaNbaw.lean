/- TableNobody walked: it returns true for any numbers, any name and any place (printed by tools/gen_tbs.py). No condition. -/
import Derived.Test.YthicpblgonigcaaNbav
namespace Go.Proofs.Ythicpblgonigcaa
open Go.RowKit
set_option linter.unusedVariables false
set_option linter.unusedSimpArgs false
set_option maxRecDepth 20000

set_option maxRecDepth 100000 in
set_option maxHeartbeats 8000000 in
theorem tablenobody_walk (W : World) (sl nd i : Int) (B : ByteArray) : Calls Try.prog 4 #[.int .i64 sl, .int .i64 nd, .string B, .int .i64 i] W (TruePost W) := by
  by_cases hlong : 300 < B.size
  · have hlz : (300 : Int) < (B.size : Int) := by omega
    go_enter Try.func4, Try.ntmps4
    go_wp2_with fail
    refine (awake20_any _).mono ?_
    rintro e w1 ⟨rfl, hk1⟩
    go_wp2_with fail
    go_ret
    exact ⟨rfl, hk1⟩
  have hlz : ¬ (300 : Int) < (B.size : Int) := by omega
  have HRP := hide (fun w => rname_any (w := w) B (by omega))
  have HRR := hide (fun w => rrname_any (w := w) B (by omega))
  generalize okN B.data.toList = b at HRP HRR
  have hbb : (b != b) = false := by simp
  have hbb2 : (b == b) = true := by simp
  clear hlong
  by_cases a1 : sl < 1
  · have b1 : ¬ 1 ≤ sl := by omega
    have hn := tnew_no (w := W) (sl := sl) (nd := nd) (by omega)
    go_enter Try.func4, Try.ntmps4
    go_wp2_with fail
    refine hn.mono ?_
    clear hn
    rintro e w1 ⟨rfl, rfl⟩
    go_wp2_with fail
    refine (HRP.out _).mono ?_
    rintro e w2 ⟨rfl, rfl⟩
    go_wp2_with fail
    refine (HRR.out _).mono ?_
    rintro e w2 ⟨rfl, rfl⟩
    go_wp2_with fail
    refine (tat_nil _).mono ?_
    rintro e w3 ⟨rfl, hk3⟩
    have HK3 := hide ((Kp.refl No W).trans' hk3)
    clear hk3
    go_wp2_with fail
    refine (tfind_nil _).mono ?_
    rintro e w4 ⟨rfl, hk4⟩
    have HK4 := hide ((HK3.out.al (.cells #[.int .u32 0, .string ByteArray.empty, .int .i64 0, .int .i64 0, .int .i64 0, .slice none 0 0] 54)).trans' hk4)
    clear hk4
    go_wp2_with fail
    refine (tat_nil _).mono ?_
    rintro e w5 ⟨rfl, hk5⟩
    have HK5 := hide ((HK4.out.al (.cells #[.int .u32 0, .string ByteArray.empty, .int .i64 0, .int .i64 0, .int .i64 0, .slice none 0 0] 54)).trans' hk5)
    clear hk5
    go_wp2_with fail
    refine (tnum_nil 1).mono ?_
    rintro e w6 ⟨rfl, hk6⟩
    have HK6 := hide ((HK5.out.al (.cells #[.int .u32 0, .string ByteArray.empty, .int .i64 0, .int .i64 0, .int .i64 0, .slice none 0 0] 54)).trans' hk6)
    clear hk6
    go_wp2_with fail
    refine tlen_nil.mono ?_
    rintro e w7 ⟨rfl, rfl⟩
    go_wp2_with fail
    refine tnames_nil.mono ?_
    rintro e w7 ⟨rfl, rfl⟩
    go_wp2_with fail
    refine tuse_nil.mono ?_
    rintro e w7 ⟨rfl, rfl⟩
    go_wp2_with fail
    refine tbytes_nil.mono ?_
    rintro e w7 ⟨rfl, rfl⟩
    go_wp2_with fail
    refine tnext_nil.mono ?_
    rintro e w7 ⟨rfl, rfl⟩
    go_wp2_with fail
    refine tcopy_nil.mono ?_
    rintro e w7 ⟨rfl, rfl⟩
    go_wp2_with fail
    refine tapply_nil.mono ?_
    rintro e w8 ⟨rfl, hk8⟩
    have HK8 := hide ((HK6.out.al (.cells #[.int .u32 0, .string ByteArray.empty, .int .i64 0, .int .i64 0, .int .i64 0, .slice none 0 0] 54)).trans' hk8)
    clear hk8
    go_wp2_with fail
    refine (awake20_any _).mono ?_
    rintro e w9 ⟨rfl, hk9⟩
    go_wp2_with fail
    go_ret
    exact ⟨rfl, HK8.out.trans' hk9⟩
  have b1 : 1 ≤ sl := by omega
  by_cases a2 : 24 < sl
  · have b2 : ¬ sl ≤ 24 := by omega
    have hn := tnew_no (w := W) (sl := sl) (nd := nd) (by omega)
    go_enter Try.func4, Try.ntmps4
    go_wp2_with fail
    refine hn.mono ?_
    clear hn
    rintro e w1 ⟨rfl, rfl⟩
    go_wp2_with fail
    refine (HRP.out _).mono ?_
    rintro e w2 ⟨rfl, rfl⟩
    go_wp2_with fail
    refine (HRR.out _).mono ?_
    rintro e w2 ⟨rfl, rfl⟩
    go_wp2_with fail
    refine (tat_nil _).mono ?_
    rintro e w3 ⟨rfl, hk3⟩
    have HK3 := hide ((Kp.refl No W).trans' hk3)
    clear hk3
    go_wp2_with fail
    refine (tfind_nil _).mono ?_
    rintro e w4 ⟨rfl, hk4⟩
    have HK4 := hide ((HK3.out.al (.cells #[.int .u32 0, .string ByteArray.empty, .int .i64 0, .int .i64 0, .int .i64 0, .slice none 0 0] 54)).trans' hk4)
    clear hk4
    go_wp2_with fail
    refine (tat_nil _).mono ?_
    rintro e w5 ⟨rfl, hk5⟩
    have HK5 := hide ((HK4.out.al (.cells #[.int .u32 0, .string ByteArray.empty, .int .i64 0, .int .i64 0, .int .i64 0, .slice none 0 0] 54)).trans' hk5)
    clear hk5
    go_wp2_with fail
    refine (tnum_nil 1).mono ?_
    rintro e w6 ⟨rfl, hk6⟩
    have HK6 := hide ((HK5.out.al (.cells #[.int .u32 0, .string ByteArray.empty, .int .i64 0, .int .i64 0, .int .i64 0, .slice none 0 0] 54)).trans' hk6)
    clear hk6
    go_wp2_with fail
    refine tlen_nil.mono ?_
    rintro e w7 ⟨rfl, rfl⟩
    go_wp2_with fail
    refine tnames_nil.mono ?_
    rintro e w7 ⟨rfl, rfl⟩
    go_wp2_with fail
    refine tuse_nil.mono ?_
    rintro e w7 ⟨rfl, rfl⟩
    go_wp2_with fail
    refine tbytes_nil.mono ?_
    rintro e w7 ⟨rfl, rfl⟩
    go_wp2_with fail
    refine tnext_nil.mono ?_
    rintro e w7 ⟨rfl, rfl⟩
    go_wp2_with fail
    refine tcopy_nil.mono ?_
    rintro e w7 ⟨rfl, rfl⟩
    go_wp2_with fail
    refine tapply_nil.mono ?_
    rintro e w8 ⟨rfl, hk8⟩
    have HK8 := hide ((HK6.out.al (.cells #[.int .u32 0, .string ByteArray.empty, .int .i64 0, .int .i64 0, .int .i64 0, .slice none 0 0] 54)).trans' hk8)
    clear hk8
    go_wp2_with fail
    refine (awake20_any _).mono ?_
    rintro e w9 ⟨rfl, hk9⟩
    go_wp2_with fail
    go_ret
    exact ⟨rfl, HK8.out.trans' hk9⟩
  have b2 : sl ≤ 24 := by omega
  by_cases a3 : nd < 1
  · have b3 : ¬ 1 ≤ nd := by omega
    have hn := tnew_no (w := W) (sl := sl) (nd := nd) (by omega)
    go_enter Try.func4, Try.ntmps4
    go_wp2_with fail
    refine hn.mono ?_
    clear hn
    rintro e w1 ⟨rfl, rfl⟩
    go_wp2_with fail
    refine (HRP.out _).mono ?_
    rintro e w2 ⟨rfl, rfl⟩
    go_wp2_with fail
    refine (HRR.out _).mono ?_
    rintro e w2 ⟨rfl, rfl⟩
    go_wp2_with fail
    refine (tat_nil _).mono ?_
    rintro e w3 ⟨rfl, hk3⟩
    have HK3 := hide ((Kp.refl No W).trans' hk3)
    clear hk3
    go_wp2_with fail
    refine (tfind_nil _).mono ?_
    rintro e w4 ⟨rfl, hk4⟩
    have HK4 := hide ((HK3.out.al (.cells #[.int .u32 0, .string ByteArray.empty, .int .i64 0, .int .i64 0, .int .i64 0, .slice none 0 0] 54)).trans' hk4)
    clear hk4
    go_wp2_with fail
    refine (tat_nil _).mono ?_
    rintro e w5 ⟨rfl, hk5⟩
    have HK5 := hide ((HK4.out.al (.cells #[.int .u32 0, .string ByteArray.empty, .int .i64 0, .int .i64 0, .int .i64 0, .slice none 0 0] 54)).trans' hk5)
    clear hk5
    go_wp2_with fail
    refine (tnum_nil 1).mono ?_
    rintro e w6 ⟨rfl, hk6⟩
    have HK6 := hide ((HK5.out.al (.cells #[.int .u32 0, .string ByteArray.empty, .int .i64 0, .int .i64 0, .int .i64 0, .slice none 0 0] 54)).trans' hk6)
    clear hk6
    go_wp2_with fail
    refine tlen_nil.mono ?_
    rintro e w7 ⟨rfl, rfl⟩
    go_wp2_with fail
    refine tnames_nil.mono ?_
    rintro e w7 ⟨rfl, rfl⟩
    go_wp2_with fail
    refine tuse_nil.mono ?_
    rintro e w7 ⟨rfl, rfl⟩
    go_wp2_with fail
    refine tbytes_nil.mono ?_
    rintro e w7 ⟨rfl, rfl⟩
    go_wp2_with fail
    refine tnext_nil.mono ?_
    rintro e w7 ⟨rfl, rfl⟩
    go_wp2_with fail
    refine tcopy_nil.mono ?_
    rintro e w7 ⟨rfl, rfl⟩
    go_wp2_with fail
    refine tapply_nil.mono ?_
    rintro e w8 ⟨rfl, hk8⟩
    have HK8 := hide ((HK6.out.al (.cells #[.int .u32 0, .string ByteArray.empty, .int .i64 0, .int .i64 0, .int .i64 0, .slice none 0 0] 54)).trans' hk8)
    clear hk8
    go_wp2_with fail
    refine (awake20_any _).mono ?_
    rintro e w9 ⟨rfl, hk9⟩
    go_wp2_with fail
    go_ret
    exact ⟨rfl, HK8.out.trans' hk9⟩
  have b3 : 1 ≤ nd := by omega
  by_cases a4 : 32 < nd
  · have b4 : ¬ nd ≤ 32 := by omega
    have hn := tnew_no (w := W) (sl := sl) (nd := nd) (by omega)
    go_enter Try.func4, Try.ntmps4
    go_wp2_with fail
    refine hn.mono ?_
    clear hn
    rintro e w1 ⟨rfl, rfl⟩
    go_wp2_with fail
    refine (HRP.out _).mono ?_
    rintro e w2 ⟨rfl, rfl⟩
    go_wp2_with fail
    refine (HRR.out _).mono ?_
    rintro e w2 ⟨rfl, rfl⟩
    go_wp2_with fail
    refine (tat_nil _).mono ?_
    rintro e w3 ⟨rfl, hk3⟩
    have HK3 := hide ((Kp.refl No W).trans' hk3)
    clear hk3
    go_wp2_with fail
    refine (tfind_nil _).mono ?_
    rintro e w4 ⟨rfl, hk4⟩
    have HK4 := hide ((HK3.out.al (.cells #[.int .u32 0, .string ByteArray.empty, .int .i64 0, .int .i64 0, .int .i64 0, .slice none 0 0] 54)).trans' hk4)
    clear hk4
    go_wp2_with fail
    refine (tat_nil _).mono ?_
    rintro e w5 ⟨rfl, hk5⟩
    have HK5 := hide ((HK4.out.al (.cells #[.int .u32 0, .string ByteArray.empty, .int .i64 0, .int .i64 0, .int .i64 0, .slice none 0 0] 54)).trans' hk5)
    clear hk5
    go_wp2_with fail
    refine (tnum_nil 1).mono ?_
    rintro e w6 ⟨rfl, hk6⟩
    have HK6 := hide ((HK5.out.al (.cells #[.int .u32 0, .string ByteArray.empty, .int .i64 0, .int .i64 0, .int .i64 0, .slice none 0 0] 54)).trans' hk6)
    clear hk6
    go_wp2_with fail
    refine tlen_nil.mono ?_
    rintro e w7 ⟨rfl, rfl⟩
    go_wp2_with fail
    refine tnames_nil.mono ?_
    rintro e w7 ⟨rfl, rfl⟩
    go_wp2_with fail
    refine tuse_nil.mono ?_
    rintro e w7 ⟨rfl, rfl⟩
    go_wp2_with fail
    refine tbytes_nil.mono ?_
    rintro e w7 ⟨rfl, rfl⟩
    go_wp2_with fail
    refine tnext_nil.mono ?_
    rintro e w7 ⟨rfl, rfl⟩
    go_wp2_with fail
    refine tcopy_nil.mono ?_
    rintro e w7 ⟨rfl, rfl⟩
    go_wp2_with fail
    refine tapply_nil.mono ?_
    rintro e w8 ⟨rfl, hk8⟩
    have HK8 := hide ((HK6.out.al (.cells #[.int .u32 0, .string ByteArray.empty, .int .i64 0, .int .i64 0, .int .i64 0, .slice none 0 0] 54)).trans' hk8)
    clear hk8
    go_wp2_with fail
    refine (awake20_any _).mono ?_
    rintro e w9 ⟨rfl, hk9⟩
    go_wp2_with fail
    go_ret
    exact ⟨rfl, HK8.out.trans' hk9⟩
  have b4 : nd ≤ 32 := by omega
  obtain ⟨x, rfl⟩ : ∃ x : Nat, sl = x := ⟨sl.toNat, by omega⟩
  obtain ⟨y, rfl⟩ : ∃ y : Nat, nd = y := ⟨nd.toNat, by omega⟩
  have HNEW := hide (tnew_yes (w := W) (sl := x) (nd := y) (by omega) (by omega) (by omega) (by omega))
  clear a1 a2 a3 a4
  go_enter Try.func4, Try.ntmps4
  go_wp2_with fail
  refine HNEW.out.mono ?_
  rintro e w1 ⟨rfl, h1, k1⟩
  have HT := hide h1
  have HK1 := hide k1
  clear h1 k1 HNEW
  go_wp2_with fail
  refine (HRP.out _).mono ?_
  rintro e w2 ⟨rfl, rfl⟩
  go_wp2_with fail
  refine (HRR.out _).mono ?_
  rintro e w2 ⟨rfl, rfl⟩
  go_wp2_with fail
  refine (tat_no HT.out (by show i < 0 ∨ ((([] : List Ob).length : Nat) : Int) ≤ i; simp; omega)).mono ?_
  rintro e w3 ⟨rfl, hk3⟩
  have HK3 := hide (HK1.out.trans' hk3)
  clear hk3
  go_wp2_with fail
  refine (tfind_nil _).mono ?_
  rintro e w4 ⟨rfl, hk4⟩
  have HK4 := hide ((HK3.out.al (.cells #[.int .u32 0, .string ByteArray.empty, .int .i64 0, .int .i64 0, .int .i64 0, .slice none 0 0] 54)).trans' hk4)
  clear hk4
  go_wp2_with fail
  refine (tat_nil _).mono ?_
  rintro e w5 ⟨rfl, hk5⟩
  have HK5 := hide ((HK4.out.al (.cells #[.int .u32 0, .string ByteArray.empty, .int .i64 0, .int .i64 0, .int .i64 0, .slice none 0 0] 54)).trans' hk5)
  clear hk5
  go_wp2_with fail
  refine (tnum_nil 1).mono ?_
  rintro e w6 ⟨rfl, hk6⟩
  have HK6 := hide ((HK5.out.al (.cells #[.int .u32 0, .string ByteArray.empty, .int .i64 0, .int .i64 0, .int .i64 0, .slice none 0 0] 54)).trans' hk6)
  clear hk6
  go_wp2_with fail
  refine tlen_nil.mono ?_
  rintro e w7 ⟨rfl, rfl⟩
  go_wp2_with fail
  refine tnames_nil.mono ?_
  rintro e w7 ⟨rfl, rfl⟩
  go_wp2_with fail
  refine tuse_nil.mono ?_
  rintro e w7 ⟨rfl, rfl⟩
  go_wp2_with fail
  refine tbytes_nil.mono ?_
  rintro e w7 ⟨rfl, rfl⟩
  go_wp2_with fail
  refine tnext_nil.mono ?_
  rintro e w7 ⟨rfl, rfl⟩
  go_wp2_with fail
  refine tcopy_nil.mono ?_
  rintro e w7 ⟨rfl, rfl⟩
  go_wp2_with fail
  refine tapply_nil.mono ?_
  rintro e w8 ⟨rfl, hk8⟩
  have HK8 := hide ((HK6.out.al (.cells #[.int .u32 0, .string ByteArray.empty, .int .i64 0, .int .i64 0, .int .i64 0, .slice none 0 0] 54)).trans' hk8)
  clear hk8
  go_wp2_with fail
  refine (awake20_any _).mono ?_
  rintro e w9 ⟨rfl, hk9⟩
  go_wp2_with fail
  go_ret
  exact ⟨rfl, HK8.out.trans' hk9⟩
end Go.Proofs.Ythicpblgonigcaa
