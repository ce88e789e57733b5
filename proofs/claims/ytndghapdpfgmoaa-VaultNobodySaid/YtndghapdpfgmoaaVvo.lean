/- VaultNobody's walk where all orders meet. -/
import Derived.Test.YtndghapdpfgmoaaVox
import Derived.Deep.DeepCutAuto
namespace Go.Proofs.Ytndghapdpfgmoaa
open Go.RowKit
set_option linter.unusedVariables false
set_option linter.unusedSimpArgs false
set_option maxRecDepth 20000

set_option maxHeartbeats 8000000 in
theorem nobody_any {w : World} {a b : Nat} (ha : a < N96) (hb : b < N96) : Calls Try.prog 4 #[shV a, shV b] w (TruePost w) := by
  obtain ⟨z, hz⟩ : ∃ z, z = cmpN a b := ⟨_, rfl⟩
  have HZ := hide hz
  have HA := hide ha
  have HB := hide hb
  have hbx : BxN w a b ((w.alloc (.cells #[.int .u32 (cO a : Int), .int .u16 (cS a : Int), .int .u16 (cL a : Int), .int .u32 (cG a : Int)] 26)).alloc (.cells #[.int .u32 (cO b : Int), .int .u16 (cS b : Int), .int .u16 (cL b : Int), .int .u32 (cG b : Int)] 26)) := ⟨Box4.new1 w _ _ _ _ _, Box4.new2 w _ _ _ _ _, (Kp.alloc No w _).trans' (Kp.alloc No _ _)⟩
  have X0 := hide hbx
  clear hbx ha hb hz
  go_enter Try.func4, Try.ntmps4
  obtain ⟨p0, p1, p2, p3⟩ := X0.out.ba.cell
  obtain ⟨q0, q1, q2, q3⟩ := X0.out.bb.cell
  go_wp2_with fail
  refine (vopen_nil _).mono ?_
  rintro e w' ⟨rfl, rfl⟩
  clear p0 p1 p2 p3 q0 q1 q2 q3
  obtain ⟨p0, p1, p2, p3⟩ := X0.out.ba.cell
  obtain ⟨q0, q1, q2, q3⟩ := X0.out.bb.cell
  go_wp2_with fail
  refine (get_none (p := .pointer none) (s := a) (fun w' _ => vcell_nil w' a)).mono ?_
  rintro e w1 ⟨A0, n0, c0, rfl, ho0, hk0⟩
  clear ho0
  clear p0 p1 p2 p3 q0 q1 q2 q3
  have X1 := hide (X0.out.no hk0)
  clear hk0 X0
  obtain ⟨r0, r1, r2, r3⟩ := (X1.out.no (Kp.alloc No w1 (.cells #[.pointer none, .map none] 51))).ba.cell
  obtain ⟨p0, p1, p2, p3⟩ := X1.out.ba.cell
  obtain ⟨q0, q1, q2, q3⟩ := X1.out.bb.cell
  go_wp2_with fail
  clear r0 r1 r2 r3
  have hz := hide (VtZ.new w1)
  refine (get_none (p := .pointer (some ⟨w1.heap.size, 0, none⟩)) (s := a) (fun w' hk => vcell_zero (hz.out.no hk) HA.out)).mono ?_
  rintro e w2 ⟨A1, n1, c1, rfl, ho1, hk1'⟩
  have hk1 := (Kp.alloc No w1 (.cells #[.pointer none, .map none] 51)).trans' hk1'
  clear hz hk1' ho1
  clear p0 p1 p2 p3 q0 q1 q2 q3
  have X2 := hide (X1.out.no hk1)
  clear hk1 X1
  obtain ⟨p0, p1, p2, p3⟩ := X2.out.ba.cell
  obtain ⟨q0, q1, q2, q3⟩ := X2.out.bb.cell
  go_wp2_with fail
  refine (compare_any _ a b).mono ?_
  rintro e w3 ⟨rfl, hk2⟩
  rw [← HZ.out]
  clear p0 p1 p2 p3 q0 q1 q2 q3
  have X3 := hide (X2.out.no hk2)
  clear hk2 X2
  go_upto_region 6 with fail
  go_cut [54] (fun v wx => v = .bool false ∧ BxN w a b wx)
  case first =>
    rcases Nat.lt_trichotomy a b with hab | hab | hab
    · obtain rfl : z = -1 := by rw [HZ.out, cmpN_lt hab]
      have H1 := hide (fun w => less_yes (a := a) (b := b) (by omega) w)
      have H2 := hide (fun w => less_no (a := b) (b := a) (by omega) w)
      have H3 := hide (show (a == b) = false by simp; omega)
      clear hab
      obtain ⟨p0, p1, p2, p3⟩ := X3.out.ba.cell
      obtain ⟨q0, q1, q2, q3⟩ := X3.out.bb.cell
      go_wp2_with fail
      refine (H1.out _).mono ?_
      rintro e w4 ⟨rfl, hk3⟩
      clear p0 p1 p2 p3 q0 q1 q2 q3
      have X4 := hide (X3.out.no hk3)
      clear hk3 X3
      obtain ⟨p0, p1, p2, p3⟩ := X4.out.ba.cell
      obtain ⟨q0, q1, q2, q3⟩ := X4.out.bb.cell
      go_wp2_with fail
      refine (H2.out _).mono ?_
      rintro e w5 ⟨rfl, hk4⟩
      clear p0 p1 p2 p3 q0 q1 q2 q3
      have X5 := hide (X4.out.no hk4)
      clear hk4 X4
      obtain ⟨p0, p1, p2, p3⟩ := X5.out.ba.cell
      obtain ⟨q0, q1, q2, q3⟩ := X5.out.bb.cell
      go_wp2_with (refine wpList_seql_want (s := a) (t := b) rfl _ _ rfl rfl rfl HA.out HB.out false H3.out ?_)
      go_meet
      exact ⟨by simp, X5.out⟩
    · obtain rfl : z = 0 := by rw [HZ.out, cmpN_eq hab]
      have H1 := hide (fun w => less_no (a := a) (b := b) (by omega) w)
      have H2 := hide (fun w => less_no (a := b) (b := a) (by omega) w)
      have H3 := hide (show (a == b) = true by simp; omega)
      clear hab
      obtain ⟨p0, p1, p2, p3⟩ := X3.out.ba.cell
      obtain ⟨q0, q1, q2, q3⟩ := X3.out.bb.cell
      go_wp2_with fail
      refine (H1.out _).mono ?_
      rintro e w4 ⟨rfl, hk3⟩
      clear p0 p1 p2 p3 q0 q1 q2 q3
      have X4 := hide (X3.out.no hk3)
      clear hk3 X3
      obtain ⟨p0, p1, p2, p3⟩ := X4.out.ba.cell
      obtain ⟨q0, q1, q2, q3⟩ := X4.out.bb.cell
      go_wp2_with fail
      refine (H2.out _).mono ?_
      rintro e w5 ⟨rfl, hk4⟩
      clear p0 p1 p2 p3 q0 q1 q2 q3
      have X5 := hide (X4.out.no hk4)
      clear hk4 X4
      obtain ⟨p0, p1, p2, p3⟩ := X5.out.ba.cell
      obtain ⟨q0, q1, q2, q3⟩ := X5.out.bb.cell
      go_wp2_with (refine wpList_seql_want (s := a) (t := b) rfl _ _ rfl rfl rfl HA.out HB.out true H3.out ?_)
      go_meet
      exact ⟨by simp, X5.out⟩
    · obtain rfl : z = 1 := by rw [HZ.out, cmpN_gt hab]
      have H1 := hide (fun w => less_no (a := a) (b := b) (by omega) w)
      have H2 := hide (fun w => less_yes (a := b) (b := a) (by omega) w)
      have H3 := hide (show (a == b) = false by simp; omega)
      clear hab
      obtain ⟨p0, p1, p2, p3⟩ := X3.out.ba.cell
      obtain ⟨q0, q1, q2, q3⟩ := X3.out.bb.cell
      go_wp2_with fail
      refine (H1.out _).mono ?_
      rintro e w4 ⟨rfl, hk3⟩
      clear p0 p1 p2 p3 q0 q1 q2 q3
      have X4 := hide (X3.out.no hk3)
      clear hk3 X3
      obtain ⟨p0, p1, p2, p3⟩ := X4.out.ba.cell
      obtain ⟨q0, q1, q2, q3⟩ := X4.out.bb.cell
      go_wp2_with fail
      refine (H2.out _).mono ?_
      rintro e w5 ⟨rfl, hk4⟩
      clear p0 p1 p2 p3 q0 q1 q2 q3
      have X5 := hide (X4.out.no hk4)
      clear hk4 X4
      obtain ⟨p0, p1, p2, p3⟩ := X5.out.ba.cell
      obtain ⟨q0, q1, q2, q3⟩ := X5.out.bb.cell
      go_wp2_with (refine wpList_seql_want (s := a) (t := b) rfl _ _ rfl rfl rfl HA.out HB.out false H3.out ?_)
      go_meet
      exact ⟨by simp, X5.out⟩
  case rest =>
    obtain ⟨rfl, hX⟩ := hcut
    rename World => wz
    clear X3
    have X3 := hide hX
    clear hX HZ
    obtain ⟨p0, p1, p2, p3⟩ := X3.out.ba.cell
    obtain ⟨q0, q1, q2, q3⟩ := X3.out.bb.cell
    go_wp2_with fail
    refine (vlen_nil _).mono ?_
    rintro e w' ⟨rfl, rfl⟩
    clear p0 p1 p2 p3 q0 q1 q2 q3
    obtain ⟨p0, p1, p2, p3⟩ := X3.out.ba.cell
    obtain ⟨q0, q1, q2, q3⟩ := X3.out.bb.cell
    go_wp2_with fail
    refine (vlist_nil _).mono ?_
    rintro e w' ⟨rfl, rfl⟩
    clear p0 p1 p2 p3 q0 q1 q2 q3
    obtain ⟨p0, p1, p2, p3⟩ := X3.out.ba.cell
    obtain ⟨q0, q1, q2, q3⟩ := X3.out.bb.cell
    go_wp2_with fail
    refine (vhas_nil _ a).mono ?_
    rintro e w4 ⟨rfl, hk3⟩
    clear p0 p1 p2 p3 q0 q1 q2 q3
    have X4 := hide (X3.out.no hk3)
    clear hk3 X3
    obtain ⟨p0, p1, p2, p3⟩ := X4.out.ba.cell
    obtain ⟨q0, q1, q2, q3⟩ := X4.out.bb.cell
    go_wp2_with fail
    refine (vcell_nil _ a).mono ?_
    rintro e w5 ⟨rfl, hk4⟩
    clear p0 p1 p2 p3 q0 q1 q2 q3
    have X5 := hide (X4.out.no hk4)
    clear hk4 X4
    obtain ⟨p0, p1, p2, p3⟩ := X5.out.ba.cell
    obtain ⟨q0, q1, q2, q3⟩ := X5.out.bb.cell
    go_wp2_with fail
    refine (begin_none (p := .pointer none) (s := a) (fun w' _ => vmade_nil w')).mono ?_
    rintro e w6 ⟨rfl, hk5⟩
    clear p0 p1 p2 p3 q0 q1 q2 q3
    have X6 := hide (X5.out.no hk5)
    clear hk5 X5
    obtain ⟨p0, p1, p2, p3⟩ := X6.out.ba.cell
    obtain ⟨q0, q1, q2, q3⟩ := X6.out.bb.cell
    go_wp2_with fail
    refine (put_none (p := .pointer none) (s := a) (fun w' _ => vmade_nil w')).mono ?_
    rintro e w7 ⟨rfl, hk6⟩
    clear p0 p1 p2 p3 q0 q1 q2 q3
    have X7 := hide (X6.out.no hk6)
    clear hk6 X6
    obtain ⟨p0, p1, p2, p3⟩ := X7.out.ba.cell
    obtain ⟨q0, q1, q2, q3⟩ := X7.out.bb.cell
    go_wp2_with fail
    refine (drop_none (p := .pointer none) (s := a) (fun w' _ => vmade_nil w')).mono ?_
    rintro e w8 ⟨rfl, hk7⟩
    clear p0 p1 p2 p3 q0 q1 q2 q3
    have X8 := hide (X7.out.no hk7)
    clear hk7 X7
    obtain ⟨r0, r1, r2, r3⟩ := (X8.out.no (Kp.alloc No w8 (.cells #[.pointer none, .map none] 51))).ba.cell
    obtain ⟨p0, p1, p2, p3⟩ := X8.out.ba.cell
    obtain ⟨q0, q1, q2, q3⟩ := X8.out.bb.cell
    go_wp2_with fail
    clear r0 r1 r2 r3
    have hz := hide (VtZ.new w8)
    refine (begin_none (p := .pointer (some ⟨w8.heap.size, 0, none⟩)) (s := a) (fun w' hk => vmade_zero (hz.out.no hk))).mono ?_
    rintro e w9 ⟨rfl, hk8'⟩
    have hk8 := (Kp.alloc No w8 (.cells #[.pointer none, .map none] 51)).trans' hk8'
    clear hz hk8'
    clear p0 p1 p2 p3 q0 q1 q2 q3
    have X9 := hide (X8.out.no hk8)
    clear hk8 X8
    obtain ⟨r0, r1, r2, r3⟩ := (X9.out.no (Kp.alloc No w9 (.cells #[.pointer none, .map none] 51))).ba.cell
    obtain ⟨p0, p1, p2, p3⟩ := X9.out.ba.cell
    obtain ⟨q0, q1, q2, q3⟩ := X9.out.bb.cell
    go_wp2_with fail
    clear r0 r1 r2 r3
    have hz := hide (VtZ.new w9)
    refine (put_none (p := .pointer (some ⟨w9.heap.size, 0, none⟩)) (s := a) (fun w' hk => vmade_zero (hz.out.no hk))).mono ?_
    rintro e w10 ⟨rfl, hk9'⟩
    have hk9 := (Kp.alloc No w9 (.cells #[.pointer none, .map none] 51)).trans' hk9'
    clear hz hk9'
    clear p0 p1 p2 p3 q0 q1 q2 q3
    have X10 := hide (X9.out.no hk9)
    clear hk9 X9
    obtain ⟨r0, r1, r2, r3⟩ := (X10.out.no (Kp.alloc No w10 (.cells #[.pointer none, .map none] 51))).ba.cell
    obtain ⟨p0, p1, p2, p3⟩ := X10.out.ba.cell
    obtain ⟨q0, q1, q2, q3⟩ := X10.out.bb.cell
    go_wp2_with fail
    clear r0 r1 r2 r3
    have hz := hide (VtZ.new w10)
    refine (drop_none (p := .pointer (some ⟨w10.heap.size, 0, none⟩)) (s := a) (fun w' hk => vmade_zero (hz.out.no hk))).mono ?_
    rintro e w11 ⟨rfl, hk10'⟩
    have hk10 := (Kp.alloc No w10 (.cells #[.pointer none, .map none] 51)).trans' hk10'
    clear hz hk10'
    clear p0 p1 p2 p3 q0 q1 q2 q3
    have X11 := hide (X10.out.no hk10)
    clear hk10 X10
    obtain ⟨p0, p1, p2, p3⟩ := X11.out.ba.cell
    obtain ⟨q0, q1, q2, q3⟩ := X11.out.bb.cell
    go_wp2_with fail
    refine (awake12_any _).mono ?_
    rintro e w12 ⟨rfl, hk11⟩
    clear p0 p1 p2 p3 q0 q1 q2 q3
    have X12 := hide (X11.out.no hk11)
    clear hk11 X11
    go_wp2_with fail
    go_ret
    exact ⟨rfl, X12.out.kp⟩
end Go.Proofs.Ytndghapdpfgmoaa
