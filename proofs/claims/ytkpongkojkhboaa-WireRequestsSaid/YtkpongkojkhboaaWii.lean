/- WireRequests walked: it returns true for any request and any bytes (printed by tools/gen_wii.py SEAT F). No condition. -/
import Derived.Test.YtkpongkojkhboaaWif
import Derived.Test.YtkpongkojkhboaaWih
import Derived.Deep.RegionHeld3
import Derived.OpenShut
namespace Go.Proofs.Ytkpongkojkhboaa
open Go.RowKit Go.WideShapes Go.ChangeShapes
set_option linter.unusedVariables false
set_option linter.unusedSimpArgs false
set_option maxRecDepth 20000


theorem kept16 {W w1 : World} {b0 b1 : Nat} {x0 x1 x2 x3 x4 x5 x6 x7 x8 x9 x10 x11 x12 x13 x14 x15 : Value} (hk : Kp No W w1) (h : W.cell? ⟨b0, 0, none⟩ = some x0 ∧ W.cell? ⟨b0, 1, none⟩ = some x1 ∧ W.cell? ⟨b0, 2, none⟩ = some x2 ∧ W.cell? ⟨b0, 3, none⟩ = some x3 ∧ W.cell? ⟨b0, 4, none⟩ = some x4 ∧ W.cell? ⟨b0, 5, none⟩ = some x5 ∧ W.cell? ⟨b0, 6, none⟩ = some x6 ∧ W.cell? ⟨b0, 7, none⟩ = some x7 ∧ W.cell? ⟨b1, 0, none⟩ = some x8 ∧ W.cell? ⟨b1, 1, none⟩ = some x9 ∧ W.cell? ⟨b1, 2, none⟩ = some x10 ∧ W.cell? ⟨b1, 3, none⟩ = some x11 ∧ W.cell? ⟨b1, 4, none⟩ = some x12 ∧ W.cell? ⟨b1, 5, none⟩ = some x13 ∧ W.cell? ⟨b1, 6, none⟩ = some x14 ∧ W.cell? ⟨b1, 7, none⟩ = some x15) :
    w1.cell? ⟨b0, 0, none⟩ = some x0 ∧ w1.cell? ⟨b0, 1, none⟩ = some x1 ∧ w1.cell? ⟨b0, 2, none⟩ = some x2 ∧ w1.cell? ⟨b0, 3, none⟩ = some x3 ∧ w1.cell? ⟨b0, 4, none⟩ = some x4 ∧ w1.cell? ⟨b0, 5, none⟩ = some x5 ∧ w1.cell? ⟨b0, 6, none⟩ = some x6 ∧ w1.cell? ⟨b0, 7, none⟩ = some x7 ∧ w1.cell? ⟨b1, 0, none⟩ = some x8 ∧ w1.cell? ⟨b1, 1, none⟩ = some x9 ∧ w1.cell? ⟨b1, 2, none⟩ = some x10 ∧ w1.cell? ⟨b1, 3, none⟩ = some x11 ∧ w1.cell? ⟨b1, 4, none⟩ = some x12 ∧ w1.cell? ⟨b1, 5, none⟩ = some x13 ∧ w1.cell? ⟨b1, 6, none⟩ = some x14 ∧ w1.cell? ⟨b1, 7, none⟩ = some x15 := by
  obtain ⟨a0, a1, a2, a3, a4, a5, a6, a7, a8, a9, a10, a11, a12, a13, a14, a15⟩ := h
  exact ⟨hk.cell a0 (fun f => f), hk.cell a1 (fun f => f), hk.cell a2 (fun f => f), hk.cell a3 (fun f => f), hk.cell a4 (fun f => f), hk.cell a5 (fun f => f), hk.cell a6 (fun f => f), hk.cell a7 (fun f => f), hk.cell a8 (fun f => f), hk.cell a9 (fun f => f), hk.cell a10 (fun f => f), hk.cell a11 (fun f => f), hk.cell a12 (fun f => f), hk.cell a13 (fun f => f), hk.cell a14 (fun f => f), hk.cell a15 (fun f => f)⟩
theorem cells16 {w : World} {b0 b1 : Nat} {x0 x1 x2 x3 x4 x5 x6 x7 x8 x9 x10 x11 x12 x13 x14 x15 : Value} {t0 t1 : TypeId} (h0 : Bx8 t0 w b0 x0 x1 x2 x3 x4 x5 x6 x7) (h1 : Bx8 t1 w b1 x8 x9 x10 x11 x12 x13 x14 x15) :
    w.cell? ⟨b0, 0, none⟩ = some x0 ∧ w.cell? ⟨b0, 1, none⟩ = some x1 ∧ w.cell? ⟨b0, 2, none⟩ = some x2 ∧ w.cell? ⟨b0, 3, none⟩ = some x3 ∧ w.cell? ⟨b0, 4, none⟩ = some x4 ∧ w.cell? ⟨b0, 5, none⟩ = some x5 ∧ w.cell? ⟨b0, 6, none⟩ = some x6 ∧ w.cell? ⟨b0, 7, none⟩ = some x7 ∧ w.cell? ⟨b1, 0, none⟩ = some x8 ∧ w.cell? ⟨b1, 1, none⟩ = some x9 ∧ w.cell? ⟨b1, 2, none⟩ = some x10 ∧ w.cell? ⟨b1, 3, none⟩ = some x11 ∧ w.cell? ⟨b1, 4, none⟩ = some x12 ∧ w.cell? ⟨b1, 5, none⟩ = some x13 ∧ w.cell? ⟨b1, 6, none⟩ = some x14 ∧ w.cell? ⟨b1, 7, none⟩ = some x15 := by
  obtain ⟨a0, a1, a2, a3, a4, a5, a6, a7⟩ := h0.cell
  obtain ⟨a8, a9, a10, a11, a12, a13, a14, a15⟩ := h1.cell
  exact ⟨a0, a1, a2, a3, a4, a5, a6, a7, a8, a9, a10, a11, a12, a13, a14, a15⟩

theorem kept24 {W w1 : World} {b0 b1 b2 : Nat} {x0 x1 x2 x3 x4 x5 x6 x7 x8 x9 x10 x11 x12 x13 x14 x15 x16 x17 x18 x19 x20 x21 x22 x23 : Value} (hk : Kp No W w1) (h : W.cell? ⟨b0, 0, none⟩ = some x0 ∧ W.cell? ⟨b0, 1, none⟩ = some x1 ∧ W.cell? ⟨b0, 2, none⟩ = some x2 ∧ W.cell? ⟨b0, 3, none⟩ = some x3 ∧ W.cell? ⟨b0, 4, none⟩ = some x4 ∧ W.cell? ⟨b0, 5, none⟩ = some x5 ∧ W.cell? ⟨b0, 6, none⟩ = some x6 ∧ W.cell? ⟨b0, 7, none⟩ = some x7 ∧ W.cell? ⟨b1, 0, none⟩ = some x8 ∧ W.cell? ⟨b1, 1, none⟩ = some x9 ∧ W.cell? ⟨b1, 2, none⟩ = some x10 ∧ W.cell? ⟨b1, 3, none⟩ = some x11 ∧ W.cell? ⟨b1, 4, none⟩ = some x12 ∧ W.cell? ⟨b1, 5, none⟩ = some x13 ∧ W.cell? ⟨b1, 6, none⟩ = some x14 ∧ W.cell? ⟨b1, 7, none⟩ = some x15 ∧ W.cell? ⟨b2, 0, none⟩ = some x16 ∧ W.cell? ⟨b2, 1, none⟩ = some x17 ∧ W.cell? ⟨b2, 2, none⟩ = some x18 ∧ W.cell? ⟨b2, 3, none⟩ = some x19 ∧ W.cell? ⟨b2, 4, none⟩ = some x20 ∧ W.cell? ⟨b2, 5, none⟩ = some x21 ∧ W.cell? ⟨b2, 6, none⟩ = some x22 ∧ W.cell? ⟨b2, 7, none⟩ = some x23) :
    w1.cell? ⟨b0, 0, none⟩ = some x0 ∧ w1.cell? ⟨b0, 1, none⟩ = some x1 ∧ w1.cell? ⟨b0, 2, none⟩ = some x2 ∧ w1.cell? ⟨b0, 3, none⟩ = some x3 ∧ w1.cell? ⟨b0, 4, none⟩ = some x4 ∧ w1.cell? ⟨b0, 5, none⟩ = some x5 ∧ w1.cell? ⟨b0, 6, none⟩ = some x6 ∧ w1.cell? ⟨b0, 7, none⟩ = some x7 ∧ w1.cell? ⟨b1, 0, none⟩ = some x8 ∧ w1.cell? ⟨b1, 1, none⟩ = some x9 ∧ w1.cell? ⟨b1, 2, none⟩ = some x10 ∧ w1.cell? ⟨b1, 3, none⟩ = some x11 ∧ w1.cell? ⟨b1, 4, none⟩ = some x12 ∧ w1.cell? ⟨b1, 5, none⟩ = some x13 ∧ w1.cell? ⟨b1, 6, none⟩ = some x14 ∧ w1.cell? ⟨b1, 7, none⟩ = some x15 ∧ w1.cell? ⟨b2, 0, none⟩ = some x16 ∧ w1.cell? ⟨b2, 1, none⟩ = some x17 ∧ w1.cell? ⟨b2, 2, none⟩ = some x18 ∧ w1.cell? ⟨b2, 3, none⟩ = some x19 ∧ w1.cell? ⟨b2, 4, none⟩ = some x20 ∧ w1.cell? ⟨b2, 5, none⟩ = some x21 ∧ w1.cell? ⟨b2, 6, none⟩ = some x22 ∧ w1.cell? ⟨b2, 7, none⟩ = some x23 := by
  obtain ⟨a0, a1, a2, a3, a4, a5, a6, a7, a8, a9, a10, a11, a12, a13, a14, a15, a16, a17, a18, a19, a20, a21, a22, a23⟩ := h
  exact ⟨hk.cell a0 (fun f => f), hk.cell a1 (fun f => f), hk.cell a2 (fun f => f), hk.cell a3 (fun f => f), hk.cell a4 (fun f => f), hk.cell a5 (fun f => f), hk.cell a6 (fun f => f), hk.cell a7 (fun f => f), hk.cell a8 (fun f => f), hk.cell a9 (fun f => f), hk.cell a10 (fun f => f), hk.cell a11 (fun f => f), hk.cell a12 (fun f => f), hk.cell a13 (fun f => f), hk.cell a14 (fun f => f), hk.cell a15 (fun f => f), hk.cell a16 (fun f => f), hk.cell a17 (fun f => f), hk.cell a18 (fun f => f), hk.cell a19 (fun f => f), hk.cell a20 (fun f => f), hk.cell a21 (fun f => f), hk.cell a22 (fun f => f), hk.cell a23 (fun f => f)⟩
theorem cells24 {w : World} {b0 b1 b2 : Nat} {x0 x1 x2 x3 x4 x5 x6 x7 x8 x9 x10 x11 x12 x13 x14 x15 x16 x17 x18 x19 x20 x21 x22 x23 : Value} {t0 t1 t2 : TypeId} (h0 : Bx8 t0 w b0 x0 x1 x2 x3 x4 x5 x6 x7) (h1 : Bx8 t1 w b1 x8 x9 x10 x11 x12 x13 x14 x15) (h2 : Bx8 t2 w b2 x16 x17 x18 x19 x20 x21 x22 x23) :
    w.cell? ⟨b0, 0, none⟩ = some x0 ∧ w.cell? ⟨b0, 1, none⟩ = some x1 ∧ w.cell? ⟨b0, 2, none⟩ = some x2 ∧ w.cell? ⟨b0, 3, none⟩ = some x3 ∧ w.cell? ⟨b0, 4, none⟩ = some x4 ∧ w.cell? ⟨b0, 5, none⟩ = some x5 ∧ w.cell? ⟨b0, 6, none⟩ = some x6 ∧ w.cell? ⟨b0, 7, none⟩ = some x7 ∧ w.cell? ⟨b1, 0, none⟩ = some x8 ∧ w.cell? ⟨b1, 1, none⟩ = some x9 ∧ w.cell? ⟨b1, 2, none⟩ = some x10 ∧ w.cell? ⟨b1, 3, none⟩ = some x11 ∧ w.cell? ⟨b1, 4, none⟩ = some x12 ∧ w.cell? ⟨b1, 5, none⟩ = some x13 ∧ w.cell? ⟨b1, 6, none⟩ = some x14 ∧ w.cell? ⟨b1, 7, none⟩ = some x15 ∧ w.cell? ⟨b2, 0, none⟩ = some x16 ∧ w.cell? ⟨b2, 1, none⟩ = some x17 ∧ w.cell? ⟨b2, 2, none⟩ = some x18 ∧ w.cell? ⟨b2, 3, none⟩ = some x19 ∧ w.cell? ⟨b2, 4, none⟩ = some x20 ∧ w.cell? ⟨b2, 5, none⟩ = some x21 ∧ w.cell? ⟨b2, 6, none⟩ = some x22 ∧ w.cell? ⟨b2, 7, none⟩ = some x23 := by
  obtain ⟨a0, a1, a2, a3, a4, a5, a6, a7⟩ := h0.cell
  obtain ⟨a8, a9, a10, a11, a12, a13, a14, a15⟩ := h1.cell
  obtain ⟨a16, a17, a18, a19, a20, a21, a22, a23⟩ := h2.cell
  exact ⟨a0, a1, a2, a3, a4, a5, a6, a7, a8, a9, a10, a11, a12, a13, a14, a15, a16, a17, a18, a19, a20, a21, a22, a23⟩

set_option maxHeartbeats 8000000 in
theorem wirerequests_true (W : World) {A0 A1 : Option Addr} {n0 c0 n1 c1 : Nat} (q Q1 : Rq) (hf : q.Fit) (hf1 : Q1.Fit) (hq : Bts W (.slice A0 n0 c0) q.data) (hn0 : n0 ≤ 300) (hn1 : n1 ≤ 500)
    (HP : Hid (∀ w', Kp No W w' → Calls Try.prog 6 #[.slice A1 n1 c1] w' (PqPost w' Q1 0)))
    (HR : Hid (∀ w', Kp No W w' → Calls Try.prog 7 #[.slice A1 n1 c1] w' (PfPost w' Q1 true))) :
    Calls Try.prog 3 #[rqV q (.slice A0 n0 c0), .slice A1 n1 c1] W (TruePost W) := by
  obtain ⟨num, k, s, l, data⟩ := q
  obtain ⟨num1, k1, s1, l1, d1⟩ := Q1
  have HL0 := hide hq.len
  have HQ := hide (fun w' (kk : Kp No W w') => hq.no kk)
  have HF := hide hf
  have HF1 := hide hf1
  have HD0 : Hid (data.length ≤ 300) := by show _ ≤ _; have := hq.len; dsimp only at this; omega
  clear hq hf hf1
  obtain ⟨r, hr⟩ : ∃ r, r = RgtB k l n0 := ⟨_, rfl⟩
  have hRT : ∀ w', Calls Try.prog 10 #[rqV ⟨num, k, s, l, data⟩ (.slice A0 n0 c0)] w' (RtPostK w' r) := fun w' => by rw [hr]; exact right15_any ⟨num, k, s, l, data⟩ A0 n0 c0
  have hRF : ∀ w', Calls Try.prog 11 #[rqV ⟨num, k, s, l, data⟩ (.slice A0 n0 c0)] w' (RtPostK w' r) := fun w' => by rw [hr]; exact rright15_any ⟨num, k, s, l, data⟩ A0 n0 c0
  have hN1 : ∀ nm, nm = nmK k → ∀ w', Calls Try.prog 12 #[.int .i64 k] w' (fun e w1 => e = .returned (.string nm) ∧ w' = w1) := fun nm hnm w' => by rw [hnm]; exact name_any k
  have hN2 : ∀ nm, nm = nmK k → ∀ w', Calls Try.prog 13 #[.int .i64 k] w' (fun e w1 => e = .returned (.string nm) ∧ Kp No w' w1) := fun nm hnm w' => by rw [hnm]; exact rname_any k
  obtain ⟨nm, hnm⟩ : ∃ nm, nm = nmK k := ⟨_, rfl⟩
  have HRG : Hid (RgtB k l n0 = r) := hr.symm
  have HRT := hide hRT
  have HRF := hide hRF
  have HN1 := hide (hN1 nm hnm)
  have HN2 := hide (hN2 nm hnm)
  clear hRT hRF hN1 hN2 hr hnm
  have B0 : Bx8 29 (W.alloc (.cells #[.int .u64 (num : Int), .int .i64 k, .int .u32 (cO s : Int), .int .u16 (cS s : Int), .int .u16 (cL s : Int), .int .u32 (cG s : Int), .int .u16 (l : Int), .slice A0 n0 c0] 29)) W.heap.size (.int .u64 (num : Int)) (.int .i64 k) (.int .u32 (cO s : Int)) (.int .u16 (cS s : Int)) (.int .u16 (cL s : Int)) (.int .u32 (cG s : Int)) (.int .u16 (l : Int)) (.slice A0 n0 c0) := Bx8.new W _ _ _ _ _ _ _ _ _
  have K0 : Kp No W (W.alloc (.cells #[.int .u64 (num : Int), .int .i64 k, .int .u32 (cO s : Int), .int .u16 (cS s : Int), .int .u16 (cL s : Int), .int .u32 (cG s : Int), .int .u16 (l : Int), .slice A0 n0 c0] 29)) := Kp.alloc No W _
  have HB0 := hide (And.intro B0 K0)
  clear B0 K0
  have q0 : ¬ (300 : Int) < (n0 : Int) := by omega
  have q1 : ¬ (500 : Int) < (n1 : Int) := by omega
  go_enter Try.func3, Try.ntmps3
  go_wp2_with fail
  refine (HP.out _ HB0.out.2).mono ?_
  rintro e w1 ⟨A2, n2, c2, rfl, hB1, h1⟩
  have kx := Kp.alloc No w1 (.cells #[.int .u64 (num1 : Int), .int .i64 k1, .int .u32 (cO s1 : Int), .int .u16 (cS s1 : Int), .int .u16 (cL s1 : Int), .int .u32 (cG s1 : Int), .int .u16 (l1 : Int), .slice A2 n2 c2] 31)
  have X1 : Bx8 31 (w1.alloc (.cells #[.int .u64 (num1 : Int), .int .i64 k1, .int .u32 (cO s1 : Int), .int .u16 (cS s1 : Int), .int .u16 (cL s1 : Int), .int .u32 (cG s1 : Int), .int .u16 (l1 : Int), .slice A2 n2 c2] 31)) w1.heap.size (.int .u64 (num1 : Int)) (.int .i64 k1) (.int .u32 (cO s1 : Int)) (.int .u16 (cS s1 : Int)) (.int .u16 (cL s1 : Int)) (.int .u32 (cG s1 : Int)) (.int .u16 (l1 : Int)) (.slice A2 n2 c2) := Bx8.new w1 _ _ _ _ _ _ _ _ _
  have HX := hide (And.intro X1 (And.intro ((HB0.out.1.no h1).no kx) (And.intro ((HB0.out.2.trans' h1).trans' kx) (hB1.no kx))))
  clear hB1 h1 kx X1 HB0
  go_wp2_with fail
  refine (HR.out _ HX.out.2.2.1).mono ?_
  rintro e w2 ⟨A3, n3, c3, rfl, hB2, h2⟩
  have ky := Kp.alloc No w2 (.cells #[.int .u64 (num1 : Int), .int .i64 k1, .int .u32 (cO s1 : Int), .int .u16 (cS s1 : Int), .int .u16 (cL s1 : Int), .int .u32 (cG s1 : Int), .int .u16 (l1 : Int), .slice A3 n3 c3] 29)
  have Y1 : Bx8 29 (w2.alloc (.cells #[.int .u64 (num1 : Int), .int .i64 k1, .int .u32 (cO s1 : Int), .int .u16 (cS s1 : Int), .int .u16 (cL s1 : Int), .int .u32 (cG s1 : Int), .int .u16 (l1 : Int), .slice A3 n3 c3] 29)) w2.heap.size (.int .u64 (num1 : Int)) (.int .i64 k1) (.int .u32 (cO s1 : Int)) (.int .u16 (cS s1 : Int)) (.int .u16 (cL s1 : Int)) (.int .u32 (cG s1 : Int)) (.int .u16 (l1 : Int)) (.slice A3 n3 c3) := Bx8.new w2 _ _ _ _ _ _ _ _ _
  have kk := h2.trans' ky
  have HQB := hide (HX.out.2.1.no kk)
  have HC := hide (cells24 (HX.out.1.no kk) Y1 HQB.out)
  have HK3 := hide (HX.out.2.2.1.trans' kk)
  have HB1 := hide (HX.out.2.2.2.no kk)
  have HB2 := hide (hB2.no ky)
  clear hB2 h2 ky Y1 kk HX
  go_wp2_with fail
  obtain ⟨b0, hb0⟩ : ∃ b0, b0 = W.heap.size := ⟨_, rfl⟩
  obtain ⟨b1, hb1⟩ : ∃ b1, b1 = w1.heap.size := ⟨_, rfl⟩
  obtain ⟨b2, hb2⟩ : ∃ b2, b2 = w2.heap.size := ⟨_, rfl⟩
  rw [← hb0, ← hb1, ← hb2] at HC
  rw [← hb0] at HQB
  rw [← hb0, ← hb1, ← hb2]
  clear hb0 hb1 hb2
  generalize w2.alloc (.cells #[.int .u64 (num1 : Int), .int .i64 k1, .int .u32 (cO s1 : Int), .int .u16 (cS s1 : Int), .int .u16 (cL s1 : Int), .int .u32 (cG s1 : Int), .int .u16 (l1 : Int), .slice A3 n3 c3] 29) = w3 at *

  refine wp_region_noPanic ?_
  refine wp_region_held_drew (S := fun w' => w'.cell? ⟨b1, 0, none⟩ = some (.int .u64 (num1 : Int)) ∧ w'.cell? ⟨b1, 1, none⟩ = some (.int .i64 k1) ∧ w'.cell? ⟨b1, 2, none⟩ = some (.int .u32 (cO s1 : Int)) ∧ w'.cell? ⟨b1, 3, none⟩ = some (.int .u16 (cS s1 : Int)) ∧ w'.cell? ⟨b1, 4, none⟩ = some (.int .u16 (cL s1 : Int)) ∧ w'.cell? ⟨b1, 5, none⟩ = some (.int .u32 (cG s1 : Int)) ∧ w'.cell? ⟨b1, 6, none⟩ = some (.int .u16 (l1 : Int)) ∧ w'.cell? ⟨b1, 7, none⟩ = some (.slice A2 n2 c2) ∧ w'.cell? ⟨b2, 0, none⟩ = some (.int .u64 (num1 : Int)) ∧ w'.cell? ⟨b2, 1, none⟩ = some (.int .i64 k1) ∧ w'.cell? ⟨b2, 2, none⟩ = some (.int .u32 (cO s1 : Int)) ∧ w'.cell? ⟨b2, 3, none⟩ = some (.int .u16 (cS s1 : Int)) ∧ w'.cell? ⟨b2, 4, none⟩ = some (.int .u16 (cL s1 : Int)) ∧ w'.cell? ⟨b2, 5, none⟩ = some (.int .u32 (cG s1 : Int)) ∧ w'.cell? ⟨b2, 6, none⟩ = some (.int .u16 (l1 : Int)) ∧ w'.cell? ⟨b2, 7, none⟩ = some (.slice A3 n3 c3) ∧ w'.cell? ⟨b0, 0, none⟩ = some (.int .u64 (num : Int)) ∧ w'.cell? ⟨b0, 1, none⟩ = some (.int .i64 k) ∧ w'.cell? ⟨b0, 2, none⟩ = some (.int .u32 (cO s : Int)) ∧ w'.cell? ⟨b0, 3, none⟩ = some (.int .u16 (cS s : Int)) ∧ w'.cell? ⟨b0, 4, none⟩ = some (.int .u16 (cL s : Int)) ∧ w'.cell? ⟨b0, 5, none⟩ = some (.int .u32 (cG s : Int)) ∧ w'.cell? ⟨b0, 6, none⟩ = some (.int .u16 (l : Int)) ∧ w'.cell? ⟨b0, 7, none⟩ = some (.slice A0 n0 c0)) (by kernel_rfl) (kept24 ((Kp.refl No w3).drew) HC.out) (fun hHeld => ?_)
  refine wpAnyH_take (i := 0) (v := ?va1x1) (oi := ?oa1x1) ?ha1x1 (by kernel_rfl) (by kernel_rfl) (by kernel_rfl) (fun _ _ _ h => h) (Or.inl ⟨?wa1x1, ?ya1x1⟩) hHeld ?ra1x1
  case ha1x1 => simp only [List.getElem?_toArray, List.getElem?_cons_zero, List.getElem?_cons_succ]; rfl
  case wa1x1 => rfl
  case ya1x1 => intro w hSw; (try dsimp only at hSw); go_simp; (try with_reducible rfl)
  simp only [Act.put, List.setIfInBounds_toArray, List.set_cons_zero, List.set_cons_succ]
  refine wpAnyH_take (i := 1) (v := ?va1x2) (oi := ?oa1x2) ?ha1x2 (by kernel_rfl) (by kernel_rfl) (by kernel_rfl) (fun _ _ _ h => h) (Or.inl ⟨?wa1x2, ?ya1x2⟩) hHeld ?ra1x2
  case ha1x2 => simp only [List.getElem?_toArray, List.getElem?_cons_zero, List.getElem?_cons_succ]; rfl
  case wa1x2 => rfl
  case ya1x2 => intro w hSw; (try dsimp only at hSw); go_simp; (try with_reducible rfl)
  simp only [Act.put, List.setIfInBounds_toArray, List.set_cons_zero, List.set_cons_succ]
  refine wpAnyH_ready (rs := [2]) (by kernel_rfl) (by simp) ?_
  refine AllReadyH.cons (o := ?oa1x3) ?ha1x3 (fun K hK => ?sa1x3) AllReadyH.nil
  case ha1x3 => simp only [List.getElem?_toArray, List.getElem?_cons_zero, List.getElem?_cons_succ]; rfl
  go_simp
  refine (is15_any ⟨num1, k1, s1, l1, d1⟩ HF1.out (HB1.out.drew) (HB2.out.drew)).mono ?_
  rintro e w4 ⟨rfl, k4⟩
  have K4 : Kp No w3 w4 := ((Kp.refl No w3).drew).trans' k4
  go_wp2_with fail
  refine hK.out _ _ (kept24 k4 hHeld) (fun hHeld => ?_)
  clear hK K
  try simp only [Act.put, List.setIfInBounds_toArray, List.set_cons_zero, List.set_cons_succ]
  refine wpAnyH_take (i := 3) (v := ?va1x4) (oi := ?oa1x4) ?ha1x4 (by kernel_rfl) (by kernel_rfl) (by kernel_rfl) (fun _ _ _ h => h) (Or.inl ⟨?wa1x4, ?ya1x4⟩) hHeld ?ra1x4
  case ha1x4 => simp only [List.getElem?_toArray, List.getElem?_cons_zero, List.getElem?_cons_succ]; rfl
  case wa1x4 => rfl
  case ya1x4 => intro w hSw; (try dsimp only at hSw); go_simp; (try with_reducible rfl)
  simp only [Act.put, List.setIfInBounds_toArray, List.set_cons_zero, List.set_cons_succ]
  refine wpAnyH_take (i := 4) (v := ?va1x5) (oi := ?oa1x5) ?ha1x5 (by kernel_rfl) (by kernel_rfl) (by kernel_rfl) (fun _ _ _ h => h) (Or.inl ⟨?wa1x5, ?ya1x5⟩) hHeld ?ra1x5
  case ha1x5 => simp only [List.getElem?_toArray, List.getElem?_cons_zero, List.getElem?_cons_succ]; rfl
  case wa1x5 => rfl
  case ya1x5 => intro w hSw; (try dsimp only at hSw); go_simp; (try with_reducible rfl)
  simp only [Act.put, List.setIfInBounds_toArray, List.set_cons_zero, List.set_cons_succ]
  refine wpAnyH_take (i := 5) (v := ?va1x6) (oi := ?oa1x6) ?ha1x6 (by kernel_rfl) (by kernel_rfl) (by kernel_rfl) (fun _ _ _ h => h) (Or.inl ⟨?wa1x6, ?ya1x6⟩) hHeld ?ra1x6
  case ha1x6 => simp only [List.getElem?_toArray, List.getElem?_cons_zero, List.getElem?_cons_succ]; rfl
  case wa1x6 => rfl
  case ya1x6 => intro w hSw; (try dsimp only at hSw); go_simp; (try with_reducible rfl)
  simp only [Act.put, List.setIfInBounds_toArray, List.set_cons_zero, List.set_cons_succ]
  refine wpAnyH_take (i := 6) (v := ?va1x7) (oi := ?oa1x7) ?ha1x7 (by kernel_rfl) (by kernel_rfl) (by kernel_rfl) (fun _ _ _ h => h) (Or.inl ⟨?wa1x7, ?ya1x7⟩) hHeld ?ra1x7
  case ha1x7 => simp only [List.getElem?_toArray, List.getElem?_cons_zero, List.getElem?_cons_succ]; rfl
  case wa1x7 => rfl
  case ya1x7 => intro w hSw; (try dsimp only at hSw); go_simp; (try with_reducible rfl)
  simp only [Act.put, List.setIfInBounds_toArray, List.set_cons_zero, List.set_cons_succ]
  refine wpAnyH_take (i := 7) (v := ?va1x8) (oi := ?oa1x8) ?ha1x8 (by kernel_rfl) (by kernel_rfl) (by kernel_rfl) (fun _ _ _ h => h) (Or.inl ⟨?wa1x8, ?ya1x8⟩) hHeld ?ra1x8
  case ha1x8 => simp only [List.getElem?_toArray, List.getElem?_cons_zero, List.getElem?_cons_succ]; rfl
  case wa1x8 => rfl
  case ya1x8 => intro w hSw; (try dsimp only at hSw); go_simp; (try with_reducible rfl)
  simp only [Act.put, List.setIfInBounds_toArray, List.set_cons_zero, List.set_cons_succ]
  refine wpAnyH_take (i := 8) (v := ?va1x9) (oi := ?oa1x9) ?ha1x9 (by kernel_rfl) (by kernel_rfl) (by kernel_rfl) (fun _ _ _ h => h) (Or.inl ⟨?wa1x9, ?ya1x9⟩) hHeld ?ra1x9
  case ha1x9 => simp only [List.getElem?_toArray, List.getElem?_cons_zero, List.getElem?_cons_succ]; rfl
  case wa1x9 => rfl
  case ya1x9 => intro w hSw; (try dsimp only at hSw); go_simp; (try with_reducible rfl)
  simp only [Act.put, List.setIfInBounds_toArray, List.set_cons_zero, List.set_cons_succ]
  refine wpAnyH_take (i := 9) (v := ?va1x10) (oi := ?oa1x10) ?ha1x10 (by kernel_rfl) (by kernel_rfl) (by kernel_rfl) (fun _ _ _ h => h) (Or.inl ⟨?wa1x10, ?ya1x10⟩) hHeld ?ra1x10
  case ha1x10 => simp only [List.getElem?_toArray, List.getElem?_cons_zero, List.getElem?_cons_succ]; rfl
  case wa1x10 => rfl
  case ya1x10 => intro w hSw; (try dsimp only at hSw); go_simp; (try with_reducible rfl)
  simp only [Act.put, List.setIfInBounds_toArray, List.set_cons_zero, List.set_cons_succ]
  refine wpAnyH_take (i := 10) (v := ?va1x11) (oi := ?oa1x11) ?ha1x11 (by kernel_rfl) (by kernel_rfl) (by kernel_rfl) (fun _ _ _ h => h) (Or.inl ⟨?wa1x11, ?ya1x11⟩) hHeld ?ra1x11
  case ha1x11 => simp only [List.getElem?_toArray, List.getElem?_cons_zero, List.getElem?_cons_succ]; rfl
  case wa1x11 => rfl
  case ya1x11 => intro w hSw; (try dsimp only at hSw); go_simp; (try with_reducible rfl)
  simp only [Act.put, List.setIfInBounds_toArray, List.set_cons_zero, List.set_cons_succ]
  refine wpAnyH_take (i := 11) (v := ?va1x12) (oi := ?oa1x12) ?ha1x12 (by kernel_rfl) (by kernel_rfl) (by kernel_rfl) (fun _ _ _ h => h) (Or.inl ⟨?wa1x12, ?ya1x12⟩) hHeld ?ra1x12
  case ha1x12 => simp only [List.getElem?_toArray, List.getElem?_cons_zero, List.getElem?_cons_succ]; rfl
  case wa1x12 => rfl
  case ya1x12 => intro w hSw; (try dsimp only at hSw); go_simp; (try with_reducible rfl)
  simp only [Act.put, List.setIfInBounds_toArray, List.set_cons_zero, List.set_cons_succ]
  refine wpAnyH_take (i := 12) (v := ?va1x13) (oi := ?oa1x13) ?ha1x13 (by kernel_rfl) (by kernel_rfl) (by kernel_rfl) (fun _ _ _ h => h) (Or.inl ⟨?wa1x13, ?ya1x13⟩) hHeld ?ra1x13
  case ha1x13 => simp only [List.getElem?_toArray, List.getElem?_cons_zero, List.getElem?_cons_succ]; rfl
  case wa1x13 => rfl
  case ya1x13 => intro w hSw; (try dsimp only at hSw); go_simp; (try with_reducible rfl)
  simp only [Act.put, List.setIfInBounds_toArray, List.set_cons_zero, List.set_cons_succ]
  refine wpAnyH_take (i := 13) (v := ?va1x14) (oi := ?oa1x14) ?ha1x14 (by kernel_rfl) (by kernel_rfl) (by kernel_rfl) (fun _ _ _ h => h) (Or.inl ⟨?wa1x14, ?ya1x14⟩) hHeld ?ra1x14
  case ha1x14 => simp only [List.getElem?_toArray, List.getElem?_cons_zero, List.getElem?_cons_succ]; rfl
  case wa1x14 => rfl
  case ya1x14 => intro w hSw; (try dsimp only at hSw); go_simp; (try with_reducible rfl)
  simp only [Act.put, List.setIfInBounds_toArray, List.set_cons_zero, List.set_cons_succ]
  refine wpAnyH_take (i := 14) (v := undef) (oi := ?oa1x15) ?ha1x15 (by kernel_rfl) (by kernel_rfl) (by kernel_rfl) (fun _ _ _ h => h) (Or.inr ⟨?wa1x15, rfl⟩) hHeld ?ra1x15
  case ha1x15 => simp only [List.getElem?_toArray, List.getElem?_cons_zero, List.getElem?_cons_succ]; rfl
  case wa1x15 => rfl
  simp only [Act.put, List.setIfInBounds_toArray, List.set_cons_zero, List.set_cons_succ]
  refine wpAnyH_take (i := 15) (v := undef) (oi := ?oa1x16) ?ha1x16 (by kernel_rfl) (by kernel_rfl) (by kernel_rfl) (fun _ _ _ h => h) (Or.inr ⟨?wa1x16, rfl⟩) hHeld ?ra1x16
  case ha1x16 => simp only [List.getElem?_toArray, List.getElem?_cons_zero, List.getElem?_cons_succ]; rfl
  case wa1x16 => rfl
  simp only [Act.put, List.setIfInBounds_toArray, List.set_cons_zero, List.set_cons_succ]
  refine wpAnyH_take (i := 16) (v := ?va1x17) (oi := ?oa1x17) ?ha1x17 (by kernel_rfl) (by kernel_rfl) (by kernel_rfl) (fun _ _ _ h => h) (Or.inl ⟨?wa1x17, ?ya1x17⟩) hHeld ?ra1x17
  case ha1x17 => simp only [List.getElem?_toArray, List.getElem?_cons_zero, List.getElem?_cons_succ]; rfl
  case wa1x17 => rfl
  case ya1x17 => intro w hSw; (try dsimp only at hSw); go_simp; (try with_reducible rfl)
  simp only [Act.put, List.setIfInBounds_toArray, List.set_cons_zero, List.set_cons_succ]
  refine wpAnyH_take (i := 17) (v := ?va1x18) (oi := ?oa1x18) ?ha1x18 (by kernel_rfl) (by kernel_rfl) (by kernel_rfl) (fun _ _ _ h => h) (Or.inl ⟨?wa1x18, ?ya1x18⟩) hHeld ?ra1x18
  case ha1x18 => simp only [List.getElem?_toArray, List.getElem?_cons_zero, List.getElem?_cons_succ]; rfl
  case wa1x18 => rfl
  case ya1x18 => intro w hSw; (try dsimp only at hSw); go_simp; (try with_reducible rfl)
  simp only [Act.put, List.setIfInBounds_toArray, List.set_cons_zero, List.set_cons_succ]
  refine wpAnyH_take (i := 18) (v := ?va1x19) (oi := ?oa1x19) ?ha1x19 (by kernel_rfl) (by kernel_rfl) (by kernel_rfl) (fun _ _ _ h => h) (Or.inl ⟨?wa1x19, ?ya1x19⟩) hHeld ?ra1x19
  case ha1x19 => simp only [List.getElem?_toArray, List.getElem?_cons_zero, List.getElem?_cons_succ]; rfl
  case wa1x19 => rfl
  case ya1x19 => intro w hSw; (try dsimp only at hSw); go_simp; (try with_reducible rfl)
  simp only [Act.put, List.setIfInBounds_toArray, List.set_cons_zero, List.set_cons_succ]
  refine wpAnyH_take (i := 19) (v := ?va1x20) (oi := ?oa1x20) ?ha1x20 (by kernel_rfl) (by kernel_rfl) (by kernel_rfl) (fun _ _ _ h => h) (Or.inl ⟨?wa1x20, ?ya1x20⟩) hHeld ?ra1x20
  case ha1x20 => simp only [List.getElem?_toArray, List.getElem?_cons_zero, List.getElem?_cons_succ]; rfl
  case wa1x20 => rfl
  case ya1x20 => intro w hSw; (try dsimp only at hSw); go_simp; (try with_reducible rfl)
  simp only [Act.put, List.setIfInBounds_toArray, List.set_cons_zero, List.set_cons_succ]
  refine wpAnyH_take (i := 22) (v := ?va1x21) (oi := ?oa1x21) ?ha1x21 (by kernel_rfl) (by kernel_rfl) (by kernel_rfl) (fun _ _ _ h => h) (Or.inl ⟨?wa1x21, ?ya1x21⟩) hHeld ?ra1x21
  case ha1x21 => simp only [List.getElem?_toArray, List.getElem?_cons_zero, List.getElem?_cons_succ]; rfl
  case wa1x21 => rfl
  case ya1x21 => intro w hSw; (try dsimp only at hSw); go_simp; (try with_reducible rfl)
  simp only [Act.put, List.setIfInBounds_toArray, List.set_cons_zero, List.set_cons_succ]
  refine wpAnyH_ready (rs := [20]) (by kernel_rfl) (by simp) ?_
  refine AllReadyH.cons (o := ?oa1x22) ?ha1x22 (fun K hK => ?sa1x22) AllReadyH.nil
  case ha1x22 => simp only [List.getElem?_toArray, List.getElem?_cons_zero, List.getElem?_cons_succ]; rfl
  go_simp
  refine (to15_any ⟨num, k, s, l, data⟩ A0 n0 c0).mono ?_
  rintro e w5 ⟨rfl, k5⟩
  have K5 := K4.trans' k5
  go_wp2_with fail
  refine hK.out _ _ (kept24 k5 hHeld) (fun hHeld => ?_)
  clear hK K
  try simp only [Act.put, List.setIfInBounds_toArray, List.set_cons_zero, List.set_cons_succ]
  refine wpAnyH_ready (rs := [21]) (by kernel_rfl) (by simp) ?_
  refine AllReadyH.cons (o := ?oa1x23) ?ha1x23 (fun K hK => ?sa1x23) AllReadyH.nil
  case ha1x23 => simp only [List.getElem?_toArray, List.getElem?_cons_zero, List.getElem?_cons_succ]; rfl
  go_simp
  refine (HRT.out _).mono ?_
  rintro e w6 ⟨rfl, k6⟩
  have K6 := K5.trans' k6
  go_wp2_with fail
  refine hK.out _ _ (kept24 k6 hHeld) (fun hHeld => ?_)
  clear hK K
  try simp only [Act.put, List.setIfInBounds_toArray, List.set_cons_zero, List.set_cons_succ]
  refine wpAnyH_ready (rs := [23]) (by kernel_rfl) (by simp) ?_
  refine AllReadyH.cons (o := ?oa1x24) ?ha1x24 (fun K hK => ?sa1x24) AllReadyH.nil
  case ha1x24 => simp only [List.getElem?_toArray, List.getElem?_cons_zero, List.getElem?_cons_succ]; rfl
  go_simp
  refine (HRF.out _).mono ?_
  rintro e w7 ⟨rfl, k7⟩
  have K7 := K6.trans' k7
  go_wp2_with fail
  refine hK.out _ _ (kept24 k7 hHeld) (fun hHeld => ?_)
  clear hK K
  try simp only [Act.put, List.setIfInBounds_toArray, List.set_cons_zero, List.set_cons_succ]
  refine wpAnyH_take (i := 24) (v := ?va1x25) (oi := ?oa1x25) ?ha1x25 (by kernel_rfl) (by kernel_rfl) (by kernel_rfl) (fun _ _ _ h => h) (Or.inl ⟨?wa1x25, ?ya1x25⟩) hHeld ?ra1x25
  case ha1x25 => simp only [List.getElem?_toArray, List.getElem?_cons_zero, List.getElem?_cons_succ]; rfl
  case wa1x25 => rfl
  case ya1x25 => intro w hSw; (try dsimp only at hSw); go_simp; (try with_reducible rfl)
  simp only [Act.put, List.setIfInBounds_toArray, List.set_cons_zero, List.set_cons_succ]
  refine wpAnyH_take (i := 25) (v := ?va1x26) (oi := ?oa1x26) ?ha1x26 (by kernel_rfl) (by kernel_rfl) (by kernel_rfl) (fun _ _ _ h => h) (Or.inl ⟨?wa1x26, ?ya1x26⟩) hHeld ?ra1x26
  case ha1x26 => simp only [List.getElem?_toArray, List.getElem?_cons_zero, List.getElem?_cons_succ]; rfl
  case wa1x26 => rfl
  case ya1x26 => intro w hSw; (try dsimp only at hSw); go_simp; (try with_reducible rfl)
  simp only [Act.put, List.setIfInBounds_toArray, List.set_cons_zero, List.set_cons_succ]
  refine wpAnyH_take (i := 26) (v := ?va1x27) (oi := ?oa1x27) ?ha1x27 (by kernel_rfl) (by kernel_rfl) (by kernel_rfl) (fun _ _ _ h => h) (Or.inl ⟨?wa1x27, ?ya1x27⟩) hHeld ?ra1x27
  case ha1x27 => simp only [List.getElem?_toArray, List.getElem?_cons_zero, List.getElem?_cons_succ]; rfl
  case wa1x27 => rfl
  case ya1x27 => intro w hSw; (try dsimp only at hSw); go_simp; (try with_reducible rfl)
  simp only [Act.put, List.setIfInBounds_toArray, List.set_cons_zero, List.set_cons_succ]
  refine wpAnyH_take (i := 27) (v := ?va1x28) (oi := ?oa1x28) ?ha1x28 (by kernel_rfl) (by kernel_rfl) (by kernel_rfl) (fun _ _ _ h => h) (Or.inl ⟨?wa1x28, ?ya1x28⟩) hHeld ?ra1x28
  case ha1x28 => simp only [List.getElem?_toArray, List.getElem?_cons_zero, List.getElem?_cons_succ]; rfl
  case wa1x28 => rfl
  case ya1x28 => intro w hSw; (try dsimp only at hSw); go_simp; (try with_reducible rfl)
  simp only [Act.put, List.setIfInBounds_toArray, List.set_cons_zero, List.set_cons_succ]
  refine wpAnyH_take (i := 28) (v := ?va1x29) (oi := ?oa1x29) ?ha1x29 (by kernel_rfl) (by kernel_rfl) (by kernel_rfl) (fun _ _ _ h => h) (Or.inl ⟨?wa1x29, ?ya1x29⟩) hHeld ?ra1x29
  case ha1x29 => simp only [List.getElem?_toArray, List.getElem?_cons_zero, List.getElem?_cons_succ]; rfl
  case wa1x29 => rfl
  case ya1x29 => intro w hSw; (try dsimp only at hSw); go_simp; (try with_reducible rfl)
  simp only [Act.put, List.setIfInBounds_toArray, List.set_cons_zero, List.set_cons_succ]
  refine wpAnyH_take (i := 30) (v := ?va1x30) (oi := ?oa1x30) ?ha1x30 (by kernel_rfl) (by kernel_rfl) (by kernel_rfl) (fun _ _ _ h => h) (Or.inl ⟨?wa1x30, ?ya1x30⟩) hHeld ?ra1x30
  case ha1x30 => simp only [List.getElem?_toArray, List.getElem?_cons_zero, List.getElem?_cons_succ]; rfl
  case wa1x30 => rfl
  case ya1x30 => intro w hSw; (try dsimp only at hSw); go_simp; (try with_reducible rfl)
  simp only [Act.put, List.setIfInBounds_toArray, List.set_cons_zero, List.set_cons_succ]
  refine wpAnyH_take (i := 31) (v := ?va1x31) (oi := ?oa1x31) ?ha1x31 (by kernel_rfl) (by kernel_rfl) (by kernel_rfl) (fun _ _ _ h => h) (Or.inl ⟨?wa1x31, ?ya1x31⟩) hHeld ?ra1x31
  case ha1x31 => simp only [List.getElem?_toArray, List.getElem?_cons_zero, List.getElem?_cons_succ]; rfl
  case wa1x31 => rfl
  case ya1x31 => intro w hSw; (try dsimp only at hSw); go_simp; (try with_reducible rfl)
  simp only [Act.put, List.setIfInBounds_toArray, List.set_cons_zero, List.set_cons_succ]
  refine wpAnyH_ready (rs := [29]) (by kernel_rfl) (by simp) ?_
  refine AllReadyH.cons (o := ?oa1x32) ?ha1x32 (fun K hK => ?sa1x32) AllReadyH.nil
  case ha1x32 => simp only [List.getElem?_toArray, List.getElem?_cons_zero, List.getElem?_cons_succ]; rfl
  go_simp
  refine (HN1.out _).mono ?_
  rintro e w8 ⟨rfl, rfl⟩
  go_wp2_with fail
  refine hK.out _ _ (hHeld) (fun hHeld => ?_)
  clear hK K
  try simp only [Act.put, List.setIfInBounds_toArray, List.set_cons_zero, List.set_cons_succ]
  refine wpAnyH_ready (rs := [32]) (by kernel_rfl) (by simp) ?_
  refine AllReadyH.cons (o := ?oa1x33) ?ha1x33 (fun K hK => ?sa1x33) AllReadyH.nil
  case ha1x33 => simp only [List.getElem?_toArray, List.getElem?_cons_zero, List.getElem?_cons_succ]; rfl
  go_simp
  refine (HN2.out _).mono ?_
  rintro e w8 ⟨rfl, k8⟩
  have K8 := K7.trans' k8
  go_wp2_with fail
  refine hK.out _ _ (kept24 k8 hHeld) (fun hHeld => ?_)
  clear hK K
  try simp only [Act.put, List.setIfInBounds_toArray, List.set_cons_zero, List.set_cons_succ]
  refine wpAnyH_take (i := 33) (v := ?va1x34) (oi := ?oa1x34) ?ha1x34 (by kernel_rfl) (by kernel_rfl) (by kernel_rfl) (fun _ _ _ h => h) (Or.inl ⟨?wa1x34, ?ya1x34⟩) hHeld ?ra1x34
  case ha1x34 => simp only [List.getElem?_toArray, List.getElem?_cons_zero, List.getElem?_cons_succ]; rfl
  case wa1x34 => rfl
  case ya1x34 => intro w hSw; (try dsimp only at hSw); go_simp; (try with_reducible rfl)
  simp only [Act.put, List.setIfInBounds_toArray, List.set_cons_zero, List.set_cons_succ]
  refine wpAnyH_take (i := 34) (v := ?va1x35) (oi := ?oa1x35) ?ha1x35 (by kernel_rfl) (by kernel_rfl) (by kernel_rfl) (fun _ _ _ h => h) (Or.inl ⟨?wa1x35, ?ya1x35⟩) hHeld ?ra1x35
  case ha1x35 => simp only [List.getElem?_toArray, List.getElem?_cons_zero, List.getElem?_cons_succ]; rfl
  case wa1x35 => rfl
  case ya1x35 => intro w hSw; (try dsimp only at hSw); go_simp; (try with_reducible rfl)
  simp only [Act.put, List.setIfInBounds_toArray, List.set_cons_zero, List.set_cons_succ]
  refine wpAnyH_done (by kernel_rfl) ?_ _
  refine NoPanic.normal ?_
  have QB := (HQB.out.no K8)
  have HK8 := hide (HK3.out.trans' K8)
  have HQ8 := hide QB
  obtain ⟨p0, p1, p2, p3, p4, p5, p6, p7⟩ := QB.cell
  clear K4 K5 K6 K7 K8 k4 k5 k6 k7 k8 QB hHeld
  go_wp2_with fail
  refine (to15_any ⟨num, k, s, l, data⟩ A0 n0 c0).mono ?_
  rintro e w10 ⟨rfl, k10⟩
  have HK10 := hide (HK8.out.trans' k10)
  have HQ10 := hide (HQ8.out.no k10)
  clear k10 p0 p1 p2 p3 p4 p5 p6 p7
  go_wp2_with fail
  rcases r with _ | _
  · refine (bytes15_no ⟨num, k, s, l, data⟩ A0 n0 c0 HRG.out).mono ?_
    rintro e w11 ⟨rfl, k11⟩
    have HK11 := hide (HK10.out.trans' k11)
    obtain ⟨p0, p1, p2, p3, p4, p5, p6, p7⟩ := (HQ10.out.no k11).cell
    clear k11
    go_wp2_with fail
    refine (HRF.out _).mono ?_
    rintro e w12 ⟨rfl, k12⟩
    have HK12 := hide (HK11.out.trans' k12)
    clear k12 p0 p1 p2 p3 p4 p5 p6 p7
    go_wp2_with fail
    refine (awake15_any _).mono ?_
    rintro e w13 ⟨rfl, k13⟩
    go_wp2_with fail
    go_ret
    exact ⟨rfl, HK12.out.trans' k13⟩
  · have HRG : Hid (Rq.rgt ⟨num, k, s, l, data⟩ = true) := by show _ = _; have h1 := HRG.out; rw [HL0.out] at h1; exact h1
    refine (bytes15_any ⟨num, k, s, l, data⟩ HF.out HRG.out (HQ.out _ HK10.out) (Nat.le_trans hn0 (by decide))).mono ?_
    rintro e w11 ⟨A7, n7, c7, rfl, ho, k11⟩
    have HK11 := hide (HK10.out.trans' k11)
    have hQ11 := HQ10.out.no k11
    have hQ11' := hide hQ11
    obtain ⟨p0, p1, p2, p3, p4, p5, p6, p7⟩ := hQ11.cell
    have HO11 := hide ho
    clear k11 ho hQ11
    go_wp2_with fail
    refine (HRF.out _).mono ?_
    rintro e w12 ⟨rfl, k12⟩
    have HK12 := hide (HK11.out.trans' k12)
    have HQ12 := hide (hQ11'.out.no k12)
    have HO12 := hide (HO11.out.no k12)
    clear k12 p0 p1 p2 p3 p4 p5 p6 p7
    go_wp2_with fail
    refine (parse15_any HO12.out.bts (by rw [Rq.bytes_len]; have := HD0.out; dsimp only; omega) ⟨num, k, s, l, data⟩ 0 (fun _ => ⟨(Rq.back HF.out HRG.out).symm, rfl⟩) (fun h => by rw [Rq.read HF.out HRG.out] at h; cases h)).mono ?_
    rintro e w13 ⟨A8, n8, c8, rfl, hB8, k13⟩
    have kz := Kp.alloc No w13 (.cells #[.int .u64 (num : Int), .int .i64 k, .int .u32 (cO s : Int), .int .u16 (cS s : Int), .int .u16 (cL s : Int), .int .u32 (cG s : Int), .int .u16 (l : Int), .slice A8 n8 c8] 31)
    have Z14 : Bx8 31 (w13.alloc (.cells #[.int .u64 (num : Int), .int .i64 k, .int .u32 (cO s : Int), .int .u16 (cS s : Int), .int .u16 (cL s : Int), .int .u32 (cG s : Int), .int .u16 (l : Int), .slice A8 n8 c8] 31)) w13.heap.size (.int .u64 (num : Int)) (.int .i64 k) (.int .u32 (cO s : Int)) (.int .u16 (cS s : Int)) (.int .u16 (cL s : Int)) (.int .u32 (cG s : Int)) (.int .u16 (l : Int)) (.slice A8 n8 c8) := Bx8.new w13 _ _ _ _ _ _ _ _ _
    have HC14 := hide (cells16 Z14 ((HQ12.out.no k13).no kz))
    have HK14 := hide ((HK12.out.trans' k13).trans' kz)
    have HO := hide ((HO12.out.no k13).no kz)
    have HB8 := hide (hB8.no kz)
    clear hB8 k13 kz Z14 HO12 HQ12 HK12 HO11 HK11 hQ11'
    go_wp2_with fail
    obtain ⟨b3, hb3⟩ : ∃ b3, b3 = w13.heap.size := ⟨_, rfl⟩
    rw [← hb3] at HC14 ⊢
    generalize w13.alloc (.cells #[.int .u64 (num : Int), .int .i64 k, .int .u32 (cO s : Int), .int .u16 (cS s : Int), .int .u16 (cL s : Int), .int .u32 (cG s : Int), .int .u16 (l : Int), .slice A8 n8 c8] 31) = w14 at *
    clear hb3
    obtain ⟨tb, htb⟩ : ∃ tb, tb = strOf (Rq.bytes ⟨num, k, s, l, data⟩) := ⟨_, rfl⟩
    have HTB := hide htb
    clear htb
    have v1 := conv_bts (HO.out.no ((Kp.refl No w14).drew)).bts
    rw [← HTB.out] at v1
    refine wp_region_noPanic ?_
    refine wp_region_held_drew (S := fun w' => w'.cell? ⟨b3, 0, none⟩ = some (.int .u64 (num : Int)) ∧ w'.cell? ⟨b3, 1, none⟩ = some (.int .i64 k) ∧ w'.cell? ⟨b3, 2, none⟩ = some (.int .u32 (cO s : Int)) ∧ w'.cell? ⟨b3, 3, none⟩ = some (.int .u16 (cS s : Int)) ∧ w'.cell? ⟨b3, 4, none⟩ = some (.int .u16 (cL s : Int)) ∧ w'.cell? ⟨b3, 5, none⟩ = some (.int .u32 (cG s : Int)) ∧ w'.cell? ⟨b3, 6, none⟩ = some (.int .u16 (l : Int)) ∧ w'.cell? ⟨b3, 7, none⟩ = some (.slice A8 n8 c8) ∧ w'.cell? ⟨b0, 0, none⟩ = some (.int .u64 (num : Int)) ∧ w'.cell? ⟨b0, 1, none⟩ = some (.int .i64 k) ∧ w'.cell? ⟨b0, 2, none⟩ = some (.int .u32 (cO s : Int)) ∧ w'.cell? ⟨b0, 3, none⟩ = some (.int .u16 (cS s : Int)) ∧ w'.cell? ⟨b0, 4, none⟩ = some (.int .u16 (cL s : Int)) ∧ w'.cell? ⟨b0, 5, none⟩ = some (.int .u32 (cG s : Int)) ∧ w'.cell? ⟨b0, 6, none⟩ = some (.int .u16 (l : Int)) ∧ w'.cell? ⟨b0, 7, none⟩ = some (.slice A0 n0 c0)) (by kernel_rfl) (kept16 ((Kp.refl No w14).drew) HC14.out) (fun hHeld => ?_)
    refine wpAnyH_take (i := 0) (v := ?vr1x1) (oi := ?or1x1) ?hr1x1 (by kernel_rfl) (by kernel_rfl) (by kernel_rfl) (fun _ _ _ h => h) (Or.inl ⟨?wr1x1, ?yr1x1⟩) hHeld ?rr1x1
    case hr1x1 => simp only [List.getElem?_toArray, List.getElem?_cons_zero, List.getElem?_cons_succ]; rfl
    case wr1x1 => rfl
    case yr1x1 => intro w hSw; (try dsimp only at hSw); go_simp; (try with_reducible rfl)
    simp only [Act.put, List.setIfInBounds_toArray, List.set_cons_zero, List.set_cons_succ]
    refine wpAnyH_take (i := 2) (v := ?vr1x2) (oi := ?or1x2) ?hr1x2 (by kernel_rfl) (by kernel_rfl) (by kernel_rfl) (fun _ _ _ h => h) (Or.inl ⟨?wr1x2, ?yr1x2⟩) hHeld ?rr1x2
    case hr1x2 => simp only [List.getElem?_toArray, List.getElem?_cons_zero, List.getElem?_cons_succ]; rfl
    case wr1x2 => rfl
    case yr1x2 => intro w hSw; (try dsimp only at hSw); go_simp; (try with_reducible rfl)
    simp only [Act.put, List.setIfInBounds_toArray, List.set_cons_zero, List.set_cons_succ]
    refine wpAnyH_ready (rs := [1, 3]) (by kernel_rfl) (by simp) ?_
    refine (AllReadyH.cons (o := ?or1x4) ?hr1x4 (fun K hK => ?sr1x4) (AllReadyH.cons (o := ?or1x5) ?hr1x5 (fun K hK => ?sr1x5) AllReadyH.nil))
    case hr1x4 => simp only [List.getElem?_toArray, List.getElem?_cons_zero, List.getElem?_cons_succ]; rfl
    case hr1x5 => simp only [List.getElem?_toArray, List.getElem?_cons_zero, List.getElem?_cons_succ]; rfl
    case sr1x4 =>
      go_simp
      refine hK.out _ _ (hHeld) (fun hHeld => ?_)
      clear hK K
      try simp only [Act.put, List.setIfInBounds_toArray, List.set_cons_zero, List.set_cons_succ]
      refine wpAnyH_ready (rs := [3]) (by kernel_rfl) (by simp) ?_
      refine AllReadyH.cons (o := ?or1x6) ?hr1x6 (fun K hK => ?sr1x6) AllReadyH.nil
      case hr1x6 => simp only [List.getElem?_toArray, List.getElem?_cons_zero, List.getElem?_cons_succ]; rfl
      go_simp
      refine (rbytes15_any ⟨num, k, s, l, data⟩ HF.out HRG.out (HQ.out _ (HK14.out.drew)) (Nat.le_trans hn0 (by decide))).mono ?_
      rintro e w15 ⟨A9, n9, c9, rfl, o9, k15⟩
      have K15 : Kp No w14 w15 := ((Kp.refl No w14).drew).trans' k15
      have v2 := conv_bts o9.bts
      rw [← HTB.out] at v2
      go_wp2_with fail
      refine hK.out _ _ (kept16 k15 hHeld) (fun hHeld => ?_)
      clear hK K
      try simp only [Act.put, List.setIfInBounds_toArray, List.set_cons_zero, List.set_cons_succ]
      refine wpAnyH_ready (rs := [4]) (by kernel_rfl) (by simp) ?_
      refine AllReadyH.cons (o := ?or1x7) ?hr1x7 (fun K hK => ?sr1x7) AllReadyH.nil
      case hr1x7 => simp only [List.getElem?_toArray, List.getElem?_cons_zero, List.getElem?_cons_succ]; rfl
      go_simp
      refine hK.out _ _ (hHeld) (fun hHeld => ?_)
      clear hK K
      try simp only [Act.put, List.setIfInBounds_toArray, List.set_cons_zero, List.set_cons_succ]
      refine wpAnyH_take (i := 5) (v := ?vr1x8) (oi := ?or1x8) ?hr1x8 (by kernel_rfl) (by kernel_rfl) (by kernel_rfl) (fun _ _ _ h => h) (Or.inl ⟨?wr1x8, ?yr1x8⟩) hHeld ?rr1x8
      case hr1x8 => simp only [List.getElem?_toArray, List.getElem?_cons_zero, List.getElem?_cons_succ]; rfl
      case wr1x8 => rfl
      case yr1x8 => intro w hSw; (try dsimp only at hSw); go_simp; (try with_reducible rfl)
      simp only [Act.put, List.setIfInBounds_toArray, List.set_cons_zero, List.set_cons_succ]
      refine wpAnyH_take (i := 6) (v := ?vr1x9) (oi := ?or1x9) ?hr1x9 (by kernel_rfl) (by kernel_rfl) (by kernel_rfl) (fun _ _ _ h => h) (Or.inl ⟨?wr1x9, ?yr1x9⟩) hHeld ?rr1x9
      case hr1x9 => simp only [List.getElem?_toArray, List.getElem?_cons_zero, List.getElem?_cons_succ]; rfl
      case wr1x9 => rfl
      case yr1x9 => intro w hSw; (try dsimp only at hSw); go_simp; (try with_reducible rfl)
      simp only [Act.put, List.setIfInBounds_toArray, List.set_cons_zero, List.set_cons_succ]
      refine wpAnyH_take (i := 7) (v := ?vr1x10) (oi := ?or1x10) ?hr1x10 (by kernel_rfl) (by kernel_rfl) (by kernel_rfl) (fun _ _ _ h => h) (Or.inl ⟨?wr1x10, ?yr1x10⟩) hHeld ?rr1x10
      case hr1x10 => simp only [List.getElem?_toArray, List.getElem?_cons_zero, List.getElem?_cons_succ]; rfl
      case wr1x10 => rfl
      case yr1x10 => intro w hSw; (try dsimp only at hSw); go_simp; (try with_reducible rfl)
      simp only [Act.put, List.setIfInBounds_toArray, List.set_cons_zero, List.set_cons_succ]
      refine wpAnyH_take (i := 8) (v := ?vr1x11) (oi := ?or1x11) ?hr1x11 (by kernel_rfl) (by kernel_rfl) (by kernel_rfl) (fun _ _ _ h => h) (Or.inl ⟨?wr1x11, ?yr1x11⟩) hHeld ?rr1x11
      case hr1x11 => simp only [List.getElem?_toArray, List.getElem?_cons_zero, List.getElem?_cons_succ]; rfl
      case wr1x11 => rfl
      case yr1x11 => intro w hSw; (try dsimp only at hSw); go_simp; (try with_reducible rfl)
      simp only [Act.put, List.setIfInBounds_toArray, List.set_cons_zero, List.set_cons_succ]
      refine wpAnyH_ready (rs := [9]) (by kernel_rfl) (by simp) ?_
      refine AllReadyH.cons (o := ?or1x12) ?hr1x12 (fun K hK => ?sr1x12) AllReadyH.nil
      case hr1x12 => simp only [List.getElem?_toArray, List.getElem?_cons_zero, List.getElem?_cons_succ]; rfl
      go_simp
      refine (is15_any ⟨num, k, s, l, data⟩ HF.out (HB8.out.no K15) (HQ.out _ (HK14.out.trans' K15))).mono ?_
      rintro e w16 ⟨rfl, k16⟩
      have K16 := K15.trans' k16
      go_wp2_with fail
      refine hK.out _ _ (kept16 k16 hHeld) (fun hHeld => ?_)
      clear hK K
      try simp only [Act.put, List.setIfInBounds_toArray, List.set_cons_zero, List.set_cons_succ]
      refine wpAnyH_take (i := 10) (v := ?vr1x13) (oi := ?or1x13) ?hr1x13 (by kernel_rfl) (by kernel_rfl) (by kernel_rfl) (fun _ _ _ h => h) (Or.inl ⟨?wr1x13, ?yr1x13⟩) hHeld ?rr1x13
      case hr1x13 => simp only [List.getElem?_toArray, List.getElem?_cons_zero, List.getElem?_cons_succ]; rfl
      case wr1x13 => rfl
      case yr1x13 => intro w hSw; (try dsimp only at hSw); go_simp; (try with_reducible rfl)
      simp only [Act.put, List.setIfInBounds_toArray, List.set_cons_zero, List.set_cons_succ]
      refine wpAnyH_take (i := 11) (v := ?vr1x14) (oi := ?or1x14) ?hr1x14 (by kernel_rfl) (by kernel_rfl) (by kernel_rfl) (fun _ _ _ h => h) (Or.inl ⟨?wr1x14, ?yr1x14⟩) hHeld ?rr1x14
      case hr1x14 => simp only [List.getElem?_toArray, List.getElem?_cons_zero, List.getElem?_cons_succ]; rfl
      case wr1x14 => rfl
      case yr1x14 => intro w hSw; (try dsimp only at hSw); go_simp; (try with_reducible rfl)
      simp only [Act.put, List.setIfInBounds_toArray, List.set_cons_zero, List.set_cons_succ]
      refine wpAnyH_take (i := 12) (v := ?vr1x15) (oi := ?or1x15) ?hr1x15 (by kernel_rfl) (by kernel_rfl) (by kernel_rfl) (fun _ _ _ h => h) (Or.inl ⟨?wr1x15, ?yr1x15⟩) hHeld ?rr1x15
      case hr1x15 => simp only [List.getElem?_toArray, List.getElem?_cons_zero, List.getElem?_cons_succ]; rfl
      case wr1x15 => rfl
      case yr1x15 => intro w hSw; (try dsimp only at hSw); go_simp; (try with_reducible rfl)
      simp only [Act.put, List.setIfInBounds_toArray, List.set_cons_zero, List.set_cons_succ]
      refine wpAnyH_take (i := 13) (v := ?vr1x16) (oi := ?or1x16) ?hr1x16 (by kernel_rfl) (by kernel_rfl) (by kernel_rfl) (fun _ _ _ h => h) (Or.inl ⟨?wr1x16, ?yr1x16⟩) hHeld ?rr1x16
      case hr1x16 => simp only [List.getElem?_toArray, List.getElem?_cons_zero, List.getElem?_cons_succ]; rfl
      case wr1x16 => rfl
      case yr1x16 => intro w hSw; (try dsimp only at hSw); go_simp; (try with_reducible rfl)
      simp only [Act.put, List.setIfInBounds_toArray, List.set_cons_zero, List.set_cons_succ]
      refine wpAnyH_take (i := 14) (v := ?vr1x17) (oi := ?or1x17) ?hr1x17 (by kernel_rfl) (by kernel_rfl) (by kernel_rfl) (fun _ _ _ h => h) (Or.inl ⟨?wr1x17, ?yr1x17⟩) hHeld ?rr1x17
      case hr1x17 => simp only [List.getElem?_toArray, List.getElem?_cons_zero, List.getElem?_cons_succ]; rfl
      case wr1x17 => rfl
      case yr1x17 => intro w hSw; (try dsimp only at hSw); go_simp; (try with_reducible rfl)
      simp only [Act.put, List.setIfInBounds_toArray, List.set_cons_zero, List.set_cons_succ]
      refine wpAnyH_take (i := 15) (v := ?vr1x18) (oi := ?or1x18) ?hr1x18 (by kernel_rfl) (by kernel_rfl) (by kernel_rfl) (fun _ _ _ h => h) (Or.inl ⟨?wr1x18, ?yr1x18⟩) hHeld ?rr1x18
      case hr1x18 => simp only [List.getElem?_toArray, List.getElem?_cons_zero, List.getElem?_cons_succ]; rfl
      case wr1x18 => rfl
      case yr1x18 => intro w hSw; (try dsimp only at hSw); go_simp; (try with_reducible rfl)
      simp only [Act.put, List.setIfInBounds_toArray, List.set_cons_zero, List.set_cons_succ]
      refine wpAnyH_ready (rs := [16]) (by kernel_rfl) (by simp) ?_
      refine AllReadyH.cons (o := ?or1x19) ?hr1x19 (fun K hK => ?sr1x19) AllReadyH.nil
      case hr1x19 => simp only [List.getElem?_toArray, List.getElem?_cons_zero, List.getElem?_cons_succ]; rfl
      go_simp
      refine (awake15_any _).mono ?_
      rintro e w17 ⟨rfl, k17⟩
      have K17 := K16.trans' k17
      go_wp2_with fail
      refine hK.out _ _ (kept16 k17 hHeld) (fun hHeld => ?_)
      clear hK K
      try simp only [Act.put, List.setIfInBounds_toArray, List.set_cons_zero, List.set_cons_succ]
      refine wpAnyH_take (i := 17) (v := ?vr1x20) (oi := ?or1x20) ?hr1x20 (by kernel_rfl) (by kernel_rfl) (by kernel_rfl) (fun _ _ _ h => h) (Or.inl ⟨?wr1x20, ?yr1x20⟩) hHeld ?rr1x20
      case hr1x20 => simp only [List.getElem?_toArray, List.getElem?_cons_zero, List.getElem?_cons_succ]; rfl
      case wr1x20 => rfl
      case yr1x20 => intro w hSw; (try dsimp only at hSw); go_simp; (try with_reducible rfl)
      simp only [Act.put, List.setIfInBounds_toArray, List.set_cons_zero, List.set_cons_succ]
      refine wpAnyH_take (i := 18) (v := ?vr1x21) (oi := ?or1x21) ?hr1x21 (by kernel_rfl) (by kernel_rfl) (by kernel_rfl) (fun _ _ _ h => h) (Or.inl ⟨?wr1x21, ?yr1x21⟩) hHeld ?rr1x21
      case hr1x21 => simp only [List.getElem?_toArray, List.getElem?_cons_zero, List.getElem?_cons_succ]; rfl
      case wr1x21 => rfl
      case yr1x21 => intro w hSw; (try dsimp only at hSw); go_simp; (try with_reducible rfl)
      simp only [Act.put, List.setIfInBounds_toArray, List.set_cons_zero, List.set_cons_succ]
      refine wpAnyH_done (by kernel_rfl) ?_ _
      refine NoPanic.normal ?_
      go_wp2_with fail
      go_ret
      exact ⟨rfl, HK14.out.trans' K17⟩
    case sr1x5 =>
      go_simp
      refine (rbytes15_any ⟨num, k, s, l, data⟩ HF.out HRG.out (HQ.out _ (HK14.out.drew)) (Nat.le_trans hn0 (by decide))).mono ?_
      rintro e w15 ⟨A9, n9, c9, rfl, o9, k15⟩
      have K15 : Kp No w14 w15 := ((Kp.refl No w14).drew).trans' k15
      have v2 := conv_bts o9.bts
      rw [← HTB.out] at v2
      have v1 := conv_bts (HO.out.no K15).bts
      rw [← HTB.out] at v1
      go_wp2_with fail
      refine hK.out _ _ (kept16 k15 hHeld) (fun hHeld => ?_)
      clear hK K
      try simp only [Act.put, List.setIfInBounds_toArray, List.set_cons_zero, List.set_cons_succ]
      refine wpAnyH_ready (rs := [1, 4]) (by kernel_rfl) (by simp) ?_
      refine (AllReadyH.cons (o := ?or1x24) ?hr1x24 (fun K hK => ?sr1x24) (AllReadyH.cons (o := ?or1x25) ?hr1x25 (fun K hK => ?sr1x25) AllReadyH.nil))
      case hr1x24 => simp only [List.getElem?_toArray, List.getElem?_cons_zero, List.getElem?_cons_succ]; rfl
      case hr1x25 => simp only [List.getElem?_toArray, List.getElem?_cons_zero, List.getElem?_cons_succ]; rfl
      case sr1x24 =>
        go_simp
        refine hK.out _ _ (hHeld) (fun hHeld => ?_)
        clear hK K
        try simp only [Act.put, List.setIfInBounds_toArray, List.set_cons_zero, List.set_cons_succ]
        refine wpAnyH_ready (rs := [4]) (by kernel_rfl) (by simp) ?_
        refine AllReadyH.cons (o := ?or1x26) ?hr1x26 (fun K hK => ?sr1x26) AllReadyH.nil
        case hr1x26 => simp only [List.getElem?_toArray, List.getElem?_cons_zero, List.getElem?_cons_succ]; rfl
        go_simp
        refine hK.out _ _ (hHeld) (fun hHeld => ?_)
        clear hK K
        try simp only [Act.put, List.setIfInBounds_toArray, List.set_cons_zero, List.set_cons_succ]
        refine wpAnyH_take (i := 5) (v := ?vr1x27) (oi := ?or1x27) ?hr1x27 (by kernel_rfl) (by kernel_rfl) (by kernel_rfl) (fun _ _ _ h => h) (Or.inl ⟨?wr1x27, ?yr1x27⟩) hHeld ?rr1x27
        case hr1x27 => simp only [List.getElem?_toArray, List.getElem?_cons_zero, List.getElem?_cons_succ]; rfl
        case wr1x27 => rfl
        case yr1x27 => intro w hSw; (try dsimp only at hSw); go_simp; (try with_reducible rfl)
        simp only [Act.put, List.setIfInBounds_toArray, List.set_cons_zero, List.set_cons_succ]
        refine wpAnyH_take (i := 6) (v := ?vr1x28) (oi := ?or1x28) ?hr1x28 (by kernel_rfl) (by kernel_rfl) (by kernel_rfl) (fun _ _ _ h => h) (Or.inl ⟨?wr1x28, ?yr1x28⟩) hHeld ?rr1x28
        case hr1x28 => simp only [List.getElem?_toArray, List.getElem?_cons_zero, List.getElem?_cons_succ]; rfl
        case wr1x28 => rfl
        case yr1x28 => intro w hSw; (try dsimp only at hSw); go_simp; (try with_reducible rfl)
        simp only [Act.put, List.setIfInBounds_toArray, List.set_cons_zero, List.set_cons_succ]
        refine wpAnyH_take (i := 7) (v := ?vr1x29) (oi := ?or1x29) ?hr1x29 (by kernel_rfl) (by kernel_rfl) (by kernel_rfl) (fun _ _ _ h => h) (Or.inl ⟨?wr1x29, ?yr1x29⟩) hHeld ?rr1x29
        case hr1x29 => simp only [List.getElem?_toArray, List.getElem?_cons_zero, List.getElem?_cons_succ]; rfl
        case wr1x29 => rfl
        case yr1x29 => intro w hSw; (try dsimp only at hSw); go_simp; (try with_reducible rfl)
        simp only [Act.put, List.setIfInBounds_toArray, List.set_cons_zero, List.set_cons_succ]
        refine wpAnyH_take (i := 8) (v := ?vr1x30) (oi := ?or1x30) ?hr1x30 (by kernel_rfl) (by kernel_rfl) (by kernel_rfl) (fun _ _ _ h => h) (Or.inl ⟨?wr1x30, ?yr1x30⟩) hHeld ?rr1x30
        case hr1x30 => simp only [List.getElem?_toArray, List.getElem?_cons_zero, List.getElem?_cons_succ]; rfl
        case wr1x30 => rfl
        case yr1x30 => intro w hSw; (try dsimp only at hSw); go_simp; (try with_reducible rfl)
        simp only [Act.put, List.setIfInBounds_toArray, List.set_cons_zero, List.set_cons_succ]
        refine wpAnyH_ready (rs := [9]) (by kernel_rfl) (by simp) ?_
        refine AllReadyH.cons (o := ?or1x31) ?hr1x31 (fun K hK => ?sr1x31) AllReadyH.nil
        case hr1x31 => simp only [List.getElem?_toArray, List.getElem?_cons_zero, List.getElem?_cons_succ]; rfl
        go_simp
        refine (is15_any ⟨num, k, s, l, data⟩ HF.out (HB8.out.no K15) (HQ.out _ (HK14.out.trans' K15))).mono ?_
        rintro e w16 ⟨rfl, k16⟩
        have K16 := K15.trans' k16
        go_wp2_with fail
        refine hK.out _ _ (kept16 k16 hHeld) (fun hHeld => ?_)
        clear hK K
        try simp only [Act.put, List.setIfInBounds_toArray, List.set_cons_zero, List.set_cons_succ]
        refine wpAnyH_take (i := 10) (v := ?vr1x32) (oi := ?or1x32) ?hr1x32 (by kernel_rfl) (by kernel_rfl) (by kernel_rfl) (fun _ _ _ h => h) (Or.inl ⟨?wr1x32, ?yr1x32⟩) hHeld ?rr1x32
        case hr1x32 => simp only [List.getElem?_toArray, List.getElem?_cons_zero, List.getElem?_cons_succ]; rfl
        case wr1x32 => rfl
        case yr1x32 => intro w hSw; (try dsimp only at hSw); go_simp; (try with_reducible rfl)
        simp only [Act.put, List.setIfInBounds_toArray, List.set_cons_zero, List.set_cons_succ]
        refine wpAnyH_take (i := 11) (v := ?vr1x33) (oi := ?or1x33) ?hr1x33 (by kernel_rfl) (by kernel_rfl) (by kernel_rfl) (fun _ _ _ h => h) (Or.inl ⟨?wr1x33, ?yr1x33⟩) hHeld ?rr1x33
        case hr1x33 => simp only [List.getElem?_toArray, List.getElem?_cons_zero, List.getElem?_cons_succ]; rfl
        case wr1x33 => rfl
        case yr1x33 => intro w hSw; (try dsimp only at hSw); go_simp; (try with_reducible rfl)
        simp only [Act.put, List.setIfInBounds_toArray, List.set_cons_zero, List.set_cons_succ]
        refine wpAnyH_take (i := 12) (v := ?vr1x34) (oi := ?or1x34) ?hr1x34 (by kernel_rfl) (by kernel_rfl) (by kernel_rfl) (fun _ _ _ h => h) (Or.inl ⟨?wr1x34, ?yr1x34⟩) hHeld ?rr1x34
        case hr1x34 => simp only [List.getElem?_toArray, List.getElem?_cons_zero, List.getElem?_cons_succ]; rfl
        case wr1x34 => rfl
        case yr1x34 => intro w hSw; (try dsimp only at hSw); go_simp; (try with_reducible rfl)
        simp only [Act.put, List.setIfInBounds_toArray, List.set_cons_zero, List.set_cons_succ]
        refine wpAnyH_take (i := 13) (v := ?vr1x35) (oi := ?or1x35) ?hr1x35 (by kernel_rfl) (by kernel_rfl) (by kernel_rfl) (fun _ _ _ h => h) (Or.inl ⟨?wr1x35, ?yr1x35⟩) hHeld ?rr1x35
        case hr1x35 => simp only [List.getElem?_toArray, List.getElem?_cons_zero, List.getElem?_cons_succ]; rfl
        case wr1x35 => rfl
        case yr1x35 => intro w hSw; (try dsimp only at hSw); go_simp; (try with_reducible rfl)
        simp only [Act.put, List.setIfInBounds_toArray, List.set_cons_zero, List.set_cons_succ]
        refine wpAnyH_take (i := 14) (v := ?vr1x36) (oi := ?or1x36) ?hr1x36 (by kernel_rfl) (by kernel_rfl) (by kernel_rfl) (fun _ _ _ h => h) (Or.inl ⟨?wr1x36, ?yr1x36⟩) hHeld ?rr1x36
        case hr1x36 => simp only [List.getElem?_toArray, List.getElem?_cons_zero, List.getElem?_cons_succ]; rfl
        case wr1x36 => rfl
        case yr1x36 => intro w hSw; (try dsimp only at hSw); go_simp; (try with_reducible rfl)
        simp only [Act.put, List.setIfInBounds_toArray, List.set_cons_zero, List.set_cons_succ]
        refine wpAnyH_take (i := 15) (v := ?vr1x37) (oi := ?or1x37) ?hr1x37 (by kernel_rfl) (by kernel_rfl) (by kernel_rfl) (fun _ _ _ h => h) (Or.inl ⟨?wr1x37, ?yr1x37⟩) hHeld ?rr1x37
        case hr1x37 => simp only [List.getElem?_toArray, List.getElem?_cons_zero, List.getElem?_cons_succ]; rfl
        case wr1x37 => rfl
        case yr1x37 => intro w hSw; (try dsimp only at hSw); go_simp; (try with_reducible rfl)
        simp only [Act.put, List.setIfInBounds_toArray, List.set_cons_zero, List.set_cons_succ]
        refine wpAnyH_ready (rs := [16]) (by kernel_rfl) (by simp) ?_
        refine AllReadyH.cons (o := ?or1x38) ?hr1x38 (fun K hK => ?sr1x38) AllReadyH.nil
        case hr1x38 => simp only [List.getElem?_toArray, List.getElem?_cons_zero, List.getElem?_cons_succ]; rfl
        go_simp
        refine (awake15_any _).mono ?_
        rintro e w17 ⟨rfl, k17⟩
        have K17 := K16.trans' k17
        go_wp2_with fail
        refine hK.out _ _ (kept16 k17 hHeld) (fun hHeld => ?_)
        clear hK K
        try simp only [Act.put, List.setIfInBounds_toArray, List.set_cons_zero, List.set_cons_succ]
        refine wpAnyH_take (i := 17) (v := ?vr1x39) (oi := ?or1x39) ?hr1x39 (by kernel_rfl) (by kernel_rfl) (by kernel_rfl) (fun _ _ _ h => h) (Or.inl ⟨?wr1x39, ?yr1x39⟩) hHeld ?rr1x39
        case hr1x39 => simp only [List.getElem?_toArray, List.getElem?_cons_zero, List.getElem?_cons_succ]; rfl
        case wr1x39 => rfl
        case yr1x39 => intro w hSw; (try dsimp only at hSw); go_simp; (try with_reducible rfl)
        simp only [Act.put, List.setIfInBounds_toArray, List.set_cons_zero, List.set_cons_succ]
        refine wpAnyH_take (i := 18) (v := ?vr1x40) (oi := ?or1x40) ?hr1x40 (by kernel_rfl) (by kernel_rfl) (by kernel_rfl) (fun _ _ _ h => h) (Or.inl ⟨?wr1x40, ?yr1x40⟩) hHeld ?rr1x40
        case hr1x40 => simp only [List.getElem?_toArray, List.getElem?_cons_zero, List.getElem?_cons_succ]; rfl
        case wr1x40 => rfl
        case yr1x40 => intro w hSw; (try dsimp only at hSw); go_simp; (try with_reducible rfl)
        simp only [Act.put, List.setIfInBounds_toArray, List.set_cons_zero, List.set_cons_succ]
        refine wpAnyH_done (by kernel_rfl) ?_ _
        refine NoPanic.normal ?_
        go_wp2_with fail
        go_ret
        exact ⟨rfl, HK14.out.trans' K17⟩
      case sr1x25 =>
        go_simp
        refine hK.out _ _ (hHeld) (fun hHeld => ?_)
        clear hK K
        try simp only [Act.put, List.setIfInBounds_toArray, List.set_cons_zero, List.set_cons_succ]
        refine wpAnyH_ready (rs := [1]) (by kernel_rfl) (by simp) ?_
        refine AllReadyH.cons (o := ?or1x42) ?hr1x42 (fun K hK => ?sr1x42) AllReadyH.nil
        case hr1x42 => simp only [List.getElem?_toArray, List.getElem?_cons_zero, List.getElem?_cons_succ]; rfl
        go_simp
        refine hK.out _ _ (hHeld) (fun hHeld => ?_)
        clear hK K
        try simp only [Act.put, List.setIfInBounds_toArray, List.set_cons_zero, List.set_cons_succ]
        refine wpAnyH_take (i := 5) (v := ?vr1x43) (oi := ?or1x43) ?hr1x43 (by kernel_rfl) (by kernel_rfl) (by kernel_rfl) (fun _ _ _ h => h) (Or.inl ⟨?wr1x43, ?yr1x43⟩) hHeld ?rr1x43
        case hr1x43 => simp only [List.getElem?_toArray, List.getElem?_cons_zero, List.getElem?_cons_succ]; rfl
        case wr1x43 => rfl
        case yr1x43 => intro w hSw; (try dsimp only at hSw); go_simp; (try with_reducible rfl)
        simp only [Act.put, List.setIfInBounds_toArray, List.set_cons_zero, List.set_cons_succ]
        refine wpAnyH_take (i := 6) (v := ?vr1x44) (oi := ?or1x44) ?hr1x44 (by kernel_rfl) (by kernel_rfl) (by kernel_rfl) (fun _ _ _ h => h) (Or.inl ⟨?wr1x44, ?yr1x44⟩) hHeld ?rr1x44
        case hr1x44 => simp only [List.getElem?_toArray, List.getElem?_cons_zero, List.getElem?_cons_succ]; rfl
        case wr1x44 => rfl
        case yr1x44 => intro w hSw; (try dsimp only at hSw); go_simp; (try with_reducible rfl)
        simp only [Act.put, List.setIfInBounds_toArray, List.set_cons_zero, List.set_cons_succ]
        refine wpAnyH_take (i := 7) (v := ?vr1x45) (oi := ?or1x45) ?hr1x45 (by kernel_rfl) (by kernel_rfl) (by kernel_rfl) (fun _ _ _ h => h) (Or.inl ⟨?wr1x45, ?yr1x45⟩) hHeld ?rr1x45
        case hr1x45 => simp only [List.getElem?_toArray, List.getElem?_cons_zero, List.getElem?_cons_succ]; rfl
        case wr1x45 => rfl
        case yr1x45 => intro w hSw; (try dsimp only at hSw); go_simp; (try with_reducible rfl)
        simp only [Act.put, List.setIfInBounds_toArray, List.set_cons_zero, List.set_cons_succ]
        refine wpAnyH_take (i := 8) (v := ?vr1x46) (oi := ?or1x46) ?hr1x46 (by kernel_rfl) (by kernel_rfl) (by kernel_rfl) (fun _ _ _ h => h) (Or.inl ⟨?wr1x46, ?yr1x46⟩) hHeld ?rr1x46
        case hr1x46 => simp only [List.getElem?_toArray, List.getElem?_cons_zero, List.getElem?_cons_succ]; rfl
        case wr1x46 => rfl
        case yr1x46 => intro w hSw; (try dsimp only at hSw); go_simp; (try with_reducible rfl)
        simp only [Act.put, List.setIfInBounds_toArray, List.set_cons_zero, List.set_cons_succ]
        refine wpAnyH_ready (rs := [9]) (by kernel_rfl) (by simp) ?_
        refine AllReadyH.cons (o := ?or1x47) ?hr1x47 (fun K hK => ?sr1x47) AllReadyH.nil
        case hr1x47 => simp only [List.getElem?_toArray, List.getElem?_cons_zero, List.getElem?_cons_succ]; rfl
        go_simp
        refine (is15_any ⟨num, k, s, l, data⟩ HF.out (HB8.out.no K15) (HQ.out _ (HK14.out.trans' K15))).mono ?_
        rintro e w16 ⟨rfl, k16⟩
        have K16 := K15.trans' k16
        go_wp2_with fail
        refine hK.out _ _ (kept16 k16 hHeld) (fun hHeld => ?_)
        clear hK K
        try simp only [Act.put, List.setIfInBounds_toArray, List.set_cons_zero, List.set_cons_succ]
        refine wpAnyH_take (i := 10) (v := ?vr1x48) (oi := ?or1x48) ?hr1x48 (by kernel_rfl) (by kernel_rfl) (by kernel_rfl) (fun _ _ _ h => h) (Or.inl ⟨?wr1x48, ?yr1x48⟩) hHeld ?rr1x48
        case hr1x48 => simp only [List.getElem?_toArray, List.getElem?_cons_zero, List.getElem?_cons_succ]; rfl
        case wr1x48 => rfl
        case yr1x48 => intro w hSw; (try dsimp only at hSw); go_simp; (try with_reducible rfl)
        simp only [Act.put, List.setIfInBounds_toArray, List.set_cons_zero, List.set_cons_succ]
        refine wpAnyH_take (i := 11) (v := ?vr1x49) (oi := ?or1x49) ?hr1x49 (by kernel_rfl) (by kernel_rfl) (by kernel_rfl) (fun _ _ _ h => h) (Or.inl ⟨?wr1x49, ?yr1x49⟩) hHeld ?rr1x49
        case hr1x49 => simp only [List.getElem?_toArray, List.getElem?_cons_zero, List.getElem?_cons_succ]; rfl
        case wr1x49 => rfl
        case yr1x49 => intro w hSw; (try dsimp only at hSw); go_simp; (try with_reducible rfl)
        simp only [Act.put, List.setIfInBounds_toArray, List.set_cons_zero, List.set_cons_succ]
        refine wpAnyH_take (i := 12) (v := ?vr1x50) (oi := ?or1x50) ?hr1x50 (by kernel_rfl) (by kernel_rfl) (by kernel_rfl) (fun _ _ _ h => h) (Or.inl ⟨?wr1x50, ?yr1x50⟩) hHeld ?rr1x50
        case hr1x50 => simp only [List.getElem?_toArray, List.getElem?_cons_zero, List.getElem?_cons_succ]; rfl
        case wr1x50 => rfl
        case yr1x50 => intro w hSw; (try dsimp only at hSw); go_simp; (try with_reducible rfl)
        simp only [Act.put, List.setIfInBounds_toArray, List.set_cons_zero, List.set_cons_succ]
        refine wpAnyH_take (i := 13) (v := ?vr1x51) (oi := ?or1x51) ?hr1x51 (by kernel_rfl) (by kernel_rfl) (by kernel_rfl) (fun _ _ _ h => h) (Or.inl ⟨?wr1x51, ?yr1x51⟩) hHeld ?rr1x51
        case hr1x51 => simp only [List.getElem?_toArray, List.getElem?_cons_zero, List.getElem?_cons_succ]; rfl
        case wr1x51 => rfl
        case yr1x51 => intro w hSw; (try dsimp only at hSw); go_simp; (try with_reducible rfl)
        simp only [Act.put, List.setIfInBounds_toArray, List.set_cons_zero, List.set_cons_succ]
        refine wpAnyH_take (i := 14) (v := ?vr1x52) (oi := ?or1x52) ?hr1x52 (by kernel_rfl) (by kernel_rfl) (by kernel_rfl) (fun _ _ _ h => h) (Or.inl ⟨?wr1x52, ?yr1x52⟩) hHeld ?rr1x52
        case hr1x52 => simp only [List.getElem?_toArray, List.getElem?_cons_zero, List.getElem?_cons_succ]; rfl
        case wr1x52 => rfl
        case yr1x52 => intro w hSw; (try dsimp only at hSw); go_simp; (try with_reducible rfl)
        simp only [Act.put, List.setIfInBounds_toArray, List.set_cons_zero, List.set_cons_succ]
        refine wpAnyH_take (i := 15) (v := ?vr1x53) (oi := ?or1x53) ?hr1x53 (by kernel_rfl) (by kernel_rfl) (by kernel_rfl) (fun _ _ _ h => h) (Or.inl ⟨?wr1x53, ?yr1x53⟩) hHeld ?rr1x53
        case hr1x53 => simp only [List.getElem?_toArray, List.getElem?_cons_zero, List.getElem?_cons_succ]; rfl
        case wr1x53 => rfl
        case yr1x53 => intro w hSw; (try dsimp only at hSw); go_simp; (try with_reducible rfl)
        simp only [Act.put, List.setIfInBounds_toArray, List.set_cons_zero, List.set_cons_succ]
        refine wpAnyH_ready (rs := [16]) (by kernel_rfl) (by simp) ?_
        refine AllReadyH.cons (o := ?or1x54) ?hr1x54 (fun K hK => ?sr1x54) AllReadyH.nil
        case hr1x54 => simp only [List.getElem?_toArray, List.getElem?_cons_zero, List.getElem?_cons_succ]; rfl
        go_simp
        refine (awake15_any _).mono ?_
        rintro e w17 ⟨rfl, k17⟩
        have K17 := K16.trans' k17
        go_wp2_with fail
        refine hK.out _ _ (kept16 k17 hHeld) (fun hHeld => ?_)
        clear hK K
        try simp only [Act.put, List.setIfInBounds_toArray, List.set_cons_zero, List.set_cons_succ]
        refine wpAnyH_take (i := 17) (v := ?vr1x55) (oi := ?or1x55) ?hr1x55 (by kernel_rfl) (by kernel_rfl) (by kernel_rfl) (fun _ _ _ h => h) (Or.inl ⟨?wr1x55, ?yr1x55⟩) hHeld ?rr1x55
        case hr1x55 => simp only [List.getElem?_toArray, List.getElem?_cons_zero, List.getElem?_cons_succ]; rfl
        case wr1x55 => rfl
        case yr1x55 => intro w hSw; (try dsimp only at hSw); go_simp; (try with_reducible rfl)
        simp only [Act.put, List.setIfInBounds_toArray, List.set_cons_zero, List.set_cons_succ]
        refine wpAnyH_take (i := 18) (v := ?vr1x56) (oi := ?or1x56) ?hr1x56 (by kernel_rfl) (by kernel_rfl) (by kernel_rfl) (fun _ _ _ h => h) (Or.inl ⟨?wr1x56, ?yr1x56⟩) hHeld ?rr1x56
        case hr1x56 => simp only [List.getElem?_toArray, List.getElem?_cons_zero, List.getElem?_cons_succ]; rfl
        case wr1x56 => rfl
        case yr1x56 => intro w hSw; (try dsimp only at hSw); go_simp; (try with_reducible rfl)
        simp only [Act.put, List.setIfInBounds_toArray, List.set_cons_zero, List.set_cons_succ]
        refine wpAnyH_done (by kernel_rfl) ?_ _
        refine NoPanic.normal ?_
        go_wp2_with fail
        go_ret
        exact ⟨rfl, HK14.out.trans' K17⟩

set_option maxHeartbeats 8000000 in
theorem wirerequests_false (W : World) {A0 A1 : Option Addr} {n0 c0 n1 c1 : Nat} (q Q1 : Rq) (hf : q.Fit) (hf1 : Q1.Fit) (hq : Bts W (.slice A0 n0 c0) q.data) (hn0 : n0 ≤ 300) (hn1 : n1 ≤ 500)
    (HP : Hid (∀ w', Kp No W w' → Calls Try.prog 6 #[.slice A1 n1 c1] w' (PqPost w' Q1 21)))
    (HR : Hid (∀ w', Kp No W w' → Calls Try.prog 7 #[.slice A1 n1 c1] w' (PfPost w' Q1 false))) :
    Calls Try.prog 3 #[rqV q (.slice A0 n0 c0), .slice A1 n1 c1] W (TruePost W) := by
  obtain ⟨num, k, s, l, data⟩ := q
  obtain ⟨num1, k1, s1, l1, d1⟩ := Q1
  have HL0 := hide hq.len
  have HQ := hide (fun w' (kk : Kp No W w') => hq.no kk)
  have HF := hide hf
  have HF1 := hide hf1
  have HD0 : Hid (data.length ≤ 300) := by show _ ≤ _; have := hq.len; dsimp only at this; omega
  clear hq hf hf1
  obtain ⟨r, hr⟩ : ∃ r, r = RgtB k l n0 := ⟨_, rfl⟩
  have hRT : ∀ w', Calls Try.prog 10 #[rqV ⟨num, k, s, l, data⟩ (.slice A0 n0 c0)] w' (RtPostK w' r) := fun w' => by rw [hr]; exact right15_any ⟨num, k, s, l, data⟩ A0 n0 c0
  have hRF : ∀ w', Calls Try.prog 11 #[rqV ⟨num, k, s, l, data⟩ (.slice A0 n0 c0)] w' (RtPostK w' r) := fun w' => by rw [hr]; exact rright15_any ⟨num, k, s, l, data⟩ A0 n0 c0
  have hN1 : ∀ nm, nm = nmK k → ∀ w', Calls Try.prog 12 #[.int .i64 k] w' (fun e w1 => e = .returned (.string nm) ∧ w' = w1) := fun nm hnm w' => by rw [hnm]; exact name_any k
  have hN2 : ∀ nm, nm = nmK k → ∀ w', Calls Try.prog 13 #[.int .i64 k] w' (fun e w1 => e = .returned (.string nm) ∧ Kp No w' w1) := fun nm hnm w' => by rw [hnm]; exact rname_any k
  obtain ⟨nm, hnm⟩ : ∃ nm, nm = nmK k := ⟨_, rfl⟩
  have HRG : Hid (RgtB k l n0 = r) := hr.symm
  have HRT := hide hRT
  have HRF := hide hRF
  have HN1 := hide (hN1 nm hnm)
  have HN2 := hide (hN2 nm hnm)
  clear hRT hRF hN1 hN2 hr hnm
  have B0 : Bx8 29 (W.alloc (.cells #[.int .u64 (num : Int), .int .i64 k, .int .u32 (cO s : Int), .int .u16 (cS s : Int), .int .u16 (cL s : Int), .int .u32 (cG s : Int), .int .u16 (l : Int), .slice A0 n0 c0] 29)) W.heap.size (.int .u64 (num : Int)) (.int .i64 k) (.int .u32 (cO s : Int)) (.int .u16 (cS s : Int)) (.int .u16 (cL s : Int)) (.int .u32 (cG s : Int)) (.int .u16 (l : Int)) (.slice A0 n0 c0) := Bx8.new W _ _ _ _ _ _ _ _ _
  have K0 : Kp No W (W.alloc (.cells #[.int .u64 (num : Int), .int .i64 k, .int .u32 (cO s : Int), .int .u16 (cS s : Int), .int .u16 (cL s : Int), .int .u32 (cG s : Int), .int .u16 (l : Int), .slice A0 n0 c0] 29)) := Kp.alloc No W _
  have HB0 := hide (And.intro B0 K0)
  clear B0 K0
  have q0 : ¬ (300 : Int) < (n0 : Int) := by omega
  have q1 : ¬ (500 : Int) < (n1 : Int) := by omega
  go_enter Try.func3, Try.ntmps3
  go_wp2_with fail
  refine (HP.out _ HB0.out.2).mono ?_
  rintro e w1 ⟨A2, n2, c2, rfl, hB1, h1⟩
  have kx := Kp.alloc No w1 (.cells #[.int .u64 (num1 : Int), .int .i64 k1, .int .u32 (cO s1 : Int), .int .u16 (cS s1 : Int), .int .u16 (cL s1 : Int), .int .u32 (cG s1 : Int), .int .u16 (l1 : Int), .slice A2 n2 c2] 31)
  have X1 : Bx8 31 (w1.alloc (.cells #[.int .u64 (num1 : Int), .int .i64 k1, .int .u32 (cO s1 : Int), .int .u16 (cS s1 : Int), .int .u16 (cL s1 : Int), .int .u32 (cG s1 : Int), .int .u16 (l1 : Int), .slice A2 n2 c2] 31)) w1.heap.size (.int .u64 (num1 : Int)) (.int .i64 k1) (.int .u32 (cO s1 : Int)) (.int .u16 (cS s1 : Int)) (.int .u16 (cL s1 : Int)) (.int .u32 (cG s1 : Int)) (.int .u16 (l1 : Int)) (.slice A2 n2 c2) := Bx8.new w1 _ _ _ _ _ _ _ _ _
  have HX := hide (And.intro X1 (And.intro ((HB0.out.1.no h1).no kx) (And.intro ((HB0.out.2.trans' h1).trans' kx) (hB1.no kx))))
  clear hB1 h1 kx X1 HB0
  go_wp2_with fail
  refine (HR.out _ HX.out.2.2.1).mono ?_
  rintro e w2 ⟨A3, n3, c3, rfl, hB2, h2⟩
  have ky := Kp.alloc No w2 (.cells #[.int .u64 (num1 : Int), .int .i64 k1, .int .u32 (cO s1 : Int), .int .u16 (cS s1 : Int), .int .u16 (cL s1 : Int), .int .u32 (cG s1 : Int), .int .u16 (l1 : Int), .slice A3 n3 c3] 29)
  have Y1 : Bx8 29 (w2.alloc (.cells #[.int .u64 (num1 : Int), .int .i64 k1, .int .u32 (cO s1 : Int), .int .u16 (cS s1 : Int), .int .u16 (cL s1 : Int), .int .u32 (cG s1 : Int), .int .u16 (l1 : Int), .slice A3 n3 c3] 29)) w2.heap.size (.int .u64 (num1 : Int)) (.int .i64 k1) (.int .u32 (cO s1 : Int)) (.int .u16 (cS s1 : Int)) (.int .u16 (cL s1 : Int)) (.int .u32 (cG s1 : Int)) (.int .u16 (l1 : Int)) (.slice A3 n3 c3) := Bx8.new w2 _ _ _ _ _ _ _ _ _
  have kk := h2.trans' ky
  have HQB := hide (HX.out.2.1.no kk)
  have HC := hide (cells24 (HX.out.1.no kk) Y1 HQB.out)
  have HK3 := hide (HX.out.2.2.1.trans' kk)
  have HB1 := hide (HX.out.2.2.2.no kk)
  have HB2 := hide (hB2.no ky)
  clear hB2 h2 ky Y1 kk HX
  go_wp2_with fail
  obtain ⟨b0, hb0⟩ : ∃ b0, b0 = W.heap.size := ⟨_, rfl⟩
  obtain ⟨b1, hb1⟩ : ∃ b1, b1 = w1.heap.size := ⟨_, rfl⟩
  obtain ⟨b2, hb2⟩ : ∃ b2, b2 = w2.heap.size := ⟨_, rfl⟩
  rw [← hb0, ← hb1, ← hb2] at HC
  rw [← hb0] at HQB
  rw [← hb0, ← hb1, ← hb2]
  clear hb0 hb1 hb2
  generalize w2.alloc (.cells #[.int .u64 (num1 : Int), .int .i64 k1, .int .u32 (cO s1 : Int), .int .u16 (cS s1 : Int), .int .u16 (cL s1 : Int), .int .u32 (cG s1 : Int), .int .u16 (l1 : Int), .slice A3 n3 c3] 29) = w3 at *

  refine wp_region_noPanic ?_
  refine wp_region_held_drew (S := fun w' => w'.cell? ⟨b1, 0, none⟩ = some (.int .u64 (num1 : Int)) ∧ w'.cell? ⟨b1, 1, none⟩ = some (.int .i64 k1) ∧ w'.cell? ⟨b1, 2, none⟩ = some (.int .u32 (cO s1 : Int)) ∧ w'.cell? ⟨b1, 3, none⟩ = some (.int .u16 (cS s1 : Int)) ∧ w'.cell? ⟨b1, 4, none⟩ = some (.int .u16 (cL s1 : Int)) ∧ w'.cell? ⟨b1, 5, none⟩ = some (.int .u32 (cG s1 : Int)) ∧ w'.cell? ⟨b1, 6, none⟩ = some (.int .u16 (l1 : Int)) ∧ w'.cell? ⟨b1, 7, none⟩ = some (.slice A2 n2 c2) ∧ w'.cell? ⟨b2, 0, none⟩ = some (.int .u64 (num1 : Int)) ∧ w'.cell? ⟨b2, 1, none⟩ = some (.int .i64 k1) ∧ w'.cell? ⟨b2, 2, none⟩ = some (.int .u32 (cO s1 : Int)) ∧ w'.cell? ⟨b2, 3, none⟩ = some (.int .u16 (cS s1 : Int)) ∧ w'.cell? ⟨b2, 4, none⟩ = some (.int .u16 (cL s1 : Int)) ∧ w'.cell? ⟨b2, 5, none⟩ = some (.int .u32 (cG s1 : Int)) ∧ w'.cell? ⟨b2, 6, none⟩ = some (.int .u16 (l1 : Int)) ∧ w'.cell? ⟨b2, 7, none⟩ = some (.slice A3 n3 c3) ∧ w'.cell? ⟨b0, 0, none⟩ = some (.int .u64 (num : Int)) ∧ w'.cell? ⟨b0, 1, none⟩ = some (.int .i64 k) ∧ w'.cell? ⟨b0, 2, none⟩ = some (.int .u32 (cO s : Int)) ∧ w'.cell? ⟨b0, 3, none⟩ = some (.int .u16 (cS s : Int)) ∧ w'.cell? ⟨b0, 4, none⟩ = some (.int .u16 (cL s : Int)) ∧ w'.cell? ⟨b0, 5, none⟩ = some (.int .u32 (cG s : Int)) ∧ w'.cell? ⟨b0, 6, none⟩ = some (.int .u16 (l : Int)) ∧ w'.cell? ⟨b0, 7, none⟩ = some (.slice A0 n0 c0)) (by kernel_rfl) (kept24 ((Kp.refl No w3).drew) HC.out) (fun hHeld => ?_)
  refine wpAnyH_take (i := 0) (v := ?va0x1) (oi := ?oa0x1) ?ha0x1 (by kernel_rfl) (by kernel_rfl) (by kernel_rfl) (fun _ _ _ h => h) (Or.inl ⟨?wa0x1, ?ya0x1⟩) hHeld ?ra0x1
  case ha0x1 => simp only [List.getElem?_toArray, List.getElem?_cons_zero, List.getElem?_cons_succ]; rfl
  case wa0x1 => rfl
  case ya0x1 => intro w hSw; (try dsimp only at hSw); go_simp; (try with_reducible rfl)
  simp only [Act.put, List.setIfInBounds_toArray, List.set_cons_zero, List.set_cons_succ]
  refine wpAnyH_take (i := 1) (v := ?va0x2) (oi := ?oa0x2) ?ha0x2 (by kernel_rfl) (by kernel_rfl) (by kernel_rfl) (fun _ _ _ h => h) (Or.inl ⟨?wa0x2, ?ya0x2⟩) hHeld ?ra0x2
  case ha0x2 => simp only [List.getElem?_toArray, List.getElem?_cons_zero, List.getElem?_cons_succ]; rfl
  case wa0x2 => rfl
  case ya0x2 => intro w hSw; (try dsimp only at hSw); go_simp; (try with_reducible rfl)
  simp only [Act.put, List.setIfInBounds_toArray, List.set_cons_zero, List.set_cons_succ]
  refine wpAnyH_ready (rs := [2]) (by kernel_rfl) (by simp) ?_
  refine AllReadyH.cons (o := ?oa0x3) ?ha0x3 (fun K hK => ?sa0x3) AllReadyH.nil
  case ha0x3 => simp only [List.getElem?_toArray, List.getElem?_cons_zero, List.getElem?_cons_succ]; rfl
  go_simp
  refine (is15_any ⟨num1, k1, s1, l1, d1⟩ HF1.out (HB1.out.drew) (HB2.out.drew)).mono ?_
  rintro e w4 ⟨rfl, k4⟩
  have K4 : Kp No w3 w4 := ((Kp.refl No w3).drew).trans' k4
  go_wp2_with fail
  refine hK.out _ _ (kept24 k4 hHeld) (fun hHeld => ?_)
  clear hK K
  try simp only [Act.put, List.setIfInBounds_toArray, List.set_cons_zero, List.set_cons_succ]
  refine wpAnyH_take (i := 3) (v := ?va0x4) (oi := ?oa0x4) ?ha0x4 (by kernel_rfl) (by kernel_rfl) (by kernel_rfl) (fun _ _ _ h => h) (Or.inl ⟨?wa0x4, ?ya0x4⟩) hHeld ?ra0x4
  case ha0x4 => simp only [List.getElem?_toArray, List.getElem?_cons_zero, List.getElem?_cons_succ]; rfl
  case wa0x4 => rfl
  case ya0x4 => intro w hSw; (try dsimp only at hSw); go_simp; (try with_reducible rfl)
  simp only [Act.put, List.setIfInBounds_toArray, List.set_cons_zero, List.set_cons_succ]
  refine wpAnyH_take (i := 4) (v := ?va0x5) (oi := ?oa0x5) ?ha0x5 (by kernel_rfl) (by kernel_rfl) (by kernel_rfl) (fun _ _ _ h => h) (Or.inl ⟨?wa0x5, ?ya0x5⟩) hHeld ?ra0x5
  case ha0x5 => simp only [List.getElem?_toArray, List.getElem?_cons_zero, List.getElem?_cons_succ]; rfl
  case wa0x5 => rfl
  case ya0x5 => intro w hSw; (try dsimp only at hSw); go_simp; (try with_reducible rfl)
  simp only [Act.put, List.setIfInBounds_toArray, List.set_cons_zero, List.set_cons_succ]
  refine wpAnyH_take (i := 5) (v := ?va0x6) (oi := ?oa0x6) ?ha0x6 (by kernel_rfl) (by kernel_rfl) (by kernel_rfl) (fun _ _ _ h => h) (Or.inl ⟨?wa0x6, ?ya0x6⟩) hHeld ?ra0x6
  case ha0x6 => simp only [List.getElem?_toArray, List.getElem?_cons_zero, List.getElem?_cons_succ]; rfl
  case wa0x6 => rfl
  case ya0x6 => intro w hSw; (try dsimp only at hSw); go_simp; (try with_reducible rfl)
  simp only [Act.put, List.setIfInBounds_toArray, List.set_cons_zero, List.set_cons_succ]
  refine wpAnyH_take (i := 6) (v := ?va0x7) (oi := ?oa0x7) ?ha0x7 (by kernel_rfl) (by kernel_rfl) (by kernel_rfl) (fun _ _ _ h => h) (Or.inl ⟨?wa0x7, ?ya0x7⟩) hHeld ?ra0x7
  case ha0x7 => simp only [List.getElem?_toArray, List.getElem?_cons_zero, List.getElem?_cons_succ]; rfl
  case wa0x7 => rfl
  case ya0x7 => intro w hSw; (try dsimp only at hSw); go_simp; (try with_reducible rfl)
  simp only [Act.put, List.setIfInBounds_toArray, List.set_cons_zero, List.set_cons_succ]
  refine wpAnyH_take (i := 7) (v := ?va0x8) (oi := ?oa0x8) ?ha0x8 (by kernel_rfl) (by kernel_rfl) (by kernel_rfl) (fun _ _ _ h => h) (Or.inl ⟨?wa0x8, ?ya0x8⟩) hHeld ?ra0x8
  case ha0x8 => simp only [List.getElem?_toArray, List.getElem?_cons_zero, List.getElem?_cons_succ]; rfl
  case wa0x8 => rfl
  case ya0x8 => intro w hSw; (try dsimp only at hSw); go_simp; (try with_reducible rfl)
  simp only [Act.put, List.setIfInBounds_toArray, List.set_cons_zero, List.set_cons_succ]
  refine wpAnyH_take (i := 8) (v := ?va0x9) (oi := ?oa0x9) ?ha0x9 (by kernel_rfl) (by kernel_rfl) (by kernel_rfl) (fun _ _ _ h => h) (Or.inl ⟨?wa0x9, ?ya0x9⟩) hHeld ?ra0x9
  case ha0x9 => simp only [List.getElem?_toArray, List.getElem?_cons_zero, List.getElem?_cons_succ]; rfl
  case wa0x9 => rfl
  case ya0x9 => intro w hSw; (try dsimp only at hSw); go_simp; (try with_reducible rfl)
  simp only [Act.put, List.setIfInBounds_toArray, List.set_cons_zero, List.set_cons_succ]
  refine wpAnyH_take (i := 9) (v := ?va0x10) (oi := ?oa0x10) ?ha0x10 (by kernel_rfl) (by kernel_rfl) (by kernel_rfl) (fun _ _ _ h => h) (Or.inl ⟨?wa0x10, ?ya0x10⟩) hHeld ?ra0x10
  case ha0x10 => simp only [List.getElem?_toArray, List.getElem?_cons_zero, List.getElem?_cons_succ]; rfl
  case wa0x10 => rfl
  case ya0x10 => intro w hSw; (try dsimp only at hSw); go_simp; (try with_reducible rfl)
  simp only [Act.put, List.setIfInBounds_toArray, List.set_cons_zero, List.set_cons_succ]
  refine wpAnyH_take (i := 10) (v := ?va0x11) (oi := ?oa0x11) ?ha0x11 (by kernel_rfl) (by kernel_rfl) (by kernel_rfl) (fun _ _ _ h => h) (Or.inl ⟨?wa0x11, ?ya0x11⟩) hHeld ?ra0x11
  case ha0x11 => simp only [List.getElem?_toArray, List.getElem?_cons_zero, List.getElem?_cons_succ]; rfl
  case wa0x11 => rfl
  case ya0x11 => intro w hSw; (try dsimp only at hSw); go_simp; (try with_reducible rfl)
  simp only [Act.put, List.setIfInBounds_toArray, List.set_cons_zero, List.set_cons_succ]
  refine wpAnyH_take (i := 11) (v := ?va0x12) (oi := ?oa0x12) ?ha0x12 (by kernel_rfl) (by kernel_rfl) (by kernel_rfl) (fun _ _ _ h => h) (Or.inl ⟨?wa0x12, ?ya0x12⟩) hHeld ?ra0x12
  case ha0x12 => simp only [List.getElem?_toArray, List.getElem?_cons_zero, List.getElem?_cons_succ]; rfl
  case wa0x12 => rfl
  case ya0x12 => intro w hSw; (try dsimp only at hSw); go_simp; (try with_reducible rfl)
  simp only [Act.put, List.setIfInBounds_toArray, List.set_cons_zero, List.set_cons_succ]
  refine wpAnyH_take (i := 12) (v := ?va0x13) (oi := ?oa0x13) ?ha0x13 (by kernel_rfl) (by kernel_rfl) (by kernel_rfl) (fun _ _ _ h => h) (Or.inl ⟨?wa0x13, ?ya0x13⟩) hHeld ?ra0x13
  case ha0x13 => simp only [List.getElem?_toArray, List.getElem?_cons_zero, List.getElem?_cons_succ]; rfl
  case wa0x13 => rfl
  case ya0x13 => intro w hSw; (try dsimp only at hSw); go_simp; (try with_reducible rfl)
  simp only [Act.put, List.setIfInBounds_toArray, List.set_cons_zero, List.set_cons_succ]
  refine wpAnyH_take (i := 13) (v := ?va0x14) (oi := ?oa0x14) ?ha0x14 (by kernel_rfl) (by kernel_rfl) (by kernel_rfl) (fun _ _ _ h => h) (Or.inl ⟨?wa0x14, ?ya0x14⟩) hHeld ?ra0x14
  case ha0x14 => simp only [List.getElem?_toArray, List.getElem?_cons_zero, List.getElem?_cons_succ]; rfl
  case wa0x14 => rfl
  case ya0x14 => intro w hSw; (try dsimp only at hSw); go_simp; (try with_reducible rfl)
  simp only [Act.put, List.setIfInBounds_toArray, List.set_cons_zero, List.set_cons_succ]
  refine wpAnyH_take (i := 14) (v := ?va0x15) (oi := ?oa0x15) ?ha0x15 (by kernel_rfl) (by kernel_rfl) (by kernel_rfl) (fun _ _ _ h => h) (Or.inl ⟨?wa0x15, ?ya0x15⟩) hHeld ?ra0x15
  case ha0x15 => simp only [List.getElem?_toArray, List.getElem?_cons_zero, List.getElem?_cons_succ]; rfl
  case wa0x15 => rfl
  case ya0x15 => intro w hSw; (try dsimp only at hSw); go_simp; (try with_reducible rfl)
  simp only [Act.put, List.setIfInBounds_toArray, List.set_cons_zero, List.set_cons_succ]
  refine wpAnyH_take (i := 15) (v := ?va0x16) (oi := ?oa0x16) ?ha0x16 (by kernel_rfl) (by kernel_rfl) (by kernel_rfl) (fun _ _ _ h => h) (Or.inl ⟨?wa0x16, ?ya0x16⟩) hHeld ?ra0x16
  case ha0x16 => simp only [List.getElem?_toArray, List.getElem?_cons_zero, List.getElem?_cons_succ]; rfl
  case wa0x16 => rfl
  case ya0x16 => intro w hSw; (try dsimp only at hSw); go_simp; (try with_reducible rfl)
  simp only [Act.put, List.setIfInBounds_toArray, List.set_cons_zero, List.set_cons_succ]
  refine wpAnyH_take (i := 16) (v := ?va0x17) (oi := ?oa0x17) ?ha0x17 (by kernel_rfl) (by kernel_rfl) (by kernel_rfl) (fun _ _ _ h => h) (Or.inl ⟨?wa0x17, ?ya0x17⟩) hHeld ?ra0x17
  case ha0x17 => simp only [List.getElem?_toArray, List.getElem?_cons_zero, List.getElem?_cons_succ]; rfl
  case wa0x17 => rfl
  case ya0x17 => intro w hSw; (try dsimp only at hSw); go_simp; (try with_reducible rfl)
  simp only [Act.put, List.setIfInBounds_toArray, List.set_cons_zero, List.set_cons_succ]
  refine wpAnyH_take (i := 17) (v := ?va0x18) (oi := ?oa0x18) ?ha0x18 (by kernel_rfl) (by kernel_rfl) (by kernel_rfl) (fun _ _ _ h => h) (Or.inl ⟨?wa0x18, ?ya0x18⟩) hHeld ?ra0x18
  case ha0x18 => simp only [List.getElem?_toArray, List.getElem?_cons_zero, List.getElem?_cons_succ]; rfl
  case wa0x18 => rfl
  case ya0x18 => intro w hSw; (try dsimp only at hSw); go_simp; (try with_reducible rfl)
  simp only [Act.put, List.setIfInBounds_toArray, List.set_cons_zero, List.set_cons_succ]
  refine wpAnyH_take (i := 18) (v := ?va0x19) (oi := ?oa0x19) ?ha0x19 (by kernel_rfl) (by kernel_rfl) (by kernel_rfl) (fun _ _ _ h => h) (Or.inl ⟨?wa0x19, ?ya0x19⟩) hHeld ?ra0x19
  case ha0x19 => simp only [List.getElem?_toArray, List.getElem?_cons_zero, List.getElem?_cons_succ]; rfl
  case wa0x19 => rfl
  case ya0x19 => intro w hSw; (try dsimp only at hSw); go_simp; (try with_reducible rfl)
  simp only [Act.put, List.setIfInBounds_toArray, List.set_cons_zero, List.set_cons_succ]
  refine wpAnyH_take (i := 19) (v := ?va0x20) (oi := ?oa0x20) ?ha0x20 (by kernel_rfl) (by kernel_rfl) (by kernel_rfl) (fun _ _ _ h => h) (Or.inl ⟨?wa0x20, ?ya0x20⟩) hHeld ?ra0x20
  case ha0x20 => simp only [List.getElem?_toArray, List.getElem?_cons_zero, List.getElem?_cons_succ]; rfl
  case wa0x20 => rfl
  case ya0x20 => intro w hSw; (try dsimp only at hSw); go_simp; (try with_reducible rfl)
  simp only [Act.put, List.setIfInBounds_toArray, List.set_cons_zero, List.set_cons_succ]
  refine wpAnyH_take (i := 22) (v := ?va0x21) (oi := ?oa0x21) ?ha0x21 (by kernel_rfl) (by kernel_rfl) (by kernel_rfl) (fun _ _ _ h => h) (Or.inl ⟨?wa0x21, ?ya0x21⟩) hHeld ?ra0x21
  case ha0x21 => simp only [List.getElem?_toArray, List.getElem?_cons_zero, List.getElem?_cons_succ]; rfl
  case wa0x21 => rfl
  case ya0x21 => intro w hSw; (try dsimp only at hSw); go_simp; (try with_reducible rfl)
  simp only [Act.put, List.setIfInBounds_toArray, List.set_cons_zero, List.set_cons_succ]
  refine wpAnyH_ready (rs := [20]) (by kernel_rfl) (by simp) ?_
  refine AllReadyH.cons (o := ?oa0x22) ?ha0x22 (fun K hK => ?sa0x22) AllReadyH.nil
  case ha0x22 => simp only [List.getElem?_toArray, List.getElem?_cons_zero, List.getElem?_cons_succ]; rfl
  go_simp
  refine (to15_any ⟨num, k, s, l, data⟩ A0 n0 c0).mono ?_
  rintro e w5 ⟨rfl, k5⟩
  have K5 := K4.trans' k5
  go_wp2_with fail
  refine hK.out _ _ (kept24 k5 hHeld) (fun hHeld => ?_)
  clear hK K
  try simp only [Act.put, List.setIfInBounds_toArray, List.set_cons_zero, List.set_cons_succ]
  refine wpAnyH_ready (rs := [21]) (by kernel_rfl) (by simp) ?_
  refine AllReadyH.cons (o := ?oa0x23) ?ha0x23 (fun K hK => ?sa0x23) AllReadyH.nil
  case ha0x23 => simp only [List.getElem?_toArray, List.getElem?_cons_zero, List.getElem?_cons_succ]; rfl
  go_simp
  refine (HRT.out _).mono ?_
  rintro e w6 ⟨rfl, k6⟩
  have K6 := K5.trans' k6
  go_wp2_with fail
  refine hK.out _ _ (kept24 k6 hHeld) (fun hHeld => ?_)
  clear hK K
  try simp only [Act.put, List.setIfInBounds_toArray, List.set_cons_zero, List.set_cons_succ]
  refine wpAnyH_ready (rs := [23]) (by kernel_rfl) (by simp) ?_
  refine AllReadyH.cons (o := ?oa0x24) ?ha0x24 (fun K hK => ?sa0x24) AllReadyH.nil
  case ha0x24 => simp only [List.getElem?_toArray, List.getElem?_cons_zero, List.getElem?_cons_succ]; rfl
  go_simp
  refine (HRF.out _).mono ?_
  rintro e w7 ⟨rfl, k7⟩
  have K7 := K6.trans' k7
  go_wp2_with fail
  refine hK.out _ _ (kept24 k7 hHeld) (fun hHeld => ?_)
  clear hK K
  try simp only [Act.put, List.setIfInBounds_toArray, List.set_cons_zero, List.set_cons_succ]
  refine wpAnyH_take (i := 24) (v := ?va0x25) (oi := ?oa0x25) ?ha0x25 (by kernel_rfl) (by kernel_rfl) (by kernel_rfl) (fun _ _ _ h => h) (Or.inl ⟨?wa0x25, ?ya0x25⟩) hHeld ?ra0x25
  case ha0x25 => simp only [List.getElem?_toArray, List.getElem?_cons_zero, List.getElem?_cons_succ]; rfl
  case wa0x25 => rfl
  case ya0x25 => intro w hSw; (try dsimp only at hSw); go_simp; (try with_reducible rfl)
  simp only [Act.put, List.setIfInBounds_toArray, List.set_cons_zero, List.set_cons_succ]
  refine wpAnyH_take (i := 25) (v := ?va0x26) (oi := ?oa0x26) ?ha0x26 (by kernel_rfl) (by kernel_rfl) (by kernel_rfl) (fun _ _ _ h => h) (Or.inl ⟨?wa0x26, ?ya0x26⟩) hHeld ?ra0x26
  case ha0x26 => simp only [List.getElem?_toArray, List.getElem?_cons_zero, List.getElem?_cons_succ]; rfl
  case wa0x26 => rfl
  case ya0x26 => intro w hSw; (try dsimp only at hSw); go_simp; (try with_reducible rfl)
  simp only [Act.put, List.setIfInBounds_toArray, List.set_cons_zero, List.set_cons_succ]
  refine wpAnyH_take (i := 26) (v := ?va0x27) (oi := ?oa0x27) ?ha0x27 (by kernel_rfl) (by kernel_rfl) (by kernel_rfl) (fun _ _ _ h => h) (Or.inl ⟨?wa0x27, ?ya0x27⟩) hHeld ?ra0x27
  case ha0x27 => simp only [List.getElem?_toArray, List.getElem?_cons_zero, List.getElem?_cons_succ]; rfl
  case wa0x27 => rfl
  case ya0x27 => intro w hSw; (try dsimp only at hSw); go_simp; (try with_reducible rfl)
  simp only [Act.put, List.setIfInBounds_toArray, List.set_cons_zero, List.set_cons_succ]
  refine wpAnyH_take (i := 27) (v := ?va0x28) (oi := ?oa0x28) ?ha0x28 (by kernel_rfl) (by kernel_rfl) (by kernel_rfl) (fun _ _ _ h => h) (Or.inl ⟨?wa0x28, ?ya0x28⟩) hHeld ?ra0x28
  case ha0x28 => simp only [List.getElem?_toArray, List.getElem?_cons_zero, List.getElem?_cons_succ]; rfl
  case wa0x28 => rfl
  case ya0x28 => intro w hSw; (try dsimp only at hSw); go_simp; (try with_reducible rfl)
  simp only [Act.put, List.setIfInBounds_toArray, List.set_cons_zero, List.set_cons_succ]
  refine wpAnyH_take (i := 28) (v := ?va0x29) (oi := ?oa0x29) ?ha0x29 (by kernel_rfl) (by kernel_rfl) (by kernel_rfl) (fun _ _ _ h => h) (Or.inl ⟨?wa0x29, ?ya0x29⟩) hHeld ?ra0x29
  case ha0x29 => simp only [List.getElem?_toArray, List.getElem?_cons_zero, List.getElem?_cons_succ]; rfl
  case wa0x29 => rfl
  case ya0x29 => intro w hSw; (try dsimp only at hSw); go_simp; (try with_reducible rfl)
  simp only [Act.put, List.setIfInBounds_toArray, List.set_cons_zero, List.set_cons_succ]
  refine wpAnyH_take (i := 30) (v := ?va0x30) (oi := ?oa0x30) ?ha0x30 (by kernel_rfl) (by kernel_rfl) (by kernel_rfl) (fun _ _ _ h => h) (Or.inl ⟨?wa0x30, ?ya0x30⟩) hHeld ?ra0x30
  case ha0x30 => simp only [List.getElem?_toArray, List.getElem?_cons_zero, List.getElem?_cons_succ]; rfl
  case wa0x30 => rfl
  case ya0x30 => intro w hSw; (try dsimp only at hSw); go_simp; (try with_reducible rfl)
  simp only [Act.put, List.setIfInBounds_toArray, List.set_cons_zero, List.set_cons_succ]
  refine wpAnyH_take (i := 31) (v := ?va0x31) (oi := ?oa0x31) ?ha0x31 (by kernel_rfl) (by kernel_rfl) (by kernel_rfl) (fun _ _ _ h => h) (Or.inl ⟨?wa0x31, ?ya0x31⟩) hHeld ?ra0x31
  case ha0x31 => simp only [List.getElem?_toArray, List.getElem?_cons_zero, List.getElem?_cons_succ]; rfl
  case wa0x31 => rfl
  case ya0x31 => intro w hSw; (try dsimp only at hSw); go_simp; (try with_reducible rfl)
  simp only [Act.put, List.setIfInBounds_toArray, List.set_cons_zero, List.set_cons_succ]
  refine wpAnyH_ready (rs := [29]) (by kernel_rfl) (by simp) ?_
  refine AllReadyH.cons (o := ?oa0x32) ?ha0x32 (fun K hK => ?sa0x32) AllReadyH.nil
  case ha0x32 => simp only [List.getElem?_toArray, List.getElem?_cons_zero, List.getElem?_cons_succ]; rfl
  go_simp
  refine (HN1.out _).mono ?_
  rintro e w8 ⟨rfl, rfl⟩
  go_wp2_with fail
  refine hK.out _ _ (hHeld) (fun hHeld => ?_)
  clear hK K
  try simp only [Act.put, List.setIfInBounds_toArray, List.set_cons_zero, List.set_cons_succ]
  refine wpAnyH_ready (rs := [32]) (by kernel_rfl) (by simp) ?_
  refine AllReadyH.cons (o := ?oa0x33) ?ha0x33 (fun K hK => ?sa0x33) AllReadyH.nil
  case ha0x33 => simp only [List.getElem?_toArray, List.getElem?_cons_zero, List.getElem?_cons_succ]; rfl
  go_simp
  refine (HN2.out _).mono ?_
  rintro e w8 ⟨rfl, k8⟩
  have K8 := K7.trans' k8
  go_wp2_with fail
  refine hK.out _ _ (kept24 k8 hHeld) (fun hHeld => ?_)
  clear hK K
  try simp only [Act.put, List.setIfInBounds_toArray, List.set_cons_zero, List.set_cons_succ]
  refine wpAnyH_take (i := 33) (v := ?va0x34) (oi := ?oa0x34) ?ha0x34 (by kernel_rfl) (by kernel_rfl) (by kernel_rfl) (fun _ _ _ h => h) (Or.inl ⟨?wa0x34, ?ya0x34⟩) hHeld ?ra0x34
  case ha0x34 => simp only [List.getElem?_toArray, List.getElem?_cons_zero, List.getElem?_cons_succ]; rfl
  case wa0x34 => rfl
  case ya0x34 => intro w hSw; (try dsimp only at hSw); go_simp; (try with_reducible rfl)
  simp only [Act.put, List.setIfInBounds_toArray, List.set_cons_zero, List.set_cons_succ]
  refine wpAnyH_take (i := 34) (v := ?va0x35) (oi := ?oa0x35) ?ha0x35 (by kernel_rfl) (by kernel_rfl) (by kernel_rfl) (fun _ _ _ h => h) (Or.inl ⟨?wa0x35, ?ya0x35⟩) hHeld ?ra0x35
  case ha0x35 => simp only [List.getElem?_toArray, List.getElem?_cons_zero, List.getElem?_cons_succ]; rfl
  case wa0x35 => rfl
  case ya0x35 => intro w hSw; (try dsimp only at hSw); go_simp; (try with_reducible rfl)
  simp only [Act.put, List.setIfInBounds_toArray, List.set_cons_zero, List.set_cons_succ]
  refine wpAnyH_done (by kernel_rfl) ?_ _
  refine NoPanic.normal ?_
  have QB := (HQB.out.no K8)
  have HK8 := hide (HK3.out.trans' K8)
  have HQ8 := hide QB
  obtain ⟨p0, p1, p2, p3, p4, p5, p6, p7⟩ := QB.cell
  clear K4 K5 K6 K7 K8 k4 k5 k6 k7 k8 QB hHeld
  go_wp2_with fail
  refine (to15_any ⟨num, k, s, l, data⟩ A0 n0 c0).mono ?_
  rintro e w10 ⟨rfl, k10⟩
  have HK10 := hide (HK8.out.trans' k10)
  have HQ10 := hide (HQ8.out.no k10)
  clear k10 p0 p1 p2 p3 p4 p5 p6 p7
  go_wp2_with fail
  rcases r with _ | _
  · refine (bytes15_no ⟨num, k, s, l, data⟩ A0 n0 c0 HRG.out).mono ?_
    rintro e w11 ⟨rfl, k11⟩
    have HK11 := hide (HK10.out.trans' k11)
    obtain ⟨p0, p1, p2, p3, p4, p5, p6, p7⟩ := (HQ10.out.no k11).cell
    clear k11
    go_wp2_with fail
    refine (HRF.out _).mono ?_
    rintro e w12 ⟨rfl, k12⟩
    have HK12 := hide (HK11.out.trans' k12)
    clear k12 p0 p1 p2 p3 p4 p5 p6 p7
    go_wp2_with fail
    refine (awake15_any _).mono ?_
    rintro e w13 ⟨rfl, k13⟩
    go_wp2_with fail
    go_ret
    exact ⟨rfl, HK12.out.trans' k13⟩
  · have HRG : Hid (Rq.rgt ⟨num, k, s, l, data⟩ = true) := by show _ = _; have h1 := HRG.out; rw [HL0.out] at h1; exact h1
    refine (bytes15_any ⟨num, k, s, l, data⟩ HF.out HRG.out (HQ.out _ HK10.out) (Nat.le_trans hn0 (by decide))).mono ?_
    rintro e w11 ⟨A7, n7, c7, rfl, ho, k11⟩
    have HK11 := hide (HK10.out.trans' k11)
    have hQ11 := HQ10.out.no k11
    have hQ11' := hide hQ11
    obtain ⟨p0, p1, p2, p3, p4, p5, p6, p7⟩ := hQ11.cell
    have HO11 := hide ho
    clear k11 ho hQ11
    go_wp2_with fail
    refine (HRF.out _).mono ?_
    rintro e w12 ⟨rfl, k12⟩
    have HK12 := hide (HK11.out.trans' k12)
    have HQ12 := hide (hQ11'.out.no k12)
    have HO12 := hide (HO11.out.no k12)
    clear k12 p0 p1 p2 p3 p4 p5 p6 p7
    go_wp2_with fail
    refine (parse15_any HO12.out.bts (by rw [Rq.bytes_len]; have := HD0.out; dsimp only; omega) ⟨num, k, s, l, data⟩ 0 (fun _ => ⟨(Rq.back HF.out HRG.out).symm, rfl⟩) (fun h => by rw [Rq.read HF.out HRG.out] at h; cases h)).mono ?_
    rintro e w13 ⟨A8, n8, c8, rfl, hB8, k13⟩
    have kz := Kp.alloc No w13 (.cells #[.int .u64 (num : Int), .int .i64 k, .int .u32 (cO s : Int), .int .u16 (cS s : Int), .int .u16 (cL s : Int), .int .u32 (cG s : Int), .int .u16 (l : Int), .slice A8 n8 c8] 31)
    have Z14 : Bx8 31 (w13.alloc (.cells #[.int .u64 (num : Int), .int .i64 k, .int .u32 (cO s : Int), .int .u16 (cS s : Int), .int .u16 (cL s : Int), .int .u32 (cG s : Int), .int .u16 (l : Int), .slice A8 n8 c8] 31)) w13.heap.size (.int .u64 (num : Int)) (.int .i64 k) (.int .u32 (cO s : Int)) (.int .u16 (cS s : Int)) (.int .u16 (cL s : Int)) (.int .u32 (cG s : Int)) (.int .u16 (l : Int)) (.slice A8 n8 c8) := Bx8.new w13 _ _ _ _ _ _ _ _ _
    have HC14 := hide (cells16 Z14 ((HQ12.out.no k13).no kz))
    have HK14 := hide ((HK12.out.trans' k13).trans' kz)
    have HO := hide ((HO12.out.no k13).no kz)
    have HB8 := hide (hB8.no kz)
    clear hB8 k13 kz Z14 HO12 HQ12 HK12 HO11 HK11 hQ11'
    go_wp2_with fail
    obtain ⟨b3, hb3⟩ : ∃ b3, b3 = w13.heap.size := ⟨_, rfl⟩
    rw [← hb3] at HC14 ⊢
    generalize w13.alloc (.cells #[.int .u64 (num : Int), .int .i64 k, .int .u32 (cO s : Int), .int .u16 (cS s : Int), .int .u16 (cL s : Int), .int .u32 (cG s : Int), .int .u16 (l : Int), .slice A8 n8 c8] 31) = w14 at *
    clear hb3
    obtain ⟨tb, htb⟩ : ∃ tb, tb = strOf (Rq.bytes ⟨num, k, s, l, data⟩) := ⟨_, rfl⟩
    have HTB := hide htb
    clear htb
    have v1 := conv_bts (HO.out.no ((Kp.refl No w14).drew)).bts
    rw [← HTB.out] at v1
    refine wp_region_noPanic ?_
    refine wp_region_held_drew (S := fun w' => w'.cell? ⟨b3, 0, none⟩ = some (.int .u64 (num : Int)) ∧ w'.cell? ⟨b3, 1, none⟩ = some (.int .i64 k) ∧ w'.cell? ⟨b3, 2, none⟩ = some (.int .u32 (cO s : Int)) ∧ w'.cell? ⟨b3, 3, none⟩ = some (.int .u16 (cS s : Int)) ∧ w'.cell? ⟨b3, 4, none⟩ = some (.int .u16 (cL s : Int)) ∧ w'.cell? ⟨b3, 5, none⟩ = some (.int .u32 (cG s : Int)) ∧ w'.cell? ⟨b3, 6, none⟩ = some (.int .u16 (l : Int)) ∧ w'.cell? ⟨b3, 7, none⟩ = some (.slice A8 n8 c8) ∧ w'.cell? ⟨b0, 0, none⟩ = some (.int .u64 (num : Int)) ∧ w'.cell? ⟨b0, 1, none⟩ = some (.int .i64 k) ∧ w'.cell? ⟨b0, 2, none⟩ = some (.int .u32 (cO s : Int)) ∧ w'.cell? ⟨b0, 3, none⟩ = some (.int .u16 (cS s : Int)) ∧ w'.cell? ⟨b0, 4, none⟩ = some (.int .u16 (cL s : Int)) ∧ w'.cell? ⟨b0, 5, none⟩ = some (.int .u32 (cG s : Int)) ∧ w'.cell? ⟨b0, 6, none⟩ = some (.int .u16 (l : Int)) ∧ w'.cell? ⟨b0, 7, none⟩ = some (.slice A0 n0 c0)) (by kernel_rfl) (kept16 ((Kp.refl No w14).drew) HC14.out) (fun hHeld => ?_)
    refine wpAnyH_take (i := 0) (v := ?vr0x1) (oi := ?or0x1) ?hr0x1 (by kernel_rfl) (by kernel_rfl) (by kernel_rfl) (fun _ _ _ h => h) (Or.inl ⟨?wr0x1, ?yr0x1⟩) hHeld ?rr0x1
    case hr0x1 => simp only [List.getElem?_toArray, List.getElem?_cons_zero, List.getElem?_cons_succ]; rfl
    case wr0x1 => rfl
    case yr0x1 => intro w hSw; (try dsimp only at hSw); go_simp; (try with_reducible rfl)
    simp only [Act.put, List.setIfInBounds_toArray, List.set_cons_zero, List.set_cons_succ]
    refine wpAnyH_take (i := 2) (v := ?vr0x2) (oi := ?or0x2) ?hr0x2 (by kernel_rfl) (by kernel_rfl) (by kernel_rfl) (fun _ _ _ h => h) (Or.inl ⟨?wr0x2, ?yr0x2⟩) hHeld ?rr0x2
    case hr0x2 => simp only [List.getElem?_toArray, List.getElem?_cons_zero, List.getElem?_cons_succ]; rfl
    case wr0x2 => rfl
    case yr0x2 => intro w hSw; (try dsimp only at hSw); go_simp; (try with_reducible rfl)
    simp only [Act.put, List.setIfInBounds_toArray, List.set_cons_zero, List.set_cons_succ]
    refine wpAnyH_ready (rs := [1, 3]) (by kernel_rfl) (by simp) ?_
    refine (AllReadyH.cons (o := ?or0x4) ?hr0x4 (fun K hK => ?sr0x4) (AllReadyH.cons (o := ?or0x5) ?hr0x5 (fun K hK => ?sr0x5) AllReadyH.nil))
    case hr0x4 => simp only [List.getElem?_toArray, List.getElem?_cons_zero, List.getElem?_cons_succ]; rfl
    case hr0x5 => simp only [List.getElem?_toArray, List.getElem?_cons_zero, List.getElem?_cons_succ]; rfl
    case sr0x4 =>
      go_simp
      refine hK.out _ _ (hHeld) (fun hHeld => ?_)
      clear hK K
      try simp only [Act.put, List.setIfInBounds_toArray, List.set_cons_zero, List.set_cons_succ]
      refine wpAnyH_ready (rs := [3]) (by kernel_rfl) (by simp) ?_
      refine AllReadyH.cons (o := ?or0x6) ?hr0x6 (fun K hK => ?sr0x6) AllReadyH.nil
      case hr0x6 => simp only [List.getElem?_toArray, List.getElem?_cons_zero, List.getElem?_cons_succ]; rfl
      go_simp
      refine (rbytes15_any ⟨num, k, s, l, data⟩ HF.out HRG.out (HQ.out _ (HK14.out.drew)) (Nat.le_trans hn0 (by decide))).mono ?_
      rintro e w15 ⟨A9, n9, c9, rfl, o9, k15⟩
      have K15 : Kp No w14 w15 := ((Kp.refl No w14).drew).trans' k15
      have v2 := conv_bts o9.bts
      rw [← HTB.out] at v2
      go_wp2_with fail
      refine hK.out _ _ (kept16 k15 hHeld) (fun hHeld => ?_)
      clear hK K
      try simp only [Act.put, List.setIfInBounds_toArray, List.set_cons_zero, List.set_cons_succ]
      refine wpAnyH_ready (rs := [4]) (by kernel_rfl) (by simp) ?_
      refine AllReadyH.cons (o := ?or0x7) ?hr0x7 (fun K hK => ?sr0x7) AllReadyH.nil
      case hr0x7 => simp only [List.getElem?_toArray, List.getElem?_cons_zero, List.getElem?_cons_succ]; rfl
      go_simp
      refine hK.out _ _ (hHeld) (fun hHeld => ?_)
      clear hK K
      try simp only [Act.put, List.setIfInBounds_toArray, List.set_cons_zero, List.set_cons_succ]
      refine wpAnyH_take (i := 5) (v := ?vr0x8) (oi := ?or0x8) ?hr0x8 (by kernel_rfl) (by kernel_rfl) (by kernel_rfl) (fun _ _ _ h => h) (Or.inl ⟨?wr0x8, ?yr0x8⟩) hHeld ?rr0x8
      case hr0x8 => simp only [List.getElem?_toArray, List.getElem?_cons_zero, List.getElem?_cons_succ]; rfl
      case wr0x8 => rfl
      case yr0x8 => intro w hSw; (try dsimp only at hSw); go_simp; (try with_reducible rfl)
      simp only [Act.put, List.setIfInBounds_toArray, List.set_cons_zero, List.set_cons_succ]
      refine wpAnyH_take (i := 6) (v := ?vr0x9) (oi := ?or0x9) ?hr0x9 (by kernel_rfl) (by kernel_rfl) (by kernel_rfl) (fun _ _ _ h => h) (Or.inl ⟨?wr0x9, ?yr0x9⟩) hHeld ?rr0x9
      case hr0x9 => simp only [List.getElem?_toArray, List.getElem?_cons_zero, List.getElem?_cons_succ]; rfl
      case wr0x9 => rfl
      case yr0x9 => intro w hSw; (try dsimp only at hSw); go_simp; (try with_reducible rfl)
      simp only [Act.put, List.setIfInBounds_toArray, List.set_cons_zero, List.set_cons_succ]
      refine wpAnyH_take (i := 7) (v := ?vr0x10) (oi := ?or0x10) ?hr0x10 (by kernel_rfl) (by kernel_rfl) (by kernel_rfl) (fun _ _ _ h => h) (Or.inl ⟨?wr0x10, ?yr0x10⟩) hHeld ?rr0x10
      case hr0x10 => simp only [List.getElem?_toArray, List.getElem?_cons_zero, List.getElem?_cons_succ]; rfl
      case wr0x10 => rfl
      case yr0x10 => intro w hSw; (try dsimp only at hSw); go_simp; (try with_reducible rfl)
      simp only [Act.put, List.setIfInBounds_toArray, List.set_cons_zero, List.set_cons_succ]
      refine wpAnyH_take (i := 8) (v := ?vr0x11) (oi := ?or0x11) ?hr0x11 (by kernel_rfl) (by kernel_rfl) (by kernel_rfl) (fun _ _ _ h => h) (Or.inl ⟨?wr0x11, ?yr0x11⟩) hHeld ?rr0x11
      case hr0x11 => simp only [List.getElem?_toArray, List.getElem?_cons_zero, List.getElem?_cons_succ]; rfl
      case wr0x11 => rfl
      case yr0x11 => intro w hSw; (try dsimp only at hSw); go_simp; (try with_reducible rfl)
      simp only [Act.put, List.setIfInBounds_toArray, List.set_cons_zero, List.set_cons_succ]
      refine wpAnyH_ready (rs := [9]) (by kernel_rfl) (by simp) ?_
      refine AllReadyH.cons (o := ?or0x12) ?hr0x12 (fun K hK => ?sr0x12) AllReadyH.nil
      case hr0x12 => simp only [List.getElem?_toArray, List.getElem?_cons_zero, List.getElem?_cons_succ]; rfl
      go_simp
      refine (is15_any ⟨num, k, s, l, data⟩ HF.out (HB8.out.no K15) (HQ.out _ (HK14.out.trans' K15))).mono ?_
      rintro e w16 ⟨rfl, k16⟩
      have K16 := K15.trans' k16
      go_wp2_with fail
      refine hK.out _ _ (kept16 k16 hHeld) (fun hHeld => ?_)
      clear hK K
      try simp only [Act.put, List.setIfInBounds_toArray, List.set_cons_zero, List.set_cons_succ]
      refine wpAnyH_take (i := 10) (v := ?vr0x13) (oi := ?or0x13) ?hr0x13 (by kernel_rfl) (by kernel_rfl) (by kernel_rfl) (fun _ _ _ h => h) (Or.inl ⟨?wr0x13, ?yr0x13⟩) hHeld ?rr0x13
      case hr0x13 => simp only [List.getElem?_toArray, List.getElem?_cons_zero, List.getElem?_cons_succ]; rfl
      case wr0x13 => rfl
      case yr0x13 => intro w hSw; (try dsimp only at hSw); go_simp; (try with_reducible rfl)
      simp only [Act.put, List.setIfInBounds_toArray, List.set_cons_zero, List.set_cons_succ]
      refine wpAnyH_take (i := 11) (v := ?vr0x14) (oi := ?or0x14) ?hr0x14 (by kernel_rfl) (by kernel_rfl) (by kernel_rfl) (fun _ _ _ h => h) (Or.inl ⟨?wr0x14, ?yr0x14⟩) hHeld ?rr0x14
      case hr0x14 => simp only [List.getElem?_toArray, List.getElem?_cons_zero, List.getElem?_cons_succ]; rfl
      case wr0x14 => rfl
      case yr0x14 => intro w hSw; (try dsimp only at hSw); go_simp; (try with_reducible rfl)
      simp only [Act.put, List.setIfInBounds_toArray, List.set_cons_zero, List.set_cons_succ]
      refine wpAnyH_take (i := 12) (v := ?vr0x15) (oi := ?or0x15) ?hr0x15 (by kernel_rfl) (by kernel_rfl) (by kernel_rfl) (fun _ _ _ h => h) (Or.inl ⟨?wr0x15, ?yr0x15⟩) hHeld ?rr0x15
      case hr0x15 => simp only [List.getElem?_toArray, List.getElem?_cons_zero, List.getElem?_cons_succ]; rfl
      case wr0x15 => rfl
      case yr0x15 => intro w hSw; (try dsimp only at hSw); go_simp; (try with_reducible rfl)
      simp only [Act.put, List.setIfInBounds_toArray, List.set_cons_zero, List.set_cons_succ]
      refine wpAnyH_take (i := 13) (v := ?vr0x16) (oi := ?or0x16) ?hr0x16 (by kernel_rfl) (by kernel_rfl) (by kernel_rfl) (fun _ _ _ h => h) (Or.inl ⟨?wr0x16, ?yr0x16⟩) hHeld ?rr0x16
      case hr0x16 => simp only [List.getElem?_toArray, List.getElem?_cons_zero, List.getElem?_cons_succ]; rfl
      case wr0x16 => rfl
      case yr0x16 => intro w hSw; (try dsimp only at hSw); go_simp; (try with_reducible rfl)
      simp only [Act.put, List.setIfInBounds_toArray, List.set_cons_zero, List.set_cons_succ]
      refine wpAnyH_take (i := 14) (v := ?vr0x17) (oi := ?or0x17) ?hr0x17 (by kernel_rfl) (by kernel_rfl) (by kernel_rfl) (fun _ _ _ h => h) (Or.inl ⟨?wr0x17, ?yr0x17⟩) hHeld ?rr0x17
      case hr0x17 => simp only [List.getElem?_toArray, List.getElem?_cons_zero, List.getElem?_cons_succ]; rfl
      case wr0x17 => rfl
      case yr0x17 => intro w hSw; (try dsimp only at hSw); go_simp; (try with_reducible rfl)
      simp only [Act.put, List.setIfInBounds_toArray, List.set_cons_zero, List.set_cons_succ]
      refine wpAnyH_take (i := 15) (v := ?vr0x18) (oi := ?or0x18) ?hr0x18 (by kernel_rfl) (by kernel_rfl) (by kernel_rfl) (fun _ _ _ h => h) (Or.inl ⟨?wr0x18, ?yr0x18⟩) hHeld ?rr0x18
      case hr0x18 => simp only [List.getElem?_toArray, List.getElem?_cons_zero, List.getElem?_cons_succ]; rfl
      case wr0x18 => rfl
      case yr0x18 => intro w hSw; (try dsimp only at hSw); go_simp; (try with_reducible rfl)
      simp only [Act.put, List.setIfInBounds_toArray, List.set_cons_zero, List.set_cons_succ]
      refine wpAnyH_ready (rs := [16]) (by kernel_rfl) (by simp) ?_
      refine AllReadyH.cons (o := ?or0x19) ?hr0x19 (fun K hK => ?sr0x19) AllReadyH.nil
      case hr0x19 => simp only [List.getElem?_toArray, List.getElem?_cons_zero, List.getElem?_cons_succ]; rfl
      go_simp
      refine (awake15_any _).mono ?_
      rintro e w17 ⟨rfl, k17⟩
      have K17 := K16.trans' k17
      go_wp2_with fail
      refine hK.out _ _ (kept16 k17 hHeld) (fun hHeld => ?_)
      clear hK K
      try simp only [Act.put, List.setIfInBounds_toArray, List.set_cons_zero, List.set_cons_succ]
      refine wpAnyH_take (i := 17) (v := ?vr0x20) (oi := ?or0x20) ?hr0x20 (by kernel_rfl) (by kernel_rfl) (by kernel_rfl) (fun _ _ _ h => h) (Or.inl ⟨?wr0x20, ?yr0x20⟩) hHeld ?rr0x20
      case hr0x20 => simp only [List.getElem?_toArray, List.getElem?_cons_zero, List.getElem?_cons_succ]; rfl
      case wr0x20 => rfl
      case yr0x20 => intro w hSw; (try dsimp only at hSw); go_simp; (try with_reducible rfl)
      simp only [Act.put, List.setIfInBounds_toArray, List.set_cons_zero, List.set_cons_succ]
      refine wpAnyH_take (i := 18) (v := ?vr0x21) (oi := ?or0x21) ?hr0x21 (by kernel_rfl) (by kernel_rfl) (by kernel_rfl) (fun _ _ _ h => h) (Or.inl ⟨?wr0x21, ?yr0x21⟩) hHeld ?rr0x21
      case hr0x21 => simp only [List.getElem?_toArray, List.getElem?_cons_zero, List.getElem?_cons_succ]; rfl
      case wr0x21 => rfl
      case yr0x21 => intro w hSw; (try dsimp only at hSw); go_simp; (try with_reducible rfl)
      simp only [Act.put, List.setIfInBounds_toArray, List.set_cons_zero, List.set_cons_succ]
      refine wpAnyH_done (by kernel_rfl) ?_ _
      refine NoPanic.normal ?_
      go_wp2_with fail
      go_ret
      exact ⟨rfl, HK14.out.trans' K17⟩
    case sr0x5 =>
      go_simp
      refine (rbytes15_any ⟨num, k, s, l, data⟩ HF.out HRG.out (HQ.out _ (HK14.out.drew)) (Nat.le_trans hn0 (by decide))).mono ?_
      rintro e w15 ⟨A9, n9, c9, rfl, o9, k15⟩
      have K15 : Kp No w14 w15 := ((Kp.refl No w14).drew).trans' k15
      have v2 := conv_bts o9.bts
      rw [← HTB.out] at v2
      have v1 := conv_bts (HO.out.no K15).bts
      rw [← HTB.out] at v1
      go_wp2_with fail
      refine hK.out _ _ (kept16 k15 hHeld) (fun hHeld => ?_)
      clear hK K
      try simp only [Act.put, List.setIfInBounds_toArray, List.set_cons_zero, List.set_cons_succ]
      refine wpAnyH_ready (rs := [1, 4]) (by kernel_rfl) (by simp) ?_
      refine (AllReadyH.cons (o := ?or0x24) ?hr0x24 (fun K hK => ?sr0x24) (AllReadyH.cons (o := ?or0x25) ?hr0x25 (fun K hK => ?sr0x25) AllReadyH.nil))
      case hr0x24 => simp only [List.getElem?_toArray, List.getElem?_cons_zero, List.getElem?_cons_succ]; rfl
      case hr0x25 => simp only [List.getElem?_toArray, List.getElem?_cons_zero, List.getElem?_cons_succ]; rfl
      case sr0x24 =>
        go_simp
        refine hK.out _ _ (hHeld) (fun hHeld => ?_)
        clear hK K
        try simp only [Act.put, List.setIfInBounds_toArray, List.set_cons_zero, List.set_cons_succ]
        refine wpAnyH_ready (rs := [4]) (by kernel_rfl) (by simp) ?_
        refine AllReadyH.cons (o := ?or0x26) ?hr0x26 (fun K hK => ?sr0x26) AllReadyH.nil
        case hr0x26 => simp only [List.getElem?_toArray, List.getElem?_cons_zero, List.getElem?_cons_succ]; rfl
        go_simp
        refine hK.out _ _ (hHeld) (fun hHeld => ?_)
        clear hK K
        try simp only [Act.put, List.setIfInBounds_toArray, List.set_cons_zero, List.set_cons_succ]
        refine wpAnyH_take (i := 5) (v := ?vr0x27) (oi := ?or0x27) ?hr0x27 (by kernel_rfl) (by kernel_rfl) (by kernel_rfl) (fun _ _ _ h => h) (Or.inl ⟨?wr0x27, ?yr0x27⟩) hHeld ?rr0x27
        case hr0x27 => simp only [List.getElem?_toArray, List.getElem?_cons_zero, List.getElem?_cons_succ]; rfl
        case wr0x27 => rfl
        case yr0x27 => intro w hSw; (try dsimp only at hSw); go_simp; (try with_reducible rfl)
        simp only [Act.put, List.setIfInBounds_toArray, List.set_cons_zero, List.set_cons_succ]
        refine wpAnyH_take (i := 6) (v := ?vr0x28) (oi := ?or0x28) ?hr0x28 (by kernel_rfl) (by kernel_rfl) (by kernel_rfl) (fun _ _ _ h => h) (Or.inl ⟨?wr0x28, ?yr0x28⟩) hHeld ?rr0x28
        case hr0x28 => simp only [List.getElem?_toArray, List.getElem?_cons_zero, List.getElem?_cons_succ]; rfl
        case wr0x28 => rfl
        case yr0x28 => intro w hSw; (try dsimp only at hSw); go_simp; (try with_reducible rfl)
        simp only [Act.put, List.setIfInBounds_toArray, List.set_cons_zero, List.set_cons_succ]
        refine wpAnyH_take (i := 7) (v := ?vr0x29) (oi := ?or0x29) ?hr0x29 (by kernel_rfl) (by kernel_rfl) (by kernel_rfl) (fun _ _ _ h => h) (Or.inl ⟨?wr0x29, ?yr0x29⟩) hHeld ?rr0x29
        case hr0x29 => simp only [List.getElem?_toArray, List.getElem?_cons_zero, List.getElem?_cons_succ]; rfl
        case wr0x29 => rfl
        case yr0x29 => intro w hSw; (try dsimp only at hSw); go_simp; (try with_reducible rfl)
        simp only [Act.put, List.setIfInBounds_toArray, List.set_cons_zero, List.set_cons_succ]
        refine wpAnyH_take (i := 8) (v := ?vr0x30) (oi := ?or0x30) ?hr0x30 (by kernel_rfl) (by kernel_rfl) (by kernel_rfl) (fun _ _ _ h => h) (Or.inl ⟨?wr0x30, ?yr0x30⟩) hHeld ?rr0x30
        case hr0x30 => simp only [List.getElem?_toArray, List.getElem?_cons_zero, List.getElem?_cons_succ]; rfl
        case wr0x30 => rfl
        case yr0x30 => intro w hSw; (try dsimp only at hSw); go_simp; (try with_reducible rfl)
        simp only [Act.put, List.setIfInBounds_toArray, List.set_cons_zero, List.set_cons_succ]
        refine wpAnyH_ready (rs := [9]) (by kernel_rfl) (by simp) ?_
        refine AllReadyH.cons (o := ?or0x31) ?hr0x31 (fun K hK => ?sr0x31) AllReadyH.nil
        case hr0x31 => simp only [List.getElem?_toArray, List.getElem?_cons_zero, List.getElem?_cons_succ]; rfl
        go_simp
        refine (is15_any ⟨num, k, s, l, data⟩ HF.out (HB8.out.no K15) (HQ.out _ (HK14.out.trans' K15))).mono ?_
        rintro e w16 ⟨rfl, k16⟩
        have K16 := K15.trans' k16
        go_wp2_with fail
        refine hK.out _ _ (kept16 k16 hHeld) (fun hHeld => ?_)
        clear hK K
        try simp only [Act.put, List.setIfInBounds_toArray, List.set_cons_zero, List.set_cons_succ]
        refine wpAnyH_take (i := 10) (v := ?vr0x32) (oi := ?or0x32) ?hr0x32 (by kernel_rfl) (by kernel_rfl) (by kernel_rfl) (fun _ _ _ h => h) (Or.inl ⟨?wr0x32, ?yr0x32⟩) hHeld ?rr0x32
        case hr0x32 => simp only [List.getElem?_toArray, List.getElem?_cons_zero, List.getElem?_cons_succ]; rfl
        case wr0x32 => rfl
        case yr0x32 => intro w hSw; (try dsimp only at hSw); go_simp; (try with_reducible rfl)
        simp only [Act.put, List.setIfInBounds_toArray, List.set_cons_zero, List.set_cons_succ]
        refine wpAnyH_take (i := 11) (v := ?vr0x33) (oi := ?or0x33) ?hr0x33 (by kernel_rfl) (by kernel_rfl) (by kernel_rfl) (fun _ _ _ h => h) (Or.inl ⟨?wr0x33, ?yr0x33⟩) hHeld ?rr0x33
        case hr0x33 => simp only [List.getElem?_toArray, List.getElem?_cons_zero, List.getElem?_cons_succ]; rfl
        case wr0x33 => rfl
        case yr0x33 => intro w hSw; (try dsimp only at hSw); go_simp; (try with_reducible rfl)
        simp only [Act.put, List.setIfInBounds_toArray, List.set_cons_zero, List.set_cons_succ]
        refine wpAnyH_take (i := 12) (v := ?vr0x34) (oi := ?or0x34) ?hr0x34 (by kernel_rfl) (by kernel_rfl) (by kernel_rfl) (fun _ _ _ h => h) (Or.inl ⟨?wr0x34, ?yr0x34⟩) hHeld ?rr0x34
        case hr0x34 => simp only [List.getElem?_toArray, List.getElem?_cons_zero, List.getElem?_cons_succ]; rfl
        case wr0x34 => rfl
        case yr0x34 => intro w hSw; (try dsimp only at hSw); go_simp; (try with_reducible rfl)
        simp only [Act.put, List.setIfInBounds_toArray, List.set_cons_zero, List.set_cons_succ]
        refine wpAnyH_take (i := 13) (v := ?vr0x35) (oi := ?or0x35) ?hr0x35 (by kernel_rfl) (by kernel_rfl) (by kernel_rfl) (fun _ _ _ h => h) (Or.inl ⟨?wr0x35, ?yr0x35⟩) hHeld ?rr0x35
        case hr0x35 => simp only [List.getElem?_toArray, List.getElem?_cons_zero, List.getElem?_cons_succ]; rfl
        case wr0x35 => rfl
        case yr0x35 => intro w hSw; (try dsimp only at hSw); go_simp; (try with_reducible rfl)
        simp only [Act.put, List.setIfInBounds_toArray, List.set_cons_zero, List.set_cons_succ]
        refine wpAnyH_take (i := 14) (v := ?vr0x36) (oi := ?or0x36) ?hr0x36 (by kernel_rfl) (by kernel_rfl) (by kernel_rfl) (fun _ _ _ h => h) (Or.inl ⟨?wr0x36, ?yr0x36⟩) hHeld ?rr0x36
        case hr0x36 => simp only [List.getElem?_toArray, List.getElem?_cons_zero, List.getElem?_cons_succ]; rfl
        case wr0x36 => rfl
        case yr0x36 => intro w hSw; (try dsimp only at hSw); go_simp; (try with_reducible rfl)
        simp only [Act.put, List.setIfInBounds_toArray, List.set_cons_zero, List.set_cons_succ]
        refine wpAnyH_take (i := 15) (v := ?vr0x37) (oi := ?or0x37) ?hr0x37 (by kernel_rfl) (by kernel_rfl) (by kernel_rfl) (fun _ _ _ h => h) (Or.inl ⟨?wr0x37, ?yr0x37⟩) hHeld ?rr0x37
        case hr0x37 => simp only [List.getElem?_toArray, List.getElem?_cons_zero, List.getElem?_cons_succ]; rfl
        case wr0x37 => rfl
        case yr0x37 => intro w hSw; (try dsimp only at hSw); go_simp; (try with_reducible rfl)
        simp only [Act.put, List.setIfInBounds_toArray, List.set_cons_zero, List.set_cons_succ]
        refine wpAnyH_ready (rs := [16]) (by kernel_rfl) (by simp) ?_
        refine AllReadyH.cons (o := ?or0x38) ?hr0x38 (fun K hK => ?sr0x38) AllReadyH.nil
        case hr0x38 => simp only [List.getElem?_toArray, List.getElem?_cons_zero, List.getElem?_cons_succ]; rfl
        go_simp
        refine (awake15_any _).mono ?_
        rintro e w17 ⟨rfl, k17⟩
        have K17 := K16.trans' k17
        go_wp2_with fail
        refine hK.out _ _ (kept16 k17 hHeld) (fun hHeld => ?_)
        clear hK K
        try simp only [Act.put, List.setIfInBounds_toArray, List.set_cons_zero, List.set_cons_succ]
        refine wpAnyH_take (i := 17) (v := ?vr0x39) (oi := ?or0x39) ?hr0x39 (by kernel_rfl) (by kernel_rfl) (by kernel_rfl) (fun _ _ _ h => h) (Or.inl ⟨?wr0x39, ?yr0x39⟩) hHeld ?rr0x39
        case hr0x39 => simp only [List.getElem?_toArray, List.getElem?_cons_zero, List.getElem?_cons_succ]; rfl
        case wr0x39 => rfl
        case yr0x39 => intro w hSw; (try dsimp only at hSw); go_simp; (try with_reducible rfl)
        simp only [Act.put, List.setIfInBounds_toArray, List.set_cons_zero, List.set_cons_succ]
        refine wpAnyH_take (i := 18) (v := ?vr0x40) (oi := ?or0x40) ?hr0x40 (by kernel_rfl) (by kernel_rfl) (by kernel_rfl) (fun _ _ _ h => h) (Or.inl ⟨?wr0x40, ?yr0x40⟩) hHeld ?rr0x40
        case hr0x40 => simp only [List.getElem?_toArray, List.getElem?_cons_zero, List.getElem?_cons_succ]; rfl
        case wr0x40 => rfl
        case yr0x40 => intro w hSw; (try dsimp only at hSw); go_simp; (try with_reducible rfl)
        simp only [Act.put, List.setIfInBounds_toArray, List.set_cons_zero, List.set_cons_succ]
        refine wpAnyH_done (by kernel_rfl) ?_ _
        refine NoPanic.normal ?_
        go_wp2_with fail
        go_ret
        exact ⟨rfl, HK14.out.trans' K17⟩
      case sr0x25 =>
        go_simp
        refine hK.out _ _ (hHeld) (fun hHeld => ?_)
        clear hK K
        try simp only [Act.put, List.setIfInBounds_toArray, List.set_cons_zero, List.set_cons_succ]
        refine wpAnyH_ready (rs := [1]) (by kernel_rfl) (by simp) ?_
        refine AllReadyH.cons (o := ?or0x42) ?hr0x42 (fun K hK => ?sr0x42) AllReadyH.nil
        case hr0x42 => simp only [List.getElem?_toArray, List.getElem?_cons_zero, List.getElem?_cons_succ]; rfl
        go_simp
        refine hK.out _ _ (hHeld) (fun hHeld => ?_)
        clear hK K
        try simp only [Act.put, List.setIfInBounds_toArray, List.set_cons_zero, List.set_cons_succ]
        refine wpAnyH_take (i := 5) (v := ?vr0x43) (oi := ?or0x43) ?hr0x43 (by kernel_rfl) (by kernel_rfl) (by kernel_rfl) (fun _ _ _ h => h) (Or.inl ⟨?wr0x43, ?yr0x43⟩) hHeld ?rr0x43
        case hr0x43 => simp only [List.getElem?_toArray, List.getElem?_cons_zero, List.getElem?_cons_succ]; rfl
        case wr0x43 => rfl
        case yr0x43 => intro w hSw; (try dsimp only at hSw); go_simp; (try with_reducible rfl)
        simp only [Act.put, List.setIfInBounds_toArray, List.set_cons_zero, List.set_cons_succ]
        refine wpAnyH_take (i := 6) (v := ?vr0x44) (oi := ?or0x44) ?hr0x44 (by kernel_rfl) (by kernel_rfl) (by kernel_rfl) (fun _ _ _ h => h) (Or.inl ⟨?wr0x44, ?yr0x44⟩) hHeld ?rr0x44
        case hr0x44 => simp only [List.getElem?_toArray, List.getElem?_cons_zero, List.getElem?_cons_succ]; rfl
        case wr0x44 => rfl
        case yr0x44 => intro w hSw; (try dsimp only at hSw); go_simp; (try with_reducible rfl)
        simp only [Act.put, List.setIfInBounds_toArray, List.set_cons_zero, List.set_cons_succ]
        refine wpAnyH_take (i := 7) (v := ?vr0x45) (oi := ?or0x45) ?hr0x45 (by kernel_rfl) (by kernel_rfl) (by kernel_rfl) (fun _ _ _ h => h) (Or.inl ⟨?wr0x45, ?yr0x45⟩) hHeld ?rr0x45
        case hr0x45 => simp only [List.getElem?_toArray, List.getElem?_cons_zero, List.getElem?_cons_succ]; rfl
        case wr0x45 => rfl
        case yr0x45 => intro w hSw; (try dsimp only at hSw); go_simp; (try with_reducible rfl)
        simp only [Act.put, List.setIfInBounds_toArray, List.set_cons_zero, List.set_cons_succ]
        refine wpAnyH_take (i := 8) (v := ?vr0x46) (oi := ?or0x46) ?hr0x46 (by kernel_rfl) (by kernel_rfl) (by kernel_rfl) (fun _ _ _ h => h) (Or.inl ⟨?wr0x46, ?yr0x46⟩) hHeld ?rr0x46
        case hr0x46 => simp only [List.getElem?_toArray, List.getElem?_cons_zero, List.getElem?_cons_succ]; rfl
        case wr0x46 => rfl
        case yr0x46 => intro w hSw; (try dsimp only at hSw); go_simp; (try with_reducible rfl)
        simp only [Act.put, List.setIfInBounds_toArray, List.set_cons_zero, List.set_cons_succ]
        refine wpAnyH_ready (rs := [9]) (by kernel_rfl) (by simp) ?_
        refine AllReadyH.cons (o := ?or0x47) ?hr0x47 (fun K hK => ?sr0x47) AllReadyH.nil
        case hr0x47 => simp only [List.getElem?_toArray, List.getElem?_cons_zero, List.getElem?_cons_succ]; rfl
        go_simp
        refine (is15_any ⟨num, k, s, l, data⟩ HF.out (HB8.out.no K15) (HQ.out _ (HK14.out.trans' K15))).mono ?_
        rintro e w16 ⟨rfl, k16⟩
        have K16 := K15.trans' k16
        go_wp2_with fail
        refine hK.out _ _ (kept16 k16 hHeld) (fun hHeld => ?_)
        clear hK K
        try simp only [Act.put, List.setIfInBounds_toArray, List.set_cons_zero, List.set_cons_succ]
        refine wpAnyH_take (i := 10) (v := ?vr0x48) (oi := ?or0x48) ?hr0x48 (by kernel_rfl) (by kernel_rfl) (by kernel_rfl) (fun _ _ _ h => h) (Or.inl ⟨?wr0x48, ?yr0x48⟩) hHeld ?rr0x48
        case hr0x48 => simp only [List.getElem?_toArray, List.getElem?_cons_zero, List.getElem?_cons_succ]; rfl
        case wr0x48 => rfl
        case yr0x48 => intro w hSw; (try dsimp only at hSw); go_simp; (try with_reducible rfl)
        simp only [Act.put, List.setIfInBounds_toArray, List.set_cons_zero, List.set_cons_succ]
        refine wpAnyH_take (i := 11) (v := ?vr0x49) (oi := ?or0x49) ?hr0x49 (by kernel_rfl) (by kernel_rfl) (by kernel_rfl) (fun _ _ _ h => h) (Or.inl ⟨?wr0x49, ?yr0x49⟩) hHeld ?rr0x49
        case hr0x49 => simp only [List.getElem?_toArray, List.getElem?_cons_zero, List.getElem?_cons_succ]; rfl
        case wr0x49 => rfl
        case yr0x49 => intro w hSw; (try dsimp only at hSw); go_simp; (try with_reducible rfl)
        simp only [Act.put, List.setIfInBounds_toArray, List.set_cons_zero, List.set_cons_succ]
        refine wpAnyH_take (i := 12) (v := ?vr0x50) (oi := ?or0x50) ?hr0x50 (by kernel_rfl) (by kernel_rfl) (by kernel_rfl) (fun _ _ _ h => h) (Or.inl ⟨?wr0x50, ?yr0x50⟩) hHeld ?rr0x50
        case hr0x50 => simp only [List.getElem?_toArray, List.getElem?_cons_zero, List.getElem?_cons_succ]; rfl
        case wr0x50 => rfl
        case yr0x50 => intro w hSw; (try dsimp only at hSw); go_simp; (try with_reducible rfl)
        simp only [Act.put, List.setIfInBounds_toArray, List.set_cons_zero, List.set_cons_succ]
        refine wpAnyH_take (i := 13) (v := ?vr0x51) (oi := ?or0x51) ?hr0x51 (by kernel_rfl) (by kernel_rfl) (by kernel_rfl) (fun _ _ _ h => h) (Or.inl ⟨?wr0x51, ?yr0x51⟩) hHeld ?rr0x51
        case hr0x51 => simp only [List.getElem?_toArray, List.getElem?_cons_zero, List.getElem?_cons_succ]; rfl
        case wr0x51 => rfl
        case yr0x51 => intro w hSw; (try dsimp only at hSw); go_simp; (try with_reducible rfl)
        simp only [Act.put, List.setIfInBounds_toArray, List.set_cons_zero, List.set_cons_succ]
        refine wpAnyH_take (i := 14) (v := ?vr0x52) (oi := ?or0x52) ?hr0x52 (by kernel_rfl) (by kernel_rfl) (by kernel_rfl) (fun _ _ _ h => h) (Or.inl ⟨?wr0x52, ?yr0x52⟩) hHeld ?rr0x52
        case hr0x52 => simp only [List.getElem?_toArray, List.getElem?_cons_zero, List.getElem?_cons_succ]; rfl
        case wr0x52 => rfl
        case yr0x52 => intro w hSw; (try dsimp only at hSw); go_simp; (try with_reducible rfl)
        simp only [Act.put, List.setIfInBounds_toArray, List.set_cons_zero, List.set_cons_succ]
        refine wpAnyH_take (i := 15) (v := ?vr0x53) (oi := ?or0x53) ?hr0x53 (by kernel_rfl) (by kernel_rfl) (by kernel_rfl) (fun _ _ _ h => h) (Or.inl ⟨?wr0x53, ?yr0x53⟩) hHeld ?rr0x53
        case hr0x53 => simp only [List.getElem?_toArray, List.getElem?_cons_zero, List.getElem?_cons_succ]; rfl
        case wr0x53 => rfl
        case yr0x53 => intro w hSw; (try dsimp only at hSw); go_simp; (try with_reducible rfl)
        simp only [Act.put, List.setIfInBounds_toArray, List.set_cons_zero, List.set_cons_succ]
        refine wpAnyH_ready (rs := [16]) (by kernel_rfl) (by simp) ?_
        refine AllReadyH.cons (o := ?or0x54) ?hr0x54 (fun K hK => ?sr0x54) AllReadyH.nil
        case hr0x54 => simp only [List.getElem?_toArray, List.getElem?_cons_zero, List.getElem?_cons_succ]; rfl
        go_simp
        refine (awake15_any _).mono ?_
        rintro e w17 ⟨rfl, k17⟩
        have K17 := K16.trans' k17
        go_wp2_with fail
        refine hK.out _ _ (kept16 k17 hHeld) (fun hHeld => ?_)
        clear hK K
        try simp only [Act.put, List.setIfInBounds_toArray, List.set_cons_zero, List.set_cons_succ]
        refine wpAnyH_take (i := 17) (v := ?vr0x55) (oi := ?or0x55) ?hr0x55 (by kernel_rfl) (by kernel_rfl) (by kernel_rfl) (fun _ _ _ h => h) (Or.inl ⟨?wr0x55, ?yr0x55⟩) hHeld ?rr0x55
        case hr0x55 => simp only [List.getElem?_toArray, List.getElem?_cons_zero, List.getElem?_cons_succ]; rfl
        case wr0x55 => rfl
        case yr0x55 => intro w hSw; (try dsimp only at hSw); go_simp; (try with_reducible rfl)
        simp only [Act.put, List.setIfInBounds_toArray, List.set_cons_zero, List.set_cons_succ]
        refine wpAnyH_take (i := 18) (v := ?vr0x56) (oi := ?or0x56) ?hr0x56 (by kernel_rfl) (by kernel_rfl) (by kernel_rfl) (fun _ _ _ h => h) (Or.inl ⟨?wr0x56, ?yr0x56⟩) hHeld ?rr0x56
        case hr0x56 => simp only [List.getElem?_toArray, List.getElem?_cons_zero, List.getElem?_cons_succ]; rfl
        case wr0x56 => rfl
        case yr0x56 => intro w hSw; (try dsimp only at hSw); go_simp; (try with_reducible rfl)
        simp only [Act.put, List.setIfInBounds_toArray, List.set_cons_zero, List.set_cons_succ]
        refine wpAnyH_done (by kernel_rfl) ?_ _
        refine NoPanic.normal ?_
        go_wp2_with fail
        go_ret
        exact ⟨rfl, HK14.out.trans' K17⟩

theorem wirerequests_no (W : World) {A0 A1 : Option Addr} {n0 c0 n1 c1 : Nat} (q : Rq) (h : 300 < n0 ∨ (n0 ≤ 300 ∧ 500 < n1)) :
    Calls Try.prog 3 #[rqV q (.slice A0 n0 c0), .slice A1 n1 c1] W (TruePost W) := by
  obtain ⟨num, k, s, l, data⟩ := q
  rcases h with h | ⟨h1, h⟩
  · have q0 : (300 : Int) < (n0 : Int) := by omega
    go_enter Try.func3, Try.ntmps3
    go_wp2_with fail
    refine (awake15_any _).mono ?_
    rintro e w1 ⟨rfl, k1⟩
    go_wp2_with fail
    go_ret
    exact ⟨rfl, (Kp.alloc No W _).trans' k1⟩
  · have q0 : ¬ (300 : Int) < (n0 : Int) := by omega
    have q1 : (500 : Int) < (n1 : Int) := by omega
    go_enter Try.func3, Try.ntmps3
    go_wp2_with fail
    refine (awake15_any _).mono ?_
    rintro e w1 ⟨rfl, k1⟩
    go_wp2_with fail
    go_ret
    exact ⟨rfl, (Kp.alloc No W _).trans' k1⟩
/-- WireRequests. -/
theorem wirerequests_walk (W : World) {A1 : Option Addr} {n1 c1 : Nat} {bs : List UInt8} (q : Rq) {u : Value} (hf : q.Fit) (hq : Bts W u q.data) (hb : Bts W (.slice A1 n1 c1) bs) (hnc : n1 ≤ c1) :
    Calls Try.prog 3 #[rqV q u, .slice A1 n1 c1] W fun e W' => e = .returned (.bool true) ∧ Below W.heap.size W W' := by
  obtain ⟨A0, n0, c0, rfl⟩ := hq.form
  refine Calls.mono (R := TruePost W) ?_ fun e W' p => ⟨p.1, p.2.below0⟩
  by_cases h : n0 ≤ 300 ∧ n1 ≤ 500
  · have hl : bs.length ≤ 1000 := by have := hb.len; omega
    rcases hE : rqE bs with _ | _
    · exact wirerequests_false W q rq0 hf rq0_fit hq h.1 h.2 (hide fun w' k => parse15_any (hb.no k) hl _ _ (fun h => by rw [hE] at h; cases h) fun _ => ⟨rfl, rfl⟩)
        (hide fun w' k => rparse15_any (hb.no k) hnc hl _ _ (fun h => by rw [hE] at h; cases h) fun _ => ⟨rfl, rfl⟩)
    · exact wirerequests_true W q (rqO bs) hf (rqO_fit bs) hq h.1 h.2 (hide fun w' k => parse15_any (hb.no k) hl _ _ (fun _ => ⟨rfl, rfl⟩) (fun h => by rw [hE] at h; cases h))
        (hide fun w' k => rparse15_any (hb.no k) hnc hl _ _ (fun _ => ⟨rfl, rfl⟩) (fun h => by rw [hE] at h; cases h))
  · exact wirerequests_no W q (by omega)
end Go.Proofs.Ytkpongkojkhboaa
