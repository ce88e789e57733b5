/- Package urgent's Get, First and Pop, each as a contract; those of a queue that is none. No condition. -/
import Derived.Test.YtjbnbbblafmldaaUbas
namespace Go.Proofs.Ytjbnbbblafmldaa
open Go.RowKit
set_option linter.unusedVariables false
set_option linter.unusedSimpArgs false
set_option maxRecDepth 20000

/-- The zero job. -/
def zJ : Nat := mkJ 0 0 0
theorem zJ_lt : zJ < NJ := mkJ_lt (by omega) (by omega) (by omega) (by omega)
theorem zJ_val : jbV zJ = .agg #[.int .u32 0, .int .u16 0, .int .i64 0] := by
  have h0 : jO zJ = 0 := jO_mk (by omega) (by omega)
  have h1 : jS zJ = 0 := jS_mk (by omega) (by omega)
  have h2 : jG zJ = 0 := jG_mk (by omega) (by omega) (by omega)
  unfold jbV
  rw [h0, h1, h2]
  rfl
/-- A job, or none. -/
def UjPost (w : World) (o : Option Nat) (e : Ending) (w1 : World) : Prop := e = .returned (.tuple #[jbV (o.getD zJ), .bool o.isSome]) ∧ Kp No w w1
theorem uj_none {w w1 : World} (hk : Kp No w w1) : UjPost w none (.returned (.tuple #[.agg #[.int .u32 0, .int .u16 0, .int .i64 0], .bool false])) w1 := ⟨by rw [← zJ_val]; rfl, hk⟩
set_option maxHeartbeats 1000000 in
theorem uget_of_no {w : World} {p : Value} {k : Nat} {z : Int} (hc : ∀ w', Kp No w w' → Calls Try.prog 19 #[p, kyV k] w' (UpPost w' z false)) :
    Calls Try.prog 15 #[p, kyV k] w (UjPost w none) := by
  unfold kyV at hc ⊢
  generalize kO k = k0 at hc ⊢
  generalize kS k = k1 at hc ⊢
  have K1 := Kp.alloc No w (.cells #[.int .u32 (k0 : Int), .int .u16 (k1 : Int)] 34)
  have K2 := K1.al (.cells #[.int .u32 0, .int .u16 0, .int .i64 0] 36)
  have HC := hide (hc _ K2)
  have hb := Bx3.new (w.alloc (.cells #[.int .u32 (k0 : Int), .int .u16 (k1 : Int)] 34)) 36 (.int .u32 0) (.int .u16 0) (.int .i64 0)
  rw [show (w.alloc (.cells #[.int .u32 (k0 : Int), .int .u16 (k1 : Int)] 34)).heap.size = w.heap.size + 1 by simp] at hb
  have HB := hide hb
  have HK := hide K2
  clear hc hb K1 K2
  go_enter Try.func15, Try.ntmps15
  go_wp2_with fail
  refine HC.out.mono ?_
  rintro e w1 ⟨rfl, k2⟩
  have HB1 := hide (HB.out.no k2)
  have HK1 := hide (HK.out.trans' k2)
  have HS : Hid (w.heap.size ≤ w.heap.size + 1) := Nat.le_succ _
  obtain ⟨x0, x1, x2⟩ := HB1.out.cell
  have x3 := HB1.out.fz
  clear HC HB HK k2
  generalize w.heap.size + 1 = s at HB1 HS x0 x1 x2 x3 ⊢
  go_wp2_with fail
  have hb := (HB1.out.all (.int .u32 0) (.int .u16 0) (.int .i64 0)).cell
  have hk := HK1.out.trans (kp3 (S := Up No w) w1 s (.int .u32 0) (.int .u16 0) (.int .i64 0) (.inr HS.out))
  obtain ⟨r0, r1, r2⟩ := hb
  clear x0 x1 x2 x3
  exact bodyPost_ret (v := .tuple #[.agg #[.int .u32 0, .int .u16 0, .int .i64 0], .bool false]) (by simp [results, Try.results15, go_sem, r0, r1, r2]) rfl (uj_none hk)
set_option maxHeartbeats 1000000 in
theorem uget_yes {w : World} {F : Nat → Prop} {g k : Nat} {r : List Nat} (h : QuAt w F g r) (hh : rHas r k = true) (hk : k < N48) (hr : r.length ≤ 900000) :
    Calls Try.prog 15 #[.pointer (some ⟨g, 0, none⟩), kyV k] w (UjPost w (some (rJob r k))) := by
  obtain ⟨b, A, n, cp, R, M, h1, h2⟩ := h
  have hRl : R.length ≤ 900000 := by rw [h2.len]; exact hr
  obtain ⟨i, hM, hi, hRi⟩ := h2.place_yes hh
  obtain ⟨gj, rfl, -⟩ := OwnT.some_ h1.row (by omega)
  generalize rJob r k = x at hRi ⊢
  have K1 := Kp.alloc No w (.cells #[.int .u32 (kO k : Int), .int .u16 (kS k : Int)] 34)
  have K2 := K1.al (.cells #[.int .u32 0, .int .u16 0, .int .i64 0] 36)
  have HP := hide (uplace_any (h1.no K2) hk)
  rw [hM] at HP
  have HC : Hid (Calls Try.prog 19 #[.pointer (some ⟨g, 0, none⟩), .agg #[.int .u32 (kO k : Int), .int .u16 (kS k : Int)]] _ (UpPost _ ((i : Nat) : Int) true)) := HP.out
  have HA := hide (h1.no K2)
  have hb := Bx3.new (w.alloc (.cells #[.int .u32 (kO k : Int), .int .u16 (kS k : Int)] 34)) 36 (.int .u32 0) (.int .u16 0) (.int .i64 0)
  rw [show (w.alloc (.cells #[.int .u32 (kO k : Int), .int .u16 (kS k : Int)] 34)).heap.size = w.heap.size + 1 by simp] at hb
  have HB := hide hb
  have HK := hide K2
  have HN := hide h1.len
  have HI := hide hi
  have HRI := hide hRi
  have hib : i < 1000000 := by omega
  have hin : i < n := by rw [h1.len]; exact hi
  clear h1 h2 hr hRl hM hi hRi K1 K2 HP hb hh hk
  go_enter Try.func15, Try.ntmps15
  go_wp2_with fail
  refine HC.out.mono ?_
  rintro e w1 ⟨rfl, k2⟩
  have HB1 := hide (HB.out.no k2)
  have HK1 := hide (HK.out.trans' k2)
  have HA1 := hide (HA.out.no k2)
  have HS : Hid (w.heap.size ≤ w.heap.size + 1) := Nat.le_succ _
  obtain ⟨x0, x1, x2⟩ := HB1.out.cell
  have x3 := HB1.out.fz
  have y0 := HA1.out.c0
  obtain ⟨j0, j1, j2⟩ := JbR.cells HA1.out.row HRI.out
  clear HC HB HK HA k2
  generalize w.heap.size + 1 = s at HB1 HS x0 x1 x2 x3 ⊢
  go_wp2_with fail
  obtain ⟨r0, r1, r2⟩ := (HB1.out.all (.int .u32 (jO x : Int)) (.int .u16 (jS x : Int)) (.int .i64 (jG x))).cell
  have hk := HK1.out.trans (kp3 (S := Up No w) w1 s (.int .u32 (jO x : Int)) (.int .u16 (jS x : Int)) (.int .i64 (jG x)) (.inr HS.out))
  clear x0 x1 x2 x3 y0 j0 j1 j2
  exact bodyPost_ret (v := .tuple #[jbV x, .bool true]) (by simp [results, Try.results15, go_sem, r0, r1, r2]) rfl ⟨rfl, hk⟩
/-- First of none. -/
theorem ufirst_of_no {w : World} {p : Value} (hc : ∀ w', Kp No w w' → Calls Try.prog 17 #[p] w' fun e w1 => e = .returned (.int .i64 0) ∧ w' = w1) :
    Calls Try.prog 16 #[p] w (UjPost w none) := by
  have K1 := Kp.alloc No w (.cells #[.int .u32 0, .int .u16 0, .int .i64 0] 36)
  have HC := hide (hc _ K1)
  have HB := hide (Bx3.new w 36 (.int .u32 0) (.int .u16 0) (.int .i64 0))
  have HK := hide K1
  clear hc K1
  go_enter Try.func16, Try.ntmps16
  go_wp2_with fail
  refine HC.out.mono ?_
  rintro e w1 ⟨rfl, rfl⟩
  obtain ⟨r0, r1, r2⟩ := HB.out.cell
  go_wp2_with fail
  exact bodyPost_ret (v := .tuple #[.agg #[.int .u32 0, .int .u16 0, .int .i64 0], .bool false]) (by simp [results, Try.results16, go_sem, r0, r1, r2]) rfl (uj_none HK.out)
theorem ufirst_yes {w : World} {F : Nat → Prop} {g x : Nat} {t : List Nat} (h : QuAt w F g (x :: t)) (hr : (x :: t).length ≤ 900000) :
    Calls Try.prog 16 #[.pointer (some ⟨g, 0, none⟩)] w (UjPost w (some x)) := by
  have K1 := Kp.alloc No w (.cells #[.int .u32 0, .int .u16 0, .int .i64 0] 36)
  have HC := hide (ulen_any (h.no K1))
  obtain ⟨b, A, n, cp, R, M, h1, h2⟩ := h
  have h0 := h2.first x rfl
  have hl := h2.len
  obtain ⟨N, hN⟩ : ∃ N, N = (x :: t).length := ⟨_, rfl⟩
  rw [← hN] at HC hr hl
  have hN0 : 0 < N := by rw [hN]; simp
  have hz : ((N : Int) == 0) = false := by simp; omega
  obtain ⟨gj, rfl, -⟩ := OwnT.some_ h1.row (by omega)
  have hn : 0 < n := by rw [h1.len]; omega
  have HA := hide (h1.no K1)
  have HB := hide (Bx3.new w 36 (.int .u32 0) (.int .u16 0) (.int .i64 0))
  have HK := hide K1
  have H0 := hide h0
  have hgl := h1.glt
  have hjl := OwnT.lt h1.row gj rfl
  have y0 := h1.c0
  obtain ⟨j0, j1, j2⟩ := JbR.cells h1.row h0
  rw [Nat.zero_mul] at j0 j1 j2
  clear h1 h2 h0 hl hN hr K1 hN0
  go_enter Try.func16, Try.ntmps16
  go_wp2_with fail
  refine HC.out.mono ?_
  rintro e w1 ⟨rfl, rfl⟩
  go_wp2_with fail
  obtain ⟨r0, r1, r2⟩ := (Bx3.new w 36 (.int .u32 (jO x : Int)) (.int .u16 (jS x : Int)) (.int .i64 (jG x))).cell
  clear y0 j0 j1 j2
  exact bodyPost_ret (v := .tuple #[jbV x, .bool true]) (by simp [results, Try.results16, go_sem, r0, r1, r2]) rfl ⟨rfl, Kp.alloc No w _⟩
end Go.Proofs.Ytjbnbbblafmldaa
