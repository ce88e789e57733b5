/- Package urgent's Get, First and Pop, each as a contract; those of a queue that is none. No condition. -/
import Derived.Test.YtjbnbbblafmldaaUaas
namespace Go.Proofs.Ytjbnbbblafmldaa
open Go.RowKit
set_option linter.unusedVariables false
set_option linter.unusedSimpArgs false
set_option maxRecDepth 20000

/-- The zero job. -/
def zJ : Nat := mkJ 0 0 0
theorem zJ_val : jbV zJ = .agg #[.int .u32 0, .int .u16 0, .int .i64 0] := by
  have h0 : jO zJ = 0 := jO_mk (by omega) (by omega)
  have h1 : jS zJ = 0 := jS_mk (by omega) (by omega)
  have h2 : jG zJ = 0 := jG_mk (by omega) (by omega) (by omega)
  unfold jbV
  rw [h0, h1, h2]
  rfl
/-- A job, or none. -/
def UjPost (w : World) (o : Option Nat) (e : Ending) (w1 : World) : Prop := e = .returned (.tuple #[jbV (o.getD zJ), .bool o.isSome]) ∧ Kp No w w1
theorem uj_none {w w1 : World} (hk : Kp No w w1) : UjPost w none (.returned (.tuple #[.agg #[.int .u32 0, .int .u16 0, .int .i64 0], .bool false])) w1 := ⟨by rw [← zJ_val]; rfl, hk⟩
/-- First of none. -/
theorem ufirst_of_no {w : World} {p : Value} (hc : ∀ w', Kp No w w' → Calls Try.prog 17 #[p] w' fun e w1 => e = .returned (.int .i64 0) ∧ w' = w1) :
    Calls Try.prog 16 #[p] w (UjPost w none) := by
  have K1 := Kp.alloc No w (.cells #[.int .u32 0, .int .u16 0, .int .i64 0] 36)
  have HC := hide (hc _ K1)
  have HB := hide (Bx3.new w 36 (.int .u32 0) (.int .u16 0) (.int .i64 0))
  have HK := hide K1
  clear hc K1
  go_enter Try.func16, Try.ntmps16
  go_wp2_with fail
  refine HC.out.mono ?_
  rintro e w1 ⟨rfl, rfl⟩
  obtain ⟨r0, r1, r2⟩ := HB.out.cell
  go_wp2_with fail
  exact bodyPost_ret (v := .tuple #[.agg #[.int .u32 0, .int .u16 0, .int .i64 0], .bool false]) (by simp [results, Try.results16, go_sem, r0, r1, r2]) rfl (uj_none HK.out)
theorem ufirst_yes {w : World} {F : Nat → Prop} {g x : Nat} {t : List Nat} (h : QuAt w F g (x :: t)) (hr : (x :: t).length ≤ 900000) :
    Calls Try.prog 16 #[.pointer (some ⟨g, 0, none⟩)] w (UjPost w (some x)) := by
  have K1 := Kp.alloc No w (.cells #[.int .u32 0, .int .u16 0, .int .i64 0] 36)
  have HC := hide (ulen_any (h.no K1))
  obtain ⟨b, A, n, cp, R, M, h1, h2⟩ := h
  have h0 := h2.first x rfl
  have hl := h2.len
  obtain ⟨N, hN⟩ : ∃ N, N = (x :: t).length := ⟨_, rfl⟩
  rw [← hN] at HC hr hl
  have hN0 : 0 < N := by rw [hN]; simp
  have hz : ((N : Int) == 0) = false := by simp; omega
  obtain ⟨gj, rfl, -⟩ := OwnT.some_ h1.row (by omega)
  have hn : 0 < n := by rw [h1.len]; omega
  have HA := hide (h1.no K1)
  have HB := hide (Bx3.new w 36 (.int .u32 0) (.int .u16 0) (.int .i64 0))
  have HK := hide K1
  have H0 := hide h0
  have hgl := h1.glt
  have hjl := OwnT.lt h1.row gj rfl
  have y0 := h1.c0
  obtain ⟨j0, j1, j2⟩ := JbR.cells h1.row h0
  rw [Nat.zero_mul] at j0 j1 j2
  clear h1 h2 h0 hl hN hr K1 hN0
  go_enter Try.func16, Try.ntmps16
  go_wp2_with fail
  refine HC.out.mono ?_
  rintro e w1 ⟨rfl, rfl⟩
  go_wp2_with fail
  obtain ⟨r0, r1, r2⟩ := (Bx3.new w 36 (.int .u32 (jO x : Int)) (.int .u16 (jS x : Int)) (.int .i64 (jG x))).cell
  clear y0 j0 j1 j2
  exact bodyPost_ret (v := .tuple #[jbV x, .bool true]) (by simp [results, Try.results16, go_sem, r0, r1, r2]) rfl ⟨rfl, Kp.alloc No w _⟩
end Go.Proofs.Ytjbnbbblafmldaa
