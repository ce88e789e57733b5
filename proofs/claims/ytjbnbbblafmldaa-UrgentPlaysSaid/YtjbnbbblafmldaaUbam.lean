/- Package urgent's child, risen, sunk and lay, each as a contract. No condition. -/
import Derived.Test.YtjbnbbblafmldaaUbal
import Derived.Deep.RegionHeld3
import Derived.BigQuiet
namespace Go.Proofs.Ytjbnbbblafmldaa
open Go.RowKit
set_option linter.unusedVariables false
set_option linter.unusedSimpArgs false
set_option maxRecDepth 20000

/-- The more urgent child of p, or -1. -/
def UcPost (w : World) (p : Nat) (R : List Nat) (e : Ending) (w1 : World) : Prop :=
  Kp No w w1 ∧ ((e = .returned (.int .i64 (-1)) ∧ R.length ≤ 2 * p + 1) ∨ ∃ q x : Nat, e = .returned (.int .i64 (q : Int)) ∧ R[q]? = some x ∧ 0 < q ∧ (q - 1) / 2 = p ∧ ∀ i y, 0 < i → (i - 1) / 2 = p → R[i]? = some y → x ≤ y)
theorem cmpN_neg {a b : Nat} : cmpN a b < 0 ↔ a < b := by
  unfold cmpN
  split
  · simp; omega
  · split <;> simp <;> omega
theorem cmpN_le {a b : Nat} : cmpN a b ≤ 0 ↔ a ≤ b := by
  unfold cmpN
  split
  · simp; omega
  · split <;> simp <;> omega
theorem ukept6 {w w1 : World} (hk : Kp No w w1) {p0 p1 p2 p3 p4 p5 : Addr} {v0 v1 v2 v3 v4 v5 : Value} (h : w.cell? p0 = some v0 ∧ w.cell? p1 = some v1 ∧ w.cell? p2 = some v2 ∧ w.cell? p3 = some v3 ∧ w.cell? p4 = some v4 ∧ w.cell? p5 = some v5) :
    w1.cell? p0 = some v0 ∧ w1.cell? p1 = some v1 ∧ w1.cell? p2 = some v2 ∧ w1.cell? p3 = some v3 ∧ w1.cell? p4 = some v4 ∧ w1.cell? p5 = some v5 := by
  obtain ⟨h0, h1, h2, h3, h4, h5⟩ := h
  exact ⟨hk.cell h0 (fun f => f), hk.cell h1 (fun f => f), hk.cell h2 (fun f => f), hk.cell h3 (fun f => f), hk.cell h4 (fun f => f), hk.cell h5 (fun f => f)⟩
theorem ukept7 {w w1 : World} (hk : Kp No w w1) {p0 p1 p2 p3 p4 p5 p6 : Addr} {v0 v1 v2 v3 v4 v5 v6 : Value} (h : w.cell? p0 = some v0 ∧ w.cell? p1 = some v1 ∧ w.cell? p2 = some v2 ∧ w.cell? p3 = some v3 ∧ w.cell? p4 = some v4 ∧ w.cell? p5 = some v5 ∧ w.cell? p6 = some v6) :
    w1.cell? p0 = some v0 ∧ w1.cell? p1 = some v1 ∧ w1.cell? p2 = some v2 ∧ w1.cell? p3 = some v3 ∧ w1.cell? p4 = some v4 ∧ w1.cell? p5 = some v5 ∧ w1.cell? p6 = some v6 := by
  obtain ⟨h0, h1, h2, h3, h4, h5, h6⟩ := h
  exact ⟨hk.cell h0 (fun f => f), hk.cell h1 (fun f => f), hk.cell h2 (fun f => f), hk.cell h3 (fun f => f), hk.cell h4 (fun f => f), hk.cell h5 (fun f => f), hk.cell h6 (fun f => f)⟩
set_option maxHeartbeats 1000000 in
theorem uchild_any {w : World} {F : Nat → Prop} {g b n cp c p : Nat} {A : Option Addr} {R : List Nat} {M : Nat → Option Nat} (h : QuR w F g b A n cp R M c) (hp : p < R.length) (hR : R.length ≤ 1000000) :
    Calls Try.prog 34 #[.pointer (some ⟨g, 0, none⟩), .int .i64 (p : Int)] w (UcPost w p R) := by
  have hn := h.len
  obtain ⟨gj, rfl, _⟩ := OwnT.some_ h.row (by omega)
  have x0 := h.c0
  obtain ⟨l, hl⟩ : ∃ l : Nat, l = 2 * p + 1 := ⟨_, rfl⟩
  obtain ⟨r, hr⟩ : ∃ r : Nat, r = l + 1 := ⟨_, rfl⟩
  have e1 : (2 : Int) * (p : Int) + 1 = (l : Int) := by omega
  have e2 : (l : Int) + 1 = (r : Int) := by omega
  have hpb : p < 1000000 := by omega
  have hlb : l < 3000000 := by omega
  have hrb : r < 3000000 := by omega
  by_cases hln : n ≤ l
  · have HL := hide hln
    have HQ := hide (show R.length ≤ 2 * p + 1 by omega)
    have hz : (n : Int) ≤ l := by omega
    clear h hn hp hR hl hr hln e2
    go_enter Try.func34, Try.ntmps34
    go_wp2
    go_ret
    exact ⟨Kp.refl No w, .inl ⟨rfl, HQ.out⟩⟩
  · have hz : ¬ (n : Int) ≤ l := by omega
    obtain ⟨x, hx⟩ : ∃ x, R[l]? = some x := ⟨_, List.getElem?_eq_getElem (by omega)⟩
    by_cases hrn : n ≤ r
    · have hz2 : decide (r < n) = false := decide_eq_false (by omega)
      have HQ : Hid (∃ q x : Nat, Ending.returned (.int .i64 (l : Int)) = .returned (.int .i64 (q : Int)) ∧ R[q]? = some x ∧ 0 < q ∧ (q - 1) / 2 = p ∧ ∀ i y, 0 < i → (i - 1) / 2 = p → R[i]? = some y → x ≤ y) := by
        refine ⟨l, x, rfl, hx, by omega, by omega, fun i y hi hi2 hy => ?_⟩
        have := (List.getElem?_eq_some_iff.1 hy).1
        obtain rfl : i = l := by omega
        rw [hx] at hy
        injection hy with hy
        omega
      clear h hn hp hR hl hr hln hrn hx
      go_enter Try.func34, Try.ntmps34
      go_wp2_with fail
      go_quiet (fail)
      go_wp2
      go_ret
      exact ⟨(Kp.refl No w).drewN _, .inr HQ.out⟩
    · have hz2 : (r : Int) < n := by omega
      obtain ⟨y, hy⟩ : ∃ y, R[r]? = some y := ⟨_, List.getElem?_eq_getElem (by omega)⟩
      obtain ⟨a0, a1, a2⟩ := JbR.cells h.row hx
      obtain ⟨b0, b1, b2⟩ := JbR.cells h.row hy
      have HC := hide (fun w => ucompare_any w y x)
      have hkid : ∀ i z, 0 < i → (i - 1) / 2 = p → R[i]? = some z → (i = l ∧ z = x) ∨ (i = r ∧ z = y) := fun i z hi hi2 hzz => by
        rcases (show i = l ∨ i = r by omega) with e | e
        · subst e
          rw [hx] at hzz
          injection hzz with hzz
          exact .inl ⟨rfl, hzz.symm⟩
        · subst e
          rw [hy] at hzz
          injection hzz with hzz
          exact .inr ⟨rfl, hzz.symm⟩
      by_cases hyx : y < x
      · have hd : decide (cmpN y x < 0) = true := decide_eq_true (cmpN_neg.2 hyx)
        have HQ : Hid (∃ q x : Nat, Ending.returned (.int .i64 (r : Int)) = .returned (.int .i64 (q : Int)) ∧ R[q]? = some x ∧ 0 < q ∧ (q - 1) / 2 = p ∧ ∀ i y, 0 < i → (i - 1) / 2 = p → R[i]? = some y → x ≤ y) := by
          refine ⟨r, y, rfl, hy, by omega, by omega, fun i z hi hi2 hzz => ?_⟩
          rcases hkid i z hi hi2 hzz with ⟨_, e⟩ | ⟨_, e⟩ <;> omega
        clear h hn hp hR hl hr hln hrn hx hy hkid hyx
        go_enter Try.func34, Try.ntmps34
        go_wp2_with fail
        go_region_held3 (fun w' => w'.cell? ⟨g, 0, none⟩ = some (.slice (some ⟨gj, 0, none⟩) n cp) ∧ w'.cell? ⟨gj, l * 3, none⟩ = some (.int .u32 (jO x : Int)) ∧ w'.cell? ⟨gj, l * 3 + 1, none⟩ = some (.int .u16 (jS x : Int)) ∧ w'.cell? ⟨gj, l * 3 + 2, none⟩ = some (.int .i64 (jG x)) ∧
            w'.cell? ⟨gj, r * 3, none⟩ = some (.int .u32 (jO y : Int)) ∧ w'.cell? ⟨gj, r * 3 + 1, none⟩ = some (.int .u16 (jS y : Int)) ∧ w'.cell? ⟨gj, r * 3 + 2, none⟩ = some (.int .i64 (jG y))) (first | assumption | go_keep)
          (first
            | (go_at_call 24; ((with_reducible refine (HC.out _).mono ?_); rintro e w1 ⟨rfl, k1⟩); have s1 := ukept7 k1 (by assumption)))
        go_wp2
        go_ret
        exact ⟨(Kp.refl No w).drew.trans' k1, .inr HQ.out⟩
      · have hd : decide (cmpN y x < 0) = false := decide_eq_false (fun e => hyx (cmpN_neg.1 e))
        have HQ : Hid (∃ q x : Nat, Ending.returned (.int .i64 (l : Int)) = .returned (.int .i64 (q : Int)) ∧ R[q]? = some x ∧ 0 < q ∧ (q - 1) / 2 = p ∧ ∀ i y, 0 < i → (i - 1) / 2 = p → R[i]? = some y → x ≤ y) := by
          refine ⟨l, x, rfl, hx, by omega, by omega, fun i z hi hi2 hzz => ?_⟩
          rcases hkid i z hi hi2 hzz with ⟨_, e⟩ | ⟨_, e⟩ <;> omega
        clear h hn hp hR hl hr hln hrn hx hy hkid hyx
        go_enter Try.func34, Try.ntmps34
        go_wp2_with fail
        go_region_held3 (fun w' => w'.cell? ⟨g, 0, none⟩ = some (.slice (some ⟨gj, 0, none⟩) n cp) ∧ w'.cell? ⟨gj, l * 3, none⟩ = some (.int .u32 (jO x : Int)) ∧ w'.cell? ⟨gj, l * 3 + 1, none⟩ = some (.int .u16 (jS x : Int)) ∧ w'.cell? ⟨gj, l * 3 + 2, none⟩ = some (.int .i64 (jG x)) ∧
            w'.cell? ⟨gj, r * 3, none⟩ = some (.int .u32 (jO y : Int)) ∧ w'.cell? ⟨gj, r * 3 + 1, none⟩ = some (.int .u16 (jS y : Int)) ∧ w'.cell? ⟨gj, r * 3 + 2, none⟩ = some (.int .i64 (jG y))) (first | assumption | go_keep)
          (first
            | (go_at_call 24; ((with_reducible refine (HC.out _).mono ?_); rintro e w1 ⟨rfl, k1⟩); have s1 := ukept7 k1 (by assumption)))
        go_wp2
        go_ret
        exact ⟨(Kp.refl No w).drew.trans' k1, .inr HQ.out⟩
end Go.Proofs.Ytjbnbbblafmldaa
