/- Package mat's Mul, Add and Pick, each as a contract over memory. -/
import Derived.Test.YtllcmblkjcppnaaMo
import Derived.StillTailTactics
namespace Go.Proofs.Ytllcmblkjcppnaa
open Go.RowKit
set_option linter.unusedVariables false

/-- So many elements, row by row, are f's, the others g's. -/
def partR (f g : Nat → Nat → UInt8) (i0 k0 i k : Nat) : UInt8 := if i < i0 ∨ (i = i0 ∧ k < k0) then f i k else g i k
theorem partR_step (f g : Nat → Nat → UInt8) (k q i j : Nat) : setF (partR f g k q) k q (f k q) i j = partR f g k (q + 1) i j := by
  unfold setF partR
  by_cases h1 : i = k ∧ j = q
  · obtain ⟨rfl, rfl⟩ := h1
    rw [if_pos ⟨rfl, rfl⟩, if_pos (by omega)]
  · rw [if_neg h1]
    by_cases h2 : i < k ∨ (i = k ∧ j < q)
    · rw [if_pos h2, if_pos (by omega)]
    · rw [if_neg h2, if_neg (by omega)]

section
variable {w : World} {m m' : MB} {r c r' c' n : Nat} {f g : Nat → Nat → UInt8}

theorem mul_no (h : MatAt w m r c f) (h' : MatAt w m' r' c' g) (hne : c ≠ r') : Calls Try.prog 21 #[m.ptr, m'.ptr] w (ArgPost w) := by
  have e1 := h.c_cols
  have e0 := h'.c_rows
  have hn : ((c : Int) != (r' : Int)) = true := by simp; omega
  go_enter Try.func21, Try.ntmps21
  go_wp2_with fail
  go_quiet (fail)
  go_wp2_with fail
  go_ret2
  exact ⟨rfl, (Sm.drewN _ _).kp⟩
theorem mul_nil_left (w : World) (p : Option Addr) : Calls Try.prog 21 #[.pointer none, .pointer p] w (ArgPost w) := by
  go_enter Try.func21, Try.ntmps21
  go_wp2_with fail
  go_quiet (fail)
  go_wp2_with fail
  go_ret2
  exact ⟨rfl, (Sm.drewN _ _).kp⟩

theorem dotRows {w : World} {m m' : MB} {r c r' : Nat} {f g : Nat → Nat → UInt8} (h : MatAt w m r c f) (h' : MatAt w m' r' c g) {i k o o' cp cp' : Nat} (hi : i < r) (hk : k < r') (ho : o = i * c) (ho' : o' = k * c) :
    Calls Try.prog 41 #[.slice (some ⟨m.b, o, none⟩) c cp, .slice (some ⟨m'.b, o', none⟩) c cp'] w fun e w' => e = .returned (.int .u8 ((ud (f i) (g k) c).toNat : Int)) ∧ Sm w w' := by
  have hc := h.c2
  have := dot_any (h.bts hi ho cp) (h'.bts hk ho' cp') c (by rw [rowL_len, rowL_len]; omega) (by rw [rowL_len]; omega) (by rw [rowL_len]; omega)
  rw [ud_congr (fun j hj => lg_rowL (f i) hj) (fun j hj => lg_rowL (g k) hj)] at this
  exact this

theorem kept2 {W w1 : World} {p q : Addr} {x0 x1 : Value} (hk : Kp No W w1) (h : W.cell? p = some x0 ∧ W.cell? q = some x1) : w1.cell? p = some x0 ∧ w1.cell? q = some x1 :=
  ⟨hk.cell h.1 fun f => f, hk.cell h.2 fun f => f⟩

set_option maxHeartbeats 2000000 in
theorem mul_yes (h : MatAt w m r n f) (h' : MatAt w m' n c g) : Calls Try.prog 21 #[m.ptr, m'.ptr] w (NewPost w r c (mulF n f g)) := by
  have e1 := h.c_cols
  have e0 := h'.c_rows
  have d0 := h.c_rows
  have d1 := h'.c_cols
  have r1 := h.r1
  have r2 := h.r2
  have c1 := h'.c1
  have c2 := h'.c2
  go_enter Try.func21, Try.ntmps21
  go_wp2_with fail
  go_quiet (fail)
  go_wp2_with fail
  generalize hgen : World.drewN w _ = w0
  have hs0 : Sm w w0 := ⟨_, hgen.symm⟩
  clear hgen
  have d0 : w0.cell? ⟨m.g, 0, none⟩ = some (.int .i64 (r : Int)) := (h.sm hs0).c_rows
  have d1 : w0.cell? ⟨m'.g, 1, none⟩ = some (.int .i64 (c : Int)) := (h'.sm hs0).c_cols
  have hnew := new_yes r c w0.drew r1 r2 c1 c2
  go_region_held3 (fun w' => w'.cell? ⟨m.g, 0, none⟩ = some (.int .i64 (r : Int)) ∧ w'.cell? ⟨m'.g, 1, none⟩ = some (.int .i64 (c : Int))) (first | assumption | exact ⟨d0, d1⟩ | go_keep)
    (first | (go_at_call 39; ((with_reducible refine hnew.mono ?_); rintro e w1 ⟨p, rfl, hP, hg, hb, hk⟩); have s1 := kept2 hk ⟨d0, d1⟩))
  have hs1 : Sm w w0.drew := hs0.trans (Sm.drew _)
  have hA := (h.sm hs1).no hk
  have hB := (h'.sm hs1).no hk
  have hg2 : w.heap.size ≤ p.g := by rw [← hs1.size]; exact hg
  have hb2 : w.heap.size ≤ p.b := by rw [← hs1.size]; exact hb
  have hk1 : Kp No w w1 := hs1.kp.trans' hk
  clear hnew d0 d1 s1 e0 e1 hg hb hk
  go_wp2_with fail
  refine (turned_any hB).mono ?_
  rintro e w2 ⟨t, rfl, hT, htg, htb, hk2⟩
  have hA2 := hA.no hk2
  have hP2 := hP.no hk2
  have hp2 := hP.lt
  have hk12 := hk1.trans' hk2
  have q0 := hP2.c_rows
  have hne1 : p.b ≠ t.b := by omega
  have hne2 : p.b ≠ t.g := by omega
  have hA1 := h.lt
  go_wp2_with fail
  go_loopw [49] (fun i wr => ∃ k : Nat, k ≤ r ∧ i = .int .i64 (k : Int) ∧ MatAt wr p r c (partR (mulF n f g) (fun _ _ => 0) k 0) ∧ MatAt wr t c n (turnF g) ∧ Kp No w wr) (fun i _ => r - (intOf i).toNat)
  case atStart => exact ⟨0, Nat.zero_le _, rfl, hP2.eqF (fun i k _ _ => by simp [partR]), hT, hk12⟩
  case round =>
    obtain ⟨k, hk, rfl, hPr, hTr, hkw⟩ := hrel
    by_cases hlk : k < r
    · have q1 := hPr.c_cols
      go_wp2_with fail
      go_loopw [56] (fun i wr => ∃ q : Nat, q ≤ c ∧ i = .int .i64 (q : Int) ∧ MatAt wr p r c (partR (mulF n f g) (fun _ _ => 0) k q) ∧ MatAt wr t c n (turnF g) ∧ Kp No w wr) (fun i _ => c - (intOf i).toNat)
      case atStart => exact ⟨0, Nat.zero_le _, rfl, hPr, hTr, hkw⟩
      case round =>
        obtain ⟨q, hq, rfl, hP4, hT4, hkw4⟩ := hrel
        by_cases hlq : q < c
        · go_wp2_with fail
          refine (row_any hP4 k hlk).mono ?_
          rintro e w5 ⟨o5, cp5, rfl, ho5, hcp5, hs5⟩
          have HO5 := hide ho5
          clear ho5
          have hA5 := h.no (hkw4.trans' hs5.kp)
          have hT5 := hT4.sm hs5
          have hP5 := hP4.sm hs5
          go_wp2_with fail
          refine (row_any hA5 k hlk).mono ?_
          rintro e w6 ⟨o6, cp6, rfl, ho6, hcp6, hs6⟩
          have HO6 := hide ho6
          clear ho6
          have hA6 := hA5.sm hs6
          have hT6 := hT5.sm hs6
          have hP6 := hP5.sm hs6
          go_wp2_with fail
          refine (row_any hT6 q hlq).mono ?_
          rintro e w7 ⟨o7, cp7, rfl, ho7, hcp7, hs7⟩
          have HO7 := hide ho7
          clear ho7
          have hA7 := hA6.sm hs7
          have hT7 := hT6.sm hs7
          have hP7 := hP6.sm hs7
          go_wp2_with fail
          refine (dotRows hA7 hT7 hlk hlq HO6.out HO7.out).mono ?_
          rintro e w8 ⟨rfl, hs8⟩
          have hP8 := hP7.sm hs8
          have hf := hP8.frozen (o5 + q)
          have hx := hP8.cell (o := o5 + q) hlk hlq (by have := HO5.out; omega)
          have hs58 := hs5.trans (hs6.trans (hs7.trans hs8))
          go_wp2_with fail
          go_round
          case rel =>
            refine ⟨q + 1, by omega, by go_num, (hP8.set hlk hlq (by have := HO5.out; omega) (mulF n f g k q) _ rfl).eqF fun i j hi hj => partR_step (mulF n f g) _ k q i j, (hT4.sm hs58).keep (kp_set1 _ _ _ _) (fun e => hne2 e.symm) (fun e => hne1 e.symm), (hkw4.trans' hs58.kp).trans (kp_set (.inr hb2) _ _)⟩
          case measure => simp [intOf]; omega
        · have hqc : q = c := by omega
          subst hqc
          go_wp2_with fail
          go_round
          case rel => exact ⟨k + 1, by omega, by go_num, hP4.eqF fun i j hi hj => by unfold partR; split <;> split <;> first | rfl | omega, hT4, hkw4⟩
          case measure => simp [intOf]; omega
    · have hkr : k = r := by omega
      subst hkr
      go_wp2_with fail
      go_ret2
      exact ⟨p, rfl, hPr.eqF fun i j hi hj => by unfold partR; rw [if_pos (.inl hi)], hg2, hb2, hkw⟩

/-- The first cells are f's, the others g's. -/
def partC (c : Nat) (f g : Nat → Nat → UInt8) (q i k : Nat) : UInt8 := if i * c + k < q then f i k else g i k
theorem partC_step (f g : Nat → Nat → UInt8) {c i0 k0 : Nat} (hk0 : k0 < c) (i k : Nat) (hk : k < c) : setF (partC c f g (i0 * c + k0)) i0 k0 (f i0 k0) i k = partC c f g (i0 * c + k0 + 1) i k := by
  unfold setF partC
  by_cases h1 : i = i0 ∧ k = k0
  · obtain ⟨rfl, rfl⟩ := h1
    rw [if_pos ⟨rfl, rfl⟩, if_pos (by omega)]
  · rw [if_neg h1]
    have hne : i * c + k ≠ i0 * c + k0 := fun e => h1 (idx_inj hk hk0 e)
    by_cases h2 : i * c + k < i0 * c + k0
    · rw [if_pos h2, if_pos (by omega)]
    · rw [if_neg h2, if_neg (by omega)]

end
end Go.Proofs.Ytllcmblkjcppnaa
