/- Package solve's leader, divide and addTimes, each as a contract over memory. -/
import Derived.Test.YtbkelijmdpoanaaSg
import Derived.Test.YtbkelijmdpoanaaGfp
namespace Go.Proofs.Ytbkelijmdpoanaa
open Go.RowKit
set_option linter.unusedVariables false
set_option maxRecDepth 20000

theorem invU_any (a : UInt8) (w : World) (h : a ≠ 0) : Calls Try.prog 68 #[.int .u8 (a.toNat : Int)] w fun e w' => e = .returned (.tuple #[.int .u8 ((ui a).toNat : Int), .int .i64 0]) ∧ w = w' := by
  rw [ui_nat]
  exact inv_any a.toNat w (u8_lt a) (Nat.pos_of_ne_zero (u8_ne h))

/-- A row is written, all else is as it was. -/
def WrotePost (w : World) (base b L c : Nat) (s : Nat → UInt8) (e : Ending) (w1 : World) : Prop := e = .returned (.tuple #[]) ∧ RowAt w1 base b L c s ∧ Kp (fun q => q = b) w w1

/-- The first k are t's, the others s's. -/
def upS (t s : Nat → UInt8) (k j : Nat) : UInt8 := if j < k then t j else s j
theorem upS_step (t s : Nat → UInt8) (k j : Nat) : upd (upS t s k) k (t k) j = upS t s (k + 1) j := by
  unfold upd upS
  by_cases e : j = k
  · rw [if_pos e, if_pos (by omega), e]
  · rw [if_neg e]
    by_cases h : j < k
    · rw [if_pos h, if_pos (by omega)]
    · rw [if_neg h, if_neg (by omega)]

set_option maxHeartbeats 1000000 in
theorem divide_any {w : World} {base b L c : Nat} {s : Nat → UInt8} (h : RowAt w base b L c s) (hL : L ≤ 1000) (x : UInt8) (hx : x ≠ 0) :
    Calls Try.prog 66 #[.slice (some ⟨b, 0, none⟩) L c, .int .u8 (x.toNat : Int)] w (WrotePost w base b L c fun j => um (s j) (ui x)) := by
  have HX := hide hx
  clear hx
  go_enter Try.func66, Try.ntmps66
  go_wp2_with fail
  refine (invU_any x _ HX.out).mono ?_
  rintro e w1 ⟨rfl, rfl⟩
  go_wp2_with fail
  go_loopw [14] (fun i wr => ∃ k : Nat, k ≤ L ∧ i = .int .i64 (k : Int) ∧ RowAt wr base b L c (upS (fun j => um (s j) (ui x)) s k) ∧ Kp (fun q => q = b) w wr) (fun i _ => L - (intOf i).toNat)
  case atStart => exact ⟨0, Nat.zero_le _, rfl, h.eq fun k _ => by simp [upS], Kp.refl _ _⟩
  case round =>
    obtain ⟨k, hk, rfl, hR, hkw⟩ := hrel
    by_cases hlt : k < L
    · have hy := hR.cell hlt
      have hf := hR.frozen k
      rw [show upS (fun j => um (s j) (ui x)) s k k = s k by unfold upS; rw [if_neg (Nat.lt_irrefl k)]] at hy
      go_wp2_with fail
      refine (mulU_any (s k) (ui x) _).mono ?_
      rintro e w2 ⟨rfl, rfl⟩
      go_wp2_with fail
      go_round
      case rel => exact ⟨k + 1, by omega, by go_num, (hR.set hlt (um (s k) (ui x)) _ rfl).eq fun j _ => upS_step (fun j => um (s j) (ui x)) s k j, hkw.trans' (RowAt.kpset _ _ _ _)⟩
      case measure => simp [intOf]; omega
    · obtain rfl : k = L := by omega
      go_wp2_with fail
      go_end0
      exact ⟨rfl, hR.eq fun j hj => by unfold upS; rw [if_pos hj], hkw⟩

set_option maxHeartbeats 1000000 in
theorem addtimes_any {w : World} {base base' b b' L c c' : Nat} {s t : Nat → UInt8} (h : RowAt w base b L c s) (h' : RowAt w base' b' L c' t) (hne : b ≠ b') (hL : L ≤ 1000) (x : UInt8) :
    Calls Try.prog 69 #[.slice (some ⟨b, 0, none⟩) L c, .slice (some ⟨b', 0, none⟩) L c', .int .u8 (x.toNat : Int)] w (WrotePost w base b L c fun j => ux (s j) (um x (t j))) := by
  have HN := hide hne
  clear hne
  go_enter Try.func69, Try.ntmps69
  go_wp2_with fail
  go_loopw [9] (fun i wr => ∃ k : Nat, k ≤ L ∧ i = .int .i64 (k : Int) ∧ RowAt wr base b L c (upS (fun j => ux (s j) (um x (t j))) s k) ∧ Kp (fun q => q = b) w wr) (fun i _ => L - (intOf i).toNat)
  case atStart => exact ⟨0, Nat.zero_le _, rfl, h.eq fun k _ => by simp [upS], Kp.refl _ _⟩
  case round =>
    obtain ⟨k, hk, rfl, hR, hkw⟩ := hrel
    by_cases hlt : k < L
    · have hy := hR.cell hlt
      have hz := (h'.keep hkw fun e => HN.out e.symm).cell hlt
      rw [show upS (fun j => ux (s j) (um x (t j))) s k k = s k by unfold upS; rw [if_neg (Nat.lt_irrefl k)]] at hy
      go_wp2_with fail
      refine wp_region_still_tail 14 (by kernel_rfl) (by kernel_rfl) ?_
      simp only [List.take_succ_cons, List.take_zero, List.drop_succ_cons, List.drop_zero]
      repeat still_step
      still_call ((mulU_any x (t k) _).mono fun _ _ ⟨he, hw⟩ => ⟨he, hw.symm⟩)
      repeat still_step
      still_call ((addU_any (s k) (um x (t k)) _).mono fun _ _ ⟨he, hw⟩ => ⟨he, hw.symm⟩)
      repeat still_step
      refine wpStill_nil ?_
      change wpList _ _ _ _ _ wr.drew
      generalize hgen : wr.drew = w2
      have hs2 : Sm wr w2 := ⟨1, hgen.symm⟩
      clear hgen
      have hR2 := hR.no hs2.kp
      have hy2 := hR2.cell hlt
      have hf2 := hR2.frozen k
      go_wp2_with fail
      go_round
      case rel => exact ⟨k + 1, by omega, by go_num, (hR2.set hlt (ux (s k) (um x (t k))) _ rfl).eq fun j _ => upS_step (fun j => ux (s j) (um x (t j))) s k j, (hkw.trans' hs2.kp).trans' (RowAt.kpset _ _ _ _)⟩
      case measure => simp [intOf]; omega
    · obtain rfl : k = L := by omega
      go_wp2_with fail
      go_end0
      exact ⟨rfl, hR.eq fun j hj => by unfold upS; rw [if_pos hj], hkw⟩

/-- A row's number, or -1. -/
def ldI (r i : Nat) : Int := if i < r then (i : Int) else -1
theorem ux_ne0 {a : UInt8} (h : a ≠ 0) : ((a.toNat : Int) != 0) = true := by
  have := u8_ne h
  simp
  exact this
theorem ux_eq0 {a : UInt8} (h : a = 0) : ((a.toNat : Int) != 0) = false := by subst h; rfl

set_option maxHeartbeats 1000000 in
theorem leader_any {w : World} {base g n L : Nat} {hv : Nat → Value} {f : Nat → Nat → UInt8} {cp : Nat} (h : Grd w base g n hv fun j => rowL L (f j)) (hL : L ≤ 1000) (hn : n ≤ 1000) (a k : Nat) (ha : a ≤ n) (hk : k < L) :
    Calls Try.prog 65 #[.slice (some ⟨g, 0, none⟩) n cp, .int .i64 (a : Int), .int .i64 (k : Int)] w fun e w' => e = .returned (.int .i64 (ldI n (lead f k a n))) ∧ Sm w w' := by
  go_enter Try.func65, Try.ntmps65
  go_wp2_with fail
  go_loopw [7] (fun i wr => ∃ q : Nat, a ≤ q ∧ q ≤ n ∧ i = .int .i64 (q : Int) ∧ Hid (∀ p, a ≤ p → p < q → f p k = 0) ∧ Sm w wr) (fun i _ => n - (intOf i).toNat)
  case atStart => exact ⟨a, Nat.le_refl _, ha, rfl, (fun p h1 h2 => by omega : ∀ p, a ≤ p → p < a → f p k = 0), Sm.refl _⟩
  case round =>
    obtain ⟨q, hq1, hq2, rfl, hz, hs⟩ := hrel
    by_cases hlt : q < n
    · obtain ⟨b, c, e1, _, hR, _, _⟩ := (h.no hs.kp).at_ (by omega) hlt
      have x1 := (h.no hs.kp).out.cell hlt
      rw [e1] at x1
      have x2 := hR.cell hk
      clear e1
      by_cases h0 : f q k = 0
      · have H0 := hide h0
        have t0 := ux_eq0 h0
        clear h0
        go_wp2_with fail
        go_round
        case rel =>
          refine ⟨q + 1, by omega, by omega, by go_num, (fun p h1 h2 => ?_ : ∀ p, a ≤ p → p < q + 1 → f p k = 0), hs⟩
          by_cases e : p = q
          · rw [e]; exact H0.out
          · exact hz.out p h1 (by omega)
        case measure => simp [intOf]; omega
      · have H0 := hide h0
        have t0 := ux_ne0 h0
        clear h0
        go_wp2_with fail
        go_ret
        refine ⟨ret_i64 ?_, hs⟩
        rw [lead_at hq1 hlt hz.out H0.out]
        unfold ldI
        rw [if_pos hlt]
    · obtain rfl : q = n := by omega
      go_wp2_with fail
      go_ret
      refine ⟨ret_i64 ?_, hs⟩
      rw [lead_none ha hz.out]
      unfold ldI
      rw [if_neg (by omega)]
end Go.Proofs.Ytbkelijmdpoanaa
