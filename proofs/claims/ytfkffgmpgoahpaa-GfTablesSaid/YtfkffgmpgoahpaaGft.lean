/- Package gf's tables, each call as a contract: Make makes a block with all powers of 2 and all logarithms; Exp, Log and Mul read it. -/
import Derived.Test.YtfkffgmpgoahpaaGfw
namespace Go.Proofs.Ytfkffgmpgoahpaa
open Go.RowKit
set_option linter.unusedVariables false

/-- The cells of tables of which nothing is set. -/
def tabZ : Array Value := Array.replicate 255 (.int .u8 0) ++ Array.replicate 256 (.int .i64 0)
theorem tab_info : (Try.prog.info? 43).map (fun i => i.zero) = some (some (.agg tabZ)) := by kernel_rfl
theorem tab_zero (w : World) : (zeroValue 43).run Try.prog w = .ok (.agg tabZ) w := by
  have h := tab_info
  rcases hi : Try.prog.info? 43 with _ | i
  · rw [hi] at h; cases h
  · rw [hi] at h
    simp only [Option.map_some, Option.some.injEq] at h
    simp [zeroValue, typeInfo, go_sem, hi, h]

/-- The logarithm as it stands in the tables when k powers are set. -/
def lgk (k a : Nat) : Int := if a = 0 then -1 else if glog a < k then (glog a : Int) else 0
theorem lgk_all {a : Nat} (ha : a < 256) : lgk 255 a = glogI a := by
  unfold lgk glogI
  by_cases h : a = 0
  · rw [if_pos h, if_pos h]
  · rw [if_neg h, if_neg h, if_pos (glog_lt ha h)]
theorem lgk_same {k : Nat} (hk : k < 255) : lgk (k + 1) (gpow 2 k) = k := by
  unfold lgk
  rw [if_neg (gpow_two_ne k), glog_gpow hk, if_pos (by omega)]
theorem lgk_other {k a : Nat} (ha : a < 256) (h : a ≠ gpow 2 k) : lgk (k + 1) a = lgk k a := by
  unfold lgk
  by_cases h0 : a = 0
  · rw [if_pos h0, if_pos h0]
  · rw [if_neg h0, if_neg h0]
    have : glog a ≠ k := fun e => h (by rw [← e]; exact (gpow_glog ha h0).symm)
    by_cases h1 : glog a < k
    · rw [if_pos h1, if_pos (by omega)]
    · rw [if_neg h1, if_neg (by omega)]

/-- At block g lie tables in which k powers are set. -/
def TabK (w : World) (g k : Nat) : Prop := ∃ cs : Array Value, w.heap[g]? = some (.cells cs 43 (0, 0)) ∧ cs.size = 511 ∧ (∀ i, i < 255 → ∃ n : Nat, cs[i]? = some (.int .u8 (n : Int)) ∧ (i < k → n = gpow 2 i)) ∧ ∀ a, a < 256 → cs[255 + a]? = some (.int .i64 (lgk k a))
/-- At block g lie whole tables. -/
def TabAt (w : World) (g : Nat) : Prop := TabK w g 255

theorem TabK.set {w : World} {g k : Nat} (h : TabK w g k) (hk : k < 255) : TabK ((w.setCell ⟨g, k, none⟩ (.int .u8 (gpow 2 k : Int))).setCell ⟨g, 255 + gpow 2 k, none⟩ (.int .i64 (k : Int))) g (k + 1) := by
  obtain ⟨cs, h1, h2, h3, h4⟩ := h
  have hp : gpow 2 k < 256 := gpow_lt k
  refine ⟨_, heap_setCell_same _ g _ _ _ _ (heap_setCell_same w g k cs _ _ h1), by simp [h2], fun i hi => ?_, fun a ha => ?_⟩
  · rw [Array.getElem?_setIfInBounds_ne (by omega)]
    by_cases e : k = i
    · subst e
      rw [Array.getElem?_setIfInBounds_self_of_lt (by omega)]
      exact ⟨gpow 2 k, rfl, fun _ => rfl⟩
    · rw [Array.getElem?_setIfInBounds_ne e]
      obtain ⟨n, hn1, hn2⟩ := h3 i hi
      exact ⟨n, hn1, fun hlt => hn2 (by omega)⟩
  · by_cases e : a = gpow 2 k
    · subst e
      rw [Array.getElem?_setIfInBounds_self_of_lt (by simp; omega), lgk_same hk]
    · rw [Array.getElem?_setIfInBounds_ne (by omega), Array.getElem?_setIfInBounds_ne (by omega), h4 a ha, lgk_other ha e]

theorem tabZ_size : tabZ.size = 511 := by simp [tabZ]
theorem tabZ_exp (i : Nat) (hi : i < 255) : tabZ[i]? = some (.int .u8 0) := by
  unfold tabZ
  rw [Array.getElem?_append_left (by simpa using hi), Array.getElem?_replicate, if_pos hi]
theorem tabZ_log (a : Nat) (ha : a < 256) : tabZ[255 + a]? = some (.int .i64 0) := by
  unfold tabZ
  rw [Array.getElem?_append_right (by simp), Array.getElem?_replicate, if_pos (by simp; omega)]
theorem TabK.new (w : World) : TabK (w.alloc (.cells (tabZ.setIfInBounds 255 (.int .i64 (-1))) 43)) w.heap.size 0 := by
  refine ⟨_, heap_alloc_new w _, by simp [tabZ_size], fun i hi => ?_, fun a ha => ?_⟩
  · rw [Array.getElem?_setIfInBounds_ne (by omega), tabZ_exp i hi]
    exact ⟨0, rfl, fun h => absurd h (Nat.not_lt_zero _)⟩
  · by_cases e : a = 0
    · subst e
      rw [Array.getElem?_setIfInBounds_self_of_lt (by rw [tabZ_size]; omega)]
      rfl
    · rw [Array.getElem?_setIfInBounds_ne (by omega), tabZ_log a ha, lgk, if_neg e, if_neg (Nat.not_lt_zero _)]

/-- What Make comes to: a new block with whole tables; all else is as it was. -/
def MakePost (w : World) (e : Ending) (w' : World) : Prop := e = .returned (.pointer (some ⟨w.heap.size, 0, none⟩)) ∧ TabAt w' w.heap.size ∧ Below w.heap.size w w'

set_option maxRecDepth 100000 in
set_option maxHeartbeats 2000000 in
theorem make_any (w : World) : Calls Try.prog 17 #[] w (MakePost w) := by
  have hb := tab_zero
  have hz : tabZ[255]? = some (.int .i64 0) := tabZ_log 0 (by decide)
  go_enter Try.func17, Try.ntmps17
  go_wp2_with fail
  clear hb hz
  go_loopw [2, 10] (fun p i wr => ∃ k : Nat, k ≤ 255 ∧ i = .int .i64 k ∧ p = .int .u8 (gpow 2 k : Int) ∧ TabK wr w.heap.size k ∧ Below w.heap.size w wr) (fun _ i _ => 255 - (intOf i).toNat)
  case atStart => exact ⟨0, by omega, rfl, rfl, TabK.new w, (Below.refl _ _).alloc (Nat.le_refl _) _⟩
  case round =>
    obtain ⟨k, hk, rfl, rfl, ht, hbl⟩ := hrel
    by_cases hlt : k < 255
    · have HS := hide2 (ht.set hlt)
      have hs : Hid (gmul (gpow 2 k) 2 = gpow 2 (k + 1)) := rfl
      have hp : gpow 2 k < 256 := gpow_lt k
      obtain ⟨cs, h1, h2, h3, h4⟩ := ht
      obtain ⟨n0, hn0, _⟩ := h3 k hlt
      have hc1 := (cell_of_row wr w.heap.size k _ _ _ h1).trans hn0
      have hf1 := frozen_of_row wr w.heap.size k _ _ h1
      have h1' := heap_setCell_same wr w.heap.size k cs 43 (.int .u8 (gpow 2 k : Int)) h1
      have hc2 : (wr.setCell ⟨w.heap.size, k, none⟩ (.int .u8 (gpow 2 k : Int))).cell? ⟨w.heap.size, 255 + gpow 2 k, none⟩ = some (.int .i64 (lgk k (gpow 2 k))) := by
        rw [cell_of_row _ _ _ _ _ _ h1', Array.getElem?_setIfInBounds_ne (by omega), h4 _ hp]
      have hf2 := frozen_of_row wr w.heap.size (255 + gpow 2 k) _ _ h1
      clear h1 h1' h2 h3 h4 hn0
      go_wp2_with fail
      refine (mul_any _ 2 _ hp (by decide)).mono ?_
      rintro e w' ⟨rfl, rfl⟩
      rw [hs.out]
      go_wp2_with fail
      go_roundw
      case rel => exact ⟨k + 1, by omega, by go_num, rfl, HS.out, (hbl.setCell (Nat.le_refl _) _).setCell (Nat.le_refl _) _⟩
      case measure => simp [intOf]; omega
    · obtain rfl : k = 255 := by omega
      go_wp2_with fail
      go_ret
      exact ⟨rfl, ht, hbl⟩

section
variable {w : World} {g : Nat}
theorem TabAt.exp (h : TabAt w g) (i : Nat) (hi : i < 255) : w.cell? ⟨g, i, none⟩ = some (.int .u8 (gpow 2 i : Int)) := by
  obtain ⟨cs, h1, h2, h3, h4⟩ := h
  obtain ⟨n, hn1, hn2⟩ := h3 i hi
  rw [cell_of_row w g i _ _ _ h1, hn1, hn2 hi]
theorem TabAt.log (h : TabAt w g) (a : Nat) (ha : a < 256) : w.cell? ⟨g, 255 + a, none⟩ = some (.int .i64 (glogI a)) := by
  obtain ⟨cs, h1, h2, h3, h4⟩ := h
  rw [cell_of_row w g _ _ _ _ h1, h4 a ha, lgk_all ha]
theorem TabAt.below {w1 : World} {B : Nat} (h : TabAt w g) (hb : Below B w w1) (hg : g < B) : TabAt w1 g := by
  obtain ⟨cs, h1, r⟩ := h
  exact ⟨cs, (hb.block g hg).trans h1, r⟩
end

theorem exp_nil (n : Int) (w : World) : Calls Try.prog 18 #[.pointer none, .int .i64 n] w fun e w' => e = .returned (.int .u8 0) ∧ w = w' := by
  go_enter Try.func18, Try.ntmps18
  go_wp2_with fail
  go_ret
  exact ⟨rfl, rfl⟩
theorem log_nil (a : Nat) (w : World) : Calls Try.prog 19 #[.pointer none, .int .u8 a] w fun e w' => e = .returned (.int .i64 (-1)) ∧ w = w' := by
  go_enter Try.func19, Try.ntmps19
  go_wp2_with fail
  go_ret
  exact ⟨rfl, rfl⟩
theorem log_any (g a : Nat) (w : World) (h : TabAt w g) (ha : a < 256) : Calls Try.prog 19 #[.pointer (some ⟨g, 0, none⟩), .int .u8 a] w fun e w' => e = .returned (.int .i64 (glogI a)) ∧ w = w' := by
  have hc := h.log a ha
  go_enter Try.func19, Try.ntmps19
  go_wp2_with fail
  go_ret
  exact ⟨rfl, rfl⟩
theorem exp_pos (g : Nat) (n : Int) (w : World) (h : TabAt w g) (h1 : 0 ≤ n) (h2 : n ≤ 9223372036854775807) : Calls Try.prog 18 #[.pointer (some ⟨g, 0, none⟩), .int .i64 n] w fun e w' => e = .returned (.int .u8 (gpow 2 (n % 255).toNat : Int)) ∧ w = w' := by
  have hc := h.exp (n % 255).toNat (by omega)
  go_enter Try.func18, Try.ntmps18
  go_wp2_with fail
  go_ret
  exact ⟨rfl, rfl⟩
theorem tmod_neg {n : Int} (h : n < 0) : n.tmod 255 = -((-n) % 255) := by
  have e : (-n).tmod 255 = (-n) % 255 := Int.tmod_eq_emod_of_nonneg (by omega)
  rw [Int.neg_tmod] at e
  omega
theorem exp_neg (g : Nat) (n : Int) (w : World) (h : TabAt w g) (h1 : n < 0) (h2 : -9223372036854775808 ≤ n) : Calls Try.prog 18 #[.pointer (some ⟨g, 0, none⟩), .int .i64 n] w fun e w' => e = .returned (.int .u8 (gpow 2 (n % 255).toNat : Int)) ∧ w = w' := by
  have hm := tmod_neg h1
  have hb1 : -255 < n.tmod 255 := by omega
  by_cases hs : n.tmod 255 < 0
  · have hc := h.exp (n.tmod 255 + 255).toNat (by omega)
    have he : Hid ((n.tmod 255 + 255).toNat = (n % 255).toNat) := by show (n.tmod 255 + 255).toNat = (n % 255).toNat; omega
    clear hm
    go_enter Try.func18, Try.ntmps18
    go_wp2_with fail
    go_ret
    exact ⟨ret_u8 (by rw [he.out]), rfl⟩
  · have hz : n.tmod 255 ≤ 0 := by omega
    have hs0 : 0 ≤ n.tmod 255 := by omega
    have hc := h.exp (n.tmod 255).toNat (by omega)
    have he : Hid ((n.tmod 255).toNat = (n % 255).toNat) := by show (n.tmod 255).toNat = (n % 255).toNat; omega
    clear hm
    go_enter Try.func18, Try.ntmps18
    go_wp2_with fail
    go_ret
    exact ⟨ret_u8 (by rw [he.out]), rfl⟩
theorem exp_any (g : Nat) (n : Int) (w : World) (h : TabAt w g) (h1 : -9223372036854775808 ≤ n) (h2 : n ≤ 9223372036854775807) : Calls Try.prog 18 #[.pointer (some ⟨g, 0, none⟩), .int .i64 n] w fun e w' => e = .returned (.int .u8 (gpow 2 (n % 255).toNat : Int)) ∧ w = w' := by
  by_cases hn : n < 0
  · exact exp_neg g n w h hn h1
  · exact exp_pos g n w h (by omega) h2

theorem tmul_nil (w : World) : Calls Try.prog 21 #[.pointer none, .int .u8 1, .int .u8 1] w fun e w' => e = .returned (.int .u8 0) ∧ w = w' := by
  go_enter Try.func21, Try.ntmps21
  go_wp2_with fail
  refine (log_nil 1 _).mono ?_
  rintro e w' ⟨rfl, rfl⟩
  go_wp2_with fail
  refine (log_nil 1 _).mono ?_
  rintro e w' ⟨rfl, rfl⟩
  go_wp2_with fail
  refine (exp_nil _ _).mono ?_
  rintro e w' ⟨rfl, rfl⟩
  go_wp2_with fail
  go_ret
  exact ⟨rfl, rfl⟩
theorem tmul_any (g a b : Nat) (w : World) (h : TabAt w g) (ha : a < 256) (hb : b < 256) : Calls Try.prog 21 #[.pointer (some ⟨g, 0, none⟩), .int .u8 a, .int .u8 b] w fun e w' => e = .returned (.int .u8 (gmul a b : Int)) ∧ w = w' := by
  by_cases h0 : a = 0
  · subst h0
    have hz := hide2 (zero_gmul b)
    go_enter Try.func21, Try.ntmps21
    go_wp2_with fail
    go_ret
    exact ⟨ret_u8 (by rw [hz.out]; rfl), rfl⟩
  by_cases h1 : b = 0
  · subst h1
    have ha0 : 0 < a := by omega
    clear h0
    have hz := hide2 (gmul_zero a)
    go_enter Try.func21, Try.ntmps21
    go_wp2_with fail
    go_ret
    exact ⟨ret_u8 (by rw [hz.out]; rfl), rfl⟩
  have hl := hide2 (gmul_logs ha hb h0 h1)
  have la := glog_lt ha h0
  have lb := glog_lt hb h1
  have ea : Hid (glogI a = (glog a : Int)) := if_neg h0
  have eb : Hid (glogI b = (glog b : Int)) := if_neg h1
  have ha0 : ((a : Int) == 0) = false := by rw [beq_eq_false_iff_ne]; omega
  have hb0 : ((b : Int) == 0) = false := by rw [beq_eq_false_iff_ne]; omega
  clear h0 h1
  go_enter Try.func21, Try.ntmps21
  go_wp2_with fail
  refine (log_any g a _ h ha).mono ?_
  rintro e w' ⟨rfl, rfl⟩
  rw [ea.out]
  go_wp2_with fail
  refine (log_any g b _ h hb).mono ?_
  rintro e w' ⟨rfl, rfl⟩
  rw [eb.out]
  go_wp2_with fail
  refine (exp_any g _ _ h (by omega) (by omega)).mono ?_
  rintro e w' ⟨rfl, rfl⟩
  go_wp2_with fail
  go_ret
  exact ⟨ret_u8 (by rw [← hl.out]; congr 2), rfl⟩
end Go.Proofs.Ytfkffgmpgoahpaa
