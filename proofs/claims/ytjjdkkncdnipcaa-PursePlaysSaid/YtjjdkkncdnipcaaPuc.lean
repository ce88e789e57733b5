/- The document's numbers of two halves; Plus, Times and Cut, each as a contract. No condition. -/
import Derived.Test.YtjjdkkncdnipcaaPub
import Derived.Deep.RegionHeld3
namespace Go.Proofs.Ytjjdkkncdnipcaa
open Go.RowKit
set_option linter.unusedVariables false
set_option maxRecDepth 20000
set_option linter.unusedSimpArgs false

/-- The halves h and l are the number n, as far as two words go. -/
structure Wd (h l n : Nat) : Prop where
  hi : h = n / 18446744073709551616 % 18446744073709551616
  lo : l = n % 18446744073709551616
theorem Wd.low {l : Nat} (hl : l ≤ 18446744073709551615) : Wd 0 l l := ⟨by omega, by omega⟩
/-- A box of two words, of four. -/
def Bx2 (w : World) (s : Nat) (h l : Nat) : Prop := w.heap[s]? = some (.cells #[.int .u64 (h : Int), .int .u64 (l : Int)] 52 (0, 0))
def BxP (w : World) (s : Nat) (T : Pu) : Prop := w.heap[s]? = some (.cells (puC T) 36 (0, 0))
section
variable {w w1 : World} {S : Nat → Prop} {s h l : Nat} {T : Pu}
theorem Bx2.lt (hb : Bx2 w s h l) : s < w.heap.size := (Array.getElem?_eq_some_iff.1 hb).1
theorem Bx2.keep (hb : Bx2 w s h l) (hk : Kp S w w1) (hS : ¬ S s) : Bx2 w1 s h l := (hk.block s hb.lt hS).trans hb
theorem Bx2.no (hb : Bx2 w s h l) (hk : Kp No w w1) : Bx2 w1 s h l := hb.keep hk fun f => f
theorem Bx2.c0 (hb : Bx2 w s h l) : w.cell? ⟨s, 0, none⟩ = some (.int .u64 (h : Int)) := by rw [cell_of_row w s 0 _ _ _ hb]; rfl
theorem Bx2.c1 (hb : Bx2 w s h l) : w.cell? ⟨s, 1, none⟩ = some (.int .u64 (l : Int)) := by rw [cell_of_row w s 1 _ _ _ hb]; rfl
theorem Bx2.fz (hb : Bx2 w s h l) (j : Nat) : w.frozen? ⟨s, j, none⟩ = false := frozen_of_row w s j _ _ hb
theorem Bx2.new (w : World) (h l : Nat) : Bx2 (w.alloc (.cells #[.int .u64 (h : Int), .int .u64 (l : Int)] 52)) w.heap.size h l := heap_alloc_new w _
theorem Bx2.set (hb : Bx2 w s h l) (h' l' : Nat) : Bx2 ((w.setCell ⟨s, 0, none⟩ (.int .u64 (h' : Int))).setCell ⟨s, 1, none⟩ (.int .u64 (l' : Int))) s h' l' :=
  heap_setCell_same _ s 1 _ _ _ (heap_setCell_same w s 0 _ _ _ hb)
theorem kp_bx2 (w : World) (s : Nat) (u v : Value) : Kp (fun k => k = s) w ((w.setCell ⟨s, 0, none⟩ u).setCell ⟨s, 1, none⟩ v) :=
  (Kp.setCell (p := ⟨s, 0, none⟩) (S := fun k => k = s) rfl u).trans' (Kp.setCell (p := ⟨s, 1, none⟩) (S := fun k => k = s) rfl v)
theorem BxP.lt (hb : BxP w s T) : s < w.heap.size := (Array.getElem?_eq_some_iff.1 hb).1
theorem BxP.keep (hb : BxP w s T) (hk : Kp S w w1) (hS : ¬ S s) : BxP w1 s T := (hk.block s hb.lt hS).trans hb
theorem BxP.no (hb : BxP w s T) (hk : Kp No w w1) : BxP w1 s T := hb.keep hk fun f => f
theorem BxP.c0 (hb : BxP w s T) : w.cell? ⟨s, 0, none⟩ = some (.int .u64 (T.rate : Int)) := by rw [cell_of_row w s 0 _ _ _ hb]; rfl
theorem BxP.c1 (hb : BxP w s T) : w.cell? ⟨s, 1, none⟩ = some (.int .u64 (T.burst : Int)) := by rw [cell_of_row w s 1 _ _ _ hb]; rfl
theorem BxP.c2 (hb : BxP w s T) : w.cell? ⟨s, 2, none⟩ = some (.int .u64 (T.level : Int)) := by rw [cell_of_row w s 2 _ _ _ hb]; rfl
theorem BxP.c3 (hb : BxP w s T) : w.cell? ⟨s, 3, none⟩ = some (.int .u64 (T.spent : Int)) := by rw [cell_of_row w s 3 _ _ _ hb]; rfl
theorem BxP.fz (hb : BxP w s T) (j : Nat) : w.frozen? ⟨s, j, none⟩ = false := frozen_of_row w s j _ _ hb
theorem BxP.new (w : World) (T : Pu) : BxP (w.alloc (.cells (puC T) 36)) w.heap.size T := heap_alloc_new w _
theorem BxP.setLevel (hb : BxP w s T) (n : Nat) : BxP (w.setCell ⟨s, 2, none⟩ (.int .u64 (n : Int))) s ⟨T.rate, T.burst, n, T.spent⟩ := heap_setCell_same w s 2 _ _ _ hb
theorem BxP.setSpent (hb : BxP w s T) (n : Nat) : BxP (w.setCell ⟨s, 3, none⟩ (.int .u64 (n : Int))) s ⟨T.rate, T.burst, T.level, n⟩ := heap_setCell_same w s 3 _ _ _ hb
/-- All four words are written. -/
theorem BxP.set4 (hb : BxP w s T) (T' : Pu) : BxP ((((w.setCell ⟨s, 0, none⟩ (.int .u64 (T'.rate : Int))).setCell ⟨s, 1, none⟩ (.int .u64 (T'.burst : Int))).setCell ⟨s, 2, none⟩ (.int .u64 (T'.level : Int))).setCell ⟨s, 3, none⟩ (.int .u64 (T'.spent : Int))) s T' :=
  heap_setCell_same _ s 3 _ _ _ (heap_setCell_same _ s 2 _ _ _ (heap_setCell_same _ s 1 _ _ _ (heap_setCell_same w s 0 _ _ _ hb)))
theorem kp_bxp (w : World) (t : Nat) (u0 u1 u2 u3 : Value) : Kp (fun k => k = t) w ((((w.setCell ⟨t, 0, none⟩ u0).setCell ⟨t, 1, none⟩ u1).setCell ⟨t, 2, none⟩ u2).setCell ⟨t, 3, none⟩ u3) :=
  (((Kp.setCell (p := ⟨t, 0, none⟩) (S := fun k => k = t) rfl u0).trans' (Kp.setCell (p := ⟨t, 1, none⟩) (S := fun k => k = t) rfl u1)).trans' (Kp.setCell (p := ⟨t, 2, none⟩) (S := fun k => k = t) rfl u2)).trans' (Kp.setCell (p := ⟨t, 3, none⟩) (S := fun k => k = t) rfl u3)
end

/-- A number of two halves comes back. -/
def WdPost (w : World) (n : Nat) (e : Ending) (w1 : World) : Prop := ∃ h l : Nat, e = .returned (.agg #[.int .u64 (h : Int), .int .u64 (l : Int)]) ∧ Wd h l n ∧ Kp No w w1
set_option maxHeartbeats 1000000 in
theorem rplus_any (w : World) {ah al a bh bl b : Nat} (ha : Wd ah al a) (hb : Wd bh bl b) : Calls Try.prog 21 #[.agg #[.int .u64 (ah : Int), .int .u64 (al : Int)], .agg #[.int .u64 (bh : Int), .int .u64 (bl : Int)]] w (WdPost w (a + b)) := by
  obtain ⟨a1, a2⟩ := ha
  obtain ⟨b1, b2⟩ := hb
  have K1 := Kp.alloc No w (.cells #[.int .u64 (ah : Int), .int .u64 (al : Int)] 52)
  have K2 := Kp.alloc No (w.alloc (.cells #[.int .u64 (ah : Int), .int .u64 (al : Int)] 52)) (.cells #[.int .u64 (bh : Int), .int .u64 (bl : Int)] 52)
  have K3 := Kp.alloc No ((w.alloc (.cells #[.int .u64 (ah : Int), .int .u64 (al : Int)] 52)).alloc (.cells #[.int .u64 (bh : Int), .int .u64 (bl : Int)] 52)) (.cells #[.int .u64 0, .int .u64 0] 52)
  have e1 : (w.alloc (.cells #[.int .u64 (ah : Int), .int .u64 (al : Int)] 52)).heap.size = w.heap.size + 1 := by simp
  have e2 : ((w.alloc (.cells #[.int .u64 (ah : Int), .int .u64 (al : Int)] 52)).alloc (.cells #[.int .u64 (bh : Int), .int .u64 (bl : Int)] 52)).heap.size = w.heap.size + 1 + 1 := by simp
  have q1 := ((Bx2.new w ah al).no K2).no K3
  have q2 := (Bx2.new (w.alloc (.cells #[.int .u64 (ah : Int), .int .u64 (al : Int)] 52)) bh bl).no K3
  have q3 : Bx2 _ _ 0 0 := Bx2.new ((w.alloc (.cells #[.int .u64 (ah : Int), .int .u64 (al : Int)] 52)).alloc (.cells #[.int .u64 (bh : Int), .int .u64 (bl : Int)] 52)) 0 0
  rw [e1] at q2
  rw [e2] at q3
  have HK := hide ((K1.trans' K2).trans' K3)
  have HB1 := hide q1
  have HB2 := hide q2
  have HB3 := hide q3
  obtain ⟨lo, hlo⟩ : ∃ lo, lo = (al + bl) % 18446744073709551616 := ⟨_, rfl⟩
  obtain ⟨h0, hh0⟩ : ∃ h0, h0 = (ah + bh) % 18446744073709551616 := ⟨_, rfl⟩
  obtain ⟨h1, hh1⟩ : ∃ h1, h1 = (h0 + 1) % 18446744073709551616 := ⟨_, rfl⟩
  have e3 : IntKind.u64.wrap ((al : Int) + (bl : Int)) = (lo : Int) := by rw [IntKind.wrap_u64]; omega
  have e4 : IntKind.u64.wrap ((ah : Int) + (bh : Int)) = (h0 : Int) := by rw [IntKind.wrap_u64]; omega
  have e5 : IntKind.u64.wrap ((h0 : Int) + 1) = (h1 : Int) := by rw [IntKind.wrap_u64]; omega
  clear K1 K2 K3 e1 e2 q1 q2 q3
  by_cases hc : lo < al
  · have HW : Hid (Wd h1 lo (a + b)) := ⟨by omega, by omega⟩
    clear a1 a2 b1 b2 hlo hh0 hh1
    go_enter Try.func21, Try.ntmps21
    go_upto_region 1 with fail
    generalize ((w.alloc (.cells #[.int .u64 (ah : Int), .int .u64 (al : Int)] 52)).alloc (.cells #[.int .u64 (bh : Int), .int .u64 (bl : Int)] 52)).alloc (.cells #[.int .u64 0, .int .u64 0] 52) = w3 at HK HB1 HB2 HB3 ⊢
    obtain ⟨s, hs⟩ : ∃ s, s = w.heap.size := ⟨_, rfl⟩
    rw [← hs] at HB1 HB2 HB3 ⊢
    have HSZ := hide hs
    clear hs
    have x0 := HB1.out.c0
    have x1 := HB1.out.c1
    have y0 := HB2.out.c0
    have y1 := HB2.out.c1
    have z0 := HB3.out.c0
    have z1 := HB3.out.c1
    have f0 := HB3.out.fz 0
    have f1 := HB3.out.fz 1
    go_wp2_with fail
    have hf := HB3.out.set h1 lo
    have kf := kp_bx2 w3 (s + 1 + 1) (.int .u64 (h1 : Int)) (.int .u64 (lo : Int))
    clear x0 x1 y0 y1 z0 z1 f0 f1
    generalize (w3.setCell ⟨s + 1 + 1, 0, none⟩ (.int .u64 (h1 : Int))).setCell ⟨s + 1 + 1, 1, none⟩ (.int .u64 (lo : Int)) = w9 at hf kf ⊢
    have q0 := hf.c0
    have q1 := hf.c1
    refine bodyPost_ret (v := .agg #[.int .u64 (h1 : Int), .int .u64 (lo : Int)]) (by simp [results, Try.results21, go_sem, q0, q1]) rfl ?_
    exact ⟨_, _, rfl, HW.out, HK.out.trans (kf.mono fun q hq => .inr (by rw [hq, ← HSZ.out]; omega))⟩
  · have HW : Hid (Wd h0 lo (a + b)) := ⟨by omega, by omega⟩
    clear a1 a2 b1 b2 hlo hh0 hh1 e5
    go_enter Try.func21, Try.ntmps21
    go_upto_region 1 with fail
    generalize ((w.alloc (.cells #[.int .u64 (ah : Int), .int .u64 (al : Int)] 52)).alloc (.cells #[.int .u64 (bh : Int), .int .u64 (bl : Int)] 52)).alloc (.cells #[.int .u64 0, .int .u64 0] 52) = w3 at HK HB1 HB2 HB3 ⊢
    obtain ⟨s, hs⟩ : ∃ s, s = w.heap.size := ⟨_, rfl⟩
    rw [← hs] at HB1 HB2 HB3 ⊢
    have HSZ := hide hs
    clear hs
    have x0 := HB1.out.c0
    have x1 := HB1.out.c1
    have y0 := HB2.out.c0
    have y1 := HB2.out.c1
    have z0 := HB3.out.c0
    have z1 := HB3.out.c1
    have f0 := HB3.out.fz 0
    have f1 := HB3.out.fz 1
    go_wp2_with fail
    have hf := HB3.out.set h0 lo
    have kf := kp_bx2 w3 (s + 1 + 1) (.int .u64 (h0 : Int)) (.int .u64 (lo : Int))
    clear x0 x1 y0 y1 z0 z1 f0 f1
    generalize (w3.setCell ⟨s + 1 + 1, 0, none⟩ (.int .u64 (h0 : Int))).setCell ⟨s + 1 + 1, 1, none⟩ (.int .u64 (lo : Int)) = w9 at hf kf ⊢
    have q0 := hf.c0
    have q1 := hf.c1
    refine bodyPost_ret (v := .agg #[.int .u64 (h0 : Int), .int .u64 (lo : Int)]) (by simp [results, Try.results21, go_sem, q0, q1]) rfl ?_
    exact ⟨_, _, rfl, HW.out, HK.out.trans (kf.mono fun q hq => .inr (by rw [hq, ← HSZ.out]; omega))⟩
/-- What the document's calls that return a number come to. -/
def RnPost (w : World) (n : Nat) (e : Ending) (w1 : World) : Prop := e = .returned (.int .u64 (n : Int)) ∧ Kp No w w1
theorem rcut_any (w : World) {h l n : Nat} (hw : Wd h l n) (hn : n < 340282366920938463463374607431768211456) : Calls Try.prog 23 #[.agg #[.int .u64 (h : Int), .int .u64 (l : Int)]] w (RnPost w (cutN n)) := by
  obtain ⟨h1, h2⟩ := hw
  have HK := hide (Kp.alloc No w (.cells #[.int .u64 (h : Int), .int .u64 (l : Int)] 52))
  have x0 := (Bx2.new w h l).c0
  have x1 := (Bx2.new w h l).c1
  by_cases hc : n ≤ 18446744073709551615
  · obtain rfl : l = n := by omega
    obtain rfl : h = 0 := by omega
    rw [cutN_in hc]
    clear h1 h2
    go_enter Try.func23, Try.ntmps23
    go_wp2_with fail
    go_ret
    exact ⟨rfl, HK.out⟩
  · have hp : 0 < h := by omega
    rw [cutN_out hc]
    clear h1 h2 hc
    go_enter Try.func23, Try.ntmps23
    go_wp2_with fail
    go_ret
    exact ⟨rfl, HK.out⟩

set_option maxHeartbeats 4000000 in
theorem rtimes_any (w : World) (a b : Nat) (ha : a ≤ 18446744073709551615) (hb : b ≤ 18446744073709551615) : Calls Try.prog 22 #[.int .u64 (a : Int), .int .u64 (b : Int)] w (WdPost w (a * b)) := by
  have K1 := Kp.alloc No w (.cells #[.int .u64 0, .int .u64 0] 52)
  have K2 := Kp.alloc No (w.alloc (.cells #[.int .u64 0, .int .u64 0] 52)) (.cells #[.int .u64 0, .int .u64 0] 52)
  have K3 := Kp.alloc No ((w.alloc (.cells #[.int .u64 0, .int .u64 0] 52)).alloc (.cells #[.int .u64 0, .int .u64 0] 52)) (.cells #[.int .u64 0, .int .u64 (a : Int)] 52)
  have e1 : (w.alloc (.cells #[.int .u64 0, .int .u64 0] 52)).heap.size = w.heap.size + 1 := by simp
  have e2 : ((w.alloc (.cells #[.int .u64 0, .int .u64 0] 52)).alloc (.cells #[.int .u64 0, .int .u64 0] 52)).heap.size = w.heap.size + 1 + 1 := by simp
  have q1 : Bx2 _ _ 0 0 := ((Bx2.new w 0 0).no K2).no K3
  have q2 : Bx2 _ _ 0 0 := (Bx2.new (w.alloc (.cells #[.int .u64 0, .int .u64 0] 52)) 0 0).no K3
  have q3 : Bx2 _ _ 0 a := Bx2.new ((w.alloc (.cells #[.int .u64 0, .int .u64 0] 52)).alloc (.cells #[.int .u64 0, .int .u64 0] 52)) 0 a
  rw [e1] at q2
  rw [e2] at q3
  have HK := hide ((K1.trans' K2).trans' K3)
  have HB1 := hide q1
  have HB2 := hide q2
  have HB3 := hide q3
  have HA : Hid (a ≤ 18446744073709551615) := ha
  have HB : Hid (b < 2 ^ 64) := by show b < 2 ^ 64; omega
  clear K1 K2 K3 e1 e2 q1 q2 q3 ha hb
  go_enter Try.func22, Try.ntmps22
  go_upto_region 3 with fail
  generalize ((w.alloc (.cells #[.int .u64 0, .int .u64 0] 52)).alloc (.cells #[.int .u64 0, .int .u64 0] 52)).alloc (.cells #[.int .u64 0, .int .u64 (a : Int)] 52) = w3 at HK HB1 HB2 HB3 ⊢
  obtain ⟨s, hs⟩ : ∃ s, s = w.heap.size := ⟨_, rfl⟩
  rw [← hs] at HB1 HB2 HB3 ⊢
  have HSZ := hide hs
  clear hs
  go_wp2_with fail
  go_loopw [1, 7] (fun bv i wr => ∃ k c S X sh sl xh xl : Nat, k ≤ 64 ∧ i = .int .i64 (k : Int) ∧ bv = .int .u64 (c : Int) ∧ c < 2 ^ (64 - k) ∧ S + X * c = a * b ∧ Bx2 wr (s + 1) sh sl ∧ Wd sh sl S ∧ Bx2 wr (s + 1 + 1) xh xl ∧ Wd xh xl X ∧ Kp (fun q => q = s + 1 ∨ q = s + 1 + 1) w3 wr) (fun _ i _ => 64 - (intOf i).toNat)
  case atStart => exact ⟨0, b, 0, a, 0, 0, 0, a, Nat.zero_le _, rfl, rfl, HB.out, Nat.zero_add _, HB2.out, Wd.low (Nat.zero_le _), HB3.out, Wd.low HA.out, Kp.refl _ _⟩
  case round =>
    obtain ⟨k, c, S, X, sh, sl, xh, xl, hk, rfl, rfl, hcb, hsum, hbs, hws, hbx, hwx, hkw⟩ := hrel
    by_cases hlt : k < 64
    · have hc2 : c ≤ 18446744073709551615 := by
        have := Nat.pow_le_pow_right (n := 2) (by omega) (show 64 - k ≤ 64 by omega)
        omega
      have hch : c / 2 < 2 ^ (64 - (k + 1)) := by
        have e : 2 ^ (64 - k) = 2 ^ (64 - (k + 1)) * 2 := by rw [← Nat.pow_succ]; congr 1; omega
        omega
      have HCH := hide hch
      have HS := hide hsum
      have HWS := hide hws
      have HWX := hide hwx
      have HBS := hide hbs
      have HBX := hide hbx
      have HKW := hide hkw
      have ed : IntKind.u64.wrap ((c : Int).tdiv 2) = ((c / 2 : Nat) : Int) := by rw [show (2 : Int) = ((2 : Nat) : Int) from rfl, IntWalk.up_tdiv rfl rfl]; exact wr64_in _ (by omega)
      have hcd : c = c / 2 * 2 + c % 2 := by omega
      have hXc : X * c = (X + X) * (c / 2) + X * (c % 2) := by
        conv => lhs; rw [hcd]
        rw [Nat.mul_add, ← Nat.mul_assoc, Nat.mul_right_comm, Nat.mul_two]
      have HX := hide hXc
      clear hcb hch hsum hbs hws hbx hwx hkw hcd hXc
      by_cases hc1 : c % 2 = 1
      · have HC1 := hide hc1
        have x0 := HBS.out.c0
        have x1 := HBS.out.c1
        have y0 := HBX.out.c0
        have y1 := HBX.out.c1
        have f0 := HBS.out.fz 0
        have f1 := HBS.out.fz 1
        have em : ((c : Int) % 2 == 1) = true := by simp; omega
        have ec : ((c : Int).tmod 2 == 1) = true := by rw [IntWalk.rem_in _ _ (by omega)]; exact em
        clear hc1
        go_wp2_with fail
        refine (rplus_any _ HWS.out HWX.out).mono ?_
        rintro e w5 ⟨h5, l5, rfl, hw5, k5⟩
        have HW5 := hide hw5
        have HB5 := hide (HBS.out.no k5)
        have HBX5 := hide (HBX.out.no k5)
        have HK5 := hide (HKW.out.trans' (k5.of_no _))
        clear hw5 k5 x0 x1 y0 y1 f0 f1
        have z0 := HB5.out.c0
        have z1 := HB5.out.c1
        have f0 := HB5.out.fz 0
        have f1 := HB5.out.fz 1
        go_upto_region 8 with fail
        have HBS6 := hide (HB5.out.set h5 l5)
        have HBX6 := hide (HBX5.out.keep (kp_bx2 w5 (s + 1) (.int .u64 (h5 : Int)) (.int .u64 (l5 : Int))) (by show ¬ s + 1 + 1 = s + 1; omega))
        have HK6 := hide (HK5.out.trans' ((kp_bx2 w5 (s + 1) (.int .u64 (h5 : Int)) (.int .u64 (l5 : Int))).mono fun q e => .inl e))
        clear z0 z1 f0 f1 HB5 HBX5 HK5
        generalize (w5.setCell ⟨s + 1, 0, none⟩ (.int .u64 (h5 : Int))).setCell ⟨s + 1, 1, none⟩ (.int .u64 (l5 : Int)) = w6 at HBS6 HBX6 HK6 ⊢
        have hx6 := HBX6.out
        have x0 := hx6.c0
        have x1 := hx6.c1
        go_wp2_with fail
        refine (rplus_any _ HWX.out HWX.out).mono ?_
        rintro e w7 ⟨h7, l7, rfl, hw7, k7⟩
        have HW7 := hide hw7
        have HB7 := hide (HBX6.out.no k7)
        have HBS7 := hide (HBS6.out.no k7)
        have HK7 := hide (HK6.out.trans' (k7.of_no _))
        clear hw7 k7 x0 x1 hx6
        have z0 := HB7.out.c0
        have z1 := HB7.out.c1
        have f0 := HB7.out.fz 0
        have f1 := HB7.out.fz 1
        go_wp2_with fail
        go_round
        case rel => exact ⟨k + 1, c / 2, S + X, X + X, h5, l5, h7, l7, by omega, by go_num, rfl, HCH.out, (by rw [← HS.out, HX.out, HC1.out]; omega), HBS7.out.keep (kp_bx2 w7 (s + 1 + 1) _ _) (by show ¬ s + 1 = s + 1 + 1; omega), HW5.out, HB7.out.set h7 l7, HW7.out, HK7.out.trans' ((kp_bx2 w7 (s + 1 + 1) _ _).mono fun q e => .inr e)⟩
        case measure => simp [intOf]; omega
      · have em : ((c : Int) % 2 == 1) = false := by simp; omega
        have ec : ((c : Int).tmod 2 == 1) = false := by rw [IntWalk.rem_in _ _ (by omega)]; exact em
        have HC1 : Hid (c % 2 = 0) := by show _ = _; omega
        have HBS6 := HBS
        have HBX6 := HBX
        have HK6 := HKW
        clear hc1
        have hx6 := HBX6.out
        have x0 := hx6.c0
        have x1 := hx6.c1
        go_wp2_with fail
        refine (rplus_any _ HWX.out HWX.out).mono ?_
        rintro e w7 ⟨h7, l7, rfl, hw7, k7⟩
        have HW7 := hide hw7
        have HB7 := hide (HBX6.out.no k7)
        have HBS7 := hide (HBS6.out.no k7)
        have HK7 := hide (HK6.out.trans' (k7.of_no _))
        clear hw7 k7 x0 x1 hx6
        have z0 := HB7.out.c0
        have z1 := HB7.out.c1
        have f0 := HB7.out.fz 0
        have f1 := HB7.out.fz 1
        go_wp2_with fail
        go_round
        case rel => exact ⟨k + 1, c / 2, S, X + X, sh, sl, h7, l7, by omega, by go_num, rfl, HCH.out, (by rw [← HS.out, HX.out, HC1.out]; omega), HBS7.out.keep (kp_bx2 w7 (s + 1 + 1) _ _) (by show ¬ s + 1 = s + 1 + 1; omega), HWS.out, HB7.out.set h7 l7, HW7.out, HK7.out.trans' ((kp_bx2 w7 (s + 1 + 1) _ _).mono fun q e => .inr e)⟩
        case measure => simp [intOf]; omega
    · obtain rfl : k = 64 := by omega
      have hc0 : c = 0 := by
        have : c < 2 ^ 0 := hcb
        omega
      subst hc0
      rw [Nat.mul_zero, Nat.add_zero] at hsum
      rw [hsum] at hws
      have HWS := hide hws
      have hs0 := hbs
      have HR := hide (HB1.out.keep hkw (by show ¬ (s = s + 1 ∨ s = s + 1 + 1); omega))
      have HKW := hide hkw
      have x0 := hbs.c0
      have x1 := hbs.c1
      have z0 := HR.out.c0
      have z1 := HR.out.c1
      have f0 := HR.out.fz 0
      have f1 := HR.out.fz 1
      clear hcb hsum hbs hws hbx hwx hkw hs0
      go_wp2_with fail
      have hf := HR.out.set sh sl
      have kf := kp_bx2 wr s (.int .u64 (sh : Int)) (.int .u64 (sl : Int))
      clear x0 x1 z0 z1 f0 f1
      generalize (wr.setCell ⟨s, 0, none⟩ (.int .u64 (sh : Int))).setCell ⟨s, 1, none⟩ (.int .u64 (sl : Int)) = w9 at hf kf ⊢
      have q0 := hf.c0
      have q1 := hf.c1
      refine bodyPost_ret (v := .agg #[.int .u64 (sh : Int), .int .u64 (sl : Int)]) (by simp [results, Try.results22, go_sem, q0, q1]) rfl ?_
      exact ⟨_, _, rfl, HWS.out, (HK.out.trans (HKW.out.mono fun q hq => .inr (by rcases hq with hq | hq <;> rw [hq, ← HSZ.out] <;> omega))).trans (kf.mono fun q hq => .inr (by rw [hq, ← HSZ.out]; exact Nat.le_refl _))⟩
end Go.Proofs.Ytjjdkkncdnipcaa
