/- Package msr's check, as a contract over memory; Package msr's bytesAt and inverse, each as a contract over memory; Package msr's inverse, as a contract over memory; Package msr's Decode, as a contract over memory; The document's Decode, as a contract over memory; Arguments opened to cells: shards with their slots. No condition. -/
import Derived.Test.YthmplbklphobaaaMsa
import Derived.Deep.QuietTactic
import Derived.BigQuiet
import Derived.Deep.DeepCutAuto
import Derived.Test.YthmplbklphobaaaSol
import Derived.Test.YthmplbklphobaaaBasf
namespace Go.Proofs.Ythmplbklphobaaa
open Go.RowKit
set_option linter.unusedVariables false
set_option linter.unusedSimpArgs false
set_option maxRecDepth 100000

/-- Shards with their slots, as a slice has them. -/
structure Prts (w : World) (A : Option Addr) (m : Nat) (sl : Nat → Int) (ds : Nat → List UInt8) : Prop where
  at_ : ∀ j, j < m → ∃ B off A' r c, A = some ⟨B, off, none⟩ ∧ w.cell? ⟨B, off + j * 2, none⟩ = some (.int .i64 (sl j)) ∧ w.cell? ⟨B, off + j * 2 + 1, none⟩ = some (.slice A' r c) ∧ Bts w (.slice A' r c) (ds j)
theorem Prts.no {w w1 : World} {A : Option Addr} {m : Nat} {sl : Nat → Int} {ds : Nat → List UInt8} (h : Prts w A m sl ds) (hk : Kp No w w1) : Prts w1 A m sl ds :=
  ⟨fun j hj => by
    obtain ⟨B, off, A', r, c, h1, h2, h3, h4⟩ := h.at_ j hj
    exact ⟨B, off, A', r, c, h1, hk.cell h2 fun f => f, hk.cell h3 fun f => f, h4.no hk⟩⟩
theorem Prts.less {w : World} {A : Option Addr} {m m' : Nat} {sl : Nat → Int} {ds : Nat → List UInt8} (h : Prts w A m sl ds) (hm : m' ≤ m) : Prts w A m' sl ds := ⟨fun j hj => h.at_ j (by omega)⟩
/-- No slot was seen. -/
def snZ : Array Value := Array.replicate 24 (.bool false)
theorem sn_info : (Try.prog.info? 80).map (fun i => i.zero) = some (some (.agg snZ)) := by kernel_rfl
theorem sn_zero (w : World) : (zeroValue 80).run Try.prog w = .ok (.agg snZ) w := by
  have h := sn_info
  rcases hi : Try.prog.info? 80 with _ | i
  · rw [hi] at h; cases h
  · rw [hi] at h
    simp only [Option.map_some, Option.some.injEq] at h
    simp [zeroValue, typeInfo, go_sem, hi, h]
/-- The block g tells which of the first j slots were seen. -/
structure SnA (w : World) (g : Nat) (sl : Nat → Int) (j : Nat) : Prop where
  ex : ∃ cs : Array Value, w.heap[g]? = some (.cells cs 80 (0, 0)) ∧ cs.size = 24 ∧ ∀ s : Nat, s < 24 → ∃ b : Bool, cs[s]? = some (.bool b) ∧ (b = true ↔ ∃ i, i < j ∧ sl i = (s : Int))
section
variable {w w1 : World} {g j : Nat} {sl : Nat → Int} {S : Nat → Prop}
theorem SnA.new (w : World) (sl : Nat → Int) : SnA (w.alloc (.cells snZ 80)) w.heap.size sl 0 := by
  refine ⟨snZ, heap_alloc_new w _, by simp [snZ], fun s hs => ⟨false, ?_, ?_⟩⟩
  · unfold snZ
    rw [Array.getElem?_replicate, if_pos hs]
  · constructor
    · intro e; cases e
    · rintro ⟨i, hi, _⟩; omega
theorem SnA.keep (h : SnA w g sl j) (hk : Kp S w w1) (hS : ¬ S g) : SnA w1 g sl j := by
  obtain ⟨cs, h1, h2, h3⟩ := h.ex
  exact ⟨cs, by rw [hk.block g (Array.getElem?_eq_some_iff.1 h1).1 hS]; exact h1, h2, h3⟩
theorem SnA.cell (h : SnA w g sl j) {s : Nat} (hs : s < 24) : ∃ b : Bool, w.cell? ⟨g, s, none⟩ = some (.bool b) ∧ (b = true ↔ ∃ i, i < j ∧ sl i = (s : Int)) := by
  obtain ⟨cs, h1, h2, h3⟩ := h.ex
  obtain ⟨b, h4, h5⟩ := h3 s hs
  exact ⟨b, by rw [cell_of_row w g _ _ _ _ h1, h4], h5⟩
theorem SnA.frozen (h : SnA w g sl j) (o : Nat) : w.frozen? ⟨g, o, none⟩ = false := by
  obtain ⟨cs, h1, _⟩ := h.ex
  exact frozen_of_row w g o _ _ h1
theorem SnA.set (h : SnA w g sl j) {s : Nat} (hs : s < 24) (he : sl j = (s : Int)) : SnA (w.setCell ⟨g, s, none⟩ (.bool true)) g sl (j + 1) := by
  obtain ⟨cs, h1, h2, h3⟩ := h.ex
  refine ⟨cs.setIfInBounds s (.bool true), heap_setCell_same w g _ cs _ _ h1, by rw [Array.size_setIfInBounds]; exact h2, fun t ht => ?_⟩
  rw [Array.getElem?_setIfInBounds]
  by_cases e : s = t
  · subst e
    rw [if_pos rfl, if_pos (by omega)]
    exact ⟨true, rfl, fun _ => ⟨j, by omega, he⟩, fun _ => rfl⟩
  · rw [if_neg e]
    obtain ⟨b, h4, h5⟩ := h3 t ht
    refine ⟨b, h4, h5.trans ⟨fun ⟨i, hi, hx⟩ => ⟨i, by omega, hx⟩, fun ⟨i, hi, hx⟩ => ?_⟩⟩
    by_cases e2 : i = j
    · subst e2
      omega
    · exact ⟨i, by omega, hx⟩
end
/-- The shard j may stand there. -/
def PGood (n : Nat) (sl : Nat → Int) (ds : Nat → List UInt8) (j : Nat) : Prop := (0 ≤ sl j ∧ sl j < (n : Int)) ∧ (∀ i, i < j → sl i ≠ sl j) ∧ (ds j).length ≠ 0 ∧ (ds j).length = (ds 0).length
/-- Decode's error. -/
def CkV (n k a m : Nat) (sl : Nat → Int) (ds : Nat → List UInt8) (z : Int) : Prop :=
  (∃ j, j < m ∧ ¬ PGood n sl ds j) ∧ z = 1 ∨ (∀ j, j < m → PGood n sl ds j) ∧ (m < k ∧ z = 24 ∨ k ≤ m ∧ ((ds 0).length % a ≠ 0 ∧ z = 1 ∨ (ds 0).length % a = 0 ∧ z = 0))
def CkPost (w : World) (n k a m : Nat) (sl : Nat → Int) (ds : Nat → List UInt8) (e : Ending) (w1 : World) : Prop := ∃ z : Int, e = .returned (.int .i64 z) ∧ CkV n k a m sl ds z ∧ Kp No w w1
theorem check_nil (w : World) (v : Value) : Calls Try.prog 58 #[.pointer none, v] w fun e w' => e = .returned (.int .i64 1) ∧ w = w' := by
  go_enter Try.func58, Try.ntmps58
  go_wp2_with fail
  refine (kk_nil w).mono ?_
  rintro e w' ⟨rfl, rfl⟩
  go_wp2_with fail
  go_ret
  exact ⟨rfl, rfl⟩
theorem has_q {w : World} {c n k : Nat} {x : Nat → UInt8} (h : CodeAt w c n k x) (i : Nat) (hi : i < n) (r : Nat) : Calls Try.prog 45 #[cptr c, .int .i64 (i : Int)] (w.drewN r) fun e w' => e = .returned (.bool true) ∧ ∃ t, w' = w.drewN t :=
  (has_yes (h.no (Sm.drewN w r).kp) i hi).mono fun _ _ ⟨he, hw⟩ => ⟨he, r, hw.symm⟩
theorem has_nq {w : World} {c n k : Nat} {x : Nat → UInt8} (h : CodeAt w c n k x) (i : Int) (hi : i < 0 ∨ (n : Int) ≤ i) (r : Nat) : Calls Try.prog 45 #[cptr c, .int .i64 i] (w.drewN r) fun e w' => e = .returned (.bool false) ∧ ∃ t, w' = w.drewN t :=
  (has_no (h.no (Sm.drewN w r).kp) i hi).mono fun _ _ ⟨he, hw⟩ => ⟨he, r, hw.symm⟩
theorem aa_q {w : World} {c n k a d q : Nat} {x : Nat → UInt8} (h : CodeAt w c n k x) (hD : Dim n k a d q) (r : Nat) : Calls Try.prog 25 #[cptr c] (w.drewN r) fun e w' => e = .returned (.int .i64 (a : Int)) ∧ ∃ t, w' = w.drewN t :=
  (aa_any (h.no (Sm.drewN w r).kp) hD).mono fun _ _ ⟨he, hw⟩ => ⟨he, r, hw.symm⟩

set_option maxHeartbeats 4000000 in
theorem check_any {w : World} {c n k a d q : Nat} {x : Nat → UInt8} {A : Option Addr} {m cp : Nat} {sl : Nat → Int} {ds : Nat → List UInt8} (h : CodeAt w c n k x) (hD : Dim n k a d q) (hP : Prts w A m sl ds) (hm : m ≤ 1000) : Calls Try.prog 58 #[cptr c, .slice A m cp] w (CkPost w n k a m sl ds) := by
  have hz := sn_zero
  have hn := hD.n2
  have ha1 := hD.a1
  have ha7 := hD.a7
  have hk0 : ((k : Int) == 0) = false := by have := hD.k_; simp; omega
  have hnew := SnA.new w sl
  have hkn : Kp No w (w.alloc (.cells snZ 80)) := Kp.alloc No _ _
  obtain ⟨g, hg⟩ : ∃ g, g = w.heap.size := ⟨_, rfl⟩
  go_enter Try.func58, Try.ntmps58
  go_wp2_with fail
  refine (kk_any h).mono ?_
  rintro e w' ⟨rfl, rfl⟩
  go_wp2_with fail
  rw [← hg] at hnew ⊢
  have HG := hide hg
  clear hg hz hk0
  go_loopw [13] (fun i wr => ∃ j : Nat, j ≤ m ∧ i = .int .i64 (j : Int) ∧ Hid (∀ i, i < j → PGood n sl ds i) ∧ SnA wr g sl j ∧ Kp No w wr) (fun i _ => m - (intOf i).toNat)
  case atStart => exact ⟨0, Nat.zero_le _, rfl, (fun i hi => absurd hi (Nat.not_lt_zero _) : ∀ i, i < 0 → PGood n sl ds i), hnew, hkn⟩
  case round =>
    clear hnew hkn
    obtain ⟨j, hj, rfl, hgood, hS, hkw⟩ := hrel
    by_cases hlt : j < m
    · obtain ⟨B, off, A', r, cc, rfl, z0, z1, hB⟩ := (hP.no hkw).at_ j hlt
      obtain ⟨B', off', A0, r0, c0, hAB, _, z00, hB0⟩ := (hP.no hkw).at_ 0 (by omega)
      injection hAB with hAB
      injection hAB with hAB1 hAB2
      subst hAB1 hAB2
      have hl := hide hB.len
      have hl0 := hide hB0.len
      have hr0 : 0 < m := by omega
      rw [Nat.zero_mul, Nat.add_zero] at z00
      go_upto_region 7 with fail
      have hC := h.no hkw
      have kb : Kp No wr (wr.alloc (.cells #[.int .i64 (sl j), .slice A' r cc] 37)) := Kp.alloc No _ _
      have b0 : (wr.alloc (.cells #[.int .i64 (sl j), .slice A' r cc] 37)).cell? ⟨wr.heap.size, 0, none⟩ = some (.int .i64 (sl j)) := by simp
      have b1 : (wr.alloc (.cells #[.int .i64 (sl j), .slice A' r cc] 37)).cell? ⟨wr.heap.size, 1, none⟩ = some (.slice A' r cc) := by simp
      have hS2 := hS.keep kb fun f => f
      have hC2 := hC.no kb
      have y00 := kb.cell z00 fun f => f
      generalize wr.alloc (.cells #[.int .i64 (sl j), .slice A' r cc] 37) = wb at *
      generalize wr.heap.size = bx at *
      clear z0 z1 z00 hC hB hB0
      by_cases hr : 0 ≤ sl j ∧ sl j < (n : Int)
      · obtain ⟨s, hs⟩ : ∃ s : Nat, sl j = (s : Int) := ⟨(sl j).toNat, by omega⟩
        have hs1 : s < n := by omega
        have hs24 : s < 24 := by omega
        obtain ⟨b, sb, hb⟩ := hS2.cell hs24
        have HE := hide hs
        have HR := hide hr
        rw [hs] at b0
        clear hs hr
        rcases b with _ | _
        · have HB : Hid (∀ i, i < j → sl i ≠ sl j) := fun i hi e => by
            have := hb.2 ⟨i, hi, by rw [e]; exact HE.out⟩
            cases this
          clear hb
          by_cases hz : r = 0
          · subst hz
            have HBad : Hid (¬ PGood n sl ds j) := fun hp => hp.2.2.1 hl.out.symm
            go_wp2_with fail
            go_quiet ((go_at_call 45; exact has_q hC2 s hs1 _))
            go_wp2_with fail
            go_ret
            exact ⟨1, rfl, .inl ⟨⟨j, hlt, HBad.out⟩, rfl⟩, (hkw.trans' kb).drewN _⟩
          · have hzr : ((r : Int) == 0) = false := by simp; omega
            have HZ := hide hz
            by_cases he : r = r0
            · subst he
              have HGood : Hid (PGood n sl ds j) := ⟨HR.out, HB.out, fun e => HZ.out (by rw [hl.out]; exact e), by rw [← hl.out, ← hl0.out]⟩
              have fz := hS2.frozen s
              have HN := hide (fun t => (hS2.keep (Sm.drewN wb t).kp (S := No) fun f => f).set hs24 HE.out)
              clear hz
              go_wp2_with fail
              go_quiet ((go_at_call 45; exact has_q hC2 s hs1 _))
              go_wp2_with fail
              go_round
              case rel =>
                refine ⟨j + 1, by omega, by go_num, (fun i hi => ?_ : ∀ i, i < j + 1 → PGood n sl ds i), HN.out _, ?_⟩
                · by_cases e : i = j
                  · rw [e]; exact HGood.out
                  · exact hgood.out i (by omega)
                · exact ((hkw.trans' kb).drewN _).own (Kp.setCell (p := ⟨g, s, none⟩) (S := fun q => w.heap.size ≤ q) (Nat.le_of_eq HG.out.symm) _)
              case measure => simp [intOf]; omega
            · have HBad : Hid (¬ PGood n sl ds j) := fun hp => he (by rw [hl.out, hl0.out]; exact hp.2.2.2)
              have hne : ((r : Int) != (r0 : Int)) = true := by simp; omega
              clear hz he
              go_wp2_with fail
              go_quiet ((go_at_call 45; exact has_q hC2 s hs1 _))
              go_wp2_with fail
              go_ret
              exact ⟨1, rfl, .inl ⟨⟨j, hlt, HBad.out⟩, rfl⟩, (hkw.trans' kb).drewN _⟩
        · have HBad : Hid (¬ PGood n sl ds j) := fun hp => by
            obtain ⟨i, hi, e⟩ := hb.1 rfl
            exact hp.2.1 i hi (by rw [e]; exact HE.out.symm)
          clear hb
          go_wp2_with fail
          go_quiet ((go_at_call 45; exact has_q hC2 s hs1 _))
          go_wp2_with fail
          go_ret
          exact ⟨1, rfl, .inl ⟨⟨j, hlt, HBad.out⟩, rfl⟩, (hkw.trans' kb).drewN _⟩
      · have HBad : Hid (¬ PGood n sl ds j) := fun hp => hr hp.1
        have hr' : sl j < 0 ∨ (n : Int) ≤ sl j := by omega
        have HQ := hide (fun t => has_nq hC2 (sl j) hr' t)
        clear hr hr'
        generalize sl j = sj at b0 HQ ⊢
        go_wp2_with fail
        go_quiet ((go_at_call 45; exact HQ.out _))
        go_wp2_with fail
        go_ret
        exact ⟨1, rfl, .inl ⟨⟨j, hlt, HBad.out⟩, rfl⟩, (hkw.trans' kb).drewN _⟩
    · obtain rfl : j = m := by omega
      have hkk := kk_any (h.no hkw)
      have hCw := h.no hkw
      by_cases hf : j < k
      · have HV : Hid (CkV n k a j sl ds 24) := .inr ⟨hgood.out, .inl ⟨hf, rfl⟩⟩
        go_wp2_with fail
        refine hkk.mono ?_
        rintro e w' ⟨rfl, rfl⟩
        go_wp2_with fail
        go_ret
        exact ⟨24, rfl, HV.out, hkw⟩
      · have hkj : k ≤ j := by omega
        have hk1 : 1 ≤ k := by have := hD.k_; omega
        obtain ⟨B, off, A0, r0, c0, rfl, _, z00, hB0⟩ := (hP.no hkw).at_ 0 (by omega)
        rw [Nat.zero_mul, Nat.add_zero] at z00
        have hl0 := hide hB0.len
        have h0j : 0 < j := by omega
        obtain ⟨rr, hrr⟩ : ∃ rr, rr = r0 % a := ⟨_, rfl⟩
        have hr1 : (r0 : Int) % (a : Int) = (rr : Int) := by rw [hrr, Int.natCast_emod]
        have hr2 : (r0 : Int).tmod (a : Int) = (rr : Int) := by rw [Int.tmod_eq_emod_of_nonneg (by omega), hr1]
        have HRR := hide hrr
        have HAQ := hide (fun t => aa_q hCw hD t)
        clear hf hB0 hrr
        by_cases hz : rr = 0
        · subst hz
          have HV : Hid (CkV n k a j sl ds 0) := .inr ⟨hgood.out, .inr ⟨hkj, .inr ⟨by rw [← hl0.out]; exact HRR.out.symm, rfl⟩⟩⟩
          go_wp2_with fail
          refine hkk.mono ?_
          rintro e w' ⟨rfl, rfl⟩
          go_wp2_with fail
          go_quiet ((go_at_call 25; exact HAQ.out _))
          go_wp2_with fail
          go_ret
          exact ⟨0, rfl, HV.out, hkw.drewN _⟩
        · have HV : Hid (CkV n k a j sl ds 1) := .inr ⟨hgood.out, .inr ⟨hkj, .inl ⟨by rw [← hl0.out, ← HRR.out]; exact hz, rfl⟩⟩⟩
          have hz' : ((rr : Int) != 0) = true := by simp; omega
          clear hz
          go_wp2_with fail
          refine hkk.mono ?_
          rintro e w' ⟨rfl, rfl⟩
          go_wp2_with fail
          go_quiet ((go_at_call 25; exact HAQ.out _))
          go_wp2_with fail
          go_ret
          exact ⟨1, rfl, HV.out, hkw.drewN _⟩
end Go.Proofs.Ythmplbklphobaaa
namespace Go.Proofs.Ythmplbklphobaaa
open Go.RowKit
set_option linter.unusedVariables false
set_option linter.unusedSimpArgs false
set_option maxRecDepth 100000

/-- What is known of byte i of each part: of shard u / a, part u % a. -/
def knF (a L : Nat) (ds : Nat → List UInt8) (u i : Nat) : UInt8 := lg (ds (u / a)) ((u % a) * L + i)
theorem knF_at {a L : Nat} (ds : Nat → List UInt8) (i : Nat) {j t : Nat} (ht : t < a) : knF a L ds (j * a + t) i = lg (ds j) (t * L + i) := by
  unfold knF
  have h1 : (j * a + t) / a = j := by rw [Nat.mul_comm, Nat.mul_add_div (by omega), Nat.div_eq_of_lt ht, Nat.add_zero]
  have h2 : (j * a + t) % a = t := by rw [Nat.mul_comm, Nat.mul_add_mod, Nat.mod_eq_of_lt ht]
  rw [h1, h2]
theorem own_part {w : World} {b bx : Nat} {v : Value} {bs : List UInt8} {cs : Array Value} (h : Own w b 5 v bs) (hb : w.heap[bx]? = some (.cells cs 37 (0, 0))) : v.ownBlock ≠ some bx := by
  intro e
  rcases h.2 with ⟨rfl, _⟩ | ⟨g, cap, cur, rfl, _, h1, _⟩
  · cases e
  · injection e with e
    subst e
    rw [show (⟨g, 0, none⟩ : Addr).block = g from rfl] at hb
    rw [h1] at hb
    injection hb with hb
    injection hb with h3 h4
    exact absurd h4 (by decide)
set_option maxHeartbeats 4000000 in
theorem bytesat_any {w : World} {A : Option Addr} {m cp a L i : Nat} {sl : Nat → Int} {ds : Nat → List UInt8} (hP : Prts w A m sl ds) (hl : ∀ j, j < m → (ds j).length = a * L) (ha : 1 ≤ a) (hi : i < L) (hm : m * a ≤ 1000) (haL : a * L ≤ 100000) :
    Calls Try.prog 60 #[.slice A m cp, .int .i64 (L : Int), .int .i64 (i : Int)] w (OwnPost w (rowL (m * a) fun u => knF a L ds u i)) := by
  obtain ⟨i0, hi0, hz0, hz1, hz2⟩ := byte_parts
  have HL := hide hl
  have hLa : L ≤ a * L := by have := Nat.mul_le_mul_right L ha; omega
  have hm1 : m ≤ 1000 := by have := Nat.mul_le_mul_left m ha; omega
  have hL2 : L ≤ 100000 := by omega
  have HM := hide hm
  have HAL := hide haL
  clear hl hm hLa haL
  go_enter Try.func60, Try.ntmps60
  go_wp2_with fail
  go_loopw [7, 13] (fun v jv wr => ∃ (j : Nat) (A' : Option Addr) (r cc : Nat), j ≤ m ∧ jv = .int .i64 (j : Int) ∧ v = .slice A' r cc ∧ Own wr w.heap.size 5 (.slice A' r cc) (rowL (j * a) fun u => knF a L ds u i) ∧ Kp No w wr) (fun _ jv _ => m - (intOf jv).toNat)
  case atStart => exact ⟨0, none, 0, 0, Nat.zero_le _, rfl, rfl, by rw [Nat.zero_mul]; exact Own.nil _ _ _, Kp.refl _ _⟩
  case round =>
    obtain ⟨j, A', r, cc, hj, rfl, rfl, ho, hkw⟩ := hrel
    by_cases hlt : j < m
    · obtain ⟨B, off, A1, r1, c1, rfl, z0, z1, hB⟩ := hP.at_ j hlt
      have hr1 : Hid (r1 = a * L) := by show r1 = a * L; rw [hB.len, HL.out j hlt]
      have y0 := hkw.cell z0 fun f => f
      have y1 := hkw.cell z1 fun f => f
      have HJ : Hid (j * a + a ≤ 1000) := by
        show j * a + a ≤ 1000
        have := Nat.mul_le_mul_right a (show j + 1 ≤ m from hlt)
        rw [Nat.add_mul, Nat.one_mul] at this
        have := HM.out
        omega
      have HK2 : Hid (Kp No w (wr.alloc (.cells #[.int .i64 (sl j), .slice A1 r1 c1] 37))) := hkw.trans' (Kp.alloc No _ _)
      have HO2 := hide (ho.alloc (.cells #[.int .i64 (sl j), .slice A1 r1 c1] 37))
      have HB2 : Hid ((wr.alloc (.cells #[.int .i64 (sl j), .slice A1 r1 c1] 37)).heap[wr.heap.size]? = some (.cells #[.int .i64 (sl j), .slice A1 r1 c1] 37 (0, 0))) := heap_alloc_new wr _
      have hge := hide hkw.size
      clear z0 z1 ho hkw
      go_wp2_with fail
      generalize wr.alloc (.cells #[.int .i64 (sl j), .slice A1 r1 c1] 37) = wb at *
      generalize wr.heap.size = bx at *
      clear y0 y1
      go_loopw [7, 10] (fun v iv wr => ∃ (t I : Nat) (A' : Option Addr) (r cc : Nat), t ≤ a ∧ I ≤ 1000000 ∧ Hid (I = t * L + i) ∧ iv = .int .i64 (I : Int) ∧ v = .slice A' r cc ∧ Own wr w.heap.size 5 (.slice A' r cc) (rowL (j * a + t) fun u => knF a L ds u i) ∧ Hid (wr.heap[bx]? = some (.cells #[.int .i64 (sl j), .slice A1 r1 c1] 37 (0, 0))) ∧ Kp No w wr) (fun _ iv _ => 2000000 - (intOf iv).toNat)
      case atStart => exact ⟨0, i, A', r, cc, Nat.zero_le _, by omega, (by simp : i = 0 * L + i), rfl, rfl, HO2.out, HB2, HK2.out⟩
      case round =>
        clear HO2 HB2 HK2
        obtain ⟨t, I, A', r, cc, ht, hI1, hI, rfl, rfl, ho, hbx, hkw⟩ := hrel
        have x1 : wr.cell? ⟨bx, 1, none⟩ = some (.slice A1 r1 c1) := by rw [cell_of_row wr bx _ _ _ _ hbx.out]; rfl
        by_cases hltt : t < a
        · have hIr : I < r1 := by rw [hI.out, hr1.out]; exact idx_lt hltt hi
          obtain ⟨B1, o1, u, rfl, hu, x2⟩ := (hB.no hkw).at_ hIr
          have hval : Hid (u = knF a L ds (j * a + t) i) := by show u = knF a L ds (j * a + t) i; rw [knF_at ds i hltt, ← hI.out, lg_of hu]
          clear hu
          have hsz := hkw.size
          have hb := bts_new wr u _ rfl
          have ho2 := ho.alloc (.cells #[bv u] 5)
          have hln : (rowL (j * a + t) fun u => knF a L ds u i).length + [u].length ≤ 1000000000 := by have := HJ.out; rw [rowL_len]; simp; omega
          have hI2 : I + L ≤ 1000000 := by have := HAL.out; have := hr1.out; omega
          have HBN := hide (fun w3 (hk : Kp (fun k => (Value.slice A' r cc).ownBlock = some k) (wr.alloc (.cells #[bv u] 5)) w3) => hk.block bx (by have := (Array.getElem?_eq_some_iff.1 hbx.out).1; simp; omega) (own_part ho hbx.out))
          go_wp2_with (first
            | (at_builtin
               refine wpList_app rfl (.tmp 26) (.tmp 32) _ rfl i0 Try.underlying22 hi0 hz0 hz1 hz2 rfl ho2 rfl hb hln (by simp; omega) ?_
               intro A3 n3 c3 w3 ha3))
          go_round
          case rel =>
            refine ⟨t + 1, I + L, A3, n3, c3, by omega, hI2, (by have := hI.out; rw [Nat.add_mul, Nat.one_mul]; omega : I + L = (t + 1) * L + i), by go_num, rfl, ?_, ?_, ha3.keeps ho2 (hkw.trans' (Kp.alloc No _ _))⟩
            · rw [← Nat.add_assoc, rowL_succ, ← hval.out]
              exact ha3.own
            · show w3.heap[bx]? = _
              rw [HBN.out w3 ha3.kp, Below.heap_alloc _ _ _ (Array.getElem?_eq_some_iff.1 hbx.out).1]
              exact hbx.out
          case measure => simp [intOf]; omega
        · obtain rfl : t = a := by omega
          have hIr : r1 ≤ I := by rw [hI.out, hr1.out]; omega
          go_wp2_with fail
          go_round
          case rel => exact ⟨j + 1, A', r, cc, by omega, by go_num, rfl, by rw [Nat.add_mul, Nat.one_mul]; exact ho, hkw⟩
          case measure => simp [intOf]; omega
    · obtain rfl : j = m := by omega
      go_wp2_with fail
      go_ret
      exact ⟨A', r, cc, rfl, ho, hkw⟩
end Go.Proofs.Ythmplbklphobaaa
namespace Go.Proofs.Ythmplbklphobaaa
open Go.RowKit
set_option linter.unusedVariables false
set_option linter.unusedSimpArgs false
set_option maxRecDepth 100000

theorem plc_apart : ∀ a, a < 8 → ∀ j, j < a → ∀ r, r < a + a → ∀ s, s < r → plcF a s j ≠ plcF a r j := by decide +kernel
/-- An equation, as far as it was laid. -/
def eqS (a : Nat) (y : UInt8) (j R p : Nat) : UInt8 := us (fun r => if plcF a r j = p then upw y r else 0) R
theorem eqS_step {a j R : Nat} (y : UInt8) (ha : a < 8) (hj : j < a) (hR : R < a + a) (p : Nat) : upd (eqS a y j R) (plcF a R j) (upw y R) p = eqS a y j (R + 1) p := by
  show _ = eqS a y j R p ^^^ (if plcF a R j = p then upw y R else 0)
  unfold upd
  by_cases e : p = plcF a R j
  · subst e
    rw [if_pos rfl, if_pos rfl]
    unfold eqS
    rw [us_congr (t := fun _ => 0) fun r hr => if_neg (plc_apart a ha j hj R hR r hr), us_zero, zero_ux]
  · rw [if_neg e, if_neg (fun e' => e e'.symm), ux_zero]
theorem eqM_at {a d : Nat} (x : Nat → UInt8) {j t : Nat} (hd : d = a + a) (ht : t < a) : eqM a (plcF a) x (j * a + t) = eqS a (x j) t d := by
  funext p
  unfold eqM eqS
  have h1 : (j * a + t) / a = j := by rw [Nat.mul_comm, Nat.mul_add_div (by omega), Nat.div_eq_of_lt ht, Nat.add_zero]
  have h2 : (j * a + t) % a = t := by rw [Nat.mul_comm, Nat.mul_add_mod, Nat.mod_eq_of_lt ht]
  rw [h1, h2, hd]
theorem RInv.no {w wr w2 : World} {s : Nat → List UInt8} {k : Nat} {v : Value} {vs : List Value} (h : RInv w s k v vs wr) (hk : Kp No wr w2) : RInv w s k v vs w2 := ⟨h.own.no hk, h.len, fun j u hj => (h.row j u hj).no hk, h.kp.trans' hk⟩
/-- Rows come back, by which what is known is multiplied. -/
def InvPost (w : World) (q : Nat) (E : Nat → Nat → UInt8) (e : Ending) (w1 : World) : Prop :=
  ∃ g hv G, e = .returned (.slice (some ⟨g, 0, none⟩) q q) ∧ Grd w1 w.heap.size g q hv (fun j => rowL q (G j)) ∧ EqF q q (mulF q E G) oneF ∧ Kp No w w1

set_option maxHeartbeats 8000000 in
theorem inverse_any {w : World} {c n k a d q : Nat} {x : Nat → UInt8} {A : Option Addr} {cp : Nat} {ss : Nat → Nat} {ds : Nat → List UInt8} (h : CodeAt w c n k x) (hD : Dim n k a d q) (hP : Prts w A k (fun j => (ss j : Int)) ds) (hs : ∀ j, j < k → ss j < n) (hU : Uq k fun j => upw (x (ss j)) a) :
    Calls Try.prog 59 #[cptr c, .slice A k cp] w (InvPost w q (eqM a (plcF a) fun j => x (ss j))) := by
  obtain ⟨hq1, hq2, hq3⟩ := hD.q56
  have ha1 := hD.a1
  have ha7 := hD.a7
  have hk8 : k ≤ 8 := by have := hD.k_; omega
  have hk1 : 1 ≤ k := by have := hD.k_; omega
  have hd14 : d ≤ 14 := by have := hD.d_; omega
  have HDD := hide hD.d_
  have HKQ : Hid (k * a = q) := by show k * a = q; rw [hD.k_, hD.q_]
  have HW : Hid ((redS q (eqM a (plcF a) fun j => x (ss j)) q).rk = q) := by
    have := eqM_whole (plc_ok (a := a) (by omega) ha1) ha1 rfl (x := fun j => x (ss j)) (by rw [← hD.k_]; exact hU)
    rw [← hD.q_] at this
    exact this
  have HS := hide hs
  have HD := hide hD
  have HPL : Hid (∀ r j, r < d → j < a → plcF a r j < q) := fun r j hr hj => plc_lt hD hr hj
  have hcol := columns_any h hD
  clear hs hU hD
  go_enter Try.func59, Try.ntmps59
  go_wp2_with fail
  refine hcol.mono ?_
  rintro e w1 ⟨gc, cpc, bl, rfl, hG, hkc⟩
  clear hcol
  go_wp2_with fail
  go_loopw [5, 23] (fun v jv wr => ∃ (j : Nat) (A' : Option Addr) (r cc : Nat) (vs : List Value), j ≤ k ∧ jv = .int .i64 (j : Int) ∧ v = .slice A' r cc ∧ RInv w1 (fun t => rowL q (eqM a (plcF a) (fun j => x (ss j)) t)) (j * a) (.slice A' r cc) vs wr) (fun _ jv _ => k - (intOf jv).toNat)
  case atStart => exact ⟨0, none, 0, 0, [], Nat.zero_le _, rfl, rfl, by rw [Nat.zero_mul]; exact ⟨OwnV.nil _ _, rfl, (fun j u hj => by simp at hj), Kp.refl _ _⟩⟩
  case round =>
    obtain ⟨j, A', r, cc, vs, hj, rfl, rfl, hI⟩ := hrel
    by_cases hlt : j < k
    · obtain ⟨B, off, A1, r1, c1, rfl, z0, z1, hB⟩ := (hP.no (hkc.trans' hI.kp)).at_ j hlt
      have hkb : Kp No wr (wr.alloc (.cells #[.int .i64 (ss j : Int), .slice A1 r1 c1] 37)) := Kp.alloc No _ _
      have hrow := rowo_in (h.no ((hkc.trans' hI.kp).trans' hkb)) HD.out (ss j) (HS.out j hlt)
      have hI2 := hI.no hkb
      clear hB
      go_wp2_with fail
      refine hrow.mono ?_
      rintro e w2 ⟨A5, n5, c5, rfl, ho5, hk5⟩
      obtain rfl : d = n5 := by rw [ho5.len, rowL_len]
      have hI3 := hI2.no hk5
      have hge5 : w1.heap.size ≤ (wr.alloc (.cells #[.int .i64 (ss j : Int), .slice A1 r1 c1] 37)).heap.size := hI2.kp.size
      have ho6 := ho5.rebase (b := w1.heap.size) fun q hq => Nat.le_trans hge5 (ho5.ge q hq)
      clear hrow hI hI2 ho5 hge5 z0 z1 hkb hk5
      go_wp2_with fail
      go_loopw [5, 33] (fun v tv wr => ∃ (t : Nat) (A' : Option Addr) (r cc : Nat) (vs : List Value), t ≤ a ∧ tv = .int .i64 (t : Int) ∧ v = .slice A' r cc ∧ RInv w1 (fun t => rowL q (eqM a (plcF a) (fun j => x (ss j)) t)) (j * a + t) (.slice A' r cc) vs wr ∧ Own wr w1.heap.size 5 (.slice A5 d c5) (rowL d (upw (x (ss j))))) (fun _ tv _ => a - (intOf tv).toNat)
      case atStart => exact ⟨0, A', r, cc, vs, Nat.zero_le _, rfl, rfl, hI3, ho6⟩
      case round =>
        clear hI3 ho6
        obtain ⟨t, A', r, cc, vs, ht, rfl, rfl, hI, ho⟩ := hrel
        by_cases hltt : t < a
        · obtain ⟨wB, rfl⟩ : ∃ wB, wB = wr := ⟨_, rfl⟩
          have zc0 := (hG.no hI.kp).outer hltt
          have hmk := make_bytes wB q (q : Int) rfl (by omega)
          have hst := row_new wB q (by omega)
          have hk0 : Kp No wB (wB.alloc (.cells (zc q) 5)) := Kp.alloc No _ _
          have hqq := qq_any (h.no (hkc.trans' hI.kp)) HD.out
          obtain ⟨g, hg⟩ : ∃ g, g = wB.heap.size := ⟨_, rfl⟩
          have HEQ : Hid (eqM a (plcF a) (fun j => x (ss j)) (j * a + t) = eqS a (x (ss j)) t d) := eqM_at (fun j => x (ss j)) HDD.out hltt
          go_wp2_with fail
          refine hqq.mono ?_
          rintro e w' ⟨rfl, rfl⟩
          go_wp2_with fail
          rw [← hg] at hst ⊢
          have HGG := hide hg
          clear hg hmk hqq zc0
          go_loopw [42] (fun Rv wr => ∃ R : Nat, R ≤ d ∧ Rv = .int .i64 (R : Int) ∧ RowAt wr g g q q (eqS a (x (ss j)) t R) ∧ Kp No wB wr) (fun Rv _ => d - (intOf Rv).toNat)
          case atStart => exact ⟨0, Nat.zero_le _, rfl, hst, hk0⟩
          case round =>
            clear hst hk0
            obtain ⟨R, hR, rfl, hRow, hkw⟩ := hrel
            by_cases hltR : R < d
            · have y1 := ((hG.no hI.kp).no hkw).cell hltt hltR
              obtain ⟨B5, o5, rfl, y2⟩ := (ho.bts.no hkw).cell hltR
              have hp := HPL.out R t hltR hltt
              have y3 := hRow.cell hp
              have y4 := hRow.frozen (plcF a R t)
              have HN := hide ((hRow.set hp (upw (x (ss j)) R) _ rfl).eq fun p _ => eqS_step (x (ss j)) (by omega) hltt (by rw [← HDD.out]; exact hltR) p)
              have HKN : Hid (Kp No wB (wr.setCell ⟨g, plcF a R t, none⟩ (bv (upw (x (ss j)) R)))) := hkw.trans ((RowAt.kpset g (plcF a R t) (bv (upw (x (ss j)) R)) wr).mono fun q hq => .inr (by rw [hq, HGG.out]; exact Nat.le_refl _))
              clear hRow hkw
              generalize plcF a R t = z at *
              go_wp2_with fail
              go_round
              case rel => exact ⟨R + 1, by omega, by go_num, HN.out, HKN.out⟩
              case measure => simp [intOf]; omega
            · obtain rfl : R = d := by omega
              have hRow' : Own wr g 5 (.slice (some ⟨g, 0, none⟩) q q) (rowL q (eqM a (plcF a) (fun j => x (ss j)) (j * a + t))) := by rw [HEQ.out]; exact hRow
              have hlen : vs.length ≤ 1000000 := by
                rw [hI.len]
                have h5 := Nat.mul_le_mul (show j ≤ 8 by omega) (show a ≤ 7 by omega)
                omega
              have hgw : w1.heap.size ≤ g := by rw [HGG.out]; exact hI.kp.size
              have hgw2 := hkw.size
              have hgw3 := hI.kp.size
              have ho2 : OwnV (wr.alloc (.cells #[.slice (some ⟨g, 0, none⟩) q q] 22)) w1.heap.size (.slice A' r cc) vs := (hI.own.no hkw).no (Kp.alloc No _ _)
              have ho3 := (ho.no hkw).alloc (.cells #[.slice (some ⟨g, 0, none⟩) q q] 22)
              clear hRow HEQ
              go_wp2_with (first
                | (at_builtin
                   refine wpList_appV rfl (.tmp 55) (.tmp 57) _ rfl Try.underlying39 rfl ho2 _ rfl (fresh_cell _ _ _) rfl rfl hlen ?hs ?_
                   case hs => simp; omega
                   intro A3 n3 c3 w3 ha))
              go_round
              case rel => exact ⟨t + 1, A3, n3, c3, _, by omega, by go_num, rfl, hI.step hkw hRow' hgw ha, ho3.keep ha.kp fun q hq => own_apart ho3 ho2 hq⟩
              case measure => simp [intOf]; omega
        · obtain rfl : t = a := by omega
          have e : j * t + t = (j + 1) * t := by rw [Nat.add_mul, Nat.one_mul]
          rw [e] at hI
          clear e
          go_wp2_with fail
          go_round
          case rel => exact ⟨j + 1, A', r, cc, vs, by omega, by go_num, rfl, hI⟩
          case measure => simp [intOf]; omega
    · obtain rfl : j = k := by omega
      have hI2 := hI
      rw [HKQ.out] at hI2
      obtain rfl : q = r := by rw [hI2.own.len, hI2.len]
      have hRws := hI2.rws (bss := matL q q (eqM a (plcF a) fun j => x (ss j))) (matL_len _ _ _) fun t ht => matL_get _ ht
      have hof := of_yes (cp := cc) hRws (matL_rect (eqM a (plcF a) fun j => x (ss j)) (by omega) (by omega) (by omega) (by omega))
      have HW2 : Hid ((redS q (fnL (matL q q (eqM a (plcF a) fun j => x (ss j)))) q).rk = q) := (redS_congr (fnL_matL (eqM a (plcF a) fun j => x (ss j))) q (Nat.le_refl _)).1.trans HW.out
      have hk2 := hkc.trans' hI.kp
      have HEQ : Hid (EqF q q (fnL (matL q q (eqM a (plcF a) fun j => x (ss j)))) (eqM a (plcF a) fun j => x (ss j))) := fnL_matL _
      clear hI hI2 hRws
      go_wp2_with fail
      refine hof.mono ?_
      rintro e w2 ⟨M, rfl, hM, _, _, hk3⟩
      have hinv := invert_any hM
      clear hof
      go_wp2_with fail
      refine hinv.mono ?_
      rintro e w3 hsol
      rcases hsol with ⟨hbad, _⟩ | ⟨hgood, M2, rfl, hM2, _, _, hk4⟩
      · exact absurd HW2.out (by omega)
      have hkw := (hk2.trans' hk3).trans' hk4
      have HMul : Hid (EqF q q (mulF q (eqM a (plcF a) fun j => x (ss j)) (offF q (redS q (catF q (fnL (matL q q (eqM a (plcF a) fun j => x (ss j)))) oneF) q).f)) oneF) := by
        have h5 := solve_eq (m := q) (fnL (matL q q (eqM a (plcF a) fun j => x (ss j)))) oneF ((redS_congr (catF_left q _ _ q) q (Nat.le_refl _)).1.trans hgood)
        exact (mulF_congr (EqF.symm HEQ.out) (EqF.refl q q _)).trans h5
      generalize offF q (redS q (catF q (fnL (matL q q (eqM a (plcF a) fun j => x (ss j)))) oneF) q).f = G at *
      clear hgood hinv HW2 HEQ hM
      have hqq := qq_any (h.no hkw) HD.out
      have hmk := make_rows w3 q (q : Int) rfl (by omega)
      go_wp2_with fail
      refine hqq.mono ?_
      rintro e w' ⟨rfl, rfl⟩
      go_wp2_with fail
      obtain ⟨g, hg⟩ : ∃ g, g = w3.heap.size := ⟨_, rfl⟩
      have hR0 : RoI w3 g q q G 0 (w3.alloc (.cells (zr q) 22)) := by
        rw [hg]
        exact ⟨⟨fun _ => .slice none 0 0, ⟨zr q, heap_alloc_new w3 _, fun j hj => zr_get hj⟩, fun j hj => absurd hj (Nat.not_lt_zero _), fun i j hi => absurd hi (Nat.not_lt_zero _)⟩, Kp.alloc No _ _⟩
      rw [← hg]
      have HG3 := hide hg
      clear hg hmk hqq
      go_loopw [76] (fun pv wr => ∃ p : Nat, p ≤ q ∧ pv = .int .i64 (p : Int) ∧ RoI w3 g q q G p wr) (fun pv _ => q - (intOf pv).toNat)
      case atStart => exact ⟨0, Nat.zero_le _, rfl, hR0⟩
      case round =>
        clear hR0
        obtain ⟨p, hp, rfl, hRo⟩ := hrel
        by_cases hltp : p < q
        · go_wp2_with fail
          refine (rowc_in (hM2.no hRo.kp) p hltp).mono ?_
          rintro e w4 ⟨A6, n6, c6, rfl, ho6, hk6⟩
          obtain ⟨hv, hout, _⟩ := hRo.ex
          have y1 := (hout.keep hk6 fun f => f).cell hltp
          have y2 := (hout.keep hk6 fun f => f).frozen p
          have HN := hide (hRo.step (Nat.le_of_eq HG3.out.symm) hltp (by omega) (Nat.le_refl _) ho6 hk6)
          clear hRo hout
          go_wp2_with fail
          go_round
          case rel => exact ⟨p + 1, by omega, by go_num, HN.out⟩
          case measure => simp [intOf]; omega
        · obtain rfl : p = q := by omega
          obtain ⟨hv, hout, hrows, _⟩ := hRo.ex
          have hkp := hRo.kp
          clear hRo
          go_wp2_with fail
          go_ret
          exact ⟨g, hv, G, rfl, ⟨hout, fun i hi => (hrows i hi).rebase fun b hb => Nat.le_trans hkw.size ((hrows i hi).ge b hb), by rw [HG3.out]; exact hkw.size⟩, HMul.out, hkw.trans' hkp⟩
end Go.Proofs.Ythmplbklphobaaa
namespace Go.Proofs.Ythmplbklphobaaa
open Go.RowKit
set_option linter.unusedVariables false
set_option linter.unusedSimpArgs false
set_option maxRecDepth 100000

theorem Prts.eq {w : World} {A : Option Addr} {m : Nat} {sl sl' : Nat → Int} {ds : Nat → List UInt8} (h : Prts w A m sl ds) (he : ∀ j, j < m → sl j = sl' j) : Prts w A m sl' ds :=
  ⟨fun j hj => by rw [← he j hj]; exact h.at_ j hj⟩
/-- What was reckoned ahead of part p of byte i. -/
def decP (L : Nat) (f : Nat → UInt8) (i p t : Nat) : UInt8 := if t % L < i ∨ (t % L = i ∧ t / L < p) then f t else 0
theorem decP_step {L i : Nat} (hi : i < L) (f : Nat → UInt8) (p t : Nat) : upd (decP L f i p) (p * L + i) (f (p * L + i)) t = decP L f i (p + 1) t := by
  have h1 : (p * L + i) / L = p := by rw [Nat.mul_comm, Nat.mul_add_div (by omega), Nat.div_eq_of_lt hi, Nat.add_zero]
  have h2 : (p * L + i) % L = i := by rw [Nat.mul_comm, Nat.mul_add_mod, Nat.mod_eq_of_lt hi]
  unfold upd
  by_cases e : t = p * L + i
  · subst e
    rw [if_pos rfl]
    unfold decP
    rw [if_pos (.inr ⟨h2, by rw [h1]; omega⟩)]
  · rw [if_neg e]
    have key : ¬ (t % L = i ∧ t / L = p) := fun hx => e (by
      have := Nat.div_add_mod t L
      rw [hx.1, hx.2, Nat.mul_comm] at this
      exact this.symm)
    unfold decP
    by_cases e2 : t % L < i ∨ (t % L = i ∧ t / L < p)
    · rw [if_pos e2, if_pos (by omega)]
    · rw [if_neg e2, if_neg (by omega)]
theorem decP_turn {L q : Nat} (f : Nat → UInt8) (i : Nat) {t : Nat} (ht : t < q * L) : decP L f i q t = decP L f (i + 1) 0 t := by
  have hq : t / L < q := Nat.div_lt_of_lt_mul (by rw [Nat.mul_comm]; exact ht)
  unfold decP
  generalize t / L = s at hq ⊢
  generalize t % L = r
  by_cases e : r < i + 1
  · rw [if_pos (by omega), if_pos (by omega)]
  · rw [if_neg (by omega), if_neg (by omega)]
theorem decP_zero {L : Nat} (f : Nat → UInt8) (t : Nat) : decP L f 0 0 t = 0 := if_neg (by rintro (h | ⟨_, h⟩) <;> exact absurd h (Nat.not_lt_zero _))
theorem decP_done {L : Nat} (hL : 0 < L) (f : Nat → UInt8) (t : Nat) : decP L f L 0 t = f t := by
  unfold decP
  rw [if_pos (.inl (Nat.mod_lt _ hL))]
theorem row_big (w : World) (L : Nat) (hL : L ≤ 1000000) : RowAt (w.alloc (.cells (zc L) 5)) w.heap.size w.heap.size L L fun _ => 0 :=
  Own.mk (heap_alloc_new w _) (by rw [rowL_len]) (Nat.le_refl _) (by simp only [maxLen]; omega) (zc_size L) (Nat.le_refl _) fun k y hk => by
    have hkl : k < L := by have := (List.getElem?_eq_some_iff.1 hk).1; rwa [rowL_len] at this
    rw [rowL_get _ hkl] at hk
    injection hk with hk
    subst hk
    exact zc_get hkl
theorem uq_slots {n k a : Nat} {x : Nat → UInt8} {ss : Nat → Nat} (hU : Uq n fun i => upw (x i) a) (h1 : ∀ j, j < k → ss j < n) (h2 : ∀ i j, i < j → j < k → ss i ≠ ss j) : Uq k fun j => upw (x (ss j)) a := fun i j hj hi e => by
  have h3 := h2 j i hj hi
  rcases Nat.lt_or_ge (ss j) (ss i) with g | g
  · exact hU (ss i) (ss j) g (h1 i hi) e
  · exact hU (ss j) (ss i) (by omega) (h1 j (by omega)) e.symm
/-- A message comes back, whose shards these are. -/
def MsgPost (w : World) (a q L W : Nat) (E : Nat → Nat → UInt8) (ds : Nat → List UInt8) (e : Ending) (w1 : World) : Prop :=
  ∃ (X : Nat → Nat → UInt8) (A' : Option Addr) (r cc : Nat), e = .returned (.tuple #[.slice A' r cc, .int .i64 0]) ∧ Own w1 w.heap.size 5 (.slice A' r cc) (rowL W fun t => X (t / L) (t % L)) ∧ EqF q L (mulF q E X) (knF a L ds) ∧ Kp No w w1
theorem dec_nil (w : World) : Calls Try.prog 40 #[.pointer none, .slice none 0 0] w fun e w' => e = .returned (.tuple #[.slice none 0 0, .int .i64 1]) ∧ w = w' := by
  go_enter Try.func40, Try.ntmps40
  go_wp2_with fail
  refine (check_nil w _).mono ?_
  rintro e w' ⟨rfl, rfl⟩
  go_wp2_with fail
  go_ret2
  exact ⟨rfl, rfl⟩
section
variable {w : World} {c n k a d q m cp : Nat} {x : Nat → UInt8} {A : Option Addr} {sl : Nat → Int} {ds : Nat → List UInt8}
/-- An error comes back. -/
def ErrPost (w : World) (z : Int) (e : Ending) (w1 : World) : Prop := e = .returned (.tuple #[.slice none 0 0, .int .i64 z]) ∧ Kp No w w1
theorem dec_err (h : CodeAt w c n k x) (hD : Dim n k a d q) (hP : Prts w A m sl ds) (hm : m ≤ 1000) (z : Int) (hz : ∀ y, CkV n k a m sl ds y → y = z) (h0 : z ≠ 0) : Calls Try.prog 40 #[cptr c, .slice A m cp] w (ErrPost w z) := by
  have hck := check_any (cp := cp) h hD hP hm
  have hz0 : (z != 0) = true := by simpa using h0
  have HZ := hide hz
  clear hz h0 hD hP
  go_enter Try.func40, Try.ntmps40
  go_wp2_with fail
  refine hck.mono ?_
  rintro e w1 ⟨y, rfl, hV, hk⟩
  have := HZ.out y hV
  subst this
  go_wp2_with fail
  go_ret2
  exact ⟨rfl, hk⟩
set_option maxHeartbeats 8000000 in
theorem dec_ok {ss : Nat → Nat} {L W : Nat} (h : CodeAt w c n k x) (hD : Dim n k a d q) (hX : Pts n a x) (hP : Prts w A m sl ds) (hm : m ≤ 1000) (hcp : m ≤ cp) (hkm : k ≤ m) (hgood : ∀ j, j < m → PGood n sl ds j) (hs : ∀ j, j < m → sl j = (ss j : Int)) (hL : (ds 0).length = a * L) (hWe : W = q * L) (hWb : W ≤ 100000) :
    Calls Try.prog 40 #[cptr c, .slice A m cp] w (MsgPost w a q L W (eqM a (plcF a) fun j => x (ss j)) ds) := by
  have hck := check_any (cp := cp) h hD hP hm
  obtain ⟨hq1, hq2, hq3⟩ := hD.q56
  have ha1 := hD.a1
  have ha7 := hD.a7
  have hk1 : 1 ≤ k := by have := hD.k_; omega
  have hk8 : k ≤ 8 := by have := hD.k_; omega
  have hmp : 0 < m := by omega
  have hlen : ∀ j, j < k → (ds j).length = a * L := fun j hj => by rw [(hgood j (by omega)).2.2.2, hL]
  have hL1 : 1 ≤ L := by
    rcases Nat.eq_zero_or_pos L with e | e
    · have := (hgood 0 hmp).2.2.1
      rw [hL, e, Nat.mul_zero] at this
      exact absurd rfl this
    · exact e
  have haL : a * L ≤ 100000 := Nat.le_trans (Nat.mul_le_mul_right L hq3) (by omega)
  have hLb : L ≤ 100000 := by have := Nat.mul_le_mul_right L ha1; omega
  have hV0 : ∀ y, CkV n k a m sl ds y → y = 0 := fun y hy => by
    rcases hy with ⟨⟨j, hj, hb⟩, _⟩ | ⟨_, ⟨hf, _⟩ | ⟨_, ⟨hf, _⟩ | ⟨_, hy⟩⟩⟩
    · exact absurd (hgood j hj) hb
    · omega
    · rw [hL, Nat.mul_mod_right] at hf
      exact absurd rfl hf
    · exact hy
  have hsn : ∀ j, j < k → ss j < n := fun j hj => by
    have h1 := (hgood j (by omega)).1
    have h2 := hs j (by omega)
    omega
  have hne : ∀ i j, i < j → j < k → ss i ≠ ss j := fun i j hi hj e => by
    have h1 := (hgood j (by omega)).2.1 i hi
    rw [hs i (by omega), hs j (by omega), e] at h1
    exact h1 rfl
  have hPk : Prts w A k (fun j => (ss j : Int)) ds := (hP.less hkm).eq fun j hj => hs j (by omega)
  obtain ⟨B, off, A0, r0, c0, rfl, _, z00, hB0⟩ := hP.at_ 0 hmp
  rw [Nat.zero_mul, Nat.add_zero] at z00
  have hr0 : r0 = a * L := by rw [hB0.len, hL]
  have hd1 : (r0 : Int) / (a : Int) = (L : Int) := by rw [hr0, Int.natCast_mul, Int.mul_ediv_cancel_left _ (by omega)]
  have hd2 : (r0 : Int).tdiv (a : Int) = (L : Int) := by rw [Int.tdiv_eq_ediv_of_nonneg (by omega), hd1]
  have hWi : (q : Int) * (L : Int) = (W : Int) := by rw [hWe, Int.natCast_mul]
  have hkq : k * a = q := by rw [hD.k_, hD.q_]
  have hka : k * a ≤ 1000 := by omega
  have hinv := fun w' (hk : Kp No w w') => inverse_any (cp := cp) (h.no hk) hD (hPk.no hk) hsn (uq_slots hX.uq hsn hne)
  have hby := fun w' (hk : Kp No w w') i (hi : i < L) => bytesat_any (cp := cp) (hPk.no hk) hlen ha1 hi hka haL
  rw [hkq] at hby
  have HV0 := hide hV0
  have HINV := hide hinv
  have HBY := hide hby
  have HWE := hide hWe
  have HD := hide hD
  have HWI := hide hWi
  have HD1 := hide hd1
  have HD2 := hide hd2
  clear hV0 hinv hby hWe hD hX hsn hne hlen hgood hs hL hP hPk hB0 hr0 hkq hka hWi hd1 hd2
  go_enter Try.func40, Try.ntmps40
  go_wp2_with fail
  refine hck.mono ?_
  rintro e w1 ⟨y, rfl, hV, hk⟩
  have := HV0.out y hV
  subst this
  clear hV hck
  go_wp2_with fail
  refine (kk_any (h.no hk)).mono ?_
  rintro e w' ⟨rfl, rfl⟩
  have y00 := hk.cell z00 fun f => f
  have hC1 := h.no hk
  have hd1 := HD1.out
  have hd2 := HD2.out
  go_wp2_with fail
  go_quiet ((go_at_call 25; exact aa_q hC1 HD.out _))
  go_wp2_with fail
  clear hd1 hd2
  generalize hgen : World.drewN w1 _ = w2
  have hk2 : Kp No w w2 := hk.trans' (hgen ▸ (Sm.drewN w1 _).kp)
  clear hgen hC1 y00
  refine (HINV.out w2 hk2).mono ?_
  rintro e w3 ⟨g, hv, G, rfl, hG, hE, hk3⟩
  have hk3' := hk2.trans' hk3
  have hqq := qq_any (h.no hk3') HD.out
  have hmk := make_bytes w3 W (W : Int) rfl (by omega)
  have hWi := HWI.out
  go_wp2_with fail
  refine hqq.mono ?_
  rintro e w' ⟨rfl, rfl⟩
  go_wp2_with fail
  clear hWi hmk hqq
  have hst := row_big w3 W (by omega)
  have hk0 : Kp No w3 (w3.alloc (.cells (zc W) 5)) := Kp.alloc No _ _
  obtain ⟨gb, hgb⟩ : ∃ gb, gb = w3.heap.size := ⟨_, rfl⟩
  rw [← hgb] at hst ⊢
  have HGB := hide hgb
  have HE := hide hE
  clear hgb hE
  go_loopw [41] (fun iv wr => ∃ i : Nat, i ≤ L ∧ iv = .int .i64 (i : Int) ∧ RowAt wr gb gb W W (decP L (fun t => ud (G (t / L)) (fun u => knF a L ds u (t % L)) q) i 0) ∧ Kp No w3 wr) (fun iv _ => L - (intOf iv).toNat)
  case atStart => exact ⟨0, Nat.zero_le _, rfl, hst.eq fun t _ => (decP_zero _ t).symm, hk0⟩
  case round =>
    clear hst hk0
    obtain ⟨i, hi, rfl, hR, hkw⟩ := hrel
    by_cases hlt : i < L
    · go_wp2_with fail
      refine (HBY.out wr (hk3'.trans' hkw) i hlt).mono ?_
      rintro e w5 ⟨A5, n5, c5, rfl, ho5, hk5⟩
      have hkw5 := hkw.trans' hk5
      have hR5 := hR.no hk5
      have hsz := hkw.size
      have hge5 : Hid (gb < wr.heap.size) := by
        obtain ⟨_, h1, _⟩ := Own.block hR
        exact (Array.getElem?_eq_some_iff.1 h1).1
      have ho6 := ho5.rebase (b := gb + 1) fun b hb => Nat.le_trans hge5.out (ho5.ge b hb)
      clear ho5 hk5 hkw hR
      go_wp2_with fail
      go_loopw [50] (fun pv wr => ∃ p : Nat, p ≤ q ∧ pv = .int .i64 (p : Int) ∧ RowAt wr gb gb W W (decP L (fun t => ud (G (t / L)) (fun u => knF a L ds u (t % L)) q) i p) ∧ Own wr (gb + 1) 5 (.slice A5 n5 c5) (rowL q fun u => knF a L ds u i) ∧ Kp No w3 wr) (fun pv _ => q - (intOf pv).toNat)
      case atStart => exact ⟨0, Nat.zero_le _, rfl, hR5, ho6, hkw5⟩
      case round =>
        clear hR5 ho6 hkw5
        obtain ⟨p, hp, rfl, hR, ho, hkw⟩ := hrel
        by_cases hltp : p < q
        · obtain ⟨b1, c1, e1, _, hR1, _, _⟩ := (hG.no hkw).at_ (by omega) hltp
          have x1 := (hG.no hkw).out.cell hltp
          rw [e1] at x1
          have hdot := dot_any hR1.bts ho.bts q (by rw [rowL_len, rowL_len]; omega) (by rw [rowL_len]; omega) (by rw [rowL_len]; omega)
          obtain ⟨T, hT⟩ : ∃ T, T = p * L + i := ⟨_, rfl⟩
          have hTW : T < W := by rw [hT, HWE.out]; exact idx_lt hltp hlt
          have HVal : Hid (ud (lg (rowL q (G p))) (lg (rowL q fun u => knF a L ds u i)) q = (fun t => ud (G (t / L)) (fun u => knF a L ds u (t % L)) q) T) := by
            show ud (lg (rowL q (G p))) (lg (rowL q fun u => knF a L ds u i)) q = ud (G (T / L)) (fun u => knF a L ds u (T % L)) q
            have h1 : T / L = p := by rw [hT, Nat.mul_comm, Nat.mul_add_div (by omega), Nat.div_eq_of_lt hlt, Nat.add_zero]
            have h2 : T % L = i := by rw [hT, Nat.mul_comm, Nat.mul_add_mod, Nat.mod_eq_of_lt hlt]
            rw [h1, h2]
            exact ud_congr (fun u hu => lg_rowL _ hu) fun u hu => lg_rowL (fun u => knF a L ds u i) hu
          obtain ⟨yy, hyy⟩ : ∃ yy, yy = p * L := ⟨_, rfl⟩
          have hyi : (p : Int) * (L : Int) = (yy : Int) := by rw [hyy, Int.natCast_mul]
          have hyT : Hid (T = yy + i) := by show T = yy + i; rw [hT, hyy]
          have HT := hide hT
          have hyW : yy + i < W := by have := hyT.out; omega
          clear hT hyy e1
          go_wp2_with fail
          clear hyi
          refine hdot.mono ?_
          rintro e w6 ⟨rfl, hs6⟩
          rw [HVal.out]
          have hR6 := hR.no hs6.kp
          have x3 := hR6.cell hyW
          have x4 := hR6.frozen (yy + i)
          have hstep : ∀ t, upd (decP L (fun t => ud (G (t / L)) (fun u => knF a L ds u (t % L)) q) i p) T (ud (G (T / L)) (fun u => knF a L ds u (T % L)) q) t = decP L (fun t => ud (G (t / L)) (fun u => knF a L ds u (t % L)) q) i (p + 1) t := by
            rw [HT.out]
            exact fun t => decP_step hlt (fun t => ud (G (t / L)) (fun u => knF a L ds u (t % L)) q) p t
          have HN := hide ((hR6.set hTW (ud (G (T / L)) (fun u => knF a L ds u (T % L)) q) _ rfl).eq fun t _ => hstep t)
          clear hstep
          have HON := hide (fun v => (ho.no hs6.kp).keep (RowAt.kpset gb T v w6) fun b hb e => by have := ho.ge b hb; omega)
          have HKN := hide (fun v => (hkw.trans' hs6.kp).trans ((RowAt.kpset gb T v w6).mono fun b hb => .inr (by rw [hb, HGB.out]; exact Nat.le_refl _)))
          rw [hyT.out] at HN HON HKN ⊢
          clear hdot hR hR6 ho hkw
          go_wp2_with fail
          go_round
          case rel => exact ⟨p + 1, by omega, by go_num, HN.out, HON.out _, HKN.out _⟩
          case measure => simp [intOf]; omega
        · obtain rfl : p = q := by omega
          have hR2 := hR.eq fun t ht => decP_turn (fun t => ud (G (t / L)) (fun u => knF a L ds u (t % L)) p) i (by rw [← HWE.out]; exact ht)
          clear hR
          go_wp2_with fail
          go_round
          case rel => exact ⟨i + 1, by omega, by go_num, hR2, hkw⟩
          case measure => simp [intOf]; omega
    · obtain rfl : i = L := by omega
      have hR2 := hR.eq fun t ht => decP_done (show 0 < i by omega) (fun t => ud (G (t / i)) (fun u => knF a i ds u (t % i)) q) t
      have HX : Hid (EqF q i (mulF q (eqM a (plcF a) fun j => x (ss j)) (mulF q G (knF a i ds))) (knF a i ds)) := fun u v hu hv => by
        rw [← mulF_assoc]
        exact (mulF_congr HE.out (EqF.refl q i _) u v hu hv).trans (mulF_one (c := i) (knF a i ds) u v hu hv)
      clear hR
      go_wp2_with fail
      go_ret2
      exact ⟨mulF q G (knF a i ds), _, _, _, rfl, (show Own _ _ _ _ _ from hR2).rebase fun b hb => by injection hb with hb; rw [← hb, HGB.out]; exact hk3'.size, HX.out, hk3'.trans' hkw⟩
end
end Go.Proofs.Ythmplbklphobaaa
namespace Go.Proofs.Ythmplbklphobaaa
open Go.RowKit
set_option linter.unusedVariables false
set_option linter.unusedSimpArgs false
set_option maxRecDepth 100000

/-- Two rows side by side. -/
def ctF (q : Nat) (f h : Nat → UInt8) (p : Nat) : UInt8 := if p < q then f p else h (p - q)
theorem ctF_set {q : Nat} {f f' h : Nat → UInt8} {z : Nat} {v : UInt8} (hz : z < q) (hs : ∀ p, upd f z v p = f' p) (p : Nat) : upd (ctF q f h) z v p = ctF q f' h p := by
  rw [show ctF q f' h p = if p < q then f' p else h (p - q) from rfl, ← hs p]
  unfold upd ctF
  by_cases e : p = z
  · subst e
    rw [if_pos rfl, if_pos hz, if_pos rfl]
  · rw [if_neg e, if_neg e]
theorem ctF_out {q i : Nat} (f : Nat → UInt8) (t : Nat → UInt8) (p : Nat) : upd (ctF q f (upS t (fun _ => 0) i)) (q + i) (t i) p = ctF q f (upS t (fun _ => 0) (i + 1)) p := by
  unfold upd ctF upS
  by_cases e : p = q + i
  · subst e
    rw [if_pos rfl, if_neg (by omega), show q + i - q = i by omega, if_pos (by omega)]
  · rw [if_neg e]
    by_cases e2 : p < q
    · rw [if_pos e2, if_pos e2]
    · rw [if_neg e2, if_neg e2]
      by_cases e3 : p - q < i
      · rw [if_pos e3, if_pos (by omega)]
      · rw [if_neg e3, if_neg (by omega)]
/-- As ref's equations are laid: what stands there, and one more. -/
theorem eqS_xor {a j R : Nat} (y : UInt8) (p : Nat) : upd (eqS a y j R) (plcF a R j) (ux (eqS a y j R (plcF a R j)) (upw y R)) p = eqS a y j (R + 1) p := by
  show _ = eqS a y j R p ^^^ (if plcF a R j = p then upw y R else 0)
  unfold upd
  by_cases e : p = plcF a R j
  · subst e
    rw [if_pos rfl, if_pos rfl]
    rfl
  · rw [if_neg e, if_neg (fun e' => e e'.symm), ux_zero]
theorem rowL_app (n m : Nat) (f g h : Nat → UInt8) (h1 : ∀ t, t < n → h t = f t) (h2 : ∀ t, t < m → h (n + t) = g t) : rowL n f ++ rowL m g = rowL (n + m) h := by
  refine List.ext_getElem? fun t => ?_
  by_cases e : t < n
  · rw [List.getElem?_append_left (by rw [rowL_len]; exact e), rowL_get _ e, rowL_get _ (by omega), h1 t e]
  · rw [List.getElem?_append_right (by rw [rowL_len]; omega), rowL_len]
    by_cases e2 : t < n + m
    · rw [rowL_get _ (by omega), rowL_get _ e2, ← h2 (t - n) (by omega), show n + (t - n) = t by omega]
    · rw [List.getElem?_eq_none (by rw [rowL_len]; omega), List.getElem?_eq_none (by rw [rowL_len]; omega)]
/-- A message comes back, whose shards these are. -/
def MsgRPost (w : World) (a q L W : Nat) (E : Nat → Nat → UInt8) (ds : Nat → List UInt8) (e : Ending) (w1 : World) : Prop :=
  ∃ (X : Nat → Nat → UInt8) (A' : Option Addr) (r cc : Nat), e = .returned (.slice A' r cc) ∧ Own w1 w.heap.size 5 (.slice A' r cc) (rowL W fun t => X (t / L) (t % L)) ∧ EqF q L (mulF q E X) (knF a L ds) ∧ Kp No w w1

set_option maxHeartbeats 16000000 in
theorem rdec_any {w : World} {n k a d q L W : Nat} {x : Nat → UInt8} {Bs os ms cs : Nat} {Ad : Option Addr} {md cd : Nat} {ss : Nat → Nat} {dl : List (List UInt8)} {ds : Nat → List UInt8} (hD : Dim n k a d q) (hX : Pts n a x)
    (hsl : ∀ j, j < k → w.cell? ⟨Bs, os + j, none⟩ = some (.int .i64 (ss j : Int))) (hks : k ≤ ms) (hsh : Rws w Ad md dl) (hkd : k ≤ md) (hdl : ∀ j, j < k → dl[j]? = some (ds j)) (hlen : ∀ j, j < k → (ds j).length = a * L) (hsn : ∀ j, j < k → ss j < n) (hU : Uq k fun j => upw (x (ss j)) a)
    (hL1 : 1 ≤ L) (hL2 : L ≤ 60) (hq12 : q ≤ 12) (hW : W = q * L) :
    Calls Try.prog 19 #[.int .i64 (n : Int), .int .i64 (k : Int), .slice (some ⟨Bs, os, none⟩) ms cs, .slice Ad md cd] w (MsgRPost w a q L W (eqM a (plcF a) fun j => x (ss j)) ds) := by
  obtain ⟨i0, hi0, hz0, hz1, hz2⟩ := byte_parts
  obtain ⟨hq1, hq2, hq3⟩ := hD.q56
  have ha1 := hD.a1
  have ha7 := hD.a7
  have hn24 := hD.n2
  have hk1 : 1 ≤ k := by have := hD.k_; omega
  have hk8 : k ≤ 8 := by have := hD.k_; omega
  have hd14 : d ≤ 14 := by have := hD.d_; omega
  have hka : (k : Int) - 1 = (a : Int) := by have := hD.k_; omega
  have hkq : (k : Int) * (a : Int) = (q : Int) := by rw [hD.k_, hD.q_, Int.natCast_mul]
  have h2k : 2 * (k : Int) - 2 = (d : Int) := by have := hD.k_; have := hD.d_; omega
  have HKQ : Hid (k * a = q) := by show k * a = q; rw [hD.k_, hD.q_]
  have haL : a * L ≤ 1000 := Nat.le_trans (Nat.mul_le_mul_right L hq3) (Nat.le_trans (Nat.mul_le_mul hq12 hL2) (by omega))
  obtain ⟨B0, o0, A0, r0, c0, b0, rfl, z00, hb0, hB0⟩ := hsh.get (j := 0) (by omega)
  rw [Nat.add_zero] at z00
  have hr0 : r0 = a * L := by
    rw [hdl 0 (by omega)] at hb0
    injection hb0 with hb0
    rw [hB0.len, ← hb0, hlen 0 (by omega)]
  have hrL : (r0 : Int) / (a : Int) = (L : Int) := by rw [hr0, Int.natCast_mul, Int.mul_ediv_cancel_left _ (by omega)]
  have hr0b : r0 ≤ 1000 := by omega
  have HW0 : Hid ((redS q (eqM a (plcF a) fun j => x (ss j)) q).rk = q) := by
    have := eqM_whole (plc_ok (a := a) (by omega) ha1) ha1 rfl (x := fun j => x (ss j)) (by rw [← hD.k_]; exact hU)
    rw [← hD.q_] at this
    exact this
  have HPL : Hid (∀ r j, r < d → j < a → plcF a r j < q) := fun r j hr hj => plc_lt hD hr hj
  have HR := hide (rrows_any w hD hX)
  have HPP := hide (fun w => places_any w hD)
  have HSL := hide hsl
  have HDL := hide hdl
  have HLEN := hide hlen
  have HSN := hide hsn
  have HWE := hide hW
  have HDD := hide hD.d_
  have HKA := hide hka
  have HQ := hide hkq
  have H2K := hide h2k
  have HRL := hide hrL
  have HR0 := hide hr0
  clear hsl hdl hlen hsn hW hU hX hD hb0 hB0 hr0 hka hkq h2k hrL
  go_enter Try.func19, Try.ntmps19
  go_wp2_with fail
  refine HR.out.mono ?_
  rintro e w1 ⟨Ar, cr, rfl, hRr, hk1'⟩
  go_wp2_with fail
  refine (HPP.out w1).mono ?_
  rintro e w2 ⟨gp, cpp, bl, rfl, hG, hk2'⟩
  have hR2 := hRr.no hk2'
  have hk2 := hk1'.trans' hk2'
  have y00 := hk2.cell z00 fun f => f
  have hka := HKA.out
  have hkq := HQ.out
  have hrL := HRL.out
  clear hRr z00 HPP HR
  go_wp2_with fail
  clear hkq hrL y00
  go_loopw [13, 14] (fun v iv wr => ∃ (i : Nat) (A' : Option Addr) (r cc : Nat) (vs : List Value), i ≤ k ∧ iv = .int .i64 (i : Int) ∧ v = .slice A' r cc ∧ RInv w2 (fun t => rowL (q + L) (catF q (eqM a (plcF a) (fun j => x (ss j))) (knF a L ds) t)) (i * a) (.slice A' r cc) vs wr) (fun _ iv _ => k - (intOf iv).toNat)
  case atStart => exact ⟨0, none, 0, 0, [], Nat.zero_le _, rfl, rfl, by rw [Nat.zero_mul]; exact ⟨OwnV.nil _ _, rfl, (fun j u hj => by simp at hj), Kp.refl _ _⟩⟩
  case round =>
    obtain ⟨i, A', r, cc, vs, hi, rfl, rfl, hI⟩ := hrel
    by_cases hlt : i < k
    · go_wp2_with fail
      go_loopw [13, 15] (fun v jv wr => ∃ (j : Nat) (A' : Option Addr) (r cc : Nat) (vs : List Value), j ≤ a ∧ jv = .int .i64 (j : Int) ∧ v = .slice A' r cc ∧ RInv w2 (fun t => rowL (q + L) (catF q (eqM a (plcF a) (fun j => x (ss j))) (knF a L ds) t)) (i * a + j) (.slice A' r cc) vs wr) (fun _ jv _ => a - (intOf jv).toNat)
      case atStart => exact ⟨0, A', r, cc, vs, Nat.zero_le _, rfl, rfl, hI⟩
      case round =>
        clear hI
        obtain ⟨j, A', r, cc, vs, hj, rfl, rfl, hI⟩ := hrel
        by_cases hltj : j < a
        · obtain ⟨wB, rfl⟩ : ∃ wB, wB = wr := ⟨_, rfl⟩
          obtain ⟨NL, hNL⟩ : ∃ NL, NL = q + L := ⟨_, rfl⟩
          have hmk := make_bytes wB NL ((q : Int) + (L : Int)) (by omega) (by omega)
          have hst := row_new wB NL (by omega)
          have hk0 : Kp No wB (wB.alloc (.cells (zc NL) 5)) := Kp.alloc No _ _
          have hNq : q + L ≤ NL := by omega
          have HNL := hide hNL
          clear hNL
          obtain ⟨g, hg⟩ : ∃ g, g = wB.heap.size := ⟨_, rfl⟩
          have HEQ : Hid (eqM a (plcF a) (fun j => x (ss j)) (i * a + j) = eqS a (x (ss i)) j d) := eqM_at (fun j => x (ss j)) HDD.out hltj
          go_wp2_with fail
          rw [← hg] at hst ⊢
          have HGG := hide hg
          clear hg hmk hka
          go_loopw [17] (fun Rv wr => ∃ R : Nat, R ≤ d ∧ Rv = .int .i64 (R : Int) ∧ RowAt wr g g NL NL (ctF q (eqS a (x (ss i)) j R) fun _ => 0) ∧ Kp No wB wr) (fun Rv _ => d - (intOf Rv).toNat)
          case atStart => exact ⟨0, Nat.zero_le _, rfl, hst.eq fun p _ => by unfold ctF; split <;> rfl, hk0⟩
          case round =>
            clear hst hk0
            obtain ⟨R, hR, rfl, hRow, hkw⟩ := hrel
            have h2k := H2K.out
            by_cases hltR : R < d
            · have hkk := hI.kp.trans' hkw
              have e1 := (hG.no hkk).outer hltR
              have e2 := (hG.no hkk).cell hltR hltj
              have hp := HPL.out R j hltR hltj
              have e3 := hRow.cell (k := plcF a R j) (by omega)
              have hcv : ctF q (eqS a (x (ss i)) j R) (fun _ => 0) (plcF a R j) = eqS a (x (ss i)) j R (plcF a R j) := if_pos hp
              rw [hcv] at e3
              have e4 := (hk2.trans' hkk).cell (HSL.out i hlt) fun f => f
              have hsn := HSN.out i hlt
              obtain ⟨B3, o3, A3, r3, c3, b3, rfl, e5, hb3, hB3⟩ := (hR2.no hkk).get hsn
              rw [matL_get _ hsn] at hb3
              injection hb3 with hb3
              subst hb3
              obtain rfl : d = r3 := by rw [hB3.len, rowL_len]
              obtain ⟨B4, o4, rfl, e6⟩ := hB3.cell hltR
              have e6' : wr.cell? ⟨B4, o4 + R, none⟩ = some (.int .u8 ((upw (x (ss i)) R).toNat : Int)) := e6
              have HN := fun w3 (hs : Sm wr w3) => (((hRow.no hs.kp).set (k := plcF a R j) (by omega) (ux (eqS a (x (ss i)) j R (plcF a R j)) (upw (x (ss i)) R)) _ rfl).eq fun p _ => ctF_set (h := fun _ => 0) hp (eqS_xor (x (ss i))) p)
              have HNN := hide HN
              have HKN := hide (fun w3 (hs : Sm wr w3) v => (hkw.trans' hs.kp).trans ((RowAt.kpset g (plcF a R j) v w3).mono fun b hb => .inr (by rw [hb, HGG.out]; exact Nat.le_refl _)))
              have him : i < ms := by omega
              have himi : (i : Int) < (ms : Int) := by omega
              have hsni : (ss i : Int) < (n : Int) := by omega
              have hzl : plcF a R j < NL := by omega
              have hzi : ((plcF a R j : Nat) : Int) < (NL : Int) := by omega
              have hz0i : (0 : Int) ≤ ((plcF a R j : Nat) : Int) := by omega
              have HFR := hide (fun w3 (hs : Sm wr w3) => (hRow.no hs.kp).frozen (plcF a R j))
              have HCR := hide (fun w3 (hs : Sm wr w3) => (hRow.no hs.kp).cell hzl)
              clear HN hRow hkw hkk e6 hB3 hcv
              generalize hze : plcF a R j = z at *
              clear hze
              generalize eqS a (x (ss i)) j R z = u at *
              generalize upw (x (ss i)) R = v at *
              have hxor := xorU u v
              go_wp2_with fail
              refine wp_region_still_tail 29 (by kernel_rfl) (by kernel_rfl) ?_
              simp only [List.take_succ_cons, List.take_zero, List.drop_succ_cons, List.drop_zero]
              repeat still_step
              refine wpStill_nil ?_
              change wpList _ _ _ _ _ wr.drew
              generalize hgen : wr.drew = w3
              have hs2 : Sm wr w3 := ⟨1, hgen.symm⟩
              clear hgen e1 e2 e3 e4 e5 e6'
              have hy2 := HCR.out w3 hs2
              have hf2 := HFR.out w3 hs2
              go_wp2_with fail
              go_round
              case rel => exact ⟨R + 1, by omega, by go_num, HNN.out w3 hs2, HKN.out w3 hs2 _⟩
              case measure => simp [intOf]; omega
            · obtain rfl : R = d := by omega
              go_wp2_with fail
              clear h2k
              go_loopw [18] (fun mv wr => ∃ mm : Nat, mm ≤ L ∧ mv = .int .i64 (mm : Int) ∧ RowAt wr g g NL NL (ctF q (eqS a (x (ss i)) j R) (upS (fun v => knF a L ds (i * a + j) v) (fun _ => 0) mm)) ∧ Kp No wB wr) (fun mv _ => L - (intOf mv).toNat)
              case atStart => exact ⟨0, Nat.zero_le _, rfl, hRow.eq fun p _ => by unfold ctF upS; split <;> simp, hkw⟩
              case round =>
                clear hRow hkw
                obtain ⟨mm, hmm, rfl, hRow, hkw⟩ := hrel
                by_cases hltm : mm < L
                · have hkk := hk2.trans' (hI.kp.trans' hkw)
                  obtain ⟨B5, o5, A5, r5, c5, b5, hAB, e1, hb5, hB5⟩ := (hsh.no hkk).get (j := i) (by omega)
                  injection hAB with hAB
                  injection hAB with hAB1 hAB2
                  subst hAB1 hAB2
                  rw [HDL.out i hlt] at hb5
                  injection hb5 with hb5
                  subst hb5
                  have hr5 : Hid (r5 = a * L) := by show r5 = a * L; rw [hB5.len, HLEN.out i hlt]
                  obtain ⟨yy, hyy⟩ : ∃ yy, yy = j * L := ⟨_, rfl⟩
                  have hyr : yy + mm < r5 := by rw [hyy, hr5.out]; exact idx_lt hltj hltm
                  have hyi : (j : Int) * (L : Int) = (yy : Int) := by rw [hyy, Int.natCast_mul]
                  have hyb : yy ≤ 1000 := by have := hr5.out; omega
                  obtain ⟨B6, o6, u, rfl, hu, e2⟩ := hB5.at_ hyr
                  have hval : Hid (u = knF a L ds (i * a + j) mm) := by show u = knF a L ds (i * a + j) mm; rw [knF_at ds mm hltj, ← hyy, lg_of hu]
                  have hqm : q + mm < NL := by omega
                  have him : i < md := by omega
                  have e3 := hRow.cell hqm
                  have e4 := hRow.frozen (q + mm)
                  have HN := hide ((hRow.set hqm u _ rfl).eq (t := ctF q (eqS a (x (ss i)) j R) (upS (fun v => knF a L ds (i * a + j) v) (fun _ => 0) (mm + 1))) fun p _ => by
                    rw [hval.out]
                    exact ctF_out (eqS a (x (ss i)) j R) (fun v => knF a L ds (i * a + j) v) p)
                  have HKN := hide (fun v => hkw.trans ((RowAt.kpset g (q + mm) v wr).mono fun b hb => .inr (by rw [hb, HGG.out]; exact Nat.le_refl _)))
                  clear hu hyy hRow hkw hB5 hkk
                  go_wp2_with fail
                  clear hyi
                  go_round
                  case rel => exact ⟨mm + 1, by omega, by go_num, HN.out, HKN.out _⟩
                  case measure => simp [intOf]; omega
                · obtain rfl : mm = L := by omega
                  have hRow' : Own wr g 5 (.slice (some ⟨g, 0, none⟩) NL NL) (rowL (q + mm) (catF q (eqM a (plcF a) (fun j => x (ss j))) (knF a mm ds) (i * a + j))) := by
                    rw [← HNL.out]
                    refine hRow.eq fun p hp => ?_
                    have := HNL.out
                    unfold ctF catF upS
                    rw [HEQ.out]
                    by_cases e : p < q
                    · rw [if_pos e, if_pos e]
                    · rw [if_neg e, if_neg e, if_pos (by omega)]
                  have hlen : vs.length ≤ 1000000 := by
                    rw [hI.len]
                    have h5 := Nat.mul_le_mul (show i ≤ 8 by omega) (show a ≤ 7 by omega)
                    omega
                  have hgw : w2.heap.size ≤ g := by rw [HGG.out]; exact hI.kp.size
                  have hgw2 := hkw.size
                  have hgw3 := hI.kp.size
                  have ho2 : OwnV (wr.alloc (.cells #[.slice (some ⟨g, 0, none⟩) NL NL] 22)) w2.heap.size (.slice A' r cc) vs := (hI.own.no hkw).no (Kp.alloc No _ _)
                  clear hRow HEQ
                  go_wp2_with (first
                    | (at_builtin
                       refine wpList_appV rfl (.tmp 111) (.tmp 113) _ rfl Try.underlying39 rfl ho2 _ rfl (fresh_cell _ _ _) rfl rfl hlen ?hs ?_
                       case hs => simp; omega
                       intro A3 n3 c3 w3 ha))
                  go_round
                  case rel => exact ⟨j + 1, A3, n3, c3, _, by omega, by go_num, rfl, hI.step hkw hRow' hgw ha⟩
                  case measure => simp [intOf]; omega
        · obtain rfl : j = a := by omega
          have e : i * j + j = (i + 1) * j := by rw [Nat.add_mul, Nat.one_mul]
          rw [e] at hI
          clear e
          go_wp2_with fail
          go_round
          case rel => exact ⟨i + 1, A', r, cc, vs, by omega, by go_num, rfl, hI⟩
          case measure => simp [intOf]; omega
    · obtain rfl : i = k := by omega
      have hI2 := hI
      rw [HKQ.out] at hI2
      obtain rfl : q = r := by rw [hI2.own.len, hI2.len]
      have hRws := hI2.rws (bss := matL q (q + L) (catF q (eqM a (plcF a) (fun j => x (ss j))) (knF a L ds))) (matL_len _ _ _) fun t ht => matL_get _ ht
      have hst := rsteps_wide (cp := cc) hRws (fun t bs ht => by
        have htq : t < q := by have := (List.getElem?_eq_some_iff.1 ht).1; rwa [matL_len] at this
        rw [matL_get _ htq] at ht
        injection ht with ht
        rw [← ht, rowL_len]) (by omega) (by omega) (by omega) (by omega)
      have hkw := hk2.trans' hI.kp
      obtain ⟨X, hX⟩ : ∃ X : Nat → Nat → UInt8, X = fun t v => (redS q (fnL (matL q (q + L) (catF q (eqM a (plcF a) (fun j => x (ss j))) (knF a L ds)))) (q + L)).f t (q + v) := ⟨_, rfl⟩
      have HX : Hid (EqF q L (mulF q (eqM a (plcF a) fun j => x (ss j)) X) (knF a L ds)) := by
        obtain ⟨G, hG1, _⟩ := inv_both HW0.out
        have hsol : EqF q L (mulF q (eqM a (plcF a) fun j => x (ss j)) (mulF q G (knF a L ds))) (knF a L ds) := fun u v hu hv => by
          rw [← mulF_assoc]
          exact (mulF_congr hG1 (EqF.refl q L _) u v hu hv).trans (mulF_one (c := L) (knF a L ds) u v hu hv)
        have hXe : EqF q L X (mulF q G (knF a L ds)) := fun u v hu hv => by
          rw [hX]
          exact steps_solve HW0.out (fnL_matL _) hsol u v hu hv
        exact (mulF_congr (EqF.refl q q _) hXe).trans hsol
      generalize hSt : (redS q (fnL (matL q (q + L) (catF q (eqM a (plcF a) (fun j => x (ss j))) (knF a L ds)))) (q + L)).f = St at *
      clear hI hI2 hRws hka
      go_wp2_with fail
      refine hst.mono ?_
      rintro e w3 ⟨g3, hv3, cp3, rfl, hG3, hk3⟩
      rw [hSt] at hG3
      have HXS := hide hX
      clear hst hX hSt
      have hkw3 := hkw.trans' hk3
      go_wp2_with fail
      go_loopw [20, 21] (fun v tv wr => ∃ (t : Nat) (A' : Option Addr) (r cc : Nat), t ≤ q ∧ tv = .int .i64 (t : Int) ∧ v = .slice A' r cc ∧ Own wr w3.heap.size 5 (.slice A' r cc) (rowL (t * L) fun t => X (t / L) (t % L)) ∧ Kp No w3 wr) (fun _ tv _ => q - (intOf tv).toNat)
      case atStart => exact ⟨0, none, 0, 0, Nat.zero_le _, rfl, rfl, by rw [Nat.zero_mul]; exact Own.nil _ _ _, Kp.refl _ _⟩
      case round =>
        obtain ⟨t, A', r, cc, ht, rfl, rfl, ho, hkr⟩ := hrel
        by_cases hltt : t < q
        · obtain ⟨b1, c1, e1, _, hR1, _, _⟩ := (hG3.no hkr).at_ (by omega) hltt
          have x1 := (hG3.no hkr).out.cell hltt
          rw [e1] at x1
          obtain ⟨_, _, _, hcap, _, _, _, _⟩ := Own.block hR1
          obtain ⟨NL, hNL⟩ : ∃ NL, NL = q + L := ⟨_, rfl⟩
          have hbt := hR1.tail
          rw [← hNL] at x1 hcap
          have hNq : q ≤ NL := by omega
          have hNc : q < c1 := by omega
          have hNs : NL - q = L := by omega
          have hsz := hkr.size
          have hln : (rowL (t * L) fun t => X (t / L) (t % L)).length + (rowL L fun v => St t (q + v)).length ≤ 1000000000 := by
            rw [rowL_len, rowL_len]
            have h5 := Nat.mul_le_mul (show t ≤ 12 by omega) (show L ≤ 60 by omega)
            omega
          have HNX : Hid (rowL (t * L) (fun t => X (t / L) (t % L)) ++ (rowL L fun v => St t (q + v)) = rowL ((t + 1) * L) fun t => X (t / L) (t % L)) := by
            show rowL (t * L) (fun t => X (t / L) (t % L)) ++ (rowL L fun v => St t (q + v)) = rowL ((t + 1) * L) fun t => X (t / L) (t % L)
            rw [Nat.add_mul, Nat.one_mul]
            refine rowL_app _ _ _ _ _ (fun _ _ => rfl) fun v hv => ?_
            have h1 : (t * L + v) / L = t := by rw [Nat.mul_comm, Nat.mul_add_div (by omega), Nat.div_eq_of_lt hv, Nat.add_zero]
            have h2 : (t * L + v) % L = v := by rw [Nat.mul_comm, Nat.mul_add_mod, Nat.mod_eq_of_lt hv]
            rw [h1, h2, HXS.out]
          unfold tailV at hbt
          clear e1 hR1 hNL
          go_wp2_with (first
            | (at_builtin
               refine wpList_app rfl (.tmp 123) (.tmp 129) _ rfl i0 Try.underlying22 hi0 hz0 hz1 hz2 rfl ho rfl hbt hln (by omega) ?_
               intro A3 n3 c3 w4 ha3))
          go_round
          case rel => exact ⟨t + 1, A3, n3, c3, by omega, by go_num, rfl, by rw [← HNX.out]; exact ha3.own, ha3.keeps ho hkr⟩
          case measure => simp [intOf]; omega
        · obtain rfl : t = q := by omega
          have hgr := hG3
          go_wp2_with fail
          go_ret
          exact ⟨X, A', r, cc, rfl, by rw [HWE.out]; exact ho.rebase fun b hb => Nat.le_trans hkw3.size (ho.ge b hb), HX.out, hkw3.trans' hkr⟩
end Go.Proofs.Ythmplbklphobaaa
namespace Go.Proofs.Ythmplbklphobaaa
open Go.ChangeShapes Go.WideShapes Go.RowKit Go.Deep
set_option linter.unusedVariables false
set_option maxRecDepth 100000

theorem cells_part : Try.prog.cellsOf 37 = 2 := by kernel_rfl
theorem cells_i64 : Try.prog.cellsOf 3 = 1 := by kernel_rfl
section
variable {H : Type} {enc : TypeId × Value → H} {w : World} {base : Nat} {spare : Nat → Bool} {held : Bool} {fuel : Nat} {v : Value} {x : DataW H × List MemPlace}
theorem open_part {cs : List Value} {y : DataW H × List MemPlace} (h : DataW.trod enc Try.prog w base spare held fuel 37 cs = some y) :
    ∃ (z : Int) (A : Option Addr) (m c : Nat) (bs : List UInt8), cs = [.int .i64 z, .slice A m c] ∧ Bts w (.slice A m c) bs := by
  obtain ⟨n, hl, hf⟩ := open_parts Try.underlying37 h
  rw [cells_part] at hl
  match cs, hl with
  | [v0, v1], _ =>
    obtain ⟨y0, h0⟩ := hf 0 3 0 _ rfl cells_i64
    obtain ⟨y1, h1⟩ := hf 1 22 1 _ rfl cells_bts
    simp only [List.drop_zero, List.drop_succ_cons, List.take_succ_cons, List.take_zero] at h0 h1
    obtain ⟨z, e0, _, w0⟩ := DataW.trod_int Try.underlying3 h0
    obtain ⟨A, m, c, bs, e1, hb, hm⟩ := open_bts Try.underlying22 Try.underlying5 cells_u8 h1
    simp only [List.cons.injEq, and_true] at e0
    subst e0 e1
    exact ⟨z, A, m, c, bs, rfl, hb⟩
theorem open_prts (h : DataW.trod enc Try.prog w base spare held fuel 35 [v] = some x) : ∃ A m c sl ds, v = .slice A m c ∧ Prts w A m sl ds ∧ m ≤ c := by
  have hcap : ∃ A m c, v = .slice A m c ∧ m ≤ c := by
    rcases open_slice Try.underlying35 h with ⟨hcs, _⟩ | ⟨a, len, cap, m, n, D, Pl, hcs, _, hl, hm, hmm, _, hi⟩
    · simp only [List.cons.injEq, and_true] at hcs
      exact ⟨none, 0, 0, hcs, Nat.le_refl _⟩
    · simp only [List.cons.injEq, and_true] at hcs
      exact ⟨some a, len, cap, hcs, by omega⟩
  obtain ⟨A, len, cap, n, rfl, hl, _, hi⟩ := open_elems Try.underlying35 h
  obtain ⟨A2, m2, c2, e, hmc⟩ := hcap
  injection e with e1 e2 e3
  subst e1 e2 e3
  have hch : ∀ i, ∃ p : Int × List UInt8, i < len → ∃ B off A' r c, A = some ⟨B, off, none⟩ ∧ w.cell? ⟨B, off + i * 2, none⟩ = some (.int .i64 p.1) ∧ w.cell? ⟨B, off + i * 2 + 1, none⟩ = some (.slice A' r c) ∧ Bts w (.slice A' r c) p.2 := by
    intro i
    by_cases hil : i < len
    · obtain ⟨a, cs, y, rfl, hcl, hat, ht⟩ := hi i hil
      rw [cells_part] at hcl hat
      obtain ⟨z, A', m, c, bs, rfl, hb⟩ := open_part ht
      obtain ⟨B, off, spot⟩ := a
      have hspot : spot = none := by
        obtain ⟨a', cs', y', ha', hcl', hat', _⟩ := hi 0 (by omega)
        injection ha' with ha'
        subst ha'
        rw [cells_part] at hcl' hat'
        have := hat' 0 (by omega)
        rw [List.getElem?_eq_getElem (by omega)] at this
        simpa [Addr.add] using World.cell?_spot this
      subst hspot
      have h0 := hat 0 (by omega)
      have h1 := hat 1 (by omega)
      rw [add_none] at h0 h1
      refine ⟨(z, bs), fun _ => ⟨B, off, A', m, c, rfl, ?_, ?_, hb⟩⟩
      · rw [Nat.add_zero] at h0
        exact h0
      · rw [← Nat.add_assoc] at h1
        exact h1
    · exact ⟨(0, []), fun h => absurd h hil⟩
  obtain ⟨f, hf⟩ := Classical.axiomOfChoice hch
  exact ⟨A, len, cap, fun i => (f i).1, fun i => (f i).2, rfl, ⟨fun j hj => hf j hj⟩, hmc⟩
end
/-- The headers of the shards' bytes. -/
theorem Prts.heads {w : World} {A : Option Addr} {m : Nat} {sl : Nat → Int} {ds : Nat → List UInt8} (h : Prts w A m sl ds) : ∃ hd : Nat → Value, ∀ j, j < m → ∃ B off A' r c, A = some ⟨B, off, none⟩ ∧ w.cell? ⟨B, off + j * 2, none⟩ = some (.int .i64 (sl j)) ∧ w.cell? ⟨B, off + j * 2 + 1, none⟩ = some (.slice A' r c) ∧ hd j = .slice A' r c ∧ Bts w (.slice A' r c) (ds j) := by
  have hch : ∀ j, ∃ v : Value, j < m → ∃ B off A' r c, A = some ⟨B, off, none⟩ ∧ w.cell? ⟨B, off + j * 2, none⟩ = some (.int .i64 (sl j)) ∧ w.cell? ⟨B, off + j * 2 + 1, none⟩ = some (.slice A' r c) ∧ v = .slice A' r c ∧ Bts w (.slice A' r c) (ds j) := fun j => by
    by_cases hj : j < m
    · obtain ⟨B, off, A', r, c, h1, h2, h3, h4⟩ := h.at_ j hj
      exact ⟨_, fun _ => ⟨B, off, A', r, c, h1, h2, h3, rfl, h4⟩⟩
    · exact ⟨.slice none 0 0, fun h => absurd h hj⟩
  exact Classical.axiomOfChoice hch
end Go.Proofs.Ythmplbklphobaaa
