/- Where a name, a number stands: slices.BinarySearchFunc and slices.IndexFunc over objects, place, numbered. No condition. -/
import Derived.Test.YthicpblgonigcaaNcaj
namespace Go.Proofs.Ythicpblgonigcaa
open Go.RowKit
set_option linter.unusedVariables false
set_option linter.unusedSimpArgs false
set_option maxRecDepth 20000

theorem cmpL_neg {x y : List UInt8} (h : Op.bytesLess x y = true) : cmpL x y = -1 := by unfold cmpL; rw [h]; rfl
theorem cmpL_pos {x y : List UInt8} (h : Op.bytesLess x y = false) (hn : x ≠ y) : cmpL x y = 1 := by
  unfold cmpL
  rw [h]
  rcases e : Op.bytesLess y x with _ | _
  · exact absurd (bl_tri _ _ h e) hn
  · rfl
theorem cmpL_self (x : List UInt8) : cmpL x x = 0 := by unfold cmpL; rw [bl_irr]; rfl
theorem cmpL_ge {x y : List UInt8} (h : Op.bytesLess x y = false) : 0 ≤ cmpL x y := by
  unfold cmpL
  rw [h]
  split
  · cases ‹false = true›
  · split <;> omega
theorem ret_ib {a b : Int} {c d : Bool} (h : a = b) (g : c = d) : Ending.returned (.tuple #[.int .i64 a, .bool c]) = .returned (.tuple #[.int .i64 b, .bool d]) := by rw [h, g]
section
variable {w : World} {F : Nat → Prop} {A : Option Addr} {n c : Nat} {os : List Ob}
/-- The six cells in each world behind. -/
theorem ob_six {w w1 : World} {B off : Nat} {o : Ob} {v : Value} (h : ObAt w B off o v) (hk : Kp No w w1) :
    w1.cell? ⟨B, off, none⟩ = some (.int .u32 (o.num : Int)) ∧ w1.cell? ⟨B, off + 1, none⟩ = some (.string (strOf o.nm)) ∧ w1.cell? ⟨B, off + 2, none⟩ = some (.int .i64 o.ln) ∧ w1.cell? ⟨B, off + 3, none⟩ = some (.int .i64 o.ct) ∧ w1.cell? ⟨B, off + 4, none⟩ = some (.int .i64 o.pc) ∧ w1.cell? ⟨B, off + 5, none⟩ = some v :=
  h.keep hk fun f => f
set_option maxHeartbeats 4000000 in
theorem tbs_any (h : RdO w F A n c os) (hr : RisN os) (hn : os.length ≤ 1000) (s : List UInt8) :
    Calls Try.prog 56 #[.slice A n c, .string (strOf s), .func (.func 57) #[] #[]] w fun e w1 =>
      e = .returned (.tuple #[.int .i64 (pN os s : Int), .bool (decide (fNm os s < os.length))]) ∧ Kp No w w1 := by
  have H := hide h
  have HR := hide hr
  have HN := hide hn
  have hnb : n ≤ 1000 := by rw [h.len]; exact hn
  clear h hr hn
  go_enter Try.func56, Try.ntmps56
  go_wp2_with fail
  go_loopw [9, 10] (fun iv jv wr => ∃ i j : Nat, i ≤ j ∧ j ≤ n ∧ iv = .int .i64 (i : Int) ∧ jv = .int .i64 (j : Int) ∧ Hid (∀ (x : Nat) a, x < i → os[x]? = some a → Op.bytesLess a.nm s = true) ∧ Hid (∀ (x : Nat) a, j ≤ x → os[x]? = some a → Op.bytesLess a.nm s = false) ∧ Kp No w wr) (fun iv jv _ => (intOf jv).toNat - (intOf iv).toNat)
  case atStart => exact ⟨0, n, Nat.zero_le _, Nat.le_refl _, rfl, rfl, hide (fun x a hx => absurd hx (Nat.not_lt_zero _)), hide (fun x a hx ha => by have := (List.getElem?_eq_some_iff.1 ha).1; have := H.out.len; omega), Kp.refl _ _⟩
  case round =>
    obtain ⟨i, j, hij, hjn, rfl, rfl, HA, HB, hkw⟩ := hrel
    have HK := hide hkw
    clear hkw
    by_cases hlt : i < j
    · obtain ⟨m, hm⟩ : ∃ m, m = (i + j) / 2 := ⟨_, rfl⟩
      have hm1 : i ≤ m := by omega
      have hm2 : m < j := by omega
      obtain ⟨o, ho⟩ : ∃ o, os[m]? = some o := ⟨_, List.getElem?_eq_getElem (by rw [← H.out.len]; omega)⟩
      obtain ⟨B, off, v, rfl, hB, hx, _⟩ := H.out.at_ m o ho
      obtain ⟨x0, x1, x2, x3, x4, x5⟩ := ob_six hx HK.out
      have HO := hide ho
      have hmz : ((i : Int) + (j : Int)) / 2 = (m : Int) := by omega
      have HM := hide hm
      clear hx ho hm
      rcases hb : Op.bytesLess o.nm s with _ | _
      · have HS : Hid (∀ (x : Nat) a, m ≤ x → os[x]? = some a → Op.bytesLess a.nm s = false) := fun x a hx ha => by
          rcases Nat.lt_or_ge m x with g | g
          · have h1 := HR.out _ _ _ _ g HO.out ha
            rcases e : Op.bytesLess a.nm s with _ | _
            · rfl
            · have := bl_trans _ _ _ h1 e
              rw [hb] at this
              cases this
          · obtain rfl : x = m := by omega
            rw [HO.out] at ha
            injection ha with ha
            subst ha
            exact hb
        obtain ⟨z, hz⟩ : ∃ z, z = cmpL o.nm s := ⟨_, rfl⟩
        have hz0 : 0 ≤ z := by rw [hz]; exact cmpL_ge hb
        have hc := tpcl_any wr o v s
        rw [← hz] at hc
        clear hb hz
        go_wp2_with fail
        refine hc.mono ?_
        rintro e w1 ⟨rfl, hk1⟩
        go_wp2_with fail
        go_round
        case rel => exact ⟨i, m, hm1, by omega, rfl, rfl, HA, HS, HK.out.trans' hk1⟩
        case measure => simp [intOf]; omega
      · have HS : Hid (∀ (x : Nat) a, x < m + 1 → os[x]? = some a → Op.bytesLess a.nm s = true) := fun x a hx ha => by
          rcases Nat.lt_or_ge x m with g | g
          · exact bl_trans _ _ _ (HR.out _ _ _ _ g ha HO.out) hb
          · obtain rfl : x = m := by omega
            rw [HO.out] at ha
            injection ha with ha
            subst ha
            exact hb
        have hc := tpcl_any wr o v s
        rw [cmpL_neg hb] at hc
        clear hb
        go_wp2_with fail
        refine hc.mono ?_
        rintro e w1 ⟨rfl, hk1⟩
        go_wp2_with fail
        go_round
        case rel => exact ⟨m + 1, j, by omega, hjn, by go_num, rfl, HS, HB, HK.out.trans' hk1⟩
        case measure => simp [intOf]; omega
    · obtain rfl : i = j := by omega
      have HP : Hid (pN os s = i) := pN_of (by rw [← H.out.len]; exact hjn) HA.out fun a ha => HB.out i a (Nat.le_refl _) ha
      by_cases hin : i < n
      · obtain ⟨o, ho⟩ : ∃ o, os[i]? = some o := ⟨_, List.getElem?_eq_getElem (by rw [← H.out.len]; omega)⟩
        obtain ⟨B, off, v, rfl, hB, hx, _⟩ := H.out.at_ i o ho
        obtain ⟨x0, x1, x2, x3, x4, x5⟩ := ob_six hx HK.out
        have HO := hide ho
        have hc := tpcl_any wr o v s
        clear hx ho
        by_cases he : o.nm = s
        · have HF : Hid (decide (fNm os s < os.length) = true) := decide_eq_true (by
            have h1 := HR.out.found (s := s) (a := o) (by rw [HP.out]; exact HO.out) he
            rw [h1, HP.out, ← H.out.len]
            exact hin)
          rw [he, cmpL_self] at hc
          clear he
          go_wp2_with fail
          have hc' : Calls Try.prog 57 #[obV o v, .string (strOf s)] wr fun e w1 => e = .returned (.int .i64 0) ∧ Kp No wr w1 := hc
          refine hc'.mono ?_
          rintro e w1 ⟨rfl, hk1⟩
          go_wp2_with fail
          go_ret2
          exact ⟨ret_ib (by rw [HP.out]) HF.out.symm, HK.out.trans' hk1⟩
        · have HF : Hid (decide (fNm os s < os.length) = false) := decide_eq_false (HR.out.lost fun a ha => by
            rw [HP.out, HO.out] at ha
            injection ha with ha
            rw [← ha]
            exact he)
          rw [cmpL_pos (HB.out i o (Nat.le_refl _) HO.out) he] at hc
          clear he
          go_wp2_with fail
          refine hc.mono ?_
          rintro e w1 ⟨rfl, hk1⟩
          go_wp2_with fail
          go_ret2
          exact ⟨ret_ib (by rw [HP.out]) HF.out.symm, HK.out.trans' hk1⟩
      · have HF : Hid (decide (fNm os s < os.length) = false) := decide_eq_false (HR.out.lost fun a ha => by
          rw [HP.out] at ha
          have := (List.getElem?_eq_some_iff.1 ha).1
          have := H.out.len
          omega)
        go_wp2_with fail
        go_ret2
        exact ⟨ret_ib (by rw [HP.out]) HF.out.symm, HK.out⟩
set_option maxHeartbeats 2000000 in
theorem tif_any {b num : Nat} (h : RdO w F A n c os) (hn : os.length ≤ 1000) (hb : w.cell? ⟨b, 0, none⟩ = some (.int .u32 (num : Int))) :
    Calls Try.prog 59 #[.slice A n c, .func (.func 60) #[] #[.pointer (some ⟨b, 0, none⟩)]] w fun e w1 =>
      e = .returned (.int .i64 (ixZ (fNo os num) os.length)) ∧ Kp No w w1 := by
  have H := hide h
  have HBB := hide hb
  have hnb : n ≤ 1000 := by rw [h.len]; exact hn
  clear h hn hb
  go_enter Try.func59, Try.ntmps59
  go_wp2_with fail
  go_loopw [8] (fun iv wr => ∃ k : Nat, k ≤ n ∧ iv = .int .i64 (k : Int) ∧ Hid (∀ (x : Nat) a, x < k → os[x]? = some a → a.num ≠ num) ∧ Kp No w wr) (fun iv _ => n - (intOf iv).toNat)
  case atStart => exact ⟨0, Nat.zero_le _, rfl, hide (fun x a hx => absurd hx (Nat.not_lt_zero _)), Kp.refl _ _⟩
  case round =>
    obtain ⟨k, hkn, rfl, HA, hkw⟩ := hrel
    have HK := hide hkw
    clear hkw
    by_cases hlt : k < n
    · obtain ⟨o, ho⟩ : ∃ o, os[k]? = some o := ⟨_, List.getElem?_eq_getElem (by rw [← H.out.len]; omega)⟩
      obtain ⟨B, off, v, rfl, hB, hx, _⟩ := H.out.at_ k o ho
      obtain ⟨x0, x1, x2, x3, x4, x5⟩ := ob_six hx HK.out
      have hc := tncl_any (w := wr) (b := b) (n := num) o v (HK.out.cell HBB.out fun f => f)
      have HO := hide ho
      clear hx ho
      by_cases he : o.num = num
      · have HF : Hid (ixZ (fNo os num) os.length = (k : Int)) := by
          show _ = _
          rw [fNo_of HO.out he HA.out]
          unfold ixZ
          rw [if_pos (by rw [← H.out.len]; exact hlt)]
        rw [decide_eq_true he] at hc
        clear he
        go_wp2_with fail
        refine hc.mono ?_
        rintro e w1 ⟨rfl, hk1⟩
        go_wp2_with fail
        go_ret
        exact ⟨ret_int HF.out.symm, HK.out.trans' hk1⟩
      · have HS : Hid (∀ (x : Nat) a, x < k + 1 → os[x]? = some a → a.num ≠ num) := fun x a hx ha => by
          rcases Nat.lt_or_ge x k with g | g
          · exact HA.out x a g ha
          · obtain rfl : x = k := by omega
            rw [HO.out] at ha
            injection ha with ha
            subst ha
            exact he
        rw [decide_eq_false he] at hc
        clear he
        go_wp2_with fail
        refine hc.mono ?_
        rintro e w1 ⟨rfl, hk1⟩
        go_wp2_with fail
        go_round
        case rel => exact ⟨k + 1, by omega, by go_num, HS, HK.out.trans' hk1⟩
        case measure => simp [intOf]; omega
    · have HF : Hid (ixZ (fNo os num) os.length = -1) := by
        show _ = _
        rw [fNo_none fun x a ha => HA.out x a (by have := (List.getElem?_eq_some_iff.1 ha).1; have := H.out.len; omega) ha]
        unfold ixZ
        rw [if_neg (by omega)]
      go_wp2_with fail
      go_ret
      exact ⟨ret_int HF.out.symm, HK.out⟩
end
section
variable {w : World} {F : Nat → Prop} {g : Nat} {T : Tb}
theorem tplace_any (h : TbAt w F g T) (s : List UInt8) : Calls Try.prog 39 #[.pointer (some ⟨g, 0, none⟩), .string (strOf s)] w fun e w1 =>
    e = .returned (.tuple #[.int .i64 (pN T.os s : Int), .bool (decide (fNm T.os s < T.os.length))]) ∧ Kp No w w1 := by
  obtain ⟨A, n, c, vs, h⟩ := h
  have c4 := h.c4
  have hc := tbs_any h.rd h.ok.ris (by have := h.ok.len; omega) s
  generalize decide (fNm T.os s < T.os.length) = d at hc ⊢
  have HC := hide hc
  clear h hc
  go_enter Try.func39, Try.ntmps39
  go_wp2_with fail
  refine HC.out.mono ?_
  rintro e w1 ⟨rfl, hk1⟩
  go_wp2_with fail
  go_ret2
  exact ⟨rfl, hk1⟩
theorem tnumbered_any (h : TbAt w F g T) (num : Nat) : Calls Try.prog 40 #[.pointer (some ⟨g, 0, none⟩), .int .u32 (num : Int)] w fun e w1 =>
    e = .returned (.int .i64 (ixZ (fNo T.os num) T.os.length)) ∧ Kp No w w1 := by
  obtain ⟨A, n, c, vs, h⟩ := h
  have c4 := h.c4
  have hg := h.glt
  have hc := tif_any (b := w.heap.size) (num := num) (h.rd.no (Kp.alloc No w (.cells #[.int .u32 (num : Int)] 29))) (by have := h.ok.len; omega) (by simp)
  have HC := hide hc
  clear h hc
  go_enter Try.func40, Try.ntmps40
  go_wp2_with fail
  refine HC.out.mono ?_
  rintro e w1 ⟨rfl, hk1⟩
  go_wp2_with fail
  go_ret
  exact ⟨rfl, (Kp.alloc No _ _).trans' hk1⟩
end
end Go.Proofs.Ythicpblgonigcaa
