/- Package heal's exists, fits, elementsAt, Fragment and Cost, each as a contract over memory. -/
import Derived.Test.YtnfcfdhlmeimhaaGreatTwau
import Derived.Test.YtnfcfdhlmeimhaaGreatTwam
import Derived.Test.YtnfcfdhlmeimhaaGreatTwaa
import Derived.Test.YtnfcfdhlmeimhaaGreatTwab
import Derived.Test.YtnfcfdhlmeimhaaGreatTwat
namespace Go.Proofs.YtnfcfdhlmeimhaaGreat
open Go.RowKit
set_option linter.unusedVariables false
set_option linter.unusedSimpArgs false
set_option maxRecDepth 100000

section
variable {w : World} {g n k a d q : Nat} {x : Nat → UInt8}
theorem ex_yes (h : CodeAt w g n k x) (i : Nat) (hi : i < n) : Calls Tryz.prog 155 #[cptr g, .int .i64 (i : Int)] w fun e w' => e = .returned (.bool true) ∧ w = w' := by
  go_enter Tryz.func155, Tryz.ntmps155
  go_wp2_with fail
  refine (nn_any h).mono ?_
  rintro e w' ⟨rfl, rfl⟩
  go_wp2_with fail
  go_ret
  exact ⟨rfl, rfl⟩
theorem ex_no (h : CodeAt w g n k x) (i : Int) (hi : i < 0 ∨ (n : Int) ≤ i) : Calls Tryz.prog 155 #[cptr g, .int .i64 i] w fun e w' => e = .returned (.bool false) ∧ w = w' := by
  rcases Int.lt_or_le i 0 with h0 | h0
  · clear hi
    go_enter Tryz.func155, Tryz.ntmps155
    go_wp2_with fail
    go_ret
    exact ⟨rfl, rfl⟩
  · have hi : (n : Int) ≤ i := by omega
    go_enter Tryz.func155, Tryz.ntmps155
    go_wp2_with fail
    refine (nn_any h).mono ?_
    rintro e w' ⟨rfl, rfl⟩
    go_wp2_with fail
    go_ret
    exact ⟨ret_b (decide_eq_false (by omega)), rfl⟩
theorem fh_yes (h : CodeAt w g n k x) (hD : Dim n k a d q) {m : Nat} (hm : 1 ≤ m) (hr : m % a = 0) : Calls Tryz.prog 156 #[cptr g, .int .i64 (m : Int)] w fun e w' => e = .returned (.bool true) ∧ w = w' := by
  have hc := aa_any h hD
  have ha1 := hD.a1
  have ha7 := hD.a7
  have hr1 : (m : Int) % (a : Int) = 0 := by rw [← Int.natCast_emod, hr]; rfl
  have hr2 : (m : Int).tmod (a : Int) = 0 := by rw [Int.tmod_eq_emod_of_nonneg (by omega), hr1]
  clear hD hr
  go_enter Tryz.func156, Tryz.ntmps156
  go_wp2_with fail
  refine hc.mono ?_
  rintro e w' ⟨rfl, rfl⟩
  go_wp2_with fail
  refine hc.mono ?_
  rintro e w' ⟨rfl, rfl⟩
  go_wp2_with fail
  go_ret
  exact ⟨rfl, rfl⟩
theorem fh_no (h : CodeAt w g n k x) (hD : Dim n k a d q) {m : Nat} (hm : m = 0 ∨ m % a ≠ 0) : Calls Tryz.prog 156 #[cptr g, .int .i64 (m : Int)] w fun e w' => e = .returned (.bool false) ∧ w = w' := by
  have hc := aa_any h hD
  have ha1 := hD.a1
  have ha7 := hD.a7
  by_cases h0 : m = 0
  · subst h0
    clear hm hD
    go_enter Tryz.func156, Tryz.ntmps156
    go_wp2_with fail
    go_ret
    exact ⟨rfl, rfl⟩
  · have h1 : 1 ≤ m := by omega
    obtain ⟨rr, hrr⟩ : ∃ rr, rr = m % a := ⟨_, rfl⟩
    have hr1 : (m : Int) % (a : Int) = (rr : Int) := by rw [hrr, Int.natCast_emod]
    have hr2 : (m : Int).tmod (a : Int) = (rr : Int) := by rw [Int.tmod_eq_emod_of_nonneg (by omega), hr1]
    have hr0 : ((rr : Int) == 0) = false := by simp; omega
    clear hm hD h0 hrr
    go_enter Tryz.func156, Tryz.ntmps156
    go_wp2_with fail
    refine hc.mono ?_
    rintro e w' ⟨rfl, rfl⟩
    go_wp2_with fail
    refine hc.mono ?_
    rintro e w' ⟨rfl, rfl⟩
    go_wp2_with fail
    go_ret
    exact ⟨rfl, rfl⟩
end
set_option maxHeartbeats 1000000 in
theorem hel_any {w : World} {A : Option Addr} {m cp a L i : Nat} {bs : List UInt8} (hb : Bts w (.slice A m cp) bs) (hm : m = a * L) (ha : a ≤ 1000) (hi : i < L) (hmb : m ≤ 100000) (hL : L ≤ 100000) :
    Calls Tryz.prog 160 #[.slice A m cp, .int .i64 (L : Int), .int .i64 (i : Int)] w (OwnPost w (rowL a fun t => lg bs (t * L + i))) := by
  obtain ⟨i0, hi0, hz0, hz1, hz2⟩ := byte_parts
  have HM := hide hm
  clear hm
  go_enter Tryz.func160, Tryz.ntmps160
  go_wp2_with fail
  go_loopw [7, 8] (fun v iv wr => ∃ (t I : Nat) (A' : Option Addr) (r cc : Nat), t ≤ a ∧ I ≤ 1000000 ∧ Hid (I = t * L + i) ∧ iv = .int .i64 (I : Int) ∧ v = .slice A' r cc ∧ Own wr w.heap.size 5 (.slice A' r cc) (rowL t fun t => lg bs (t * L + i)) ∧ Kp No w wr) (fun _ iv _ => 2000000 - (intOf iv).toNat)
  case atStart => exact ⟨0, i, none, 0, 0, Nat.zero_le _, by omega, (by simp : i = 0 * L + i), rfl, rfl, Own.nil _ _ _, Kp.refl _ _⟩
  case round =>
    obtain ⟨t, I, A', r, cc, ht, hI1, hI, rfl, rfl, ho, hkw⟩ := hrel
    by_cases hltt : t < a
    · have hIr : I < m := by rw [hI.out, HM.out]; exact idx_lt hltt hi
      obtain ⟨B1, o1, u, rfl, hu, x2⟩ := (hb.no hkw).at_ hIr
      have hval : Hid (u = lg bs (t * L + i)) := by show u = lg bs (t * L + i); rw [← hI.out, lg_of hu]
      clear hu
      have hsz := hkw.size
      have hbn := bts_new wr u _ rfl
      have ho2 := ho.alloc (.cells #[bv u] 5)
      have hln : (rowL t fun t => lg bs (t * L + i)).length + [u].length ≤ 1000000000 := by rw [rowL_len]; simp; omega
      have hI2 : I + L ≤ 1000000 := by omega
      go_wp2_with (first
        | (at_builtin
           refine wpList_app rfl (.tmp 17) (.tmp 22) _ rfl i0 Tryz.underlying54 hi0 hz0 hz1 hz2 rfl ho2 rfl hbn hln (by simp; omega) ?_
           intro A3 n3 c3 w3 ha3))
      go_round
      case rel =>
        refine ⟨t + 1, I + L, A3, n3, c3, by omega, hI2, (by have := hI.out; rw [Nat.add_mul, Nat.one_mul]; omega : I + L = (t + 1) * L + i), by go_num, rfl, ?_, ha3.keeps ho2 (hkw.trans' (Kp.alloc No _ _))⟩
        rw [rowL_succ, ← hval.out]
        exact ha3.own
      case measure => simp [intOf]; omega
    · obtain rfl : t = a := by omega
      have hIr : m ≤ I := by rw [hI.out, HM.out]; omega
      go_wp2_with fail
      go_ret
      exact ⟨A', r, cc, rfl, ho, hkw⟩

/-- What a helper sends. -/
def frE (a L : Nat) (bs : List UInt8) (y : UInt8) (t : Nat) : UInt8 := ud (upw y) (fun j => lg bs (j * L + t)) a
theorem Own.first {w : World} {b n c : Nat} {A : Option Addr} {f : Nat → UInt8} {d : Nat} (h : Own w b 5 (.slice A n c) (rowL d f)) (hd : 0 < d) : ∃ g, A = some ⟨g, 0, none⟩ ∧ d ≤ c ∧ ∀ a, a ≤ d → Bts w (.slice (some ⟨g, 0, none⟩) a c) (rowL a f) := by
  have hn : n = d := by rw [h.len, rowL_len]
  subst hn
  obtain ⟨B, off, u, rfl, _, _⟩ := h.bts.at_ hd
  have h1 := h.2
  rcases h1 with ⟨e, _⟩ | ⟨g, cap, cur, e, _⟩
  · cases e
  · injection e with e1 _ _
    injection e1 with e1
    injection e1 with e1 e2 _
    subst e1 e2
    obtain ⟨cur, _, _, hc, _⟩ := Own.block h
    refine ⟨B, rfl, hc, fun a ha => ⟨_, c, by rw [rowL_len], (fun h => by cases h), fun ad hx j u hu => ?_⟩⟩
    injection hx with hx
    subst hx
    have hj : j < a := by have := (List.getElem?_eq_some_iff.1 hu).1; rwa [rowL_len] at this
    rw [rowL_get _ hj] at hu
    injection hu with hu
    subst hu
    obtain ⟨B', o', u', e', hu', hcell⟩ := h.bts.at_ (show j < n by omega)
    injection e' with e'
    injection e' with e1 e2 _
    subst e1 e2
    rw [rowL_get _ (by omega)] at hu'
    injection hu' with hu'
    subst hu'
    rw [add_none]
    exact hcell
/-- Bytes come back, and no error. -/
def BokPost (w : World) (bs : List UInt8) (e : Ending) (w1 : World) : Prop := ∃ A n c, e = .returned (.tuple #[.slice A n c, .int .i64 0]) ∧ Own w1 w.heap.size 5 (.slice A n c) bs ∧ Kp No w w1
section
variable {w : World} {g n k a d q m cp : Nat} {x : Nat → UInt8} {A : Option Addr} {bs : List UInt8}
theorem frag_out (h : CodeAt w g n k x) (i : Int) (hi : i < 0 ∨ (n : Int) ≤ i) : Calls Tryz.prog 144 #[cptr g, .int .i64 i, .slice A m cp] w fun e w' => e = .returned (.tuple #[.slice none 0 0, .int .i64 1]) ∧ w = w' := by
  have hx := ex_no h i hi
  clear hi
  go_enter Tryz.func144, Tryz.ntmps144
  go_wp2_with fail
  refine hx.mono ?_
  rintro e w' ⟨rfl, rfl⟩
  go_wp2_with fail
  go_ret2
  exact ⟨rfl, rfl⟩
theorem frag_no (h : CodeAt w g n k x) (hD : Dim n k a d q) (i : Nat) (hi : i < n) (hm : m = 0 ∨ m % a ≠ 0) : Calls Tryz.prog 144 #[cptr g, .int .i64 (i : Int), .slice A m cp] w fun e w' => e = .returned (.tuple #[.slice none 0 0, .int .i64 1]) ∧ w = w' := by
  have hx := ex_yes h i hi
  have hf := fh_no h hD hm
  clear hm hD hi
  go_enter Tryz.func144, Tryz.ntmps144
  go_wp2_with fail
  refine hx.mono ?_
  rintro e w' ⟨rfl, rfl⟩
  go_wp2_with fail
  refine hf.mono ?_
  rintro e w' ⟨rfl, rfl⟩
  go_wp2_with fail
  go_ret2
  exact ⟨rfl, rfl⟩
set_option maxHeartbeats 2000000 in
theorem frag_yes {L : Nat} (h : CodeAt w g n k x) (hD : Dim n k a d q) (i : Nat) (hi : i < n) (hb : Bts w (.slice A m cp) bs) (hm : m = a * L) (hL1 : 1 ≤ L) (hmb : m ≤ 1000) : Calls Tryz.prog 144 #[cptr g, .int .i64 (i : Int), .slice A m cp] w (BokPost w (rowL L (frE a L bs (x i)))) := by
  have ha1 := hD.a1
  have ha7 := hD.a7
  have hm1 : 1 ≤ m := by rw [hm]; have := Nat.mul_le_mul ha1 hL1; omega
  have hLm : L ≤ m := by rw [hm]; have := Nat.mul_le_mul_right L ha1; omega
  have hx := ex_yes h i hi
  have hf := fh_yes h hD hm1 (by rw [hm, Nat.mul_mod_right])
  have hrow := rowo_in h hD i hi
  have HA := hide (fun w' (hk : Kp No w w') => aa_any (h.no hk) hD)
  have hd1 : Hid (0 < d) := by show 0 < d; have := hD.d_; omega
  have had : Hid (a ≤ d) := by show a ≤ d; have := hD.d_; omega
  have HD1 : Hid ((m : Int) / (a : Int) = (L : Int)) := by show (m : Int) / (a : Int) = (L : Int); rw [hm, Int.natCast_mul, Int.mul_ediv_cancel_left _ (by omega)]
  have HD2 : Hid ((m : Int).tdiv (a : Int) = (L : Int)) := by show (m : Int).tdiv (a : Int) = (L : Int); rw [Int.tdiv_eq_ediv_of_nonneg (by omega), HD1.out]
  have HM := hide hm
  clear hm hi hD
  go_enter Tryz.func144, Tryz.ntmps144
  go_wp2_with fail
  refine hx.mono ?_
  rintro e w' ⟨rfl, rfl⟩
  go_wp2_with fail
  refine hf.mono ?_
  rintro e w' ⟨rfl, rfl⟩
  go_wp2_with fail
  refine hrow.mono ?_
  rintro e w1 ⟨A5, n5, c5, rfl, ho5, hk5⟩
  obtain rfl : d = n5 := by rw [ho5.len, rowL_len]
  obtain ⟨g5, rfl, hc5, hfst⟩ := ho5.first hd1.out
  have hbh := hfst a had.out
  have hac : a ≤ c5 := Nat.le_trans had.out hc5
  have had' := had.out
  have HK5 := hide hk5
  clear hx hf hrow hfst ho5 hk5
  go_wp2_with fail
  refine (HA.out w1 HK5.out).mono ?_
  rintro e w' ⟨rfl, rfl⟩
  have hd1 := HD1.out
  have hd2 := HD2.out
  have hmk := make_bytes w1 L (L : Int) rfl (by omega)
  have hst := row_new w1 L (by omega)
  have hk0 : Kp No w1 (w1.alloc (.cells (zc L) 5)) := Kp.alloc No _ _
  obtain ⟨gb, hgb⟩ : ∃ gb, gb = w1.heap.size := ⟨_, rfl⟩
  go_wp2_with fail
  refine (HA.out w1 HK5.out).mono ?_
  rintro e w' ⟨rfl, rfl⟩
  go_wp2_with fail
  rw [← hgb] at hst ⊢
  have HG := hide hgb
  clear hgb hmk hd1 hd2
  go_loopw [36] (fun iv wr => ∃ t : Nat, t ≤ L ∧ iv = .int .i64 (t : Int) ∧ RowAt wr gb gb L L (upS (frE a L bs (x i)) (fun _ => 0) t) ∧ Kp No w1 wr) (fun iv _ => L - (intOf iv).toNat)
  case atStart => exact ⟨0, Nat.zero_le _, rfl, hst.eq fun k _ => by simp [upS], hk0⟩
  case round =>
    clear hst hk0
    obtain ⟨t, ht, rfl, hR, hkw⟩ := hrel
    by_cases hlt : t < L
    · have hel := hel_any (hb.no (HK5.out.trans' hkw)) HM.out (by omega) hlt (by omega) (by omega)
      go_wp2_with fail
      refine hel.mono ?_
      rintro e w2 ⟨A6, n6, c6, rfl, ho6, hk6⟩
      have hkw2 := hkw.trans' hk6
      have hdot := dot_any (hbh.no hkw2) ho6.bts a (by rw [rowL_len, rowL_len]; omega) (by rw [rowL_len]; omega) (by rw [rowL_len]; omega)
      have HVal : Hid (ud (lg (rowL a (upw (x i)))) (lg (rowL a fun j => lg bs (j * L + t))) a = frE a L bs (x i) t) := by
        show ud (lg (rowL a (upw (x i)))) (lg (rowL a fun j => lg bs (j * L + t))) a = ud (upw (x i)) (fun j => lg bs (j * L + t)) a
        exact ud_congr (fun u hu => lg_rowL _ hu) fun u hu => lg_rowL (fun j => lg bs (j * L + t)) hu
      clear hel
      go_wp2_with fail
      refine hdot.mono ?_
      rintro e w3 ⟨rfl, hs3⟩
      rw [HVal.out]
      have hR3 := (hR.no hk6).no hs3.kp
      have x3 := hR3.cell hlt
      have x4 := hR3.frozen t
      have HN := hide ((hR3.set hlt (frE a L bs (x i) t) _ rfl).eq fun j _ => upS_step (frE a L bs (x i)) (fun _ => 0) t j)
      have HKN : Hid (Kp No w1 (w3.setCell ⟨gb, t, none⟩ (bv (frE a L bs (x i) t)))) := (hkw2.trans' hs3.kp).trans ((RowAt.kpset gb t _ w3).mono fun q hq => .inr (by rw [hq, HG.out]; exact Nat.le_refl _))
      clear hR hdot hR3
      generalize frE a L bs (x i) t = z at *
      go_wp2_with fail
      go_round
      case rel => exact ⟨t + 1, by omega, by go_num, HN.out, HKN.out⟩
      case measure => simp [intOf]; omega
    · obtain rfl : t = L := by omega
      have hR2 := hR.eq (t := frE a t bs (x i)) fun j hj => by unfold upS; rw [if_pos hj]
      clear hR
      go_wp2_with fail
      go_ret2
      exact ⟨_, _, _, rfl, (show Own _ _ _ _ _ from hR2).rebase fun b hb => by injection hb with hb; rw [← hb, HG.out]; exact HK5.out.size, HK5.out.trans' hkw⟩
end
end Go.Proofs.YtnfcfdhlmeimhaaGreat
