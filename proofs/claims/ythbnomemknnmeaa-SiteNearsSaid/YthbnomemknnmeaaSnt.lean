/- Law09's right and to, and the document's Spread, as contracts over memory. -/
import Derived.Test.YthbnomemknnmeaaSns
namespace Go.Proofs.Ythbnomemknnmeaa
open Go.RowKit
set_option linter.unusedVariables false
set_option linter.unusedSimpArgs false
set_option maxRecDepth 100000

theorem ret_bo {a b : Bool} (h : a = b) : Ending.returned (.bool a) = .returned (.bool b) := by rw [h]
set_option maxHeartbeats 4000000 in
theorem right_yes {w : World} {A : Option Addr} {n c : Nat} {X Y : Nat → Int} (hP : Rpts w A n X Y) (hG : ∀ j, j < n → Alw (X j) ∧ Alw (Y j)) (hn : n ≤ 60) : Calls Try.prog 14 #[.slice A n c] w fun e w' => e = .returned (.bool true) ∧ Kp No w w' := by
  have HR := hide (fun j (hj : j < n) w => rright_pt w (X j) (Y j) (hG j hj).1 (hG j hj).2)
  have HP := hide hP
  clear hP hG
  go_enter Try.func14, Try.ntmps14
  go_wp2_with fail
  go_loopw [3] (fun iv wr => ∃ i : Nat, i ≤ n ∧ iv = .int .i64 (i : Int) ∧ Kp No w wr) (fun iv _ => n - (intOf iv).toNat)
  case atStart => exact ⟨0, Nat.zero_le _, rfl, Kp.refl _ _⟩
  case round =>
    obtain ⟨i, hi, rfl, hk⟩ := hrel
    by_cases hlt : i < n
    · obtain ⟨B, off, rfl, p1, p2⟩ := (HP.out.no hk).at_ i hlt
      have hR := HR.out i hlt wr
      have HRR := hide hR
      generalize X i = x at p1 HRR
      generalize Y i = y at p2 HRR
      clear hR
      have h60 : i < 60 := by omega
      go_wp2_with fail
      refine HRR.out.mono ?_
      rintro e w1 ⟨rfl, hk1⟩
      go_wp2_with fail
      go_round
      case rel => exact ⟨i + 1, by omega, by go_num, hk.trans' hk1⟩
      case measure => simp [intOf]; omega
    · obtain rfl : i = n := by omega
      go_wp2_with fail
      go_ret
      exact ⟨ret_bo (decide_eq_true (by omega)), hk⟩
set_option maxHeartbeats 4000000 in
theorem right_no {w : World} {A : Option Addr} {n c : Nat} {X Y : Nat → Int} (hP : Rpts w A n X Y) (hG : ¬ ((∀ j, j < n → Alw (X j) ∧ Alw (Y j)) ∧ n ≤ 60)) : Calls Try.prog 14 #[.slice A n c] w fun e w' => e = .returned (.bool false) ∧ Kp No w w' := by
  have HG := hide hG
  have HP := hide hP
  clear hP hG
  go_enter Try.func14, Try.ntmps14
  go_wp2_with fail
  go_loopw [3] (fun iv wr => ∃ i : Nat, i ≤ n ∧ i ≤ 60 ∧ iv = .int .i64 (i : Int) ∧ Hid (∀ j, j < i → Alw (X j) ∧ Alw (Y j)) ∧ Kp No w wr) (fun iv _ => n - (intOf iv).toNat)
  case atStart => exact ⟨0, Nat.zero_le _, Nat.zero_le _, rfl, hide fun j hj => by omega, Kp.refl _ _⟩
  case round =>
    obtain ⟨i, hi, hi6, rfl, HA, hk⟩ := hrel
    by_cases hlt : i < n
    · by_cases h60 : i < 60
      · obtain ⟨B, off, rfl, p1, p2⟩ := (HP.out.no hk).at_ i hlt
        by_cases hg : Alw (X i) ∧ Alw (Y i)
        · have hR := rright_pt wr (X i) (Y i) hg.1 hg.2
          have HRR := hide hR
          have HN : Hid (∀ j, j < i + 1 → Alw (X j) ∧ Alw (Y j)) := hide fun j hj => by
            rcases Nat.lt_or_ge j i with g | g
            · exact HA.out j g
            · rw [show j = i by omega]; exact hg
          generalize X i = x at p1 HRR
          generalize Y i = y at p2 HRR
          clear hR hg
          go_wp2_with fail
          refine HRR.out.mono ?_
          rintro e w1 ⟨rfl, hk1⟩
          go_wp2_with fail
          go_round
          case rel => exact ⟨i + 1, by omega, by omega, by go_num, HN, hk.trans' hk1⟩
          case measure => simp [intOf]; omega
        · have hR := rright_no wr (X i) (Y i) hg
          have HRR := hide hR
          generalize X i = x at p1 HRR
          generalize Y i = y at p2 HRR
          clear hR hg
          go_wp2_with fail
          refine HRR.out.mono ?_
          rintro e w1 ⟨rfl, hk1⟩
          go_wp2_with fail
          go_ret
          exact ⟨rfl, hk.trans' hk1⟩
      · obtain rfl : i = 60 := by omega
        have hd : decide (n ≤ 60) = false := decide_eq_false (by omega)
        go_wp2_with fail
        go_ret
        exact ⟨ret_bo (decide_eq_false (by omega)), hk⟩
    · obtain rfl : i = n := by omega
      exact absurd ⟨HA.out, hi6⟩ HG.out
/-- The program's points. -/
def ptL (X Y : Nat → Int) (n : Nat) : List Value := (List.range n).map fun j => .complex .f64 (floatOfInt .f64 (X j)) (floatOfInt .f64 (Y j))
theorem ptL_succ (X Y : Nat → Int) (n : Nat) : ptL X Y (n + 1) = ptL X Y n ++ [.complex .f64 (floatOfInt .f64 (X n)) (floatOfInt .f64 (Y n))] := by unfold ptL; rw [List.range_succ, List.map_append]; rfl
theorem ptL_get (X Y : Nat → Int) {n j : Nat} (h : j < n) : (ptL X Y n)[j]? = some (.complex .f64 (floatOfInt .f64 (X j)) (floatOfInt .f64 (Y j))) := by unfold ptL; rw [List.getElem?_map, List.getElem?_range h]; rfl
/-- The program's points come back. -/
def ToPost (w : World) (n : Nat) (X Y : Nat → Int) (e : Ending) (w1 : World) : Prop := ∃ A c, e = .returned (.tuple #[.slice A n c, .bool true]) ∧ OwnT w1 w.heap.size 25 1 (.slice A n c) n (ptL X Y n) ∧ Kp No w w1
set_option maxHeartbeats 4000000 in
theorem to_any {w : World} {A : Option Addr} {n c : Nat} {X Y : Nat → Int} (hP : Rpts w A n X Y) (hG : ∀ j, j < n → Alw (X j) ∧ Alw (Y j)) (hn : n ≤ 60) : Calls Try.prog 15 #[.slice A n c] w (ToPost w n X Y) := by
  have HA := hide (fun j (hj : j < n) w => at_yes w (X j) (Y j) (hG j hj).1 (hG j hj).2)
  have HP := hide hP
  clear hP hG
  go_enter Try.func15, Try.ntmps15
  go_wp2_with fail
  go_loopw [4, 5] (fun ov iv wr => ∃ (i : Nat) (A1 : Option Addr) (c1 : Nat), i ≤ n ∧ ov = .slice A1 i c1 ∧ iv = .int .i64 (i : Int) ∧ OwnT wr w.heap.size 25 1 (.slice A1 i c1) i (ptL X Y i) ∧ Kp No w wr) (fun _ iv _ => n - (intOf iv).toNat)
  case atStart => exact ⟨0, none, 0, Nat.zero_le _, rfl, rfl, OwnT.nil _ _ _ _, Kp.refl _ _⟩
  case round =>
    obtain ⟨i, A1, c1, hi, rfl, rfl, hO, hk⟩ := hrel
    by_cases hlt : i < n
    · obtain ⟨B, off, rfl, p1, p2⟩ := (HP.out.no hk).at_ i hlt
      have hq := hide (fun r => Calls.quiet_of (w := wr) (n := r) (by have := HA.out i hlt (wr.drewN r); exact this.mono fun e w' ⟨h, hw⟩ => ⟨h, 0, hw.symm⟩))
      have HS := hide (ptL_succ X Y i)
      have HO := hide hO
      have HK := hide hk
      have hsz := hk.size
      have HSZ := hide hsz
      generalize floatOfInt .f64 (X i) = a at hq HS
      generalize floatOfInt .f64 (Y i) = b at hq HS
      generalize X i = x at p1 hq
      generalize Y i = y at p2 hq
      clear hO hk hsz
      go_wp2_with fail
      go_quiet ((go_at_call 6; with_reducible exact hq.out _))
      generalize hgq : wr.drewN nq = w1
      have hs1 : Sm wr w1 := ⟨nq, hgq.symm⟩
      have HO1 := hide (HO.out.no hs1.kp)
      have HK1 := hide (HK.out.trans' hs1.kp)
      have hsz1 : w.heap.size ≤ w1.heap.size := by have := hs1.size; have := HSZ.out; omega
      clear hgq p1 p2 hq HO HK
      have ho2 := HO1.out.no (Kp.alloc No w1 (.cells #[.complex .f64 a b] 25))
      have hk2 := HK1.out.al (.cells #[.complex .f64 a b] 25)
      have HK2 := hide hk2
      clear hk2
      go_wp2_with (first
        | (at_builtin
           refine wpList_appT ty_pt rfl (.tmp 30) (.tmp 32) _ rfl Try.underlying39 rfl ho2 _ _ rfl (nws_one (fresh_cell _ _ _) rfl) (by omega) ?hs ?_
           case hs => simp; omega
           intro A3 n3 c3 w5 hn3 ha
           have HN3 := hide hn3
           clear hn3))
      go_round
      case rel =>
        have hn3 := HN3.out
        subst hn3
        have hown := ha.own
        rw [← HS.out] at hown
        exact ⟨i + 1, A3, c3, by omega, rfl, by go_num, hown, ha.keeps ho2 HK2.out⟩
      case measure => simp [intOf]; omega
    · obtain rfl : i = n := by omega
      have HO := hide hO
      clear hO
      go_wp2_with fail
      go_ret2
      exact ⟨A1, c1, rfl, HO.out, hk⟩
theorem cells4 {W w1 : World} {oi oq B : Nat} {X Y Z T : Int} (hk : Kp No W w1) (h : W.cell? ⟨B, oi, none⟩ = some (.int .i64 X) ∧ W.cell? ⟨B, oi + 1, none⟩ = some (.int .i64 Y) ∧ W.cell? ⟨B, oq, none⟩ = some (.int .i64 Z) ∧ W.cell? ⟨B, oq + 1, none⟩ = some (.int .i64 T)) :
    w1.cell? ⟨B, oi, none⟩ = some (.int .i64 X) ∧ w1.cell? ⟨B, oi + 1, none⟩ = some (.int .i64 Y) ∧ w1.cell? ⟨B, oq, none⟩ = some (.int .i64 Z) ∧ w1.cell? ⟨B, oq + 1, none⟩ = some (.int .i64 T) := by
  obtain ⟨h4, h5, h6, h7⟩ := h
  exact ⟨hk.cell h4 fun f => f, hk.cell h5 fun f => f, hk.cell h6 fun f => f, hk.cell h7 fun f => f⟩
set_option maxHeartbeats 8000000 in
theorem rspread_any {w : World} {A : Option Addr} {n c : Nat} {X Y : Nat → Int} (hP : Rpts w A n X Y) (hG : ∀ j, j < n → Alw (X j) ∧ Alw (Y j)) (hn : n ≤ 60) :
    Calls Try.prog 19 #[.slice A n c] w fun e w' => e = .returned (.int .i64 (spO (fun i j => farZ (X i) (Y i) (X j) (Y j)) n n)) ∧ Kp No w w' := by
  obtain ⟨gg, hgg⟩ : ∃ gg : Nat → Nat → Int, gg = fun i j => farZ (X i) (Y i) (X j) (Y j) := ⟨_, rfl⟩
  have hF : ∀ p q, p < n → q < n → ∀ w, Calls Try.prog 11 #[rpV (X p) (Y p), rpV (X q) (Y q)] w fun e w' => e = .returned (.int .i64 (gg p q)) ∧ Kp No w w' := fun p q hp hq w => by
    rw [hgg]
    have a := hG p hp
    have b := hG q hq
    unfold Alw at a b
    exact rfar_any w (X p) (Y p) (X q) (Y q) (by omega) (by omega) (by omega)
  rw [← hgg]
  have HF := hide hF
  have HP := hide hP
  clear hF hP hG hgg
  go_enter Try.func19, Try.ntmps19
  go_wp2_with fail
  go_loopw [3, 4] (fun bv iv wr => ∃ i : Nat, i ≤ n ∧ bv = .int .i64 (spO gg n i) ∧ iv = .int .i64 (i : Int) ∧ Kp No w wr) (fun _ iv _ => n - (intOf iv).toNat)
  case atStart => exact ⟨0, Nat.zero_le _, rfl, rfl, Kp.refl _ _⟩
  case round =>
    obtain ⟨i, hin, rfl, rfl, hk0⟩ := hrel
    by_cases hlt : i < n
    · have HNX : Hid (spO gg n (i + 1) = spI gg i (spO gg n i) (n - (i + 1))) := by show spO gg n (i + 1) = _; rfl
      obtain ⟨b0, hb0⟩ : ∃ b0, b0 = spO gg n i := ⟨_, rfl⟩
      rw [← hb0] at HNX ⊢
      clear hb0
      rename World => wo
      go_wp2_with fail
      go_loopw [3, 5] (fun bv jv wr => ∃ q p : Nat, Hid (p = i + 1 + q) ∧ p ≤ n ∧ i < p ∧ bv = .int .i64 (spI gg i b0 q) ∧ jv = .int .i64 (p : Int) ∧ Kp No w wr) (fun _ jv _ => n - (intOf jv).toNat)
      case atStart => exact ⟨0, i + 1, rfl, by omega, by omega, rfl, by go_num, hk0⟩
      case round =>
        clear hk0
        obtain ⟨q, p, HPQ, hpn, hip, rfl, rfl, hk⟩ := hrel
        by_cases hlt2 : p < n
        · obtain ⟨B, off, rfl, p1, p2⟩ := (HP.out.no hk).at_ i hlt
          obtain ⟨B', off', hA', q1, q2⟩ := (HP.out.no hk).at_ p hlt2
          injection hA' with hA'
          injection hA' with hA' hA2
          subst hA' hA2
          have PP := hide (And.intro p1 (And.intro p2 (And.intro q1 q2)))
          have hFp := HF.out i p hlt hlt2
          have HFP := hide hFp
          have HS : Hid (spI gg i b0 (q + 1) = spS (spI gg i b0 q) (gg i p)) := by have := HPQ.out; show spI gg i b0 (q + 1) = _; rw [this]; rfl
          have HK := hide hk
          generalize X i = xi at PP HFP
          generalize Y i = yi at PP HFP
          generalize X p = xp at PP HFP
          generalize Y p = yp at PP HFP
          generalize gg i p = f at HFP HS
          generalize spI gg i b0 q = b at HS ⊢
          have HPN : Hid (p + 1 = i + 1 + (q + 1)) := hide (by have := HPQ.out; omega)
          clear p1 p2 q1 q2 hFp hk HPQ
          by_cases c1 : b < 0
          · have HE : Hid (f = spI gg i b0 (q + 1)) := by show _ = _; rw [HS.out]; unfold spS; rw [if_pos c1]
            have hd : decide (b < 0) = true := decide_eq_true c1
            obtain ⟨p1, p2, q1, q2⟩ := PP.out
            go_wp2_with fail
            go_quiet (fail)
            clear p1 p2 q1 q2
            have PP2 := hide (cells4 ((Kp.refl No wr).drewN nq) PP.out)
            have HK2 := hide (HK.out.drewN nq)
            clear PP HK
            generalize wr.drewN nq = w1 at PP2 HK2 ⊢
            go_wp2_with fail
            go_region_held3 (fun w' => w'.cell? ⟨B, off + i * 2, none⟩ = some (.int .i64 xi) ∧ w'.cell? ⟨B, off + i * 2 + 1, none⟩ = some (.int .i64 yi) ∧ w'.cell? ⟨B, off + p * 2, none⟩ = some (.int .i64 xp) ∧ w'.cell? ⟨B, off + p * 2 + 1, none⟩ = some (.int .i64 yp))
              (first | assumption | exact cells4 ((Kp.refl No _).drew) PP2.out | go_keep)
              (first | (go_at_call 11; ((with_reducible refine (HFP.out _).mono ?_); rintro e w5 ⟨rfl, hk5⟩); have s5 := cells4 ((Kp.refl No _).drew.trans' hk5) PP2.out))
            go_wp2_with fail
            go_round
            case rel => exact ⟨q + 1, p + 1, HPN, by omega, by omega, by rw [HE.out], by go_num, (HK2.out.drew).trans' hk5⟩
            case measure => simp [intOf]; omega
          · have hd : decide (b < 0) = false := decide_eq_false c1
            by_cases c2 : f < b
            · have HE : Hid (f = spI gg i b0 (q + 1)) := by show _ = _; rw [HS.out]; unfold spS; rw [if_neg c1, if_pos c2]
              have hd2 : decide (f < b) = true := decide_eq_true c2
              go_wp2_with fail
              go_region_held3 (fun w' => w'.cell? ⟨B, off + i * 2, none⟩ = some (.int .i64 xi) ∧ w'.cell? ⟨B, off + i * 2 + 1, none⟩ = some (.int .i64 yi) ∧ w'.cell? ⟨B, off + p * 2, none⟩ = some (.int .i64 xp) ∧ w'.cell? ⟨B, off + p * 2 + 1, none⟩ = some (.int .i64 yp))
                (first | assumption | exact cells4 ((Kp.refl No _).drew) PP.out | go_keep)
                (first | (go_at_call 11; ((with_reducible refine (HFP.out _).mono ?_); rintro e w5 ⟨rfl, hk5⟩); have s5 := cells4 ((Kp.refl No _).drew.trans' hk5) PP.out))
              clear s5
              have PP2 := hide (cells4 ((Kp.refl No _).drew.trans' hk5) PP.out)
              have HK2 := hide ((HK.out.drew).trans' hk5)
              clear PP HK hk5
              go_wp2_with fail
              go_region_held3 (fun w' => w'.cell? ⟨B, off + i * 2, none⟩ = some (.int .i64 xi) ∧ w'.cell? ⟨B, off + i * 2 + 1, none⟩ = some (.int .i64 yi) ∧ w'.cell? ⟨B, off + p * 2, none⟩ = some (.int .i64 xp) ∧ w'.cell? ⟨B, off + p * 2 + 1, none⟩ = some (.int .i64 yp))
                (first | assumption | exact cells4 ((Kp.refl No _).drew) PP2.out | go_keep)
                (first | (go_at_call 11; ((with_reducible refine (HFP.out _).mono ?_); rintro e w6 ⟨rfl, hk6⟩); have s6 := cells4 ((Kp.refl No _).drew.trans' hk6) PP2.out))
              go_wp2_with fail
              go_round
              case rel => exact ⟨q + 1, p + 1, HPN, by omega, by omega, by rw [HE.out], by go_num, (HK2.out.drew).trans' hk6⟩
              case measure => simp [intOf]; omega
            · have HE : Hid (b = spI gg i b0 (q + 1)) := by show _ = _; rw [HS.out]; unfold spS; rw [if_neg c1, if_neg c2]
              have hd2 : decide (f < b) = false := decide_eq_false c2
              go_wp2_with fail
              go_region_held3 (fun w' => w'.cell? ⟨B, off + i * 2, none⟩ = some (.int .i64 xi) ∧ w'.cell? ⟨B, off + i * 2 + 1, none⟩ = some (.int .i64 yi) ∧ w'.cell? ⟨B, off + p * 2, none⟩ = some (.int .i64 xp) ∧ w'.cell? ⟨B, off + p * 2 + 1, none⟩ = some (.int .i64 yp))
                (first | assumption | exact cells4 ((Kp.refl No _).drew) PP.out | go_keep)
                (first | (go_at_call 11; ((with_reducible refine (HFP.out _).mono ?_); rintro e w5 ⟨rfl, hk5⟩); have s5 := cells4 ((Kp.refl No _).drew.trans' hk5) PP.out))
              go_wp2_with fail
              go_round
              case rel => exact ⟨q + 1, p + 1, HPN, by omega, by omega, by rw [HE.out], by go_num, (HK.out.drew).trans' hk5⟩
              case measure => simp [intOf]; omega
        · obtain rfl : p = n := by omega
          have HE : Hid (spI gg i b0 q = spO gg p (i + 1)) := by show _ = _; rw [HNX.out]; congr 1; have := HPQ.out; omega
          go_wp2_with fail
          go_round
          case rel => exact ⟨i + 1, by omega, by rw [HE.out], by go_num, hk⟩
          case measure => simp [intOf]; omega
    · obtain rfl : i = n := by omega
      go_wp2_with fail
      go_ret
      exact ⟨rfl, hk0⟩
end Go.Proofs.Ythbnomemknnmeaa
