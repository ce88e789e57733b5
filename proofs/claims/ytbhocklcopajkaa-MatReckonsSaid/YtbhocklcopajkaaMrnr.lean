/- MatReckons, one of six ways: the product and the sum of any two matrices, or that they do not fit, one turned, and any rows picked. -/
import Derived.Test.YtbhocklcopajkaaMrp
namespace Go.Proofs.Ytbhocklcopajkaa
open Go.RowKit
set_option linter.unusedVariables false
set_option linter.unusedSimpArgs false

section
variable {w : World} {A1 A2 A3 : Option Addr} {n1 n2 n3 c1 c2 p1 p2 p3 : Nat} {l1 l2 : List (List UInt8)} {zs : List Int}

set_option maxHeartbeats 16000000 in
set_option maxRecDepth 100000 in
theorem reck_nr (h1 : Rws w A1 n1 l1) (hS1 : Sml l1 n1 c1) (h2 : Rws w A2 n2 l2) (hS2 : Sml l2 n2 c2) (hz : Ints w A3 n3 zs) (h80 : n3 ≤ 80) (hF : c1 ≠ n2) (ha : n1 ≠ n2)  : Calls Try.prog 5 #[.slice A1 n1 p1, .slice A2 n2 p2, .slice A3 n3 p3] w (TBel w) := by
  have HA : Hid (szB n1 c1 n2 c2 = false) := by show szB n1 c1 n2 c2 = false; unfold szB; rw [decide_eq_false_iff_not]; omega
  have ha0 : ((n1 : Int) == (n2 : Int)) = false := by simp; omega
  clear ha
  have hf0 : ((c1 : Int) == (n2 : Int)) = false := by simp; omega
  have HF := hide hF
  clear hF
  have q1 := small_yes (cp := p1) h1 hS1
  have q2 := fun w' (hs : Sm w w') => small_yes (cp := p2) (h2.no hs.kp) hS2
  have t1 := fun w' (hs : Kp No w w') => of_yes (cp := p1) (h1.no hs) hS1.rect
  have t2 := fun w' (hs : Kp No w w') => of_yes (cp := p2) (h2.no hs) hS2.rect
  have z1 : 1 ≤ n1 := hS1.rect.r1
  have z2 : 1 ≤ n2 := hS2.rect.r1
  have z3 : n1 ≤ 9 := hS1.r9
  have z4 : n2 ≤ 9 := hS2.r9
  have y1 : 1 ≤ c1 := hS1.rect.c1
  have y2 : c1 ≤ 9 := hS1.c9
  have y3 : c2 ≤ 9 := hS2.c9
  obtain ⟨B1, o1, A1', cp1, rfl, d1, b1, hb1, bt1⟩ := h1.first hS1.rect
  obtain ⟨B2, o2, A2', cp2, rfl, d2, b2, hb2, bt2⟩ := h2.first hS2.rect
  have Q2 := hide q2
  have T1 := hide t1
  have T2 := hide t2
  have HB1 := hide hb1
  have HB2 := hide hb2
  have HZL := hide hz.len
  clear q2 t1 t2 hb1 hb2
  go_enter Try.func5, Try.ntmps5
  go_wp2_with fail
  refine (q1).mono ?_
  rintro e w1 ⟨rfl, hs1⟩
  go_wp2_with fail
  refine (Q2.out w1 hs1).mono ?_
  rintro e w2 ⟨rfl, hs2⟩
  have k2 : Kp No w w2 := (hs1.trans hs2).kp
  go_wp2_with fail
  refine (T1.out _ k2).mono ?_
  rintro e w3 ⟨x, rfl, X3, _, _, j3⟩
  have k3 := k2.trans' j3
  go_wp2_with fail
  refine (T2.out _ k3).mono ?_
  rintro e w4 ⟨y, rfl, Y4, _, _, j4⟩
  have k4 := k3.trans' j4
  have X4 := X3.no j4
  go_wp2_with fail
  refine (mul_no X4 Y4 HF.out).mono ?_
  rintro e w8 ⟨rfl, j8⟩
  have k8 := k4.trans' j8
  have X8 := X4.no j8
  have Y8 := Y4.no j8
  have e1 : w8.cell? ⟨B1, o1, none⟩ = some (.slice A1' c1 cp1) := k8.cell d1 fun f => f
  go_wp2_with fail
  refine (add_no X8 Y8 HA.out).mono ?_
  rintro e w9 ⟨rfl, j9⟩
  have k9 := k8.trans' j9
  have X9 := X8.no j9
  clear e1
  have e1 : w9.cell? ⟨B1, o1, none⟩ = some (.slice A1' c1 cp1) := k9.cell d1 fun f => f
  have e2 : w9.cell? ⟨B2, o2, none⟩ = some (.slice A2' c2 cp2) := k9.cell d2 fun f => f
  go_wp2_with fail
  go_quiet (fail)
  go_wp2_with fail
  generalize hgen : World.drewN w9 _ = w10
  have hs10 : Sm w9 w10 := ⟨_, hgen.symm⟩
  clear hgen
  have k10 := k9.trans' hs10.kp
  have X10 := X9.sm hs10
  clear e1 e2
  go_loopw [17] (fun i wr => i = .int .i64 (0 : Int) ∧ wr = w10) (fun i _ => 0)
  case atStart => exact ⟨rfl, rfl⟩
  case round =>
    obtain ⟨rfl, rfl⟩ := hrel
    have kL := k10
    have XL := X10
    generalize wr = wL at *
    go_wp2_with fail
    go_loopw [19, 20, 21] (fun v b i wr => ∃ (k : Nat) (A' : Option Addr) (n' cp' : Nat) (ok : Bool) (vs : List Value), k ≤ n3 ∧ i = .int .i64 (k : Int) ∧ v = .slice A' n' cp' ∧ b = .bool ok ∧ PW wL n1 c1 (fnL l1) zs k ok (.slice A' n' cp') vs wr) (fun _ _ i _ => n3 - (intOf i).toNat)
    case atStart => exact ⟨0, none, 0, 0, true, [], Nat.zero_le _, rfl, rfl, rfl, (fun _ => ⟨fun j z hj => by omega, OwnV.nil _ _, rfl, (fun j u hj => by simp at hj), Kp.refl _ _⟩), (fun h => by cases h), Kp.refl _ _⟩
    case round =>
      obtain ⟨k, A', n', cp', ok, vs, hk3, rfl, rfl, rfl, hW⟩ := hrel
      have kr := kL.trans' hW.kp
      by_cases hl3 : k < n3
      · obtain ⟨B5, o5, z, hA3, hzk, hcz⟩ := (hz.no kr).get hl3
        subst hA3
        cases ok
        · clear hzk
          go_wp2_with fail
          go_round
          case rel => exact ⟨k + 1, A', n', cp', false, vs, by omega, by go_num, rfl, rfl, (fun h => by cases h), (fun _ => hW.no rfl), hW.kp⟩
          case measure => simp [intOf]; omega
        · obtain ⟨hall, hI⟩ := hW.yes rfl
          by_cases hin : 0 ≤ z ∧ z < n1
          · obtain ⟨j, rfl⟩ : ∃ j : Nat, z = j := ⟨z.toNat, by omega⟩
            have hj : j < n1 := by omega
            obtain ⟨B6, o6, A7, m7, cp7, b7, hA6, hc6, hb7, bt7⟩ := (h1.no kL).get hj
            injection hA6 with hA6
            injection hA6 with hA61 hA62
            subst hA61 hA62
            have hc6' : wr.cell? ⟨B1, o1 + j, none⟩ = some (.slice A7 m7 cp7) := hW.kp.cell hc6 fun f => f
            have HBT : Hid (Bts wL (.slice A7 m7 cp7) (rowL c1 (fnL l1 (j : Int).toNat))) := by
              show Bts wL (.slice A7 m7 cp7) (rowL c1 (fnL l1 (j : Int).toNat))
              rw [Int.toNat_natCast, row_of_rect hS1.rect hb7]
              exact bt7
            have HZ := hide hzk
            have HALL := hide hall
            clear hzk hall hin hb7 hc6
            have hlen : vs.length ≤ 1000000 := by rw [hI.len]; omega
            have hsz := hW.kp.size
            have ho2 : OwnV (wr.alloc (.cells #[.slice A7 m7 cp7] 34)) wL.heap.size (.slice A' n' cp') vs := hI.own.no (Kp.alloc No _ _)
            go_wp2_with (first
              | (at_builtin
                 refine wpList_appV rfl (.tmp 188) (.tmp 196) _ rfl Try.underlying22 rfl ho2 _ rfl (fresh_cell _ _ _) rfl rfl hlen ?hs ?_
                 case hs => simp; omega
                 intro A8 n8 c8 w8x ha))
            go_round
            case rel =>
              have hst := hI.step HZ.out HBT.out ha
              refine ⟨k + 1, A8, n8, c8, true, _, by omega, by go_num, rfl, rfl, (fun _ => ⟨fun q z hq hzq => ?_, hst⟩), (fun h => by cases h), hst.kp⟩
              rcases Nat.lt_or_ge q k with g | g
              · exact HALL.out q z g hzq
              · obtain rfl : q = k := by omega
                have := HZ.out
                rw [hzq] at this
                injection this with this
                omega
            case measure => simp [intOf]; omega
          · have HBAD : Hid (∃ (q : Nat) (z : Int), zs[q]? = some z ∧ (z < 0 ∨ (n1 : Int) ≤ z)) := ⟨k, z, hzk, by omega⟩
            have hcase : z < 0 ∨ (0 ≤ z ∧ (n1 : Int) ≤ z) := by omega
            clear hzk hin
            have hd : 0 ≤ z → decide (z < (n1 : Int)) = false := fun h => by simp; omega
            rcases hcase with h0 | ⟨h0, h0'⟩
            all_goals
              first | (have hd2 := hd (by assumption)) | skip
              clear hd
              go_wp2_with fail
              go_round
              case rel => exact ⟨k + 1, A', n', cp', false, vs, by omega, by go_num, rfl, rfl, (fun h => by cases h), (fun _ => HBAD.out), hW.kp⟩
              case measure => simp [intOf]; omega
      · have hkn3 : k = n3 := by omega
        subst hkn3
        have Xr := XL.no hW.kp
        cases ok
        · obtain ⟨q, z, hzq, hbad⟩ := hW.no rfl
          have HZQ := hide hzq
          have HBAD := hide hbad
          clear hzq hbad
          go_wp2_with fail
          refine (pick_bad Xr (hz.no kr) (by omega) q z HZQ.out HBAD.out).mono ?_
          rintro e w30 ⟨rfl, j30⟩
          have k30 := kr.trans' j30
          have X30 := Xr.no j30
          go_wp2_with fail
          have f1 : w30.cell? ⟨B1, o1, none⟩ = some (.slice A1' c1 cp1) := k30.cell d1 fun f => f
          have f2 : w30.cell? ⟨B2, o2, none⟩ = some (.slice A2' c2 cp2) := k30.cell d2 fun f => f
          have X31 := X30.sm (Sm.drew w30)
          have k31 := k30.trans' (Sm.drew w30).kp
          have hi1 : 0 < n1 := by omega
          have hi2 : 0 < n2 := by omega
          have hl1 : b1.length ≤ 1000000000000 := by rw [hS1.rect.row 0 b1 HB1.out]; omega
          have hl2 : b2.length ≤ 1000000000000 := by rw [hS2.rect.row 0 b2 HB2.out]; omega
          go_region_held3 (fun w' => w'.cell? ⟨B1, o1, none⟩ = some (.slice A1' c1 cp1) ∧ w'.cell? ⟨B2, o2, none⟩ = some (.slice A2' c2 cp2)) (first | assumption | exact ⟨f1, f2⟩ | go_keep)
            (first
              | (go_at_call 26; ((with_reducible refine (turned_any X31).mono ?_); rintro e w32 ⟨xt, rfl, XT, _, _, j32⟩); have g32 := kept2 j32 ⟨f1, f2⟩)
              | (go_at_call 11; ((with_reducible refine (rows_any XT).mono ?_); rintro e w33 ⟨A33, cp33, rfl, R33, j33⟩); have g33 := kept2 j33 g32)
              | (go_at_call 29; ((with_reducible refine (rturned_any (h1.no (k31.trans' (j32.trans' j33))) hS1.rect).mono ?_); rintro e w34 ⟨A34, cp34, bl34, rfl, G34, j34⟩); have g34 := kept2 j34 g33)
              | (go_at_call 10; ((with_reducible refine (grid_same (R33.no j34) G34 (by omega) (by omega)).mono ?_); rintro e w35 ⟨rfl, s35⟩); have g35 := kept2 s35.kp g34; have k35 := (k31.trans' (j32.trans' j33)).trans' (j34.trans' s35.kp))
              | (go_at_call 30; ((with_reducible refine (dot_any (bt1.no k35) (bt2.no k35) _ rfl hl1 hl2).mono ?_); rintro e w36 ⟨rfl, s36⟩); have g36 := kept2 s36.kp g35; have k36 := k35.trans' s36.kp)
              | (go_at_call 31; ((with_reducible refine (rdot_any (bt1.no k36) (bt2.no k36) _ rfl hl1 hl2).mono ?_); rintro e w37 ⟨rfl, s37⟩); have g37 := kept2 s37.kp g36; have k37 := k36.trans' s37.kp)
              | (go_at_call 7; ((with_reducible refine (awake_any _).mono ?_); rintro e w38 ⟨rfl, j38⟩); have g38 := kept2 j38 g37; have k38 := k37.trans' j38))
          go_wp2_with fail
          go_ret
          exact ⟨rfl, k38.below0⟩
        · obtain ⟨hall, hI⟩ := hW.yes rfl
          have HALL : Hid (∀ (j : Nat) z, zs[j]? = some z → 0 ≤ z ∧ z < n1) := fun j z hj => hall j z (by have := HZL.out; have := (List.getElem?_eq_some_iff.1 hj).1; omega) hj
          have hn' : n' = k := by rw [hI.own.len, hI.len]
          subst hn'
          have R := hI.rws HZL.out
          clear hall
          by_cases hsz : 1 ≤ n' ∧ n' ≤ 64
          · have HR : Hid (Rect (pickL c1 (fnL l1) zs) n' c1) := by
              show Rect (pickL c1 (fnL l1) zs) n' c1
              have := pickL_rect (c := c1) (f := fnL l1) (zs := zs) (by have := HZL.out; omega) (by have := HZL.out; omega) (by omega) (by omega)
              rwa [← HZL.out] at this
            go_wp2_with fail
            refine (pick_yes Xr (hz.no kr) HALL.out hsz.1 hsz.2).mono ?_
            rintro e w28 ⟨qm, rfl, QM, _, _, j28⟩
            go_wp2_with fail
            refine (right_yes (R.no j28) HR.out).mono ?_
            rintro e w29 ⟨rfl, s29⟩
            go_wp2_with fail
            refine (rows_any (QM.sm s29)).mono ?_
            rintro e w29b ⟨A29, cp29, rfl, R29, j29⟩
            go_wp2_with fail
            refine (rsame_true R29 ((R.no j28).no (s29.kp.trans' j29)) (by omega) (by omega) (matL_fnL HR.out)).mono ?_
            rintro e w30 ⟨rfl, s30⟩
            have j30 := ((j28.trans' s29.kp).trans' j29).trans' s30.kp
            have k30 := kr.trans' j30
            have X30 := Xr.no j30
            go_wp2_with fail
            have f1 : w30.cell? ⟨B1, o1, none⟩ = some (.slice A1' c1 cp1) := k30.cell d1 fun f => f
            have f2 : w30.cell? ⟨B2, o2, none⟩ = some (.slice A2' c2 cp2) := k30.cell d2 fun f => f
            have X31 := X30.sm (Sm.drew w30)
            have k31 := k30.trans' (Sm.drew w30).kp
            have hi1 : 0 < n1 := by omega
            have hi2 : 0 < n2 := by omega
            have hl1 : b1.length ≤ 1000000000000 := by rw [hS1.rect.row 0 b1 HB1.out]; omega
            have hl2 : b2.length ≤ 1000000000000 := by rw [hS2.rect.row 0 b2 HB2.out]; omega
            go_region_held3 (fun w' => w'.cell? ⟨B1, o1, none⟩ = some (.slice A1' c1 cp1) ∧ w'.cell? ⟨B2, o2, none⟩ = some (.slice A2' c2 cp2)) (first | assumption | exact ⟨f1, f2⟩ | go_keep)
              (first
                | (go_at_call 26; ((with_reducible refine (turned_any X31).mono ?_); rintro e w32 ⟨xt, rfl, XT, _, _, j32⟩); have g32 := kept2 j32 ⟨f1, f2⟩)
                | (go_at_call 11; ((with_reducible refine (rows_any XT).mono ?_); rintro e w33 ⟨A33, cp33, rfl, R33, j33⟩); have g33 := kept2 j33 g32)
                | (go_at_call 29; ((with_reducible refine (rturned_any (h1.no (k31.trans' (j32.trans' j33))) hS1.rect).mono ?_); rintro e w34 ⟨A34, cp34, bl34, rfl, G34, j34⟩); have g34 := kept2 j34 g33)
                | (go_at_call 10; ((with_reducible refine (grid_same (R33.no j34) G34 (by omega) (by omega)).mono ?_); rintro e w35 ⟨rfl, s35⟩); have g35 := kept2 s35.kp g34; have k35 := (k31.trans' (j32.trans' j33)).trans' (j34.trans' s35.kp))
                | (go_at_call 30; ((with_reducible refine (dot_any (bt1.no k35) (bt2.no k35) _ rfl hl1 hl2).mono ?_); rintro e w36 ⟨rfl, s36⟩); have g36 := kept2 s36.kp g35; have k36 := k35.trans' s36.kp)
                | (go_at_call 31; ((with_reducible refine (rdot_any (bt1.no k36) (bt2.no k36) _ rfl hl1 hl2).mono ?_); rintro e w37 ⟨rfl, s37⟩); have g37 := kept2 s37.kp g36; have k37 := k36.trans' s37.kp)
                | (go_at_call 7; ((with_reducible refine (awake_any _).mono ?_); rintro e w38 ⟨rfl, j38⟩); have g38 := kept2 j38 g37; have k38 := k37.trans' j38))
            go_wp2_with fail
            go_ret
            exact ⟨rfl, k38.below0⟩
          · have HR : Hid (¬ Rect (pickL c1 (fnL l1) zs) n' (len0 (pickL c1 (fnL l1) zs))) := fun h => hsz ⟨h.r1, h.r2⟩
            have HSZ := hide hsz
            clear hsz
            go_wp2_with fail
            refine (pick_size Xr (hz.no kr) (by omega) HALL.out HSZ.out).mono ?_
            rintro e w28 ⟨rfl, j28⟩
            go_wp2_with fail
            refine (right_no (R.no j28) HR.out).mono ?_
            rintro e w30 ⟨rfl, s30⟩
            have j30 := j28.trans' s30.kp
            have k30 := kr.trans' j30
            have X30 := Xr.no j30
            go_wp2_with fail
            have f1 : w30.cell? ⟨B1, o1, none⟩ = some (.slice A1' c1 cp1) := k30.cell d1 fun f => f
            have f2 : w30.cell? ⟨B2, o2, none⟩ = some (.slice A2' c2 cp2) := k30.cell d2 fun f => f
            have X31 := X30.sm (Sm.drew w30)
            have k31 := k30.trans' (Sm.drew w30).kp
            have hi1 : 0 < n1 := by omega
            have hi2 : 0 < n2 := by omega
            have hl1 : b1.length ≤ 1000000000000 := by rw [hS1.rect.row 0 b1 HB1.out]; omega
            have hl2 : b2.length ≤ 1000000000000 := by rw [hS2.rect.row 0 b2 HB2.out]; omega
            go_region_held3 (fun w' => w'.cell? ⟨B1, o1, none⟩ = some (.slice A1' c1 cp1) ∧ w'.cell? ⟨B2, o2, none⟩ = some (.slice A2' c2 cp2)) (first | assumption | exact ⟨f1, f2⟩ | go_keep)
              (first
                | (go_at_call 26; ((with_reducible refine (turned_any X31).mono ?_); rintro e w32 ⟨xt, rfl, XT, _, _, j32⟩); have g32 := kept2 j32 ⟨f1, f2⟩)
                | (go_at_call 11; ((with_reducible refine (rows_any XT).mono ?_); rintro e w33 ⟨A33, cp33, rfl, R33, j33⟩); have g33 := kept2 j33 g32)
                | (go_at_call 29; ((with_reducible refine (rturned_any (h1.no (k31.trans' (j32.trans' j33))) hS1.rect).mono ?_); rintro e w34 ⟨A34, cp34, bl34, rfl, G34, j34⟩); have g34 := kept2 j34 g33)
                | (go_at_call 10; ((with_reducible refine (grid_same (R33.no j34) G34 (by omega) (by omega)).mono ?_); rintro e w35 ⟨rfl, s35⟩); have g35 := kept2 s35.kp g34; have k35 := (k31.trans' (j32.trans' j33)).trans' (j34.trans' s35.kp))
                | (go_at_call 30; ((with_reducible refine (dot_any (bt1.no k35) (bt2.no k35) _ rfl hl1 hl2).mono ?_); rintro e w36 ⟨rfl, s36⟩); have g36 := kept2 s36.kp g35; have k36 := k35.trans' s36.kp)
                | (go_at_call 31; ((with_reducible refine (rdot_any (bt1.no k36) (bt2.no k36) _ rfl hl1 hl2).mono ?_); rintro e w37 ⟨rfl, s37⟩); have g37 := kept2 s37.kp g36; have k37 := k36.trans' s37.kp)
                | (go_at_call 7; ((with_reducible refine (awake_any _).mono ?_); rintro e w38 ⟨rfl, j38⟩); have g38 := kept2 j38 g37; have k38 := k37.trans' j38))
            go_wp2_with fail
            go_ret
            exact ⟨rfl, k38.below0⟩
end
end Go.Proofs.Ytbhocklcopajkaa
