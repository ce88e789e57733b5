/- Package slices' merge by symmetric comparisons where one block is of one number, as a contract over memory. -/
import Derived.Test.YthbnomemknnmeaaSsr
namespace Go.Proofs.Ythbnomemknnmeaa
open Go.RowKit
set_option linter.unusedVariables false
set_option linter.unusedSimpArgs false
set_option maxRecDepth 100000

/-- A search, whose row is as it was: below i all are less, from j on none. -/
structure SeI (w : World) (b n : Nat) (k : Nat → Int) (d : Nat → Nat) (x lw hg i j : Nat) (wr : World) : Prop where
  row : IRow wr b n d
  lo : lw ≤ i
  le : i ≤ j
  hi : j ≤ hg
  yes : i = lw ∨ soL k (d (i - 1)) (d x)
  no : j = hg ∨ soL k (d x) (d j)
  kp : Kp (On b) w wr
theorem SeI.up {w wr : World} {b n x lo hi i j h : Nat} {k : Nat → Int} {d : Nat → Nat} (g : SeI w b n k d x lo hi i j wr) (h1 : i ≤ h) (h2 : h < j) (hl : soL k (d h) (d x)) (r : Nat) : SeI w b n k d x lo hi (h + 1) j (wr.drewN r) :=
  ⟨g.row.no ((Kp.refl No _).drewN r), by have := g.lo; omega, by omega, g.hi, .inr hl, g.no, g.kp.drewN r⟩
theorem SeI.down {w wr : World} {b n x lo hi i j h : Nat} {k : Nat → Int} {d : Nat → Nat} (g : SeI w b n k d x lo hi i j wr) (h1 : i ≤ h) (h2 : h < j) (hl : soL k (d x) (d h)) (r : Nat) : SeI w b n k d x lo hi i h (wr.drewN r) :=
  ⟨g.row.no ((Kp.refl No _).drewN r), g.lo, h1, by have := g.hi; omega, g.yes, .inr hl, g.kp.drewN r⟩
set_option maxHeartbeats 4000000 in
/-- The left block is of one number. -/
theorem mg_left {w : World} {b n cp bf bl : Nat} {d : Nat → Nat} {k : Nat → Int} (h : IRow w b n d) (hd : ∀ i, i < n → d i < n) (hC : CmpAt bf bl k n b w) (a m e : Nat) (h1 : m = a + 1) (h2 : m < e) (h3 : e ≤ n) (hn : n ≤ 1000) (hs : soS k d m e) (hb : soB d a m e) : Calls Try.prog 29 #[.slice (some ⟨b, 0, none⟩) n cp, .int .i64 (a : Int), .int .i64 (m : Int), .int .i64 (e : Int), nearV bf bl] w (SoPost w b n k d a e) := by
  have h0 : SeI w b n k d a m e m e w := ⟨h, Nat.le_refl _, by omega, Nat.le_refl _, .inl rfl, .inl rfl, Kp.refl _ _⟩
  have HC := hide hC
  have HD := hide hd
  have HB := hide hb
  have HS0 := hide hs
  have zm : (m : Int) - (a : Int) = 1 := by omega
  have HM := hide h1
  have ham : a < m := by omega
  clear h hC hd hb hs h1
  go_enter Try.func29, Try.ntmps29
  go_wp2_with fail
  go_loopw [10, 11] (fun iv jv wr => ∃ i j : Nat, iv = .int .i64 (i : Int) ∧ jv = .int .i64 (j : Int) ∧ SeI w b n k d a m e i j wr) (fun iv jv _ => (intOf jv).toNat - (intOf iv).toNat)
  case atStart => exact ⟨m, e, by rfl, by rfl, h0⟩
  case round =>
    clear h0
    obtain ⟨i, j, rfl, rfl, hS⟩ := hrel
    have hlo := hS.lo
    have hle := hS.le
    have hhi := hS.hi
    by_cases hlt : i < j
    · obtain ⟨h, hh⟩ : ∃ h, h = (i + j) / 2 := ⟨_, rfl⟩
      have zh : ((i : Int) + (j : Int)) / 2 = (h : Int) := by omega
      have hih : i ≤ h := by omega
      have hhj : h < j := by omega
      clear hh
      obtain ⟨u, hu⟩ : ∃ u, d h = u := ⟨_, rfl⟩
      obtain ⟨v, hv⟩ : ∃ v, d a = v := ⟨_, rfl⟩
      have x1 := hS.row.cellv (show h < n by omega) hu
      have x2 := hS.row.cellv (show a < n by omega) hv
      have hun : u < n := by rw [← hu]; exact HD.out h (by omega)
      have hvn : v < n := by rw [← hv]; exact HD.out a (by omega)
      have hq := hide (HC.out.q hS.kp hun hvn)
      have HLT := hide (HB.out a h (Nat.le_refl _) ham (by omega) (by omega))
      rw [hu, hv] at HLT
      have HU := hide hu
      have HV := hide hv
      have HS := hide hS
      clear hu hv hS hun hvn
      by_cases hlt2 : k u < k v
      · have hdec : decide (cmpZ (k u) (k v) < 0) = true := by rw [cmpZ_lt]; exact decide_eq_true hlt2
        have HUP := hide hlt2
        generalize cmpZ (k u) (k v) = c at hdec hq
        clear hlt2
        go_wp2_with fail
        go_quiet ((go_at_call 24; with_reducible exact hq.out _))
        clear x1 x2 hq
        go_wp2_with fail
        go_round
        case rel => exact ⟨h + 1, j, by go_num, by rfl, HS.out.up hih hhj (by rw [HU.out, HV.out]; exact .inl HUP.out) nq⟩
        case measure => simp [intOf]; omega
      · have hdec : decide (cmpZ (k u) (k v) < 0) = false := by rw [cmpZ_lt]; exact decide_eq_false hlt2
        have HUP := hide hlt2
        generalize cmpZ (k u) (k v) = c at hdec hq
        clear hlt2
        go_wp2_with fail
        go_quiet ((go_at_call 24; with_reducible exact hq.out _))
        clear x1 x2 hq
        go_wp2_with fail
        go_round
        case rel => exact ⟨i, h, by rfl, by rfl, HS.out.down hih hhj (by rw [HU.out, HV.out]; exact (soL.of_not HLT.out).2 (by have := HUP.out; omega)) nq⟩
        case measure => simp [intOf]; omega
    · obtain rfl : i = j := by omega
      rename World => wo
      have hSt : SwI w b n (soRot d a (a + 1) (a + 1)) wo := ⟨by rw [rot_none (.inr rfl) (by omega) (by omega)]; exact hS.row, hS.kp⟩
      have HFI := hide (ins_left (d := d) (k := k) (a := a) (b := e) (i := i) (HM.out ▸ HS0.out) (by have := HM.out; omega) hhi (by rw [← HM.out]; exact hS.yes) hS.no)
      clear hS hlt
      have hai : a < i := by omega
      go_wp2_with fail
      go_loopw [13] (fun kv wr => ∃ q : Nat, a ≤ q ∧ q + 1 ≤ i ∧ kv = .int .i64 (q : Int) ∧ SwI w b n (soRot d a (a + 1) (q + 1)) wr) (fun kv _ => i - (intOf kv).toNat)
      case atStart => exact ⟨a, Nat.le_refl _, by omega, by rfl, hSt⟩
      case round =>
        clear hSt
        obtain ⟨q, haq, hqi, rfl, hS⟩ := hrel
        by_cases hlt : q + 1 < i
        · obtain ⟨r, hr⟩ : ∃ r, r = q + 1 := ⟨_, rfl⟩
          have zr : (q : Int) + 1 = (r : Int) := by omega
          have HX := hide (sw_rot_up (d := d) (a := a) (q := r) (by omega))
          rw [show r - 1 = q by omega] at HX
          have hrn : r < n := by omega
          have hqr : r = q + 1 := hr
          rw [← hr] at hS hlt
          have HQ := hide hqr
          have hqr2 : q < r := by omega
          clear hqr hr
          obtain ⟨u, hu⟩ : ∃ u, soRot d a (a + 1) r q = u := ⟨_, rfl⟩
          obtain ⟨v, hv⟩ : ∃ v, soRot d a (a + 1) r r = v := ⟨_, rfl⟩
          have x1 := hS.row.cellv (show q < n by omega) hu
          have x2 := hS.row.cellv (show r < n by omega) hv
          have xf := hS.row.frozen q
          have xf2 := hS.row.frozen r
          obtain ⟨vv, x3⟩ := hS.row.cell2 (show q < n by omega) (show r < n by omega) v
          have HW := hide (hS.row.swap (show q < n by omega) (show r < n by omega) hu hv)
          have HK := hide hS.kp
          clear hS hu hv
          go_wp2_with fail
          go_region
          clear x1 x2 x3 xf xf2
          have hI3 := HW.out.1
          have hk3 := HK.out.trans' HW.out.2
          clear HW HK
          generalize ((wr.setCell ⟨b, q, none⟩ (.int .i64 (v : Int))).setCell ⟨b, r, none⟩ (.int .i64 (u : Int))) = w2 at *
          go_wp2_with fail
          go_round
          case rel => exact ⟨r, by omega, by omega, by go_num, by rw [← HX.out]; exact hI3, hk3.drew⟩
          case measure => simp [intOf]; omega
        · obtain rfl : q + 1 = i := by omega
          go_wp2_with fail
          (first | go_end0 | refine bodyPost_ret (results_none rfl _ _ _) rfl ?_)
          exact ⟨rfl, _, hS.row, (rot_same (by omega) (by omega)).wide (Nat.le_refl _) (by omega), HFI.out, hS.kp⟩
set_option maxHeartbeats 4000000 in
/-- The right block is of one number. -/
theorem mg_right {w : World} {b n cp bf bl : Nat} {d : Nat → Nat} {k : Nat → Int} (h : IRow w b n d) (hd : ∀ i, i < n → d i < n) (hC : CmpAt bf bl k n b w) (a m e : Nat) (h1 : e = m + 1) (h2 : a + 2 ≤ m) (h3 : e ≤ n) (hn : n ≤ 1000) (hs : soS k d a m) (hb : soB d a m e) : Calls Try.prog 29 #[.slice (some ⟨b, 0, none⟩) n cp, .int .i64 (a : Int), .int .i64 (m : Int), .int .i64 (e : Int), nearV bf bl] w (SoPost w b n k d a e) := by
  have h0 : SeI w b n k d m a m a m w := ⟨h, Nat.le_refl _, by omega, Nat.le_refl _, .inl rfl, .inl rfl, Kp.refl _ _⟩
  have HC := hide hC
  have HD := hide hd
  have HB := hide hb
  have HS0 := hide hs
  have zm : (e : Int) - (m : Int) = 1 := by omega
  have HM := hide h1
  have hme : m < e := by omega
  have zne : ((m : Int) - (a : Int) == 1) = false := by simp; omega
  clear h hC hd hb hs h1
  go_enter Try.func29, Try.ntmps29
  go_wp2_with fail
  go_loopw [14, 15] (fun iv jv wr => ∃ i j : Nat, iv = .int .i64 (i : Int) ∧ jv = .int .i64 (j : Int) ∧ SeI w b n k d m a m i j wr) (fun iv jv _ => (intOf jv).toNat - (intOf iv).toNat)
  case atStart => exact ⟨a, m, by rfl, by rfl, h0⟩
  case round =>
    clear h0
    obtain ⟨i, j, rfl, rfl, hS⟩ := hrel
    have hlo := hS.lo
    have hle := hS.le
    have hhi := hS.hi
    by_cases hlt : i < j
    · obtain ⟨h, hh⟩ : ∃ h, h = (i + j) / 2 := ⟨_, rfl⟩
      have zh : ((i : Int) + (j : Int)) / 2 = (h : Int) := by omega
      have hih : i ≤ h := by omega
      have hhj : h < j := by omega
      clear hh
      obtain ⟨u, hu⟩ : ∃ u, d m = u := ⟨_, rfl⟩
      obtain ⟨v, hv⟩ : ∃ v, d h = v := ⟨_, rfl⟩
      have x1 := hS.row.cellv (show m < n by omega) hu
      have x2 := hS.row.cellv (show h < n by omega) hv
      have hun : u < n := by rw [← hu]; exact HD.out m (by omega)
      have hvn : v < n := by rw [← hv]; exact HD.out h (by omega)
      have hq := hide (HC.out.q hS.kp hun hvn)
      have HLT := hide (HB.out h m (by omega) (by omega) (Nat.le_refl _) hme)
      rw [hu, hv] at HLT
      have HU := hide hu
      have HV := hide hv
      have HS := hide hS
      clear hu hv hS hun hvn
      by_cases hlt2 : k u < k v
      · have hdec : decide (cmpZ (k u) (k v) < 0) = true := by rw [cmpZ_lt]; exact decide_eq_true hlt2
        have HUP := hide hlt2
        generalize cmpZ (k u) (k v) = c at hdec hq
        clear hlt2
        go_wp2_with fail
        go_quiet ((go_at_call 24; with_reducible exact hq.out _))
        clear x1 x2 hq
        go_wp2_with fail
        go_round
        case rel => exact ⟨i, h, by rfl, by rfl, HS.out.down hih hhj (by rw [HU.out, HV.out]; exact .inl HUP.out) nq⟩
        case measure => simp [intOf]; omega
      · have hdec : decide (cmpZ (k u) (k v) < 0) = false := by rw [cmpZ_lt]; exact decide_eq_false hlt2
        have HUP := hide hlt2
        generalize cmpZ (k u) (k v) = c at hdec hq
        clear hlt2
        go_wp2_with fail
        go_quiet ((go_at_call 24; with_reducible exact hq.out _))
        clear x1 x2 hq
        go_wp2_with fail
        go_round
        case rel => exact ⟨h + 1, j, by go_num, by rfl, HS.out.up hih hhj (by rw [HU.out, HV.out]; exact (soL.of_not HLT.out).2 (by have := HUP.out; omega)) nq⟩
        case measure => simp [intOf]; omega
    · obtain rfl : i = j := by omega
      rename World => wo
      have hSt : SwI w b n (soRot d m m (m + 1)) wo := ⟨by rw [rot_none (.inl rfl) (by omega) (by omega)]; exact hS.row, hS.kp⟩
      have HFI := hide (ins_right (d := d) (k := k) (a := a) (m := m) (i := i) HS0.out hlo hhi hS.yes hS.no)
      clear hS hlt
      go_wp2_with fail
      go_loopw [17] (fun kv wr => ∃ q : Nat, i ≤ q ∧ q ≤ m ∧ kv = .int .i64 (q : Int) ∧ SwI w b n (soRot d q m (m + 1)) wr) (fun kv _ => (intOf kv).toNat)
      case atStart => exact ⟨m, by omega, Nat.le_refl _, by rfl, hSt⟩
      case round =>
        clear hSt
        obtain ⟨q, hiq, hqm, rfl, hS⟩ := hrel
        by_cases hlt : i < q
        · obtain ⟨r, hr⟩ : ∃ r, r + 1 = q := ⟨q - 1, by omega⟩
          have zr : (q : Int) - 1 = (r : Int) := by omega
          have HX := hide (sw_rot_down (d := d) (j := q) (i := m) (by omega) hqm)
          rw [show q - 1 = r by omega] at HX
          have hrn : r < n := by omega
          have hqr2 : r < q := by omega
          have hir : i ≤ r := by omega
          clear hr
          obtain ⟨u, hu⟩ : ∃ u, soRot d q m (m + 1) q = u := ⟨_, rfl⟩
          obtain ⟨v, hv⟩ : ∃ v, soRot d q m (m + 1) r = v := ⟨_, rfl⟩
          have x1 := hS.row.cellv (show q < n by omega) hu
          have x2 := hS.row.cellv (show r < n by omega) hv
          have xf := hS.row.frozen q
          have xf2 := hS.row.frozen r
          obtain ⟨vv, x3⟩ := hS.row.cell2 (show q < n by omega) (show r < n by omega) v
          have HW := hide (hS.row.swap (show q < n by omega) (show r < n by omega) hu hv)
          have HK := hide hS.kp
          clear hS hu hv
          go_wp2_with fail
          go_region
          clear x1 x2 x3 xf xf2
          have hI3 := HW.out.1
          have hk3 := HK.out.trans' HW.out.2
          clear HW HK
          generalize ((wr.setCell ⟨b, q, none⟩ (.int .i64 (v : Int))).setCell ⟨b, r, none⟩ (.int .i64 (u : Int))) = w2 at *
          go_wp2_with fail
          go_round
          case rel => exact ⟨r, by omega, by omega, by go_num, by rw [← HX.out]; exact hI3, hk3.drew⟩
          case measure => simp [intOf]; omega
        · obtain rfl : i = q := by omega
          go_wp2_with fail
          (first | go_end0 | refine bodyPost_ret (results_none rfl _ _ _) rfl ?_)
          have he := HM.out
          subst he
          exact ⟨rfl, _, hS.row, (rot_same (by omega) (by omega)).wide (by omega) (Nat.le_refl _), HFI.out, hS.kp⟩
end Go.Proofs.Ythbnomemknnmeaa
