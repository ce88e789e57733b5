/- HealRegenerates: the shard that any fragments make, or why there is none. -/
import Derived.Test.YthmplbklphobaaaHr
import Derived.Test.YthmplbklphobaaaHd
import Derived.Test.YthmplbklphobaaaHe
import Derived.Test.YthmplbklphobaaaHp
import Derived.Deep.DeepCutAuto
import Derived.Deep.RegionHeld3
namespace Go.Proofs.Ythmplbklphobaaa
open Go.RowKit
set_option linter.unusedVariables false
set_option linter.unusedSimpArgs false
set_option maxRecDepth 100000

/-- What is made by one inverse is what the equations' columns tell. -/
theorem reg_same {a d T W : Nat} {p : Nat → UInt8} {y : UInt8} {ds : Nat → List UInt8} {G X : Nat → Nat → UInt8} (hda : d = a + a) (hT : 1 ≤ T) (hW : W = a * T) (hU : Uq d p) (hG : EqF d d (mulF d (vF p) G) oneF) (hX : EqF d T (mulF d (vF p) X) (frB ds)) : rowL W (rxE X a T y) = rowL W (rgE G a d T y ds) := by
  have hC : EqF d T (mulF d (vF p) (mulF d G (frB ds))) (frB ds) := fun u v hu hv => by
    rw [← mulF_assoc]
    exact (mulF_congr hG (EqF.refl d T _) u v hu hv).trans (mulF_one (c := T) (frB ds) u v hu hv)
  have hE := solve_only (vF_whole hU) (hX.trans hC.symm)
  refine rowL_congr fun t ht => ?_
  have htq : t / T < a := Nat.div_lt_of_lt_mul (by rw [Nat.mul_comm, ← hW]; exact ht)
  have htm := Nat.mod_lt t hT
  unfold rxE rgE
  rw [hE _ _ (show t / T < d by omega) htm, hE _ _ (show t / T + a < d by omega) htm]
  show _ = ud (fun u => ux (G (t / T) u) (um (G (t / T + a) u) (upw y a))) (fun j => frB ds j (t % T)) d
  have h1 := ud_add (G (t / T)) (fun u => um (G (t / T + a) u) (upw y a)) (fun j => frB ds j (t % T)) d
  rw [ud_scale] at h1
  exact h1.symm
/-- Whether the lost slot is there, too. -/
def Ok3 (b' b : Bool) (z : Int) (n : Nat) : Prop := b' = true ↔ b = true ∧ 0 ≤ z ∧ z < (n : Int)
/-- Whether none of the first slots is the lost one, too. -/
def Ok4 (b'' b' : Bool) (z : Int) (sl : Nat → Int) (j : Nat) : Prop := b'' = true ↔ b' = true ∧ ∀ u, u < j → sl u ≠ z
section
variable {w : World} {A : Option Addr} {m cp : Nat} {sl : Nat → Int} {ds : Nat → List UInt8}
theorem hrw_notsmall (n k z : Int) (h : ¬ (Rgt n k ∧ n ≤ 12 ∧ k ≤ 4)) : Calls Try.prog 4 #[.int .i64 n, .int .i64 k, .int .i64 z, .slice A m cp] w (R7 w) := by
  have hs := small7_no n k w h
  clear h
  go_enter Try.func4, Try.ntmps4
  go_wp2_with fail
  refine hs.mono ?_
  rintro e w' ⟨rfl, rfl⟩
  go_wp2_with fail
  refine (awake7_any _).mono ?_
  rintro e w9 ⟨rfl, k9⟩
  go_wp2_with fail
  go_ret
  exact ⟨rfl, k9.below0⟩
theorem hrw_long (n k z : Int) (h : Rgt n k) (h1 : n ≤ 12) (h2 : k ≤ 4) (hm : 30 < m) : Calls Try.prog 4 #[.int .i64 n, .int .i64 k, .int .i64 z, .slice A m cp] w (R7 w) := by
  have hs := small7_yes n k w h h1 h2
  clear h
  go_enter Try.func4, Try.ntmps4
  go_wp2_with fail
  refine hs.mono ?_
  rintro e w' ⟨rfl, rfl⟩
  go_wp2_with fail
  refine (awake7_any _).mono ?_
  rintro e w9 ⟨rfl, k9⟩
  go_wp2_with fail
  go_ret
  exact ⟨rfl, k9.below0⟩
set_option maxHeartbeats 40000000 in
theorem hrw_all {n k a d q : Nat} {x : Nat → UInt8} (z : Int) (hP : Prts w A m sl ds) (hcp : m ≤ cp) (hD : Dim n k a d q) (hX : Pts n a x) (h1 : n ≤ 12) (h2 : k ≤ 4) (hm : m ≤ 30) : Calls Try.prog 4 #[.int .i64 (n : Int), .int .i64 (k : Int), .int .i64 z, .slice A m cp] w (R7 w) := by
  have hR : Rgt (n : Int) (k : Int) := by have := hD.k_; have := hD.d_; have := hD.n1; have := hD.a1; unfold Rgt; omega
  have hs := small7_yes (n : Int) (k : Int) w hR (by omega) (by omega)
  have HN := hide (fun w => mnew_yes w hD hX)
  obtain ⟨hd, hhd⟩ := hP.hds
  have HPT := hide (fun w' (hk : Kp No w w') => parted_any (cp := cp) (n := n) (hhd.no hk) hm (by omega))
  have HH := hide hhd.at_
  have HP := hide hP
  have HD := hide hD
  have HX := hide hX
  have ha1 := hD.a1
  have hk2 : 2 ≤ k := by have := hD.k_; omega
  have ha3 : a ≤ 3 := by have := hD.k_; omega
  have hd6 : d ≤ 6 := by have := hD.k_; have := hD.d_; omega
  have H2K : Hid (2 * (k : Int) - 2 = (d : Int)) := by show 2 * (k : Int) - 2 = (d : Int); have := hD.k_; have := hD.d_; omega
  clear hP hhd hD hX hR
  go_enter Try.func4, Try.ntmps4
  go_wp2_with fail
  refine hs.mono ?_
  rintro e w' ⟨rfl, rfl⟩
  clear hs
  go_wp2_with fail
  go_loopw [9] (fun iv wr => ∃ i : Nat, i ≤ m ∧ iv = .int .i64 (i : Int) ∧ Hid (∀ j, j < i → (ds j).length ≤ 60) ∧ Kp No w wr) (fun iv _ => m - (intOf iv).toNat)
  case atStart => exact ⟨0, Nat.zero_le _, rfl, (fun j hj => absurd hj (Nat.not_lt_zero _) : ∀ j, j < 0 → (ds j).length ≤ 60), Kp.refl _ _⟩
  case round =>
    obtain ⟨i, hi, rfl, hl60, hkw⟩ := hrel
    by_cases hlt : i < m
    · obtain ⟨B, off, A', r, cc, rfl, z0, z1, hhd, hB⟩ := HH.out i hlt
      have hl := hide hB.len
      have y1 := hkw.cell z1 fun f => f
      clear hhd hB z0 z1
      by_cases hr : r ≤ 60
      · have HL3 : Hid (∀ j, j < i + 1 → (ds j).length ≤ 60) := fun j hj => by
          by_cases e : j = i
          · rw [e, ← hl.out]; exact hr
          · exact hl60.out j (by omega)
        go_wp2_with fail
        go_round
        case rel => exact ⟨i + 1, by omega, by go_num, HL3, hkw⟩
        case measure => simp [intOf]; omega
      · have hr' : 60 < r := by omega
        clear hr
        go_wp2_with fail
        refine (awake7_any _).mono ?_
        rintro e w9 ⟨rfl, k9⟩
        go_wp2_with fail
        go_ret
        exact ⟨rfl, (hkw.trans' k9).below0⟩
    · obtain rfl : i = m := by omega
      obtain ⟨m, hmm⟩ : ∃ m, m = i := ⟨_, rfl⟩
      subst hmm
      obtain ⟨wO, rfl⟩ : ∃ wO, wO = wr := ⟨_, rfl⟩
      go_wp2_with fail
      refine (HPT.out wO hkw).mono ?_
      rintro e w2 ⟨b, A1, n1, c1, A2, n2, c2, rfl, hb, hI0⟩
      have e3 : m = n1 := by
        obtain ⟨_, _, e2⟩ := hI0.o1.form
        injection e2 with _ e3 _
        exact e3.symm
      obtain rfl : m = n1 := e3
      have hI : DwI wO sl hd m (.slice A1 m c1) (.slice A2 n2 c2) w2 := hI0
      clear hI0
      go_upto_region 9 with fail
      go_cut [12] (fun v wx => ∃ b' : Bool, v = .bool b' ∧ Hid (Ok3 b' b z n) ∧ DwI wO sl hd m (.slice A1 m c1) (.slice A2 n2 c2) wx)
      case first =>
        rcases b with _ | _
        · have HF : Hid (Ok3 false false z n) := ⟨fun e => (by cases e), fun e => (by cases e.1)⟩
          go_wp2_with fail
          go_meet
          exact ⟨false, by simp, HF, hI⟩
        · by_cases q1 : 0 ≤ z
          · have t1 : decide (0 ≤ z) = true := decide_eq_true q1
            by_cases q2 : z < (n : Int)
            · have t2 : decide (z < (n : Int)) = true := decide_eq_true q2
              have HF : Hid (Ok3 true true z n) := ⟨fun _ => ⟨rfl, q1, q2⟩, fun _ => rfl⟩
              go_wp2_with fail
              go_meet
              exact ⟨true, by simp, HF, hI⟩
            · have t2 : decide (z < (n : Int)) = false := decide_eq_false q2
              have HF : Hid (Ok3 false true z n) := ⟨fun e => (by cases e), fun e => absurd e.2.2 q2⟩
              clear q2
              go_wp2_with fail
              go_meet
              exact ⟨false, by simp, HF, hI⟩
          · have t1 : decide (0 ≤ z) = false := decide_eq_false q1
            have HF : Hid (Ok3 false true z n) := ⟨fun e => (by cases e), fun e => absurd e.2.1 q1⟩
            clear q1
            go_wp2_with fail
            go_meet
            exact ⟨false, by simp, HF, hI⟩
      case rest =>
        clear hI
        obtain ⟨b', rfl, hb', hI⟩ := hcut
        go_wp2_with fail
        go_loopw [12, 13] (fun v jv wr' => ∃ (j : Nat) (b'' : Bool), j ≤ m ∧ jv = .int .i64 (j : Int) ∧ v = .bool b'' ∧ Hid (Ok4 b'' b' z sl j) ∧ DwI wO sl hd m (.slice A1 m c1) (.slice A2 n2 c2) wr') (fun _ jv _ => m - (intOf jv).toNat)
        case atStart => exact ⟨0, b', Nat.zero_le _, rfl, rfl, (⟨fun h => ⟨h, fun u hu => absurd hu (Nat.not_lt_zero _)⟩, fun h => h.1⟩ : Ok4 b' b' z sl 0), hI⟩
        case round =>
          clear hI
          obtain ⟨j, b'', hj, rfl, rfl, hb'', hI⟩ := hrel
          by_cases hltj : j < m
          · obtain ⟨g1, rfl, _, hsl⟩ := hI.slot (by omega)
            have y5 := hsl j hltj
            rw [Nat.zero_add] at y5
            clear hsl
            rcases b'' with _ | _
            · have HF : Hid (Ok4 false b' z sl (j + 1)) := ⟨fun e => (by cases e), fun e => hb''.out.2 ⟨e.1, fun u hu => e.2 u (by omega)⟩⟩
              go_wp2_with fail
              go_round
              case rel => exact ⟨j + 1, false, by omega, by go_num, rfl, HF, hI⟩
              case measure => simp [intOf]; omega
            · have HF : Hid (Ok4 (sl j != z) b' z sl (j + 1)) := by
                show (sl j != z) = true ↔ b' = true ∧ ∀ u, u < j + 1 → sl u ≠ z
                have h5 := hb''.out.1 rfl
                rw [bne_iff_ne]
                refine ⟨fun e => ⟨h5.1, fun u hu => ?_⟩, fun e => e.2 j (by omega)⟩
                by_cases e2 : u = j
                · rw [e2]; exact e
                · exact h5.2 u (by omega)
              go_wp2_with fail
              go_round
              case rel => exact ⟨j + 1, _, by omega, by go_num, rfl, HF, hI⟩
              case measure => simp [intOf]; omega
          · obtain rfl : j = m := by omega
            obtain ⟨m, hmm⟩ : ∃ m, m = j := ⟨_, rfl⟩
            subst hmm
            have HAll : Hid (b'' = true ↔ (0 ≤ z ∧ z < (n : Int)) ∧ ∀ u, u < m → HGood n z sl ds u) := by
              show b'' = true ↔ (0 ≤ z ∧ z < (n : Int)) ∧ ∀ u, u < m → HGood n z sl ds u
              have g4 : b'' = true ↔ b' = true ∧ ∀ u, u < m → sl u ≠ z := hb''.out
              have g3 : b' = true ↔ b = true ∧ 0 ≤ z ∧ z < (n : Int) := hb'.out
              rw [g4, g3, hb.out]
              exact ⟨fun h => ⟨h.1.2, fun u hu => ⟨h.1.1 u hu, h.2 u hu⟩⟩, fun h => ⟨⟨fun u hu => (h.2 u hu).1, h.1⟩, fun u hu => (h.2 u hu).2⟩⟩
            clear hb hb' hb''
            have hkq := hkw.trans' hI.kp
            rcases b'' with _ | _
            · have HRG : Hid (∀ w' g, Kp No w w' → CodeAt w' g n k x → Calls Try.prog 14 #[cptr g, .int .i64 z, .slice A m cp] w' (BadPost w' 1)) := fun w' g hk hC => by
                by_cases hz : 0 ≤ z ∧ z < (n : Int)
                · obtain ⟨i, rfl⟩ : ∃ i : Nat, z = i := ⟨z.toNat, by omega⟩
                  refine reg_err hC HD.out (HP.out.no hk) (by omega) i (by omega) 1 (fun y hy => ?_) (by omega)
                  rcases hy with ⟨_, hy⟩ | ⟨hg, _⟩
                  · exact hy
                  · have := HAll.out.2 ⟨hz, hg⟩
                    cases this
                · exact reg_out hC z (by omega) _
              go_wp2_with fail
              refine (HN.out _).mono ?_
              rintro e w3 ⟨g, rfl, hC, hk3⟩
              have hk3' := hkq.trans' hk3
              go_wp2_with fail
              refine (HRG.out _ _ hk3' hC).mono ?_
              rintro e w4 ⟨rfl, hk4⟩
              go_wp2_with fail
              refine (reg_nil w4 z _).mono ?_
              rintro e w5 ⟨rfl, hk5⟩
              go_wp2_with fail
              refine (awake7_any _).mono ?_
              rintro e w9 ⟨rfl, k9⟩
              go_wp2_with fail
              go_ret
              exact ⟨rfl, (((hk3'.trans' hk4).trans' hk5).trans' k9).below0⟩
            · obtain ⟨hz, hgood⟩ := HAll.out.1 rfl
              obtain ⟨i, rfl⟩ : ∃ i : Nat, z = i := ⟨z.toNat, by omega⟩
              have hin : i < n := by omega
              have HGd := hide hgood
              clear hz hgood HAll
              by_cases hf : m < d
              · have HRG : Hid (∀ w' g, Kp No w w' → CodeAt w' g n k x → Calls Try.prog 14 #[cptr g, .int .i64 (i : Int), .slice A m cp] w' (BadPost w' 24)) := fun w' g hk hC => by
                  refine reg_err hC HD.out (HP.out.no hk) (by omega) i hin 24 (fun y hy => ?_) (by omega)
                  rcases hy with ⟨⟨j, hj, hn⟩, _⟩ | ⟨_, ⟨_, hy⟩ | ⟨hk, _⟩⟩
                  · exact absurd (HGd.out j hj) hn
                  · exact hy
                  · omega
                go_wp2_with fail
                refine (HN.out _).mono ?_
                rintro e w3 ⟨g, rfl, hC, hk3⟩
                have hk3' := hkq.trans' hk3
                go_wp2_with fail
                refine (HRG.out _ _ hk3' hC).mono ?_
                rintro e w4 ⟨rfl, hk4⟩
                go_wp2_with fail
                refine (reg_nil w4 (i : Int) _).mono ?_
                rintro e w5 ⟨rfl, hk5⟩
                have h2k := H2K.out
                go_wp2_with fail
                refine (awake7_any _).mono ?_
                rintro e w9 ⟨rfl, k9⟩
                go_wp2_with fail
                go_ret
                exact ⟨rfl, (((hk3'.trans' hk4).trans' hk5).trans' k9).below0⟩
              · have hdm : d ≤ m := by omega
                have hd1 : 1 ≤ d := by have := HD.out.d_; omega
                have hm0 : 0 < m := by omega
                clear hf
                obtain ⟨T, hT⟩ : ∃ T, T = (ds 0).length := ⟨_, rfl⟩
                have hT60 : T ≤ 60 := by rw [hT]; exact hl60.out 0 hm0
                have hT1 : 1 ≤ T := by have := (HGd.out 0 hm0).1.2.2.1; omega
                obtain ⟨W, hW⟩ : ∃ W, W = a * T := ⟨_, rfl⟩
                have hss : ∀ j, j < m → sl j = (((sl j).toNat : Nat) : Int) := fun j hj => by have := (HGd.out j hj).1.1; omega
                have hsn : ∀ j, j < d → (sl j).toNat < n := fun j hj => by
                  have := (HGd.out j (by omega)).1.1
                  omega
                have hne : ∀ u j, u < j → j < d → (sl u).toNat ≠ (sl j).toNat := fun u j hu hj e => by
                  have h5 := (HGd.out j (by omega)).1.2.1 u hu
                  have h6 := hss u (by omega)
                  have h7 := hss j (by omega)
                  exact h5 (by rw [h6, h7, e])
                have hU : Uq d fun j => x ((fun j => (sl j).toNat) j) := uq_of_pow (uq_slots HX.out.uq hsn hne)
                have HDK := hide (fun w' g (hk : Kp No w w') (hC : CodeAt w' g n k x) => reg_ok (cp := cp) (ss := fun j => (sl j).toNat) (S := T) (W := W) hC HD.out HX.out (HP.out.no hk) (by omega) hcp hdm HGd.out hss hin hT.symm (by omega) hW)
                obtain ⟨g1, e1, _, hsl⟩ := hI.slot hm0
                obtain ⟨e2, hrows⟩ := hI.rows (ds := ds) fun j hj => by
                  obtain ⟨_, _, _, _, _, _, _, _, e, hb⟩ := HH.out j hj
                  rw [e]
                  exact hb.no hkw
                subst e1 e2
                have HRD0 := hide (fun w' (hk : Kp No wr w') => rreg_any (T := T) (W := W) (il := i) (Bs := g1) (os := 0) (ms := m) (cs := c1) (cd := c2) (ss := fun j => (sl j).toNat) (ds := ds) HD.out HX.out (fun j hj => by
                  rw [hk.cell (hsl j (by omega)) fun f => f, hss j (by omega)]
                  rfl) hdm (hrows.no hk) hdm (fun j hj => by simp [show j < m by omega]) (fun j hj => by rw [(HGd.out j (by omega)).1.2.2.2, ← hT]) hsn hU hin hT1 hT60 hW)
                have HUU := hide hU
                have HWW := hide hW
                clear hT hss hsn hne hU hW hrows hsl
                go_wp2_with fail
                refine (HN.out _).mono ?_
                rintro e w3 ⟨g, rfl, hC, hk3⟩
                have hk3' := hkq.trans' hk3
                go_wp2_with fail
                refine (HDK.out _ _ hk3' hC).mono ?_
                rintro e w6 ⟨G, Ab, nb, cb, rfl, hob, hEb, hk6⟩
                go_wp2_with fail
                refine (reg_nil w6 (i : Int) _).mono ?_
                rintro e w4 ⟨rfl, hk46⟩
                have hb4 := hob.bts.no hk46
                have hkq4 := (hk3.trans' hk6).trans' hk46
                have hk4 := hkq.trans' hkq4
                obtain ⟨tt, htt⟩ : ∃ tt, tt = strOf (rowL W (rgE G a d T (x i) ds)) := ⟨_, rfl⟩
                have HT := hide htt
                have HUn : Hid (∀ X, EqF d T (mulF d (vF fun j => x ((fun j => (sl j).toNat) j)) X) (frB ds) → rowL W (rxE X a T (x i)) = rowL W (rgE G a d T (x i) ds)) := fun X hX => reg_same HD.out.d_ hT1 HWW.out HUU.out hEb hX
                have HRD := hide (fun w' (hk : Kp No w4 w') => HRD0.out w' (hkq4.trans' hk))
                have hSno : ∀ {u v : World}, (Kp No w4 u ∧ Bts u (.slice Ab nb cb) (rowL W (rgE G a d T (x i) ds))) → Kp No u v → (Kp No w4 v ∧ Bts v (.slice Ab nb cb) (rowL W (rgE G a d T (x i) ds))) := fun h hk => ⟨h.1.trans' hk, h.2.no hk⟩
                have h2k := H2K.out
                clear htt hob hEb hC hk3 hk3' hk6 hk46 HRD0 HUU
                go_upto_region 23 with fail
                clear h2k
                refine wp_region_noPanic ?_
                refine wp_region_held_drew (S := fun w' => Kp No w4 w' ∧ Bts w' (.slice Ab nb cb) (rowL W (rgE G a d T (x i) ds))) (by kernel_rfl) (⟨(Sm.drew w4).kp, hb4.no (Sm.drew w4).kp⟩) (fun hHeld => ?_)
                refine wpAnyH_take (i := 0) (v := ?vcx1) (oi := ?ocx1) ?hcx1 (by kernel_rfl) (by kernel_rfl) (by kernel_rfl) (fun _ _ _ h => h) (Or.inl ⟨?wcx1, ?ycx1⟩) hHeld ?rcx1
                case hcx1 => simp only [List.getElem?_toArray, List.getElem?_cons_zero, List.getElem?_cons_succ]; rfl
                case wcx1 => rfl
                case ycx1 => intro w hSw; (try dsimp only at hSw); go_simp; (try with_reducible rfl)
                simp only [Act.put, List.setIfInBounds_toArray, List.set_cons_zero, List.set_cons_succ]
                refine wpAnyH_take (i := 2) (v := ?vcx2) (oi := ?ocx2) ?hcx2 (by kernel_rfl) (by kernel_rfl) (by kernel_rfl) (fun _ _ _ h => h) (Or.inl ⟨?wcx2, ?ycx2⟩) hHeld ?rcx2
                case hcx2 => simp only [List.getElem?_toArray, List.getElem?_cons_zero, List.getElem?_cons_succ]; rfl
                case wcx2 => rfl
                case ycx2 => intro w hSw; (try dsimp only at hSw); go_simp; (try with_reducible rfl)
                simp only [Act.put, List.setIfInBounds_toArray, List.set_cons_zero, List.set_cons_succ]
                refine wpAnyH_take (i := 3) (v := ?vcx3) (oi := ?ocx3) ?hcx3 (by kernel_rfl) (by kernel_rfl) (by kernel_rfl) (fun _ _ _ h => h) (Or.inl ⟨?wcx3, ?ycx3⟩) hHeld ?rcx3
                case hcx3 => simp only [List.getElem?_toArray, List.getElem?_cons_zero, List.getElem?_cons_succ]; rfl
                case wcx3 => rfl
                case ycx3 => intro w hSw; (try dsimp only at hSw); go_simp; (try with_reducible rfl)
                simp only [Act.put, List.setIfInBounds_toArray, List.set_cons_zero, List.set_cons_succ]
                refine wpAnyH_take (i := 4) (v := ?vcx4) (oi := ?ocx4) ?hcx4 (by kernel_rfl) (by kernel_rfl) (by kernel_rfl) (fun _ _ _ h => h) (Or.inl ⟨?wcx4, ?ycx4⟩) hHeld ?rcx4
                case hcx4 => simp only [List.getElem?_toArray, List.getElem?_cons_zero, List.getElem?_cons_succ]; rfl
                case wcx4 => rfl
                case ycx4 => intro w hSw; (try dsimp only at hSw); go_simp; (try with_reducible rfl)
                simp only [Act.put, List.setIfInBounds_toArray, List.set_cons_zero, List.set_cons_succ]
                refine wpAnyH_take (i := 5) (v := ?vcx5) (oi := ?ocx5) ?hcx5 (by kernel_rfl) (by kernel_rfl) (by kernel_rfl) (fun _ _ _ h => h) (Or.inl ⟨?wcx5, ?ycx5⟩) hHeld ?rcx5
                case hcx5 => simp only [List.getElem?_toArray, List.getElem?_cons_zero, List.getElem?_cons_succ]; rfl
                case wcx5 => rfl
                case ycx5 => intro w hSw; (try dsimp only at hSw); go_simp; (try with_reducible rfl)
                simp only [Act.put, List.setIfInBounds_toArray, List.set_cons_zero, List.set_cons_succ]
                refine wpAnyH_take (i := 6) (v := ?vcx6) (oi := ?ocx6) ?hcx6 (by kernel_rfl) (by kernel_rfl) (by kernel_rfl) (fun _ _ _ h => h) (Or.inl ⟨?wcx6, ?ycx6⟩) hHeld ?rcx6
                case hcx6 => simp only [List.getElem?_toArray, List.getElem?_cons_zero, List.getElem?_cons_succ]; rfl
                case wcx6 => rfl
                case ycx6 => intro w hSw; (try dsimp only at hSw); go_simp; (try with_reducible rfl)
                simp only [Act.put, List.setIfInBounds_toArray, List.set_cons_zero, List.set_cons_succ]
                refine wpAnyH_ready (rs := [1, 7]) (by kernel_rfl) (by simp) ?_
                refine (AllReadyH.cons (o := ?ocx8) ?hcx8 (fun K hK => ?scx8) (AllReadyH.cons (o := ?ocx9) ?hcx9 (fun K hK => ?scx9) AllReadyH.nil))
                case hcx8 => simp only [List.getElem?_toArray, List.getElem?_cons_zero, List.getElem?_cons_succ]; rfl
                case hcx9 => simp only [List.getElem?_toArray, List.getElem?_cons_zero, List.getElem?_cons_succ]; rfl
                case scx8 =>
                  have v1 := conv_bts hHeld.2
                  rw [← HT.out] at v1
                  go_simp
                  refine hK.out _ _ (hHeld) (fun hHeld => ?_)
                  clear hK K
                  try simp only [Act.put, List.setIfInBounds_toArray, List.set_cons_zero, List.set_cons_succ]
                  refine wpAnyH_ready (rs := [7]) (by kernel_rfl) (by simp) ?_
                  refine AllReadyH.cons (o := ?ocx10) ?hcx10 (fun K hK => ?scx10) AllReadyH.nil
                  case hcx10 => simp only [List.getElem?_toArray, List.getElem?_cons_zero, List.getElem?_cons_succ]; rfl
                  go_simp
                  refine (HRD.out _ hHeld.1).mono ?_
                  rintro e w5 ⟨X, A5, n5, c5, rfl, ho5, hE5, hk5⟩
                  have hx := hSno hHeld hk5
                  have HL5 := hide (HUn.out X hE5)
                  clear hE5
                  go_wp2_with fail
                  refine hK.out _ _ (hx) (fun hHeld => ?_)
                  clear hK K
                  try simp only [Act.put, List.setIfInBounds_toArray, List.set_cons_zero, List.set_cons_succ]
                  refine wpAnyH_ready (rs := [8]) (by kernel_rfl) (by simp) ?_
                  refine AllReadyH.cons (o := ?ocx11) ?hcx11 (fun K hK => ?scx11) AllReadyH.nil
                  case hcx11 => simp only [List.getElem?_toArray, List.getElem?_cons_zero, List.getElem?_cons_succ]; rfl
                  have v7 := conv_bts ho5.bts
                  rw [HL5.out, ← HT.out] at v7
                  go_simp
                  refine hK.out _ _ (hHeld) (fun hHeld => ?_)
                  clear hK K
                  try simp only [Act.put, List.setIfInBounds_toArray, List.set_cons_zero, List.set_cons_succ]
                  refine wpAnyH_take (i := 9) (v := ?vcx12) (oi := ?ocx12) ?hcx12 (by kernel_rfl) (by kernel_rfl) (by kernel_rfl) (fun _ _ _ h => h) (Or.inl ⟨?wcx12, ?ycx12⟩) hHeld ?rcx12
                  case hcx12 => simp only [List.getElem?_toArray, List.getElem?_cons_zero, List.getElem?_cons_succ]; rfl
                  case wcx12 => rfl
                  case ycx12 => intro w hSw; (try dsimp only at hSw); go_simp; (try with_reducible rfl)
                  simp only [Act.put, List.setIfInBounds_toArray, List.set_cons_zero, List.set_cons_succ]
                  refine wpAnyH_take (i := 10) (v := ?vcx13) (oi := ?ocx13) ?hcx13 (by kernel_rfl) (by kernel_rfl) (by kernel_rfl) (fun _ _ _ h => h) (Or.inl ⟨?wcx13, ?ycx13⟩) hHeld ?rcx13
                  case hcx13 => simp only [List.getElem?_toArray, List.getElem?_cons_zero, List.getElem?_cons_succ]; rfl
                  case wcx13 => rfl
                  case ycx13 => intro w hSw; (try dsimp only at hSw); go_simp; (try with_reducible rfl)
                  simp only [Act.put, List.setIfInBounds_toArray, List.set_cons_zero, List.set_cons_succ]
                  refine wpAnyH_ready (rs := [11]) (by kernel_rfl) (by simp) ?_
                  refine AllReadyH.cons (o := ?ocx14) ?hcx14 (fun K hK => ?scx14) AllReadyH.nil
                  case hcx14 => simp only [List.getElem?_toArray, List.getElem?_cons_zero, List.getElem?_cons_succ]; rfl
                  go_simp
                  refine hK.out _ _ (hHeld) (fun hHeld => ?_)
                  clear hK K
                  try simp only [Act.put, List.setIfInBounds_toArray, List.set_cons_zero, List.set_cons_succ]
                  refine wpAnyH_ready (rs := [12]) (by kernel_rfl) (by simp) ?_
                  refine AllReadyH.cons (o := ?ocx15) ?hcx15 (fun K hK => ?scx15) AllReadyH.nil
                  case hcx15 => simp only [List.getElem?_toArray, List.getElem?_cons_zero, List.getElem?_cons_succ]; rfl
                  go_simp
                  refine hK.out _ _ (hHeld) (fun hHeld => ?_)
                  clear hK K
                  try simp only [Act.put, List.setIfInBounds_toArray, List.set_cons_zero, List.set_cons_succ]
                  refine wpAnyH_take (i := 13) (v := ?vcx16) (oi := ?ocx16) ?hcx16 (by kernel_rfl) (by kernel_rfl) (by kernel_rfl) (fun _ _ _ h => h) (Or.inl ⟨?wcx16, ?ycx16⟩) hHeld ?rcx16
                  case hcx16 => simp only [List.getElem?_toArray, List.getElem?_cons_zero, List.getElem?_cons_succ]; rfl
                  case wcx16 => rfl
                  case ycx16 => intro w hSw; (try dsimp only at hSw); go_simp; (try with_reducible rfl)
                  simp only [Act.put, List.setIfInBounds_toArray, List.set_cons_zero, List.set_cons_succ]
                  refine wpAnyH_take (i := 14) (v := ?vcx17) (oi := ?ocx17) ?hcx17 (by kernel_rfl) (by kernel_rfl) (by kernel_rfl) (fun _ _ _ h => h) (Or.inl ⟨?wcx17, ?ycx17⟩) hHeld ?rcx17
                  case hcx17 => simp only [List.getElem?_toArray, List.getElem?_cons_zero, List.getElem?_cons_succ]; rfl
                  case wcx17 => rfl
                  case ycx17 => intro w hSw; (try dsimp only at hSw); go_simp; (try with_reducible rfl)
                  simp only [Act.put, List.setIfInBounds_toArray, List.set_cons_zero, List.set_cons_succ]
                  refine wpAnyH_ready (rs := [15]) (by kernel_rfl) (by simp) ?_
                  refine AllReadyH.cons (o := ?ocx18) ?hcx18 (fun K hK => ?scx18) AllReadyH.nil
                  case hcx18 => simp only [List.getElem?_toArray, List.getElem?_cons_zero, List.getElem?_cons_succ]; rfl
                  go_simp
                  refine (awake7_any _).mono ?_
                  rintro e w9 ⟨rfl, k9⟩
                  have hx9 := hSno hHeld k9
                  go_wp2_with fail
                  refine hK.out _ _ (hx9) (fun hHeld => ?_)
                  clear hK K
                  try simp only [Act.put, List.setIfInBounds_toArray, List.set_cons_zero, List.set_cons_succ]
                  refine wpAnyH_take (i := 16) (v := ?vcx19) (oi := ?ocx19) ?hcx19 (by kernel_rfl) (by kernel_rfl) (by kernel_rfl) (fun _ _ _ h => h) (Or.inl ⟨?wcx19, ?ycx19⟩) hHeld ?rcx19
                  case hcx19 => simp only [List.getElem?_toArray, List.getElem?_cons_zero, List.getElem?_cons_succ]; rfl
                  case wcx19 => rfl
                  case ycx19 => intro w hSw; (try dsimp only at hSw); go_simp; (try with_reducible rfl)
                  simp only [Act.put, List.setIfInBounds_toArray, List.set_cons_zero, List.set_cons_succ]
                  refine wpAnyH_ready (rs := [17]) (by kernel_rfl) (by simp) ?_
                  refine AllReadyH.cons (o := ?ocx20) ?hcx20 (fun K hK => ?scx20) AllReadyH.nil
                  case hcx20 => simp only [List.getElem?_toArray, List.getElem?_cons_zero, List.getElem?_cons_succ]; rfl
                  go_simp
                  refine hK.out _ _ (hHeld) (fun hHeld => ?_)
                  clear hK K
                  try simp only [Act.put, List.setIfInBounds_toArray, List.set_cons_zero, List.set_cons_succ]
                  refine wpAnyH_done (by kernel_rfl) ?_ _
                  refine NoPanic.normal ?_
                  go_wp2_with fail
                  go_ret
                  exact ⟨rfl, (hk4.trans' hHeld.1).below0⟩
                case scx9 =>
                  go_simp
                  refine (HRD.out _ hHeld.1).mono ?_
                  rintro e w5 ⟨X, A5, n5, c5, rfl, ho5, hE5, hk5⟩
                  have hx := hSno hHeld hk5
                  have HL5 := hide (HUn.out X hE5)
                  clear hE5
                  go_wp2_with fail
                  refine hK.out _ _ (hx) (fun hHeld => ?_)
                  clear hK K
                  try simp only [Act.put, List.setIfInBounds_toArray, List.set_cons_zero, List.set_cons_succ]
                  refine wpAnyH_ready (rs := [1, 8]) (by kernel_rfl) (by simp) ?_
                  refine (AllReadyH.cons (o := ?ocx23) ?hcx23 (fun K hK => ?scx23) (AllReadyH.cons (o := ?ocx24) ?hcx24 (fun K hK => ?scx24) AllReadyH.nil))
                  case hcx23 => simp only [List.getElem?_toArray, List.getElem?_cons_zero, List.getElem?_cons_succ]; rfl
                  case hcx24 => simp only [List.getElem?_toArray, List.getElem?_cons_zero, List.getElem?_cons_succ]; rfl
                  case scx23 =>
                    have v1 := conv_bts hHeld.2
                    rw [← HT.out] at v1
                    go_simp
                    refine hK.out _ _ (hHeld) (fun hHeld => ?_)
                    clear hK K
                    try simp only [Act.put, List.setIfInBounds_toArray, List.set_cons_zero, List.set_cons_succ]
                    refine wpAnyH_ready (rs := [8]) (by kernel_rfl) (by simp) ?_
                    refine AllReadyH.cons (o := ?ocx25) ?hcx25 (fun K hK => ?scx25) AllReadyH.nil
                    case hcx25 => simp only [List.getElem?_toArray, List.getElem?_cons_zero, List.getElem?_cons_succ]; rfl
                    have v7 := conv_bts ho5.bts
                    rw [HL5.out, ← HT.out] at v7
                    go_simp
                    refine hK.out _ _ (hHeld) (fun hHeld => ?_)
                    clear hK K
                    try simp only [Act.put, List.setIfInBounds_toArray, List.set_cons_zero, List.set_cons_succ]
                    refine wpAnyH_take (i := 9) (v := ?vcx26) (oi := ?ocx26) ?hcx26 (by kernel_rfl) (by kernel_rfl) (by kernel_rfl) (fun _ _ _ h => h) (Or.inl ⟨?wcx26, ?ycx26⟩) hHeld ?rcx26
                    case hcx26 => simp only [List.getElem?_toArray, List.getElem?_cons_zero, List.getElem?_cons_succ]; rfl
                    case wcx26 => rfl
                    case ycx26 => intro w hSw; (try dsimp only at hSw); go_simp; (try with_reducible rfl)
                    simp only [Act.put, List.setIfInBounds_toArray, List.set_cons_zero, List.set_cons_succ]
                    refine wpAnyH_take (i := 10) (v := ?vcx27) (oi := ?ocx27) ?hcx27 (by kernel_rfl) (by kernel_rfl) (by kernel_rfl) (fun _ _ _ h => h) (Or.inl ⟨?wcx27, ?ycx27⟩) hHeld ?rcx27
                    case hcx27 => simp only [List.getElem?_toArray, List.getElem?_cons_zero, List.getElem?_cons_succ]; rfl
                    case wcx27 => rfl
                    case ycx27 => intro w hSw; (try dsimp only at hSw); go_simp; (try with_reducible rfl)
                    simp only [Act.put, List.setIfInBounds_toArray, List.set_cons_zero, List.set_cons_succ]
                    refine wpAnyH_ready (rs := [11]) (by kernel_rfl) (by simp) ?_
                    refine AllReadyH.cons (o := ?ocx28) ?hcx28 (fun K hK => ?scx28) AllReadyH.nil
                    case hcx28 => simp only [List.getElem?_toArray, List.getElem?_cons_zero, List.getElem?_cons_succ]; rfl
                    go_simp
                    refine hK.out _ _ (hHeld) (fun hHeld => ?_)
                    clear hK K
                    try simp only [Act.put, List.setIfInBounds_toArray, List.set_cons_zero, List.set_cons_succ]
                    refine wpAnyH_ready (rs := [12]) (by kernel_rfl) (by simp) ?_
                    refine AllReadyH.cons (o := ?ocx29) ?hcx29 (fun K hK => ?scx29) AllReadyH.nil
                    case hcx29 => simp only [List.getElem?_toArray, List.getElem?_cons_zero, List.getElem?_cons_succ]; rfl
                    go_simp
                    refine hK.out _ _ (hHeld) (fun hHeld => ?_)
                    clear hK K
                    try simp only [Act.put, List.setIfInBounds_toArray, List.set_cons_zero, List.set_cons_succ]
                    refine wpAnyH_take (i := 13) (v := ?vcx30) (oi := ?ocx30) ?hcx30 (by kernel_rfl) (by kernel_rfl) (by kernel_rfl) (fun _ _ _ h => h) (Or.inl ⟨?wcx30, ?ycx30⟩) hHeld ?rcx30
                    case hcx30 => simp only [List.getElem?_toArray, List.getElem?_cons_zero, List.getElem?_cons_succ]; rfl
                    case wcx30 => rfl
                    case ycx30 => intro w hSw; (try dsimp only at hSw); go_simp; (try with_reducible rfl)
                    simp only [Act.put, List.setIfInBounds_toArray, List.set_cons_zero, List.set_cons_succ]
                    refine wpAnyH_take (i := 14) (v := ?vcx31) (oi := ?ocx31) ?hcx31 (by kernel_rfl) (by kernel_rfl) (by kernel_rfl) (fun _ _ _ h => h) (Or.inl ⟨?wcx31, ?ycx31⟩) hHeld ?rcx31
                    case hcx31 => simp only [List.getElem?_toArray, List.getElem?_cons_zero, List.getElem?_cons_succ]; rfl
                    case wcx31 => rfl
                    case ycx31 => intro w hSw; (try dsimp only at hSw); go_simp; (try with_reducible rfl)
                    simp only [Act.put, List.setIfInBounds_toArray, List.set_cons_zero, List.set_cons_succ]
                    refine wpAnyH_ready (rs := [15]) (by kernel_rfl) (by simp) ?_
                    refine AllReadyH.cons (o := ?ocx32) ?hcx32 (fun K hK => ?scx32) AllReadyH.nil
                    case hcx32 => simp only [List.getElem?_toArray, List.getElem?_cons_zero, List.getElem?_cons_succ]; rfl
                    go_simp
                    refine (awake7_any _).mono ?_
                    rintro e w9 ⟨rfl, k9⟩
                    have hx9 := hSno hHeld k9
                    go_wp2_with fail
                    refine hK.out _ _ (hx9) (fun hHeld => ?_)
                    clear hK K
                    try simp only [Act.put, List.setIfInBounds_toArray, List.set_cons_zero, List.set_cons_succ]
                    refine wpAnyH_take (i := 16) (v := ?vcx33) (oi := ?ocx33) ?hcx33 (by kernel_rfl) (by kernel_rfl) (by kernel_rfl) (fun _ _ _ h => h) (Or.inl ⟨?wcx33, ?ycx33⟩) hHeld ?rcx33
                    case hcx33 => simp only [List.getElem?_toArray, List.getElem?_cons_zero, List.getElem?_cons_succ]; rfl
                    case wcx33 => rfl
                    case ycx33 => intro w hSw; (try dsimp only at hSw); go_simp; (try with_reducible rfl)
                    simp only [Act.put, List.setIfInBounds_toArray, List.set_cons_zero, List.set_cons_succ]
                    refine wpAnyH_ready (rs := [17]) (by kernel_rfl) (by simp) ?_
                    refine AllReadyH.cons (o := ?ocx34) ?hcx34 (fun K hK => ?scx34) AllReadyH.nil
                    case hcx34 => simp only [List.getElem?_toArray, List.getElem?_cons_zero, List.getElem?_cons_succ]; rfl
                    go_simp
                    refine hK.out _ _ (hHeld) (fun hHeld => ?_)
                    clear hK K
                    try simp only [Act.put, List.setIfInBounds_toArray, List.set_cons_zero, List.set_cons_succ]
                    refine wpAnyH_done (by kernel_rfl) ?_ _
                    refine NoPanic.normal ?_
                    go_wp2_with fail
                    go_ret
                    exact ⟨rfl, (hk4.trans' hHeld.1).below0⟩
                  case scx24 =>
                    have v7 := conv_bts ho5.bts
                    rw [HL5.out, ← HT.out] at v7
                    go_simp
                    refine hK.out _ _ (hHeld) (fun hHeld => ?_)
                    clear hK K
                    try simp only [Act.put, List.setIfInBounds_toArray, List.set_cons_zero, List.set_cons_succ]
                    refine wpAnyH_ready (rs := [1]) (by kernel_rfl) (by simp) ?_
                    refine AllReadyH.cons (o := ?ocx36) ?hcx36 (fun K hK => ?scx36) AllReadyH.nil
                    case hcx36 => simp only [List.getElem?_toArray, List.getElem?_cons_zero, List.getElem?_cons_succ]; rfl
                    have v1 := conv_bts hHeld.2
                    rw [← HT.out] at v1
                    go_simp
                    refine hK.out _ _ (hHeld) (fun hHeld => ?_)
                    clear hK K
                    try simp only [Act.put, List.setIfInBounds_toArray, List.set_cons_zero, List.set_cons_succ]
                    refine wpAnyH_take (i := 9) (v := ?vcx37) (oi := ?ocx37) ?hcx37 (by kernel_rfl) (by kernel_rfl) (by kernel_rfl) (fun _ _ _ h => h) (Or.inl ⟨?wcx37, ?ycx37⟩) hHeld ?rcx37
                    case hcx37 => simp only [List.getElem?_toArray, List.getElem?_cons_zero, List.getElem?_cons_succ]; rfl
                    case wcx37 => rfl
                    case ycx37 => intro w hSw; (try dsimp only at hSw); go_simp; (try with_reducible rfl)
                    simp only [Act.put, List.setIfInBounds_toArray, List.set_cons_zero, List.set_cons_succ]
                    refine wpAnyH_take (i := 10) (v := ?vcx38) (oi := ?ocx38) ?hcx38 (by kernel_rfl) (by kernel_rfl) (by kernel_rfl) (fun _ _ _ h => h) (Or.inl ⟨?wcx38, ?ycx38⟩) hHeld ?rcx38
                    case hcx38 => simp only [List.getElem?_toArray, List.getElem?_cons_zero, List.getElem?_cons_succ]; rfl
                    case wcx38 => rfl
                    case ycx38 => intro w hSw; (try dsimp only at hSw); go_simp; (try with_reducible rfl)
                    simp only [Act.put, List.setIfInBounds_toArray, List.set_cons_zero, List.set_cons_succ]
                    refine wpAnyH_ready (rs := [11]) (by kernel_rfl) (by simp) ?_
                    refine AllReadyH.cons (o := ?ocx39) ?hcx39 (fun K hK => ?scx39) AllReadyH.nil
                    case hcx39 => simp only [List.getElem?_toArray, List.getElem?_cons_zero, List.getElem?_cons_succ]; rfl
                    go_simp
                    refine hK.out _ _ (hHeld) (fun hHeld => ?_)
                    clear hK K
                    try simp only [Act.put, List.setIfInBounds_toArray, List.set_cons_zero, List.set_cons_succ]
                    refine wpAnyH_ready (rs := [12]) (by kernel_rfl) (by simp) ?_
                    refine AllReadyH.cons (o := ?ocx40) ?hcx40 (fun K hK => ?scx40) AllReadyH.nil
                    case hcx40 => simp only [List.getElem?_toArray, List.getElem?_cons_zero, List.getElem?_cons_succ]; rfl
                    go_simp
                    refine hK.out _ _ (hHeld) (fun hHeld => ?_)
                    clear hK K
                    try simp only [Act.put, List.setIfInBounds_toArray, List.set_cons_zero, List.set_cons_succ]
                    refine wpAnyH_take (i := 13) (v := ?vcx41) (oi := ?ocx41) ?hcx41 (by kernel_rfl) (by kernel_rfl) (by kernel_rfl) (fun _ _ _ h => h) (Or.inl ⟨?wcx41, ?ycx41⟩) hHeld ?rcx41
                    case hcx41 => simp only [List.getElem?_toArray, List.getElem?_cons_zero, List.getElem?_cons_succ]; rfl
                    case wcx41 => rfl
                    case ycx41 => intro w hSw; (try dsimp only at hSw); go_simp; (try with_reducible rfl)
                    simp only [Act.put, List.setIfInBounds_toArray, List.set_cons_zero, List.set_cons_succ]
                    refine wpAnyH_take (i := 14) (v := ?vcx42) (oi := ?ocx42) ?hcx42 (by kernel_rfl) (by kernel_rfl) (by kernel_rfl) (fun _ _ _ h => h) (Or.inl ⟨?wcx42, ?ycx42⟩) hHeld ?rcx42
                    case hcx42 => simp only [List.getElem?_toArray, List.getElem?_cons_zero, List.getElem?_cons_succ]; rfl
                    case wcx42 => rfl
                    case ycx42 => intro w hSw; (try dsimp only at hSw); go_simp; (try with_reducible rfl)
                    simp only [Act.put, List.setIfInBounds_toArray, List.set_cons_zero, List.set_cons_succ]
                    refine wpAnyH_ready (rs := [15]) (by kernel_rfl) (by simp) ?_
                    refine AllReadyH.cons (o := ?ocx43) ?hcx43 (fun K hK => ?scx43) AllReadyH.nil
                    case hcx43 => simp only [List.getElem?_toArray, List.getElem?_cons_zero, List.getElem?_cons_succ]; rfl
                    go_simp
                    refine (awake7_any _).mono ?_
                    rintro e w9 ⟨rfl, k9⟩
                    have hx9 := hSno hHeld k9
                    go_wp2_with fail
                    refine hK.out _ _ (hx9) (fun hHeld => ?_)
                    clear hK K
                    try simp only [Act.put, List.setIfInBounds_toArray, List.set_cons_zero, List.set_cons_succ]
                    refine wpAnyH_take (i := 16) (v := ?vcx44) (oi := ?ocx44) ?hcx44 (by kernel_rfl) (by kernel_rfl) (by kernel_rfl) (fun _ _ _ h => h) (Or.inl ⟨?wcx44, ?ycx44⟩) hHeld ?rcx44
                    case hcx44 => simp only [List.getElem?_toArray, List.getElem?_cons_zero, List.getElem?_cons_succ]; rfl
                    case wcx44 => rfl
                    case ycx44 => intro w hSw; (try dsimp only at hSw); go_simp; (try with_reducible rfl)
                    simp only [Act.put, List.setIfInBounds_toArray, List.set_cons_zero, List.set_cons_succ]
                    refine wpAnyH_ready (rs := [17]) (by kernel_rfl) (by simp) ?_
                    refine AllReadyH.cons (o := ?ocx45) ?hcx45 (fun K hK => ?scx45) AllReadyH.nil
                    case hcx45 => simp only [List.getElem?_toArray, List.getElem?_cons_zero, List.getElem?_cons_succ]; rfl
                    go_simp
                    refine hK.out _ _ (hHeld) (fun hHeld => ?_)
                    clear hK K
                    try simp only [Act.put, List.setIfInBounds_toArray, List.set_cons_zero, List.set_cons_succ]
                    refine wpAnyH_done (by kernel_rfl) ?_ _
                    refine NoPanic.normal ?_
                    go_wp2_with fail
                    go_ret
                    exact ⟨rfl, (hk4.trans' hHeld.1).below0⟩
end
theorem healregenerates_walk {w : World} {A : Option Addr} {m cp : Nat} {sl : Nat → Int} {ds : Nat → List UInt8} (n k z : Int) (hP : Prts w A m sl ds) (hcp : m ≤ cp) : Calls Try.prog 4 #[.int .i64 n, .int .i64 k, .int .i64 z, .slice A m cp] w fun e w' => e = .returned (.bool true) ∧ Below w.heap.size w w' := by
  show Calls _ _ _ _ (R7 w)
  by_cases h : Rgt n k ∧ n ≤ 12 ∧ k ≤ 4
  · obtain ⟨hR, h1, h2⟩ := h
    by_cases hm : m ≤ 30
    · obtain ⟨r1, r2, r3, r4⟩ := hR
      obtain ⟨n', rfl⟩ : ∃ n' : Nat, n = n' := ⟨n.toNat, by omega⟩
      obtain ⟨k', rfl⟩ : ∃ k' : Nat, k = k' := ⟨k.toNat, by omega⟩
      obtain ⟨a, d, q, hD⟩ := dim_of (n := n') (k := k') (by omega) (by omega) (by omega) (by omega)
      obtain ⟨x, hX⟩ := pts_ex (n := n') hD.a1 hD.a7 hD.n2
      exact hrw_all z hP hcp hD hX (by omega) (by omega) hm
    · exact hrw_long n k z hR h1 h2 (by omega)
  · exact hrw_notsmall n k z h
end Go.Proofs.Ythmplbklphobaaa
