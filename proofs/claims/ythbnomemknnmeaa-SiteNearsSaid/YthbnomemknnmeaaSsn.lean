/- Package slices' merge by symmetric comparisons, as a contract over memory. -/
import Derived.Test.YthbnomemknnmeaaSsm
namespace Go.Proofs.Ythbnomemknnmeaa
open Go.RowKit
set_option linter.unusedVariables false
set_option linter.unusedSimpArgs false
set_option maxRecDepth 100000

section
variable {k : Nat → Int} {d d1 d2 d3 : Nat → Nat} {a m e s r c mid e1 b n : Nat} {w wr w2 : World}
theorem soC.up (h : soC k d a m e s r) (h1 : s ≤ c) (h2 : c < r) (hl : soL k (d c) (d ((a + e) / 2 + m - 1 - c))) : soC k d a m e (c + 1) r :=
  ⟨by have := h.lo; omega, by omega, h.hi, .inr hl, h.no⟩
theorem soC.down (h : soC k d a m e s r) (h1 : s ≤ c) (h2 : c < r) (hl : soL k (d ((a + e) / 2 + m - 1 - c)) (d c)) : soC k d a m e s c :=
  ⟨h.lo, h1, by have := h.hi; omega, h.yes, .inr hl⟩
/-- The search of a merge, whose row is as it was. -/
structure ScI (w : World) (b n : Nat) (k : Nat → Int) (d : Nat → Nat) (a m e s r : Nat) (wr : World) : Prop where
  row : IRow wr b n d
  c : soC k d a m e s r
  kp : Kp (On b) w wr
/-- What is rotated (if it was to be) falls into two merges. -/
structure MgB (w : World) (b n : Nat) (k : Nat → Int) (d : Nat → Nat) (a s mid e1 e : Nat) (d1 : Nat → Nat) (wr : World) : Prop where
  row : IRow wr b n d1
  t : soT k d1 a s mid e1 e
  same : soE d d1 a e
  kp : Kp (On b) w wr
/-- The left merge is done. -/
structure MgL (w : World) (b n : Nat) (k : Nat → Int) (d : Nat → Nat) (a s mid e1 e : Nat) (d2 : Nat → Nat) (wr : World) : Prop where
  row : IRow wr b n d2
  ex : ∃ d1, soT k d1 a s mid e1 e ∧ soE d1 d2 a mid ∧ soS k d2 a mid
  same : soE d d2 a e
  kp : Kp (On b) w wr
theorem MgB.skip (h : MgB w b n k d a s mid e1 e d1 wr) (g : s = a ∨ s = mid) : MgL w b n k d a s mid e1 e d1 wr :=
  ⟨h.row, ⟨d1, h.t, soE.refl _ _ _, by rcases g with rfl | rfl; exact h.t.s2; exact h.t.s1⟩, h.same, h.kp⟩
theorem MgB.call (h : MgB w b n k d a s mid e1 e d1 wr) (h1 : IRow w2 b n d2) (h2 : soE d1 d2 a mid) (h3 : soS k d2 a mid) (h4 : Kp (On b) wr w2) : MgL w b n k d a s mid e1 e d2 w2 :=
  ⟨h1, ⟨d1, h.t, h2, h3⟩, h.same.trans (h2.wide (Nat.le_refl _) (by have := h.t.ord; omega)), h.kp.trans' h4⟩
theorem MgL.right (h : MgL w b n k d a s mid e1 e d2 wr) : soS k d2 mid e1 ∧ soS k d2 e1 e ∧ soB d2 mid e1 e := by
  obtain ⟨d1, t, g, _⟩ := h.ex
  exact t.right g
theorem MgL.skip (h : MgL w b n k d a s mid e1 e d2 wr) (g : mid = e1 ∨ e1 = e) : SoPost w b n k d a e (.returned (.tuple #[])) wr := by
  have hr := h.right
  obtain ⟨d1, t, g1, g2⟩ := h.ex
  refine ⟨rfl, d2, h.row, h.same, t.done g1 g2 (soE.refl _ _ _) ?_, h.kp⟩
  rcases g with rfl | rfl
  · exact hr.2.1
  · exact hr.1
theorem MgL.call (h : MgL w b n k d a s mid e1 e d2 wr) (h1 : IRow w2 b n d3) (h2 : soE d2 d3 mid e) (h3 : soS k d3 mid e) (h4 : Kp (On b) wr w2) : SoPost w b n k d a e (.returned (.tuple #[])) w2 := by
  obtain ⟨d1, t, g1, g2⟩ := h.ex
  exact ⟨rfl, d3, h1, h.same.trans (h2.wide (by have := t.ord; omega) (Nat.le_refl _)), t.done g1 g2 h2 h3, h.kp.trans' h4⟩
end
/-- A merge's contract. -/
def MgAt (b n cp bf bl : Nat) (k : Nat → Int) (a m e : Nat) : Prop := ∀ (w : World) (d : Nat → Nat), IRow w b n d → (∀ i, i < n → d i < n) → CmpAt bf bl k n b w → soS k d a m → soS k d m e → soB d a m e →
  Calls Try.prog 29 #[.slice (some ⟨b, 0, none⟩) n cp, .int .i64 (a : Int), .int .i64 (m : Int), .int .i64 (e : Int), nearV bf bl] w (SoPost w b n k d a e)
set_option maxHeartbeats 8000000 in
theorem mg_gt {b n cp bf bl : Nat} {k : Nat → Int} (a m e : Nat) (h1 : a + 2 ≤ m) (h2 : m + 2 ≤ e) (h3 : e ≤ n) (hn : n ≤ 1000) (hmm : (a + e) / 2 < m)
    (hIH : ∀ a' m' e' (w : World) (d : Nat → Nat), a' < m' → m' < e' → e' ≤ n → e' - a' < e - a → IRow w b n d → (∀ i, i < n → d i < n) → CmpAt bf bl k n b w → soS k d a' m' → soS k d m' e' → soB d a' m' e' →
      Calls Try.prog 29 #[.slice (some ⟨b, 0, none⟩) n cp, .int .i64 (a' : Int), .int .i64 (m' : Int), .int .i64 (e' : Int), nearV bf bl] w (SoPost w b n k d a' e')) : MgAt b n cp bf bl k a m e := by
  intro w d h hd hC hsl hsr hbl
  have h0 : ScI w b n k d a m e (soLo a m e) (soHi a m e) w := ⟨h, soC.begin (by omega) (by omega), Kp.refl _ _⟩
  have hlo : soLo a m e = (a + e) / 2 + m - e := by unfold soLo; rw [if_pos hmm]
  have hhi : soHi a m e = (a + e) / 2 := by unfold soHi; rw [if_pos hmm]
  rw [hlo, hhi] at h0
  clear hlo hhi
  have HTU := hide (fun s (hc : soC k d a m e s s) => hc.turn (by omega) (by omega) hsl hsr hbl)
  have HIN := hide (fun s r c (hc : soC k d a m e s r) => hc.in_ (c := c) (by omega) (by omega))
  have HC := hide hC
  have HD := hide hd
  have HBL := hide hbl
  have IH := hide hIH
  have zne1 : ((m : Int) - (a : Int) == 1) = false := by simp; omega
  have zne2 : ((e : Int) - (m : Int) == 1) = false := by simp; omega
  clear hIH h hd hC hsl hsr hbl
  obtain ⟨mid, hmid⟩ : ∃ mid, mid = (a + e) / 2 := ⟨_, rfl⟩
  have zmid : ((a : Int) + (e : Int)) / 2 = (mid : Int) := by omega
  have hm1 : 2 * mid ≤ a + e := by omega
  have hm2 : a + e ≤ 2 * mid + 1 := by omega
  have HMID := hide hmid
  rw [← hmid] at h0 hmm
  clear hmid
  obtain ⟨nn, hnn⟩ : ∃ nn, nn = mid + m := ⟨_, rfl⟩
  have znn : (mid : Int) + (m : Int) = (nn : Int) := by omega
  obtain ⟨p, hp⟩ : ∃ p, p + 1 = nn := ⟨nn - 1, by omega⟩
  have zp : (nn : Int) - 1 = (p : Int) := by omega
  have hnb : nn ≤ 2000 := by omega
  have hpb : p ≤ 2000 := by omega
  clear hnn hp
  obtain ⟨lo, hlo⟩ : ∃ lo, lo = mid + m - e := ⟨_, rfl⟩
  have zlo : (nn : Int) - (e : Int) = (lo : Int) := by omega
  rw [← hlo] at h0
  clear hlo
  go_enter Try.func29, Try.ntmps29
  go_wp2_with fail
  go_loopw [20, 21] (fun iv jv wr => ∃ s r : Nat, iv = .int .i64 (s : Int) ∧ jv = .int .i64 (r : Int) ∧ ScI w b n k d a m e s r wr) (fun iv jv _ => (intOf jv).toNat - (intOf iv).toNat)
  case atStart => exact ⟨lo, mid, by rfl, by rfl, h0⟩
  case round =>
    clear h0
    obtain ⟨s, r, rfl, rfl, hS⟩ := hrel
    have hsr := hS.c.le
    by_cases hlt : s < r
    · obtain ⟨h, hh⟩ : ∃ h, h = (s + r) / 2 := ⟨_, rfl⟩
      have zh : ((s : Int) + (r : Int)) / 2 = (h : Int) := by omega
      have hsh : s ≤ h := by omega
      have hhr : h < r := by omega
      clear hh
      obtain ⟨i1, i2, i3, i4, i5⟩ := HIN.out s r h hS.c hsh hhr
      rw [← HMID.out] at i3 i4 i5
      obtain ⟨pc, hpc⟩ : ∃ pc, pc = mid + m - 1 - h := ⟨_, rfl⟩
      rw [← hpc] at i3 i4
      have zpc : (p : Int) - (h : Int) = (pc : Int) := by omega
      have HPC : Hid (pc = (a + e) / 2 + m - 1 - h) := hide (by rw [← HMID.out]; exact hpc)
      clear hpc i5
      obtain ⟨u, hu⟩ : ∃ u, d pc = u := ⟨_, rfl⟩
      obtain ⟨v, hv⟩ : ∃ v, d h = v := ⟨_, rfl⟩
      have x1 := hS.row.cellv (show pc < n by omega) hu
      have x2 := hS.row.cellv (show h < n by omega) hv
      have hun : u < n := by rw [← hu]; exact HD.out pc (by omega)
      have hvn : v < n := by rw [← hv]; exact HD.out h (by omega)
      have hq := hide (HC.out.q hS.kp hun hvn)
      have HLT := hide (HBL.out h pc i1 i2 i3 i4)
      rw [hu, hv] at HLT
      have HU := hide hu
      have HV := hide hv
      have HS := hide hS
      clear hu hv hS hun hvn
      by_cases hlt2 : k u < k v
      · have hdec : decide (cmpZ (k u) (k v) < 0) = true := by rw [cmpZ_lt]; exact decide_eq_true hlt2
        have HUP := hide hlt2
        generalize cmpZ (k u) (k v) = c at hdec hq
        clear hlt2
        go_wp2_with fail
        go_quiet ((go_at_call 24; with_reducible exact hq.out _))
        clear x1 x2 hq
        go_wp2_with fail
        go_round
        case rel => exact ⟨s, h, by rfl, by rfl, ⟨HS.out.row.no ((Kp.refl No _).drewN nq), HS.out.c.down hsh hhr (by rw [← HPC.out, HU.out, HV.out]; exact .inl HUP.out), HS.out.kp.drewN nq⟩⟩
        case measure => simp [intOf]; omega
      · have hdec : decide (cmpZ (k u) (k v) < 0) = false := by rw [cmpZ_lt]; exact decide_eq_false hlt2
        have HUP := hide hlt2
        generalize cmpZ (k u) (k v) = c at hdec hq
        clear hlt2
        go_wp2_with fail
        go_quiet ((go_at_call 24; with_reducible exact hq.out _))
        clear x1 x2 hq
        go_wp2_with fail
        go_round
        case rel => exact ⟨h + 1, r, by go_num, by rfl, ⟨HS.out.row.no ((Kp.refl No _).drewN nq), HS.out.c.up hsh hhr (by rw [← HPC.out, HU.out, HV.out]; exact (soL.of_not HLT.out).2 (by have := HUP.out; omega)), HS.out.kp.drewN nq⟩⟩
        case measure => simp [intOf]; omega
    · obtain rfl : s = r := by omega
      clear hlt
      obtain ⟨ht, q1, q2⟩ := HTU.out s hS.c
      have HS := hide hS
      clear hS
      rw [← HMID.out] at ht q2
      obtain ⟨e1, he1⟩ : ∃ e1, e1 = mid + m - s := ⟨_, rfl⟩
      rw [← he1] at ht q2
      obtain ⟨o1, o2, o3, o4⟩ := ht.ord
      have ze1 : (nn : Int) - (s : Int) = (e1 : Int) := by omega
      have hsum : s + e1 = mid + m := by omega
      have HT := hide ht
      clear ht he1
      by_cases g1 : s < m ∧ m < e1
      · obtain ⟨g11, g12⟩ := g1
        have gs : s < mid := by omega
        have ge : mid < e1 := by omega
        go_wp2_with fail
        refine (rotate_any HS.out.row s m e1 g11 g12 (by omega) hn).mono ?_
        rintro en w1 ⟨rfl, hI1, hk1⟩
        have HB : Hid (MgB w b n k d a s mid e1 e (soRot d s m e1) w1) := hide ⟨hI1, HT.out, (rot_same (by omega) (by omega)).wide (by omega) (by omega), HS.out.kp.trans' hk1⟩
        clear hI1 hk1
        by_cases g2 : a < s
        · skip
          go_wp2_with fail
          refine (IH.out a s mid _ _ (by omega) (by omega) (by omega) (by omega) HB.out.row (HB.out.same.lt HD.out h3) (HC.out.on HB.out.kp) HB.out.t.s1 HB.out.t.s2 HB.out.t.b1).mono ?_
          rintro en w2 ⟨rfl, d2, hI2, hE2, hS2, hk2⟩
          have HL := hide (HB.out.call hI2 hE2 hS2 hk2)
          clear hI2 hE2 hS2 hk2
          by_cases g3 : e1 < e
          · skip
            go_wp2_with fail
            refine (IH.out mid e1 e _ _ (by omega) (by omega) (by omega) (by omega) HL.out.row (HL.out.same.lt HD.out h3) (HC.out.on HL.out.kp) HL.out.right.1 HL.out.right.2.1 HL.out.right.2.2).mono ?_
            rintro en w3 ⟨rfl, d3, hI3, hE3, hS3, hk3⟩
            have HF := hide (HL.out.call hI3 hE3 hS3 hk3)
            clear hI3 hE3 hS3 hk3
            go_wp2_with fail
            go_end0
            exact HF.out
          · skip
            go_wp2_with fail
            go_end0
            exact HL.out.skip (.inr (by omega))
        · have HL := hide (HB.out.skip (.inl (by omega)))
          by_cases g3 : e1 < e
          · skip
            go_wp2_with fail
            refine (IH.out mid e1 e _ _ (by omega) (by omega) (by omega) (by omega) HL.out.row (HL.out.same.lt HD.out h3) (HC.out.on HL.out.kp) HL.out.right.1 HL.out.right.2.1 HL.out.right.2.2).mono ?_
            rintro en w3 ⟨rfl, d3, hI3, hE3, hS3, hk3⟩
            have HF := hide (HL.out.call hI3 hE3 hS3 hk3)
            clear hI3 hE3 hS3 hk3
            go_wp2_with fail
            go_end0
            exact HF.out
          · skip
            go_wp2_with fail
            go_end0
            exact HL.out.skip (.inr (by omega))
      · have hno : s = m ∨ m = e1 := by omega
        have HB : Hid (MgB w b n k d a s mid e1 e d wr) := hide ⟨HS.out.row, by have t := HT.out; rw [rot_none hno (by omega) (by omega)] at t; exact t, soE.refl _ _ _, HS.out.kp⟩
        have hsm : s = mid := by omega
        have hem : m = e1 := by omega
        subst hsm
        subst hem
        have HL := hide (HB.out.skip (.inr rfl))
        go_wp2_with fail
        refine (IH.out s m e _ _ (by omega) (by omega) (by omega) (by omega) HL.out.row (HL.out.same.lt HD.out h3) (HC.out.on HL.out.kp) HL.out.right.1 HL.out.right.2.1 HL.out.right.2.2).mono ?_
        rintro en w3 ⟨rfl, d3, hI3, hE3, hS3, hk3⟩
        have HF := hide (HL.out.call hI3 hE3 hS3 hk3)
        clear hI3 hE3 hS3 hk3
        go_wp2_with fail
        go_end0
        exact HF.out
end Go.Proofs.Ythbnomemknnmeaa
