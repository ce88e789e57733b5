/- Package slices' merge by symmetric comparisons, the other half, and whole. -/
import Derived.Test.YthbnomemknnmeaaSsn
namespace Go.Proofs.Ythbnomemknnmeaa
open Go.RowKit
set_option linter.unusedVariables false
set_option linter.unusedSimpArgs false
set_option maxRecDepth 100000

set_option maxHeartbeats 8000000 in
theorem mg_le {b n cp bf bl : Nat} {k : Nat → Int} (a m e : Nat) (h1 : a + 2 ≤ m) (h2 : m + 2 ≤ e) (h3 : e ≤ n) (hn : n ≤ 1000) (hmm : m ≤ (a + e) / 2)
    (hIH : ∀ a' m' e' (w : World) (d : Nat → Nat), a' < m' → m' < e' → e' ≤ n → e' - a' < e - a → IRow w b n d → (∀ i, i < n → d i < n) → CmpAt bf bl k n b w → soS k d a' m' → soS k d m' e' → soB d a' m' e' →
      Calls Try.prog 29 #[.slice (some ⟨b, 0, none⟩) n cp, .int .i64 (a' : Int), .int .i64 (m' : Int), .int .i64 (e' : Int), nearV bf bl] w (SoPost w b n k d a' e')) : MgAt b n cp bf bl k a m e := by
  intro w d h hd hC hsl hsr hbl
  have h0 : ScI w b n k d a m e (soLo a m e) (soHi a m e) w := ⟨h, soC.begin (by omega) (by omega), Kp.refl _ _⟩
  have hlo : soLo a m e = a := by unfold soLo; rw [if_neg (by omega)]
  have hhi : soHi a m e = m := by unfold soHi; rw [if_neg (by omega)]
  rw [hlo, hhi] at h0
  clear hlo hhi
  have HTU := hide (fun s (hc : soC k d a m e s s) => hc.turn (by omega) (by omega) hsl hsr hbl)
  have HIN := hide (fun s r c (hc : soC k d a m e s r) => hc.in_ (c := c) (by omega) (by omega))
  have HC := hide hC
  have HD := hide hd
  have HBL := hide hbl
  have IH := hide hIH
  have zne1 : ((m : Int) - (a : Int) == 1) = false := by simp; omega
  have zne2 : ((e : Int) - (m : Int) == 1) = false := by simp; omega
  clear hIH h hd hC hsl hsr hbl
  obtain ⟨mid, hmid⟩ : ∃ mid, mid = (a + e) / 2 := ⟨_, rfl⟩
  have zmid : ((a : Int) + (e : Int)) / 2 = (mid : Int) := by omega
  have hm1 : 2 * mid ≤ a + e := by omega
  have hm2 : a + e ≤ 2 * mid + 1 := by omega
  have HMID := hide hmid
  rw [← hmid] at hmm
  clear hmid
  obtain ⟨nn, hnn⟩ : ∃ nn, nn = mid + m := ⟨_, rfl⟩
  have znn : (mid : Int) + (m : Int) = (nn : Int) := by omega
  obtain ⟨p, hp⟩ : ∃ p, p + 1 = nn := ⟨nn - 1, by omega⟩
  have zp : (nn : Int) - 1 = (p : Int) := by omega
  have hnb : nn ≤ 2000 := by omega
  have hpb : p ≤ 2000 := by omega
  clear hnn hp
  have hdm : decide (mid < m) = false := decide_eq_false (by omega)
  have hdz : decide ((m : Int) > (mid : Int)) = false := decide_eq_false (by omega)
  go_enter Try.func29, Try.ntmps29
  go_wp2_with fail
  go_loopw [20, 21] (fun iv jv wr => ∃ s r : Nat, iv = .int .i64 (s : Int) ∧ jv = .int .i64 (r : Int) ∧ ScI w b n k d a m e s r wr) (fun iv jv _ => (intOf jv).toNat - (intOf iv).toNat)
  case atStart => exact ⟨a, m, by rfl, by rfl, h0⟩
  case round =>
    clear h0
    obtain ⟨s, r, rfl, rfl, hS⟩ := hrel
    have hsr := hS.c.le
    by_cases hlt : s < r
    · obtain ⟨h, hh⟩ : ∃ h, h = (s + r) / 2 := ⟨_, rfl⟩
      have zh : ((s : Int) + (r : Int)) / 2 = (h : Int) := by omega
      have hsh : s ≤ h := by omega
      have hhr : h < r := by omega
      clear hh
      obtain ⟨i1, i2, i3, i4, i5⟩ := HIN.out s r h hS.c hsh hhr
      rw [← HMID.out] at i3 i4 i5
      obtain ⟨pc, hpc⟩ : ∃ pc, pc = mid + m - 1 - h := ⟨_, rfl⟩
      rw [← hpc] at i3 i4
      have zpc : (p : Int) - (h : Int) = (pc : Int) := by omega
      have HPC : Hid (pc = (a + e) / 2 + m - 1 - h) := hide (by rw [← HMID.out]; exact hpc)
      clear hpc i5
      obtain ⟨u, hu⟩ : ∃ u, d pc = u := ⟨_, rfl⟩
      obtain ⟨v, hv⟩ : ∃ v, d h = v := ⟨_, rfl⟩
      have x1 := hS.row.cellv (show pc < n by omega) hu
      have x2 := hS.row.cellv (show h < n by omega) hv
      have hun : u < n := by rw [← hu]; exact HD.out pc (by omega)
      have hvn : v < n := by rw [← hv]; exact HD.out h (by omega)
      have hq := hide (HC.out.q hS.kp hun hvn)
      have HLT := hide (HBL.out h pc i1 i2 i3 i4)
      rw [hu, hv] at HLT
      have HU := hide hu
      have HV := hide hv
      have HS := hide hS
      clear hu hv hS hun hvn
      by_cases hlt2 : k u < k v
      · have hdec : decide (cmpZ (k u) (k v) < 0) = true := by rw [cmpZ_lt]; exact decide_eq_true hlt2
        have HUP := hide hlt2
        generalize cmpZ (k u) (k v) = c at hdec hq
        clear hlt2
        go_wp2_with fail
        go_quiet ((go_at_call 24; with_reducible exact hq.out _))
        clear x1 x2 hq
        go_wp2_with fail
        go_round
        case rel => exact ⟨s, h, by rfl, by rfl, ⟨HS.out.row.no ((Kp.refl No _).drewN nq), HS.out.c.down hsh hhr (by rw [← HPC.out, HU.out, HV.out]; exact .inl HUP.out), HS.out.kp.drewN nq⟩⟩
        case measure => simp [intOf]; omega
      · have hdec : decide (cmpZ (k u) (k v) < 0) = false := by rw [cmpZ_lt]; exact decide_eq_false hlt2
        have HUP := hide hlt2
        generalize cmpZ (k u) (k v) = c at hdec hq
        clear hlt2
        go_wp2_with fail
        go_quiet ((go_at_call 24; with_reducible exact hq.out _))
        clear x1 x2 hq
        go_wp2_with fail
        go_round
        case rel => exact ⟨h + 1, r, by go_num, by rfl, ⟨HS.out.row.no ((Kp.refl No _).drewN nq), HS.out.c.up hsh hhr (by rw [← HPC.out, HU.out, HV.out]; exact (soL.of_not HLT.out).2 (by have := HUP.out; omega)), HS.out.kp.drewN nq⟩⟩
        case measure => simp [intOf]; omega
    · obtain rfl : s = r := by omega
      clear hlt
      obtain ⟨ht, q1, q2⟩ := HTU.out s hS.c
      have HS := hide hS
      clear hS
      rw [← HMID.out] at ht q2
      obtain ⟨e1, he1⟩ : ∃ e1, e1 = mid + m - s := ⟨_, rfl⟩
      rw [← he1] at ht q2
      obtain ⟨o1, o2, o3, o4⟩ := ht.ord
      have ze1 : (nn : Int) - (s : Int) = (e1 : Int) := by omega
      have hsum : s + e1 = mid + m := by omega
      have HT := hide ht
      clear ht he1
      by_cases g1 : s < m ∧ m < e1
      · obtain ⟨g11, g12⟩ := g1
        have gs : s < mid := by omega
        have ge : mid < e1 := by omega
        go_wp2_with fail
        refine (rotate_any HS.out.row s m e1 g11 g12 (by omega) hn).mono ?_
        rintro en w1 ⟨rfl, hI1, hk1⟩
        have HB : Hid (MgB w b n k d a s mid e1 e (soRot d s m e1) w1) := hide ⟨hI1, HT.out, (rot_same (by omega) (by omega)).wide (by omega) (by omega), HS.out.kp.trans' hk1⟩
        clear hI1 hk1
        by_cases g2 : a < s
        · skip
          go_wp2_with fail
          refine (IH.out a s mid _ _ (by omega) (by omega) (by omega) (by omega) HB.out.row (HB.out.same.lt HD.out h3) (HC.out.on HB.out.kp) HB.out.t.s1 HB.out.t.s2 HB.out.t.b1).mono ?_
          rintro en w2 ⟨rfl, d2, hI2, hE2, hS2, hk2⟩
          have HL := hide (HB.out.call hI2 hE2 hS2 hk2)
          clear hI2 hE2 hS2 hk2
          by_cases g3 : e1 < e
          · skip
            go_wp2_with fail
            refine (IH.out mid e1 e _ _ (by omega) (by omega) (by omega) (by omega) HL.out.row (HL.out.same.lt HD.out h3) (HC.out.on HL.out.kp) HL.out.right.1 HL.out.right.2.1 HL.out.right.2.2).mono ?_
            rintro en w3 ⟨rfl, d3, hI3, hE3, hS3, hk3⟩
            have HF := hide (HL.out.call hI3 hE3 hS3 hk3)
            clear hI3 hE3 hS3 hk3
            go_wp2_with fail
            go_end0
            exact HF.out
          · skip
            go_wp2_with fail
            go_end0
            exact HL.out.skip (.inr (by omega))
        · have HL := hide (HB.out.skip (.inl (by omega)))
          by_cases g3 : e1 < e
          · skip
            go_wp2_with fail
            refine (IH.out mid e1 e _ _ (by omega) (by omega) (by omega) (by omega) HL.out.row (HL.out.same.lt HD.out h3) (HC.out.on HL.out.kp) HL.out.right.1 HL.out.right.2.1 HL.out.right.2.2).mono ?_
            rintro en w3 ⟨rfl, d3, hI3, hE3, hS3, hk3⟩
            have HF := hide (HL.out.call hI3 hE3 hS3 hk3)
            clear hI3 hE3 hS3 hk3
            go_wp2_with fail
            go_end0
            exact HF.out
          · skip
            go_wp2_with fail
            go_end0
            exact HL.out.skip (.inr (by omega))
      · have hno : s = m ∨ m = e1 := by omega
        have HB : Hid (MgB w b n k d a s mid e1 e d wr) := hide ⟨HS.out.row, by have t := HT.out; rw [rot_none hno (by omega) (by omega)] at t; exact t, soE.refl _ _ _, HS.out.kp⟩
        have hsm : s = m := by omega
        have hem : mid = e1 := by omega
        subst hsm
        subst hem
        by_cases g2 : s < mid
        · skip
          go_wp2_with fail
          refine (IH.out a s mid _ _ (by omega) (by omega) (by omega) (by omega) HB.out.row (HB.out.same.lt HD.out h3) (HC.out.on HB.out.kp) HB.out.t.s1 HB.out.t.s2 HB.out.t.b1).mono ?_
          rintro en w2 ⟨rfl, d2, hI2, hE2, hS2, hk2⟩
          have HL := hide (HB.out.call hI2 hE2 hS2 hk2)
          clear hI2 hE2 hS2 hk2
          go_wp2_with fail
          go_end0
          exact HL.out.skip (.inl rfl)
        · have HL := hide (HB.out.skip (.inr (by omega)))
          go_wp2_with fail
          go_end0
          exact HL.out.skip (.inl rfl)
theorem merge_any {b n cp bf bl : Nat} {k : Nat → Int} (hn : n ≤ 1000) : ∀ N a m e, e - a ≤ N → a < m → m < e → e ≤ n → MgAt b n cp bf bl k a m e := by
  intro N
  induction N with
  | zero => intro a m e h0 h1 h2 h3; omega
  | succ N ih =>
    intro a m e h0 h1 h2 h3
    by_cases c1 : m = a + 1
    · intro w d h hd hC s1 s2 hb
      exact mg_left h hd hC a m e c1 h2 h3 hn s2 hb
    · by_cases c2 : e = m + 1
      · intro w d h hd hC s1 s2 hb
        exact mg_right h hd hC a m e c2 (by omega) h3 hn s1 hb
      · rcases Nat.lt_or_ge ((a + e) / 2) m with g | g
        · exact mg_gt a m e (by omega) (by omega) h3 hn g fun a' m' e' w d q1 q2 q3 q4 => ih a' m' e' (by omega) q1 q2 q3 w d
        · exact mg_le a m e (by omega) (by omega) h3 hn g fun a' m' e' w d q1 q2 q3 q4 => ih a' m' e' (by omega) q1 q2 q3 w d
end Go.Proofs.Ythbnomemknnmeaa
