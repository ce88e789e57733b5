/- PlatterKeeps walked: it returns true for any acts and any numbers. No condition. -/
import Derived.Test.YtgdlcijohedbhaaPli
import Derived.Test.YtgdlcijohedbhaaPlk
import Derived.Test.YtgdlcijohedbhaaBo
import Derived.Deep.DeepCutAuto
import Derived.Deep.CutBlock
namespace Go.Proofs.Ytgdlcijohedbhaa
open Go.RowKit
set_option linter.unusedVariables false
set_option maxRecDepth 20000
set_option linter.unusedSimpArgs false

/-- What a law knows of its disk: all that is the disk's own is the call's own, and lies outside X. -/
structure LwI (W : World) (X : Nat → Prop) (g : Nat) (D : Dk) (wr : World) : Prop where
  ex : ∃ F : Nat → Prop, DkAt wr F g D ∧ ∀ k, F k → W.heap.size ≤ k ∧ k < wr.heap.size ∧ ¬ X k
  kp : Kp No W wr
section
variable {W wr w1 : World} {F X : Nat → Prop} {g b : Nat} {D D' : Dk}
theorem LwI.next (hF : ∀ k, F k → W.heap.size ≤ k ∧ k < wr.heap.size ∧ ¬ X k) (kp : Kp No W wr) (hX : ∀ k, X k → k < wr.heap.size) (hd : DkAt w1 (Up F wr) g D') (hk : Kp F wr w1) : LwI W X g D' w1 ∧ Kp (fun q => ¬ X q) wr w1 := by
  refine ⟨⟨⟨_, hd.lt, fun k hk' => ⟨?_, hk'.2, fun x => ?_⟩⟩, kp.trans (hk.mono fun q hq => .inr (hF q hq).1)⟩, hk.mono fun q hq => (hF q hq).2.2⟩
  · rcases hk'.1 with f | f
    · exact (hF k f).1
    · exact Nat.le_trans kp.size f
  · rcases hk'.1 with f | f
    · exact (hF k f).2.2 x
    · have := hX k x
      omega
theorem LwI.no (h : LwI W X g D wr) (hk : Kp No wr w1) : LwI W X g D w1 := by
  obtain ⟨⟨F, hd, hF⟩, kp⟩ := h
  exact ⟨⟨F, hd.no hk, fun k hk' => ⟨(hF k hk').1, Nat.lt_of_lt_of_le (hF k hk').2.1 hk.size, (hF k hk').2.2⟩⟩, kp.trans' hk⟩
/-- A block that isn't the disk's is written. -/
theorem LwI.set (h : LwI W X g D wr) (hX : X b) (hb : W.heap.size ≤ b) (hk : Kp (fun q => q = b) wr w1) : LwI W X g D w1 := by
  obtain ⟨⟨F, hd, hF⟩, kp⟩ := h
  exact ⟨⟨F, hd.keep hk fun k _ hf e => (hF k hf).2.2 (by subst e; exact hX), fun k hk' => ⟨(hF k hk').1, Nat.lt_of_lt_of_le (hF k hk').2.1 hk.size, (hF k hk').2.2⟩⟩, kp.trans (hk.mono fun q e => .inr (by omega))⟩
end
/-- What the first loop keeps. -/
def Kp1 (W : World) (g k : Nat) (wr : World) : Prop := ∃ D, LwI W (fun _ => False) g D wr ∧ D.loose.length ≤ k ∧ D.syncs = 0 ∧ D.cells.length = 8
theorem Dk.put_loose (D : Dk) (z : Int) (b : List UInt8) : (D.put z b).loose.length ≤ D.loose.length + 1 ∧ (D.put z b).syncs = D.syncs ∧ (D.put z b).cells = D.cells := by
  unfold Dk.put
  split
  · simp
  · simp
/-- What was read ahead: the slices of the second loop. -/
def Was (ws : World) (D : Dk) (k : Nat) (v : Value) (wr : World) : Prop :=
  ∃ vs : List Value, vs.length = k ∧ OwnT wr ws.heap.size 33 1 v k vs ∧ (∀ (j : Nat) (u : Value), vs[j]? = some u → Own wr ws.heap.size 5 u (D.rd (j : Int))) ∧ Kp No ws wr
theorem Was.next {ws wr w1 w2 : World} {D : Dk} {k : Nat} {v u v2 : Value} {vs : List Value} (h1 : vs.length = k) (h2 : OwnT wr ws.heap.size 33 1 v k vs) (h3 : ∀ (j : Nat) (u : Value), vs[j]? = some u → Own wr ws.heap.size 5 u (D.rd (j : Int))) (h4 : Kp No ws wr)
    (hk1 : Kp No wr w1) (hu : Own w1 ws.heap.size 5 u (D.rd (k : Int))) (ha : AppT w1 ws.heap.size 33 1 v k vs 1 [u] v2 w2) : Was ws D (k + 1) v2 w2 := by
  have key : ∀ {x : Value} {bs : List UInt8}, Own w1 ws.heap.size 5 x bs → Own w2 ws.heap.size 5 x bs := fun hx =>
    hx.keep ha.kp fun q hq hq' => ownT_far (e := 5) (sz := 1) (n := _) (xs := _) hx (h2.no hk1) (by decide) hq hq'
  refine ⟨vs ++ [u], by simp [h1], ha.own, fun j x hj => ?_, (h4.trans' hk1).trans (ha.kp.mono fun q hq => .inr ((h2.no hk1).ge q hq))⟩
  rcases Nat.lt_or_ge j k with g | g
  · rw [List.getElem?_append_left (by omega)] at hj
    exact key ((h3 j x hj).no hk1)
  · rw [List.getElem?_append_right (by omega)] at hj
    have hj0 : j - vs.length = 0 := by
      have := (List.getElem?_eq_some_iff.1 hj).1
      simp at this
      omega
    rw [hj0] at hj
    simp at hj
    subst hj
    obtain rfl : j = k := by omega
    exact key hu
/-- The blocks made from ws to wt. -/
def Btw (ws wt : World) (k : Nat) : Prop := ws.heap.size ≤ k ∧ k < wt.heap.size
/-- What the third loop keeps. -/
structure Kp3 (W ws wt : World) (g gt k : Nat) (D1 : Dk) (wr : World) : Prop where
  ex : ∃ D f, LwI W (Btw ws wt) g D wr ∧ BRow wr gt 8 f ∧ (∀ p ∈ D.loose, f p.1 = true) ∧ D.cells = D1.cells ∧ D.loose.length ≤ k ∧ D.syncs ≤ 1
  kp : Kp (fun q => ¬ Btw ws wt q ∨ q = gt) wt wr

set_option maxRecDepth 100000 in
set_option maxHeartbeats 8000000 in
theorem platkeeps_any (W : World) {A0 A1 : Option Addr} {n0 c0 n1 c1 : Nat} {ds es : List ActP} (h0 : ActsP W A0 n0 ds) (h1 : ActsP W A1 n1 es) (z y : Int) :
    Calls Try.prog 5 #[.slice A0 n0 c0, .slice A1 n1 c1, .int .i64 z, .int .i64 y] W (TruePost W) := by
  have hb0 := h0.big
  have hb1 := h1.big
  have HL0 := hide h0.len
  have HL1 := hide h1.len
  have HA0 := hide h0
  have HA1 := hide h1
  clear h0 h1
  go_enter Try.func5, Try.ntmps5
  go_wp2_with fail
  refine (awake11_any _).mono ?_
  rintro e w0 ⟨rfl, k0⟩
  go_wp2_with fail
  refine (pnew_yes w0 8 100 (by omega) (by omega) (by omega) (by omega)).mono ?_
  rintro e w1 ⟨g, rfl, hg, hD1, k1⟩
  have hI0 : Kp1 W g 0 w1 := ⟨_, ⟨⟨_, hD1.lt, fun k hk => ⟨Nat.le_trans k0.size hk.1, hk.2, fun f => f⟩⟩, k0.trans' k1⟩, Nat.le_refl _, rfl, rfl⟩
  have HI0 := hide hI0
  clear hg hD1 k0 k1 hI0
  go_upto_block 0 with fail
  go_cut [11] (fun v wx => Kp1 W g 30 wx)
  case first =>
    go_wp2_with fail
    go_loopw [11] (fun i wr => ∃ k : Nat, k ≤ n0 ∧ k ≤ 30 ∧ i = .int .i64 (k : Int) ∧ Kp1 W g k wr) (fun i _ => 30 - (intOf i).toNat)
    case atStart => exact ⟨0, Nat.zero_le _, by omega, rfl, HI0.out⟩
    case round =>
      obtain ⟨k, hk, hk30, rfl, hI⟩ := hrel
      by_cases hlt : k < n0
      · by_cases hl30 : k < 30
        · obtain ⟨d, hd⟩ : ∃ d, ds[k]? = some d := ⟨_, List.getElem?_eq_getElem (by have := HL0.out; omega)⟩
          obtain ⟨D, hL, hl, hs, hc⟩ := hI
          obtain ⟨⟨F, hD, hF⟩, hkp⟩ := hL
          obtain ⟨B, off, A', m, c', rfl, ha⟩ := HA0.out.at_ k d hd
          have ha2 := ha.no (hkp.trans' (Kp.refl No wr).drew)
          have x1 := ha2.c1
          have x4 := ha2.c4
          have HB := hide ha2.bts
          have HHA := hide ha
          have HD := hide (hD.no (Kp.refl No wr).drew)
          have HLL := hide hl
          have HLS := hide hs
          have HLC := hide hc
          have HKP := hide hkp.drew
          have HFF := hide hF
          clear hd ha ha2 hD hl hs hc hkp hF
          go_wp2_with fail
          refine wp_region_noPanic ?_
          refine wp_region_held_drew (S := fun w' => w'.cell? ⟨B, off + k * 5 + 1, none⟩ = some (.int .i64 d.cell) ∧ w'.cell? ⟨B, off + k * 5 + 4, none⟩ = some (.slice A' m c')) (by kernel_rfl) (⟨x1, x4⟩) (fun hHeld => ?_)
          refine wpAnyH_take (i := 0) (v := ?va0) (oi := ?oa0) ?ha0 (by kernel_rfl) (by kernel_rfl) (by kernel_rfl) (fun _ _ _ h => h) (Or.inl ⟨?wa0, ?ya0⟩) hHeld ?ra0
          case ha0 => simp only [List.getElem?_toArray, List.getElem?_cons_zero, List.getElem?_cons_succ]; rfl
          case wa0 => rfl
          case ya0 => intro w hSw; (try dsimp only at hSw); go_simp; (try with_reducible rfl)
          simp only [Act.put, List.setIfInBounds_toArray, List.set_cons_zero, List.set_cons_succ]
          refine wpAnyH_take (i := 1) (v := ?va1) (oi := ?oa1) ?ha1 (by kernel_rfl) (by kernel_rfl) (by kernel_rfl) (fun _ _ _ h => h) (Or.inl ⟨?wa1, ?ya1⟩) hHeld ?ra1
          case ha1 => simp only [List.getElem?_toArray, List.getElem?_cons_zero, List.getElem?_cons_succ]; rfl
          case wa1 => rfl
          case ya1 => intro w hSw; (try dsimp only at hSw); go_simp; (try with_reducible rfl)
          simp only [Act.put, List.setIfInBounds_toArray, List.set_cons_zero, List.set_cons_succ]
          refine wpAnyH_take (i := 2) (v := ?va2) (oi := ?oa2) ?ha2 (by kernel_rfl) (by kernel_rfl) (by kernel_rfl) (fun _ _ _ h => h) (Or.inl ⟨?wa2, ?ya2⟩) hHeld ?ra2
          case ha2 => simp only [List.getElem?_toArray, List.getElem?_cons_zero, List.getElem?_cons_succ]; rfl
          case wa2 => rfl
          case ya2 => intro w hSw; (try dsimp only at hSw); go_simp; (try with_reducible rfl)
          simp only [Act.put, List.setIfInBounds_toArray, List.set_cons_zero, List.set_cons_succ]
          refine wpAnyH_take (i := 3) (v := ?va3) (oi := ?oa3) ?ha3 (by kernel_rfl) (by kernel_rfl) (by kernel_rfl) (fun _ _ _ h => h) (Or.inl ⟨?wa3, ?ya3⟩) hHeld ?ra3
          case ha3 => simp only [List.getElem?_toArray, List.getElem?_cons_zero, List.getElem?_cons_succ]; rfl
          case wa3 => rfl
          case ya3 => intro w hSw; (try dsimp only at hSw); go_simp; (try with_reducible rfl)
          simp only [Act.put, List.setIfInBounds_toArray, List.set_cons_zero, List.set_cons_succ]
          refine wpAnyH_take (i := 4) (v := ?va4) (oi := ?oa4) ?ha4 (by kernel_rfl) (by kernel_rfl) (by kernel_rfl) (fun _ _ _ h => h) (Or.inl ⟨?wa4, ?ya4⟩) hHeld ?ra4
          case ha4 => simp only [List.getElem?_toArray, List.getElem?_cons_zero, List.getElem?_cons_succ]; rfl
          case wa4 => rfl
          case ya4 => intro w hSw; (try dsimp only at hSw); go_simp; (try with_reducible rfl)
          simp only [Act.put, List.setIfInBounds_toArray, List.set_cons_zero, List.set_cons_succ]
          refine wpAnyH_take (i := 5) (v := ?va5) (oi := ?oa5) ?ha5 (by kernel_rfl) (by kernel_rfl) (by kernel_rfl) (fun _ _ _ h => h) (Or.inl ⟨?wa5, ?ya5⟩) hHeld ?ra5
          case ha5 => simp only [List.getElem?_toArray, List.getElem?_cons_zero, List.getElem?_cons_succ]; rfl
          case wa5 => rfl
          case ya5 => intro w hSw; (try dsimp only at hSw); go_simp; (try with_reducible rfl)
          simp only [Act.put, List.setIfInBounds_toArray, List.set_cons_zero, List.set_cons_succ]
          refine wpAnyH_take (i := 6) (v := ?va6) (oi := ?oa6) ?ha6 (by kernel_rfl) (by kernel_rfl) (by kernel_rfl) (fun _ _ _ h => h) (Or.inl ⟨?wa6, ?ya6⟩) hHeld ?ra6
          case ha6 => simp only [List.getElem?_toArray, List.getElem?_cons_zero, List.getElem?_cons_succ]; rfl
          case wa6 => rfl
          case ya6 => intro w hSw; (try dsimp only at hSw); go_simp; (try with_reducible rfl)
          simp only [Act.put, List.setIfInBounds_toArray, List.set_cons_zero, List.set_cons_succ]
          refine wpAnyH_take (i := 7) (v := ?va7) (oi := ?oa7) ?ha7 (by kernel_rfl) (by kernel_rfl) (by kernel_rfl) (fun _ _ _ h => h) (Or.inl ⟨?wa7, ?ya7⟩) hHeld ?ra7
          case ha7 => simp only [List.getElem?_toArray, List.getElem?_cons_zero, List.getElem?_cons_succ]; rfl
          case wa7 => rfl
          case ya7 => intro w hSw; (try dsimp only at hSw); go_simp; (try with_reducible rfl)
          simp only [Act.put, List.setIfInBounds_toArray, List.set_cons_zero, List.set_cons_succ]
          refine wpAnyH_take (i := 8) (v := ?va8) (oi := ?oa8) ?ha8 (by kernel_rfl) (by kernel_rfl) (by kernel_rfl) (fun _ _ _ h => h) (Or.inl ⟨?wa8, ?ya8⟩) hHeld ?ra8
          case ha8 => simp only [List.getElem?_toArray, List.getElem?_cons_zero, List.getElem?_cons_succ]; rfl
          case wa8 => rfl
          case ya8 => intro w hSw; (try dsimp only at hSw); go_simp; (try with_reducible rfl)
          simp only [Act.put, List.setIfInBounds_toArray, List.set_cons_zero, List.set_cons_succ]
          refine wpAnyH_take (i := 9) (v := ?va9) (oi := ?oa9) ?ha9 (by kernel_rfl) (by kernel_rfl) (by kernel_rfl) (fun _ _ _ h => h) (Or.inl ⟨?wa9, ?ya9⟩) hHeld ?ra9
          case ha9 => simp only [List.getElem?_toArray, List.getElem?_cons_zero, List.getElem?_cons_succ]; rfl
          case wa9 => rfl
          case ya9 => intro w hSw; (try dsimp only at hSw); go_simp; (try with_reducible rfl)
          simp only [Act.put, List.setIfInBounds_toArray, List.set_cons_zero, List.set_cons_succ]
          refine wpAnyH_take (i := 10) (v := ?va10) (oi := ?oa10) ?ha10 (by kernel_rfl) (by kernel_rfl) (by kernel_rfl) (fun _ _ _ h => h) (Or.inl ⟨?wa10, ?ya10⟩) hHeld ?ra10
          case ha10 => simp only [List.getElem?_toArray, List.getElem?_cons_zero, List.getElem?_cons_succ]; rfl
          case wa10 => rfl
          case ya10 => intro w hSw; (try dsimp only at hSw); go_simp; (try with_reducible rfl)
          simp only [Act.put, List.setIfInBounds_toArray, List.set_cons_zero, List.set_cons_succ]
          refine wpAnyH_ready (rs := [11]) (by kernel_rfl) (by simp) ?_
          refine AllReadyH.cons (o := ?oa11) ?ha11 (fun K hK => ?sa11) AllReadyH.nil
          case ha11 => simp only [List.getElem?_toArray, List.getElem?_cons_zero, List.getElem?_cons_succ]; rfl
          go_simp
          refine (pwrite_any HD.out HB.out (by have := HLL.out; omega) d.cell).mono ?_
          rintro e w5 ⟨rfl, hd5, hk5⟩
          have hk50 : Kp No W w5 := HKP.out.trans (hk5.mono fun q hq => .inr (HFF.out q hq).1)
          have u1 := (HHA.out.no hk50).c1
          have u4 := (HHA.out.no hk50).c4
          go_wp2_with fail
          refine hK.out _ _ (⟨u1, u4⟩) (fun hHeld => ?_)
          clear hK K
          try simp only [Act.put, List.setIfInBounds_toArray, List.set_cons_zero, List.set_cons_succ]
          refine wpAnyH_done (by kernel_rfl) ?_ _
          refine NoPanic.normal ?_
          have hp := D.put_loose d.cell d.b
          have HN : Hid (Kp1 W g (k + 1) w5) := ⟨_, (LwI.next (X := fun _ => False) (wr := wr.drew) (fun q hq => HFF.out q hq) HKP.out (fun q f => f.elim) hd5 hk5).1, by have := HLL.out; omega, by rw [hp.2.1]; exact HLS.out, by rw [hp.2.2]; exact HLC.out⟩
          clear hp hd5 hk5
          go_wp2_with fail
          go_round
          case rel => exact ⟨k + 1, by omega, by omega, by go_num, HN.out⟩
          case measure => simp [intOf]; omega
        · have HN : Hid (Kp1 W g 30 wr) := by
            obtain ⟨D, h1, h2, h3⟩ := hI
            exact ⟨D, h1, by omega, h3⟩
          clear hI
          go_wp2_with fail
          go_meet
          exact HN.out
      · have HN : Hid (Kp1 W g 30 wr) := by
          obtain ⟨D, h1, h2, h3⟩ := hI
          exact ⟨D, h1, by omega, h3⟩
        clear hI
        go_wp2_with fail
        go_meet
        exact HN.out
  case rest =>
  obtain ⟨D0, ⟨⟨F0, hD0, hF0⟩, hkp0⟩, hl0, hs0, hc0⟩ := hcut
  have HF0 := hide hF0
  have HC0 := hide hc0
  have HS0 := hide hs0
  have HKP0 := hide hkp0
  clear hF0 hc0 hs0 hkp0
  go_wp2_with fail
  refine (psync_any hD0 (by omega) (by have := HS0.out; omega)).mono ?_
  rintro e ws ⟨rfl, hds, hks⟩
  have hI1 := (LwI.next (X := fun _ => False) (fun q hq => HF0.out q hq) HKP0.out (fun q f => f.elim) hds hks).1
  obtain ⟨D1, hD1⟩ : ∃ D, D = D0.sync := ⟨_, rfl⟩
  rw [← hD1] at hI1
  have H1L : Hid (D1.loose = []) := by show _ = _; rw [hD1]; rfl
  have H1C : Hid (D1.cells.length = 8) := by show _ = _; rw [hD1]; show (D0.don _).length = 8; rw [Dk.don_len]; exact HC0.out
  have H1S : Hid (D1.syncs = 1) := by show _ = _; rw [hD1]; show D0.syncs + 1 = 1; rw [HS0.out]
  have HI1 := hide hI1
  clear hI1 hD1 hds hks hD0 HF0 HC0 HS0 HKP0 hl0
  obtain ⟨⟨F1, hd1, hF1⟩, hkp1⟩ := HI1.out
  have HD1 := hide hd1
  have HF1 := hide hF1
  have HKW := hide hkp1
  clear hd1 hF1 hkp1
  have HW0 : Hid (Was ws D1 0 (.slice none 0 0) ws) := ⟨[], rfl, OwnT.nil _ _ _ _, (fun j u hj => by simp at hj), Kp.refl _ _⟩
  go_wp2_with fail
  go_loopw [12, 13] (fun v i wr => ∃ (k : Nat) (A : Option Addr) (n c : Nat), k ≤ 8 ∧ i = .int .i64 (k : Int) ∧ v = .slice A n c ∧ Was ws D1 k (.slice A n c) wr) (fun _ i _ => 8 - (intOf i).toNat)
  case atStart => exact ⟨0, none, 0, 0, by omega, rfl, rfl, HW0.out⟩
  case round =>
    obtain ⟨k, A2, n2, c2, hk, rfl, rfl, hW⟩ := hrel
    by_cases hlt : k < 8
    · obtain ⟨vs, hv1, hv2, hv3, hv4⟩ := hW
      have HV1 := hide hv1
      have HV2 := hide hv2
      have HV3 := hide hv3
      have HKR := hide hv4
      clear hv1 hv2 hv3 hv4
      go_wp2_with fail
      refine (pread_any (HD1.out.no HKR.out) (k : Int)).mono ?_
      rintro e w3 ⟨A3, n3, c3, rfl, ho3, k3⟩
      have hsz : ws.heap.size ≤ wr.heap.size := HKR.out.size
      have hu3 : Own w3 ws.heap.size 5 (.slice A3 n3 c3) (D1.rd (k : Int)) := ho3.rebase fun q hq => Nat.le_trans hsz (ho3.ge q hq)
      have K3 := k3.al (.cells #[.slice A3 n3 c3] 33)
      have hwo := HV2.out.no K3
      have HU3 := hide (hu3.no (Kp.alloc No w3 (.cells #[.slice A3 n3 c3] 33)))
      have HK3 := hide K3
      have hsz3 := K3.size
      clear ho3 k3 hu3 K3
      go_wp2_with (first
        | (at_builtin
           refine wpList_appT ty_slc rfl (.tmp 59) (.tmp 63) _ rfl Try.underlying28 rfl hwo _ _ rfl (nws_one (cell_new w3 _ _ rfl rfl) rfl) (by omega) (Nat.le_trans hsz hsz3) ?_
           intro A4 n4 c4 w4 hn4 ha4
           have HN := hide (Was.next HV1.out HV2.out HV3.out HKR.out HK3.out HU3.out ha4)
           clear ha4 hn4))
      go_round
      case rel => exact ⟨k + 1, A4, n4, c4, by omega, by go_num, rfl, HN.out⟩
      case measure => simp [intOf]; omega
    · have hk8e : k = 8 := by omega
      obtain ⟨vs, hv1, hv2, hv3, hv4⟩ := hW
      rw [hk8e] at hv1 hv2
      clear hk8e
      have hmk := fun w => make_bools w 8 8 rfl (by omega)
      have HV1 := hide hv1
      have HV2 := hide (hv2.no (Kp.alloc No wr (.cells (zbl 8) 4)))
      have HV3 := hide (show ∀ (j : Nat) (u : Value), vs[j]? = some u → Own (wr.alloc (.cells (zbl 8) 4)) ws.heap.size 5 u (D1.rd (j : Int)) from fun j u hj => (hv3 j u hj).no (Kp.alloc No wr (.cells (zbl 8) 4)))
      have HV4 := hide (hv4.al (.cells (zbl 8) 4))
      have HG : Hid (ws.heap.size ≤ wr.heap.size ∧ wr.heap.size < (wr.alloc (.cells (zbl 8) 4)).heap.size) := ⟨hv4.size, by simp⟩
      have HB : Hid (BRow (wr.alloc (.cells (zbl 8) 4)) wr.heap.size 8 fun _ => false) := ⟨zbl 8, heap_alloc_new wr _, fun j hj => zbl_get hj⟩
      clear hv1 hv2 hv3 hv4
      go_upto_region 17 with fail
      generalize wr.alloc (.cells (zbl 8) 4) = wt at HV2 HV3 HV4 HG HB ⊢
      generalize wr.heap.size = gt at HG HB ⊢
      have HGT : Hid ((Value.slice A2 n2 c2).ownBlock ≠ some gt) := by
        obtain ⟨cur, hc1, _⟩ := HB.out
        exact HV2.out.not_at hc1 (by decide)
      have HUT : Hid (∀ (j : Nat) (u : Value), vs[j]? = some u → u.ownBlock ≠ some gt) := by
        obtain ⟨cur, hc1, _⟩ := HB.out
        exact fun j u hj => own_ne_at (HV3.out j u hj) hc1 (by decide)
      have hI3 : Kp3 W ws wt g gt 0 D1 wt := ⟨⟨D1, fun _ => false, ⟨⟨F1, HD1.out.no HV4.out, fun q hq => ⟨(HF1.out q hq).1, Nat.lt_of_lt_of_le (HF1.out q hq).2.1 HV4.out.size, fun b => by have := (HF1.out q hq).2.1; have := b.1; omega⟩⟩, HKW.out.trans' HV4.out⟩, HB.out, (fun p hp => by rw [H1L.out] at hp; simp at hp), rfl, by rw [H1L.out]; exact Nat.le_refl _, by rw [H1S.out]; exact Nat.le_refl _⟩, Kp.refl _ _⟩
      have HI3 := hide hI3
      clear hI3 HB hmk
      have HX : Hid (Btw ws wt gt ∧ W.heap.size ≤ gt) := ⟨HG.out, Nat.le_trans HKW.out.size HG.out.1⟩
      go_upto_block 4 with fail
      go_cut [15] (fun v wx => Kp3 W ws wt g gt 30 D1 wx)
      case first =>
        go_wp2_with fail
        go_loopw [15] (fun i wr => ∃ k : Nat, k ≤ n1 ∧ k ≤ 30 ∧ i = .int .i64 (k : Int) ∧ Kp3 W ws wt g gt k D1 wr) (fun i _ => 30 - (intOf i).toNat)
        case atStart => exact ⟨0, Nat.zero_le _, by omega, rfl, HI3.out⟩
        case round =>
          obtain ⟨k, hk, hk30, rfl, hI⟩ := hrel
          by_cases hlt1 : k < n1
          · by_cases hl30 : k < 30
            · obtain ⟨d, hd⟩ : ∃ d, es[k]? = some d := ⟨_, List.getElem?_eq_getElem (by have := HL1.out; omega)⟩
              obtain ⟨⟨D, f, hL, hbr, hlf, hcs, hl, hs⟩, hkp3⟩ := hI
              obtain ⟨⟨F, hD, hF⟩, hkp⟩ := hL
              obtain ⟨B, off, A', m, c', rfl, ha⟩ := HA1.out.at_ k d hd
              have ha2 := ha.no (hkp.trans' (Kp.refl No wr).drew)
              have x1 := ha2.c1
              have x4 := ha2.c4
              have HAB := hide ha2.bts
              have HD := hide (hD.no (Kp.refl No wr).drew)
              have HHA := hide ha
              have HBR := hide (hbr.no (Kp.refl No wr).drew)
              have HLF := hide hlf
              have HCS := hide hcs
              have HLL := hide hl
              have HLS := hide hs
              have HKP := hide hkp.drew
              have HKP3 := hide hkp3.drew
              have HFF := hide hF
              clear hd ha ha2 hD hl hs hcs hlf hbr hkp hkp3 hF
              have hE : D.putE d.cell d.b = 0 ∨ ((D.putE d.cell d.b : Int) == 0) = false := by
                by_cases e : D.putE d.cell d.b = 0
                · exact .inl e
                · exact .inr (by simp; omega)
              obtain ⟨pe, hpe⟩ : ∃ q, q = D.putE d.cell d.b := ⟨_, rfl⟩
              rw [← hpe] at hE
              have HPE := hide hpe
              clear hpe
              rcases hE with rfl | hE
              · obtain ⟨hin, hbl⟩ := Dk.putE_ok HPE.out.symm
                obtain ⟨q, hq⟩ : ∃ q : Nat, d.cell = q := ⟨d.cell.toNat, by have := hin.1; omega⟩
                have hq8 : q < 8 := by
                  have h1 := hin.2
                  have h2 := H1C.out
                  rw [HCS.out] at h1
                  omega
                have hP : D.put d.cell d.b = ⟨D.size, D.cells, D.loose ++ [(q, d.b)], D.syncs⟩ := by unfold Dk.put; rw [if_pos HPE.out.symm, hq, Int.toNat_natCast]
                have HP := hide hP
                rw [hq] at x1
                have HQ := hide hq
                have HWR := hide (pwrite_any HD.out HAB.out (by have := HLL.out; omega) d.cell)
                have HWR := hide (show Calls Try.prog 17 #[.pointer (some ⟨g, 0, none⟩), .int .i64 (q : Int), .slice A' m c'] wr.drew (PlPost wr.drew F g (D.put d.cell d.b) (.int .i64 (D.putE d.cell d.b : Int))) from by rw [← hq]; exact HWR.out)
                clear hin hbl hP hq
                go_wp2_with fail
                refine wp_region_noPanic ?_
                refine wp_region_held_drew (S := fun w' => Kp No W w' ∧ w'.cell? ⟨B, off + k * 5 + 1, none⟩ = some (.int .i64 (q : Int)) ∧ w'.cell? ⟨B, off + k * 5 + 4, none⟩ = some (.slice A' m c')) (by kernel_rfl) (⟨HKP.out, x1, x4⟩) (fun hHeld => ?_)
                refine wpAnyH_take (i := 0) (v := ?vb0) (oi := ?ob0) ?hb0 (by kernel_rfl) (by kernel_rfl) (by kernel_rfl) (fun _ _ _ h => h) (Or.inl ⟨?wb0, ?yb0⟩) hHeld ?rb0
                case hb0 => simp only [List.getElem?_toArray, List.getElem?_cons_zero, List.getElem?_cons_succ]; rfl
                case wb0 => rfl
                case yb0 => intro w hSw; (try dsimp only at hSw); go_simp; (try with_reducible rfl)
                simp only [Act.put, List.setIfInBounds_toArray, List.set_cons_zero, List.set_cons_succ]
                refine wpAnyH_take (i := 1) (v := ?vb1) (oi := ?ob1) ?hb1 (by kernel_rfl) (by kernel_rfl) (by kernel_rfl) (fun _ _ _ h => h) (Or.inl ⟨?wb1, ?yb1⟩) hHeld ?rb1
                case hb1 => simp only [List.getElem?_toArray, List.getElem?_cons_zero, List.getElem?_cons_succ]; rfl
                case wb1 => rfl
                case yb1 => intro w hSw; (try dsimp only at hSw); go_simp; (try with_reducible rfl)
                simp only [Act.put, List.setIfInBounds_toArray, List.set_cons_zero, List.set_cons_succ]
                refine wpAnyH_take (i := 2) (v := ?vb2) (oi := ?ob2) ?hb2 (by kernel_rfl) (by kernel_rfl) (by kernel_rfl) (fun _ _ _ h => h) (Or.inl ⟨?wb2, ?yb2⟩) hHeld ?rb2
                case hb2 => simp only [List.getElem?_toArray, List.getElem?_cons_zero, List.getElem?_cons_succ]; rfl
                case wb2 => rfl
                case yb2 => intro w hSw; (try dsimp only at hSw); go_simp; (try with_reducible rfl)
                simp only [Act.put, List.setIfInBounds_toArray, List.set_cons_zero, List.set_cons_succ]
                refine wpAnyH_take (i := 3) (v := ?vb3) (oi := ?ob3) ?hb3 (by kernel_rfl) (by kernel_rfl) (by kernel_rfl) (fun _ _ _ h => h) (Or.inl ⟨?wb3, ?yb3⟩) hHeld ?rb3
                case hb3 => simp only [List.getElem?_toArray, List.getElem?_cons_zero, List.getElem?_cons_succ]; rfl
                case wb3 => rfl
                case yb3 => intro w hSw; (try dsimp only at hSw); go_simp; (try with_reducible rfl)
                simp only [Act.put, List.setIfInBounds_toArray, List.set_cons_zero, List.set_cons_succ]
                refine wpAnyH_take (i := 4) (v := ?vb4) (oi := ?ob4) ?hb4 (by kernel_rfl) (by kernel_rfl) (by kernel_rfl) (fun _ _ _ h => h) (Or.inl ⟨?wb4, ?yb4⟩) hHeld ?rb4
                case hb4 => simp only [List.getElem?_toArray, List.getElem?_cons_zero, List.getElem?_cons_succ]; rfl
                case wb4 => rfl
                case yb4 => intro w hSw; (try dsimp only at hSw); go_simp; (try with_reducible rfl)
                simp only [Act.put, List.setIfInBounds_toArray, List.set_cons_zero, List.set_cons_succ]
                refine wpAnyH_take (i := 5) (v := ?vb5) (oi := ?ob5) ?hb5 (by kernel_rfl) (by kernel_rfl) (by kernel_rfl) (fun _ _ _ h => h) (Or.inl ⟨?wb5, ?yb5⟩) hHeld ?rb5
                case hb5 => simp only [List.getElem?_toArray, List.getElem?_cons_zero, List.getElem?_cons_succ]; rfl
                case wb5 => rfl
                case yb5 => intro w hSw; (try dsimp only at hSw); go_simp; (try with_reducible rfl)
                simp only [Act.put, List.setIfInBounds_toArray, List.set_cons_zero, List.set_cons_succ]
                refine wpAnyH_take (i := 6) (v := ?vb6) (oi := ?ob6) ?hb6 (by kernel_rfl) (by kernel_rfl) (by kernel_rfl) (fun _ _ _ h => h) (Or.inl ⟨?wb6, ?yb6⟩) hHeld ?rb6
                case hb6 => simp only [List.getElem?_toArray, List.getElem?_cons_zero, List.getElem?_cons_succ]; rfl
                case wb6 => rfl
                case yb6 => intro w hSw; (try dsimp only at hSw); go_simp; (try with_reducible rfl)
                simp only [Act.put, List.setIfInBounds_toArray, List.set_cons_zero, List.set_cons_succ]
                refine wpAnyH_take (i := 7) (v := ?vb7) (oi := ?ob7) ?hb7 (by kernel_rfl) (by kernel_rfl) (by kernel_rfl) (fun _ _ _ h => h) (Or.inl ⟨?wb7, ?yb7⟩) hHeld ?rb7
                case hb7 => simp only [List.getElem?_toArray, List.getElem?_cons_zero, List.getElem?_cons_succ]; rfl
                case wb7 => rfl
                case yb7 => intro w hSw; (try dsimp only at hSw); go_simp; (try with_reducible rfl)
                simp only [Act.put, List.setIfInBounds_toArray, List.set_cons_zero, List.set_cons_succ]
                refine wpAnyH_take (i := 8) (v := ?vb8) (oi := ?ob8) ?hb8 (by kernel_rfl) (by kernel_rfl) (by kernel_rfl) (fun _ _ _ h => h) (Or.inl ⟨?wb8, ?yb8⟩) hHeld ?rb8
                case hb8 => simp only [List.getElem?_toArray, List.getElem?_cons_zero, List.getElem?_cons_succ]; rfl
                case wb8 => rfl
                case yb8 => intro w hSw; (try dsimp only at hSw); go_simp; (try with_reducible rfl)
                simp only [Act.put, List.setIfInBounds_toArray, List.set_cons_zero, List.set_cons_succ]
                refine wpAnyH_take (i := 9) (v := ?vb9) (oi := ?ob9) ?hb9 (by kernel_rfl) (by kernel_rfl) (by kernel_rfl) (fun _ _ _ h => h) (Or.inl ⟨?wb9, ?yb9⟩) hHeld ?rb9
                case hb9 => simp only [List.getElem?_toArray, List.getElem?_cons_zero, List.getElem?_cons_succ]; rfl
                case wb9 => rfl
                case yb9 => intro w hSw; (try dsimp only at hSw); go_simp; (try with_reducible rfl)
                simp only [Act.put, List.setIfInBounds_toArray, List.set_cons_zero, List.set_cons_succ]
                refine wpAnyH_take (i := 10) (v := ?vb10) (oi := ?ob10) ?hb10 (by kernel_rfl) (by kernel_rfl) (by kernel_rfl) (fun _ _ _ h => h) (Or.inl ⟨?wb10, ?yb10⟩) hHeld ?rb10
                case hb10 => simp only [List.getElem?_toArray, List.getElem?_cons_zero, List.getElem?_cons_succ]; rfl
                case wb10 => rfl
                case yb10 => intro w hSw; (try dsimp only at hSw); go_simp; (try with_reducible rfl)
                simp only [Act.put, List.setIfInBounds_toArray, List.set_cons_zero, List.set_cons_succ]
                refine wpAnyH_ready (rs := [11]) (by kernel_rfl) (by simp) ?_
                refine AllReadyH.cons (o := ?ob11) ?hb11 (fun K hK => ?sb11) AllReadyH.nil
                case hb11 => simp only [List.getElem?_toArray, List.getElem?_cons_zero, List.getElem?_cons_succ]; rfl
                go_simp
                refine (HWR.out).mono ?_
                rintro e w5 ⟨rfl, hd5, hk5⟩
                rw [← HPE.out]
                have hk50 : Kp No W w5 := HKP.out.trans (hk5.mono fun q hq => .inr (HFF.out q hq).1)
                have u1 := (HHA.out.no hk50).c1
                have u4 := (HHA.out.no hk50).c4
                rw [HQ.out] at u1
                go_wp2_with fail
                refine hK.out _ _ (⟨hk50, u1, u4⟩) (fun hHeld => ?_)
                clear hK K
                try simp only [Act.put, List.setIfInBounds_toArray, List.set_cons_zero, List.set_cons_succ]
                refine wpAnyH_take (i := 12) (v := ?vb12) (oi := ?ob12) ?hb12 (by kernel_rfl) (by kernel_rfl) (by kernel_rfl) (fun _ _ _ h => h) (Or.inl ⟨?wb12, ?yb12⟩) hHeld ?rb12
                case hb12 => simp only [List.getElem?_toArray, List.getElem?_cons_zero, List.getElem?_cons_succ]; rfl
                case wb12 => rfl
                case yb12 => intro w hSw; (try dsimp only at hSw); go_simp; (try with_reducible rfl)
                simp only [Act.put, List.setIfInBounds_toArray, List.set_cons_zero, List.set_cons_succ]
                refine wpAnyH_done (by kernel_rfl) ?_ _
                refine NoPanic.normal ?_
                rw [HQ.out] at hd5
                rw [← HQ.out, HP.out] at hd5
                have hnx := LwI.next (X := Btw ws wt) (wr := wr.drew) HFF.out HKP.out (fun q hq => Nat.lt_of_lt_of_le hq.2 HKP3.out.size) hd5 hk5
                have hb5 := HBR.out.keep hnx.2 fun h => h HX.out.1
                have xf := hb5.frozen q
                have xc := hb5.cell hq8
                have xa : w5.cell? ⟨B, off + k * 5 + 1, none⟩ = some (.int .i64 (q : Int)) := by rw [(HHA.out.no hnx.1.kp).c1, HQ.out]
                have hset := hb5.set hq8
                have HN : Hid (Kp3 W ws wt g gt (k + 1) D1 (w5.setCell ⟨gt, q, none⟩ (.bool true))) := ⟨⟨_, _, hnx.1.set HX.out.1 HX.out.2 (Kp.setCell (p := ⟨gt, q, none⟩) (S := fun b => b = gt) rfl _), hset, fun p hp => by
                    rcases List.mem_append.1 hp with hp | hp
                    · show (if p.1 = q then true else f p.1) = true
                      split
                      · rfl
                      · exact HLF.out p hp
                    · rw [List.mem_singleton] at hp
                      subst hp
                      exact if_pos rfl, HCS.out, by have := HLL.out; simp; omega, HLS.out⟩, (HKP3.out.trans' (hnx.2.mono fun q h => .inl h)).trans' ((Kp.setCell (p := ⟨gt, q, none⟩) (S := fun b => b = gt) rfl _).mono fun b e => .inr e)⟩
                clear hnx hb5 hset hd5 hk5
                go_wp2_with fail
                go_round
                case rel => exact ⟨k + 1, by omega, by omega, by go_num, HN.out⟩
                case measure => simp [intOf]; omega
              · have hP : D.put d.cell d.b = D := by unfold Dk.put; rw [if_neg (by have h1 := HPE.out; simp at hE; omega)]
                have HP := hide hP
                have HWR := hide (pwrite_any HD.out HAB.out (by have := HLL.out; omega) d.cell)
                clear hP
                go_wp2_with fail
                refine wp_region_noPanic ?_
                refine wp_region_held_drew (S := fun w' => Kp No W w' ∧ w'.cell? ⟨B, off + k * 5 + 1, none⟩ = some (.int .i64 d.cell) ∧ w'.cell? ⟨B, off + k * 5 + 4, none⟩ = some (.slice A' m c')) (by kernel_rfl) (⟨HKP.out, x1, x4⟩) (fun hHeld => ?_)
                refine wpAnyH_take (i := 0) (v := ?vc0) (oi := ?oc0) ?hc0 (by kernel_rfl) (by kernel_rfl) (by kernel_rfl) (fun _ _ _ h => h) (Or.inl ⟨?wc0, ?yc0⟩) hHeld ?rc0
                case hc0 => simp only [List.getElem?_toArray, List.getElem?_cons_zero, List.getElem?_cons_succ]; rfl
                case wc0 => rfl
                case yc0 => intro w hSw; (try dsimp only at hSw); go_simp; (try with_reducible rfl)
                simp only [Act.put, List.setIfInBounds_toArray, List.set_cons_zero, List.set_cons_succ]
                refine wpAnyH_take (i := 1) (v := ?vc1) (oi := ?oc1) ?hc1 (by kernel_rfl) (by kernel_rfl) (by kernel_rfl) (fun _ _ _ h => h) (Or.inl ⟨?wc1, ?yc1⟩) hHeld ?rc1
                case hc1 => simp only [List.getElem?_toArray, List.getElem?_cons_zero, List.getElem?_cons_succ]; rfl
                case wc1 => rfl
                case yc1 => intro w hSw; (try dsimp only at hSw); go_simp; (try with_reducible rfl)
                simp only [Act.put, List.setIfInBounds_toArray, List.set_cons_zero, List.set_cons_succ]
                refine wpAnyH_take (i := 2) (v := ?vc2) (oi := ?oc2) ?hc2 (by kernel_rfl) (by kernel_rfl) (by kernel_rfl) (fun _ _ _ h => h) (Or.inl ⟨?wc2, ?yc2⟩) hHeld ?rc2
                case hc2 => simp only [List.getElem?_toArray, List.getElem?_cons_zero, List.getElem?_cons_succ]; rfl
                case wc2 => rfl
                case yc2 => intro w hSw; (try dsimp only at hSw); go_simp; (try with_reducible rfl)
                simp only [Act.put, List.setIfInBounds_toArray, List.set_cons_zero, List.set_cons_succ]
                refine wpAnyH_take (i := 3) (v := ?vc3) (oi := ?oc3) ?hc3 (by kernel_rfl) (by kernel_rfl) (by kernel_rfl) (fun _ _ _ h => h) (Or.inl ⟨?wc3, ?yc3⟩) hHeld ?rc3
                case hc3 => simp only [List.getElem?_toArray, List.getElem?_cons_zero, List.getElem?_cons_succ]; rfl
                case wc3 => rfl
                case yc3 => intro w hSw; (try dsimp only at hSw); go_simp; (try with_reducible rfl)
                simp only [Act.put, List.setIfInBounds_toArray, List.set_cons_zero, List.set_cons_succ]
                refine wpAnyH_take (i := 4) (v := ?vc4) (oi := ?oc4) ?hc4 (by kernel_rfl) (by kernel_rfl) (by kernel_rfl) (fun _ _ _ h => h) (Or.inl ⟨?wc4, ?yc4⟩) hHeld ?rc4
                case hc4 => simp only [List.getElem?_toArray, List.getElem?_cons_zero, List.getElem?_cons_succ]; rfl
                case wc4 => rfl
                case yc4 => intro w hSw; (try dsimp only at hSw); go_simp; (try with_reducible rfl)
                simp only [Act.put, List.setIfInBounds_toArray, List.set_cons_zero, List.set_cons_succ]
                refine wpAnyH_take (i := 5) (v := ?vc5) (oi := ?oc5) ?hc5 (by kernel_rfl) (by kernel_rfl) (by kernel_rfl) (fun _ _ _ h => h) (Or.inl ⟨?wc5, ?yc5⟩) hHeld ?rc5
                case hc5 => simp only [List.getElem?_toArray, List.getElem?_cons_zero, List.getElem?_cons_succ]; rfl
                case wc5 => rfl
                case yc5 => intro w hSw; (try dsimp only at hSw); go_simp; (try with_reducible rfl)
                simp only [Act.put, List.setIfInBounds_toArray, List.set_cons_zero, List.set_cons_succ]
                refine wpAnyH_take (i := 6) (v := ?vc6) (oi := ?oc6) ?hc6 (by kernel_rfl) (by kernel_rfl) (by kernel_rfl) (fun _ _ _ h => h) (Or.inl ⟨?wc6, ?yc6⟩) hHeld ?rc6
                case hc6 => simp only [List.getElem?_toArray, List.getElem?_cons_zero, List.getElem?_cons_succ]; rfl
                case wc6 => rfl
                case yc6 => intro w hSw; (try dsimp only at hSw); go_simp; (try with_reducible rfl)
                simp only [Act.put, List.setIfInBounds_toArray, List.set_cons_zero, List.set_cons_succ]
                refine wpAnyH_take (i := 7) (v := ?vc7) (oi := ?oc7) ?hc7 (by kernel_rfl) (by kernel_rfl) (by kernel_rfl) (fun _ _ _ h => h) (Or.inl ⟨?wc7, ?yc7⟩) hHeld ?rc7
                case hc7 => simp only [List.getElem?_toArray, List.getElem?_cons_zero, List.getElem?_cons_succ]; rfl
                case wc7 => rfl
                case yc7 => intro w hSw; (try dsimp only at hSw); go_simp; (try with_reducible rfl)
                simp only [Act.put, List.setIfInBounds_toArray, List.set_cons_zero, List.set_cons_succ]
                refine wpAnyH_take (i := 8) (v := ?vc8) (oi := ?oc8) ?hc8 (by kernel_rfl) (by kernel_rfl) (by kernel_rfl) (fun _ _ _ h => h) (Or.inl ⟨?wc8, ?yc8⟩) hHeld ?rc8
                case hc8 => simp only [List.getElem?_toArray, List.getElem?_cons_zero, List.getElem?_cons_succ]; rfl
                case wc8 => rfl
                case yc8 => intro w hSw; (try dsimp only at hSw); go_simp; (try with_reducible rfl)
                simp only [Act.put, List.setIfInBounds_toArray, List.set_cons_zero, List.set_cons_succ]
                refine wpAnyH_take (i := 9) (v := ?vc9) (oi := ?oc9) ?hc9 (by kernel_rfl) (by kernel_rfl) (by kernel_rfl) (fun _ _ _ h => h) (Or.inl ⟨?wc9, ?yc9⟩) hHeld ?rc9
                case hc9 => simp only [List.getElem?_toArray, List.getElem?_cons_zero, List.getElem?_cons_succ]; rfl
                case wc9 => rfl
                case yc9 => intro w hSw; (try dsimp only at hSw); go_simp; (try with_reducible rfl)
                simp only [Act.put, List.setIfInBounds_toArray, List.set_cons_zero, List.set_cons_succ]
                refine wpAnyH_take (i := 10) (v := ?vc10) (oi := ?oc10) ?hc10 (by kernel_rfl) (by kernel_rfl) (by kernel_rfl) (fun _ _ _ h => h) (Or.inl ⟨?wc10, ?yc10⟩) hHeld ?rc10
                case hc10 => simp only [List.getElem?_toArray, List.getElem?_cons_zero, List.getElem?_cons_succ]; rfl
                case wc10 => rfl
                case yc10 => intro w hSw; (try dsimp only at hSw); go_simp; (try with_reducible rfl)
                simp only [Act.put, List.setIfInBounds_toArray, List.set_cons_zero, List.set_cons_succ]
                refine wpAnyH_ready (rs := [11]) (by kernel_rfl) (by simp) ?_
                refine AllReadyH.cons (o := ?oc11) ?hc11 (fun K hK => ?sc11) AllReadyH.nil
                case hc11 => simp only [List.getElem?_toArray, List.getElem?_cons_zero, List.getElem?_cons_succ]; rfl
                go_simp
                refine (HWR.out).mono ?_
                rintro e w5 ⟨rfl, hd5, hk5⟩
                rw [← HPE.out]
                have hk50 : Kp No W w5 := HKP.out.trans (hk5.mono fun q hq => .inr (HFF.out q hq).1)
                have u1 := (HHA.out.no hk50).c1
                have u4 := (HHA.out.no hk50).c4
                go_wp2_with fail
                refine hK.out _ _ (⟨hk50, u1, u4⟩) (fun hHeld => ?_)
                clear hK K
                try simp only [Act.put, List.setIfInBounds_toArray, List.set_cons_zero, List.set_cons_succ]
                refine wpAnyH_take (i := 12) (v := ?vc12) (oi := ?oc12) ?hc12 (by kernel_rfl) (by kernel_rfl) (by kernel_rfl) (fun _ _ _ h => h) (Or.inl ⟨?wc12, ?yc12⟩) hHeld ?rc12
                case hc12 => simp only [List.getElem?_toArray, List.getElem?_cons_zero, List.getElem?_cons_succ]; rfl
                case wc12 => rfl
                case yc12 => intro w hSw; (try dsimp only at hSw); go_simp; (try with_reducible rfl)
                simp only [Act.put, List.setIfInBounds_toArray, List.set_cons_zero, List.set_cons_succ]
                refine wpAnyH_done (by kernel_rfl) ?_ _
                refine NoPanic.normal ?_
                rw [HP.out] at hd5
                have hnx := LwI.next (X := Btw ws wt) (wr := wr.drew) HFF.out HKP.out (fun q hq => Nat.lt_of_lt_of_le hq.2 HKP3.out.size) hd5 hk5
                have hb5 := HBR.out.keep hnx.2 fun h => h HX.out.1
                have HN : Hid (Kp3 W ws wt g gt (k + 1) D1 w5) := ⟨⟨_, _, hnx.1, hb5, HLF.out, HCS.out, by have := HLL.out; omega, HLS.out⟩, HKP3.out.trans' (hnx.2.mono fun q h => .inl h)⟩
                clear hnx hb5 hd5 hk5
                go_wp2_with fail
                go_round
                case rel => exact ⟨k + 1, by omega, by omega, by go_num, HN.out⟩
                case measure => simp [intOf]; omega
            · have HN : Hid (Kp3 W ws wt g gt 30 D1 wr) := by
                obtain ⟨⟨D, f, h1, h2, h3, h4, h5, h6⟩, h7⟩ := hI
                exact ⟨⟨D, f, h1, h2, h3, h4, by omega, h6⟩, h7⟩
              clear hI
              go_wp2_with fail
              go_meet
              exact HN.out
          · have HN : Hid (Kp3 W ws wt g gt 30 D1 wr) := by
              obtain ⟨⟨D, f, h1, h2, h3, h4, h5, h6⟩, h7⟩ := hI
              exact ⟨⟨D, f, h1, h2, h3, h4, by omega, h6⟩, h7⟩
            clear hI
            go_wp2_with fail
            go_meet
            exact HN.out
      case rest =>
      obtain ⟨⟨D2, f, ⟨⟨F2, hD2, hF2⟩, hkp2⟩, hbr2, hlf2, hcs2, hl2, hs2⟩, hkp3⟩ := hcut
      have HF2 := hide hF2
      have HKP2 := hide hkp2
      have HBR2 := hide hbr2
      have HLF2 := hide hlf2
      have HCS2 := hide hcs2
      have HKP3 := hide hkp3
      clear hF2 hkp2 hbr2 hlf2 hcs2 hkp3
      go_wp2_with fail
      refine (pcrash_any hD2 (by omega) z y).mono ?_
      rintro e w6 ⟨rfl, hd6, hk6⟩
      have hnx := LwI.next (X := Btw ws wt) HF2.out HKP2.out (fun q hq => Nat.lt_of_lt_of_le hq.2 HKP3.out.size) hd6 hk6
      have HB6 := hide (HBR2.out.keep hnx.2 fun h => h HX.out.1)
      have hkt : Kp (fun q => ¬ Btw ws wt q ∨ q = gt) wt w6 := HKP3.out.trans' (hnx.2.mono fun q h => .inl h)
      have HKT := hide hkt
      have HL6 := hide hnx.1
      have HRD : Hid (∀ i : Nat, i < 8 → f i = false → (D2.crash z y).rd (i : Int) = D1.rd (i : Int)) := by
        show ∀ i : Nat, _
        intro i hi hfi
        have hfar : ∀ p ∈ D2.loose, p.1 ≠ i := fun p hp e => by
          have := HLF2.out p hp
          rw [e, hfi] at this
          cases this
        rw [Dk.crash_far hfar]
        exact Dk.rd_bare HCS2.out H1L.out hfar
      have H6N : Hid ((D2.crash z y).loose.length = 0) := rfl
      clear hnx hkt hd6 hk6 hD2 hl2 hs2 HF2 HKP2 HBR2 HKP3 HLF2 HCS2
      generalize D2.crash z y = D6 at HL6 HRD H6N ⊢
      obtain ⟨⟨F6, hD6, hF6⟩, hkp6⟩ := HL6.out
      have HD6 := hide hD6
      have HKP6 := hide hkp6
      clear hD6 hF6 hkp6 HL6
      go_wp2_with fail
      go_loopw [16] (fun i wr => ∃ k : Nat, k ≤ 8 ∧ i = .int .i64 (k : Int) ∧ Kp No w6 wr) (fun i _ => 8 - (intOf i).toNat)
      case atStart => exact ⟨0, by omega, rfl, Kp.refl _ _⟩
      case round =>
        obtain ⟨k, hk, rfl, hkr⟩ := hrel
        by_cases hlt : k < 8
        · have hbk := (HB6.out.no hkr).no (Kp.refl No wr).drew
          have xt0 := hbk.cell hlt
          have HKR := hide hkr.drew
          clear hbk hkr
          by_cases hfk : f k = true
          · have xt : wr.drew.cell? ⟨gt, k, none⟩ = some (.bool true) := by rw [xt0, hfk]
            clear xt0
            go_wp2_with fail
            refine wp_region_noPanic ?_
            refine wp_region_held_drew (S := fun w' => Kp No w6 w' ∧ w'.cell? ⟨gt, k, none⟩ = some (.bool true)) (by kernel_rfl) (⟨HKR.out, xt⟩) (fun hHeld => ?_)
            refine wpAnyH_take (i := 0) (v := ?vdx1) (oi := ?odx1) ?hdx1 (by kernel_rfl) (by kernel_rfl) (by kernel_rfl) (fun _ _ _ h => h) (Or.inl ⟨?wdx1, ?ydx1⟩) hHeld ?rdx1
            case hdx1 => simp only [List.getElem?_toArray, List.getElem?_cons_zero, List.getElem?_cons_succ]; rfl
            case wdx1 => rfl
            case ydx1 => intro w hSw; (try dsimp only at hSw); go_simp; (try with_reducible rfl)
            simp only [Act.put, List.setIfInBounds_toArray, List.set_cons_zero, List.set_cons_succ]
            refine wpAnyH_take (i := 1) (v := ?vdx2) (oi := ?odx2) ?hdx2 (by kernel_rfl) (by kernel_rfl) (by kernel_rfl) (fun _ _ _ h => h) (Or.inl ⟨?wdx2, ?ydx2⟩) hHeld ?rdx2
            case hdx2 => simp only [List.getElem?_toArray, List.getElem?_cons_zero, List.getElem?_cons_succ]; rfl
            case wdx2 => rfl
            case ydx2 => intro w hSw; (try dsimp only at hSw); go_simp; (try with_reducible rfl)
            simp only [Act.put, List.setIfInBounds_toArray, List.set_cons_zero, List.set_cons_succ]
            refine wpAnyH_take (i := 2) (v := ?vdx3) (oi := ?odx3) ?hdx3 (by kernel_rfl) (by kernel_rfl) (by kernel_rfl) (fun _ _ _ h => h) (Or.inl ⟨?wdx3, ?ydx3⟩) hHeld ?rdx3
            case hdx3 => simp only [List.getElem?_toArray, List.getElem?_cons_zero, List.getElem?_cons_succ]; rfl
            case wdx3 => rfl
            case ydx3 => intro w hSw; (try dsimp only at hSw); go_simp; (try with_reducible rfl)
            simp only [Act.put, List.setIfInBounds_toArray, List.set_cons_zero, List.set_cons_succ]
            refine wpAnyH_take (i := 3) (v := ?vdx4) (oi := ?odx4) ?hdx4 (by kernel_rfl) (by kernel_rfl) (by kernel_rfl) (fun _ _ _ h => h) (Or.inl ⟨?wdx4, ?ydx4⟩) hHeld ?rdx4
            case hdx4 => simp only [List.getElem?_toArray, List.getElem?_cons_zero, List.getElem?_cons_succ]; rfl
            case wdx4 => rfl
            case ydx4 => intro w hSw; (try dsimp only at hSw); go_simp; (try with_reducible rfl)
            simp only [Act.put, List.setIfInBounds_toArray, List.set_cons_zero, List.set_cons_succ]
            refine wpAnyH_take (i := 4) (v := ?vdx5) (oi := ?odx5) ?hdx5 (by kernel_rfl) (by kernel_rfl) (by kernel_rfl) (fun _ _ _ h => h) (Or.inl ⟨?wdx5, ?ydx5⟩) hHeld ?rdx5
            case hdx5 => simp only [List.getElem?_toArray, List.getElem?_cons_zero, List.getElem?_cons_succ]; rfl
            case wdx5 => rfl
            case ydx5 => intro w hSw; (try dsimp only at hSw); go_simp; (try with_reducible rfl)
            simp only [Act.put, List.setIfInBounds_toArray, List.set_cons_zero, List.set_cons_succ]
            refine wpAnyH_take (i := 5) (v := ?vdx6) (oi := ?odx6) ?hdx6 (by kernel_rfl) (by kernel_rfl) (by kernel_rfl) (fun _ _ _ h => h) (Or.inl ⟨?wdx6, ?ydx6⟩) hHeld ?rdx6
            case hdx6 => simp only [List.getElem?_toArray, List.getElem?_cons_zero, List.getElem?_cons_succ]; rfl
            case wdx6 => rfl
            case ydx6 => intro w hSw; (try dsimp only at hSw); go_simp; (try with_reducible rfl)
            simp only [Act.put, List.setIfInBounds_toArray, List.set_cons_zero, List.set_cons_succ]
            refine wpAnyH_take (i := 6) (v := undef) (oi := ?odx7) ?hdx7 (by kernel_rfl) (by kernel_rfl) (by kernel_rfl) (fun _ _ _ h => h) (Or.inr ⟨?wdx7, rfl⟩) hHeld ?rdx7
            case hdx7 => simp only [List.getElem?_toArray, List.getElem?_cons_zero, List.getElem?_cons_succ]; rfl
            case wdx7 => rfl
            simp only [Act.put, List.setIfInBounds_toArray, List.set_cons_zero, List.set_cons_succ]
            refine wpAnyH_take (i := 7) (v := undef) (oi := ?odx8) ?hdx8 (by kernel_rfl) (by kernel_rfl) (by kernel_rfl) (fun _ _ _ h => h) (Or.inr ⟨?wdx8, rfl⟩) hHeld ?rdx8
            case hdx8 => simp only [List.getElem?_toArray, List.getElem?_cons_zero, List.getElem?_cons_succ]; rfl
            case wdx8 => rfl
            simp only [Act.put, List.setIfInBounds_toArray, List.set_cons_zero, List.set_cons_succ]
            refine wpAnyH_take (i := 8) (v := undef) (oi := ?odx9) ?hdx9 (by kernel_rfl) (by kernel_rfl) (by kernel_rfl) (fun _ _ _ h => h) (Or.inr ⟨?wdx9, rfl⟩) hHeld ?rdx9
            case hdx9 => simp only [List.getElem?_toArray, List.getElem?_cons_zero, List.getElem?_cons_succ]; rfl
            case wdx9 => rfl
            simp only [Act.put, List.setIfInBounds_toArray, List.set_cons_zero, List.set_cons_succ]
            refine wpAnyH_take (i := 9) (v := undef) (oi := ?odx10) ?hdx10 (by kernel_rfl) (by kernel_rfl) (by kernel_rfl) (fun _ _ _ h => h) (Or.inr ⟨?wdx10, rfl⟩) hHeld ?rdx10
            case hdx10 => simp only [List.getElem?_toArray, List.getElem?_cons_zero, List.getElem?_cons_succ]; rfl
            case wdx10 => rfl
            simp only [Act.put, List.setIfInBounds_toArray, List.set_cons_zero, List.set_cons_succ]
            refine wpAnyH_take (i := 10) (v := undef) (oi := ?odx11) ?hdx11 (by kernel_rfl) (by kernel_rfl) (by kernel_rfl) (fun _ _ _ h => h) (Or.inr ⟨?wdx11, rfl⟩) hHeld ?rdx11
            case hdx11 => simp only [List.getElem?_toArray, List.getElem?_cons_zero, List.getElem?_cons_succ]; rfl
            case wdx11 => rfl
            simp only [Act.put, List.setIfInBounds_toArray, List.set_cons_zero, List.set_cons_succ]
            refine wpAnyH_take (i := 11) (v := undef) (oi := ?odx12) ?hdx12 (by kernel_rfl) (by kernel_rfl) (by kernel_rfl) (fun _ _ _ h => h) (Or.inr ⟨?wdx12, rfl⟩) hHeld ?rdx12
            case hdx12 => simp only [List.getElem?_toArray, List.getElem?_cons_zero, List.getElem?_cons_succ]; rfl
            case wdx12 => rfl
            simp only [Act.put, List.setIfInBounds_toArray, List.set_cons_zero, List.set_cons_succ]
            refine wpAnyH_take (i := 12) (v := undef) (oi := ?odx13) ?hdx13 (by kernel_rfl) (by kernel_rfl) (by kernel_rfl) (fun _ _ _ h => h) (Or.inr ⟨?wdx13, rfl⟩) hHeld ?rdx13
            case hdx13 => simp only [List.getElem?_toArray, List.getElem?_cons_zero, List.getElem?_cons_succ]; rfl
            case wdx13 => rfl
            simp only [Act.put, List.setIfInBounds_toArray, List.set_cons_zero, List.set_cons_succ]
            refine wpAnyH_take (i := 13) (v := undef) (oi := ?odx14) ?hdx14 (by kernel_rfl) (by kernel_rfl) (by kernel_rfl) (fun _ _ _ h => h) (Or.inr ⟨?wdx14, rfl⟩) hHeld ?rdx14
            case hdx14 => simp only [List.getElem?_toArray, List.getElem?_cons_zero, List.getElem?_cons_succ]; rfl
            case wdx14 => rfl
            simp only [Act.put, List.setIfInBounds_toArray, List.set_cons_zero, List.set_cons_succ]
            refine wpAnyH_take (i := 14) (v := undef) (oi := ?odx15) ?hdx15 (by kernel_rfl) (by kernel_rfl) (by kernel_rfl) (fun _ _ _ h => h) (Or.inr ⟨?wdx15, rfl⟩) hHeld ?rdx15
            case hdx15 => simp only [List.getElem?_toArray, List.getElem?_cons_zero, List.getElem?_cons_succ]; rfl
            case wdx15 => rfl
            simp only [Act.put, List.setIfInBounds_toArray, List.set_cons_zero, List.set_cons_succ]
            refine wpAnyH_take (i := 15) (v := undef) (oi := ?odx16) ?hdx16 (by kernel_rfl) (by kernel_rfl) (by kernel_rfl) (fun _ _ _ h => h) (Or.inr ⟨?wdx16, rfl⟩) hHeld ?rdx16
            case hdx16 => simp only [List.getElem?_toArray, List.getElem?_cons_zero, List.getElem?_cons_succ]; rfl
            case wdx16 => rfl
            simp only [Act.put, List.setIfInBounds_toArray, List.set_cons_zero, List.set_cons_succ]
            refine wpAnyH_take (i := 16) (v := ?vdx17) (oi := ?odx17) ?hdx17 (by kernel_rfl) (by kernel_rfl) (by kernel_rfl) (fun _ _ _ h => h) (Or.inl ⟨?wdx17, ?ydx17⟩) hHeld ?rdx17
            case hdx17 => simp only [List.getElem?_toArray, List.getElem?_cons_zero, List.getElem?_cons_succ]; rfl
            case wdx17 => rfl
            case ydx17 => intro w hSw; (try dsimp only at hSw); go_simp; (try with_reducible rfl)
            simp only [Act.put, List.setIfInBounds_toArray, List.set_cons_zero, List.set_cons_succ]
            refine wpAnyH_done (by kernel_rfl) ?_ _
            refine NoPanic.normal ?_
            have KN := HKR.out
            clear xt
            go_wp2_with fail
            go_round
            case rel => exact ⟨k + 1, by omega, by go_num, KN⟩
            case measure => simp [intOf]; omega
          · have hfk2 : f k = false := by simpa using hfk
            have xt : wr.drew.cell? ⟨gt, k, none⟩ = some (.bool false) := by rw [xt0, hfk2]
            have HR := hide (HRD.out k hlt hfk2)
            obtain ⟨u, hu⟩ : ∃ u, vs[k]? = some u := ⟨_, List.getElem?_eq_getElem (by have := HV1.out; omega)⟩
            obtain ⟨gw, e1, hgw1, hgw2, hcw, xw0⟩ := HV2.out.cell hu
            have hou := HV3.out k u hu
            have hk8 : Kp (fun q => ¬ Btw ws wt q ∨ q = gt) wt wr.drew := HKT.out.trans' (HKR.out.of_no _)
            have hgwt : gw ≠ gt := fun e => HGT.out (by rw [e1, e]; rfl)
            subst e1
            obtain rfl : n2 = 8 := by obtain ⟨_, _, _, _, _, _, _, h⟩ := HV2.out.row; exact h
            have hou2 := hou.keep hk8 fun q hq h => by
              rcases h with h | h
              · exact h ⟨hou.ge q hq, hou.lt q hq⟩
              · exact HUT.out k u hu (by rw [← h]; exact hq)
            have xw : wr.drew.cell? ⟨gw, k, none⟩ = some u := hk8.cell xw0 fun h => by
              rcases h with h | h
              · exact h ⟨hgw1, hgw2⟩
              · exact hgwt h
            obtain ⟨A8, n8, c8, rfl⟩ := hou2.form
            have hbu := hou2.bts
            obtain ⟨tb, htb⟩ : ∃ t, t = strOf (D1.rd (k : Int)) := ⟨_, rfl⟩
            have HTB := hide htb
            clear xt0 hu hou hk8 hgwt xw0 hou2 htb hgw1 hgw2
            go_wp2_with fail
            refine wp_region_noPanic ?_
            refine wp_region_held_drew (S := fun w' => Kp No w6 w' ∧ w'.cell? ⟨gt, k, none⟩ = some (.bool false) ∧ w'.cell? ⟨gw, k, none⟩ = some (.slice A8 n8 c8) ∧ Bts w' (.slice A8 n8 c8) (D1.rd (k : Int))) (by kernel_rfl) (⟨HKR.out, xt, xw, hbu⟩) (fun hHeld => ?_)
            refine wpAnyH_take (i := 0) (v := ?vex1) (oi := ?oex1) ?hex1 (by kernel_rfl) (by kernel_rfl) (by kernel_rfl) (fun _ _ _ h => h) (Or.inl ⟨?wex1, ?yex1⟩) hHeld ?rex1
            case hex1 => simp only [List.getElem?_toArray, List.getElem?_cons_zero, List.getElem?_cons_succ]; rfl
            case wex1 => rfl
            case yex1 => intro w hSw; (try dsimp only at hSw); go_simp; (try with_reducible rfl)
            simp only [Act.put, List.setIfInBounds_toArray, List.set_cons_zero, List.set_cons_succ]
            refine wpAnyH_take (i := 1) (v := ?vex2) (oi := ?oex2) ?hex2 (by kernel_rfl) (by kernel_rfl) (by kernel_rfl) (fun _ _ _ h => h) (Or.inl ⟨?wex2, ?yex2⟩) hHeld ?rex2
            case hex2 => simp only [List.getElem?_toArray, List.getElem?_cons_zero, List.getElem?_cons_succ]; rfl
            case wex2 => rfl
            case yex2 => intro w hSw; (try dsimp only at hSw); go_simp; (try with_reducible rfl)
            simp only [Act.put, List.setIfInBounds_toArray, List.set_cons_zero, List.set_cons_succ]
            refine wpAnyH_take (i := 2) (v := ?vex3) (oi := ?oex3) ?hex3 (by kernel_rfl) (by kernel_rfl) (by kernel_rfl) (fun _ _ _ h => h) (Or.inl ⟨?wex3, ?yex3⟩) hHeld ?rex3
            case hex3 => simp only [List.getElem?_toArray, List.getElem?_cons_zero, List.getElem?_cons_succ]; rfl
            case wex3 => rfl
            case yex3 => intro w hSw; (try dsimp only at hSw); go_simp; (try with_reducible rfl)
            simp only [Act.put, List.setIfInBounds_toArray, List.set_cons_zero, List.set_cons_succ]
            refine wpAnyH_take (i := 3) (v := ?vex4) (oi := ?oex4) ?hex4 (by kernel_rfl) (by kernel_rfl) (by kernel_rfl) (fun _ _ _ h => h) (Or.inl ⟨?wex4, ?yex4⟩) hHeld ?rex4
            case hex4 => simp only [List.getElem?_toArray, List.getElem?_cons_zero, List.getElem?_cons_succ]; rfl
            case wex4 => rfl
            case yex4 => intro w hSw; (try dsimp only at hSw); go_simp; (try with_reducible rfl)
            simp only [Act.put, List.setIfInBounds_toArray, List.set_cons_zero, List.set_cons_succ]
            refine wpAnyH_take (i := 4) (v := ?vex5) (oi := ?oex5) ?hex5 (by kernel_rfl) (by kernel_rfl) (by kernel_rfl) (fun _ _ _ h => h) (Or.inl ⟨?wex5, ?yex5⟩) hHeld ?rex5
            case hex5 => simp only [List.getElem?_toArray, List.getElem?_cons_zero, List.getElem?_cons_succ]; rfl
            case wex5 => rfl
            case yex5 => intro w hSw; (try dsimp only at hSw); go_simp; (try with_reducible rfl)
            simp only [Act.put, List.setIfInBounds_toArray, List.set_cons_zero, List.set_cons_succ]
            refine wpAnyH_take (i := 5) (v := ?vex6) (oi := ?oex6) ?hex6 (by kernel_rfl) (by kernel_rfl) (by kernel_rfl) (fun _ _ _ h => h) (Or.inl ⟨?wex6, ?yex6⟩) hHeld ?rex6
            case hex6 => simp only [List.getElem?_toArray, List.getElem?_cons_zero, List.getElem?_cons_succ]; rfl
            case wex6 => rfl
            case yex6 => intro w hSw; (try dsimp only at hSw); go_simp; (try with_reducible rfl)
            simp only [Act.put, List.setIfInBounds_toArray, List.set_cons_zero, List.set_cons_succ]
            refine wpAnyH_take (i := 6) (v := ?vex7) (oi := ?oex7) ?hex7 (by kernel_rfl) (by kernel_rfl) (by kernel_rfl) (fun _ _ _ h => h) (Or.inl ⟨?wex7, ?yex7⟩) hHeld ?rex7
            case hex7 => simp only [List.getElem?_toArray, List.getElem?_cons_zero, List.getElem?_cons_succ]; rfl
            case wex7 => rfl
            case yex7 => intro w hSw; (try dsimp only at hSw); go_simp; (try with_reducible rfl)
            simp only [Act.put, List.setIfInBounds_toArray, List.set_cons_zero, List.set_cons_succ]
            refine wpAnyH_take (i := 7) (v := ?vex8) (oi := ?oex8) ?hex8 (by kernel_rfl) (by kernel_rfl) (by kernel_rfl) (fun _ _ _ h => h) (Or.inl ⟨?wex8, ?yex8⟩) hHeld ?rex8
            case hex8 => simp only [List.getElem?_toArray, List.getElem?_cons_zero, List.getElem?_cons_succ]; rfl
            case wex8 => rfl
            case yex8 => intro w hSw; (try dsimp only at hSw); go_simp; (try with_reducible rfl)
            simp only [Act.put, List.setIfInBounds_toArray, List.set_cons_zero, List.set_cons_succ]
            refine wpAnyH_take (i := 10) (v := ?vex9) (oi := ?oex9) ?hex9 (by kernel_rfl) (by kernel_rfl) (by kernel_rfl) (fun _ _ _ h => h) (Or.inl ⟨?wex9, ?yex9⟩) hHeld ?rex9
            case hex9 => simp only [List.getElem?_toArray, List.getElem?_cons_zero, List.getElem?_cons_succ]; rfl
            case wex9 => rfl
            case yex9 => intro w hSw; (try dsimp only at hSw); go_simp; (try with_reducible rfl)
            simp only [Act.put, List.setIfInBounds_toArray, List.set_cons_zero, List.set_cons_succ]
            refine wpAnyH_take (i := 11) (v := ?vex10) (oi := ?oex10) ?hex10 (by kernel_rfl) (by kernel_rfl) (by kernel_rfl) (fun _ _ _ h => h) (Or.inl ⟨?wex10, ?yex10⟩) hHeld ?rex10
            case hex10 => simp only [List.getElem?_toArray, List.getElem?_cons_zero, List.getElem?_cons_succ]; rfl
            case wex10 => rfl
            case yex10 => intro w hSw; (try dsimp only at hSw); go_simp; (try with_reducible rfl)
            simp only [Act.put, List.setIfInBounds_toArray, List.set_cons_zero, List.set_cons_succ]
            refine wpAnyH_take (i := 12) (v := ?vex11) (oi := ?oex11) ?hex11 (by kernel_rfl) (by kernel_rfl) (by kernel_rfl) (fun _ _ _ h => h) (Or.inl ⟨?wex11, ?yex11⟩) hHeld ?rex11
            case hex11 => simp only [List.getElem?_toArray, List.getElem?_cons_zero, List.getElem?_cons_succ]; rfl
            case wex11 => rfl
            case yex11 => intro w hSw; (try dsimp only at hSw); go_simp; (try with_reducible rfl)
            simp only [Act.put, List.setIfInBounds_toArray, List.set_cons_zero, List.set_cons_succ]
            refine wpAnyH_take (i := 13) (v := ?vex12) (oi := ?oex12) ?hex12 (by kernel_rfl) (by kernel_rfl) (by kernel_rfl) (fun _ _ _ h => h) (Or.inl ⟨?wex12, ?yex12⟩) hHeld ?rex12
            case hex12 => simp only [List.getElem?_toArray, List.getElem?_cons_zero, List.getElem?_cons_succ]; rfl
            case wex12 => rfl
            case yex12 => intro w hSw; (try dsimp only at hSw); go_simp; (try with_reducible rfl)
            simp only [Act.put, List.setIfInBounds_toArray, List.set_cons_zero, List.set_cons_succ]
            refine wpAnyH_take (i := 14) (v := ?vex13) (oi := ?oex13) ?hex13 (by kernel_rfl) (by kernel_rfl) (by kernel_rfl) (fun _ _ _ h => h) (Or.inl ⟨?wex13, ?yex13⟩) hHeld ?rex13
            case hex13 => simp only [List.getElem?_toArray, List.getElem?_cons_zero, List.getElem?_cons_succ]; rfl
            case wex13 => rfl
            case yex13 =>
              intro w hSw
              (try dsimp only at hSw)
              have v2 := conv_bts hSw.2.2.2
              rw [← HTB.out] at v2
              go_simp
              (try with_reducible rfl)
            simp only [Act.put, List.setIfInBounds_toArray, List.set_cons_zero, List.set_cons_succ]
            refine wpAnyH_ready (rs := [8]) (by kernel_rfl) (by simp) ?_
            refine AllReadyH.cons (o := ?oex14) ?hex14 (fun K hK => ?sex14) AllReadyH.nil
            case hex14 => simp only [List.getElem?_toArray, List.getElem?_cons_zero, List.getElem?_cons_succ]; rfl
            go_simp
            refine (pread_any (HD6.out.no hHeld.1) (k : Int)).mono ?_
            rintro e w8 ⟨A9, n9, c9, rfl, o9, k9⟩
            have v9 := conv_bts o9.bts
            rw [HR.out, ← HTB.out] at v9
            have t1 := k9.cell xt (fun f => f)
            have t2 := k9.cell xw (fun f => f)
            have t3 := hbu.no k9
            have K8 := HKR.out.trans' k9
            go_wp2_with fail
            refine hK.out _ _ (⟨K8, t1, t2, t3⟩) (fun hHeld => ?_)
            clear hK K
            try simp only [Act.put, List.setIfInBounds_toArray, List.set_cons_zero, List.set_cons_succ]
            refine wpAnyH_ready (rs := [9]) (by kernel_rfl) (by simp) ?_
            refine AllReadyH.cons (o := ?oex15) ?hex15 (fun K hK => ?sex15) AllReadyH.nil
            case hex15 => simp only [List.getElem?_toArray, List.getElem?_cons_zero, List.getElem?_cons_succ]; rfl
            go_simp
            refine hK.out _ _ (⟨K8, t1, t2, t3⟩) (fun hHeld => ?_)
            clear hK K
            try simp only [Act.put, List.setIfInBounds_toArray, List.set_cons_zero, List.set_cons_succ]
            refine wpAnyH_take (i := 15) (v := ?vex16) (oi := ?oex16) ?hex16 (by kernel_rfl) (by kernel_rfl) (by kernel_rfl) (fun _ _ _ h => h) (Or.inl ⟨?wex16, ?yex16⟩) hHeld ?rex16
            case hex16 => simp only [List.getElem?_toArray, List.getElem?_cons_zero, List.getElem?_cons_succ]; rfl
            case wex16 => rfl
            case yex16 => intro w hSw; (try dsimp only at hSw); go_simp; (try with_reducible rfl)
            simp only [Act.put, List.setIfInBounds_toArray, List.set_cons_zero, List.set_cons_succ]
            refine wpAnyH_take (i := 16) (v := ?vex17) (oi := ?oex17) ?hex17 (by kernel_rfl) (by kernel_rfl) (by kernel_rfl) (fun _ _ _ h => h) (Or.inl ⟨?wex17, ?yex17⟩) hHeld ?rex17
            case hex17 => simp only [List.getElem?_toArray, List.getElem?_cons_zero, List.getElem?_cons_succ]; rfl
            case wex17 => rfl
            case yex17 => intro w hSw; (try dsimp only at hSw); go_simp; (try with_reducible rfl)
            simp only [Act.put, List.setIfInBounds_toArray, List.set_cons_zero, List.set_cons_succ]
            refine wpAnyH_done (by kernel_rfl) ?_ _
            refine NoPanic.normal ?_
            clear xt xw t1 t2 t3
            go_wp2_with fail
            go_round
            case rel => exact ⟨k + 1, by omega, by go_num, K8⟩
            case measure => simp [intOf]; omega
        · obtain rfl : k = 8 := by omega
          go_wp2_with fail
          refine (ploose_any (HD6.out.no hkr)).mono ?_
          rintro e w7 ⟨rfl, k7⟩
          rw [H6N.out]
          have K7 := (HKP6.out.trans' hkr).trans' k7
          go_wp2_with fail
          refine (awake11_any _).mono ?_
          rintro e w9 ⟨rfl, k9⟩
          go_wp2_with fail
          go_ret
          exact ⟨rfl, K7.trans' k9⟩
theorem platkeeps_walk (W : World) {A0 A1 : Option Addr} {n0 c0 n1 c1 : Nat} {ds es : List ActP} (h0 : ActsP W A0 n0 ds) (h1 : ActsP W A1 n1 es) (z y : Int) :
    Calls Try.prog 5 #[.slice A0 n0 c0, .slice A1 n1 c1, .int .i64 z, .int .i64 y] W fun e W' => e = .returned (.bool true) ∧ Below W.heap.size W W' :=
  (platkeeps_any W h0 h1 z y).mono fun e W' p => ⟨p.1, p.2.below0⟩
end Go.Proofs.Ytgdlcijohedbhaa
