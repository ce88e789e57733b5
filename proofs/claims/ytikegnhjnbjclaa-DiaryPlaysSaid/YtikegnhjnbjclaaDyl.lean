/- DiaryPlays walked: it returns true for any number and any acts. No condition. -/
import Derived.Test.YtikegnhjnbjclaaDyj
import Derived.Deep.DeepCutAuto
import Derived.Deep.CutBlock
import Derived.OpenShut
namespace Go.Proofs.Ytikegnhjnbjclaa
open Go.RowKit Go.WideShapes Go.ChangeShapes
set_option linter.unusedVariables false
set_option maxRecDepth 20000
set_option linter.unusedSimpArgs false

theorem AlF.cap {w : World} {F : Nat → Prop} {A : Option Addr} {L c : Nat} {pa : List (Value × List UInt8)} (h : AlF w F (.slice A L c) pa) : L ≤ c := by
  have hl := h.own.len
  rcases h.own.2 with ⟨e1, hn⟩ | ⟨g', cap, cur, e1, _, _, hc, _⟩
  · injection e1 with _ e1 e2; omega
  · injection e1 with _ _ e2; omega
/-- What is known of the sizes behind k rounds. -/
structure PyB (k : Nat) (D : Tp) (pa : List (Value × List UInt8)) (na : Nat) : Prop where
  len : D.len ≤ k * 320
  most : D.most ≤ 9223372036854775807
  na_ : pa.length = na
  few : na ≤ k * 16
  small : ∀ b ∈ rws pa, b.length ≤ 12800
/-- What the loop keeps, and what stands behind the switch of a round. -/
def PyI (W : World) (X : Nat → Prop) (tp s k : Nat) (v7 v8 v9 v10 : Value) (wr : World) : Prop := ∃ g D As ns cs Al nl cl Aa na ca pa, ∃ sf : Nat, v7 = .pointer (some ⟨g, 0, none⟩) ∧ v8 = .int .i64 0 ∧ v9 = .slice Aa na ca ∧ v10 = .int .i64 (sf : Int) ∧
  PyS W X g tp s D D (rws pa) sf (.slice As ns cs) (.slice Al nl cl) (.slice Aa na ca) pa wr ∧ PyB k D pa na

set_option maxRecDepth 100000 in
set_option maxHeartbeats 8000000 in
theorem diaryplays_any (W : World) (z : Int) (hz : z ≤ 9223372036854775807) {A0 : Option Addr} {n0 c0 : Nat} {ds : List ActY} (h0 : ActsY W A0 n0 ds) :
    Calls Try.prog 4 #[.int .i64 z, .slice A0 n0 c0] W (TruePost W) := by
  have hb0 := h0.big
  have HL0 := hide h0.len
  have HA0 := hide h0
  clear h0
  obtain ⟨mz, hmz⟩ : ∃ m : Nat, m = z.toNat := ⟨_, rfl⟩
  have HMZ := hide hmz
  have hmz9 : mz ≤ 9223372036854775807 := by omega
  clear hmz
  go_enter Try.func4, Try.ntmps4
  go_wp2_with fail
  refine (awake14_any _).mono ?_
  rintro e w0 ⟨rfl, k0⟩
  have HTN := hide (tnew_any w0 z hz)
  go_upto_region 3 with (fail)
  go_cut [5, 6] (fun v5 v6 wx => ∃ w1 tp, v5 = .pointer (some ⟨tp, 0, none⟩) ∧ v6 = .pointer (some ⟨w1.heap.size, 0, none⟩) ∧ wx = w1.alloc (.cells #[.slice none 0 0, .slice none 0 0, .int .i64 (mz : Int)] 35) ∧ TpAt w1 (fun k => w0.heap.size ≤ k) tp (Tp.new z) ∧ Kp No w0 w1)
  case first =>
    by_cases h0 : z < 0
    · have e : (mz : Int) = 0 := by rw [HMZ.out]; omega
      have E := hide e
      clear e
      go_wp2_with fail
      refine HTN.out.mono ?_
      rintro e w1 ⟨tp, rfl, hg, hT1, k1⟩
      go_wp2_with fail
      go_meet
      exact ⟨w1, tp, rfl, rfl, by rw [E.out], hT1, k1⟩
    by_cases h1 : z = 0
    · have e : (mz : Int) = 0 := by rw [HMZ.out]; omega
      have E := hide e
      clear e
      subst h1
      go_wp2_with fail
      refine HTN.out.mono ?_
      rintro e w1 ⟨tp, rfl, hg, hT1, k1⟩
      go_wp2_with fail
      go_meet
      exact ⟨w1, tp, rfl, rfl, by rw [E.out], hT1, k1⟩
    · have e : (mz : Int) = z := by rw [HMZ.out]; omega
      have E := hide e
      clear e
      go_wp2_with fail
      refine HTN.out.mono ?_
      rintro e w1 ⟨tp, rfl, hg, hT1, k1⟩
      go_wp2_with fail
      go_meet
      exact ⟨w1, tp, rfl, rfl, by rw [E.out], hT1, k1⟩
  case rest =>
  obtain ⟨w1, tp, rfl, rfl, rfl, hT1, k1⟩ := hcut
  have HT1 := hide hT1.lt
  have HK1 := hide (k0.trans' k1)
  have HW0 : Hid (W.heap.size ≤ w0.heap.size) := k0.size
  clear hT1 k0 k1 HTN
  have hbx := BxT.new w1 (.slice none 0 0) (.slice none 0 0) mz
  have hKa := Kp.alloc No w1 (.cells #[.slice none 0 0, .slice none 0 0, .int .i64 (mz : Int)] 35)
  have HBX := hide hbx
  have HKA := hide hKa
  have HS1 : Hid (w1.heap.size < (w1.alloc (.cells #[.slice none 0 0, .slice none 0 0, .int .i64 (mz : Int)] 35)).heap.size) := by show _ < _; simp
  clear hbx hKa
  generalize w1.alloc (.cells #[.slice none 0 0, .slice none 0 0, .int .i64 (mz : Int)] 35) = w2 at HBX HKA HS1 ⊢
  go_upto_region 4 with (fail)
  go_wp2_with fail
  refine (dnew_any (HT1.out.no HKA.out) (by show 0 + 0 ≤ _; omega)).mono ?_
  intro e w3 hp
  obtain ⟨g, rfl, hD3, k3, _⟩ := dnew_new hp
  have hxW : ∀ k, (w0.heap.size ≤ k ∧ k < w1.heap.size) → k ≠ w1.heap.size := fun k f e => by omega
  have hI0 : PyI W (Ys w1.heap.size) tp w1.heap.size 0 (.pointer (some ⟨g, 0, none⟩)) (.int .i64 0) (.slice none 0 0) (.int .i64 ((0 : Nat) : Int)) w3 := by
    refine ⟨g, Tp.new z, none, 0, 0, none, 0, 0, none, 0, 0, [], 0, rfl, rfl, rfl, rfl, ⟨⟨fun k => Up (fun k => w0.heap.size ≤ k ∧ k < w1.heap.size) w2 k ∧ k < w3.heap.size, hD3.lt, ⟨BtF.none _ _, BtF.none _ _, fun k f => ?_⟩, AlF.nil _ _, fun k f => ⟨?_, f.2, fun x => ?_⟩⟩, ?_, HK1.out.trans' HKA.out |>.fr k3 fun k f => Nat.le_trans HW0.out f.1, rfl, fun k x => ?_⟩, ⟨by show 0 + 0 ≤ _; omega, by have := HMZ.out; show z.toNat ≤ _; omega, rfl, by omega, by simp [rws]⟩⟩
    · rcases f with f | f
      · exact f.2
      · have h1 : k = w1.heap.size := f
        have := HS1.out
        have := k3.size
        omega
    · rcases f.1 with f1 | f1
      · exact Nat.le_trans HW0.out f1.1
      · have := HK1.out.size; have := HKA.out.size; omega
    · have h1 : k = w1.heap.size := x
      rcases f.1 with f1 | f1
      · exact hxW k f1 h1
      · have := HS1.out; omega
    · have e : mz = (Tp.new z).most := HMZ.out
      rw [← e]
      exact (k3.block _ HS1.out fun f => hxW _ f rfl).trans HBX.out
    · have h1 : k = w1.heap.size := x
      have := HK1.out.size
      omega
  have HI0 := hide hI0
  clear hI0 hp hD3 k3 hxW HBX HKA HS1
  generalize w1.heap.size = s at HI0 ⊢
  go_wp2_with fail
  go_loopw [7, 8, 9, 10, 11] (fun v7 v8 v9 v10 i wr => ∃ k : Nat, k ≤ n0 ∧ k ≤ 40 ∧ i = .int .i64 (k : Int) ∧ PyI W (Ys s) tp s k v7 v8 v9 v10 wr) (fun _ _ _ _ i _ => 40 - (intOf i).toNat)
  case atStart => exact ⟨0, Nat.zero_le _, by omega, rfl, HI0.out⟩
  case round =>
    obtain ⟨k, hk, hk40, rfl, hI⟩ := hrel
    by_cases hlt : k < n0
    · by_cases hl40 : k < 40
      · obtain ⟨d, hd⟩ : ∃ d, ds[k]? = some d := ⟨_, List.getElem?_eq_getElem (by have := HL0.out; omega)⟩
        obtain ⟨g, D, As, ns, cs, Al, nl, cl, Aa, na, ca, pa, sf, rfl, rfl, rfl, rfl, hS, hB⟩ := hI
        obtain ⟨B, off, A', m, c', rfl, ha⟩ := HA0.out.at_ k d hd
        have ha2 := ha.no hS.kp
        have x0 := ha2.c0
        have x1 := ha2.c1
        have x2 := ha2.c2
        have x3 := ha2.c3
        have hms := ha.small
        have hna : na ≤ 640 := by have := hB.few; omega
        have HS0 := hide hS
        have HB := hide hB
        have HBW := hide ha.bts
        have HRM := hide ha.room
        clear hS hB hd ha ha2
        go_upto_region 13 with (fail)
        have hbox := HS0.out.box (.cells #[.int .i64 d.kind, .slice A' m c', .int .i64 d.n, .int .u8 (d.bits.toNat : Int)] 41)
        have HS := hide hbox.1
        have HNE : Hid (s ≠ wr.heap.size) := hbox.2
        have HBA : Hid (BxY (wr.alloc (.cells #[.int .i64 d.kind, .slice A' m c', .int .i64 d.n, .int .u8 (d.bits.toNat : Int)] 41)) wr.heap.size d A' m c') := heap_alloc_new wr _
        clear hbox HS0 x0 x1 x2 x3
        generalize wr.alloc (.cells #[.int .i64 d.kind, .slice A' m c', .int .i64 d.n, .int .u8 (d.bits.toNat : Int)] 41) = w4 at HS HBA ⊢
        generalize wr.heap.size = sa at HS HNE HBA ⊢
        have HML := hide HBW.out.len
        have y1 := HBA.out.c1
        by_cases hm : 300 < m
        · have hm2 : (300 : Int) < (m : Int) := by omega
          have HK := hide HS.out.kp
          go_wp2_with fail
          refine (awake14_any _).mono ?_
          rintro e w9 ⟨rfl, k9⟩
          go_wp2_with fail
          go_ret
          exact ⟨rfl, HK.out.trans' k9⟩
        · have hm2 : ¬ (300 : Int) < (m : Int) := by omega
          have y0 := HBA.out.c0
          go_upto_block 2 with fail
          clear y0 y1
          go_cut [7, 8, 9, 10] (fun v7 v8 v9 v10 wx => PyI W (Ysa s sa) tp s (k + 1) v7 v8 v9 v10 wx)
          case first =>
            have HNA : Hid ((rws pa).length = na) := by show _ = _; rw [rws_len]; exact HB.out.na_
            have HL : Hid (D.len ≤ 12800) := by show _ ≤ _; have := HB.out.len; omega
            by_cases e1 : d.kind = 1
            · have t1 : (d.kind == 1) = true := by simp [e1]
              clear e1
              as_aux_lemma =>
                obtain ⟨F, hD, hR, hA, hF⟩ := HS.out.ex
                have HD := hide hD
                have HRR := hide hR
                have HA := hide hA
                have HF := hide hF
                clear hD hR hA hF
                go_wp2_with fail
                refine (dsync_any HD.out (by have := HL.out; omega)).mono ?_
                rintro e w3 ⟨rfl, hd3, hk3⟩
                rw [HNA.out] at hd3
                have hS3 := HS.out.call HRR.out HA.out HF.out hd3 hk3
                have HS3 := hide hS3.1
                clear hd3 hk3 hS3
                obtain ⟨F3, hD3, hR3, hA3, hF3⟩ := HS3.out.ex
                have HD3 := hide hD3
                have HRR3 := hide hR3
                have HA3 := hide hA3
                have HF3 := hide hF3
                clear hD3 hR3 hA3 hF3
                have bx0 := HS3.out.bx.c0
                have bx1 := HS3.out.bx.c1
                have bx2 := HS3.out.bx.c2
                have bf0 := HS3.out.bx.fz 0
                have bf1 := HS3.out.bx.fz 1
                have bf2 := HS3.out.bx.fz 2
                go_wp2_with fail
                refine (rsync13_any ⟨_, _, rfl, HRR3.out⟩ (by have := HL.out; omega)).mono ?_
                rintro e w5 ⟨v5, rfl, ⟨vs5, vl5, rfl, hR5⟩, k5⟩
                obtain ⟨As5, ns5, cs5, Al5, nl5, cl5, rfl, rfl, -, -, -, -⟩ := hR5.forms
                clear bx0 bf0 bx1 bf1 bx2 bf2
                have hB5 : BxT (((w5.setCell ⟨s, 0, none⟩ (.slice As5 ns5 cs5)).setCell ⟨s, 1, none⟩ (.slice Al5 nl5 cl5)).setCell ⟨s, 2, none⟩ (.int .i64 ((D.sync).most : Int))) s (.slice As5 ns5 cs5) (.slice Al5 nl5 cl5) (D.sync).most := (HS3.out.no k5).bx.set3 _ _ _
                have HS5 := hide (HS3.out.ref HD3.out HA3.out HF3.out hR5 k5 (kp_set3 w5 s (.slice As5 ns5 cs5) (.slice Al5 nl5 cl5) (.int .i64 ((D.sync).most : Int))) hB5)
                have cx0 := (HS3.out.no k5).bx.c0
                have cx1 := (HS3.out.no k5).bx.c1
                have cx2 := (HS3.out.no k5).bx.c2
                have cf0 := (HS3.out.no k5).bx.fz 0
                have cf1 := (HS3.out.no k5).bx.fz 1
                have cf2 := (HS3.out.no k5).bx.fz 2
                clear hR5 k5 hB5
                unfold rtV
                dsimp only [id]
                go_wp2_with fail
                go_meet
                exact ⟨g, D.sync, As5, ns5, cs5, Al5, nl5, cl5, Aa, na, ca, pa, na, rfl, rfl, rfl, rfl, HS5.out, ⟨by rw [Tp.sync_len]; have := HB.out.len; omega, HB.out.most, HB.out.na_, by have := HB.out.few; omega, HB.out.small⟩⟩
            by_cases e2 : d.kind = 2
            · have t1 : (d.kind == 1) = false := by simp [e1]
              have t2 : (d.kind == 2) = true := by simp [e2]
              clear e1 e2
              as_aux_lemma =>
                obtain ⟨F, hD, hR, hA, hF⟩ := HS.out.ex
                have HD := hide hD
                have HRR := hide hR
                have HA := hide hA
                have HF := hide hF
                clear hD hR hA hF
                obtain ⟨r, hr⟩ : ∃ r, r = na - sf := ⟨_, rfl⟩
                have hle : sf ≤ na := by have := HD.out.le; rw [HNA.out] at this; exact this
                have eR : (na : Int) - (sf : Int) = (r : Int) := by omega
                have HRL := hide hr
                have hsu := rsl_u Aa hle HA.out.cap
                have HLE := hide hle
                clear hr hle
                go_wp2_with fail
                refine (dback_any HD.out (by have := HL.out; omega) (by rw [HNA.out]; omega)).mono ?_
                rintro e w3 ⟨rfl, hd3, hk3⟩
                rw [HNA.out, ← HRL.out]
                rw [← rws_take] at hd3
                have hS3 := HS.out.call HRR.out HA.out HF.out hd3 hk3
                have HS3 := hide hS3.1
                clear hd3 hk3 hS3
                obtain ⟨F3, hD3, hR3, hA3, hF3⟩ := HS3.out.ex
                have HD3 := hide hD3
                have HRR3 := hide hR3
                have HA3 := hide hA3
                have HF3 := hide hF3
                clear hD3 hR3 hA3 hF3
                have bx1 : w3.drew.cell? ⟨s, 1, none⟩ = some (.slice Al nl cl) := HS3.out.bx.c1
                have bf1 : w3.drew.frozen? ⟨s, 1, none⟩ = false := HS3.out.bx.fz 1
                go_wp2_with fail
                go_region
                clear bx1 bf1 eR
                have hN := HS3.out.ref (E' := (Tp.mk D.sf [] D.most)) HD3.out HA3.out HF3.out ⟨HRR3.out.s, BtF.none _ _, HRR3.out.bd⟩ (Kp.refl No w3) (Kp.setCell (p := ⟨s, 1, none⟩) (S := fun k => k = s) rfl _) (HS3.out.bx.set1 (.slice none 0 0))
                obtain ⟨F4, hD4, hR4, hA4, hF4⟩ := hN.ex
                have hM := (hN.alls hD4 hR4 hF4 (hA4.upto HB.out.na_ HLE.out)).no (Kp.refl No _).drew
                have HN := hide hM
                clear hN hM hD4 hR4 hA4 hF4
                go_wp2_with fail
                go_meet
                exact ⟨g, (Tp.mk D.sf [] D.most), As, ns, cs, none, 0, 0, Aa, sf, ca, pa.take sf, sf, rfl, rfl, rfl, rfl, HN.out, ⟨by have h2 := HB.out.len; have h1 : D.len = D.sf.length + D.ls.length := rfl; show D.sf.length + 0 ≤ _; omega, HB.out.most, by rw [List.length_take, HB.out.na_]; have := HLE.out; omega, by have := HB.out.few; have := HLE.out; omega, fun b hb => HB.out.small b (by rw [rws_take] at hb; exact List.mem_of_mem_take hb)⟩⟩
            by_cases e3 : d.kind = 3
            · have t1 : (d.kind == 1) = false := by simp [e1]
              have t2 : (d.kind == 2) = false := by simp [e2]
              have t3 : (d.kind == 3) = true := by simp [e3]
              clear e1 e2 e3
              as_aux_lemma =>
                obtain ⟨F, hD, hR, hA, hF⟩ := HS.out.ex
                have HD := hide hD
                have HRR := hide hR
                have HA := hide hA
                have HF := hide hF
                clear hD hR hA hF
                have aa0 := HBA.out.c0
                have aa1 := HBA.out.c1
                have aa2 := HBA.out.c2
                have aa3 := HBA.out.c3
                have HL1 : Hid ((D.crash d.n d.bits).len ≤ k * 320 ∧ (D.crash d.n d.bits).len ≤ 12800) := by have h1 := D.stay_le d.n; have h2 := HB.out.len; have h3 : D.len = D.sf.length + D.ls.length := rfl; have h4 := D.crash_len d.n d.bits; exact ⟨by omega, by omega⟩
                go_wp2_with fail
                refine (HD.out.turn (fun Ft hT => tcrash_any hT (by have := HL.out; omega) d.n d.bits)).mono ?_
                rintro e w3 ⟨rfl, hd3, hk3⟩
                have hS3 := HS.out.call HRR.out HA.out HF.out hd3 hk3
                have HBA3 := hide (HBA.out.keep hS3.2 fun h => h (.inr rfl))
                have HS3 := hide hS3.1
                clear hd3 hk3 hS3
                clear aa0 aa1 aa2 aa3
                generalize Tp.gone _ _ = gn
                obtain ⟨F3, hD3, hR3, hA3, hF3⟩ := HS3.out.ex
                have HD3 := hide hD3
                have HRR3 := hide hR3
                have HA3 := hide hA3
                have HF3 := hide hF3
                clear hD3 hR3 hA3 hF3
                have bx0 := HS3.out.bx.c0
                have bx1 := HS3.out.bx.c1
                have bx2 := HS3.out.bx.c2
                have bf0 := HS3.out.bx.fz 0
                have bf1 := HS3.out.bx.fz 1
                have bf2 := HS3.out.bx.fz 2
                have ba0 := HBA3.out.c0
                have ba1 := HBA3.out.c1
                have ba2 := HBA3.out.c2
                have ba3 := HBA3.out.c3
                go_wp2_with fail
                refine (rcrash13_any ⟨_, _, rfl, HRR3.out⟩ (by have := HL.out; omega) d.n d.bits).mono ?_
                rintro e w5 ⟨v5, rfl, ⟨vs5, vl5, rfl, hR5⟩, k5⟩
                obtain ⟨As5, ns5, cs5, Al5, nl5, cl5, rfl, rfl, -, -, -, -⟩ := hR5.forms
                clear bx0 bf0 bx1 bf1 bx2 bf2
                clear ba0 ba1 ba2 ba3
                have hB5 : BxT (((w5.setCell ⟨s, 0, none⟩ (.slice As5 ns5 cs5)).setCell ⟨s, 1, none⟩ (.slice Al5 nl5 cl5)).setCell ⟨s, 2, none⟩ (.int .i64 ((D.crash d.n d.bits).most : Int))) s (.slice As5 ns5 cs5) (.slice Al5 nl5 cl5) (D.crash d.n d.bits).most := (HS3.out.no k5).bx.set3 _ _ _
                have HS5 := hide (HS3.out.ref HD3.out HA3.out HF3.out hR5 k5 (kp_set3 w5 s (.slice As5 ns5 cs5) (.slice Al5 nl5 cl5) (.int .i64 ((D.crash d.n d.bits).most : Int))) hB5)
                have cx0 := (HS3.out.no k5).bx.c0
                have cx1 := (HS3.out.no k5).bx.c1
                have cx2 := (HS3.out.no k5).bx.c2
                have cf0 := (HS3.out.no k5).bx.fz 0
                have cf1 := (HS3.out.no k5).bx.fz 1
                have cf2 := (HS3.out.no k5).bx.fz 2
                clear hR5 k5 hB5
                unfold rtV tupT
                go_upto_region 32 with (fail)
                clear cx0 cf0 cx1 cf1 cx2 cf2
                generalize (((w5.setCell ⟨s, 0, none⟩ (.slice As5 ns5 cs5)).setCell ⟨s, 1, none⟩ (.slice Al5 nl5 cl5)).setCell ⟨s, 2, none⟩ (.int .i64 ((D.crash d.n d.bits).most : Int))) = w6 at HS5 ⊢
                obtain ⟨F6, hD6, hR6, hA6, hF6⟩ := HS5.out.ex
                have HD6 := hide hD6
                have HRR6 := hide hR6
                have HA6 := hide hA6
                have HF6 := hide hF6
                clear hD6 hR6 hA6 hF6
                have dx0 := HS5.out.bx.c0
                have dx1 := HS5.out.bx.c1
                have dx2 := HS5.out.bx.c2
                have df0 := HS5.out.bx.fz 0
                have df1 := HS5.out.bx.fz 1
                have df2 := HS5.out.bx.fz 2
                go_wp2_with fail
                refine (rall_any ⟨_, _, rfl, HRR6.out⟩ (by have := HL1.out.2; omega)).mono ?_
                rintro e w7 ⟨A7, n7, c7, rfl, ho7, k7⟩
                clear dx0 df0 dx1 df1 dx2 df2
                have HBT : Hid ((D.crash d.n d.bits).sf.length + (D.crash d.n d.bits).ls.length ≤ 12800) := HL1.out.2
                have HO7 := hide ho7
                have HK7 := hide k7
                clear ho7 k7
                have hn7 : n7 ≤ 1000000 := by have h1 := HO7.out.len; rw [List.length_append] at h1; have := HBT.out; omega
                go_wp2_with fail
                refine (rdrecs_any HO7.out.bts HO7.out.cap hn7).mono ?_
                rintro e w8 ⟨ps, sz, A8, r8, c8, rfl, hrc8, hQ8, k8⟩
                have HRC8 := hide hrc8
                have HQ8 := hide hQ8
                have HK8 := hide (HK7.out.trans' k8)
                have HK78 := hide k8
                clear hrc8 hQ8 k8 hn7
                have HS8 := hide (HS5.out.no HK8.out)
                have HF8 : Hid (∀ q, F6 q → W.heap.size ≤ q ∧ q < w8.heap.size ∧ ¬ Ysa s sa q) := fun q f => ⟨(HF6.out q f).1, Nat.lt_of_lt_of_le (HF6.out q f).2.1 HK8.out.size, (HF6.out q f).2.2⟩
                have ex0 := HS8.out.bx.c0
                have ex1 := HS8.out.bx.c1
                have ex2 := HS8.out.bx.c2
                have ef0 := HS8.out.bx.fz 0
                have ef1 := HS8.out.bx.fz 1
                have ef2 := HS8.out.bx.fz 2
                go_wp2_with fail
                refine (rcut13_any ⟨_, _, rfl, HRR6.out.no HK8.out⟩ (by have := HL1.out.2; omega) (sz : Int)).mono ?_
                rintro e w9 ⟨v9, rfl, ⟨vs9, vl9, rfl, hR9⟩, k9⟩
                obtain ⟨As9, ns9, cs9, Al9, nl9, cl9, rfl, rfl, -, -, -, -⟩ := hR9.forms
                clear ex0 ef0 ex1 ef1 ex2 ef2
                have hB9 : BxT (((w9.setCell ⟨s, 0, none⟩ (.slice As9 ns9 cs9)).setCell ⟨s, 1, none⟩ (.slice Al9 nl9 cl9)).setCell ⟨s, 2, none⟩ (.int .i64 (((D.crash d.n d.bits).cut (sz : Int)).most : Int))) s (.slice As9 ns9 cs9) (.slice Al9 nl9 cl9) ((D.crash d.n d.bits).cut (sz : Int)).most := (HS8.out.no k9).bx.set3 _ _ _
                have HS9 := hide (HS8.out.ref (HD6.out.no HK8.out) (HA6.out.no HK8.out) HF8.out hR9 k9 (kp_set3 w9 s (.slice As9 ns9 cs9) (.slice Al9 nl9 cl9) (.int .i64 (((D.crash d.n d.bits).cut (sz : Int)).most : Int))) hB9)
                have HP9 := hide (HS8.out.refp (HD6.out.no HK8.out) (HA6.out.no HK8.out) HF8.out hR9 k9 (kp_set3 w9 s (.slice As9 ns9 cs9) (.slice Al9 nl9 cl9) (.int .i64 (((D.crash d.n d.bits).cut (sz : Int)).most : Int))))
                have hx0 := (HS8.out.no k9).bx.c0
                have hx1 := (HS8.out.no k9).bx.c1
                have hx2 := (HS8.out.no k9).bx.c2
                have hf0 := (HS8.out.no k9).bx.fz 0
                have hf1 := (HS8.out.no k9).bx.fz 1
                have hf2 := (HS8.out.no k9).bx.fz 2
                have HK9 := hide ((k9.of_no (fun q => q = s)).trans' (kp_set3 w9 s (.slice As9 ns9 cs9) (.slice Al9 nl9 cl9) (.int .i64 (((D.crash d.n d.bits).cut (sz : Int)).most : Int))))
                clear hR9 k9 hB9
                unfold rtV tupT
                go_upto_region 34 with (fail)
                clear hx0 hf0 hx1 hf1 hx2 hf2
                generalize (((w9.setCell ⟨s, 0, none⟩ (.slice As9 ns9 cs9)).setCell ⟨s, 1, none⟩ (.slice Al9 nl9 cl9)).setCell ⟨s, 2, none⟩ (.int .i64 (((D.crash d.n d.bits).cut (sz : Int)).most : Int))) = w10 at HS9 HP9 HK9 ⊢
                have hsl := HS5.out.bx.lt
                have hq10 := HQ8.out.keep HK9.out (fun q hq e => by have h1 := HQ8.out.own.ge q hq; have h2 := HK7.out.size; omega)
                have hb10 := HO7.out.bts.keep ((HK78.out.of_no (fun q => q = s)).trans' HK9.out) (fun q hq e => by have h1 := HO7.out.ge q hq; omega)
                have hbd := HRR6.out.bd
                have hal := hq10.alF hb10 (F := fun q => F6 q ∨ Ysa s sa q) (fun q hq f => by have h1 := HO7.out.ge q hq; have h2 := hbd q f; omega) (fun q hq f => by have h1 := HQ8.out.own.ge q hq; have h2 := hbd q f; have h3 := HK7.out.size; omega)
                have HS10 := hide (HS9.out.alls HP9.out.1 HP9.out.2.1 HP9.out.2.2.2 hal)
                have HR8 := hide hq10.own.len
                have HFEW := hide (show 20 * r8 ≤ (D.crash d.n d.bits).len ∧ ∀ b ∈ rws ps, b.length ≤ 12800 by
                  have h1 := HRC8.out.few
                  rw [List.length_append] at h1
                  have h2 := HBT.out
                  have h3 : (D.crash d.n d.bits).len = (D.crash d.n d.bits).sf.length + (D.crash d.n d.bits).ls.length := rfl
                  rw [rws_len, ← HR8.out] at h1
                  exact ⟨by omega, fun b hb => by have := h1.2.2 b hb; omega⟩)
                clear hsl hq10 hb10 hbd hal
                obtain ⟨F10, hD10, hR10, hA10, hF10⟩ := HS10.out.ex
                have HD10 := hide hD10
                have HRR10 := hide hR10
                have HA10 := hide hA10
                have HF10 := hide hF10
                clear hD10 hR10 hA10 hF10
                go_wp2_with fail
                refine (dnew_any HD10.out.tape (by have := HL1.out.2; omega)).mono ?_
                rintro e w11 ⟨g2, rs2, sz2, rfl, hrc2, hd11, hk11, _⟩
                obtain ⟨rfl, rfl⟩ := hrc2.one HRC8.out
                have hS11 := HS10.out.call HRR10.out HA10.out HF10.out hd11 hk11
                rw [rws_len, ← HR8.out] at hS11
                have HS11 := hide hS11.1
                clear hrc2 hd11 hk11 hS11
                go_wp2_with fail
                go_meet
                exact ⟨g2, (D.crash d.n d.bits).cut (sz2 : Int), As9, ns9, cs9, Al9, nl9, cl9, A8, r8, c8, ps, r8, rfl, rfl, rfl, rfl, HS11.out, ⟨by have h1 := (D.crash d.n d.bits).cut_len (sz2 : Int); have h2 := HL1.out.1; omega, by rw [Tp.cut_most]; exact HB.out.most, HR8.out.symm, by have h1 := HFEW.out.1; have h2 := HL1.out.1; omega, HFEW.out.2⟩⟩
            · have t1 : (d.kind == 1) = false := by simp [e1]
              have t2 : (d.kind == 2) = false := by simp [e2]
              have t3 : (d.kind == 3) = false := by simp [e3]
              clear e1 e2 e3
              as_aux_lemma =>
                obtain ⟨F, hD, hR, hA, hF⟩ := HS.out.ex
                have HD := hide hD
                have HRR := hide hR
                have HA := hide hA
                have HF := hide hF
                clear hD hR hA hF
                obtain ⟨fb, hfb⟩ : ∃ fb, fb = rcF (na + 1) d.b := ⟨_, rfl⟩
                have HFB := hide hfb
                have HFL : Hid (fb.length ≤ 320) := by show _ ≤ _; rw [hfb, rcF_len]; have := HML.out; omega
                have HRF : Hid (∀ w', Kp No w4 w' → Calls Try.prog 11 #[.int .u64 ((na : Int) + 1), .slice A' m c'] w' (OwnPost w' fb)) := fun w' hk' => by
                  have h2 := rdfr_any (num := na + 1) (by omega) (HBW.out.no (HS.out.kp.trans' hk')) (by omega)
                  rw [show ((na + 1 : Nat) : Int) = (na : Int) + 1 by omega, ← HFB.out] at h2
                  exact h2
                obtain ⟨q, hq⟩ : ∃ q, q = D.putE fb := ⟨_, rfl⟩
                have HQ := hide hq
                obtain ⟨z4, hz4⟩ : ∃ n, n = w4.heap.size := ⟨_, rfl⟩
                have hs4 : s < z4 := by rw [hz4]; exact HS.out.bx.lt
                have ha4 : sa < z4 := by rw [hz4]; exact (Array.getElem?_eq_some_iff.1 HBA.out).1
                have HZ4 := hide hz4
                clear hz4
                clear hfb hq
                go_upto_region 16 with (fail)
                go_cut [15, 16] (fun v15 v16 wx => ∃ bz As6 ns6 cs6 Al6 nl6 cl6, v15 = .pointer (some ⟨bz, 0, none⟩) ∧ v16 = .int .i64 (q : Int) ∧ Kp No w4 wx ∧ RtR wx (fun k => F k ∨ Ysa s sa k) (D.put fb) (.slice As6 ns6 cs6) (.slice Al6 nl6 cl6) ∧ BxT wx bz (.slice As6 ns6 cs6) (.slice Al6 nl6 cl6) (D.put fb).most ∧ s ≠ bz ∧ sa ≠ bz)
                case first =>
                  as_aux_lemma =>
                  have HKD : Hid (Kp No w4 w4.drew) := (Kp.refl No w4).drew
                  have p0 : w4.drew.cell? ⟨s, 0, none⟩ = some (.slice As ns cs) := HS.out.bx.c0
                  have p1 : w4.drew.cell? ⟨s, 1, none⟩ = some (.slice Al nl cl) := HS.out.bx.c1
                  have p2 : w4.drew.cell? ⟨s, 2, none⟩ = some (.int .i64 (D.most : Int)) := HS.out.bx.c2
                  have p3 : w4.drew.cell? ⟨sa, 1, none⟩ = some (.slice A' m c') := HBA.out.c1
                  have hw1 : IntKind.i64.wrap ((na : Int) + 1) = (na : Int) + 1 := IntWalk.i64_in _ (by omega)
                  have hw2 : IntKind.u64.wrap ((na : Int) + 1) = (na : Int) + 1 := IntWalk.u64_in _ (by omega)
                  refine wp_region_noPanic ?_
                  refine wp_region_held_drew (S := fun w' => w'.cell? ⟨s, 0, none⟩ = some (.slice As ns cs) ∧ w'.cell? ⟨s, 1, none⟩ = some (.slice Al nl cl) ∧ w'.cell? ⟨s, 2, none⟩ = some (.int .i64 (D.most : Int)) ∧ w'.cell? ⟨sa, 1, none⟩ = some (.slice A' m c')) (by kernel_rfl) (⟨p0, p1, p2, p3⟩) (fun hHeld => ?_)
                  refine wpAnyH_take (i := 0) (v := ?vgx1) (oi := ?ogx1) ?hgx1 (by kernel_rfl) (by kernel_rfl) (by kernel_rfl) (fun _ _ _ h => h) (Or.inl ⟨?wgx1, ?ygx1⟩) hHeld ?rgx1
                  case hgx1 => simp only [List.getElem?_toArray, List.getElem?_cons_zero, List.getElem?_cons_succ]; rfl
                  case wgx1 => rfl
                  case ygx1 => intro w hSw; (try dsimp only at hSw); go_simp; (try with_reducible rfl)
                  simp only [Act.put, List.setIfInBounds_toArray, List.set_cons_zero, List.set_cons_succ]
                  refine wpAnyH_take (i := 1) (v := ?vgx2) (oi := ?ogx2) ?hgx2 (by kernel_rfl) (by kernel_rfl) (by kernel_rfl) (fun _ _ _ h => h) (Or.inl ⟨?wgx2, ?ygx2⟩) hHeld ?rgx2
                  case hgx2 => simp only [List.getElem?_toArray, List.getElem?_cons_zero, List.getElem?_cons_succ]; rfl
                  case wgx2 => rfl
                  case ygx2 => intro w hSw; (try dsimp only at hSw); go_simp; (try with_reducible rfl)
                  simp only [Act.put, List.setIfInBounds_toArray, List.set_cons_zero, List.set_cons_succ]
                  refine wpAnyH_take (i := 2) (v := ?vgx3) (oi := ?ogx3) ?hgx3 (by kernel_rfl) (by kernel_rfl) (by kernel_rfl) (fun _ _ _ h => h) (Or.inl ⟨?wgx3, ?ygx3⟩) hHeld ?rgx3
                  case hgx3 => simp only [List.getElem?_toArray, List.getElem?_cons_zero, List.getElem?_cons_succ]; rfl
                  case wgx3 => rfl
                  case ygx3 => intro w hSw; (try dsimp only at hSw); go_simp; (try with_reducible rfl)
                  simp only [Act.put, List.setIfInBounds_toArray, List.set_cons_zero, List.set_cons_succ]
                  refine wpAnyH_take (i := 3) (v := ?vgx4) (oi := ?ogx4) ?hgx4 (by kernel_rfl) (by kernel_rfl) (by kernel_rfl) (fun _ _ _ h => h) (Or.inl ⟨?wgx4, ?ygx4⟩) hHeld ?rgx4
                  case hgx4 => simp only [List.getElem?_toArray, List.getElem?_cons_zero, List.getElem?_cons_succ]; rfl
                  case wgx4 => rfl
                  case ygx4 => intro w hSw; (try dsimp only at hSw); go_simp; (try with_reducible rfl)
                  simp only [Act.put, List.setIfInBounds_toArray, List.set_cons_zero, List.set_cons_succ]
                  refine wpAnyH_take (i := 4) (v := ?vgx5) (oi := ?ogx5) ?hgx5 (by kernel_rfl) (by kernel_rfl) (by kernel_rfl) (fun _ _ _ h => h) (Or.inl ⟨?wgx5, ?ygx5⟩) hHeld ?rgx5
                  case hgx5 => simp only [List.getElem?_toArray, List.getElem?_cons_zero, List.getElem?_cons_succ]; rfl
                  case wgx5 => rfl
                  case ygx5 => intro w hSw; (try dsimp only at hSw); go_simp; (try with_reducible rfl)
                  simp only [Act.put, List.setIfInBounds_toArray, List.set_cons_zero, List.set_cons_succ]
                  refine wpAnyH_take (i := 5) (v := ?vgx6) (oi := ?ogx6) ?hgx6 (by kernel_rfl) (by kernel_rfl) (by kernel_rfl) (fun _ _ _ h => h) (Or.inl ⟨?wgx6, ?ygx6⟩) hHeld ?rgx6
                  case hgx6 => simp only [List.getElem?_toArray, List.getElem?_cons_zero, List.getElem?_cons_succ]; rfl
                  case wgx6 => rfl
                  case ygx6 => intro w hSw; (try dsimp only at hSw); go_simp; (try with_reducible rfl)
                  simp only [Act.put, List.setIfInBounds_toArray, List.set_cons_zero, List.set_cons_succ]
                  refine wpAnyH_take (i := 6) (v := ?vgx7) (oi := ?ogx7) ?hgx7 (by kernel_rfl) (by kernel_rfl) (by kernel_rfl) (fun _ _ _ h => h) (Or.inl ⟨?wgx7, ?ygx7⟩) hHeld ?rgx7
                  case hgx7 => simp only [List.getElem?_toArray, List.getElem?_cons_zero, List.getElem?_cons_succ]; rfl
                  case wgx7 => rfl
                  case ygx7 => intro w hSw; (try dsimp only at hSw); go_simp; (try with_reducible rfl)
                  simp only [Act.put, List.setIfInBounds_toArray, List.set_cons_zero, List.set_cons_succ]
                  refine wpAnyH_ready (rs := [7, 12]) (by kernel_rfl) (by simp) ?_
                  refine (AllReadyH.cons (o := ?ogx9) ?hgx9 (fun K hK => ?sgx9) (AllReadyH.cons (o := ?ogx10) ?hgx10 (fun K hK => ?sgx10) AllReadyH.nil))
                  case hgx9 => simp only [List.getElem?_toArray, List.getElem?_cons_zero, List.getElem?_cons_succ]; rfl
                  case hgx10 => simp only [List.getElem?_toArray, List.getElem?_cons_zero, List.getElem?_cons_succ]; rfl
                  case sgx9 =>
                    go_simp
                    refine (HRF.out _ HKD.out).mono ?_
                    rintro e w5 ⟨A5, n5, c5, rfl, ho5, k5⟩
                    have Kf := HKD.out.trans' k5
                    have pf0 := k5.cell p0 (fun f => f)
                    have pf1 := k5.cell p1 (fun f => f)
                    have pf2 := k5.cell p2 (fun f => f)
                    have pf3 := k5.cell p3 (fun f => f)
                    go_wp2_with fail
                    refine hK.out _ _ (⟨pf0, pf1, pf2, pf3⟩) (fun hHeld => ?_)
                    clear hK K
                    try simp only [Act.put, List.setIfInBounds_toArray, List.set_cons_zero, List.set_cons_succ]
                    refine wpAnyH_ready (rs := [8, 12]) (by kernel_rfl) (by simp) ?_
                    refine (AllReadyH.cons (o := ?ogx12) ?hgx12 (fun K hK => ?sgx12) (AllReadyH.cons (o := ?ogx13) ?hgx13 (fun K hK => ?sgx13) AllReadyH.nil))
                    case hgx12 => simp only [List.getElem?_toArray, List.getElem?_cons_zero, List.getElem?_cons_succ]; rfl
                    case hgx13 => simp only [List.getElem?_toArray, List.getElem?_cons_zero, List.getElem?_cons_succ]; rfl
                    case sgx12 =>
                      go_simp
                      refine (rput13_any ⟨_, _, rfl, (HRR.out.no Kf)⟩ ho5.bts (by have := HL.out; omega) (by have := HL.out; have := HFL.out; omega) HB.out.most).mono ?_
                      rintro e w6 ⟨v6, rfl, ⟨vs6, vl6, rfl, hR6⟩, k6⟩
                      rw [← HQ.out]
                      obtain ⟨As6, ns6, cs6, Al6, nl6, cl6, rfl, rfl, -, -, -, -⟩ := hR6.forms
                      have Kg := Kf.trans' k6
                      have pg0 := k6.cell pf0 (fun f => f)
                      have pg1 := k6.cell pf1 (fun f => f)
                      have pg2 := k6.cell pf2 (fun f => f)
                      have pg3 := k6.cell pf3 (fun f => f)
                      unfold tupT rtV
                      go_wp2_with fail
                      refine hK.out _ _ (⟨pg0, pg1, pg2, pg3⟩) (fun hHeld => ?_)
                      clear hK K
                      try simp only [Act.put, List.setIfInBounds_toArray, List.set_cons_zero, List.set_cons_succ]
                      refine wpAnyH_take (i := 9) (v := ?vgx14) (oi := ?ogx14) ?hgx14 (by kernel_rfl) (by kernel_rfl) (by kernel_rfl) (fun _ _ _ h => h) (Or.inl ⟨?wgx14, ?ygx14⟩) hHeld ?rgx14
                      case hgx14 => simp only [List.getElem?_toArray, List.getElem?_cons_zero, List.getElem?_cons_succ]; rfl
                      case wgx14 => rfl
                      case ygx14 => intro w hSw; (try dsimp only at hSw); go_simp; (try with_reducible rfl)
                      simp only [Act.put, List.setIfInBounds_toArray, List.set_cons_zero, List.set_cons_succ]
                      refine wpAnyH_take (i := 10) (v := ?vgx15) (oi := ?ogx15) ?hgx15 (by kernel_rfl) (by kernel_rfl) (by kernel_rfl) (fun _ _ _ h => h) (Or.inl ⟨?wgx15, ?ygx15⟩) hHeld ?rgx15
                      case hgx15 => simp only [List.getElem?_toArray, List.getElem?_cons_zero, List.getElem?_cons_succ]; rfl
                      case wgx15 => rfl
                      case ygx15 => intro w hSw; (try dsimp only at hSw); go_simp; (try with_reducible rfl)
                      simp only [Act.put, List.setIfInBounds_toArray, List.set_cons_zero, List.set_cons_succ]
                      refine wpAnyH_take (i := 11) (v := ?vgx16) (oi := ?ogx16) ?hgx16 (by kernel_rfl) (by kernel_rfl) (by kernel_rfl) (fun _ _ _ h => h) (Or.inl ⟨?wgx16, ?ygx16⟩) hHeld ?rgx16
                      case hgx16 => simp only [List.getElem?_toArray, List.getElem?_cons_zero, List.getElem?_cons_succ]; rfl
                      case wgx16 => rfl
                      case ygx16 => intro w hSw; (try dsimp only at hSw); go_simp; (try with_reducible rfl)
                      simp only [Act.put, List.setIfInBounds_toArray, List.set_cons_zero, List.set_cons_succ]
                      refine wpAnyH_ready (rs := [12]) (by kernel_rfl) (by simp) ?_
                      refine AllReadyH.cons (o := ?ogx17) ?hgx17 (fun K hK => ?sgx17) AllReadyH.nil
                      case hgx17 => simp only [List.getElem?_toArray, List.getElem?_cons_zero, List.getElem?_cons_succ]; rfl
                      go_simp
                      have hz : BxT ((w6.alloc (.cells #[.slice none 0 0, .slice none 0 0, .int .i64 0] 35))) (w6.heap.size) (.slice none 0 0) (.slice none 0 0) 0 := BxT.new w6 _ _ 0
                      have kal : Kp No w6 ((w6.alloc (.cells #[.slice none 0 0, .slice none 0 0, .int .i64 0] 35))) := Kp.alloc No w6 (.cells #[.slice none 0 0, .slice none 0 0, .int .i64 0] 35)
                      have Kz := Kg.trans' kal
                      have hbz : z4 ≤ w6.heap.size := by rw [HZ4.out]; exact Kg.size
                      replace hR6 := hR6.box (.cells #[.slice none 0 0, .slice none 0 0, .int .i64 0] 35)
                      have pz0 := kal.cell pg0 (fun f => f)
                      have pz1 := kal.cell pg1 (fun f => f)
                      have pz2 := kal.cell pg2 (fun f => f)
                      have pz3 := kal.cell pg3 (fun f => f)
                      generalize (w6.alloc (.cells #[.slice none 0 0, .slice none 0 0, .int .i64 0] 35)) = wz at hz kal Kz hR6 pz0 pz1 pz2 pz3 ⊢
                      generalize w6.heap.size = bz at hz hbz hR6 ⊢
                      have zc0 := hz.c0
                      have zc1 := hz.c1
                      have zc2 := hz.c2
                      have zf0 := hz.fz 0
                      have zf1 := hz.fz 1
                      have zf2 := hz.fz 2
                      refine hK.out _ _ (⟨pz0, pz1, pz2, pz3⟩) (fun hHeld => ?_)
                      clear hK K
                      try simp only [Act.put, List.setIfInBounds_toArray, List.set_cons_zero, List.set_cons_succ]
                      refine wpAnyH_ready (rs := [13]) (by kernel_rfl) (by simp) ?_
                      refine AllReadyH.cons (o := ?ogx18) ?hgx18 (fun K hK => ?sgx18) AllReadyH.nil
                      case hgx18 => simp only [List.getElem?_toArray, List.getElem?_cons_zero, List.getElem?_cons_succ]; rfl
                      go_simp
                      refine hK.out _ _ (⟨(kp_set3 _ bz (.slice As6 ns6 cs6) (.slice Al6 nl6 cl6) (.int .i64 ((D.put fb).most : Int))).cell pz0 (fun e => by have e' : s = bz := e; omega), (kp_set3 _ bz (.slice As6 ns6 cs6) (.slice Al6 nl6 cl6) (.int .i64 ((D.put fb).most : Int))).cell pz1 (fun e => by have e' : s = bz := e; omega), (kp_set3 _ bz (.slice As6 ns6 cs6) (.slice Al6 nl6 cl6) (.int .i64 ((D.put fb).most : Int))).cell pz2 (fun e => by have e' : s = bz := e; omega), (kp_set3 _ bz (.slice As6 ns6 cs6) (.slice Al6 nl6 cl6) (.int .i64 ((D.put fb).most : Int))).cell pz3 (fun e => by have e' : sa = bz := e; omega)⟩) (fun hHeld => ?_)
                      clear hK K
                      try simp only [Act.put, List.setIfInBounds_toArray, List.set_cons_zero, List.set_cons_succ]
                      refine wpAnyH_take (i := 14) (v := ?vgx19) (oi := ?ogx19) ?hgx19 (by kernel_rfl) (by kernel_rfl) (by kernel_rfl) (fun _ _ _ h => h) (Or.inl ⟨?wgx19, ?ygx19⟩) hHeld ?rgx19
                      case hgx19 => simp only [List.getElem?_toArray, List.getElem?_cons_zero, List.getElem?_cons_succ]; rfl
                      case wgx19 => rfl
                      case ygx19 => intro w hSw; (try dsimp only at hSw); go_simp; (try with_reducible rfl)
                      simp only [Act.put, List.setIfInBounds_toArray, List.set_cons_zero, List.set_cons_succ]
                      refine wpAnyH_done (by kernel_rfl) ?_ _
                      refine NoPanic.normal ?_
                      go_wp2_with fail
                      go_meet
                      exact ⟨bz, As6, ns6, cs6, Al6, nl6, cl6, rfl, rfl, Kz.fr (kp_set3 wz bz (.slice As6 ns6 cs6) (.slice Al6 nl6 cl6) (.int .i64 ((D.put fb).most : Int))) (fun q e => by rw [e, ← HZ4.out]; exact hbz), (hR6.keep (kp_set3 wz bz (.slice As6 ns6 cs6) (.slice Al6 nl6 cl6) (.int .i64 ((D.put fb).most : Int))) (fun q _ hn e => hn (.inr e))).less (fun q f => .inl f), hz.set3 _ _ _, by omega, by omega⟩
                    case sgx13 =>
                      go_simp
                      have hz : BxT ((w5.alloc (.cells #[.slice none 0 0, .slice none 0 0, .int .i64 0] 35))) (w5.heap.size) (.slice none 0 0) (.slice none 0 0) 0 := BxT.new w5 _ _ 0
                      have kal : Kp No w5 ((w5.alloc (.cells #[.slice none 0 0, .slice none 0 0, .int .i64 0] 35))) := Kp.alloc No w5 (.cells #[.slice none 0 0, .slice none 0 0, .int .i64 0] 35)
                      have Kz := Kf.trans' kal
                      have hbz : z4 ≤ w5.heap.size := by rw [HZ4.out]; exact Kf.size
                      have hRb : RtR ((w5.alloc (.cells #[.slice none 0 0, .slice none 0 0, .int .i64 0] 35))) (fun q => (F q ∨ Ysa s sa q) ∨ q = w5.heap.size) D (.slice As ns cs) (.slice Al nl cl) := (HRR.out.no Kf).box (.cells #[.slice none 0 0, .slice none 0 0, .int .i64 0] 35)
                      have pz0 := kal.cell pf0 (fun f => f)
                      have pz1 := kal.cell pf1 (fun f => f)
                      have pz2 := kal.cell pf2 (fun f => f)
                      have pz3 := kal.cell pf3 (fun f => f)
                      generalize (w5.alloc (.cells #[.slice none 0 0, .slice none 0 0, .int .i64 0] 35)) = wz at hz kal Kz hRb pz0 pz1 pz2 pz3 ⊢
                      generalize w5.heap.size = bz at hz hbz hRb ⊢
                      refine hK.out _ _ (⟨pz0, pz1, pz2, pz3⟩) (fun hHeld => ?_)
                      clear hK K
                      try simp only [Act.put, List.setIfInBounds_toArray, List.set_cons_zero, List.set_cons_succ]
                      refine wpAnyH_ready (rs := [8]) (by kernel_rfl) (by simp) ?_
                      refine AllReadyH.cons (o := ?ogx21) ?hgx21 (fun K hK => ?sgx21) AllReadyH.nil
                      case hgx21 => simp only [List.getElem?_toArray, List.getElem?_cons_zero, List.getElem?_cons_succ]; rfl
                      go_simp
                      refine (rput13_any ⟨_, _, rfl, hRb⟩ (ho5.no kal).bts (by have := HL.out; omega) (by have := HL.out; have := HFL.out; omega) HB.out.most).mono ?_
                      rintro e w6 ⟨v6, rfl, ⟨vs6, vl6, rfl, hR6⟩, k6⟩
                      rw [← HQ.out]
                      obtain ⟨As6, ns6, cs6, Al6, nl6, cl6, rfl, rfl, -, -, -, -⟩ := hR6.forms
                      have Kg := Kz.trans' k6
                      have pg0 := k6.cell pz0 (fun f => f)
                      have pg1 := k6.cell pz1 (fun f => f)
                      have pg2 := k6.cell pz2 (fun f => f)
                      have pg3 := k6.cell pz3 (fun f => f)
                      replace hz := hz.no k6
                      have zc0 := hz.c0
                      have zc1 := hz.c1
                      have zc2 := hz.c2
                      have zf0 := hz.fz 0
                      have zf1 := hz.fz 1
                      have zf2 := hz.fz 2
                      unfold tupT rtV
                      go_wp2_with fail
                      refine hK.out _ _ (⟨pg0, pg1, pg2, pg3⟩) (fun hHeld => ?_)
                      clear hK K
                      try simp only [Act.put, List.setIfInBounds_toArray, List.set_cons_zero, List.set_cons_succ]
                      refine wpAnyH_take (i := 9) (v := ?vgx22) (oi := ?ogx22) ?hgx22 (by kernel_rfl) (by kernel_rfl) (by kernel_rfl) (fun _ _ _ h => h) (Or.inl ⟨?wgx22, ?ygx22⟩) hHeld ?rgx22
                      case hgx22 => simp only [List.getElem?_toArray, List.getElem?_cons_zero, List.getElem?_cons_succ]; rfl
                      case wgx22 => rfl
                      case ygx22 => intro w hSw; (try dsimp only at hSw); go_simp; (try with_reducible rfl)
                      simp only [Act.put, List.setIfInBounds_toArray, List.set_cons_zero, List.set_cons_succ]
                      refine wpAnyH_take (i := 10) (v := ?vgx23) (oi := ?ogx23) ?hgx23 (by kernel_rfl) (by kernel_rfl) (by kernel_rfl) (fun _ _ _ h => h) (Or.inl ⟨?wgx23, ?ygx23⟩) hHeld ?rgx23
                      case hgx23 => simp only [List.getElem?_toArray, List.getElem?_cons_zero, List.getElem?_cons_succ]; rfl
                      case wgx23 => rfl
                      case ygx23 => intro w hSw; (try dsimp only at hSw); go_simp; (try with_reducible rfl)
                      simp only [Act.put, List.setIfInBounds_toArray, List.set_cons_zero, List.set_cons_succ]
                      refine wpAnyH_take (i := 11) (v := ?vgx24) (oi := ?ogx24) ?hgx24 (by kernel_rfl) (by kernel_rfl) (by kernel_rfl) (fun _ _ _ h => h) (Or.inl ⟨?wgx24, ?ygx24⟩) hHeld ?rgx24
                      case hgx24 => simp only [List.getElem?_toArray, List.getElem?_cons_zero, List.getElem?_cons_succ]; rfl
                      case wgx24 => rfl
                      case ygx24 => intro w hSw; (try dsimp only at hSw); go_simp; (try with_reducible rfl)
                      simp only [Act.put, List.setIfInBounds_toArray, List.set_cons_zero, List.set_cons_succ]
                      refine wpAnyH_ready (rs := [13]) (by kernel_rfl) (by simp) ?_
                      refine AllReadyH.cons (o := ?ogx25) ?hgx25 (fun K hK => ?sgx25) AllReadyH.nil
                      case hgx25 => simp only [List.getElem?_toArray, List.getElem?_cons_zero, List.getElem?_cons_succ]; rfl
                      go_simp
                      refine hK.out _ _ (⟨(kp_set3 _ bz (.slice As6 ns6 cs6) (.slice Al6 nl6 cl6) (.int .i64 ((D.put fb).most : Int))).cell pg0 (fun e => by have e' : s = bz := e; omega), (kp_set3 _ bz (.slice As6 ns6 cs6) (.slice Al6 nl6 cl6) (.int .i64 ((D.put fb).most : Int))).cell pg1 (fun e => by have e' : s = bz := e; omega), (kp_set3 _ bz (.slice As6 ns6 cs6) (.slice Al6 nl6 cl6) (.int .i64 ((D.put fb).most : Int))).cell pg2 (fun e => by have e' : s = bz := e; omega), (kp_set3 _ bz (.slice As6 ns6 cs6) (.slice Al6 nl6 cl6) (.int .i64 ((D.put fb).most : Int))).cell pg3 (fun e => by have e' : sa = bz := e; omega)⟩) (fun hHeld => ?_)
                      clear hK K
                      try simp only [Act.put, List.setIfInBounds_toArray, List.set_cons_zero, List.set_cons_succ]
                      refine wpAnyH_take (i := 14) (v := ?vgx26) (oi := ?ogx26) ?hgx26 (by kernel_rfl) (by kernel_rfl) (by kernel_rfl) (fun _ _ _ h => h) (Or.inl ⟨?wgx26, ?ygx26⟩) hHeld ?rgx26
                      case hgx26 => simp only [List.getElem?_toArray, List.getElem?_cons_zero, List.getElem?_cons_succ]; rfl
                      case wgx26 => rfl
                      case ygx26 => intro w hSw; (try dsimp only at hSw); go_simp; (try with_reducible rfl)
                      simp only [Act.put, List.setIfInBounds_toArray, List.set_cons_zero, List.set_cons_succ]
                      refine wpAnyH_done (by kernel_rfl) ?_ _
                      refine NoPanic.normal ?_
                      go_wp2_with fail
                      go_meet
                      exact ⟨bz, As6, ns6, cs6, Al6, nl6, cl6, rfl, rfl, Kg.fr (kp_set3 w6 bz (.slice As6 ns6 cs6) (.slice Al6 nl6 cl6) (.int .i64 ((D.put fb).most : Int))) (fun q e => by rw [e, ← HZ4.out]; exact hbz), (hR6.keep (kp_set3 w6 bz (.slice As6 ns6 cs6) (.slice Al6 nl6 cl6) (.int .i64 ((D.put fb).most : Int))) (fun q _ hn e => hn (.inr e))).less (fun q f => .inl f), hz.set3 _ _ _, by omega, by omega⟩
                  case sgx10 =>
                    go_simp
                    have hz : BxT ((w4.alloc (.cells #[.slice none 0 0, .slice none 0 0, .int .i64 0] 35)).drew) (w4.heap.size) (.slice none 0 0) (.slice none 0 0) 0 := BxT.new w4.drew _ _ 0
                    have kal : Kp No w4.drew ((w4.alloc (.cells #[.slice none 0 0, .slice none 0 0, .int .i64 0] 35)).drew) := Kp.alloc No w4.drew (.cells #[.slice none 0 0, .slice none 0 0, .int .i64 0] 35)
                    have Kz := HKD.out.trans' kal
                    have hbz : z4 ≤ w4.heap.size := by rw [HZ4.out]; exact Nat.le_refl _
                    have hRb : RtR ((w4.alloc (.cells #[.slice none 0 0, .slice none 0 0, .int .i64 0] 35)).drew) (fun q => (F q ∨ Ysa s sa q) ∨ q = w4.heap.size) D (.slice As ns cs) (.slice Al nl cl) := (HRR.out.no HKD.out).box (.cells #[.slice none 0 0, .slice none 0 0, .int .i64 0] 35)
                    have pz0 := kal.cell p0 (fun f => f)
                    have pz1 := kal.cell p1 (fun f => f)
                    have pz2 := kal.cell p2 (fun f => f)
                    have pz3 := kal.cell p3 (fun f => f)
                    generalize (w4.alloc (.cells #[.slice none 0 0, .slice none 0 0, .int .i64 0] 35)).drew = wz at hz kal Kz hRb pz0 pz1 pz2 pz3 ⊢
                    generalize w4.heap.size = bz at hz hbz hRb ⊢
                    refine hK.out _ _ (⟨pz0, pz1, pz2, pz3⟩) (fun hHeld => ?_)
                    clear hK K
                    try simp only [Act.put, List.setIfInBounds_toArray, List.set_cons_zero, List.set_cons_succ]
                    refine wpAnyH_ready (rs := [7]) (by kernel_rfl) (by simp) ?_
                    refine AllReadyH.cons (o := ?ogx28) ?hgx28 (fun K hK => ?sgx28) AllReadyH.nil
                    case hgx28 => simp only [List.getElem?_toArray, List.getElem?_cons_zero, List.getElem?_cons_succ]; rfl
                    go_simp
                    refine (HRF.out _ Kz).mono ?_
                    rintro e w5 ⟨A5, n5, c5, rfl, ho5, k5⟩
                    have Kf := Kz.trans' k5
                    have pf0 := k5.cell pz0 (fun f => f)
                    have pf1 := k5.cell pz1 (fun f => f)
                    have pf2 := k5.cell pz2 (fun f => f)
                    have pf3 := k5.cell pz3 (fun f => f)
                    replace hz := hz.no k5
                    replace hRb := hRb.no k5
                    go_wp2_with fail
                    refine hK.out _ _ (⟨pf0, pf1, pf2, pf3⟩) (fun hHeld => ?_)
                    clear hK K
                    try simp only [Act.put, List.setIfInBounds_toArray, List.set_cons_zero, List.set_cons_succ]
                    refine wpAnyH_ready (rs := [8]) (by kernel_rfl) (by simp) ?_
                    refine AllReadyH.cons (o := ?ogx29) ?hgx29 (fun K hK => ?sgx29) AllReadyH.nil
                    case hgx29 => simp only [List.getElem?_toArray, List.getElem?_cons_zero, List.getElem?_cons_succ]; rfl
                    go_simp
                    refine (rput13_any ⟨_, _, rfl, hRb⟩ ho5.bts (by have := HL.out; omega) (by have := HL.out; have := HFL.out; omega) HB.out.most).mono ?_
                    rintro e w6 ⟨v6, rfl, ⟨vs6, vl6, rfl, hR6⟩, k6⟩
                    rw [← HQ.out]
                    obtain ⟨As6, ns6, cs6, Al6, nl6, cl6, rfl, rfl, -, -, -, -⟩ := hR6.forms
                    have Kg := Kf.trans' k6
                    have pg0 := k6.cell pf0 (fun f => f)
                    have pg1 := k6.cell pf1 (fun f => f)
                    have pg2 := k6.cell pf2 (fun f => f)
                    have pg3 := k6.cell pf3 (fun f => f)
                    replace hz := hz.no k6
                    have zc0 := hz.c0
                    have zc1 := hz.c1
                    have zc2 := hz.c2
                    have zf0 := hz.fz 0
                    have zf1 := hz.fz 1
                    have zf2 := hz.fz 2
                    unfold tupT rtV
                    go_wp2_with fail
                    refine hK.out _ _ (⟨pg0, pg1, pg2, pg3⟩) (fun hHeld => ?_)
                    clear hK K
                    try simp only [Act.put, List.setIfInBounds_toArray, List.set_cons_zero, List.set_cons_succ]
                    refine wpAnyH_take (i := 9) (v := ?vgx30) (oi := ?ogx30) ?hgx30 (by kernel_rfl) (by kernel_rfl) (by kernel_rfl) (fun _ _ _ h => h) (Or.inl ⟨?wgx30, ?ygx30⟩) hHeld ?rgx30
                    case hgx30 => simp only [List.getElem?_toArray, List.getElem?_cons_zero, List.getElem?_cons_succ]; rfl
                    case wgx30 => rfl
                    case ygx30 => intro w hSw; (try dsimp only at hSw); go_simp; (try with_reducible rfl)
                    simp only [Act.put, List.setIfInBounds_toArray, List.set_cons_zero, List.set_cons_succ]
                    refine wpAnyH_take (i := 10) (v := ?vgx31) (oi := ?ogx31) ?hgx31 (by kernel_rfl) (by kernel_rfl) (by kernel_rfl) (fun _ _ _ h => h) (Or.inl ⟨?wgx31, ?ygx31⟩) hHeld ?rgx31
                    case hgx31 => simp only [List.getElem?_toArray, List.getElem?_cons_zero, List.getElem?_cons_succ]; rfl
                    case wgx31 => rfl
                    case ygx31 => intro w hSw; (try dsimp only at hSw); go_simp; (try with_reducible rfl)
                    simp only [Act.put, List.setIfInBounds_toArray, List.set_cons_zero, List.set_cons_succ]
                    refine wpAnyH_take (i := 11) (v := ?vgx32) (oi := ?ogx32) ?hgx32 (by kernel_rfl) (by kernel_rfl) (by kernel_rfl) (fun _ _ _ h => h) (Or.inl ⟨?wgx32, ?ygx32⟩) hHeld ?rgx32
                    case hgx32 => simp only [List.getElem?_toArray, List.getElem?_cons_zero, List.getElem?_cons_succ]; rfl
                    case wgx32 => rfl
                    case ygx32 => intro w hSw; (try dsimp only at hSw); go_simp; (try with_reducible rfl)
                    simp only [Act.put, List.setIfInBounds_toArray, List.set_cons_zero, List.set_cons_succ]
                    refine wpAnyH_ready (rs := [13]) (by kernel_rfl) (by simp) ?_
                    refine AllReadyH.cons (o := ?ogx33) ?hgx33 (fun K hK => ?sgx33) AllReadyH.nil
                    case hgx33 => simp only [List.getElem?_toArray, List.getElem?_cons_zero, List.getElem?_cons_succ]; rfl
                    go_simp
                    refine hK.out _ _ (⟨(kp_set3 _ bz (.slice As6 ns6 cs6) (.slice Al6 nl6 cl6) (.int .i64 ((D.put fb).most : Int))).cell pg0 (fun e => by have e' : s = bz := e; omega), (kp_set3 _ bz (.slice As6 ns6 cs6) (.slice Al6 nl6 cl6) (.int .i64 ((D.put fb).most : Int))).cell pg1 (fun e => by have e' : s = bz := e; omega), (kp_set3 _ bz (.slice As6 ns6 cs6) (.slice Al6 nl6 cl6) (.int .i64 ((D.put fb).most : Int))).cell pg2 (fun e => by have e' : s = bz := e; omega), (kp_set3 _ bz (.slice As6 ns6 cs6) (.slice Al6 nl6 cl6) (.int .i64 ((D.put fb).most : Int))).cell pg3 (fun e => by have e' : sa = bz := e; omega)⟩) (fun hHeld => ?_)
                    clear hK K
                    try simp only [Act.put, List.setIfInBounds_toArray, List.set_cons_zero, List.set_cons_succ]
                    refine wpAnyH_take (i := 14) (v := ?vgx34) (oi := ?ogx34) ?hgx34 (by kernel_rfl) (by kernel_rfl) (by kernel_rfl) (fun _ _ _ h => h) (Or.inl ⟨?wgx34, ?ygx34⟩) hHeld ?rgx34
                    case hgx34 => simp only [List.getElem?_toArray, List.getElem?_cons_zero, List.getElem?_cons_succ]; rfl
                    case wgx34 => rfl
                    case ygx34 => intro w hSw; (try dsimp only at hSw); go_simp; (try with_reducible rfl)
                    simp only [Act.put, List.setIfInBounds_toArray, List.set_cons_zero, List.set_cons_succ]
                    refine wpAnyH_done (by kernel_rfl) ?_ _
                    refine NoPanic.normal ?_
                    go_wp2_with fail
                    go_meet
                    exact ⟨bz, As6, ns6, cs6, Al6, nl6, cl6, rfl, rfl, Kg.fr (kp_set3 w6 bz (.slice As6 ns6 cs6) (.slice Al6 nl6 cl6) (.int .i64 ((D.put fb).most : Int))) (fun q e => by rw [e, ← HZ4.out]; exact hbz), (hR6.keep (kp_set3 w6 bz (.slice As6 ns6 cs6) (.slice Al6 nl6 cl6) (.int .i64 ((D.put fb).most : Int))) (fun q _ hn e => hn (.inr e))).less (fun q f => .inl f), hz.set3 _ _ _, by omega, by omega⟩
                case rest =>
                obtain ⟨bz, As6, ns6, cs6, Al6, nl6, cl6, rfl, rfl, hkx, hRx, hBx, hn1, hn2⟩ := hcut
                have HKX := hide hkx
                have HRX := hide hRx
                have HBX := hide hBx
                clear hkx hRx hBx hn1 hn2 hs4 ha4
                have HSX := hide (HS.out.no HKX.out)
                have HFX : Hid (∀ q, F q → W.heap.size ≤ q ∧ q < wc.heap.size ∧ ¬ Ysa s sa q) := fun q f => ⟨(HF.out q f).1, Nat.lt_of_lt_of_le (HF.out q f).2.1 HKX.out.size, (HF.out q f).2.2⟩
                have u0 := HBX.out.c0
                have u1 := HBX.out.c1
                have u2 := HBX.out.c2
                have bx0 := HSX.out.bx.c0
                have bx1 := HSX.out.bx.c1
                have bx2 := HSX.out.bx.c2
                have bf0 := HSX.out.bx.fz 0
                have bf1 := HSX.out.bx.fz 1
                have bf2 := HSX.out.bx.fz 2
                have hB6 : BxT (((wc.setCell ⟨s, 0, none⟩ (.slice As6 ns6 cs6)).setCell ⟨s, 1, none⟩ (.slice Al6 nl6 cl6)).setCell ⟨s, 2, none⟩ (.int .i64 ((D.put fb).most : Int))) s (.slice As6 ns6 cs6) (.slice Al6 nl6 cl6) (D.put fb).most := HSX.out.bx.set3 _ _ _
                have HS6 := hide (HSX.out.ref (HD.out.no HKX.out) (HA.out.no HKX.out) HFX.out HRX.out (Kp.refl No wc) (kp_set3 wc s (.slice As6 ns6 cs6) (.slice Al6 nl6 cl6) (.int .i64 ((D.put fb).most : Int))) hB6)
                have HBA6 := hide ((HBA.out.no HKX.out).keep (kp_set3 wc s (.slice As6 ns6 cs6) (.slice Al6 nl6 cl6) (.int .i64 ((D.put fb).most : Int))) (Ne.symm HNE.out))
                clear hB6
                go_upto_region 18 with (fail)
                clear bx0 bf0 bx1 bf1 bx2 bf2
                clear u0 u1 u2
                generalize (((wc.setCell ⟨s, 0, none⟩ (.slice As6 ns6 cs6)).setCell ⟨s, 1, none⟩ (.slice Al6 nl6 cl6)).setCell ⟨s, 2, none⟩ (.int .i64 ((D.put fb).most : Int))) = w6 at HS6 HBA6 ⊢
                obtain ⟨F6, hD6, hR6, hA6, hF6⟩ := HS6.out.ex
                have HD6 := hide hD6
                have HRR6 := hide hR6
                have HA6 := hide hA6
                have HF6 := hide hF6
                clear hD6 hR6 hA6 hF6
                have HU : Hid (∀ w', Kp F6 w6 w' → Bts w' (.slice A' m c') d.b) := fun w' hk' => HBW.out.no (HS6.out.kp.fr hk' fun q f => (HF6.out q f).1)
                have a1 := HBA6.out.c1
                have HWR := hide (dwrite_any HD6.out HU.out (by omega) (by have h1 := HL.out; have h2 := HFL.out; rw [HFB.out, rcF_len] at h2; omega) (by rw [HNA.out]; omega))
                have HLP : Hid ((D.put fb).len ≤ (k + 1) * 320 ∧ (D.put fb).most ≤ 9223372036854775807) := ⟨by have h1 := D.put_len fb; have h2 := HFL.out; have h3 := HB.out.len; omega, by rw [Tp.put_most]; exact HB.out.most⟩
                by_cases hq0 : q = 0
                · subst hq0
                  go_wp2_with fail
                  refine HWR.out.mono ?_
                  intro e w7 hp7
                  rw [HNA.out, ← HFB.out, ← HQ.out, if_pos rfl] at hp7
                  obtain rfl := hp7.1
                  have hS7 := HS6.out.call HRR6.out HA6.out HF6.out hp7.2.1 hp7.2.2
                  have HBA7 := hide (HBA6.out.keep hS7.2 fun h => h (.inr rfl))
                  have HS7 := hide hS7.1
                  clear hp7 hS7 a1
                  obtain ⟨F7, hD7, hR7, hA7, hF7⟩ := HS7.out.ex
                  have HD7 := hide hD7
                  have HRR7 := hide hR7
                  have HA7 := hide hA7
                  have HF7 := hide hF7
                  clear hD7 hR7 hA7 hF7
                  have hsm := rsl_m Aa HA7.out.cap
                  have b1 : w7.drew.cell? ⟨sa, 1, none⟩ = some (.slice A' m c') := HBA7.out.c1
                  have HNP := hide HB.out.na_
                  go_wp2_with fail
                  refine wp_region_noPanic ?_
                  refine wp_region_held_drew (S := fun w' => w'.cell? ⟨sa, 1, none⟩ = some (.slice A' m c')) (by kernel_rfl) (b1) (fun hHeld => ?_)
                  refine wpAnyH_take (i := 0) (v := ?vhx1) (oi := ?ohx1) ?hhx1 (by kernel_rfl) (by kernel_rfl) (by kernel_rfl) (fun _ _ _ h => h) (Or.inl ⟨?whx1, ?yhx1⟩) hHeld ?rhx1
                  case hhx1 => simp only [List.getElem?_toArray, List.getElem?_cons_zero, List.getElem?_cons_succ]; rfl
                  case whx1 => rfl
                  case yhx1 => intro w hSw; (try dsimp only at hSw); go_simp; (try with_reducible rfl)
                  simp only [Act.put, List.setIfInBounds_toArray, List.set_cons_zero, List.set_cons_succ]
                  refine wpAnyH_take (i := 1) (v := ?vhx2) (oi := ?ohx2) ?hhx2 (by kernel_rfl) (by kernel_rfl) (by kernel_rfl) (fun _ _ _ h => h) (Or.inl ⟨?whx2, ?yhx2⟩) hHeld ?rhx2
                  case hhx2 => simp only [List.getElem?_toArray, List.getElem?_cons_zero, List.getElem?_cons_succ]; rfl
                  case whx2 => rfl
                  case yhx2 => intro w hSw; (try dsimp only at hSw); go_simp; (try with_reducible rfl)
                  simp only [Act.put, List.setIfInBounds_toArray, List.set_cons_zero, List.set_cons_succ]
                  refine wpAnyH_take (i := 2) (v := ?vhx3) (oi := ?ohx3) ?hhx3 (by kernel_rfl) (by kernel_rfl) (by kernel_rfl) (fun _ _ _ h => h) (Or.inl ⟨?whx3, ?yhx3⟩) hHeld ?rhx3
                  case hhx3 => simp only [List.getElem?_toArray, List.getElem?_cons_zero, List.getElem?_cons_succ]; rfl
                  case whx3 => rfl
                  case yhx3 => intro w hSw; (try dsimp only at hSw); go_simp; (try with_reducible rfl)
                  simp only [Act.put, List.setIfInBounds_toArray, List.set_cons_zero, List.set_cons_succ]
                  refine wpAnyH_take (i := 3) (v := ?vhx4) (oi := ?ohx4) ?hhx4 (by kernel_rfl) (by kernel_rfl) (by kernel_rfl) (fun _ _ _ h => h) (Or.inl ⟨?whx4, ?yhx4⟩) hHeld ?rhx4
                  case hhx4 => simp only [List.getElem?_toArray, List.getElem?_cons_zero, List.getElem?_cons_succ]; rfl
                  case whx4 => rfl
                  case yhx4 => intro w hSw; (try dsimp only at hSw); go_simp; (try with_reducible rfl)
                  simp only [Act.put, List.setIfInBounds_toArray, List.set_cons_zero, List.set_cons_succ]
                  refine wpAnyH_take (i := 4) (v := ?vhx5) (oi := ?ohx5) ?hhx5 (by kernel_rfl) (by kernel_rfl) (by kernel_rfl) (fun _ _ _ h => h) (Or.inl ⟨?whx5, ?yhx5⟩) hHeld ?rhx5
                  case hhx5 => simp only [List.getElem?_toArray, List.getElem?_cons_zero, List.getElem?_cons_succ]; rfl
                  case whx5 => rfl
                  case yhx5 => intro w hSw; (try dsimp only at hSw); go_simp; (try with_reducible rfl)
                  simp only [Act.put, List.setIfInBounds_toArray, List.set_cons_zero, List.set_cons_succ]
                  refine wpAnyH_take (i := 5) (v := ?vhx6) (oi := ?ohx6) ?hhx6 (by kernel_rfl) (by kernel_rfl) (by kernel_rfl) (fun _ _ _ h => h) (Or.inl ⟨?whx6, ?yhx6⟩) hHeld ?rhx6
                  case hhx6 => simp only [List.getElem?_toArray, List.getElem?_cons_zero, List.getElem?_cons_succ]; rfl
                  case whx6 => rfl
                  case yhx6 => intro w hSw; (try dsimp only at hSw); go_simp; (try with_reducible rfl)
                  simp only [Act.put, List.setIfInBounds_toArray, List.set_cons_zero, List.set_cons_succ]
                  refine wpAnyH_take (i := 6) (v := ?vhx7) (oi := ?ohx7) ?hhx7 (by kernel_rfl) (by kernel_rfl) (by kernel_rfl) (fun _ _ _ h => h) (Or.inl ⟨?whx7, ?yhx7⟩) hHeld ?rhx7
                  case hhx7 => simp only [List.getElem?_toArray, List.getElem?_cons_zero, List.getElem?_cons_succ]; rfl
                  case whx7 => rfl
                  case yhx7 => intro w hSw; (try dsimp only at hSw); go_simp; (try with_reducible rfl)
                  simp only [Act.put, List.setIfInBounds_toArray, List.set_cons_zero, List.set_cons_succ]
                  refine wpAnyH_take (i := 7) (v := ?vhx8) (oi := ?ohx8) ?hhx8 (by kernel_rfl) (by kernel_rfl) (by kernel_rfl) (fun _ _ _ h => h) (Or.inl ⟨?whx8, ?yhx8⟩) hHeld ?rhx8
                  case hhx8 => simp only [List.getElem?_toArray, List.getElem?_cons_zero, List.getElem?_cons_succ]; rfl
                  case whx8 => rfl
                  case yhx8 => intro w hSw; (try dsimp only at hSw); go_simp; (try with_reducible rfl)
                  simp only [Act.put, List.setIfInBounds_toArray, List.set_cons_zero, List.set_cons_succ]
                  refine wpAnyH_ready (rs := [8]) (by kernel_rfl) (by simp) ?_
                  refine AllReadyH.cons (o := ?ohx9) ?hhx9 (fun K hK => ?shx9) AllReadyH.nil
                  case hhx9 => simp only [List.getElem?_toArray, List.getElem?_cons_zero, List.getElem?_cons_succ]; rfl
                  go_simp
                  refine hK.out _ _ ((Kp.alloc No w7.drew _).cell b1 (fun f => f)) (fun hHeld => ?_)
                  clear hK K
                  try simp only [Act.put, List.setIfInBounds_toArray, List.set_cons_zero, List.set_cons_succ]
                  refine wpAnyH_ready (rs := [9]) (by kernel_rfl) (by simp) ?_
                  refine AllReadyH.cons (o := ?ohx10) ?hhx10 (fun K hK => ?shx10) AllReadyH.nil
                  case hhx10 => simp only [List.getElem?_toArray, List.getElem?_cons_zero, List.getElem?_cons_succ]; rfl
                  have hka : Kp No w7.drew (w7.alloc (.cells #[.slice A' m c'] 22)).drew := Kp.alloc No w7.drew _
                  have hO : OwnT (w7.alloc (.cells #[.slice A' m c'] 22)).drew 0 22 1 (.slice Aa na ca) na (sls pa) := by have h2 := (HA7.out.no ((Kp.refl No w7).drew.trans' hka)).own; rw [HNP.out] at h2; exact h2
                  refine step_appF rfl (.tmp 84) (.tmp 87) rfl rfl hO _ rfl (nws_one (u := .slice A' m c') (by show (w7.alloc (.cells #[.slice A' m c'] 22)).cell? _ = _; rw [World.cell?_alloc_mark]; rfl) rfl) (by omega) ?_
                  intro A9 c9 w9 ho9 k9
                  have K9 := ((Kp.refl No w7).drew.trans' hka).trans' k9
                  have b9 := k9.cell (hka.cell b1 (fun f => f)) (fun f => f)
                  have HO9 := hide ho9
                  have HK9 := hide K9
                  have HKA := hide hka
                  clear ho9 K9 hka hO k9
                  refine hK.out _ _ (b9) (fun hHeld => ?_)
                  clear hK K
                  try simp only [Act.put, List.setIfInBounds_toArray, List.set_cons_zero, List.set_cons_succ]
                  refine wpAnyH_take (i := 10) (v := ?vhx11) (oi := ?ohx11) ?hhx11 (by kernel_rfl) (by kernel_rfl) (by kernel_rfl) (fun _ _ _ h => h) (Or.inl ⟨?whx11, ?yhx11⟩) hHeld ?rhx11
                  case hhx11 => simp only [List.getElem?_toArray, List.getElem?_cons_zero, List.getElem?_cons_succ]; rfl
                  case whx11 => rfl
                  case yhx11 => intro w hSw; (try dsimp only at hSw); go_simp; (try with_reducible rfl)
                  simp only [Act.put, List.setIfInBounds_toArray, List.set_cons_zero, List.set_cons_succ]
                  refine wpAnyH_done (by kernel_rfl) ?_ _
                  refine NoPanic.normal ?_
                  have hbd := HRR7.out.bd
                  have hal := (HA7.out.no HK9.out).more HNP.out HO9.out (fun q f => Nat.lt_of_lt_of_le (hbd q f) HKA.out.size) (BtF.up (F := fun q => W.heap.size ≤ q) (BtF.no (BtF.mk_ HBW.out (fun hne q hq f => by have h2 := (BtF.mk_ (F := No) HBW.out (fun _ _ _ f => f) (fun A n c e => by injection e with _ e1 e2; have := HRM.out; omega)).far hne q hq; omega) (fun A n c e => by injection e with _ e1 e2; have := HRM.out; omega)) (HS7.out.kp.trans' HK9.out)) (fun q _ f => f.elim (fun f => (HF7.out q f).1) (fun f => HS7.out.xW q f)))
                  have HN := hide ((HS7.out.no HK9.out).alls (HD7.out.no HK9.out) (HRR7.out.no HK9.out) (fun q f => ⟨(HF7.out q f).1, Nat.lt_of_lt_of_le (HF7.out q f).2.1 HK9.out.size, (HF7.out q f).2.2⟩) hal)
                  clear hbd hal b1 b9
                  go_wp2_with fail
                  go_meet
                  refine ⟨g, D.put fb, As6, ns6, cs6, Al6, nl6, cl6, A9, na + 1, c9, pa ++ [(.slice A' m c', d.b)], sf, rfl, rfl, rfl, rfl, by rw [rws_snoc]; exact HN.out, ⟨HLP.out.1, HLP.out.2, by rw [List.length_append, HNP.out]; rfl, by have := HB.out.few; omega, fun b hb => ?_⟩⟩
                  rw [rws_snoc] at hb
                  rcases List.mem_append.1 hb with hb | hb
                  · exact HB.out.small b hb
                  · rw [List.mem_singleton] at hb; subst hb; have := HML.out; show d.b.length ≤ 12800; omega
                · have hq1 : ((q : Int) == 0) = false := by simp; omega
                  go_wp2_with fail
                  refine HWR.out.mono ?_
                  intro e w7 hp7
                  rw [HNA.out, ← HFB.out, ← HQ.out, if_neg hq0] at hp7
                  obtain rfl := hp7.1
                  have HS7 := hide (HS6.out.call HRR6.out HA6.out HF6.out hp7.2.1 hp7.2.2).1
                  clear hp7 a1
                  go_wp2_with fail
                  go_meet
                  exact ⟨g, D.put fb, As6, ns6, cs6, Al6, nl6, cl6, Aa, na, ca, pa, sf, rfl, rfl, rfl, rfl, HS7.out, ⟨HLP.out.1, HLP.out.2, HB.out.na_, by have := HB.out.few; omega, HB.out.small⟩⟩
          case rest =>
          as_aux_lemma =>
          obtain ⟨g2, D2, As2, ns2, cs2, Al2, nl2, cl2, Aa2, na2, ca2, pa2, sf2, rfl, rfl, rfl, rfl, hS2, hB2⟩ := hcut
          obtain ⟨F2, hD2, hR2, hA2, hF2⟩ := hS2.ex
          have hna2 : na2 ≤ 656 := by have := hB2.few; omega
          have HNA2 : Hid ((rws pa2).length = na2) := by show _ = _; rw [rws_len]; exact hB2.na_
          have HL2 : Hid (D2.len ≤ 13120) := by show _ ≤ _; have := hB2.len; omega
          have hlen := dlen_any hD2
          rw [HNA2.out] at hlen
          have HLEN := hide hlen
          have HREC : Hid (∀ w', Kp No wc w' → Calls Try.prog 24 #[.pointer (some ⟨g2, 0, none⟩)] w' fun e w1 => ∃ ps A c, e = .returned (.slice A na2 c) ∧ rws ps = rws pa2 ∧ RwO w1 w'.heap.size (.slice A na2 c) ps ∧ Kp No w' w1) := fun w' hk' => by
            have h2 := records_any (hD2.no hk') (by rw [HNA2.out]; omega) (fun b hb => by have := hB2.small b hb; omega)
            unfold RcsPost at h2
            rw [HNA2.out] at h2
            exact h2
          have HD := hide (show ∀ w', Kp No wc w' → TpAt w' F2 tp D2 from fun w' hk => hD2.tape.no hk)
          have HRf := hide (show ∀ w', Kp No wc w' → RtAt w' (fun k => F2 k ∨ Ysa s sa k) D2 (rtV D2 (.slice As2 ns2 cs2) (.slice Al2 nl2 cl2)) from fun w' hk => ⟨_, _, rfl, hR2.no hk⟩)
          have HAR := hide (show ∀ w', Kp No wc w' → Rws w' Aa2 na2 (rws pa2) from fun w' hk => (hA2.no hk).rws)
          obtain ⟨tb, htb⟩ : ∃ t, t = strOf (D2.sf ++ D2.ls) := ⟨_, rfl⟩
          have HTB := hide htb
          have HS2 := hide hS2
          have HB2 := hide hB2
          clear htb hS2 hD2 hR2 hA2 hF2 hlen hB2
          unfold rtV at *
          go_wp2_with fail
          refine HLEN.out.mono ?_
          rintro e w5 ⟨rfl, k5⟩
          have HKD : Hid (Kp No wc w5.drew) := k5.drew
          have HS5 := hide (HS2.out.no k5)
          have y0 : w5.drew.cell? ⟨s, 0, none⟩ = some (.slice As2 ns2 cs2) := HS5.out.bx.c0
          have y1 : w5.drew.cell? ⟨s, 1, none⟩ = some (.slice Al2 nl2 cl2) := HS5.out.bx.c1
          have y2 : w5.drew.cell? ⟨s, 2, none⟩ = some (.int .i64 (D2.most : Int)) := HS5.out.bx.c2
          clear k5
          go_wp2_with fail
          refine wp_region_noPanic ?_
          refine wp_region_held_drew (S := fun w' => w'.cell? ⟨s, 0, none⟩ = some (.slice As2 ns2 cs2) ∧ w'.cell? ⟨s, 1, none⟩ = some (.slice Al2 nl2 cl2) ∧ w'.cell? ⟨s, 2, none⟩ = some (.int .i64 (D2.most : Int))) (by kernel_rfl) (⟨y0, y1, y2⟩) (fun hHeld => ?_)
          refine wpAnyH_take (i := 0) (v := ?vzx1) (oi := ?ozx1) ?hzx1 (by kernel_rfl) (by kernel_rfl) (by kernel_rfl) (fun _ _ _ h => h) (Or.inl ⟨?wzx1, ?yzx1⟩) hHeld ?rzx1
          case hzx1 => simp only [List.getElem?_toArray, List.getElem?_cons_zero, List.getElem?_cons_succ]; rfl
          case wzx1 => rfl
          case yzx1 => intro w hSw; (try dsimp only at hSw); go_simp; (try with_reducible rfl)
          simp only [Act.put, List.setIfInBounds_toArray, List.set_cons_zero, List.set_cons_succ]
          refine wpAnyH_take (i := 1) (v := ?vzx2) (oi := ?ozx2) ?hzx2 (by kernel_rfl) (by kernel_rfl) (by kernel_rfl) (fun _ _ _ h => h) (Or.inl ⟨?wzx2, ?yzx2⟩) hHeld ?rzx2
          case hzx2 => simp only [List.getElem?_toArray, List.getElem?_cons_zero, List.getElem?_cons_succ]; rfl
          case wzx2 => rfl
          case yzx2 => intro w hSw; (try dsimp only at hSw); go_simp; (try with_reducible rfl)
          simp only [Act.put, List.setIfInBounds_toArray, List.set_cons_zero, List.set_cons_succ]
          refine wpAnyH_take (i := 2) (v := ?vzx3) (oi := ?ozx3) ?hzx3 (by kernel_rfl) (by kernel_rfl) (by kernel_rfl) (fun _ _ _ h => h) (Or.inl ⟨?wzx3, ?yzx3⟩) hHeld ?rzx3
          case hzx3 => simp only [List.getElem?_toArray, List.getElem?_cons_zero, List.getElem?_cons_succ]; rfl
          case wzx3 => rfl
          case yzx3 => intro w hSw; (try dsimp only at hSw); go_simp; (try with_reducible rfl)
          simp only [Act.put, List.setIfInBounds_toArray, List.set_cons_zero, List.set_cons_succ]
          refine wpAnyH_take (i := 3) (v := ?vzx4) (oi := ?ozx4) ?hzx4 (by kernel_rfl) (by kernel_rfl) (by kernel_rfl) (fun _ _ _ h => h) (Or.inl ⟨?wzx4, ?yzx4⟩) hHeld ?rzx4
          case hzx4 => simp only [List.getElem?_toArray, List.getElem?_cons_zero, List.getElem?_cons_succ]; rfl
          case wzx4 => rfl
          case yzx4 => intro w hSw; (try dsimp only at hSw); go_simp; (try with_reducible rfl)
          simp only [Act.put, List.setIfInBounds_toArray, List.set_cons_zero, List.set_cons_succ]
          refine wpAnyH_take (i := 4) (v := ?vzx5) (oi := ?ozx5) ?hzx5 (by kernel_rfl) (by kernel_rfl) (by kernel_rfl) (fun _ _ _ h => h) (Or.inl ⟨?wzx5, ?yzx5⟩) hHeld ?rzx5
          case hzx5 => simp only [List.getElem?_toArray, List.getElem?_cons_zero, List.getElem?_cons_succ]; rfl
          case wzx5 => rfl
          case yzx5 => intro w hSw; (try dsimp only at hSw); go_simp; (try with_reducible rfl)
          simp only [Act.put, List.setIfInBounds_toArray, List.set_cons_zero, List.set_cons_succ]
          refine wpAnyH_take (i := 5) (v := ?vzx6) (oi := ?ozx6) ?hzx6 (by kernel_rfl) (by kernel_rfl) (by kernel_rfl) (fun _ _ _ h => h) (Or.inl ⟨?wzx6, ?yzx6⟩) hHeld ?rzx6
          case hzx6 => simp only [List.getElem?_toArray, List.getElem?_cons_zero, List.getElem?_cons_succ]; rfl
          case wzx6 => rfl
          case yzx6 => intro w hSw; (try dsimp only at hSw); go_simp; (try with_reducible rfl)
          simp only [Act.put, List.setIfInBounds_toArray, List.set_cons_zero, List.set_cons_succ]
          refine wpAnyH_take (i := 6) (v := ?vzx7) (oi := ?ozx7) ?hzx7 (by kernel_rfl) (by kernel_rfl) (by kernel_rfl) (fun _ _ _ h => h) (Or.inl ⟨?wzx7, ?yzx7⟩) hHeld ?rzx7
          case hzx7 => simp only [List.getElem?_toArray, List.getElem?_cons_zero, List.getElem?_cons_succ]; rfl
          case wzx7 => rfl
          case yzx7 => intro w hSw; (try dsimp only at hSw); go_simp; (try with_reducible rfl)
          simp only [Act.put, List.setIfInBounds_toArray, List.set_cons_zero, List.set_cons_succ]
          refine wpAnyH_take (i := 7) (v := ?vzx8) (oi := ?ozx8) ?hzx8 (by kernel_rfl) (by kernel_rfl) (by kernel_rfl) (fun _ _ _ h => h) (Or.inl ⟨?wzx8, ?yzx8⟩) hHeld ?rzx8
          case hzx8 => simp only [List.getElem?_toArray, List.getElem?_cons_zero, List.getElem?_cons_succ]; rfl
          case wzx8 => rfl
          case yzx8 => intro w hSw; (try dsimp only at hSw); go_simp; (try with_reducible rfl)
          simp only [Act.put, List.setIfInBounds_toArray, List.set_cons_zero, List.set_cons_succ]
          refine wpAnyH_take (i := 8) (v := ?vzx9) (oi := ?ozx9) ?hzx9 (by kernel_rfl) (by kernel_rfl) (by kernel_rfl) (fun _ _ _ h => h) (Or.inl ⟨?wzx9, ?yzx9⟩) hHeld ?rzx9
          case hzx9 => simp only [List.getElem?_toArray, List.getElem?_cons_zero, List.getElem?_cons_succ]; rfl
          case wzx9 => rfl
          case yzx9 => intro w hSw; (try dsimp only at hSw); go_simp; (try with_reducible rfl)
          simp only [Act.put, List.setIfInBounds_toArray, List.set_cons_zero, List.set_cons_succ]
          refine wpAnyH_take (i := 9) (v := ?vzx10) (oi := ?ozx10) ?hzx10 (by kernel_rfl) (by kernel_rfl) (by kernel_rfl) (fun _ _ _ h => h) (Or.inl ⟨?wzx10, ?yzx10⟩) hHeld ?rzx10
          case hzx10 => simp only [List.getElem?_toArray, List.getElem?_cons_zero, List.getElem?_cons_succ]; rfl
          case wzx10 => rfl
          case yzx10 => intro w hSw; (try dsimp only at hSw); go_simp; (try with_reducible rfl)
          simp only [Act.put, List.setIfInBounds_toArray, List.set_cons_zero, List.set_cons_succ]
          refine wpAnyH_take (i := 10) (v := ?vzx11) (oi := ?ozx11) ?hzx11 (by kernel_rfl) (by kernel_rfl) (by kernel_rfl) (fun _ _ _ h => h) (Or.inl ⟨?wzx11, ?yzx11⟩) hHeld ?rzx11
          case hzx11 => simp only [List.getElem?_toArray, List.getElem?_cons_zero, List.getElem?_cons_succ]; rfl
          case wzx11 => rfl
          case yzx11 => intro w hSw; (try dsimp only at hSw); go_simp; (try with_reducible rfl)
          simp only [Act.put, List.setIfInBounds_toArray, List.set_cons_zero, List.set_cons_succ]
          refine wpAnyH_take (i := 11) (v := ?vzx12) (oi := ?ozx12) ?hzx12 (by kernel_rfl) (by kernel_rfl) (by kernel_rfl) (fun _ _ _ h => h) (Or.inl ⟨?wzx12, ?yzx12⟩) hHeld ?rzx12
          case hzx12 => simp only [List.getElem?_toArray, List.getElem?_cons_zero, List.getElem?_cons_succ]; rfl
          case wzx12 => rfl
          case yzx12 => intro w hSw; (try dsimp only at hSw); go_simp; (try with_reducible rfl)
          simp only [Act.put, List.setIfInBounds_toArray, List.set_cons_zero, List.set_cons_succ]
          refine wpAnyH_take (i := 12) (v := ?vzx13) (oi := ?ozx13) ?hzx13 (by kernel_rfl) (by kernel_rfl) (by kernel_rfl) (fun _ _ _ h => h) (Or.inl ⟨?wzx13, ?yzx13⟩) hHeld ?rzx13
          case hzx13 => simp only [List.getElem?_toArray, List.getElem?_cons_zero, List.getElem?_cons_succ]; rfl
          case wzx13 => rfl
          case yzx13 => intro w hSw; (try dsimp only at hSw); go_simp; (try with_reducible rfl)
          simp only [Act.put, List.setIfInBounds_toArray, List.set_cons_zero, List.set_cons_succ]
          refine wpAnyH_take (i := 13) (v := ?vzx14) (oi := ?ozx14) ?hzx14 (by kernel_rfl) (by kernel_rfl) (by kernel_rfl) (fun _ _ _ h => h) (Or.inl ⟨?wzx14, ?yzx14⟩) hHeld ?rzx14
          case hzx14 => simp only [List.getElem?_toArray, List.getElem?_cons_zero, List.getElem?_cons_succ]; rfl
          case wzx14 => rfl
          case yzx14 => intro w hSw; (try dsimp only at hSw); go_simp; (try with_reducible rfl)
          simp only [Act.put, List.setIfInBounds_toArray, List.set_cons_zero, List.set_cons_succ]
          refine wpAnyH_take (i := 14) (v := ?vzx15) (oi := ?ozx15) ?hzx15 (by kernel_rfl) (by kernel_rfl) (by kernel_rfl) (fun _ _ _ h => h) (Or.inl ⟨?wzx15, ?yzx15⟩) hHeld ?rzx15
          case hzx15 => simp only [List.getElem?_toArray, List.getElem?_cons_zero, List.getElem?_cons_succ]; rfl
          case wzx15 => rfl
          case yzx15 => intro w hSw; (try dsimp only at hSw); go_simp; (try with_reducible rfl)
          simp only [Act.put, List.setIfInBounds_toArray, List.set_cons_zero, List.set_cons_succ]
          refine wpAnyH_take (i := 16) (v := ?vzx16) (oi := ?ozx16) ?hzx16 (by kernel_rfl) (by kernel_rfl) (by kernel_rfl) (fun _ _ _ h => h) (Or.inl ⟨?wzx16, ?yzx16⟩) hHeld ?rzx16
          case hzx16 => simp only [List.getElem?_toArray, List.getElem?_cons_zero, List.getElem?_cons_succ]; rfl
          case wzx16 => rfl
          case yzx16 => intro w hSw; (try dsimp only at hSw); go_simp; (try with_reducible rfl)
          simp only [Act.put, List.setIfInBounds_toArray, List.set_cons_zero, List.set_cons_succ]
          refine wpAnyH_ready (rs := [15]) (by kernel_rfl) (by simp) ?_
          refine AllReadyH.cons (o := ?ozx17) ?hzx17 (fun K hK => ?szx17) AllReadyH.nil
          case hzx17 => simp only [List.getElem?_toArray, List.getElem?_cons_zero, List.getElem?_cons_succ]; rfl
          go_simp
          refine (HREC.out _ HKD.out).mono ?_
          rintro e w6 ⟨qs, A6, c6, rfl, hq6, hR6, k6⟩
          have K6 := HKD.out.trans' k6
          have t0 := k6.cell y0 (fun f => f)
          have t1 := k6.cell y1 (fun f => f)
          have t2 := k6.cell y2 (fun f => f)
          go_wp2_with fail
          refine hK.out _ _ (⟨t0, t1, t2⟩) (fun hHeld => ?_)
          clear hK K
          try simp only [Act.put, List.setIfInBounds_toArray, List.set_cons_zero, List.set_cons_succ]
          refine wpAnyH_ready (rs := [17]) (by kernel_rfl) (by simp) ?_
          refine AllReadyH.cons (o := ?ozx18) ?hzx18 (fun K hK => ?szx18) AllReadyH.nil
          case hzx18 => simp only [List.getElem?_toArray, List.getElem?_cons_zero, List.getElem?_cons_succ]; rfl
          go_simp
          refine (same14_any hR6.rws (HAR.out _ K6) (by omega) hq6).mono ?_
          rintro e w7 ⟨rfl, k7⟩
          have K7 := K6.trans' k7
          have r0 := k7.cell t0 (fun f => f)
          have r1 := k7.cell t1 (fun f => f)
          have r2 := k7.cell t2 (fun f => f)
          go_wp2_with fail
          refine hK.out _ _ (⟨r0, r1, r2⟩) (fun hHeld => ?_)
          clear hK K
          try simp only [Act.put, List.setIfInBounds_toArray, List.set_cons_zero, List.set_cons_succ]
          refine wpAnyH_take (i := 18) (v := ?vzx19) (oi := ?ozx19) ?hzx19 (by kernel_rfl) (by kernel_rfl) (by kernel_rfl) (fun _ _ _ h => h) (Or.inl ⟨?wzx19, ?yzx19⟩) hHeld ?rzx19
          case hzx19 => simp only [List.getElem?_toArray, List.getElem?_cons_zero, List.getElem?_cons_succ]; rfl
          case wzx19 => rfl
          case yzx19 => intro w hSw; (try dsimp only at hSw); go_simp; (try with_reducible rfl)
          simp only [Act.put, List.setIfInBounds_toArray, List.set_cons_zero, List.set_cons_succ]
          refine wpAnyH_take (i := 19) (v := ?vzx20) (oi := ?ozx20) ?hzx20 (by kernel_rfl) (by kernel_rfl) (by kernel_rfl) (fun _ _ _ h => h) (Or.inl ⟨?wzx20, ?yzx20⟩) hHeld ?rzx20
          case hzx20 => simp only [List.getElem?_toArray, List.getElem?_cons_zero, List.getElem?_cons_succ]; rfl
          case wzx20 => rfl
          case yzx20 => intro w hSw; (try dsimp only at hSw); go_simp; (try with_reducible rfl)
          simp only [Act.put, List.setIfInBounds_toArray, List.set_cons_zero, List.set_cons_succ]
          refine wpAnyH_take (i := 20) (v := ?vzx21) (oi := ?ozx21) ?hzx21 (by kernel_rfl) (by kernel_rfl) (by kernel_rfl) (fun _ _ _ h => h) (Or.inl ⟨?wzx21, ?yzx21⟩) hHeld ?rzx21
          case hzx21 => simp only [List.getElem?_toArray, List.getElem?_cons_zero, List.getElem?_cons_succ]; rfl
          case wzx21 => rfl
          case yzx21 => intro w hSw; (try dsimp only at hSw); go_simp; (try with_reducible rfl)
          simp only [Act.put, List.setIfInBounds_toArray, List.set_cons_zero, List.set_cons_succ]
          refine wpAnyH_take (i := 21) (v := ?vzx22) (oi := ?ozx22) ?hzx22 (by kernel_rfl) (by kernel_rfl) (by kernel_rfl) (fun _ _ _ h => h) (Or.inl ⟨?wzx22, ?yzx22⟩) hHeld ?rzx22
          case hzx22 => simp only [List.getElem?_toArray, List.getElem?_cons_zero, List.getElem?_cons_succ]; rfl
          case wzx22 => rfl
          case yzx22 => intro w hSw; (try dsimp only at hSw); go_simp; (try with_reducible rfl)
          simp only [Act.put, List.setIfInBounds_toArray, List.set_cons_zero, List.set_cons_succ]
          refine wpAnyH_take (i := 24) (v := ?vzx23) (oi := ?ozx23) ?hzx23 (by kernel_rfl) (by kernel_rfl) (by kernel_rfl) (fun _ _ _ h => h) (Or.inl ⟨?wzx23, ?yzx23⟩) hHeld ?rzx23
          case hzx23 => simp only [List.getElem?_toArray, List.getElem?_cons_zero, List.getElem?_cons_succ]; rfl
          case wzx23 => rfl
          case yzx23 => intro w hSw; (try dsimp only at hSw); go_simp; (try with_reducible rfl)
          simp only [Act.put, List.setIfInBounds_toArray, List.set_cons_zero, List.set_cons_succ]
          refine wpAnyH_ready (rs := [22]) (by kernel_rfl) (by simp) ?_
          refine AllReadyH.cons (o := ?ozx24) ?hzx24 (fun K hK => ?szx24) AllReadyH.nil
          case hzx24 => simp only [List.getElem?_toArray, List.getElem?_cons_zero, List.getElem?_cons_succ]; rfl
          go_simp
          refine (tread_any (HD.out _ K7) (by have := HL2.out; omega)).mono ?_
          rintro e w8 ⟨A8, n8, c8, rfl, o8, k8⟩
          have K8 := K7.trans' k8
          have v8 := conv_bts o8.bts
          rw [← HTB.out] at v8
          have q0 := k8.cell r0 (fun f => f)
          have q1 := k8.cell r1 (fun f => f)
          have q2 := k8.cell r2 (fun f => f)
          go_wp2_with fail
          refine hK.out _ _ (⟨q0, q1, q2⟩) (fun hHeld => ?_)
          clear hK K
          try simp only [Act.put, List.setIfInBounds_toArray, List.set_cons_zero, List.set_cons_succ]
          refine wpAnyH_ready (rs := [23, 25]) (by kernel_rfl) (by simp) ?_
          refine (AllReadyH.cons (o := ?ozx26) ?hzx26 (fun K hK => ?szx26) (AllReadyH.cons (o := ?ozx27) ?hzx27 (fun K hK => ?szx27) AllReadyH.nil))
          case hzx26 => simp only [List.getElem?_toArray, List.getElem?_cons_zero, List.getElem?_cons_succ]; rfl
          case hzx27 => simp only [List.getElem?_toArray, List.getElem?_cons_zero, List.getElem?_cons_succ]; rfl
          case szx26 =>
            go_simp
            refine hK.out _ _ (⟨q0, q1, q2⟩) (fun hHeld => ?_)
            clear hK K
            try simp only [Act.put, List.setIfInBounds_toArray, List.set_cons_zero, List.set_cons_succ]
            refine wpAnyH_ready (rs := [25]) (by kernel_rfl) (by simp) ?_
            refine AllReadyH.cons (o := ?ozx28) ?hzx28 (fun K hK => ?szx28) AllReadyH.nil
            case hzx28 => simp only [List.getElem?_toArray, List.getElem?_cons_zero, List.getElem?_cons_succ]; rfl
            go_simp
            refine (rall_any (HRf.out _ K8) (by have := HL2.out; omega)).mono ?_
            rintro e w9 ⟨A9, n9, c9, rfl, o9, k9⟩
            have K9 := K8.trans' k9
            have v9 := conv_bts o9.bts
            rw [← HTB.out] at v9
            have o0 := k9.cell q0 (fun f => f)
            have o1 := k9.cell q1 (fun f => f)
            have o2 := k9.cell q2 (fun f => f)
            go_wp2_with fail
            refine hK.out _ _ (⟨o0, o1, o2⟩) (fun hHeld => ?_)
            clear hK K
            try simp only [Act.put, List.setIfInBounds_toArray, List.set_cons_zero, List.set_cons_succ]
            refine wpAnyH_ready (rs := [26]) (by kernel_rfl) (by simp) ?_
            refine AllReadyH.cons (o := ?ozx29) ?hzx29 (fun K hK => ?szx29) AllReadyH.nil
            case hzx29 => simp only [List.getElem?_toArray, List.getElem?_cons_zero, List.getElem?_cons_succ]; rfl
            go_simp
            refine hK.out _ _ (⟨o0, o1, o2⟩) (fun hHeld => ?_)
            clear hK K
            try simp only [Act.put, List.setIfInBounds_toArray, List.set_cons_zero, List.set_cons_succ]
            refine wpAnyH_take (i := 27) (v := ?vzx30) (oi := ?ozx30) ?hzx30 (by kernel_rfl) (by kernel_rfl) (by kernel_rfl) (fun _ _ _ h => h) (Or.inl ⟨?wzx30, ?yzx30⟩) hHeld ?rzx30
            case hzx30 => simp only [List.getElem?_toArray, List.getElem?_cons_zero, List.getElem?_cons_succ]; rfl
            case wzx30 => rfl
            case yzx30 => intro w hSw; (try dsimp only at hSw); go_simp; (try with_reducible rfl)
            simp only [Act.put, List.setIfInBounds_toArray, List.set_cons_zero, List.set_cons_succ]
            refine wpAnyH_take (i := 28) (v := ?vzx31) (oi := ?ozx31) ?hzx31 (by kernel_rfl) (by kernel_rfl) (by kernel_rfl) (fun _ _ _ h => h) (Or.inl ⟨?wzx31, ?yzx31⟩) hHeld ?rzx31
            case hzx31 => simp only [List.getElem?_toArray, List.getElem?_cons_zero, List.getElem?_cons_succ]; rfl
            case wzx31 => rfl
            case yzx31 => intro w hSw; (try dsimp only at hSw); go_simp; (try with_reducible rfl)
            simp only [Act.put, List.setIfInBounds_toArray, List.set_cons_zero, List.set_cons_succ]
            refine wpAnyH_done (by kernel_rfl) ?_ _
            refine NoPanic.normal ?_
            have HN : Hid (PyI W (Ys s) tp s (k + 1) (.pointer (some ⟨g2, 0, none⟩)) (.int .i64 0) (.slice Aa2 na2 ca2) (.int .i64 (sf2 : Int)) w9) := ⟨g2, D2, As2, ns2, cs2, Al2, nl2, cl2, Aa2, na2, ca2, pa2, sf2, rfl, rfl, rfl, rfl, (HS2.out.no K9).less, HB2.out⟩
            clear y0 y1 y2 t0 t1 t2 r0 r1 r2 q0 q1 q2 o0 o1 o2 k6 k7 k8 k9
            go_wp2_with fail
            go_round
            case rel => exact ⟨k + 1, by omega, by omega, by go_num, HN.out⟩
            case measure => simp [intOf]; omega
          case szx27 =>
            go_simp
            refine (rall_any (HRf.out _ K8) (by have := HL2.out; omega)).mono ?_
            rintro e w9 ⟨A9, n9, c9, rfl, o9, k9⟩
            have K9 := K8.trans' k9
            have v9 := conv_bts o9.bts
            rw [← HTB.out] at v9
            have o0 := k9.cell q0 (fun f => f)
            have o1 := k9.cell q1 (fun f => f)
            have o2 := k9.cell q2 (fun f => f)
            have v8 := conv_bts (o8.no k9).bts
            rw [← HTB.out] at v8
            go_wp2_with fail
            refine hK.out _ _ (⟨o0, o1, o2⟩) (fun hHeld => ?_)
            clear hK K
            try simp only [Act.put, List.setIfInBounds_toArray, List.set_cons_zero, List.set_cons_succ]
            refine wpAnyH_ready (rs := [23, 26]) (by kernel_rfl) (by simp) ?_
            refine (AllReadyH.cons (o := ?ozx34) ?hzx34 (fun K hK => ?szx34) (AllReadyH.cons (o := ?ozx35) ?hzx35 (fun K hK => ?szx35) AllReadyH.nil))
            case hzx34 => simp only [List.getElem?_toArray, List.getElem?_cons_zero, List.getElem?_cons_succ]; rfl
            case hzx35 => simp only [List.getElem?_toArray, List.getElem?_cons_zero, List.getElem?_cons_succ]; rfl
            case szx34 =>
              go_simp
              refine hK.out _ _ (⟨o0, o1, o2⟩) (fun hHeld => ?_)
              clear hK K
              try simp only [Act.put, List.setIfInBounds_toArray, List.set_cons_zero, List.set_cons_succ]
              refine wpAnyH_ready (rs := [26]) (by kernel_rfl) (by simp) ?_
              refine AllReadyH.cons (o := ?ozx36) ?hzx36 (fun K hK => ?szx36) AllReadyH.nil
              case hzx36 => simp only [List.getElem?_toArray, List.getElem?_cons_zero, List.getElem?_cons_succ]; rfl
              go_simp
              refine hK.out _ _ (⟨o0, o1, o2⟩) (fun hHeld => ?_)
              clear hK K
              try simp only [Act.put, List.setIfInBounds_toArray, List.set_cons_zero, List.set_cons_succ]
              refine wpAnyH_take (i := 27) (v := ?vzx37) (oi := ?ozx37) ?hzx37 (by kernel_rfl) (by kernel_rfl) (by kernel_rfl) (fun _ _ _ h => h) (Or.inl ⟨?wzx37, ?yzx37⟩) hHeld ?rzx37
              case hzx37 => simp only [List.getElem?_toArray, List.getElem?_cons_zero, List.getElem?_cons_succ]; rfl
              case wzx37 => rfl
              case yzx37 => intro w hSw; (try dsimp only at hSw); go_simp; (try with_reducible rfl)
              simp only [Act.put, List.setIfInBounds_toArray, List.set_cons_zero, List.set_cons_succ]
              refine wpAnyH_take (i := 28) (v := ?vzx38) (oi := ?ozx38) ?hzx38 (by kernel_rfl) (by kernel_rfl) (by kernel_rfl) (fun _ _ _ h => h) (Or.inl ⟨?wzx38, ?yzx38⟩) hHeld ?rzx38
              case hzx38 => simp only [List.getElem?_toArray, List.getElem?_cons_zero, List.getElem?_cons_succ]; rfl
              case wzx38 => rfl
              case yzx38 => intro w hSw; (try dsimp only at hSw); go_simp; (try with_reducible rfl)
              simp only [Act.put, List.setIfInBounds_toArray, List.set_cons_zero, List.set_cons_succ]
              refine wpAnyH_done (by kernel_rfl) ?_ _
              refine NoPanic.normal ?_
              have HN : Hid (PyI W (Ys s) tp s (k + 1) (.pointer (some ⟨g2, 0, none⟩)) (.int .i64 0) (.slice Aa2 na2 ca2) (.int .i64 (sf2 : Int)) w9) := ⟨g2, D2, As2, ns2, cs2, Al2, nl2, cl2, Aa2, na2, ca2, pa2, sf2, rfl, rfl, rfl, rfl, (HS2.out.no K9).less, HB2.out⟩
              clear y0 y1 y2 t0 t1 t2 r0 r1 r2 q0 q1 q2 o0 o1 o2 k6 k7 k8 k9
              go_wp2_with fail
              go_round
              case rel => exact ⟨k + 1, by omega, by omega, by go_num, HN.out⟩
              case measure => simp [intOf]; omega
            case szx35 =>
              go_simp
              refine hK.out _ _ (⟨o0, o1, o2⟩) (fun hHeld => ?_)
              clear hK K
              try simp only [Act.put, List.setIfInBounds_toArray, List.set_cons_zero, List.set_cons_succ]
              refine wpAnyH_ready (rs := [23]) (by kernel_rfl) (by simp) ?_
              refine AllReadyH.cons (o := ?ozx40) ?hzx40 (fun K hK => ?szx40) AllReadyH.nil
              case hzx40 => simp only [List.getElem?_toArray, List.getElem?_cons_zero, List.getElem?_cons_succ]; rfl
              go_simp
              refine hK.out _ _ (⟨o0, o1, o2⟩) (fun hHeld => ?_)
              clear hK K
              try simp only [Act.put, List.setIfInBounds_toArray, List.set_cons_zero, List.set_cons_succ]
              refine wpAnyH_take (i := 27) (v := ?vzx41) (oi := ?ozx41) ?hzx41 (by kernel_rfl) (by kernel_rfl) (by kernel_rfl) (fun _ _ _ h => h) (Or.inl ⟨?wzx41, ?yzx41⟩) hHeld ?rzx41
              case hzx41 => simp only [List.getElem?_toArray, List.getElem?_cons_zero, List.getElem?_cons_succ]; rfl
              case wzx41 => rfl
              case yzx41 => intro w hSw; (try dsimp only at hSw); go_simp; (try with_reducible rfl)
              simp only [Act.put, List.setIfInBounds_toArray, List.set_cons_zero, List.set_cons_succ]
              refine wpAnyH_take (i := 28) (v := ?vzx42) (oi := ?ozx42) ?hzx42 (by kernel_rfl) (by kernel_rfl) (by kernel_rfl) (fun _ _ _ h => h) (Or.inl ⟨?wzx42, ?yzx42⟩) hHeld ?rzx42
              case hzx42 => simp only [List.getElem?_toArray, List.getElem?_cons_zero, List.getElem?_cons_succ]; rfl
              case wzx42 => rfl
              case yzx42 => intro w hSw; (try dsimp only at hSw); go_simp; (try with_reducible rfl)
              simp only [Act.put, List.setIfInBounds_toArray, List.set_cons_zero, List.set_cons_succ]
              refine wpAnyH_done (by kernel_rfl) ?_ _
              refine NoPanic.normal ?_
              have HN : Hid (PyI W (Ys s) tp s (k + 1) (.pointer (some ⟨g2, 0, none⟩)) (.int .i64 0) (.slice Aa2 na2 ca2) (.int .i64 (sf2 : Int)) w9) := ⟨g2, D2, As2, ns2, cs2, Al2, nl2, cl2, Aa2, na2, ca2, pa2, sf2, rfl, rfl, rfl, rfl, (HS2.out.no K9).less, HB2.out⟩
              clear y0 y1 y2 t0 t1 t2 r0 r1 r2 q0 q1 q2 o0 o1 o2 k6 k7 k8 k9
              go_wp2_with fail
              go_round
              case rel => exact ⟨k + 1, by omega, by omega, by go_num, HN.out⟩
              case measure => simp [intOf]; omega
      · as_aux_lemma =>
          obtain ⟨g, D, As, ns, cs, Al, nl, cl, Aa, na, ca, pa, sf, rfl, rfl, rfl, rfl, hS, hB⟩ := hI
          obtain ⟨F, hD, hR, hA, hF⟩ := hS.ex
          have HNA : Hid ((rws pa).length = na) := by show _ = _; rw [rws_len]; exact hB.na_
          have hna : na ≤ 640 := by have := hB.few; omega
          have HD := hide hD
          have HKF := hide hS.kp
          clear hS hB hD hR hA hF
          go_wp2_with fail
          refine (dget_no HD.out (z := (na : Int) + 1) (.inr (by rw [HNA.out]; omega))).mono ?_
          rintro e w7 ⟨rfl, k7⟩
          go_wp2_with fail
          refine (dget_no (HD.out.no k7) (z := 0) (.inl (by omega))).mono ?_
          rintro e w8 ⟨rfl, k8⟩
          go_wp2_with fail
          refine (awake14_any _).mono ?_
          rintro e w9 ⟨rfl, k9⟩
          go_wp2_with fail
          go_ret
          exact ⟨rfl, ((HKF.out.trans' k7).trans' k8).trans' k9⟩
    · as_aux_lemma =>
        obtain ⟨g, D, As, ns, cs, Al, nl, cl, Aa, na, ca, pa, sf, rfl, rfl, rfl, rfl, hS, hB⟩ := hI
        obtain ⟨F, hD, hR, hA, hF⟩ := hS.ex
        have HNA : Hid ((rws pa).length = na) := by show _ = _; rw [rws_len]; exact hB.na_
        have hna : na ≤ 640 := by have := hB.few; omega
        have HD := hide hD
        have HKF := hide hS.kp
        clear hS hB hD hR hA hF
        go_wp2_with fail
        refine (dget_no HD.out (z := (na : Int) + 1) (.inr (by rw [HNA.out]; omega))).mono ?_
        rintro e w7 ⟨rfl, k7⟩
        go_wp2_with fail
        refine (dget_no (HD.out.no k7) (z := 0) (.inl (by omega))).mono ?_
        rintro e w8 ⟨rfl, k8⟩
        go_wp2_with fail
        refine (awake14_any _).mono ?_
        rintro e w9 ⟨rfl, k9⟩
        go_wp2_with fail
        go_ret
        exact ⟨rfl, ((HKF.out.trans' k7).trans' k8).trans' k9⟩
theorem diaryplays_walk (W : World) (z : Int) (hz : (Lit.int .i64 z).wf = true) {A0 : Option Addr} {n0 c0 : Nat} {ds : List ActY} (h0 : ActsY W A0 n0 ds) :
    Calls Try.prog 4 #[.int .i64 z, .slice A0 n0 c0] W fun e W' => e = .returned (.bool true) ∧ Below W.heap.size W W' := by
  have h1 := bounds_i64 hz
  exact (diaryplays_any W z (by omega) h0).mono fun e W' p => ⟨p.1, p.2.below0⟩
end Go.Proofs.Ytikegnhjnbjclaa
