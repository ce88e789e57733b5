/- Law 19's same: a queue and the document's jobs, as a contract. No condition. -/
import Derived.Test.YtjbnbbblafmldaaUbay
namespace Go.Proofs.Ytjbnbbblafmldaa
open Go.RowKit
set_option linter.unusedVariables false
set_option linter.unusedSimpArgs false
set_option maxRecDepth 20000

theorem ukept9 {w w1 : World} (hk : Kp No w w1) {p0 p1 p2 p3 p4 p5 p6 p7 p8 : Addr} {v0 v1 v2 v3 v4 v5 v6 v7 v8 : Value} (h : w.cell? p0 = some v0 ∧ w.cell? p1 = some v1 ∧ w.cell? p2 = some v2 ∧ w.cell? p3 = some v3 ∧ w.cell? p4 = some v4 ∧ w.cell? p5 = some v5 ∧ w.cell? p6 = some v6 ∧ w.cell? p7 = some v7 ∧ w.cell? p8 = some v8) :
    w1.cell? p0 = some v0 ∧ w1.cell? p1 = some v1 ∧ w1.cell? p2 = some v2 ∧ w1.cell? p3 = some v3 ∧ w1.cell? p4 = some v4 ∧ w1.cell? p5 = some v5 ∧ w1.cell? p6 = some v6 ∧ w1.cell? p7 = some v7 ∧ w1.cell? p8 = some v8 := by
  obtain ⟨h0, h1, h2, h3, h4, h5, h6, h7, h8⟩ := h
  exact ⟨hk.cell h0 (fun f => f), hk.cell h1 (fun f => f), hk.cell h2 (fun f => f), hk.cell h3 (fun f => f), hk.cell h4 (fun f => f), hk.cell h5 (fun f => f), hk.cell h6 (fun f => f), hk.cell h7 (fun f => f), hk.cell h8 (fun f => f)⟩
theorem rGet_mem {r : List Nat} {x : Nat} (hx : x ∈ r) (hk : ∀ x ∈ r, ∀ y ∈ r, ky x = ky y → x = y) : rGet r (ky x) = some x := by
  have hh : rHas r (ky x) = true := rHas_iff.2 ⟨x, hx, rfl⟩
  unfold rGet
  rw [if_pos hh]
  have := rJob_get hh
  rw [hk (rJob r (ky x)) (List.mem_of_getElem? this.1) x hx this.2]
theorem ufld_key (a b : Nat) (c : Int) (w : World) : (Instr.field 36 (.agg #[.int .u32 (a : Int), .int .u16 (b : Int), .int .i64 c]) 0).run Try.prog w = .ok (.agg #[.int .u32 (a : Int), .int .u16 (b : Int)]) w := by kernel_rfl
set_option maxHeartbeats 4000000 in
theorem same19_any {w : World} {F : Nat → Prop} {g n c : Nat} {A : Option Addr} {r : List Nat} (h : QuAt w F g r) (hr : RdJ w A n r) (hl : r.length ≤ 900000) :
    Calls Try.prog 14 #[.pointer (some ⟨g, 0, none⟩), .slice A n c] w (TruePost w) := by
  have H := hide h
  have HR := hide hr
  have HL := hide hl
  have HLT := hide h.lts
  have HKY := hide h.keys
  have hnr := hr.len
  have HN := hide hnr
  have hnb : n ≤ 900000 := by rw [hnr]; exact hl
  have HA := hide (uall_any h hl)
  clear h hr hl hnr
  go_enter Try.func14, Try.ntmps14
  go_wp2_with fail
  refine HA.out.mono ?_
  rintro e w1 ⟨Aa, na, ca, rfl, ho, k1⟩
  have hna : na = n := by rw [OwnT.len ho, HN.out]
  subst hna
  have HO := hide ho
  have HK1 := hide k1
  have HQ1 := hide (H.out.no k1)
  have HR1 := hide (HR.out.no k1)
  have HLE := hide (ulen_any HQ1.out)
  rw [← HN.out] at HLE
  clear ho k1 HA H HR
  go_wp2_with fail
  refine HLE.out.mono ?_
  rintro e w2 ⟨rfl, rfl⟩
  clear HLE
  go_wp2_with fail
  go_loopw [6] (fun u wr => ∃ i : Nat, i ≤ na ∧ u = .int .i64 (i : Int) ∧ Kp No w1 wr) (fun u _ => na - (intOf u).toNat)
  case atStart => exact ⟨0, Nat.zero_le _, rfl, Kp.refl No w1⟩
  case round =>
    obtain ⟨i, hi, rfl, hk⟩ := hrel
    have HKR := hide hk
    clear hk
    by_cases hin : i < na
    · obtain ⟨x, hx⟩ : ∃ x, r[i]? = some x := ⟨_, List.getElem?_eq_getElem (by rw [← HN.out]; exact hin)⟩
      obtain ⟨B, off, rfl, y0, y1, y2⟩ := (HR1.out.no HKR.out).at_ i x hx
      have HX := hide hx
      have hxr : x ∈ r := List.mem_of_getElem? hx
      have HXN : Hid (x < NJ) := HLT.out x hxr
      have HT := hide (fun w' => jto_any w' x)
      have HG := hide (fun w' (hk : Kp No wr w') => (uget_any ((HQ1.out.no HKR.out).no hk) (ky_lt x) HL.out))
      rw [rGet_mem hxr HKY.out] at HG
      have HGC : Hid (∀ w', Kp No wr w' → Calls Try.prog 15 #[.pointer (some ⟨g, 0, none⟩), .agg #[.int .u32 (jO x : Int), .int .u16 (jS x : Int)]] w' (UjPost w' (some x))) := HG.out
      obtain ⟨gl, rfl, -⟩ := OwnT.some_ HO.out (by have := HN.out; omega)
      have hfl := ufld_key (jO x) (jS x) (jG x)
      have hz : (i : Int) < na := by omega
      clear hx hxr HG
      go_wp2_with fail
      refine (HT.out _).mono ?_
      rintro e w3 ⟨rfl, k3⟩
      have HK3 := hide (HKR.out.trans' k3)
      have HC3 := hide (HGC.out _ k3)
      clear k3 y0 y1 y2 HGC
      go_wp2_with (simp only [hfl])
      refine HC3.out.mono ?_
      rintro e w4 ⟨rfl, k4⟩
      have HK4 := hide (HK3.out.trans' k4)
      clear k4 HC3 HK3 hfl
      go_upto_region 8 with (fail)
      have HB5 : Hid (BxJ (w4.alloc (.cells #[.int .u32 (jO x : Int), .int .u16 (jS x : Int), .int .i64 (jG x)] 36)) w4.heap.size x) := Bx3.new w4 _ _ _ _
      have HK5 := hide (HK4.out.al (.cells #[.int .u32 (jO x : Int), .int .u16 (jS x : Int), .int .i64 (jG x)] 36))
      generalize w4.alloc (.cells #[.int .u32 (jO x : Int), .int .u16 (jS x : Int), .int .i64 (jG x)] 36) = w5 at HB5 HK5 ⊢
      generalize w4.heap.size = s5 at HB5 ⊢
      obtain ⟨B', off', hA, y0, y1, y2⟩ := (HR1.out.no HK5.out).at_ i x HX.out
      injection hA with hA
      injection hA with hA1 hA2
      subst hA1 hA2
      obtain ⟨a0, a1, a2⟩ := JbR.cells (OwnT.no HO.out HK5.out) HX.out
      obtain ⟨b0, b1, b2⟩ := HB5.out.cell
      have he := fun w' => uj_equal w' HXN.out HXN.out
      have hg := uj_guard
      rw [show (x == x) = true by simp] at he
      unfold jbV at he
      clear HK4
      go_region_held3 (fun w' => w'.cell? ⟨B, off + i * 3, none⟩ = some (.int .u32 (jO x : Int)) ∧ w'.cell? ⟨B, off + i * 3 + 1, none⟩ = some (.int .u16 (jS x : Int)) ∧ w'.cell? ⟨B, off + i * 3 + 2, none⟩ = some (.int .i64 (jG x)) ∧
          w'.cell? ⟨gl, i * 3, none⟩ = some (.int .u32 (jO x : Int)) ∧ w'.cell? ⟨gl, i * 3 + 1, none⟩ = some (.int .u16 (jS x : Int)) ∧ w'.cell? ⟨gl, i * 3 + 2, none⟩ = some (.int .i64 (jG x)) ∧
          w'.cell? ⟨s5, 0, none⟩ = some (.int .u32 (jO x : Int)) ∧ w'.cell? ⟨s5, 1, none⟩ = some (.int .u16 (jS x : Int)) ∧ w'.cell? ⟨s5, 2, none⟩ = some (.int .i64 (jG x))) (first | assumption | go_keep)
        (first
          | (go_at_call 8; ((with_reducible refine (HT.out _).mono ?_); rintro e w6 ⟨rfl, k6⟩); have s1 := ukept9 k6 (by assumption)))
      have HK6 := hide ((HK5.out.drew).trans' k6)
      clear y0 y1 y2 a0 a1 a2 b0 b1 b2 k6 he hg
      go_wp2_with fail
      go_round
      case rel => exact ⟨i + 1, by omega, by go_num, HK6.out⟩
      case measure => simp [intOf]; omega
    · have hz : ¬ (i : Int) < na := by omega
      have HQ2 := hide (HQ1.out.no HKR.out)
      have HKW := hide (HK1.out.trans' HKR.out)
      have HF := hide (ufirst_any HQ2.out HL.out)
      rcases r with _ | ⟨x, t⟩
      · have hn0 : na = 0 := by have := HN.out; simpa using this
        subst hn0
        have HFZ : Hid (Calls Try.prog 16 #[.pointer (some ⟨g, 0, none⟩)] wr fun e w1 => e = .returned (.tuple #[.agg #[.int .u32 0, .int .u16 0, .int .i64 0], .bool false]) ∧ Kp No wr w1) := by
          have := HF.out
          refine this.mono fun e w1 hp => ⟨?_, hp.2⟩
          rw [hp.1, ← zJ_val]
          rfl
        have he := fun w' => uj_equal w' zJ_lt zJ_lt
        have hg := uj_guard
        rw [show (zJ == zJ) = true by simp, zJ_val] at he
        clear HF
        go_wp2_with fail
        refine HFZ.out.mono ?_
        rintro e w3 ⟨rfl, k3⟩
        have HK3 := hide (HKW.out.trans' k3)
        obtain ⟨b0, b1, b2⟩ := (Bx3.new w3 36 (.int .u32 0) (.int .u16 0) (.int .i64 0)).cell
        clear k3 HFZ
        go_wp2_with fail
        go_ret
        exact ⟨rfl, HK3.out.trans' (Kp.alloc No _ _)⟩
      · have HXN : Hid (x < NJ) := HLT.out x (by simp)
        have HT := hide (fun w' => jto_any w' x)
        have HFX : Hid (Calls Try.prog 16 #[.pointer (some ⟨g, 0, none⟩)] wr (UjPost wr (some x))) := HF.out
        have hn0 : ((na : Int) == 0) = false := by have := HN.out; simp at this; simp; omega
        have hnp : 0 < na := by have := HN.out; simp at this; omega
        have hkr := HKR.out
        clear HF
        go_wp2_with fail
        refine HFX.out.mono ?_
        rintro e w3 ⟨rfl, k3⟩
        have HK3 := hide (HKW.out.trans' k3)
        have HRD := hide ((HR1.out.no hkr).no k3)
        clear k3 HFX hkr HKW HQ2
        go_upto_region 13 with (fail)
        have HB5 : Hid (BxJ (w3.alloc (.cells #[.int .u32 (jO x : Int), .int .u16 (jS x : Int), .int .i64 (jG x)] 36)) w3.heap.size x) := Bx3.new w3 _ _ _ _
        have HK5 := hide (HK3.out.al (.cells #[.int .u32 (jO x : Int), .int .u16 (jS x : Int), .int .i64 (jG x)] 36))
        have HRE := hide (HRD.out.no (Kp.alloc No w3 (.cells #[.int .u32 (jO x : Int), .int .u16 (jS x : Int), .int .i64 (jG x)] 36)))
        clear HRD
        generalize w3.alloc (.cells #[.int .u32 (jO x : Int), .int .u16 (jS x : Int), .int .i64 (jG x)] 36) = w5 at HB5 HK5 HRE ⊢
        generalize w3.heap.size = s5 at HB5 ⊢
        obtain ⟨B', off', rfl, y0, y1, y2⟩ := HRE.out.at_ 0 x rfl
        rw [Nat.zero_mul, Nat.add_zero] at y0 y1 y2
        obtain ⟨b0, b1, b2⟩ := HB5.out.cell
        have he := fun w' => uj_equal w' HXN.out HXN.out
        have hg := uj_guard
        rw [show (x == x) = true by simp] at he
        unfold jbV at he
        go_region_held3 (fun w' => w'.cell? ⟨B', off', none⟩ = some (.int .u32 (jO x : Int)) ∧ w'.cell? ⟨B', off' + 1, none⟩ = some (.int .u16 (jS x : Int)) ∧ w'.cell? ⟨B', off' + 2, none⟩ = some (.int .i64 (jG x)) ∧
            w'.cell? ⟨s5, 0, none⟩ = some (.int .u32 (jO x : Int)) ∧ w'.cell? ⟨s5, 1, none⟩ = some (.int .u16 (jS x : Int)) ∧ w'.cell? ⟨s5, 2, none⟩ = some (.int .i64 (jG x))) (first | assumption | go_keep)
          (first
            | (go_at_call 8; ((with_reducible refine (HT.out _).mono ?_); rintro e w6 ⟨rfl, k6⟩); have s1 := ukept6 k6 (by assumption)))
        have HK6 := hide ((HK5.out.drew).trans' k6)
        clear y0 y1 y2 b0 b1 b2 k6 he hg
        go_wp2_with fail
        go_ret
        exact ⟨rfl, HK6.out⟩
end Go.Proofs.Ytjbnbbblafmldaa
