/- DiaryKeeps walked: it returns true for any rows, any number and any byte. No condition. -/
import Derived.Test.YtikegnhjnbjclaaDyh
import Derived.OpenShut
namespace Go.Proofs.Ytikegnhjnbjclaa
open Go.RowKit Go.WideShapes Go.ChangeShapes
set_option linter.unusedVariables false
set_option maxRecDepth 20000
set_option linter.unusedSimpArgs false

theorem Nws.no {w w1 : World} {ad : Addr} {m sz : Nat} {cs : List Value} (h : Nws w ad m sz cs) (hk : Kp No w w1) : Nws w1 ad m sz cs := ⟨h.len, fun j u hj => hk.cell (h.at_ j u hj) fun f => f, h.one⟩
theorem diarykeeps_no (W : World) {A0 A1 : Option Addr} {n0 c0 n1 c1 : Nat} (z y : Int) (h : 10 < n0 ∨ (n0 ≤ 10 ∧ 10 < n1)) :
    Calls Try.prog 5 #[.slice A0 n0 c0, .slice A1 n1 c1, .int .i64 z, .int .u8 y] W (TruePost W) := by
  rcases h with h | ⟨h1, h⟩
  · have q1 : (10 : Int) < (n0 : Int) := by omega
    go_enter Try.func5, Try.ntmps5
    go_wp2_with fail
    refine (awake14_any _).mono ?_
    rintro e w1 ⟨rfl, k1⟩
    go_wp2_with fail
    refine (awake14_any _).mono ?_
    rintro e w2 ⟨rfl, k2⟩
    go_wp2_with fail
    go_ret
    exact ⟨rfl, k1.trans' k2⟩
  · have q1 : ¬ (10 : Int) < (n0 : Int) := by omega
    have q2 : (10 : Int) < (n1 : Int) := by omega
    go_enter Try.func5, Try.ntmps5
    go_wp2_with fail
    refine (awake14_any _).mono ?_
    rintro e w1 ⟨rfl, k1⟩
    go_wp2_with fail
    refine (awake14_any _).mono ?_
    rintro e w2 ⟨rfl, k2⟩
    go_wp2_with fail
    go_ret
    exact ⟨rfl, k1.trans' k2⟩
set_option maxRecDepth 100000 in
set_option maxHeartbeats 8000000 in
theorem diarykeeps_yes (W : World) {A0 A1 : Option Addr} {n0 c0 n1 c1 : Nat} {a b : List (List UInt8)} (ha : Rwc W A0 n0 a) (hb : Rwc W A1 n1 b) (z : Int) (x : UInt8) (h0 : n0 ≤ 10) (h1 : n1 ≤ 10) :
    Calls Try.prog 5 #[.slice A0 n0 c0, .slice A1 n1 c1, .int .i64 z, .int .u8 (x.toNat : Int)] W (TruePost W) := by
  obtain ⟨pa, pa1, pa2, pa3, pa4, pa5⟩ := rwc_pairs ha
  obtain ⟨pb, pb1, pb2, pb3, pb4, pb5⟩ := rwc_pairs hb
  have q1 : ¬ (10 : Int) < (n0 : Int) := by omega
  have q2 : ¬ (10 : Int) < (n1 : Int) := by omega
  have hpall : rws (pa ++ pb) = a ++ b := by unfold rws at *; rw [List.map_append, pa1, pb1]
  have hal : a.length = n0 := ha.rws.len.symm
  have hbl : b.length = n1 := hb.rws.len.symm
  have HA3 := hide (show (∀ ad, A0 = some ad → Nws W ad n0 1 (sls pa)) ∧ (A0 = none → n0 = 0 ∧ sls pa = []) from ⟨pa3, fun e => ⟨pa4 e, List.eq_nil_of_length_eq_zero (by rw [sls_len, pa2, pa4 e])⟩⟩)
  have HB3 := hide (show (∀ ad, A1 = some ad → Nws W ad n1 1 (sls pb)) ∧ (A1 = none → n1 = 0 ∧ sls pb = []) from ⟨pb3, fun e => ⟨pb4 e, List.eq_nil_of_length_eq_zero (by rw [sls_len, pb2, pb4 e])⟩⟩)
  have HEL := hide (show ∀ p ∈ pa ++ pb, BtF W (fun k => W.heap.size ≤ k) p.1 p.2 from fun p hp => (List.mem_append.1 hp).elim (pa5 p) (pb5 p))
  have HPL : Hid ((pa ++ pb).length = n0 + n1) := by show _ = _; rw [List.length_append, pa2, pb2]
  have HPS : Hid (sls (pa ++ pb) = sls pa ++ sls pb) := by show _ = _; unfold sls; rw [List.map_append]
  generalize pa ++ pb = pc at hpall HEL HPL HPS
  have HPA := hide hpall
  have HAL := hide hal
  have HBL := hide hbl
  clear pa1 pa2 pa3 pa4 pa5 pb1 pb2 pb3 pb4 pb5 ha hb hpall hal hbl
  go_enter Try.func5, Try.ntmps5
  go_wp2_with fail
  refine (awake14_any _).mono ?_
  rintro e w0 ⟨rfl, k0⟩
  have HK0 := hide k0
  clear k0
  go_wp2_with fail
  refine (tnew_any w0 100000 (by omega)).mono ?_
  rintro e w1 ⟨tp, rfl, hg, hT1, k1⟩
  have HT1 := hide hT1
  have HK1 := hide k1
  clear hT1 k1 hg
  go_wp2_with fail
  refine (dnew_any HT1.out (by decide)).mono ?_
  intro e w2 hp
  obtain ⟨g, rfl, hD2, k2, _⟩ := dnew_new hp
  have HD2 := hide (hD2.frm (b := w0.heap.size) (fun k a => a) HK1.out.size)
  have HK2 := hide (HK0.out.trans' (HK1.out.fr k2 fun q hq => hq))
  have HZ2 := hide HK0.out.size
  clear hp hD2 k2
  have hka := Kp.alloc No w2 (.cells #[] 22)
  have HO2 := hide (ownT_none w2 22 1)
  have HKA := hide (HK2.out.trans' hka)
  have z2 := hka.size
  clear hka
  go_wp2_with (first
    | (at_builtin
       refine wpList_appN ty_slc rfl (.tmp 34) (.tmp 35) _ rfl Try.underlying25 rfl HO2.out A0 rfl HA3.out.2 (fun ad e => (HA3.out.1 ad e).no HKA.out) ?hl3 ?hs3 ?_
       case hl3 => omega
       case hs3 => exact z2
       intro A3 n3 c3 w3 hn3 ha3
       have HO3 := hide ha3.own
       have HK3 := hide (show Kp No w2 w3 from (Kp.alloc No w2 _).trans (ha3.kp.mono fun q hq => .inr (HO2.out.ge q hq)))
       have HW3 := hide (HK2.out.trans' HK3.out)
       have z3 := HK3.out.size
       rw [Nat.zero_add] at hn3
       subst hn3
       clear ha3)
    | (at_builtin
       refine wpList_appN ty_slc rfl (.tmp 36) (.tmp 37) _ rfl Try.underlying25 rfl HO3.out A1 rfl HB3.out.2 (fun ad e => (HB3.out.1 ad e).no HW3.out) ?hl4 ?hs4 ?_
       case hl4 => omega
       case hs4 => exact z3
       intro A4 n4 c4 w4 hn4 ha4
       have HO4 := hide ha4.own
       have HK4 := hide (show Kp No w2 w4 from HK3.out.trans (ha4.kp.mono fun q hq => .inr (HO3.out.ge q hq)))
       have HN4 : Hid (n4 = n3 + n1) := by show _ = _; omega
       have hn4b : n4 ≤ 20 := by omega
       clear ha4 hn4))
  have hO4 : OwnT w4 w2.heap.size 22 1 (.slice A4 n4 c4) pc.length (sls pc) := by
    have := HO4.out
    rw [HPL.out, HPS.out]
    simpa using this
  have hDk : DkS W g tp (Tp.new 100000) [] 0 (.slice A4 n4 c4) pc w4 := by
    refine ⟨⟨fun k => Frm w0.heap.size k ∧ k < w2.heap.size, HD2.out.no HK4.out, ⟨ownT_base0 hO4, fun k hk f => ?_, fun p hp => ?_⟩, fun k f => ⟨Nat.le_trans HZ2.out f.1, Nat.lt_of_lt_of_le f.2 HK4.out.size⟩⟩, HK2.out.trans' HK4.out⟩
    · have := hO4.ge k hk; have := f.2; omega
    · exact ((HEL.out p hp).no (HK2.out.trans' HK4.out)).up fun k _ f => Nat.le_trans HZ2.out f.1
  have hcap : n4 ≤ c4 := by
    rcases hO4.2 with ⟨e1, hn⟩ | ⟨g', cap, cur, e1, _, _, hc, _⟩
    · have h2 := HPL.out; have h3 := HN4.out; omega
    · injection e1 with _ _ e2
      have h2 := HPL.out; have h3 := HN4.out; omega
  have HDK := hide hDk
  have HLC := hide (show pc.length = n4 by have h2 := HPL.out; have h3 := HN4.out; omega)
  clear hO4 hDk HO2 HO3 HO4 HKA HK0 HT1 HK1 HD2 HK2 HZ2 HK3 HW3 HK4 z2 z3 HEL HPS HA3 HB3 HPL
  go_wp2_with fail
  go_loopw [13] (fun i wr => ∃ (k : Nat) (T : Tp) (sf : Nat), k ≤ n4 ∧ i = .int .i64 (k : Int) ∧ DkS W g tp T ((a ++ b).take k) sf (.slice A4 n4 c4) pc wr ∧ Hid (shK a b k T) ∧ Hid (∀ c ∈ (a ++ b).take k, c.length ≤ 300)) (fun i _ => n4 - (intOf i).toNat)
  case atStart => exact ⟨0, Tp.new 100000, 0, Nat.zero_le _, rfl, HDK.out, hide (.inl ⟨Nat.zero_le _, rfl⟩), hide (by simp)⟩
  case round =>
    obtain ⟨k, T, sf, hk, rfl, hS, HSH, HSM⟩ := hrel
    have HS := hide hS
    clear hS HDK
    by_cases hlt : k < n4
    · obtain ⟨p, hp⟩ : ∃ p, pc[k]? = some p := ⟨_, List.getElem?_eq_getElem (by have := HLC.out; omega)⟩
      have HP := hide hp
      obtain ⟨F, hD, hA, hF⟩ := HS.out.ex
      obtain ⟨gv, A', m', c', e4, e5, x1, hm'⟩ := hA.at_ hp
      subst e4
      have HD := hide hD
      have HA := hide hA
      have HF := hide hF
      have HE5 := hide e5
      have HM := hide hm'
      have HC : Hid ((a ++ b)[k]? = some p.2) := by show _ = _; rw [← HPA.out]; exact rws_get hp
      clear hD hA hF e5 hm' hp
      by_cases hbig : 300 < m'
      · have q3 : (300 : Int) < (m' : Int) := by omega
        have HK := hide HS.out.kp
        go_wp2_with fail
        refine (awake14_any _).mono ?_
        rintro e w9 ⟨rfl, k9⟩
        go_wp2_with fail
        go_ret
        exact ⟨rfl, HK.out.trans' k9⟩
      · have q3 : ¬ (300 : Int) < (m' : Int) := by omega
        have HPC : Hid (p.2.length ≤ 300) := by show _ ≤ _; have := HM.out; omega
        have HN0 : Hid (a.length ≤ 10 ∧ b.length ≤ 10) := ⟨by have := HAL.out; omega, by have := HBL.out; omega⟩
        by_cases hkn : k = n3
        · have q4 : ((k : Int) == (n3 : Int)) = true := by simp; omega
          have HKN : Hid (k = a.length) := by show _ = _; rw [HAL.out]; exact hkn
          clear hkn
          go_wp2_with fail
          refine (dsync_any HD.out (by have := HSH.out.len HSM.out HN0.out.1 HN0.out.2; omega)).mono ?_
          intro e w5 hp5
          obtain rfl := hp5.1
          have HS5 := hide (HS.out.call HA.out HF.out hp5)
          have hw : shW a b k T.sync := by
            have h2 := HSH.out
            rw [HKN.out] at h2 ⊢
            exact .inr ⟨Nat.le_refl _, h2.sync⟩
          have HWW := hide hw
          clear hp5 hw x1 HSH
          obtain ⟨F5, hD5, hA5, hF5⟩ := HS5.out.ex
          obtain ⟨gv5, A5, m5, c5, e4, e5, x5, hm5⟩ := hA5.at_ HP.out
          injection e4 with e4
          injection e4 with e4
          subst e4
          obtain ⟨rfl, rfl, rfl⟩ : A5 = A' ∧ m5 = m' ∧ c5 = c' := by have := HE5.out; rw [e5] at this; injection this with t1 t2 t3; exact ⟨t1, t2, t3⟩
          have HD5 := hide hD5
          have HA5 := hide hA5
          have HF5 := hide hF5
          clear hD5 hA5 hF5 e5 hm5
          have HU : Hid (∀ w', Kp F5 w5 w' → Bts w' (.slice A5 m5 c5) p.2) := fun w' hk' => by have h2 := (HA5.out.el p (List.mem_of_getElem? HP.out)).keep hk' (fun q _ f => f); rw [HE5.out] at h2; exact h2.bts
          have HTK : Hid (((a ++ b).take k).length = k) := by show _ = _; rw [List.length_take, List.length_append, HAL.out, HBL.out]; have := HN4.out; omega
          have HPUT := hide (HWW.out.put HSM.out HN0.out.1 HN0.out.2 HC.out HPC.out)
          go_wp2_with fail
          refine (dwrite_any HD5.out HU.out (by omega) (by have h2 := HWW.out.len HSM.out HN0.out.1 HN0.out.2; have h3 := HPC.out; omega) (by rw [HTK.out]; omega)).mono ?_
          intro e w6 hp6
          rw [HTK.out, if_pos HPUT.out.1] at hp6
          obtain rfl := hp6.1
          obtain ⟨sf6, hS6⟩ := (⟨_, HS5.out.call HA5.out HF5.out hp6⟩ : ∃ s, DkS W g tp (T.sync.put (rcF (k + 1) p.2)) ((a ++ b).take k ++ [p.2]) s (.slice (some ⟨gv, 0, none⟩) n4 c4) pc w6)
          have HS6 := hide hS6
          clear hp6 hS6
          go_wp2_with fail
          go_round
          case rel =>
            refine ⟨k + 1, T.sync.put (rcF (k + 1) p.2), sf6, by omega, by go_num, ?_, hide HPUT.out.2, hide ?_⟩
            · rw [List.take_add_one, HC.out]; exact HS6.out
            · intro c hc
              rw [List.take_add_one, HC.out] at hc
              rcases List.mem_append.1 hc with hc | hc
              · exact HSM.out c hc
              · simp at hc; subst hc; exact HPC.out
          case measure => simp [intOf]; omega
        · have q4 : ((k : Int) == (n3 : Int)) = false := by simp; omega
          have HWW : Hid (shW a b k T) := HSH.out.wr (by rw [HAL.out]; exact hkn)
          have HS5 := HS
          clear hkn HSH
          have HD5 := HD
          have HA5 := HA
          have HF5 := HF
          have HU : Hid (∀ w', Kp F wr w' → Bts w' (.slice A' m' c') p.2) := fun w' hk' => by have h2 := (HA5.out.el p (List.mem_of_getElem? HP.out)).keep hk' (fun q _ f => f); rw [HE5.out] at h2; exact h2.bts
          have HTK : Hid (((a ++ b).take k).length = k) := by show _ = _; rw [List.length_take, List.length_append, HAL.out, HBL.out]; have := HN4.out; omega
          have HPUT := hide (HWW.out.put HSM.out HN0.out.1 HN0.out.2 HC.out HPC.out)
          go_wp2_with fail
          refine (dwrite_any HD5.out HU.out (by omega) (by have h2 := HWW.out.len HSM.out HN0.out.1 HN0.out.2; have h3 := HPC.out; omega) (by rw [HTK.out]; omega)).mono ?_
          intro e w6 hp6
          rw [HTK.out, if_pos HPUT.out.1] at hp6
          obtain rfl := hp6.1
          obtain ⟨sf6, hS6⟩ := (⟨_, HS5.out.call HA5.out HF5.out hp6⟩ : ∃ s, DkS W g tp (T.put (rcF (k + 1) p.2)) ((a ++ b).take k ++ [p.2]) s (.slice (some ⟨gv, 0, none⟩) n4 c4) pc w6)
          have HS6 := hide hS6
          clear hp6 hS6
          go_wp2_with fail
          go_round
          case rel =>
            refine ⟨k + 1, T.put (rcF (k + 1) p.2), sf6, by omega, by go_num, ?_, hide HPUT.out.2, hide ?_⟩
            · rw [List.take_add_one, HC.out]; exact HS6.out
            · intro c hc
              rw [List.take_add_one, HC.out] at hc
              rcases List.mem_append.1 hc with hc | hc
              · exact HSM.out c hc
              · simp at hc; subst hc; exact HPC.out
          case measure => simp [intOf]; omega
    · obtain rfl : k = n4 := by omega
      have HL2 := hide (HSH.out.len HSM.out (by have := HAL.out; omega) (by have := HBL.out; omega))
      have HSMA : Hid ((∀ c ∈ a, c.length ≤ 300) ∧ ∀ c ∈ b, c.length ≤ 300) := by
        have h2 := HSM.out
        rw [List.take_of_length_le (by rw [List.length_append, HAL.out, HBL.out, HN4.out]; exact Nat.le_refl _)] at h2
        exact ⟨fun c hc => h2 c (List.mem_append_left _ hc), fun c hc => h2 c (List.mem_append_right _ hc)⟩
      have HFIN := hide (shK.fin (by have h2 := HSH.out; rw [HN4.out, ← HAL.out, ← HBL.out] at h2; exact h2))
      clear HSH HSM
      by_cases hn1 : n1 = 0
      · have q5 : ((n1 : Int) == 0) = true := by simp; omega
        have HT5 : Hid (T.sync = ⟨fr 0 a, fr a.length b, 100000⟩) := HFIN.out.1 (by rw [HBL.out]; exact hn1)
        obtain ⟨F, hD, hA, hF⟩ := HS.out.ex
        have HD := hide hD
        have HA := hide hA
        have HF := hide hF
        clear hD hA hF hn1
        go_wp2_with fail
        refine (dsync_any HD.out (by have := HL2.out; omega)).mono ?_
        intro e w5 hp5
        obtain rfl := hp5.1
        have HS5 := hide (HS.out.call HA.out HF.out hp5)
        clear hp5 HD HA HF HS
        have hL5 : T.sync.len ≤ 6400 := by rw [Tp.sync_len]; exact HL2.out
        have hS5 := HS5.out
        rw [HT5.out] at hS5
        rw [HT5.out] at hL5
        obtain ⟨F5, hD5, hA5, hF5⟩ := hS5.ex
        have HT := hide hD5.tape.lt
        have HA5 := hide hA5
        have HF5 := hide hF5
        have HK5 := hide hS5.kp
        have HLC2 : Hid (((Tp.mk (fr 0 a) (fr a.length b) 100000).crash z x).len ≤ 6400) := by show _ ≤ _; rw [Tp.crash_len]; have h2 := (Tp.mk (fr 0 a) (fr a.length b) 100000).stay_le z; have h3 : (Tp.mk (fr 0 a) (fr a.length b) 100000).len = (fr 0 a).length + (fr a.length b).length := rfl; simp only at h2 ⊢; omega
        have HL5 := hide hL5
        clear hS5 hD5 hA5 hF5 hL5 HT5
        go_wp2_with fail
        refine (tcrash_any HT.out (by have := HL5.out; omega) z x).mono ?_
        rintro e w6 ⟨rfl, hT6, k6⟩
        have HT6 := hide hT6
        have HK6 := hide k6
        clear hT6 k6
        generalize Tp.gone _ _ = gn
        go_wp2_with fail
        refine (dnew_any HT6.out (by have := HLC2.out; omega)).mono ?_
        rintro e w7 ⟨g7, rs7, sz7, rfl, hrc7, hD7, k7, _⟩
        obtain ⟨j, hj, hrs⟩ := keeps_rcs HSMA.out.1 HSMA.out.2 (by have := HAL.out; omega) (by have := HBL.out; omega) hrc7
        have hR : rs7.length = n3 + j := by rw [hrs, List.length_append, List.length_take, HAL.out]; have := HBL.out; omega
        have hjn : j ≤ n1 := by have := HBL.out; omega
        have HRS := hide (show rs7 = (a ++ b).take (n3 + j) by rw [hrs, ← HAL.out, List.take_length_add_append])
        have HSM7 : Hid (∀ c ∈ rs7, c.length ≤ 900000000) := fun c hc => by
          rw [hrs] at hc
          rcases List.mem_append.1 hc with hc | hc
          · have := HSMA.out.1 c hc; omega
          · have := HSMA.out.2 c (List.mem_of_mem_take hc); omega
        have HD7 := hide hD7
        have hkf : Kp F5 w5 w7 := (HK6.out.mono fun q f => f.1).trans (k7.mono fun q f => f.imp (fun f => f.1) id)
        have HKF := hide hkf
        obtain ⟨r, hr⟩ : ∃ r, r = rs7.length := ⟨_, rfl⟩
        have HRL := hide (show r = n3 + j by omega)
        have hr1 : ¬ (r : Int) < (n3 : Int) := by omega
        have hr2 : ¬ (k : Int) < (r : Int) := by have := HN4.out; omega
        have hrk : r ≤ k := by have := HN4.out; omega
        have HREC : Hid (Calls Try.prog 24 #[.pointer (some ⟨g7, 0, none⟩)] w7 fun e w1 => ∃ ps A c, e = .returned (.slice A r c) ∧ rws ps = rs7 ∧ RwO w1 w7.heap.size (.slice A r c) ps ∧ Kp No w7 w1) := by
          have h2 := records_any HD7.out (by omega) HSM7.out
          unfold RcsPost at h2
          rw [← hr] at h2
          exact h2
        have hsu := rsl_u A4 hrk hcap
        clear hrc7 hD7 k7 hj hrs hR hjn hkf hr hrk
        go_wp2_with fail
        refine HREC.out.mono ?_
        rintro e w8 ⟨qs, A8, c8, rfl, hq, hR8, k8⟩
        have HQ := hide hq
        have HR8 := hide hR8
        have hA8 := (HA5.out.keep HKF.out fun q _ f => f).no k8
        have HRW := hide (hA8.upto HLC.out (k := r) (by have := HRL.out; have := HN4.out; omega)).rws
        have HEQ : Hid (rws qs = rws (pc.take r)) := by show _ = _; rw [HQ.out, HRS.out, rws_take, HPA.out, HRL.out]
        have HK8 := hide ((HK5.out.fr HKF.out fun q f => (HF5.out q f).1).trans' k8)
        clear hq hR8 hA8 k8
        go_wp2_with fail
        refine (same14_any HR8.out.rws HRW.out (by have := HRL.out; omega) HEQ.out).mono ?_
        rintro e w9 ⟨rfl, k9⟩
        have HK9 := hide (HK8.out.trans' k9)
        clear k9
        go_wp2_with fail
        refine (awake14_any _).mono ?_
        rintro e w10 ⟨rfl, k10⟩
        go_wp2_with fail
        go_ret
        exact ⟨rfl, HK9.out.trans' k10⟩
      · have q5 : ((n1 : Int) == 0) = false := by simp; omega
        have HT5 : Hid (T = ⟨fr 0 a, fr a.length b, 100000⟩) := HFIN.out.2 (by rw [HBL.out]; exact hn1)
        have HS5 := HS
        have hL5 : T.len ≤ 6400 := HL2.out
        clear hn1
        have hS5 := HS5.out
        rw [HT5.out] at hS5
        rw [HT5.out] at hL5
        obtain ⟨F5, hD5, hA5, hF5⟩ := hS5.ex
        have HT := hide hD5.tape.lt
        have HA5 := hide hA5
        have HF5 := hide hF5
        have HK5 := hide hS5.kp
        have HLC2 : Hid (((Tp.mk (fr 0 a) (fr a.length b) 100000).crash z x).len ≤ 6400) := by show _ ≤ _; rw [Tp.crash_len]; have h2 := (Tp.mk (fr 0 a) (fr a.length b) 100000).stay_le z; have h3 : (Tp.mk (fr 0 a) (fr a.length b) 100000).len = (fr 0 a).length + (fr a.length b).length := rfl; simp only at h2 ⊢; omega
        have HL5 := hide hL5
        clear hS5 hD5 hA5 hF5 hL5 HT5
        go_wp2_with fail
        refine (tcrash_any HT.out (by have := HL5.out; omega) z x).mono ?_
        rintro e w6 ⟨rfl, hT6, k6⟩
        have HT6 := hide hT6
        have HK6 := hide k6
        clear hT6 k6
        generalize Tp.gone _ _ = gn
        go_wp2_with fail
        refine (dnew_any HT6.out (by have := HLC2.out; omega)).mono ?_
        rintro e w7 ⟨g7, rs7, sz7, rfl, hrc7, hD7, k7, _⟩
        obtain ⟨j, hj, hrs⟩ := keeps_rcs HSMA.out.1 HSMA.out.2 (by have := HAL.out; omega) (by have := HBL.out; omega) hrc7
        have hR : rs7.length = n3 + j := by rw [hrs, List.length_append, List.length_take, HAL.out]; have := HBL.out; omega
        have hjn : j ≤ n1 := by have := HBL.out; omega
        have HRS := hide (show rs7 = (a ++ b).take (n3 + j) by rw [hrs, ← HAL.out, List.take_length_add_append])
        have HSM7 : Hid (∀ c ∈ rs7, c.length ≤ 900000000) := fun c hc => by
          rw [hrs] at hc
          rcases List.mem_append.1 hc with hc | hc
          · have := HSMA.out.1 c hc; omega
          · have := HSMA.out.2 c (List.mem_of_mem_take hc); omega
        have HD7 := hide hD7
        have hkf : Kp F5 wr w7 := (HK6.out.mono fun q f => f.1).trans (k7.mono fun q f => f.imp (fun f => f.1) id)
        have HKF := hide hkf
        obtain ⟨r, hr⟩ : ∃ r, r = rs7.length := ⟨_, rfl⟩
        have HRL := hide (show r = n3 + j by omega)
        have hr1 : ¬ (r : Int) < (n3 : Int) := by omega
        have hr2 : ¬ (k : Int) < (r : Int) := by have := HN4.out; omega
        have hrk : r ≤ k := by have := HN4.out; omega
        have HREC : Hid (Calls Try.prog 24 #[.pointer (some ⟨g7, 0, none⟩)] w7 fun e w1 => ∃ ps A c, e = .returned (.slice A r c) ∧ rws ps = rs7 ∧ RwO w1 w7.heap.size (.slice A r c) ps ∧ Kp No w7 w1) := by
          have h2 := records_any HD7.out (by omega) HSM7.out
          unfold RcsPost at h2
          rw [← hr] at h2
          exact h2
        have hsu := rsl_u A4 hrk hcap
        clear hrc7 hD7 k7 hj hrs hR hjn hkf hr hrk
        go_wp2_with fail
        refine HREC.out.mono ?_
        rintro e w8 ⟨qs, A8, c8, rfl, hq, hR8, k8⟩
        have HQ := hide hq
        have HR8 := hide hR8
        have hA8 := (HA5.out.keep HKF.out fun q _ f => f).no k8
        have HRW := hide (hA8.upto HLC.out (k := r) (by have := HRL.out; have := HN4.out; omega)).rws
        have HEQ : Hid (rws qs = rws (pc.take r)) := by show _ = _; rw [HQ.out, HRS.out, rws_take, HPA.out, HRL.out]
        have HK8 := hide ((HK5.out.fr HKF.out fun q f => (HF5.out q f).1).trans' k8)
        clear hq hR8 hA8 k8
        go_wp2_with fail
        refine (same14_any HR8.out.rws HRW.out (by have := HRL.out; omega) HEQ.out).mono ?_
        rintro e w9 ⟨rfl, k9⟩
        have HK9 := hide (HK8.out.trans' k9)
        clear k9
        go_wp2_with fail
        refine (awake14_any _).mono ?_
        rintro e w10 ⟨rfl, k10⟩
        go_wp2_with fail
        go_ret
        exact ⟨rfl, HK9.out.trans' k10⟩
theorem diarykeeps_walk (W : World) {A0 A1 : Option Addr} {n0 c0 n1 c1 : Nat} {a b : List (List UInt8)} (ha : Rwc W A0 n0 a) (hb : Rwc W A1 n1 b) (z : Int) (hz : (Lit.int .i64 z).wf = true) (y : Int) (hy : (Lit.int .u8 y).wf = true) :
    Calls Try.prog 5 #[.slice A0 n0 c0, .slice A1 n1 c1, .int .i64 z, .int .u8 y] W fun e W' => e = .returned (.bool true) ∧ Below W.heap.size W W' := by
  have h2 := bounds_u8 hy
  obtain ⟨x, rfl⟩ : ∃ x : UInt8, y = (x.toNat : Int) := ⟨UInt8.ofNat y.toNat, by rw [UInt8.toNat_ofNat']; omega⟩
  by_cases h : n0 ≤ 10 ∧ n1 ≤ 10
  · exact (diarykeeps_yes W ha hb z x h.1 h.2).mono fun e W' p => ⟨p.1, p.2.below0⟩
  · exact (diarykeeps_no W z _ (by omega)).mono fun e W' p => ⟨p.1, p.2.below0⟩
end Go.Proofs.Ytikegnhjnbjclaa
