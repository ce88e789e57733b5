/- TableApart walked: it returns true for any operations (printed by tools/gen_tby.py). No condition. -/
import Derived.Test.YthicpblgonigcaaNcay
import Derived.OpenShut
namespace Go.Proofs.Ythicpblgonigcaa
open Go.RowKit
set_option linter.unusedVariables false
set_option linter.unusedSimpArgs false
set_option maxRecDepth 20000

section
variable {W w w1 : World} {F : Nat → Prop} {g : Nat} {T T' : Tb} {Z : List Nat} {v : Value} {z : Int} {e : Ending} {s : List UInt8}
/-- Find, whatever is there. -/
def FdPost (w : World) (T : Tb) (s : List UInt8) (e : Ending) (w1 : World) : Prop := ∃ o A n c f, e = .returned (.tuple #[obV o (.slice A n c), .bool f]) ∧ (f = true → T.os[fNm T.os s]? = some o) ∧ Kp No w w1
theorem tfind_any (h : TbAt w F g T) (s : List UInt8) : Calls Try.prog 17 #[.pointer (some ⟨g, 0, none⟩), .string (strOf s)] w (FdPost w T s) := by
  by_cases hf : fNm T.os s < T.os.length
  · obtain ⟨o, ho⟩ : ∃ o, T.os[fNm T.os s]? = some o := ⟨_, List.getElem?_eq_getElem hf⟩
    exact (tfind_yes h rfl ho).mono fun e w1 ⟨A, n, c, he, _, hk⟩ => ⟨o, A, n, c, true, he, fun _ => ho, hk⟩
  · exact (tfind_no h hf).mono fun e w1 ⟨he, hk⟩ => ⟨⟨0, [], 0, 0, 0, []⟩, none, 0, 0, false, he, (fun f => by cases f), hk⟩
theorem ApI.at_ (h : ApI W g T Z v w) : ∃ F, TbAt w F g T := by
  obtain ⟨F, h1, _⟩ := h.tb
  exact ⟨F, h1⟩
theorem ApI.post2 (h : ApI W g T Z v w) (hk : Kp No w w1) : ∃ F, TbAt w1 F g T ∧ (∀ b, F b → b < w.heap.size) ∧ ∀ T' z e w2, TbPost w1 F g T' z e w2 → e = .returned (.int .i64 z) ∧ ApI W g T' Z v w2 ∧ Kp F w1 w2 := by
  obtain ⟨F, h1, h2, h3⟩ := h.tb
  refine ⟨fun k => F k ∧ k < w.heap.size, (h1.mono fun k hk f => ⟨f, hk⟩).no hk, fun b f => f.2, fun T' z e w2 hp => ⟨hp.1, ⟨⟨_, hp.2.1, fun b hb f => ?_, fun b f => ?_⟩, (h.row.no hk).keep hp.2.2 fun b hb f => h2 b hb f.1, (h.kp.trans' hk).fr hp.2.2 fun b f => h3 b f.1⟩, hp.2.2⟩⟩
  · rcases f with f | f
    · exact h2 b hb f.1
    · exact absurd ((h.row.no hk).lt b hb) (by omega)
  · exact f.elim (fun f => h3 b f.1) fun f => Nat.le_trans (h.kp.trans' hk).size f
end
theorem okO_apart {sl nd : Nat} {o : Ob} (h : okO sl nd o = true) (hs : sl ≤ 24) : o.pl.length ≤ 1000000000000000 ∧ ∀ l ∈ o.pl, l.length ≤ 1000000000000000 ∧ (l.map Prod.fst).Nodup := by
  obtain ⟨a1, a2, a3, a4⟩ := okO_parts h
  have := okP_parts a2
  exact ⟨by omega, fun l hl => ⟨by have := (okS_parts (a4 l hl)).1; omega, (okS_parts (a4 l hl)).2.2⟩⟩

/-- A struct's cells, loaded at once. -/
theorem run_loadVar_cs {P : Program} {w : World} {ty : TypeId} {ad : Addr} {cs : List Value} {d : TypeDesc} (hu : P.underlying ty = some d) (hd : (match d with | .struct _ | .array _ _ => true | _ => false) = true) (hi : (P.info? ty).map (·.size) = some cs.length)
    (h : ∀ (j : Nat) u, cs[j]? = some u → w.cell? (ad.add j) = some u) : (loadVar ty ad).run P w = .ok (.agg cs.toArray) w := by
  have hl := run_loadCells_list (P := P) w ad cs h
  cases hq : P.info? ty with
  | none => simp [hq] at hi
  | some i =>
    have hs : i.size = cs.length := by simpa [hq] using hi
    have hagg : (isAgg ty).run P w = .ok true w := by
      unfold isAgg
      rw [Sem.run_bind, run_underlying hu w]
      cases d <;> simp_all
    simp [loadVar, Sem.run_bind, hagg, sizeOf, typeInfo, hq, hs, hl]
theorem oqC_at {w : World} {B off : Nat} {q : Oq} {v : Value} (h : OqC w B off q v) : ∀ (j : Nat) u, (oqL q v)[j]? = some u → w.cell? ((⟨B, off, none⟩ : Addr).add j) = some u := fun j u hu => by
  rw [add_none]
  obtain ⟨c0, c1, c2, c3, c4, c5, c6, c7, c8, c9, c10⟩ := h
  have hj : j < 11 := (List.getElem?_eq_some_iff.1 hu).1
  match j, hj, hu with
  | 0, _, hu => injection hu with hu; subst hu; exact c0
  | 1, _, hu => injection hu with hu; subst hu; exact c1
  | 2, _, hu => injection hu with hu; subst hu; exact c2
  | 3, _, hu => injection hu with hu; subst hu; exact c3
  | 4, _, hu => injection hu with hu; subst hu; exact c4
  | 5, _, hu => injection hu with hu; subst hu; exact c5
  | 6, _, hu => injection hu with hu; subst hu; exact c6
  | 7, _, hu => injection hu with hu; subst hu; exact c7
  | 8, _, hu => injection hu with hu; subst hu; exact c8
  | 9, _, hu => injection hu with hu; subst hu; exact c9
  | 10, _, hu => injection hu with hu; subst hu; exact c10
theorem info_20q : (Try.prog.info? 42).map (·.size) = some 11 := by kernel_rfl
theorem wpList_loadq {w : World} {B off : Nat} {q : Oq} {v : Value} {ops : Array Oper} {rest : List Oper} {o : Oper} {a : Act} {Q : Exit → Act → World → Prop} (hgd : o.guard = none) (x : Operand)
    (ho : o.op = .load 42 x) (hx : a.eval x = .pointer (some ⟨B, off, none⟩)) (h : OqC w B off q v) (hQ : wpList Try.prog ops Q rest (a.put o.dst (oqV q v)) w) : wpList Try.prog ops Q (o :: rest) a w := by
  refine wpList_plain hgd fun K hK => ?_
  have hr := run_loadVar_cs (P := Try.prog) (w := w) (ad := ⟨B, off, none⟩) (cs := oqL q v) Try.underlying42 rfl info_20q (oqC_at h)
  unfold Oper.wp execOp
  simp only [ho, hx, Instr.loadAt, Instr.sureAddr, Sem.run_bind, Sem.run_pure, Result.andThen_ok, hr]
  exact hK _ _ hQ

set_option maxRecDepth 100000 in
set_option maxHeartbeats 16000000 in
theorem tableapart_walk (W : World) (sl nd : Nat) (hsl : sl < 256) (hnd : nd < 256) {A : Option Addr} {n c : Nat} {qs : List Oq} (h : Ops W A n qs) : Calls Try.prog 5 #[.int .u8 (sl : Int), .int .u8 (nd : Int), .slice A n c] W (TruePost W) := by
  have HQ := hide h
  have HNL := hide h.len
  have hbig := h.big
  clear h
  have hnew := fun w => tnew_yes (w := w) (sl := sl % 24 + 1) (nd := nd % 32 + 1) (by omega) (by omega) (by omega) (by omega)
  rw [show ((sl % 24 + 1 : Nat) : Int) = 1 + (sl : Int) % 24 by omega, show ((nd % 32 + 1 : Nat) : Int) = 1 + (nd : Int) % 32 by omega] at hnew
  have HNEW := hide hnew
  clear hnew
  go_enter Try.func5, Try.ntmps5
  go_wp2_with fail
  refine (awake20_any _).mono ?_
  rintro e w1 ⟨rfl, hk1⟩
  have HK1 := hide hk1
  clear hk1
  go_wp2_with fail
  refine (light_any (HQ.out.no HK1.out)).mono ?_
  rintro e w2 ⟨b, rfl, hb, rfl⟩
  rcases b with _ | _
  · go_wp2_with fail
    refine (awake20_any _).mono ?_
    rintro e w3 ⟨rfl, hk3⟩
    go_wp2_with fail
    go_ret
    exact ⟨rfl, HK1.out.trans' hk3⟩
  have HLT := hide (hb rfl)
  clear hb
  go_wp2_with fail
  refine (HNEW.out _).mono ?_
  rintro e w3 ⟨rfl, ht, hk3⟩
  have HI0 := hide (ApI.first (TbL.new HK1.out ht hk3))
  obtain ⟨g, hg⟩ : ∃ g, g = w1.heap.size := ⟨_, rfl⟩
  rw [← hg] at HI0 ⊢
  generalize newT (sl % 24 + 1) (nd % 32 + 1) = T0 at HI0
  clear ht hk3 hg HNEW
  go_wp2_with fail
  go_loopw [9, 10] (fun rv iv wr => ∃ (k : Nat) (T : Tb) (Z : List Nat) (A1 : Option Addr) (m1 c1 : Nat), k ≤ n ∧ iv = .int .i64 (k : Int) ∧ rv = .slice A1 m1 c1 ∧ Hid (ApI W g T Z (.slice A1 m1 c1) wr) ∧ Hid (Gone T Z) ∧ Hid (Z.length ≤ k)) (fun _ iv _ => n - (intOf iv).toNat)
  case atStart => exact ⟨0, T0, [], none, 0, 0, Nat.zero_le _, rfl, rfl, HI0, hide (fun z hz => by cases hz), Nat.le_refl _⟩
  case round =>
    obtain ⟨k, T, Z, A1, m1, c1, hkn, rfl, rfl, HI, HG, HZ⟩ := hrel
    rename World => wk
    by_cases hlt : k < n
    · obtain ⟨q, hq⟩ : ∃ q, qs[k]? = some q := ⟨_, List.getElem?_eq_getElem (by rw [← HNL.out]; exact hlt)⟩
      obtain ⟨B, off, rfl, v, hqc, hqp, hqf⟩ := HQ.out.at_ k q hq
      have HQC := hide hqc
      have HQP := hide hqp
      have HQF := hide hqf
      have HQL := hide (HLT.out.2 k q hq)
      obtain ⟨Av, cv, rfl⟩ := hqp.form
      clear hq hqc hqp hqf
      obtain ⟨x0, x1, x2, x3, x4, x5, x6, x7, x8, x9, x10⟩ := HQC.out.no HI.out.kp
      obtain ⟨F0, hF0⟩ := HI.out.at_
      have HF := hide (tfind_any hF0 q.o.nm)
      clear x0 x1 x3 x4 x5 x6 x7 x8 x9 x10 hF0
      go_wp2_with fail
      refine HF.out.mono ?_
      rintro e w5 ⟨o, Ao, no, co, f, rfl, hf, hk5⟩
      have HI5 := hide (HI.out.no hk5)
      have HFO := hide hf
      have HB := hide (Bx.new w5 54 (obL o (.slice Ao no co)))
      have HK6 := hide (Kp.alloc No w5 (.cells #[.int .u32 (o.num : Int), .string (strOf o.nm), .int .i64 o.ln, .int .i64 o.ct, .int .i64 o.pc, .slice Ao no co] 54))
      clear x2 hk5 hf HF
      go_upto_region 13 with (fail)
      obtain ⟨b0, hb0⟩ : ∃ b0, b0 = w5.heap.size := ⟨_, rfl⟩
      have HB0 := hide hb0
      rw [← hb0] at HB ⊢
      generalize (w5.alloc (.cells #[.int .u32 (o.num : Int), .string (strOf o.nm), .int .i64 o.ln, .int .i64 o.ct, .int .i64 o.pc, .slice Ao no co] 54)) = w6 at HB HK6 ⊢
      clear hb0
      have HQ6 := hide (HQC.out.no (HI5.out.no HK6.out).kp)
      have HTO := hide (to_any (q := q) (HQP.out.no (HI5.out.no HK6.out).kp) HQL.out.1 HQF.out.1)
      obtain ⟨m, hm⟩ : ∃ m, m = q.o.pl.length := ⟨_, rfl⟩
      rw [← hm] at HQ6 HTO
      clear hm
      apply wp_region_lit
      refine wpList_plain rfl (fun K hK => ?_)
      go_simp
      refine hK _ _ ?_
      clear hK K
      refine wpList_plain rfl (fun K hK => ?_)
      go_simp
      refine hK _ _ ?_
      clear hK K
      refine wpList_plain rfl (fun K hK => ?_)
      go_simp
      refine hK _ _ ?_
      clear hK K
      refine wpList_plain rfl (fun K hK => ?_)
      go_simp
      refine hK _ _ ?_
      clear hK K
      refine wpList_loadq rfl (.tmp 61) rfl rfl HQ6.out ?_
      go_wp2_with fail
      refine HTO.out.mono ?_
      rintro e w7 ⟨A7, n7, c7, rfl, hp7, hk7⟩
      obtain ⟨F7, h7, hF7, hP7⟩ := HI5.out.post2 (HK6.out.trans' hk7)
      have HP7 := hide hP7
      have HF7 := hide hF7
      have HB7 := hide (HB.out.no hk7)
      have HAP := hide (tapply_any (q := q) h7 hp7.rd (by have := HQL.out.1; omega) (fun l hl => by have := (HQF.out.1.2 l hl).1; omega) (by have := HQL.out.2; omega))
      clear hp7 hk7 h7 hP7 hF7 HTO
      go_wp2_with fail
      refine HAP.out.mono ?_
      rintro e w8 hp8
      obtain ⟨rfl, hI8, hk8⟩ := HP7.out _ _ _ _ hp8
      have HI8 := hide hI8
      have HB8 := hide (HB7.out.keep hk8 fun f => by have := HF7.out _ f; have := HB0.out; omega)
      clear hp8 hI8 hk8 HAP HP7 HF7
      have x0 := (HQC.out.no HI8.out.kp).1
      have HOK := hide (show T.Ok by obtain ⟨F0, h0⟩ := HI.out.at_; exact h0.ok)
      have HG8 := hide (HG.out.app (q := q))
      have HMR := hide (fun (ho : T.os[fNm T.os q.o.nm]? = some o) (h3 : q.kd = 3) => HG.out.more HOK.out h3 ho)
      generalize T.appE q = E
      generalize T.app q = T' at HI8 HG8 HMR
      by_cases hE : E = 0
      · subst hE
        by_cases h3 : q.kd = 3
        · have h3z : (q.kd == 3) = true := by simp [h3]
          rcases f with _ | _
          · go_wp2_with fail
            clear x0
            obtain ⟨Z9, hZ9⟩ : ∃ Z9, Z9 = Z := ⟨_, rfl⟩
            have HI9 := hide HI8.out
            have HG9 := hide HG8.out
            have HZ9 : Hid (Z9.length ≤ k + 1) := by show Z9.length ≤ k + 1; rw [hZ9]; have := HZ.out; omega
            rw [← hZ9] at HI9 HG9
            have HM9 := hide (OwnT.len HI9.out.row)
            have HL9 : Hid (T'.os.length ≤ 64) := by obtain ⟨F0, h0⟩ := HI9.out.at_; exact h0.ok.len
            obtain ⟨N, hN⟩ : ∃ N, N = T'.os.length := ⟨_, rfl⟩
            have HN := hide hN
            have hN64 : N ≤ 64 := by rw [hN]; exact HL9.out
            clear hZ9 hN
            go_loopw [14] (fun iv wr => ∃ (i : Nat), i ≤ N ∧ iv = .int .i64 (i : Int) ∧ Hid (ApI W g T' Z9 (.slice A1 m1 c1) wr)) (fun iv _ => N - (intOf iv).toNat)
            case atStart => exact ⟨0, Nat.zero_le _, rfl, HI9⟩
            case round =>
              obtain ⟨i, hiN, rfl, HIr⟩ := hrel
              rename World => wi
              obtain ⟨Fr, hFr⟩ := HIr.out.at_
              have HLN := hide (tlen_any hFr)
              rw [← HN.out] at HLN
              have HFR := hide hFr
              clear hFr
              go_wp2_with fail
              refine HLN.out.mono ?_
              rintro e w10 ⟨rfl, rfl⟩
              by_cases hi : i < N
              · have hi70 : i < 70 := by omega
                obtain ⟨p, hp⟩ : ∃ p, T'.os[i]? = some p := ⟨_, List.getElem?_eq_getElem (by rw [← HN.out]; exact hi)⟩
                have HP := hide hp
                have HAT := hide (tat_yes HFR.out hp)
                clear hp
                go_wp2_with fail
                refine HAT.out.mono ?_
                rintro e w11 ⟨Ap, np, cp, rfl, hpl, hk11⟩
                have HPL := hide (hpl.rd.no (Kp.alloc No w11 (.cells #[.int .u32 (p.num : Int), .string (strOf p.nm), .int .i64 p.ln, .int .i64 p.ct, .int .i64 p.pc, .slice Ap np cp] 54)))
                have HBp := hide (Bx.new w11 54 (obL p (.slice Ap np cp)))
                have HIp := hide (HIr.out.no (hk11.al (.cells #[.int .u32 (p.num : Int), .string (strOf p.nm), .int .i64 p.ln, .int .i64 p.ct, .int .i64 p.pc, .slice Ap np cp] 54)))
                have HAPT := hide (okO_apart (HFR.out.ok.rgt i p HP.out) HFR.out.ok.sl2)
                clear hpl hk11 HAT HLN
                go_wp2_with fail
                obtain ⟨bp, hbp⟩ : ∃ bp, bp = w11.heap.size := ⟨_, rfl⟩
                rw [← hbp] at HBp ⊢
                generalize (w11.alloc (.cells #[.int .u32 (p.num : Int), .string (strOf p.nm), .int .i64 p.ln, .int .i64 p.ct, .int .i64 p.pc, .slice Ap np cp] 54)) = w12 at HPL HBp HIp ⊢
                clear hbp
                go_loopw [17] (fun jv wr => ∃ (j : Nat), j ≤ m1 ∧ jv = .int .i64 (j : Int) ∧ Kp No w12 wr) (fun jv _ => m1 - (intOf jv).toNat)
                case atStart => exact ⟨0, Nat.zero_le _, rfl, Kp.refl _ _⟩
                case round =>
                  obtain ⟨j, hjm, rfl, hkj⟩ := hrel
                  have HKJ := hide hkj
                  have y0 := (HBp.out.no hkj).cell (i := 0) rfl
                  have y5 := (HBp.out.no hkj).cell (i := 5) rfl
                  clear hkj
                  by_cases hj : j < m1
                  · obtain ⟨z, hz⟩ : ∃ z, Z9[j]? = some z := ⟨_, List.getElem?_eq_getElem (by rw [← HM9.out]; exact hj)⟩
                    obtain ⟨gz, hA, _, _, _, cz⟩ := (HIp.out.row.no HKJ.out).cell (uC_get hz)
                    have hne : ((p.num : Int) == (z : Int)) = false := by
                      have := (HG9.out z (List.mem_of_getElem? hz)).2 i p HP.out
                      exact beq_false_of_ne fun e => this (by omega)
                    have HAG := hide hA
                    have hmb : m1 ≤ 100 := by have := HZ9.out; have := HM9.out; have := HLT.out.1; have := HNL.out; omega
                    clear hz hA y5
                    have hA := HAG.out
                    subst hA
                    go_wp2_with fail
                    go_quiet (fail)
                    go_wp2_with fail
                    go_round
                    case rel => exact ⟨j + 1, by omega, by go_num, HKJ.out.drewN _⟩
                    case measure => simp [intOf]; omega
                  · obtain rfl : j = m1 := by omega
                    have HPA := hide (apart_any (HPL.out.no HKJ.out) HAPT.out.1 HAPT.out.2)
                    clear y0
                    go_wp2_with fail
                    refine HPA.out.mono ?_
                    rintro e w13 ⟨rfl, hk13⟩
                    have HI13 := hide (HIp.out.no (HKJ.out.trans' hk13))
                    clear hk13 y5
                    go_wp2_with fail
                    go_round
                    case rel => exact ⟨i + 1, by omega, by go_num, HI13⟩
                    case measure => simp [intOf]; omega
              · obtain rfl : i = N := by omega
                go_wp2_with fail
                go_round
                case rel => exact ⟨k + 1, T', Z9, A1, m1, c1, by omega, by go_num, rfl, HIr, HG9, HZ9⟩
                case measure => simp [intOf]; omega
          · have y0 := HB8.out.cell (i := 0) rfl
            have HMO := hide (HMR.out (HFO.out rfl) h3)
            have hna := own1_nws (w := w8) (u := .int .u32 (o.num : Int)) (t := 29) rfl
            have HNA := hide hna
            have HML := hide (OwnT.len HI8.out.row)
            have HOA := hide (HI8.out.row.no (Kp.alloc No w8 (.cells #[.int .u32 (o.num : Int)] 29)))
            have HS1 := hide (HI8.out.no (Kp.alloc No w8 (.cells #[.int .u32 (o.num : Int)] 29))).kp.size
            have HI8a := hide (HI8.out.no (Kp.alloc No w8 (.cells #[.int .u32 (o.num : Int)] 29)))
            clear hna
            go_wp2_with (first
              | (at_builtin
                 refine wpList_appT ty_u32 rfl (.tmp 78) (.tmp 81) _ rfl Try.underlying69 rfl HOA.out _ _ rfl HNA.out (by have := HZ.out; have := HLT.out.1; have := HNL.out; omega) HS1.out ?_
                 intro A9 n9 c9 w9 hn9 ha
                 have HA := hide ha
                 clear ha hn9))
            have HI9 := hide (HI8a.out.push rfl HA.out)
            clear x0 y0
            obtain ⟨Z9, hZ9⟩ : ∃ Z9, Z9 = Z ++ [o.num] := ⟨_, rfl⟩
            have HG9 := hide HMO.out
            have HZ9 : Hid (Z9.length ≤ k + 1) := by show Z9.length ≤ k + 1; rw [hZ9]; rw [List.length_append]; exact Nat.succ_le_succ HZ.out
            rw [← hZ9] at HI9 HG9
            have HM9 := hide (OwnT.len HI9.out.row)
            have HL9 : Hid (T'.os.length ≤ 64) := by obtain ⟨F0, h0⟩ := HI9.out.at_; exact h0.ok.len
            obtain ⟨N, hN⟩ : ∃ N, N = T'.os.length := ⟨_, rfl⟩
            have HN := hide hN
            have hN64 : N ≤ 64 := by rw [hN]; exact HL9.out
            clear hZ9 hN
            go_loopw [14] (fun iv wr => ∃ (i : Nat), i ≤ N ∧ iv = .int .i64 (i : Int) ∧ Hid (ApI W g T' Z9 (.slice A9 n9 c9) wr)) (fun iv _ => N - (intOf iv).toNat)
            case atStart => exact ⟨0, Nat.zero_le _, rfl, HI9⟩
            case round =>
              obtain ⟨i, hiN, rfl, HIr⟩ := hrel
              rename World => wi
              obtain ⟨Fr, hFr⟩ := HIr.out.at_
              have HLN := hide (tlen_any hFr)
              rw [← HN.out] at HLN
              have HFR := hide hFr
              clear hFr
              go_wp2_with fail
              refine HLN.out.mono ?_
              rintro e w10 ⟨rfl, rfl⟩
              by_cases hi : i < N
              · have hi70 : i < 70 := by omega
                obtain ⟨p, hp⟩ : ∃ p, T'.os[i]? = some p := ⟨_, List.getElem?_eq_getElem (by rw [← HN.out]; exact hi)⟩
                have HP := hide hp
                have HAT := hide (tat_yes HFR.out hp)
                clear hp
                go_wp2_with fail
                refine HAT.out.mono ?_
                rintro e w11 ⟨Ap, np, cp, rfl, hpl, hk11⟩
                have HPL := hide (hpl.rd.no (Kp.alloc No w11 (.cells #[.int .u32 (p.num : Int), .string (strOf p.nm), .int .i64 p.ln, .int .i64 p.ct, .int .i64 p.pc, .slice Ap np cp] 54)))
                have HBp := hide (Bx.new w11 54 (obL p (.slice Ap np cp)))
                have HIp := hide (HIr.out.no (hk11.al (.cells #[.int .u32 (p.num : Int), .string (strOf p.nm), .int .i64 p.ln, .int .i64 p.ct, .int .i64 p.pc, .slice Ap np cp] 54)))
                have HAPT := hide (okO_apart (HFR.out.ok.rgt i p HP.out) HFR.out.ok.sl2)
                clear hpl hk11 HAT HLN
                go_wp2_with fail
                obtain ⟨bp, hbp⟩ : ∃ bp, bp = w11.heap.size := ⟨_, rfl⟩
                rw [← hbp] at HBp ⊢
                generalize (w11.alloc (.cells #[.int .u32 (p.num : Int), .string (strOf p.nm), .int .i64 p.ln, .int .i64 p.ct, .int .i64 p.pc, .slice Ap np cp] 54)) = w12 at HPL HBp HIp ⊢
                clear hbp
                go_loopw [17] (fun jv wr => ∃ (j : Nat), j ≤ n9 ∧ jv = .int .i64 (j : Int) ∧ Kp No w12 wr) (fun jv _ => n9 - (intOf jv).toNat)
                case atStart => exact ⟨0, Nat.zero_le _, rfl, Kp.refl _ _⟩
                case round =>
                  obtain ⟨j, hjm, rfl, hkj⟩ := hrel
                  have HKJ := hide hkj
                  have y0 := (HBp.out.no hkj).cell (i := 0) rfl
                  have y5 := (HBp.out.no hkj).cell (i := 5) rfl
                  clear hkj
                  by_cases hj : j < n9
                  · obtain ⟨z, hz⟩ : ∃ z, Z9[j]? = some z := ⟨_, List.getElem?_eq_getElem (by rw [← HM9.out]; exact hj)⟩
                    obtain ⟨gz, hA, _, _, _, cz⟩ := (HIp.out.row.no HKJ.out).cell (uC_get hz)
                    have hne : ((p.num : Int) == (z : Int)) = false := by
                      have := (HG9.out z (List.mem_of_getElem? hz)).2 i p HP.out
                      exact beq_false_of_ne fun e => this (by omega)
                    have HAG := hide hA
                    have hmb : n9 ≤ 100 := by have := HZ9.out; have := HM9.out; have := HLT.out.1; have := HNL.out; omega
                    clear hz hA y5
                    have hA := HAG.out
                    subst hA
                    go_wp2_with fail
                    go_quiet (fail)
                    go_wp2_with fail
                    go_round
                    case rel => exact ⟨j + 1, by omega, by go_num, HKJ.out.drewN _⟩
                    case measure => simp [intOf]; omega
                  · obtain rfl : j = n9 := by omega
                    have HPA := hide (apart_any (HPL.out.no HKJ.out) HAPT.out.1 HAPT.out.2)
                    clear y0
                    go_wp2_with fail
                    refine HPA.out.mono ?_
                    rintro e w13 ⟨rfl, hk13⟩
                    have HI13 := hide (HIp.out.no (HKJ.out.trans' hk13))
                    clear hk13 y5
                    go_wp2_with fail
                    go_round
                    case rel => exact ⟨i + 1, by omega, by go_num, HI13⟩
                    case measure => simp [intOf]; omega
              · obtain rfl : i = N := by omega
                go_wp2_with fail
                go_round
                case rel => exact ⟨k + 1, T', Z9, A9, n9, c9, by omega, by go_num, rfl, HIr, HG9, HZ9⟩
                case measure => simp [intOf]; omega
        · have h3z : (q.kd == 3) = false := by simp [h3]
          go_wp2_with fail
          clear x0
          obtain ⟨Z9, hZ9⟩ : ∃ Z9, Z9 = Z := ⟨_, rfl⟩
          have HI9 := hide HI8.out
          have HG9 := hide HG8.out
          have HZ9 : Hid (Z9.length ≤ k + 1) := by show Z9.length ≤ k + 1; rw [hZ9]; have := HZ.out; omega
          rw [← hZ9] at HI9 HG9
          have HM9 := hide (OwnT.len HI9.out.row)
          have HL9 : Hid (T'.os.length ≤ 64) := by obtain ⟨F0, h0⟩ := HI9.out.at_; exact h0.ok.len
          obtain ⟨N, hN⟩ : ∃ N, N = T'.os.length := ⟨_, rfl⟩
          have HN := hide hN
          have hN64 : N ≤ 64 := by rw [hN]; exact HL9.out
          clear hZ9 hN
          go_loopw [14] (fun iv wr => ∃ (i : Nat), i ≤ N ∧ iv = .int .i64 (i : Int) ∧ Hid (ApI W g T' Z9 (.slice A1 m1 c1) wr)) (fun iv _ => N - (intOf iv).toNat)
          case atStart => exact ⟨0, Nat.zero_le _, rfl, HI9⟩
          case round =>
            obtain ⟨i, hiN, rfl, HIr⟩ := hrel
            rename World => wi
            obtain ⟨Fr, hFr⟩ := HIr.out.at_
            have HLN := hide (tlen_any hFr)
            rw [← HN.out] at HLN
            have HFR := hide hFr
            clear hFr
            go_wp2_with fail
            refine HLN.out.mono ?_
            rintro e w10 ⟨rfl, rfl⟩
            by_cases hi : i < N
            · have hi70 : i < 70 := by omega
              obtain ⟨p, hp⟩ : ∃ p, T'.os[i]? = some p := ⟨_, List.getElem?_eq_getElem (by rw [← HN.out]; exact hi)⟩
              have HP := hide hp
              have HAT := hide (tat_yes HFR.out hp)
              clear hp
              go_wp2_with fail
              refine HAT.out.mono ?_
              rintro e w11 ⟨Ap, np, cp, rfl, hpl, hk11⟩
              have HPL := hide (hpl.rd.no (Kp.alloc No w11 (.cells #[.int .u32 (p.num : Int), .string (strOf p.nm), .int .i64 p.ln, .int .i64 p.ct, .int .i64 p.pc, .slice Ap np cp] 54)))
              have HBp := hide (Bx.new w11 54 (obL p (.slice Ap np cp)))
              have HIp := hide (HIr.out.no (hk11.al (.cells #[.int .u32 (p.num : Int), .string (strOf p.nm), .int .i64 p.ln, .int .i64 p.ct, .int .i64 p.pc, .slice Ap np cp] 54)))
              have HAPT := hide (okO_apart (HFR.out.ok.rgt i p HP.out) HFR.out.ok.sl2)
              clear hpl hk11 HAT HLN
              go_wp2_with fail
              obtain ⟨bp, hbp⟩ : ∃ bp, bp = w11.heap.size := ⟨_, rfl⟩
              rw [← hbp] at HBp ⊢
              generalize (w11.alloc (.cells #[.int .u32 (p.num : Int), .string (strOf p.nm), .int .i64 p.ln, .int .i64 p.ct, .int .i64 p.pc, .slice Ap np cp] 54)) = w12 at HPL HBp HIp ⊢
              clear hbp
              go_loopw [17] (fun jv wr => ∃ (j : Nat), j ≤ m1 ∧ jv = .int .i64 (j : Int) ∧ Kp No w12 wr) (fun jv _ => m1 - (intOf jv).toNat)
              case atStart => exact ⟨0, Nat.zero_le _, rfl, Kp.refl _ _⟩
              case round =>
                obtain ⟨j, hjm, rfl, hkj⟩ := hrel
                have HKJ := hide hkj
                have y0 := (HBp.out.no hkj).cell (i := 0) rfl
                have y5 := (HBp.out.no hkj).cell (i := 5) rfl
                clear hkj
                by_cases hj : j < m1
                · obtain ⟨z, hz⟩ : ∃ z, Z9[j]? = some z := ⟨_, List.getElem?_eq_getElem (by rw [← HM9.out]; exact hj)⟩
                  obtain ⟨gz, hA, _, _, _, cz⟩ := (HIp.out.row.no HKJ.out).cell (uC_get hz)
                  have hne : ((p.num : Int) == (z : Int)) = false := by
                    have := (HG9.out z (List.mem_of_getElem? hz)).2 i p HP.out
                    exact beq_false_of_ne fun e => this (by omega)
                  have HAG := hide hA
                  have hmb : m1 ≤ 100 := by have := HZ9.out; have := HM9.out; have := HLT.out.1; have := HNL.out; omega
                  clear hz hA y5
                  have hA := HAG.out
                  subst hA
                  go_wp2_with fail
                  go_quiet (fail)
                  go_wp2_with fail
                  go_round
                  case rel => exact ⟨j + 1, by omega, by go_num, HKJ.out.drewN _⟩
                  case measure => simp [intOf]; omega
                · obtain rfl : j = m1 := by omega
                  have HPA := hide (apart_any (HPL.out.no HKJ.out) HAPT.out.1 HAPT.out.2)
                  clear y0
                  go_wp2_with fail
                  refine HPA.out.mono ?_
                  rintro e w13 ⟨rfl, hk13⟩
                  have HI13 := hide (HIp.out.no (HKJ.out.trans' hk13))
                  clear hk13 y5
                  go_wp2_with fail
                  go_round
                  case rel => exact ⟨i + 1, by omega, by go_num, HI13⟩
                  case measure => simp [intOf]; omega
            · obtain rfl : i = N := by omega
              go_wp2_with fail
              go_round
              case rel => exact ⟨k + 1, T', Z9, A1, m1, c1, by omega, by go_num, rfl, HIr, HG9, HZ9⟩
              case measure => simp [intOf]; omega
      · have hEz : (E == 0) = false := by simp [hE]
        go_wp2_with fail
        clear x0
        obtain ⟨Z9, hZ9⟩ : ∃ Z9, Z9 = Z := ⟨_, rfl⟩
        have HI9 := hide HI8.out
        have HG9 := hide HG8.out
        have HZ9 : Hid (Z9.length ≤ k + 1) := by show Z9.length ≤ k + 1; rw [hZ9]; have := HZ.out; omega
        rw [← hZ9] at HI9 HG9
        have HM9 := hide (OwnT.len HI9.out.row)
        have HL9 : Hid (T'.os.length ≤ 64) := by obtain ⟨F0, h0⟩ := HI9.out.at_; exact h0.ok.len
        obtain ⟨N, hN⟩ : ∃ N, N = T'.os.length := ⟨_, rfl⟩
        have HN := hide hN
        have hN64 : N ≤ 64 := by rw [hN]; exact HL9.out
        clear hZ9 hN
        go_loopw [14] (fun iv wr => ∃ (i : Nat), i ≤ N ∧ iv = .int .i64 (i : Int) ∧ Hid (ApI W g T' Z9 (.slice A1 m1 c1) wr)) (fun iv _ => N - (intOf iv).toNat)
        case atStart => exact ⟨0, Nat.zero_le _, rfl, HI9⟩
        case round =>
          obtain ⟨i, hiN, rfl, HIr⟩ := hrel
          rename World => wi
          obtain ⟨Fr, hFr⟩ := HIr.out.at_
          have HLN := hide (tlen_any hFr)
          rw [← HN.out] at HLN
          have HFR := hide hFr
          clear hFr
          go_wp2_with fail
          refine HLN.out.mono ?_
          rintro e w10 ⟨rfl, rfl⟩
          by_cases hi : i < N
          · have hi70 : i < 70 := by omega
            obtain ⟨p, hp⟩ : ∃ p, T'.os[i]? = some p := ⟨_, List.getElem?_eq_getElem (by rw [← HN.out]; exact hi)⟩
            have HP := hide hp
            have HAT := hide (tat_yes HFR.out hp)
            clear hp
            go_wp2_with fail
            refine HAT.out.mono ?_
            rintro e w11 ⟨Ap, np, cp, rfl, hpl, hk11⟩
            have HPL := hide (hpl.rd.no (Kp.alloc No w11 (.cells #[.int .u32 (p.num : Int), .string (strOf p.nm), .int .i64 p.ln, .int .i64 p.ct, .int .i64 p.pc, .slice Ap np cp] 54)))
            have HBp := hide (Bx.new w11 54 (obL p (.slice Ap np cp)))
            have HIp := hide (HIr.out.no (hk11.al (.cells #[.int .u32 (p.num : Int), .string (strOf p.nm), .int .i64 p.ln, .int .i64 p.ct, .int .i64 p.pc, .slice Ap np cp] 54)))
            have HAPT := hide (okO_apart (HFR.out.ok.rgt i p HP.out) HFR.out.ok.sl2)
            clear hpl hk11 HAT HLN
            go_wp2_with fail
            obtain ⟨bp, hbp⟩ : ∃ bp, bp = w11.heap.size := ⟨_, rfl⟩
            rw [← hbp] at HBp ⊢
            generalize (w11.alloc (.cells #[.int .u32 (p.num : Int), .string (strOf p.nm), .int .i64 p.ln, .int .i64 p.ct, .int .i64 p.pc, .slice Ap np cp] 54)) = w12 at HPL HBp HIp ⊢
            clear hbp
            go_loopw [17] (fun jv wr => ∃ (j : Nat), j ≤ m1 ∧ jv = .int .i64 (j : Int) ∧ Kp No w12 wr) (fun jv _ => m1 - (intOf jv).toNat)
            case atStart => exact ⟨0, Nat.zero_le _, rfl, Kp.refl _ _⟩
            case round =>
              obtain ⟨j, hjm, rfl, hkj⟩ := hrel
              have HKJ := hide hkj
              have y0 := (HBp.out.no hkj).cell (i := 0) rfl
              have y5 := (HBp.out.no hkj).cell (i := 5) rfl
              clear hkj
              by_cases hj : j < m1
              · obtain ⟨z, hz⟩ : ∃ z, Z9[j]? = some z := ⟨_, List.getElem?_eq_getElem (by rw [← HM9.out]; exact hj)⟩
                obtain ⟨gz, hA, _, _, _, cz⟩ := (HIp.out.row.no HKJ.out).cell (uC_get hz)
                have hne : ((p.num : Int) == (z : Int)) = false := by
                  have := (HG9.out z (List.mem_of_getElem? hz)).2 i p HP.out
                  exact beq_false_of_ne fun e => this (by omega)
                have HAG := hide hA
                have hmb : m1 ≤ 100 := by have := HZ9.out; have := HM9.out; have := HLT.out.1; have := HNL.out; omega
                clear hz hA y5
                have hA := HAG.out
                subst hA
                go_wp2_with fail
                go_quiet (fail)
                go_wp2_with fail
                go_round
                case rel => exact ⟨j + 1, by omega, by go_num, HKJ.out.drewN _⟩
                case measure => simp [intOf]; omega
              · obtain rfl : j = m1 := by omega
                have HPA := hide (apart_any (HPL.out.no HKJ.out) HAPT.out.1 HAPT.out.2)
                clear y0
                go_wp2_with fail
                refine HPA.out.mono ?_
                rintro e w13 ⟨rfl, hk13⟩
                have HI13 := hide (HIp.out.no (HKJ.out.trans' hk13))
                clear hk13 y5
                go_wp2_with fail
                go_round
                case rel => exact ⟨i + 1, by omega, by go_num, HI13⟩
                case measure => simp [intOf]; omega
          · obtain rfl : i = N := by omega
            go_wp2_with fail
            go_round
            case rel => exact ⟨k + 1, T', Z9, A1, m1, c1, by omega, by go_num, rfl, HIr, HG9, HZ9⟩
            case measure => simp [intOf]; omega
    · obtain rfl : k = n := by omega
      go_wp2_with fail
      refine (awake20_any _).mono ?_
      rintro e w9 ⟨rfl, hk9⟩
      go_wp2_with fail
      go_ret
      exact ⟨rfl, HI.out.kp.trans' hk9⟩
/-- The same, of numbers that fit a byte. -/
theorem tableapart_wf (W : World) (x y : Int) (hx : (Lit.int .u8 x).wf = true) (hy : (Lit.int .u8 y).wf = true) {A : Option Addr} {n c : Nat} {qs : List Oq} (h : Ops W A n qs) : Calls Try.prog 5 #[.int .u8 x, .int .u8 y, .slice A n c] W (TruePost W) := by
  have b0 := bounds_u8 hx
  have b1 := bounds_u8 hy
  obtain ⟨a, rfl⟩ := Int.eq_ofNat_of_zero_le b0.1
  obtain ⟨b, rfl⟩ := Int.eq_ofNat_of_zero_le b1.1
  exact tableapart_walk W a b (by omega) (by omega) h
end Go.Proofs.Ythicpblgonigcaa
