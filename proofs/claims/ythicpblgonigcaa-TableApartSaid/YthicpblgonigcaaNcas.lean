/- Package table's Apply, as a contract; calls of a nil table. No condition. -/
import Derived.Test.YthicpblgonigcaaNcar
namespace Go.Proofs.Ythicpblgonigcaa
open Go.RowKit
set_option linter.unusedVariables false
set_option linter.unusedSimpArgs false
set_option maxRecDepth 20000

theorem TbPost.step {w W0 w1 : World} {F : Nat → Prop} {g : Nat} {T : Tb} {z : Int} {e : Ending} (hk : Kp No w W0) (h : TbPost W0 F g T z e w1) : TbPost w F g T z e w1 :=
  ⟨h.1, h.2.1.mono fun k _ hf => hf.elim .inl fun e => .inr (Nat.le_trans hk.size e), (hk.of_no F).trans' h.2.2⟩
section
variable {T : Tb} {q : Oq}
theorem app1 (h : q.kd = 1) : T.app q = T.bg q.o.num ∧ T.appE q = T.bgE q.o.num := by unfold Tb.app Tb.appE; rw [if_pos h, if_pos h]; exact ⟨rfl, rfl⟩
theorem app2 (h : q.kd = 2) : T.app q = T.cmt q.o ∧ T.appE q = T.cmtE q.o := by
  unfold Tb.app Tb.appE
  simp only [h]
  exact ⟨rfl, rfl⟩
theorem app3 (h : q.kd = 3) : T.app q = T.rem q.o.nm ∧ T.appE q = T.remE q.o.nm := by
  unfold Tb.app Tb.appE
  simp only [h]
  exact ⟨rfl, rfl⟩
theorem app4 (h : q.kd = 4) : T.app q = T.mv q ∧ T.appE q = T.mvE q := by
  unfold Tb.app Tb.appE
  simp only [h]
  exact ⟨rfl, rfl⟩
theorem app5 (h1 : q.kd ≠ 1) (h2 : q.kd ≠ 2) (h3 : q.kd ≠ 3) (h4 : q.kd ≠ 4) : T.app q = T ∧ T.appE q = 1 := by
  unfold Tb.app Tb.appE
  simp only [h1, h2, h3, h4, if_false]
  exact ⟨trivial, trivial⟩
end
section
variable {w : World} {F G : Nat → Prop} {g : Nat} {T : Tb} {q : Oq} {v : Value}
set_option maxHeartbeats 4000000 in
theorem tapply_any (h : TbAt w F g T) (hv : RdP w G v q.o.pl) (hn : q.o.pl.length ≤ 1000000000000000) (hP : ∀ l ∈ q.o.pl, l.length ≤ 1000000000000000) (hnm : q.o.nm.length ≤ 1000) :
    Calls Try.prog 11 #[.pointer (some ⟨g, 0, none⟩), oqV q v] w (TbPost w F g (T.app q) (T.appE q)) := by
  obtain ⟨A2, c2, hz⟩ := hv.form
  subst hz
  obtain ⟨m, hm⟩ : ∃ m, m = q.o.pl.length := ⟨_, rfl⟩
  rw [← hm] at hv ⊢
  have hka := Kp.alloc No w (.cells #[.int .i64 q.kd, .int .u32 (q.o.num : Int), .string (strOf q.o.nm), .int .i64 q.o.ln, .int .i64 q.o.ct, .int .i64 q.o.pc, .slice A2 m c2, .int .i64 q.st, .int .i64 q.so, .int .i64 q.tn, .int .u32 (q.tg : Int)] 48)
  have HMD := hide (tmade_any (h.no hka))
  have HBG := hide (tbegin_any (h.no hka) q.o.num)
  have HCM := hide (tcommit_any (h.no hka) (hv.no hka) hn hP hnm)
  have HRM := hide (tremove_any (h.no hka) q.o.nm)
  have HMV := hide (tmove_any (q := q) (A2 := A2) (m := m) (c2 := c2) (h.no hka))
  have HSM := hide (TbPost.same (h.no hka) (Kp.refl _ _) 1)
  have HK := hide hka
  clear h hv hn hP hnm hka hm
  show Calls Try.prog 11 #[.pointer (some ⟨g, 0, none⟩), .agg #[.int .i64 q.kd, .int .u32 (q.o.num : Int), .string (strOf q.o.nm), .int .i64 q.o.ln, .int .i64 q.o.ct, .int .i64 q.o.pc, .slice A2 m c2, .int .i64 q.st, .int .i64 q.so, .int .i64 q.tn, .int .u32 (q.tg : Int)]] w _
  by_cases h1 : q.kd = 1
  · have HA := hide (app1 (T := T) h1)
    have t1 : (q.kd == 1) = true := by simp [h1]
    clear h1
    go_enter Try.func11, Try.ntmps11
    go_wp2_with fail
    refine HMD.out.mono ?_
    rintro e w0 ⟨rfl, rfl⟩
    go_wp2_with fail
    refine HBG.out.mono ?_
    rintro e w1 hp
    obtain rfl := hp.1
    go_wp2_with fail
    go_ret
    rw [HA.out.1, HA.out.2]
    exact TbPost.step HK.out hp
  have t1 : (q.kd == 1) = false := by simp [h1]
  by_cases h2 : q.kd = 2
  · have HA := hide (app2 (T := T) h2)
    have t2 : (q.kd == 2) = true := by simp [h2]
    clear h1 h2
    go_enter Try.func11, Try.ntmps11
    go_wp2_with fail
    refine HMD.out.mono ?_
    rintro e w0 ⟨rfl, rfl⟩
    go_wp2_with fail
    refine HCM.out.mono ?_
    rintro e w1 hp
    obtain rfl := hp.1
    go_wp2_with fail
    go_ret
    rw [HA.out.1, HA.out.2]
    exact TbPost.step HK.out hp
  have t2 : (q.kd == 2) = false := by simp [h2]
  by_cases h3 : q.kd = 3
  · have HA := hide (app3 (T := T) h3)
    have t3 : (q.kd == 3) = true := by simp [h3]
    clear h1 h2 h3
    go_enter Try.func11, Try.ntmps11
    go_wp2_with fail
    refine HMD.out.mono ?_
    rintro e w0 ⟨rfl, rfl⟩
    go_wp2_with fail
    refine HRM.out.mono ?_
    rintro e w1 hp
    obtain rfl := hp.1
    go_wp2_with fail
    go_ret
    rw [HA.out.1, HA.out.2]
    exact TbPost.step HK.out hp
  have t3 : (q.kd == 3) = false := by simp [h3]
  by_cases h4 : q.kd = 4
  · have HA := hide (app4 (T := T) h4)
    have t4 : (q.kd == 4) = true := by simp [h4]
    clear h1 h2 h3 h4
    go_enter Try.func11, Try.ntmps11
    go_wp2_with fail
    refine HMD.out.mono ?_
    rintro e w0 ⟨rfl, rfl⟩
    go_wp2_with fail
    refine HMV.out.mono ?_
    rintro e w1 hp
    obtain rfl := hp.1
    go_wp2_with fail
    go_ret
    rw [HA.out.1, HA.out.2]
    exact TbPost.step HK.out hp
  · have HA := hide (app5 (T := T) h1 h2 h3 h4)
    have t4 : (q.kd == 4) = false := by simp [h4]
    clear h1 h2 h3 h4
    go_enter Try.func11, Try.ntmps11
    go_wp2_with fail
    refine HMD.out.mono ?_
    rintro e w0 ⟨rfl, rfl⟩
    go_wp2_with fail
    go_ret
    rw [HA.out.1, HA.out.2]
    exact TbPost.step HK.out HSM.out
end
end Go.Proofs.Ythicpblgonigcaa
