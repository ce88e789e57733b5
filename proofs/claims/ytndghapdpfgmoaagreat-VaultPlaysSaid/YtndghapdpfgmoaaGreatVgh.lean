/- The document's Read of layer 12, as a contract over memory; Names held against each other: laws at the operation; Names held against each other where a guard says yes. -/
import Derived.Test.YtndghapdpfgmoaaGreatVgg
import Derived.Test.YtndghapdpfgmoaaGreatVgd
namespace Go.Proofs.YtndghapdpfgmoaaGreat
open Go.RowKit
set_option linter.unusedVariables false
set_option linter.unusedSimpArgs false
set_option maxRecDepth 20000

def R12Post (w : World) (bs : List UInt8) (e : Ending) (w1 : World) : Prop :=
  ∃ A n c, e = .returned (.tuple #[shV (rdS bs), .slice A n c, .int .i64 (rdE bs : Int)]) ∧ Bts w1 (.slice A n c) (rdB bs) ∧ Kp No w w1
theorem R12Post.err {w w1 : World} {bs : List UInt8} {er : Int} (h : er ≠ 0 ∧ er = (rdE bs : Int)) (hk : Kp No w w1) : R12Post w bs (.returned (.tuple #[.agg #[.int .u32 0, .int .u16 0, .int .u16 0, .int .u32 0], .slice none 0 0, .int .i64 er])) w1 := by
  have hs : rdS bs = 0 := by unfold rdS; rw [if_neg (by omega)]
  have hb : rdB bs = [] := by unfold rdB; rw [if_neg (by omega)]
  refine ⟨none, 0, 0, ?_, by rw [hb]; exact Bts.nil _, hk⟩
  rw [hs, h.2]
  rfl
set_option maxHeartbeats 4000000 in
theorem rread12_any {w : World} {A : Option Addr} {n c : Nat} {bs : List UInt8} (hb : Bts w (.slice A n c) bs) (hnc : n ≤ c) (hbig : n ≤ 900000000) : Calls Tryz.prog 23 #[.slice A n c] w (R12Post w bs) := by
  have HLN := hide hb.len
  obtain ⟨er, her⟩ : ∃ q, q = opE bs := ⟨_, rfl⟩
  obtain ⟨kd, hkd⟩ : ∃ q, q = opK bs := ⟨_, rfl⟩
  obtain ⟨ld, hld⟩ : ∃ q, q = opL bs := ⟨_, rfl⟩
  have HER := hide her
  have HKD := hide hkd
  have HLD := hide hld
  have HB := hide hb
  have hopen := ropen_any (hb.no (Kp.alloc No w (.cells #[.int .u32 0, .int .u16 0, .int .u16 0, .int .u32 0] 46))) hnc hbig
  rw [← her, ← hkd, ← hld] at hopen
  clear her hkd hld hb
  go_enter Tryz.func23, Tryz.ntmps23
  go_wp2_with fail
  have R0 : Box4 (w.alloc (.cells #[.int .u32 0, .int .u16 0, .int .u16 0, .int .u32 0] 46)) w.heap.size (.int .u32 0) (.int .u16 0) (.int .u16 0) (.int .u32 0) := Bx4.new w _ _ _ _
  have K0 : Kp No w (w.alloc (.cells #[.int .u32 0, .int .u16 0, .int .u16 0, .int .u32 0] 46)) := Kp.alloc No w _
  refine hopen.mono ?_
  rintro e w1 ⟨A5, n5, c5, rfl, r5, hall, hk5⟩
  have R9 := R0.keep hk5 (fun f => f)
  have K9 := K0.trans' hk5
  have hld5 := hall _ (HB.out.no K9)
  have hn5 := hld5.len
  have HL5 := hide hld5
  have hs1 : w.heap.size < w1.heap.size := by have := hk5.size; simp at this; omega
  clear R0 K0 hk5 hall hopen hld5
  by_cases h0 : er = 0
  · subst h0
    have hN := opN_eq HER.out.symm
    rw [← HLD.out] at hN
    have hkdl : kd < 65536 := by rw [HKD.out]; unfold opK; rw [if_pos HER.out.symm]; exact kdO_lt bs
    have hldl : n5 ≤ 900000000 := by have := HLN.out; omega
    have HN5 := hide hn5
    clear hN hn5
    by_cases hk1 : kd = 1
    · subst hk1
      by_cases hsh : n5 < 12
      · have HFin : Hid ((21 : Int) ≠ 0 ∧ (21 : Int) = (rdE bs : Int)) := hide ⟨by omega, by rw [rdE_no HER.out.symm (by rw [← HLD.out]; have := HN5.out; omega)]; rfl⟩
        have hz : (n5 : Int) < 12 := by omega
        obtain ⟨t0, t1, t2, t3⟩ := R9.cell
        have g0 := R9.frozen 0
        have g1 := R9.frozen 1
        have g2 := R9.frozen 2
        have g3 := R9.frozen 3
        have R10 := R9.all (.int .u32 0) (.int .u16 0) (.int .u16 0) (.int .u32 0)
        obtain ⟨q0, q1, q2, q3⟩ := R10.cell
        have K10 := K9.trans (kp4 (S := Up No w) _ w.heap.size (.int .u32 0) (.int .u16 0) (.int .u16 0) (.int .u32 0) (.inr (Nat.le_refl _)))
        have HK10 := hide K10
        clear K10 R10 K9 R9
        go_wp2_with fail
        refine bodyPost_ret (v := .tuple #[.agg #[.int .u32 0, .int .u16 0, .int .u16 0, .int .u32 0], .slice none 0 0, .int .i64 21]) (by simp [results, Tryz.results23, go_sem, q0, q1, q2, q3]) rfl ?_
        exact R12Post.err HFin.out HK10.out
      · have hz : ¬ (n5 : Int) < 12 := by omega
        by_cases hnn : n = 12 + n5
        · have HOK : Hid (rdE bs = 0) := by show _ = _; exact rdE_yes HER.out.symm (by rw [← HLD.out, ← HKD.out]; have := HN5.out; have := HLN.out; omega)
          have hzz : ((n : Int) != 12 + (n5 : Int)) = false := by simp; omega
          have HT0 : Hid (TkAt (w1.alloc (.cells #[.slice A5 n5 c5, .bool false] 108)) w1.heap.size ld) := ⟨A5, n5, c5, TkB.new w1 _, HL5.out.no (Kp.alloc No w1 _), r5⟩
          have hz12 : 12 ≤ ld.length := by have := HN5.out; omega
          have HZ12 := hide hz12
          have HK9 := hide (K9.trans' (Kp.alloc No w1 (.cells #[.slice A5 n5 c5, .bool false] 108)))
          have HR9 := hide (R9.keep (Kp.alloc No w1 (.cells #[.slice A5 n5 c5, .bool false] 108)) fun f => f)
          have HW : Hid (w.heap.size ≠ w1.heap.size) := by show _ ≠ _; omega
          have HX : Hid (w.heap.size < w1.heap.size) := hs1
          clear hnn hz12 R9 K9 hs1
          go_wp2_with fail
          refine (tshard_any HT0.out HZ12.out).mono ?_
          rintro e w2 ⟨rfl, ht2, k2⟩
          have R2 := HR9.out.keep k2 HW.out
          have K2 : Kp No w w2 := HK9.out.trans (k2.mono fun q hq => .inr (by subst hq; exact Nat.le_of_lt HX.out))
          have hz2 : w1.heap.size < w2.heap.size := ht2.lt
          obtain ⟨t, hnm⟩ : ∃ t, t = nmO ld := ⟨_, rfl⟩
          rw [← hnm]
          have HNM := hide hnm
          have R3 := R2.keep (Kp.alloc No w2 (.cells #[.int .u32 (cO t : Int), .int .u16 (cS t : Int), .int .u16 (cL t : Int), .int .u32 (cG t : Int)] 46)) fun f => f
          have ht3 := ht2.no (Kp.alloc No w2 (.cells #[.int .u32 (cO t : Int), .int .u16 (cS t : Int), .int .u16 (cL t : Int), .int .u32 (cG t : Int)] 46))
          have K3 := K2.trans' (Kp.alloc No w2 (.cells #[.int .u32 (cO t : Int), .int .u16 (cS t : Int), .int .u16 (cL t : Int), .int .u32 (cG t : Int)] 46))
          have B3 := Bx4.new w2 (.int .u32 (cO t : Int)) (.int .u16 (cS t : Int)) (.int .u16 (cL t : Int)) (.int .u32 (cG t : Int))
          clear R2 K2 ht2 k2 hnm
          go_upto_region 8 with fail
          generalize w2.alloc (.cells #[.int .u32 (cO t : Int), .int .u16 (cS t : Int), .int .u16 (cL t : Int), .int .u32 (cG t : Int)] 46) = w3 at R3 ht3 K3 B3 ⊢
          generalize w2.heap.size = s2 at hz2 B3 ⊢
          obtain ⟨A6, n6, c6, tb6, hb6, _⟩ := ht3
          have x0 := tb6.c0
          obtain ⟨t0, t1, t2, t3⟩ := R3.cell
          have g0 := R3.frozen 0
          have g1 := R3.frozen 1
          have g2 := R3.frozen 2
          have g3 := R3.frozen 3
          obtain ⟨y0, y1, y2, y3⟩ := B3.cell
          have R10 := R3.all (.int .u32 (cO t : Int)) (.int .u16 (cS t : Int)) (.int .u16 (cL t : Int)) (.int .u32 (cG t : Int))
          obtain ⟨q0, q1, q2, q3⟩ := R10.cell
          have K10 := K3.trans (kp4 (S := Up No w) _ w.heap.size (.int .u32 (cO t : Int)) (.int .u16 (cS t : Int)) (.int .u16 (cL t : Int)) (.int .u32 (cG t : Int)) (.inr (Nat.le_refl _)))
          have hb10 := R3.stay hb6 (kp4 (S := fun k => k = w.heap.size) _ w.heap.size (.int .u32 (cO t : Int)) (.int .u16 (cS t : Int)) (.int .u16 (cL t : Int)) (.int .u32 (cG t : Int)) rfl)
          have HQ := hide (And.intro hb10 K10)
          have n1 : ¬ w1.heap.size = w.heap.size := by have := HX.out; omega
          have n2 : ¬ s2 = w.heap.size := by have := HX.out; omega
          clear hb10 K10 R10 K3 R3 B3 tb6 hb6
          go_region
          go_wp2_with fail
          refine bodyPost_ret (v := .tuple #[shV t, .slice A6 n6 c6, .int .i64 0]) (by simp [results, Tryz.results23, go_sem, q0, q1, q2, q3]) rfl ?_
          refine ⟨A6, n6, c6, ?_, ?_, ?_⟩
          · rw [HOK.out]; unfold rdS; rw [if_pos HOK.out, HNM.out, HLD.out]; rfl
          · unfold rdB; rw [if_pos HOK.out, ← HLD.out]; exact HQ.out.1
          · exact HQ.out.2.drew
        · have HFin : Hid ((21 : Int) ≠ 0 ∧ (21 : Int) = (rdE bs : Int)) := hide ⟨by omega, by rw [rdE_no HER.out.symm (by rw [← HLD.out]; have := HN5.out; have := HLN.out; omega)]; rfl⟩
          have hzz : ((n : Int) != 12 + (n5 : Int)) = true := by simp; omega
          obtain ⟨t0, t1, t2, t3⟩ := R9.cell
          have g0 := R9.frozen 0
          have g1 := R9.frozen 1
          have g2 := R9.frozen 2
          have g3 := R9.frozen 3
          have R10 := R9.all (.int .u32 0) (.int .u16 0) (.int .u16 0) (.int .u32 0)
          obtain ⟨q0, q1, q2, q3⟩ := R10.cell
          have K10 := K9.trans (kp4 (S := Up No w) _ w.heap.size (.int .u32 0) (.int .u16 0) (.int .u16 0) (.int .u32 0) (.inr (Nat.le_refl _)))
          have HK10 := hide K10
          clear K10 R10 K9 R9
          go_wp2_with fail
          refine bodyPost_ret (v := .tuple #[.agg #[.int .u32 0, .int .u16 0, .int .u16 0, .int .u32 0], .slice none 0 0, .int .i64 21]) (by simp [results, Tryz.results23, go_sem, q0, q1, q2, q3]) rfl ?_
          exact R12Post.err HFin.out HK10.out
    · have HFin : Hid ((21 : Int) ≠ 0 ∧ (21 : Int) = (rdE bs : Int)) := hide ⟨by omega, by rw [rdE_no HER.out.symm (by rw [← HKD.out]; omega)]; rfl⟩
      have hkne : ((kd : Int) != 1) = true := by simp; omega
      clear hk1
      obtain ⟨t0, t1, t2, t3⟩ := R9.cell
      have g0 := R9.frozen 0
      have g1 := R9.frozen 1
      have g2 := R9.frozen 2
      have g3 := R9.frozen 3
      have R10 := R9.all (.int .u32 0) (.int .u16 0) (.int .u16 0) (.int .u32 0)
      obtain ⟨q0, q1, q2, q3⟩ := R10.cell
      have K10 := K9.trans (kp4 (S := Up No w) _ w.heap.size (.int .u32 0) (.int .u16 0) (.int .u16 0) (.int .u32 0) (.inr (Nat.le_refl _)))
      have HK10 := hide K10
      clear K10 R10 K9 R9
      go_wp2_with fail
      refine bodyPost_ret (v := .tuple #[.agg #[.int .u32 0, .int .u16 0, .int .u16 0, .int .u32 0], .slice none 0 0, .int .i64 21]) (by simp [results, Tryz.results23, go_sem, q0, q1, q2, q3]) rfl ?_
      exact R12Post.err HFin.out HK10.out
  · have hne : ((er : Int) != 0) = true := by simp; omega
    have HFin : Hid ((er : Int) ≠ 0 ∧ (er : Int) = (rdE bs : Int)) := hide ⟨by omega, by rw [rdE_opE (by rw [← HER.out]; exact h0), HER.out]⟩
    clear h0
    obtain ⟨t0, t1, t2, t3⟩ := R9.cell
    have g0 := R9.frozen 0
    have g1 := R9.frozen 1
    have g2 := R9.frozen 2
    have g3 := R9.frozen 3
    have R10 := R9.all (.int .u32 0) (.int .u16 0) (.int .u16 0) (.int .u32 0)
    obtain ⟨q0, q1, q2, q3⟩ := R10.cell
    have K10 := K9.trans (kp4 (S := Up No w) _ w.heap.size (.int .u32 0) (.int .u16 0) (.int .u16 0) (.int .u32 0) (.inr (Nat.le_refl _)))
    have HK10 := hide K10
    clear K10 R10 K9 R9
    go_wp2_with fail
    refine bodyPost_ret (v := .tuple #[.agg #[.int .u32 0, .int .u16 0, .int .u16 0, .int .u32 0], .slice none 0 0, .int .i64 er]) (by simp [results, Tryz.results23, go_sem, q0, q1, q2, q3]) rfl ?_
    exact R12Post.err HFin.out HK10.out
end Go.Proofs.YtndghapdpfgmoaaGreat
namespace Go.Proofs.YtndghapdpfgmoaaGreat
open Go.RowKit
set_option linter.unusedVariables false
set_option linter.unusedSimpArgs false
set_option maxRecDepth 20000

theorem sh_equal (w : World) {s t : Nat} (hs : s < N96) (ht : t < N96) : (Op.equal 46 (shV s) (shV t)).run Tryz.prog w = .ok (s == t) w := by
  obtain ⟨r, h1, h2⟩ := run_equal_deep w (P := Tryz.prog) (m := 2) (by omega) (k := 46) (by kernel_rfl) sh_wide (key_kl hs) (key_kl ht)
  rw [h1]
  congr 1
  by_cases e : s = t
  · subst e
    rw [h2.2 rfl]
    simp
  · cases r
    · simp [e]
    · exact absurd (kl_inj hs ht (h2.1 rfl)) e
theorem sh_guard : Tryz.prog.eqGuardType Tryz.prog.depth 46 = false := by kernel_rfl
section
variable {w : World} {s t : Nat} {ops : Array Oper} {rest : List Oper} {o : Oper} {a : Act} {Q : Exit → Act → World → Prop}
theorem run_sneq (w : World) (hs : s < N96) (ht : t < N96) (x y : Operand) : (do eqGuard .neq 46 x y (shV s) (shV t); binOp .neq 46 (shV s) (shV t)).run Tryz.prog w = .ok (.bool (!(s == t))) w := by
  have hq := sh_equal w hs ht
  have hg := sh_guard
  simp [eqGuard, binOp, hg, hq, Sem.run_bind, Result.andThen]
theorem wpList_sneq (hg : o.guard = none) (x y : Operand) (hop : o.op = Op.binOp .neq 46 x y 46) (hx : a.eval x = shV s) (hy : a.eval y = shV t) (hs : s < N96) (ht : t < N96) (r : Bool) (hr : (!(s == t)) = r)
    (hK : wpList Tryz.prog ops Q rest (a.put o.dst (.bool r)) w) : wpList Tryz.prog ops Q (o :: rest) a w := by
  subst hr
  refine wpList_plain hg fun K' hK' => ?_
  have hq := sh_equal w hs ht
  have hgd := sh_guard
  unfold Oper.wp
  simp [execOp, hop, hx, hy, eqGuard, binOp, hgd, hq, Result.andThen]
  exact hK' _ _ hK
end
end Go.Proofs.YtndghapdpfgmoaaGreat
namespace Go.Proofs.YtndghapdpfgmoaaGreat
open Go.RowKit
set_option linter.unusedVariables false
set_option linter.unusedSimpArgs false
set_option maxRecDepth 20000

theorem wpList_seql_want {w : World} {s t : Nat} {ops : Array Oper} {rest : List Oper} {o : Oper} {a : Act} {Q : Exit → Act → World → Prop} (hg : Region.wanted o (yielded ops a.tmps) = true) (x y : Operand) (hop : o.op = Op.binOp .eql 46 x y 46) (hx : a.eval x = shV s) (hy : a.eval y = shV t) (hs : s < N96) (ht : t < N96) (r : Bool) (hr : (s == t) = r)
    (hK : wpList Tryz.prog ops Q rest (a.put o.dst (.bool r)) w) : wpList Tryz.prog ops Q (o :: rest) a w := by
  subst hr
  refine BigFrame.wpList_want hg fun K' hK' => ?_
  have hq := sh_equal w hs ht
  have hgd := sh_guard
  unfold Oper.wp
  simp [execOp, hop, hx, hy, eqGuard, binOp, hgd, hq, Result.andThen]
  exact hK' _ _ hK
end Go.Proofs.YtndghapdpfgmoaaGreat
