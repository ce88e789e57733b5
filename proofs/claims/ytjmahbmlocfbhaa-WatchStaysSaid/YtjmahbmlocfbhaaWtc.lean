/- mark, Heard, Tick and Count of package watch, each as a contract. No condition. -/
import Derived.Test.YtjmahbmlocfbhaaWtb
import Derived.Deep.DeepCutAuto
namespace Go.Proofs.Ytjmahbmlocfbhaa
open Go.RowKit
set_option linter.unusedVariables false
set_option maxRecDepth 20000
set_option linter.unusedSimpArgs false

section
variable {w w1 w2 : World} {F S : Nat → Prop} {g ga c b i : Nat} {T T' : Wt}
theorem SAt.exec (h : SAt w b T i) {o : Oper} {a : Act} (x : Operand) (ho : o.op = .load 52 x) (hx : a.eval x = .pointer (some ⟨b, 0, none⟩)) : (execOp a.eval o).run Try.prog w = .ok (.value (.agg (stA T i))) w := by
  unfold execOp
  simp only [ho, hx, h.load, Sem.run_bind, Sem.run_pure, Result.andThen_ok]
theorem stneq_exec (w : World) (T T' : Wt) {o : Oper} {a : Act} (x y : Operand) (ho : o.op = Op.binOp .neq 52 x y 52) (hx : a.eval x = .agg (stA T' 32)) (hy : a.eval y = .agg (stA T 32)) : (execOp a.eval o).run Try.prog w = .ok (.value (.bool (tnd T T' 32))) w := by
  have hq := st_equal w T T'
  have hg := st_guard
  simp [execOp, ho, hx, hy, eqGuard, binOp, hg, hq, Result.andThen]
/-- The epoch is written. -/
theorem WtR.setEp (h : WtR w F g T ga c) (n : Nat) : WtR (w.setCell ⟨g, 4, none⟩ (.int .i64 (n : Int))) F g ⟨T.late, T.gone, T.hs, T.now, n⟩ ga c :=
  ⟨heap_setCell_same w g 4 _ _ _ h.blk, h.row.keep (Kp.setCell (p := ⟨g, 4, none⟩) (S := fun q => q = g) rfl _) fun e => h.apart e.symm, h.fg, h.fa, h.cap, ⟨h.ok.l1, h.ok.lg, h.ok.g1, h.ok.n1, h.ok.n2, h.ok.hh, h.ok.tk⟩⟩
/-- The tick is written. -/
theorem WtR.setNow (h : WtR w F g T ga c) (k : Nat) (hk : T.now + k ≤ 1099511627776) : WtR (w.setCell ⟨g, 3, none⟩ (.int .i64 ((T.now + k : Nat) : Int))) F g (T.tck0 k) ga c :=
  ⟨heap_setCell_same w g 3 _ _ _ h.blk, h.row.keep (Kp.setCell (p := ⟨g, 3, none⟩) (S := fun q => q = g) rfl _) fun e => h.apart e.symm, h.fg, h.fa, h.cap, Wt.tck0_ok h.ok hk⟩
/-- A node was heard. -/
theorem WtR.setHs (h : WtR w F g T ga c) (k : Nat) : WtR (w.setCell ⟨ga, k, none⟩ (.int .i64 (T.now : Int))) F g (T.hrd0 k) ga c := by
  have hb := ((Kp.setCell (w := w) (p := ⟨ga, k, none⟩) (S := fun q => q = ga) rfl (.int .i64 (T.now : Int))).block g h.glt h.apart).trans h.blk
  have e : wtC (T.hrd0 k) ga c = wtC T ga c := by
    unfold wtC
    rw [T.hrd0_len]
    rfl
  rw [← e] at hb
  exact ⟨hb, h.row.set k T.now, h.fg, h.fa, by rw [T.hrd0_len]; exact h.cap, Wt.hrd0_ok h.ok k⟩

/-- What a call that turns a watch comes to. -/
def WkPost (w : World) (F : Nat → Prop) (g : Nat) (T' : Wt) (v : Value) (e : Ending) (w1 : World) : Prop := e = .returned v ∧ WtAt w1 F g T' ∧ Kp F w w1
set_option maxHeartbeats 1000000 in
theorem wmark_any (h : WtAt w F g T') (he : T'.ep ≤ 1000000) (T : Wt) : Calls Try.prog 20 #[.pointer (some ⟨g, 0, none⟩), .agg (stA T 32)] w (WkPost w F g (T.next T') (.tuple #[])) := by
  have h1 := h.no (Kp.alloc No w (.cells (stA T 32) 52))
  have s1 : SAt (w.alloc (.cells (stA T 32) 52)) w.heap.size T 32 := heap_alloc_new w _
  have HK := hide (Kp.alloc No w (.cells (stA T 32) 52))
  go_enter Try.func20, Try.ntmps20
  go_wp2_with fail
  have HH := hide h1
  have HS := hide s1
  clear h h1 s1
  generalize w.alloc (.cells (stA T 32) 52) = w2 at HK HH HS ⊢
  obtain ⟨s, hs⟩ : ∃ s, s = w.heap.size := ⟨_, rfl⟩
  rw [← hs] at HS ⊢
  clear hs
  refine wp_region_noPanic ?_
  refine wp_region_held_drew (S := fun w' => SAt w' s T 32 ∧ WtAt w' F g T' ∧ Kp No w w') (by kernel_rfl) (⟨HS.out, HH.out.no (Kp.refl No _).drew, HK.out.drew⟩) (fun hHeld => ?_)
  refine wpAnyH_take (i := 0) (v := ?vmkx1) (oi := ?omkx1) ?hmkx1 (by kernel_rfl) (by kernel_rfl) (by kernel_rfl) (fun _ _ _ h => h) (Or.inl ⟨?wmkx1, ?ymkx1⟩) hHeld ?rmkx1
  case hmkx1 => simp only [List.getElem?_toArray, List.getElem?_cons_zero, List.getElem?_cons_succ]; rfl
  case wmkx1 => rfl
  case ymkx1 => intro w hSw; (try dsimp only at hSw); go_simp; (try with_reducible rfl)
  simp only [Act.put, List.setIfInBounds_toArray, List.set_cons_zero, List.set_cons_succ]
  refine wpAnyH_take (i := 2) (v := ?vmkx2) (oi := ?omkx2) ?hmkx2 (by kernel_rfl) (by kernel_rfl) (by kernel_rfl) (fun _ _ _ h => h) (Or.inl ⟨?wmkx2, ?ymkx2⟩) hHeld ?rmkx2
  case hmkx2 => simp only [List.getElem?_toArray, List.getElem?_cons_zero, List.getElem?_cons_succ]; rfl
  case wmkx2 => rfl
  case ymkx2 =>
    intro w hSw
    (try dsimp only at hSw)
    refine (hSw.1.exec (.tmp 3) ?_ ?_).trans ?_
    · rfl
    · rfl
    · rfl
  simp only [Act.put, List.setIfInBounds_toArray, List.set_cons_zero, List.set_cons_succ]
  refine wpAnyH_ready (rs := [1]) (by kernel_rfl) (by simp) ?_
  refine AllReadyH.cons (o := ?omkx3) ?hmkx3 (fun K hK => ?smkx3) AllReadyH.nil
  case hmkx3 => simp only [List.getElem?_toArray, List.getElem?_cons_zero, List.getElem?_cons_succ]; rfl
  go_simp
  refine (wstates_any hHeld.2.1).mono ?_
  rintro e w3 ⟨rfl, k3⟩
  go_simp
  refine hK.out _ _ (⟨hHeld.1.no k3, hHeld.2.1.no k3, hHeld.2.2.trans' k3⟩) (fun hHeld => ?_)
  clear hK K
  try simp only [Act.put, List.setIfInBounds_toArray, List.set_cons_zero, List.set_cons_succ]
  refine wpAnyH_take (i := 3) (v := ?vmkx4) (oi := ?omkx4) ?hmkx4 (by kernel_rfl) (by kernel_rfl) (by kernel_rfl) (fun _ _ _ h => h) (Or.inl ⟨?wmkx4, ?ymkx4⟩) hHeld ?rmkx4
  case hmkx4 => simp only [List.getElem?_toArray, List.getElem?_cons_zero, List.getElem?_cons_succ]; rfl
  case wmkx4 => rfl
  case ymkx4 =>
    intro w hSw
    (try dsimp only at hSw)
    refine (stneq_exec _ T T' (.tmp 5) (.tmp 6) ?_ ?_ ?_).trans ?_
    · rfl
    · rfl
    · rfl
    · rfl
  simp only [Act.put, List.setIfInBounds_toArray, List.set_cons_zero, List.set_cons_succ]
  refine wpAnyH_done (by kernel_rfl) ?_ _
  refine NoPanic.normal ?_
  obtain ⟨hHS, hHW, hHK⟩ := hHeld
  rename_i w9
  have HW := hide hHW
  have HK9 := hide hHK
  clear hHS hHW hHK HH HS HK
  cases hb : tnd T T' 32
  · have e : T.next T' = T' := by unfold Wt.next; rw [hb]; rfl
    rw [← e] at HW
    go_wp2_with fail
    go_end0
    exact ⟨rfl, HW.out, HK9.out.of_no F⟩
  · have e : T.next T' = ⟨T'.late, T'.gone, T'.hs, T'.now, T'.ep + 1⟩ := by unfold Wt.next; rw [hb]; rfl
    have HE := hide e
    obtain ⟨ga, c, hr⟩ := HW.out
    have x4 := hr.c4
    have xf := hr.fz 4
    have HR := hide hr
    clear hr e
    go_wp2_with fail
    go_end0
    have e2 : ((T'.ep : Int) + 1) = ((T'.ep + 1 : Nat) : Int) := by omega
    rw [e2]
    exact ⟨rfl, by rw [HE.out]; exact ⟨ga, c, HR.out.setEp _⟩, (HK9.out.of_no F).trans' (Kp.setCell (p := ⟨g, 4, none⟩) (S := F) HR.out.fg _)⟩

set_option maxHeartbeats 1000000 in
theorem wheard_any (h : WtAt w F g T) (he : T.ep ≤ 1000000) (hF : ∀ k, F k → k < w.heap.size) (z : Int) : Calls Try.prog 12 #[.pointer (some ⟨g, 0, none⟩), .int .i64 z] w (WkPost w F g (T.hrd z) (.bool (decide (T.In z)))) := by
  have HH := hide (whas_any h z)
  have hb := (zero_of_info (P := Try.prog) st_info).1
  by_cases hz : T.In z
  · obtain ⟨k, rfl⟩ : ∃ k : Nat, z = k := ⟨z.toNat, by have := hz.1; omega⟩
    have hk : k < T.hs.length := by have := hz.2; omega
    have hd : decide (T.In (k : Int)) = true := decide_eq_true hz
    have hn2 := h.ok.n2
    have hhr : T.hrd (k : Int) = T.next (T.hrd0 k) := by unfold Wt.hrd; rw [if_pos hz, Int.toNat_natCast]
    rw [hd, hhr]
    rw [hd] at HH
    have HW := hide h
    have HFF := hide hF
    clear h hz hd hhr hF
    go_enter Try.func12, Try.ntmps12
    go_wp2_with fail
    refine HH.out.mono ?_
    rintro e w1 ⟨rfl, rfl⟩
    go_wp2_with fail
    refine (wstates_any HW.out).mono ?_
    rintro e w2 ⟨rfl, k2⟩
    have hs0 : SAt (w2.alloc (.cells stZ 52)) w2.heap.size T 0 := by
      unfold SAt
      rw [stA_zero]
      exact heap_alloc_new w2 _
    have HS0 := hide hs0
    have HK2 := hide (k2.al (.cells stZ 52))
    have hsz := k2.size
    clear k2 hs0
    go_upto_region 4 with (refine HS0.out.wstore T 32 rfl _ _ rfl rfl rfl ?_)
    have hs3 := HS0.out.row T 32
    have k3 := HK2.out.trans (Kp.setRow (S := Up No w) (.inr hsz) (stA T 32))
    generalize (w2.alloc (.cells stZ 52)).setRow w2.heap.size (stA T 32) = w3 at hs3 k3 ⊢
    generalize w2.heap.size = s at hs3 hsz ⊢
    obtain ⟨ga, c, hr⟩ := HW.out.no k3
    have x2 : w3.drew.cell? ⟨g, 2, none⟩ = some (.slice (some ⟨ga, 0, none⟩) T.hs.length c) := hr.c2
    have x3 : w3.drew.cell? ⟨g, 3, none⟩ = some (.int .i64 (T.now : Int)) := hr.c3
    have xk : w3.drew.cell? ⟨ga, k, none⟩ = some (.int .i64 ((T.hs[k] : Nat) : Int)) := hr.row.cell (List.getElem?_eq_getElem hk)
    have xf : w3.drew.frozen? ⟨ga, k, none⟩ = false := hr.row.fz k
    have HR := hide hr
    have HS3 := hide hs3
    have HK3 := hide k3
    clear hs3 k3 hr HS0 HK2
    go_region
    all_goals
      have hr4 := HR.out.setHs k
      have hs4 := HS3.out.keep (Kp.setCell (p := ⟨ga, k, none⟩) (S := fun q => q = ga) rfl (.int .i64 (T.now : Int))) (fun e => by have := HFF.out ga HR.out.fa; omega)
      have k4 := (HK3.out.of_no F).trans' (Kp.setCell (p := ⟨ga, k, none⟩) (S := F) HR.out.fa (.int .i64 (T.now : Int)))
      have HR4 := hide (hr4.no (Kp.refl No _).drew)
      have HS4 := hide (hs4.no (Kp.refl No _).drew)
      have HK4 := hide k4.drew
      clear x2 x3 xk xf hr4 hs4 k4 HR HS3 HK3
      generalize (w3.setCell ⟨ga, k, none⟩ (.int .i64 (T.now : Int))).drew = w4 at HR4 HS4 HK4 ⊢
      go_wp2_with (refine HS4.out.wload rfl _ rfl rfl ?_)
      refine (wmark_any ⟨ga, c, HR4.out⟩ he T).mono ?_
      rintro e w5 ⟨rfl, h5, k5⟩
      go_wp2_with fail
      go_ret
      exact ⟨rfl, h5, HK4.out.trans' k5⟩
  · have hd : decide (T.In z) = false := decide_eq_false hz
    have hhr : T.hrd z = T := by unfold Wt.hrd; rw [if_neg hz]
    rw [hd, hhr]
    rw [hd] at HH
    clear hz hd hhr
    go_enter Try.func12, Try.ntmps12
    go_wp2_with fail
    refine HH.out.mono ?_
    rintro e w1 ⟨rfl, rfl⟩
    go_wp2_with fail
    go_ret
    exact ⟨rfl, h, Kp.refl _ _⟩

set_option maxHeartbeats 1000000 in
theorem wtick_any (h : WtAt w F g T) (he : T.ep ≤ 1000000) (hF : ∀ k, F k → k < w.heap.size) (z : Int) : Calls Try.prog 10 #[.pointer (some ⟨g, 0, none⟩), .int .i64 z] w (WkPost w F g (T.tck z) (.bool (decide (T.TkOk z)))) := by
  have HL := hide (wlen_any h)
  have hb := (zero_of_info (P := Try.prog) st_info).1
  have hn1 := h.ok.n1
  have htk := h.ok.tk
  have hl0 : ((T.hs.length : Int) == 0) = false := beq_eq_false_iff_ne.2 (by omega)
  by_cases h1 : z < 1
  · have hz : ¬ T.TkOk z := fun hz => by have := hz.1; omega
    have hd : decide (T.TkOk z) = false := decide_eq_false hz
    have hhr : T.tck z = T := by unfold Wt.tck; rw [if_neg hz]
    rw [hd, hhr]
    clear hz hd hhr
    go_enter Try.func10, Try.ntmps10
    go_wp2_with fail
    refine HL.out.mono ?_
    rintro e w1 ⟨rfl, rfl⟩
    go_wp2_with fail
    go_ret
    exact ⟨rfl, h, Kp.refl _ _⟩
  obtain ⟨ga, c, hr⟩ := h
  have x3 := hr.c3
  have hws : IntKind.i64.wrap (1099511627776 - (T.now : Int)) = 1099511627776 - (T.now : Int) := IntWalk.i64_in _ (by omega)
  by_cases h2 : z > 1099511627776 - (T.now : Int)
  · have hz : ¬ T.TkOk z := fun hz => by have := hz.2; omega
    have hd : decide (T.TkOk z) = false := decide_eq_false hz
    have hhr : T.tck z = T := by unfold Wt.tck; rw [if_neg hz]
    rw [hd, hhr]
    have HR := hide hr
    clear hz hd hhr hr
    go_enter Try.func10, Try.ntmps10
    go_wp2_with fail
    refine HL.out.mono ?_
    rintro e w1 ⟨rfl, rfl⟩
    go_wp2_with fail
    go_ret
    exact ⟨rfl, ⟨ga, c, HR.out⟩, Kp.refl _ _⟩
  obtain ⟨k, rfl⟩ : ∃ k : Nat, z = k := ⟨z.toNat, by omega⟩
  have hz : T.TkOk (k : Int) := ⟨by omega, by omega⟩
  have hk : T.now + k ≤ 1099511627776 := by omega
  have hd : decide (T.TkOk (k : Int)) = true := decide_eq_true hz
  have hhr : T.tck (k : Int) = T.next (T.tck0 k) := by unfold Wt.tck; rw [if_pos hz, Int.toNat_natCast]
  rw [hd, hhr]
  have HR := hide hr
  have HFF := hide hF
  clear hz hd hhr hr hF
  go_enter Try.func10, Try.ntmps10
  go_wp2_with fail
  refine HL.out.mono ?_
  rintro e w1 ⟨rfl, rfl⟩
  go_wp2_with fail
  refine (wstates_any ⟨ga, c, HR.out⟩).mono ?_
  rintro e w2 ⟨rfl, k2⟩
  have hs0 : SAt (w2.alloc (.cells stZ 52)) w2.heap.size T 0 := by
    unfold SAt
    rw [stA_zero]
    exact heap_alloc_new w2 _
  have HS0 := hide hs0
  have HK2 := hide (k2.al (.cells stZ 52))
  have hsz := k2.size
  clear k2 hs0 x3
  go_upto_region 4 with (refine HS0.out.wstore T 32 rfl _ _ rfl rfl rfl ?_)
  have hs3 := HS0.out.row T 32
  have k3 := HK2.out.trans (Kp.setRow (S := Up No w) (.inr hsz) (stA T 32))
  generalize (w2.alloc (.cells stZ 52)).setRow w2.heap.size (stA T 32) = w3 at hs3 k3 ⊢
  generalize w2.heap.size = s at hs3 hsz ⊢
  have hr3 := HR.out.no k3
  have y3 := hr3.c3
  have yf := hr3.fz 3
  have HR3 := hide hr3
  have HS3 := hide hs3
  have HK3 := hide k3
  clear hr3 hs3 k3 HS0 HK2
  go_upto_region 5 with fail
  have e2 : ((T.now : Int) + (k : Int)) = ((T.now + k : Nat) : Int) := by omega
  rw [e2]
  have hr4 := HR3.out.setNow k hk
  have hs4 := HS3.out.keep (Kp.setCell (p := ⟨g, 3, none⟩) (S := fun q => q = g) rfl (.int .i64 ((T.now + k : Nat) : Int))) (fun e => by have := HFF.out g HR.out.fg; omega)
  have k4 := (HK3.out.of_no F).trans' (Kp.setCell (p := ⟨g, 3, none⟩) (S := F) HR.out.fg (.int .i64 ((T.now + k : Nat) : Int)))
  have HR4 := hide hr4
  have HS4 := hide hs4
  have HK4 := hide k4
  clear y3 yf hr4 hs4 k4 HR3 HS3 HK3 e2
  generalize w3.setCell ⟨g, 3, none⟩ (.int .i64 ((T.now + k : Nat) : Int)) = w4 at HR4 HS4 HK4 ⊢
  go_wp2_with (refine HS4.out.wload rfl _ rfl rfl ?_)
  refine (wmark_any ⟨ga, c, HR4.out⟩ he T).mono ?_
  rintro e w5 ⟨rfl, h5, k5⟩
  go_wp2_with fail
  go_ret
  exact ⟨rfl, h5, HK4.out.trans' k5⟩

theorem wcount_any (h : WtAt w F g T) (s : Nat) : Calls Try.prog 17 #[.pointer (some ⟨g, 0, none⟩), .int .i64 (s : Int)] w fun e w1 => e = .returned (.int .i64 (T.cnt s T.hs.length : Int)) ∧ Kp No w w1 := by
  have hn2 := h.ok.n2
  go_enter Try.func17, Try.ntmps17
  go_wp2_with fail
  refine (wlen_any h).mono ?_
  rintro e w1 ⟨rfl, rfl⟩
  go_wp2_with fail
  go_loopw [5, 9] (fun n i wr => ∃ k : Nat, k ≤ T.hs.length ∧ i = .int .i64 (k : Int) ∧ n = .int .i64 ((T.cnt s k : Nat) : Int) ∧ Kp No w wr) (fun _ i _ => T.hs.length - (intOf i).toNat)
  case atStart => exact ⟨0, Nat.zero_le _, rfl, rfl, Kp.refl _ _⟩
  case round =>
    obtain ⟨k, hk, rfl, rfl, hkw⟩ := hrel
    have hcl := T.cnt_le s k
    by_cases hlt : k < T.hs.length
    · have HKW := hide hkw
      clear hkw
      go_wp2_with fail
      refine (wof_any (h.no HKW.out) (k : Int)).mono ?_
      rintro e w3 ⟨rfl, k3⟩
      rw [T.st_nat]
      have hcs := T.cnt_succ s k
      by_cases hq : T.stN k = s
      · have hb : (((T.stN k : Nat) : Int) == (s : Int)) = true := by rw [hq]; simp
        have hc2 : T.cnt s (k + 1) = T.cnt s k + 1 := by rw [hcs, hq]; simp
        have HC := hide hc2
        clear hcs hq hc2
        go_wp2_with fail
        go_round
        case rel => exact ⟨k + 1, by omega, by go_num, by rw [HC.out]; go_num, HKW.out.trans' k3⟩
        case measure => simp [intOf]; omega
      · have hb : (((T.stN k : Nat) : Int) == (s : Int)) = false := by simp; omega
        have hc2 : T.cnt s (k + 1) = T.cnt s k := by rw [hcs]; simp [hq]
        have HC := hide hc2
        clear hcs hq hc2
        go_wp2_with fail
        go_round
        case rel => exact ⟨k + 1, by omega, by go_num, by rw [HC.out], HKW.out.trans' k3⟩
        case measure => simp [intOf]; omega
    · obtain rfl : k = T.hs.length := by omega
      go_wp2_with fail
      go_ret
      exact ⟨rfl, hkw⟩
end
end Go.Proofs.Ytjmahbmlocfbhaa
