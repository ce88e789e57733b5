/- Package table's commit, as a contract (printed by tools/gen_tbo.py). No condition. -/
import Derived.Test.YthicpblgonigcaaNcap
import Derived.Test.YthicpblgonigcaaNcae
namespace Go.Proofs.Ythicpblgonigcaa
open Go.RowKit
set_option linter.unusedVariables false
set_option linter.unusedSimpArgs false
set_option maxRecDepth 20000

section
variable {T : Tb} {o : Ob} {z : Int}
theorem cmtE1 (h : okO T.sl T.nd o = false) : T.cmtE o = 1 := by unfold Tb.cmtE; rw [if_pos h]
theorem cmtE7 (h : okO T.sl T.nd o = true) (h2 : fNm T.os o.nm < T.os.length ∨ fNo T.os o.num < T.os.length) : T.cmtE o = 7 := by unfold Tb.cmtE; rw [if_neg (by simp [h]), if_pos h2]
theorem cmtE28 (h : okO T.sl T.nd o = true) (h2 : ¬ (fNm T.os o.nm < T.os.length ∨ fNo T.os o.num < T.os.length)) (h3 : o.num ≤ T.lt ∨ T.nx ≤ o.num) : T.cmtE o = 28 := by unfold Tb.cmtE; rw [if_neg (by simp [h]), if_neg h2, if_pos h3]
theorem cmtE20 (h : okO T.sl T.nd o = true) (h2 : ¬ (fNm T.os o.nm < T.os.length ∨ fNo T.os o.num < T.os.length)) (h3 : ¬ (o.num ≤ T.lt ∨ T.nx ≤ o.num)) (h4 : 64 ≤ T.os.length) : T.cmtE o = 20 := by unfold Tb.cmtE; rw [if_neg (by simp [h]), if_neg h2, if_neg h3, if_pos h4]
theorem cmtE0 (h : okO T.sl T.nd o = true) (h2 : ¬ (fNm T.os o.nm < T.os.length ∨ fNo T.os o.num < T.os.length)) (h3 : ¬ (o.num ≤ T.lt ∨ T.nx ≤ o.num)) (h4 : ¬ 64 ≤ T.os.length) : T.cmtE o = 0 := by unfold Tb.cmtE; rw [if_neg (by simp [h]), if_neg h2, if_neg h3, if_neg h4]
theorem okO_n (h : okN o.nm = false) : okO T.sl T.nd o = false := by simp [okO, h]
theorem okO_p (h : okP o.ln o.ct o.pc = false) : okO T.sl T.nd o = false := by simp [okO, h]
theorem okO_l (h : (decide ((o.pl.length : Int) = o.ct) && okL T.sl T.nd o.pl) = false) : okO T.sl T.nd o = false := by unfold okO; rw [h]; simp
theorem okO_y (h1 : okN o.nm = true) (h2 : okP o.ln o.ct o.pc = true) (h : (decide ((o.pl.length : Int) = o.ct) && okL T.sl T.nd o.pl) = true) : okO T.sl T.nd o = true := by unfold okO; rw [h1, h2, h]; rfl
theorem TbPost.no {w w1 : World} {F : Nat → Prop} {g : Nat} (h : TbAt w F g T) (hk : Kp No w w1) (he : T.cmtE o = z) (hz : z ≠ 0) : TbPost w F g (T.cmt o) (T.cmtE o) (.returned (.int .i64 z)) w1 := by
  have e : T.cmt o = T := by unfold Tb.cmt; rw [he, if_neg hz]
  rw [e, he]
  exact TbPost.same h hk z
end
theorem zip_ins (os : List Ob) (vs : List Value) (p : Nat) (o : Ob) (u : Value) (h : vs.length = os.length) : (os.take p ++ [o] ++ os.drop p).zip (vs.take p ++ [u] ++ vs.drop p) = (os.zip vs).take p ++ [(o, u)] ++ (os.zip vs).drop p := by
  rw [List.zip_append (by simp [h]), List.zip_append (by simp [h]), zip_takeO, zip_dropO]
  rfl
theorem ins_get {α : Type} (l : List α) (p j : Nat) (a : α) (hp : p ≤ l.length) : (l.take p ++ [a] ++ l.drop p)[j]? = if j < p then l[j]? else if j = p then some a else l[j - 1]? := by
  rw [List.append_assoc]
  by_cases g : j < p
  · rw [if_pos g, List.getElem?_append_left (by rw [List.length_take]; omega), List.getElem?_take, if_pos g]
  · rw [if_neg g, List.getElem?_append_right (by rw [List.length_take]; omega), List.length_take, Nat.min_eq_left hp]
    by_cases e : j = p
    · subst e
      rw [if_pos rfl, Nat.sub_self]
      rfl
    · rw [if_neg e, show j - p = (j - p - 1) + 1 by omega]
      simp only [List.cons_append, List.nil_append, List.getElem?_cons_succ, List.getElem?_drop]
      congr 1
      omega
/-- The row of objects and the last number are written. -/
theorem TbR.next2 {w w1 : World} {F G : Nat → Prop} {A A' : Option Addr} {n c n' c' g : Nat} {T T' : Tb} {vs vs' : List Value} (h : TbR w F g A n c T vs) (hk : Kp (fun k => (Value.slice A n c).ownBlock = some k) w w1) (hrow : OwnT w1 0 54 6 (.slice A' n' c') T'.os.length (obC (T'.os.zip vs'))) (hsl : T'.sl = T.sl ∧ T'.nd = T.nd ∧ T'.nx = T.nx)
    (hlen : vs'.length = T'.os.length) (hpls : ∀ (j : Nat) o v, T'.os[j]? = some o → vs'[j]? = some v → PlR w1 G v o.pl) (hinj : ∀ (i j : Nat) u v k, vs'[i]? = some u → vs'[j]? = some v → u.ownBlock = some k → v.ownBlock = some k → i = j)
    (hfv : ∀ k, (Value.slice A' n' c').ownBlock = some k → G k) (hG : ∀ k, F k → G k) (ok : T'.Ok) : TbR ((w1.setCell ⟨g, 4, none⟩ (.slice A' n' c')).setCell ⟨g, 3, none⟩ (.int .u32 (T'.lt : Int))) G g A' n' c' T' vs' ∧ Kp F w ((w1.setCell ⟨g, 4, none⟩ (.slice A' n' c')).setCell ⟨g, 3, none⟩ (.int .u32 (T'.lt : Int))) := by
  have hb1 : w1.heap[g]? = _ := (hk.block g h.glt h.row_ne).trans h.blk
  have hb2 := heap_setCell_same w1 g 4 _ _ (.slice A' n' c') hb1
  have hks : Kp (fun k => k = g) w1 ((w1.setCell ⟨g, 4, none⟩ (.slice A' n' c')).setCell ⟨g, 3, none⟩ (.int .u32 (T'.lt : Int))) := (Kp.setCell (p := ⟨g, 4, none⟩) (S := fun k => k = g) rfl _).trans' (Kp.setCell (p := ⟨g, 3, none⟩) (S := fun k => k = g) rfl _)
  refine ⟨⟨?_, hrow.keep hks fun k hk' e => OwnT.not_at hrow hb1 (by decide) (e ▸ hk'), hlen, fun j o v hj hv => (hpls j o v hj hv).away hks fun k e => by subst e; exact ⟨_, _, hb1, by decide, by decide⟩, hinj, hG g h.fg, hfv, ok⟩, (hk.mono h.fv).trans' (hks.mono fun k e => e ▸ h.fg)⟩
  obtain ⟨e1, e2, e3⟩ := hsl
  rw [heap_setCell_same _ g 3 _ _ (.int .u32 (T'.lt : Int)) hb2, e1, e2, e3]
  rfl
set_option maxRecDepth 100000 in
set_option maxHeartbeats 8000000 in
theorem tcommit_any {w : World} {F G : Nat → Prop} {g : Nat} {T : Tb} {q : Oq} {v : Value} (h : TbAt w F g T) (hv : RdP w G v q.o.pl) (hn : q.o.pl.length ≤ 1000000000000000) (hP : ∀ l ∈ q.o.pl, l.length ≤ 1000000000000000) (hnm : q.o.nm.length ≤ 1000) :
    Calls Try.prog 31 #[.pointer (some ⟨g, 0, none⟩), oqV q v] w (TbPost w F g (T.cmt q.o) (T.cmtE q.o)) := by
  have hka := Kp.alloc No w (.cells #[.int .i64 q.kd, .int .u32 (q.o.num : Int), .string (strOf q.o.nm), .int .i64 q.o.ln, .int .i64 q.o.ct, .int .i64 q.o.pc, v, .int .i64 q.st, .int .i64 q.so, .int .i64 q.tn, .int .u32 (q.tg : Int)] 48)
  have HB0 := hide (Bx.new w 48 [.int .i64 q.kd, .int .u32 (q.o.num : Int), .string (strOf q.o.nm), .int .i64 q.o.ln, .int .i64 q.o.ct, .int .i64 q.o.pc, v, .int .i64 q.st, .int .i64 q.so, .int .i64 q.tn, .int .u32 (q.tg : Int)])
  have HV := hide hv
  have HT := hide h
  obtain ⟨A, n, c, vs, hR0⟩ := h
  have HR0 := hide hR0
  have h : TbAt w F g T := HT.out
  have HRL : Hid (∀ k, (Value.slice A n c).ownBlock = some k → k < w.heap.size) := fun k hk => hR0.row.lt k hk
  have HNM := hide hnm
  have HPL := hide hP
  have HPN := hide hn
  have HK0 := hide hka
  have hg := h.glt
  have HFB := hide (fun (w1 : World) (hk : Kp No w w1) (z : Int) (he : T.cmtE q.o = z) (hz : z ≠ 0) => TbPost.no h hk he hz)
  obtain ⟨A2, c2, hz⟩ := hv.form
  subst hz
  obtain ⟨m, hm⟩ : ∃ m, m = q.o.pl.length := ⟨_, rfl⟩
  have HM := hide hm
  rw [← hm] at HB0 hka HK0 HV
  have HRN := hide (fun w' => rname_any (w := w') (strOf q.o.nm) (show (strOf q.o.nm).size ≤ 1000 from hnm))
  have hdat : (strOf q.o.nm).data.toList = q.o.nm := rfl
  rw [hdat] at HRN
  show Calls Try.prog 31 #[.pointer (some ⟨g, 0, none⟩), .agg #[.int .i64 q.kd, .int .u32 (q.o.num : Int), .string (strOf q.o.nm), .int .i64 q.o.ln, .int .i64 q.o.ct, .int .i64 q.o.pc, .slice A2 q.o.pl.length c2, .int .i64 q.st, .int .i64 q.so, .int .i64 q.tn, .int .u32 (q.tg : Int)]] w _
  rw [← hm]
  clear h hv hn hP hnm hka hm hdat hR0
  go_enter Try.func31, Try.ntmps31
  go_wp2_with fail
  obtain ⟨s, hs⟩ : ∃ s, s = w.heap.size := ⟨_, rfl⟩
  rw [← hs] at HB0 HRL ⊢
  have hsl : s < (w.alloc (.cells #[.int .i64 q.kd, .int .u32 (q.o.num : Int), .string (strOf q.o.nm), .int .i64 q.o.ln, .int .i64 q.o.ct, .int .i64 q.o.pc, .slice A2 m c2, .int .i64 q.st, .int .i64 q.so, .int .i64 q.tn, .int .u32 (q.tg : Int)] 48)).heap.size := by simp; omega
  have hgs : g < s := by omega
  have HS := hide hs
  clear hs
  generalize w.alloc (.cells #[.int .i64 q.kd, .int .u32 (q.o.num : Int), .string (strOf q.o.nm), .int .i64 q.o.ln, .int .i64 q.o.ct, .int .i64 q.o.pc, .slice A2 m c2, .int .i64 q.st, .int .i64 q.so, .int .i64 q.tn, .int .u32 (q.tg : Int)] 48) = W0 at HB0 HK0 hsl ⊢
  have HXC : Hid (∀ w', Kp No W0 w' → w'.cell? ⟨s, 1, none⟩ = some (.int .u32 (q.o.num : Int)) ∧ w'.cell? ⟨s, 2, none⟩ = some (.string (strOf q.o.nm)) ∧ w'.cell? ⟨s, 3, none⟩ = some (.int .i64 q.o.ln) ∧ w'.cell? ⟨s, 4, none⟩ = some (.int .i64 q.o.ct) ∧ w'.cell? ⟨s, 5, none⟩ = some (.int .i64 q.o.pc) ∧ w'.cell? ⟨s, 6, none⟩ = some (.slice A2 m c2)) := fun w' hk =>
    ⟨(HB0.out.no hk).cell rfl, (HB0.out.no hk).cell rfl, (HB0.out.no hk).cell rfl, (HB0.out.no hk).cell rfl, (HB0.out.no hk).cell rfl, (HB0.out.no hk).cell rfl⟩
  refine (HRN.out W0).mono ?_
  rcases hb1 : okN q.o.nm with _ | _
  · have HE := hide (cmtE1 (T := T) (okO_n hb1))
    clear hb1
    rintro e w1 ⟨rfl, rfl⟩
    go_wp2_with fail
    go_ret
    exact HFB.out _ HK0.out 1 HE.out (by decide)
  have HO1 := hide hb1
  clear hb1
  rintro e w1 ⟨rfl, rfl⟩
  obtain ⟨x1, x2, x3, x4, x5, x6⟩ := HXC.out _ (Kp.refl No W0)
  go_wp2_with fail
  refine (tplan_any W0 q.o.ln q.o.ct q.o.pc).mono ?_
  rcases hb2 : okP q.o.ln q.o.ct q.o.pc with _ | _
  · have HE := hide (cmtE1 (T := T) (okO_p hb2))
    clear hb2
    rintro e w1 ⟨rfl, hk1⟩
    have HK1 := hide hk1
    clear hk1
    go_wp2_with fail
    go_ret
    exact HFB.out _ (HK0.out.trans' HK1.out) 1 HE.out (by decide)
  have HO2 := hide hb2
  clear hb2 x1 x2 x3 x4 x5 x6
  rintro e w1 ⟨rfl, hk1⟩
  obtain ⟨x1, x2, x3, x4, x5, x6⟩ := HXC.out _ hk1
  have HK1 := hide hk1
  clear hk1
  go_wp2_with fail
  have hpc := tplaces_any q.o.ct (HT.out.no (HK0.out.trans' HK1.out)) (HV.out.no (HK0.out.trans' HK1.out)) HPN.out HPL.out
  refine hpc.mono ?_
  clear hpc
  rcases hb3 : (decide ((q.o.pl.length : Int) = q.o.ct) && okL T.sl T.nd q.o.pl) with _ | _
  · have HE := hide (cmtE1 (T := T) (okO_l hb3))
    clear hb3
    rintro e w2 ⟨rfl, hk2⟩
    have HK2 := hide hk2
    clear hk2
    go_wp2_with fail
    go_ret
    exact HFB.out _ ((HK0.out.trans' HK1.out).trans' HK2.out) 1 HE.out (by decide)
  have HO3 := hide (okO_y HO1.out HO2.out hb3)
  clear hb3 x1 x2 x3 x4 x5 x6
  rintro e w2 ⟨rfl, hk2⟩
  obtain ⟨x1, x2, x3, x4, x5, x6⟩ := HXC.out _ (HK1.out.trans' hk2)
  have HK2 := hide (HK1.out.trans' hk2)
  clear hk2 HK1
  go_wp2_with fail
  refine (tplace_any (HT.out.no (HK0.out.trans' HK2.out)) q.o.nm).mono ?_
  by_cases hf : fNm T.os q.o.nm < T.os.length
  · have HE := hide (cmtE7 HO3.out (.inl hf))
    rw [decide_eq_true hf]
    clear hf
    rintro e w3 ⟨rfl, hk3⟩
    have HK3 := hide hk3
    clear hk3
    go_wp2_with fail
    go_ret
    exact HFB.out _ ((HK0.out.trans' HK2.out).trans' HK3.out) 7 HE.out (by decide)
  have HF1 := hide hf
  rw [decide_eq_false hf]
  clear hf x1 x2 x3 x4 x5 x6
  rintro e w3 ⟨rfl, hk3⟩
  obtain ⟨x1, x2, x3, x4, x5, x6⟩ := HXC.out _ (HK2.out.trans' hk3)
  have HK3 := hide (HK2.out.trans' hk3)
  clear hk3 HK2
  go_wp2_with fail
  refine (tnumbered_any (HT.out.no (HK0.out.trans' HK3.out)) q.o.num).mono ?_
  by_cases hf : fNo T.os q.o.num < T.os.length
  · have HE := hide (cmtE7 HO3.out (.inr hf))
    rw [show ixZ (fNo T.os q.o.num) T.os.length = ((fNo T.os q.o.num : Nat) : Int) by unfold ixZ; rw [if_pos hf]]
    clear hf
    rintro e w4 ⟨rfl, hk4⟩
    have HK4 := hide hk4
    clear hk4
    go_wp2_with fail
    go_ret
    exact HFB.out _ ((HK0.out.trans' HK3.out).trans' HK4.out) 7 HE.out (by decide)
  have HF2 : Hid (¬ (fNm T.os q.o.nm < T.os.length ∨ fNo T.os q.o.num < T.os.length)) := fun e => e.elim HF1.out hf
  rw [show ixZ (fNo T.os q.o.num) T.os.length = -1 by unfold ixZ; rw [if_neg hf]]
  clear hf x1 x2 x3 x4 x5 x6
  rintro e w4 ⟨rfl, hk4⟩
  obtain ⟨x1, x2, x3, x4, x5, x6⟩ := HXC.out _ (HK3.out.trans' hk4)
  have HK4 := hide (HK3.out.trans' hk4)
  clear hk4 HK3
  have hR := HR0.out.no (HK0.out.trans' HK4.out)
  have c2' := hR.c2
  have c3 := hR.c3
  have c4 := hR.c4
  have hn := hR.n_
  have hn64 : n ≤ 64 := by rw [hn]; exact hR.ok.len
  have HR := hide hR
  have HN := hide hn
  clear hR hn
  have hgw : g < w4.heap.size := Nat.lt_of_lt_of_le HR.out.glt (Nat.le_refl _)
  by_cases hl : q.o.num ≤ T.lt
  · have HE := hide (cmtE28 HO3.out HF2.out (.inl hl))
    have d1 : decide (q.o.num ≤ T.lt) = true := decide_eq_true hl
    go_wp2_with fail
    go_quiet (fail)
    go_wp2_with fail
    go_ret
    exact HFB.out _ ((HK0.out.trans' HK4.out).drewN _) 28 HE.out (by decide)
  have d1 : decide (q.o.num ≤ T.lt) = false := decide_eq_false hl
  by_cases hx : T.nx ≤ q.o.num
  · have HE := hide (cmtE28 HO3.out HF2.out (.inr hx))
    have d2 : decide (T.nx ≤ q.o.num) = true := decide_eq_true hx
    go_wp2_with fail
    go_quiet (fail)
    go_wp2_with fail
    go_quiet (fail)
    go_wp2_with fail
    go_ret
    exact HFB.out _ (((HK0.out.trans' HK4.out).drewN _).drewN _) 28 HE.out (by decide)
  have d2 : decide (T.nx ≤ q.o.num) = false := decide_eq_false hx
  have HLX : Hid (¬ (q.o.num ≤ T.lt ∨ T.nx ≤ q.o.num)) := fun e => e.elim hl hx
  clear hl hx
  go_wp2_with fail
  refine wp_region_noPanic ?_
  refine wp_region_held_drew (S := fun w' => w'.cell? ⟨s, 1, none⟩ = some (.int .u32 (q.o.num : Int)) ∧ w'.cell? ⟨g, 3, none⟩ = some (.int .u32 (T.lt : Int)) ∧ w'.cell? ⟨g, 2, none⟩ = some (.int .u32 (T.nx : Int))) (by kernel_rfl) (⟨x1, c3, c2'⟩) (fun hHeld => ?_)
  refine wpAnyH_take (i := 0) (v := ?vrg0) (oi := ?org0) ?hrg0 (by kernel_rfl) (by kernel_rfl) (by kernel_rfl) (fun _ _ _ h => h) (Or.inl ⟨?wrg0, ?yrg0⟩) hHeld ?rrg0
  case hrg0 => simp only [List.getElem?_toArray, List.getElem?_cons_zero, List.getElem?_cons_succ]; rfl
  case wrg0 => rfl
  case yrg0 => intro w hSw; (try dsimp only at hSw); go_simp; (try with_reducible rfl)
  simp only [Act.put, List.setIfInBounds_toArray, List.set_cons_zero, List.set_cons_succ]
  refine wpAnyH_take (i := 1) (v := ?vrg1) (oi := ?org1) ?hrg1 (by kernel_rfl) (by kernel_rfl) (by kernel_rfl) (fun _ _ _ h => h) (Or.inl ⟨?wrg1, ?yrg1⟩) hHeld ?rrg1
  case hrg1 => simp only [List.getElem?_toArray, List.getElem?_cons_zero, List.getElem?_cons_succ]; rfl
  case wrg1 => rfl
  case yrg1 => intro w hSw; (try dsimp only at hSw); go_simp; (try with_reducible rfl)
  simp only [Act.put, List.setIfInBounds_toArray, List.set_cons_zero, List.set_cons_succ]
  refine wpAnyH_take (i := 2) (v := ?vrg2) (oi := ?org2) ?hrg2 (by kernel_rfl) (by kernel_rfl) (by kernel_rfl) (fun _ _ _ h => h) (Or.inl ⟨?wrg2, ?yrg2⟩) hHeld ?rrg2
  case hrg2 => simp only [List.getElem?_toArray, List.getElem?_cons_zero, List.getElem?_cons_succ]; rfl
  case wrg2 => rfl
  case yrg2 => intro w hSw; (try dsimp only at hSw); go_simp; (try with_reducible rfl)
  simp only [Act.put, List.setIfInBounds_toArray, List.set_cons_zero, List.set_cons_succ]
  refine wpAnyH_take (i := 3) (v := ?vrg3) (oi := ?org3) ?hrg3 (by kernel_rfl) (by kernel_rfl) (by kernel_rfl) (fun _ _ _ h => h) (Or.inl ⟨?wrg3, ?yrg3⟩) hHeld ?rrg3
  case hrg3 => simp only [List.getElem?_toArray, List.getElem?_cons_zero, List.getElem?_cons_succ]; rfl
  case wrg3 => rfl
  case yrg3 => intro w hSw; (try dsimp only at hSw); go_simp; (try with_reducible rfl)
  simp only [Act.put, List.setIfInBounds_toArray, List.set_cons_zero, List.set_cons_succ]
  refine wpAnyH_take (i := 4) (v := ?vrg4) (oi := ?org4) ?hrg4 (by kernel_rfl) (by kernel_rfl) (by kernel_rfl) (fun _ _ _ h => h) (Or.inl ⟨?wrg4, ?yrg4⟩) hHeld ?rrg4
  case hrg4 => simp only [List.getElem?_toArray, List.getElem?_cons_zero, List.getElem?_cons_succ]; rfl
  case wrg4 => rfl
  case yrg4 => intro w hSw; (try dsimp only at hSw); go_simp; (try with_reducible rfl)
  simp only [Act.put, List.setIfInBounds_toArray, List.set_cons_zero, List.set_cons_succ]
  refine wpAnyH_take (i := 5) (v := ?vrg5) (oi := ?org5) ?hrg5 (by kernel_rfl) (by kernel_rfl) (by kernel_rfl) (fun _ _ _ h => h) (Or.inl ⟨?wrg5, ?yrg5⟩) hHeld ?rrg5
  case hrg5 => simp only [List.getElem?_toArray, List.getElem?_cons_zero, List.getElem?_cons_succ]; rfl
  case wrg5 => rfl
  case yrg5 => intro w hSw; (try dsimp only at hSw); go_simp; (try with_reducible rfl)
  simp only [Act.put, List.setIfInBounds_toArray, List.set_cons_zero, List.set_cons_succ]
  refine wpAnyH_take (i := 6) (v := ?vrg6) (oi := ?org6) ?hrg6 (by kernel_rfl) (by kernel_rfl) (by kernel_rfl) (fun _ _ _ h => h) (Or.inl ⟨?wrg6, ?yrg6⟩) hHeld ?rrg6
  case hrg6 => simp only [List.getElem?_toArray, List.getElem?_cons_zero, List.getElem?_cons_succ]; rfl
  case wrg6 => rfl
  case yrg6 => intro w hSw; (try dsimp only at hSw); go_simp; (try with_reducible rfl)
  simp only [Act.put, List.setIfInBounds_toArray, List.set_cons_zero, List.set_cons_succ]
  refine wpAnyH_take (i := 7) (v := ?vrg7) (oi := ?org7) ?hrg7 (by kernel_rfl) (by kernel_rfl) (by kernel_rfl) (fun _ _ _ h => h) (Or.inl ⟨?wrg7, ?yrg7⟩) hHeld ?rrg7
  case hrg7 => simp only [List.getElem?_toArray, List.getElem?_cons_zero, List.getElem?_cons_succ]; rfl
  case wrg7 => rfl
  case yrg7 => intro w hSw; (try dsimp only at hSw); go_simp; (try with_reducible rfl)
  simp only [Act.put, List.setIfInBounds_toArray, List.set_cons_zero, List.set_cons_succ]
  refine wpAnyH_done (by kernel_rfl) ?_ _
  refine NoPanic.normal ?_
  go_wp2_with fail
  refine wp_region_noPanic ?_
  refine wp_region_held_drew (S := fun w' => w'.cell? ⟨s, 1, none⟩ = some (.int .u32 (q.o.num : Int)) ∧ w'.cell? ⟨g, 3, none⟩ = some (.int .u32 (T.lt : Int)) ∧ w'.cell? ⟨g, 2, none⟩ = some (.int .u32 (T.nx : Int))) (by kernel_rfl) (⟨x1, c3, c2'⟩) (fun hHeld => ?_)
  refine wpAnyH_take (i := 0) (v := ?vrh0) (oi := ?orh0) ?hrh0 (by kernel_rfl) (by kernel_rfl) (by kernel_rfl) (fun _ _ _ h => h) (Or.inl ⟨?wrh0, ?yrh0⟩) hHeld ?rrh0
  case hrh0 => simp only [List.getElem?_toArray, List.getElem?_cons_zero, List.getElem?_cons_succ]; rfl
  case wrh0 => rfl
  case yrh0 => intro w hSw; (try dsimp only at hSw); go_simp; (try with_reducible rfl)
  simp only [Act.put, List.setIfInBounds_toArray, List.set_cons_zero, List.set_cons_succ]
  refine wpAnyH_take (i := 1) (v := ?vrh1) (oi := ?orh1) ?hrh1 (by kernel_rfl) (by kernel_rfl) (by kernel_rfl) (fun _ _ _ h => h) (Or.inl ⟨?wrh1, ?yrh1⟩) hHeld ?rrh1
  case hrh1 => simp only [List.getElem?_toArray, List.getElem?_cons_zero, List.getElem?_cons_succ]; rfl
  case wrh1 => rfl
  case yrh1 => intro w hSw; (try dsimp only at hSw); go_simp; (try with_reducible rfl)
  simp only [Act.put, List.setIfInBounds_toArray, List.set_cons_zero, List.set_cons_succ]
  refine wpAnyH_take (i := 2) (v := ?vrh2) (oi := ?orh2) ?hrh2 (by kernel_rfl) (by kernel_rfl) (by kernel_rfl) (fun _ _ _ h => h) (Or.inl ⟨?wrh2, ?yrh2⟩) hHeld ?rrh2
  case hrh2 => simp only [List.getElem?_toArray, List.getElem?_cons_zero, List.getElem?_cons_succ]; rfl
  case wrh2 => rfl
  case yrh2 => intro w hSw; (try dsimp only at hSw); go_simp; (try with_reducible rfl)
  simp only [Act.put, List.setIfInBounds_toArray, List.set_cons_zero, List.set_cons_succ]
  refine wpAnyH_take (i := 3) (v := ?vrh3) (oi := ?orh3) ?hrh3 (by kernel_rfl) (by kernel_rfl) (by kernel_rfl) (fun _ _ _ h => h) (Or.inl ⟨?wrh3, ?yrh3⟩) hHeld ?rrh3
  case hrh3 => simp only [List.getElem?_toArray, List.getElem?_cons_zero, List.getElem?_cons_succ]; rfl
  case wrh3 => rfl
  case yrh3 => intro w hSw; (try dsimp only at hSw); go_simp; (try with_reducible rfl)
  simp only [Act.put, List.setIfInBounds_toArray, List.set_cons_zero, List.set_cons_succ]
  refine wpAnyH_take (i := 4) (v := ?vrh4) (oi := ?orh4) ?hrh4 (by kernel_rfl) (by kernel_rfl) (by kernel_rfl) (fun _ _ _ h => h) (Or.inl ⟨?wrh4, ?yrh4⟩) hHeld ?rrh4
  case hrh4 => simp only [List.getElem?_toArray, List.getElem?_cons_zero, List.getElem?_cons_succ]; rfl
  case wrh4 => rfl
  case yrh4 => intro w hSw; (try dsimp only at hSw); go_simp; (try with_reducible rfl)
  simp only [Act.put, List.setIfInBounds_toArray, List.set_cons_zero, List.set_cons_succ]
  refine wpAnyH_take (i := 5) (v := ?vrh5) (oi := ?orh5) ?hrh5 (by kernel_rfl) (by kernel_rfl) (by kernel_rfl) (fun _ _ _ h => h) (Or.inl ⟨?wrh5, ?yrh5⟩) hHeld ?rrh5
  case hrh5 => simp only [List.getElem?_toArray, List.getElem?_cons_zero, List.getElem?_cons_succ]; rfl
  case wrh5 => rfl
  case yrh5 => intro w hSw; (try dsimp only at hSw); go_simp; (try with_reducible rfl)
  simp only [Act.put, List.setIfInBounds_toArray, List.set_cons_zero, List.set_cons_succ]
  refine wpAnyH_take (i := 6) (v := ?vrh6) (oi := ?orh6) ?hrh6 (by kernel_rfl) (by kernel_rfl) (by kernel_rfl) (fun _ _ _ h => h) (Or.inl ⟨?wrh6, ?yrh6⟩) hHeld ?rrh6
  case hrh6 => simp only [List.getElem?_toArray, List.getElem?_cons_zero, List.getElem?_cons_succ]; rfl
  case wrh6 => rfl
  case yrh6 => intro w hSw; (try dsimp only at hSw); go_simp; (try with_reducible rfl)
  simp only [Act.put, List.setIfInBounds_toArray, List.set_cons_zero, List.set_cons_succ]
  refine wpAnyH_take (i := 7) (v := ?vrh7) (oi := ?orh7) ?hrh7 (by kernel_rfl) (by kernel_rfl) (by kernel_rfl) (fun _ _ _ h => h) (Or.inl ⟨?wrh7, ?yrh7⟩) hHeld ?rrh7
  case hrh7 => simp only [List.getElem?_toArray, List.getElem?_cons_zero, List.getElem?_cons_succ]; rfl
  case wrh7 => rfl
  case yrh7 => intro w hSw; (try dsimp only at hSw); go_simp; (try with_reducible rfl)
  simp only [Act.put, List.setIfInBounds_toArray, List.set_cons_zero, List.set_cons_succ]
  refine wpAnyH_done (by kernel_rfl) ?_ _
  refine NoPanic.normal ?_
  have HK5 : Hid (Kp No W0 w4.drew.drew) := (HK4.out.drew).drew
  have HR5 : Hid (TbR w4.drew.drew F g A n c T vs) := HR.out.no (((Kp.refl No w4).drew).drew)
  clear x1 x2 x3 x4 x5 x6 c2' c3 c4 HK4 HR
  generalize w4.drew.drew = w5 at HK5 HR5 ⊢
  obtain ⟨x1, x2, x3, x4, x5, x6⟩ := HXC.out _ HK5.out
  have c4 := HR5.out.c4
  by_cases h64 : 64 ≤ n
  · have HE := hide (cmtE20 HO3.out HF2.out HLX.out (by rw [← HN.out]; exact h64))
    go_wp2_with fail
    go_ret
    exact HFB.out _ (HK0.out.trans' HK5.out) 20 HE.out (by decide)
  have HE := hide (cmtE0 HO3.out HF2.out HLX.out (by rw [← HN.out]; exact h64))
  go_wp2_with fail
  clear x1 x2 x3 x4 x5 x6 c4
  have HB6 := hide (Bx.new w5 54 (obL q.o (.slice A2 m c2)))
  have HK6 := hide (HK5.out.al (.cells (obL q.o (.slice A2 m c2)).toArray 54))
  have HR6 := hide (HR5.out.no (Kp.alloc No w5 (.cells (obL q.o (.slice A2 m c2)).toArray 54)))
  have hr5 : g < w5.heap.size := HR5.out.glt
  obtain ⟨r, hr⟩ : ∃ r, r = w5.heap.size := ⟨_, rfl⟩
  rw [← hr] at HB6 hr5 ⊢
  have HRR := hide hr
  have HZ6 : Hid ((w5.alloc (.cells (obL q.o (.slice A2 m c2)).toArray 54)).heap.size = r + 1) := by show _ = _; rw [hr]; simp
  clear hr
  have hobl : (Obj.cells #[.int .u32 (q.o.num : Int), .string (strOf q.o.nm), .int .i64 q.o.ln, .int .i64 q.o.ct, .int .i64 q.o.pc, .slice A2 m c2] 54) = (.cells (obL q.o (.slice A2 m c2)).toArray 54) := rfl
  rw [hobl]
  clear hobl
  generalize w5.alloc (.cells (obL q.o (.slice A2 m c2)).toArray 54) = w6 at HB6 HK6 HR6 HZ6 ⊢
  have HSS : Hid (∀ w', Kp (fun k => (Value.slice A n c).ownBlock = some k) w6 w' → w'.cell? ⟨g, 4, none⟩ = some (.slice A n c) ∧ w'.cell? ⟨r, 0, none⟩ = some (.int .u32 (q.o.num : Int)) ∧ w'.cell? ⟨r, 1, none⟩ = some (.string (strOf q.o.nm)) ∧ w'.cell? ⟨r, 2, none⟩ = some (.int .i64 q.o.ln) ∧ w'.cell? ⟨r, 3, none⟩ = some (.int .i64 q.o.ct) ∧ w'.cell? ⟨r, 4, none⟩ = some (.int .i64 q.o.pc) ∧ w'.cell? ⟨r, 5, none⟩ = some (.slice A2 m c2)) := fun w' hk => by
    have hb := HB6.out.keep hk fun e => by have h1 := HR5.out.row.lt r e; have h2 := HRR.out; omega
    exact ⟨hk.cell HR6.out.c4 HR6.out.row_ne, hb.cell rfl, hb.cell rfl, hb.cell rfl, hb.cell rfl, hb.cell rfl, hb.cell rfl⟩
  have HV6 := hide (HV.out.no (HK0.out.trans' HK6.out))
  have HSM : Hid (q.o.pl.length ≤ 1000 ∧ ∀ l ∈ q.o.pl, l.length ≤ 1000) := by
    obtain ⟨a1, a2, a3, a4⟩ := okO_parts HO3.out
    have h1 := okP_parts a2
    have h2 := HR6.out.ok.sl2
    exact ⟨by omega, fun l hl => by have h3 := (okS_parts (a4 l hl)).1; omega⟩
  obtain ⟨p, hp⟩ : ∃ p, p = pN T.os q.o.nm := ⟨_, rfl⟩
  rw [← hp]
  have hpn : p ≤ n := by rw [hp, HN.out]; exact pN_le
  have HPP := hide hp
  clear hp
  refine wp_region_noPanic ?_
  refine LastR.begin (S := fun w' => w'.cell? ⟨g, 4, none⟩ = some (.slice A n c) ∧ w'.cell? ⟨r, 0, none⟩ = some (.int .u32 (q.o.num : Int)) ∧ w'.cell? ⟨r, 1, none⟩ = some (.string (strOf q.o.nm)) ∧ w'.cell? ⟨r, 2, none⟩ = some (.int .i64 q.o.ln) ∧ w'.cell? ⟨r, 3, none⟩ = some (.int .i64 q.o.ct) ∧ w'.cell? ⟨r, 4, none⟩ = some (.int .i64 q.o.pc) ∧ w'.cell? ⟨r, 5, none⟩ = some (.slice A2 m c2)) (t := 12) (by kernel_rfl) (HSS.out _ ((Kp.refl _ _).drew)) (fun hHeld => ?_)
  refine LastR.take (i := 0) (v := ?vri0) (oi := ?ori0) ?hri0 (by kernel_rfl) (by kernel_rfl) (by kernel_rfl) (by kernel_rfl) (fun _ _ _ h => h) (Or.inl ⟨?wri0, ?yri0⟩) hHeld ?rri0
  case hri0 => simp only [List.getElem?_toArray, List.getElem?_cons_zero, List.getElem?_cons_succ]; rfl
  case wri0 => rfl
  case yri0 => intro w hSw; (try dsimp only at hSw); go_simp; (try with_reducible rfl)
  simp only [Act.put, List.setIfInBounds_toArray, List.set_cons_zero, List.set_cons_succ]
  refine LastR.take (i := 1) (v := ?vri1) (oi := ?ori1) ?hri1 (by kernel_rfl) (by kernel_rfl) (by kernel_rfl) (by kernel_rfl) (fun _ _ _ h => h) (Or.inl ⟨?wri1, ?yri1⟩) hHeld ?rri1
  case hri1 => simp only [List.getElem?_toArray, List.getElem?_cons_zero, List.getElem?_cons_succ]; rfl
  case wri1 => rfl
  case yri1 => intro w hSw; (try dsimp only at hSw); go_simp; (try with_reducible rfl)
  simp only [Act.put, List.setIfInBounds_toArray, List.set_cons_zero, List.set_cons_succ]
  refine LastR.take (i := 2) (v := ?vri2) (oi := ?ori2) ?hri2 (by kernel_rfl) (by kernel_rfl) (by kernel_rfl) (by kernel_rfl) (fun _ _ _ h => h) (Or.inl ⟨?wri2, ?yri2⟩) hHeld ?rri2
  case hri2 => simp only [List.getElem?_toArray, List.getElem?_cons_zero, List.getElem?_cons_succ]; rfl
  case wri2 => rfl
  case yri2 => intro w hSw; (try dsimp only at hSw); go_simp; (try with_reducible rfl)
  simp only [Act.put, List.setIfInBounds_toArray, List.set_cons_zero, List.set_cons_succ]
  refine LastR.take (i := 3) (v := ?vri3) (oi := ?ori3) ?hri3 (by kernel_rfl) (by kernel_rfl) (by kernel_rfl) (by kernel_rfl) (fun _ _ _ h => h) (Or.inl ⟨?wri3, ?yri3⟩) hHeld ?rri3
  case hri3 => simp only [List.getElem?_toArray, List.getElem?_cons_zero, List.getElem?_cons_succ]; rfl
  case wri3 => rfl
  case yri3 => intro w hSw; (try dsimp only at hSw); go_simp; (try with_reducible rfl)
  simp only [Act.put, List.setIfInBounds_toArray, List.set_cons_zero, List.set_cons_succ]
  refine LastR.take (i := 4) (v := ?vri4) (oi := ?ori4) ?hri4 (by kernel_rfl) (by kernel_rfl) (by kernel_rfl) (by kernel_rfl) (fun _ _ _ h => h) (Or.inl ⟨?wri4, ?yri4⟩) hHeld ?rri4
  case hri4 => simp only [List.getElem?_toArray, List.getElem?_cons_zero, List.getElem?_cons_succ]; rfl
  case wri4 => rfl
  case yri4 => intro w hSw; (try dsimp only at hSw); go_simp; (try with_reducible rfl)
  simp only [Act.put, List.setIfInBounds_toArray, List.set_cons_zero, List.set_cons_succ]
  refine LastR.take (i := 5) (v := ?vri5) (oi := ?ori5) ?hri5 (by kernel_rfl) (by kernel_rfl) (by kernel_rfl) (by kernel_rfl) (fun _ _ _ h => h) (Or.inl ⟨?wri5, ?yri5⟩) hHeld ?rri5
  case hri5 => simp only [List.getElem?_toArray, List.getElem?_cons_zero, List.getElem?_cons_succ]; rfl
  case wri5 => rfl
  case yri5 => intro w hSw; (try dsimp only at hSw); go_simp; (try with_reducible rfl)
  simp only [Act.put, List.setIfInBounds_toArray, List.set_cons_zero, List.set_cons_succ]
  refine LastR.take (i := 6) (v := ?vri6) (oi := ?ori6) ?hri6 (by kernel_rfl) (by kernel_rfl) (by kernel_rfl) (by kernel_rfl) (fun _ _ _ h => h) (Or.inl ⟨?wri6, ?yri6⟩) hHeld ?rri6
  case hri6 => simp only [List.getElem?_toArray, List.getElem?_cons_zero, List.getElem?_cons_succ]; rfl
  case wri6 => rfl
  case yri6 => intro w hSw; (try dsimp only at hSw); go_simp; (try with_reducible rfl)
  simp only [Act.put, List.setIfInBounds_toArray, List.set_cons_zero, List.set_cons_succ]
  refine LastR.run (i := 7) (o := ?ori7) ?hri7 (by kernel_rfl) (fun K hK => ?sri7)
  case hri7 => simp only [List.getElem?_toArray, List.getElem?_cons_zero, List.getElem?_cons_succ]; rfl
  go_simp
  have hcp := tcopied_any (w := w6.drew) (o := q.o) HV6.out HSM.out.1 HSM.out.2
  refine hcp.mono ?_
  rintro e w7 ⟨A7, n7, c7, rfl, hpl, hk7⟩
  have HPL7 : Hid (PlR w7 (fun k => w6.heap.size ≤ k) (.slice A7 n7 c7) q.o.pl) := hpl
  have HK7 : Hid (Kp No w6 w7) := ((Kp.refl No w6).drew).trans' hk7
  clear hcp hpl hk7
  refine hK.out _ _ (fun _ => HSS.out _ (HK7.out.of_no _)) (fun hHe => ?_)
  have hHeld := hHe (by decide)
  clear hK K hHe
  try simp only [Act.put, List.setIfInBounds_toArray, List.set_cons_zero, List.set_cons_succ]
  refine LastR.run (i := 8) (o := ?ori8) ?hri8 (by kernel_rfl) (fun K hK => ?sri8)
  case hri8 => simp only [List.getElem?_toArray, List.getElem?_cons_zero, List.getElem?_cons_succ]; rfl
  go_simp
  refine hK.out _ _ (fun _ => HSS.out _ ((HK7.out.of_no _).trans' (Kp.alloc _ _ _))) (fun hHe => ?_)
  have hHeld := hHe (by decide)
  clear hK K hHe
  try simp only [Act.put, List.setIfInBounds_toArray, List.set_cons_zero, List.set_cons_succ]
  refine LastR.run (i := 9) (o := ?ori9) ?hri9 (by kernel_rfl) (fun K hK => ?sri9)
  case hri9 => simp only [List.getElem?_toArray, List.getElem?_cons_zero, List.getElem?_cons_succ]; rfl
  go_simp
  have HR8 := hide ((HR6.out.no HK7.out).no (Kp.alloc No w7 (.cells (obL q.o (.slice A7 n7 c7)).toArray 54)))
  have hb8 := Bx.new w7 54 (obL q.o (.slice A7 n7 c7))
  have hrow := HR8.out.row
  rw [← HN.out] at hrow
  have HK8 : Hid (Kp No W0 (w7.alloc (.cells (obL q.o (.slice A7 n7 c7)).toArray 54))) := (HK6.out.trans' HK7.out).al _
  have hins := tins_any (x := (q.o, .slice A7 n7 c7)) (i := p) hrow (zip_one (os := T.os) HR8.out) hpn (by omega) hb8 rfl (fun k hk => by have h1 := HR6.out.row.lt k hk; have h2 := HK7.out.size; omega)
  clear hrow hb8
  refine hins.mono ?_
  rintro e w9 ⟨A9, n9, c9, rfl, ho9, hk9, hb9⟩
  have HO9 := hide ho9
  have HK9 := hide hk9
  have HB9 := hide hb9
  have z4 : w9.frozen? ⟨g, 4, none⟩ = false := frozen_of_row w9 g 4 _ _ ((hk9.block g HR8.out.glt HR8.out.row_ne).trans HR8.out.blk)
  clear hins ho9 hk9 hb9
  refine hK.out _ _ (fun _ => HSS.out _ (((HK7.out.al (.cells (obL q.o (.slice A7 n7 c7)).toArray 54)).of_no _).trans' HK9.out)) (fun hHe => ?_)
  have hHeld := hHe (by decide)
  clear hK K hHe
  try simp only [Act.put, List.setIfInBounds_toArray, List.set_cons_zero, List.set_cons_succ]
  refine LastR.run (i := 10) (o := ?ori10) ?hri10 (by kernel_rfl) (fun K hK => ?sri10)
  case hri10 => simp only [List.getElem?_toArray, List.getElem?_cons_zero, List.getElem?_cons_succ]; rfl
  go_simp
  refine hK.out _ _ (fun _ => hHeld) (fun hHe => ?_)
  have hHeld := hHe (by decide)
  clear hK K hHe
  try simp only [Act.put, List.setIfInBounds_toArray, List.set_cons_zero, List.set_cons_succ]
  refine LastR.take (i := 11) (v := ?vri11) (oi := ?ori11) ?hri11 (by kernel_rfl) (by kernel_rfl) (by kernel_rfl) (by kernel_rfl) (fun _ _ _ h => h) (Or.inl ⟨?wri11, ?yri11⟩) hHeld ?rri11
  case hri11 => simp only [List.getElem?_toArray, List.getElem?_cons_zero, List.getElem?_cons_succ]; rfl
  case wri11 => rfl
  case yri11 => intro w hSw; (try dsimp only at hSw); go_simp; (try with_reducible rfl)
  simp only [Act.put, List.setIfInBounds_toArray, List.set_cons_zero, List.set_cons_succ]
  refine LastR.run (i := 12) (o := ?ori12) ?hri12 (by kernel_rfl) (fun K hK => ?sri12)
  case hri12 => simp only [List.getElem?_toArray, List.getElem?_cons_zero, List.getElem?_cons_succ]; rfl
  go_simp
  refine hK.out _ _ (fun h => absurd rfl h) (fun _ => ?_)
  clear hK K
  try simp only [Act.put, List.setIfInBounds_toArray, List.set_cons_zero, List.set_cons_succ]
  refine LastR.done (by kernel_rfl) ?_ _
  refine NoPanic.normal ?_
  have y1 := (HB0.out.no HK8.out).keep HK9.out (fun e => by have h1 := HRL.out s e; omega) |>.cell (i := 1) rfl
  have y3 : w9.cell? ⟨g, 3, none⟩ = some (.int .u32 (T.lt : Int)) := HK9.out.cell HR8.out.c3 HR8.out.row_ne
  have z3 : w9.frozen? ⟨g, 3, none⟩ = false := frozen_of_row w9 g 3 _ _ ((HK9.out.block g HR8.out.glt HR8.out.row_ne).trans HR8.out.blk)
  go_wp2_with fail
  go_ret
  have hE := HE.out
  have htc : T.cmt q.o = T.put q.o := by unfold Tb.cmt; rw [if_pos hE]
  rw [hE, htc]
  have hpp := HPP.out
  have hnn := HN.out
  have hlv := HR8.out.len
  have hsz : w.heap.size ≤ w6.heap.size := (HK0.out.trans' HK6.out).size
  have hnx := HR8.out.next2 (G := Up F w) (T' := T.put q.o) (vs' := vs.take p ++ [.slice A7 n7 c7] ++ vs.drop p) (A' := A9) (n' := n9) (c' := c9) HK9.out
    (by
      show OwnT w9 0 _ 6 _ (insO T.os q.o).length (obC ((insO T.os q.o).zip _))
      have hz := zip_ins T.os vs p q.o (.slice A7 n7 c7) hlv
      have hi : insO T.os q.o = T.os.take p ++ [q.o] ++ T.os.drop p := by unfold insO; rw [← hpp]
      have hl : (insO T.os q.o).length = n + 1 := by rw [hi]; simp only [List.length_append, List.length_take, List.length_drop, List.length_singleton]; omega
      rw [hl, hi, hz]
      exact HO9.out) ⟨rfl, rfl, rfl⟩
    (by
      show _ = (insO T.os q.o).length
      unfold insO
      rw [← hpp]
      simp only [List.length_append, List.length_take, List.length_drop, List.length_singleton]
      omega)
    (fun j o v hj hv => by
      have hj2 : (insO T.os q.o)[j]? = some o := hj
      unfold insO at hj2
      rw [← hpp, ins_get _ _ _ _ (by omega)] at hj2
      rw [ins_get _ _ _ _ (by omega)] at hv
      by_cases g1 : j < p
      · rw [if_pos g1] at hj2 hv
        exact ((HR8.out.pls _ _ _ hj2 hv).away HK9.out HR8.out.row_at).mono fun k _ hf => .inl hf
      · rw [if_neg g1] at hj2 hv
        by_cases g2 : j = p
        · rw [if_pos g2] at hj2 hv
          injection hj2 with hj2
          injection hv with hv
          subst hj2 hv
          exact ((HPL7.out.no (Kp.alloc No _ _)).away HK9.out HR8.out.row_at).mono fun k _ hf => .inr (Nat.le_trans hsz hf)
        · rw [if_neg g2] at hj2 hv
          exact ((HR8.out.pls _ _ _ hj2 hv).away HK9.out HR8.out.row_at).mono fun k _ hf => .inl hf)
    (fun a b u v k ha hb hu hv => by
      have hold : ∀ (i : Nat) u k, vs[i]? = some u → u.ownBlock = some k → k < w6.heap.size := fun i u k hi hk => by
        have hil := (List.getElem?_eq_some_iff.1 hi).1
        obtain ⟨us, h1, _⟩ := HR6.out.pls i _ u (List.getElem?_eq_getElem (by omega)) hi
        exact h1.lt k hk
      have hnew : ∀ k, (Value.slice A7 n7 c7).ownBlock = some k → w6.heap.size ≤ k := fun k hk => by
        obtain ⟨us, _, h2, _⟩ := HPL7.out
        exact h2 k hk
      rw [ins_get _ _ _ _ (by omega)] at ha hb
      by_cases g1 : a < p
      · rw [if_pos g1] at ha
        by_cases g3 : b < p
        · rw [if_pos g3] at hb; exact HR8.out.inj _ _ _ _ _ ha hb hu hv
        · rw [if_neg g3] at hb
          by_cases g4 : b = p
          · rw [if_pos g4] at hb; injection hb with hb; subst hb; have h1 := hold _ _ _ ha hu; have h2 := hnew _ hv; omega
          · rw [if_neg g4] at hb; have := HR8.out.inj _ _ _ _ _ ha hb hu hv; omega
      · rw [if_neg g1] at ha
        by_cases g2 : a = p
        · rw [if_pos g2] at ha
          injection ha with ha
          subst ha
          by_cases g3 : b < p
          · rw [if_pos g3] at hb; have h1 := hold _ _ _ hb hv; have h2 := hnew _ hu; omega
          · rw [if_neg g3] at hb
            by_cases g4 : b = p
            · omega
            · rw [if_neg g4] at hb; have h1 := hold _ _ _ hb hv; have h2 := hnew _ hu; omega
        · rw [if_neg g2] at ha
          by_cases g3 : b < p
          · rw [if_pos g3] at hb; have := HR8.out.inj _ _ _ _ _ ha hb hu hv; omega
          · rw [if_neg g3] at hb
            by_cases g4 : b = p
            · rw [if_pos g4] at hb; injection hb with hb; subst hb; have h1 := hold _ _ _ ha hu; have h2 := hnew _ hv; omega
            · rw [if_neg g4] at hb; have := HR8.out.inj _ _ _ _ _ ha hb hu hv; omega)
    (fun k hk => (HB9.out k hk).elim (fun e => .inl (HR8.out.fv k e)) fun e => .inr (Nat.le_trans (HK0.out.trans' HK8.out).size e)) (fun k hf => .inl hf) (HR6.out.ok.put hE)
  exact ⟨rfl, ⟨_, _, _, _, hnx.1⟩, ((HK0.out.trans' HK8.out).of_no F).trans' hnx.2⟩
end Go.Proofs.Ythicpblgonigcaa
