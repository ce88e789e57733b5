/- Package table's move, as a contract (its regions printed by tools/gen_tbp.py). No condition. -/
import Derived.Test.YthicpblgonigcaaNcaq
namespace Go.Proofs.Ythicpblgonigcaa
open Go.RowKit
set_option linter.unusedVariables false
set_option linter.unusedSimpArgs false
set_option maxRecDepth 20000

section
variable {T : Tb} {o : Ob} {q : Oq} {k : Nat} {z : Int}
theorem mv_no (h : T.mvE q ≠ 0) : T.mv q = T := by
  unfold Tb.mv
  rcases ho : T.os[fNo T.os q.o.num]? with _ | o
  · rfl
  · show (if T.mvE q = 0 then _ else T) = T
    rw [if_neg h]
theorem mvE_none (h : ¬ fNo T.os q.o.num < T.os.length) : T.mvE q = 6 := by
  unfold Tb.mvE
  rw [List.getElem?_eq_none (by omega)]
theorem mvE_at (hk : fNo T.os q.o.num = k) (ho : T.os[k]? = some o) : T.mvE q = if inO T.sl o q = false then 6 else if okS T.sl T.nd (newS o q) = false then 1 else if q.tg ≤ oldG o q then 28 else 0 := by
  unfold Tb.mvE
  rw [hk, ho]
theorem mv_ok (hk : fNo T.os q.o.num = k) (ho : T.os[k]? = some o) (h : T.mvE q = 0) : T.mv q = { T with os := T.os.set k (newO o q) } := by
  unfold Tb.mv
  rw [hk, ho]
  show (if T.mvE q = 0 then _ else T) = _
  rw [if_pos h]
theorem TbPost.noM {w w1 : World} {F : Nat → Prop} {g : Nat} (h : TbAt w F g T) (hk : Kp No w w1) (he : T.mvE q = z) (hz : z ≠ 0) : TbPost w F g (T.mv q) (T.mvE q) (.returned (.int .i64 z)) w1 := by
  rw [mv_no (by rw [he]; exact hz), he]
  exact TbPost.same h hk z
end
theorem OwnT.setI {w : World} {base g n c k r sz : Nat} {e : TypeId} {xs : List Value} (h : OwnT w base e sz (.slice (some ⟨g, 0, none⟩) r c) n xs) (v : Value) (hk : k < n * sz) : OwnT (w.setCell ⟨g, k, none⟩ v) base e sz (.slice (some ⟨g, 0, none⟩) r c) n (xs.set k v) := by
  have hl := h.1
  rcases h.2 with ⟨e1, hn⟩ | ⟨g', cap, cur, e1, hb, hg, h1, h2, h3, ht⟩
  · cases e1
  · injection e1 with e1 e2 e3
    injection e1 with e1
    injection e1 with e1
    subst e1 e2 e3
    refine ⟨by rw [List.length_set]; exact hl, .inr ⟨g, c, cur.setIfInBounds k v, rfl, hb, heap_setCell_same w g k cur _ _ hg, h1, h2, by rw [Array.size_setIfInBounds]; exact h3, ?_⟩⟩
    rw [Array.toList_setIfInBounds, ← ht, List.take_set]
theorem pcC_set : ∀ (l : List Pc) (i : Nat) (p : Pc), i < l.length → ((pcC l).set (i * 2) (.int .i64 p.1)).set (i * 2 + 1) (.int .u32 (p.2 : Int)) = pcC (l.set i p)
  | [], i, p, h => by simp at h
  | y :: l, 0, p, h => by simp [pcC, pcF]
  | y :: l, i + 1, p, h => by
    have ih := pcC_set l i p (by simpa using h)
    have e1 : pcC (y :: l) = [.int .i64 y.1, .int .u32 (y.2 : Int)] ++ pcC l := rfl
    have e2 : pcC ((y :: l).set (i + 1) p) = [.int .i64 y.1, .int .u32 (y.2 : Int)] ++ pcC (l.set i p) := rfl
    rw [e1, e2, ← ih, show (i + 1) * 2 = i * 2 + 2 by omega, show i * 2 + 2 + 1 = i * 2 + 1 + 2 by omega]
    rfl
/-- The outer row at block gp is turned: another object's rows stay. -/
theorem PlR.other {w w1 : World} {F : Nat → Prop} {v : Value} {P : List (List Pc)} {gp : Nat} {cur : Array Value} (h : PlR w F v P) (hne : v.ownBlock ≠ some gp) (hg : w.heap[gp]? = some (.cells cur 88 (0, 0))) (hk : Kp (fun k => k = gp) w w1) : PlR w1 F v P := by
  obtain ⟨us, h1, h2, h3⟩ := h
  refine ⟨us, h1.keep hk fun b hb e => hne (e ▸ hb), h2, fun j u l hu hl => ?_⟩
  have hp := h3 j u l hu hl
  exact ⟨hp.own.keep hk fun b hb e => OwnT.not_at hp.own hg (by decide) (e ▸ hb), hp.fv⟩
theorem obC_same {os : List Ob} {vs : List Value} {k : Nat} {o o2 : Ob} (ho : os[k]? = some o) (he : ∀ v, obF (o2, v) = obF (o, v)) : obC ((os.set k o2).zip vs) = obC (os.zip vs) := by
  have key : ∀ (os : List Ob) (vs : List Value) (k : Nat), os[k]? = some o → ((os.set k o2).zip vs).flatMap obF = (os.zip vs).flatMap obF := by
    intro os
    induction os with
    | nil => intro vs k h; simp at h
    | cons a os ih =>
      intro vs k h
      rcases vs with _ | ⟨v, vs⟩
      · simp
      · rcases k with _ | k
        · simp at h
          subst h
          simp [he]
        · simp only [List.getElem?_cons_succ] at h
          simp [ih vs k h]
  exact key os vs k ho
/-- One stripe of an object has other places. -/
theorem TbR.moved {w : World} {F G : Nat → Prop} {g : Nat} {A : Option Addr} {n c : Nat} {T : Tb} {vs : List Value} {k gp pn cv st : Nat} {o : Ob} {s' : Value} {l' : List Pc} (h : TbR w F g A n c T vs) (ho : T.os[k]? = some o) (hv : vs[k]? = some (.slice (some ⟨gp, 0, none⟩) pn cv)) (hst : st < o.pl.length) (hs : PlS w G s' l') (hG : ∀ k, F k → G k)
    (ok : ({ T with os := T.os.set k { o with pl := o.pl.set st l' } } : Tb).Ok) : TbR (w.setCell ⟨gp, st, none⟩ s') G g A n c { T with os := T.os.set k { o with pl := o.pl.set st l' } } vs ∧ Kp F w (w.setCell ⟨gp, st, none⟩ s') := by
  have hkl := (List.getElem?_eq_some_iff.1 ho).1
  obtain ⟨us, h1, h2, h3⟩ := h.pls k o _ ho hv
  obtain ⟨cur, hcur⟩ := h1.kind rfl
  have hk : Kp (fun b => b = gp) w (w.setCell ⟨gp, st, none⟩ s') := Kp.setCell (p := ⟨gp, st, none⟩) (S := fun b => b = gp) rfl _
  have hgg : g ≠ gp := fun e => by
    subst e
    have := h.blk
    rw [hcur] at this
    injection this with this
    injection this with _ this
    exact absurd this (by decide)
  refine ⟨⟨(hk.block g h.glt hgg).trans h.blk, ?_, by rw [h.len]; exact List.length_set.symm, fun j o2 v2 hj hv2 => ?_, h.inj, hG g h.fg, fun b hb => hG b (h.fv b hb), ok⟩, hk.mono fun b e => h2 b (by rw [e]; rfl)⟩
  · show OwnT _ 0 _ 6 _ (T.os.set k _).length (obC ((T.os.set k _).zip vs))
    rw [List.length_set, obC_same (o := o) (o2 := { o with pl := o.pl.set st l' }) ho fun v => rfl]
    exact h.row.keep hk fun b hb e => OwnT.not_at h.row hcur (by decide) (e ▸ hb)
  · have hj2 : (T.os.set k { o with pl := o.pl.set st l' })[j]? = some o2 := hj
    rw [List.getElem?_set] at hj2
    by_cases e : k = j
    · subst e
      rw [if_pos rfl, if_pos hkl] at hj2
      injection hj2 with hj2
      subst hj2
      rw [hv] at hv2
      injection hv2 with hv2
      subst hv2
      refine ⟨us.set st s', ?_, fun b hb => hG b (h2 b hb), fun i u l hu hl => ?_⟩
      · show OwnT _ 0 _ 1 _ (o.pl.set st l').length (us.set st s')
        rw [List.length_set]
        exact h1.set1 hst s'
      · have hl2 : (o.pl.set st l')[i]? = some l := hl
        rw [List.getElem?_set] at hl2 hu
        by_cases e : st = i
        · subst e
          rw [if_pos rfl, if_pos hst] at hl2
          rw [if_pos rfl, if_pos (by rw [h1.1]; omega)] at hu
          injection hl2 with hl2
          injection hu with hu
          subst hl2 hu
          exact ⟨hs.own.keep hk fun b hb e => OwnT.not_at hs.own hcur (by decide) (e ▸ hb), hs.fv⟩
        · rw [if_neg e] at hl2 hu
          have hp := h3 i u l hu hl2
          exact ⟨hp.own.keep hk fun b hb e => OwnT.not_at hp.own hcur (by decide) (e ▸ hb), fun b hb => hG b (hp.fv b hb)⟩
    · rw [if_neg e] at hj2
      have hp := h.pls j o2 v2 hj2 hv2
      exact (hp.other (fun hb => e (h.inj _ _ _ _ _ hv hv2 rfl hb)) hcur hk).mono fun b _ hf => hG b hf
set_option maxRecDepth 100000 in
set_option maxHeartbeats 8000000 in
theorem tmove_any {w : World} {F : Nat → Prop} {g : Nat} {T : Tb} {q : Oq} {A2 : Option Addr} {m c2 : Nat} (h : TbAt w F g T) :
    Calls Try.prog 33 #[.pointer (some ⟨g, 0, none⟩), oqV q (.slice A2 m c2)] w (TbPost w F g (T.mv q) (T.mvE q)) := by
  have hka := Kp.alloc No w (.cells #[.int .i64 q.kd, .int .u32 (q.o.num : Int), .string (strOf q.o.nm), .int .i64 q.o.ln, .int .i64 q.o.ct, .int .i64 q.o.pc, .slice A2 m c2, .int .i64 q.st, .int .i64 q.so, .int .i64 q.tn, .int .u32 (q.tg : Int)] 48)
  have HB0 := hide (Bx.new w 48 [.int .i64 q.kd, .int .u32 (q.o.num : Int), .string (strOf q.o.nm), .int .i64 q.o.ln, .int .i64 q.o.ct, .int .i64 q.o.pc, .slice A2 m c2, .int .i64 q.st, .int .i64 q.so, .int .i64 q.tn, .int .u32 (q.tg : Int)])
  have HT := hide h
  have HFB := hide (fun (w1 : World) (hk : Kp No w w1) (z : Int) (he : T.mvE q = z) (hz : z ≠ 0) => TbPost.noM h hk he hz)
  have HK0 := hide hka
  obtain ⟨A, n, c, vs, hR⟩ := h
  have hg := hR.glt
  have HR := hide hR
  have HN := hide hR.n_
  have hn64 : n ≤ 64 := by rw [HN.out]; exact hR.ok.len
  clear hR hka
  go_enter Try.func33, Try.ntmps33
  go_wp2_with fail
  obtain ⟨s, hs⟩ : ∃ s, s = w.heap.size := ⟨_, rfl⟩
  rw [← hs] at HB0 hg ⊢
  have hsl : s < (w.alloc (.cells #[.int .i64 q.kd, .int .u32 (q.o.num : Int), .string (strOf q.o.nm), .int .i64 q.o.ln, .int .i64 q.o.ct, .int .i64 q.o.pc, .slice A2 m c2, .int .i64 q.st, .int .i64 q.so, .int .i64 q.tn, .int .u32 (q.tg : Int)] 48)).heap.size := by simp; omega
  have HS := hide hs
  clear hs
  generalize w.alloc (.cells #[.int .i64 q.kd, .int .u32 (q.o.num : Int), .string (strOf q.o.nm), .int .i64 q.o.ln, .int .i64 q.o.ct, .int .i64 q.o.pc, .slice A2 m c2, .int .i64 q.st, .int .i64 q.so, .int .i64 q.tn, .int .u32 (q.tg : Int)] 48) = W0 at HB0 HK0 hsl ⊢
  have HXC : Hid (∀ w', Kp No W0 w' → w'.cell? ⟨s, 7, none⟩ = some (.int .i64 q.st) ∧ w'.cell? ⟨s, 8, none⟩ = some (.int .i64 q.so) ∧ w'.cell? ⟨s, 9, none⟩ = some (.int .i64 q.tn) ∧ w'.cell? ⟨s, 10, none⟩ = some (.int .u32 (q.tg : Int))) := fun w' hk =>
    ⟨(HB0.out.no hk).cell rfl, (HB0.out.no hk).cell rfl, (HB0.out.no hk).cell rfl, (HB0.out.no hk).cell rfl⟩
  refine (tnumbered_any (HT.out.no HK0.out) q.o.num).mono ?_
  by_cases hf : fNo T.os q.o.num < T.os.length
  rotate_left 1
  · have HE := hide (mvE_none hf)
    rw [show ixZ (fNo T.os q.o.num) T.os.length = -1 by unfold ixZ; rw [if_neg hf]]
    clear hf
    rintro e w1 ⟨rfl, hk1⟩
    have HK1 := hide hk1
    clear hk1
    go_wp2_with fail
    go_ret
    exact HFB.out _ (HK0.out.trans' HK1.out) 6 HE.out (by decide)
  obtain ⟨k, hk⟩ : ∃ k, fNo T.os q.o.num = k := ⟨_, rfl⟩
  rw [show ixZ (fNo T.os q.o.num) T.os.length = (k : Int) by unfold ixZ; rw [if_pos hf, hk]]
  obtain ⟨o, ho⟩ : ∃ o, T.os[k]? = some o := ⟨_, List.getElem?_eq_getElem (by omega)⟩
  have hkn : k < n := by rw [HN.out]; omega
  have HE := hide (mvE_at hk ho)
  have HMV := hide (mv_ok hk ho)
  have HO := hide ho
  clear hf hk
  rintro e w1 ⟨rfl, hk1⟩
  have HK1 := hide hk1
  clear hk1
  have hR1 := HR.out.no (HK0.out.trans' HK1.out)
  have c4 := hR1.c4
  have c0 := hR1.c0
  have hgl := hR1.glt
  obtain ⟨gr, rfl, _⟩ := OwnT.some_ hR1.row (by have := HN.out; omega)
  obtain ⟨B, off, v, e1, _, hx, hp⟩ := hR1.rd.at_ k o ho
  injection e1 with e1
  injection e1 with e1 e2
  subst e1 e2
  obtain ⟨v', hv'⟩ : ∃ v', vs[k]? = some v' := ⟨_, List.getElem?_eq_getElem (by rw [hR1.len]; have := HN.out; omega)⟩
  have hvv : v = v' := by
    have h1 := OwnT.cellAt hR1.row ((obC_get (i := 5) (zip_get ho hv') (by omega)).trans rfl)
    have h2 := hx.2.2.2.2.2
    rw [Nat.zero_add] at h2
    rw [h1] at h2
    exact (Option.some.inj h2).symm
  subst hvv
  obtain ⟨us, hus, hufv, hupl⟩ := hR1.pls k o v ho hv'
  obtain ⟨Av, cv, hz⟩ := hus.form
  subst hz
  obtain ⟨P, hP⟩ : ∃ P, P = o.pl := ⟨_, rfl⟩
  rw [← hP] at hus hupl hx hv'
  obtain ⟨pn, hpn⟩ : ∃ pn, pn = P.length := ⟨_, rfl⟩
  rw [← hpn] at hus hx hv'
  have x5 := hx.2.2.2.2.2
  simp only [Nat.zero_add] at x5
  have hgr : gr < w1.heap.size := hx.lt
  have HP := hide hP
  have HPN := hide hpn
  have HR1 := hide hR1
  have HV := hide hv'
  have HUS := hide hus
  have HUP := hide hupl
  have HUF := hide hufv
  have HOKO := hide (hR1.ok.rgt k o ho)
  have HSL2 := hide hR1.ok.sl2
  have hpn32 : pn ≤ 32 := by
    obtain ⟨a1, a2, a3, a4⟩ := okO_parts (hR1.ok.rgt k o ho)
    have := okP_parts a2
    rw [hpn, hP]
    omega
  have hsl24 : T.sl ≤ 24 := hR1.ok.sl2
  obtain ⟨y7, y8, y9, y10⟩ := HXC.out _ HK1.out
  have hsl1 := Nat.lt_of_lt_of_le hsl HK1.out.size
  clear hR1 hx hp ho hP hpn hv' hus hupl hufv
  have hIN : ¬ (0 ≤ q.st ∧ q.st < pn ∧ 0 ≤ q.so ∧ q.so < T.sl) → T.mvE q = 6 := fun e => by
    have hh : inO T.sl o q = false := decide_eq_false (by rw [← HP.out, ← HPN.out]; exact e)
    rw [HE.out, if_pos hh]
  have HIN := hide hIN
  clear hIN
  by_cases b1 : q.st < 0
  · have hE := hide (HIN.out (by omega))
    have d1 : decide (q.st < 0) = true := decide_eq_true b1
    go_wp2_with fail
    go_quiet (fail)
    go_wp2_with fail
    go_ret
    exact HFB.out _ ((HK0.out.trans' HK1.out).drewN _) 6 hE.out (by decide)
  obtain ⟨st, hst⟩ : ∃ st : Nat, q.st = st := ⟨q.st.toNat, by omega⟩
  have HST := hide hst
  rw [hst] at y7
  have d1 : decide ((st : Int) < 0) = false := by simp
  by_cases b2 : pn ≤ st
  · have hE := hide (HIN.out (by rw [hst]; omega))
    have d2 : decide (pn ≤ st) = true := decide_eq_true b2
    clear b1 hst
    go_wp2_with fail
    go_quiet (fail)
    go_wp2_with fail
    go_ret
    exact HFB.out _ ((HK0.out.trans' HK1.out).drewN _) 6 hE.out (by decide)
  have d2 : decide (pn ≤ st) = false := decide_eq_false b2
  by_cases b3 : q.so < 0
  · have hE := hide (HIN.out (by omega))
    have d3 : decide (q.so < 0) = true := decide_eq_true b3
    clear b1 hst
    go_wp2_with fail
    go_quiet (fail)
    go_wp2_with fail
    go_ret
    exact HFB.out _ ((HK0.out.trans' HK1.out).drewN _) 6 hE.out (by decide)
  obtain ⟨so, hso⟩ : ∃ so : Nat, q.so = so := ⟨q.so.toNat, by omega⟩
  have HSO := hide hso
  rw [hso] at y8
  have d3 : decide ((so : Int) < 0) = false := by simp
  by_cases b4 : T.sl ≤ so
  · have hE := hide (HIN.out (by rw [hst, hso]; omega))
    have d4 : decide (T.sl ≤ so) = true := decide_eq_true b4
    clear b1 hst hso b3
    go_wp2_with fail
    go_quiet (fail)
    go_wp2_with fail
    go_ret
    exact HFB.out _ ((HK0.out.trans' HK1.out).drewN _) 6 hE.out (by decide)
  have d4 : decide (T.sl ≤ so) = false := decide_eq_false b4
  clear b1 hst hso b3
  go_wp2_with fail
  refine wp_region_noPanic ?_
  refine wp_region_held_drew (S := fun w' => w'.cell? ⟨s, 7, none⟩ = some (.int .i64 (st : Int)) ∧ w'.cell? ⟨s, 8, none⟩ = some (.int .i64 (so : Int)) ∧ w'.cell? ⟨g, 0, none⟩ = some (.int .i64 (T.sl : Int))) (by kernel_rfl) (⟨y7, y8, c0⟩) (fun hHeld => ?_)
  refine wpAnyH_take (i := 0) (v := ?vrm0) (oi := ?orm0) ?hrm0 (by kernel_rfl) (by kernel_rfl) (by kernel_rfl) (fun _ _ _ h => h) (Or.inl ⟨?wrm0, ?yrm0⟩) hHeld ?rrm0
  case hrm0 => simp only [List.getElem?_toArray, List.getElem?_cons_zero, List.getElem?_cons_succ]; rfl
  case wrm0 => rfl
  case yrm0 => intro w hSw; (try dsimp only at hSw); go_simp; (try with_reducible rfl)
  simp only [Act.put, List.setIfInBounds_toArray, List.set_cons_zero, List.set_cons_succ]
  refine wpAnyH_take (i := 1) (v := ?vrm1) (oi := ?orm1) ?hrm1 (by kernel_rfl) (by kernel_rfl) (by kernel_rfl) (fun _ _ _ h => h) (Or.inl ⟨?wrm1, ?yrm1⟩) hHeld ?rrm1
  case hrm1 => simp only [List.getElem?_toArray, List.getElem?_cons_zero, List.getElem?_cons_succ]; rfl
  case wrm1 => rfl
  case yrm1 => intro w hSw; (try dsimp only at hSw); go_simp; (try with_reducible rfl)
  simp only [Act.put, List.setIfInBounds_toArray, List.set_cons_zero, List.set_cons_succ]
  refine wpAnyH_take (i := 2) (v := ?vrm2) (oi := ?orm2) ?hrm2 (by kernel_rfl) (by kernel_rfl) (by kernel_rfl) (fun _ _ _ h => h) (Or.inl ⟨?wrm2, ?yrm2⟩) hHeld ?rrm2
  case hrm2 => simp only [List.getElem?_toArray, List.getElem?_cons_zero, List.getElem?_cons_succ]; rfl
  case wrm2 => rfl
  case yrm2 => intro w hSw; (try dsimp only at hSw); go_simp; (try with_reducible rfl)
  simp only [Act.put, List.setIfInBounds_toArray, List.set_cons_zero, List.set_cons_succ]
  refine wpAnyH_take (i := 3) (v := ?vrm3) (oi := ?orm3) ?hrm3 (by kernel_rfl) (by kernel_rfl) (by kernel_rfl) (fun _ _ _ h => h) (Or.inl ⟨?wrm3, ?yrm3⟩) hHeld ?rrm3
  case hrm3 => simp only [List.getElem?_toArray, List.getElem?_cons_zero, List.getElem?_cons_succ]; rfl
  case wrm3 => rfl
  case yrm3 => intro w hSw; (try dsimp only at hSw); go_simp; (try with_reducible rfl)
  simp only [Act.put, List.setIfInBounds_toArray, List.set_cons_zero, List.set_cons_succ]
  refine wpAnyH_take (i := 4) (v := ?vrm4) (oi := ?orm4) ?hrm4 (by kernel_rfl) (by kernel_rfl) (by kernel_rfl) (fun _ _ _ h => h) (Or.inl ⟨?wrm4, ?yrm4⟩) hHeld ?rrm4
  case hrm4 => simp only [List.getElem?_toArray, List.getElem?_cons_zero, List.getElem?_cons_succ]; rfl
  case wrm4 => rfl
  case yrm4 => intro w hSw; (try dsimp only at hSw); go_simp; (try with_reducible rfl)
  simp only [Act.put, List.setIfInBounds_toArray, List.set_cons_zero, List.set_cons_succ]
  refine wpAnyH_take (i := 5) (v := ?vrm5) (oi := ?orm5) ?hrm5 (by kernel_rfl) (by kernel_rfl) (by kernel_rfl) (fun _ _ _ h => h) (Or.inl ⟨?wrm5, ?yrm5⟩) hHeld ?rrm5
  case hrm5 => simp only [List.getElem?_toArray, List.getElem?_cons_zero, List.getElem?_cons_succ]; rfl
  case wrm5 => rfl
  case yrm5 => intro w hSw; (try dsimp only at hSw); go_simp; (try with_reducible rfl)
  simp only [Act.put, List.setIfInBounds_toArray, List.set_cons_zero, List.set_cons_succ]
  refine wpAnyH_take (i := 6) (v := ?vrm6) (oi := ?orm6) ?hrm6 (by kernel_rfl) (by kernel_rfl) (by kernel_rfl) (fun _ _ _ h => h) (Or.inl ⟨?wrm6, ?yrm6⟩) hHeld ?rrm6
  case hrm6 => simp only [List.getElem?_toArray, List.getElem?_cons_zero, List.getElem?_cons_succ]; rfl
  case wrm6 => rfl
  case yrm6 => intro w hSw; (try dsimp only at hSw); go_simp; (try with_reducible rfl)
  simp only [Act.put, List.setIfInBounds_toArray, List.set_cons_zero, List.set_cons_succ]
  refine wpAnyH_take (i := 7) (v := ?vrm7) (oi := ?orm7) ?hrm7 (by kernel_rfl) (by kernel_rfl) (by kernel_rfl) (fun _ _ _ h => h) (Or.inl ⟨?wrm7, ?yrm7⟩) hHeld ?rrm7
  case hrm7 => simp only [List.getElem?_toArray, List.getElem?_cons_zero, List.getElem?_cons_succ]; rfl
  case wrm7 => rfl
  case yrm7 => intro w hSw; (try dsimp only at hSw); go_simp; (try with_reducible rfl)
  simp only [Act.put, List.setIfInBounds_toArray, List.set_cons_zero, List.set_cons_succ]
  refine wpAnyH_take (i := 8) (v := ?vrm8) (oi := ?orm8) ?hrm8 (by kernel_rfl) (by kernel_rfl) (by kernel_rfl) (fun _ _ _ h => h) (Or.inl ⟨?wrm8, ?yrm8⟩) hHeld ?rrm8
  case hrm8 => simp only [List.getElem?_toArray, List.getElem?_cons_zero, List.getElem?_cons_succ]; rfl
  case wrm8 => rfl
  case yrm8 => intro w hSw; (try dsimp only at hSw); go_simp; (try with_reducible rfl)
  simp only [Act.put, List.setIfInBounds_toArray, List.set_cons_zero, List.set_cons_succ]
  refine wpAnyH_take (i := 9) (v := ?vrm9) (oi := ?orm9) ?hrm9 (by kernel_rfl) (by kernel_rfl) (by kernel_rfl) (fun _ _ _ h => h) (Or.inl ⟨?wrm9, ?yrm9⟩) hHeld ?rrm9
  case hrm9 => simp only [List.getElem?_toArray, List.getElem?_cons_zero, List.getElem?_cons_succ]; rfl
  case wrm9 => rfl
  case yrm9 => intro w hSw; (try dsimp only at hSw); go_simp; (try with_reducible rfl)
  simp only [Act.put, List.setIfInBounds_toArray, List.set_cons_zero, List.set_cons_succ]
  refine wpAnyH_take (i := 10) (v := ?vrm10) (oi := ?orm10) ?hrm10 (by kernel_rfl) (by kernel_rfl) (by kernel_rfl) (fun _ _ _ h => h) (Or.inl ⟨?wrm10, ?yrm10⟩) hHeld ?rrm10
  case hrm10 => simp only [List.getElem?_toArray, List.getElem?_cons_zero, List.getElem?_cons_succ]; rfl
  case wrm10 => rfl
  case yrm10 => intro w hSw; (try dsimp only at hSw); go_simp; (try with_reducible rfl)
  simp only [Act.put, List.setIfInBounds_toArray, List.set_cons_zero, List.set_cons_succ]
  refine wpAnyH_take (i := 11) (v := ?vrm11) (oi := ?orm11) ?hrm11 (by kernel_rfl) (by kernel_rfl) (by kernel_rfl) (fun _ _ _ h => h) (Or.inl ⟨?wrm11, ?yrm11⟩) hHeld ?rrm11
  case hrm11 => simp only [List.getElem?_toArray, List.getElem?_cons_zero, List.getElem?_cons_succ]; rfl
  case wrm11 => rfl
  case yrm11 => intro w hSw; (try dsimp only at hSw); go_simp; (try with_reducible rfl)
  simp only [Act.put, List.setIfInBounds_toArray, List.set_cons_zero, List.set_cons_succ]
  refine wpAnyH_take (i := 12) (v := ?vrm12) (oi := ?orm12) ?hrm12 (by kernel_rfl) (by kernel_rfl) (by kernel_rfl) (fun _ _ _ h => h) (Or.inl ⟨?wrm12, ?yrm12⟩) hHeld ?rrm12
  case hrm12 => simp only [List.getElem?_toArray, List.getElem?_cons_zero, List.getElem?_cons_succ]; rfl
  case wrm12 => rfl
  case yrm12 => intro w hSw; (try dsimp only at hSw); go_simp; (try with_reducible rfl)
  simp only [Act.put, List.setIfInBounds_toArray, List.set_cons_zero, List.set_cons_succ]
  refine wpAnyH_take (i := 13) (v := ?vrm13) (oi := ?orm13) ?hrm13 (by kernel_rfl) (by kernel_rfl) (by kernel_rfl) (fun _ _ _ h => h) (Or.inl ⟨?wrm13, ?yrm13⟩) hHeld ?rrm13
  case hrm13 => simp only [List.getElem?_toArray, List.getElem?_cons_zero, List.getElem?_cons_succ]; rfl
  case wrm13 => rfl
  case yrm13 => intro w hSw; (try dsimp only at hSw); go_simp; (try with_reducible rfl)
  simp only [Act.put, List.setIfInBounds_toArray, List.set_cons_zero, List.set_cons_succ]
  refine wpAnyH_take (i := 14) (v := ?vrm14) (oi := ?orm14) ?hrm14 (by kernel_rfl) (by kernel_rfl) (by kernel_rfl) (fun _ _ _ h => h) (Or.inl ⟨?wrm14, ?yrm14⟩) hHeld ?rrm14
  case hrm14 => simp only [List.getElem?_toArray, List.getElem?_cons_zero, List.getElem?_cons_succ]; rfl
  case wrm14 => rfl
  case yrm14 => intro w hSw; (try dsimp only at hSw); go_simp; (try with_reducible rfl)
  simp only [Act.put, List.setIfInBounds_toArray, List.set_cons_zero, List.set_cons_succ]
  refine wpAnyH_take (i := 15) (v := ?vrm15) (oi := ?orm15) ?hrm15 (by kernel_rfl) (by kernel_rfl) (by kernel_rfl) (fun _ _ _ h => h) (Or.inl ⟨?wrm15, ?yrm15⟩) hHeld ?rrm15
  case hrm15 => simp only [List.getElem?_toArray, List.getElem?_cons_zero, List.getElem?_cons_succ]; rfl
  case wrm15 => rfl
  case yrm15 => intro w hSw; (try dsimp only at hSw); go_simp; (try with_reducible rfl)
  simp only [Act.put, List.setIfInBounds_toArray, List.set_cons_zero, List.set_cons_succ]
  refine wpAnyH_take (i := 16) (v := ?vrm16) (oi := ?orm16) ?hrm16 (by kernel_rfl) (by kernel_rfl) (by kernel_rfl) (fun _ _ _ h => h) (Or.inl ⟨?wrm16, ?yrm16⟩) hHeld ?rrm16
  case hrm16 => simp only [List.getElem?_toArray, List.getElem?_cons_zero, List.getElem?_cons_succ]; rfl
  case wrm16 => rfl
  case yrm16 => intro w hSw; (try dsimp only at hSw); go_simp; (try with_reducible rfl)
  simp only [Act.put, List.setIfInBounds_toArray, List.set_cons_zero, List.set_cons_succ]
  refine wpAnyH_take (i := 17) (v := ?vrm17) (oi := ?orm17) ?hrm17 (by kernel_rfl) (by kernel_rfl) (by kernel_rfl) (fun _ _ _ h => h) (Or.inl ⟨?wrm17, ?yrm17⟩) hHeld ?rrm17
  case hrm17 => simp only [List.getElem?_toArray, List.getElem?_cons_zero, List.getElem?_cons_succ]; rfl
  case wrm17 => rfl
  case yrm17 => intro w hSw; (try dsimp only at hSw); go_simp; (try with_reducible rfl)
  simp only [Act.put, List.setIfInBounds_toArray, List.set_cons_zero, List.set_cons_succ]
  refine wpAnyH_take (i := 18) (v := ?vrm18) (oi := ?orm18) ?hrm18 (by kernel_rfl) (by kernel_rfl) (by kernel_rfl) (fun _ _ _ h => h) (Or.inl ⟨?wrm18, ?yrm18⟩) hHeld ?rrm18
  case hrm18 => simp only [List.getElem?_toArray, List.getElem?_cons_zero, List.getElem?_cons_succ]; rfl
  case wrm18 => rfl
  case yrm18 => intro w hSw; (try dsimp only at hSw); go_simp; (try with_reducible rfl)
  simp only [Act.put, List.setIfInBounds_toArray, List.set_cons_zero, List.set_cons_succ]
  refine wpAnyH_take (i := 19) (v := ?vrm19) (oi := ?orm19) ?hrm19 (by kernel_rfl) (by kernel_rfl) (by kernel_rfl) (fun _ _ _ h => h) (Or.inl ⟨?wrm19, ?yrm19⟩) hHeld ?rrm19
  case hrm19 => simp only [List.getElem?_toArray, List.getElem?_cons_zero, List.getElem?_cons_succ]; rfl
  case wrm19 => rfl
  case yrm19 => intro w hSw; (try dsimp only at hSw); go_simp; (try with_reducible rfl)
  simp only [Act.put, List.setIfInBounds_toArray, List.set_cons_zero, List.set_cons_succ]
  refine wpAnyH_take (i := 20) (v := ?vrm20) (oi := ?orm20) ?hrm20 (by kernel_rfl) (by kernel_rfl) (by kernel_rfl) (fun _ _ _ h => h) (Or.inl ⟨?wrm20, ?yrm20⟩) hHeld ?rrm20
  case hrm20 => simp only [List.getElem?_toArray, List.getElem?_cons_zero, List.getElem?_cons_succ]; rfl
  case wrm20 => rfl
  case yrm20 => intro w hSw; (try dsimp only at hSw); go_simp; (try with_reducible rfl)
  simp only [Act.put, List.setIfInBounds_toArray, List.set_cons_zero, List.set_cons_succ]
  refine wpAnyH_take (i := 21) (v := ?vrm21) (oi := ?orm21) ?hrm21 (by kernel_rfl) (by kernel_rfl) (by kernel_rfl) (fun _ _ _ h => h) (Or.inl ⟨?wrm21, ?yrm21⟩) hHeld ?rrm21
  case hrm21 => simp only [List.getElem?_toArray, List.getElem?_cons_zero, List.getElem?_cons_succ]; rfl
  case wrm21 => rfl
  case yrm21 => intro w hSw; (try dsimp only at hSw); go_simp; (try with_reducible rfl)
  simp only [Act.put, List.setIfInBounds_toArray, List.set_cons_zero, List.set_cons_succ]
  refine wpAnyH_take (i := 22) (v := ?vrm22) (oi := ?orm22) ?hrm22 (by kernel_rfl) (by kernel_rfl) (by kernel_rfl) (fun _ _ _ h => h) (Or.inl ⟨?wrm22, ?yrm22⟩) hHeld ?rrm22
  case hrm22 => simp only [List.getElem?_toArray, List.getElem?_cons_zero, List.getElem?_cons_succ]; rfl
  case wrm22 => rfl
  case yrm22 => intro w hSw; (try dsimp only at hSw); go_simp; (try with_reducible rfl)
  simp only [Act.put, List.setIfInBounds_toArray, List.set_cons_zero, List.set_cons_succ]
  refine wpAnyH_take (i := 23) (v := ?vrm23) (oi := ?orm23) ?hrm23 (by kernel_rfl) (by kernel_rfl) (by kernel_rfl) (fun _ _ _ h => h) (Or.inl ⟨?wrm23, ?yrm23⟩) hHeld ?rrm23
  case hrm23 => simp only [List.getElem?_toArray, List.getElem?_cons_zero, List.getElem?_cons_succ]; rfl
  case wrm23 => rfl
  case yrm23 => intro w hSw; (try dsimp only at hSw); go_simp; (try with_reducible rfl)
  simp only [Act.put, List.setIfInBounds_toArray, List.set_cons_zero, List.set_cons_succ]
  refine wpAnyH_done (by kernel_rfl) ?_ _
  refine NoPanic.normal ?_
  have hso3 : so < T.sl := by omega
  have hst3 : st < pn := by omega
  have HK2 : Hid (Kp No W0 w1.drew) := HK1.out.drew
  have HR2 : Hid (TbR w1.drew F g (some ⟨gr, 0, none⟩) n c T vs) := HR1.out.no ((Kp.refl No w1).drew)
  obtain ⟨gp, hgp, _⟩ := OwnT.some_ HUS.out (by omega)
  subst hgp
  obtain ⟨l, hl⟩ : ∃ l, P[st]? = some l := ⟨_, List.getElem?_eq_getElem (by rw [← HPN.out]; exact hst3)⟩
  obtain ⟨u, hu⟩ : ∃ u, us[st]? = some u := ⟨_, List.getElem?_eq_getElem (by have := HUS.out.1; omega)⟩
  have hps := HUP.out st u l hu hl
  have hgc := OwnT.cellAt HUS.out hu
  have hokl : okS T.sl T.nd l = true := by
    obtain ⟨a1, a2, a3, a4⟩ := okO_parts HOKO.out
    exact a4 l (by rw [← HP.out]; exact List.mem_of_getElem? hl)
  have hll : l.length = T.sl := (okS_parts hokl).1
  obtain ⟨pp, hpp⟩ : ∃ pp, l[so]? = some pp := ⟨_, List.getElem?_eq_getElem (by omega)⟩
  have hgpl : gp < w1.heap.size := OwnT.blk HUS.out
  have hcl := tclone_any (w := w1.drew) (hps.rd.no ((Kp.refl No w1).drew)) (by omega)
  obtain ⟨Au, cu, hzu⟩ := hps.own.form
  subst hzu
  rw [hll] at hgc hcl
  have hgc2 : w1.drew.cell? ⟨gp, st, none⟩ = some (.slice Au T.sl cu) := hgc
  have HLN : Hid (newS o q = l.set so (q.tn, q.tg)) := by
    show _ = _
    unfold newS
    rw [HST.out, HSO.out]
    simp only [Int.toNat_natCast]
    rw [List.getD_eq_getElem?_getD, ← HP.out, hl]
    rfl
  have HOG : Hid (oldG o q = pp.2) := by
    show _ = _
    unfold oldG
    rw [HST.out, HSO.out]
    simp only [Int.toNat_natCast]
    rw [List.getD_eq_getElem?_getD (l := o.pl), ← HP.out, hl]
    simp [List.getD_eq_getElem?_getD, hpp]
  have HINY : Hid (inO T.sl o q = true) := decide_eq_true (by rw [HST.out, HSO.out, ← HP.out, ← HPN.out]; omega)
  have HCL := hide hcl
  have HLL := hide hll
  have HPP := hide hpp
  have HL := hide hl
  have hgs2 : g < w1.drew.heap.size := hgl
  have hss2 : s < w1.drew.heap.size := hsl1
  have hgp2 : gp < w1.drew.heap.size := hgpl
  clear c4 c0 x5 y7 y8 y9 y10 d1 d2 d3 d4 b2 b4 hHeld hcl hll hpp hl hu hps hgc hokl hgr hgl hsl1 hgpl HK1 HR1
  generalize w1.drew = w2 at HK2 HR2 HCL hgc2 hgs2 hss2 hgp2 ⊢
  obtain ⟨y7, y8, y9, y10⟩ := HXC.out _ HK2.out
  rw [HST.out] at y7
  rw [HSO.out] at y8
  go_wp2_with fail
  refine HCL.out.mono ?_
  rintro e w3 ⟨A7, n7, c7, rfl, ho7, hk3⟩
  clear y7 y8 y9 y10
  have hn7 := ho7.len
  rw [HLL.out] at hn7 ho7
  subst hn7
  obtain ⟨g7, rfl, _⟩ := OwnT.some_ ho7 (by omega)
  have hg7 : w2.heap.size ≤ g7 := ho7.ge g7 rfl
  have hg73 : g7 < w3.heap.size := ho7.lt g7 rfl
  obtain ⟨q0, q1⟩ := pcC_get HPP.out
  have z0 := OwnT.cellAt ho7 q0
  have z1 := OwnT.cellAt ho7 q1
  have HK3 := hide hk3
  have HO7 := hide ho7
  have hf0 := OwnT.frozenAt ho7 (so * 2)
  have hf1 := OwnT.frozenAt ho7 (so * 2 + 1)
  obtain ⟨y7, y8, y9, y10⟩ := HXC.out _ (HK2.out.trans' HK3.out)
  rw [HST.out] at y7
  rw [HSO.out] at y8
  have hs3 : s < w3.heap.size := Nat.lt_of_lt_of_le hss2 HK3.out.size
  have hgw3 : g < w3.heap.size := Nat.lt_of_lt_of_le hgs2 HK3.out.size
  clear hk3 ho7 q0 q1
  go_wp2_with fail
  have HK5 : Hid (Kp No w2 (((w3.setCell ⟨g7, so * 2, none⟩ (.int .i64 q.tn)).setCell ⟨g7, so * 2 + 1, none⟩ (.int .u32 (q.tg : Int))).alloc (.cells #[.int .i64 pp.1, .int .u32 (pp.2 : Int)] 46))) := ((HK3.out.fresh (p := ⟨g7, so * 2, none⟩) hg7 _).fresh (p := ⟨g7, so * 2 + 1, none⟩) hg7 _).al _
  have HO5 : Hid (OwnT (((w3.setCell ⟨g7, so * 2, none⟩ (.int .i64 q.tn)).setCell ⟨g7, so * 2 + 1, none⟩ (.int .u32 (q.tg : Int))).alloc (.cells #[.int .i64 pp.1, .int .u32 (pp.2 : Int)] 46)) w2.heap.size 46 2 (.slice (some ⟨g7, 0, none⟩) T.sl c7) T.sl (pcC (l.set so (q.tn, q.tg)))) := by
    rw [← pcC_set l so (q.tn, q.tg) (by have := HLL.out; omega)]
    exact ((HO7.out.setI _ (by omega)).setI _ (by omega)).no (Kp.alloc No _ _)
  have HB5 : Hid (Bx 46 (((w3.setCell ⟨g7, so * 2, none⟩ (.int .i64 q.tn)).setCell ⟨g7, so * 2 + 1, none⟩ (.int .u32 (q.tg : Int))).alloc (.cells #[.int .i64 pp.1, .int .u32 (pp.2 : Int)] 46)) w3.heap.size [.int .i64 pp.1, .int .u32 (pp.2 : Int)]) := by
    have hb := Bx.new ((w3.setCell ⟨g7, so * 2, none⟩ (.int .i64 q.tn)).setCell ⟨g7, so * 2 + 1, none⟩ (.int .u32 (q.tg : Int))) 46 [.int .i64 pp.1, .int .u32 (pp.2 : Int)]
    have hz : ((w3.setCell ⟨g7, so * 2, none⟩ (.int .i64 q.tn)).setCell ⟨g7, so * 2 + 1, none⟩ (.int .u32 (q.tg : Int))).heap.size = w3.heap.size := by simp
    rw [hz] at hb
    exact hb
  clear y7 y8 y9 y10 z0 z1 hf0 hf1 HO7 HK3 hgc2
  obtain ⟨r8, hr8⟩ : ∃ r8, r8 = w3.heap.size := ⟨_, rfl⟩
  rw [← hr8] at HB5 ⊢
  clear hr8 hs3 hgw3 hg73
  generalize (((w3.setCell ⟨g7, so * 2, none⟩ (.int .i64 q.tn)).setCell ⟨g7, so * 2 + 1, none⟩ (.int .u32 (q.tg : Int))).alloc (.cells #[.int .i64 pp.1, .int .u32 (pp.2 : Int)] 46)) = w5 at HK5 HO5 HB5 ⊢
  have hlen2 : (l.set so (q.tn, q.tg)).length = T.sl := by rw [List.length_set]; exact HLL.out
  have hps5 : PlS w5 (Up F w) (.slice (some ⟨g7, 0, none⟩) T.sl c7) (l.set so (q.tn, q.tg)) := ⟨by rw [hlen2]; exact ownT_base0 HO5.out, fun b hb => .inr (by
    have h1 := HO5.out.ge b hb
    have h2 := (HK0.out.trans' HK2.out).size
    omega)⟩
  have hrs := tslots_any ⟨_, _, _, _, HR2.out.no HK5.out⟩ hps5.rd (by rw [hlen2]; omega)
  have HPS5 := hide hps5
  clear hps5
  refine hrs.mono ?_
  clear hrs
  rcases hok : okS T.sl T.nd (l.set so (q.tn, q.tg)) with _ | _
  · have hE : Hid (T.mvE q = 1) := by
      show _ = _
      rw [HE.out, if_neg (by rw [HINY.out]; decide), HLN.out, if_pos hok]
    clear hok
    rintro e w6 ⟨rfl, hk6⟩
    have HK6 := hide hk6
    clear hk6
    go_wp2_with fail
    go_ret
    exact HFB.out _ (((HK0.out.trans' HK2.out).trans' HK5.out).trans' HK6.out) 1 hE.out (by decide)
  have HOKN := hide hok
  clear hok
  rintro e w6 ⟨rfl, hk6⟩
  have HK6 := hide hk6
  have z8 := (HB5.out.no hk6).cell (i := 1) rfl
  clear hk6
  obtain ⟨y7, y8, y9, y10⟩ := HXC.out _ ((HK2.out.trans' HK5.out).trans' HK6.out)
  rw [HST.out] at y7
  by_cases hgn : q.tg ≤ pp.2
  · have hE : Hid (T.mvE q = 28) := by
      show _ = _
      rw [HE.out, if_neg (by rw [HINY.out]; decide), HLN.out, if_neg (by rw [HOKN.out]; decide), HOG.out, if_pos hgn]
    have d1 : decide (q.tg ≤ pp.2) = true := decide_eq_true hgn
    go_wp2_with fail
    go_ret
    exact HFB.out _ (((HK0.out.trans' HK2.out).trans' HK5.out).trans' HK6.out) 28 hE.out (by decide)
  have hE : Hid (T.mvE q = 0) := by
    show _ = _
    rw [HE.out, if_neg (by rw [HINY.out]; decide), HLN.out, if_neg (by rw [HOKN.out]; decide), HOG.out, if_neg hgn]
  have d1 : decide (q.tg ≤ pp.2) = false := decide_eq_false hgn
  have hR6 := HR2.out.no (HK5.out.trans' HK6.out)
  obtain ⟨us6, h16, _⟩ := hR6.pls k o _ HO.out HV.out
  have zf : w6.frozen? ⟨gp, st, none⟩ = false := OwnT.frozenAt h16 st
  obtain ⟨u6, hu6⟩ : ∃ u6, us6[st]? = some u6 := ⟨_, List.getElem?_eq_getElem (by have h1 := h16.1; have h2 := HPN.out; rw [← HP.out] at h1; omega)⟩
  have zc := OwnT.cellAt h16 hu6
  have HR6 := hide hR6
  clear hR6 h16 hu6
  go_wp2_with fail
  go_ret
  have hE0 := hE.out
  rw [HMV.out hE0, hE0]
  have hok2 := HR6.out.ok.mv (q := q)
  rw [HMV.out hE0] at hok2
  have hnew : newO o q = { o with pl := o.pl.set st (l.set so (q.tn, q.tg)) } := by
    unfold newO
    rw [HLN.out, HST.out]
    rfl
  rw [hnew] at hok2 ⊢
  have hps6 : PlS w6 (Up F w) (.slice (some ⟨g7, 0, none⟩) T.sl c7) (l.set so (q.tn, q.tg)) := HPS5.out.keep HK6.out fun _ _ _ f => f
  have hm := HR6.out.moved (G := Up F w) HO.out HV.out (by rw [← HP.out, ← HPN.out]; exact hst3) hps6 (fun b hf => .inl hf) hok2
  exact ⟨rfl, ⟨_, _, _, _, hm.1⟩, ((((HK0.out.trans' HK2.out).trans' HK5.out).trans' HK6.out).of_no F).trans' hm.2⟩
end Go.Proofs.Ythicpblgonigcaa
