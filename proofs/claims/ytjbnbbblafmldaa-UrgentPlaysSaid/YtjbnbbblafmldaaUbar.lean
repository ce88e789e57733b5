/- Package urgent's Put and Drop, each as a contract. No condition. -/
import Derived.Test.YtjbnbbblafmldaaUbaq
import Derived.Test.YtjbnbbblafmldaaUbag
namespace Go.Proofs.Ytjbnbbblafmldaa
open Go.RowKit
set_option linter.unusedVariables false
set_option linter.unusedSimpArgs false
set_option maxRecDepth 20000

/-- What a call on a queue comes to. -/
def UqPost (w : World) (F : Nat → Prop) (g : Nat) (r : List Nat) (v : Value) (e : Ending) (w1 : World) : Prop := e = .returned v ∧ QuAt w1 (Up F w) g r ∧ Kp F w w1
/-- The row is one longer, and stored. -/
theorem QuR.grew {w w1 : World} {F : Nat → Prop} {g b n cp c n1 c1 m x : Nat} {A A1 : Option Addr} {R : List Nat} {M : Nat → Option Nat} (h : QuR w F g b A n cp R M c)
    (ha : AppT w 0 36 3 (.slice A n cp) R.length (jbC R) 1 (jbC [x]) (.slice A1 n1 c1) w1) (hm : m ≤ w.heap.size) :
    QuR (w1.setCell ⟨g, 0, none⟩ (.slice A1 n1 c1)) (fun k => F k ∨ m ≤ k) g b A1 n1 c1 (R ++ [x]) M c ∧ Kp F w (w1.setCell ⟨g, 0, none⟩ (.slice A1 n1 c1)) := by
  have hb : w1.heap[g]? = some (.cells #[.slice A n cp, .map (some b)] 50 (0, 0)) := (ha.kp.block g h.glt h.nvg).trans h.blk
  have hk : Kp (fun k => k = g) w1 (w1.setCell ⟨g, 0, none⟩ (.slice A1 n1 c1)) := Kp.setCell (p := ⟨g, 0, none⟩) (S := fun k => k = g) rfl _
  have ho : JbR w1 0 36 (.slice A1 n1 c1) (R ++ [x]) := by
    have := ha.own
    unfold JbR
    rw [List.length_append, jbC_append]
    exact this
  refine ⟨⟨heap_setCell_same w1 g 0 _ _ _ hb, OwnT.keep ho hk (fun k hk' e => ?_), (h.mp.keep ha.kp h.nvb).keep hk (fun e => h.ngb e.symm), .inl h.fg, .inl h.fb, fun k hk' => ?_⟩, (ha.kp.mono fun k e => h.fv k e).trans' (hk.mono fun k e => by rw [e]; exact h.fg)⟩
  · subst e
    obtain ⟨cur, h1⟩ := OwnT.kind ho hk'
    rw [hb] at h1
    injection h1 with h1
    injection h1 with _ h1
    exact absurd h1 (by decide)
  · rcases ha.at_ with e | e
    · exact .inl (h.fv k (by rw [← e]; exact hk'))
    · rw [hk'] at e
      injection e with e
      exact .inr (by omega)
/-- A shorter row is stored. -/
theorem QuR.cut {w : World} {F : Nat → Prop} {g b n cp c k : Nat} {A : Option Addr} {R : List Nat} {M : Nat → Option Nat} (h : QuR w F g b A n cp R M c) (hk : k ≤ R.length) :
    QuR (w.setCell ⟨g, 0, none⟩ (.slice A k cp)) F g b A k cp (R.take k) M c ∧ Kp F w (w.setCell ⟨g, 0, none⟩ (.slice A k cp)) := by
  have hs : Kp (fun k => k = g) w (w.setCell ⟨g, 0, none⟩ (.slice A k cp)) := Kp.setCell (p := ⟨g, 0, none⟩) (S := fun k => k = g) rfl _
  have hn := h.len
  subst hn
  have ho : JbR w 0 36 (.slice A k cp) (R.take k) := by
    have := OwnT.uptoG h.row hk
    unfold JbR
    rw [List.length_take, Nat.min_eq_left hk, ← jbC_take]
    exact this
  have hob : ∀ q, (Value.slice A k cp).ownBlock = some q → (Value.slice A R.length cp).ownBlock = some q := fun q hq => by
    rcases A with _ | ⟨B, off, sp⟩
    · cases hq
    · exact hq
  exact ⟨⟨heap_setCell_same w g 0 _ _ _ h.blk, OwnT.keep ho hs (fun q hq e => h.nvg (by rw [← e]; exact hob q hq)), h.mp.keep hs (fun e => h.ngb e.symm), h.fg, h.fb, fun q hq => h.fv q (hob q hq)⟩, hs.mono fun q e => by rw [e]; exact h.fg⟩
theorem umap_some (w : World) (b : Nat) : (binOp .eql 48 (.map (some b)) (.map none)).run Try.prog w = .ok (.bool false) w := by kernel_rfl
theorem umap_none (w : World) : (binOp .eql 48 (.map none) (.map none)).run Try.prog w = .ok (.bool true) w := by kernel_rfl
set_option maxHeartbeats 2000000 in
theorem uput_any {w : World} {F : Nat → Prop} {g j : Nat} {r : List Nat} (h : QuAt w F g r) (hj : j < NJ) (hr : r.length ≤ 900000) :
    Calls Try.prog 12 #[.pointer (some ⟨g, 0, none⟩), jbV j] w (UqPost w F g (rPut r j) (.tuple #[])) := by
  obtain ⟨b, A, n, cp, R, M, h1, h2⟩ := h
  have hRl : R.length ≤ 900000 := by rw [h2.len]; exact hr
  have hlt := h1.lt
  have hmono : ∀ k, (fun k => F k ∧ k < w.heap.size) k → F k := fun k hk => hk.1
  obtain ⟨G, hG⟩ : ∃ G : Nat → Prop, G = fun k => F k ∧ k < w.heap.size := ⟨_, rfl⟩
  rw [← hG] at hlt hmono
  have hsG : ¬ G w.heap.size := by rw [hG]; simp
  have KA := Kp.alloc No w (.cells #[.int .u32 (jO j : Int), .int .u16 (jS j : Int), .int .i64 (jG j)] 36)
  have HA := hide (hlt.no KA)
  have HX : Hid (BxJ (w.alloc (.cells #[.int .u32 (jO j : Int), .int .u16 (jS j : Int), .int .i64 (jG j)] 36)) w.heap.size j) := Bx3.new w 36 _ _ _
  have HK := hide KA
  have HQ := hide h2
  have HRL := hide hRl
  have HM := hide hmono
  have HG := hide hsG
  have hq := umap_some
  have hsz : w.heap.size ≤ (w.alloc (.cells #[.int .u32 (jO j : Int), .int .u16 (jS j : Int), .int .i64 (jG j)] 36)).heap.size := KA.size
  have HSZ := hide hsz
  have HN := hide h1.len
  have y1 := HA.out.c1
  cases hh : rHas r (ky j)
  · have hM := h2.place_no hh
    have hL := (HA.out.mp.no (Kp.refl No _).drew).look (ky_lt j)
    rw [hM] at hL
    obtain ⟨hst, hpl⟩ := h2.put_new hh hj
    have HST := hide hst
    have HPL := hide hpl
    have HS := hide (rPut_sor (j := j) h2.sor)
    clear h1 h2 hr hRl hj KA hh hM hst hpl hlt hmono hG hsG hsz
    go_enter Try.func12, Try.ntmps12
    go_upto_region 2 with (fail)
    generalize w.alloc (.cells #[.int .u32 (jO j : Int), .int .u16 (jS j : Int), .int .i64 (jG j)] 36) = wa at HA HX HK HSZ hL y1 ⊢
    obtain ⟨s, hs⟩ : ∃ s, s = w.heap.size := ⟨_, rfl⟩
    rw [← hs] at HX HG ⊢
    have HSS := hide hs
    clear hs
    obtain ⟨x0, x1, x2⟩ := HX.out.cell
    change (Instr.lookup 48 (.map (some b)) (.agg #[.int .u32 (jO j : Int), .int .u16 (jS j : Int)]) true).run Try.prog wa.drew = .ok (.tuple #[.int .i64 0, .bool false]) wa.drew at hL
    go_region
    clear x0 x1 x2 y1 hL hq
    have y0 : wa.drew.cell? ⟨g, 0, none⟩ = some (.slice A n cp) := HA.out.c0
    go_upto_region 5 with (fail)
    have HB := hide (HA.out.no (Kp.refl No wa).drew)
    have HXB : Hid (BxJ wa.drew s j) := HX.out
    have HKB := hide HK.out.drew
    have HSZB : Hid (w.heap.size ≤ wa.drew.heap.size) := HSZ.out
    clear y0 HA HX HK HSZ
    generalize wa.drew = wb at HB HXB HKB HSZB ⊢
    obtain ⟨x0, x1, x2⟩ := HXB.out.cell
    have y0 : wb.drew.cell? ⟨g, 0, none⟩ = some (.slice A n cp) := HB.out.c0
    have HI := hide (show wb.drew.cell? ⟨g, 0, none⟩ = some (.slice A n cp) ∧ wb.drew.cell? ⟨s, 0, none⟩ = some (.int .u32 (jO j : Int)) ∧ wb.drew.cell? ⟨s, 1, none⟩ = some (.int .u16 (jS j : Int)) ∧ wb.drew.cell? ⟨s, 2, none⟩ = some (.int .i64 (jG j)) from ⟨y0, x0, x1, x2⟩)
    clear x0 x1 x2 y0
    refine wp_region_noPanic ?_
    refine LastR.begin (S := fun w' => w'.cell? ⟨g, 0, none⟩ = some (.slice A n cp) ∧ w'.cell? ⟨s, 0, none⟩ = some (.int .u32 (jO j : Int)) ∧ w'.cell? ⟨s, 1, none⟩ = some (.int .u16 (jS j : Int)) ∧ w'.cell? ⟨s, 2, none⟩ = some (.int .i64 (jG j))) (t := 10) (by kernel_rfl) (HI.out) (fun hHeld => ?_)
    refine LastR.take (i := 0) (v := ?va0) (oi := ?oa0) ?ha0 (by kernel_rfl) (by kernel_rfl) (by kernel_rfl) (by kernel_rfl) (fun _ _ _ h => h) (Or.inl ⟨?wa0, ?ya0⟩) hHeld ?ra0
    case ha0 => simp only [List.getElem?_toArray, List.getElem?_cons_zero, List.getElem?_cons_succ]; rfl
    case wa0 => rfl
    case ya0 => intro w hSw; (try dsimp only at hSw); go_simp; (try with_reducible rfl)
    simp only [Act.put, List.setIfInBounds_toArray, List.set_cons_zero, List.set_cons_succ]
    refine LastR.take (i := 1) (v := ?va1) (oi := ?oa1) ?ha1 (by kernel_rfl) (by kernel_rfl) (by kernel_rfl) (by kernel_rfl) (fun _ _ _ h => h) (Or.inl ⟨?wa1, ?ya1⟩) hHeld ?ra1
    case ha1 => simp only [List.getElem?_toArray, List.getElem?_cons_zero, List.getElem?_cons_succ]; rfl
    case wa1 => rfl
    case ya1 => intro w hSw; (try dsimp only at hSw); go_simp; (try with_reducible rfl)
    simp only [Act.put, List.setIfInBounds_toArray, List.set_cons_zero, List.set_cons_succ]
    refine LastR.take (i := 2) (v := ?va2) (oi := ?oa2) ?ha2 (by kernel_rfl) (by kernel_rfl) (by kernel_rfl) (by kernel_rfl) (fun _ _ _ h => h) (Or.inl ⟨?wa2, ?ya2⟩) hHeld ?ra2
    case ha2 => simp only [List.getElem?_toArray, List.getElem?_cons_zero, List.getElem?_cons_succ]; rfl
    case wa2 => rfl
    case ya2 => intro w hSw; (try dsimp only at hSw); go_simp; (try with_reducible rfl)
    simp only [Act.put, List.setIfInBounds_toArray, List.set_cons_zero, List.set_cons_succ]
    refine LastR.take (i := 3) (v := ?va3) (oi := ?oa3) ?ha3 (by kernel_rfl) (by kernel_rfl) (by kernel_rfl) (by kernel_rfl) (fun _ _ _ h => h) (Or.inl ⟨?wa3, ?ya3⟩) hHeld ?ra3
    case ha3 => simp only [List.getElem?_toArray, List.getElem?_cons_zero, List.getElem?_cons_succ]; rfl
    case wa3 => rfl
    case ya3 => intro w hSw; (try dsimp only at hSw); go_simp; (try with_reducible rfl)
    simp only [Act.put, List.setIfInBounds_toArray, List.set_cons_zero, List.set_cons_succ]
    refine LastR.take (i := 4) (v := ?va4) (oi := ?oa4) ?ha4 (by kernel_rfl) (by kernel_rfl) (by kernel_rfl) (by kernel_rfl) (fun _ _ _ h => h) (Or.inl ⟨?wa4, ?ya4⟩) hHeld ?ra4
    case ha4 => simp only [List.getElem?_toArray, List.getElem?_cons_zero, List.getElem?_cons_succ]; rfl
    case wa4 => rfl
    case ya4 => intro w hSw; (try dsimp only at hSw); go_simp; (try with_reducible rfl)
    simp only [Act.put, List.setIfInBounds_toArray, List.set_cons_zero, List.set_cons_succ]
    refine LastR.take (i := 5) (v := ?va5) (oi := ?oa5) ?ha5 (by kernel_rfl) (by kernel_rfl) (by kernel_rfl) (by kernel_rfl) (fun _ _ _ h => h) (Or.inl ⟨?wa5, ?ya5⟩) hHeld ?ra5
    case ha5 => simp only [List.getElem?_toArray, List.getElem?_cons_zero, List.getElem?_cons_succ]; rfl
    case wa5 => rfl
    case ya5 => intro w hSw; (try dsimp only at hSw); go_simp; (try with_reducible rfl)
    simp only [Act.put, List.setIfInBounds_toArray, List.set_cons_zero, List.set_cons_succ]
    refine LastR.run (i := 6) (o := ?oa6) ?ha6 (by kernel_rfl) (fun K hK => ?sa6)
    case ha6 => simp only [List.getElem?_toArray, List.getElem?_cons_zero, List.getElem?_cons_succ]; rfl
    go_simp
    refine hK.out _ _ (fun _ => ⟨(Kp.alloc No _ _).cell hHeld.1 (fun f => f), (Kp.alloc No _ _).cell hHeld.2.1 (fun f => f), (Kp.alloc No _ _).cell hHeld.2.2.1 (fun f => f), (Kp.alloc No _ _).cell hHeld.2.2.2 (fun f => f)⟩) (fun hHe => ?_)
    have hHeld := hHe (by decide)
    clear hK K hHe
    try simp only [Act.put, List.setIfInBounds_toArray, List.set_cons_zero, List.set_cons_succ]
    refine LastR.run (i := 7) (o := ?oa7) ?ha7 (by kernel_rfl) (fun K hK => ?sa7)
    case ha7 => simp only [List.getElem?_toArray, List.getElem?_cons_zero, List.getElem?_cons_succ]; rfl
    have hka := Kp.alloc No wb.drew (.cells #[.int .u32 (jO j : Int), .int .u16 (jS j : Int), .int .i64 (jG j)] 36)
    have hQ8 := (HB.out.no (Kp.refl No wb).drew).no hka
    have hb8 := Bx3.new wb.drew 36 (.int .u32 (jO j : Int)) (.int .u16 (jS j : Int)) (.int .i64 (jG j))
    refine step_appT (m := 1) (cs := jbC [j]) ty_uj rfl (.tmp 36) (.tmp 38) _ rfl Try.underlying47 rfl hQ8.row _ _ rfl (nws_bx3 hb8 rfl rfl rfl) (by have := HRL.out; omega) (Nat.zero_le _) ?_
    intro A9 n9 c9 w8 hn9 ha9
    have hw := hQ8.grew ha9 (m := wb.heap.size) hka.size
    have hbx := ((HXB.out.no (Kp.refl No wb).drew).no hka).keep ha9.kp (fun e => HG.out (hQ8.fv _ e))
    have hbk : Kp G wb w8 := (((Kp.refl No wb).drew.trans' hka).of_no G).trans' (ha9.kp.mono fun k e => hQ8.fv k e)
    have y8 : w8.cell? ⟨g, 0, none⟩ = some (.slice A n cp) := by rw [cell_of_row w8 g 0 _ _ _ ((ha9.kp.block g hQ8.glt hQ8.nvg).trans hQ8.blk)]; rfl
    have yf8 : w8.frozen? ⟨g, 0, none⟩ = false := frozen_of_row w8 g 0 _ _ ((ha9.kp.block g hQ8.glt hQ8.nvg).trans hQ8.blk)
    have hI8 : w8.cell? ⟨g, 0, none⟩ = some (.slice A n cp) ∧ w8.cell? ⟨s, 0, none⟩ = some (.int .u32 (jO j : Int)) ∧ w8.cell? ⟨s, 1, none⟩ = some (.int .u16 (jS j : Int)) ∧ w8.cell? ⟨s, 2, none⟩ = some (.int .i64 (jG j)) := ⟨y8, hbx.cell⟩
    have HX9 := hide (show BxJ (w8.setCell ⟨g, 0, none⟩ (.slice A9 n9 c9)) s j from hbx.keep (Kp.setCell (p := ⟨g, 0, none⟩) (S := fun q => q = g) rfl _) (fun e => HG.out (by rw [e]; exact hQ8.fg)))
    have HW := hide (show QuR (w8.setCell ⟨g, 0, none⟩ (.slice A9 n9 c9)) (fun k => G k ∨ wb.heap.size ≤ k) g b A9 n9 c9 (R ++ [j]) M R.length ∧ Kp G wb (w8.setCell ⟨g, 0, none⟩ (.slice A9 n9 c9)) from ⟨hw.1, ((((Kp.refl No wb).drew.trans' hka).of_no G).trans' hw.2)⟩)
    clear hw hbx hQ8 ha9 hb8 hka hbk hn9
    refine hK.out _ _ (fun _ => hI8) (fun hHe => ?_)
    have hHeld := hHe (by decide)
    clear hK K hHe
    try simp only [Act.put, List.setIfInBounds_toArray, List.set_cons_zero, List.set_cons_succ]
    refine LastR.run (i := 8) (o := ?oa8) ?ha8 (by kernel_rfl) (fun K hK => ?sa8)
    case ha8 => simp only [List.getElem?_toArray, List.getElem?_cons_zero, List.getElem?_cons_succ]; rfl
    go_simp
    refine hK.out _ _ (fun _ => hI8) (fun hHe => ?_)
    have hHeld := hHe (by decide)
    clear hK K hHe
    try simp only [Act.put, List.setIfInBounds_toArray, List.set_cons_zero, List.set_cons_succ]
    refine LastR.take (i := 9) (v := ?va9) (oi := ?oa9) ?ha9 (by kernel_rfl) (by kernel_rfl) (by kernel_rfl) (by kernel_rfl) (fun _ _ _ h => h) (Or.inl ⟨?wa9, ?ya9⟩) hHeld ?ra9
    case ha9 => simp only [List.getElem?_toArray, List.getElem?_cons_zero, List.getElem?_cons_succ]; rfl
    case wa9 => rfl
    case ya9 => intro w hSw; (try dsimp only at hSw); go_simp; (try with_reducible rfl)
    simp only [Act.put, List.setIfInBounds_toArray, List.set_cons_zero, List.set_cons_succ]
    refine LastR.run (i := 10) (o := ?oa10) ?ha10 (by kernel_rfl) (fun K hK => ?sa10)
    case ha10 => simp only [List.getElem?_toArray, List.getElem?_cons_zero, List.getElem?_cons_succ]; rfl
    go_simp
    refine hK.out _ _ (fun h => absurd rfl h) (fun _ => ?_)
    clear hK K
    try simp only [Act.put, List.setIfInBounds_toArray, List.set_cons_zero, List.set_cons_succ]
    refine LastR.done (by kernel_rfl) ?_ _
    refine NoPanic.normal ?_
    have HU := hide (ulay_any (N := R.length + 1) (c := R.length) HW.out.1 HST.out HS.out HPL.out (by have := HRL.out; omega) (Nat.le_succ _) (fun _ => Nat.le_refl _))
    obtain ⟨x0, x1, x2⟩ := HX9.out.cell
    have HNN : Hid (n = R.length) := HN.out
    go_wp2_with fail
    rw [HNN.out]
    refine HU.out.mono ?_
    rintro e w6 ⟨rfl, ⟨R', M', h6, q6⟩, k6⟩
    have H6 := hide h6
    have Q6 := hide q6
    have K6 := hide k6
    clear h6 q6 k6 x0 x1 x2
    go_wp2_with fail
    go_end0
    have hup : ∀ k, (fun k => G k ∨ wb.heap.size ≤ k) k → Up F w k := fun k hk => by
      rcases hk with hk | hk
      · exact .inl (HM.out k hk)
      · exact .inr (Nat.le_trans HSZB.out hk)
    refine ⟨rfl, ⟨_, _, _, _, _, _, H6.out.mono hup, Q6.out⟩, ?_⟩
    exact ((HKB.out.of_no F).trans' (HW.out.2.mono HM.out)).trans (K6.out.mono hup)
  · obtain ⟨i, hM, hi, hRi⟩ := h2.place_yes hh
    have hL := (HA.out.mp.no (Kp.refl No _).drew).look (ky_lt j)
    rw [hM] at hL
    obtain ⟨hst, hpl⟩ := h2.put_old (i := i) hi (by rw [fR_get hRi]; exact (rJob_get hh).2) hj
    have HU := hide (fun w' hk => ulay_any (N := R.length) (c := R.length) (HA.out.no (w1 := w') hk) hst (rPut_sor (j := j) h2.sor) hpl (by omega) (Nat.le_refl _) (fun e => by cases e))
    clear h1 h2 hr hRl hj KA hh hM hst hpl hlt hmono hG hsG hsz hi hRi
    go_enter Try.func12, Try.ntmps12
    go_upto_region 2 with (fail)
    generalize w.alloc (.cells #[.int .u32 (jO j : Int), .int .u16 (jS j : Int), .int .i64 (jG j)] 36) = wa at HA HX HK HSZ HU hL y1 ⊢
    generalize w.heap.size = s at HX HG HSZ ⊢
    obtain ⟨x0, x1, x2⟩ := HX.out.cell
    change (Instr.lookup 48 (.map (some b)) (.agg #[.int .u32 (jO j : Int), .int .u16 (jS j : Int)]) true).run Try.prog wa.drew = .ok (.tuple #[.int .i64 (i : Int), .bool true]) wa.drew at hL
    go_region
    go_wp2_with fail
    refine (HU.out _ (Kp.refl No wa).drew).mono ?_
    rintro e w6 ⟨rfl, ⟨R', M', h6, q6⟩, k6⟩
    have H6 := hide (h6.mono HM.out)
    have Q6 := hide q6
    have K6 := hide (((HK.out.drew).of_no F).trans' (k6.mono HM.out))
    clear h6 q6 k6 x0 x1 x2
    go_wp2_with fail
    go_end0
    exact ⟨rfl, ⟨_, _, _, _, _, _, H6.out.mono fun k hk => .inl hk, Q6.out⟩, K6.out⟩
end Go.Proofs.Ytjbnbbblafmldaa
