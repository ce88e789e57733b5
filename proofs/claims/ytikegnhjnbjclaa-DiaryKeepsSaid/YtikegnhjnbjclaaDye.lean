/- diary's Write, as a contract over memory. No condition. -/
import Derived.Test.YtikegnhjnbjclaaDyd
namespace Go.Proofs.Ytikegnhjnbjclaa
open Go.RowKit
set_option linter.unusedVariables false
set_option maxRecDepth 20000
set_option linter.unusedSimpArgs false

section
variable {w w1 w2 w6 : World} {F S G Ft Fd : Nat → Prop} {g tp sf : Nat} {vl v v1 u : Value} {ps : List (Value × List UInt8)} {T T' : Tp} {rs : List (List UInt8)} {b : List UInt8}
theorem DyR.app (h : DyR w Fd g tp sf vl ps) (ha : AppT w 0 22 1 vl ps.length (sls ps) 1 [u] v1 w1) :
    w1.heap[g]? = some (.cells #[.pointer (some ⟨tp, 0, none⟩), vl, .int .i64 (sf : Int)] 83 (0, 0)) := (ha.kp.block g h.glt h.gne).trans h.blk
/-- The list is one longer, and stored. -/
theorem DyR.wrote (h : DyR w Fd g tp sf vl ps) (ho : Own w 0 5 u b) (ha : AppT w 0 22 1 vl ps.length (sls ps) 1 [u] v1 w1) {m : Nat} (hm : m ≤ w.heap.size) (hu : ∀ k, u.ownBlock = some k → m ≤ k) :
    DyR (w1.setCell ⟨g, 1, none⟩ v1) (fun k => Fd k ∨ m ≤ k) g tp sf v1 (ps ++ [(u, b)]) ∧ Kp Fd w (w1.setCell ⟨g, 1, none⟩ v1) := by
  have hb := h.app ha
  have hn := h.rw_.next ho ha
  have hk : Kp (fun k => k = g) w1 (w1.setCell ⟨g, 1, none⟩ v1) := Kp.setCell (p := ⟨g, 1, none⟩) (S := fun k => k = g) rfl _
  refine ⟨⟨heap_setCell_same w1 g 1 _ _ v1 hb, hn.keep hk (fun k hk' e => by subst e; exact hn.own.not_at hb (by decide) hk') (fun p hp k hk' e => by subst e; exact own_ne_at (hn.ld p hp) hb (by decide) hk'), .inl h.fg, fun k hk' => ?_, fun p hp k hk' => ?_, ?_⟩, (ha.kp.mono fun k e => h.fv k e).trans' (hk.mono fun k e => by rw [e]; exact h.fg)⟩
  · rcases ha.at_ with e | e
    · exact .inl (h.fv k (by rw [← e]; exact hk'))
    · rw [hk'] at e
      injection e with e
      exact .inr (by omega)
  · rcases List.mem_append.1 hp with hp | hp
    · exact .inl (h.fp p hp k hk')
    · rw [List.mem_singleton] at hp; subst hp; exact .inr (hu k hk')
  · rw [List.length_append]; have := h.le; omega

set_option maxHeartbeats 4000000 in
theorem dwrite_any (h : DyAt w F g tp T rs sf) {A0 : Option Addr} {m0 c0 : Nat} (hu : ∀ w', Kp F w w' → Bts w' (.slice A0 m0 c0) b) (hm : m0 ≤ 60000) (hL : T.len + (20 + b.length) ≤ 900000000) (hn : rs.length ≤ 100000) :
    Calls Try.prog 22 #[.pointer (some ⟨g, 0, none⟩), .slice A0 m0 c0] w
      (DyPost w F g tp (T.put (rcF (rs.length + 1) b)) (if T.putE (rcF (rs.length + 1) b) = 0 then rs ++ [b] else rs) sf (.int .i64 (T.putE (rcF (rs.length + 1) b) : Int))) := by
  obtain ⟨Ft, Fd, vl, ps, rfl, h2, h3, h4, h5, h6⟩ := h.ex
  obtain ⟨A, c, rfl, hc⟩ := h3.vl_
  have hbl : b.length ≤ 60000 := by have := (hu w (Kp.refl _ _)).len; omega
  rw [rws_len] at hn ⊢
  have HM := hide (dmade_any h3)
  have x1 := h3.c1
  have xx2 : w.drew.cell? ⟨g, 0, none⟩ = some (.pointer (some ⟨tp, 0, none⟩)) := h3.c0
  have h2' : TpAt w.drew Ft tp T := h2.no (Kp.refl No w).drew
  have HT := hide h2'
  have hd' : DyR w.drew Fd g tp sf (.slice A ps.length c) ps := h3.no (Kp.refl No w).drew
  have HD := hide hd'
  have HU := hide (show Bts w.drew (.slice A0 m0 c0) b from hu _ (Kp.refl _ w).drew)
  have HUF := hide (show ∀ w', Kp Ft w w' → Bts w' (.slice A0 m0 c0) b from fun w' hk => hu w' (hk.mono fun k a => (h5 k a).1))
  have HX := hide (show (∀ k, Ft k → Fd k → False) ∧ (∀ k, Ft k → F k ∧ k < w.heap.size) ∧ (∀ k, Fd k → F k ∧ k < w.heap.size) from ⟨h4, h5, h6⟩)
  obtain ⟨N, hN⟩ : ∃ N, N = ps.length := ⟨_, rfl⟩
  have HN := hide hN
  rw [← hN] at x1 hn ⊢
  obtain ⟨fb, hfb⟩ : ∃ fb, fb = rcF (N + 1) b := ⟨_, rfl⟩
  have HLF : Hid (T.len + fb.length ≤ 900000000) := by show _ ≤ _; rw [hfb, rcF_len]; exact hL
  have HFB := hide hfb
  rw [← hfb]
  obtain ⟨q, hq⟩ : ∃ q, q = T.putE fb := ⟨_, rfl⟩
  have HQ := hide hq
  rw [← hq]
  obtain ⟨rs', hrs⟩ : ∃ r, r = (if q = 0 then rws ps ++ [b] else rws ps) := ⟨_, rfl⟩
  rw [← hrs]
  have HRS := hide hrs
  clear hrs
  clear h h2 h2' h3 hd' h4 h5 h6 hc hN hfb hq hu hL
  go_enter Try.func22, Try.ntmps22
  go_wp2_with fail
  refine HM.out.mono ?_
  rintro e w1 ⟨rfl, rfl⟩
  go_wp2_with fail
  refine wp_region_noPanic ?_
  refine wp_region_held_drew (S := fun w' => w'.cell? ⟨g, 0, none⟩ = some (.pointer (some ⟨tp, 0, none⟩))) (by kernel_rfl) (xx2) (fun hHeld => ?_)
  refine wpAnyH_take (i := 0) (v := ?va0) (oi := ?oa0) ?ha0 (by kernel_rfl) (by kernel_rfl) (by kernel_rfl) (fun _ _ _ h => h) (Or.inl ⟨?wa0, ?ya0⟩) hHeld ?ra0
  case ha0 => simp only [List.getElem?_toArray, List.getElem?_cons_zero, List.getElem?_cons_succ]; rfl
  case wa0 => rfl
  case ya0 => intro w hSw; (try dsimp only at hSw); go_simp; (try with_reducible rfl)
  simp only [Act.put, List.setIfInBounds_toArray, List.set_cons_zero, List.set_cons_succ]
  refine wpAnyH_take (i := 1) (v := ?va1) (oi := ?oa1) ?ha1 (by kernel_rfl) (by kernel_rfl) (by kernel_rfl) (fun _ _ _ h => h) (Or.inl ⟨?wa1, ?ya1⟩) hHeld ?ra1
  case ha1 => simp only [List.getElem?_toArray, List.getElem?_cons_zero, List.getElem?_cons_succ]; rfl
  case wa1 => rfl
  case ya1 => intro w hSw; (try dsimp only at hSw); go_simp; (try with_reducible rfl)
  simp only [Act.put, List.setIfInBounds_toArray, List.set_cons_zero, List.set_cons_succ]
  refine wpAnyH_take (i := 2) (v := ?va2) (oi := ?oa2) ?ha2 (by kernel_rfl) (by kernel_rfl) (by kernel_rfl) (fun _ _ _ h => h) (Or.inl ⟨?wa2, ?ya2⟩) hHeld ?ra2
  case ha2 => simp only [List.getElem?_toArray, List.getElem?_cons_zero, List.getElem?_cons_succ]; rfl
  case wa2 => rfl
  case ya2 => intro w hSw; (try dsimp only at hSw); go_simp; (try with_reducible rfl)
  simp only [Act.put, List.setIfInBounds_toArray, List.set_cons_zero, List.set_cons_succ]
  refine wpAnyH_take (i := 3) (v := ?va3) (oi := ?oa3) ?ha3 (by kernel_rfl) (by kernel_rfl) (by kernel_rfl) (fun _ _ _ h => h) (Or.inl ⟨?wa3, ?ya3⟩) hHeld ?ra3
  case ha3 => simp only [List.getElem?_toArray, List.getElem?_cons_zero, List.getElem?_cons_succ]; rfl
  case wa3 => rfl
  case ya3 => intro w hSw; (try dsimp only at hSw); go_simp; (try with_reducible rfl)
  simp only [Act.put, List.setIfInBounds_toArray, List.set_cons_zero, List.set_cons_succ]
  refine wpAnyH_take (i := 4) (v := ?va4) (oi := ?oa4) ?ha4 (by kernel_rfl) (by kernel_rfl) (by kernel_rfl) (fun _ _ _ h => h) (Or.inl ⟨?wa4, ?ya4⟩) hHeld ?ra4
  case ha4 => simp only [List.getElem?_toArray, List.getElem?_cons_zero, List.getElem?_cons_succ]; rfl
  case wa4 => rfl
  case ya4 => intro w hSw; (try dsimp only at hSw); go_simp; (try with_reducible rfl)
  simp only [Act.put, List.setIfInBounds_toArray, List.set_cons_zero, List.set_cons_succ]
  refine wpAnyH_take (i := 5) (v := ?va5) (oi := ?oa5) ?ha5 (by kernel_rfl) (by kernel_rfl) (by kernel_rfl) (fun _ _ _ h => h) (Or.inl ⟨?wa5, ?ya5⟩) hHeld ?ra5
  case ha5 => simp only [List.getElem?_toArray, List.getElem?_cons_zero, List.getElem?_cons_succ]; rfl
  case wa5 => rfl
  case ya5 => intro w hSw; (try dsimp only at hSw); go_simp; (try with_reducible rfl)
  simp only [Act.put, List.setIfInBounds_toArray, List.set_cons_zero, List.set_cons_succ]
  refine wpAnyH_ready (rs := [6]) (by kernel_rfl) (by simp) ?_
  refine AllReadyH.cons (o := ?oa6) ?ha6 (fun K hK => ?sa6) AllReadyH.nil
  case ha6 => simp only [List.getElem?_toArray, List.getElem?_cons_zero, List.getElem?_cons_succ]; rfl
  go_simp
  refine (dfr_any (num := N + 1) (by omega) HU.out hm).mono ?_
  rintro e w5 ⟨A5, n5, c5, rfl, ho5, k5⟩
  rw [← HFB.out] at ho5
  have x5 := k5.cell xx2 (fun f => f)
  go_wp2_with fail
  refine hK.out _ _ (x5) (fun hHeld => ?_)
  clear hK K
  try simp only [Act.put, List.setIfInBounds_toArray, List.set_cons_zero, List.set_cons_succ]
  refine wpAnyH_ready (rs := [7]) (by kernel_rfl) (by simp) ?_
  refine AllReadyH.cons (o := ?oa7) ?ha7 (fun K hK => ?sa7) AllReadyH.nil
  case ha7 => simp only [List.getElem?_toArray, List.getElem?_cons_zero, List.getElem?_cons_succ]; rfl
  go_simp
  refine (tput_any (HT.out.no k5) ho5.bts HLF.out).mono ?_
  rintro e w6 ⟨rfl, hT6, k6⟩
  rw [← HQ.out]
  have K6 : Kp Ft w w6 := (((Kp.refl No w).drew.trans' k5).of_no Ft).trans' k6
  have x6 := k6.cell x5 (fun f => HX.out.1 g f HD.out.fg)
  have HT6 := hide (show TpAt w6 (fun k => Up Ft w k ∧ k < w6.heap.size) tp (T.put fb) from hT6.lt.mono fun k a => ⟨a.1.le (by have := k5.size; exact this), a.2⟩)
  have HD6 := hide (HD.out.keep (k5.of_no Ft |>.trans' k6) fun k _ a b => HX.out.1 k b a)
  have HU6 := hide (HUF.out w6 K6)
  have HK6 := hide K6
  clear hT6 k6 K6 k5 ho5 x5
  go_wp2_with fail
  refine hK.out _ _ (x6) (fun hHeld => ?_)
  clear hK K
  try simp only [Act.put, List.setIfInBounds_toArray, List.set_cons_zero, List.set_cons_succ]
  refine wpAnyH_take (i := 8) (v := ?va8) (oi := ?oa8) ?ha8 (by kernel_rfl) (by kernel_rfl) (by kernel_rfl) (fun _ _ _ h => h) (Or.inl ⟨?wa8, ?ya8⟩) hHeld ?ra8
  case ha8 => simp only [List.getElem?_toArray, List.getElem?_cons_zero, List.getElem?_cons_succ]; rfl
  case wa8 => rfl
  case ya8 => intro w hSw; (try dsimp only at hSw); go_simp; (try with_reducible rfl)
  simp only [Act.put, List.setIfInBounds_toArray, List.set_cons_zero, List.set_cons_succ]
  refine wpAnyH_done (by kernel_rfl) ?_ _
  refine NoPanic.normal ?_
  by_cases hq0 : q = 0
  · subst hq0
    have y1 : w6.drew.cell? ⟨g, 1, none⟩ = some (.slice A N c) := by rw [HN.out]; exact HD6.out.c1
    go_wp2_with fail
    refine wp_region_noPanic ?_
    refine LastR.begin (S := fun w' => w'.cell? ⟨g, 1, none⟩ = some (.slice A N c)) (t := 11) (by kernel_rfl) (y1) (fun hHeld => ?_)
    refine LastR.take (i := 0) (v := ?vb0) (oi := ?ob0) ?hb0 (by kernel_rfl) (by kernel_rfl) (by kernel_rfl) (by kernel_rfl) (fun _ _ _ h => h) (Or.inl ⟨?wb0, ?yb0⟩) hHeld ?rb0
    case hb0 => simp only [List.getElem?_toArray, List.getElem?_cons_zero, List.getElem?_cons_succ]; rfl
    case wb0 => rfl
    case yb0 => intro w hSw; (try dsimp only at hSw); go_simp; (try with_reducible rfl)
    simp only [Act.put, List.setIfInBounds_toArray, List.set_cons_zero, List.set_cons_succ]
    refine LastR.take (i := 1) (v := ?vb1) (oi := ?ob1) ?hb1 (by kernel_rfl) (by kernel_rfl) (by kernel_rfl) (by kernel_rfl) (fun _ _ _ h => h) (Or.inl ⟨?wb1, ?yb1⟩) hHeld ?rb1
    case hb1 => simp only [List.getElem?_toArray, List.getElem?_cons_zero, List.getElem?_cons_succ]; rfl
    case wb1 => rfl
    case yb1 => intro w hSw; (try dsimp only at hSw); go_simp; (try with_reducible rfl)
    simp only [Act.put, List.setIfInBounds_toArray, List.set_cons_zero, List.set_cons_succ]
    refine LastR.take (i := 2) (v := ?vb2) (oi := ?ob2) ?hb2 (by kernel_rfl) (by kernel_rfl) (by kernel_rfl) (by kernel_rfl) (fun _ _ _ h => h) (Or.inl ⟨?wb2, ?yb2⟩) hHeld ?rb2
    case hb2 => simp only [List.getElem?_toArray, List.getElem?_cons_zero, List.getElem?_cons_succ]; rfl
    case wb2 => rfl
    case yb2 => intro w hSw; (try dsimp only at hSw); go_simp; (try with_reducible rfl)
    simp only [Act.put, List.setIfInBounds_toArray, List.set_cons_zero, List.set_cons_succ]
    refine LastR.take (i := 3) (v := ?vb3) (oi := ?ob3) ?hb3 (by kernel_rfl) (by kernel_rfl) (by kernel_rfl) (by kernel_rfl) (fun _ _ _ h => h) (Or.inl ⟨?wb3, ?yb3⟩) hHeld ?rb3
    case hb3 => simp only [List.getElem?_toArray, List.getElem?_cons_zero, List.getElem?_cons_succ]; rfl
    case wb3 => rfl
    case yb3 => intro w hSw; (try dsimp only at hSw); go_simp; (try with_reducible rfl)
    simp only [Act.put, List.setIfInBounds_toArray, List.set_cons_zero, List.set_cons_succ]
    refine LastR.take (i := 4) (v := ?vb4) (oi := ?ob4) ?hb4 (by kernel_rfl) (by kernel_rfl) (by kernel_rfl) (by kernel_rfl) (fun _ _ _ h => h) (Or.inl ⟨?wb4, ?yb4⟩) hHeld ?rb4
    case hb4 => simp only [List.getElem?_toArray, List.getElem?_cons_zero, List.getElem?_cons_succ]; rfl
    case wb4 => rfl
    case yb4 => intro w hSw; (try dsimp only at hSw); go_simp; (try with_reducible rfl)
    simp only [Act.put, List.setIfInBounds_toArray, List.set_cons_zero, List.set_cons_succ]
    refine LastR.take (i := 5) (v := ?vb5) (oi := ?ob5) ?hb5 (by kernel_rfl) (by kernel_rfl) (by kernel_rfl) (by kernel_rfl) (fun _ _ _ h => h) (Or.inl ⟨?wb5, ?yb5⟩) hHeld ?rb5
    case hb5 => simp only [List.getElem?_toArray, List.getElem?_cons_zero, List.getElem?_cons_succ]; rfl
    case wb5 => rfl
    case yb5 => intro w hSw; (try dsimp only at hSw); go_simp; (try with_reducible rfl)
    simp only [Act.put, List.setIfInBounds_toArray, List.set_cons_zero, List.set_cons_succ]
    refine LastR.run (i := 6) (o := ?ob6) ?hb6 (by kernel_rfl) (fun K hK => ?sb6)
    case hb6 => simp only [List.getElem?_toArray, List.getElem?_cons_zero, List.getElem?_cons_succ]; rfl
    go_simp
    refine (sclone_any (HU6.out.no (Kp.refl No w6).drew) (by omega)).mono ?_
    rintro e w7 ⟨A7, n7, c7, rfl, ho7, k7d⟩
    have k7 : Kp No w6 w7 := (Kp.refl No w6).drew.trans' k7d
    have y7 : w7.cell? ⟨g, 1, none⟩ = some (.slice A N c) := k7.cell y1 fun f => f
    go_wp2_with fail
    refine hK.out _ _ (fun _ => y7) (fun hHe => ?_)
    have hHeld := hHe (by decide)
    clear hK K hHe
    try simp only [Act.put, List.setIfInBounds_toArray, List.set_cons_zero, List.set_cons_succ]
    refine LastR.run (i := 7) (o := ?ob7) ?hb7 (by kernel_rfl) (fun K hK => ?sb7)
    case hb7 => simp only [List.getElem?_toArray, List.getElem?_cons_zero, List.getElem?_cons_succ]; rfl
    go_simp
    refine hK.out _ _ (fun _ => (Kp.alloc No w7 _).cell y7 (fun f => f)) (fun hHe => ?_)
    have hHeld := hHe (by decide)
    clear hK K hHe
    try simp only [Act.put, List.setIfInBounds_toArray, List.set_cons_zero, List.set_cons_succ]
    refine LastR.run (i := 8) (o := ?ob8) ?hb8 (by kernel_rfl) (fun K hK => ?sb8)
    case hb8 => simp only [List.getElem?_toArray, List.getElem?_cons_zero, List.getElem?_cons_succ]; rfl
    have hka := Kp.alloc No w7 (.cells #[.slice A7 n7 c7] 22)
    have hD8 := (HD6.out.no k7).no hka
    have hI5 : OwnT (w7.alloc (.cells #[.slice A7 n7 c7] 22)) 0 22 1 (.slice A N c) N (sls ps) := by rw [HN.out]; exact hD8.rw_.own
    refine step_appT ty_slc rfl (.tmp 35) (.tmp 38) _ rfl Try.underlying25 rfl hI5 _ _ rfl (nws_one (u := .slice A7 n7 c7) (by rw [World.cell?_alloc_mark]; rfl) rfl) (by omega) (Nat.zero_le _) ?_
    intro A9 n9 c9 w8 hn9 ha9
    clear hn9 hI5
    rw [HN.out] at ha9
    have hb8 := hD8.app ha9
    have y8 : w8.cell? ⟨g, 1, none⟩ = some (.slice A N c) := by rw [cell_of_row w8 g 1 _ _ _ hb8, HN.out]; rfl
    have yf8 : w8.frozen? ⟨g, 1, none⟩ = false := frozen_of_row w8 g 1 _ _ hb8
    have hw := hD8.wrote ((ho7.base0).no hka) ha9 (m := w6.heap.size) (by have := k7.size; simp; omega) (fun k hk => ho7.ge k hk)
    have HW := hide hw
    have HK9 := hide (((k7.trans' hka).of_no Fd).trans' hw.2)
    clear hb8 hw hD8 hka ha9
    refine hK.out _ _ (fun _ => y8) (fun hHe => ?_)
    have hHeld := hHe (by decide)
    clear hK K hHe
    try simp only [Act.put, List.setIfInBounds_toArray, List.set_cons_zero, List.set_cons_succ]
    refine LastR.run (i := 9) (o := ?ob9) ?hb9 (by kernel_rfl) (fun K hK => ?sb9)
    case hb9 => simp only [List.getElem?_toArray, List.getElem?_cons_zero, List.getElem?_cons_succ]; rfl
    go_simp
    refine hK.out _ _ (fun _ => y8) (fun hHe => ?_)
    have hHeld := hHe (by decide)
    clear hK K hHe
    try simp only [Act.put, List.setIfInBounds_toArray, List.set_cons_zero, List.set_cons_succ]
    refine LastR.take (i := 10) (v := ?vb10) (oi := ?ob10) ?hb10 (by kernel_rfl) (by kernel_rfl) (by kernel_rfl) (by kernel_rfl) (fun _ _ _ h => h) (Or.inl ⟨?wb10, ?yb10⟩) hHeld ?rb10
    case hb10 => simp only [List.getElem?_toArray, List.getElem?_cons_zero, List.getElem?_cons_succ]; rfl
    case wb10 => rfl
    case yb10 => intro w hSw; (try dsimp only at hSw); go_simp; (try with_reducible rfl)
    simp only [Act.put, List.setIfInBounds_toArray, List.set_cons_zero, List.set_cons_succ]
    refine LastR.run (i := 11) (o := ?ob11) ?hb11 (by kernel_rfl) (fun K hK => ?sb11)
    case hb11 => simp only [List.getElem?_toArray, List.getElem?_cons_zero, List.getElem?_cons_succ]; rfl
    go_simp
    refine hK.out _ _ (fun h => absurd rfl h) (fun _ => ?_)
    clear hK K
    try simp only [Act.put, List.setIfInBounds_toArray, List.set_cons_zero, List.set_cons_succ]
    refine LastR.done (by kernel_rfl) ?_ _
    refine NoPanic.normal ?_
    go_wp2_with fail
    go_ret
    refine ⟨rfl, DyAt.mk' (Ft := fun k => Up Ft w k ∧ k < w6.heap.size) (Fd := fun k => Fd k ∨ w6.heap.size ≤ k) (vl := .slice A9 n9 c9) (ps := ps ++ [(.slice A7 n7 c7, b)]) (by rw [HRS.out]; simp [rws_snoc]) ?_ HW.out.1 ?_ ?_ ?_, (HK6.out.mono fun k a => (HX.out.2.1 k a).1).trans (HK9.out.mono fun k a => .inl (HX.out.2.2 k a).1)⟩
    · exact HT6.out.keep HK9.out fun k _ a b => by
        rcases a.1 with a | a
        · exact HX.out.1 k a b
        · have := (HX.out.2.2 k b).2
          omega
    · rintro k _ ⟨a | a, a'⟩ (b | b)
      · exact HX.out.1 k a b
      · omega
      · have := (HX.out.2.2 k b).2
        omega
      · omega
    · rintro k ⟨a | a, a'⟩
      · exact .inl (HX.out.2.1 k a).1
      · exact .inr a
    · rintro k (b | b)
      · exact .inl (HX.out.2.2 k b).1
      · exact .inr (by have := HK6.out.size; omega)
  · have hq1 : ((q : Int) != 0) = true := by simp; omega
    go_wp2_with fail
    go_ret
    refine ⟨rfl, DyAt.mk' (Ft := fun k => Up Ft w k ∧ k < w6.heap.size) (Fd := Fd) (vl := .slice A ps.length c) (ps := ps) (by rw [HRS.out, if_neg hq0]) HT6.out HD6.out ?_ ?_ ?_, HK6.out.mono fun k a => (HX.out.2.1 k a).1⟩
    · rintro k _ ⟨a | a, a'⟩ b
      · exact HX.out.1 k a b
      · have := (HX.out.2.2 k b).2
        omega
    · rintro k ⟨a | a, a'⟩
      · exact .inl (HX.out.2.1 k a).1
      · exact .inr a
    · exact fun k b => .inl (HX.out.2.2 k b).1
end
end Go.Proofs.Ytikegnhjnbjclaa
