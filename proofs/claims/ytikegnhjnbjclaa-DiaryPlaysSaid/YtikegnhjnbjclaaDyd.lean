/- diary's Open, Back and Write, each as a contract over memory. No condition. -/
import Derived.Test.YtikegnhjnbjclaaDyc
import Derived.Test.YtikegnhjnbjclaaRg
namespace Go.Proofs.Ytikegnhjnbjclaa
open Go.RowKit
set_option linter.unusedVariables false
set_option maxRecDepth 20000
set_option linter.unusedSimpArgs false

section
variable {w w1 : World} {F S G Ft Fd : Nat → Prop} {g tp sf : Nat} {vl v : Value} {ps : List (Value × List UInt8)} {T T' : Tp} {rs : List (List UInt8)}
/-- What Open returns. -/
def DnPost (w : World) (F : Nat → Prop) (tp : Nat) (T : Tp) (e : Ending) (w1 : World) : Prop :=
  ∃ (g : Nat) (rs : List (List UInt8)) (sz : Nat), e = .returned (.tuple #[.pointer (some ⟨g, 0, none⟩), .int .i64 0]) ∧ Rcs (T.sf ++ T.ls) rs sz ∧ DyAt w1 (Up F w) g tp (T.cut (sz : Int)) rs rs.length ∧ Kp F w w1 ∧ w.heap.size ≤ g
set_option maxHeartbeats 2000000 in
theorem dnew_any (h : TpAt w F tp T) (hL : T.len ≤ 1000000) : Calls Try.prog 13 #[.pointer (some ⟨tp, 0, none⟩)] w (DnPost w F tp T) := by
  have HT := hide h.lt
  have HL : Hid ((T.sf ++ T.ls).length ≤ 1000000) := by show _ ≤ _; rw [List.length_append]; exact hL
  have hL9 : T.len ≤ 900000000 := by omega
  have HR := hide (tread_any HT.out hL9)
  clear h
  go_enter Try.func13, Try.ntmps13
  go_wp2_with fail
  refine HR.out.mono ?_
  rintro e w1 ⟨A1, n1, c1, rfl, ho1, k1⟩
  have hn1 : n1 ≤ 1000000 := by have h1 := ho1.len; have h2 := HL.out; omega
  have HRC := hide (drecs_any ho1.bts ho1.cap hn1)
  have HK1 := hide k1
  clear ho1 k1 HR
  go_wp2_with fail
  refine HRC.out.mono ?_
  rintro e w2 ⟨ps, sz, A, r, c, rfl, hrc, hR, k2⟩
  have hr := hR.own.len
  have HK2 := hide (HK1.out.trans' k2)
  have HRO := hide hR
  have HRW := hide hrc
  have HRL := hide hr
  have HZ := hide k2.size
  clear hrc hR k2 hr HRC
  go_wp2_with fail
  refine (tcut_any (HT.out.no HK2.out) hL9 (sz : Int)).mono ?_
  rintro e w3 ⟨rfl, hT3, k3⟩
  have z1 := HK1.out.size
  have z2 := HZ.out
  have z3 := k3.size
  have hR3 := HRO.out.keep k3 (fun k hk f => by have h1 := HRO.out.own.ge k hk; have h2 := f.2; omega) (fun p hp k hk f => by have h1 := (HRO.out.ld p hp).ge k hk; have h2 := f.2; omega)
  have HR3 := hide hR3
  have HT3 := hide hT3.lt
  have HK3 := hide k3
  clear hR3 hT3 k3
  go_wp2_with fail
  go_ret2
  have hka := Kp.alloc No w3 (.cells #[.pointer (some ⟨tp, 0, none⟩), .slice A r c, .int .i64 (r : Int)] 83)
  refine ⟨w3.heap.size, rws ps, sz, rfl, HRW.out, DyAt.mk' (Ft := fun k => Up (fun k => F k ∧ k < w.heap.size) w2 k ∧ k < w3.heap.size) (Fd := fun k => (w.heap.size ≤ k ∧ k < w2.heap.size) ∨ k = w3.heap.size) (vl := .slice A r c) (ps := ps) rfl (HT3.out.no hka) ⟨?_, (HR3.out.rebase (Nat.zero_le _)).no hka, .inr rfl, fun k hk => .inl ⟨?_, ?_⟩, fun p hp k hk => .inl ⟨?_, ?_⟩, ?_⟩ ?_ ?_ ?_, ?_, ?_⟩
  · rw [rws_len, ← HRL.out]; exact heap_alloc_new w3 _
  · have h1 := HRO.out.own.ge k hk; omega
  · exact HRO.out.own.lt k hk
  · have h1 := (HRO.out.ld p hp).ge k hk; omega
  · exact (HRO.out.ld p hp).lt k hk
  · rw [rws_len]; exact Nat.le_refl _
  · rintro k _ ⟨a | a, a'⟩ (b | b)
    · have := a.2; omega
    · omega
    · omega
    · omega
  · rintro k ⟨a | a, a'⟩
    · exact .inl a.1
    · exact .inr (by omega)
  · rintro k (b | b)
    · exact .inr b.1
    · exact .inr (by omega)
  · exact ((HK2.out.of_no F).trans' (HK3.out.mono fun k a => a.1)).trans' (hka.of_no F)
  · omega

theorem rsl_empty : Try.prog.elem 25 = 22 := by unfold Program.elem; rw [Try.underlying25]
theorem zero_slc (w : World) : (zeroValue 22).run Try.prog w = .ok (.slice none 0 0) w := by
  obtain ⟨⟨i, hi, hz, _, _⟩, _⟩ := ty_slc
  simp [zeroValue, typeInfo, hi, hz]
/-- l[k:] and clear of it: l[:k] is as it was. -/
theorem clear_tail {w : World} {A : Option Addr} {L c k r rc : Nat} {ps : List (Value × List UInt8)} (h : RwO w 0 (.slice A L c) ps) (hl : ps.length = L) (hk : k ≤ L) (hc : L ≤ c) (hr : r = L - k) (hrc : rc = c - k) :
    ∃ A' W, (∀ w', (Instr.slice 25 (.slice A L c) (some (.int .i64 (k : Int))) none none).run Try.prog w' = .ok (.slice A' r rc) w') ∧
      (∀ ty, (Builtin.clear_ #[25] ty #[.slice A' r rc]).run Try.prog w = .ok (.tuple #[]) W) ∧ RwO W 0 (.slice A k c) (ps.take k) ∧ Kp (fun b => (Value.slice A L c).ownBlock = some b) w W := by
  obtain ⟨A', h1, h2⟩ := rsl_l A hk hc hr hrc
  subst hl
  have ho := h.own.upto hk
  rw [← sls_take] at ho
  have hlt : (ps.take k).length = k := by rw [List.length_take]; omega
  have ho' : OwnT w 0 22 1 (.slice A k c) (ps.take k).length (sls (ps.take k)) := by rw [hlt]; exact ho
  by_cases hlt2 : k < ps.length
  · obtain ⟨gl, e, _⟩ := h.own.some_ (by omega)
    subst e
    obtain rfl := h2 gl hlt2 rfl
    obtain ⟨cur, hg, hb, hn, hcm, hs, ht, _⟩ := h.own.row
    refine ⟨_, w.setCells gl k (List.replicate r (.slice none 0 0)), h1, fun ty => ?_, ⟨?_, fun p hp => ?_⟩, (kp_setCells gl _ k w).mono fun b e => by subst e; rfl⟩
    · refine Lib.run_clear_slice w _ _ ty _ Try.underlying25 zero_slc rfl rfl gl k r rc (by omega) (fun j hj => ?_) (fun j hj => frozen_of_row w gl _ _ _ hg)
      rw [cell_of_row w gl _ _ _ _ hg, Array.getElem?_eq_getElem (by omega)]
      rfl
    · rw [hlt]; exact OwnT.setsOut _ ho (Nat.le_refl _)
    · exact (h.ld p (List.mem_of_mem_take hp)).keep (kp_setCells gl _ k w) fun q hq e => by subst e; exact h.own.offB (h.ld p (List.mem_of_mem_take hp)) (by decide) hq
  · obtain rfl : r = 0 := by omega
    refine ⟨A', w, h1, fun ty => ?_, ⟨ho', fun p hp => h.ld p (List.mem_of_mem_take hp)⟩, Kp.refl _ _⟩
    rcases A' with _ | a <;> simp [Builtin.clear_, run_underlying Try.underlying25]

set_option maxHeartbeats 2000000 in
theorem dback_any (h : DyAt w F g tp T rs sf) (hL : T.len ≤ 900000000) (hn : rs.length ≤ 1000000) : Calls Try.prog 16 #[.pointer (some ⟨g, 0, none⟩)] w (DyPost w F g tp ⟨T.sf, [], T.most⟩ (rs.take sf) sf (.int .i64 ((rs.length - sf : Nat) : Int))) := by
  obtain ⟨Ft, Fd, vl, ps, rfl, h2, h3, h4, h5, h6⟩ := h.ex
  obtain ⟨A, c, rfl, hc⟩ := h3.vl_
  rw [rws_len] at hn ⊢
  have hle := h3.le
  have HM := hide (dmade_any h3)
  have x1 : w.drew.cell? ⟨g, 1, none⟩ = some (.slice A ps.length c) := h3.c1
  have x2 : w.drew.cell? ⟨g, 2, none⟩ = some (.int .i64 (sf : Int)) := h3.c2
  have y1 : w.drew.drew.cell? ⟨g, 1, none⟩ = some (.slice A ps.length c) := h3.c1
  have y2 : w.drew.drew.cell? ⟨g, 2, none⟩ = some (.int .i64 (sf : Int)) := h3.c2
  obtain ⟨r, hr⟩ : ∃ r, r = ps.length - sf := ⟨_, rfl⟩
  obtain ⟨rc, hrc⟩ : ∃ r, r = c - sf := ⟨_, rfl⟩
  rw [← hr]
  have k0 : Kp No w w.drew.drew := (Kp.refl No w).drew.drew
  obtain ⟨A', W, hs, hcl, hR, hkW⟩ := clear_tail (k := sf) (h3.rw_.no k0) rfl hle hc hr hrc
  have hkF : Kp Fd w W := k0.of_no Fd |>.trans' (hkW.mono fun k e => h3.fv k e)
  have hsu := rsl_u A hle hc
  have hbW : W.heap[g]? = _ := (hkW.block g (by exact h3.glt) h3.gne).trans ((k0.block g h3.glt fun f => f).trans h3.blk)
  have z1 : W.drew.cell? ⟨g, 1, none⟩ = some (.slice A ps.length c) := by
    have : W.cell? ⟨g, 1, none⟩ = some (.slice A ps.length c) := by rw [cell_of_row W g 1 _ _ _ hbW]; rfl
    exact this
  have z2 : W.drew.cell? ⟨g, 2, none⟩ = some (.int .i64 (sf : Int)) := by
    have : W.cell? ⟨g, 2, none⟩ = some (.int .i64 (sf : Int)) := by rw [cell_of_row W g 2 _ _ _ hbW]; rfl
    exact this
  have zf : W.drew.frozen? ⟨g, 1, none⟩ = false := frozen_of_row W g 1 _ _ hbW
  have hk5 : Kp (fun k => k = g) W (W.setCell ⟨g, 1, none⟩ (.slice A sf c)).drew := (Kp.setCell (p := ⟨g, 1, none⟩) (S := fun k => k = g) rfl _).drew
  have hlt : (ps.take sf).length = sf := by rw [List.length_take]; omega
  have hb5 : (W.setCell ⟨g, 1, none⟩ (.slice A sf c)).drew.heap[g]? = some (.cells #[.pointer (some ⟨tp, 0, none⟩), .slice A sf c, .int .i64 (sf : Int)] 83 (0, 0)) := heap_setCell_same W g 1 _ _ (.slice A sf c) hbW
  have hD5 : DyR (W.setCell ⟨g, 1, none⟩ (.slice A sf c)).drew Fd g tp sf (.slice A sf c) (ps.take sf) := ⟨hb5, hR.keep hk5 (fun k hk e => by subst e; exact h3.gne (by rw [← hk]; exact slice_blk _ _ _ _ _)) (fun p hp k hk e => by subst e; exact own_ne_at (hR.ld p hp) hbW (by decide) hk), h3.fg, fun k hk => h3.fv k (by rw [← hk]; exact slice_blk _ _ _ _ _), fun p hp k hk => h3.fp p (List.mem_of_mem_take hp) k hk, by omega⟩
  have K5 : Kp Fd w (W.setCell ⟨g, 1, none⟩ (.slice A sf c)).drew := hkF.trans' (hk5.mono fun k e => by rw [e]; exact h3.fg)
  have hT5 := h2.keep K5 fun k _ a b => h4 k a b
  have w0 := hD5.c0
  have HB := hide (tback_any hT5 hL)
  have HP := hide (show ∀ e w1, TpPost (W.setCell ⟨g, 1, none⟩ (.slice A sf c)).drew Ft tp ⟨T.sf, [], T.most⟩ (.int .i64 (T.ls.length : Int)) e w1 → DyPost w F g tp ⟨T.sf, [], T.most⟩ (rws (ps.take sf)) sf (.int .i64 (T.ls.length : Int)) e w1 from fun e w1 hp => by
    have h7 := dy_turn (F := F) rfl hD5 h4 (fun k a => ⟨(h5 k a).1, by have := (h5 k a).2; have := K5.size; omega⟩) (fun k a => ⟨(h6 k a).1, by have := (h6 k a).2; have := K5.size; omega⟩) hp
    exact ⟨h7.1, h7.2.1.mono fun k a => a.le K5.size, (K5.mono fun k a => (h6 k a).1).trans' h7.2.2⟩)
  rw [← rws_take]
  generalize ps.length = N at x1 y1 z1 hs hsu hr hn hle
  have eR : (N : Int) - (sf : Int) = (r : Int) := by omega
  have hwR : IntKind.i64.wrap (r : Int) = (r : Int) := IntWalk.i64_in _ (by omega)
  clear h h2 h3 h4 h5 h6 hc hr hrc k0 hR hkW hkF hbW hk5 hlt hb5 hD5 K5 hT5
  go_enter Try.func16, Try.ntmps16
  go_wp2_with fail
  refine HM.out.mono ?_
  rintro e w1 ⟨rfl, rfl⟩
  go_wp2_with fail
  go_region
  go_wp2_with fail
  go_region
  go_wp2_with fail
  go_region
  go_wp2_with fail
  refine HB.out.mono ?_
  intro e w1 hp
  have hp' := HP.out e w1 hp
  obtain rfl := hp'.1
  go_wp2_with fail
  go_ret
  exact ⟨rfl, hp'.2⟩
end
end Go.Proofs.Ytikegnhjnbjclaa
