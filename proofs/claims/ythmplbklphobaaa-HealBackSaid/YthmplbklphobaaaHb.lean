/- Package heal's bytesAt, inverse and factors, each as a contract over memory. -/
import Derived.Test.YthmplbklphobaaaHa
import Derived.StillTailTactics
namespace Go.Proofs.Ythmplbklphobaaa
open Go.RowKit
set_option linter.unusedVariables false
set_option linter.unusedSimpArgs false
set_option maxRecDepth 100000

set_option maxHeartbeats 2000000 in
theorem hby_any {w : World} {A : Option Addr} {m cp i : Nat} {sl : Nat → Int} {ds : Nat → List UInt8} (hP : Prts w A m sl ds) (hl : ∀ j, j < m → i < (ds j).length) (hm : m ≤ 1000) :
    Calls Try.prog 34 #[.slice A m cp, .int .i64 (i : Int)] w (OwnPost w (rowL m fun j => lg (ds j) i)) := by
  have hmk := make_bytes w m (m : Int) rfl (by omega)
  have hst := row_new w m hm
  have hk0 : Kp No w (w.alloc (.cells (zc m) 5)) := Kp.alloc No _ _
  obtain ⟨gb, hgb⟩ : ∃ gb, gb = w.heap.size := ⟨_, rfl⟩
  have HL := hide hl
  clear hl
  go_enter Try.func34, Try.ntmps34
  go_wp2_with fail
  rw [← hgb] at hst ⊢
  have HG := hide hgb
  clear hgb hmk
  go_loopw [13] (fun iv wr => ∃ j : Nat, j ≤ m ∧ iv = .int .i64 (j : Int) ∧ RowAt wr gb gb m m (upS (fun j => lg (ds j) i) (fun _ => 0) j) ∧ Kp No w wr) (fun iv _ => m - (intOf iv).toNat)
  case atStart => exact ⟨0, Nat.zero_le _, rfl, hst.eq fun k _ => by simp [upS], hk0⟩
  case round =>
    clear hst hk0
    obtain ⟨j, hj, rfl, hR, hkw⟩ := hrel
    by_cases hlt : j < m
    · obtain ⟨B, off, A1, r1, c1, rfl, z0, z1, hB⟩ := (hP.no hkw).at_ j hlt
      have hir : i < r1 := by rw [hB.len]; exact HL.out j hlt
      go_upto_region 5 with fail
      have kb : Kp No wr (wr.alloc (.cells #[.int .i64 (sl j), .slice A1 r1 c1] 37)) := Kp.alloc No _ _
      have b1 : (wr.alloc (.cells #[.int .i64 (sl j), .slice A1 r1 c1] 37)).cell? ⟨wr.heap.size, 1, none⟩ = some (.slice A1 r1 c1) := by simp
      have hR2 := hR.no kb
      have hB2 := hB.no kb
      have hkw2 := hkw.trans' kb
      generalize wr.alloc (.cells #[.int .i64 (sl j), .slice A1 r1 c1] 37) = wb at *
      generalize wr.heap.size = bx at *
      clear z0 z1 hB hR kb hkw
      obtain ⟨B1, o1, u, rfl, hu, x2⟩ := hB2.at_ hir
      have x3 := hR2.cell hlt
      have x4 := hR2.frozen j
      have HN := hide ((hR2.set hlt u _ rfl).eq fun t _ => upS_to (t := fun j => lg (ds j) i) (by show u = lg (ds j) i; exact (lg_of hu).symm) t)
      have HKN : Hid (Kp No w (wb.setCell ⟨gb, j, none⟩ (bv u))) := hkw2.trans ((RowAt.kpset gb j _ wb).mono fun q hq => .inr (by rw [hq, HG.out]; exact Nat.le_refl _))
      clear hu hR2
      go_wp2_with fail
      go_round
      case rel => exact ⟨j + 1, by omega, by go_num, HN.out, HKN.out⟩
      case measure => simp [intOf]; omega
    · obtain rfl : j = m := by omega
      have hR2 := hR.eq (t := fun j => lg (ds j) i) fun j hj => by unfold upS; rw [if_pos hj]
      clear hR
      go_wp2_with fail
      go_ret
      exact ⟨_, _, _, rfl, (show Own _ _ _ _ _ from hR2).rebase fun b hb => by injection hb with hb; rw [← hb, HG.out]; exact Nat.le_refl _, hkw⟩

/-- A matrix comes back by which the rows of powers come to one. -/
def HinPost (w : World) (d : Nat) (p : Nat → UInt8) (e : Ending) (w1 : World) : Prop :=
  ∃ (M : MB) (G : Nat → Nat → UInt8), e = .returned M.ptr ∧ MatAt w1 M d d G ∧ EqF d d (mulF d (vF p) G) oneF ∧ Kp No w w1
theorem uq_of_pow {m a : Nat} {p : Nat → UInt8} (h : Uq m fun j => upw (p j) a) : Uq m p := fun i j hj hi e => h i j hj hi (by show upw (p i) a = upw (p j) a; rw [e])
set_option maxHeartbeats 4000000 in
theorem hinv_any {w : World} {c n k a d q : Nat} {x : Nat → UInt8} {A : Option Addr} {cp : Nat} {ss : Nat → Nat} {ds : Nat → List UInt8} (h : CodeAt w c n k x) (hD : Dim n k a d q) (hP : Prts w A d (fun j => (ss j : Int)) ds) (hs : ∀ j, j < d → ss j < n) (hU : Uq d fun j => x (ss j)) :
    Calls Try.prog 53 #[cptr c, .slice A d cp] w (HinPost w d fun j => x (ss j)) := by
  have ha1 := hD.a1
  have ha7 := hD.a7
  have hd1 : 1 ≤ d := by have := hD.d_; omega
  have hd14 : d ≤ 14 := by have := hD.d_; omega
  have HW : Hid ((redS d (vF fun j => x (ss j)) d).rk = d) := vF_whole hU
  have HS := hide hs
  have HD := hide hD
  clear hs hU hD
  go_enter Try.func53, Try.ntmps53
  go_wp2_with fail
  go_loopw [5, 12] (fun v jv wr => ∃ (j : Nat) (A' : Option Addr) (r cc : Nat) (vs : List Value), j ≤ d ∧ jv = .int .i64 (j : Int) ∧ v = .slice A' r cc ∧ RInv w (fun t => rowL d (vF (fun j => x (ss j)) t)) j (.slice A' r cc) vs wr) (fun _ jv _ => d - (intOf jv).toNat)
  case atStart => exact ⟨0, none, 0, 0, [], Nat.zero_le _, rfl, rfl, ⟨OwnV.nil _ _, rfl, (fun j u hj => by simp at hj), Kp.refl _ _⟩⟩
  case round =>
    obtain ⟨j, A', r, cc, vs, hj, rfl, rfl, hI⟩ := hrel
    by_cases hlt : j < d
    · obtain ⟨B, off, A1, r1, c1, rfl, z0, z1, hB⟩ := (hP.no hI.kp).at_ j hlt
      have hkb : Kp No wr (wr.alloc (.cells #[.int .i64 (ss j : Int), .slice A1 r1 c1] 37)) := Kp.alloc No _ _
      have hrow := rowo_in (h.no (hI.kp.trans' hkb)) HD.out (ss j) (HS.out j hlt)
      have hI2 := hI.no hkb
      clear hB
      go_wp2_with fail
      refine hrow.mono ?_
      rintro e w2 ⟨A5, n5, c5, rfl, ho5, hk5⟩
      obtain rfl : d = n5 := by rw [ho5.len, rowL_len]
      have hge5 : w.heap.size ≤ (wr.alloc (.cells #[.int .i64 (ss j : Int), .slice A1 r1 c1] 37)).heap.size := hI2.kp.size
      have hsz2 := (hI2.kp.trans' hk5).size
      have hlen : vs.length ≤ 1000000 := by rw [hI.len]; omega
      have ho2 : OwnV (w2.alloc (.cells #[.slice A5 d c5] 22)) w.heap.size (.slice A' r cc) vs := (hI2.own.no hk5).no (Kp.alloc No _ _)
      have ho5' : Own w2 (wr.alloc (.cells #[.int .i64 (ss j : Int), .slice A1 r1 c1] 37)).heap.size 5 (.slice A5 d c5) (rowL d (vF (fun j => x (ss j)) j)) := ho5
      clear hrow hI z0 z1 ho5
      generalize wr.alloc (.cells #[.int .i64 (ss j : Int), .slice A1 r1 c1] 37) = wb at *
      go_wp2_with (first
        | (at_builtin
           refine wpList_appV rfl (.tmp 16) (.tmp 21) _ rfl Try.underlying39 rfl ho2 _ rfl (fresh_cell _ _ _) rfl rfl hlen ?hs ?_
           case hs => simp; omega
           intro A3 n3 c3 w3 ha))
      go_round
      case rel => exact ⟨j + 1, A3, n3, c3, _, by omega, by go_num, rfl, hI2.step hk5 ho5' hge5 ha⟩
      case measure => simp [intOf]; omega
    · obtain rfl : j = d := by omega
      obtain rfl : j = r := by rw [hI.own.len, hI.len]
      have hRws := hI.rws (bss := matL j j (vF fun j => x (ss j))) (matL_len _ _ _) fun t ht => matL_get _ ht
      have hof := of_yes (cp := cc) hRws (matL_rect (vF fun j => x (ss j)) (by omega) (by omega) (by omega) (by omega))
      have HW2 : Hid ((redS j (fnL (matL j j (vF fun j => x (ss j)))) j).rk = j) := (redS_congr (fnL_matL (vF fun j => x (ss j))) j (Nat.le_refl _)).1.trans HW.out
      have hk2 := hI.kp
      have HEQ : Hid (EqF j j (fnL (matL j j (vF fun j => x (ss j)))) (vF fun j => x (ss j))) := fnL_matL _
      clear hI hRws
      go_wp2_with fail
      refine hof.mono ?_
      rintro e w2 ⟨M, rfl, hM, _, _, hk3⟩
      have hinv := invert_any hM
      clear hof
      go_wp2_with fail
      refine hinv.mono ?_
      rintro e w3 hsol
      rcases hsol with ⟨hbad, _⟩ | ⟨hgood, M2, rfl, hM2, _, _, hk4⟩
      · exact absurd HW2.out (by omega)
      have hkw := (hk2.trans' hk3).trans' hk4
      have HMul : Hid (EqF j j (mulF j (vF fun j => x (ss j)) (offF j (redS j (catF j (fnL (matL j j (vF fun j => x (ss j)))) oneF) j).f)) oneF) := by
        have h5 := solve_eq (m := j) (fnL (matL j j (vF fun j => x (ss j)))) oneF ((redS_congr (catF_left j _ _ j) j (Nat.le_refl _)).1.trans hgood)
        exact (mulF_congr (EqF.symm HEQ.out) (EqF.refl j j _)).trans h5
      generalize offF j (redS j (catF j (fnL (matL j j (vF fun j => x (ss j)))) oneF) j).f = G at *
      clear hgood hinv HW2 HEQ hM
      go_wp2_with fail
      go_ret
      exact ⟨M2, G, rfl, hM2, HMul.out, hkw⟩

/-- So many rows are there, each in a block below N. -/
structure RoB (w : World) (g r c : Nat) (f : Nat → Nat → UInt8) (k N : Nat) (wr : World) : Prop where
  ex : ∃ hv, Outer wr g r hv ∧ (∀ j, j < k → Own wr w.heap.size 5 (hv j) (rowL c (f j))) ∧ InjV k hv ∧ ∀ j, j < k → ∀ b, (hv j).ownBlock = some b → b < N
  kp : Kp No w wr
section
variable {w wr w1 : World} {g r c k N : Nat} {f f' : Nat → Nat → UInt8}
theorem RoI.rob (h : RoI w g r c f k wr) : RoB w g r c f k wr.heap.size wr := by
  obtain ⟨hv, h1, h2, h3⟩ := h.ex
  exact ⟨⟨hv, h1, h2, h3, fun j hj b hb => (h2 j hj).lt b hb⟩, h.kp⟩
theorem RoB.roi (h : RoB w g r c f k N wr) : RoI w g r c f k wr := by
  obtain ⟨hv, h1, h2, h3, _⟩ := h.ex
  exact ⟨⟨hv, h1, h2, h3⟩, h.kp⟩
theorem RoI.eq (h : RoI w g r c f k wr) (he : ∀ j, j < k → ∀ t, t < c → f j t = f' j t) : RoI w g r c f' k wr := by
  obtain ⟨hv, h1, h2, h3⟩ := h.ex
  exact ⟨⟨hv, h1, fun j hj => by rw [← rowL_congr (he j hj)]; exact h2 j hj, h3⟩, h.kp⟩
theorem RoB.eq (h : RoB w g r c f k N wr) (he : ∀ j, j < k → ∀ t, t < c → f j t = f' j t) : RoB w g r c f' k N wr := by
  obtain ⟨hv, h1, h2, h3, h4⟩ := h.ex
  exact ⟨⟨hv, h1, fun j hj => by rw [← rowL_congr (he j hj)]; exact h2 j hj, h3, h4⟩, h.kp⟩
theorem RoB.no (h : RoB w g r c f k N wr) (hk : Kp No wr w1) : RoB w g r c f k N w1 := by
  obtain ⟨hv, h1, h2, h3, h4⟩ := h.ex
  exact ⟨⟨hv, h1.keep hk fun f => f, fun j hj => (h2 j hj).no hk, h3, h4⟩, h.kp.trans' hk⟩
/-- A row's cells, and what is there when one was written. -/
theorem RoB.at_ (h : RoB w g r c f k N wr) {j : Nat} (hj : j < k) (hjr : j < r) (hc : 0 < c) : ∃ b cap, wr.cell? ⟨g, j, none⟩ = some (.slice (some ⟨b, 0, none⟩) c cap) ∧ RowAt wr w.heap.size b c cap (f j) ∧ b < N ∧
    ∀ w2, Kp No wr w2 → ∀ (t : Nat) (u : UInt8) (v : Value), t < c → v = bv u → RoB w g r c (fun i => if i = j then upd (f j) t u else f i) k N (w2.setCell ⟨b, t, none⟩ v) := by
  obtain ⟨hv, h1, h2, h3, h4⟩ := h.ex
  obtain ⟨b, c1, e1, g1, g2⟩ := (h2 j hj).some_ (by rw [rowL_len]; exact hc)
  have hR : RowAt wr w.heap.size b c c1 (f j) := by
    have := h2 j hj
    rw [e1, rowL_len] at this
    exact this
  rw [rowL_len] at e1
  refine ⟨b, c1, by rw [h1.cell hjr, e1], hR, h4 j hj b (by rw [e1]; rfl), fun w2 hk t u v ht hv' => ?_⟩
  have h1' := h1.keep hk fun f => f
  have hks : Kp (fun q => q = b) w2 (w2.setCell ⟨b, t, none⟩ v) := RowAt.kpset b t v w2
  refine ⟨⟨hv, h1'.keep hks fun e => outer_ne h1' ((h2 j hj).no hk) (by rw [e1, e]; rfl), fun i hi => ?_, h3, h4⟩, (h.kp.trans' hk).trans (hks.mono fun q hq => .inr (by rw [hq]; exact g1))⟩
  by_cases e : i = j
  · subst e
    rw [if_pos rfl, e1]
    exact (hR.no hk).set ht u v hv'
  · rw [if_neg e]
    exact ((h2 i hi).no hk).keep hks fun q hq e' => e (h3 i j hi hj (by rw [hq, e', e1]; rfl))
end
/-- What the fragments are multiplied by. -/
def hfF (G : Nat → Nat → UInt8) (a : Nat) (y : UInt8) (j t : Nat) : UInt8 := ux (G j t) (um (G (j + a) t) (upw y a))
/-- The rows, as far as row p was changed. -/
def facF (G : Nat → Nat → UInt8) (a : Nat) (y : UInt8) (p i j : Nat) : Nat → UInt8 := if j = p then upS (hfF G a y p) (G p) i else hfF G a y j
def FacPost (w : World) (a d : Nat) (p : Nat → UInt8) (y : UInt8) (e : Ending) (w1 : World) : Prop :=
  ∃ g hv G, e = .returned (.slice (some ⟨g, 0, none⟩) a a) ∧ Grd w1 w.heap.size g a hv (fun j => rowL d (hfF G a y j)) ∧ EqF d d (mulF d (vF p) G) oneF ∧ Kp No w w1
set_option maxHeartbeats 4000000 in
theorem factors_any {w : World} {c n k a d q : Nat} {x : Nat → UInt8} {A : Option Addr} {cp : Nat} {ss : Nat → Nat} {ds : Nat → List UInt8} (h : CodeAt w c n k x) (hD : Dim n k a d q) (hP : Prts w A d (fun j => (ss j : Int)) ds) (hs : ∀ j, j < d → ss j < n) (hU : Uq d fun j => x (ss j)) (i : Nat) (hi : i < n) :
    Calls Try.prog 33 #[cptr c, .int .i64 (i : Int), .slice A d cp] w (FacPost w a d (fun j => x (ss j)) (x i)) := by
  have ha1 := hD.a1
  have ha7 := hD.a7
  have hda : Hid (d = a + a) := hD.d_
  have hd14 : d ≤ 14 := by have := hD.d_; omega
  have had : a < d := by have := hD.d_; omega
  have hinv := hinv_any (cp := cp) h hD hP hs hU
  have HA := hide (fun w' (hk : Kp No w w') => aa_any (h.no hk) hD)
  have HRW := hide (fun w' (hk : Kp No w w') => rowo_in (h.no hk) hD i hi)
  clear hD hP hs hU hi
  go_enter Try.func33, Try.ntmps33
  go_wp2_with fail
  refine hinv.mono ?_
  rintro e w1 ⟨M, G, rfl, hM, hE, hk1⟩
  have HE := hide hE
  clear hinv hE
  go_wp2_with fail
  refine (HA.out w1 hk1).mono ?_
  rintro e w' ⟨rfl, rfl⟩
  go_wp2_with fail
  refine (HRW.out w1 hk1).mono ?_
  rintro e w2 ⟨A5, n5, c5, rfl, ho5, hk5⟩
  obtain rfl : d = n5 := by rw [ho5.len, rowL_len]
  obtain ⟨B5, o5, rfl, y5⟩ := ho5.bts.cell had
  have hk2 := hk1.trans' hk5
  have hM2 := hM.no hk5
  have hmk := make_rows w2 a (a : Int) rfl (by omega)
  obtain ⟨g, hg⟩ : ∃ g, g = w2.heap.size := ⟨_, rfl⟩
  have hR0 : RoI w2 g a d (hfF G a (x i)) 0 (w2.alloc (.cells (zr a) 22)) := by
    rw [hg]
    exact ⟨⟨fun _ => .slice none 0 0, ⟨zr a, heap_alloc_new w2 _, fun j hj => zr_get hj⟩, fun j hj => absurd hj (Nat.not_lt_zero _), fun i j hi => absurd hi (Nat.not_lt_zero _)⟩, Kp.alloc No _ _⟩
  clear ho5 hM
  go_wp2_with fail
  rw [← hg]
  have HG3 := hide hg
  clear hg hmk y5
  go_loopw [29] (fun pv wr => ∃ p : Nat, p ≤ a ∧ pv = .int .i64 (p : Int) ∧ RoI w2 g a d (hfF G a (x i)) p wr) (fun pv _ => a - (intOf pv).toNat)
  case atStart => exact ⟨0, Nat.zero_le _, rfl, hR0⟩
  case round =>
    clear hR0
    obtain ⟨p, hp, rfl, hRo⟩ := hrel
    by_cases hltp : p < a
    · go_wp2_with fail
      refine (rowc_in (hM2.no hRo.kp) p (by omega)).mono ?_
      rintro e w4 ⟨A6, n6, c6, rfl, ho6, hk6⟩
      obtain ⟨hv, hout, _⟩ := hRo.ex
      have y1 := (hout.keep hk6 fun f => f).cell hltp
      have y2 := (hout.keep hk6 fun f => f).frozen p
      have hRo2 : RoI w2 g a d (facF G a (x i) p 0) p wr := hRo.eq fun j hj t ht => by unfold facF; rw [if_neg (by omega)]
      have ho6' : Own w4 wr.heap.size 5 (.slice A6 n6 c6) (rowL d (facF G a (x i) p 0 p)) := by
        have e : facF G a (x i) p 0 p = G p := by funext t; unfold facF; rw [if_pos rfl]; simp [upS]
        rw [e]; exact ho6
      have HN := hide (hRo2.step (Nat.le_of_eq HG3.out.symm) hltp (by omega) (Nat.le_refl _) ho6' hk6)
      have hM4 : Hid (∀ w', Kp No w2 w' → MatAt w' M d d G) := fun w' hk => hM2.no hk
      clear hRo hRo2 hout ho6 ho6'
      go_wp2_with fail
      generalize hgw : World.setCell w4 _ _ = w5
      rw [hgw] at HN
      clear hgw y1 y2
      have hB5 := HN.out.rob
      have hrow2 := rowc_in (hM4.out w5 HN.out.kp) (p + a) (by have := hda.out; omega)
      rw [Int.natCast_add] at hrow2
      clear HN
      refine hrow2.mono ?_
      rintro e w6 ⟨A7, n7, c7, rfl, ho7, hk7⟩
      obtain rfl : d = n7 := by rw [ho7.len, rowL_len]
      have hB6 := hB5.no hk7
      clear hrow2 hB5 hk7 hk6
      generalize w5.heap.size = N at *
      go_wp2_with fail
      go_loopw [44] (fun iv wr => ∃ t : Nat, t ≤ d ∧ iv = .int .i64 (t : Int) ∧ RoB w2 g a d (facF G a (x i) p t) (p + 1) N wr ∧ Own wr N 5 (.slice A7 d c7) (rowL d (G (p + a)))) (fun iv _ => d - (intOf iv).toNat)
      case atStart => exact ⟨0, Nat.zero_le _, rfl, hB6, ho7⟩
      case round =>
        clear hB6 ho7
        obtain ⟨t, ht, rfl, hB, ho⟩ := hrel
        by_cases hlt : t < d
        · obtain ⟨b, cap, z1, hRow, hbN, hset⟩ := hB.at_ (j := p) (by omega) hltp (by omega)
          have hRow2 : RowAt wr w2.heap.size b d cap (upS (hfF G a (x i) p) (G p) t) := hRow.eq fun u _ => by unfold facF; rw [if_pos rfl]
          have z2 := hRow2.cell hlt
          rw [show upS (hfF G a (x i) p) (G p) t t = G p t by simp [upS]] at z2
          obtain ⟨B7, o7, rfl, z3⟩ := ho.bts.cell hlt
          have hfz := hRow2.frozen t
          have HV : Hid (hfF G a (x i) p t = ux (G p t) (um (G (p + a) t) (upw (x i) a))) := rfl
          have HN := hide (fun w8 (hk : Kp No wr w8) => (hset w8 hk t (hfF G a (x i) p t) (bv (hfF G a (x i) p t)) hlt rfl).eq (f' := facF G a (x i) p (t + 1)) fun j hj u hu => by
            unfold facF
            by_cases e : j = p
            · rw [if_pos e, if_pos e, if_pos rfl]; exact upS_step (hfF G a (x i) p) (G p) t u
            · rw [if_neg e, if_neg e, if_neg e])
          have HO := hide (fun w8 (hk : Kp No wr w8) v => (ho.no hk).keep (RowAt.kpset b t v w8) fun q hq e => by have := ho.ge q hq; omega)
          have HRW8 := hide (fun w8 (hk : Kp No wr w8) => hRow2.no hk)
          clear hB ho hRow hset hRow2
          go_wp2_with fail
          refine wp_region_still_tail 17 (by kernel_rfl) (by kernel_rfl) ?_
          simp only [List.take_succ_cons, List.take_zero, List.drop_succ_cons, List.drop_zero]
          repeat still_step
          still_call ((mulU_any (G (p + a) t) (upw (x i) a) _).mono fun _ _ ⟨he, hw⟩ => ⟨he, hw.symm⟩)
          repeat still_step
          still_call ((addU_any (G p t) (um (G (p + a) t) (upw (x i) a)) _).mono fun _ _ ⟨he, hw⟩ => ⟨he, hw.symm⟩)
          repeat still_step
          refine wpStill_nil ?_
          change wpList _ _ _ _ _ wr.drew
          generalize hgen : wr.drew = w8
          have hs2 : Kp No wr w8 := hgen ▸ (Sm.drew wr).kp
          clear hgen
          have x3 := (HRW8.out w8 hs2).cell hlt
          have x4 := (HRW8.out w8 hs2).frozen t
          rw [← HV.out]
          have HN8 := hide (HN.out w8 hs2)
          have HO8 := hide (HO.out w8 hs2 (bv (hfF G a (x i) p t)))
          clear z1 z2 z3 hfz HRW8 HN HO HV
          generalize hfF G a (x i) p t = z at *
          go_wp2_with fail
          go_round
          case rel => exact ⟨t + 1, by omega, by go_num, HN8.out, HO8.out⟩
          case measure => simp [intOf]; omega
        · obtain rfl : t = d := by omega
          have HR : Hid (RoI w2 g a t (hfF G a (x i)) (p + 1) wr) := hB.roi.eq fun j hj u hu => by
            unfold facF
            by_cases e : j = p
            · rw [if_pos e, e]; unfold upS; rw [if_pos hu]
            · rw [if_neg e]
          clear hB ho
          go_wp2_with fail
          go_round
          case rel => exact ⟨p + 1, by omega, by go_num, HR.out⟩
          case measure => simp [intOf]; omega
    · obtain rfl : p = a := by omega
      obtain ⟨hv, hout, hrows, _⟩ := hRo.ex
      have hkp := hRo.kp
      clear hRo
      go_wp2_with fail
      go_ret
      exact ⟨g, hv, G, rfl, ⟨hout, fun i hi => (hrows i hi).rebase fun b hb => Nat.le_trans hk2.size ((hrows i hi).ge b hb), by rw [HG3.out]; exact hk2.size⟩, HE.out, hk2.trans' hkp⟩
end Go.Proofs.Ythmplbklphobaaa
