/- What a node's sizes are after so many calls; law 16's awake, as a contract over memory. -/
import Derived.Test.YtnfcfdhlmeimhaaGreatTwbo
import Derived.Test.YtnfcfdhlmeimhaaGreatTwbp
import Derived.Test.YtnfcfdhlmeimhaaGreatTwbq
namespace Go.Proofs.YtnfcfdhlmeimhaaGreat
open Go.RowKit
set_option linter.unusedVariables false
set_option linter.unusedSimpArgs false
set_option maxRecDepth 20000

/-- So much has a node done at most; its disk has c cells of z bytes. -/
structure NdS (c z m : Nat) (N : Nd) : Prop where
  n : N.V.D.cells.length = c
  z : N.V.D.size = z
  l : N.V.D.loose.length ≤ m
  s : N.V.D.syncs ≤ m
  d : N.done ≤ m
section
variable {n a c z m : Nat} {x : Nat → UInt8} {N : Nd} {q : Rq} {bs : List UInt8}
theorem NdS.szk (h : NdS c z m N) (hc : c ≤ 1000) (hz : z ≤ 1000) (hm : m ≤ 100000) : SzK N.V := ⟨by rw [h.n]; exact hc, by have := h.l; omega, by have := h.s; omega, by rw [h.z]; exact hz⟩
theorem Vt.bg_size (V : Vt) (s : Nat) (b : List UInt8) : (V.bg s b).D.size = V.D.size := by
  by_cases e : V.bgE s b = 0
  · rw [Vt.bg_yes e]; exact put_size _ _ _
  · rw [Vt.bg_no e]
theorem Vt.pt_size (V : Vt) (s : Nat) (b : List UInt8) : (V.pt s b).D.size = V.D.size := by
  by_cases e : V.bgE s b = 0
  · rw [Vt.pt_yes e]; exact V.bg_size s b
  · rw [Vt.pt_no e]
theorem Vt.dr_size (V : Vt) (s : Nat) : (V.dr s).D.size = V.D.size := by
  by_cases e : V.drE s = 0
  · rw [Vt.dr_yes e]; exact put_size _ _ _
  · rw [Vt.dr_no e]
theorem ndV_nmk (V : Vt) (q : Rq) : NmK V (ndV V q) ∧ (ndV V q).D.size = V.D.size := by
  unfold ndV
  split
  · exact ⟨V.npt _ _, V.pt_size _ _⟩
  · split
    · exact ⟨V.ndr _, V.dr_size _⟩
    · exact ⟨V.nsame, rfl⟩
theorem NdS.mono (h : NdS c z m N) {m' : Nat} (hm : m ≤ m') : NdS c z m' N := ⟨h.n, h.z, Nat.le_trans h.l hm, Nat.le_trans h.s hm, Nat.le_trans h.d hm⟩
theorem NdS.hand (h : NdS c z m N) : NdS c z (m + 1) (N.hand n a x q) := by
  rcases ho : N.old q with _ | p
  · rw [(Nd.hand_none (n := n) (a := a) (x := x) ho).1]
    obtain ⟨h1, h2⟩ := ndV_nmk N.V q
    exact ⟨h1.n.trans h.n, h2.trans h.z, by have := h1.l; have := h.l; show (ndV N.V q).D.loose.length ≤ _; omega, by have := h1.s; have := h.s; show (ndV N.V q).D.syncs ≤ _; omega, Nat.succ_le_succ h.d⟩
  · rw [(Nd.hand_some (n := n) (a := a) (x := x) ho).1]
    exact h.mono (Nat.le_succ _)
theorem NdS.handB (h : NdS c z m N) : NdS c z (m + 1) (N.handB n a x bs) := by
  unfold Nd.handB
  split
  · exact h.hand
  · exact h.mono (Nat.le_succ _)
theorem NdS.new (c z : Nat) : NdS c z 0 (Nd.up (Dk.new c z)) := ⟨by show (List.replicate c []).length = c; simp, rfl, Nat.le_refl _, Nat.le_refl _, Nat.le_refl _⟩
end
/-- The chapter's example. -/
abbrev aw16 : Nd := Nd.up (Dk.new 3 50)
theorem aw16_get : aw16.V.gtE 0 = 6 := by decide +kernel
abbrev aw16q : Rq := ⟨9, 3, 0, 0, []⟩
theorem aw16_fit : aw16q.Fit := ⟨by decide, by decide, by decide⟩
theorem aw16_out (x : Nat → UInt8) : aw16.outB 3 1 x aw16q.bytes = Rp.bytes ⟨9, 6, []⟩ ∧ (aw16.handB 3 1 x aw16q.bytes).done = 1 := by
  have h1 : rqE aw16q.bytes = true := Rq.read aw16_fit (by decide)
  have h2 : rqO aw16q.bytes = aw16q := Rq.back aw16_fit (by decide)
  obtain ⟨e1, e2⟩ := Nd.handB_yes (n := 3) (a := 1) (x := x) (N := aw16) h1
  rw [e1, e2, h2]
  obtain ⟨e3, e4⟩ := Nd.hand_none (n := 3) (a := 1) (x := x) (Nd.old_none (N := aw16) (q := aw16q) (by decide))
  rw [e3, e4]
  have e5 : ndE 3 1 aw16.V aw16q = 6 := (ndE_3 rfl).trans aw16_get
  have e6 : ndB 3 1 x aw16.V aw16q = [] := ndB_nil (by rw [e5]; decide)
  refine ⟨?_, rfl⟩
  unfold ndP
  rw [e5, e6]
  rfl
set_option maxHeartbeats 4000000 in
theorem awake16_any (w : World) : Calls Tryz.prog 5 #[] w (TruePost w) := by
  obtain ⟨x, hP⟩ := pts_ex (n := 3) (a := 1) (by omega) (by omega) (by omega)
  have hD : Dim 3 2 1 2 2 := ⟨rfl, rfl, rfl, by omega, by omega, by omega, by omega⟩
  have HN := hide (mnew_yes w hD hP)
  have HD := hide hD
  have HBY : Hid (∀ w', Calls Tryz.prog 29 #[rqV aw16q (.slice none 0 0)] w' (OwnPost w' aw16q.bytes)) := fun w' => bytes15_any aw16q aw16_fit (by decide) (Bts.nil _) (by decide)
  clear hD hP
  go_enter Tryz.func5, Tryz.ntmps5
  go_wp2_with fail
  refine HN.out.mono ?_
  rintro e w1 ⟨gc, rfl, hC, k1⟩
  have HC := hide (CdF.of hC (by omega))
  have HK1 := hide k1
  clear hC k1
  go_wp2_with fail
  refine (pnew_yes w1 3 50 (by omega) (by omega) (by omega) (by omega)).mono ?_
  rintro e w2 ⟨gd, rfl, hgd, hD2, k2⟩
  have HC2 := hide (HC.out.no k2)
  have HZ1 : Hid (w.heap.size ≤ w1.heap.size) := HK1.out.size
  have HZ2 : Hid (w1.heap.size ≤ w2.heap.size) := k2.size
  have HD2 := hide hD2
  have HK2 := hide (HK1.out.trans' k2)
  clear hD2 k2
  go_wp2_with fail
  refine (snew_any HC2.out HD2.out (fun z f => f)).mono ?_
  rintro e w3 ⟨g, rfl, _, ⟨gv, b, rv, hs⟩, k3⟩
  have HS := hide hs
  have HK3 := hide (HK2.out.trans' k3)
  clear hs k3
  go_wp2_with fail
  refine (HBY.out _).mono ?_
  rintro e w4 ⟨A4, n4, c4, rfl, ho4, k4⟩
  have HO4 := hide ho4
  have HS4 := hide (HS.out.no k4)
  have HK4 := hide (HK3.out.trans' k4)
  clear ho4 k4
  go_wp2_with fail
  refine (shandle_any HS4.out HD.out ((NdS.new 3 50).szk (by omega) (by omega) (by omega)) HO4.out.bts (by rw [Rq.bytes_len]; decide) (by decide)).mono ?_
  rintro e w5 ⟨A5, n5, c5, rfl, ho5, hs5, k5⟩
  rw [(aw16_out x).1] at ho5
  have HO5 := hide ho5
  obtain ⟨F5, ⟨gv5, b5, rv5, hs5⟩, _⟩ := hs5
  have hb5 := hs5.blk
  rw [(aw16_out x).2] at hb5
  have HB5 := hide hb5
  have HK5 := hide (HK4.out.trans (k5.mono fun z f => .inr (f.elim (fun f => Nat.le_trans HZ1.out f) fun f => Nat.le_trans HZ1.out (Nat.le_trans HZ2.out f))))
  clear ho5 hs5 k5 hb5
  go_wp2_with fail
  refine (parsep_any HO5.out.bts (by rw [Rp.bytes_len]; decide) ⟨9, 6, []⟩ 0 (fun _ => ⟨(Rp.back (by decide) (by decide)).symm, rfl⟩) (fun e => by rw [Rp.read (by decide) (by decide)] at e; cases e)).mono ?_
  rintro e w6 ⟨A6, n6, c6, rfl, _, k6⟩
  have HB6 := hide ((HB5.out.no k6).no (Kp.alloc No _ (.cells #[.int .u64 9, .int .i64 6, .slice A6 n6 c6] 81)))
  have HK6 := hide ((HK5.out.trans' k6).al (.cells #[.int .u64 9, .int .i64 6, .slice A6 n6 c6] 81))
  have HX := hide (Bx3.new w6 81 (.int .u64 9) (.int .i64 6) (.slice A6 n6 c6))
  clear k6
  go_upto_region 5 with (fail)
  generalize w6.alloc (.cells #[.int .u64 9, .int .i64 6, .slice A6 n6 c6] 81) = w7 at HB6 HK6 HX ⊢
  generalize w6.heap.size = b6 at HX ⊢
  obtain ⟨x0, x1, x2⟩ := HX.out.cell
  have HDN := hide (sdone_any HB6.out)
  go_wp2_with fail
  refine HDN.out.mono ?_
  rintro e w' ⟨rfl, rfl⟩
  go_wp2
  go_ret
  exact ⟨rfl, HK6.out⟩
end Go.Proofs.YtnfcfdhlmeimhaaGreat
