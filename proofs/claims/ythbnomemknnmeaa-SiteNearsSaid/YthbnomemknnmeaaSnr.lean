/- Package site's Near, as a contract over memory. -/
import Derived.Test.YthbnomemknnmeaaSst
import Derived.Test.YthbnomemknnmeaaBasf
namespace Go.Proofs.Ythbnomemknnmeaa
open Go.RowKit
set_option linter.unusedVariables false
set_option linter.unusedSimpArgs false
set_option maxRecDepth 100000

/-- The numbers of the nearest come back, in a row of the call's own. -/
def NearPost (w : World) (n : Nat) (k : Nat → Int) (e : Ending) (w1 : World) : Prop := ∃ g, e = .returned (.slice (some ⟨g, 0, none⟩) n n) ∧ w.heap.size ≤ g ∧ IRow w1 g n (soF k n) ∧ Kp No w w1
/-- So many numbers are laid. -/
def layF (i j : Nat) : Nat := if j < i then j else 0
structure LyI (w : World) (b n i : Nat) (wr : World) : Prop where
  row : IRow wr b n (layF i)
  kp : Kp (On b) w wr
theorem LyI.next {w wr : World} {b n i : Nat} (h : LyI w b n i wr) (hi : i < n) : LyI w b n (i + 1) (wr.setCell ⟨b, i, none⟩ (.int .i64 (i : Int))) := by
  refine ⟨(h.row.set hi i).eq fun j hj => ?_, h.kp.trans' (IRow.kp b i _ _)⟩
  unfold layF
  by_cases e : j = i
  · rw [if_pos e, if_pos (by omega), e]
  · rw [if_neg e]
    by_cases g : j < i
    · rw [if_pos g, if_pos (by omega)]
    · rw [if_neg g, if_neg (by omega)]
theorem irow_new (w : World) (n : Nat) : IRow (w.alloc (.cells (zi n) 3)) w.heap.size n (layF 0) :=
  ⟨zi n, heap_alloc_new w _, fun j hj => by rw [zi_get hj]; rfl⟩
set_option maxHeartbeats 4000000 in
theorem near_any {w : World} {A : Option Addr} {n c a b : Nat} {re im : Nat → Nat} {x y : Int} {X Y : Nat → Int} (hP : PtR w A n re im) (ha : Fl a x) (hb : Fl b y) (hr : ∀ j, j < n → Fl (re j) (X j)) (hi : ∀ j, j < n → Fl (im j) (Y j))
    (hx : Alw x) (hy : Alw y) (hX : ∀ j, j < n → Alw (X j)) (hY : ∀ j, j < n → Alw (Y j)) (hn : n ≤ 60) :
    Calls Try.prog 16 #[.complex .f64 a b, .slice A n c] w (NearPost w n fun j => farZ x y (X j) (Y j)) := by
  have hmk := fun w => make_ints w n (n : Int) rfl (by omega)
  have hF : ∀ q, q < n → ∀ w, Calls Try.prog 10 #[.complex .f64 a b, .complex .f64 (re q) (im q)] w fun e w' => e = .returned (.int .i64 (farZ x y (X q) (Y q))) ∧ w = w' := fun q hq w =>
    far_any w ha hb (hr q hq) (hi q hq) (by have := hX q hq; unfold Alw at *; omega) (by have := hY q hq; unfold Alw at *; omega)
  obtain ⟨w3, hw3⟩ : ∃ w3, w3 = ((w.alloc (.cells #[.complex .f64 a b] 25)).alloc (.cells #[.slice A n c] 39)).alloc (.cells (zi n) 3) := ⟨_, rfl⟩
  obtain ⟨g0, hg0⟩ : ∃ g0, g0 = w.heap.size := ⟨_, rfl⟩
  have c1 : w3.cell? ⟨g0, 0, none⟩ = some (.complex .f64 a b) := by rw [hw3, hg0]; simp [go_sem]
  have c2 : w3.cell? ⟨g0 + 1, 0, none⟩ = some (.slice A n c) := by rw [hw3, hg0]; simp [go_sem]
  have hI : IRow w3 (g0 + 1 + 1) n (layF 0) := by
    have := irow_new ((w.alloc (.cells #[.complex .f64 a b] 25)).alloc (.cells #[.slice A n c] 39)) n
    rw [hw3, hg0]
    simpa using this
  have hK : Kp No w w3 := by rw [hw3]; exact (((Kp.refl No w).al _).al _).al _
  have CA : Hid (∀ wr, Kp (On (g0 + 1 + 1)) w3 wr → CmpAt g0 (g0 + 1) (fun j => farZ x y (X j) (Y j)) n (g0 + 1 + 1) wr) := hide fun wr hk W hW p q hp hq => by
    have hkW := hk.trans' hW
    obtain ⟨g, hg, cp⟩ := hP.at_ p hp
    obtain ⟨g', hg', cq⟩ := hP.at_ q hq
    rw [hg] at hg'
    injection hg' with hg'
    injection hg' with hg'
    subst hg'
    have hlt := World.block_lt_of_cell? w _ cp
    have hgl : g < g0 := by rw [hg0]; exact hlt
    rw [hg] at c2
    have d1 := hkW.cell c1 (by show ¬ g0 = g0 + 1 + 1; omega)
    have d2 := hkW.cell c2 (by show ¬ g0 + 1 = g0 + 1 + 1; omega)
    have d3 := hkW.cell (hK.cell cp fun f => f) (by show ¬ g = g0 + 1 + 1; omega)
    have d4 := hkW.cell (hK.cell cq fun f => f) (by show ¬ g = g0 + 1 + 1; omega)
    exact near1_any d1 d2 hp hq d3 d4 hF
  have h0 : LyI w3 (g0 + 1 + 1) n 0 w3 := ⟨hI, Kp.refl _ _⟩
  have HK := hide hK
  have HG := hide hg0
  have HW3 := hide hw3
  clear hP ha hb hr hi hx hy hX hY hF c1 c2 hI hK hw3 hg0
  go_enter Try.func16, Try.ntmps16
  go_wp2_with fail
  rw [← HW3.out, ← HG.out]
  clear HW3
  go_loopw [12] (fun iv wr => ∃ i : Nat, i ≤ n ∧ iv = .int .i64 (i : Int) ∧ LyI w3 (g0 + 1 + 1) n i wr) (fun iv _ => n - (intOf iv).toNat)
  case atStart => exact ⟨0, Nat.zero_le _, rfl, h0⟩
  case round =>
    clear h0
    obtain ⟨i, hi, rfl, hL⟩ := hrel
    by_cases hlt : i < n
    · have x1 := hL.row.cell hlt
      have x2 := hL.row.frozen i
      have HN := hide (hL.next hlt)
      clear hL
      generalize layF i i = u at x1
      go_wp2_with fail
      go_round
      case rel => exact ⟨i + 1, by omega, by go_num, HN.out⟩
      case measure => simp [intOf]; omega
    · obtain rfl : i = n := by omega
      have hs := sortstable_any (cp := i) (hL.row.eq (d' := fun j => j) fun j hj => by unfold layF; rw [if_pos hj]) (CA.out wr hL.kp) (by omega)
      have HL := hide hL.kp
      have HS := hide hs
      clear hL hs
      go_wp2_with fail
      refine HS.out.mono ?_
      rintro en w4 ⟨rfl, ⟨d, hd1, hd2⟩, hk4⟩
      have HE : Hid (NearPost w i (fun j => farZ x y (X j) (Y j)) (.returned (.slice (some ⟨g0 + 1 + 1, 0, none⟩) i i)) w4) := hide ⟨_, rfl, by have := HG.out; omega, hd1.eq fun j hj => soF_eq hd2 hj, HK.out.trans ((HL.out.trans' hk4).mono fun q e => .inr (by have := HG.out; have e' : q = g0 + 1 + 1 := e; omega))⟩
      clear hd1 hd2 hk4
      go_wp2_with fail
      go_ret
      exact HE.out
end Go.Proofs.Ythbnomemknnmeaa
