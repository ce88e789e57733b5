/- Package solve's reduce, as a contract over memory. -/
import Derived.Test.YtbkelijmdpoanaaSq
import Derived.BigRegion
namespace Go.Proofs.Ytbkelijmdpoanaa
open Go.RowKit
set_option linter.unusedVariables false
set_option maxRecDepth 20000

/-- The rows are brought to steps in so many columns. -/
def RedPost (w : World) (base g n L : Nat) (f : Nat → Nat → UInt8) (k : Nat) (e : Ending) (w1 : World) : Prop :=
  e = .returned (.tuple #[.int .i64 ((redS n f k).rk : Int), .int .u8 ((redS n f k).pr.toNat : Int)]) ∧ ∃ hv, Grd w1 base g n hv (fun j => rowL L ((redS n f k).f j)) ∧ InjV n hv ∧ Kp (fun q => base ≤ q) w w1
/-- So many columns are done. -/
structure RdI (w : World) (base g n L : Nat) (s : RS) (wr : World) : Prop where
  ex : ∃ hv, Grd wr base g n hv (fun j => rowL L (s.f j)) ∧ InjV n hv
  kp : Kp (fun q => base ≤ q) w wr
theorem ldI_no {n i : Nat} (h : i = n) : ldI n i = -1 := by unfold ldI; rw [if_neg (by omega)]
theorem ldI_yes {n i : Nat} (h : i < n) : ldI n i = (i : Int) := by unfold ldI; rw [if_pos h]

/-- Rows a and i are swapped. -/
def swp2 (f : Nat → Nat → UInt8) (a i o : Nat) : Nat → UInt8 := if o = a then f i else swpF f a i o
theorem swp2_at (f : Nat → Nat → UInt8) (a i : Nat) : swp2 f a i a = f i := if_pos rfl
theorem swp2_row (f : Nat → Nat → UInt8) (a i L j : Nat) : upd (upd (fun j => rowL L (f j)) a (rowL L (f i))) i (rowL L (f a)) j = rowL L (swp2 f a i j) := by
  unfold upd swp2 swpF
  by_cases e1 : j = i
  · rw [if_pos e1]
    by_cases e2 : j = a
    · rw [if_pos e2, ← e1, ← e2]
    · rw [if_neg e2, if_pos e1]
  · rw [if_neg e1]
    by_cases e2 : j = a
    · rw [if_pos e2, if_pos e2]
    · rw [if_neg e2, if_neg e2, if_neg e1]
theorem clc_elim (f : Nat → Nat → UInt8) {a i k n o : Nat} (ho : o < n) (j : Nat) : clcF (upd (swp2 f a i) a (pivF f i k)) a k n o j = elimF f a i k o j := by
  unfold clcF elimF
  by_cases e : o = a
  · rw [if_neg (by omega), if_pos e, e, upd_at]
  · rw [if_pos ⟨ho, e⟩, if_neg e, upd_at, upd_ne _ _ e]
    unfold swp2
    rw [if_neg e, um_comm]

set_option maxHeartbeats 2000000 in
theorem reduce_any {w : World} {base g n L : Nat} {hv : Nat → Value} {f : Nat → Nat → UInt8} {cp : Nat} (h : Grd w base g n hv fun j => rowL L (f j)) (hI : InjV n hv) (hL : L ≤ 1000) (hn : n ≤ 1000) (cols : Nat) (hc : cols ≤ L) :
    Calls Try.prog 64 #[.slice (some ⟨g, 0, none⟩) n cp, .int .i64 (cols : Int)] w (RedPost w base g n L f cols) := by
  have hS : RdI w base g n L (redS n f 0) w := ⟨⟨hv, h, hI⟩, Kp.refl _ _⟩
  clear h hI
  go_enter Try.func64, Try.ntmps64
  go_wp2_with fail
  go_loopw [4, 5, 10] (fun ra pr i wr => ∃ k : Nat, k ≤ cols ∧ ra = .int .i64 ((redS n f k).rk : Int) ∧ pr = .int .u8 ((redS n f k).pr.toNat : Int) ∧ i = .int .i64 (k : Int) ∧ RdI w base g n L (redS n f k) wr) (fun _ _ i _ => cols - (intOf i).toNat)
  case atStart => exact ⟨0, Nat.zero_le _, rfl, rfl, rfl, hS⟩
  case round =>
    obtain ⟨k, hk, rfl, rfl, rfl, hR⟩ := hrel
    by_cases hlt : k < cols
    · obtain ⟨hv', hG, hI⟩ := hR.ex
      have hkL : k < L := by omega
      have hle := redS_le n f k
      have hrn := hle.1
      have hstep : Hid (redS n f (k + 1) = stepS n k (redS n f k)) := (rfl : redS n f (k + 1) = stepS n k (redS n f k))
      obtain ⟨s, hs⟩ : ∃ s, s = redS n f k := ⟨_, rfl⟩
      rw [← hs] at hR hG hle hrn hstep
      have hll := leader_any (cp := cp) hG hL hn s.rk k hrn hkL
      rw [← hs]
      clear hs
      rcases lead_spec s.f k hrn with ⟨e1, _⟩ | ⟨g1, g2, g3, _⟩
      · rw [ldI_no e1] at hll
        have hsame : Hid (redS n f (k + 1) = s) := by show redS n f (k + 1) = s; rw [hstep.out, stepS_none e1]
        clear e1 hstep
        go_wp2_with fail
        refine hll.mono ?_
        rintro e w1 ⟨rfl, hs1⟩
        go_wp2_with fail
        go_round
        case rel => exact ⟨k + 1, by omega, by rw [hsame.out], by rw [hsame.out], by go_num, by rw [hsame.out]; exact ⟨⟨hv', hG.no hs1.kp, hI⟩, hR.kp.trans' hs1.kp⟩⟩
        case measure => simp [intOf]; omega
      · rw [ldI_yes g2] at hll
        obtain ⟨i, hi⟩ : ∃ i, i = lead s.f k s.rk n := ⟨_, rfl⟩
        have hnext : Hid (redS n f (k + 1) = ⟨s.rk + 1, um s.pr (s.f i k), elimF s.f s.rk i k⟩) := by
          show redS n f (k + 1) = _
          rw [hstep.out]
          exact stepS_at hi.symm (by omega)
        rw [← hi] at hll g1 g2 g3
        clear hi hstep
        have hrk : s.rk < n := by omega
        go_wp2_with fail
        refine hll.mono ?_
        rintro e w1 ⟨rfl, hs1⟩
        have hG1 := hG.no hs1.kp
        obtain ⟨b, c, e1, eb, hRi, _, _⟩ := hG1.at_ (by omega) g2
        obtain ⟨b', c', e1', eb', hRr, _, _⟩ := hG1.at_ (by omega) hrk
        have x1 := hG1.out.cell g2
        have x1' := hG1.out.cell hrk
        have xf := hG1.out.frozen i
        have xf' := hG1.out.frozen s.rk
        have x3 := (hG1.out.set hrk (hv' i)).cell g2
        rw [show upd hv' s.rk (hv' i) i = hv' i by unfold upd; split <;> rfl] at x3
        have hG2 := hG1.swap hrk g2
        have hI2 := hI.swap hrk g2
        rw [e1, e1'] at hG2
        rw [e1] at x1 x3
        rw [e1'] at x1'
        have HI2 := hide hI2
        clear hI2
        have E1 := hide e1
        have E1' := hide e1'
        have EB := hide eb
        have EB' := hide eb'
        have HG := hide g3
        clear e1 e1' eb eb' g3
        go_wp2_with fail
        go_region
        generalize hgen : ((w1.setCell ⟨g, s.rk, none⟩ (.slice (some ⟨b, 0, none⟩) L c)).setCell ⟨g, i, none⟩ (.slice (some ⟨b', 0, none⟩) L c')) = w2 at *
        have hk2 : Kp (fun q => base ≤ q) w1 w2 := by rw [← hgen]; exact (hG1.kpput _ _).trans' (Kp.setCell (p := ⟨g, i, none⟩) (S := fun q => base ≤ q) hG1.bas _)
        clear hgen
        generalize hg3 : w2.drew = w3
        have hs3 : Sm w2 w3 := ⟨1, hg3.symm⟩
        clear hg3
        have hk3 : Kp (fun q => base ≤ q) w w3 := ((hR.kp.trans' hs1.kp).trans' hk2).trans' hs3.kp
        rw [← E1.out, ← E1'.out] at hG2
        have hG3 := (hG2.no hs3.kp).eq fun j _ => swp2_row s.f s.rk i L j
        have er : upd (upd hv' s.rk (hv' i)) i (hv' s.rk) s.rk = .slice (some ⟨b, 0, none⟩) L c := by
          rw [← E1.out]
          unfold upd
          by_cases e : s.rk = i
          · rw [if_pos e, e]
          · rw [if_neg e, if_pos rfl]
        have y1 := hG3.out.cell hrk
        rw [er] at y1
        have hRow : RowAt w3 base b L c (s.f i) := by
          have := hG3.row s.rk hrk
          rw [er, swp2_at] at this
          exact this
        have y2 := hRow.cell hkL
        have HV : Hid (∃ hv2, Grd w3 base g n hv2 (fun j => rowL L (swp2 s.f s.rk i j)) ∧ hv2 s.rk = .slice (some ⟨b, 0, none⟩) L c ∧ InjV n hv2) := ⟨_, hG3, er, HI2.out⟩
        clear er hG2 hG3 x1 x1' x3 xf xf'
        go_wp2_with fail
        refine (mulU_any s.pr (s.f i k) _).mono ?_
        rintro e w4 ⟨rfl, rfl⟩
        go_wp2_with fail
        refine (divide_any hRow hL (s.f i k) HG.out).mono ?_
        rintro e w4 ⟨rfl, hRow4, hk4⟩
        obtain ⟨hv2, hG3, er, hI3⟩ := HV.out
        have hb3 : (hv2 s.rk).ownBlock = some b := by rw [er]; rfl
        have hO4 : Own w4 base 5 (hv2 s.rk) (rowL L fun j => um (s.f i j) (ui (s.f i k))) := by rw [er]; exact hRow4
        have hG4 := (hG3.wrote hI3 hrk hb3 hO4 hk4).eq (bs' := fun j => rowL L (upd (swp2 s.f s.rk i) s.rk (pivF s.f i k) j)) fun j _ => by
          unfold upd
          split <;> rfl
        have hbb : base ≤ b := (hG3.row s.rk hrk).ge b hb3
        have hk5 : Kp (fun q => base ≤ q) w w4 := hk3.trans' (hk4.mono fun p hp => by rw [hp]; exact hbb)
        clear hG3 er hb3 hO4 y1 y2
        have HI3 := hide hI3
        clear hI3
        go_wp2_with fail
        refine (clear_any hG4 HI3.out hL hn s.rk k hrk hkL).mono ?_
        rintro e w5 ⟨rfl, hG5, hk6⟩
        go_wp2_with fail
        go_round
        case rel =>
          refine ⟨k + 1, by omega, by rw [hnext.out]; go_num, by rw [hnext.out], by go_num, ?_⟩
          rw [hnext.out]
          exact ⟨⟨hv2, hG5.eq fun j hj => rowL_congr fun q _ => clc_elim s.f hj q, HI3.out⟩, hk5.trans' hk6⟩
        case measure => simp [intOf]; omega
    · obtain rfl : k = cols := by omega
      obtain ⟨hv', hG, hI⟩ := hR.ex
      go_wp2_with fail
      go_ret2
      exact ⟨rfl, hv', hG, hI, hR.kp⟩
end Go.Proofs.Ytbkelijmdpoanaa
