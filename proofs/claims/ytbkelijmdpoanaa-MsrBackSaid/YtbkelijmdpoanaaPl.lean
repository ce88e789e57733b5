/- The document's Places, and package msr's columns, each as a contract over memory. -/
import Derived.Test.YtbkelijmdpoanaaCd
import Derived.Test.YtbkelijmdpoanaaOt
namespace Go.Proofs.Ytbkelijmdpoanaa
open Go.RowKit
set_option linter.unusedVariables false
set_option maxRecDepth 20000

theorem fresh_c1 (w : World) (o : Obj) (u : Value) (t : TypeId) : ((w.alloc o).alloc (.cells #[u] t)).cell? ⟨w.heap.size + 1, 0, none⟩ = some u := by simp
/-- The part that comes next, at row i, column j of the half that begins at row T. -/
def nxP (a T i j : Nat) : Nat := (if T = 0 then 0 else a * (a + 1) / 2) + offP a i j
theorem nx_small : ∀ a, a < 8 → (∀ i, i < a + 1 → ∀ j, j < a + 1 → offP a i j ≤ 100) ∧ (∀ i, i < a → offP a i a = offP a (i + 1) (i + 1)) ∧ offP a a a = a * (a + 1) / 2 ∧ offP a 0 0 = 0 ∧ a * (a + 1) / 2 ≤ 100 := by decide +kernel
theorem nx_le {a T i j : Nat} (ha : a < 8) (hi : i ≤ a) (hj : j ≤ a) : nxP a T i j ≤ 200 := by
  obtain ⟨h1, _, _, _, h5⟩ := nx_small a ha
  have := h1 i (by omega) j (by omega)
  unfold nxP
  split <;> omega
theorem nx_step {a T i j : Nat} (h : i ≤ j) : nxP a T i j + 1 = nxP a T i (j + 1) := by
  unfold nxP offP
  omega
theorem nx_row {a T i : Nat} (ha : a < 8) (hi : i < a) : nxP a T i a = nxP a T (i + 1) (i + 1) := by
  obtain ⟨_, h2, _⟩ := nx_small a ha
  unfold nxP
  rw [h2 i hi]
theorem nx_half {a : Nat} (ha : a < 8) (h0 : 0 < a) : nxP a 0 a a = nxP a a 0 0 := by
  obtain ⟨_, _, h3, h4, _⟩ := nx_small a ha
  unfold nxP
  rw [if_pos rfl, if_neg (by omega), h3, h4]
  omega
theorem nx_zero {a : Nat} (ha : a < 8) : nxP a 0 0 0 = 0 := by
  obtain ⟨_, _, _, h4, _⟩ := nx_small a ha
  unfold nxP
  rw [if_pos rfl, h4]
theorem plc_nx1 {a T i j : Nat} (hT : T = 0 ∨ T = a) (h0 : 0 < a) (hij : i ≤ j) (hj : j < a) : plcF a (T + i) j = nxP a T i j := by
  unfold plcF nxP
  rcases hT with rfl | rfl
  · rw [if_pos (by omega), if_pos rfl, Nat.zero_add, Nat.min_eq_left hij, Nat.max_eq_right hij, Nat.zero_add]
  · rw [if_neg (by omega), if_neg (by omega), show T + i - T = i by omega, Nat.min_eq_left hij, Nat.max_eq_right hij]
theorem plc_nx2 {a T i j : Nat} (hT : T = 0 ∨ T = a) (h0 : 0 < a) (hij : i ≤ j) (hj : j < a) : plcF a (T + j) i = nxP a T i j := by
  unfold plcF nxP
  rcases hT with rfl | rfl
  · rw [if_pos (by omega), if_pos rfl, Nat.zero_add, Nat.min_eq_right hij, Nat.max_eq_left hij, Nat.zero_add]
  · rw [if_neg (by omega), if_neg (by omega), show T + j - T = j by omega, Nat.min_eq_right hij, Nat.max_eq_left hij]
/-- What was laid ahead of row i, column j of the half that begins at row T. -/
def Dn (a T i j r c : Nat) : Prop := r < T ∨ (T ≤ r ∧ r < T + a ∧ (r - T < i ∨ c < i ∨ (r - T = i ∧ c < j) ∨ (c = i ∧ r - T < j)))
/-- All that was laid is as it must be. -/
def Laid (a d T i j : Nat) (f : Nat → Nat → Nat) : Prop := ∀ r c, r < d → c < a → Dn a T i j r c → f r c = plcF a r c
theorem Laid.start (a d : Nat) (f : Nat → Nat → Nat) : Laid a d 0 0 0 f := fun r c _ _ h => by unfold Dn at h; omega
theorem Laid.row {a d T i : Nat} {f : Nat → Nat → Nat} (h : Laid a d T i a f) : Laid a d T (i + 1) (i + 1) f := fun r c hr hc hd => h r c hr hc (by unfold Dn at hd ⊢; omega)
theorem Laid.half {a d T : Nat} {f : Nat → Nat → Nat} (h : Laid a d T a a f) : Laid a d (T + a) 0 0 f := fun r c hr hc hd => h r c hr hc (by unfold Dn at hd ⊢; omega)
theorem Laid.done {a d : Nat} {f : Nat → Nat → Nat} (h : Laid a d d 0 0 f) : ∀ r c, r < d → c < a → f r c = plcF a r c := fun r c hr hc => h r c hr hc (by unfold Dn; omega)
theorem Laid.next {a d T i j : Nat} {f : Nat → Nat → Nat} (h : Laid a d T i j f) (hT : T = 0 ∨ T = a) (hij : i ≤ j) (hj : j < a) : Laid a d T i (j + 1) (set2 (set2 f (T + i) j (nxP a T i j)) (T + j) i (nxP a T i j)) := by
  intro r c hr hc hd
  unfold set2
  by_cases e1 : r = T + j ∧ c = i
  · obtain ⟨rfl, rfl⟩ := e1
    rw [if_pos ⟨rfl, rfl⟩, plc_nx2 hT (by omega) hij hj]
  · rw [if_neg e1]
    by_cases e2 : r = T + i ∧ c = j
    · obtain ⟨rfl, rfl⟩ := e2
      rw [if_pos ⟨rfl, rfl⟩, plc_nx1 hT (by omega) hij hj]
    · rw [if_neg e2]
      exact h r c hr hc (by unfold Dn at hd ⊢; omega)
theorem set2_turn (f : Nat → Nat → Nat) (i k z a b : Nat) : set2 f i k z a b = set2 (fun r c => f c r) k i z b a := by
  unfold set2
  by_cases h : a = i ∧ b = k
  · rw [if_pos h, if_pos ⟨h.2, h.1⟩]
  · rw [if_neg h, if_neg fun e => h ⟨e.2, e.1⟩]
theorem Laid.next' {a d T i j : Nat} {f : Nat → Nat → Nat} (h : Laid a d T i j fun r c => f c r) (hT : T = 0 ∨ T = a) (hij : i ≤ j) (hj : j < a) : Laid a d T i (j + 1) fun r c => set2 (set2 f j (T + i) (nxP a T i j)) i (T + j) (nxP a T i j) c r := by
  intro r c hr hc hd
  have := h.next hT hij hj r c hr hc hd
  rw [← this]
  show set2 (set2 f j (T + i) (nxP a T i j)) i (T + j) (nxP a T i j) c r = _
  rw [set2_turn, show (fun r c => set2 f j (T + i) (nxP a T i j) c r) = set2 (fun r c => f c r) (T + i) j (nxP a T i j) from funext fun r => funext fun c => set2_turn _ _ _ _ _ _]

/-- The rows are laid so far. -/
structure PlI (w : World) (g a d : Nat) (bl : Nat → Nat) (T i j : Nat) (wr : World) : Prop where
  ex : ∃ f, GrI wr w.heap.size g d d a bl f ∧ Laid a d T i j f
  kp : Kp No w wr
theorem PlI.next {w wr : World} {g a d T i j : Nat} {bl : Nat → Nat} (h : PlI w g a d bl T i j wr) (hT : T = 0 ∨ T = a) (hd : T + a ≤ d) (hij : i ≤ j) (hj : j < a) (u : Value) (hu : u = .int .i64 (nxP a T i j : Int)) :
    PlI w g a d bl T i (j + 1) ((wr.setCell ⟨bl (T + i), j, none⟩ u).setCell ⟨bl (T + j), i, none⟩ u) := by
  obtain ⟨f, h1, h2⟩ := h.ex
  have h3 := h1.set (i := T + i) (k := j) (by omega) hj _ u hu
  refine ⟨⟨_, h3.set (i := T + j) (k := i) (by omega) (by omega) _ u hu, h2.next hT hij hj⟩, ?_⟩
  exact (h.kp.own (h1.kpset (by omega) _ _)).own (h3.kpset (by omega) _ _)

set_option maxHeartbeats 4000000 in
theorem places_any (w : World) {n k a d q : Nat} (hD : Dim n k a d q) : Calls Try.prog 36 #[.int .i64 (k : Int)] w (GriPost w d a (plcF a)) := by
  have hk := hD.k_
  have hd := hD.d_
  have ha1 := hD.a1
  have ha7 := hD.a7
  have hka : (k : Int) - 1 = (a : Int) := by omega
  have h2a : 2 * (a : Int) = (d : Int) := by omega
  have hd14 : d ≤ 14 := by omega
  have hk8 : k ≤ 8 := by omega
  have hmk := fun w => make_ints w a (a : Int) rfl (by omega)
  have H2 := hide h2a
  have HDD := hide hd
  clear hk hd hD h2a
  go_enter Try.func36, Try.ntmps36
  go_wp2_with fail
  clear hka
  go_loopw [4, 5] (fun v i wr => ∃ (j : Nat) (A : Option Addr) (m cp : Nat) (bl : Nat → Nat), j ≤ d ∧ i = .int .i64 (j : Int) ∧ v = .slice A m cp ∧ GrT wr w.heap.size (.slice A m cp) bl j a ∧ Kp No w wr) (fun _ i _ => d - (intOf i).toNat)
  case atStart => exact ⟨0, none, 0, 0, fun _ => 0, Nat.zero_le _, rfl, rfl, GrT.nil _ _ _ _, Kp.refl _ _⟩
  case round =>
    obtain ⟨j, A, m, cp, bl, hj, rfl, rfl, hG, hkw⟩ := hrel
    have h2a := H2.out
    by_cases hlt : j < d
    · have hsz := hkw.size
      have ho2 := (hG.own.no (Kp.alloc No wr (.cells (zi a) 3))).no (Kp.alloc No _ (.cells #[.slice (some ⟨wr.heap.size, 0, none⟩) a a] 43))
      go_wp2_with (first
        | (at_builtin
           refine wpList_appT ty_ints rfl (.tmp 18) (.tmp 21) _ rfl Try.underlying52 rfl ho2 _ _ rfl (nws_one (fresh_c1 _ _ _ _) rfl) (by omega) ?hs ?_
           case hs => simp; omega
           intro A3 n3 c3 w3 hn3 ha
           have HN3 := hide hn3
           clear hn3))
      go_round
      case rel => exact ⟨j + 1, A3, n3, c3, _, by omega, by go_num, rfl, hG.step hsz ha, ha.keeps ho2 ((hkw.trans' (Kp.alloc No _ _)).trans' (Kp.alloc No _ _))⟩
      case measure => simp [intOf]; omega
    · obtain rfl : j = d := by omega
      obtain ⟨g, rfl, hm, hGI⟩ := hG.gri (by omega)
      subst hm
      go_wp2_with fail
      clear h2a
      go_loopw [6, 7] (fun nx h wr => ∃ (T t z : Nat), t ≤ 2 ∧ Hid (T = t * a) ∧ Hid (t < 2 → z = nxP a T 0 0) ∧ h = .int .i64 (t : Int) ∧ nx = .int .i64 (z : Int) ∧ PlI w g a m bl T 0 0 wr) (fun _ h _ => 2 - (intOf h).toNat)
      case atStart => exact ⟨0, 0, 0, by omega, (by simp : 0 = 0 * a), (fun _ => (nx_zero (by omega)).symm : 0 < 2 → 0 = nxP a 0 0 0), rfl, rfl, ⟨⟨_, hGI, Laid.start _ _ _⟩, hkw⟩⟩
      case round =>
        obtain ⟨T, t, z, ht, hT, hz, rfl, rfl, hP⟩ := hrel
        by_cases hlt2 : t < 2
        · obtain rfl := hz.out hlt2
          clear hz
          have hT2 : Hid (T = 0 ∨ T = a) := by
            show T = 0 ∨ T = a
            have := hT.out
            rcases Nat.lt_or_ge t 1 with g1 | g1
            · obtain rfl : t = 0 := by omega
              left; omega
            · obtain rfl : t = 1 := by omega
              right; omega
          have hTa : T + a ≤ m := by have := hT2.out; have := HDD.out; omega
          have hta : (t : Int) * (a : Int) = (T : Int) := by have := hT.out; rw [this, Int.natCast_mul]
          have HTA := hide hta
          clear hta
          go_wp2_with fail
          go_loopw [6, 8] (fun nx h wr => ∃ i : Nat, i ≤ a ∧ h = .int .i64 (i : Int) ∧ nx = .int .i64 (nxP a T i i : Int) ∧ PlI w g a m bl T i i wr) (fun _ h _ => a - (intOf h).toNat)
          case atStart => exact ⟨0, Nat.zero_le _, rfl, rfl, hP⟩
          case round =>
            obtain ⟨i, hi, rfl, rfl, hPi⟩ := hrel
            by_cases hlti : i < a
            · go_wp2_with fail
              go_loopw [6, 9] (fun nx h wr => ∃ jj : Nat, i ≤ jj ∧ jj ≤ a ∧ h = .int .i64 (jj : Int) ∧ nx = .int .i64 (nxP a T i jj : Int) ∧ PlI w g a m bl T i jj wr) (fun _ h _ => a - (intOf h).toNat)
              case atStart => exact ⟨i, Nat.le_refl _, by omega, rfl, rfl, hPi⟩
              case round =>
                obtain ⟨jj, hij, hja, rfl, rfl, hPj⟩ := hrel
                by_cases hltj : jj < a
                · obtain ⟨f, hF, _⟩ := hPj.ex
                  have c1 := hF.outer (j := T + i) (by omega)
                  have c2 := hF.cell (j := T + i) (k := jj) (by omega) hltj
                  have f2 := hF.frozen (j := T + i) (by omega) jj
                  have hF2 := hF.set (i := T + i) (k := jj) (by omega) hltj (nxP a T i jj) _ rfl
                  have c3 := hF2.outer (j := T + jj) (by omega)
                  have c4 := hF2.cell (j := T + jj) (k := i) (by omega) (by omega)
                  have f4 := hF2.frozen (j := T + jj) (by omega) i
                  have hnx := nx_le (T := T) (i := i) (j := jj) (show a < 8 by omega) (by omega) (by omega)
                  have hst := hide (nx_step (a := a) (T := T) hij)
                  have HN := hide (hPj.next hT2.out hTa hij hltj _ rfl)
                  have hta := HTA.out
                  generalize nxP a T i jj = z at *
                  go_wp2_with fail
                  go_round
                  case rel => exact ⟨jj + 1, by omega, by omega, by go_num, by rw [← hst.out]; go_num, HN.out⟩
                  case measure => simp [intOf]; omega
                · obtain rfl : jj = a := by omega
                  have hr := hide (nx_row (T := T) (show jj < 8 by omega) hlti)
                  have HP : Hid (PlI w g jj m bl T (i + 1) (i + 1) wr) := ⟨⟨_, hPj.ex.choose_spec.1, hPj.ex.choose_spec.2.row⟩, hPj.kp⟩
                  go_wp2_with fail
                  go_round
                  case rel => exact ⟨i + 1, by omega, by go_num, by rw [hr.out], HP.out⟩
                  case measure => simp [intOf]; omega
            · obtain rfl : i = a := by omega
              have HP : Hid (PlI w g i m bl (T + i) 0 0 wr) := ⟨⟨_, hPi.ex.choose_spec.1, hPi.ex.choose_spec.2.half⟩, hPi.kp⟩
              have hnx : Hid (t + 1 < 2 → nxP i T i i = nxP i (T + i) 0 0) := by
                show t + 1 < 2 → nxP i T i i = nxP i (T + i) 0 0
                intro g1
                obtain rfl : t = 0 := by omega
                have := hT.out
                obtain rfl : T = 0 := by omega
                rw [nx_half (by omega) (by omega), Nat.zero_add]
              go_wp2_with fail
              go_round
              case rel => exact ⟨T + i, t + 1, nxP i T i i, by omega, (by have := hT.out; rw [Nat.add_mul, Nat.one_mul]; omega : T + i = (t + 1) * i), hnx, by go_num, rfl, HP.out⟩
              case measure => simp [intOf]; omega
        · obtain rfl : t = 2 := by omega
          have hTd : T = m := by have := hT.out; have := HDD.out; omega
          have HF : Hid (∃ f, GrI wr w.heap.size g m m a bl f ∧ ∀ r c, r < m → c < a → f r c = plcF a r c) := by
            obtain ⟨f, h1, h2⟩ := hP.ex
            rw [hTd] at h2
            exact ⟨f, h1, h2.done⟩
          have hkp := hP.kp
          clear hP hTd
          go_wp2_with fail
          go_ret
          obtain ⟨f, h1, h2⟩ := HF.out
          exact ⟨g, cp, bl, rfl, h1.eq h2, hkp⟩
end Go.Proofs.Ytbkelijmdpoanaa
