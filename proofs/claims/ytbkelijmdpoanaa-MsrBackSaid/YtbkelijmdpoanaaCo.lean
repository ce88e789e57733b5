/- Package msr's columns and elementsAt, each as a contract over memory. -/
import Derived.Test.YtbkelijmdpoanaaPl
namespace Go.Proofs.Ytbkelijmdpoanaa
open Go.RowKit
set_option linter.unusedVariables false
set_option maxRecDepth 20000

/-- The columns are laid so far. -/
structure CoI (w : World) (g a d : Nat) (bl : Nat → Nat) (T i j : Nat) (wr : World) : Prop where
  ex : ∃ f, GrI wr w.heap.size g a a d bl f ∧ Laid a d T i j fun r c => f c r
  kp : Kp No w wr
theorem CoI.next {w wr : World} {g a d T i j : Nat} {bl : Nat → Nat} (h : CoI w g a d bl T i j wr) (hT : T = 0 ∨ T = a) (hd : T + a ≤ d) (hij : i ≤ j) (hj : j < a) (u : Value) (hu : u = .int .i64 (nxP a T i j : Int)) :
    CoI w g a d bl T i (j + 1) ((wr.setCell ⟨bl j, T + i, none⟩ u).setCell ⟨bl i, T + j, none⟩ u) := by
  obtain ⟨f, h1, h2⟩ := h.ex
  have h3 := h1.set (i := j) (k := T + i) hj (by omega) _ u hu
  refine ⟨⟨_, h3.set (i := i) (k := T + j) (by omega) (by omega) _ u hu, h2.next' hT hij hj⟩, ?_⟩
  exact (h.kp.own (h1.kpset hj _ _)).own (h3.kpset (by omega) _ _)

set_option maxHeartbeats 4000000 in
theorem columns_any {w : World} {c n k a d q : Nat} {x : Nat → UInt8} (h : CodeAt w c n k x) (hD : Dim n k a d q) : Calls Try.prog 24 #[cptr c] w (GriPost w a d fun j r => plcF a r j) := by
  have HDD := hide hD.d_
  have ha1 := hD.a1
  have ha7 := hD.a7
  have hd14 : d ≤ 14 := by have := HDD.out; omega
  have hmk := fun w => make_ints w d (d : Int) rfl (by omega)
  have hmo := make_irows w a (a : Int) rfl (by omega)
  have hnew := GrI.new w a d
  have hk0 : Kp No w (w.alloc (.cells (zr a) 43)) := Kp.alloc No _ _
  obtain ⟨g, hg⟩ : ∃ g, g = w.heap.size := ⟨_, rfl⟩
  go_enter Try.func24, Try.ntmps24
  go_wp2_with fail
  refine (aa_any h hD).mono ?_
  rintro e w' ⟨rfl, rfl⟩
  go_wp2_with fail
  rw [← hg] at hnew ⊢
  have hnew : GrI (w.alloc (.cells (zr a) 43)) w.heap.size g a 0 d (fun _ => 0) (fun _ _ => 0) := by rw [← hg]; exact hnew
  have HG := hide hg
  clear hg hmo
  go_loopw [16] (fun i wr => ∃ (j : Nat) (bl : Nat → Nat), j ≤ a ∧ i = .int .i64 (j : Int) ∧ GrI wr w.heap.size g a j d bl (fun _ _ => 0) ∧ Kp No w wr) (fun i _ => a - (intOf i).toNat)
  case atStart => exact ⟨0, _, Nat.zero_le _, rfl, hnew, hk0⟩
  case round =>
    clear hnew hk0
    obtain ⟨j, bl, hj, rfl, hI, hkw⟩ := hrel
    by_cases hlt : j < a
    · obtain ⟨v0, c0⟩ := (hI.no (Kp.alloc No wr (.cells (zi d) 3))).cell0 hlt
      have f0 := (hI.no (Kp.alloc No wr (.cells (zi d) 3))).frozen0 j
      have HP := hide (hI.put hlt hkw.size)
      have HK : Hid (Kp No w ((wr.alloc (.cells (zi d) 3)).setCell ⟨g, j, none⟩ (.slice (some ⟨wr.heap.size, 0, none⟩) d d))) := (hkw.trans' (Kp.alloc No _ _)).own (Kp.setCell (p := ⟨g, j, none⟩) (S := fun q => w.heap.size ≤ q) hI.bg _)
      go_wp2_with fail
      refine (dd_any (h.no hkw) hD).mono ?_
      rintro e w' ⟨rfl, rfl⟩
      go_wp2_with fail
      go_round
      case rel => exact ⟨j + 1, _, by omega, by go_num, HP.out, HK.out⟩
      case measure => simp [intOf]; omega
    · obtain rfl : j = a := by omega
      clear hmk
      go_wp2_with fail
      go_loopw [6, 7] (fun nx h wr => ∃ (T z : Nat), T ≤ d ∧ Hid (T = 0 ∨ T = j ∨ T = d) ∧ Hid (T < d → z = nxP j T 0 0) ∧ h = .int .i64 (T : Int) ∧ nx = .int .i64 (z : Int) ∧ CoI w g j d bl T 0 0 wr) (fun _ h _ => d - (intOf h).toNat)
      case atStart => exact ⟨0, 0, by omega, (.inl rfl : 0 = 0 ∨ 0 = j ∨ 0 = d), (fun _ => (nx_zero (by omega)).symm : 0 < d → 0 = nxP j 0 0 0), rfl, rfl, ⟨⟨_, hI, Laid.start _ _ _⟩, hkw⟩⟩
      case round =>
        obtain ⟨T, z, hTd, hT, hz, rfl, rfl, hP⟩ := hrel
        have hcd := dd_any (h.no hP.kp) hD
        by_cases hlt2 : T < d
        · obtain rfl := hz.out hlt2
          clear hz
          have hT2 : Hid (T = 0 ∨ T = j) := by
            show T = 0 ∨ T = j
            have := hT.out
            omega
          have hTa : T + j ≤ d := by have := hT2.out; have := HDD.out; omega
          go_wp2_with fail
          refine hcd.mono ?_
          rintro e w' ⟨rfl, rfl⟩
          go_wp2_with fail
          go_loopw [6, 34] (fun nx h wr => ∃ i : Nat, i ≤ j ∧ h = .int .i64 (i : Int) ∧ nx = .int .i64 (nxP j T i i : Int) ∧ CoI w g j d bl T i i wr) (fun _ h _ => j - (intOf h).toNat)
          case atStart => exact ⟨0, Nat.zero_le _, rfl, rfl, hP⟩
          case round =>
            obtain ⟨i, hi, rfl, rfl, hPi⟩ := hrel
            by_cases hlti : i < j
            · go_wp2_with fail
              go_loopw [6, 9] (fun nx h wr => ∃ jj : Nat, i ≤ jj ∧ jj ≤ j ∧ h = .int .i64 (jj : Int) ∧ nx = .int .i64 (nxP j T i jj : Int) ∧ CoI w g j d bl T i jj wr) (fun _ h _ => j - (intOf h).toNat)
              case atStart => exact ⟨i, Nat.le_refl _, by omega, rfl, rfl, hPi⟩
              case round =>
                obtain ⟨jj, hij, hja, rfl, rfl, hPj⟩ := hrel
                by_cases hltj : jj < j
                · obtain ⟨f, hF, _⟩ := hPj.ex
                  have c1 := hF.outer hltj
                  have c2 := hF.cell (j := jj) (k := T + i) hltj (by omega)
                  have f2 := hF.frozen hltj (T + i)
                  have hF2 := hF.set (i := jj) (k := T + i) hltj (by omega) (nxP j T i jj) _ rfl
                  have c3 := hF2.outer hlti
                  have c4 := hF2.cell (j := i) (k := T + jj) hlti (by omega)
                  have f4 := hF2.frozen hlti (T + jj)
                  have hnx := nx_le (T := T) (i := i) (j := jj) (show j < 8 by omega) (by omega) (by omega)
                  have hst := hide (nx_step (a := j) (T := T) hij)
                  have HN := hide (hPj.next hT2.out hTa hij hltj _ rfl)
                  generalize nxP j T i jj = z at *
                  go_wp2_with fail
                  go_round
                  case rel => exact ⟨jj + 1, by omega, by omega, by go_num, by rw [← hst.out]; go_num, HN.out⟩
                  case measure => simp [intOf]; omega
                · obtain rfl : jj = j := by omega
                  have hr := hide (nx_row (T := T) (show jj < 8 by omega) hlti)
                  have HP : Hid (CoI w g jj d bl T (i + 1) (i + 1) wr) := ⟨⟨_, hPj.ex.choose_spec.1, hPj.ex.choose_spec.2.row⟩, hPj.kp⟩
                  go_wp2_with fail
                  go_round
                  case rel => exact ⟨i + 1, by omega, by go_num, by rw [hr.out], HP.out⟩
                  case measure => simp [intOf]; omega
            · obtain rfl : i = j := by omega
              have HP : Hid (CoI w g i d bl (T + i) 0 0 wr) := ⟨⟨_, hPi.ex.choose_spec.1, hPi.ex.choose_spec.2.half⟩, hPi.kp⟩
              have hnx : Hid (T + i < d → nxP i T i i = nxP i (T + i) 0 0) := by
                show T + i < d → nxP i T i i = nxP i (T + i) 0 0
                intro g1
                have := hT2.out
                have := HDD.out
                obtain rfl : T = 0 := by omega
                rw [nx_half (by omega) (by omega), Nat.zero_add]
              have hTn : Hid (T + i = 0 ∨ T + i = i ∨ T + i = d) := by
                show T + i = 0 ∨ T + i = i ∨ T + i = d
                have := hT2.out
                have := HDD.out
                omega
              go_wp2_with fail
              go_round
              case rel => exact ⟨T + i, nxP i T i i, by omega, hTn, hnx, by go_num, rfl, HP.out⟩
              case measure => simp [intOf]; omega
        · obtain rfl : T = d := by omega
          have HF : Hid (∃ f, GrI wr w.heap.size g j j T bl f ∧ ∀ r c, r < T → c < j → f c r = plcF j r c) := by
            obtain ⟨f, h1, h2⟩ := hP.ex
            exact ⟨f, h1, h2.done⟩
          have hkp := hP.kp
          clear hP
          go_wp2_with fail
          refine hcd.mono ?_
          rintro e w' ⟨rfl, rfl⟩
          go_wp2_with fail
          go_ret
          obtain ⟨f, h1, h2⟩ := HF.out
          exact ⟨g, _, bl, rfl, h1.eq fun c r hc hr => h2 r c hr hc, hkp⟩
theorem upS_to {t s : Nat → UInt8} {k : Nat} {x : UInt8} (h : x = t k) (j : Nat) : upd (upS t s k) k x j = upS t s (k + 1) j := by rw [h]; exact upS_step t s k j
set_option maxHeartbeats 1000000 in
theorem elements_any {w : World} {A : Option Addr} {m c B d L at_ : Nat} {bs : List UInt8} {p : Nat → Nat} (hb : Bts w (.slice A m c) bs) (hc : ∀ i, i < d → w.cell? ⟨B, i, none⟩ = some (.int .i64 (p i : Int))) (hd : d ≤ 1000) (hm : m ≤ 1000000) (hL : L ≤ 1000000) (hp : ∀ i, i < d → p i * L + at_ < m) :
    Calls Try.prog 25 #[.slice A m c, .slice (some ⟨B, 0, none⟩) d d, .int .i64 (L : Int), .int .i64 (at_ : Int)] w (OwnPost w (rowL d fun i => lg bs (p i * L + at_))) := by
  have hmk := fun w => make_bytes w d (d : Int) rfl (by omega)
  have hst := row_new w d hd
  have hk0 : Kp No w (w.alloc (.cells (zc d) 5)) := Kp.alloc No _ _
  have HC := hide hc
  have HP := hide hp
  clear hc hp
  obtain ⟨g, hg⟩ : ∃ g, g = w.heap.size := ⟨_, rfl⟩
  go_enter Try.func25, Try.ntmps25
  go_wp2_with fail
  rw [← hg] at hst ⊢
  have HG := hide hg
  clear hg hmk
  go_loopw [17] (fun i wr => ∃ k : Nat, k ≤ d ∧ i = .int .i64 (k : Int) ∧ RowAt wr g g d d (upS (fun i => lg bs (p i * L + at_)) (fun _ => 0) k) ∧ Kp No w wr) (fun i _ => d - (intOf i).toNat)
  case atStart => exact ⟨0, Nat.zero_le _, rfl, hst.eq fun k _ => by simp [upS], hk0⟩
  case round =>
    obtain ⟨k, hk, rfl, hR, hkw⟩ := hrel
    by_cases hlt : k < d
    · have c1 := hkw.cell (HC.out k hlt) fun f => f
      obtain ⟨y, hy⟩ : ∃ y, y = p k * L := ⟨_, rfl⟩
      have hyl : y + at_ < m := by rw [hy]; exact HP.out k hlt
      have hyi : (p k : Int) * (L : Int) = (y : Int) := by rw [hy, Int.natCast_mul]
      obtain ⟨B1, o1, u, rfl, hu, c2⟩ := (hb.no hkw).at_ hyl
      have hf := hR.frozen k
      have hz := hR.cell hlt
      have HR := hide ((hR.set hlt u _ rfl).eq fun j _ => upS_to (t := fun i => lg bs (p i * L + at_)) (by show u = lg bs (p k * L + at_); rw [← hy]; exact (lg_of hu).symm) j)
      clear hu
      have HY := hide hy
      clear hy
      go_wp2_with fail
      go_round
      case rel => exact ⟨k + 1, by omega, by go_num, HR.out, hkw.trans ((RowAt.kpset _ _ _ _).mono fun q hq => .inr (by rw [hq, HG.out]; exact Nat.le_refl _))⟩
      case measure => simp [intOf]; omega
    · obtain rfl : k = d := by omega
      go_wp2_with fail
      go_ret
      refine ⟨_, _, _, rfl, ?_, hkw⟩
      rw [← HG.out]
      exact hR.eq fun j hj => by unfold upS; rw [if_pos hj]
end Go.Proofs.Ytbkelijmdpoanaa
