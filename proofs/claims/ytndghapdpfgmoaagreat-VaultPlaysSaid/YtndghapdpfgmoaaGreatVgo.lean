/- What VaultPlays knows between two acts; Layer 12's guard: few and short acts. -/
import Derived.Test.YtndghapdpfgmoaaGreatVqe
import Derived.Test.YtndghapdpfgmoaaGreatVph
import Derived.Test.YtndghapdpfgmoaaGreatVgj
namespace Go.Proofs.YtndghapdpfgmoaaGreat
open Go.RowKit
set_option linter.unusedVariables false
set_option linter.unusedSimpArgs false
set_option maxRecDepth 20000

def Gs (G : Nat → Prop) (s k : Nat) : Prop := G k ∨ k = s
/-- The program's vault V (all its own in G), the document's in the box s. -/
structure VpS (W : World) (gd g b s : Nat) (V : Vt) (vc vl vk : Value) (cs : List (Value × List UInt8)) (ls : List (Nat × (Value × List UInt8))) (G : Nat → Prop) (wr : World) : Prop where
  vt : VtR wr G g gd b V
  rv : RvR wr (Gs G s) V vc vl vk cs ls
  far : ∀ k, G k → W.heap.size ≤ k ∧ k < wr.heap.size ∧ k ≠ s
  bx : Bx5 wr s (.int .i64 (V.D.size : Int)) vc vl (.int .i64 (V.D.syncs : Int)) vk
  kp : Kp No W wr
  sW : W.heap.size ≤ s
section
variable {W wr w1 : World} {gd g b s g1 b1 : Nat} {V V1 : Vt} {vc vl vk vc1 vl1 vk1 : Value} {cs cs1 : List (Value × List UInt8)} {ls ls1 : List (Nat × (Value × List UInt8))} {G G1 : Nat → Prop}
theorem VpS.no (h : VpS W gd g b s V vc vl vk cs ls G wr) (hk : Kp No wr w1) : VpS W gd g b s V vc vl vk cs ls G w1 :=
  ⟨h.vt.no hk, h.rv.no hk, fun k f => ⟨(h.far k f).1, Nat.lt_of_lt_of_le (h.far k f).2.1 hk.size, (h.far k f).2.2⟩, h.bx.no hk, h.kp.trans' hk, h.sW⟩
theorem VpS.mid (h : VpS W gd g b s V vc vl vk cs ls G wr) (hk : Kp G wr w1) : Kp No W w1 := h.kp.trans (hk.mono fun k f => .inr (h.far k f).1)
theorem VpS.box (h : VpS W gd g b s V vc vl vk cs ls G wr) (hk : Kp G wr w1) : Bx5 w1 s (.int .i64 (V.D.size : Int)) vc vl (.int .i64 (V.D.syncs : Int)) vk := h.bx.keep hk fun f => (h.far s f).2.2 rfl
/-- An act is done to both, and the document's is written to its box. -/
theorem VpS.does (h : VpS W gd g b s V vc vl vk cs ls G wr) (hv : VtR w1 G1 g1 gd b1 V1) (hr : RvR w1 (Gs G1 s) V1 vc1 vl1 vk1 cs1 ls1) (hG : ∀ k, G1 k → (G k ∨ wr.heap.size ≤ k) ∧ k < w1.heap.size ∧ ¬ k = s) (hk : Kp G wr w1) :
    VpS W gd g1 b1 s V1 vc1 vl1 vk1 cs1 ls1 G1 (((((w1.setCell ⟨s, 0, none⟩ (.int .i64 (V1.D.size : Int))).setCell ⟨s, 1, none⟩ vc1).setCell ⟨s, 2, none⟩ vl1).setCell ⟨s, 3, none⟩ (.int .i64 (V1.D.syncs : Int))).setCell ⟨s, 4, none⟩ vk1) := by
  have K := kp5 (S := fun q => q = s) w1 s (.int .i64 (V1.D.size : Int)) vc1 vl1 (.int .i64 (V1.D.syncs : Int)) vk1 rfl
  have hS : ∀ k, ¬ Gs G1 s k → ¬ k = s := fun k hn e => hn (.inr e)
  refine ⟨hv.keep K fun k _ f e => (hG k f).2.2 e, ⟨hr.rf.keep K fun k _ hn => hS k hn, ⟨hr.kn.own.keep K fun k e => hS k (hr.kn.far k e), hr.kn.far⟩, hr.ok⟩, fun k f => ⟨?_, Nat.lt_of_lt_of_le (hG k f).2.1 K.size, (hG k f).2.2⟩, (h.box hk).all _ _ _ _ _, (h.mid hk).trans (K.mono fun k e => .inr (by subst e; exact h.sW)), h.sW⟩
  rcases (hG k f).1 with g | g
  · exact (h.far k g).1
  · exact Nat.le_trans h.kp.size g
/-- An act's bytes lie outside. -/
theorem VpS.bt (h : VpS W gd g b s V vc vl vk cs ls G wr) {A : Option Addr} {m c : Nat} {bs : List UInt8} (hb : Bts W (.slice A m c) bs) (hr : m ≤ c) : BtF wr (fun k => G k ∨ k = s) (.slice A m c) bs := by
  have h1 : BtF W (fun _ => False) (.slice A m c) bs := BtF.mk_ hb (fun _ _ _ f => f) fun A' n' c' e => by
    injection e with e1 e2 e3
    omega
  refine BtF.mk_ (hb.no h.kp) (fun hne k hk f => ?_) fun A' n' c' e => by
    injection e with e1 e2 e3
    omega
  have hl := (h1.far hne k hk).2
  rcases f with f | rfl
  · have := (h.far k f).1
    omega
  · have := h.sW
    omega
/-- The begin. -/
theorem VpS.begin (hv : VtR wr G g gd b V) (hr : RvR wr G V vc vl vk cs ls) (hG : ∀ k, G k → W.heap.size ≤ k) (hk : Kp No W wr) :
    VpS W gd g b wr.heap.size V vc vl vk cs ls G (wr.alloc (.cells #[.int .i64 (V.D.size : Int), vc, vl, .int .i64 (V.D.syncs : Int), vk] 38)) := by
  have K := Kp.alloc No wr (.cells #[.int .i64 (V.D.size : Int), vc, vl, .int .i64 (V.D.syncs : Int), vk] 38)
  have hb := Bx5.new wr (.int .i64 (V.D.size : Int)) vc vl (.int .i64 (V.D.syncs : Int)) vk
  exact ⟨hv.no K, hr.plus K (Nat.le_refl _) hb.lt, fun k f => ⟨hG k f, by have := hr.rf.bd k f; have := hb.lt; omega, by have := hr.rf.bd k f; omega⟩, hb, hk.trans' K, hk.size⟩
end
def VpE (W : World) (gd g b s n : Nat) (wr : World) : Prop :=
  ∃ V gc cc A cl A2 ck cs ls G, VpS W gd g b s V (.slice (some ⟨gc, 0, none⟩) V.D.cells.length cc) (.slice A V.D.loose.length cl) (.slice A2 V.L.length ck) cs ls G wr ∧ V.D.cells.length ≤ 9 ∧ V.D.loose.length ≤ n ∧ V.D.syncs ≤ n
theorem VpE.kp {W wr : World} {gd g b s n : Nat} (h : VpE W gd g b s n wr) : Kp No W wr := by
  obtain ⟨V, gc, cc, A, cl, A2, ck, cs, ls, G, h, _⟩ := h
  exact h.kp
end Go.Proofs.YtndghapdpfgmoaaGreat
namespace Go.Proofs.YtndghapdpfgmoaaGreat
open Go.RowKit
set_option linter.unusedVariables false
set_option linter.unusedSimpArgs false
set_option maxRecDepth 20000

def LgtPost (w : World) (ds : List ActV) (e : Ending) (w1 : World) : Prop := ∃ b, e = .returned (.bool b) ∧ w = w1 ∧ (b = true → ds.length ≤ 30 ∧ ∀ d ∈ ds, d.b.length ≤ 200)
set_option maxHeartbeats 1000000 in
theorem light12_any {w : World} {A : Option Addr} {n c : Nat} {ds : List ActV} (h : ActsV w A n ds) : Calls Tryz.prog 5 #[.slice A n c] w (LgtPost w ds) := by
  have HA := hide h
  have hmax := h.big
  clear h
  go_enter Tryz.func5, Tryz.ntmps5
  go_wp2_with fail
  go_loopw [3] (fun i wr => ∃ k : Nat, k ≤ n ∧ k ≤ 30 ∧ i = .int .i64 (k : Int) ∧ Hid (∀ (j : Nat) d, j < k → ds[j]? = some d → d.b.length ≤ 200) ∧ w = wr) (fun i _ => n - (intOf i).toNat)
  case atStart => exact ⟨0, by omega, by omega, rfl, fun j d hj => by omega, rfl⟩
  case round =>
    obtain ⟨k, hk, hk30, rfl, HQ, rfl⟩ := hrel
    by_cases hlt : k < n
    · have hi : (k : Int) < n := by omega
      by_cases h30 : k < 30
      · have hi30 : (k : Int) < 30 := by omega
        obtain ⟨d, hd⟩ : ∃ d, ds[k]? = some d := ⟨_, List.getElem?_eq_getElem (by have := HA.out.len; omega)⟩
        obtain ⟨B, off, A', m, c', hA, ha⟩ := HA.out.at_ k d hd
        have HD := hide hd
        clear hd
        subst hA
        have c5 := ha.c5
        have hm := ha.small
        have HM := hide ha.bts.len
        clear ha
        by_cases hgt : 200 < m
        · have hz : (200 : Int) < m := by omega
          go_wp2_with fail
          go_ret
          exact ⟨false, rfl, rfl, fun h => by cases h⟩
        · have hz : ¬ (200 : Int) < m := by omega
          go_wp2_with fail
          go_round
          case rel =>
            refine ⟨k + 1, by omega, by omega, by go_num, fun j d' hj hd' => ?_, trivial⟩
            rcases Nat.lt_or_ge j k with g | g
            · exact HQ.out j d' g hd'
            · obtain rfl : j = k := by omega
              rw [HD.out] at hd'
              injection hd' with hd'
              subst hd'
              have := HM.out
              omega
          case measure => simp [intOf]; omega
      · have hi30 : ¬ (k : Int) < 30 := by omega
        by_cases hn30 : n ≤ 30
        · exfalso; omega
        · have hz : ¬ (n : Int) ≤ 30 := by omega
          go_wp2_with fail
          go_ret
          exact ⟨false, rfl, rfl, fun h => by cases h⟩
    · have hi : ¬ (k : Int) < n := by omega
      have HE : Hid (k = n) := by show k = n; omega
      have hz : (n : Int) ≤ 30 := by omega
      go_wp2_with fail
      go_ret
      refine ⟨true, rfl, rfl, fun _ => ⟨by have := HA.out.len; have := HE.out; omega, fun d hd => ?_⟩⟩
      obtain ⟨j, hj⟩ := List.getElem?_of_mem hd
      refine HQ.out j d ?_ hj
      have := (List.getElem?_eq_some_iff.1 hj).1
      have := HA.out.len
      have := HE.out
      omega
end Go.Proofs.YtndghapdpfgmoaaGreat
