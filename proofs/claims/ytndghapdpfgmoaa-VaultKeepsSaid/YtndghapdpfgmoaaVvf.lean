/- Package vault's free, as a contract over memory. -/
import Derived.Test.YtndghapdpfgmoaaVve
namespace Go.Proofs.Ytndghapdpfgmoaa
open Go.RowKit
set_option linter.unusedVariables false
set_option linter.unusedSimpArgs false
set_option maxRecDepth 20000

/-- The taken cells so far. -/
structure TkI (w : World) (b r s n : Nat) (L : List (Nat × Nat)) (wr : World) : Prop where
  ex : ∃ dn left, RgAt wr b r L dn left ∧ BRow wr s n (usd dn)
  kp : Kp No w wr
theorem usd_snoc (dn : List (Nat × Nat)) (c s j : Nat) : usd (dn ++ [(c, s)]) j = if j = c then true else usd dn j := by
  unfold usd
  rw [List.any_append]
  by_cases e : j = c
  · subst e; simp
  · have : (c == j) = false := by simp; omega
    simp [e, this]
theorem usd_perm {a b : List (Nat × Nat)} (h : a.Perm b) : usd a = usd b := by
  funext j
  unfold usd
  exact h.any_eq
theorem left_same {w w1 : World} {b r : Nat} {L dn left : List (Nat × Nat)} {s c : Nat} {u : Value} (h : RgAt w b r L dn left) (h1 : b ≠ s) (h2 : r ≠ s) : (w.setCell ⟨s, c, none⟩ u).rangeLeft b r = w.rangeLeft b r := by
  unfold World.rangeLeft
  rw [RowKit.Below.heap_setCell _ _ _ _ h1, RowKit.Below.heap_setCell _ _ _ _ h2]
theorem free_any {w : World} {F : Nat → Prop} {g gd b : Nat} {D : Dk} {L : List (Nat × Nat)} (hb : VtB w g gd b) (hm : MpAt w b L) (hd : DkAt w F gd D) (hn : D.cells.length ≤ 1000) (hL : KnOk D.cells.length L) :
    Calls Try.prog 27 #[.pointer (some ⟨g, 0, none⟩)] w (CelPost w (fstZ D.cells.length (usd L))) := by
  have h0 := hb.c0
  have h1 := hb.c1
  have hbl := hm.lt
  have HM := hide hm
  have HC := hide hL
  clear hb hm hL
  go_enter Try.func27, Try.ntmps27
  go_wp2_with fail
  refine (plen_any hd).mono ?_
  rintro e w1 ⟨rfl, hk1⟩
  clear hd
  obtain ⟨n, hnn⟩ : ∃ n, n = D.cells.length := ⟨_, rfl⟩
  rw [← hnn] at hn HC ⊢
  have hmk := fun w => make_bools w n (n : Int) rfl hn
  have c1 := kp_cell (kp_cell h1 hk1) (Kp.alloc No w1 (.cells (zbl n) 4))
  have m1 := (HM.out.no hk1).no (Kp.alloc No w1 (.cells (zbl n) 4))
  have k1 := hk1.trans' (Kp.alloc No w1 (.cells (zbl n) 4))
  have b1 : BRow (w1.alloc (.cells (zbl n) 4)) w1.heap.size n (usd []) := ⟨_, heap_alloc_new w1 _, fun j hj => zbl_get hj⟩
  have hg1 := hk1.size
  have HNN := hide hnn
  clear hnn h0 h1 hk1 HM
  have HB1 := hide b1
  have HM1 := hide m1
  have HK1 := hide k1
  clear b1 m1 k1
  go_wp2_with (first | (at_range; refine wpList_mrange rfl _ rfl rfl HM1.out (w1.heap.size + 1) (World.size_alloc _ _).symm ?_; intro w2 hr2 hk2 hz2; go_frame))
  have hI : TkI w b (w1.heap.size + 1) w1.heap.size n L w2 := ⟨⟨[], L, hr2, HB1.out.no hk2⟩, HK1.out.trans' hk2⟩
  clear hr2 hk2 hz2 c1
  go_loopw [7] (fun _ wr => TkI w b (w1.heap.size + 1) w1.heap.size n L wr) (fun _ wr => wr.rangeLeft b (w1.heap.size + 1))
  case atStart => exact hI
  case round =>
    clear hI
    obtain ⟨⟨dn, left, hr, hB⟩, hkp⟩ := hrel
    rename World => wr
    have HB := hide hB
    have HKP := hide hkp
    clear hB hkp
    go_wp2_with (first | (at_next; refine wpList_mnext rfl _ rfl rfl hr ?done ?more))
    case done =>
      intro hl
      subst hl
      have hpm := hr.pm
      rw [List.append_nil] at hpm
      have hB2 := HB.out
      rw [usd_perm hpm] at hB2
      clear hr
      go_wp2_with fail
      refine (index_any hB2 hn).mono ?_
      rintro e w' ⟨rfl, rfl⟩
      go_wp2
      go_ret
      exact ⟨ret_int (by rw [HNN.out]), HKP.out⟩
    case more =>
      intro c s w3 left' hs hc hmem hr3 hlt hk3 he
      have hcn : c < n := HC.out.cl _ hmem
      have hne : ¬ (w1.heap.size = w1.heap.size + 1) := by omega
      have hB3 := HB.out.keep hk3 hne
      have fB := hB3.frozen c
      have cB := hB3.cell hcn
      have hcz : (c : Int) < n := by omega
      have HLT := hide hlt
      have HR3 := hide hr3
      have HB3 := hide hB3
      have HK3 := hide hk3
      clear hr hlt hr3 hB3 hk3
      go_wp2_with fail
      have hkS : Kp (fun q => q = w1.heap.size) w3 (w3.setCell ⟨w1.heap.size, c, none⟩ (.bool true)) := Kp.setCell (S := fun q => q = w1.heap.size) (p := ⟨w1.heap.size, c, none⟩) rfl _
      have hbs : ¬ (b = w1.heap.size) := fun e => by omega
      have hrs : ¬ (w1.heap.size + 1 = w1.heap.size) := by omega
      have hr4 := HR3.out.keep hkS hbs hrs
      go_round
      case rel =>
        refine ⟨⟨_, _, hr4, (HB3.out.set hcn).eq fun j hj => (usd_snoc dn c s j).symm⟩, ?_⟩
        exact (HKP.out.trans (HK3.out.mono fun q hq => .inr (by subst hq; omega))).trans (hkS.mono fun q hq => .inr (by subst hq; omega))
      case measure =>
        have e : (w3.setCell ⟨w1.heap.size, c, none⟩ (.bool true)).rangeLeft b (w1.heap.size + 1) = w3.rangeLeft b (w1.heap.size + 1) := left_same (w1 := w1) HR3.out hbs hrs
        rw [e]
        exact HLT.out
end Go.Proofs.Ytndghapdpfgmoaa
