/- Package server's made, Disk, Vault, Done, start, New and Restart, each as a contract over memory. -/
import Derived.Test.YtnfcfdhlmeimhaaGreatTwbf
import Derived.Test.YtnfcfdhlmeimhaaGreatTway
import Derived.Test.YtnfcfdhlmeimhaaGreatTwba
namespace Go.Proofs.YtnfcfdhlmeimhaaGreat
open Go.RowKit
set_option linter.unusedVariables false
set_option linter.unusedSimpArgs false
set_option maxRecDepth 20000

section
variable {w w1 : World} {F : Nat → Prop} {B n k g gc gd gv b : Nat} {x : Nat → UInt8} {rv : Value} {N : Nd}
theorem BxN.made {x0 x2 x3 x4 : Value} (h : BxN w g x0 (.pointer (some ⟨gd, 0, none⟩)) x2 x3 x4) : Calls Tryz.prog 33 #[.pointer (some ⟨g, 0, none⟩)] w fun e w1 => e = .returned (.bool true) ∧ w = w1 := by
  obtain ⟨z0, z1, z2, z3, z4⟩ := h.cell
  clear h
  go_enter Tryz.func33, Tryz.ntmps33
  go_wp2
  go_ret
  exact ⟨rfl, rfl⟩
theorem svault_any {x0 x1 x2 x3 x4 : Value} (h : BxN w g x0 x1 x2 x3 x4) : Calls Tryz.prog 25 #[.pointer (some ⟨g, 0, none⟩)] w fun e w1 => e = .returned x2 ∧ w = w1 := by
  obtain ⟨z0, z1, z2, z3, z4⟩ := h.cell
  clear h
  go_enter Tryz.func25, Tryz.ntmps25
  go_wp2
  go_ret
  exact ⟨rfl, rfl⟩
theorem sdone_any {x0 x1 x2 x3 : Value} {m : Nat} (h : BxN w g x0 x1 x2 x3 (.int .u64 (m : Int))) : Calls Tryz.prog 27 #[.pointer (some ⟨g, 0, none⟩)] w fun e w1 => e = .returned (.int .u64 (m : Int)) ∧ w = w1 := by
  obtain ⟨z0, z1, z2, z3, z4⟩ := h.cell
  clear h
  go_enter Tryz.func27, Tryz.ntmps27
  go_wp2
  go_ret
  exact ⟨rfl, rfl⟩
/-- A node that has just come up. -/
theorem SvR.started {x2 x3 x4 : Value} {V : Vt} {Fv : Nat → Prop} (hb : BxN w g (.pointer (some ⟨gc, 0, none⟩)) (.pointer (some ⟨gd, 0, none⟩)) x2 x3 x4) (hc : CdF w B gc n k x) (hv : VtR w Fv gv gd b V) (hF : ∀ q, Fv q → F q ∧ q ≠ g) (hg : F g) (hfb : ∀ z, F z → B ≤ z) :
    SvR (((w.setCell ⟨g, 2, none⟩ (.pointer (some ⟨gv, 0, none⟩))).setCell ⟨g, 3, none⟩ (.slice none 0 0)).setCell ⟨g, 4, none⟩ (.int .u64 ((0 : Nat) : Int))) F B n k x g gc gd gv b (.slice none 0 0) ⟨V, [], 0⟩ ∧
    Kp (fun q => q = g) w (((w.setCell ⟨g, 2, none⟩ (.pointer (some ⟨gv, 0, none⟩))).setCell ⟨g, 3, none⟩ (.slice none 0 0)).setCell ⟨g, 4, none⟩ (.int .u64 ((0 : Nat) : Int))) := by
  have K : Kp (fun q => q = g) w (((w.setCell ⟨g, 2, none⟩ (.pointer (some ⟨gv, 0, none⟩))).setCell ⟨g, 3, none⟩ (.slice none 0 0)).setCell ⟨g, 4, none⟩ (.int .u64 ((0 : Nat) : Int))) :=
    ((Kp.setCell (S := fun q => q = g) (p := ⟨g, 2, none⟩) rfl _).trans' (Kp.setCell (S := fun q => q = g) (p := ⟨g, 3, none⟩) rfl _)).trans' (Kp.setCell (S := fun q => q = g) (p := ⟨g, 4, none⟩) rfl _)
  refine ⟨⟨((hb.set2 _).set3 _).set4 _, hc.keep K fun z e => e ▸ hfb g hg, (hv.keep K fun k _ f e => (hF k f).2 e).mono fun k f => ⟨(hF k f).1, (hF k f).2, fun e => (by cases e)⟩, OwnT.nil _ _ _ _, fun k e => (by cases e), hg, hfb, ⟨hv.ok, Nat.zero_le _, fun p hp => (by cases hp)⟩⟩, K⟩
/-- start. -/
theorem sstart_any {x2 x3 x4 : Value} {Fd : Nat → Prop} {D : Dk} (hb : BxN w g (.pointer (some ⟨gc, 0, none⟩)) (.pointer (some ⟨gd, 0, none⟩)) x2 x3 x4) (hc : CdF w B gc n k x) (hd : DkAt w Fd gd D) (hF : ∀ q, Fd q → F q ∧ q ≠ g) (hg : F g) (hfb : ∀ z, F z → B ≤ z) :
    Calls Tryz.prog 31 #[.pointer (some ⟨g, 0, none⟩)] w fun e w1 => e = .returned (.tuple #[]) ∧ SvAt w1 (Up F w) B n k x g gc gd (Nd.up D) ∧ Kp (fun q => q = g) w w1 := by
  have HB := hide hb
  have HC := hide hc
  have HD := hide hd
  have HF : Hid (∀ q, Up Fd w q → Up F w q ∧ q ≠ g) := fun q f => by
    rcases f with f | f
    · exact ⟨.inl (hF q f).1, (hF q f).2⟩
    · exact ⟨.inr f, by have := hb.lt; omega⟩
  have HG := hide hg
  have HFB : Hid (∀ z, Up F w z → B ≤ z) := fun z f => f.elim (hfb z) fun f => Nat.le_trans hc.bw f
  obtain ⟨z0, z1, z2, z3, z4⟩ := hb.cell
  clear hb hc hd hF hg hfb
  go_enter Tryz.func31, Tryz.ntmps31
  go_wp2_with fail
  refine (vopen_any HD.out).mono ?_
  rintro e w2 ⟨gv, b, rfl, _, _, hv, hk⟩
  have HB2 := hide (HB.out.no hk)
  have HFN := hide (SvR.started HB2.out (HC.out.no hk) hv HF.out (.inl HG.out) HFB.out)
  have HK := hide hk
  clear z0 z1 z2 z3 z4 hv hk
  obtain ⟨y0, y1, y2, y3, y4⟩ := HB2.out.cell
  have f2 := HB2.out.fz 2
  have f3 := HB2.out.fz 3
  have f4 := HB2.out.fz 4
  go_wp2
  (first | go_end0 | refine bodyPost_ret (results_none rfl _ _ _) rfl ?_)
  exact ⟨rfl, ⟨_, _, _, HFN.out.1⟩, (HK.out.of_no _).trans' HFN.out.2⟩
theorem snew_any {D : Dk} (hc : CdF w B gc n k x) (hd : DkAt w F gd D) (hfb : ∀ z, F z → B ≤ z) :
    Calls Tryz.prog 10 #[.pointer (some ⟨gc, 0, none⟩), .pointer (some ⟨gd, 0, none⟩)] w fun e w1 => ∃ g, e = .returned (.tuple #[.pointer (some ⟨g, 0, none⟩), .int .i64 0]) ∧ w.heap.size ≤ g ∧ SvAt w1 (Up F w) B n k x g gc gd (Nd.up D) ∧ Kp No w w1 := by
  have k0 := Kp.alloc No w (.cells #[.pointer (some ⟨gc, 0, none⟩), .pointer (some ⟨gd, 0, none⟩), .pointer none, .slice none 0 0, .int .u64 0] 95)
  have HB := hide (BxN.new w (.pointer (some ⟨gc, 0, none⟩)) (.pointer (some ⟨gd, 0, none⟩)) (.pointer none) (.slice none 0 0) (.int .u64 0))
  have HK := hide k0
  have HC := hide (hc.no k0)
  have HFB : Hid (∀ z, Up F w z → B ≤ z) := fun z f => f.elim (hfb z) fun f => Nat.le_trans hc.bw f
  have HD := hide (hd.lt.no k0)
  clear hc hd k0 hfb
  go_enter Tryz.func10, Tryz.ntmps10
  go_wp2_with fail
  refine (sstart_any HB.out HC.out HD.out (fun q f => ⟨.inl f.1, by omega⟩) (.inr (Nat.le_refl _)) HFB.out).mono ?_
  rintro e w2 ⟨rfl, hs, hk⟩
  have HS := hide hs
  have HK2 := hide hk
  clear hs hk
  go_wp2
  go_ret2
  have hz := HK.out.size
  refine ⟨_, rfl, Nat.le_refl _, ?_, HK.out.trans (HK2.out.mono fun q e => .inr (by omega))⟩
  obtain ⟨gv, b, rv, hs⟩ := HS.out
  refine ⟨gv, b, rv, hs.mono (fun q f => f.two hz) HFB.out⟩
end
end Go.Proofs.YtnfcfdhlmeimhaaGreat
