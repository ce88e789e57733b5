/- Law 20's table of package table; its awake; the document's RightName. No condition. -/
import Derived.Test.YthicpblgonigcaaNcas
namespace Go.Proofs.Ythicpblgonigcaa
open Go.RowKit
set_option linter.unusedVariables false
set_option linter.unusedSimpArgs false
set_option maxRecDepth 20000

/-- A law's table: all that is its own is younger than W. -/
structure TbL (W : World) (g : Nat) (T : Tb) (w : World) : Prop where
  at_ : TbAt w (Frm W.heap.size) g T
  kp : Kp No W w
section
variable {W w w1 : World} {g : Nat} {T T' : Tb} {z : Int} {e : Ending}
theorem TbL.no (h : TbL W g T w) (hk : Kp No w w1) : TbL W g T w1 := ⟨h.at_.no hk, h.kp.trans' hk⟩
theorem TbL.call (h : TbL W g T w) (hp : TbPost w (Frm W.heap.size) g T' z e w1) : TbL W g T' w1 :=
  ⟨hp.2.1.mono fun k _ hf => hf.elim id fun e => Nat.le_trans h.kp.size e, h.kp.fr hp.2.2 fun q hq => hq⟩
theorem TbL.new (hk : Kp No W w) (h : TbAt w1 (fun k => k = w.heap.size) w.heap.size T) (hk1 : Kp No w w1) : TbL W w.heap.size T w1 :=
  ⟨h.mono fun k _ e => by rw [e]; exact hk.size, hk.trans' hk1⟩
end
def aq1 : Oq := ⟨1, ⟨1, [], 0, 0, 0, []⟩, 0, 0, 0, 0⟩
def aq2 : Oq := ⟨2, ⟨1, [97], 0, 0, 1, []⟩, 0, 0, 0, 0⟩
def aq3 : Oq := ⟨2, ⟨1, [98], 0, 0, 1, []⟩, 0, 0, 0, 0⟩
theorem aw1 : (newT 1 1).appE aq1 = 0 ∧ (newT 1 1).app aq1 = ⟨1, 1, 2, 0, []⟩ := ⟨rfl, rfl⟩
theorem aw2 : (⟨1, 1, 2, 0, []⟩ : Tb).appE aq2 = 0 ∧ (⟨1, 1, 2, 0, []⟩ : Tb).app aq2 = ⟨1, 1, 2, 1, [aq2.o]⟩ := ⟨by decide, by rfl⟩
theorem aw3 : (⟨1, 1, 2, 1, [aq2.o]⟩ : Tb).appE aq3 = 7 ∧ (⟨1, 1, 2, 1, [aq2.o]⟩ : Tb).app aq3 = ⟨1, 1, 2, 1, [aq2.o]⟩ := ⟨by decide, by rfl⟩
theorem aw4 : fNm [aq2.o] [97] = 0 := by decide
theorem rdp_nil (w : World) (G : Nat → Prop) : RdP w G (.slice none 0 0) [] := ⟨none, 0, rfl, fun _ => rfl, fun j l h => by simp at h⟩
set_option maxHeartbeats 1000000 in
theorem awake20_any (w : World) : Calls Try.prog 6 #[] w (TruePost w) := by
  have HA1 := hide aw1
  have HA2 := hide aw2
  have HA3 := hide aw3
  have HNEW := hide (tnew_yes (w := w) (sl := 1) (nd := 1) (by omega) (by omega) (by omega) (by omega))
  go_enter Try.func6, Try.ntmps6
  go_wp2_with fail
  refine HNEW.out.mono ?_
  rintro e w1 ⟨rfl, h1, k1⟩
  have HL1 := hide (TbL.new (Kp.refl No w) h1 k1)
  obtain ⟨g, hg⟩ : ∃ g, g = w.heap.size := ⟨_, rfl⟩
  rw [← hg] at HL1 ⊢
  clear h1 k1 hg HNEW
  go_wp2_with fail
  have hc := tapply_any (q := aq1) (v := .slice none 0 0) HL1.out.at_ (rdp_nil w1 No) (by simp [aq1]) (fun l hl => by simp [aq1] at hl) (by simp [aq1])
  rw [HA1.out.1, HA1.out.2] at hc
  refine hc.mono ?_
  clear hc
  rintro e w2 hp
  obtain rfl := hp.1
  have HL2 := hide (HL1.out.call hp)
  clear hp
  go_wp2_with fail
  have hc := tapply_any (q := aq2) (v := .slice none 0 0) HL2.out.at_ (rdp_nil w2 No) (by simp [aq2]) (fun l hl => by simp [aq2] at hl) (by simp [aq2])
  rw [HA2.out.1, HA2.out.2] at hc
  refine hc.mono ?_
  clear hc
  rintro e w3 hp
  obtain rfl := hp.1
  have HL3 := hide (HL2.out.call hp)
  clear hp
  go_wp2_with fail
  have hc := tapply_any (q := aq3) (v := .slice none 0 0) HL3.out.at_ (rdp_nil w3 No) (by simp [aq3]) (fun l hl => by simp [aq3] at hl) (by simp [aq3])
  rw [HA3.out.1, HA3.out.2] at hc
  refine hc.mono ?_
  clear hc
  rintro e w4 hp
  obtain rfl := hp.1
  have HL4 := hide (HL3.out.call hp)
  clear hp
  go_wp2_with fail
  refine (tfind_yes (s := [97]) (i := 0) (o := aq2.o) HL4.out.at_ aw4 rfl).mono ?_
  rintro e w5 ⟨A1, n1, c1, rfl, hpl, hk5⟩
  have HL5 := hide (HL4.out.no hk5)
  clear hpl hk5
  go_wp2_with fail
  go_ret
  exact ⟨rfl, HL5.out.kp.al _⟩
end Go.Proofs.Ythicpblgonigcaa
