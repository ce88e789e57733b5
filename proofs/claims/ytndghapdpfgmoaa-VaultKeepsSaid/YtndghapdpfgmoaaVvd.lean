/- A vault and its disk in memory. -/
import Derived.Test.YtndghapdpfgmoaaVvb
import Derived.Test.YtndghapdpfgmoaaVve
import Derived.Test.YtndghapdpfgmoaaVsq
namespace Go.Proofs.Ytndghapdpfgmoaa
open Go.RowKit
set_option linter.unusedVariables false
set_option linter.unusedSimpArgs false
set_option maxRecDepth 20000

/-- A vault and its disk: all that is its own in F, but for the disk's the two blocks g and b. -/
def Fd (F : Nat → Prop) (g b k : Nat) : Prop := F k ∧ k ≠ g ∧ k ≠ b
structure VtR (w : World) (F : Nat → Prop) (g gd b : Nat) (V : Vt) : Prop where
  blk : VtB w g gd b
  dk : DkAt w (Fd F g b) gd V.D
  mp : MpAt w b V.L
  fg : F g
  fb : F b
  ok : V.Ok
def VtAt (w : World) (F : Nat → Prop) (g gd : Nat) (V : Vt) : Prop := ∃ b, VtR w F g gd b V
section
variable {w w1 : World} {F S T : Nat → Prop} {g gd b : Nat} {V : Vt}
theorem VtR.ne (h : VtR w F g gd b V) : g ≠ b := fun e => by
  subst e
  obtain ⟨es, clock, e⟩ := h.mp.blk h.blk
  cases e
theorem VtR.keep (h : VtR w F g gd b V) (hk : Kp S w w1) (hS : ∀ k, k < w.heap.size → F k → ¬ S k) : VtR w1 F g gd b V :=
  ⟨h.blk.keep hk (hS g h.blk.lt h.fg), h.dk.keep hk (fun k hk hf => hS k hk hf.1), h.mp.keep hk (hS b h.mp.lt h.fb), h.fg, h.fb, h.ok⟩
theorem VtR.no (h : VtR w F g gd b V) (hk : Kp No w w1) : VtR w1 F g gd b V := h.keep hk fun _ _ _ f => f
theorem VtR.mono (h : VtR w F g gd b V) (hF : ∀ k, F k → T k) : VtR w T g gd b V := ⟨h.blk, h.dk.mono fun k hk => ⟨hF k hk.1, hk.2⟩, h.mp, hF _ h.fg, hF _ h.fb, h.ok⟩
/-- The disk has turned. -/
theorem VtR.disk (h : VtR w F g gd b V) {D : Dk} (hn : D.cells.length = V.D.cells.length) (hd : DkAt w1 (Up (Fd F g b) w) gd D) (hk : Kp (Fd F g b) w w1) : VtR w1 (Up F w) g gd b ⟨D, V.L⟩ := by
  have l1 := h.blk.lt
  have l2 := h.mp.lt
  refine ⟨h.blk.keep hk (fun f => f.2.1 rfl), hd.mono fun k hk' => ?_, h.mp.keep hk (fun f => f.2.2 rfl), .inl h.fg, .inl h.fb, h.ok.disk hd.ok hn⟩
  rcases hk' with hf | hf
  · exact ⟨.inl hf.1, hf.2⟩
  · exact ⟨.inr hf, by omega, by omega⟩
/-- The map has turned. -/
theorem VtR.map (h : VtR w F g gd b V) {L' : List (Nat × Nat)} (hm : MpAt w1 b L') (hk : Kp (fun q => q = b) w w1) (hok : (Vt.mk V.D L').Ok) : VtR w1 F g gd b ⟨V.D, L'⟩ :=
  ⟨h.blk.keep hk h.ne, h.dk.keep hk (fun k _ hf e => hf.2.2 e), hm, h.fg, h.fb, hok⟩
theorem VtR.up (h : VtR w F g gd b V) (hk : Kp No w w1) : VtR w1 (Up F w) g gd b V := (h.no hk).mono fun k hk => .inl hk
end
/-- What Get comes to. -/
def GetPost (w : World) (er : Nat) (bs : List UInt8) (e : Ending) (w1 : World) : Prop :=
  ∃ A n c, e = .returned (.tuple #[.slice A n c, .int .i64 (er : Int)]) ∧ Own w1 w.heap.size 5 (.slice A n c) bs ∧ Kp No w w1
theorem GetPost.err {w w1 : World} {er : Nat} {z : Int} (h : z = (er : Int)) (hk : Kp No w w1) : GetPost w er [] (.returned (.tuple #[.slice none 0 0, .int .i64 z])) w1 := by
  subst h
  exact ⟨none, 0, 0, rfl, Own.nil _ _ _, hk⟩
theorem shV_ne {a b : Nat} (h : a ≠ b) : ¬ ((cO a = cO b ∧ cS a = cS b) ∧ cL a = cL b ∧ cG a = cG b) := fun e => h (c_inj e.1.1 e.1.2 e.2.1 e.2.2)
end Go.Proofs.Ytndghapdpfgmoaa
