/- What law 12's does knows of both vaults, with its three boxes. -/
import Derived.Test.YtndghapdpfgmoaaGreatVpi
import Derived.Test.YtndghapdpfgmoaaGreatVgj
import Derived.Test.YtndghapdpfgmoaaGreatVgk
import Derived.Test.YtndghapdpfgmoaaGreatVgm
namespace Go.Proofs.YtndghapdpfgmoaaGreat
open Go.RowKit
set_option linter.unusedVariables false
set_option linter.unusedSimpArgs false
set_option maxRecDepth 20000

/-- One act changes the numbers so much. -/
structure NmK (V V1 : Vt) : Prop where
  n : V1.D.cells.length = V.D.cells.length
  l : V1.D.loose.length ≤ V.D.loose.length + 1
  s : V1.D.syncs ≤ V.D.syncs + 1
section
variable (V : Vt) (s : Nat) (b : List UInt8)
theorem Vt.nsame : NmK V V := ⟨rfl, Nat.le_succ _, Nat.le_succ _⟩
theorem Vt.nsync : NmK V ⟨V.D.sync, V.L⟩ := ⟨sync_n _, Nat.zero_le _, Nat.le_refl _⟩
theorem Vt.nput (z : Int) : NmK V ⟨V.D.put z b, V.L⟩ := ⟨put_n _ _ _, put_loose _ _ _, by show (V.D.put z b).syncs ≤ _; rw [put_syncs]; exact Nat.le_succ _⟩
theorem Vt.nspoil (z a : Int) (x : UInt8) : NmK V ⟨V.D.spoil z a x, V.L⟩ := ⟨spoil_n _ _ _ _, by show (V.D.spoil z a x).loose.length ≤ _; unfold Dk.spoil; split <;> exact Nat.le_succ _, by show (V.D.spoil z a x).syncs ≤ _; unfold Dk.spoil; split <;> exact Nat.le_succ _⟩
theorem Vt.nopen : NmK V (Vt.opened V.D) := ⟨rfl, Nat.le_succ _, Nat.le_succ _⟩
theorem Vt.ncrash (z y : Int) : NmK V (Vt.opened (V.D.crash z y)) := ⟨Dk.torn_len _ _ _, Nat.zero_le _, Nat.le_succ _⟩
theorem Vt.nbg : NmK V (V.bg s b) := by
  by_cases e : V.bgE s b = 0
  · rw [Vt.bg_yes e]
    exact ⟨put_n _ _ _, put_loose _ _ _, by show (V.D.put V.free (frV s b)).syncs ≤ _; rw [put_syncs]; exact Nat.le_succ _⟩
  · rw [Vt.bg_no e]
    exact V.nsame
theorem Vt.npt : NmK V (V.pt s b) := by
  by_cases e : V.bgE s b = 0
  · rw [Vt.pt_yes e, Vt.bg_yes e]
    exact ⟨(sync_n _).trans (put_n _ _ _), Nat.zero_le _, by show (V.D.put V.free (frV s b)).syncs + 1 ≤ _; rw [put_syncs]; exact Nat.le_refl _⟩
  · rw [Vt.pt_no e]
    exact V.nsame
theorem Vt.ndr : NmK V (V.dr s) := by
  by_cases e : V.drE s = 0
  · rw [Vt.dr_yes e]
    exact ⟨(sync_n _).trans (put_n _ _ _), Nat.zero_le _, by show (V.D.put (cel V.L s) []).syncs + 1 ≤ _; rw [put_syncs]; exact Nat.le_refl _⟩
  · rw [Vt.dr_no e]
    exact V.nsame
end
/-- The box a of an act. -/
def Bx9 (w : World) (a : Nat) (d : ActV) (A : Option Addr) (m c : Nat) : Prop := w.heap[a]? = some (.cells #[.int .i64 d.kind, .int .u32 (cO d.s : Int), .int .u16 (cS d.s : Int), .int .u16 (cL d.s : Int), .int .u32 (cG d.s : Int), .slice A m c, .int .i64 d.n, .int .i64 d.m, .int .u8 (d.bits.toNat : Int)] 49 (0, 0))
section
variable {w w1 : World} {a m c : Nat} {A : Option Addr} {d : ActV}
theorem Bx9.cell (h : Bx9 w a d A m c) : w.cell? ⟨a, 0, none⟩ = some (.int .i64 d.kind) ∧ w.cell? ⟨a, 1, none⟩ = some (.int .u32 (cO d.s : Int)) ∧ w.cell? ⟨a, 2, none⟩ = some (.int .u16 (cS d.s : Int)) ∧ w.cell? ⟨a, 3, none⟩ = some (.int .u16 (cL d.s : Int)) ∧ w.cell? ⟨a, 4, none⟩ = some (.int .u32 (cG d.s : Int)) ∧ w.cell? ⟨a, 5, none⟩ = some (.slice A m c) ∧ w.cell? ⟨a, 6, none⟩ = some (.int .i64 d.n) ∧ w.cell? ⟨a, 7, none⟩ = some (.int .i64 d.m) ∧ w.cell? ⟨a, 8, none⟩ = some (.int .u8 (d.bits.toNat : Int)) := by
  refine ⟨?_, ?_, ?_, ?_, ?_, ?_, ?_, ?_, ?_⟩ <;> (rw [cell_of_row w a _ _ _ _ h]; rfl)
theorem Bx9.lt (h : Bx9 w a d A m c) : a < w.heap.size := (Array.getElem?_eq_some_iff.1 h).1
theorem Bx9.keep {S : Nat → Prop} (h : Bx9 w a d A m c) (hk : Kp S w w1) (hb : ¬ S a) : Bx9 w1 a d A m c := (hk.block a h.lt hb).trans h
theorem Bx9.no (h : Bx9 w a d A m c) (hk : Kp No w w1) : Bx9 w1 a d A m c := h.keep hk fun f => f
theorem Bx9.new (w : World) (d : ActV) (A : Option Addr) (m c : Nat) : Bx9 (w.alloc (.cells #[.int .i64 d.kind, .int .u32 (cO d.s : Int), .int .u16 (cS d.s : Int), .int .u16 (cL d.s : Int), .int .u32 (cG d.s : Int), .slice A m c, .int .i64 d.n, .int .i64 d.m, .int .u8 (d.bits.toNat : Int)] 49)) w.heap.size d A m c := heap_alloc_new w _
end
/-- The three boxes, and what lies beside them. -/
def X3 (s k : Nat) : Prop := k = s ∨ k = s + 1 ∨ k = s + 2
def Gx (G X0 : Nat → Prop) (s k : Nat) : Prop := G k ∨ X0 k ∨ X3 s k
/-- What does knows: the program's vault V (all its own in G), the document's R in the box s, the act d in the box behind it, the result's box behind that. -/
structure DsR (w : World) (F X0 : Nat → Prop) (gd s : Nat) (d : ActV) (A : Option Addr) (m c : Nat) (g b : Nat) (V R : Vt) (vc vl vk : Value) (cs : List (Value × List UInt8)) (ls : List (Nat × (Value × List UInt8))) (G : Nat → Prop) (wr : World) : Prop where
  vt : VtR wr G g gd b V
  rv : RvR wr (Gx G X0 s) R vc vl vk cs ls
  far : ∀ k, G k → (F k ∨ w.heap.size ≤ k) ∧ k < wr.heap.size ∧ ¬ X0 k ∧ ¬ X3 s k
  x0 : ∀ k, X0 k → k < w.heap.size
  bt : BtF wr (Gx G X0 s) (.slice A m c) d.b
  bx : Bx5 wr s (.int .i64 (R.D.size : Int)) vc vl (.int .i64 (R.D.syncs : Int)) vk
  ba : Bx9 wr (s + 1) d A m c
  br : Bx5 wr (s + 2) (.int .i64 0) (.slice none 0 0) (.slice none 0 0) (.int .i64 0) (.slice none 0 0)
  kp : Kp F w wr
  sl : w.heap.size ≤ s
section
variable {w wr w1 : World} {F X0 G : Nat → Prop} {gd s m c g b g1 b1 : Nat} {d : ActV} {A : Option Addr} {V V1 R R1 : Vt} {vc vl vk vc1 vl1 vk1 : Value} {cs cs1 : List (Value × List UInt8)} {ls ls1 : List (Nat × (Value × List UInt8))}
theorem DsR.x3 (h : DsR w F X0 gd s d A m c g b V R vc vl vk cs ls G wr) {k : Nat} (hk : X3 s k) : k < wr.heap.size := by
  rcases hk with rfl | rfl | rfl
  · exact h.bx.lt
  · exact h.ba.lt
  · exact h.br.lt
theorem DsR.no (h : DsR w F X0 gd s d A m c g b V R vc vl vk cs ls G wr) (hk : Kp No wr w1) : DsR w F X0 gd s d A m c g b V R vc vl vk cs ls G w1 :=
  ⟨h.vt.no hk, h.rv.no hk, fun k f => ⟨(h.far k f).1, Nat.lt_of_lt_of_le (h.far k f).2.1 hk.size, (h.far k f).2.2⟩, h.x0, h.bt.no hk, h.bx.no hk, h.ba.no hk, h.br.no hk, h.kp.trans (hk.of_no _), h.sl⟩
/-- A call on the program's vault. -/
theorem DsR.prog (h : DsR w F X0 gd s d A m c g b V R vc vl vk cs ls G wr) (hv : VtR w1 (Up G wr) g1 gd b1 V1) (hk : Kp G wr w1) : DsR w F X0 gd s d A m c g1 b1 V1 R vc vl vk cs ls (fun k => Up G wr k ∧ k < w1.heap.size) w1 := by
  have hs1 := hk.size
  have key : ∀ k, Gx (fun k => Up G wr k ∧ k < w1.heap.size) X0 s k → Up (Gx G X0 s) wr k ∧ k < w1.heap.size := fun k f => by
    rcases f with ⟨f | f, f2⟩ | f | f
    · exact ⟨.inl (.inl f), f2⟩
    · exact ⟨.inr f, f2⟩
    · exact ⟨.inl (.inr (.inl f)), by have h1 := h.x0 k f; have h2 := h.kp.size; omega⟩
    · exact ⟨.inl (.inr (.inr f)), by have h1 := h.x3 f; omega⟩
  have hkG : Kp (Gx G X0 s) wr w1 := hk.mono fun k f => .inl f
  refine ⟨hv.lt, h.rv.step hkG key, fun k f => ⟨?_, f.2, fun x => ?_, fun x => ?_⟩, h.x0, h.bt.step hkG fun k f => (key k f).1, h.bx.keep hk fun f => (h.far _ f).2.2.2 (.inl rfl), h.ba.keep hk fun f => (h.far _ f).2.2.2 (.inr (.inl rfl)), h.br.keep hk fun f => (h.far _ f).2.2.2 (.inr (.inr rfl)), h.kp.trans (hk.mono fun k f => (h.far k f).1), h.sl⟩
  · rcases f.1 with f | f
    · exact (h.far k f).1
    · exact .inr (Nat.le_trans h.kp.size f)
  · rcases f.1 with f | f
    · exact (h.far k f).2.2.1 x
    · have h1 := h.x0 k x
      have h2 := h.kp.size
      omega
  · rcases f.1 with f | f
    · exact (h.far k f).2.2.2 x
    · have h1 := h.x3 x
      omega
theorem DsR.disk (h : DsR w F X0 gd s d A m c g b V R vc vl vk cs ls G wr) {D : Dk} (hn : D.cells.length = V.D.cells.length) (hd : DkAt w1 (Up (Fd G g b) wr) gd D) (hk : Kp (Fd G g b) wr w1) : DsR w F X0 gd s d A m c g b ⟨D, V.L⟩ R vc vl vk cs ls (fun k => Up G wr k ∧ k < w1.heap.size) w1 :=
  h.prog (h.vt.disk hn hd hk) (hk.mono fun k f => f.1)
theorem DsR.open_ (h : DsR w F X0 gd s d A m c g b V R vc vl vk cs ls G wr) (hv : VtR w1 (Up (Fd G g b) wr) g1 gd b1 (Vt.opened V.D)) (hk : Kp No wr w1) : DsR w F X0 gd s d A m c g1 b1 (Vt.opened V.D) R vc vl vk cs ls (fun k => Up G wr k ∧ k < w1.heap.size) w1 :=
  h.prog (hv.mono fun k f => f.imp (fun f => f.1) fun f => f) (hk.of_no _)
/-- A call on the document's vault, written to its box. -/
theorem DsR.doc (h : DsR w F X0 gd s d A m c g b V R vc vl vk cs ls G wr) (hr : RvR w1 (Gx G X0 s) R1 vc1 vl1 vk1 cs1 ls1) (hk : Kp No wr w1) :
    DsR w F X0 gd s d A m c g b V R1 vc1 vl1 vk1 cs1 ls1 G (((((w1.setCell ⟨s, 0, none⟩ (.int .i64 (R1.D.size : Int))).setCell ⟨s, 1, none⟩ vc1).setCell ⟨s, 2, none⟩ vl1).setCell ⟨s, 3, none⟩ (.int .i64 (R1.D.syncs : Int))).setCell ⟨s, 4, none⟩ vk1) := by
  have K := kp5 (S := fun q => q = s) w1 s (.int .i64 (R1.D.size : Int)) vc1 vl1 (.int .i64 (R1.D.syncs : Int)) vk1 rfl
  have h1 := h.no hk
  have hS : ∀ k, ¬ Gx G X0 s k → ¬ k = s := fun k hn e => hn (.inr (.inr (.inl e)))
  refine ⟨h1.vt.keep K fun k _ f e => (h.far k f).2.2.2 (.inl e), ⟨hr.rf.keep K fun k _ hn => hS k hn, ⟨hr.kn.own.keep K fun k e => hS k (hr.kn.far k e), hr.kn.far⟩, hr.ok⟩, fun k f => ⟨(h1.far k f).1, Nat.lt_of_lt_of_le (h1.far k f).2.1 K.size, (h1.far k f).2.2⟩, h.x0, h1.bt.keep K fun k _ hn => hS k hn, h1.bx.all _ _ _ _ _, h1.ba.keep K (by omega), h1.br.keep K (by omega), h1.kp.trans (K.mono fun k e => .inr (by subst e; exact h.sl)), h.sl⟩
theorem DsR.doc4 (h : DsR w F X0 gd s d A m c g b V R vc vl vk cs ls G wr) {D : Dk} (hr : RfR w1 (Gx G X0 s) D vc1 vl1 cs1 ls1) (hn : D.cells.length = R.D.cells.length) (hk : Kp No wr w1) :
    DsR w F X0 gd s d A m c g b V ⟨D, R.L⟩ vc1 vl1 vk cs1 ls1 G ((((w1.setCell ⟨s, 0, none⟩ (.int .i64 (D.size : Int))).setCell ⟨s, 1, none⟩ vc1).setCell ⟨s, 2, none⟩ vl1).setCell ⟨s, 3, none⟩ (.int .i64 (D.syncs : Int))) := by
  have K := kpU4 (S := fun q => q = s) w1 s (.int .i64 (D.size : Int)) vc1 vl1 (.int .i64 (D.syncs : Int)) rfl
  have h1 := h.no hk
  have hS : ∀ k, ¬ Gx G X0 s k → ¬ k = s := fun k hn e => hn (.inr (.inr (.inl e)))
  refine ⟨h1.vt.keep K fun k _ f e => (h.far k f).2.2.2 (.inl e), ⟨hr.keep K fun k _ hn => hS k hn, ⟨h1.rv.kn.own.keep K fun k e => hS k (h.rv.kn.far k e), h.rv.kn.far⟩, h.rv.ok.disk hr.ok hn⟩, fun k f => ⟨(h1.far k f).1, Nat.lt_of_lt_of_le (h1.far k f).2.1 K.size, (h1.far k f).2.2⟩, h.x0, h1.bt.keep K fun k _ hn => hS k hn, h1.bx.four _ _ _ _, h1.ba.keep K (by omega), h1.br.keep K (by omega), h1.kp.trans (K.mono fun k e => .inr (by subst e; exact h.sl)), h.sl⟩
end
/-- What does comes to. -/
def DoPost (w : World) (F X0 : Nat → Prop) (gd : Nat) (V : Vt) (e : Ending) (w1 : World) : Prop :=
  ∃ g b V1 v G, e = .returned (.tuple #[.pointer (some ⟨g, 0, none⟩), v, .bool true]) ∧ VtR w1 G g gd b V1 ∧ RvAt w1 (fun k => G k ∨ X0 k) V1 v ∧ (∀ k, G k → (F k ∨ w.heap.size ≤ k) ∧ k < w1.heap.size ∧ ¬ X0 k) ∧ Kp F w w1 ∧ NmK V V1
/-- What an arm of does leaves. -/
def DsE (w : World) (F X0 : Nat → Prop) (gd s : Nat) (d : ActV) (A : Option Addr) (m c : Nat) (V0 : Vt) (g b : Nat) (wr : World) : Prop :=
  ∃ V1 gc cc A1 cl A2 ck cs ls G, DsR w F X0 gd s d A m c g b V1 V1 (.slice (some ⟨gc, 0, none⟩) V1.D.cells.length cc) (.slice A1 V1.D.loose.length cl) (.slice A2 V1.L.length ck) cs ls G wr ∧ NmK V0 V1
section
variable {w wr w1 : World} {F X0 G : Nat → Prop} {gd s m c g b : Nat} {d : ActV} {A : Option Addr} {V0 V R : Vt} {vc vl vk : Value} {cs : List (Value × List UInt8)} {ls : List (Nat × (Value × List UInt8))}
/-- The result's cell is written. -/
theorem DsR.fin (h : DsR w F X0 gd s d A m c g b V V vc vl vk cs ls G wr) (hn : NmK V0 V) :
    VtR (((((wr.setCell ⟨s + 2, 0, none⟩ (.int .i64 (V.D.size : Int))).setCell ⟨s + 2, 1, none⟩ vc).setCell ⟨s + 2, 2, none⟩ vl).setCell ⟨s + 2, 3, none⟩ (.int .i64 (V.D.syncs : Int))).setCell ⟨s + 2, 4, none⟩ vk) G g gd b V ∧
    RvAt (((((wr.setCell ⟨s + 2, 0, none⟩ (.int .i64 (V.D.size : Int))).setCell ⟨s + 2, 1, none⟩ vc).setCell ⟨s + 2, 2, none⟩ vl).setCell ⟨s + 2, 3, none⟩ (.int .i64 (V.D.syncs : Int))).setCell ⟨s + 2, 4, none⟩ vk) (fun k => G k ∨ X0 k) V (rvV V.D vc vl vk) ∧
    (∀ k, G k → (F k ∨ w.heap.size ≤ k) ∧ k < (((((wr.setCell ⟨s + 2, 0, none⟩ (.int .i64 (V.D.size : Int))).setCell ⟨s + 2, 1, none⟩ vc).setCell ⟨s + 2, 2, none⟩ vl).setCell ⟨s + 2, 3, none⟩ (.int .i64 (V.D.syncs : Int))).setCell ⟨s + 2, 4, none⟩ vk).heap.size ∧ ¬ X0 k) ∧
    Kp F w (((((wr.setCell ⟨s + 2, 0, none⟩ (.int .i64 (V.D.size : Int))).setCell ⟨s + 2, 1, none⟩ vc).setCell ⟨s + 2, 2, none⟩ vl).setCell ⟨s + 2, 3, none⟩ (.int .i64 (V.D.syncs : Int))).setCell ⟨s + 2, 4, none⟩ vk) := by
  have K := kp5 (S := fun q => q = s + 2) wr (s + 2) (.int .i64 (V.D.size : Int)) vc vl (.int .i64 (V.D.syncs : Int)) vk rfl
  have hS : ∀ k, ¬ Gx G X0 s k → ¬ k = s + 2 := fun k hn e => hn (.inr (.inr (.inr (.inr e))))
  have hr : RvR _ (Gx G X0 s) V vc vl vk cs ls := ⟨h.rv.rf.keep K fun k _ hn => hS k hn, ⟨h.rv.kn.own.keep K fun k e => hS k (h.rv.kn.far k e), h.rv.kn.far⟩, h.rv.ok⟩
  exact ⟨h.vt.keep K fun k _ f e => (h.far k f).2.2.2 (.inr (.inr e)), ⟨_, _, _, _, _, rfl, hr.less fun k f => f.elim .inl fun f => .inr (.inl f)⟩, fun k f => ⟨(h.far k f).1, Nat.lt_of_lt_of_le (h.far k f).2.1 K.size, (h.far k f).2.2.1⟩, h.kp.trans (K.mono fun k e => .inr (by subst e; have := h.sl; omega))⟩
/-- The begin. -/
theorem DsR.begin (hv : VtR w F g gd b V) (hr : RvR w (fun k => F k ∨ X0 k) V vc vl vk cs ls) (hX : ∀ k, F k → ¬ X0 k) (hb : BtF w (fun k => F k ∨ X0 k) (.slice A m c) d.b) :
    DsR w F X0 gd w.heap.size d A m c g b V V vc vl vk cs ls F (((w.alloc (.cells #[.int .i64 (V.D.size : Int), vc, vl, .int .i64 (V.D.syncs : Int), vk] 38)).alloc (.cells #[.int .i64 d.kind, .int .u32 (cO d.s : Int), .int .u16 (cS d.s : Int), .int .u16 (cL d.s : Int), .int .u32 (cG d.s : Int), .slice A m c, .int .i64 d.n, .int .i64 d.m, .int .u8 (d.bits.toNat : Int)] 49)).alloc (.cells #[.int .i64 0, .slice none 0 0, .slice none 0 0, .int .i64 0, .slice none 0 0] 38)) := by
  have k1 := fun (w : World) (o : Obj) => Kp.alloc No w o
  have e1 : ∀ (w : World) (o : Obj), (w.alloc o).heap.size = w.heap.size + 1 := fun w o => by simp
  generalize hw1 : w.alloc (.cells #[.int .i64 (V.D.size : Int), vc, vl, .int .i64 (V.D.syncs : Int), vk] 38) = w1
  generalize hw2 : w1.alloc (.cells #[.int .i64 d.kind, .int .u32 (cO d.s : Int), .int .u16 (cS d.s : Int), .int .u16 (cL d.s : Int), .int .u32 (cG d.s : Int), .slice A m c, .int .i64 d.n, .int .i64 d.m, .int .u8 (d.bits.toNat : Int)] 49) = w2
  generalize hw3 : w2.alloc (.cells #[.int .i64 0, .slice none 0 0, .slice none 0 0, .int .i64 0, .slice none 0 0] 38) = w3
  have q1 : Kp No w w1 := by rw [← hw1]; exact k1 _ _
  have q2 : Kp No w1 w2 := by rw [← hw2]; exact k1 _ _
  have q3 : Kp No w2 w3 := by rw [← hw3]; exact k1 _ _
  have z1 : w1.heap.size = w.heap.size + 1 := by rw [← hw1]; exact e1 _ _
  have z2 : w2.heap.size = w.heap.size + 2 := by rw [← hw2, e1, z1]
  have z3 : w3.heap.size = w.heap.size + 3 := by rw [← hw3, e1, z2]
  have q := (q1.trans' q2).trans' q3
  have b1 : Bx5 w1 w.heap.size (.int .i64 (V.D.size : Int)) vc vl (.int .i64 (V.D.syncs : Int)) vk := by rw [← hw1]; exact Bx5.new _ _ _ _ _ _
  have b2 : Bx9 w2 (w.heap.size + 1) d A m c := by rw [← z1, ← hw2]; exact Bx9.new _ _ _ _ _
  have b3 : Bx5 w3 (w.heap.size + 2) (.int .i64 0) (.slice none 0 0) (.slice none 0 0) (.int .i64 0) (.slice none 0 0) := by rw [← z2, ← hw3]; exact Bx5.new _ _ _ _ _ _
  have hbd := hr.rf.bd
  have key : ∀ k, Gx F X0 w.heap.size k → Up (fun k => F k ∨ X0 k) w k ∧ k < w3.heap.size := fun k f => by
    rcases f with f | f | f
    · exact ⟨.inl (.inl f), by have := hbd k (.inl f); omega⟩
    · exact ⟨.inl (.inr f), by have := hbd k (.inr f); omega⟩
    · have : w.heap.size ≤ k ∧ k < w.heap.size + 3 := by
        rcases f with rfl | rfl | rfl <;> omega
      exact ⟨.inr this.1, by omega⟩
  refine ⟨hv.no q, hr.step (q.of_no _) key, fun k f => ⟨.inl f, ?_, hX k f, fun x => ?_⟩, fun k f => hbd k (.inr f), hb.step (q.of_no _) fun k f => (key k f).1, (b1.no q2).no q3, b2.no q3, b3, q.of_no _, Nat.le_refl _⟩
  · have := hbd k (.inl f)
    omega
  · have := hbd k (.inl f)
    rcases x with rfl | rfl | rfl <;> omega
end
end Go.Proofs.YtndghapdpfgmoaaGreat
