/- A node in memory: its block, its code, its vault and disk, and the replies that it remembers. -/
import Derived.Test.YtnfcfdhlmeimhaaGreatTwax
import Derived.Test.YtnfcfdhlmeimhaaGreatTwar
import Derived.Test.YtnfcfdhlmeimhaaGreatTwbc
import Derived.Test.YtnfcfdhlmeimhaaGreatTwbd
import Derived.Test.YtnfcfdhlmeimhaaGreatTwas
import Derived.Test.YtnfcfdhlmeimhaaGreatTwbe
namespace Go.Proofs.YtnfcfdhlmeimhaaGreat
open Go.RowKit
set_option linter.unusedVariables false
set_option linter.unusedSimpArgs false
set_option maxRecDepth 20000

/-- The cells of replies to Puts and Drops. -/
def rpC (sn : List Rp) : List Value := sn.flatMap fun p => [.int .u64 (p.num : Int), .int .i64 p.e, .slice none 0 0]
theorem rpC_app (a b : List Rp) : rpC (a ++ b) = rpC a ++ rpC b := by simp [rpC]
theorem rpC_len : ∀ (sn : List Rp), (rpC sn).length = sn.length * 3
  | [] => rfl
  | p :: sn => by
    have ih := rpC_len sn
    have e : rpC (p :: sn) = [.int .u64 (p.num : Int), .int .i64 p.e, .slice none 0 0] ++ rpC sn := rfl
    rw [e, List.length_append, ih, List.length_cons]
    simp
    omega
theorem rpC_one (sn : List Rp) : ∀ u ∈ rpC sn, u.oneCell' = true := fun u hu => by
  obtain ⟨p, _, hp⟩ := List.mem_flatMap.1 hu
  simp at hp
  rcases hp with rfl | rfl | rfl <;> rfl
theorem rpC_get : ∀ {sn : List Rp} {j : Nat} {p : Rp}, sn[j]? = some p → (rpC sn)[j * 3]? = some (.int .u64 (p.num : Int)) ∧ (rpC sn)[j * 3 + 1]? = some (.int .i64 p.e) ∧ (rpC sn)[j * 3 + 2]? = some (.slice none 0 0)
  | [], j, p, h => by simp at h
  | x :: sn, 0, p, h => by
    simp at h
    subst h
    exact ⟨rfl, rfl, rfl⟩
  | x :: sn, j + 1, p, h => by
    rw [List.getElem?_cons_succ] at h
    have ih := rpC_get h
    have e : rpC (x :: sn) = [.int .u64 (x.num : Int), .int .i64 x.e, .slice none 0 0] ++ rpC sn := rfl
    have key : ∀ i, (rpC (x :: sn))[(j + 1) * 3 + i]? = (rpC sn)[j * 3 + i]? := fun i => by
      rw [e, List.getElem?_append_right (by simp; omega)]
      congr 1
      simp
      omega
    exact ⟨(key 0).trans ih.1, (key 1).trans ih.2.1, (key 2).trans ih.2.2⟩
theorem rpC_drop (sn : List Rp) : rpC (sn.drop 1) = (rpC sn).drop 3 := by
  cases sn with
  | nil => rfl
  | cons p l => rfl
theorem ty_rp : Ty 81 (.agg #[.int .u64 0, .int .i64 0, .slice none 0 0]) 3 40 := ty_of (by kernel_rfl) rfl (by omega) (by omega)
/-- A node's block. -/
def BxN (w : World) (g : Nat) (x0 x1 x2 x3 x4 : Value) : Prop := w.heap[g]? = some (.cells #[x0, x1, x2, x3, x4] 95 (0, 0))
section
variable {w w1 : World} {g : Nat} {x0 x1 x2 x3 x4 : Value}
theorem BxN.lt (h : BxN w g x0 x1 x2 x3 x4) : g < w.heap.size := (Array.getElem?_eq_some_iff.1 h).1
theorem BxN.keep {S : Nat → Prop} (h : BxN w g x0 x1 x2 x3 x4) (hk : Kp S w w1) (hb : ¬ S g) : BxN w1 g x0 x1 x2 x3 x4 := (hk.block g h.lt hb).trans h
theorem BxN.no (h : BxN w g x0 x1 x2 x3 x4) (hk : Kp No w w1) : BxN w1 g x0 x1 x2 x3 x4 := h.keep hk fun f => f
theorem BxN.fz (h : BxN w g x0 x1 x2 x3 x4) (j : Nat) : w.frozen? ⟨g, j, none⟩ = false := frozen_of_row w g j _ _ h
theorem BxN.new (w : World) (x0 x1 x2 x3 x4 : Value) : BxN (w.alloc (.cells #[x0, x1, x2, x3, x4] 95)) w.heap.size x0 x1 x2 x3 x4 := heap_alloc_new w _
theorem BxN.cell (h : BxN w g x0 x1 x2 x3 x4) : w.cell? ⟨g, 0, none⟩ = some x0 ∧ w.cell? ⟨g, 1, none⟩ = some x1 ∧ w.cell? ⟨g, 2, none⟩ = some x2 ∧ w.cell? ⟨g, 3, none⟩ = some x3 ∧ w.cell? ⟨g, 4, none⟩ = some x4 := by
  refine ⟨?_, ?_, ?_, ?_, ?_⟩ <;> (rw [cell_of_row w g _ _ _ _ h]; rfl)
theorem BxN.set2 (h : BxN w g x0 x1 x2 x3 x4) (u : Value) : BxN (w.setCell ⟨g, 2, none⟩ u) g x0 x1 u x3 x4 := heap_setCell_same w g 2 _ 95 u h
theorem BxN.set3 (h : BxN w g x0 x1 x2 x3 x4) (u : Value) : BxN (w.setCell ⟨g, 3, none⟩ u) g x0 x1 x2 u x4 := heap_setCell_same w g 3 _ 95 u h
theorem BxN.set4 (h : BxN w g x0 x1 x2 x3 x4) (u : Value) : BxN (w.setCell ⟨g, 4, none⟩ u) g x0 x1 x2 x3 u := heap_setCell_same w g 4 _ 95 u h
end
/-- A code whose blocks are older than B. -/
structure CdF (w : World) (B g n k : Nat) (x : Nat → UInt8) : Prop where
  ex : ∃ A cp, w.heap[g]? = some (.cells #[.int .i64 (k : Int), .slice A n cp] 89 (0, 0)) ∧ Bts w (.slice A n cp) (rowL n x) ∧ ∀ z, (Value.slice A n cp).ownBlock = some z → z < B
  ng : g < B
  bw : B ≤ w.heap.size
section
variable {w w1 : World} {S : Nat → Prop} {B g n k : Nat} {x : Nat → UInt8}
theorem CdF.at_ (h : CdF w B g n k x) : CodeAt w g n k x := by
  obtain ⟨A, cp, h1, h2, _⟩ := h.ex
  exact ⟨A, cp, h1, h2⟩
theorem CdF.keep (h : CdF w B g n k x) (hk : Kp S w w1) (hS : ∀ z, S z → B ≤ z) : CdF w1 B g n k x := by
  obtain ⟨A, cp, h1, h2, h3⟩ := h.ex
  exact ⟨⟨A, cp, (hk.block g (Nat.lt_of_lt_of_le h.ng h.bw) fun f => by have := hS g f; have := h.ng; omega).trans h1, h2.keep hk fun z hz f => by have := hS z f; have := h3 z hz; omega, h3⟩, h.ng, Nat.le_trans h.bw hk.size⟩
theorem CdF.no (h : CdF w B g n k x) (hk : Kp No w w1) : CdF w1 B g n k x := h.keep hk fun _ f => f.elim
theorem CdF.of (h : CodeAt w g n k x) (hn : 0 < n) : CdF w w.heap.size g n k x := by
  obtain ⟨A, cp, h1, h2⟩ := h.head
  refine ⟨⟨A, cp, h1, h2, fun z hz => ?_⟩, (Array.getElem?_eq_some_iff.1 h1).1, Nat.le_refl _⟩
  obtain ⟨A', c', e, hn', hc⟩ := h2
  injection e with e1 e2 e3
  subst e1 e3
  rcases A with _ | ad
  · cases hz
  · have hz' : ad.block = z := Option.some.inj hz
    have h0 := hc ad rfl 0 _ (List.getElem?_eq_getElem (by rw [rowL_len]; exact hn))
    have hl := World.block_lt_of_cell? w _ h0
    rw [blk_add] at hl
    omega
end
/-- What is a vault's of all that is a node's. -/
def Fsv (F : Nat → Prop) (g : Nat) (rv : Value) (k : Nat) : Prop := F k ∧ k ≠ g ∧ rv.ownBlock ≠ some k
/-- A node at g, its code at gc, its disk at gd, its vault at gv: all that is its own, but for the code, in F; the code is older than B, F younger. -/
structure SvR (w : World) (F : Nat → Prop) (B n k : Nat) (x : Nat → UInt8) (g gc gd gv b : Nat) (rv : Value) (N : Nd) : Prop where
  blk : BxN w g (.pointer (some ⟨gc, 0, none⟩)) (.pointer (some ⟨gd, 0, none⟩)) (.pointer (some ⟨gv, 0, none⟩)) rv (.int .u64 (N.done : Int))
  cd : CdF w B gc n k x
  vt : VtR w (Fsv F g rv) gv gd b N.V
  rp : OwnT w 0 81 3 rv N.sn.length (rpC N.sn)
  rf : ∀ k, rv.ownBlock = some k → F k
  fg : F g
  fb : ∀ z, F z → B ≤ z
  ok : N.Ok
def SvAt (w : World) (F : Nat → Prop) (B n k : Nat) (x : Nat → UInt8) (g gc gd : Nat) (N : Nd) : Prop := ∃ gv b rv, SvR w F B n k x g gc gd gv b rv N
section
variable {w w1 : World} {F S T : Nat → Prop} {B n k g gc gd gv b : Nat} {x : Nat → UInt8} {rv : Value} {N : Nd}
theorem SvR.ng (h : SvR w F B n k x g gc gd gv b rv N) : rv.ownBlock ≠ some g := fun e => by
  obtain ⟨cur, hc⟩ := h.rp.kind e
  have hb : w.heap[g]? = _ := h.blk
  rw [hb] at hc
  injection hc with hc
  injection hc with _ h2
  exact absurd h2 (by decide)
theorem SvR.keep (h : SvR w F B n k x g gc gd gv b rv N) (hk : Kp S w w1) (hS : ∀ k, k < w.heap.size → F k → ¬ S k) (hB : ∀ z, S z → B ≤ z) : SvR w1 F B n k x g gc gd gv b rv N :=
  ⟨h.blk.keep hk (hS g h.blk.lt h.fg), h.cd.keep hk hB, h.vt.keep hk (fun k hk f => hS k hk f.1), h.rp.keep hk (fun k hk' => hS k (h.rp.lt k hk') (h.rf k hk')), h.rf, h.fg, h.fb, h.ok⟩
theorem SvR.no (h : SvR w F B n k x g gc gd gv b rv N) (hk : Kp No w w1) : SvR w1 F B n k x g gc gd gv b rv N := h.keep hk (fun _ _ _ f => f) fun _ f => f.elim
theorem SvR.mono (h : SvR w F B n k x g gc gd gv b rv N) (hF : ∀ k, F k → T k) (hT : ∀ k, T k → B ≤ k) : SvR w T B n k x g gc gd gv b rv N :=
  ⟨h.blk, h.cd, h.vt.mono fun k f => ⟨hF k f.1, f.2⟩, h.rp, fun k e => hF k (h.rf k e), hF g h.fg, hT, h.ok⟩
theorem SvR.up (h : SvR w F B n k x g gc gd gv b rv N) : ∀ z, Up F w z → B ≤ z := fun z f => f.elim (h.fb z) fun f => Nat.le_trans h.cd.bw f
/-- All that is the node's is in memory. -/
theorem SvR.lt (h : SvR w F B n k x g gc gd gv b rv N) : SvR w (fun z => F z ∧ z < w.heap.size) B n k x g gc gd gv b rv N :=
  ⟨h.blk, h.cd, h.vt.lt.mono fun k f => ⟨⟨f.1.1, f.2⟩, f.1.2⟩, h.rp, fun k e => ⟨h.rf k e, h.rp.lt k e⟩, ⟨h.fg, h.blk.lt⟩, fun z f => h.fb z f.1, h.ok⟩
theorem SvR.rp_int (h : SvR w F B n k x g gc gd gv b rv N) (z : Int) : ¬ rv = .int .u8 z := fun e => by
  obtain ⟨A, c, e2⟩ := h.rp.form
  rw [e2] at e
  cases e
/-- A call on the vault. -/
theorem SvR.vault (h : SvR w F B n k x g gc gd gv b rv N) {V1 : Vt} {b1 : Nat} (hv : VtR w1 (Up (Fsv F g rv) w) gv gd b1 V1) (hk : Kp (Fsv F g rv) w w1) : SvR w1 (Up F w) B n k x g gc gd gv b1 rv ⟨V1, N.sn, N.done⟩ := by
  have l1 := h.blk.lt
  refine ⟨h.blk.keep hk fun f => f.2.1 rfl, h.cd.keep hk fun z f => h.fb z f.1, hv.mono fun k f => ?_, h.rp.keep hk fun k hk' f => f.2.2 hk', fun k e => .inl (h.rf k e), .inl h.fg, h.up, ⟨hv.ok, h.ok.few, h.ok.all⟩⟩
  rcases f with f | f
  · exact ⟨.inl f.1, f.2⟩
  · exact ⟨.inr f, by omega, fun e => by have := h.rp.lt k e; omega⟩
/-- The number of what was done has turned. -/
theorem SvR.count (h : SvR w F B n k x g gc gd gv b rv N) (m : Nat) : SvR (w.setCell ⟨g, 4, none⟩ (.int .u64 (m : Int))) F B n k x g gc gd gv b rv ⟨N.V, N.sn, m⟩ := by
  have K : Kp (fun q => q = g) w (w.setCell ⟨g, 4, none⟩ (.int .u64 (m : Int))) := Kp.setCell (S := fun q => q = g) (p := ⟨g, 4, none⟩) rfl _
  exact ⟨h.blk.set4 _, h.cd.keep K fun z e => e ▸ h.fb g h.fg, h.vt.keep K fun k _ f e => f.2.1 e, h.rp.keep K fun k hk e => h.ng (e ▸ hk), h.rf, h.fg, h.fb, ⟨h.ok.v, h.ok.few, h.ok.all⟩⟩
/-- What is remembered has turned. -/
theorem SvR.reps (h : SvR w F B n k x g gc gd gv b rv N) {sn : List Rp} {rv1 : Value} (hr : OwnT w1 0 81 3 rv1 sn.length (rpC sn)) (hk : Kp (fun q => rv.ownBlock = some q) w w1) (ha : ∀ q, rv1.ownBlock = some q → rv.ownBlock = some q ∨ w.heap.size ≤ q) (hl : sn.length ≤ 32) (ho : ∀ p ∈ sn, Nd.RpOk p) :
    SvR (w1.setCell ⟨g, 3, none⟩ rv1) (Up F w) B n k x g gc gd gv b rv1 ⟨N.V, sn, N.done⟩ := by
  have K : Kp (fun q => q = g) w1 (w1.setCell ⟨g, 3, none⟩ rv1) := Kp.setCell (S := fun q => q = g) (p := ⟨g, 3, none⟩) rfl _
  have h1 := h.blk.keep hk h.ng
  have hng : ∀ q, rv1.ownBlock = some q → ¬ q = g := fun q hq e => by
    subst e
    rcases ha q hq with f | f
    · exact h.ng f
    · have := h.blk.lt
      omega
  have hc : CdF w1 B gc n k x := h.cd.keep hk fun z e => h.fb z (h.rf z e)
  have hlt : ∀ k, Fsv F g rv k → k < w.heap.size → Fsv (Up F w) g rv1 k := fun k f hl => ⟨.inl f.1, f.2.1, fun e => by
    rcases ha k e with f' | f'
    · exact f.2.2 f'
    · omega⟩
  have hv2 : VtR w1 (Fsv (Up F w) g rv1) gv gd b N.V := by
    have hb := (h.vt.lt).keep hk fun k _ f e => f.1.2.2 e
    exact hb.mono fun k f => hlt k f.1 f.2
  refine ⟨h1.set3 _, hc.keep K fun z e => e ▸ h.fb g h.fg, hv2.keep K fun k _ f e => f.2.1 e, hr.keep K fun k hk' e => hng k hk' e, fun k e => (ha k e).imp (h.rf k) fun f => f, .inl h.fg, h.up, ⟨h.ok.v, hl, ho⟩⟩
end
/-- What a call on a node comes to. -/
def SvPost (w : World) (F : Nat → Prop) (B n k : Nat) (x : Nat → UInt8) (g gc gd : Nat) (N : Nd) (v : Ending) (e : Ending) (w1 : World) : Prop := e = v ∧ SvAt w1 (Up F w) B n k x g gc gd N ∧ Kp F w w1
end Go.Proofs.YtnfcfdhlmeimhaaGreat
