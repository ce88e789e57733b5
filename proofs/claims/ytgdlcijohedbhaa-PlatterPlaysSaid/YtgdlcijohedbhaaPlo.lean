/- PlatterPlays walked: it returns true for any numbers and any acts. No condition. -/
import Derived.Test.YtgdlcijohedbhaaPli
import Derived.Test.YtgdlcijohedbhaaPlk
import Derived.Deep.DeepCutAuto
import Derived.Deep.CutBlock
import Derived.OpenShut
namespace Go.Proofs.Ytgdlcijohedbhaa
open Go.RowKit Go.WideShapes Go.ChangeShapes
set_option linter.unusedVariables false
set_option maxRecDepth 20000
set_option linter.unusedSimpArgs false

/-- The box s of the document's disk, and the box a of an act. -/
def X1 (s k : Nat) : Prop := k = s
def X2 (s a k : Nat) : Prop := k = s ∨ k = a
/-- What the law knows: the disk D, the document's E in the box s; all that is the disk's own is the call's own, and lies outside X. -/
structure PpS (W : World) (X : Nat → Prop) (g s : Nat) (D E : Dk) (vc vl : Value) (wr : World) : Prop where
  ex : ∃ (F : Nat → Prop) (cs : List (Value × List UInt8)) (ls : List (Nat × (Value × List UInt8))), DkAt wr F g D ∧ RfR wr (fun k => F k ∨ X k) E vc vl cs ls ∧ ∀ k, F k → W.heap.size ≤ k ∧ k < wr.heap.size ∧ ¬ X k
  bx : BxD wr s E vc vl
  kp : Kp No W wr
  xs : X s
  xW : ∀ k, X k → W.heap.size ≤ k
section
variable {W wr w1 : World} {X : Nat → Prop} {g s a : Nat} {D D' E E' : Dk} {vc vl v : Value} {F : Nat → Prop} {cs : List (Value × List UInt8)} {ls : List (Nat × (Value × List UInt8))}
theorem PpS.no (h : PpS W X g s D E vc vl wr) (hk : Kp No wr w1) : PpS W X g s D E vc vl w1 := by
  obtain ⟨F, cs, ls, h1, h2, h3⟩ := h.ex
  exact ⟨⟨F, cs, ls, h1.no hk, h2.no hk, fun k f => ⟨(h3 k f).1, Nat.lt_of_lt_of_le (h3 k f).2.1 hk.size, (h3 k f).2.2⟩⟩, h.bx.no hk, h.kp.trans' hk, h.xs, h.xW⟩
/-- A call on the disk. -/
theorem PpS.disk (h : PpS W X g s D E vc vl wr) (h2 : RfR wr (fun k => F k ∨ X k) E vc vl cs ls) (h3 : ∀ k, F k → W.heap.size ≤ k ∧ k < wr.heap.size ∧ ¬ X k) (hd : DkAt w1 (Up F wr) g D') (hk : Kp F wr w1) : PpS W X g s D' E vc vl w1 ∧ Kp (fun k => ¬ X k) wr w1 := by
  refine ⟨⟨⟨_, cs, ls, hd.lt, h2.step (hk.mono fun k f => .inl f) fun k f => ?_, fun k f => ⟨?_, f.2, fun x => ?_⟩⟩, (hk.block s h.bx.lt fun f => (h3 s f).2.2 h.xs).trans h.bx, h.kp.trans (hk.mono fun k f => .inr (h3 k f).1), h.xs, h.xW⟩, hk.mono fun k f => (h3 k f).2.2⟩
  · rcases f with ⟨f | f, g⟩ | f
    · exact ⟨.inl (.inl f), g⟩
    · exact ⟨.inr f, g⟩
    · exact ⟨.inl (.inr f), Nat.lt_of_lt_of_le (h2.bd k (.inr f)) hk.size⟩
  · rcases f.1 with f | f
    · exact (h3 k f).1
    · exact Nat.le_trans h.kp.size f
  · rcases f.1 with f | f
    · exact (h3 k f).2.2 x
    · have := h2.bd k (.inr x)
      omega
/-- A call on the document's disk, whose answer goes into its box. -/
theorem PpS.ref (h : PpS W X g s D E vc vl wr) (h1 : DkAt wr F g D) (h3 : ∀ k, F k → W.heap.size ≤ k ∧ k < wr.heap.size ∧ ¬ X k) {vc' vl' : Value} {cs' : List (Value × List UInt8)} {ls' : List (Nat × (Value × List UInt8))} (hr : RfR w1 (fun k => F k ∨ X k) E' vc' vl' cs' ls') (hk : Kp No wr w1) {w2 : World} (hk2 : Kp (fun k => k = s) w1 w2) (hb : BxD w2 s E' vc' vl') :
    PpS W X g s D E' vc' vl' w2 :=
  ⟨⟨F, cs', ls', (h1.no hk).keep hk2 fun k _ f e => (h3 k f).2.2 (by rw [e]; exact h.xs), hr.keep hk2 fun k _ hn e => hn (.inr (by rw [e]; exact h.xs)), fun k f => ⟨(h3 k f).1, Nat.lt_of_lt_of_le (h3 k f).2.1 (Nat.le_trans hk.size hk2.size), (h3 k f).2.2⟩⟩, hb, (h.kp.trans' hk).trans (hk2.mono fun k e => .inr (by rw [e]; exact h.xW s h.xs)), h.xs, h.xW⟩
/-- The act's box is made. -/
theorem PpS.box (h : PpS W (X1 s) g s D E vc vl wr) (o : Obj) : PpS W (X2 s wr.heap.size) g s D E vc vl (wr.alloc o) ∧ s ≠ wr.heap.size := by
  have hs := h.bx.lt
  have h' := h.no (Kp.alloc No wr o)
  obtain ⟨F, cs, ls, h1, h2, h3⟩ := h.ex
  refine ⟨⟨⟨F, cs, ls, h1.no (Kp.alloc No wr o), h2.step (Kp.alloc _ wr o) fun k f => ?_, fun k f => ⟨(h3 k f).1, by have := (h3 k f).2.1; simp; omega, fun x => ?_⟩⟩, h'.bx, h'.kp, .inl rfl, fun k x => ?_⟩, by omega⟩
  · rcases f with f | f | f
    · exact ⟨.inl (.inl f), by have := (h3 k f).2.1; simp; omega⟩
    · exact ⟨.inl (.inr f), by simp; omega⟩
    · exact ⟨.inr (by omega), by simp; omega⟩
  · rcases x with x | x
    · exact (h3 k f).2.2 x
    · have := (h3 k f).2.1
      omega
  · rcases x with x | x
    · exact h.xW k x
    · have := h.kp.size
      omega
theorem PpS.less (h : PpS W (X2 s a) g s D E vc vl wr) : PpS W (X1 s) g s D E vc vl wr := by
  obtain ⟨F, cs, ls, h1, h2, h3⟩ := h.ex
  exact ⟨⟨F, cs, ls, h1, h2.less fun k f => f.imp id .inl, fun k f => ⟨(h3 k f).1, (h3 k f).2.1, fun x => (h3 k f).2.2 (.inl x)⟩⟩, h.bx, h.kp, rfl, fun k x => h.xW k (.inl x)⟩
end
/-- The box of an act. -/
def BxA (w : World) (a : Nat) (d : ActP) (A : Option Addr) (m c : Nat) : Prop := w.heap[a]? = some (.cells #[.int .i64 d.kind, .int .i64 d.cell, .int .i64 d.at_, .int .u8 (d.bits.toNat : Int), .slice A m c] 35 (0, 0))
section
variable {w w1 : World} {S : Nat → Prop} {a : Nat} {d : ActP} {A : Option Addr} {m c : Nat}
theorem BxA.keep (h : BxA w a d A m c) (hk : Kp S w w1) (hS : ¬ S a) : BxA w1 a d A m c := (hk.block a (Array.getElem?_eq_some_iff.1 h).1 hS).trans h
theorem BxA.c0 (h : BxA w a d A m c) : w.cell? ⟨a, 0, none⟩ = some (.int .i64 d.kind) := by rw [cell_of_row w a 0 _ _ _ h]; rfl
theorem BxA.c1 (h : BxA w a d A m c) : w.cell? ⟨a, 1, none⟩ = some (.int .i64 d.cell) := by rw [cell_of_row w a 1 _ _ _ h]; rfl
theorem BxA.c2 (h : BxA w a d A m c) : w.cell? ⟨a, 2, none⟩ = some (.int .i64 d.at_) := by rw [cell_of_row w a 2 _ _ _ h]; rfl
theorem BxA.c3 (h : BxA w a d A m c) : w.cell? ⟨a, 3, none⟩ = some (.int .u8 (d.bits.toNat : Int)) := by rw [cell_of_row w a 3 _ _ _ h]; rfl
theorem BxA.c4 (h : BxA w a d A m c) : w.cell? ⟨a, 4, none⟩ = some (.slice A m c) := by rw [cell_of_row w a 4 _ _ _ h]; rfl
end
/-- What the loop keeps. -/
structure PpI (W : World) (g s k : Nat) (wr : World) : Prop where
  ex : ∃ D gc cc A cl, PpS W (X1 s) g s D D (.slice (some ⟨gc, 0, none⟩) D.cells.length cc) (.slice A D.loose.length cl) wr ∧ D.loose.length ≤ k ∧ D.syncs ≤ k
/-- What a round keeps. -/
structure PpR (W : World) (g s a k : Nat) (d : ActP) (A : Option Addr) (m c : Nat) (wr : World) : Prop where
  ex : ∃ D gc cc A' cl, PpS W (X2 s a) g s D D (.slice (some ⟨gc, 0, none⟩) D.cells.length cc) (.slice A' D.loose.length cl) wr ∧ D.loose.length ≤ k ∧ D.syncs ≤ k
  ba : BxA wr a d A m c
theorem Dk.crash_n (D : Dk) (z y : Int) : (D.crash z y).loose.length = 0 ∧ (D.crash z y).syncs = D.syncs := ⟨rfl, rfl⟩
theorem Dk.spoil_n (D : Dk) (z a : Int) (x : UInt8) : (D.spoil z a x).loose.length = D.loose.length ∧ (D.spoil z a x).syncs = D.syncs := by
  unfold Dk.spoil; split <;> exact ⟨rfl, rfl⟩
theorem Dk.wipe_n (D : Dk) (z : Int) : (D.wipe z).loose.length = D.loose.length ∧ (D.wipe z).syncs = D.syncs := by
  unfold Dk.wipe; split <;> exact ⟨rfl, rfl⟩
theorem Dk.put_n (D : Dk) (z : Int) (b : List UInt8) : (D.put z b).loose.length ≤ D.loose.length + 1 ∧ (D.put z b).syncs = D.syncs := by
  unfold Dk.put
  split
  · simp
  · simp
theorem RfR.forms {w : World} {F : Nat → Prop} {D : Dk} {vc vl : Value} {cs : List (Value × List UInt8)} {ls : List (Nat × (Value × List UInt8))} (h : RfR w F D vc vl cs ls) : ∃ gc cc A cl, vc = .slice (some ⟨gc, 0, none⟩) D.cells.length cc ∧ vl = .slice A D.loose.length cl := by
  obtain ⟨gc, cc, e, _⟩ := h.vc_
  obtain ⟨A, cl, e2, _⟩ := h.vl_
  exact ⟨gc, cc, A, cl, e, e2⟩

set_option maxRecDepth 100000 in
set_option maxHeartbeats 8000000 in
theorem platplays_any (W : World) (x y : Nat) (hx : x < 256) (hy : y < 256) {A0 : Option Addr} {n0 c0 : Nat} {ds : List ActP} (h0 : ActsP W A0 n0 ds) :
    Calls Try.prog 3 #[.int .u8 (x : Int), .int .u8 (y : Int), .slice A0 n0 c0] W (TruePost W) := by
  have hb0 := h0.big
  have HL0 := hide h0.len
  have HA0 := hide h0
  clear h0
  go_enter Try.func3, Try.ntmps3
  go_wp2_with fail
  refine (awake11_any _).mono ?_
  rintro e w0 ⟨rfl, k0⟩
  obtain ⟨n, hn⟩ : ∃ n, n = 1 + x % 12 := ⟨_, rfl⟩
  obtain ⟨z, hz⟩ : ∃ z, z = 1 + y := ⟨_, rfl⟩
  have e1 : (1 : Int) + (x : Int) % 12 = (n : Int) := by omega
  have e2 : (1 : Int) + (y : Int) = (z : Int) := by omega
  have hn1 : 1 ≤ n := by omega
  have hn2 : n ≤ 1024 := by omega
  have hz1 : 1 ≤ z := by omega
  have hz2 : z ≤ 4096 := by omega
  clear hn hz
  go_wp2_with fail
  clear e1 e2 hx hy
  refine (pnew_yes w0 n z hn1 hn2 hz1 hz2).mono ?_
  rintro e w1 ⟨g, rfl, hg, hD1, k1⟩
  have HD1 := hide hD1.lt
  have HK1 := hide (k0.trans' k1)
  have HW0 : Hid (W.heap.size ≤ w0.heap.size) := k0.size
  clear hg hD1 k0 k1
  go_wp2_with fail
  refine (rnew_any w1 (fun k => w0.heap.size ≤ k ∧ k < w1.heap.size) (fun k f => f.2) n z hn1 hn2 hz1 hz2).mono ?_
  rintro e w2 ⟨v, rfl, ⟨vc, vl, cs, ls, rfl, hR⟩, k2⟩
  obtain ⟨gc, cc, A, cl, rfl, rfl⟩ := hR.forms
  have hbx := (BxD.new w2 (Dk.new n z) (.slice (some ⟨gc, 0, none⟩) (Dk.new n z).cells.length cc) (.slice A (Dk.new n z).loose.length cl))
  have hKa := Kp.alloc No w2 (.cells #[.int .i64 ((Dk.new n z).size : Int), .slice (some ⟨gc, 0, none⟩) (Dk.new n z).cells.length cc, .slice A (Dk.new n z).loose.length cl, .int .i64 ((Dk.new n z).syncs : Int)] 31)
  have hI0 : PpI W g w2.heap.size 0 _ := ⟨⟨Dk.new n z, gc, cc, A, cl, ⟨⟨_, cs, ls, (HD1.out.no k2).no hKa, hR.step (hKa.of_no _) (F1 := fun k => (w0.heap.size ≤ k ∧ k < w1.heap.size) ∨ X1 w2.heap.size k) (fun k f => by
      rcases f with f | f
      · exact ⟨.inl f, by have h1 := f.2; have h2 := k2.size; have h3 := hKa.size; omega⟩
      · exact ⟨.inr (by have h1 : k = w2.heap.size := f; omega), by have h1 : k = w2.heap.size := f; have h2 := hbx.lt; omega⟩), fun k f => ⟨Nat.le_trans HW0.out f.1, by have h1 := f.2; have h2 := k2.size; have h3 := hKa.size; omega, fun e => by have h1 : k = w2.heap.size := e; have h2 := f.2; have h3 := k2.size; omega⟩⟩, hbx, (HK1.out.trans' k2).trans' hKa, rfl, fun k e => by have h1 : k = w2.heap.size := e; have h2 := (HK1.out.trans' k2).size; omega⟩, Nat.le_refl _, Nat.le_refl _⟩⟩
  have HI0 := hide hI0
  clear hI0 hbx hKa hR k2
  unfold rfV
  go_upto_region 6 with (fail)
  generalize hw3 : w2.alloc (.cells #[.int .i64 ((Dk.new n z).size : Int), .slice (some ⟨gc, 0, none⟩) (Dk.new n z).cells.length cc, .slice A (Dk.new n z).loose.length cl, .int .i64 ((Dk.new n z).syncs : Int)] 31) = w3 at HI0 ⊢
  clear hw3
  generalize w2.heap.size = s at HI0 ⊢
  go_wp2_with fail
  go_loopw [12] (fun i wr => ∃ k : Nat, k ≤ n0 ∧ k ≤ 40 ∧ i = .int .i64 (k : Int) ∧ PpI W g s k wr) (fun i _ => 40 - (intOf i).toNat)
  case atStart => exact ⟨0, Nat.zero_le _, by omega, rfl, HI0.out⟩
  case round =>
    obtain ⟨k, hk, hk40, rfl, hI⟩ := hrel
    by_cases hlt : k < n0
    · by_cases hl40 : k < 40
      · obtain ⟨d, hd⟩ : ∃ d, ds[k]? = some d := ⟨_, List.getElem?_eq_getElem (by have := HL0.out; omega)⟩
        obtain ⟨D, gc, cc, A, cl, hS, hl, hs⟩ := hI.ex
        obtain ⟨B, off, A', m, c', rfl, ha⟩ := HA0.out.at_ k d hd
        have ha2 := ha.no hS.kp
        have x0 := ha2.c0
        have x1 := ha2.c1
        have x2 := ha2.c2
        have x3 := ha2.c3
        have x4 := ha2.c4
        have hms := ha.small
        have HS0 := hide hS
        have HBW := hide ha.bts
        have HRO := hide ha.room
        clear hI hS hd ha ha2
        go_upto_if 58 with (fail)
        have hbox := HS0.out.box (.cells #[.int .i64 d.kind, .int .i64 d.cell, .int .i64 d.at_, .int .u8 (d.bits.toNat : Int), .slice A' m c'] 35)
        have HS := hide hbox.1
        have HNE : Hid (s ≠ wr.heap.size) := hbox.2
        have HBA : Hid (BxA (wr.alloc (.cells #[.int .i64 d.kind, .int .i64 d.cell, .int .i64 d.at_, .int .u8 (d.bits.toNat : Int), .slice A' m c'] 35)) wr.heap.size d A' m c') := heap_alloc_new wr _
        clear hbox HS0 x0 x1 x2 x3 x4
        generalize wr.alloc (.cells #[.int .i64 d.kind, .int .i64 d.cell, .int .i64 d.at_, .int .u8 (d.bits.toNat : Int), .slice A' m c'] 35) = w4 at HS HBA ⊢
        generalize wr.heap.size = sa at HS HNE HBA ⊢
        have HML := hide HBW.out.len
        by_cases hm : 400 < m
        · have hm2 : (400 : Int) < (m : Int) := by omega
          have HK := hide HS.out.kp
          go_wp2_with fail
          refine (awake11_any _).mono ?_
          rintro e w9 ⟨rfl, k9⟩
          go_wp2_with fail
          go_ret
          exact ⟨rfl, HK.out.trans' k9⟩
        · have hm2 : ¬ (400 : Int) < (m : Int) := by omega
          have y0 := HBA.out.c0
          go_upto_block 2 with fail
          clear y0
          go_cut [10, 14] (fun v10 v14 wx => ∃ q : Nat, v10 = .int .i64 (q : Int) ∧ v14 = .int .i64 (q : Int) ∧ PpR W g s sa (k + 1) d A' m c' wx)
          case first =>
            by_cases e1 : d.kind = 1
            · have t1 : (d.kind == 1) = true := by simp [e1]
              clear e1
              obtain ⟨F, cs, ls, hD, hR, hF⟩ := HS.out.ex
              have HD := hide hD
              have HRR := hide hR
              have HF := hide hF
              clear hD hR hF
              have ax0 := HS.out.bx.c0
              have ax1 := HS.out.bx.c1
              have ax2 := HS.out.bx.c2
              have ax3 := HS.out.bx.c3
              have af0 := HS.out.bx.fz 0
              have af1 := HS.out.bx.fz 1
              have af2 := HS.out.bx.fz 2
              have af3 := HS.out.bx.fz 3
              have aa0 := HBA.out.c0
              have aa1 := HBA.out.c1
              have aa2 := HBA.out.c2
              have aa3 := HBA.out.c3
              have aa4 := HBA.out.c4
              go_wp2_with fail
              refine (psync_any HD.out (by omega) (by omega)).mono ?_
              rintro e w3 ⟨rfl, hd3, hk3⟩
              have hS3 := HS.out.disk HRR.out HF.out hd3 hk3
              have HBA3 := hide (HBA.out.keep hS3.2 fun h => h (.inr rfl))
              have HS3 := hide hS3.1
              clear ax0 af0 ax1 af1 ax2 af2 ax3 af3
              clear aa0 aa1 aa2 aa3 aa4
              clear hd3 hk3 hS3
              obtain ⟨F3, cs3, ls3, hD3, hR3, hF3⟩ := HS3.out.ex
              have HD3 := hide hD3
              have HRR3 := hide hR3
              have HF3 := hide hF3
              clear hD3 hR3 hF3
              have bx0 := HS3.out.bx.c0
              have bx1 := HS3.out.bx.c1
              have bx2 := HS3.out.bx.c2
              have bx3 := HS3.out.bx.c3
              have bf0 := HS3.out.bx.fz 0
              have bf1 := HS3.out.bx.fz 1
              have bf2 := HS3.out.bx.fz 2
              have bf3 := HS3.out.bx.fz 3
              have ba0 := HBA3.out.c0
              have ba1 := HBA3.out.c1
              have ba2 := HBA3.out.c2
              have ba3 := HBA3.out.c3
              have ba4 := HBA3.out.c4
              go_wp2_with fail
              refine (rsync_any ⟨_, _, _, _, rfl, HRR3.out⟩ (by omega) (by omega)).mono ?_
              rintro e w5 ⟨v5, rfl, ⟨vc5, vl5, cs5, ls5, rfl, hR5⟩, k5⟩
              obtain ⟨g5, c5, A5, cl5, rfl, rfl⟩ := hR5.forms
              clear bx0 bf0 bx1 bf1 bx2 bf2 bx3 bf3
              clear ba0 ba1 ba2 ba3 ba4
              have hB5 : BxD ((((w5.setCell ⟨s, 0, none⟩ (.int .i64 ((D.sync).size : Int))).setCell ⟨s, 1, none⟩ (.slice (some ⟨g5, 0, none⟩) (D.sync).cells.length c5)).setCell ⟨s, 2, none⟩ (.slice A5 (D.sync).loose.length cl5)).setCell ⟨s, 3, none⟩ (.int .i64 ((D.sync).syncs : Int))) s (D.sync) (.slice (some ⟨g5, 0, none⟩) (D.sync).cells.length c5) (.slice A5 (D.sync).loose.length cl5) := (HS3.out.no k5).bx.set4
              have HS5 := hide (HS3.out.ref HD3.out HF3.out hR5 k5 (kp_set4 w5 s (.int .i64 ((D.sync).size : Int)) (.slice (some ⟨g5, 0, none⟩) (D.sync).cells.length c5) (.slice A5 (D.sync).loose.length cl5) (.int .i64 ((D.sync).syncs : Int))) hB5)
              have HBA5 := hide ((HBA3.out.keep k5 fun f => f).keep (kp_set4 w5 s (.int .i64 ((D.sync).size : Int)) (.slice (some ⟨g5, 0, none⟩) (D.sync).cells.length c5) (.slice A5 (D.sync).loose.length cl5) (.int .i64 ((D.sync).syncs : Int))) (Ne.symm HNE.out))
              have cx0 := (HS3.out.no k5).bx.c0
              have cx1 := (HS3.out.no k5).bx.c1
              have cx2 := (HS3.out.no k5).bx.c2
              have cx3 := (HS3.out.no k5).bx.c3
              have cf0 := (HS3.out.no k5).bx.fz 0
              have cf1 := (HS3.out.no k5).bx.fz 1
              have cf2 := (HS3.out.no k5).bx.fz 2
              have cf3 := (HS3.out.no k5).bx.fz 3
              clear hR5 k5 hB5
              unfold rfV
              dsimp only [id]
              go_wp2_with fail
              go_meet
              exact ⟨0, rfl, rfl, ⟨⟨D.sync, g5, c5, A5, cl5, HS5.out, Nat.zero_le _, by show D.syncs + 1 ≤ k + 1; omega⟩, HBA5.out⟩⟩
            by_cases e2 : d.kind = 2
            · have t1 : (d.kind == 1) = false := by simp [e1]
              have t2 : (d.kind == 2) = true := by simp [e2]
              clear e1 e2
              obtain ⟨F, cs, ls, hD, hR, hF⟩ := HS.out.ex
              have HD := hide hD
              have HRR := hide hR
              have HF := hide hF
              clear hD hR hF
              have ax0 := HS.out.bx.c0
              have ax1 := HS.out.bx.c1
              have ax2 := HS.out.bx.c2
              have ax3 := HS.out.bx.c3
              have af0 := HS.out.bx.fz 0
              have af1 := HS.out.bx.fz 1
              have af2 := HS.out.bx.fz 2
              have af3 := HS.out.bx.fz 3
              have aa0 := HBA.out.c0
              have aa1 := HBA.out.c1
              have aa2 := HBA.out.c2
              have aa3 := HBA.out.c3
              have aa4 := HBA.out.c4
              go_wp2_with fail
              refine (rcrash_any ⟨_, _, _, _, rfl, HRR.out⟩ (by omega) d.cell d.at_).mono ?_
              rintro e w5 ⟨v5, rfl, ⟨vc5, vl5, cs5, ls5, rfl, hR5⟩, k5⟩
              obtain ⟨g5, c5, A5, cl5, rfl, rfl⟩ := hR5.forms
              clear ax0 af0 ax1 af1 ax2 af2 ax3 af3
              clear aa0 aa1 aa2 aa3 aa4
              have hB5 : BxD ((((w5.setCell ⟨s, 0, none⟩ (.int .i64 ((D.crash d.cell d.at_).size : Int))).setCell ⟨s, 1, none⟩ (.slice (some ⟨g5, 0, none⟩) (D.crash d.cell d.at_).cells.length c5)).setCell ⟨s, 2, none⟩ (.slice A5 (D.crash d.cell d.at_).loose.length cl5)).setCell ⟨s, 3, none⟩ (.int .i64 ((D.crash d.cell d.at_).syncs : Int))) s (D.crash d.cell d.at_) (.slice (some ⟨g5, 0, none⟩) (D.crash d.cell d.at_).cells.length c5) (.slice A5 (D.crash d.cell d.at_).loose.length cl5) := (HS.out.no k5).bx.set4
              have HS5 := hide ((HS.out.ref HD.out HF.out hR5 k5 (kp_set4 w5 s (.int .i64 ((D.crash d.cell d.at_).size : Int)) (.slice (some ⟨g5, 0, none⟩) (D.crash d.cell d.at_).cells.length c5) (.slice A5 (D.crash d.cell d.at_).loose.length cl5) (.int .i64 ((D.crash d.cell d.at_).syncs : Int))) hB5).no (Kp.alloc No _ (.cells #[.int .i64 ((D.crash d.cell d.at_).size : Int), .slice (some ⟨g5, 0, none⟩) (D.crash d.cell d.at_).cells.length c5, .slice A5 (D.crash d.cell d.at_).loose.length cl5, .int .i64 ((D.crash d.cell d.at_).syncs : Int)] 31)))
              have HBA5 := hide (((HBA.out.keep k5 fun f => f).keep (kp_set4 w5 s (.int .i64 ((D.crash d.cell d.at_).size : Int)) (.slice (some ⟨g5, 0, none⟩) (D.crash d.cell d.at_).cells.length c5) (.slice A5 (D.crash d.cell d.at_).loose.length cl5) (.int .i64 ((D.crash d.cell d.at_).syncs : Int))) (Ne.symm HNE.out)).keep (Kp.alloc No _ (.cells #[.int .i64 ((D.crash d.cell d.at_).size : Int), .slice (some ⟨g5, 0, none⟩) (D.crash d.cell d.at_).cells.length c5, .slice A5 (D.crash d.cell d.at_).loose.length cl5, .int .i64 ((D.crash d.cell d.at_).syncs : Int)] 31)) fun f => f)
              have hsl := (HS.out.no k5).bx.lt
              have cx0 := (HS.out.no k5).bx.c0
              have cx1 := (HS.out.no k5).bx.c1
              have cx2 := (HS.out.no k5).bx.c2
              have cx3 := (HS.out.no k5).bx.c3
              have cf0 := (HS.out.no k5).bx.fz 0
              have cf1 := (HS.out.no k5).bx.fz 1
              have cf2 := (HS.out.no k5).bx.fz 2
              have cf3 := (HS.out.no k5).bx.fz 3
              clear hR5 k5 hB5
              unfold rfV tupE
              go_upto_region 24 with (fail)
              clear cx0 cf0 cx1 cf1 cx2 cf2 cx3 cf3
              clear hsl
              generalize ((((w5.setCell ⟨s, 0, none⟩ (.int .i64 ((D.crash d.cell d.at_).size : Int))).setCell ⟨s, 1, none⟩ (.slice (some ⟨g5, 0, none⟩) (D.crash d.cell d.at_).cells.length c5)).setCell ⟨s, 2, none⟩ (.slice A5 (D.crash d.cell d.at_).loose.length cl5)).setCell ⟨s, 3, none⟩ (.int .i64 ((D.crash d.cell d.at_).syncs : Int))).alloc (.cells #[.int .i64 ((D.crash d.cell d.at_).size : Int), .slice (some ⟨g5, 0, none⟩) (D.crash d.cell d.at_).cells.length c5, .slice A5 (D.crash d.cell d.at_).loose.length cl5, .int .i64 ((D.crash d.cell d.at_).syncs : Int)] 31) = w6 at HS5 HBA5 ⊢
              obtain ⟨F6, cs6, ls6, hD6, hR6, hF6⟩ := HS5.out.ex
              have HD6 := hide hD6
              have HRR6 := hide hR6
              have HF6 := hide hF6
              clear hD6 hR6 hF6
              have ba0 := HBA5.out.c0
              have ba1 := HBA5.out.c1
              have ba2 := HBA5.out.c2
              have ba3 := HBA5.out.c3
              have ba4 := HBA5.out.c4
              go_wp2_with fail
              refine (pcrash_any HD6.out (by omega) d.cell d.at_).mono ?_
              rintro e w7 ⟨rfl, hd7, hk7⟩
              have hS7 := HS5.out.disk HRR6.out HF6.out hd7 hk7
              have HBA7 := hide (HBA5.out.keep hS7.2 fun h => h (.inr rfl))
              have HS7 := hide hS7.1
              clear ba0 ba1 ba2 ba3 ba4
              clear hd7 hk7 hS7
              go_wp2_with fail
              go_meet
              exact ⟨0, rfl, rfl, ⟨⟨D.crash d.cell d.at_, g5, c5, A5, cl5, HS7.out, by have h1 := (D.crash_n d.cell d.at_).1; omega, by have h1 := (D.crash_n d.cell d.at_).2; omega⟩, HBA7.out⟩⟩
            by_cases e3 : d.kind = 3
            · have t1 : (d.kind == 1) = false := by simp [e1]
              have t2 : (d.kind == 2) = false := by simp [e2]
              have t3 : (d.kind == 3) = true := by simp [e3]
              clear e1 e2 e3
              obtain ⟨F, cs, ls, hD, hR, hF⟩ := HS.out.ex
              have HD := hide hD
              have HRR := hide hR
              have HF := hide hF
              clear hD hR hF
              have ax0 := HS.out.bx.c0
              have ax1 := HS.out.bx.c1
              have ax2 := HS.out.bx.c2
              have ax3 := HS.out.bx.c3
              have af0 := HS.out.bx.fz 0
              have af1 := HS.out.bx.fz 1
              have af2 := HS.out.bx.fz 2
              have af3 := HS.out.bx.fz 3
              have aa0 := HBA.out.c0
              have aa1 := HBA.out.c1
              have aa2 := HBA.out.c2
              have aa3 := HBA.out.c3
              have aa4 := HBA.out.c4
              go_wp2_with fail
              refine (pspoil_any HD.out d.cell d.at_ d.bits).mono ?_
              rintro e w3 ⟨rfl, hd3, hk3⟩
              have hS3 := HS.out.disk HRR.out HF.out hd3 hk3
              have HBA3 := hide (HBA.out.keep hS3.2 fun h => h (.inr rfl))
              have HS3 := hide hS3.1
              clear ax0 af0 ax1 af1 ax2 af2 ax3 af3
              clear aa0 aa1 aa2 aa3 aa4
              clear hd3 hk3 hS3
              obtain ⟨F3, cs3, ls3, hD3, hR3, hF3⟩ := HS3.out.ex
              have HD3 := hide hD3
              have HRR3 := hide hR3
              have HF3 := hide hF3
              clear hD3 hR3 hF3
              have bx0 := HS3.out.bx.c0
              have bx1 := HS3.out.bx.c1
              have bx2 := HS3.out.bx.c2
              have bx3 := HS3.out.bx.c3
              have bf0 := HS3.out.bx.fz 0
              have bf1 := HS3.out.bx.fz 1
              have bf2 := HS3.out.bx.fz 2
              have bf3 := HS3.out.bx.fz 3
              have ba0 := HBA3.out.c0
              have ba1 := HBA3.out.c1
              have ba2 := HBA3.out.c2
              have ba3 := HBA3.out.c3
              have ba4 := HBA3.out.c4
              go_wp2_with fail
              refine (rspoil_any ⟨_, _, _, _, rfl, HRR3.out⟩ d.cell d.at_ d.bits).mono ?_
              rintro e w5 ⟨v5, rfl, ⟨vc5, vl5, cs5, ls5, rfl, hR5⟩, k5⟩
              obtain ⟨g5, c5, A5, cl5, rfl, rfl⟩ := hR5.forms
              clear bx0 bf0 bx1 bf1 bx2 bf2 bx3 bf3
              clear ba0 ba1 ba2 ba3 ba4
              have hB5 : BxD ((((w5.setCell ⟨s, 0, none⟩ (.int .i64 ((D.spoil d.cell d.at_ d.bits).size : Int))).setCell ⟨s, 1, none⟩ (.slice (some ⟨g5, 0, none⟩) (D.spoil d.cell d.at_ d.bits).cells.length c5)).setCell ⟨s, 2, none⟩ (.slice A5 (D.spoil d.cell d.at_ d.bits).loose.length cl5)).setCell ⟨s, 3, none⟩ (.int .i64 ((D.spoil d.cell d.at_ d.bits).syncs : Int))) s (D.spoil d.cell d.at_ d.bits) (.slice (some ⟨g5, 0, none⟩) (D.spoil d.cell d.at_ d.bits).cells.length c5) (.slice A5 (D.spoil d.cell d.at_ d.bits).loose.length cl5) := (HS3.out.no k5).bx.set4
              have HS5 := hide (HS3.out.ref HD3.out HF3.out hR5 k5 (kp_set4 w5 s (.int .i64 ((D.spoil d.cell d.at_ d.bits).size : Int)) (.slice (some ⟨g5, 0, none⟩) (D.spoil d.cell d.at_ d.bits).cells.length c5) (.slice A5 (D.spoil d.cell d.at_ d.bits).loose.length cl5) (.int .i64 ((D.spoil d.cell d.at_ d.bits).syncs : Int))) hB5)
              have HBA5 := hide ((HBA3.out.keep k5 fun f => f).keep (kp_set4 w5 s (.int .i64 ((D.spoil d.cell d.at_ d.bits).size : Int)) (.slice (some ⟨g5, 0, none⟩) (D.spoil d.cell d.at_ d.bits).cells.length c5) (.slice A5 (D.spoil d.cell d.at_ d.bits).loose.length cl5) (.int .i64 ((D.spoil d.cell d.at_ d.bits).syncs : Int))) (Ne.symm HNE.out))
              have cx0 := (HS3.out.no k5).bx.c0
              have cx1 := (HS3.out.no k5).bx.c1
              have cx2 := (HS3.out.no k5).bx.c2
              have cx3 := (HS3.out.no k5).bx.c3
              have cf0 := (HS3.out.no k5).bx.fz 0
              have cf1 := (HS3.out.no k5).bx.fz 1
              have cf2 := (HS3.out.no k5).bx.fz 2
              have cf3 := (HS3.out.no k5).bx.fz 3
              clear hR5 k5 hB5
              unfold rfV tupE
              go_wp2_with fail
              go_meet
              exact ⟨_, rfl, rfl, ⟨⟨D.spoil d.cell d.at_ d.bits, g5, c5, A5, cl5, HS5.out, by have h1 := (D.spoil_n d.cell d.at_ d.bits).1; omega, by have h1 := (D.spoil_n d.cell d.at_ d.bits).2; omega⟩, HBA5.out⟩⟩
            by_cases e4 : d.kind = 4
            · have t1 : (d.kind == 1) = false := by simp [e1]
              have t2 : (d.kind == 2) = false := by simp [e2]
              have t3 : (d.kind == 3) = false := by simp [e3]
              have t4 : (d.kind == 4) = true := by simp [e4]
              clear e1 e2 e3 e4
              obtain ⟨F, cs, ls, hD, hR, hF⟩ := HS.out.ex
              have HD := hide hD
              have HRR := hide hR
              have HF := hide hF
              clear hD hR hF
              have ax0 := HS.out.bx.c0
              have ax1 := HS.out.bx.c1
              have ax2 := HS.out.bx.c2
              have ax3 := HS.out.bx.c3
              have af0 := HS.out.bx.fz 0
              have af1 := HS.out.bx.fz 1
              have af2 := HS.out.bx.fz 2
              have af3 := HS.out.bx.fz 3
              have aa0 := HBA.out.c0
              have aa1 := HBA.out.c1
              have aa2 := HBA.out.c2
              have aa3 := HBA.out.c3
              have aa4 := HBA.out.c4
              go_wp2_with fail
              refine (pwipe_any HD.out d.cell).mono ?_
              rintro e w3 ⟨rfl, hd3, hk3⟩
              have hS3 := HS.out.disk HRR.out HF.out hd3 hk3
              have HBA3 := hide (HBA.out.keep hS3.2 fun h => h (.inr rfl))
              have HS3 := hide hS3.1
              clear ax0 af0 ax1 af1 ax2 af2 ax3 af3
              clear aa0 aa1 aa2 aa3 aa4
              clear hd3 hk3 hS3
              obtain ⟨F3, cs3, ls3, hD3, hR3, hF3⟩ := HS3.out.ex
              have HD3 := hide hD3
              have HRR3 := hide hR3
              have HF3 := hide hF3
              clear hD3 hR3 hF3
              have bx0 := HS3.out.bx.c0
              have bx1 := HS3.out.bx.c1
              have bx2 := HS3.out.bx.c2
              have bx3 := HS3.out.bx.c3
              have bf0 := HS3.out.bx.fz 0
              have bf1 := HS3.out.bx.fz 1
              have bf2 := HS3.out.bx.fz 2
              have bf3 := HS3.out.bx.fz 3
              have ba0 := HBA3.out.c0
              have ba1 := HBA3.out.c1
              have ba2 := HBA3.out.c2
              have ba3 := HBA3.out.c3
              have ba4 := HBA3.out.c4
              go_wp2_with fail
              refine (rwipe_any ⟨_, _, _, _, rfl, HRR3.out⟩ d.cell).mono ?_
              rintro e w5 ⟨v5, rfl, ⟨vc5, vl5, cs5, ls5, rfl, hR5⟩, k5⟩
              obtain ⟨g5, c5, A5, cl5, rfl, rfl⟩ := hR5.forms
              clear bx0 bf0 bx1 bf1 bx2 bf2 bx3 bf3
              clear ba0 ba1 ba2 ba3 ba4
              have hB5 : BxD ((((w5.setCell ⟨s, 0, none⟩ (.int .i64 ((D.wipe d.cell).size : Int))).setCell ⟨s, 1, none⟩ (.slice (some ⟨g5, 0, none⟩) (D.wipe d.cell).cells.length c5)).setCell ⟨s, 2, none⟩ (.slice A5 (D.wipe d.cell).loose.length cl5)).setCell ⟨s, 3, none⟩ (.int .i64 ((D.wipe d.cell).syncs : Int))) s (D.wipe d.cell) (.slice (some ⟨g5, 0, none⟩) (D.wipe d.cell).cells.length c5) (.slice A5 (D.wipe d.cell).loose.length cl5) := (HS3.out.no k5).bx.set4
              have HS5 := hide (HS3.out.ref HD3.out HF3.out hR5 k5 (kp_set4 w5 s (.int .i64 ((D.wipe d.cell).size : Int)) (.slice (some ⟨g5, 0, none⟩) (D.wipe d.cell).cells.length c5) (.slice A5 (D.wipe d.cell).loose.length cl5) (.int .i64 ((D.wipe d.cell).syncs : Int))) hB5)
              have HBA5 := hide ((HBA3.out.keep k5 fun f => f).keep (kp_set4 w5 s (.int .i64 ((D.wipe d.cell).size : Int)) (.slice (some ⟨g5, 0, none⟩) (D.wipe d.cell).cells.length c5) (.slice A5 (D.wipe d.cell).loose.length cl5) (.int .i64 ((D.wipe d.cell).syncs : Int))) (Ne.symm HNE.out))
              have cx0 := (HS3.out.no k5).bx.c0
              have cx1 := (HS3.out.no k5).bx.c1
              have cx2 := (HS3.out.no k5).bx.c2
              have cx3 := (HS3.out.no k5).bx.c3
              have cf0 := (HS3.out.no k5).bx.fz 0
              have cf1 := (HS3.out.no k5).bx.fz 1
              have cf2 := (HS3.out.no k5).bx.fz 2
              have cf3 := (HS3.out.no k5).bx.fz 3
              clear hR5 k5 hB5
              unfold rfV tupE
              go_wp2_with fail
              go_meet
              exact ⟨_, rfl, rfl, ⟨⟨D.wipe d.cell, g5, c5, A5, cl5, HS5.out, by have h1 := (D.wipe_n d.cell).1; omega, by have h1 := (D.wipe_n d.cell).2; omega⟩, HBA5.out⟩⟩
            · have t1 : (d.kind == 1) = false := by simp [e1]
              have t2 : (d.kind == 2) = false := by simp [e2]
              have t3 : (d.kind == 3) = false := by simp [e3]
              have t4 : (d.kind == 4) = false := by simp [e4]
              clear e1 e2 e3 e4
              obtain ⟨F, cs, ls, hD, hR, hF⟩ := HS.out.ex
              have HD := hide hD
              have HRR := hide hR
              have HF := hide hF
              clear hD hR hF
              have ax0 := HS.out.bx.c0
              have ax1 := HS.out.bx.c1
              have ax2 := HS.out.bx.c2
              have ax3 := HS.out.bx.c3
              have af0 := HS.out.bx.fz 0
              have af1 := HS.out.bx.fz 1
              have af2 := HS.out.bx.fz 2
              have af3 := HS.out.bx.fz 3
              have aa0 := HBA.out.c0
              have aa1 := HBA.out.c1
              have aa2 := HBA.out.c2
              have aa3 := HBA.out.c3
              have aa4 := HBA.out.c4
              go_wp2_with fail
              refine (pwrite_any HD.out (HBW.out.no HS.out.kp) (by omega) d.cell).mono ?_
              rintro e w3 ⟨rfl, hd3, hk3⟩
              have hS3 := HS.out.disk HRR.out HF.out hd3 hk3
              have HBA3 := hide (HBA.out.keep hS3.2 fun h => h (.inr rfl))
              have HS3 := hide hS3.1
              clear ax0 af0 ax1 af1 ax2 af2 ax3 af3
              clear aa0 aa1 aa2 aa3 aa4
              clear hd3 hk3 hS3
              obtain ⟨F3, cs3, ls3, hD3, hR3, hF3⟩ := HS3.out.ex
              have HD3 := hide hD3
              have HRR3 := hide hR3
              have HF3 := hide hF3
              clear hD3 hR3 hF3
              have bx0 := HS3.out.bx.c0
              have bx1 := HS3.out.bx.c1
              have bx2 := HS3.out.bx.c2
              have bx3 := HS3.out.bx.c3
              have bf0 := HS3.out.bx.fz 0
              have bf1 := HS3.out.bx.fz 1
              have bf2 := HS3.out.bx.fz 2
              have bf3 := HS3.out.bx.fz 3
              have ba0 := HBA3.out.c0
              have ba1 := HBA3.out.c1
              have ba2 := HBA3.out.c2
              have ba3 := HBA3.out.c3
              have ba4 := HBA3.out.c4
              go_wp2_with fail
              refine (rput_any ⟨_, _, _, _, rfl, HRR3.out⟩ (BtF.mk_ (HBW.out.no HS3.out.kp) (fun hb k hk f => by have h1 := ((BtF.mk_ (F := fun _ => False) HBW.out (fun _ _ _ f => f) (fun A n c e => by injection e with e1 e2 e3; subst e2 e3; exact HRO.out)).2 hb k hk).2; exact absurd ((f.elim (fun f => (HF3.out k f).1) fun f => HS3.out.xW k f)) (by omega)) (fun A n c e => by injection e with e1 e2 e3; subst e2 e3; exact HRO.out)) (by omega) d.cell).mono ?_
              rintro e w5 ⟨v5, rfl, ⟨vc5, vl5, cs5, ls5, rfl, hR5⟩, k5⟩
              obtain ⟨g5, c5, A5, cl5, rfl, rfl⟩ := hR5.forms
              clear bx0 bf0 bx1 bf1 bx2 bf2 bx3 bf3
              clear ba0 ba1 ba2 ba3 ba4
              have hB5 : BxD ((((w5.setCell ⟨s, 0, none⟩ (.int .i64 ((D.put d.cell d.b).size : Int))).setCell ⟨s, 1, none⟩ (.slice (some ⟨g5, 0, none⟩) (D.put d.cell d.b).cells.length c5)).setCell ⟨s, 2, none⟩ (.slice A5 (D.put d.cell d.b).loose.length cl5)).setCell ⟨s, 3, none⟩ (.int .i64 ((D.put d.cell d.b).syncs : Int))) s (D.put d.cell d.b) (.slice (some ⟨g5, 0, none⟩) (D.put d.cell d.b).cells.length c5) (.slice A5 (D.put d.cell d.b).loose.length cl5) := (HS3.out.no k5).bx.set4
              have HS5 := hide (HS3.out.ref HD3.out HF3.out hR5 k5 (kp_set4 w5 s (.int .i64 ((D.put d.cell d.b).size : Int)) (.slice (some ⟨g5, 0, none⟩) (D.put d.cell d.b).cells.length c5) (.slice A5 (D.put d.cell d.b).loose.length cl5) (.int .i64 ((D.put d.cell d.b).syncs : Int))) hB5)
              have HBA5 := hide ((HBA3.out.keep k5 fun f => f).keep (kp_set4 w5 s (.int .i64 ((D.put d.cell d.b).size : Int)) (.slice (some ⟨g5, 0, none⟩) (D.put d.cell d.b).cells.length c5) (.slice A5 (D.put d.cell d.b).loose.length cl5) (.int .i64 ((D.put d.cell d.b).syncs : Int))) (Ne.symm HNE.out))
              have cx0 := (HS3.out.no k5).bx.c0
              have cx1 := (HS3.out.no k5).bx.c1
              have cx2 := (HS3.out.no k5).bx.c2
              have cx3 := (HS3.out.no k5).bx.c3
              have cf0 := (HS3.out.no k5).bx.fz 0
              have cf1 := (HS3.out.no k5).bx.fz 1
              have cf2 := (HS3.out.no k5).bx.fz 2
              have cf3 := (HS3.out.no k5).bx.fz 3
              clear hR5 k5 hB5
              unfold rfV tupE
              go_wp2_with fail
              go_meet
              exact ⟨_, rfl, rfl, ⟨⟨D.put d.cell d.b, g5, c5, A5, cl5, HS5.out, by have h1 := (D.put_n d.cell d.b).1; omega, by have h1 := (D.put_n d.cell d.b).2; omega⟩, HBA5.out⟩⟩
          case rest =>
          obtain ⟨q, rfl, rfl, ⟨D2, gc2, cc2, A2, cl2, hS2, hl2, hs2⟩, hba2⟩ := hcut
          obtain ⟨F2, cs2, ls2, hD2, hR2, hF2⟩ := hS2.ex
          have HKW := hide hS2.kp
          have y0 : wc.drew.cell? ⟨s, 0, none⟩ = some (.int .i64 (D2.size : Int)) := hS2.bx.c0
          have y1 : wc.drew.cell? ⟨s, 1, none⟩ = some (.slice (some ⟨gc2, 0, none⟩) D2.cells.length cc2) := hS2.bx.c1
          have y2 : wc.drew.cell? ⟨s, 2, none⟩ = some (.slice A2 D2.loose.length cl2) := hS2.bx.c2
          have y3 : wc.drew.cell? ⟨s, 3, none⟩ = some (.int .i64 (D2.syncs : Int)) := hS2.bx.c3
          have y4 : wc.drew.cell? ⟨sa, 1, none⟩ = some (.int .i64 d.cell) := hba2.c1
          have HS2 := hide hS2
          have HD := hide (show ∀ w', Kp No wc w' → DkAt w' F2 g D2 from fun w' hk => hD2.no hk)
          have HRf := hide (show ∀ w', Kp No wc w' → RfAt w' (fun k => F2 k ∨ X2 s sa k) D2 (rfV D2 (.slice (some ⟨gc2, 0, none⟩) D2.cells.length cc2) (.slice A2 D2.loose.length cl2)) from fun w' hk => ⟨_, _, _, _, rfl, hR2.no hk⟩)
          have HRR := hide (show ∀ w', Kp No wc w' → RfR w' (fun k => F2 k ∨ X2 s sa k) D2 (.slice (some ⟨gc2, 0, none⟩) D2.cells.length cc2) (.slice A2 D2.loose.length cl2) cs2 ls2 from fun w' hk => hR2.no hk)
          obtain ⟨tb, htb⟩ : ∃ t, t = strOf (D2.rd d.cell) := ⟨_, rfl⟩
          have HTB := hide htb
          have HL2 := hide hl2
          have HS2L := hide hs2
          have HKD : Hid (Kp No wc wc.drew) := (Kp.refl No wc).drew
          clear htb hS2 hD2 hR2 hF2 hba2 hl2 hs2
          unfold rfV at *
          go_wp2_with fail
          refine wp_region_noPanic ?_
          refine wp_region_held_drew (S := fun w' => w'.cell? ⟨s, 0, none⟩ = some (.int .i64 (D2.size : Int)) ∧ w'.cell? ⟨s, 1, none⟩ = some (.slice (some ⟨gc2, 0, none⟩) D2.cells.length cc2) ∧ w'.cell? ⟨s, 2, none⟩ = some (.slice A2 D2.loose.length cl2) ∧ w'.cell? ⟨s, 3, none⟩ = some (.int .i64 (D2.syncs : Int)) ∧ w'.cell? ⟨sa, 1, none⟩ = some (.int .i64 d.cell)) (by kernel_rfl) (⟨y0, y1, y2, y3, y4⟩) (fun hHeld => ?_)
          refine wpAnyH_take (i := 0) (v := ?vzx1) (oi := ?ozx1) ?hzx1 (by kernel_rfl) (by kernel_rfl) (by kernel_rfl) (fun _ _ _ h => h) (Or.inl ⟨?wzx1, ?yzx1⟩) hHeld ?rzx1
          case hzx1 => simp only [List.getElem?_toArray, List.getElem?_cons_zero, List.getElem?_cons_succ]; rfl
          case wzx1 => rfl
          case yzx1 => intro w hSw; (try dsimp only at hSw); go_simp; (try with_reducible rfl)
          simp only [Act.put, List.setIfInBounds_toArray, List.set_cons_zero, List.set_cons_succ]
          refine wpAnyH_take (i := 1) (v := ?vzx2) (oi := ?ozx2) ?hzx2 (by kernel_rfl) (by kernel_rfl) (by kernel_rfl) (fun _ _ _ h => h) (Or.inl ⟨?wzx2, ?yzx2⟩) hHeld ?rzx2
          case hzx2 => simp only [List.getElem?_toArray, List.getElem?_cons_zero, List.getElem?_cons_succ]; rfl
          case wzx2 => rfl
          case yzx2 => intro w hSw; (try dsimp only at hSw); go_simp; (try with_reducible rfl)
          simp only [Act.put, List.setIfInBounds_toArray, List.set_cons_zero, List.set_cons_succ]
          refine wpAnyH_take (i := 2) (v := ?vzx3) (oi := ?ozx3) ?hzx3 (by kernel_rfl) (by kernel_rfl) (by kernel_rfl) (fun _ _ _ h => h) (Or.inl ⟨?wzx3, ?yzx3⟩) hHeld ?rzx3
          case hzx3 => simp only [List.getElem?_toArray, List.getElem?_cons_zero, List.getElem?_cons_succ]; rfl
          case wzx3 => rfl
          case yzx3 => intro w hSw; (try dsimp only at hSw); go_simp; (try with_reducible rfl)
          simp only [Act.put, List.setIfInBounds_toArray, List.set_cons_zero, List.set_cons_succ]
          refine wpAnyH_take (i := 3) (v := ?vzx4) (oi := ?ozx4) ?hzx4 (by kernel_rfl) (by kernel_rfl) (by kernel_rfl) (fun _ _ _ h => h) (Or.inl ⟨?wzx4, ?yzx4⟩) hHeld ?rzx4
          case hzx4 => simp only [List.getElem?_toArray, List.getElem?_cons_zero, List.getElem?_cons_succ]; rfl
          case wzx4 => rfl
          case yzx4 => intro w hSw; (try dsimp only at hSw); go_simp; (try with_reducible rfl)
          simp only [Act.put, List.setIfInBounds_toArray, List.set_cons_zero, List.set_cons_succ]
          refine wpAnyH_take (i := 4) (v := ?vzx5) (oi := ?ozx5) ?hzx5 (by kernel_rfl) (by kernel_rfl) (by kernel_rfl) (fun _ _ _ h => h) (Or.inl ⟨?wzx5, ?yzx5⟩) hHeld ?rzx5
          case hzx5 => simp only [List.getElem?_toArray, List.getElem?_cons_zero, List.getElem?_cons_succ]; rfl
          case wzx5 => rfl
          case yzx5 => intro w hSw; (try dsimp only at hSw); go_simp; (try with_reducible rfl)
          simp only [Act.put, List.setIfInBounds_toArray, List.set_cons_zero, List.set_cons_succ]
          refine wpAnyH_take (i := 5) (v := ?vzx6) (oi := ?ozx6) ?hzx6 (by kernel_rfl) (by kernel_rfl) (by kernel_rfl) (fun _ _ _ h => h) (Or.inl ⟨?wzx6, ?yzx6⟩) hHeld ?rzx6
          case hzx6 => simp only [List.getElem?_toArray, List.getElem?_cons_zero, List.getElem?_cons_succ]; rfl
          case wzx6 => rfl
          case yzx6 => intro w hSw; (try dsimp only at hSw); go_simp; (try with_reducible rfl)
          simp only [Act.put, List.setIfInBounds_toArray, List.set_cons_zero, List.set_cons_succ]
          refine wpAnyH_ready (rs := [6]) (by kernel_rfl) (by simp) ?_
          refine AllReadyH.cons (o := ?ozx7) ?hzx7 (fun K hK => ?szx7) AllReadyH.nil
          case hzx7 => simp only [List.getElem?_toArray, List.getElem?_cons_zero, List.getElem?_cons_succ]; rfl
          go_simp
          refine (psame_any (HD.out _ HKD.out) (HRR.out _ HKD.out)).mono ?_
          rintro e w5 ⟨rfl, k5⟩
          have u0 := k5.cell y0 (fun f => f)
          have u1 := k5.cell y1 (fun f => f)
          have u2 := k5.cell y2 (fun f => f)
          have u3 := k5.cell y3 (fun f => f)
          have u4 := k5.cell y4 (fun f => f)
          have HK5 := hide (HKD.out.trans' k5)
          go_wp2_with fail
          refine hK.out _ _ (⟨u0, u1, u2, u3, u4⟩) (fun hHeld => ?_)
          clear hK K
          try simp only [Act.put, List.setIfInBounds_toArray, List.set_cons_zero, List.set_cons_succ]
          refine wpAnyH_take (i := 7) (v := ?vzx8) (oi := ?ozx8) ?hzx8 (by kernel_rfl) (by kernel_rfl) (by kernel_rfl) (fun _ _ _ h => h) (Or.inl ⟨?wzx8, ?yzx8⟩) hHeld ?rzx8
          case hzx8 => simp only [List.getElem?_toArray, List.getElem?_cons_zero, List.getElem?_cons_succ]; rfl
          case wzx8 => rfl
          case yzx8 => intro w hSw; (try dsimp only at hSw); go_simp; (try with_reducible rfl)
          simp only [Act.put, List.setIfInBounds_toArray, List.set_cons_zero, List.set_cons_succ]
          refine wpAnyH_take (i := 8) (v := ?vzx9) (oi := ?ozx9) ?hzx9 (by kernel_rfl) (by kernel_rfl) (by kernel_rfl) (fun _ _ _ h => h) (Or.inl ⟨?wzx9, ?yzx9⟩) hHeld ?rzx9
          case hzx9 => simp only [List.getElem?_toArray, List.getElem?_cons_zero, List.getElem?_cons_succ]; rfl
          case wzx9 => rfl
          case yzx9 => intro w hSw; (try dsimp only at hSw); go_simp; (try with_reducible rfl)
          simp only [Act.put, List.setIfInBounds_toArray, List.set_cons_zero, List.set_cons_succ]
          refine wpAnyH_take (i := 9) (v := ?vzx10) (oi := ?ozx10) ?hzx10 (by kernel_rfl) (by kernel_rfl) (by kernel_rfl) (fun _ _ _ h => h) (Or.inl ⟨?wzx10, ?yzx10⟩) hHeld ?rzx10
          case hzx10 => simp only [List.getElem?_toArray, List.getElem?_cons_zero, List.getElem?_cons_succ]; rfl
          case wzx10 => rfl
          case yzx10 => intro w hSw; (try dsimp only at hSw); go_simp; (try with_reducible rfl)
          simp only [Act.put, List.setIfInBounds_toArray, List.set_cons_zero, List.set_cons_succ]
          refine wpAnyH_take (i := 10) (v := ?vzx11) (oi := ?ozx11) ?hzx11 (by kernel_rfl) (by kernel_rfl) (by kernel_rfl) (fun _ _ _ h => h) (Or.inl ⟨?wzx11, ?yzx11⟩) hHeld ?rzx11
          case hzx11 => simp only [List.getElem?_toArray, List.getElem?_cons_zero, List.getElem?_cons_succ]; rfl
          case wzx11 => rfl
          case yzx11 => intro w hSw; (try dsimp only at hSw); go_simp; (try with_reducible rfl)
          simp only [Act.put, List.setIfInBounds_toArray, List.set_cons_zero, List.set_cons_succ]
          refine wpAnyH_take (i := 11) (v := ?vzx12) (oi := ?ozx12) ?hzx12 (by kernel_rfl) (by kernel_rfl) (by kernel_rfl) (fun _ _ _ h => h) (Or.inl ⟨?wzx12, ?yzx12⟩) hHeld ?rzx12
          case hzx12 => simp only [List.getElem?_toArray, List.getElem?_cons_zero, List.getElem?_cons_succ]; rfl
          case wzx12 => rfl
          case yzx12 => intro w hSw; (try dsimp only at hSw); go_simp; (try with_reducible rfl)
          simp only [Act.put, List.setIfInBounds_toArray, List.set_cons_zero, List.set_cons_succ]
          refine wpAnyH_take (i := 12) (v := ?vzx13) (oi := ?ozx13) ?hzx13 (by kernel_rfl) (by kernel_rfl) (by kernel_rfl) (fun _ _ _ h => h) (Or.inl ⟨?wzx13, ?yzx13⟩) hHeld ?rzx13
          case hzx13 => simp only [List.getElem?_toArray, List.getElem?_cons_zero, List.getElem?_cons_succ]; rfl
          case wzx13 => rfl
          case yzx13 => intro w hSw; (try dsimp only at hSw); go_simp; (try with_reducible rfl)
          simp only [Act.put, List.setIfInBounds_toArray, List.set_cons_zero, List.set_cons_succ]
          refine wpAnyH_take (i := 15) (v := ?vzx14) (oi := ?ozx14) ?hzx14 (by kernel_rfl) (by kernel_rfl) (by kernel_rfl) (fun _ _ _ h => h) (Or.inl ⟨?wzx14, ?yzx14⟩) hHeld ?rzx14
          case hzx14 => simp only [List.getElem?_toArray, List.getElem?_cons_zero, List.getElem?_cons_succ]; rfl
          case wzx14 => rfl
          case yzx14 => intro w hSw; (try dsimp only at hSw); go_simp; (try with_reducible rfl)
          simp only [Act.put, List.setIfInBounds_toArray, List.set_cons_zero, List.set_cons_succ]
          refine wpAnyH_take (i := 16) (v := ?vzx15) (oi := ?ozx15) ?hzx15 (by kernel_rfl) (by kernel_rfl) (by kernel_rfl) (fun _ _ _ h => h) (Or.inl ⟨?wzx15, ?yzx15⟩) hHeld ?rzx15
          case hzx15 => simp only [List.getElem?_toArray, List.getElem?_cons_zero, List.getElem?_cons_succ]; rfl
          case wzx15 => rfl
          case yzx15 => intro w hSw; (try dsimp only at hSw); go_simp; (try with_reducible rfl)
          simp only [Act.put, List.setIfInBounds_toArray, List.set_cons_zero, List.set_cons_succ]
          refine wpAnyH_take (i := 17) (v := ?vzx16) (oi := ?ozx16) ?hzx16 (by kernel_rfl) (by kernel_rfl) (by kernel_rfl) (fun _ _ _ h => h) (Or.inl ⟨?wzx16, ?yzx16⟩) hHeld ?rzx16
          case hzx16 => simp only [List.getElem?_toArray, List.getElem?_cons_zero, List.getElem?_cons_succ]; rfl
          case wzx16 => rfl
          case yzx16 => intro w hSw; (try dsimp only at hSw); go_simp; (try with_reducible rfl)
          simp only [Act.put, List.setIfInBounds_toArray, List.set_cons_zero, List.set_cons_succ]
          refine wpAnyH_ready (rs := [13]) (by kernel_rfl) (by simp) ?_
          refine AllReadyH.cons (o := ?ozx17) ?hzx17 (fun K hK => ?szx17) AllReadyH.nil
          case hzx17 => simp only [List.getElem?_toArray, List.getElem?_cons_zero, List.getElem?_cons_succ]; rfl
          go_simp
          refine (pread_any (HD.out _ HK5.out) d.cell).mono ?_
          rintro e w6 ⟨A6, n6, c6, rfl, o6, k6⟩
          have v6 := conv_bts o6.bts
          rw [← HTB.out] at v6
          have t0 := k6.cell u0 (fun f => f)
          have t1 := k6.cell u1 (fun f => f)
          have t2 := k6.cell u2 (fun f => f)
          have t3 := k6.cell u3 (fun f => f)
          have t4 := k6.cell u4 (fun f => f)
          go_wp2_with fail
          refine hK.out _ _ (⟨t0, t1, t2, t3, t4⟩) (fun hHeld => ?_)
          clear hK K
          try simp only [Act.put, List.setIfInBounds_toArray, List.set_cons_zero, List.set_cons_succ]
          refine wpAnyH_ready (rs := [14, 18]) (by kernel_rfl) (by simp) ?_
          refine (AllReadyH.cons (o := ?ozx19) ?hzx19 (fun K hK => ?szx19) (AllReadyH.cons (o := ?ozx20) ?hzx20 (fun K hK => ?szx20) AllReadyH.nil))
          case hzx19 => simp only [List.getElem?_toArray, List.getElem?_cons_zero, List.getElem?_cons_succ]; rfl
          case hzx20 => simp only [List.getElem?_toArray, List.getElem?_cons_zero, List.getElem?_cons_succ]; rfl
          case szx19 =>
            go_simp
            refine hK.out _ _ (⟨t0, t1, t2, t3, t4⟩) (fun hHeld => ?_)
            clear hK K
            try simp only [Act.put, List.setIfInBounds_toArray, List.set_cons_zero, List.set_cons_succ]
            refine wpAnyH_ready (rs := [18]) (by kernel_rfl) (by simp) ?_
            refine AllReadyH.cons (o := ?ozx21) ?hzx21 (fun K hK => ?szx21) AllReadyH.nil
            case hzx21 => simp only [List.getElem?_toArray, List.getElem?_cons_zero, List.getElem?_cons_succ]; rfl
            go_simp
            refine (rread_any (HRf.out _ (HK5.out.trans' k6)) d.cell).mono ?_
            rintro e w7 ⟨A7, n7, c7, rfl, b7, k7⟩
            have v7 := conv_bts b7
            rw [← HTB.out] at v7
            have r0 := k7.cell t0 (fun f => f)
            have r1 := k7.cell t1 (fun f => f)
            have r2 := k7.cell t2 (fun f => f)
            have r3 := k7.cell t3 (fun f => f)
            have r4 := k7.cell t4 (fun f => f)
            go_wp2_with fail
            refine hK.out _ _ (⟨r0, r1, r2, r3, r4⟩) (fun hHeld => ?_)
            clear hK K
            try simp only [Act.put, List.setIfInBounds_toArray, List.set_cons_zero, List.set_cons_succ]
            refine wpAnyH_ready (rs := [19]) (by kernel_rfl) (by simp) ?_
            refine AllReadyH.cons (o := ?ozx22) ?hzx22 (fun K hK => ?szx22) AllReadyH.nil
            case hzx22 => simp only [List.getElem?_toArray, List.getElem?_cons_zero, List.getElem?_cons_succ]; rfl
            go_simp
            refine hK.out _ _ (⟨r0, r1, r2, r3, r4⟩) (fun hHeld => ?_)
            clear hK K
            try simp only [Act.put, List.setIfInBounds_toArray, List.set_cons_zero, List.set_cons_succ]
            refine wpAnyH_take (i := 20) (v := ?vzx23) (oi := ?ozx23) ?hzx23 (by kernel_rfl) (by kernel_rfl) (by kernel_rfl) (fun _ _ _ h => h) (Or.inl ⟨?wzx23, ?yzx23⟩) hHeld ?rzx23
            case hzx23 => simp only [List.getElem?_toArray, List.getElem?_cons_zero, List.getElem?_cons_succ]; rfl
            case wzx23 => rfl
            case yzx23 => intro w hSw; (try dsimp only at hSw); go_simp; (try with_reducible rfl)
            simp only [Act.put, List.setIfInBounds_toArray, List.set_cons_zero, List.set_cons_succ]
            refine wpAnyH_take (i := 21) (v := ?vzx24) (oi := ?ozx24) ?hzx24 (by kernel_rfl) (by kernel_rfl) (by kernel_rfl) (fun _ _ _ h => h) (Or.inl ⟨?wzx24, ?yzx24⟩) hHeld ?rzx24
            case hzx24 => simp only [List.getElem?_toArray, List.getElem?_cons_zero, List.getElem?_cons_succ]; rfl
            case wzx24 => rfl
            case yzx24 => intro w hSw; (try dsimp only at hSw); go_simp; (try with_reducible rfl)
            simp only [Act.put, List.setIfInBounds_toArray, List.set_cons_zero, List.set_cons_succ]
            refine wpAnyH_done (by kernel_rfl) ?_ _
            refine NoPanic.normal ?_
            have HN : Hid (PpI W g s (k + 1) w7) := ⟨⟨D2, gc2, cc2, A2, cl2, (HS2.out.no ((HK5.out.trans' k6).trans' k7)).less, HL2.out, HS2L.out⟩⟩
            clear y0 y1 y2 y3 y4 u0 u1 u2 u3 u4 t0 t1 t2 t3 t4 r0 r1 r2 r3 r4 k5 k6 k7
            go_wp2_with fail
            go_round
            case rel => exact ⟨k + 1, by omega, by omega, by go_num, HN.out⟩
            case measure => simp [intOf]; omega
          case szx20 =>
            go_simp
            refine (rread_any (HRf.out _ (HK5.out.trans' k6)) d.cell).mono ?_
            rintro e w7 ⟨A7, n7, c7, rfl, b7, k7⟩
            have v7 := conv_bts b7
            rw [← HTB.out] at v7
            have r0 := k7.cell t0 (fun f => f)
            have r1 := k7.cell t1 (fun f => f)
            have r2 := k7.cell t2 (fun f => f)
            have r3 := k7.cell t3 (fun f => f)
            have r4 := k7.cell t4 (fun f => f)
            have v6 := conv_bts (o6.no k7).bts
            rw [← HTB.out] at v6
            go_wp2_with fail
            refine hK.out _ _ (⟨r0, r1, r2, r3, r4⟩) (fun hHeld => ?_)
            clear hK K
            try simp only [Act.put, List.setIfInBounds_toArray, List.set_cons_zero, List.set_cons_succ]
            refine wpAnyH_ready (rs := [14, 19]) (by kernel_rfl) (by simp) ?_
            refine (AllReadyH.cons (o := ?ozx27) ?hzx27 (fun K hK => ?szx27) (AllReadyH.cons (o := ?ozx28) ?hzx28 (fun K hK => ?szx28) AllReadyH.nil))
            case hzx27 => simp only [List.getElem?_toArray, List.getElem?_cons_zero, List.getElem?_cons_succ]; rfl
            case hzx28 => simp only [List.getElem?_toArray, List.getElem?_cons_zero, List.getElem?_cons_succ]; rfl
            case szx27 =>
              go_simp
              refine hK.out _ _ (⟨r0, r1, r2, r3, r4⟩) (fun hHeld => ?_)
              clear hK K
              try simp only [Act.put, List.setIfInBounds_toArray, List.set_cons_zero, List.set_cons_succ]
              refine wpAnyH_ready (rs := [19]) (by kernel_rfl) (by simp) ?_
              refine AllReadyH.cons (o := ?ozx29) ?hzx29 (fun K hK => ?szx29) AllReadyH.nil
              case hzx29 => simp only [List.getElem?_toArray, List.getElem?_cons_zero, List.getElem?_cons_succ]; rfl
              go_simp
              refine hK.out _ _ (⟨r0, r1, r2, r3, r4⟩) (fun hHeld => ?_)
              clear hK K
              try simp only [Act.put, List.setIfInBounds_toArray, List.set_cons_zero, List.set_cons_succ]
              refine wpAnyH_take (i := 20) (v := ?vzx30) (oi := ?ozx30) ?hzx30 (by kernel_rfl) (by kernel_rfl) (by kernel_rfl) (fun _ _ _ h => h) (Or.inl ⟨?wzx30, ?yzx30⟩) hHeld ?rzx30
              case hzx30 => simp only [List.getElem?_toArray, List.getElem?_cons_zero, List.getElem?_cons_succ]; rfl
              case wzx30 => rfl
              case yzx30 => intro w hSw; (try dsimp only at hSw); go_simp; (try with_reducible rfl)
              simp only [Act.put, List.setIfInBounds_toArray, List.set_cons_zero, List.set_cons_succ]
              refine wpAnyH_take (i := 21) (v := ?vzx31) (oi := ?ozx31) ?hzx31 (by kernel_rfl) (by kernel_rfl) (by kernel_rfl) (fun _ _ _ h => h) (Or.inl ⟨?wzx31, ?yzx31⟩) hHeld ?rzx31
              case hzx31 => simp only [List.getElem?_toArray, List.getElem?_cons_zero, List.getElem?_cons_succ]; rfl
              case wzx31 => rfl
              case yzx31 => intro w hSw; (try dsimp only at hSw); go_simp; (try with_reducible rfl)
              simp only [Act.put, List.setIfInBounds_toArray, List.set_cons_zero, List.set_cons_succ]
              refine wpAnyH_done (by kernel_rfl) ?_ _
              refine NoPanic.normal ?_
              have HN : Hid (PpI W g s (k + 1) w7) := ⟨⟨D2, gc2, cc2, A2, cl2, (HS2.out.no ((HK5.out.trans' k6).trans' k7)).less, HL2.out, HS2L.out⟩⟩
              clear y0 y1 y2 y3 y4 u0 u1 u2 u3 u4 t0 t1 t2 t3 t4 r0 r1 r2 r3 r4 k5 k6 k7
              go_wp2_with fail
              go_round
              case rel => exact ⟨k + 1, by omega, by omega, by go_num, HN.out⟩
              case measure => simp [intOf]; omega
            case szx28 =>
              go_simp
              refine hK.out _ _ (⟨r0, r1, r2, r3, r4⟩) (fun hHeld => ?_)
              clear hK K
              try simp only [Act.put, List.setIfInBounds_toArray, List.set_cons_zero, List.set_cons_succ]
              refine wpAnyH_ready (rs := [14]) (by kernel_rfl) (by simp) ?_
              refine AllReadyH.cons (o := ?ozx33) ?hzx33 (fun K hK => ?szx33) AllReadyH.nil
              case hzx33 => simp only [List.getElem?_toArray, List.getElem?_cons_zero, List.getElem?_cons_succ]; rfl
              go_simp
              refine hK.out _ _ (⟨r0, r1, r2, r3, r4⟩) (fun hHeld => ?_)
              clear hK K
              try simp only [Act.put, List.setIfInBounds_toArray, List.set_cons_zero, List.set_cons_succ]
              refine wpAnyH_take (i := 20) (v := ?vzx34) (oi := ?ozx34) ?hzx34 (by kernel_rfl) (by kernel_rfl) (by kernel_rfl) (fun _ _ _ h => h) (Or.inl ⟨?wzx34, ?yzx34⟩) hHeld ?rzx34
              case hzx34 => simp only [List.getElem?_toArray, List.getElem?_cons_zero, List.getElem?_cons_succ]; rfl
              case wzx34 => rfl
              case yzx34 => intro w hSw; (try dsimp only at hSw); go_simp; (try with_reducible rfl)
              simp only [Act.put, List.setIfInBounds_toArray, List.set_cons_zero, List.set_cons_succ]
              refine wpAnyH_take (i := 21) (v := ?vzx35) (oi := ?ozx35) ?hzx35 (by kernel_rfl) (by kernel_rfl) (by kernel_rfl) (fun _ _ _ h => h) (Or.inl ⟨?wzx35, ?yzx35⟩) hHeld ?rzx35
              case hzx35 => simp only [List.getElem?_toArray, List.getElem?_cons_zero, List.getElem?_cons_succ]; rfl
              case wzx35 => rfl
              case yzx35 => intro w hSw; (try dsimp only at hSw); go_simp; (try with_reducible rfl)
              simp only [Act.put, List.setIfInBounds_toArray, List.set_cons_zero, List.set_cons_succ]
              refine wpAnyH_done (by kernel_rfl) ?_ _
              refine NoPanic.normal ?_
              have HN : Hid (PpI W g s (k + 1) w7) := ⟨⟨D2, gc2, cc2, A2, cl2, (HS2.out.no ((HK5.out.trans' k6).trans' k7)).less, HL2.out, HS2L.out⟩⟩
              clear y0 y1 y2 y3 y4 u0 u1 u2 u3 u4 t0 t1 t2 t3 t4 r0 r1 r2 r3 r4 k5 k6 k7
              go_wp2_with fail
              go_round
              case rel => exact ⟨k + 1, by omega, by omega, by go_num, HN.out⟩
              case measure => simp [intOf]; omega
      · have HK : Hid (Kp No W wr) := by
          obtain ⟨D, gc, cc, A, cl, hS, hl, hs⟩ := hI.ex
          exact hS.kp
        clear hI
        go_wp2_with fail
        refine (awake11_any _).mono ?_
        rintro e w9 ⟨rfl, k9⟩
        go_wp2_with fail
        go_ret
        exact ⟨rfl, HK.out.trans' k9⟩
    · have HK : Hid (Kp No W wr) := by
        obtain ⟨D, gc, cc, A, cl, hS, hl, hs⟩ := hI.ex
        exact hS.kp
      clear hI
      go_wp2_with fail
      refine (awake11_any _).mono ?_
      rintro e w9 ⟨rfl, k9⟩
      go_wp2_with fail
      go_ret
      exact ⟨rfl, HK.out.trans' k9⟩
theorem platplays_walk (W : World) (x y : Int) (hx : (Lit.int .u8 x).wf = true) (hy : (Lit.int .u8 y).wf = true) {A0 : Option Addr} {n0 c0 : Nat} {ds : List ActP} (h0 : ActsP W A0 n0 ds) :
    Calls Try.prog 3 #[.int .u8 x, .int .u8 y, .slice A0 n0 c0] W fun e W' => e = .returned (.bool true) ∧ Below W.heap.size W W' := by
  have h1 := bounds_u8 hx
  have h2 := bounds_u8 hy
  obtain ⟨x, rfl⟩ := Int.eq_ofNat_of_zero_le h1.1
  obtain ⟨y, rfl⟩ := Int.eq_ofNat_of_zero_le h2.1
  exact (platplays_any W x y (by omega) (by omega) h0).mono fun e W' p => ⟨p.1, p.2.below0⟩
end Go.Proofs.Ytgdlcijohedbhaa
