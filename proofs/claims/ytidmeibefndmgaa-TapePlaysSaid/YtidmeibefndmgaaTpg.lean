/- TapePlays walked: it returns true for any number and any acts. No condition. -/
import Derived.Test.YtidmeibefndmgaaTpc
import Derived.Test.YtidmeibefndmgaaTpd
import Derived.Test.YtidmeibefndmgaaTpf
import Derived.Deep.DeepCutAuto
import Derived.Deep.CutBlock
import Derived.OpenShut
namespace Go.Proofs.Ytidmeibefndmgaa
open Go.RowKit Go.WideShapes Go.ChangeShapes
set_option linter.unusedVariables false
set_option maxRecDepth 20000
set_option linter.unusedSimpArgs false

/-- The box s of the document's tape, and the box a of an act. -/
def Xs (s k : Nat) : Prop := k = s
def Xsa (s a k : Nat) : Prop := k = s ∨ k = a
/-- What the law knows: the tape D, the document's E in the box s; all that is the tape's own is the call's own, and lies outside X. -/
structure TpS (W : World) (X : Nat → Prop) (g s : Nat) (D E : Tp) (vs vl : Value) (wr : World) : Prop where
  ex : ∃ F : Nat → Prop, TpAt wr F g D ∧ RtR wr (fun k => F k ∨ X k) E vs vl ∧ ∀ k, F k → W.heap.size ≤ k ∧ k < wr.heap.size ∧ ¬ X k
  bx : BxT wr s vs vl E.most
  kp : Kp No W wr
  xs : X s
  xW : ∀ k, X k → W.heap.size ≤ k
section
variable {W wr w1 w2 : World} {X : Nat → Prop} {g s a : Nat} {D D' E E' : Tp} {vs vl vs' vl' v : Value} {F : Nat → Prop}
theorem TpS.no (h : TpS W X g s D E vs vl wr) (hk : Kp No wr w1) : TpS W X g s D E vs vl w1 := by
  obtain ⟨F, h1, h2, h3⟩ := h.ex
  exact ⟨⟨F, h1.no hk, h2.no hk, fun k f => ⟨(h3 k f).1, Nat.lt_of_lt_of_le (h3 k f).2.1 hk.size, (h3 k f).2.2⟩⟩, h.bx.no hk, h.kp.trans' hk, h.xs, h.xW⟩
/-- A call on the tape. -/
theorem TpS.call (h : TpS W X g s D E vs vl wr) (h2 : RtR wr (fun k => F k ∨ X k) E vs vl) (h3 : ∀ k, F k → W.heap.size ≤ k ∧ k < wr.heap.size ∧ ¬ X k) (hd : TpAt w1 (Up F wr) g D') (hk : Kp F wr w1) : TpS W X g s D' E vs vl w1 ∧ Kp (fun k => ¬ X k) wr w1 := by
  refine ⟨⟨⟨_, hd.lt, h2.step (hk.mono fun k f => .inl f) fun k f => ?_, fun k f => ⟨?_, f.2, fun x => ?_⟩⟩, (hk.block s h.bx.lt fun f => (h3 s f).2.2 h.xs).trans h.bx, h.kp.trans (hk.mono fun k f => .inr (h3 k f).1), h.xs, h.xW⟩, hk.mono fun k f => (h3 k f).2.2⟩
  · rcases f with ⟨f | f, g⟩ | f
    · exact ⟨.inl (.inl f), g⟩
    · exact ⟨.inr f, g⟩
    · exact ⟨.inl (.inr f), Nat.lt_of_lt_of_le (h2.bd k (.inr f)) hk.size⟩
  · rcases f.1 with f | f
    · exact (h3 k f).1
    · exact Nat.le_trans h.kp.size f
  · rcases f.1 with f | f
    · exact (h3 k f).2.2 x
    · have := h2.bd k (.inr x)
      omega
/-- The document's tape is another one, and its box is written. -/
theorem TpS.ref (h : TpS W X g s D E vs vl wr) (h1 : TpAt wr F g D) (h3 : ∀ k, F k → W.heap.size ≤ k ∧ k < wr.heap.size ∧ ¬ X k) (hr : RtR w1 (fun k => F k ∨ X k) E' vs' vl') (hk : Kp No wr w1) (hk2 : Kp (fun k => k = s) w1 w2) (hb : BxT w2 s vs' vl' E'.most) :
    TpS W X g s D E' vs' vl' w2 :=
  ⟨⟨F, (h1.no hk).keep hk2 fun k _ f e => (h3 k f).2.2 (by rw [e]; exact h.xs), hr.keep hk2 fun k _ hn e => hn (.inr (by rw [e]; exact h.xs)), fun k f => ⟨(h3 k f).1, Nat.lt_of_lt_of_le (h3 k f).2.1 (Nat.le_trans hk.size hk2.size), (h3 k f).2.2⟩⟩, hb, (h.kp.trans' hk).trans (hk2.mono fun k e => .inr (by rw [e]; exact h.xW s h.xs)), h.xs, h.xW⟩
/-- The act's box is made. -/
theorem TpS.box (h : TpS W (Xs s) g s D E vs vl wr) (o : Obj) : TpS W (Xsa s wr.heap.size) g s D E vs vl (wr.alloc o) ∧ s ≠ wr.heap.size := by
  have hs := h.bx.lt
  have h' := h.no (Kp.alloc No wr o)
  obtain ⟨F, h1, h2, h3⟩ := h.ex
  refine ⟨⟨⟨F, h1.no (Kp.alloc No wr o), h2.step (Kp.alloc _ wr o) fun k f => ?_, fun k f => ⟨(h3 k f).1, by have := (h3 k f).2.1; simp; omega, fun x => ?_⟩⟩, h'.bx, h'.kp, .inl rfl, fun k x => ?_⟩, by omega⟩
  · rcases f with f | f | f
    · exact ⟨.inl (.inl f), by have := (h3 k f).2.1; simp; omega⟩
    · exact ⟨.inl (.inr f), by simp; omega⟩
    · exact ⟨.inr (by omega), by simp; omega⟩
  · rcases x with x | x
    · exact (h3 k f).2.2 x
    · have := (h3 k f).2.1
      omega
  · rcases x with x | x
    · exact h.xW k x
    · have := h.kp.size
      omega
theorem TpS.less (h : TpS W (Xsa s a) g s D E vs vl wr) : TpS W (Xs s) g s D E vs vl wr := by
  obtain ⟨F, h1, h2, h3⟩ := h.ex
  exact ⟨⟨F, h1, h2.less fun k f => f.imp id .inl, fun k f => ⟨(h3 k f).1, (h3 k f).2.1, fun x => (h3 k f).2.2 (.inl x)⟩⟩, h.bx, h.kp, rfl, fun k x => h.xW k (.inl x)⟩
end
/-- The box of an act. -/
def BxAt (w : World) (a : Nat) (d : ActT) (A : Option Addr) (m c : Nat) : Prop := w.heap[a]? = some (.cells #[.int .i64 d.kind, .slice A m c, .int .i64 d.n, .int .u8 (d.bits.toNat : Int)] 30 (0, 0))
section
variable {w w1 : World} {S : Nat → Prop} {a : Nat} {d : ActT} {A : Option Addr} {m c : Nat}
theorem BxAt.keep (h : BxAt w a d A m c) (hk : Kp S w w1) (hS : ¬ S a) : BxAt w1 a d A m c := (hk.block a (Array.getElem?_eq_some_iff.1 h).1 hS).trans h
theorem BxAt.c0 (h : BxAt w a d A m c) : w.cell? ⟨a, 0, none⟩ = some (.int .i64 d.kind) := by rw [cell_of_row w a 0 _ _ _ h]; rfl
theorem BxAt.c1 (h : BxAt w a d A m c) : w.cell? ⟨a, 1, none⟩ = some (.slice A m c) := by rw [cell_of_row w a 1 _ _ _ h]; rfl
theorem BxAt.c2 (h : BxAt w a d A m c) : w.cell? ⟨a, 2, none⟩ = some (.int .i64 d.n) := by rw [cell_of_row w a 2 _ _ _ h]; rfl
theorem BxAt.c3 (h : BxAt w a d A m c) : w.cell? ⟨a, 3, none⟩ = some (.int .u8 (d.bits.toNat : Int)) := by rw [cell_of_row w a 3 _ _ _ h]; rfl
end
/-- What the loop keeps, and what stands behind the switch of a round. -/
def TpI (W : World) (g s k : Nat) (wr : World) : Prop := ∃ D As ns cs Al nl cl, TpS W (Xs s) g s D D (.slice As ns cs) (.slice Al nl cl) wr ∧ D.len ≤ k * 500 ∧ D.most ≤ 9223372036854775807
def TpM (W : World) (g s a k : Nat) (wr : World) : Prop := ∃ D As ns cs Al nl cl, TpS W (Xsa s a) g s D D (.slice As ns cs) (.slice Al nl cl) wr ∧ D.len ≤ k * 500 ∧ D.most ≤ 9223372036854775807

set_option maxRecDepth 100000 in
set_option maxHeartbeats 8000000 in
theorem tapeplays_any (W : World) (z : Int) (hz : z ≤ 9223372036854775807) {A0 : Option Addr} {n0 c0 : Nat} {ds : List ActT} (h0 : ActsT W A0 n0 ds) :
    Calls Try.prog 3 #[.int .i64 z, .slice A0 n0 c0] W (TruePost W) := by
  have hb0 := h0.big
  have HL0 := hide h0.len
  have HA0 := hide h0
  clear h0
  obtain ⟨mz, hmz⟩ : ∃ m : Nat, m = z.toNat := ⟨_, rfl⟩
  have HMZ := hide hmz
  have hmz9 : mz ≤ 9223372036854775807 := by omega
  clear hmz
  go_enter Try.func3, Try.ntmps3
  go_wp2_with fail
  refine (awake13_any _).mono ?_
  rintro e w0 ⟨rfl, k0⟩
  have HTN := hide (tnew_any w0 z hz)
  go_upto_region 3 with (fail)
  go_cut [5, 6] (fun v5 v6 wx => ∃ w1 g, v5 = .pointer (some ⟨g, 0, none⟩) ∧ v6 = .pointer (some ⟨w1.heap.size, 0, none⟩) ∧ wx = w1.alloc (.cells #[.slice none 0 0, .slice none 0 0, .int .i64 (mz : Int)] 28) ∧ TpAt w1 (fun k => w0.heap.size ≤ k) g (Tp.new z) ∧ Kp No w0 w1)
  case first =>
    by_cases h0 : z < 0
    · have e : (mz : Int) = 0 := by rw [HMZ.out]; omega
      have E := hide e
      clear e
      go_wp2_with fail
      refine HTN.out.mono ?_
      rintro e w1 ⟨g, rfl, hg, hT1, k1⟩
      go_wp2_with fail
      go_meet
      exact ⟨w1, g, rfl, rfl, by rw [E.out], hT1, k1⟩
    by_cases h1 : z = 0
    · have e : (mz : Int) = 0 := by rw [HMZ.out]; omega
      have E := hide e
      clear e
      subst h1
      go_wp2_with fail
      refine HTN.out.mono ?_
      rintro e w1 ⟨g, rfl, hg, hT1, k1⟩
      go_wp2_with fail
      go_meet
      exact ⟨w1, g, rfl, rfl, by rw [E.out], hT1, k1⟩
    · have e : (mz : Int) = z := by rw [HMZ.out]; omega
      have E := hide e
      clear e
      go_wp2_with fail
      refine HTN.out.mono ?_
      rintro e w1 ⟨g, rfl, hg, hT1, k1⟩
      go_wp2_with fail
      go_meet
      exact ⟨w1, g, rfl, rfl, by rw [E.out], hT1, k1⟩
  case rest =>
  obtain ⟨w1, g, rfl, rfl, rfl, hT1, k1⟩ := hcut
  have HT1 := hide hT1.lt
  have HK1 := hide (k0.trans' k1)
  have HW0 : Hid (W.heap.size ≤ w0.heap.size) := k0.size
  clear hT1 k0 k1 HTN
  have hbx := BxT.new w1 (.slice none 0 0) (.slice none 0 0) mz
  have hKa := Kp.alloc No w1 (.cells #[.slice none 0 0, .slice none 0 0, .int .i64 (mz : Int)] 28)
  have hI0 : TpI W g w1.heap.size 0 (w1.alloc (.cells #[.slice none 0 0, .slice none 0 0, .int .i64 (mz : Int)] 28)) := ⟨Tp.new z, none, 0, 0, none, 0, 0, ⟨⟨_, HT1.out.no hKa, ⟨BtF.none _ _, BtF.none _ _, fun k f => ?_⟩, fun k f => ⟨Nat.le_trans HW0.out f.1, by have h1 := f.2; simp; omega, fun e => by have h1 : k = w1.heap.size := e; have h2 := f.2; omega⟩⟩, by have e : mz = (Tp.new z).most := HMZ.out; rw [← e]; exact hbx, HK1.out.trans' hKa, rfl, fun k e => by have h1 : k = w1.heap.size := e; have h2 := HK1.out.size; omega⟩, Nat.zero_le _, by show z.toNat ≤ _; rw [← HMZ.out]; exact hmz9⟩
  rotate_left 1
  · rcases f with f | f
    · have h1 := f.2; simp; omega
    · have h1 : k = w1.heap.size := f; simp; omega
  have HI0 := hide hI0
  clear hI0 hbx hKa
  generalize w1.alloc (.cells #[.slice none 0 0, .slice none 0 0, .int .i64 (mz : Int)] 28) = w3 at HI0 ⊢
  generalize w1.heap.size = s at HI0 ⊢
  go_wp2_with fail
  go_loopw [7] (fun i wr => ∃ k : Nat, k ≤ n0 ∧ k ≤ 50 ∧ i = .int .i64 (k : Int) ∧ TpI W g s k wr) (fun i _ => 50 - (intOf i).toNat)
  case atStart => exact ⟨0, Nat.zero_le _, by omega, rfl, HI0.out⟩
  case round =>
    obtain ⟨k, hk, hk50, rfl, hI⟩ := hrel
    by_cases hlt : k < n0
    · by_cases hl50 : k < 50
      · obtain ⟨d, hd⟩ : ∃ d, ds[k]? = some d := ⟨_, List.getElem?_eq_getElem (by have := HL0.out; omega)⟩
        obtain ⟨D, As, ns, cs, Al, nl, cl, hS, hl, hmx⟩ := hI
        obtain ⟨B, off, A', m, c', rfl, ha⟩ := HA0.out.at_ k d hd
        have ha2 := ha.no hS.kp
        have x0 := ha2.c0
        have x1 := ha2.c1
        have x2 := ha2.c2
        have x3 := ha2.c3
        have hms := ha.small
        have HS0 := hide hS
        have HL : Hid (D.len ≤ 25000 ∧ D.len ≤ k * 500) := ⟨by omega, hl⟩
        have HMX := hide hmx
        have HBW := hide ha.bts
        clear hS hl hmx hd ha ha2
        go_upto_region 8 with (fail)
        have hbox := HS0.out.box (.cells #[.int .i64 d.kind, .slice A' m c', .int .i64 d.n, .int .u8 (d.bits.toNat : Int)] 30)
        have HS := hide hbox.1
        have HNE : Hid (s ≠ wr.heap.size) := hbox.2
        have HBA : Hid (BxAt (wr.alloc (.cells #[.int .i64 d.kind, .slice A' m c', .int .i64 d.n, .int .u8 (d.bits.toNat : Int)] 30)) wr.heap.size d A' m c') := heap_alloc_new wr _
        clear hbox HS0 x0 x1 x2 x3
        generalize wr.alloc (.cells #[.int .i64 d.kind, .slice A' m c', .int .i64 d.n, .int .u8 (d.bits.toNat : Int)] 30) = w4 at HS HBA ⊢
        generalize wr.heap.size = sa at HS HNE HBA ⊢
        have HML := hide HBW.out.len
        have y1 := HBA.out.c1
        by_cases hm : 500 < m
        · have hm2 : (500 : Int) < (m : Int) := by omega
          have HK := hide HS.out.kp
          go_wp2_with fail
          refine (awake13_any _).mono ?_
          rintro e w9 ⟨rfl, k9⟩
          go_wp2_with fail
          go_ret
          exact ⟨rfl, HK.out.trans' k9⟩
        · have hm2 : ¬ (500 : Int) < (m : Int) := by omega
          have y0 := HBA.out.c0
          go_upto_block 2 with fail
          clear y0 y1
          go_cut [9, 10] (fun v9 v10 wx => ∃ q : Nat, v9 = .int .i64 (q : Int) ∧ v10 = .int .i64 (q : Int) ∧ TpM W g s sa (k + 1) wx)
          case first =>
            by_cases e1 : d.kind = 1
            · have t1 : (d.kind == 1) = true := by simp [e1]
              clear e1
              obtain ⟨F, hD, hR, hF⟩ := HS.out.ex
              have HD := hide hD
              have HRR := hide hR
              have HF := hide hF
              clear hD hR hF
              have ax0 := HS.out.bx.c0
              have ax1 := HS.out.bx.c1
              have ax2 := HS.out.bx.c2
              have af0 := HS.out.bx.fz 0
              have af1 := HS.out.bx.fz 1
              have af2 := HS.out.bx.fz 2
              have aa0 := HBA.out.c0
              have aa1 := HBA.out.c1
              have aa2 := HBA.out.c2
              have aa3 := HBA.out.c3
              go_wp2_with fail
              refine (tsync_any HD.out (by have := HL.out; omega)).mono ?_
              rintro e w3 ⟨rfl, hd3, hk3⟩
              have hS3 := HS.out.call HRR.out HF.out hd3 hk3
              have HBA3 := hide (HBA.out.keep hS3.2 fun h => h (.inr rfl))
              have HS3 := hide hS3.1
              clear ax0 af0 ax1 af1 ax2 af2
              clear aa0 aa1 aa2 aa3
              clear hd3 hk3 hS3
              obtain ⟨F3, hD3, hR3, hF3⟩ := HS3.out.ex
              have HD3 := hide hD3
              have HRR3 := hide hR3
              have HF3 := hide hF3
              clear hD3 hR3 hF3
              have bx0 := HS3.out.bx.c0
              have bx1 := HS3.out.bx.c1
              have bx2 := HS3.out.bx.c2
              have bf0 := HS3.out.bx.fz 0
              have bf1 := HS3.out.bx.fz 1
              have bf2 := HS3.out.bx.fz 2
              have ba0 := HBA3.out.c0
              have ba1 := HBA3.out.c1
              have ba2 := HBA3.out.c2
              have ba3 := HBA3.out.c3
              go_wp2_with fail
              refine (rsync13_any ⟨_, _, rfl, HRR3.out⟩ (by have := HL.out; omega)).mono ?_
              rintro e w5 ⟨v5, rfl, ⟨vs5, vl5, rfl, hR5⟩, k5⟩
              obtain ⟨As5, ns5, cs5, Al5, nl5, cl5, rfl, rfl, -, -, -, -⟩ := hR5.forms
              clear bx0 bf0 bx1 bf1 bx2 bf2
              clear ba0 ba1 ba2 ba3
              have hB5 : BxT (((w5.setCell ⟨s, 0, none⟩ (.slice As5 ns5 cs5)).setCell ⟨s, 1, none⟩ (.slice Al5 nl5 cl5)).setCell ⟨s, 2, none⟩ (.int .i64 ((D.sync).most : Int))) s (.slice As5 ns5 cs5) (.slice Al5 nl5 cl5) (D.sync).most := (HS3.out.no k5).bx.set3 _ _ _
              have HS5 := hide (HS3.out.ref HD3.out HF3.out hR5 k5 (kp_set3 w5 s (.slice As5 ns5 cs5) (.slice Al5 nl5 cl5) (.int .i64 ((D.sync).most : Int))) hB5)
              have cx0 := (HS3.out.no k5).bx.c0
              have cx1 := (HS3.out.no k5).bx.c1
              have cx2 := (HS3.out.no k5).bx.c2
              have cf0 := (HS3.out.no k5).bx.fz 0
              have cf1 := (HS3.out.no k5).bx.fz 1
              have cf2 := (HS3.out.no k5).bx.fz 2
              clear hR5 k5 hB5
              unfold rtV
              dsimp only [id]
              go_wp2_with fail
              go_meet
              exact ⟨0, rfl, rfl, ⟨D.sync, As5, ns5, cs5, Al5, nl5, cl5, HS5.out, by have := D.sync_len; have h2 := HL.out; omega, HMX.out⟩⟩
            by_cases e2 : d.kind = 2
            · have t1 : (d.kind == 1) = false := by simp [e1]
              have t2 : (d.kind == 2) = true := by simp [e2]
              clear e1 e2
              obtain ⟨F, hD, hR, hF⟩ := HS.out.ex
              have HD := hide hD
              have HRR := hide hR
              have HF := hide hF
              clear hD hR hF
              have hnl := HRR.out.l.bts.len
              have HNL := hide hnl
              have hnl9 : nl ≤ 100000 := by have h1 : D.len = D.sf.length + D.ls.length := rfl; have h2 := HL.out; omega
              clear hnl
              have ax1 : w4.drew.cell? ⟨s, 1, none⟩ = some (.slice Al nl cl) := HS.out.bx.c1
              have HKD : Hid (Kp No w4 w4.drew) := (Kp.refl No w4).drew
              go_wp2_with fail
              refine wp_region_noPanic ?_
              refine wp_region_held_drew (S := fun w' => w'.cell? ⟨s, 1, none⟩ = some (.slice Al nl cl)) (by kernel_rfl) (ax1) (fun hHeld => ?_)
              refine wpAnyH_take (i := 0) (v := ?vbkx1) (oi := ?obkx1) ?hbkx1 (by kernel_rfl) (by kernel_rfl) (by kernel_rfl) (fun _ _ _ h => h) (Or.inl ⟨?wbkx1, ?ybkx1⟩) hHeld ?rbkx1
              case hbkx1 => simp only [List.getElem?_toArray, List.getElem?_cons_zero, List.getElem?_cons_succ]; rfl
              case wbkx1 => rfl
              case ybkx1 => intro w hSw; (try dsimp only at hSw); go_simp; (try with_reducible rfl)
              simp only [Act.put, List.setIfInBounds_toArray, List.set_cons_zero, List.set_cons_succ]
              refine wpAnyH_take (i := 2) (v := ?vbkx2) (oi := ?obkx2) ?hbkx2 (by kernel_rfl) (by kernel_rfl) (by kernel_rfl) (fun _ _ _ h => h) (Or.inl ⟨?wbkx2, ?ybkx2⟩) hHeld ?rbkx2
              case hbkx2 => simp only [List.getElem?_toArray, List.getElem?_cons_zero, List.getElem?_cons_succ]; rfl
              case wbkx2 => rfl
              case ybkx2 => intro w hSw; (try dsimp only at hSw); go_simp; (try with_reducible rfl)
              simp only [Act.put, List.setIfInBounds_toArray, List.set_cons_zero, List.set_cons_succ]
              refine wpAnyH_take (i := 3) (v := ?vbkx3) (oi := ?obkx3) ?hbkx3 (by kernel_rfl) (by kernel_rfl) (by kernel_rfl) (fun _ _ _ h => h) (Or.inl ⟨?wbkx3, ?ybkx3⟩) hHeld ?rbkx3
              case hbkx3 => simp only [List.getElem?_toArray, List.getElem?_cons_zero, List.getElem?_cons_succ]; rfl
              case wbkx3 => rfl
              case ybkx3 => intro w hSw; (try dsimp only at hSw); go_simp; (try with_reducible rfl)
              simp only [Act.put, List.setIfInBounds_toArray, List.set_cons_zero, List.set_cons_succ]
              refine wpAnyH_take (i := 4) (v := ?vbkx4) (oi := ?obkx4) ?hbkx4 (by kernel_rfl) (by kernel_rfl) (by kernel_rfl) (fun _ _ _ h => h) (Or.inl ⟨?wbkx4, ?ybkx4⟩) hHeld ?rbkx4
              case hbkx4 => simp only [List.getElem?_toArray, List.getElem?_cons_zero, List.getElem?_cons_succ]; rfl
              case wbkx4 => rfl
              case ybkx4 => intro w hSw; (try dsimp only at hSw); go_simp; (try with_reducible rfl)
              simp only [Act.put, List.setIfInBounds_toArray, List.set_cons_zero, List.set_cons_succ]
              refine wpAnyH_ready (rs := [1]) (by kernel_rfl) (by simp) ?_
              refine AllReadyH.cons (o := ?obkx5) ?hbkx5 (fun K hK => ?sbkx5) AllReadyH.nil
              case hbkx5 => simp only [List.getElem?_toArray, List.getElem?_cons_zero, List.getElem?_cons_succ]; rfl
              go_simp
              refine (tback_any (HD.out.no HKD.out) (by have := HL.out; omega)).mono ?_
              rintro e w5 ⟨rfl, hd5, hk5⟩
              rw [← HNL.out]
              have hS5 := (HS.out.no HKD.out).call (HRR.out.no HKD.out) (fun q f => ⟨(HF.out q f).1, (HF.out q f).2.1, (HF.out q f).2.2⟩) hd5 hk5
              have bx1 := hS5.1.bx.c1
              have bf1 := hS5.1.bx.fz 1
              have HS5 := hide hS5.1
              clear hd5 hk5 hS5
              go_wp2_with fail
              refine hK.out _ _ (bx1) (fun hHeld => ?_)
              clear hK K
              try simp only [Act.put, List.setIfInBounds_toArray, List.set_cons_zero, List.set_cons_succ]
              refine wpAnyH_take (i := 5) (v := ?vbkx6) (oi := ?obkx6) ?hbkx6 (by kernel_rfl) (by kernel_rfl) (by kernel_rfl) (fun _ _ _ h => h) (Or.inl ⟨?wbkx6, ?ybkx6⟩) hHeld ?rbkx6
              case hbkx6 => simp only [List.getElem?_toArray, List.getElem?_cons_zero, List.getElem?_cons_succ]; rfl
              case wbkx6 => rfl
              case ybkx6 => intro w hSw; (try dsimp only at hSw); go_simp; (try with_reducible rfl)
              simp only [Act.put, List.setIfInBounds_toArray, List.set_cons_zero, List.set_cons_succ]
              refine wpAnyH_done (by kernel_rfl) ?_ _
              refine NoPanic.normal ?_
              go_wp2_with fail
              obtain ⟨F5, hD5, hR5, hF5⟩ := HS5.out.ex
              have hN : TpS W (Xsa s sa) g s (Tp.mk D.sf [] D.most) (Tp.mk D.sf [] D.most) (.slice As ns cs) (.slice none 0 0) (w5.setCell ⟨s, 1, none⟩ (.slice none 0 0)) := HS5.out.ref hD5 hF5 ⟨hR5.s, BtF.none _ _, hR5.bd⟩ (Kp.refl No w5) (Kp.setCell (p := ⟨s, 1, none⟩) (S := fun k => k = s) rfl _) (HS5.out.bx.set1 _)
              have HN := hide hN
              clear hN hD5 hR5 hF5 bx1 bf1 ax1
              go_meet
              exact ⟨0, rfl, rfl, ⟨(Tp.mk D.sf [] D.most), As, ns, cs, none, 0, 0, HN.out, by have h2 := HL.out; show D.sf.length + 0 ≤ _; have h1 : D.len = D.sf.length + D.ls.length := rfl; omega, HMX.out⟩⟩
            by_cases e3 : d.kind = 3
            · have t1 : (d.kind == 1) = false := by simp [e1]
              have t2 : (d.kind == 2) = false := by simp [e2]
              have t3 : (d.kind == 3) = true := by simp [e3]
              clear e1 e2 e3
              obtain ⟨F, hD, hR, hF⟩ := HS.out.ex
              have HD := hide hD
              have HRR := hide hR
              have HF := hide hF
              clear hD hR hF
              have ax0 := HS.out.bx.c0
              have ax1 := HS.out.bx.c1
              have ax2 := HS.out.bx.c2
              have af0 := HS.out.bx.fz 0
              have af1 := HS.out.bx.fz 1
              have af2 := HS.out.bx.fz 2
              have aa0 := HBA.out.c0
              have aa1 := HBA.out.c1
              have aa2 := HBA.out.c2
              have aa3 := HBA.out.c3
              go_wp2_with fail
              refine (rcrash13_any ⟨_, _, rfl, HRR.out⟩ (by have := HL.out; omega) d.n d.bits).mono ?_
              rintro e w5 ⟨v5, rfl, ⟨vs5, vl5, rfl, hR5⟩, k5⟩
              obtain ⟨As5, ns5, cs5, Al5, nl5, cl5, rfl, rfl, -, -, -, -⟩ := hR5.forms
              clear ax0 af0 ax1 af1 ax2 af2
              clear aa0 aa1 aa2 aa3
              have hKa := k5.trans' (Kp.alloc No w5 (.cells #[.slice As5 ns5 cs5, .slice Al5 nl5 cl5, .int .i64 ((D.crash d.n d.bits).most : Int)] 28))
              have hB6 : BxT ((((w5.alloc (.cells #[.slice As5 ns5 cs5, .slice Al5 nl5 cl5, .int .i64 ((D.crash d.n d.bits).most : Int)] 28)).setCell ⟨s, 0, none⟩ (.slice As5 ns5 cs5)).setCell ⟨s, 1, none⟩ (.slice Al5 nl5 cl5)).setCell ⟨s, 2, none⟩ (.int .i64 ((D.crash d.n d.bits).most : Int))) s (.slice As5 ns5 cs5) (.slice Al5 nl5 cl5) (D.crash d.n d.bits).most := (HS.out.no hKa).bx.set3 _ _ _
              have HS6 := hide (HS.out.ref HD.out HF.out (hR5.no (Kp.alloc No w5 (.cells #[.slice As5 ns5 cs5, .slice Al5 nl5 cl5, .int .i64 ((D.crash d.n d.bits).most : Int)] 28))) hKa (kp_set3 (w5.alloc (.cells #[.slice As5 ns5 cs5, .slice Al5 nl5 cl5, .int .i64 ((D.crash d.n d.bits).most : Int)] 28)) s (.slice As5 ns5 cs5) (.slice Al5 nl5 cl5) (.int .i64 ((D.crash d.n d.bits).most : Int))) hB6)
              have HBA6 := hide ((HBA.out.keep hKa fun f => f).keep (kp_set3 (w5.alloc (.cells #[.slice As5 ns5 cs5, .slice Al5 nl5 cl5, .int .i64 ((D.crash d.n d.bits).most : Int)] 28)) s (.slice As5 ns5 cs5) (.slice Al5 nl5 cl5) (.int .i64 ((D.crash d.n d.bits).most : Int))) (Ne.symm HNE.out))
              have hsl := (HS.out.no k5).bx.lt
              have cx0 := (HS.out.no hKa).bx.c0
              have cx1 := (HS.out.no hKa).bx.c1
              have cx2 := (HS.out.no hKa).bx.c2
              have cf0 := (HS.out.no hKa).bx.fz 0
              have cf1 := (HS.out.no hKa).bx.fz 1
              have cf2 := (HS.out.no hKa).bx.fz 2
              clear hR5 k5 hB6 hKa
              unfold rtV tupT
              go_upto_region 23 with (fail)
              generalize hwa : w5.alloc (.cells #[.slice As5 ns5 cs5, .slice Al5 nl5 cl5, .int .i64 ((D.crash d.n d.bits).most : Int)] 28) = wa at HS6 HBA6 cx0 cx1 cx2 cf0 cf1 cf2 ⊢
              have tx0 : wa.cell? ⟨w5.heap.size, 0, none⟩ = some (.slice As5 ns5 cs5) := by rw [← hwa, World.cell?_alloc_mark]; rfl
              have tx1 : wa.cell? ⟨w5.heap.size, 1, none⟩ = some (.slice Al5 nl5 cl5) := by rw [← hwa, World.cell?_alloc_mark]; rfl
              have tx2 : wa.cell? ⟨w5.heap.size, 2, none⟩ = some (.int .i64 ((D.crash d.n d.bits).most : Int)) := by rw [← hwa, World.cell?_alloc_mark]; rfl
              clear hwa
              generalize w5.heap.size = st at tx0 tx1 tx2 hsl ⊢
              go_upto_region 24 with (fail)
              clear cx0 cf0 cx1 cf1 cx2 cf2
              clear tx0 tx1 tx2 hsl
              generalize (((wa.setCell ⟨s, 0, none⟩ (.slice As5 ns5 cs5)).setCell ⟨s, 1, none⟩ (.slice Al5 nl5 cl5)).setCell ⟨s, 2, none⟩ (.int .i64 ((D.crash d.n d.bits).most : Int))) = w6 at HS6 HBA6 ⊢
              obtain ⟨F6, hD6, hR6, hF6⟩ := HS6.out.ex
              have HD6 := hide hD6
              have HRR6 := hide hR6
              have HF6 := hide hF6
              clear hD6 hR6 hF6
              have ba0 := HBA6.out.c0
              have ba1 := HBA6.out.c1
              have ba2 := HBA6.out.c2
              have ba3 := HBA6.out.c3
              go_wp2_with fail
              refine (tcrash_any HD6.out (by have := HL.out; omega) d.n d.bits).mono ?_
              rintro e w7 ⟨rfl, hd7, hk7⟩
              have hS7 := HS6.out.call HRR6.out HF6.out hd7 hk7
              have HS7 := hide hS7.1
              clear ba0 ba1 ba2 ba3
              clear hd7 hk7 hS7
              go_wp2_with fail
              go_meet
              exact ⟨0, rfl, rfl, ⟨D.crash d.n d.bits, As5, ns5, cs5, Al5, nl5, cl5, HS7.out, by rw [Tp.crash_len]; have h1 := D.stay_le d.n; have h2 := HL.out; have h3 : D.len = D.sf.length + D.ls.length := rfl; omega, HMX.out⟩⟩
            by_cases e4 : d.kind = 4
            · have t1 : (d.kind == 1) = false := by simp [e1]
              have t2 : (d.kind == 2) = false := by simp [e2]
              have t3 : (d.kind == 3) = false := by simp [e3]
              have t4 : (d.kind == 4) = true := by simp [e4]
              clear e1 e2 e3 e4
              obtain ⟨F, hD, hR, hF⟩ := HS.out.ex
              have HD := hide hD
              have HRR := hide hR
              have HF := hide hF
              clear hD hR hF
              have ax0 := HS.out.bx.c0
              have ax1 := HS.out.bx.c1
              have ax2 := HS.out.bx.c2
              have af0 := HS.out.bx.fz 0
              have af1 := HS.out.bx.fz 1
              have af2 := HS.out.bx.fz 2
              have aa0 := HBA.out.c0
              have aa1 := HBA.out.c1
              have aa2 := HBA.out.c2
              have aa3 := HBA.out.c3
              go_wp2_with fail
              refine (tcut_any HD.out (by have := HL.out; omega) d.n).mono ?_
              rintro e w3 ⟨rfl, hd3, hk3⟩
              have hS3 := HS.out.call HRR.out HF.out hd3 hk3
              have HBA3 := hide (HBA.out.keep hS3.2 fun h => h (.inr rfl))
              have HS3 := hide hS3.1
              clear ax0 af0 ax1 af1 ax2 af2
              clear aa0 aa1 aa2 aa3
              clear hd3 hk3 hS3
              obtain ⟨F3, hD3, hR3, hF3⟩ := HS3.out.ex
              have HD3 := hide hD3
              have HRR3 := hide hR3
              have HF3 := hide hF3
              clear hD3 hR3 hF3
              have bx0 := HS3.out.bx.c0
              have bx1 := HS3.out.bx.c1
              have bx2 := HS3.out.bx.c2
              have bf0 := HS3.out.bx.fz 0
              have bf1 := HS3.out.bx.fz 1
              have bf2 := HS3.out.bx.fz 2
              have ba0 := HBA3.out.c0
              have ba1 := HBA3.out.c1
              have ba2 := HBA3.out.c2
              have ba3 := HBA3.out.c3
              go_wp2_with fail
              refine (rcut13_any ⟨_, _, rfl, HRR3.out⟩ (by have := HL.out; omega) d.n).mono ?_
              rintro e w5 ⟨v5, rfl, ⟨vs5, vl5, rfl, hR5⟩, k5⟩
              obtain ⟨As5, ns5, cs5, Al5, nl5, cl5, rfl, rfl, -, -, -, -⟩ := hR5.forms
              clear bx0 bf0 bx1 bf1 bx2 bf2
              clear ba0 ba1 ba2 ba3
              have hB5 : BxT (((w5.setCell ⟨s, 0, none⟩ (.slice As5 ns5 cs5)).setCell ⟨s, 1, none⟩ (.slice Al5 nl5 cl5)).setCell ⟨s, 2, none⟩ (.int .i64 ((D.cut d.n).most : Int))) s (.slice As5 ns5 cs5) (.slice Al5 nl5 cl5) (D.cut d.n).most := (HS3.out.no k5).bx.set3 _ _ _
              have HS5 := hide (HS3.out.ref HD3.out HF3.out hR5 k5 (kp_set3 w5 s (.slice As5 ns5 cs5) (.slice Al5 nl5 cl5) (.int .i64 ((D.cut d.n).most : Int))) hB5)
              have cx0 := (HS3.out.no k5).bx.c0
              have cx1 := (HS3.out.no k5).bx.c1
              have cx2 := (HS3.out.no k5).bx.c2
              have cf0 := (HS3.out.no k5).bx.fz 0
              have cf1 := (HS3.out.no k5).bx.fz 1
              have cf2 := (HS3.out.no k5).bx.fz 2
              clear hR5 k5 hB5
              unfold rtV tupT
              go_wp2_with fail
              go_meet
              exact ⟨_, rfl, rfl, ⟨D.cut d.n, As5, ns5, cs5, Al5, nl5, cl5, HS5.out, by have := D.cut_len d.n; have h2 := HL.out; omega, by rw [D.cut_most]; exact HMX.out⟩⟩
            · have t1 : (d.kind == 1) = false := by simp [e1]
              have t2 : (d.kind == 2) = false := by simp [e2]
              have t3 : (d.kind == 3) = false := by simp [e3]
              have t4 : (d.kind == 4) = false := by simp [e4]
              clear e1 e2 e3 e4
              obtain ⟨F, hD, hR, hF⟩ := HS.out.ex
              have HD := hide hD
              have HRR := hide hR
              have HF := hide hF
              clear hD hR hF
              have ax0 := HS.out.bx.c0
              have ax1 := HS.out.bx.c1
              have ax2 := HS.out.bx.c2
              have af0 := HS.out.bx.fz 0
              have af1 := HS.out.bx.fz 1
              have af2 := HS.out.bx.fz 2
              have aa0 := HBA.out.c0
              have aa1 := HBA.out.c1
              have aa2 := HBA.out.c2
              have aa3 := HBA.out.c3
              go_wp2_with fail
              refine (tput_any HD.out (HBW.out.no HS.out.kp) (by have := HL.out; have := HML.out; omega)).mono ?_
              rintro e w3 ⟨rfl, hd3, hk3⟩
              have hS3 := HS.out.call HRR.out HF.out hd3 hk3
              have HBA3 := hide (HBA.out.keep hS3.2 fun h => h (.inr rfl))
              have HS3 := hide hS3.1
              clear ax0 af0 ax1 af1 ax2 af2
              clear aa0 aa1 aa2 aa3
              clear hd3 hk3 hS3
              obtain ⟨F3, hD3, hR3, hF3⟩ := HS3.out.ex
              have HD3 := hide hD3
              have HRR3 := hide hR3
              have HF3 := hide hF3
              clear hD3 hR3 hF3
              have bx0 := HS3.out.bx.c0
              have bx1 := HS3.out.bx.c1
              have bx2 := HS3.out.bx.c2
              have bf0 := HS3.out.bx.fz 0
              have bf1 := HS3.out.bx.fz 1
              have bf2 := HS3.out.bx.fz 2
              have ba0 := HBA3.out.c0
              have ba1 := HBA3.out.c1
              have ba2 := HBA3.out.c2
              have ba3 := HBA3.out.c3
              go_wp2_with fail
              refine (rput13_any ⟨_, _, rfl, HRR3.out⟩ (HBW.out.no HS3.out.kp) (by have := HL.out; omega) (by have := HL.out; have := HML.out; omega) HMX.out).mono ?_
              rintro e w5 ⟨v5, rfl, ⟨vs5, vl5, rfl, hR5⟩, k5⟩
              obtain ⟨As5, ns5, cs5, Al5, nl5, cl5, rfl, rfl, -, -, -, -⟩ := hR5.forms
              clear bx0 bf0 bx1 bf1 bx2 bf2
              clear ba0 ba1 ba2 ba3
              have hB5 : BxT (((w5.setCell ⟨s, 0, none⟩ (.slice As5 ns5 cs5)).setCell ⟨s, 1, none⟩ (.slice Al5 nl5 cl5)).setCell ⟨s, 2, none⟩ (.int .i64 ((D.put d.b).most : Int))) s (.slice As5 ns5 cs5) (.slice Al5 nl5 cl5) (D.put d.b).most := (HS3.out.no k5).bx.set3 _ _ _
              have HS5 := hide (HS3.out.ref HD3.out HF3.out hR5 k5 (kp_set3 w5 s (.slice As5 ns5 cs5) (.slice Al5 nl5 cl5) (.int .i64 ((D.put d.b).most : Int))) hB5)
              have cx0 := (HS3.out.no k5).bx.c0
              have cx1 := (HS3.out.no k5).bx.c1
              have cx2 := (HS3.out.no k5).bx.c2
              have cf0 := (HS3.out.no k5).bx.fz 0
              have cf1 := (HS3.out.no k5).bx.fz 1
              have cf2 := (HS3.out.no k5).bx.fz 2
              clear hR5 k5 hB5
              unfold rtV tupT
              go_wp2_with fail
              go_meet
              exact ⟨_, rfl, rfl, ⟨D.put d.b, As5, ns5, cs5, Al5, nl5, cl5, HS5.out, by have := D.put_len d.b; have h2 := HL.out; have h3 := HML.out; omega, by rw [D.put_most]; exact HMX.out⟩⟩
          case rest =>
          obtain ⟨q, rfl, rfl, ⟨D2, As2, ns2, cs2, Al2, nl2, cl2, hS2, hl2, hmx2⟩⟩ := hcut
          obtain ⟨F2, hD2, hR2, hF2⟩ := hS2.ex
          obtain ⟨N, hN⟩ : ∃ N, N = D2.len := ⟨_, rfl⟩
          have hNs : ns2 = D2.sf.length := hR2.s.bts.len
          have hNl : nl2 = D2.ls.length := hR2.l.bts.len
          have hDL : D2.len = D2.sf.length + D2.ls.length := rfl
          have hN9 : N ≤ 25000 := by omega
          have hNN : (ns2 : Int) + (nl2 : Int) = (N : Int) := by omega
          have hwN : IntKind.i64.wrap (N : Int) = (N : Int) := IntWalk.i64_in _ (by omega)
          have HD2L : Hid (D2.len = N) := hN.symm
          have HD2S : Hid (D2.sf.length = ns2) := hNs.symm
          have HLM : Hid (D2.len ≤ (k + 1) * 500 ∧ D2.most ≤ 9223372036854775807) := ⟨hl2, hmx2⟩
          clear hN hNs hNl hDL hl2 hmx2
          have HS2 := hide hS2
          have HD := hide (show ∀ w', Kp No wc w' → TpAt w' F2 g D2 from fun w' hk => hD2.no hk)
          have HRf := hide (show ∀ w', Kp No wc w' → RtAt w' (fun k => F2 k ∨ Xsa s sa k) D2 (rtV D2 (.slice As2 ns2 cs2) (.slice Al2 nl2 cl2)) from fun w' hk => ⟨_, _, rfl, hR2.no hk⟩)
          obtain ⟨tb, htb⟩ : ∃ t, t = strOf (D2.sf ++ D2.ls) := ⟨_, rfl⟩
          have HTB := hide htb
          clear htb hS2 hD2 hR2 hF2
          unfold rtV at *
          go_wp2_with fail
          refine (tlen_any (HD.out _ (Kp.refl No wc))).mono ?_
          rintro e w5 ⟨rfl, k5⟩
          rw [HD2L.out, HD2S.out]
          have HKD : Hid (Kp No wc w5.drew) := k5.drew
          have HS5 := hide (HS2.out.no k5)
          have y0 : w5.drew.cell? ⟨s, 0, none⟩ = some (.slice As2 ns2 cs2) := HS5.out.bx.c0
          have y1 : w5.drew.cell? ⟨s, 1, none⟩ = some (.slice Al2 nl2 cl2) := HS5.out.bx.c1
          have y2 : w5.drew.cell? ⟨s, 2, none⟩ = some (.int .i64 (D2.most : Int)) := HS5.out.bx.c2
          clear k5
          go_wp2_with fail
          refine wp_region_noPanic ?_
          refine wp_region_held_drew (S := fun w' => w'.cell? ⟨s, 0, none⟩ = some (.slice As2 ns2 cs2) ∧ w'.cell? ⟨s, 1, none⟩ = some (.slice Al2 nl2 cl2) ∧ w'.cell? ⟨s, 2, none⟩ = some (.int .i64 (D2.most : Int))) (by kernel_rfl) (⟨y0, y1, y2⟩) (fun hHeld => ?_)
          refine wpAnyH_take (i := 0) (v := ?vzx1) (oi := ?ozx1) ?hzx1 (by kernel_rfl) (by kernel_rfl) (by kernel_rfl) (fun _ _ _ h => h) (Or.inl ⟨?wzx1, ?yzx1⟩) hHeld ?rzx1
          case hzx1 => simp only [List.getElem?_toArray, List.getElem?_cons_zero, List.getElem?_cons_succ]; rfl
          case wzx1 => rfl
          case yzx1 => intro w hSw; (try dsimp only at hSw); go_simp; (try with_reducible rfl)
          simp only [Act.put, List.setIfInBounds_toArray, List.set_cons_zero, List.set_cons_succ]
          refine wpAnyH_take (i := 1) (v := ?vzx2) (oi := ?ozx2) ?hzx2 (by kernel_rfl) (by kernel_rfl) (by kernel_rfl) (fun _ _ _ h => h) (Or.inl ⟨?wzx2, ?yzx2⟩) hHeld ?rzx2
          case hzx2 => simp only [List.getElem?_toArray, List.getElem?_cons_zero, List.getElem?_cons_succ]; rfl
          case wzx2 => rfl
          case yzx2 => intro w hSw; (try dsimp only at hSw); go_simp; (try with_reducible rfl)
          simp only [Act.put, List.setIfInBounds_toArray, List.set_cons_zero, List.set_cons_succ]
          refine wpAnyH_take (i := 2) (v := ?vzx3) (oi := ?ozx3) ?hzx3 (by kernel_rfl) (by kernel_rfl) (by kernel_rfl) (fun _ _ _ h => h) (Or.inl ⟨?wzx3, ?yzx3⟩) hHeld ?rzx3
          case hzx3 => simp only [List.getElem?_toArray, List.getElem?_cons_zero, List.getElem?_cons_succ]; rfl
          case wzx3 => rfl
          case yzx3 => intro w hSw; (try dsimp only at hSw); go_simp; (try with_reducible rfl)
          simp only [Act.put, List.setIfInBounds_toArray, List.set_cons_zero, List.set_cons_succ]
          refine wpAnyH_take (i := 3) (v := ?vzx4) (oi := ?ozx4) ?hzx4 (by kernel_rfl) (by kernel_rfl) (by kernel_rfl) (fun _ _ _ h => h) (Or.inl ⟨?wzx4, ?yzx4⟩) hHeld ?rzx4
          case hzx4 => simp only [List.getElem?_toArray, List.getElem?_cons_zero, List.getElem?_cons_succ]; rfl
          case wzx4 => rfl
          case yzx4 => intro w hSw; (try dsimp only at hSw); go_simp; (try with_reducible rfl)
          simp only [Act.put, List.setIfInBounds_toArray, List.set_cons_zero, List.set_cons_succ]
          refine wpAnyH_take (i := 4) (v := ?vzx5) (oi := ?ozx5) ?hzx5 (by kernel_rfl) (by kernel_rfl) (by kernel_rfl) (fun _ _ _ h => h) (Or.inl ⟨?wzx5, ?yzx5⟩) hHeld ?rzx5
          case hzx5 => simp only [List.getElem?_toArray, List.getElem?_cons_zero, List.getElem?_cons_succ]; rfl
          case wzx5 => rfl
          case yzx5 => intro w hSw; (try dsimp only at hSw); go_simp; (try with_reducible rfl)
          simp only [Act.put, List.setIfInBounds_toArray, List.set_cons_zero, List.set_cons_succ]
          refine wpAnyH_take (i := 5) (v := ?vzx6) (oi := ?ozx6) ?hzx6 (by kernel_rfl) (by kernel_rfl) (by kernel_rfl) (fun _ _ _ h => h) (Or.inl ⟨?wzx6, ?yzx6⟩) hHeld ?rzx6
          case hzx6 => simp only [List.getElem?_toArray, List.getElem?_cons_zero, List.getElem?_cons_succ]; rfl
          case wzx6 => rfl
          case yzx6 => intro w hSw; (try dsimp only at hSw); go_simp; (try with_reducible rfl)
          simp only [Act.put, List.setIfInBounds_toArray, List.set_cons_zero, List.set_cons_succ]
          refine wpAnyH_take (i := 6) (v := ?vzx7) (oi := ?ozx7) ?hzx7 (by kernel_rfl) (by kernel_rfl) (by kernel_rfl) (fun _ _ _ h => h) (Or.inl ⟨?wzx7, ?yzx7⟩) hHeld ?rzx7
          case hzx7 => simp only [List.getElem?_toArray, List.getElem?_cons_zero, List.getElem?_cons_succ]; rfl
          case wzx7 => rfl
          case yzx7 => intro w hSw; (try dsimp only at hSw); go_simp; (try with_reducible rfl)
          simp only [Act.put, List.setIfInBounds_toArray, List.set_cons_zero, List.set_cons_succ]
          refine wpAnyH_take (i := 7) (v := ?vzx8) (oi := ?ozx8) ?hzx8 (by kernel_rfl) (by kernel_rfl) (by kernel_rfl) (fun _ _ _ h => h) (Or.inl ⟨?wzx8, ?yzx8⟩) hHeld ?rzx8
          case hzx8 => simp only [List.getElem?_toArray, List.getElem?_cons_zero, List.getElem?_cons_succ]; rfl
          case wzx8 => rfl
          case yzx8 => intro w hSw; (try dsimp only at hSw); go_simp; (try with_reducible rfl)
          simp only [Act.put, List.setIfInBounds_toArray, List.set_cons_zero, List.set_cons_succ]
          refine wpAnyH_take (i := 8) (v := ?vzx9) (oi := ?ozx9) ?hzx9 (by kernel_rfl) (by kernel_rfl) (by kernel_rfl) (fun _ _ _ h => h) (Or.inl ⟨?wzx9, ?yzx9⟩) hHeld ?rzx9
          case hzx9 => simp only [List.getElem?_toArray, List.getElem?_cons_zero, List.getElem?_cons_succ]; rfl
          case wzx9 => rfl
          case yzx9 => intro w hSw; (try dsimp only at hSw); go_simp; (try with_reducible rfl)
          simp only [Act.put, List.setIfInBounds_toArray, List.set_cons_zero, List.set_cons_succ]
          refine wpAnyH_take (i := 9) (v := ?vzx10) (oi := ?ozx10) ?hzx10 (by kernel_rfl) (by kernel_rfl) (by kernel_rfl) (fun _ _ _ h => h) (Or.inl ⟨?wzx10, ?yzx10⟩) hHeld ?rzx10
          case hzx10 => simp only [List.getElem?_toArray, List.getElem?_cons_zero, List.getElem?_cons_succ]; rfl
          case wzx10 => rfl
          case yzx10 => intro w hSw; (try dsimp only at hSw); go_simp; (try with_reducible rfl)
          simp only [Act.put, List.setIfInBounds_toArray, List.set_cons_zero, List.set_cons_succ]
          refine wpAnyH_take (i := 10) (v := ?vzx11) (oi := ?ozx11) ?hzx11 (by kernel_rfl) (by kernel_rfl) (by kernel_rfl) (fun _ _ _ h => h) (Or.inl ⟨?wzx11, ?yzx11⟩) hHeld ?rzx11
          case hzx11 => simp only [List.getElem?_toArray, List.getElem?_cons_zero, List.getElem?_cons_succ]; rfl
          case wzx11 => rfl
          case yzx11 => intro w hSw; (try dsimp only at hSw); go_simp; (try with_reducible rfl)
          simp only [Act.put, List.setIfInBounds_toArray, List.set_cons_zero, List.set_cons_succ]
          refine wpAnyH_take (i := 11) (v := ?vzx12) (oi := ?ozx12) ?hzx12 (by kernel_rfl) (by kernel_rfl) (by kernel_rfl) (fun _ _ _ h => h) (Or.inl ⟨?wzx12, ?yzx12⟩) hHeld ?rzx12
          case hzx12 => simp only [List.getElem?_toArray, List.getElem?_cons_zero, List.getElem?_cons_succ]; rfl
          case wzx12 => rfl
          case yzx12 => intro w hSw; (try dsimp only at hSw); go_simp; (try with_reducible rfl)
          simp only [Act.put, List.setIfInBounds_toArray, List.set_cons_zero, List.set_cons_succ]
          refine wpAnyH_take (i := 12) (v := ?vzx13) (oi := ?ozx13) ?hzx13 (by kernel_rfl) (by kernel_rfl) (by kernel_rfl) (fun _ _ _ h => h) (Or.inl ⟨?wzx13, ?yzx13⟩) hHeld ?rzx13
          case hzx13 => simp only [List.getElem?_toArray, List.getElem?_cons_zero, List.getElem?_cons_succ]; rfl
          case wzx13 => rfl
          case yzx13 => intro w hSw; (try dsimp only at hSw); go_simp; (try with_reducible rfl)
          simp only [Act.put, List.setIfInBounds_toArray, List.set_cons_zero, List.set_cons_succ]
          refine wpAnyH_take (i := 13) (v := ?vzx14) (oi := ?ozx14) ?hzx14 (by kernel_rfl) (by kernel_rfl) (by kernel_rfl) (fun _ _ _ h => h) (Or.inl ⟨?wzx14, ?yzx14⟩) hHeld ?rzx14
          case hzx14 => simp only [List.getElem?_toArray, List.getElem?_cons_zero, List.getElem?_cons_succ]; rfl
          case wzx14 => rfl
          case yzx14 => intro w hSw; (try dsimp only at hSw); go_simp; (try with_reducible rfl)
          simp only [Act.put, List.setIfInBounds_toArray, List.set_cons_zero, List.set_cons_succ]
          refine wpAnyH_take (i := 14) (v := ?vzx15) (oi := ?ozx15) ?hzx15 (by kernel_rfl) (by kernel_rfl) (by kernel_rfl) (fun _ _ _ h => h) (Or.inl ⟨?wzx15, ?yzx15⟩) hHeld ?rzx15
          case hzx15 => simp only [List.getElem?_toArray, List.getElem?_cons_zero, List.getElem?_cons_succ]; rfl
          case wzx15 => rfl
          case yzx15 => intro w hSw; (try dsimp only at hSw); go_simp; (try with_reducible rfl)
          simp only [Act.put, List.setIfInBounds_toArray, List.set_cons_zero, List.set_cons_succ]
          refine wpAnyH_take (i := 15) (v := ?vzx16) (oi := ?ozx16) ?hzx16 (by kernel_rfl) (by kernel_rfl) (by kernel_rfl) (fun _ _ _ h => h) (Or.inl ⟨?wzx16, ?yzx16⟩) hHeld ?rzx16
          case hzx16 => simp only [List.getElem?_toArray, List.getElem?_cons_zero, List.getElem?_cons_succ]; rfl
          case wzx16 => rfl
          case yzx16 => intro w hSw; (try dsimp only at hSw); go_simp; (try with_reducible rfl)
          simp only [Act.put, List.setIfInBounds_toArray, List.set_cons_zero, List.set_cons_succ]
          refine wpAnyH_take (i := 16) (v := ?vzx17) (oi := ?ozx17) ?hzx17 (by kernel_rfl) (by kernel_rfl) (by kernel_rfl) (fun _ _ _ h => h) (Or.inl ⟨?wzx17, ?yzx17⟩) hHeld ?rzx17
          case hzx17 => simp only [List.getElem?_toArray, List.getElem?_cons_zero, List.getElem?_cons_succ]; rfl
          case wzx17 => rfl
          case yzx17 => intro w hSw; (try dsimp only at hSw); go_simp; (try with_reducible rfl)
          simp only [Act.put, List.setIfInBounds_toArray, List.set_cons_zero, List.set_cons_succ]
          refine wpAnyH_take (i := 17) (v := ?vzx18) (oi := ?ozx18) ?hzx18 (by kernel_rfl) (by kernel_rfl) (by kernel_rfl) (fun _ _ _ h => h) (Or.inl ⟨?wzx18, ?yzx18⟩) hHeld ?rzx18
          case hzx18 => simp only [List.getElem?_toArray, List.getElem?_cons_zero, List.getElem?_cons_succ]; rfl
          case wzx18 => rfl
          case yzx18 => intro w hSw; (try dsimp only at hSw); go_simp; (try with_reducible rfl)
          simp only [Act.put, List.setIfInBounds_toArray, List.set_cons_zero, List.set_cons_succ]
          refine wpAnyH_take (i := 18) (v := ?vzx19) (oi := ?ozx19) ?hzx19 (by kernel_rfl) (by kernel_rfl) (by kernel_rfl) (fun _ _ _ h => h) (Or.inl ⟨?wzx19, ?yzx19⟩) hHeld ?rzx19
          case hzx19 => simp only [List.getElem?_toArray, List.getElem?_cons_zero, List.getElem?_cons_succ]; rfl
          case wzx19 => rfl
          case yzx19 => intro w hSw; (try dsimp only at hSw); go_simp; (try with_reducible rfl)
          simp only [Act.put, List.setIfInBounds_toArray, List.set_cons_zero, List.set_cons_succ]
          refine wpAnyH_take (i := 19) (v := ?vzx20) (oi := ?ozx20) ?hzx20 (by kernel_rfl) (by kernel_rfl) (by kernel_rfl) (fun _ _ _ h => h) (Or.inl ⟨?wzx20, ?yzx20⟩) hHeld ?rzx20
          case hzx20 => simp only [List.getElem?_toArray, List.getElem?_cons_zero, List.getElem?_cons_succ]; rfl
          case wzx20 => rfl
          case yzx20 => intro w hSw; (try dsimp only at hSw); go_simp; (try with_reducible rfl)
          simp only [Act.put, List.setIfInBounds_toArray, List.set_cons_zero, List.set_cons_succ]
          refine wpAnyH_take (i := 20) (v := ?vzx21) (oi := ?ozx21) ?hzx21 (by kernel_rfl) (by kernel_rfl) (by kernel_rfl) (fun _ _ _ h => h) (Or.inl ⟨?wzx21, ?yzx21⟩) hHeld ?rzx21
          case hzx21 => simp only [List.getElem?_toArray, List.getElem?_cons_zero, List.getElem?_cons_succ]; rfl
          case wzx21 => rfl
          case yzx21 => intro w hSw; (try dsimp only at hSw); go_simp; (try with_reducible rfl)
          simp only [Act.put, List.setIfInBounds_toArray, List.set_cons_zero, List.set_cons_succ]
          refine wpAnyH_take (i := 21) (v := ?vzx22) (oi := ?ozx22) ?hzx22 (by kernel_rfl) (by kernel_rfl) (by kernel_rfl) (fun _ _ _ h => h) (Or.inl ⟨?wzx22, ?yzx22⟩) hHeld ?rzx22
          case hzx22 => simp only [List.getElem?_toArray, List.getElem?_cons_zero, List.getElem?_cons_succ]; rfl
          case wzx22 => rfl
          case yzx22 => intro w hSw; (try dsimp only at hSw); go_simp; (try with_reducible rfl)
          simp only [Act.put, List.setIfInBounds_toArray, List.set_cons_zero, List.set_cons_succ]
          refine wpAnyH_take (i := 22) (v := ?vzx23) (oi := ?ozx23) ?hzx23 (by kernel_rfl) (by kernel_rfl) (by kernel_rfl) (fun _ _ _ h => h) (Or.inl ⟨?wzx23, ?yzx23⟩) hHeld ?rzx23
          case hzx23 => simp only [List.getElem?_toArray, List.getElem?_cons_zero, List.getElem?_cons_succ]; rfl
          case wzx23 => rfl
          case yzx23 => intro w hSw; (try dsimp only at hSw); go_simp; (try with_reducible rfl)
          simp only [Act.put, List.setIfInBounds_toArray, List.set_cons_zero, List.set_cons_succ]
          refine wpAnyH_take (i := 25) (v := ?vzx24) (oi := ?ozx24) ?hzx24 (by kernel_rfl) (by kernel_rfl) (by kernel_rfl) (fun _ _ _ h => h) (Or.inl ⟨?wzx24, ?yzx24⟩) hHeld ?rzx24
          case hzx24 => simp only [List.getElem?_toArray, List.getElem?_cons_zero, List.getElem?_cons_succ]; rfl
          case wzx24 => rfl
          case yzx24 => intro w hSw; (try dsimp only at hSw); go_simp; (try with_reducible rfl)
          simp only [Act.put, List.setIfInBounds_toArray, List.set_cons_zero, List.set_cons_succ]
          refine wpAnyH_ready (rs := [23]) (by kernel_rfl) (by simp) ?_
          refine AllReadyH.cons (o := ?ozx25) ?hzx25 (fun K hK => ?szx25) AllReadyH.nil
          case hzx25 => simp only [List.getElem?_toArray, List.getElem?_cons_zero, List.getElem?_cons_succ]; rfl
          go_simp
          refine (tread_any (HD.out _ HKD.out) (by have := HD2L.out; omega)).mono ?_
          rintro e w6 ⟨A6, n6, c6, rfl, o6, k6⟩
          have v6 := conv_bts o6.bts
          rw [← HTB.out] at v6
          have t0 := k6.cell y0 (fun f => f)
          have t1 := k6.cell y1 (fun f => f)
          have t2 := k6.cell y2 (fun f => f)
          go_wp2_with fail
          refine hK.out _ _ (⟨t0, t1, t2⟩) (fun hHeld => ?_)
          clear hK K
          try simp only [Act.put, List.setIfInBounds_toArray, List.set_cons_zero, List.set_cons_succ]
          refine wpAnyH_ready (rs := [24, 26]) (by kernel_rfl) (by simp) ?_
          refine (AllReadyH.cons (o := ?ozx27) ?hzx27 (fun K hK => ?szx27) (AllReadyH.cons (o := ?ozx28) ?hzx28 (fun K hK => ?szx28) AllReadyH.nil))
          case hzx27 => simp only [List.getElem?_toArray, List.getElem?_cons_zero, List.getElem?_cons_succ]; rfl
          case hzx28 => simp only [List.getElem?_toArray, List.getElem?_cons_zero, List.getElem?_cons_succ]; rfl
          case szx27 =>
            go_simp
            refine hK.out _ _ (⟨t0, t1, t2⟩) (fun hHeld => ?_)
            clear hK K
            try simp only [Act.put, List.setIfInBounds_toArray, List.set_cons_zero, List.set_cons_succ]
            refine wpAnyH_ready (rs := [26]) (by kernel_rfl) (by simp) ?_
            refine AllReadyH.cons (o := ?ozx29) ?hzx29 (fun K hK => ?szx29) AllReadyH.nil
            case hzx29 => simp only [List.getElem?_toArray, List.getElem?_cons_zero, List.getElem?_cons_succ]; rfl
            go_simp
            refine (rall_any (HRf.out _ (HKD.out.trans' k6)) (by have := HD2L.out; omega)).mono ?_
            rintro e w7 ⟨A7, n7, c7, rfl, o7, k7⟩
            have v7 := conv_bts o7.bts
            rw [← HTB.out] at v7
            have r0 := k7.cell t0 (fun f => f)
            have r1 := k7.cell t1 (fun f => f)
            have r2 := k7.cell t2 (fun f => f)
            go_wp2_with fail
            refine hK.out _ _ (⟨r0, r1, r2⟩) (fun hHeld => ?_)
            clear hK K
            try simp only [Act.put, List.setIfInBounds_toArray, List.set_cons_zero, List.set_cons_succ]
            refine wpAnyH_ready (rs := [27]) (by kernel_rfl) (by simp) ?_
            refine AllReadyH.cons (o := ?ozx30) ?hzx30 (fun K hK => ?szx30) AllReadyH.nil
            case hzx30 => simp only [List.getElem?_toArray, List.getElem?_cons_zero, List.getElem?_cons_succ]; rfl
            go_simp
            refine hK.out _ _ (⟨r0, r1, r2⟩) (fun hHeld => ?_)
            clear hK K
            try simp only [Act.put, List.setIfInBounds_toArray, List.set_cons_zero, List.set_cons_succ]
            refine wpAnyH_take (i := 28) (v := ?vzx31) (oi := ?ozx31) ?hzx31 (by kernel_rfl) (by kernel_rfl) (by kernel_rfl) (fun _ _ _ h => h) (Or.inl ⟨?wzx31, ?yzx31⟩) hHeld ?rzx31
            case hzx31 => simp only [List.getElem?_toArray, List.getElem?_cons_zero, List.getElem?_cons_succ]; rfl
            case wzx31 => rfl
            case yzx31 => intro w hSw; (try dsimp only at hSw); go_simp; (try with_reducible rfl)
            simp only [Act.put, List.setIfInBounds_toArray, List.set_cons_zero, List.set_cons_succ]
            refine wpAnyH_take (i := 29) (v := ?vzx32) (oi := ?ozx32) ?hzx32 (by kernel_rfl) (by kernel_rfl) (by kernel_rfl) (fun _ _ _ h => h) (Or.inl ⟨?wzx32, ?yzx32⟩) hHeld ?rzx32
            case hzx32 => simp only [List.getElem?_toArray, List.getElem?_cons_zero, List.getElem?_cons_succ]; rfl
            case wzx32 => rfl
            case yzx32 => intro w hSw; (try dsimp only at hSw); go_simp; (try with_reducible rfl)
            simp only [Act.put, List.setIfInBounds_toArray, List.set_cons_zero, List.set_cons_succ]
            refine wpAnyH_done (by kernel_rfl) ?_ _
            refine NoPanic.normal ?_
            have HN : Hid (TpI W g s (k + 1) w7) := ⟨D2, As2, ns2, cs2, Al2, nl2, cl2, (HS2.out.no ((HKD.out.trans' k6).trans' k7)).less, HLM.out.1, HLM.out.2⟩
            clear y0 y1 y2 t0 t1 t2 r0 r1 r2 k6 k7
            go_wp2_with fail
            go_round
            case rel => exact ⟨k + 1, by omega, by omega, by go_num, HN.out⟩
            case measure => simp [intOf]; omega
          case szx28 =>
            go_simp
            refine (rall_any (HRf.out _ (HKD.out.trans' k6)) (by have := HD2L.out; omega)).mono ?_
            rintro e w7 ⟨A7, n7, c7, rfl, o7, k7⟩
            have v7 := conv_bts o7.bts
            rw [← HTB.out] at v7
            have r0 := k7.cell t0 (fun f => f)
            have r1 := k7.cell t1 (fun f => f)
            have r2 := k7.cell t2 (fun f => f)
            have v6 := conv_bts (o6.no k7).bts
            rw [← HTB.out] at v6
            go_wp2_with fail
            refine hK.out _ _ (⟨r0, r1, r2⟩) (fun hHeld => ?_)
            clear hK K
            try simp only [Act.put, List.setIfInBounds_toArray, List.set_cons_zero, List.set_cons_succ]
            refine wpAnyH_ready (rs := [24, 27]) (by kernel_rfl) (by simp) ?_
            refine (AllReadyH.cons (o := ?ozx35) ?hzx35 (fun K hK => ?szx35) (AllReadyH.cons (o := ?ozx36) ?hzx36 (fun K hK => ?szx36) AllReadyH.nil))
            case hzx35 => simp only [List.getElem?_toArray, List.getElem?_cons_zero, List.getElem?_cons_succ]; rfl
            case hzx36 => simp only [List.getElem?_toArray, List.getElem?_cons_zero, List.getElem?_cons_succ]; rfl
            case szx35 =>
              go_simp
              refine hK.out _ _ (⟨r0, r1, r2⟩) (fun hHeld => ?_)
              clear hK K
              try simp only [Act.put, List.setIfInBounds_toArray, List.set_cons_zero, List.set_cons_succ]
              refine wpAnyH_ready (rs := [27]) (by kernel_rfl) (by simp) ?_
              refine AllReadyH.cons (o := ?ozx37) ?hzx37 (fun K hK => ?szx37) AllReadyH.nil
              case hzx37 => simp only [List.getElem?_toArray, List.getElem?_cons_zero, List.getElem?_cons_succ]; rfl
              go_simp
              refine hK.out _ _ (⟨r0, r1, r2⟩) (fun hHeld => ?_)
              clear hK K
              try simp only [Act.put, List.setIfInBounds_toArray, List.set_cons_zero, List.set_cons_succ]
              refine wpAnyH_take (i := 28) (v := ?vzx38) (oi := ?ozx38) ?hzx38 (by kernel_rfl) (by kernel_rfl) (by kernel_rfl) (fun _ _ _ h => h) (Or.inl ⟨?wzx38, ?yzx38⟩) hHeld ?rzx38
              case hzx38 => simp only [List.getElem?_toArray, List.getElem?_cons_zero, List.getElem?_cons_succ]; rfl
              case wzx38 => rfl
              case yzx38 => intro w hSw; (try dsimp only at hSw); go_simp; (try with_reducible rfl)
              simp only [Act.put, List.setIfInBounds_toArray, List.set_cons_zero, List.set_cons_succ]
              refine wpAnyH_take (i := 29) (v := ?vzx39) (oi := ?ozx39) ?hzx39 (by kernel_rfl) (by kernel_rfl) (by kernel_rfl) (fun _ _ _ h => h) (Or.inl ⟨?wzx39, ?yzx39⟩) hHeld ?rzx39
              case hzx39 => simp only [List.getElem?_toArray, List.getElem?_cons_zero, List.getElem?_cons_succ]; rfl
              case wzx39 => rfl
              case yzx39 => intro w hSw; (try dsimp only at hSw); go_simp; (try with_reducible rfl)
              simp only [Act.put, List.setIfInBounds_toArray, List.set_cons_zero, List.set_cons_succ]
              refine wpAnyH_done (by kernel_rfl) ?_ _
              refine NoPanic.normal ?_
              have HN : Hid (TpI W g s (k + 1) w7) := ⟨D2, As2, ns2, cs2, Al2, nl2, cl2, (HS2.out.no ((HKD.out.trans' k6).trans' k7)).less, HLM.out.1, HLM.out.2⟩
              clear y0 y1 y2 t0 t1 t2 r0 r1 r2 k6 k7
              go_wp2_with fail
              go_round
              case rel => exact ⟨k + 1, by omega, by omega, by go_num, HN.out⟩
              case measure => simp [intOf]; omega
            case szx36 =>
              go_simp
              refine hK.out _ _ (⟨r0, r1, r2⟩) (fun hHeld => ?_)
              clear hK K
              try simp only [Act.put, List.setIfInBounds_toArray, List.set_cons_zero, List.set_cons_succ]
              refine wpAnyH_ready (rs := [24]) (by kernel_rfl) (by simp) ?_
              refine AllReadyH.cons (o := ?ozx41) ?hzx41 (fun K hK => ?szx41) AllReadyH.nil
              case hzx41 => simp only [List.getElem?_toArray, List.getElem?_cons_zero, List.getElem?_cons_succ]; rfl
              go_simp
              refine hK.out _ _ (⟨r0, r1, r2⟩) (fun hHeld => ?_)
              clear hK K
              try simp only [Act.put, List.setIfInBounds_toArray, List.set_cons_zero, List.set_cons_succ]
              refine wpAnyH_take (i := 28) (v := ?vzx42) (oi := ?ozx42) ?hzx42 (by kernel_rfl) (by kernel_rfl) (by kernel_rfl) (fun _ _ _ h => h) (Or.inl ⟨?wzx42, ?yzx42⟩) hHeld ?rzx42
              case hzx42 => simp only [List.getElem?_toArray, List.getElem?_cons_zero, List.getElem?_cons_succ]; rfl
              case wzx42 => rfl
              case yzx42 => intro w hSw; (try dsimp only at hSw); go_simp; (try with_reducible rfl)
              simp only [Act.put, List.setIfInBounds_toArray, List.set_cons_zero, List.set_cons_succ]
              refine wpAnyH_take (i := 29) (v := ?vzx43) (oi := ?ozx43) ?hzx43 (by kernel_rfl) (by kernel_rfl) (by kernel_rfl) (fun _ _ _ h => h) (Or.inl ⟨?wzx43, ?yzx43⟩) hHeld ?rzx43
              case hzx43 => simp only [List.getElem?_toArray, List.getElem?_cons_zero, List.getElem?_cons_succ]; rfl
              case wzx43 => rfl
              case yzx43 => intro w hSw; (try dsimp only at hSw); go_simp; (try with_reducible rfl)
              simp only [Act.put, List.setIfInBounds_toArray, List.set_cons_zero, List.set_cons_succ]
              refine wpAnyH_done (by kernel_rfl) ?_ _
              refine NoPanic.normal ?_
              have HN : Hid (TpI W g s (k + 1) w7) := ⟨D2, As2, ns2, cs2, Al2, nl2, cl2, (HS2.out.no ((HKD.out.trans' k6).trans' k7)).less, HLM.out.1, HLM.out.2⟩
              clear y0 y1 y2 t0 t1 t2 r0 r1 r2 k6 k7
              go_wp2_with fail
              go_round
              case rel => exact ⟨k + 1, by omega, by omega, by go_num, HN.out⟩
              case measure => simp [intOf]; omega
      · have HKF : Hid (Kp No W wr) := by obtain ⟨D, As, ns, cs, Al, nl, cl, hS, _⟩ := hI; exact hS.kp
        clear hI
        go_wp2_with fail
        refine (tlen_nil _).mono ?_
        rintro e w9 ⟨rfl, rfl⟩
        go_wp2_with fail
        refine (tread_nil _).mono ?_
        rintro e w9 ⟨rfl, rfl⟩
        go_wp2_with fail
        refine (tback_nil _).mono ?_
        rintro e w9 ⟨rfl, rfl⟩
        go_wp2_with fail
        refine (tcrash_nil _ 1 _).mono ?_
        rintro e w9 ⟨rfl, rfl⟩
        go_wp2_with fail
        refine (tput_nil _ _).mono ?_
        rintro e w9 ⟨rfl, rfl⟩
        go_wp2_with fail
        refine (tsync_nil _).mono ?_
        rintro e w9 ⟨rfl, rfl⟩
        go_wp2_with fail
        refine (tcut_nil _ 0).mono ?_
        rintro e w9 ⟨rfl, rfl⟩
        go_wp2_with fail
        refine (awake13_any _).mono ?_
        rintro e w9 ⟨rfl, k9⟩
        go_wp2_with fail
        go_ret
        exact ⟨rfl, HKF.out.trans' k9⟩
    · have HKF : Hid (Kp No W wr) := by obtain ⟨D, As, ns, cs, Al, nl, cl, hS, _⟩ := hI; exact hS.kp
      clear hI
      go_wp2_with fail
      refine (tlen_nil _).mono ?_
      rintro e w9 ⟨rfl, rfl⟩
      go_wp2_with fail
      refine (tread_nil _).mono ?_
      rintro e w9 ⟨rfl, rfl⟩
      go_wp2_with fail
      refine (tback_nil _).mono ?_
      rintro e w9 ⟨rfl, rfl⟩
      go_wp2_with fail
      refine (tcrash_nil _ 1 _).mono ?_
      rintro e w9 ⟨rfl, rfl⟩
      go_wp2_with fail
      refine (tput_nil _ _).mono ?_
      rintro e w9 ⟨rfl, rfl⟩
      go_wp2_with fail
      refine (tsync_nil _).mono ?_
      rintro e w9 ⟨rfl, rfl⟩
      go_wp2_with fail
      refine (tcut_nil _ 0).mono ?_
      rintro e w9 ⟨rfl, rfl⟩
      go_wp2_with fail
      refine (awake13_any _).mono ?_
      rintro e w9 ⟨rfl, k9⟩
      go_wp2_with fail
      go_ret
      exact ⟨rfl, HKF.out.trans' k9⟩
theorem tapeplays_walk (W : World) (z : Int) (hz : (Lit.int .i64 z).wf = true) {A0 : Option Addr} {n0 c0 : Nat} {ds : List ActT} (h0 : ActsT W A0 n0 ds) :
    Calls Try.prog 3 #[.int .i64 z, .slice A0 n0 c0] W fun e W' => e = .returned (.bool true) ∧ Below W.heap.size W W' := by
  have h1 := bounds_i64 hz
  exact (tapeplays_any W z (by omega) h0).mono fun e W' p => ⟨p.1, p.2.below0⟩
end Go.Proofs.Ytidmeibefndmgaa
