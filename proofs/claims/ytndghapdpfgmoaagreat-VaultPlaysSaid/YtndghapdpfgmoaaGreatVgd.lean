/- The Reader's other calls: bytes, a text, a shard, the rest, and whether it is done; A map from names to cells in memory: what it holds is a list of cells with their names. -/
import Derived.Test.YtndghapdpfgmoaaGreatVgc
import Derived.Test.YtndghapdpfgmoaaGreatVam
import Derived.Maps.RangeWalk
import Derived.DeepKeys4
namespace Go.Proofs.YtndghapdpfgmoaaGreat
open Go.RowKit
set_option linter.unusedVariables false
set_option maxRecDepth 20000
set_option linter.unusedSimpArgs false

/-- What reading bytes comes to: a copy of xs. -/
def RwPost (w : World) (F : Nat → Prop) (g : Nat) (xs ys : List UInt8) (e : Ending) (w1 : World) : Prop :=
  ∃ A m c, e = .returned (.slice A m c) ∧ Own w1 w.heap.size 5 (.slice A m c) xs ∧ RdAt w1 F g ys ∧ Kp (fun b => b = g) w w1

theorem rdraw_any {w : World} {F : Nat → Prop} {g k : Nat} {xs ys : List UInt8} (h : RdAt w F g (xs ++ ys)) (hk : k = xs.length) (hl : k ≤ 900000000) :
    Calls Tryz.prog 64 #[.pointer (some ⟨g, 0, none⟩), .int .i64 k] w (RwPost w F g xs ys) := by
  have HK := hide hk
  clear hk
  go_enter Tryz.func64, Tryz.ntmps64
  go_wp2_with fail
  refine (take_any h HK.out (by omega)).mono ?_
  rintro e w1 ⟨A, m, c, rfl, hb, hr, hkp⟩
  go_wp2_with fail
  refine (clone_any hb (by have := HK.out; omega)).mono ?_
  rintro e w2 ⟨A1, n1, c1, rfl, ho, hk2⟩
  go_wp2
  go_ret
  exact ⟨A1, n1, c1, rfl, ho.rebase fun k hk => Nat.le_trans hkp.size (ho.ge k hk), hr.no hk2, hkp.trans (hk2.of_no _)⟩

theorem rdleft_any {w : World} {F : Nat → Prop} {g : Nat} {ys : List UInt8} (h : RdAt w F g ys) :
    Calls Tryz.prog 65 #[.pointer (some ⟨g, 0, none⟩)] w fun e w1 => e = .returned (.int .i64 ys.length) ∧ w = w1 := by
  obtain ⟨A, m, c, h1, h2, h3, h4, h5⟩ := h
  have hm := h2.len
  obtain ⟨L, hL⟩ : ∃ L, L = ys.length := ⟨_, rfl⟩
  rw [← hL] at hm ⊢
  subst hm
  have hc0 : w.cell? ⟨g, 0, none⟩ = some (.slice A m c) := by rw [cell_of_row w g 0 _ _ _ h1]; rfl
  have H1 := hide h1
  clear h1 hL
  go_enter Tryz.func65, Tryz.ntmps65
  go_wp2
  go_ret
  exact ⟨rfl, rfl⟩

theorem rdtorn_any {w : World} {F : Nat → Prop} {g : Nat} {ys : List UInt8} (h : RdAt w F g ys) :
    Calls Tryz.prog 43 #[.pointer (some ⟨g, 0, none⟩)] w fun e w1 => e = .returned (.bool false) ∧ w = w1 := by
  obtain ⟨A, m, c, h1, h2, h3, h4, h5⟩ := h
  have hc1 : w.cell? ⟨g, 1, none⟩ = some (.bool false) := by rw [cell_of_row w g 1 _ _ _ h1]; rfl
  have H1 := hide h1
  clear h1
  go_enter Tryz.func43, Tryz.ntmps43
  go_wp2
  go_ret
  exact ⟨rfl, rfl⟩

theorem rdrest_any {w : World} {F : Nat → Prop} {g : Nat} {xs : List UInt8} (h : RdAt w F g xs) (hl : xs.length ≤ 900000000) :
    Calls Tryz.prog 44 #[.pointer (some ⟨g, 0, none⟩)] w (RwPost w F g xs []) := by
  have h' : RdAt w F g (xs ++ []) := by rwa [List.append_nil]
  have HL := hide hl
  clear hl
  have hlf := rdleft_any h
  obtain ⟨L, hL⟩ : ∃ L, L = xs.length := ⟨_, rfl⟩
  rw [← hL] at hlf
  have HLL := hide hL
  clear hL
  go_enter Tryz.func44, Tryz.ntmps44
  go_wp2_with fail
  refine hlf.mono ?_
  rintro e w1 ⟨rfl, rfl⟩
  clear hlf
  go_wp2_with fail
  refine (rdraw_any h' HLL.out (by have := HL.out; have := HLL.out; omega)).mono ?_
  rintro e w2 ⟨A1, n1, c1, rfl, ho, hr2, hk2⟩
  go_wp2
  go_ret
  exact ⟨A1, n1, c1, rfl, ho, hr2, hk2⟩

/-- What reading a shard comes to. -/
def ShPost (w : World) (F : Nat → Prop) (g : Nat) (o st sl gn : Nat) (ys : List UInt8) (e : Ending) (w1 : World) : Prop :=
  e = .returned (.agg #[.int .u32 o, .int .u16 st, .int .u16 sl, .int .u32 gn]) ∧ RdAt w1 F g ys ∧ Kp (fun b => b = g) w w1

theorem RdAt.g_lt {w : World} {F : Nat → Prop} {g : Nat} {bs : List UInt8} (h : RdAt w F g bs) : g < w.heap.size := by
  obtain ⟨A, m, c, h1, _⟩ := h
  exact (Array.getElem?_eq_some_iff.1 h1).1

/-- Block b is a shard's four cells. -/
def Box4 (w : World) (b : Nat) (x0 x1 x2 x3 : Value) : Prop := w.heap[b]? = some (.cells #[x0, x1, x2, x3] 46 (0, 0))
section
variable {w w1 : World} {b : Nat} {x0 x1 x2 x3 : Value}
theorem Box4.cell (h : Box4 w b x0 x1 x2 x3) : w.cell? ⟨b, 0, none⟩ = some x0 ∧ w.cell? ⟨b, 1, none⟩ = some x1 ∧ w.cell? ⟨b, 2, none⟩ = some x2 ∧ w.cell? ⟨b, 3, none⟩ = some x3 := by
  refine ⟨?_, ?_, ?_, ?_⟩ <;> (rw [cell_of_row w b _ _ _ _ h]; rfl)
theorem Box4.frozen (h : Box4 w b x0 x1 x2 x3) (j : Nat) : w.frozen? ⟨b, j, none⟩ = false := frozen_of_row w b j _ _ h
theorem Box4.keep {S : Nat → Prop} (h : Box4 w b x0 x1 x2 x3) (hk : Kp S w w1) (hb : ¬ S b) : Box4 w1 b x0 x1 x2 x3 := (hk.block b (Array.getElem?_eq_some_iff.1 h).1 hb).trans h
theorem Box4.set0 (h : Box4 w b x0 x1 x2 x3) (u : Value) : Box4 (w.setCell ⟨b, 0, none⟩ u) b u x1 x2 x3 := heap_setCell_same w b 0 _ 46 u h
theorem Box4.set1 (h : Box4 w b x0 x1 x2 x3) (u : Value) : Box4 (w.setCell ⟨b, 1, none⟩ u) b x0 u x2 x3 := heap_setCell_same w b 1 _ 46 u h
theorem Box4.set2 (h : Box4 w b x0 x1 x2 x3) (u : Value) : Box4 (w.setCell ⟨b, 2, none⟩ u) b x0 x1 u x3 := heap_setCell_same w b 2 _ 46 u h
theorem Box4.set3 (h : Box4 w b x0 x1 x2 x3) (u : Value) : Box4 (w.setCell ⟨b, 3, none⟩ u) b x0 x1 x2 u := heap_setCell_same w b 3 _ 46 u h
end
theorem Box4.new2 (w : World) (ob : Obj) (x0 x1 x2 x3 : Value) : Box4 ((w.alloc ob).alloc (.cells #[x0, x1, x2, x3] 46)) (w.heap.size + 1) x0 x1 x2 x3 := by
  have := heap_alloc_new (w.alloc ob) (.cells #[x0, x1, x2, x3] 46)
  rwa [World.size_alloc] at this
theorem Box4.new1 (w : World) (ob : Obj) (x0 x1 x2 x3 : Value) : Box4 ((w.alloc (.cells #[x0, x1, x2, x3] 46)).alloc ob) w.heap.size x0 x1 x2 x3 :=
  (Below.heap_alloc (w.alloc _) ob _ (by rw [World.size_alloc]; omega)).trans (heap_alloc_new w _)
theorem RdAt.set {w : World} {F : Nat → Prop} {g b j : Nat} {bs : List UInt8} (h : RdAt w F g bs) (hb : ∀ k, F k → k ≠ b) (u : Value) : RdAt (w.setCell ⟨b, j, none⟩ u) F g bs :=
  h.keep (Kp.setCell (S := fun k => k = b) (p := ⟨b, j, none⟩) rfl u) fun k hk e => hb k hk e

set_option maxHeartbeats 2000000 in
theorem rdshard_any {w : World} {F : Nat → Prop} {g : Nat} {ys : List UInt8} (o st sl gn : Nat) (ho : o < 4294967296) (hst : st < 65536) (hsl : sl < 65536) (hgn : gn < 4294967296)
    (h : RdAt w F g (shardB o st sl gn ++ ys)) (hF : ∀ k, F k → k < w.heap.size) : Calls Tryz.prog 42 #[.pointer (some ⟨g, 0, none⟩)] w (ShPost w F g o st sl gn ys) := by
  have h' : ∀ ob1 ob2 : Obj, RdAt ((w.alloc ob1).alloc ob2) F g (numB o 4 ++ (numB st 2 ++ (numB sl 2 ++ (numB gn 4 ++ ys)))) := by
    intro ob1 ob2
    have := (h.no (Kp.alloc No w ob1)).no (Kp.alloc No _ ob2)
    simpa [shardB, List.append_assoc] using this
  have H' := hide h'
  have HF := hide hF
  have hg := h.g_lt
  have n0 : ofB (numB o 4) = o := by rw [ofB_numB]; omega
  have n1 : ofB (numB st 2) = st := by rw [ofB_numB]; omega
  have n2 : ofB (numB sl 2) = sl := by rw [ofB_numB]; omega
  have n3 : ofB (numB gn 4) = gn := by rw [ofB_numB]; omega
  have N0 := hide n0
  have N1 := hide n1
  have N2 := hide n2
  have N3 := hide n3
  clear h h' hF n0 n1 n2 n3
  go_enter Tryz.func42, Tryz.ntmps42
  go_wp2_with fail
  refine (rdnum_any 4 (by rw [numB_length]) (by omega) (H'.out _ _)).mono ?_
  rw [N0.out]
  rintro e w1 ⟨rfl, hr, hk⟩
  have hFb : ∀ k, F k → k ≠ w.heap.size + 1 := fun k hk => by have := HF.out k hk; omega
  have HFb := hide hFb
  clear hFb
  have B1 : Box4 w1 (w.heap.size + 1) (.int .u32 0) (.int .u16 0) (.int .u16 0) (.int .u32 0) := (Box4.new2 w _ _ _ _ _).keep hk (by omega)
  have R1 : Box4 w1 w.heap.size (.int .u32 0) (.int .u16 0) (.int .u16 0) (.int .u32 0) := (Box4.new1 w _ _ _ _ _).keep hk (by omega)
  obtain ⟨p0, p1, p2, p3⟩ := B1.cell
  have f0 := B1.frozen 0
  go_wp2_with fail
  clear p0 p1 p2 p3 f0
  refine (rdnum_any 2 (by rw [numB_length]) (by omega) (hr.set HFb.out _)).mono ?_
  rw [N1.out]
  rintro e w2 ⟨rfl, hr2, hk2⟩
  have B2 := (B1.set0 (.int .u32 o)).keep hk2 (by omega)
  have R2 := (R1.keep (Kp.setCell (S := fun k => k = w.heap.size + 1) (p := ⟨w.heap.size + 1, 0, none⟩) rfl (.int .u32 o)) (by omega)).keep hk2 (by omega)
  obtain ⟨p0, p1, p2, p3⟩ := B2.cell
  have f0 := B2.frozen 1
  go_wp2_with fail
  clear p0 p1 p2 p3 f0
  refine (rdnum_any 2 (by rw [numB_length]) (by omega) (hr2.set HFb.out _)).mono ?_
  rw [N2.out]
  rintro e w3 ⟨rfl, hr3, hk3⟩
  have B3 := (B2.set1 (.int .u16 st)).keep hk3 (by omega)
  have R3 := (R2.keep (Kp.setCell (S := fun k => k = w.heap.size + 1) (p := ⟨w.heap.size + 1, 1, none⟩) rfl (.int .u16 st)) (by omega)).keep hk3 (by omega)
  obtain ⟨p0, p1, p2, p3⟩ := B3.cell
  have f0 := B3.frozen 2
  go_wp2_with fail
  clear p0 p1 p2 p3 f0
  refine (rdnum_any 4 (by rw [numB_length]) (by omega) (hr3.set HFb.out _)).mono ?_
  rw [N3.out]
  rintro e w4 ⟨rfl, hr4, hk4⟩
  have B4 := (B3.set2 (.int .u16 sl)).keep hk4 (by omega)
  have R4 := (R3.keep (Kp.setCell (S := fun k => k = w.heap.size + 1) (p := ⟨w.heap.size + 1, 2, none⟩) rfl (.int .u16 sl)) (by omega)).keep hk4 (by omega)
  have B5 := B4.set3 (.int .u32 gn)
  obtain ⟨p0, p1, p2, p3⟩ := B4.cell
  obtain ⟨s0, s1, s2, s3⟩ := B5.cell
  have f3 := B4.frozen 3
  have R5 := R4.keep (Kp.setCell (S := fun k => k = w.heap.size + 1) (p := ⟨w.heap.size + 1, 3, none⟩) rfl (.int .u32 gn)) (by omega)
  obtain ⟨t0, t1, t2, t3⟩ := R5.cell
  have g0 := R5.frozen 0
  have g1 := R5.frozen 1
  have g2 := R5.frozen 2
  have g3 := R5.frozen 3
  have R9 := (((R5.set0 (.int .u32 o)).set1 (.int .u16 st)).set2 (.int .u16 sl)).set3 (.int .u32 gn)
  obtain ⟨q0, q1, q2, q3⟩ := R9.cell
  have HR9 := hide R9
  clear R9
  have hFr : ∀ k, F k → k ≠ w.heap.size := fun k hk => by have := HF.out k hk; omega
  have HFr := hide hFr
  clear hFr
  go_wp2
  refine bodyPost_ret (v := .agg #[.int .u32 o, .int .u16 st, .int .u16 sl, .int .u32 gn]) (by simp [results, Tryz.results42, go_sem, q0, q1, q2, q3]) rfl ⟨rfl, ?_, ?_⟩
  · exact (((((hr4.set HFb.out _).set HFr.out _).set HFr.out _).set HFr.out _).set HFr.out _)
  · have y1 : Up (fun b => b = g) w (w.heap.size + 1) := .inr (by omega)
    have y0 : Up (fun b => b = g) w w.heap.size := .inr (by omega)
    have z : Kp (fun b => b = g) w w4 :=
      ((((((((Kp.alloc _ w _).trans' (Kp.alloc _ _ _)).trans' hk).trans (Kp.setCell (p := ⟨w.heap.size + 1, 0, none⟩) y1 _)).trans' hk2).trans (Kp.setCell (p := ⟨w.heap.size + 1, 1, none⟩) y1 _)).trans' hk3).trans (Kp.setCell (p := ⟨w.heap.size + 1, 2, none⟩) y1 _)).trans' hk4
    exact ((((z.trans (Kp.setCell (p := ⟨w.heap.size + 1, 3, none⟩) y1 _)).trans (Kp.setCell (p := ⟨w.heap.size, 0, none⟩) y0 _)).trans (Kp.setCell (p := ⟨w.heap.size, 1, none⟩) y0 _)).trans (Kp.setCell (p := ⟨w.heap.size, 2, none⟩) y0 _)).trans (Kp.setCell (p := ⟨w.heap.size, 3, none⟩) y0 _)
end Go.Proofs.YtndghapdpfgmoaaGreat
namespace Go.Proofs.YtndghapdpfgmoaaGreat
open Go.RowKit
set_option linter.unusedVariables false
set_option linter.unusedSimpArgs false
set_option maxRecDepth 20000

/-- A name's value. -/
abbrev shV (s : Nat) : Value := .agg #[.int .u32 (cO s : Int), .int .u16 (cS s : Int), .int .u16 (cL s : Int), .int .u32 (cG s : Int)]
theorem shV_inj {s t : Nat} (h : shV s = shV t) : s = t := by
  simp only [shV, Value.agg.injEq, Array.mk.injEq, List.cons.injEq, Value.int.injEq, true_and, and_true] at h
  exact c_inj (by omega) (by omega) (by omega) (by omega)
theorem sh_row : (46 : TypeId) < Tryz.prog.types.size := of_decide_eq_true (by kernel_rfl)
theorem sh_laid : laidOutB Tryz.prog = true := by kernel_rfl
theorem sh_deep : Tryz.prog.keyType 46 = true := by kernel_rfl
theorem sh_wide : (match Tryz.prog.underlying 46 with | some (.array _ _) | some (.struct _) => true | _ => false) = true := by kernel_rfl
theorem sh_law : Maps.Keyed Tryz.prog 46 := Maps.Keyed.of_law (deep_law_laid sh_laid (m := 2) (by omega) sh_row (by kernel_rfl) sh_wide)
theorem sh_cells : Tryz.prog.cellsOf 46 = 4 := by kernel_rfl
theorem nat_u32 {x : Nat} (h : x < 4294967296) : (Lit.int .u32 (x : Int)).wf = true := WalkArith.wf_u32 ⟨by omega, by omega⟩
theorem nat_u16 {x : Nat} (h : x < 65536) : (Lit.int .u16 (x : Int)).wf = true := WalkArith.wf_u16 ⟨by omega, by omega⟩
theorem of_u32 {n : Int} (h : (Lit.int .u32 n).wf = true) : ∃ a : Nat, n = (a : Int) ∧ a < 4294967296 := by
  simp [Lit.wf, IntKind.min, IntKind.max, IntKind.signed, IntKind.bits] at h
  exact ⟨n.toNat, by omega, by omega⟩
theorem of_u16 {n : Int} (h : (Lit.int .u16 n).wf = true) : ∃ a : Nat, n = (a : Int) ∧ a < 65536 := by
  simp [Lit.wf, IntKind.min, IntKind.max, IntKind.signed, IntKind.bits] at h
  exact ⟨n.toNat, by omega, by omega⟩
theorem sh_one : Tryz.prog.cellsOf 43 = 1 ∧ Tryz.prog.cellsOf 44 = 1 := ⟨by kernel_rfl, by kernel_rfl⟩
theorem key_ex {s : Nat} (hs : s < N96) : ∃ l, keyOf Tryz.prog 46 (shV s) = some l := by
  obtain ⟨m, hm⟩ : ∃ m, Tryz.prog.types.size = m + 1 := Nat.exists_eq_succ_of_ne_zero (Nat.ne_of_gt (Nat.lt_of_le_of_lt (Nat.zero_le _) sh_row))
  have h0 := nat_u32 (cO_lt hs)
  have h1 := nat_u16 (cS_lt s)
  have h2 := nat_u16 (cL_lt s)
  have h3 := nat_u32 (cG_lt s)
  have hd := sh_deep
  have hc := sh_cells
  have cc := sh_one
  unfold keyOf
  rw [hm]
  simp [Tryz.underlying46, hd, Value.formed, hc, Program.keyLits, shV, Value.cells, Tryz.underlying43, Tryz.underlying44, cc.1, cc.2, h0, h1, h2, h3]
theorem one_lit {P : Program} {m : Nat} {t : TypeId} {q : IntKind} {v : Value} {l : List Lit} (ht : P.underlying t = some (.int q)) (h : P.keyLits (m + 1) t [v] = some l) : ∃ n, v = .int q n ∧ (Lit.int q n).wf = true := by
  cases v <;> simp [Program.keyLits, ht] at h
  obtain ⟨⟨rfl, hw⟩, _⟩ := h
  exact ⟨_, rfl, hw⟩
theorem key_inv {key : Value} {l : Lit} (h : keyOf Tryz.prog 46 key = some l) : ∃ s, s < N96 ∧ key = shV s := by
  obtain ⟨m, hm⟩ : ∃ m, Tryz.prog.types.size = m + 1 := Nat.exists_eq_succ_of_ne_zero (Nat.ne_of_gt (Nat.lt_of_le_of_lt (Nat.zero_le _) sh_row))
  have hc := sh_cells
  have cc := sh_one
  unfold keyOf at h
  rw [hm] at h
  simp only [Tryz.underlying46] at h
  split at h
  · rename_i hf
    simp only [Bool.and_eq_true] at hf
    have hf2 := hf.2
    cases key <;> simp [Value.formed, Tryz.underlying46, hc] at hf2
    rename_i cs
    obtain ⟨l4⟩ := cs
    match l4, hf2 with
    | [a, b, c, d], _ =>
      rw [Option.map_eq_some_iff] at h
      obtain ⟨ls, h, _⟩ := h
      rw [Program.keyLits.eq_def] at h
      simp only [Tryz.underlying46, Value.cells, hc] at h
      simp [cc.1, cc.2] at h
      rcases g0 : Tryz.prog.keyLits (m + 1) 43 [a] with _ | x0
      · simp [g0] at h
      rcases g1 : Tryz.prog.keyLits (m + 1) 44 [b] with _ | x1
      · simp [g0, g1] at h
      rcases g2 : Tryz.prog.keyLits (m + 1) 44 [c] with _ | x2
      · simp [g0, g1, g2] at h
      rcases g3 : Tryz.prog.keyLits (m + 1) 43 [d] with _ | x3
      · simp [g0, g1, g2, g3] at h
      obtain ⟨n0, rfl, w0⟩ := one_lit Tryz.underlying43 g0
      obtain ⟨n1, rfl, w1⟩ := one_lit Tryz.underlying44 g1
      obtain ⟨n2, rfl, w2⟩ := one_lit Tryz.underlying44 g2
      obtain ⟨n3, rfl, w3⟩ := one_lit Tryz.underlying43 g3
      obtain ⟨a0, rfl, b0⟩ := of_u32 w0
      obtain ⟨a1, rfl, b1⟩ := of_u16 w1
      obtain ⟨a2, rfl, b2⟩ := of_u16 w2
      obtain ⟨a3, rfl, b3⟩ := of_u32 w3
      refine ⟨mkN a0 a1 a2 a3, mkN_lt b0 b1 b2 b3, ?_⟩
      unfold shV
      rw [cO_mk b1 b2 b3, cS_mk b1 b2 b3, cL_mk b2 b3, cG_mk b3]
    | [], hl => simp at hl
    | [_], hl => simp at hl
    | [_, _], hl => simp at hl
    | [_, _, _], hl => simp at hl
    | _ :: _ :: _ :: _ :: _ :: _, hl => simp at hl
  · cases h
/-- What a name reads as. -/
noncomputable def klN (s : Nat) : Lit := (keyOf Tryz.prog 46 (shV s)).getD (.bool false)
section
variable {s t : Nat}
theorem key_kl (hs : s < N96) : keyOf Tryz.prog 46 (shV s) = some (klN s) := by
  obtain ⟨l, h⟩ := key_ex hs
  unfold klN
  rw [h]
  rfl
theorem kl_inj (hs : s < N96) (ht : t < N96) (h : klN s = klN t) : s = t := shV_inj (sh_law.inj (key_kl hs) (by rw [h]; exact key_kl ht))
theorem kl_key (hs : s < N96) : WideAt.IsKeyLit (klN s) := sh_law.key (key_kl hs)
theorem kl_same (hs : s < N96) (ht : t < N96) : (klN s).sameKey (klN t) = (s == t) := by
  by_cases e : s = t
  · subst e
    rw [WideAt.sameKey_self (kl_key hs)]
    simp
  · rw [Maps.sameKey_ne (fun h => e (kl_inj hs ht h))]
    simp [e]
end
/-- A map as it reads holds these. -/
structure MpR (D : DataW Unit) (L : List (Nat × Nat)) : Prop where
  has : ∀ s, s < N96 → Maps.has D (klN s) = kn L s
  get : ∀ s, s < N96 → kn L s = true → D.atKey (klN s) (.lit (.int .i64 0)) = .lit (.int .i64 (cel L s : Int))
  sz : Maps.size D = L.length
noncomputable abbrev intE : Value → Option (DataW Unit × List MemPlace) := plainElem Tryz.prog 3
/-- The block b is a map that holds these. -/
def MpAt (w : World) (b : Nat) (L : List (Nat × Nat)) : Prop := KnOk 1024 L ∧ ∃ D, w.ownsMap Tryz.prog 46 intE b L.length D ∧ MpR D L
section
variable {w w1 : World} {b : Nat} {L : List (Nat × Nat)} {S : Nat → Prop} {s c : Nat}
theorem MpAt.lt (h : MpAt w b L) : b < w.heap.size := by
  obtain ⟨_, D, h1, _⟩ := h
  exact h1.lt
theorem MpAt.keep (h : MpAt w b L) (hk : Kp S w w1) (hS : ¬ S b) : MpAt w1 b L := by
  obtain ⟨h0, D, h1, h2⟩ := h
  have hlt := h1.lt
  obtain ⟨es, clock, hb, r⟩ := h1
  exact ⟨h0, D, ⟨es, clock, (hk.block b hlt hS).trans hb, r⟩, h2⟩
theorem MpAt.no (h : MpAt w b L) (hk : Kp No w w1) : MpAt w1 b L := h.keep hk fun f => f
theorem MpAt.new (w : World) : MpAt (w.alloc (.map #[] 0)) w.heap.size [] :=
  ⟨KnOk.nil _, _, World.ownsMap_made w _ _ _, fun s _ => rfl, fun s _ h => by simp [kn] at h, rfl⟩
theorem MpAt.blk {o : Obj} (h : MpAt w b L) (hb : w.heap[b]? = some o) : ∃ es clock, o = .map es clock := by
  obtain ⟨_, D, ⟨es, clock, h1, _⟩, _⟩ := h
  rw [hb] at h1
  exact ⟨es, clock, Option.some.inj h1⟩
/-- As many entries as the datum has: the bound may be drawn tight. -/
theorem ownsMap_tight {n : Nat} {D : DataW Unit} (h : w.ownsMap Tryz.prog 46 intE b n D) : w.ownsMap Tryz.prog 46 intE b (Maps.size D) D := by
  obtain ⟨es, clock, hb, F, _, rfl⟩ := h
  refine ⟨es, clock, hb, F, ?_, rfl⟩
  simp [Maps.size, length_sorted]
theorem zero_int (w : World) : (zeroValue 3).run Tryz.prog w = .ok (.int .i64 0) w := by kernel_rfl
/-- What looking up comes to. -/
theorem MpAt.look (h : MpAt w b L) (hs : s < N96) : (Instr.lookup 64 (.map (some b)) (shV s) true).run Tryz.prog w = .ok (.tuple #[.int .i64 (if kn L s = true then (cel L s : Int) else 0), .bool (kn L s)]) w := by
  obtain ⟨h0, D, h1, h2⟩ := h
  obtain ⟨v, ps, hr, hv⟩ := h1.look_ok sh_law Tryz.underlying64 (zero_int w) (plainElem_int (H := Unit) Tryz.underlying3 (by decide)) (key_kl hs)
  obtain ⟨c, rfl, hc, _⟩ := plainElem_int_inv Tryz.underlying3 hv
  rw [hr, h2.has s hs]
  by_cases hk : kn L s = true
  · rw [h2.get s hs hk] at hc
    have e : ((cel L s : Nat) : Int) = c := by
      injection hc with e1 _
      injection e1 with e1
      injection e1
    rw [if_pos hk, e]
  · have hf : Maps.has D (klN s) = false := by rw [h2.has s hs]; simpa using hk
    rw [Maps.atKey_of_not_has hf] at hc
    have e : (0 : Int) = c := by
      injection hc with e1 _
      injection e1 with e1
      injection e1
    rw [if_neg hk, e]
theorem MpAt.len (h : MpAt w b L) (ty : TypeId) : (Builtin.len_ #[64] ty #[.map (some b)]).run Tryz.prog w = .ok (.int .i64 (L.length : Int)) w := by
  obtain ⟨h0, D, h1, h2⟩ := h
  rw [h1.len Tryz.underlying64 ty, h2.sz]
/-- A new name is stored. -/
theorem MpAt.put (h : MpAt w b L) (hs : s < N96) (hk : kn L s = false) (hc : c < 1024) (hu : usd L c = false) :
    ∃ w', (Instr.mapUpdate 64 (.map (some b)) (shV s) (.int .i64 (c : Int))).run Tryz.prog w = .ok () w' ∧ MpAt w' b (L ++ [(c, s)]) ∧ Kp (fun q => q = b) w w' := by
  obtain ⟨h0, D, h1, h2⟩ := h
  have hl := h0.len
  have hok := h0.snoc hc hs hk hu
  obtain ⟨w', hr, ho, hg⟩ := h1.update sh_law Tryz.underlying64 (by unfold maxLen; omega) (val := .int .i64 (c : Int)) (key_kl hs) (plainElem_int (H := Unit) Tryz.underlying3 (WalkArith.wf_i64 ⟨by omega, by omega⟩))
  have hm := h1.isMap
  refine ⟨w', hr, ⟨hok, _, by rw [List.length_append]; exact ho, fun t ht => ?_, fun t ht hkt => ?_, ?_⟩, (Kp.grown hg).mono fun q hq => by injection hq with hq; exact hq.symm⟩
  · rw [kn_snoc]
    by_cases e : s = t
    · subst e
      rw [Maps.has_put_same hm (kl_key hs)]
      simp
    · rw [Maps.has_put_other (fun e2 => e (kl_inj hs ht e2.symm)), h2.has t ht]
      simp [e]
  · by_cases e : s = t
    · subst e
      rw [Maps.atKey_put_same hm (kl_key hs), (hok.one (c := c) (s := s) (by simp)).2]
    · have hkt2 : kn L t = true := by
        rw [kn_snoc] at hkt
        simpa [e] using hkt
      rw [Maps.atKey_put_other (fun e2 => e (kl_inj hs ht e2.symm)), h2.get t ht hkt2, (hok.one (c := cel L t) (s := t) (List.mem_append_left _ (cel_mem hkt2))).2]
  · have := Maps.size_put (h1.tidy sh_law) (k := klN s) (.lit (.int .i64 (c : Int)))
    rw [h2.has s hs, hk] at this
    rw [this]
    simp [h2.sz]
/-- A name is struck. -/
theorem MpAt.del (h : MpAt w b L) (hs : s < N96) (hk : kn L s = true) (ty : TypeId) :
    ∃ w', (Builtin.delete_ #[64, 46] ty #[.map (some b), shV s]).run Tryz.prog w = .ok (.tuple #[]) w' ∧ MpAt w' b (L.eraseIdx (ixl L s)) ∧ Kp (fun q => q = b) w w' := by
  obtain ⟨h0, D, h1, h2⟩ := h
  have hok := h0.erase (ixl L s)
  obtain ⟨w', hr, ho, hg⟩ := h1.drop sh_law Tryz.underlying64 (key_kl hs) ty
  have hsz : Maps.size (D.del (klN s)) = (L.eraseIdx (ixl L s)).length := by
    have := Maps.size_del (h1.tidy sh_law) (k := klN s)
    rw [h2.has s hs, hk, h2.sz] at this
    rw [List.length_eraseIdx, if_pos (kn_ix.1 hk)]
    simp at this
    omega
  refine ⟨w', hr, ⟨hok, _, by rw [← hsz]; exact ownsMap_tight ho, fun t ht => ?_, fun t ht hkt => ?_, hsz⟩, (Kp.grown hg.grown).mono fun q hq => by injection hq with hq; exact hq.symm⟩
  · rw [kn_erase h0 hk]
    by_cases e : s = t
    · subst e
      rw [Maps.has_del_same]
      simp
    · rw [Maps.has_del_other (fun e2 => e (kl_inj hs ht e2.symm)), h2.has t ht]
      simp [e]
  · have hkt2 := hkt
    rw [kn_erase h0 hk] at hkt2
    simp only [Bool.and_eq_true, Bool.not_eq_true', beq_eq_false_iff_ne] at hkt2
    rw [Maps.atKey_del_other (fun e2 => hkt2.2 (kl_inj hs ht e2.symm)), h2.get t ht hkt2.1]
    have hm := cel_mem hkt
    rw [(h0.one (List.mem_of_mem_eraseIdx hm)).2]
end
/-- A new name is stored, as a step of a region. -/
theorem step_mput {w : World} {b : Nat} {L : List (Nat × Nat)} {s c : Nat} {ops : Array Oper} {o : Oper} {a : Act} {Q : Exit → Act → World → Prop} {K : Act → World → Prop} {E : Prop} (hgd : o.guard = none) (m x v : Operand)
    (ho : o.op = .mapUpdate 64 m x v) (hm : a.eval m = .map (some b)) (hx : a.eval x = shV s) (hv : a.eval v = .int .i64 (c : Int)) (h : MpAt w b L) (hs : s < N96) (hk : kn L s = false) (hc : c < 1024) (hu : usd L c = false)
    (hQ : ∀ w1, MpAt w1 b (L ++ [(c, s)]) → Kp (fun q => q = b) w w1 → K (a.put o.dst undef) w1) : if Region.wanted o (yielded ops a.tmps) = true then Oper.wp Tryz.prog o a w K Q else E := by
  have hw : Region.wanted o (yielded ops a.tmps) = true := by simp [Region.wanted, hgd]
  rw [if_pos hw]
  obtain ⟨w1, hr, h1, h2⟩ := h.put hs hk hc hu
  have hq := hQ w1 h1 h2
  unfold Oper.wp
  simp only [execOp, ho, hm, hx, hv, hr, Sem.run_bind, Sem.run_pure, Result.andThen_ok]
  exact hq
/-- A name is struck, as a step of a region. -/
theorem step_mdel {w : World} {b : Nat} {L : List (Nat × Nat)} {s : Nat} {ops : Array Oper} {o : Oper} {a : Act} {Q : Exit → Act → World → Prop} {K : Act → World → Prop} {E : Prop} (hgd : o.guard = none) (m x : Operand)
    (ho : o.op = .call { callee := .builtin .delete, args := #[m, x], argTypes := #[64, 46] }) (hm : a.eval m = .map (some b)) (hx : a.eval x = shV s) (h : MpAt w b L) (hs : s < N96) (hk : kn L s = true)
    (hQ : ∀ w1, MpAt w1 b (L.eraseIdx (ixl L s)) → Kp (fun q => q = b) w w1 → K (a.put o.dst (.tuple #[])) w1) : if Region.wanted o (yielded ops a.tmps) = true then Oper.wp Tryz.prog o a w K Q else E := by
  have hw : Region.wanted o (yielded ops a.tmps) = true := by simp [Region.wanted, hgd]
  rw [if_pos hw]
  obtain ⟨w1, hr, h1, h2⟩ := h.del hs hk o.type
  have hq := hQ w1 h1 h2
  unfold Oper.wp
  simp only [execOp, ho, resolve, invoke, builtin, List.map_toArray, List.map_cons, List.map_nil, hm, hx, hr, Sem.run_bind, Sem.run_pure, Result.andThen_ok]
  exact hq

/-- 'for .. range m' under way: dn are done, in their order, left are to come. -/
structure RgAt (w : World) (b r : Nat) (L dn left : List (Nat × Nat)) : Prop where
  ok : KnOk 1024 L
  pm : (dn ++ left).Perm L
  ex : ∃ D lf cnt, w.ranges Tryz.prog 46 intE b r L.length D lf cnt ∧ MpR D L ∧ ∀ s, s < N96 → lf (klN s) = kn left s
section
variable {w w1 : World} {b r : Nat} {L dn left : List (Nat × Nat)} {S : Nat → Prop}
theorem RgAt.keep (h : RgAt w b r L dn left) (hk : Kp S w w1) (hb : ¬ S b) (hr : ¬ S r) : RgAt w1 b r L dn left := by
  obtain ⟨h0, h1, D, lf, cnt, h2, h3, h4⟩ := h
  have l1 := h2.owns.lt
  have l2 := h2.lt
  obtain ⟨es, clock, since, seen, c0, hbb, F, hs, hD, hrr, rest⟩ := h2
  exact ⟨h0, h1, D, lf, cnt, ⟨es, clock, since, seen, c0, (hk.block b l1 hb).trans hbb, F, hs, hD, (hk.block r l2 hr).trans hrr, rest⟩, h3, h4⟩
theorem RgAt.no (h : RgAt w b r L dn left) (hk : Kp No w w1) : RgAt w1 b r L dn left := h.keep hk (fun f => f) (fun f => f)
theorem RgAt.map (h : RgAt w b r L dn left) : MpAt w b L := by
  obtain ⟨h0, h1, D, lf, cnt, h2, h3, h4⟩ := h
  exact ⟨h0, D, h2.owns, h3⟩
theorem RgAt.ne (h : RgAt w b r L dn left) : r ≠ b := by
  obtain ⟨h0, h1, D, lf, cnt, h2, h3, h4⟩ := h
  exact h2.ne
theorem RgAt.lt (h : RgAt w b r L dn left) : r < w.heap.size := by
  obtain ⟨h0, h1, D, lf, cnt, h2, h3, h4⟩ := h
  exact h2.lt
theorem MpAt.range (h : MpAt w b L) : ∃ w', (Instr.range 64 (.map (some b))).run Tryz.prog w = .ok (.pointer (some ⟨w.heap.size, 0, none⟩)) w' ∧ RgAt w' b w.heap.size L [] L ∧ Kp No w w' ∧ w'.heap.size = w.heap.size + 1 := by
  obtain ⟨h0, D, h1, h2⟩ := h
  obtain ⟨w', hr, hg, hk, hz⟩ := h1.range sh_law Tryz.underlying64
  exact ⟨w', hr, ⟨h0, by simp, D, _, _, hg, h2, h2.has⟩, (Kp.grown hk).mono (fun q hq => by cases hq), hz⟩
theorem RgAt.next (h : RgAt w b r L dn left) (ty : TypeId) :
    (left = [] ∧ w.rangeLeft b r = 0 ∧ (Instr.next (.pointer (some ⟨r, 0, none⟩)) false ty).run Tryz.prog w = .ok (.tuple #[.bool false]) w) ∨
    ∃ c s w' left', s < N96 ∧ c < 1024 ∧ (c, s) ∈ L ∧ (Instr.next (.pointer (some ⟨r, 0, none⟩)) false ty).run Tryz.prog w = .ok (.tuple #[.bool true, shV s, .int .i64 (c : Int)]) w' ∧ RgAt w' b r L (dn ++ [(c, s)]) left' ∧
      w'.rangeLeft b r < w.rangeLeft b r ∧ Kp (fun q => q = r) w w' ∧ w'.heap.size = w.heap.size ∧ (Instr.entry (.pointer (some ⟨r, 0, none⟩))).run Tryz.prog w' = .ok (.tuple #[shV s, .int .i64 (c : Int)]) w' := by
  obtain ⟨h0, h1, D, lf, cnt, h2, h3, h4⟩ := h
  have hsub : ∀ p ∈ left, p ∈ L := fun p hp => h1.mem_iff.1 (List.mem_append_right _ hp)
  rcases h2.next sh_law ty with ⟨hc, hl, hr⟩ | ⟨key, v, l, y, w', cnt', hkey, hlf, hv, hat, hr, hg, hlt, hk, hz, he⟩
  · left
    refine ⟨?_, by rw [h2.left_eq, hc], hr⟩
    rcases hll : left with _ | ⟨p, t⟩
    · rfl
    · exfalso
      have hp : p ∈ left := by rw [hll]; simp
      have hn := h0.nm p (hsub p hp)
      have := h4 p.2 hn
      rw [hl] at this
      rw [kn_iff.2 ⟨p, hp, rfl⟩] at this
      cases this
  · right
    obtain ⟨s, hs, rfl⟩ := key_inv hkey
    have hl : l = klN s := by
      rw [key_kl hs] at hkey
      injection hkey with hkey
      exact hkey.symm
    subst hl
    rw [h4 s hs] at hlf
    obtain ⟨p, hp, e⟩ := kn_iff.1 hlf
    obtain ⟨c, s'⟩ := p
    obtain rfl : s' = s := e
    have hm := hsub _ hp
    have hone := h0.one hm
    have hc : c < 1024 := h0.cl _ hm
    obtain ⟨z, rfl, hz2, _⟩ := plainElem_int_inv Tryz.underlying3 hv
    have hat2 := hat (.lit (.int .i64 0))
    rw [h3.get s' hs hone.1, hone.2] at hat2
    rw [hz2] at hat2
    have ez : (c : Int) = z := by
      injection hat2 with e1
      injection e1 with e1 e2
    subst ez
    have hn2 : ((dn ++ left).map Prod.snd).Nodup := ((h1.map Prod.snd).nodup_iff).2 h0.dn
    have hnl : (left.map Prod.snd).Nodup := by
      rw [List.map_append] at hn2
      exact (List.nodup_append.1 hn2).2.1
    refine ⟨c, s', w', left.erase (c, s'), hs, hc, hm, hr, ⟨h0, ?_, D, _, cnt', hg, h3, fun t ht => ?_⟩, ?_, (Kp.grown hk).mono fun q hq => by injection hq with hq; exact hq.symm, hz, he⟩
    · refine List.Perm.trans ?_ h1
      rw [List.append_assoc]
      exact ((List.perm_cons_erase hp).symm).append_left dn
    · show (lf (klN t) && !(klN t).sameKey (klN s')) = _
      rw [h4 t ht, kl_same ht hs]
      by_cases et : t = s'
      · subst et
        simp only [beq_self_eq_true, Bool.not_true, Bool.and_false]
        cases hx : kn (left.erase (c, t)) t
        · rfl
        · exfalso
          obtain ⟨q, hq, e2⟩ := kn_iff.1 hx
          have hq2 := List.mem_of_mem_erase hq
          have e3 : q = (c, t) := by
            have := (h0.one (c := q.1) (s := t) (by rw [← e2]; exact hsub q hq2)).2
            rw [hone.2] at this
            exact Prod.ext this.symm e2
          rw [e3] at hq
          have hnd : left.Nodup := (List.pairwise_map.1 hnl).imp fun hne e => hne (congrArg Prod.snd e)
          exact ((List.Nodup.mem_erase_iff hnd).1 hq).1 rfl
      · have : (t == s') = false := by simp [et]
        rw [this, Bool.not_false, Bool.and_true]
        cases hx : kn left t
        · cases hy : kn (left.erase (c, s')) t
          · rfl
          · obtain ⟨q, hq, e2⟩ := kn_iff.1 hy
            exact absurd e2 (kn_not hx q (List.mem_of_mem_erase hq))
        · obtain ⟨q, hq, e2⟩ := kn_iff.1 hx
          exact (kn_iff.2 ⟨q, (List.mem_erase_of_ne (fun e3 => et (by rw [← e2, e3]))).2 hq, e2⟩).symm
    · rw [hg.left_eq, h2.left_eq]
      exact hlt
end
end Go.Proofs.YtndghapdpfgmoaaGreat
