/- The Reader's other calls: bytes, a text, a shard, the rest, and whether it is done. -/
import Derived.Test.YtkpongkojkhboaaRd
namespace Go.Proofs.Ytkpongkojkhboaa
open Go.RowKit
set_option linter.unusedVariables false
set_option maxRecDepth 20000
set_option linter.unusedSimpArgs false

/-- What reading bytes comes to: a copy of xs. -/
def RwPost (w : World) (F : Nat → Prop) (g : Nat) (xs ys : List UInt8) (e : Ending) (w1 : World) : Prop :=
  ∃ A m c, e = .returned (.slice A m c) ∧ Own w1 w.heap.size 5 (.slice A m c) xs ∧ RdAt w1 F g ys ∧ Kp (fun b => b = g) w w1

theorem rdraw_any {w : World} {F : Nat → Prop} {g k : Nat} {xs ys : List UInt8} (h : RdAt w F g (xs ++ ys)) (hk : k = xs.length) (hl : k ≤ 900000000) :
    Calls Try.prog 38 #[.pointer (some ⟨g, 0, none⟩), .int .i64 k] w (RwPost w F g xs ys) := by
  have HK := hide hk
  clear hk
  go_enter Try.func38, Try.ntmps38
  go_wp2_with fail
  refine (take_any h HK.out (by omega)).mono ?_
  rintro e w1 ⟨A, m, c, rfl, hb, hr, hkp⟩
  go_wp2_with fail
  refine (clone_any hb (by have := HK.out; omega)).mono ?_
  rintro e w2 ⟨A1, n1, c1, rfl, ho, hk2⟩
  go_wp2
  go_ret
  exact ⟨A1, n1, c1, rfl, ho.rebase fun k hk => Nat.le_trans hkp.size (ho.ge k hk), hr.no hk2, hkp.trans (hk2.of_no _)⟩

theorem rdleft_any {w : World} {F : Nat → Prop} {g : Nat} {ys : List UInt8} (h : RdAt w F g ys) :
    Calls Try.prog 39 #[.pointer (some ⟨g, 0, none⟩)] w fun e w1 => e = .returned (.int .i64 ys.length) ∧ w = w1 := by
  obtain ⟨A, m, c, h1, h2, h3, h4, h5⟩ := h
  have hm := h2.len
  obtain ⟨L, hL⟩ : ∃ L, L = ys.length := ⟨_, rfl⟩
  rw [← hL] at hm ⊢
  subst hm
  have hc0 : w.cell? ⟨g, 0, none⟩ = some (.slice A m c) := by rw [cell_of_row w g 0 _ _ _ h1]; rfl
  have H1 := hide h1
  clear h1 hL
  go_enter Try.func39, Try.ntmps39
  go_wp2
  go_ret
  exact ⟨rfl, rfl⟩

theorem rdtorn_any {w : World} {F : Nat → Prop} {g : Nat} {ys : List UInt8} (h : RdAt w F g ys) :
    Calls Try.prog 24 #[.pointer (some ⟨g, 0, none⟩)] w fun e w1 => e = .returned (.bool false) ∧ w = w1 := by
  obtain ⟨A, m, c, h1, h2, h3, h4, h5⟩ := h
  have hc1 : w.cell? ⟨g, 1, none⟩ = some (.bool false) := by rw [cell_of_row w g 1 _ _ _ h1]; rfl
  have H1 := hide h1
  clear h1
  go_enter Try.func24, Try.ntmps24
  go_wp2
  go_ret
  exact ⟨rfl, rfl⟩

theorem rdrest_any {w : World} {F : Nat → Prop} {g : Nat} {xs : List UInt8} (h : RdAt w F g xs) (hl : xs.length ≤ 900000000) :
    Calls Try.prog 23 #[.pointer (some ⟨g, 0, none⟩)] w (RwPost w F g xs []) := by
  have h' : RdAt w F g (xs ++ []) := by rwa [List.append_nil]
  have HL := hide hl
  clear hl
  have hlf := rdleft_any h
  obtain ⟨L, hL⟩ : ∃ L, L = xs.length := ⟨_, rfl⟩
  rw [← hL] at hlf
  have HLL := hide hL
  clear hL
  go_enter Try.func23, Try.ntmps23
  go_wp2_with fail
  refine hlf.mono ?_
  rintro e w1 ⟨rfl, rfl⟩
  clear hlf
  go_wp2_with fail
  refine (rdraw_any h' HLL.out (by have := HL.out; have := HLL.out; omega)).mono ?_
  rintro e w2 ⟨A1, n1, c1, rfl, ho, hr2, hk2⟩
  go_wp2
  go_ret
  exact ⟨A1, n1, c1, rfl, ho, hr2, hk2⟩

/-- What reading a shard comes to. -/
def ShPost (w : World) (F : Nat → Prop) (g : Nat) (o st sl gn : Nat) (ys : List UInt8) (e : Ending) (w1 : World) : Prop :=
  e = .returned (.agg #[.int .u32 o, .int .u16 st, .int .u16 sl, .int .u32 gn]) ∧ RdAt w1 F g ys ∧ Kp (fun b => b = g) w w1

theorem RdAt.g_lt {w : World} {F : Nat → Prop} {g : Nat} {bs : List UInt8} (h : RdAt w F g bs) : g < w.heap.size := by
  obtain ⟨A, m, c, h1, _⟩ := h
  exact (Array.getElem?_eq_some_iff.1 h1).1

/-- Block b is a shard's four cells. -/
def Box4 (w : World) (b : Nat) (x0 x1 x2 x3 : Value) : Prop := w.heap[b]? = some (.cells #[x0, x1, x2, x3] 26 (0, 0))
section
variable {w w1 : World} {b : Nat} {x0 x1 x2 x3 : Value}
theorem Box4.cell (h : Box4 w b x0 x1 x2 x3) : w.cell? ⟨b, 0, none⟩ = some x0 ∧ w.cell? ⟨b, 1, none⟩ = some x1 ∧ w.cell? ⟨b, 2, none⟩ = some x2 ∧ w.cell? ⟨b, 3, none⟩ = some x3 := by
  refine ⟨?_, ?_, ?_, ?_⟩ <;> (rw [cell_of_row w b _ _ _ _ h]; rfl)
theorem Box4.frozen (h : Box4 w b x0 x1 x2 x3) (j : Nat) : w.frozen? ⟨b, j, none⟩ = false := frozen_of_row w b j _ _ h
theorem Box4.keep {S : Nat → Prop} (h : Box4 w b x0 x1 x2 x3) (hk : Kp S w w1) (hb : ¬ S b) : Box4 w1 b x0 x1 x2 x3 := (hk.block b (Array.getElem?_eq_some_iff.1 h).1 hb).trans h
theorem Box4.set0 (h : Box4 w b x0 x1 x2 x3) (u : Value) : Box4 (w.setCell ⟨b, 0, none⟩ u) b u x1 x2 x3 := heap_setCell_same w b 0 _ 26 u h
theorem Box4.set1 (h : Box4 w b x0 x1 x2 x3) (u : Value) : Box4 (w.setCell ⟨b, 1, none⟩ u) b x0 u x2 x3 := heap_setCell_same w b 1 _ 26 u h
theorem Box4.set2 (h : Box4 w b x0 x1 x2 x3) (u : Value) : Box4 (w.setCell ⟨b, 2, none⟩ u) b x0 x1 u x3 := heap_setCell_same w b 2 _ 26 u h
theorem Box4.set3 (h : Box4 w b x0 x1 x2 x3) (u : Value) : Box4 (w.setCell ⟨b, 3, none⟩ u) b x0 x1 x2 u := heap_setCell_same w b 3 _ 26 u h
end
theorem Box4.new2 (w : World) (ob : Obj) (x0 x1 x2 x3 : Value) : Box4 ((w.alloc ob).alloc (.cells #[x0, x1, x2, x3] 26)) (w.heap.size + 1) x0 x1 x2 x3 := by
  have := heap_alloc_new (w.alloc ob) (.cells #[x0, x1, x2, x3] 26)
  rwa [World.size_alloc] at this
theorem Box4.new1 (w : World) (ob : Obj) (x0 x1 x2 x3 : Value) : Box4 ((w.alloc (.cells #[x0, x1, x2, x3] 26)).alloc ob) w.heap.size x0 x1 x2 x3 :=
  (Below.heap_alloc (w.alloc _) ob _ (by rw [World.size_alloc]; omega)).trans (heap_alloc_new w _)
theorem RdAt.set {w : World} {F : Nat → Prop} {g b j : Nat} {bs : List UInt8} (h : RdAt w F g bs) (hb : ∀ k, F k → k ≠ b) (u : Value) : RdAt (w.setCell ⟨b, j, none⟩ u) F g bs :=
  h.keep (Kp.setCell (S := fun k => k = b) (p := ⟨b, j, none⟩) rfl u) fun k hk e => hb k hk e

set_option maxHeartbeats 2000000 in
theorem rdshard_any {w : World} {F : Nat → Prop} {g : Nat} {ys : List UInt8} (o st sl gn : Nat) (ho : o < 4294967296) (hst : st < 65536) (hsl : sl < 65536) (hgn : gn < 4294967296)
    (h : RdAt w F g (shardB o st sl gn ++ ys)) (hF : ∀ k, F k → k < w.heap.size) : Calls Try.prog 22 #[.pointer (some ⟨g, 0, none⟩)] w (ShPost w F g o st sl gn ys) := by
  have h' : ∀ ob1 ob2 : Obj, RdAt ((w.alloc ob1).alloc ob2) F g (numB o 4 ++ (numB st 2 ++ (numB sl 2 ++ (numB gn 4 ++ ys)))) := by
    intro ob1 ob2
    have := (h.no (Kp.alloc No w ob1)).no (Kp.alloc No _ ob2)
    simpa [shardB, List.append_assoc] using this
  have H' := hide h'
  have HF := hide hF
  have hg := h.g_lt
  have n0 : ofB (numB o 4) = o := by rw [ofB_numB]; omega
  have n1 : ofB (numB st 2) = st := by rw [ofB_numB]; omega
  have n2 : ofB (numB sl 2) = sl := by rw [ofB_numB]; omega
  have n3 : ofB (numB gn 4) = gn := by rw [ofB_numB]; omega
  have N0 := hide n0
  have N1 := hide n1
  have N2 := hide n2
  have N3 := hide n3
  clear h h' hF n0 n1 n2 n3
  go_enter Try.func22, Try.ntmps22
  go_wp2_with fail
  refine (rdnum_any 4 (by rw [numB_length]) (by omega) (H'.out _ _)).mono ?_
  rw [N0.out]
  rintro e w1 ⟨rfl, hr, hk⟩
  have hFb : ∀ k, F k → k ≠ w.heap.size + 1 := fun k hk => by have := HF.out k hk; omega
  have HFb := hide hFb
  clear hFb
  have B1 : Box4 w1 (w.heap.size + 1) (.int .u32 0) (.int .u16 0) (.int .u16 0) (.int .u32 0) := (Box4.new2 w _ _ _ _ _).keep hk (by omega)
  have R1 : Box4 w1 w.heap.size (.int .u32 0) (.int .u16 0) (.int .u16 0) (.int .u32 0) := (Box4.new1 w _ _ _ _ _).keep hk (by omega)
  obtain ⟨p0, p1, p2, p3⟩ := B1.cell
  have f0 := B1.frozen 0
  go_wp2_with fail
  clear p0 p1 p2 p3 f0
  refine (rdnum_any 2 (by rw [numB_length]) (by omega) (hr.set HFb.out _)).mono ?_
  rw [N1.out]
  rintro e w2 ⟨rfl, hr2, hk2⟩
  have B2 := (B1.set0 (.int .u32 o)).keep hk2 (by omega)
  have R2 := (R1.keep (Kp.setCell (S := fun k => k = w.heap.size + 1) (p := ⟨w.heap.size + 1, 0, none⟩) rfl (.int .u32 o)) (by omega)).keep hk2 (by omega)
  obtain ⟨p0, p1, p2, p3⟩ := B2.cell
  have f0 := B2.frozen 1
  go_wp2_with fail
  clear p0 p1 p2 p3 f0
  refine (rdnum_any 2 (by rw [numB_length]) (by omega) (hr2.set HFb.out _)).mono ?_
  rw [N2.out]
  rintro e w3 ⟨rfl, hr3, hk3⟩
  have B3 := (B2.set1 (.int .u16 st)).keep hk3 (by omega)
  have R3 := (R2.keep (Kp.setCell (S := fun k => k = w.heap.size + 1) (p := ⟨w.heap.size + 1, 1, none⟩) rfl (.int .u16 st)) (by omega)).keep hk3 (by omega)
  obtain ⟨p0, p1, p2, p3⟩ := B3.cell
  have f0 := B3.frozen 2
  go_wp2_with fail
  clear p0 p1 p2 p3 f0
  refine (rdnum_any 4 (by rw [numB_length]) (by omega) (hr3.set HFb.out _)).mono ?_
  rw [N3.out]
  rintro e w4 ⟨rfl, hr4, hk4⟩
  have B4 := (B3.set2 (.int .u16 sl)).keep hk4 (by omega)
  have R4 := (R3.keep (Kp.setCell (S := fun k => k = w.heap.size + 1) (p := ⟨w.heap.size + 1, 2, none⟩) rfl (.int .u16 sl)) (by omega)).keep hk4 (by omega)
  have B5 := B4.set3 (.int .u32 gn)
  obtain ⟨p0, p1, p2, p3⟩ := B4.cell
  obtain ⟨s0, s1, s2, s3⟩ := B5.cell
  have f3 := B4.frozen 3
  have R5 := R4.keep (Kp.setCell (S := fun k => k = w.heap.size + 1) (p := ⟨w.heap.size + 1, 3, none⟩) rfl (.int .u32 gn)) (by omega)
  obtain ⟨t0, t1, t2, t3⟩ := R5.cell
  have g0 := R5.frozen 0
  have g1 := R5.frozen 1
  have g2 := R5.frozen 2
  have g3 := R5.frozen 3
  have R9 := (((R5.set0 (.int .u32 o)).set1 (.int .u16 st)).set2 (.int .u16 sl)).set3 (.int .u32 gn)
  obtain ⟨q0, q1, q2, q3⟩ := R9.cell
  have HR9 := hide R9
  clear R9
  have hFr : ∀ k, F k → k ≠ w.heap.size := fun k hk => by have := HF.out k hk; omega
  have HFr := hide hFr
  clear hFr
  go_wp2
  refine bodyPost_ret (v := .agg #[.int .u32 o, .int .u16 st, .int .u16 sl, .int .u32 gn]) (by simp [results, Try.results22, go_sem, q0, q1, q2, q3]) rfl ⟨rfl, ?_, ?_⟩
  · exact (((((hr4.set HFb.out _).set HFr.out _).set HFr.out _).set HFr.out _).set HFr.out _)
  · have y1 : Up (fun b => b = g) w (w.heap.size + 1) := .inr (by omega)
    have y0 : Up (fun b => b = g) w w.heap.size := .inr (by omega)
    have z : Kp (fun b => b = g) w w4 :=
      ((((((((Kp.alloc _ w _).trans' (Kp.alloc _ _ _)).trans' hk).trans (Kp.setCell (p := ⟨w.heap.size + 1, 0, none⟩) y1 _)).trans' hk2).trans (Kp.setCell (p := ⟨w.heap.size + 1, 1, none⟩) y1 _)).trans' hk3).trans (Kp.setCell (p := ⟨w.heap.size + 1, 2, none⟩) y1 _)).trans' hk4
    exact ((((z.trans (Kp.setCell (p := ⟨w.heap.size + 1, 3, none⟩) y1 _)).trans (Kp.setCell (p := ⟨w.heap.size, 0, none⟩) y0 _)).trans (Kp.setCell (p := ⟨w.heap.size, 1, none⟩) y0 _)).trans (Kp.setCell (p := ⟨w.heap.size, 2, none⟩) y0 _)).trans (Kp.setCell (p := ⟨w.heap.size, 3, none⟩) y0 _)
end Go.Proofs.Ytkpongkojkhboaa
