/- The document's Take of layer 1 (Raw, Num, Shard), as contracts over memory. -/
import Derived.Test.YtkpongkojkhboaaNam
import Derived.Test.YtkpongkojkhboaaSef
namespace Go.Proofs.Ytkpongkojkhboaa
open Go.RowKit
set_option linter.unusedVariables false
set_option linter.unusedSimpArgs false
set_option maxRecDepth 20000

/-- A box of the document's Take. -/
def TkB (w : World) (g : Nat) (v : Value) : Prop := w.heap[g]? = some (.cells #[v, .bool false] 60 (0, 0))
def TkAt (w : World) (g : Nat) (bs : List UInt8) : Prop := ∃ A n c, TkB w g (.slice A n c) ∧ Bts w (.slice A n c) bs ∧ n ≤ c
section
variable {w w1 : World} {g : Nat} {v u : Value} {bs : List UInt8}
theorem TkB.lt (h : TkB w g v) : g < w.heap.size := (Array.getElem?_eq_some_iff.1 h).1
theorem TkB.c0 (h : TkB w g v) : w.cell? ⟨g, 0, none⟩ = some v := by rw [cell_of_row w g 0 _ _ _ h]; rfl
theorem TkB.fz (h : TkB w g v) (j : Nat) : w.frozen? ⟨g, j, none⟩ = false := frozen_of_row w g j _ _ h
theorem TkB.set0 (h : TkB w g v) (u : Value) : TkB (w.setCell ⟨g, 0, none⟩ u) g u := heap_setCell_same w g 0 _ 60 u h
theorem TkB.no (h : TkB w g v) (hk : Kp No w w1) : TkB w1 g v := (hk.block g h.lt fun f => f).trans h
theorem TkB.new (w : World) (v : Value) : TkB (w.alloc (.cells #[v, .bool false] 60)) w.heap.size v := heap_alloc_new w _
/-- Bytes lie elsewhere. -/
theorem TkB.off {A : Option Addr} {n c : Nat} (h : TkB w g (.slice A n c)) (hb : Bts w u bs) (hne : bs ≠ []) : u.ownBlock ≠ some g := fun e => by
  obtain ⟨A', c', rfl, hn, hc⟩ := hb
  rcases A' with _ | ad
  · cases e
  · have h0 := hc ad rfl 0 _ (List.getElem?_eq_getElem (List.length_pos_iff.2 hne))
    obtain ⟨B, off, sp⟩ := ad
    have eB : B = g := Option.some.inj e
    subst eB
    have hs : sp = none := by simpa [Addr.add] using World.cell?_spot h0
    subst hs
    rw [add_none, cell_of_row w B _ _ _ _ h] at h0
    match off, h0 with
    | 0, h0 => simp [bv] at h0
    | 1, h0 => simp [bv] at h0
    | k + 2, h0 => simp at h0
theorem TkB.stay {A : Option Addr} {n c : Nat} (h : TkB w g (.slice A n c)) (hb : Bts w u bs) (hk : Kp (fun k => k = g) w w1) : Bts w1 u bs := by
  by_cases e : bs = []
  · subst e
    obtain ⟨A', c', rfl, hn, hc⟩ := hb
    exact ⟨A', c', rfl, hn, fun ad ha j u hu => by simp at hu⟩
  · exact hb.keep hk fun k hk' e' => h.off hb e (by rw [hk', e'])
theorem TkAt.no (h : TkAt w g bs) (hk : Kp No w w1) : TkAt w1 g bs := by
  obtain ⟨A, n, c, h1, h2, h3⟩ := h
  exact ⟨A, n, c, h1.no hk, h2.no hk, h3⟩
theorem TkAt.lt (h : TkAt w g bs) : g < w.heap.size := by
  obtain ⟨A, n, c, h1, h2, h3⟩ := h
  exact h1.lt
theorem TkAt.set {b j : Nat} (h : TkAt w g bs) (hb : g ≠ b) (hB : ∀ x : List UInt8, ∀ u, Bts w u x → Bts (w.setCell ⟨b, j, none⟩ v) u x) : TkAt (w.setCell ⟨b, j, none⟩ v) g bs := by
  obtain ⟨A, n, c, h1, h2, h3⟩ := h
  exact ⟨A, n, c, ((Kp.setCell (S := fun k => k = b) (p := ⟨b, j, none⟩) rfl v).block g h1.lt hb).trans h1, hB _ _ h2, h3⟩
end
def TawPost (w : World) (g : Nat) (xs ys : List UInt8) (e : Ending) (w1 : World) : Prop := ∃ A m c, e = .returned (.slice A m c) ∧ Bts w1 (.slice A m c) xs ∧ TkAt w1 g ys ∧ Kp (fun b => b = g) w w1
theorem traw_any {w : World} {g k : Nat} {bs : List UInt8} (h : TkAt w g bs) (hk : k ≤ bs.length) (hbig : k ≤ 100000000) : Calls Try.prog 40 #[.pointer (some ⟨g, 0, none⟩), .int .i64 (k : Int)] w (TawPost w g (bs.take k) (bs.drop k)) := by
  obtain ⟨A, n, c, hg, hb, hnc⟩ := h
  have hl := hb.len
  obtain ⟨s1, b1, r1⟩ := slice_u hb hnc k (k : Int) rfl (by omega)
  obtain ⟨A2, s2, b2, r2⟩ := slice_l hb hnc k (n - k) (c - k) (k : Int) rfl (by omega) rfl rfl
  have c0 := hg.c0
  have f0 := hg.fz 0
  have z1 : ¬ (k : Int) < 0 := by omega
  have z2 : ¬ (n : Int) < (k : Int) := by omega
  have HB1 := hide b1
  have HB2 := hide b2
  have HG := hide hg
  obtain ⟨m, hm⟩ : ∃ m, m = n - k := ⟨_, rfl⟩
  obtain ⟨d, hd⟩ : ∃ m, m = c - k := ⟨_, rfl⟩
  rw [← hm, ← hd] at s2 HB2 r2
  have HR := hide r2
  clear b1 b2 hg hb hl hk hm hd r1 r2
  go_enter Try.func40, Try.ntmps40
  go_wp2
  go_ret
  have K := Kp.setCell (S := fun b => b = g) (p := ⟨g, 0, none⟩) (w := w) rfl (.slice A2 m d)
  exact ⟨A, k, c, rfl, HG.out.stay HB1.out K, ⟨A2, m, d, HG.out.set0 _, HG.out.stay HB2.out K, HR.out⟩, K⟩
def TnPost (w : World) (g z : Nat) (ys : List UInt8) (e : Ending) (w1 : World) : Prop := e = .returned (.int .u64 (z : Int)) ∧ TkAt w1 g ys ∧ Kp (fun b => b = g) w w1
theorem tnum_any {w : World} {g k : Nat} {bs : List UInt8} (h : TkAt w g bs) (hk : k ≤ bs.length) (h8 : k ≤ 8) : Calls Try.prog 25 #[.pointer (some ⟨g, 0, none⟩), .int .i64 (k : Int)] w (TnPost w g (ofB (bs.take k)) (bs.drop k)) := by
  have hr := traw_any h hk (by omega)
  have HR := hide hr
  have HL : Hid ((bs.take k).length ≤ 8) := by show _ ≤ _; rw [List.length_take]; omega
  clear hr h hk
  have z1 : ¬ (k : Int) < 0 := by omega
  have z2 : ¬ (8 : Int) < (k : Int) := by omega
  go_enter Try.func25, Try.ntmps25
  go_wp2_with fail
  refine HR.out.mono ?_
  rintro e w1 ⟨A, m, c, rfl, hb, ht, hk1⟩
  go_wp2_with fail
  refine (rof_any hb HL.out).mono ?_
  rintro e w' ⟨rfl, rfl⟩
  go_wp2_with fail
  go_ret
  exact ⟨rfl, ht, hk1⟩
section
variable {w w1 : World} {b g : Nat} {o0 o1 o2 o3 : Int} {u : Value} {bs : List UInt8}
theorem Box4.stay (h : Box4 w b (.int .u32 o0) (.int .u16 o1) (.int .u16 o2) (.int .u32 o3)) (hb : Bts w u bs) (hk : Kp (fun k => k = b) w w1) : Bts w1 u bs := by
  by_cases e : bs = []
  · subst e
    obtain ⟨A', c', rfl, hn, hc⟩ := hb
    exact ⟨A', c', rfl, hn, fun ad ha j u hu => by simp at hu⟩
  · refine hb.keep hk fun k hk' e' => ?_
    subst e'
    obtain ⟨A', c', rfl, hn, hc⟩ := hb
    rcases A' with _ | ad
    · cases hk'
    · have h0 := hc ad rfl 0 _ (List.getElem?_eq_getElem (List.length_pos_iff.2 e))
      obtain ⟨B, off, sp⟩ := ad
      have eB : B = k := Option.some.inj hk'
      subst eB
      have hs : sp = none := by simpa [Addr.add] using World.cell?_spot h0
      subst hs
      rw [add_none, cell_of_row w B _ _ _ _ h] at h0
      match off, h0 with
      | 0, h0 => simp [bv] at h0
      | 1, h0 => simp [bv] at h0
      | 2, h0 => simp [bv] at h0
      | 3, h0 => simp [bv] at h0
      | k + 4, h0 => simp at h0
theorem TkAt.sh (h : TkAt w g bs) (hB : Box4 w b (.int .u32 o0) (.int .u16 o1) (.int .u16 o2) (.int .u32 o3)) (hne : g ≠ b) (j : Nat) (v : Value) : TkAt (w.setCell ⟨b, j, none⟩ v) g bs := by
  obtain ⟨A, n, c, h1, h2, h3⟩ := h
  have K := Kp.setCell (S := fun k => k = b) (p := ⟨b, j, none⟩) (w := w) rfl v
  exact ⟨A, n, c, (K.block g h1.lt hne).trans h1, hB.stay h2 K, h3⟩
end
def TsPost (w : World) (g s : Nat) (ys : List UInt8) (e : Ending) (w1 : World) : Prop := e = .returned (shV s) ∧ TkAt w1 g ys ∧ Kp (fun b => b = g) w w1
theorem u32_of {x : Nat} (h : x < 4294967296) : IntKind.u32.wrap (x : Int) = (x : Int) := by rw [IntKind.wrap_u32]; omega
theorem u16_of {x : Nat} (h : x < 65536) : IntKind.u16.wrap (x : Int) = (x : Int) := by rw [IntKind.wrap_u16]; omega
set_option maxHeartbeats 2000000 in
theorem tshard_parts {w : World} {g : Nat} {y0 y1 y2 y3 y4 : List UInt8} {x0 x1 x2 x3 : Nat} (hx0 : x0 < 4294967296) (hx1 : x1 < 65536) (hx2 : x2 < 65536) (hx3 : x3 < 4294967296) (h : TkAt w g y0)
    (T0 : ∀ w', TkAt w' g y0 → Calls Try.prog 25 #[.pointer (some ⟨g, 0, none⟩), .int .i64 4] w' (TnPost w' g x0 y1)) (T1 : ∀ w', TkAt w' g y1 → Calls Try.prog 25 #[.pointer (some ⟨g, 0, none⟩), .int .i64 2] w' (TnPost w' g x1 y2))
    (T2 : ∀ w', TkAt w' g y2 → Calls Try.prog 25 #[.pointer (some ⟨g, 0, none⟩), .int .i64 2] w' (TnPost w' g x2 y3)) (T3 : ∀ w', TkAt w' g y3 → Calls Try.prog 25 #[.pointer (some ⟨g, 0, none⟩), .int .i64 4] w' (TnPost w' g x3 y4)) :
    Calls Try.prog 26 #[.pointer (some ⟨g, 0, none⟩)] w fun e w1 => e = .returned (.agg #[.int .u32 (x0 : Int), .int .u16 (x1 : Int), .int .u16 (x2 : Int), .int .u32 (x3 : Int)]) ∧ TkAt w1 g y4 ∧ Kp (fun b => b = g) w w1 := by
  have H' : ∀ ob1 ob2 : Obj, TkAt ((w.alloc ob1).alloc ob2) g y0 := fun ob1 ob2 => (h.no (Kp.alloc No w ob1)).no (Kp.alloc No _ ob2)
  have hg := h.lt
  have HH := hide H'
  have HT0 := hide T0
  have HT1 := hide T1
  have HT2 := hide T2
  have HT3 := hide T3
  have e0 := u32_of hx0
  have e1 := u16_of hx1
  have e2 := u16_of hx2
  have e3 := u32_of hx3
  clear H' h T0 T1 T2 T3
  have ng : g ≠ w.heap.size + 1 := by omega
  have ng0 : g ≠ w.heap.size := by omega
  go_enter Try.func26, Try.ntmps26
  go_wp2_with fail
  refine (HT0.out _ (HH.out _ _)).mono ?_
  rintro e w1 ⟨rfl, hr, hk⟩
  have B1 : Box4 w1 (w.heap.size + 1) (.int .u32 0) (.int .u16 0) (.int .u16 0) (.int .u32 0) := (Box4.new2 w _ _ _ _ _).keep hk (fun e => ng e.symm)
  have R1 : Box4 w1 w.heap.size (.int .u32 0) (.int .u16 0) (.int .u16 0) (.int .u32 0) := (Box4.new1 w _ _ _ _ _).keep hk (fun e => ng0 e.symm)
  have K1 : Kp (fun b => b = g) w w1 := ((Kp.alloc _ w _).trans' (Kp.alloc _ _ _)).trans' hk
  obtain ⟨p0, p1, p2, p3⟩ := B1.cell
  have f0 := B1.frozen 0
  go_wp2_with fail
  clear p0 p1 p2 p3 f0
  have K1' := K1.trans (Kp.setCell (S := Up (fun b => b = g) w) (p := ⟨w.heap.size + 1, 0, none⟩) (w := w1) (.inr (Nat.le_succ _)) (.int .u32 (x0 : Int)))
  refine (HT1.out _ (hr.sh B1 ng 0 _)).mono ?_
  rintro e w2 ⟨rfl, hr2, hk2⟩
  have B2 := (B1.set0 (.int .u32 x0)).keep hk2 (fun e => ng e.symm)
  have R2 := (R1.keep (Kp.setCell (S := fun k => k = w.heap.size + 1) (p := ⟨w.heap.size + 1, 0, none⟩) rfl (.int .u32 x0)) (by omega)).keep hk2 (fun e => ng0 e.symm)
  have K2 := K1'.trans' hk2
  obtain ⟨p0, p1, p2, p3⟩ := B2.cell
  have f0 := B2.frozen 1
  go_wp2_with fail
  clear p0 p1 p2 p3 f0
  have K2' := K2.trans (Kp.setCell (S := Up (fun b => b = g) w) (p := ⟨w.heap.size + 1, 1, none⟩) (w := w2) (.inr (Nat.le_succ _)) (.int .u16 (x1 : Int)))
  refine (HT2.out _ (hr2.sh B2 ng 1 _)).mono ?_
  rintro e w3 ⟨rfl, hr3, hk3⟩
  have B3 := (B2.set1 (.int .u16 x1)).keep hk3 (fun e => ng e.symm)
  have R3 := (R2.keep (Kp.setCell (S := fun k => k = w.heap.size + 1) (p := ⟨w.heap.size + 1, 1, none⟩) rfl (.int .u16 x1)) (by omega)).keep hk3 (fun e => ng0 e.symm)
  have K3 := K2'.trans' hk3
  obtain ⟨p0, p1, p2, p3⟩ := B3.cell
  have f0 := B3.frozen 2
  go_wp2_with fail
  clear p0 p1 p2 p3 f0
  have K3' := K3.trans (Kp.setCell (S := Up (fun b => b = g) w) (p := ⟨w.heap.size + 1, 2, none⟩) (w := w3) (.inr (Nat.le_succ _)) (.int .u16 (x2 : Int)))
  refine (HT3.out _ (hr3.sh B3 ng 2 _)).mono ?_
  rintro e w4 ⟨rfl, hr4, hk4⟩
  have B4 := (B3.set2 (.int .u16 x2)).keep hk4 (fun e => ng e.symm)
  have R4 := (R3.keep (Kp.setCell (S := fun k => k = w.heap.size + 1) (p := ⟨w.heap.size + 1, 2, none⟩) rfl (.int .u16 x2)) (by omega)).keep hk4 (fun e => ng0 e.symm)
  have K4 := K3'.trans' hk4
  have B5 := B4.set3 (.int .u32 x3)
  obtain ⟨p0, p1, p2, p3⟩ := B4.cell
  obtain ⟨s0, s1, s2, s3⟩ := B5.cell
  have f3 := B4.frozen 3
  have R5 := R4.keep (Kp.setCell (S := fun k => k = w.heap.size + 1) (p := ⟨w.heap.size + 1, 3, none⟩) rfl (.int .u32 x3)) (by omega)
  have K4' := K4.trans (Kp.setCell (S := Up (fun b => b = g) w) (p := ⟨w.heap.size + 1, 3, none⟩) (w := w4) (.inr (Nat.le_succ _)) (.int .u32 (x3 : Int)))
  have q5 := hr4.sh B4 ng 3 (.int .u32 x3)
  have q6 := q5.sh R5 ng0 0 (.int .u32 x0)
  have R6 := R5.set0 (.int .u32 x0)
  have q7 := q6.sh R6 ng0 1 (.int .u16 x1)
  have R7 := R6.set1 (.int .u16 x1)
  have q8 := q7.sh R7 ng0 2 (.int .u16 x2)
  have R8 := R7.set2 (.int .u16 x2)
  have q9 := q8.sh R8 ng0 3 (.int .u32 x3)
  have R9 := R8.set3 (.int .u32 x3)
  have K9 := (((K4'.trans (Kp.setCell (S := Up (fun b => b = g) w) (p := ⟨w.heap.size, 0, none⟩) (.inr (Nat.le_refl _)) (.int .u32 (x0 : Int)))).trans (Kp.setCell (S := Up (fun b => b = g) w) (p := ⟨w.heap.size, 1, none⟩) (.inr (Nat.le_refl _)) (.int .u16 (x1 : Int)))).trans (Kp.setCell (S := Up (fun b => b = g) w) (p := ⟨w.heap.size, 2, none⟩) (.inr (Nat.le_refl _)) (.int .u16 (x2 : Int)))).trans (Kp.setCell (S := Up (fun b => b = g) w) (p := ⟨w.heap.size, 3, none⟩) (.inr (Nat.le_refl _)) (.int .u32 (x3 : Int)))
  obtain ⟨t0, t1, t2, t3⟩ := R5.cell
  have g0 := R5.frozen 0
  have g1 := R5.frozen 1
  have g2 := R5.frozen 2
  have g3 := R5.frozen 3
  obtain ⟨z0, z1, z2, z3⟩ := R9.cell
  have HQ := hide (And.intro q9 K9)
  clear q5 q6 q7 q8 q9 R6 R7 R8 R9 K1 K1' K2 K2' K3 K3' K4 K4' K9 hr hk hr2 hk2 hr3 hk3 hr4 hk4 B1 B2 B3 B4 B5 R1 R2 R3 R4 R5 HT0 HT1 HT2 HT3
  go_wp2
  refine bodyPost_ret (v := .agg #[.int .u32 (x0 : Int), .int .u16 (x1 : Int), .int .u16 (x2 : Int), .int .u32 (x3 : Int)]) (by simp [results, Try.results26, go_sem, z0, z1, z2, z3]) rfl ⟨rfl, HQ.out.1, HQ.out.2⟩
theorem tshard_any {w : World} {g : Nat} {bs : List UInt8} (h : TkAt w g bs) (hl : 12 ≤ bs.length) : Calls Try.prog 26 #[.pointer (some ⟨g, 0, none⟩)] w (TsPost w g (nmO bs) (bs.drop 12)) := by
  obtain ⟨p0, p1, p2, p3⟩ := nm_c bs
  have hN : shV (nmO bs) = .agg #[.int .u32 (ofB (bs.take 4) : Int), .int .u16 (ofB ((bs.drop 4).take 2) : Int), .int .u16 (ofB ((bs.drop 6).take 2) : Int), .int .u32 (ofB ((bs.drop 8).take 4) : Int)] := by unfold shV; rw [p0, p1, p2, p3]
  have T1 := fun w' (h : TkAt w' g (bs.drop 4)) => tnum_any h (show 2 ≤ (bs.drop 4).length by rw [List.length_drop]; omega) (by omega)
  have T2 := fun w' (h : TkAt w' g (bs.drop 6)) => tnum_any h (show 2 ≤ (bs.drop 6).length by rw [List.length_drop]; omega) (by omega)
  have T3 := fun w' (h : TkAt w' g (bs.drop 8)) => tnum_any h (show 4 ≤ (bs.drop 8).length by rw [List.length_drop]; omega) (by omega)
  rw [List.drop_drop] at T1 T2 T3
  unfold TsPost
  rw [hN]
  exact tshard_parts (ofB_take 4) (ofB_take 2) (ofB_take 2) (ofB_take 4) h (fun w' h' => tnum_any h' (Nat.le_trans (by decide) hl) (by decide)) T1 T2 T3
end Go.Proofs.Ytkpongkojkhboaa
