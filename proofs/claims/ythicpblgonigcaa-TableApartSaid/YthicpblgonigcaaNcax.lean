/- Law 20's to as a contract (printed by tools/gen_tbw.py). No condition. -/
import Derived.Test.YthicpblgonigcaaNcaw
namespace Go.Proofs.Ythicpblgonigcaa
open Go.RowKit
set_option linter.unusedVariables false
set_option linter.unusedSimpArgs false
set_option maxRecDepth 20000

abbrev oqL (q : Oq) (v : Value) : List Value := [.int .i64 q.kd, .int .u32 (q.o.num : Int), .string (strOf q.o.nm), .int .i64 q.o.ln, .int .i64 q.o.ct, .int .i64 q.o.pc, v, .int .i64 q.st, .int .i64 q.so, .int .i64 q.tn, .int .u32 (q.tg : Int)]
abbrev oqZ : List Value := [.int .i64 0, .int .u32 0, .string ⟨#[]⟩, .int .i64 0, .int .i64 0, .int .i64 0, .slice none 0 0, .int .i64 0, .int .i64 0, .int .i64 0, .int .u32 0]
theorem Bx.elev {t : TypeId} {w : World} {b : Nat} {x0 x1 x2 x3 x4 x5 x6 x7 x8 x9 x10 : Value} (h : Bx t w b [x0, x1, x2, x3, x4, x5, x6, x7, x8, x9, x10]) (u0 u1 u2 u3 u4 u5 u6 u7 u8 u9 u10 : Value) :
    Bx t (((((((((((w.setCell ⟨b, 0, none⟩ u0).setCell ⟨b, 1, none⟩ u1).setCell ⟨b, 2, none⟩ u2).setCell ⟨b, 3, none⟩ u3).setCell ⟨b, 4, none⟩ u4).setCell ⟨b, 5, none⟩ u5).setCell ⟨b, 6, none⟩ u6).setCell ⟨b, 7, none⟩ u7).setCell ⟨b, 8, none⟩ u8).setCell ⟨b, 9, none⟩ u9).setCell ⟨b, 10, none⟩ u10) b [u0, u1, u2, u3, u4, u5, u6, u7, u8, u9, u10] :=
  ((((((((((h.set 0 u0).set 1 u1).set 2 u2).set 3 u3).set 4 u4).set 5 u5).set 6 u6).set 7 u7).set 8 u8).set 9 u9).set 10 u10
theorem kp11 {S : Nat → Prop} (w : World) (b : Nat) (u0 u1 u2 u3 u4 u5 u6 u7 u8 u9 u10 : Value) (hb : S b) : Kp S w (((((((((((w.setCell ⟨b, 0, none⟩ u0).setCell ⟨b, 1, none⟩ u1).setCell ⟨b, 2, none⟩ u2).setCell ⟨b, 3, none⟩ u3).setCell ⟨b, 4, none⟩ u4).setCell ⟨b, 5, none⟩ u5).setCell ⟨b, 6, none⟩ u6).setCell ⟨b, 7, none⟩ u7).setCell ⟨b, 8, none⟩ u8).setCell ⟨b, 9, none⟩ u9).setCell ⟨b, 10, none⟩ u10) :=
  (kp6 w b u0 u1 u2 u3 u4 u5 hb).trans' ((Kp.setCell (p := ⟨b, 6, none⟩) hb u6).trans' ((Kp.setCell (p := ⟨b, 7, none⟩) hb u7).trans' ((Kp.setCell (p := ⟨b, 8, none⟩) hb u8).trans' ((Kp.setCell (p := ⟨b, 9, none⟩) hb u9).trans' (Kp.setCell (p := ⟨b, 10, none⟩) hb u10)))))
theorem Bx.oq {t : TypeId} {w : World} {b : Nat} {q : Oq} {v : Value} (h : Bx t w b (oqL q v)) : w.cell? ⟨b, 0, none⟩ = some (.int .i64 q.kd) ∧ w.cell? ⟨b, 1, none⟩ = some (.int .u32 (q.o.num : Int)) ∧ w.cell? ⟨b, 2, none⟩ = some (.string (strOf q.o.nm)) ∧ w.cell? ⟨b, 3, none⟩ = some (.int .i64 q.o.ln) ∧ w.cell? ⟨b, 4, none⟩ = some (.int .i64 q.o.ct) ∧ w.cell? ⟨b, 5, none⟩ = some (.int .i64 q.o.pc) ∧ w.cell? ⟨b, 6, none⟩ = some (v) ∧ w.cell? ⟨b, 7, none⟩ = some (.int .i64 q.st) ∧ w.cell? ⟨b, 8, none⟩ = some (.int .i64 q.so) ∧ w.cell? ⟨b, 9, none⟩ = some (.int .i64 q.tn) ∧ w.cell? ⟨b, 10, none⟩ = some (.int .u32 (q.tg : Int)) :=
  ⟨h.cell (i := 0) rfl, h.cell (i := 1) rfl, h.cell (i := 2) rfl, h.cell (i := 3) rfl, h.cell (i := 4) rfl, h.cell (i := 5) rfl, h.cell (i := 6) rfl, h.cell (i := 7) rfl, h.cell (i := 8) rfl, h.cell (i := 9) rfl, h.cell (i := 10) rfl⟩
/-- The program's operation comes back. -/
def ToPost (w : World) (q : Oq) (e : Ending) (w1 : World) : Prop := ∃ A n c, e = .returned (oqV q (.slice A n c)) ∧ PlR w1 (fun k => w.heap.size ≤ k) (.slice A n c) q.o.pl ∧ Kp No w w1
set_option maxHeartbeats 4000000 in
theorem to_any {w : World} {F : Nat → Prop} {v : Value} {q : Oq} (h : RdP w F v q.o.pl) (hn : q.o.pl.length ≤ 40) (hP : FitP q.o.pl) : Calls Try.prog 12 #[oqV q v] w (ToPost w q) := by
  have hc := fun w1 hk => places_any (w := w1) (RdP.no h (w1 := w1) hk) hn fun l hl => (hP.2 l hl).1
  obtain ⟨A2, c2, rfl⟩ := h.form
  obtain ⟨m, hm⟩ : ∃ m, m = q.o.pl.length := ⟨_, rfl⟩
  rw [← hm] at hc ⊢
  have HC := hide hc
  clear hc hm h hn hP
  have hb2 := Bx.two w 42 48 (oqL q (.slice A2 m c2)) oqZ
  have hk2 := (Kp.alloc No w (.cells #[.int .i64 q.kd, .int .u32 (q.o.num : Int), .string (strOf q.o.nm), .int .i64 q.o.ln, .int .i64 q.o.ct, .int .i64 q.o.pc, .slice A2 m c2, .int .i64 q.st, .int .i64 q.so, .int .i64 q.tn, .int .u32 (q.tg : Int)] 42)).trans' (Kp.alloc No (w.alloc (.cells #[.int .i64 q.kd, .int .u32 (q.o.num : Int), .string (strOf q.o.nm), .int .i64 q.o.ln, .int .i64 q.o.ct, .int .i64 q.o.pc, .slice A2 m c2, .int .i64 q.st, .int .i64 q.so, .int .i64 q.tn, .int .u32 (q.tg : Int)] 42)) (.cells #[.int .i64 0, .int .u32 0, .string ⟨#[]⟩, .int .i64 0, .int .i64 0, .int .i64 0, .slice none 0 0, .int .i64 0, .int .i64 0, .int .i64 0, .int .u32 0] 48))
  have HB2 := hide hb2
  have HK2 := hide hk2
  have HSZ : Hid (∀ O1 O2, ((w.alloc O1).alloc O2).heap.size = w.heap.size + 2) := fun O1 O2 => by simp
  clear hb2 hk2
  go_enter Try.func12, Try.ntmps12
  go_wp2_with fail
  obtain ⟨s, hs⟩ : ∃ s, s = w.heap.size := ⟨_, rfl⟩
  have HS := hide hs
  rw [← hs] at HB2 ⊢
  generalize ((w.alloc (.cells #[.int .i64 q.kd, .int .u32 (q.o.num : Int), .string (strOf q.o.nm), .int .i64 q.o.ln, .int .i64 q.o.ct, .int .i64 q.o.pc, .slice A2 m c2, .int .i64 q.st, .int .i64 q.so, .int .i64 q.tn, .int .u32 (q.tg : Int)] 42)).alloc (.cells #[.int .i64 0, .int .u32 0, .string ⟨#[]⟩, .int .i64 0, .int .i64 0, .int .i64 0, .slice none 0 0, .int .i64 0, .int .i64 0, .int .i64 0, .int .u32 0] 48)) = wa at HB2 HK2 ⊢
  clear hs HSZ
  have HB0 := hide (HB2.out.1.no (Kp.refl No wa).drew)
  have HB1 := hide (HB2.out.2.no (Kp.refl No wa).drew)
  have HKD := hide (HK2.out.drew)
  refine wp_region_noPanic ?_
  refine wp_region_held_drew (S := fun w' => w'.cell? ⟨s, 0, none⟩ = some (.int .i64 q.kd) ∧ w'.cell? ⟨s, 1, none⟩ = some (.int .u32 (q.o.num : Int)) ∧ w'.cell? ⟨s, 2, none⟩ = some (.string (strOf q.o.nm)) ∧ w'.cell? ⟨s, 3, none⟩ = some (.int .i64 q.o.ln) ∧ w'.cell? ⟨s, 4, none⟩ = some (.int .i64 q.o.ct) ∧ w'.cell? ⟨s, 5, none⟩ = some (.int .i64 q.o.pc) ∧ w'.cell? ⟨s, 6, none⟩ = some (.slice A2 m c2) ∧ w'.cell? ⟨s, 7, none⟩ = some (.int .i64 q.st) ∧ w'.cell? ⟨s, 8, none⟩ = some (.int .i64 q.so) ∧ w'.cell? ⟨s, 9, none⟩ = some (.int .i64 q.tn) ∧ w'.cell? ⟨s, 10, none⟩ = some (.int .u32 (q.tg : Int))) (by kernel_rfl) (HB0.out.oq) (fun hHeld => ?_)
  generalize wa.drew = wd at hHeld HB0 HB1 HKD ⊢
  refine wpAnyH_take (i := 0) (v := ?vt0) (oi := ?ot0) ?ht0 (by kernel_rfl) (by kernel_rfl) (by kernel_rfl) (fun _ _ _ h => h) (Or.inl ⟨?wt0, ?yt0⟩) hHeld ?rt0
  case ht0 => simp only [List.getElem?_toArray, List.getElem?_cons_zero, List.getElem?_cons_succ]; rfl
  case wt0 => rfl
  case yt0 => intro w hSw; (try dsimp only at hSw); go_simp; (try with_reducible rfl)
  simp only [Act.put, List.setIfInBounds_toArray, List.set_cons_zero, List.set_cons_succ]
  refine wpAnyH_take (i := 1) (v := ?vt1) (oi := ?ot1) ?ht1 (by kernel_rfl) (by kernel_rfl) (by kernel_rfl) (fun _ _ _ h => h) (Or.inl ⟨?wt1, ?yt1⟩) hHeld ?rt1
  case ht1 => simp only [List.getElem?_toArray, List.getElem?_cons_zero, List.getElem?_cons_succ]; rfl
  case wt1 => rfl
  case yt1 => intro w hSw; (try dsimp only at hSw); go_simp; (try with_reducible rfl)
  simp only [Act.put, List.setIfInBounds_toArray, List.set_cons_zero, List.set_cons_succ]
  refine wpAnyH_take (i := 2) (v := ?vt2) (oi := ?ot2) ?ht2 (by kernel_rfl) (by kernel_rfl) (by kernel_rfl) (fun _ _ _ h => h) (Or.inl ⟨?wt2, ?yt2⟩) hHeld ?rt2
  case ht2 => simp only [List.getElem?_toArray, List.getElem?_cons_zero, List.getElem?_cons_succ]; rfl
  case wt2 => rfl
  case yt2 => intro w hSw; (try dsimp only at hSw); go_simp; (try with_reducible rfl)
  simp only [Act.put, List.setIfInBounds_toArray, List.set_cons_zero, List.set_cons_succ]
  refine wpAnyH_take (i := 3) (v := ?vt3) (oi := ?ot3) ?ht3 (by kernel_rfl) (by kernel_rfl) (by kernel_rfl) (fun _ _ _ h => h) (Or.inl ⟨?wt3, ?yt3⟩) hHeld ?rt3
  case ht3 => simp only [List.getElem?_toArray, List.getElem?_cons_zero, List.getElem?_cons_succ]; rfl
  case wt3 => rfl
  case yt3 => intro w hSw; (try dsimp only at hSw); go_simp; (try with_reducible rfl)
  simp only [Act.put, List.setIfInBounds_toArray, List.set_cons_zero, List.set_cons_succ]
  refine wpAnyH_take (i := 4) (v := ?vt4) (oi := ?ot4) ?ht4 (by kernel_rfl) (by kernel_rfl) (by kernel_rfl) (fun _ _ _ h => h) (Or.inl ⟨?wt4, ?yt4⟩) hHeld ?rt4
  case ht4 => simp only [List.getElem?_toArray, List.getElem?_cons_zero, List.getElem?_cons_succ]; rfl
  case wt4 => rfl
  case yt4 => intro w hSw; (try dsimp only at hSw); go_simp; (try with_reducible rfl)
  simp only [Act.put, List.setIfInBounds_toArray, List.set_cons_zero, List.set_cons_succ]
  refine wpAnyH_take (i := 5) (v := ?vt5) (oi := ?ot5) ?ht5 (by kernel_rfl) (by kernel_rfl) (by kernel_rfl) (fun _ _ _ h => h) (Or.inl ⟨?wt5, ?yt5⟩) hHeld ?rt5
  case ht5 => simp only [List.getElem?_toArray, List.getElem?_cons_zero, List.getElem?_cons_succ]; rfl
  case wt5 => rfl
  case yt5 => intro w hSw; (try dsimp only at hSw); go_simp; (try with_reducible rfl)
  simp only [Act.put, List.setIfInBounds_toArray, List.set_cons_zero, List.set_cons_succ]
  refine wpAnyH_take (i := 6) (v := ?vt6) (oi := ?ot6) ?ht6 (by kernel_rfl) (by kernel_rfl) (by kernel_rfl) (fun _ _ _ h => h) (Or.inl ⟨?wt6, ?yt6⟩) hHeld ?rt6
  case ht6 => simp only [List.getElem?_toArray, List.getElem?_cons_zero, List.getElem?_cons_succ]; rfl
  case wt6 => rfl
  case yt6 => intro w hSw; (try dsimp only at hSw); go_simp; (try with_reducible rfl)
  simp only [Act.put, List.setIfInBounds_toArray, List.set_cons_zero, List.set_cons_succ]
  refine wpAnyH_take (i := 7) (v := ?vt7) (oi := ?ot7) ?ht7 (by kernel_rfl) (by kernel_rfl) (by kernel_rfl) (fun _ _ _ h => h) (Or.inl ⟨?wt7, ?yt7⟩) hHeld ?rt7
  case ht7 => simp only [List.getElem?_toArray, List.getElem?_cons_zero, List.getElem?_cons_succ]; rfl
  case wt7 => rfl
  case yt7 => intro w hSw; (try dsimp only at hSw); go_simp; (try with_reducible rfl)
  simp only [Act.put, List.setIfInBounds_toArray, List.set_cons_zero, List.set_cons_succ]
  refine wpAnyH_take (i := 8) (v := ?vt8) (oi := ?ot8) ?ht8 (by kernel_rfl) (by kernel_rfl) (by kernel_rfl) (fun _ _ _ h => h) (Or.inl ⟨?wt8, ?yt8⟩) hHeld ?rt8
  case ht8 => simp only [List.getElem?_toArray, List.getElem?_cons_zero, List.getElem?_cons_succ]; rfl
  case wt8 => rfl
  case yt8 => intro w hSw; (try dsimp only at hSw); go_simp; (try with_reducible rfl)
  simp only [Act.put, List.setIfInBounds_toArray, List.set_cons_zero, List.set_cons_succ]
  refine wpAnyH_take (i := 9) (v := ?vt9) (oi := ?ot9) ?ht9 (by kernel_rfl) (by kernel_rfl) (by kernel_rfl) (fun _ _ _ h => h) (Or.inl ⟨?wt9, ?yt9⟩) hHeld ?rt9
  case ht9 => simp only [List.getElem?_toArray, List.getElem?_cons_zero, List.getElem?_cons_succ]; rfl
  case wt9 => rfl
  case yt9 => intro w hSw; (try dsimp only at hSw); go_simp; (try with_reducible rfl)
  simp only [Act.put, List.setIfInBounds_toArray, List.set_cons_zero, List.set_cons_succ]
  refine wpAnyH_take (i := 10) (v := ?vt10) (oi := ?ot10) ?ht10 (by kernel_rfl) (by kernel_rfl) (by kernel_rfl) (fun _ _ _ h => h) (Or.inl ⟨?wt10, ?yt10⟩) hHeld ?rt10
  case ht10 => simp only [List.getElem?_toArray, List.getElem?_cons_zero, List.getElem?_cons_succ]; rfl
  case wt10 => rfl
  case yt10 => intro w hSw; (try dsimp only at hSw); go_simp; (try with_reducible rfl)
  simp only [Act.put, List.setIfInBounds_toArray, List.set_cons_zero, List.set_cons_succ]
  refine wpAnyH_take (i := 11) (v := ?vt11) (oi := ?ot11) ?ht11 (by kernel_rfl) (by kernel_rfl) (by kernel_rfl) (fun _ _ _ h => h) (Or.inl ⟨?wt11, ?yt11⟩) hHeld ?rt11
  case ht11 => simp only [List.getElem?_toArray, List.getElem?_cons_zero, List.getElem?_cons_succ]; rfl
  case wt11 => rfl
  case yt11 => intro w hSw; (try dsimp only at hSw); go_simp; (try with_reducible rfl)
  simp only [Act.put, List.setIfInBounds_toArray, List.set_cons_zero, List.set_cons_succ]
  refine wpAnyH_take (i := 12) (v := ?vt12) (oi := ?ot12) ?ht12 (by kernel_rfl) (by kernel_rfl) (by kernel_rfl) (fun _ _ _ h => h) (Or.inl ⟨?wt12, ?yt12⟩) hHeld ?rt12
  case ht12 => simp only [List.getElem?_toArray, List.getElem?_cons_zero, List.getElem?_cons_succ]; rfl
  case wt12 => rfl
  case yt12 => intro w hSw; (try dsimp only at hSw); go_simp; (try with_reducible rfl)
  simp only [Act.put, List.setIfInBounds_toArray, List.set_cons_zero, List.set_cons_succ]
  refine wpAnyH_take (i := 13) (v := ?vt13) (oi := ?ot13) ?ht13 (by kernel_rfl) (by kernel_rfl) (by kernel_rfl) (fun _ _ _ h => h) (Or.inl ⟨?wt13, ?yt13⟩) hHeld ?rt13
  case ht13 => simp only [List.getElem?_toArray, List.getElem?_cons_zero, List.getElem?_cons_succ]; rfl
  case wt13 => rfl
  case yt13 => intro w hSw; (try dsimp only at hSw); go_simp; (try with_reducible rfl)
  simp only [Act.put, List.setIfInBounds_toArray, List.set_cons_zero, List.set_cons_succ]
  refine wpAnyH_take (i := 14) (v := ?vt14) (oi := ?ot14) ?ht14 (by kernel_rfl) (by kernel_rfl) (by kernel_rfl) (fun _ _ _ h => h) (Or.inl ⟨?wt14, ?yt14⟩) hHeld ?rt14
  case ht14 => simp only [List.getElem?_toArray, List.getElem?_cons_zero, List.getElem?_cons_succ]; rfl
  case wt14 => rfl
  case yt14 => intro w hSw; (try dsimp only at hSw); go_simp; (try with_reducible rfl)
  simp only [Act.put, List.setIfInBounds_toArray, List.set_cons_zero, List.set_cons_succ]
  refine wpAnyH_take (i := 15) (v := ?vt15) (oi := ?ot15) ?ht15 (by kernel_rfl) (by kernel_rfl) (by kernel_rfl) (fun _ _ _ h => h) (Or.inl ⟨?wt15, ?yt15⟩) hHeld ?rt15
  case ht15 => simp only [List.getElem?_toArray, List.getElem?_cons_zero, List.getElem?_cons_succ]; rfl
  case wt15 => rfl
  case yt15 => intro w hSw; (try dsimp only at hSw); go_simp; (try with_reducible rfl)
  simp only [Act.put, List.setIfInBounds_toArray, List.set_cons_zero, List.set_cons_succ]
  refine wpAnyH_take (i := 16) (v := ?vt16) (oi := ?ot16) ?ht16 (by kernel_rfl) (by kernel_rfl) (by kernel_rfl) (fun _ _ _ h => h) (Or.inl ⟨?wt16, ?yt16⟩) hHeld ?rt16
  case ht16 => simp only [List.getElem?_toArray, List.getElem?_cons_zero, List.getElem?_cons_succ]; rfl
  case wt16 => rfl
  case yt16 => intro w hSw; (try dsimp only at hSw); go_simp; (try with_reducible rfl)
  simp only [Act.put, List.setIfInBounds_toArray, List.set_cons_zero, List.set_cons_succ]
  refine wpAnyH_take (i := 17) (v := ?vt17) (oi := ?ot17) ?ht17 (by kernel_rfl) (by kernel_rfl) (by kernel_rfl) (fun _ _ _ h => h) (Or.inl ⟨?wt17, ?yt17⟩) hHeld ?rt17
  case ht17 => simp only [List.getElem?_toArray, List.getElem?_cons_zero, List.getElem?_cons_succ]; rfl
  case wt17 => rfl
  case yt17 => intro w hSw; (try dsimp only at hSw); go_simp; (try with_reducible rfl)
  simp only [Act.put, List.setIfInBounds_toArray, List.set_cons_zero, List.set_cons_succ]
  refine wpAnyH_take (i := 19) (v := ?vt19) (oi := ?ot19) ?ht19 (by kernel_rfl) (by kernel_rfl) (by kernel_rfl) (fun _ _ _ h => h) (Or.inl ⟨?wt19, ?yt19⟩) hHeld ?rt19
  case ht19 => simp only [List.getElem?_toArray, List.getElem?_cons_zero, List.getElem?_cons_succ]; rfl
  case wt19 => rfl
  case yt19 => intro w hSw; (try dsimp only at hSw); go_simp; (try with_reducible rfl)
  simp only [Act.put, List.setIfInBounds_toArray, List.set_cons_zero, List.set_cons_succ]
  refine wpAnyH_take (i := 20) (v := ?vt20) (oi := ?ot20) ?ht20 (by kernel_rfl) (by kernel_rfl) (by kernel_rfl) (fun _ _ _ h => h) (Or.inl ⟨?wt20, ?yt20⟩) hHeld ?rt20
  case ht20 => simp only [List.getElem?_toArray, List.getElem?_cons_zero, List.getElem?_cons_succ]; rfl
  case wt20 => rfl
  case yt20 => intro w hSw; (try dsimp only at hSw); go_simp; (try with_reducible rfl)
  simp only [Act.put, List.setIfInBounds_toArray, List.set_cons_zero, List.set_cons_succ]
  refine wpAnyH_take (i := 21) (v := ?vt21) (oi := ?ot21) ?ht21 (by kernel_rfl) (by kernel_rfl) (by kernel_rfl) (fun _ _ _ h => h) (Or.inl ⟨?wt21, ?yt21⟩) hHeld ?rt21
  case ht21 => simp only [List.getElem?_toArray, List.getElem?_cons_zero, List.getElem?_cons_succ]; rfl
  case wt21 => rfl
  case yt21 => intro w hSw; (try dsimp only at hSw); go_simp; (try with_reducible rfl)
  simp only [Act.put, List.setIfInBounds_toArray, List.set_cons_zero, List.set_cons_succ]
  refine wpAnyH_take (i := 22) (v := ?vt22) (oi := ?ot22) ?ht22 (by kernel_rfl) (by kernel_rfl) (by kernel_rfl) (fun _ _ _ h => h) (Or.inl ⟨?wt22, ?yt22⟩) hHeld ?rt22
  case ht22 => simp only [List.getElem?_toArray, List.getElem?_cons_zero, List.getElem?_cons_succ]; rfl
  case wt22 => rfl
  case yt22 => intro w hSw; (try dsimp only at hSw); go_simp; (try with_reducible rfl)
  simp only [Act.put, List.setIfInBounds_toArray, List.set_cons_zero, List.set_cons_succ]
  refine wpAnyH_take (i := 23) (v := ?vt23) (oi := ?ot23) ?ht23 (by kernel_rfl) (by kernel_rfl) (by kernel_rfl) (fun _ _ _ h => h) (Or.inl ⟨?wt23, ?yt23⟩) hHeld ?rt23
  case ht23 => simp only [List.getElem?_toArray, List.getElem?_cons_zero, List.getElem?_cons_succ]; rfl
  case wt23 => rfl
  case yt23 => intro w hSw; (try dsimp only at hSw); go_simp; (try with_reducible rfl)
  simp only [Act.put, List.setIfInBounds_toArray, List.set_cons_zero, List.set_cons_succ]
  refine wpAnyH_take (i := 24) (v := ?vt24) (oi := ?ot24) ?ht24 (by kernel_rfl) (by kernel_rfl) (by kernel_rfl) (fun _ _ _ h => h) (Or.inl ⟨?wt24, ?yt24⟩) hHeld ?rt24
  case ht24 => simp only [List.getElem?_toArray, List.getElem?_cons_zero, List.getElem?_cons_succ]; rfl
  case wt24 => rfl
  case yt24 => intro w hSw; (try dsimp only at hSw); go_simp; (try with_reducible rfl)
  simp only [Act.put, List.setIfInBounds_toArray, List.set_cons_zero, List.set_cons_succ]
  refine wpAnyH_take (i := 25) (v := ?vt25) (oi := ?ot25) ?ht25 (by kernel_rfl) (by kernel_rfl) (by kernel_rfl) (fun _ _ _ h => h) (Or.inl ⟨?wt25, ?yt25⟩) hHeld ?rt25
  case ht25 => simp only [List.getElem?_toArray, List.getElem?_cons_zero, List.getElem?_cons_succ]; rfl
  case wt25 => rfl
  case yt25 => intro w hSw; (try dsimp only at hSw); go_simp; (try with_reducible rfl)
  simp only [Act.put, List.setIfInBounds_toArray, List.set_cons_zero, List.set_cons_succ]
  refine wpAnyH_take (i := 26) (v := ?vt26) (oi := ?ot26) ?ht26 (by kernel_rfl) (by kernel_rfl) (by kernel_rfl) (fun _ _ _ h => h) (Or.inl ⟨?wt26, ?yt26⟩) hHeld ?rt26
  case ht26 => simp only [List.getElem?_toArray, List.getElem?_cons_zero, List.getElem?_cons_succ]; rfl
  case wt26 => rfl
  case yt26 => intro w hSw; (try dsimp only at hSw); go_simp; (try with_reducible rfl)
  simp only [Act.put, List.setIfInBounds_toArray, List.set_cons_zero, List.set_cons_succ]
  refine wpAnyH_take (i := 27) (v := ?vt27) (oi := ?ot27) ?ht27 (by kernel_rfl) (by kernel_rfl) (by kernel_rfl) (fun _ _ _ h => h) (Or.inl ⟨?wt27, ?yt27⟩) hHeld ?rt27
  case ht27 => simp only [List.getElem?_toArray, List.getElem?_cons_zero, List.getElem?_cons_succ]; rfl
  case wt27 => rfl
  case yt27 => intro w hSw; (try dsimp only at hSw); go_simp; (try with_reducible rfl)
  simp only [Act.put, List.setIfInBounds_toArray, List.set_cons_zero, List.set_cons_succ]
  refine wpAnyH_take (i := 28) (v := ?vt28) (oi := ?ot28) ?ht28 (by kernel_rfl) (by kernel_rfl) (by kernel_rfl) (fun _ _ _ h => h) (Or.inl ⟨?wt28, ?yt28⟩) hHeld ?rt28
  case ht28 => simp only [List.getElem?_toArray, List.getElem?_cons_zero, List.getElem?_cons_succ]; rfl
  case wt28 => rfl
  case yt28 => intro w hSw; (try dsimp only at hSw); go_simp; (try with_reducible rfl)
  simp only [Act.put, List.setIfInBounds_toArray, List.set_cons_zero, List.set_cons_succ]
  refine wpAnyH_take (i := 29) (v := ?vt29) (oi := ?ot29) ?ht29 (by kernel_rfl) (by kernel_rfl) (by kernel_rfl) (fun _ _ _ h => h) (Or.inl ⟨?wt29, ?yt29⟩) hHeld ?rt29
  case ht29 => simp only [List.getElem?_toArray, List.getElem?_cons_zero, List.getElem?_cons_succ]; rfl
  case wt29 => rfl
  case yt29 => intro w hSw; (try dsimp only at hSw); go_simp; (try with_reducible rfl)
  simp only [Act.put, List.setIfInBounds_toArray, List.set_cons_zero, List.set_cons_succ]
  refine wpAnyH_ready (rs := [18]) (by kernel_rfl) (by simp) ?_
  refine AllReadyH.cons (o := ?ot18) ?ht18 (fun K hK => ?st18) AllReadyH.nil
  case ht18 => simp only [List.getElem?_toArray, List.getElem?_cons_zero, List.getElem?_cons_succ]; rfl
  go_simp
  refine (HC.out wd HKD.out).mono ?_
  rintro e w5 ⟨A5, n5, c5, rfl, hp5, hk5⟩
  have HP5 := hide hp5
  have HK5 := hide (HKD.out.trans' hk5)
  have HB5 := hide (HB1.out.no hk5)
  have HB6 := hide (HB0.out.no hk5)
  have z5 := HB6.out.oq
  obtain ⟨y0, y1, y2, y3, y4, y5, y6, y7, y8, y9, y10⟩ : w5.cell? ⟨s + 1, 0, none⟩ = some (.int .i64 0) ∧ w5.cell? ⟨s + 1, 1, none⟩ = some (.int .u32 0) ∧ w5.cell? ⟨s + 1, 2, none⟩ = some (.string ⟨#[]⟩) ∧ w5.cell? ⟨s + 1, 3, none⟩ = some (.int .i64 0) ∧ w5.cell? ⟨s + 1, 4, none⟩ = some (.int .i64 0) ∧ w5.cell? ⟨s + 1, 5, none⟩ = some (.int .i64 0) ∧ w5.cell? ⟨s + 1, 6, none⟩ = some (.slice none 0 0) ∧ w5.cell? ⟨s + 1, 7, none⟩ = some (.int .i64 0) ∧ w5.cell? ⟨s + 1, 8, none⟩ = some (.int .i64 0) ∧ w5.cell? ⟨s + 1, 9, none⟩ = some (.int .i64 0) ∧ w5.cell? ⟨s + 1, 10, none⟩ = some (.int .u32 0) := ⟨HB5.out.cell (i := 0) rfl, HB5.out.cell (i := 1) rfl, HB5.out.cell (i := 2) rfl, HB5.out.cell (i := 3) rfl, HB5.out.cell (i := 4) rfl, HB5.out.cell (i := 5) rfl, HB5.out.cell (i := 6) rfl, HB5.out.cell (i := 7) rfl, HB5.out.cell (i := 8) rfl, HB5.out.cell (i := 9) rfl, HB5.out.cell (i := 10) rfl⟩
  have g0 := HB5.out.fz 0
  have g1 := HB5.out.fz 1
  have g2 := HB5.out.fz 2
  have g3 := HB5.out.fz 3
  have g4 := HB5.out.fz 4
  have g5 := HB5.out.fz 5
  have g6 := HB5.out.fz 6
  have g7 := HB5.out.fz 7
  have g8 := HB5.out.fz 8
  have g9 := HB5.out.fz 9
  have g10 := HB5.out.fz 10
  clear hp5 hk5
  go_wp2_with fail
  refine hK.out _ _ (z5) (fun hHeld => ?_)
  clear hK K
  try simp only [Act.put, List.setIfInBounds_toArray, List.set_cons_zero, List.set_cons_succ]
  refine wpAnyH_take (i := 30) (v := ?vt30) (oi := ?ot30) ?ht30 (by kernel_rfl) (by kernel_rfl) (by kernel_rfl) (fun _ _ _ h => h) (Or.inl ⟨?wt30, ?yt30⟩) hHeld ?rt30
  case ht30 => simp only [List.getElem?_toArray, List.getElem?_cons_zero, List.getElem?_cons_succ]; rfl
  case wt30 => rfl
  case yt30 => intro w hSw; (try dsimp only at hSw); go_simp; (try with_reducible rfl)
  simp only [Act.put, List.setIfInBounds_toArray, List.set_cons_zero, List.set_cons_succ]
  refine wpAnyH_ready (rs := [31]) (by kernel_rfl) (by simp) ?_
  refine AllReadyH.cons (o := ?ot31) ?ht31 (fun K hK => ?st31) AllReadyH.nil
  case ht31 => simp only [List.getElem?_toArray, List.getElem?_cons_zero, List.getElem?_cons_succ]; rfl
  go_simp
  refine hK.out _ _ ((HB6.out.keep (kp11 (S := fun q => q = s + 1) w5 (s + 1) (.int .i64 q.kd) (.int .u32 (q.o.num : Int)) (.string (strOf q.o.nm)) (.int .i64 q.o.ln) (.int .i64 q.o.ct) (.int .i64 q.o.pc) (.slice A5 n5 c5) (.int .i64 q.st) (.int .i64 q.so) (.int .i64 q.tn) (.int .u32 (q.tg : Int)) rfl) (by omega)).oq) (fun hHeld => ?_)
  clear hK K
  try simp only [Act.put, List.setIfInBounds_toArray, List.set_cons_zero, List.set_cons_succ]
  refine wpAnyH_done (by kernel_rfl) ?_ _
  refine NoPanic.normal ?_
  clear hHeld y0 y1 y2 y3 y4 y5 y6 y7 y8 y9 y10 g0 g1 g2 g3 g4 g5 g6 g7 g8 g9 g10
  have k9 := kp11 (S := fun q => q = s + 1) w5 (s + 1) (.int .i64 q.kd) (.int .u32 (q.o.num : Int)) (.string (strOf q.o.nm)) (.int .i64 q.o.ln) (.int .i64 q.o.ct) (.int .i64 q.o.pc) (.slice A5 n5 c5) (.int .i64 q.st) (.int .i64 q.so) (.int .i64 q.tn) (.int .u32 (q.tg : Int)) rfl
  have b9 := HB5.out.elev (.int .i64 q.kd) (.int .u32 (q.o.num : Int)) (.string (strOf q.o.nm)) (.int .i64 q.o.ln) (.int .i64 q.o.ct) (.int .i64 q.o.pc) (.slice A5 n5 c5) (.int .i64 q.st) (.int .i64 q.so) (.int .i64 q.tn) (.int .u32 (q.tg : Int))
  generalize (((((((((((w5.setCell ⟨(s + 1), 0, none⟩ (.int .i64 q.kd)).setCell ⟨(s + 1), 1, none⟩ (.int .u32 (q.o.num : Int))).setCell ⟨(s + 1), 2, none⟩ (.string (strOf q.o.nm))).setCell ⟨(s + 1), 3, none⟩ (.int .i64 q.o.ln)).setCell ⟨(s + 1), 4, none⟩ (.int .i64 q.o.ct)).setCell ⟨(s + 1), 5, none⟩ (.int .i64 q.o.pc)).setCell ⟨(s + 1), 6, none⟩ (.slice A5 n5 c5)).setCell ⟨(s + 1), 7, none⟩ (.int .i64 q.st)).setCell ⟨(s + 1), 8, none⟩ (.int .i64 q.so)).setCell ⟨(s + 1), 9, none⟩ (.int .i64 q.tn)).setCell ⟨(s + 1), 10, none⟩ (.int .u32 (q.tg : Int))) = W at k9 b9 ⊢
  have KW := hide (HK5.out.trans (k9.mono fun q hq => .inr (by have := HS.out; omega)))
  have hpl := (HP5.out.keep (S := fun k => k = s + 1) k9 fun k hk f e => by have h1 : wd.heap.size ≤ k := f; have h2 : k = s + 1 := e; have := HB1.out.lt; omega).mono (G := fun k => w.heap.size ≤ k) fun k hk f => Nat.le_trans HKD.out.size f
  have HPL := hide hpl
  obtain ⟨r0, r1, r2, r3, r4, r5, r6, r7, r8, r9, r10⟩ := Bx.oq b9
  clear k9 b9 hpl
  go_wp2_with fail
  refine bodyPost_ret (v := oqV q (.slice A5 n5 c5)) (by simp [results, Try.results12, go_sem, r0, r1, r2, r3, r4, r5, r6, r7, r8, r9, r10]) rfl ⟨A5, n5, c5, rfl, ?_, KW.out⟩
  exact HPL.out
end Go.Proofs.Ythicpblgonigcaa
