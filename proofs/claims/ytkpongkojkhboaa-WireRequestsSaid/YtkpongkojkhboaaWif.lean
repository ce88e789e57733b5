/- Package wire's ParseRequest of fewer than 23 bytes, and of any, as a contract over memory (printed by tools/gen_wif.py). -/
import Derived.Test.YtkpongkojkhboaaWie
namespace Go.Proofs.Ytkpongkojkhboaa
open Go.RowKit
set_option linter.unusedVariables false
set_option linter.unusedSimpArgs false
set_option maxRecDepth 20000

set_option maxHeartbeats 4000000 in
theorem parse15_short {w : World} {bs : List UInt8} {u : Value} (hb : Bts w u bs) (hl : bs.length < 23) : Calls Try.prog 6 #[u] w (PqPost w rq0 21) := by
  obtain ⟨A, n, c, rfl⟩ := hb.form
  have HLN := hide hl
  have X0 : Bx8 31 (w.alloc (.cells #[.int .u64 0, .int .i64 0, .int .u32 0, .int .u16 0, .int .u16 0, .int .u32 0, .int .u16 0, .slice none 0 0] 31)) w.heap.size (.int .u64 0) (.int .i64 0) (.int .u32 0) (.int .u16 0) (.int .u16 0) (.int .u32 0) (.int .u16 0) (.slice none 0 0) := Bx8.new w _ _ _ _ _ _ _ _ _
  have K0 : Kp No w (w.alloc (.cells #[.int .u64 0, .int .i64 0, .int .u32 0, .int .u16 0, .int .u16 0, .int .u32 0, .int .u16 0, .slice none 0 0] 31)) := Kp.alloc No w _
  have HB := hide (hb.no K0)
  have HXK := hide (And.intro X0 K0)
  clear X0 K0 hb
  go_enter Try.func6, Try.ntmps6
  go_wp2_with fail
  refine (read_any HB.out (by have := HLN.out; omega)).mono ?_
  rintro e w1 ⟨g, rfl, hr, k1⟩
  have X1 := HXK.out.1.no k1
  have K1 := HXK.out.2.trans' k1
  have hg := hr.in_
  have sz0 : (w.alloc (.cells #[.int .u64 0, .int .i64 0, .int .u32 0, .int .u16 0, .int .u16 0, .int .u32 0, .int .u16 0, .slice none 0 0] 31)).heap.size = w.heap.size + 1 := World.size_alloc _ _
  rw [sz0] at hr hg
  have hFF : ∀ k, (w.heap.size + 1 ≤ k ∧ k < w1.heap.size) → k ≠ w1.heap.size := fun k hk => by omega
  have HF := hide hFF
  have X2 := X1.no (Kp.alloc No w1 (.cells #[.int .u64 0, .int .i64 0, .int .u32 0, .int .u16 0, .int .u16 0, .int .u32 0, .int .u16 0, .slice none 0 0] 31))
  have Q2 : Bx8 31 (w1.alloc (.cells #[.int .u64 0, .int .i64 0, .int .u32 0, .int .u16 0, .int .u16 0, .int .u32 0, .int .u16 0, .slice none 0 0] 31)) w1.heap.size (.int .u64 0) (.int .i64 0) (.int .u32 0) (.int .u16 0) (.int .u16 0) (.int .u32 0) (.int .u16 0) (.slice none 0 0) := Bx8.new w1 _ _ _ _ _ _ _ _ _
  have K2 := K1.trans' (Kp.alloc No w1 (.cells #[.int .u64 0, .int .i64 0, .int .u32 0, .int .u16 0, .int .u16 0, .int .u32 0, .int .u16 0, .slice none 0 0] 31))
  have hr2 := hr.no (Kp.alloc No w1 (.cells #[.int .u64 0, .int .i64 0, .int .u32 0, .int .u16 0, .int .u16 0, .int .u32 0, .int .u16 0, .slice none 0 0] 31))
  have hs2 : (w1.alloc (.cells #[.int .u64 0, .int .i64 0, .int .u32 0, .int .u16 0, .int .u16 0, .int .u32 0, .int .u16 0, .slice none 0 0] 31)).heap.size = w1.heap.size + 1 := World.size_alloc _ _
  have HQ := hide (And.intro X2 (And.intro Q2 (And.intro K2 (And.intro hr2 hs2))))
  clear X1 K1 hr X2 Q2 K2 hr2 hs2 hFF k1 sz0
  go_wp2_with fail
  have gQ : ¬ (w1.heap.size = g) := by omega
  have gR : ¬ (w.heap.size = g) := by omega
  have QR : ¬ (w.heap.size = w1.heap.size) := by omega
  have hgw : w.heap.size ≤ g := by omega
  have hQw : w.heap.size ≤ w1.heap.size := by omega
  have X2 := HQ.out.1
  have Q2 := HQ.out.2.1
  have K2 := HQ.out.2.2.1
  have hr2 := HQ.out.2.2.2.1.q
  have z2 : w1.heap.size < (w1.alloc (.cells #[.int .u64 0, .int .i64 0, .int .u32 0, .int .u16 0, .int .u16 0, .int .u32 0, .int .u16 0, .slice none 0 0] 31)).heap.size := by rw [HQ.out.2.2.2.2]; omega
  clear HQ
  generalize (w1.alloc (.cells #[.int .u64 0, .int .i64 0, .int .u32 0, .int .u16 0, .int .u16 0, .int .u32 0, .int .u16 0, .slice none 0 0] 31)) = w2 at *
  refine (numq_any (k := 1) hr2 (.inl rfl) (by omega) (by omega)).mono ?_
  rintro e w3 ⟨y1, bs1, tb1, rfl, hr, l1, t1, d1, hk⟩
  have X3 := X2.keep hk gR
  have Q3 := Q2.keep hk gQ
  have K3 := K2.thenAt hgw hk
  have z3 : w1.heap.size < w3.heap.size := Nat.lt_of_lt_of_le z2 hk.size
  obtain ⟨p0, p1, p2, p3, p4, p5, p6, p7⟩ := Q3.cell
  have f0 := Q3.fz 1
  have HT1 := hide (And.intro l1 (And.intro t1 d1))
  clear l1 t1 d1 X2 Q2 K2 z2 hk
  go_wp2_with fail
  generalize wrap64 (y1 : Int) = x1 at *
  have kC := Kp.setCell (S := fun k => k = w1.heap.size) (p := ⟨w1.heap.size, 1, none⟩) (w := w3) rfl (.int .i64 x1)
  have Q4 := Q3.set1 (.int .i64 x1)
  have X4 := X3.keep kC QR
  have K4 := K3.thenAt hQw kC
  have hr4 := hr.keep kC (fun k hk e => HF.out k hk e)
  have z4 : w1.heap.size < (w3.setCell ⟨w1.heap.size, 1, none⟩ (.int .i64 x1)).heap.size := by simpa [World.setCell] using z3
  generalize w3.setCell ⟨w1.heap.size, 1, none⟩ (.int .i64 x1) = w4 at *
  clear Q3 X3 K3 z3 kC hr p0 p1 p2 p3 p4 p5 p6 p7 f0
  refine (numq_any (k := 8) hr4 HT1.out.2.2 (by omega) (by omega)).mono ?_
  rintro e w5 ⟨y2, bs2, tb2, rfl, hr, l2, t2, d2, hk⟩
  have X5 := X4.keep hk gR
  have Q5 := Q4.keep hk gQ
  have K5 := K4.thenAt hgw hk
  have z5 : w1.heap.size < w5.heap.size := Nat.lt_of_lt_of_le z4 hk.size
  obtain ⟨p0, p1, p2, p3, p4, p5, p6, p7⟩ := Q5.cell
  have f0 := Q5.fz 0
  have HT2 := hide (And.intro l2 (And.intro t2 d2))
  clear l2 t2 d2 X4 Q4 K4 z4 hk
  go_wp2_with fail
  generalize (y2 : Int) = x0 at *
  have kC := Kp.setCell (S := fun k => k = w1.heap.size) (p := ⟨w1.heap.size, 0, none⟩) (w := w5) rfl (.int .u64 x0)
  have Q6 := Q5.set0 (.int .u64 x0)
  have X6 := X5.keep kC QR
  have K6 := K5.thenAt hQw kC
  have hr6 := hr.keep kC (fun k hk e => HF.out k hk e)
  have z6 : w1.heap.size < (w5.setCell ⟨w1.heap.size, 0, none⟩ (.int .u64 x0)).heap.size := by simpa [World.setCell] using z5
  generalize w5.setCell ⟨w1.heap.size, 0, none⟩ (.int .u64 x0) = w6 at *
  clear Q5 X5 K5 z5 kC hr p0 p1 p2 p3 p4 p5 p6 p7 f0
  refine (shr_any hr6 HT2.out.2.2 (fun k hk => by omega)).mono ?_
  rintro e w7 ⟨n0, n1, n2, n3, bs3, tb3, rfl, hr, l3, t3, d3, hk⟩
  have X7 := X6.keep hk gR
  have Q7 := Q6.keep hk gQ
  have K7 := K6.thenAt hgw hk
  have z7 : w1.heap.size < w7.heap.size := Nat.lt_of_lt_of_le z6 hk.size
  obtain ⟨p0, p1, p2, p3, p4, p5, p6, p7⟩ := Q7.cell
  have f2 := Q7.fz 2
  have f3 := Q7.fz 3
  have f4 := Q7.fz 4
  have f5 := Q7.fz 5
  have HT3 := hide (And.intro l3 (And.intro t3 d3))
  clear l3 t3 d3 X6 Q6 K6 hr6 hk z6
  go_wp2_with fail
  have kN := kpName (S := fun k => k = w1.heap.size) w7 w1.heap.size (.int .u32 n0) (.int .u16 n1) (.int .u16 n2) (.int .u32 n3) rfl
  have Q8 := Q7.name (.int .u32 n0) (.int .u16 n1) (.int .u16 n2) (.int .u32 n3)
  have X8 := X7.keep kN QR
  have K8 := K7.thenAt hQw kN
  have hr8 := hr.keep kN (fun k hk e => HF.out k hk e)
  have z8 := Nat.lt_of_lt_of_le z7 kN.size
  generalize (((w7.setCell ⟨w1.heap.size, 2, none⟩ (.int .u32 n0)).setCell ⟨w1.heap.size, 3, none⟩ (.int .u16 n1)).setCell ⟨w1.heap.size, 4, none⟩ (.int .u16 n2)).setCell ⟨w1.heap.size, 5, none⟩ (.int .u32 n3) = w8 at *
  clear Q7 X7 K7 hr kN z7 p0 p1 p2 p3 p4 p5 p6 p7 f2 f3 f4 f5
  refine (numq_any (k := 2) hr8 HT3.out.2.2 (by omega) (by omega)).mono ?_
  rintro e w9 ⟨y4, bs4, tb4, rfl, hr, l4, t4, d4, hk⟩
  have X9 := X8.keep hk gR
  have Q9 := Q8.keep hk gQ
  have K9 := K8.thenAt hgw hk
  have z9 : w1.heap.size < w9.heap.size := Nat.lt_of_lt_of_le z8 hk.size
  obtain ⟨p0, p1, p2, p3, p4, p5, p6, p7⟩ := Q9.cell
  have f0 := Q9.fz 6
  have HT4 := hide (And.intro l4 (And.intro t4 d4))
  clear l4 t4 d4 X8 Q8 K8 z8 hk
  go_wp2_with fail
  generalize IntKind.u16.wrap (y4 : Int) = x6 at *
  have kC := Kp.setCell (S := fun k => k = w1.heap.size) (p := ⟨w1.heap.size, 6, none⟩) (w := w9) rfl (.int .u16 x6)
  have Q10 := Q9.set6 (.int .u16 x6)
  have X10 := X9.keep kC QR
  have K10 := K9.thenAt hQw kC
  have hr10 := hr.keep kC (fun k hk e => HF.out k hk e)
  have z10 : w1.heap.size < (w9.setCell ⟨w1.heap.size, 6, none⟩ (.int .u16 x6)).heap.size := by simpa [World.setCell] using z9
  generalize w9.setCell ⟨w1.heap.size, 6, none⟩ (.int .u16 x6) = w10 at *
  clear Q9 X9 K9 z9 kC hr p0 p1 p2 p3 p4 p5 p6 p7 f0
  have ht : tb4 = true := by
    obtain ⟨l1, t1, _⟩ := HT1.out
    obtain ⟨l2, t2, _⟩ := HT2.out
    obtain ⟨l3, t3, _⟩ := HT3.out
    obtain ⟨l4, t4, _⟩ := HT4.out
    have hh := HLN.out
    rw [t4, t3, t2, t1]
    have : bs.length < 1 ∨ bs1.length < 8 ∨ bs2.length < 12 ∨ bs3.length < 2 := by omega
    rcases this with h | h | h | h
    · exact .inl (.inl (.inl (.inr h)))
    · exact .inl (.inl (.inr h))
    · exact .inl (.inr h)
    · exact .inr h
  subst ht
  have h4 : bs4 = [] := HT4.out.2.2.elim (fun h => by cases h) id
  subst h4
  refine (restq_any hr10).mono ?_
  rintro e w11 ⟨A6, n6, c6, rfl, hr, hk⟩
  have X11 := X10.keep hk gR
  have Q11 := Q10.keep hk gQ
  have K11 := K10.thenAt hgw hk
  obtain ⟨p0, p1, p2, p3, p4, p5, p6, p7⟩ := Q11.cell
  have f0 := Q11.fz 7
  clear X10 Q10 K10 hr10 hk z10 HT1 HT2 HT3 HT4
  go_wp2_with fail
  have kD := Kp.setCell (S := fun k => k = w1.heap.size) (p := ⟨w1.heap.size, 7, none⟩) (w := w11) rfl (.slice A6 n6 c6)
  have Q12 := Q11.set7 (.slice A6 n6 c6)
  have X12 := X11.keep kD QR
  have K12 := K11.thenAt hQw kD
  have hr12 := hr.keep kD (fun k hk e => HF.out k hk e)
  generalize w11.setCell ⟨w1.heap.size, 7, none⟩ (.slice A6 n6 c6) = w12 at *
  clear Q11 X11 K11 hr kD p0 p1 p2 p3 p4 p5 p6 p7 f0
  have T12 := hide hr12
  obtain ⟨t0, t1, t2, t3, t4, t5, t6, t7⟩ := X12.cell
  have g0 := X12.fz 0
  have g1 := X12.fz 1
  have g2 := X12.fz 2
  have g3 := X12.fz 3
  have g4 := X12.fz 4
  have g5 := X12.fz 5
  have g6 := X12.fz 6
  have g7 := X12.fz 7
  have H13 := hide (And.intro X12 K12)
  clear hr12 X12 K12 Q12
  go_wp2_with (go_at_call 24; refine (rdtorn_yes T12.out).mono ?_; rintro e w13 ⟨rfl, rfl⟩)
  have R13 := H13.out.1.all (.int .u64 0) (.int .i64 0) (.int .u32 0) (.int .u16 0) (.int .u16 0) (.int .u32 0) (.int .u16 0) (.slice none 0 0)
  obtain ⟨y0, y1, y2, y3, y4, y5, y6, y7⟩ := R13.cell
  have kR := kp8 (S := fun k => k = w.heap.size) w12 w.heap.size (.int .u64 0) (.int .i64 0) (.int .u32 0) (.int .u16 0) (.int .u16 0) (.int .u32 0) (.int .u16 0) (.slice none 0 0) rfl
  refine bodyPost_ret (v := .tuple #[rqV rq0 (.slice none 0 0), .int .i64 21]) (by simp [results, Try.results6, go_sem, y0, y1, y2, y3, y4, y5, y6, y7, rq0, cO, cS, cL, cG]) rfl ⟨_, _, _, rfl, Bts.nil _, H13.out.2.thenAt (Nat.le_refl _) kR⟩
/-- ParseRequest. -/
theorem parse15_any {w : World} {bs : List UInt8} {u : Value} (hb : Bts w u bs) (hl : bs.length ≤ 1000) (Q : Rq) (Z : Int) (hy : rqE bs = true → Q = rqO bs ∧ Z = 0) (hno : rqE bs = false → Q = rq0 ∧ Z = 21) :
    Calls Try.prog 6 #[u] w (PqPost w Q Z) := by
  rcases Nat.lt_or_ge bs.length 23 with h | h
  · obtain ⟨rfl, rfl⟩ := hno (by unfold rqE; rw [decide_eq_false (by omega)]; rfl)
    exact parse15_short hb h
  · have e : rqE bs = (rqO bs).rgt := by unfold rqE; rw [decide_eq_true h]; rfl
    rw [e] at hy hno
    exact parse15_long hb hl h Q Z hy hno
end Go.Proofs.Ytkpongkojkhboaa
