/- The document's ParseReply of layer 15, as a contract over memory (printed by tools/gen_wjc.py SEAT F). -/
import Derived.Test.YtkpongkojkhboaaWja
import Derived.Test.YtkpongkojkhboaaWig
import Derived.Deep.RegionHeld3
namespace Go.Proofs.Ytkpongkojkhboaa
open Go.RowKit
set_option linter.unusedVariables false
set_option linter.unusedSimpArgs false
set_option maxRecDepth 20000

/-- What the document's ParseReply returns. -/
def PgPost (w : World) (p : Rp) (ok : Bool) (e : Ending) (w1 : World) : Prop := ∃ A n c, e = .returned (.tuple #[rpV p (.slice A n c), .bool ok]) ∧ Bts w1 (.slice A n c) p.data ∧ Kp No w w1
theorem no_u8r (a b : Int) (A : Option Addr) (n k : Nat) (j : Nat) (z : Int) : (#[Value.int .u64 a, .int .i64 b, .slice A n k] : Array Value)[j]? ≠ some (.int .u8 z) := by
  match j with
  | 0 | 1 | 2 => simp
  | j + 3 => simp
theorem rparsep_none {w : World} {A : Option Addr} {n c : Nat} (h : n < 9) : Calls Try.prog 17 #[.slice A n c] w (PgPost w rp0 false) := by
  have hn : (n : Int) < 9 := by omega
  have X0 : Bx3 45 (w.alloc (.cells #[.int .u64 0, .int .i64 0, .slice none 0 0] 45)) w.heap.size (.int .u64 0) (.int .i64 0) (.slice none 0 0) := Bx3.new w _ _ _ _
  have K0 : Kp No w (w.alloc (.cells #[.int .u64 0, .int .i64 0, .slice none 0 0] 45)) := Kp.alloc No w _
  obtain ⟨y0, y1, y2⟩ := X0.cell
  have HXK := hide K0
  clear X0 K0
  go_enter Try.func17, Try.ntmps17
  go_wp2
  refine bodyPost_ret (v := .tuple #[rpV rp0 (.slice none 0 0), .bool false]) (by simp [results, Try.results17, go_sem, y0, y1, y2, rp0]) rfl ⟨_, _, _, rfl, Bts.nil _, HXK.out⟩
theorem rparsep_bad {w : World} {bs : List UInt8} {A : Option Addr} {n c : Nat} {b : UInt8} (hb : Bts w (.slice A n c) bs) (h : 9 < n) (h8 : bs[8]? = some b) (hb0 : b.toNat ≠ 0) : Calls Try.prog 17 #[.slice A n c] w (PgPost w rp0 false) := by
  obtain ⟨B, off, b', rfl, hb', hcell⟩ := hb.at_ (j := 8) (by omega)
  rw [h8] at hb'
  obtain rfl := Option.some.inj hb'
  have hn : ¬ (n : Int) < 9 := by omega
  have hn1 : (9 : Int) < (n : Int) := by omega
  have hn2 : ¬ (n : Int) ≤ 8 := by omega
  have hn3 : (8 : Int) < (n : Int) := by omega
  obtain ⟨x, hx⟩ : ∃ x, x = b.toNat := ⟨_, rfl⟩
  rw [← hx] at hb0 hcell
  have e1 : ((x : Int) == 0) = false := beq_eq_false_iff_ne.2 (by omega)
  have e2 : ((x : Int) != 0) = true := bne_iff_ne.2 (by omega)
  have e3 : ¬ ((x : Int) = 0) := by omega
  have hcell1 := (Kp.alloc No w (.cells #[.int .u64 0, .int .i64 0, .slice none 0 0] 45)).cell hcell (fun f => f)
  have X0 : Bx3 45 (w.alloc (.cells #[.int .u64 0, .int .i64 0, .slice none 0 0] 45)) w.heap.size (.int .u64 0) (.int .i64 0) (.slice none 0 0) := Bx3.new w _ _ _ _
  have K0 : Kp No w (w.alloc (.cells #[.int .u64 0, .int .i64 0, .slice none 0 0] 45)) := Kp.alloc No w _
  obtain ⟨y0, y1, y2⟩ := X0.cell
  have HXK := hide K0
  clear X0 K0 hb h8 hx hb'
  go_enter Try.func17, Try.ntmps17
  go_wp2
  refine bodyPost_ret (v := .tuple #[rpV rp0 (.slice none 0 0), .bool false]) (by simp [results, Try.results17, go_sem, y0, y1, y2, rp0]) rfl ⟨_, _, _, rfl, Bts.nil _, HXK.out⟩
set_option maxHeartbeats 4000000 in
theorem rparsep_good {w : World} {bs : List UInt8} {A : Option Addr} {n c : Nat} {b : UInt8} (hb : Bts w (.slice A n c) bs) (hnc : n ≤ c) (hl : n ≤ 1000) (h : 9 ≤ n) (h8 : bs[8]? = some b) (hz : b.toNat = 0 ∨ n = 9) : Calls Try.prog 17 #[.slice A n c] w (PgPost w ⟨ofB (bs.take 8), (b.toNat : Int), bs.drop 9⟩ true) := by
  have hlen := hb.len
  obtain ⟨s1, u1, r1⟩ := slice_u hb hnc 8 8 rfl (by omega)
  obtain ⟨A2, s2, u2, r2⟩ := slice_l hb hnc 9 (n - 9) (c - 9) 9 rfl (by omega) rfl rfl
  obtain ⟨B, off, b', rfl, hb', hcell0⟩ := hb.at_ (j := 8) (by omega)
  rw [h8] at hb'
  obtain rfl := Option.some.inj hb'
  have hn : ¬ (n : Int) < 9 := by omega
  have hn2 : ¬ (n : Int) ≤ 8 := by omega
  have hn3 : (8 : Int) < (n : Int) := by omega
  obtain ⟨x, hx⟩ : ∃ x, x = b.toNat := ⟨_, rfl⟩
  rw [← hx] at hz hcell0 ⊢
  have hx8 : x < 256 := by rw [hx]; exact b.toNat_lt
  obtain ⟨m, hm⟩ : ∃ m, m = n - 9 := ⟨_, rfl⟩
  obtain ⟨d, hd⟩ : ∃ d, d = c - 9 := ⟨_, rfl⟩
  rw [← hm, ← hd] at s2 u2
  obtain ⟨num, hnum⟩ : ∃ num, num = ofB (bs.take 8) := ⟨_, rfl⟩
  rw [← hnum]
  have HNM : Hid (ofB (bs.take 8) = num) := hnum.symm
  have hBlt := World.block_lt_of_cell? w _ hcell0
  have hBR : ¬ (B = w.heap.size) := by have : B < w.heap.size := hBlt; omega
  obtain ⟨w0, hw0⟩ : ∃ w0, w0 = w.alloc (.cells #[.int .u64 0, .int .i64 0, .slice none 0 0] 45) := ⟨_, rfl⟩
  have X0 : Bx3 45 w0 w.heap.size (.int .u64 0) (.int .i64 0) (.slice none 0 0) := by rw [hw0]; exact Bx3.new w _ _ _ _
  have K0 : Kp No w w0 := by rw [hw0]; exact Kp.alloc No w _
  have hcell := K0.cell hcell0 (fun f => f)
  have hcellA := (Kp.alloc No w (.cells #[.int .u64 0, .int .i64 0, .slice none 0 0] 45)).cell hcell0 (fun f => f)
  have HU := hide (u1.no K0)
  have kR := ((Kp.refl (fun k => k = w.heap.size) w0).drew).trans' (kp3 (S := fun k => k = w.heap.size) w0.drew w.heap.size (.int .u64 (num : Int)) (.int .i64 (x : Int)) (.slice A2 m d) rfl)
  have HKF := hide (K0.thenAt (Nat.le_refl _) kR)
  have HFB : Hid (Bts (((w0.drew.setCell ⟨w.heap.size, 0, none⟩ (.int .u64 (num : Int))).setCell ⟨w.heap.size, 1, none⟩ (.int .i64 (x : Int))).setCell ⟨w.heap.size, 2, none⟩ (.slice A2 m d)) (.slice A2 m d) (bs.drop 9)) := bts_stay X0 (no_u8r _ _ _ _ _) (u2.no K0) kR
  have HY0 := hide ((show Bx3 45 w0.drew w.heap.size (.int .u64 0) (.int .i64 0) (.slice none 0 0) from X0).all (.int .u64 (num : Int)) (.int .i64 (x : Int)) (.slice A2 m d)).cell
  obtain ⟨t0, t1, t2⟩ := X0.cell
  have g0 := X0.fz 0
  have g1 := X0.fz 1
  have g2 := X0.fz 2
  have q1 : IntKind.i64.wrap (x : Int) = x := IntWalk.i64_in _ (by omega)
  have hww : ∀ x0 x1 x2 : Value, True := fun _ _ _ => trivial
  have hguard : ((x : Int) != 0) = false ∨ (((x : Int) != 0) = true ∧ ¬ (9 : Int) < (n : Int)) := by
    by_cases h0 : x = 0
    · left; simp [h0]
    · right; exact ⟨bne_iff_ne.2 (by omega), by omega⟩
  clear hm hd hnum hBlt u1 u2 r1 r2 h8 hx hb' hz hww kR X0 K0 hb hcell0 hlen
  rcases hguard with hg | ⟨hg, hg9⟩
  · go_enter Try.func17, Try.ntmps17
    go_wp2_with fail
    rw [← hw0]
    clear hw0 hg hcellA
    refine wp_region_noPanic ?_
    refine wp_region_held_drew (S := fun w' => w'.cell? ⟨B, off + 8, none⟩ = some (.int .u8 (x : Int))) (by kernel_rfl) (hcell) (fun hHeld => ?_)
    refine wpAnyH_take (i := 0) (v := ?vax1) (oi := ?oax1) ?hax1 (by kernel_rfl) (by kernel_rfl) (by kernel_rfl) (fun _ _ _ h => h) (Or.inl ⟨?wax1, ?yax1⟩) hHeld ?rax1
    case hax1 => simp only [List.getElem?_toArray, List.getElem?_cons_zero, List.getElem?_cons_succ]; rfl
    case wax1 => rfl
    case yax1 => intro w hSw; (try dsimp only at hSw); go_simp; (try with_reducible rfl)
    simp only [Act.put, List.setIfInBounds_toArray, List.set_cons_zero, List.set_cons_succ]
    refine wpAnyH_take (i := 1) (v := ?vax2) (oi := ?oax2) ?hax2 (by kernel_rfl) (by kernel_rfl) (by kernel_rfl) (fun _ _ _ h => h) (Or.inl ⟨?wax2, ?yax2⟩) hHeld ?rax2
    case hax2 => simp only [List.getElem?_toArray, List.getElem?_cons_zero, List.getElem?_cons_succ]; rfl
    case wax2 => rfl
    case yax2 => intro w hSw; (try dsimp only at hSw); go_simp; (try with_reducible rfl)
    simp only [Act.put, List.setIfInBounds_toArray, List.set_cons_zero, List.set_cons_succ]
    refine wpAnyH_take (i := 3) (v := ?vax3) (oi := ?oax3) ?hax3 (by kernel_rfl) (by kernel_rfl) (by kernel_rfl) (fun _ _ _ h => h) (Or.inl ⟨?wax3, ?yax3⟩) hHeld ?rax3
    case hax3 => simp only [List.getElem?_toArray, List.getElem?_cons_zero, List.getElem?_cons_succ]; rfl
    case wax3 => rfl
    case yax3 => intro w hSw; (try dsimp only at hSw); go_simp; (try with_reducible rfl)
    simp only [Act.put, List.setIfInBounds_toArray, List.set_cons_zero, List.set_cons_succ]
    refine wpAnyH_take (i := 4) (v := ?vax4) (oi := ?oax4) ?hax4 (by kernel_rfl) (by kernel_rfl) (by kernel_rfl) (fun _ _ _ h => h) (Or.inl ⟨?wax4, ?yax4⟩) hHeld ?rax4
    case hax4 => simp only [List.getElem?_toArray, List.getElem?_cons_zero, List.getElem?_cons_succ]; rfl
    case wax4 => rfl
    case yax4 => intro w hSw; (try dsimp only at hSw); go_simp; (try with_reducible rfl)
    simp only [Act.put, List.setIfInBounds_toArray, List.set_cons_zero, List.set_cons_succ]
    refine wpAnyH_take (i := 5) (v := ?vax5) (oi := ?oax5) ?hax5 (by kernel_rfl) (by kernel_rfl) (by kernel_rfl) (fun _ _ _ h => h) (Or.inl ⟨?wax5, ?yax5⟩) hHeld ?rax5
    case hax5 => simp only [List.getElem?_toArray, List.getElem?_cons_zero, List.getElem?_cons_succ]; rfl
    case wax5 => rfl
    case yax5 => intro w hSw; (try dsimp only at hSw); go_simp; (try with_reducible rfl)
    simp only [Act.put, List.setIfInBounds_toArray, List.set_cons_zero, List.set_cons_succ]
    refine wpAnyH_take (i := 6) (v := ?vax6) (oi := ?oax6) ?hax6 (by kernel_rfl) (by kernel_rfl) (by kernel_rfl) (fun _ _ _ h => h) (Or.inl ⟨?wax6, ?yax6⟩) hHeld ?rax6
    case hax6 => simp only [List.getElem?_toArray, List.getElem?_cons_zero, List.getElem?_cons_succ]; rfl
    case wax6 => rfl
    case yax6 => intro w hSw; (try dsimp only at hSw); go_simp; (try with_reducible rfl)
    simp only [Act.put, List.setIfInBounds_toArray, List.set_cons_zero, List.set_cons_succ]
    refine wpAnyH_take (i := 7) (v := ?vax7) (oi := ?oax7) ?hax7 (by kernel_rfl) (by kernel_rfl) (by kernel_rfl) (fun _ _ _ h => h) (Or.inl ⟨?wax7, ?yax7⟩) hHeld ?rax7
    case hax7 => simp only [List.getElem?_toArray, List.getElem?_cons_zero, List.getElem?_cons_succ]; rfl
    case wax7 => rfl
    case yax7 => intro w hSw; (try dsimp only at hSw); go_simp; (try with_reducible rfl)
    simp only [Act.put, List.setIfInBounds_toArray, List.set_cons_zero, List.set_cons_succ]
    refine wpAnyH_take (i := 8) (v := ?vax8) (oi := ?oax8) ?hax8 (by kernel_rfl) (by kernel_rfl) (by kernel_rfl) (fun _ _ _ h => h) (Or.inl ⟨?wax8, ?yax8⟩) hHeld ?rax8
    case hax8 => simp only [List.getElem?_toArray, List.getElem?_cons_zero, List.getElem?_cons_succ]; rfl
    case wax8 => rfl
    case yax8 => intro w hSw; (try dsimp only at hSw); go_simp; (try with_reducible rfl)
    simp only [Act.put, List.setIfInBounds_toArray, List.set_cons_zero, List.set_cons_succ]
    refine wpAnyH_ready (rs := [2]) (by kernel_rfl) (by simp) ?_
    refine AllReadyH.cons (o := ?oax9) ?hax9 (fun K hK => ?sax9) AllReadyH.nil
    case hax9 => simp only [List.getElem?_toArray, List.getElem?_cons_zero, List.getElem?_cons_succ]; rfl
    go_simp
    refine (rof_any (HU.out.drew) (by rw [List.length_take]; omega)).mono ?_
    rintro e w' ⟨rfl, rfl⟩
    rw [HNM.out]
    go_wp2_with fail
    refine hK.out _ _ (hHeld) (fun hHeld => ?_)
    clear hK K
    try simp only [Act.put, List.setIfInBounds_toArray, List.set_cons_zero, List.set_cons_succ]
    refine wpAnyH_take (i := 9) (v := ?vax10) (oi := ?oax10) ?hax10 (by kernel_rfl) (by kernel_rfl) (by kernel_rfl) (fun _ _ _ h => h) (Or.inl ⟨?wax10, ?yax10⟩) hHeld ?rax10
    case hax10 => simp only [List.getElem?_toArray, List.getElem?_cons_zero, List.getElem?_cons_succ]; rfl
    case wax10 => rfl
    case yax10 => intro w hSw; (try dsimp only at hSw); go_simp; (try with_reducible rfl)
    simp only [Act.put, List.setIfInBounds_toArray, List.set_cons_zero, List.set_cons_succ]
    refine wpAnyH_ready (rs := [10]) (by kernel_rfl) (by simp) ?_
    refine AllReadyH.cons (o := ?oax11) ?hax11 (fun K hK => ?sax11) AllReadyH.nil
    case hax11 => simp only [List.getElem?_toArray, List.getElem?_cons_zero, List.getElem?_cons_succ]; rfl
    go_simp
    refine hK.out _ _ ((kp3 (S := fun k => k = w.heap.size) _ w.heap.size (.int .u64 (num : Int)) (.int .i64 (x : Int)) (.slice A2 m d) rfl).cell hHeld hBR) (fun hHeld => ?_)
    clear hK K
    try simp only [Act.put, List.setIfInBounds_toArray, List.set_cons_zero, List.set_cons_succ]
    refine wpAnyH_take (i := 11) (v := ?vax12) (oi := ?oax12) ?hax12 (by kernel_rfl) (by kernel_rfl) (by kernel_rfl) (fun _ _ _ h => h) (Or.inl ⟨?wax12, ?yax12⟩) hHeld ?rax12
    case hax12 => simp only [List.getElem?_toArray, List.getElem?_cons_zero, List.getElem?_cons_succ]; rfl
    case wax12 => rfl
    case yax12 => intro w hSw; (try dsimp only at hSw); go_simp; (try with_reducible rfl)
    simp only [Act.put, List.setIfInBounds_toArray, List.set_cons_zero, List.set_cons_succ]
    refine wpAnyH_done (by kernel_rfl) ?_ _
    refine NoPanic.normal ?_
    go_wp2_with fail
    have HE : Hid (((((w0.setCell ⟨w.heap.size, 0, none⟩ (.int .u64 (num : Int))).setCell ⟨w.heap.size, 1, none⟩ (.int .i64 (x : Int))).setCell ⟨w.heap.size, 2, none⟩ (.slice A2 m d)).drew).cell? ⟨w.heap.size, 0, none⟩ = some (.int .u64 (num : Int)) ∧ ((((w0.setCell ⟨w.heap.size, 0, none⟩ (.int .u64 (num : Int))).setCell ⟨w.heap.size, 1, none⟩ (.int .i64 (x : Int))).setCell ⟨w.heap.size, 2, none⟩ (.slice A2 m d)).drew).cell? ⟨w.heap.size, 1, none⟩ = some (.int .i64 (x : Int)) ∧ ((((w0.setCell ⟨w.heap.size, 0, none⟩ (.int .u64 (num : Int))).setCell ⟨w.heap.size, 1, none⟩ (.int .i64 (x : Int))).setCell ⟨w.heap.size, 2, none⟩ (.slice A2 m d)).drew).cell? ⟨w.heap.size, 2, none⟩ = some (.slice A2 m d)) := HY0.out
    have HF : Hid (Bts ((((w0.setCell ⟨w.heap.size, 0, none⟩ (.int .u64 (num : Int))).setCell ⟨w.heap.size, 1, none⟩ (.int .i64 (x : Int))).setCell ⟨w.heap.size, 2, none⟩ (.slice A2 m d)).drew) (.slice A2 m d) (bs.drop 9)) := HFB.out
    have HK : Hid (Kp No w ((((w0.setCell ⟨w.heap.size, 0, none⟩ (.int .u64 (num : Int))).setCell ⟨w.heap.size, 1, none⟩ (.int .i64 (x : Int))).setCell ⟨w.heap.size, 2, none⟩ (.slice A2 m d)).drew)) := HKF.out
    generalize ((((w0.setCell ⟨w.heap.size, 0, none⟩ (.int .u64 (num : Int))).setCell ⟨w.heap.size, 1, none⟩ (.int .i64 (x : Int))).setCell ⟨w.heap.size, 2, none⟩ (.slice A2 m d)).drew) = wf at HE HF HK ⊢
    obtain ⟨y0, y1, y2⟩ := HE.out
    refine bodyPost_ret (v := .tuple #[rpV ⟨num, (x : Int), bs.drop 9⟩ (.slice A2 m d), .bool true]) (by simp [results, Try.results17, go_sem, y0, y1, y2]) rfl ⟨A2, m, d, rfl, HF.out, HK.out⟩
  · have hg0 : ¬ (x : Int) = 0 := by simpa using hg
    go_enter Try.func17, Try.ntmps17
    go_wp2_with fail
    rw [← hw0]
    clear hw0 hg hg0 hg9 hcellA
    refine wp_region_noPanic ?_
    refine wp_region_held_drew (S := fun w' => w'.cell? ⟨B, off + 8, none⟩ = some (.int .u8 (x : Int))) (by kernel_rfl) (hcell) (fun hHeld => ?_)
    refine wpAnyH_take (i := 0) (v := ?vbx1) (oi := ?obx1) ?hbx1 (by kernel_rfl) (by kernel_rfl) (by kernel_rfl) (fun _ _ _ h => h) (Or.inl ⟨?wbx1, ?ybx1⟩) hHeld ?rbx1
    case hbx1 => simp only [List.getElem?_toArray, List.getElem?_cons_zero, List.getElem?_cons_succ]; rfl
    case wbx1 => rfl
    case ybx1 => intro w hSw; (try dsimp only at hSw); go_simp; (try with_reducible rfl)
    simp only [Act.put, List.setIfInBounds_toArray, List.set_cons_zero, List.set_cons_succ]
    refine wpAnyH_take (i := 1) (v := ?vbx2) (oi := ?obx2) ?hbx2 (by kernel_rfl) (by kernel_rfl) (by kernel_rfl) (fun _ _ _ h => h) (Or.inl ⟨?wbx2, ?ybx2⟩) hHeld ?rbx2
    case hbx2 => simp only [List.getElem?_toArray, List.getElem?_cons_zero, List.getElem?_cons_succ]; rfl
    case wbx2 => rfl
    case ybx2 => intro w hSw; (try dsimp only at hSw); go_simp; (try with_reducible rfl)
    simp only [Act.put, List.setIfInBounds_toArray, List.set_cons_zero, List.set_cons_succ]
    refine wpAnyH_take (i := 3) (v := ?vbx3) (oi := ?obx3) ?hbx3 (by kernel_rfl) (by kernel_rfl) (by kernel_rfl) (fun _ _ _ h => h) (Or.inl ⟨?wbx3, ?ybx3⟩) hHeld ?rbx3
    case hbx3 => simp only [List.getElem?_toArray, List.getElem?_cons_zero, List.getElem?_cons_succ]; rfl
    case wbx3 => rfl
    case ybx3 => intro w hSw; (try dsimp only at hSw); go_simp; (try with_reducible rfl)
    simp only [Act.put, List.setIfInBounds_toArray, List.set_cons_zero, List.set_cons_succ]
    refine wpAnyH_take (i := 4) (v := ?vbx4) (oi := ?obx4) ?hbx4 (by kernel_rfl) (by kernel_rfl) (by kernel_rfl) (fun _ _ _ h => h) (Or.inl ⟨?wbx4, ?ybx4⟩) hHeld ?rbx4
    case hbx4 => simp only [List.getElem?_toArray, List.getElem?_cons_zero, List.getElem?_cons_succ]; rfl
    case wbx4 => rfl
    case ybx4 => intro w hSw; (try dsimp only at hSw); go_simp; (try with_reducible rfl)
    simp only [Act.put, List.setIfInBounds_toArray, List.set_cons_zero, List.set_cons_succ]
    refine wpAnyH_take (i := 5) (v := ?vbx5) (oi := ?obx5) ?hbx5 (by kernel_rfl) (by kernel_rfl) (by kernel_rfl) (fun _ _ _ h => h) (Or.inl ⟨?wbx5, ?ybx5⟩) hHeld ?rbx5
    case hbx5 => simp only [List.getElem?_toArray, List.getElem?_cons_zero, List.getElem?_cons_succ]; rfl
    case wbx5 => rfl
    case ybx5 => intro w hSw; (try dsimp only at hSw); go_simp; (try with_reducible rfl)
    simp only [Act.put, List.setIfInBounds_toArray, List.set_cons_zero, List.set_cons_succ]
    refine wpAnyH_take (i := 6) (v := ?vbx6) (oi := ?obx6) ?hbx6 (by kernel_rfl) (by kernel_rfl) (by kernel_rfl) (fun _ _ _ h => h) (Or.inl ⟨?wbx6, ?ybx6⟩) hHeld ?rbx6
    case hbx6 => simp only [List.getElem?_toArray, List.getElem?_cons_zero, List.getElem?_cons_succ]; rfl
    case wbx6 => rfl
    case ybx6 => intro w hSw; (try dsimp only at hSw); go_simp; (try with_reducible rfl)
    simp only [Act.put, List.setIfInBounds_toArray, List.set_cons_zero, List.set_cons_succ]
    refine wpAnyH_take (i := 7) (v := ?vbx7) (oi := ?obx7) ?hbx7 (by kernel_rfl) (by kernel_rfl) (by kernel_rfl) (fun _ _ _ h => h) (Or.inl ⟨?wbx7, ?ybx7⟩) hHeld ?rbx7
    case hbx7 => simp only [List.getElem?_toArray, List.getElem?_cons_zero, List.getElem?_cons_succ]; rfl
    case wbx7 => rfl
    case ybx7 => intro w hSw; (try dsimp only at hSw); go_simp; (try with_reducible rfl)
    simp only [Act.put, List.setIfInBounds_toArray, List.set_cons_zero, List.set_cons_succ]
    refine wpAnyH_take (i := 8) (v := ?vbx8) (oi := ?obx8) ?hbx8 (by kernel_rfl) (by kernel_rfl) (by kernel_rfl) (fun _ _ _ h => h) (Or.inl ⟨?wbx8, ?ybx8⟩) hHeld ?rbx8
    case hbx8 => simp only [List.getElem?_toArray, List.getElem?_cons_zero, List.getElem?_cons_succ]; rfl
    case wbx8 => rfl
    case ybx8 => intro w hSw; (try dsimp only at hSw); go_simp; (try with_reducible rfl)
    simp only [Act.put, List.setIfInBounds_toArray, List.set_cons_zero, List.set_cons_succ]
    refine wpAnyH_ready (rs := [2]) (by kernel_rfl) (by simp) ?_
    refine AllReadyH.cons (o := ?obx9) ?hbx9 (fun K hK => ?sbx9) AllReadyH.nil
    case hbx9 => simp only [List.getElem?_toArray, List.getElem?_cons_zero, List.getElem?_cons_succ]; rfl
    go_simp
    refine (rof_any (HU.out.drew) (by rw [List.length_take]; omega)).mono ?_
    rintro e w' ⟨rfl, rfl⟩
    rw [HNM.out]
    go_wp2_with fail
    refine hK.out _ _ (hHeld) (fun hHeld => ?_)
    clear hK K
    try simp only [Act.put, List.setIfInBounds_toArray, List.set_cons_zero, List.set_cons_succ]
    refine wpAnyH_take (i := 9) (v := ?vbx10) (oi := ?obx10) ?hbx10 (by kernel_rfl) (by kernel_rfl) (by kernel_rfl) (fun _ _ _ h => h) (Or.inl ⟨?wbx10, ?ybx10⟩) hHeld ?rbx10
    case hbx10 => simp only [List.getElem?_toArray, List.getElem?_cons_zero, List.getElem?_cons_succ]; rfl
    case wbx10 => rfl
    case ybx10 => intro w hSw; (try dsimp only at hSw); go_simp; (try with_reducible rfl)
    simp only [Act.put, List.setIfInBounds_toArray, List.set_cons_zero, List.set_cons_succ]
    refine wpAnyH_ready (rs := [10]) (by kernel_rfl) (by simp) ?_
    refine AllReadyH.cons (o := ?obx11) ?hbx11 (fun K hK => ?sbx11) AllReadyH.nil
    case hbx11 => simp only [List.getElem?_toArray, List.getElem?_cons_zero, List.getElem?_cons_succ]; rfl
    go_simp
    refine hK.out _ _ ((kp3 (S := fun k => k = w.heap.size) _ w.heap.size (.int .u64 (num : Int)) (.int .i64 (x : Int)) (.slice A2 m d) rfl).cell hHeld hBR) (fun hHeld => ?_)
    clear hK K
    try simp only [Act.put, List.setIfInBounds_toArray, List.set_cons_zero, List.set_cons_succ]
    refine wpAnyH_take (i := 11) (v := ?vbx12) (oi := ?obx12) ?hbx12 (by kernel_rfl) (by kernel_rfl) (by kernel_rfl) (fun _ _ _ h => h) (Or.inl ⟨?wbx12, ?ybx12⟩) hHeld ?rbx12
    case hbx12 => simp only [List.getElem?_toArray, List.getElem?_cons_zero, List.getElem?_cons_succ]; rfl
    case wbx12 => rfl
    case ybx12 => intro w hSw; (try dsimp only at hSw); go_simp; (try with_reducible rfl)
    simp only [Act.put, List.setIfInBounds_toArray, List.set_cons_zero, List.set_cons_succ]
    refine wpAnyH_done (by kernel_rfl) ?_ _
    refine NoPanic.normal ?_
    go_wp2_with fail
    have HE : Hid (((((w0.setCell ⟨w.heap.size, 0, none⟩ (.int .u64 (num : Int))).setCell ⟨w.heap.size, 1, none⟩ (.int .i64 (x : Int))).setCell ⟨w.heap.size, 2, none⟩ (.slice A2 m d)).drew).cell? ⟨w.heap.size, 0, none⟩ = some (.int .u64 (num : Int)) ∧ ((((w0.setCell ⟨w.heap.size, 0, none⟩ (.int .u64 (num : Int))).setCell ⟨w.heap.size, 1, none⟩ (.int .i64 (x : Int))).setCell ⟨w.heap.size, 2, none⟩ (.slice A2 m d)).drew).cell? ⟨w.heap.size, 1, none⟩ = some (.int .i64 (x : Int)) ∧ ((((w0.setCell ⟨w.heap.size, 0, none⟩ (.int .u64 (num : Int))).setCell ⟨w.heap.size, 1, none⟩ (.int .i64 (x : Int))).setCell ⟨w.heap.size, 2, none⟩ (.slice A2 m d)).drew).cell? ⟨w.heap.size, 2, none⟩ = some (.slice A2 m d)) := HY0.out
    have HF : Hid (Bts ((((w0.setCell ⟨w.heap.size, 0, none⟩ (.int .u64 (num : Int))).setCell ⟨w.heap.size, 1, none⟩ (.int .i64 (x : Int))).setCell ⟨w.heap.size, 2, none⟩ (.slice A2 m d)).drew) (.slice A2 m d) (bs.drop 9)) := HFB.out
    have HK : Hid (Kp No w ((((w0.setCell ⟨w.heap.size, 0, none⟩ (.int .u64 (num : Int))).setCell ⟨w.heap.size, 1, none⟩ (.int .i64 (x : Int))).setCell ⟨w.heap.size, 2, none⟩ (.slice A2 m d)).drew)) := HKF.out
    generalize ((((w0.setCell ⟨w.heap.size, 0, none⟩ (.int .u64 (num : Int))).setCell ⟨w.heap.size, 1, none⟩ (.int .i64 (x : Int))).setCell ⟨w.heap.size, 2, none⟩ (.slice A2 m d)).drew) = wf at HE HF HK ⊢
    obtain ⟨y0, y1, y2⟩ := HE.out
    refine bodyPost_ret (v := .tuple #[rpV ⟨num, (x : Int), bs.drop 9⟩ (.slice A2 m d), .bool true]) (by simp [results, Try.results17, go_sem, y0, y1, y2]) rfl ⟨A2, m, d, rfl, HF.out, HK.out⟩
/-- The document's ParseReply. -/
theorem rparsep_any {w : World} {bs : List UInt8} {A : Option Addr} {n c : Nat} (hb : Bts w (.slice A n c) bs) (hnc : n ≤ c) (hl : bs.length ≤ 1000) (P : Rp) (Z : Bool) (hy : rpE bs = true → P = rpO bs ∧ Z = true) (hno : rpE bs = false → P = rp0 ∧ Z = false) :
    Calls Try.prog 17 #[.slice A n c] w (PgPost w P Z) := by
  have hlen := hb.len
  rcases Nat.lt_or_ge n 9 with h | h
  · obtain ⟨rfl, rfl⟩ := hno (by unfold rpE; rw [decide_eq_false (by omega)]; rfl)
    exact rparsep_none h
  · obtain ⟨b, h8⟩ : ∃ b, bs[8]? = some b := ⟨_, List.getElem?_eq_getElem (by omega)⟩
    have e8 : ofB ((bs.drop 8).take 1) = b.toNat := by
      have hh : (bs.drop 8).take 1 = [b] := by
        have hlt : 8 < bs.length := by omega
        rw [List.drop_eq_getElem_cons hlt, List.take_succ_cons, List.take_zero]
        rw [List.getElem?_eq_getElem hlt] at h8
        rw [Option.some.inj h8]
      rw [hh]
      simp [ofB]
    have hO : rpO bs = ⟨ofB (bs.take 8), (b.toNat : Int), bs.drop 9⟩ := by unfold rpO; rw [e8]
    have hE : rpE bs = decide (b.toNat = 0 ∨ n = 9) := by
      unfold rpE Rp.rgt RpB
      rw [hO]
      have := b.toNat_lt
      simp only [List.length_drop]
      by_cases h0 : b.toNat = 0 ∨ n = 9
      · rw [decide_eq_true h0, decide_eq_true (by omega), decide_eq_true (by omega)]
        rfl
      · rw [decide_eq_false h0, decide_eq_false (p := 0 ≤ _ ∧ _) (by omega), Bool.and_false]
    by_cases h0 : b.toNat = 0 ∨ n = 9
    · obtain ⟨rfl, rfl⟩ := hy (by rw [hE]; exact decide_eq_true h0)
      rw [hO]
      exact rparsep_good hb hnc (by omega) h h8 h0
    · obtain ⟨rfl, rfl⟩ := hno (by rw [hE]; exact decide_eq_false h0)
      exact rparsep_bad hb (by omega) h8 (by omega)
end Go.Proofs.Ytkpongkojkhboaa
