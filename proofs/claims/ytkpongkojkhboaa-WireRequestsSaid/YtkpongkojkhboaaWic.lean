/- Package wire's Request.Bytes and the document's, and the law's to, as contracts over memory. -/
import Derived.Test.YtkpongkojkhboaaWib
import Derived.Test.YtkpongkojkhboaaRf
import Derived.Test.YtkpongkojkhboaaSec
import Derived.Deep.RegionHeld3
namespace Go.Proofs.Ytkpongkojkhboaa
open Go.RowKit
set_option linter.unusedVariables false
set_option linter.unusedSimpArgs false
set_option maxRecDepth 20000

/-- Block b is eight cells of the type t that hold the request q with its data u. -/
def BxQ (t : TypeId) (w : World) (b : Nat) (q : Rq) (u : Value) : Prop :=
  w.heap[b]? = some (.cells #[.int .u64 (q.num : Int), .int .i64 q.kind, .int .u32 (cO q.s : Int), .int .u16 (cS q.s : Int), .int .u16 (cL q.s : Int), .int .u32 (cG q.s : Int), .int .u16 (q.lost : Int), u] t (0, 0))
section
variable {t : TypeId} {w w1 : World} {b : Nat} {q : Rq} {u : Value}
theorem BxQ.lt (h : BxQ t w b q u) : b < w.heap.size := (Array.getElem?_eq_some_iff.1 h).1
theorem BxQ.keep {S : Nat → Prop} (h : BxQ t w b q u) (hk : Kp S w w1) (hb : ¬ S b) : BxQ t w1 b q u := (hk.block b h.lt hb).trans h
theorem BxQ.no (h : BxQ t w b q u) (hk : Kp No w w1) : BxQ t w1 b q u := h.keep hk fun f => f
theorem BxQ.new (w : World) (t : TypeId) (q : Rq) (u : Value) : BxQ t (w.alloc (.cells #[.int .u64 (q.num : Int), .int .i64 q.kind, .int .u32 (cO q.s : Int), .int .u16 (cS q.s : Int), .int .u16 (cL q.s : Int), .int .u32 (cG q.s : Int), .int .u16 (q.lost : Int), u] t)) w.heap.size q u := heap_alloc_new w _
theorem BxQ.cells (h : BxQ t w b q u) : w.cell? ⟨b, 0, none⟩ = some (.int .u64 (q.num : Int)) ∧ w.cell? ⟨b, 1, none⟩ = some (.int .i64 q.kind) ∧ w.cell? ⟨b, 2, none⟩ = some (.int .u32 (cO q.s : Int)) ∧ w.cell? ⟨b, 3, none⟩ = some (.int .u16 (cS q.s : Int)) ∧
    w.cell? ⟨b, 4, none⟩ = some (.int .u16 (cL q.s : Int)) ∧ w.cell? ⟨b, 5, none⟩ = some (.int .u32 (cG q.s : Int)) ∧ w.cell? ⟨b, 6, none⟩ = some (.int .u16 (q.lost : Int)) ∧ w.cell? ⟨b, 7, none⟩ = some u := by
  refine ⟨?_, ?_, ?_, ?_, ?_, ?_, ?_, ?_⟩ <;> (rw [cell_of_row w b _ _ _ _ h]; rfl)
end
/-- The law's request as the program's. -/
theorem to15_any {w : World} (q : Rq) (A : Option Addr) (n c : Nat) : Calls Try.prog 9 #[rqV q (.slice A n c)] w fun e w1 => e = .returned (rqV q (.slice A n c)) ∧ Kp No w w1 := by
  have hB := (BxQ.new (w.alloc (.cells #[.int .u64 (q.num : Int), .int .i64 q.kind, .int .u32 (cO q.s : Int), .int .u16 (cS q.s : Int), .int .u16 (cL q.s : Int), .int .u32 (cG q.s : Int), .int .u16 (q.lost : Int), .slice A n c] 29)) 31 q (.slice A n c)).cells
  rw [World.size_alloc] at hB
  obtain ⟨num, k, s, l, data⟩ := q
  have HB := hide hB
  clear hB
  go_enter Try.func9, Try.ntmps9
  go_wp2
  obtain ⟨c0, c1, c2, c3, c4, c5, c6, c7⟩ := HB.out
  refine bodyPost_ret (v := rqV ⟨num, k, s, l, data⟩ (.slice A n c)) (by simp [results, Try.results9, go_sem, c0, c1, c2, c3, c4, c5, c6, c7]) rfl ⟨rfl, (Kp.alloc No w _).trans' (Kp.alloc No _ _)⟩
theorem bytes15_no {w : World} (q : Rq) (A : Option Addr) (n c : Nat) (hr : RgtB q.kind q.lost n = false) : Calls Try.prog 14 #[rqV q (.slice A n c)] w fun e w1 => e = .returned (.slice none 0 0) ∧ Kp No w w1 := by
  have H : ∀ w', Calls Try.prog 10 #[rqV q (.slice A n c)] w' (RtPostK w' false) := fun w' => hr ▸ right15_any q A n c
  have HR := hide H
  clear H hr
  obtain ⟨num, k, s, l, data⟩ := q
  go_enter Try.func14, Try.ntmps14
  go_wp2_with fail
  refine (HR.out _).mono ?_
  rintro e w1 ⟨rfl, hk1⟩
  go_wp2_with fail
  go_ret
  exact ⟨rfl, (Kp.alloc No w _).trans' hk1⟩
theorem rows5 {w1 w2 w3 w4 : World} {b1 b2 b3 b4 : Nat} {v1 v2 v3 v4 v5 : Value} {x1 x2 x3 x4 x5 : List UInt8} (h1 : Own w1 b1 5 v1 x1) (h2 : Own w2 b2 5 v2 x2) (h3 : Own w3 b3 5 v3 x3) (h4 : Own w4 b4 5 v4 x4) (h5 : Bts w4 v5 x5)
    (k2 : Kp No w1 w2) (k3 : Kp No w2 w3) (k4 : Kp No w3 w4) : RowsAt (w4.alloc (.cells #[v1, v2, v3, v4, v5] 27)) w4.heap.size [v1, v2, v3, v4, v5] [x1, x2, x3, x4, x5] := by
  refine RowsAt.new w4 _ _ rfl ?_
  intro j v bs hj hb
  match j, hj, hb with
  | 0, hj, hb =>
    simp at hj hb
    subst hj hb
    exact ((h1.no k2).no k3).no k4 |>.bts
  | 1, hj, hb =>
    simp at hj hb
    subst hj hb
    exact (h2.no k3).no k4 |>.bts
  | 2, hj, hb =>
    simp at hj hb
    subst hj hb
    exact (h3.no k4).bts
  | 3, hj, hb =>
    simp at hj hb
    subst hj hb
    exact h4.bts
  | 4, hj, hb =>
    simp at hj hb
    subst hj hb
    exact h5
  | j + 5, hj, _ => simp at hj
theorem kept8 {W w1 : World} {b : Nat} {x0 x1 x2 x3 x4 x5 x6 x7 : Value} {S : Nat → Prop} (hk : Kp S W w1) (hb : ¬ S b)
    (h : W.cell? ⟨b, 0, none⟩ = some x0 ∧ W.cell? ⟨b, 1, none⟩ = some x1 ∧ W.cell? ⟨b, 2, none⟩ = some x2 ∧ W.cell? ⟨b, 3, none⟩ = some x3 ∧ W.cell? ⟨b, 4, none⟩ = some x4 ∧ W.cell? ⟨b, 5, none⟩ = some x5 ∧ W.cell? ⟨b, 6, none⟩ = some x6 ∧ W.cell? ⟨b, 7, none⟩ = some x7) :
    w1.cell? ⟨b, 0, none⟩ = some x0 ∧ w1.cell? ⟨b, 1, none⟩ = some x1 ∧ w1.cell? ⟨b, 2, none⟩ = some x2 ∧ w1.cell? ⟨b, 3, none⟩ = some x3 ∧ w1.cell? ⟨b, 4, none⟩ = some x4 ∧ w1.cell? ⟨b, 5, none⟩ = some x5 ∧ w1.cell? ⟨b, 6, none⟩ = some x6 ∧ w1.cell? ⟨b, 7, none⟩ = some x7 :=
  ⟨hk.cell h.1 hb, hk.cell h.2.1 hb, hk.cell h.2.2.1 hb, hk.cell h.2.2.2.1 hb, hk.cell h.2.2.2.2.1 hb, hk.cell h.2.2.2.2.2.1 hb, hk.cell h.2.2.2.2.2.2.1 hb, hk.cell h.2.2.2.2.2.2.2 hb⟩
set_option maxHeartbeats 4000000 in
theorem rbytes15_any {w : World} (q : Rq) {A : Option Addr} {n c : Nat} (hf : q.Fit) (hr : q.rgt = true) (hb : Bts w (.slice A n c) q.data) (hl : n ≤ 1000) : Calls Try.prog 15 #[rqV q (.slice A n c)] w (OwnPost w q.bytes) := by
  have hk := q.rgt_kind hr
  obtain ⟨hn, hs, hlo⟩ := hf
  have z0 := cO_lt hs
  have z1 := cS_lt q.s
  have z2 := cL_lt q.s
  have z3 := cG_lt q.s
  have HL := hide hb.len
  have HB := hide (fun w' (k : Kp No w w') => hb.no k)
  have HE : Hid ([numB q.kind.toNat 1, numB q.num 8, shardB (cO q.s) (cS q.s) (cL q.s) (cG q.s), numB q.lost 2, q.data].flatten = q.bytes) := by show _ = _; simp [Rq.bytes, shB]
  obtain ⟨num, k, s, l, data⟩ := q
  dsimp only at *
  obtain ⟨j, rfl⟩ : ∃ j : Nat, k = j := ⟨k.toNat, by omega⟩
  rw [Int.toNat_natCast] at HE
  have hj1 : j < 18446744073709551616 := by omega
  have hj2 : l < 18446744073709551616 := by omega
  have q0 : IntKind.u64.wrap (j : Int) = j := IntWalk.u64_in _ (by omega)
  have q1 : IntKind.u64.wrap (l : Int) = l := IntWalk.u64_in _ (by omega)
  have HD : Hid (data.length ≤ 1000) := by show _ ≤ _; rw [← HL.out]; exact hl
  clear hr hb hk hlo hs hl HL
  have HX := hide (BxQ.new w 29 ⟨num, j, s, l, data⟩ (.slice A n c)).cells
  dsimp only at HX
  have K8 : IsK 8 8 := ⟨by omega, by omega⟩
  have K1 : IsK 1 1 := ⟨by omega, by omega⟩
  have K2 : IsK 2 2 := ⟨by omega, by omega⟩
  go_enter Try.func15, Try.ntmps15
  go_wp2_with fail
  go_region_held3 (fun w' => w'.cell? ⟨w.heap.size, 0, none⟩ = some (.int .u64 num) ∧ w'.cell? ⟨w.heap.size, 1, none⟩ = some (.int .i64 j) ∧ w'.cell? ⟨w.heap.size, 2, none⟩ = some (.int .u32 (cO s)) ∧ w'.cell? ⟨w.heap.size, 3, none⟩ = some (.int .u16 (cS s)) ∧ w'.cell? ⟨w.heap.size, 4, none⟩ = some (.int .u16 (cL s)) ∧ w'.cell? ⟨w.heap.size, 5, none⟩ = some (.int .u32 (cG s)) ∧ w'.cell? ⟨w.heap.size, 6, none⟩ = some (.int .u16 l) ∧ w'.cell? ⟨w.heap.size, 7, none⟩ = some (.slice A n c)) (first | assumption | exact kept8 ((Kp.refl No _).drew) (fun f => f) HX.out | go_keep)
    (first
      | (go_at_call 32; ((with_reducible refine (rnum_any j 1 1 hj1 K1).mono ?_); rintro e w1 ⟨A1, n1, c1, rfl, ho1, hk1⟩); have s1 := kept8 hk1 (fun f => f) (by assumption))
      | (go_at_call 32; ((with_reducible refine (rnum_any num 8 8 hn K8).mono ?_); rintro e w2 ⟨A2, n2, c2, rfl, ho2, hk2⟩); have s2 := kept8 hk2 (fun f => f) (by assumption))
      | (go_at_call 33; ((with_reducible refine (rshard_any (cO s) (cS s) (cL s) (cG s) z0 z1 z2 z3).mono ?_); rintro e w3 ⟨A3, n3, c3, rfl, ho3, hk3⟩); have s3 := kept8 hk3 (fun f => f) (by assumption))
      | (go_at_call 32; ((with_reducible refine (rnum_any l 2 2 hj2 K2).mono ?_); rintro e w4 ⟨A4, n4, c4, rfl, ho4, hk4⟩); have s4 := kept8 hk4 (fun f => f) (by assumption))
      | (go_at_call 31; ((with_reducible refine (join_any (n := 5) (rows5 ho1 ho2 ho3 ho4 (HB.out _ ((Kp.alloc No w _).drew.trans' (hk1.trans' (hk2.trans' (hk3.trans' hk4))))) hk2 hk3 hk4) rfl (by simp) (by simp [numB_length, shardB]; have := HD.out; omega)).mono ?_); rintro e w5 ⟨A5, n5, c5, rfl, ho5, hk5⟩); have s5 := kept8 (hk4.trans ((Kp.alloc _ _ _).trans (hk5.of_no _))) (fun f => f) (by assumption)))
  go_wp2
  go_ret
  have k5 : Kp No w w5 := (Kp.alloc No w _).drew.trans' (hk1.trans' (hk2.trans' (hk3.trans' (hk4.trans' ((Kp.alloc No w4 _).trans' hk5)))))
  rw [HE.out] at ho5
  refine ⟨A5, n5, c5, rfl, ho5.rebase fun k hk => ?_, k5⟩
  have a1 := ho5.ge k hk
  have a2 := ((Kp.alloc No w _).drew.trans' (hk1.trans' (hk2.trans' (hk3.trans' hk4)))).size
  simp at a1
  omega
end Go.Proofs.Ytkpongkojkhboaa
