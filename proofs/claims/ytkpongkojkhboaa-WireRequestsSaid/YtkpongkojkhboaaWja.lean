/- Package wire's right and Bytes of a reply, and the document's bytes, as contracts over memory. -/
import Derived.Test.YtkpongkojkhboaaWid
namespace Go.Proofs.Ytkpongkojkhboaa
open Go.RowKit
set_option linter.unusedVariables false
set_option linter.unusedSimpArgs false
set_option maxRecDepth 20000

/-- A reply's value. -/
abbrev rpV (p : Rp) (u : Value) : Value := .agg #[.int .u64 (p.num : Int), .int .i64 p.e, u]
theorem rpright_any {w : World} (p : Rp) (A : Option Addr) (n c : Nat) : Calls Try.prog 34 #[rpV p (.slice A n c)] w (RtPostK w (RpB p.e n)) := by
  obtain ⟨num, e, data⟩ := p
  dsimp only
  by_cases hn : n = 0
  · subst hn
    by_cases h0 : e < 0
    · have hr : RpB e 0 = false := decide_eq_false (by omega)
      have HR := hide hr.symm
      have a1 : ¬ (0 : Int) ≤ e := by omega
      clear hr
      go_enter Try.func34, Try.ntmps34
      go_wp2
      go_ret
      rw [← HR.out]
      exact ⟨rfl, Kp.alloc No w _⟩
    by_cases h1 : 255 < e
    · have hr : RpB e 0 = false := decide_eq_false (by omega)
      have HR := hide hr.symm
      have a1 : (0 : Int) ≤ e := by omega
      have a2 : ¬ e ≤ (255 : Int) := by omega
      clear hr
      go_enter Try.func34, Try.ntmps34
      go_wp2
      go_ret
      rw [← HR.out]
      exact ⟨rfl, Kp.alloc No w _⟩
    · have hr : RpB e 0 = true := decide_eq_true (by omega)
      have HR := hide hr.symm
      have a1 : (0 : Int) ≤ e := by omega
      have a2 : e ≤ (255 : Int) := by omega
      clear hr
      go_enter Try.func34, Try.ntmps34
      go_wp2
      go_ret
      rw [← HR.out]
      exact ⟨rfl, Kp.alloc No w _⟩
  by_cases h0 : e = 0
  · subst h0
    have hr : RpB 0 n = true := decide_eq_true (by omega)
    have HR := hide hr.symm
    have a1 : (0 : Int) < (n : Int) := by omega
    have a3 : decide ((0 : Int) < (n : Int)) = true := decide_eq_true a1
    clear hr
    go_enter Try.func34, Try.ntmps34
    go_wp2
    go_ret
    rw [← HR.out]
    exact ⟨rfl, Kp.alloc No w _⟩
  · have hr : RpB e n = false := decide_eq_false (by omega)
    have HR := hide hr.symm
    have a1 : (0 : Int) < (n : Int) := by omega
    have a3 : decide ((0 : Int) < (n : Int)) = true := decide_eq_true a1
    have a4 : (e == 0) = false := beq_eq_false_iff_ne.2 h0
    have a5 : (e != 0) = true := bne_iff_ne.2 h0
    clear hr
    go_enter Try.func34, Try.ntmps34
    go_wp2
    go_ret
    rw [← HR.out]
    exact ⟨rfl, Kp.alloc No w _⟩
/-- Block b is three cells of the type t. -/
def Bx3 (t : TypeId) (w : World) (b : Nat) (x0 x1 x2 : Value) : Prop := w.heap[b]? = some (.cells #[x0, x1, x2] t (0, 0))
section
variable {t : TypeId} {w w1 : World} {b : Nat} {x0 x1 x2 u : Value}
theorem Bx3.lt (h : Bx3 t w b x0 x1 x2) : b < w.heap.size := (Array.getElem?_eq_some_iff.1 h).1
theorem Bx3.keep {S : Nat → Prop} (h : Bx3 t w b x0 x1 x2) (hk : Kp S w w1) (hb : ¬ S b) : Bx3 t w1 b x0 x1 x2 := (hk.block b h.lt hb).trans h
theorem Bx3.no (h : Bx3 t w b x0 x1 x2) (hk : Kp No w w1) : Bx3 t w1 b x0 x1 x2 := h.keep hk fun f => f
theorem Bx3.fz (h : Bx3 t w b x0 x1 x2) (j : Nat) : w.frozen? ⟨b, j, none⟩ = false := frozen_of_row w b j _ _ h
theorem Bx3.new (w : World) (t : TypeId) (x0 x1 x2 : Value) : Bx3 t (w.alloc (.cells #[x0, x1, x2] t)) w.heap.size x0 x1 x2 := heap_alloc_new w _
theorem Bx3.cell (h : Bx3 t w b x0 x1 x2) : w.cell? ⟨b, 0, none⟩ = some x0 ∧ w.cell? ⟨b, 1, none⟩ = some x1 ∧ w.cell? ⟨b, 2, none⟩ = some x2 := by
  refine ⟨?_, ?_, ?_⟩ <;> (rw [cell_of_row w b _ _ _ _ h]; rfl)
theorem Bx3.set0 (h : Bx3 t w b x0 x1 x2) (u : Value) : Bx3 t (w.setCell ⟨b, 0, none⟩ u) b u x1 x2 := heap_setCell_same w b 0 _ t u h
theorem Bx3.set1 (h : Bx3 t w b x0 x1 x2) (u : Value) : Bx3 t (w.setCell ⟨b, 1, none⟩ u) b x0 u x2 := heap_setCell_same w b 1 _ t u h
theorem Bx3.set2 (h : Bx3 t w b x0 x1 x2) (u : Value) : Bx3 t (w.setCell ⟨b, 2, none⟩ u) b x0 x1 u := heap_setCell_same w b 2 _ t u h
theorem Bx3.all (h : Bx3 t w b x0 x1 x2) (u0 u1 u2 : Value) : Bx3 t (((w.setCell ⟨b, 0, none⟩ u0).setCell ⟨b, 1, none⟩ u1).setCell ⟨b, 2, none⟩ u2) b u0 u1 u2 := ((h.set0 u0).set1 u1).set2 u2
theorem kp3 {S : Nat → Prop} (w : World) (b : Nat) (u0 u1 u2 : Value) (hb : S b) : Kp S w (((w.setCell ⟨b, 0, none⟩ u0).setCell ⟨b, 1, none⟩ u1).setCell ⟨b, 2, none⟩ u2) :=
  ((Kp.setCell (p := ⟨b, 0, none⟩) hb u0).trans' (Kp.setCell (p := ⟨b, 1, none⟩) hb u1)).trans' (Kp.setCell (p := ⟨b, 2, none⟩) hb u2)
end
theorem rows3 {w1 w2 : World} {b1 b2 : Nat} {v1 v2 v3 : Value} {x1 x2 x3 : List UInt8} (h1 : Own w1 b1 5 v1 x1) (h2 : Own w2 b2 5 v2 x2) (h3 : Bts w2 v3 x3) (k2 : Kp No w1 w2) : RowsAt (w2.alloc (.cells #[v1, v2, v3] 27)) w2.heap.size [v1, v2, v3] [x1, x2, x3] := by
  refine RowsAt.new w2 _ _ rfl ?_
  intro j v bs hj hb
  match j, hj, hb with
  | 0, hj, hb =>
    simp at hj hb
    subst hj hb
    exact (h1.no k2).bts
  | 1, hj, hb =>
    simp at hj hb
    subst hj hb
    exact h2.bts
  | 2, hj, hb =>
    simp at hj hb
    subst hj hb
    exact h3
  | j + 3, hj, _ => simp at hj
theorem kept3 {W w1 : World} {b : Nat} {x0 x1 x2 : Value} {S : Nat → Prop} (hk : Kp S W w1) (hb : ¬ S b) (h : W.cell? ⟨b, 0, none⟩ = some x0 ∧ W.cell? ⟨b, 1, none⟩ = some x1 ∧ W.cell? ⟨b, 2, none⟩ = some x2) :
    w1.cell? ⟨b, 0, none⟩ = some x0 ∧ w1.cell? ⟨b, 1, none⟩ = some x1 ∧ w1.cell? ⟨b, 2, none⟩ = some x2 := ⟨hk.cell h.1 hb, hk.cell h.2.1 hb, hk.cell h.2.2 hb⟩
set_option maxHeartbeats 4000000 in
theorem rpbytes_any {w : World} (p : Rp) {A : Option Addr} {n c : Nat} (hn : p.num < 18446744073709551616) (hr : p.rgt = true) (hb : Bts w (.slice A n c) p.data) (hl : n ≤ 1000) : Calls Try.prog 19 #[rpV p (.slice A n c)] w (OwnPost w p.bytes) := by
  have hk := p.rgt_e hr
  have HL := hide hb.len
  have HB := hide (fun w' (k : Kp No w w') => hb.no k)
  have HE : Hid ([numB p.num 8, numB p.e.toNat 1, p.data].flatten = p.bytes) := by show _ = _; simp [Rp.bytes]
  obtain ⟨num, e, data⟩ := p
  dsimp only at *
  obtain ⟨j, rfl⟩ : ∃ j : Nat, e = j := ⟨e.toNat, by omega⟩
  rw [Int.toNat_natCast] at HE
  have hj1 : j < 18446744073709551616 := by omega
  have q0 : IntKind.u64.wrap (j : Int) = j := IntWalk.u64_in _ (by omega)
  have HD : Hid (data.length ≤ 1000) := by show _ ≤ _; rw [← HL.out]; exact hl
  clear hr hb hk hl HL
  have HX := hide (Bx3.new w 45 (.int .u64 num) (.int .i64 j) (.slice A n c)).cell
  have K8 : IsK 8 8 := ⟨by omega, by omega⟩
  have K1 : IsK 1 1 := ⟨by omega, by omega⟩
  go_enter Try.func19, Try.ntmps19
  go_wp2_with fail
  go_region_held3 (fun w' => w'.cell? ⟨w.heap.size, 0, none⟩ = some (.int .u64 num) ∧ w'.cell? ⟨w.heap.size, 1, none⟩ = some (.int .i64 j) ∧ w'.cell? ⟨w.heap.size, 2, none⟩ = some (.slice A n c)) (first | assumption | exact kept3 ((Kp.refl No _).drew) (fun f => f) HX.out | go_keep)
    (first
      | (go_at_call 32; ((with_reducible refine (rnum_any num 8 8 hn K8).mono ?_); rintro e w1 ⟨A1, n1, c1, rfl, ho1, hk1⟩); have s1 := kept3 hk1 (fun f => f) (by assumption))
      | (go_at_call 32; ((with_reducible refine (rnum_any j 1 1 hj1 K1).mono ?_); rintro e w2 ⟨A2, n2, c2, rfl, ho2, hk2⟩); have s2 := kept3 hk2 (fun f => f) (by assumption))
      | (go_at_call 31; ((with_reducible refine (join_any (n := 3) (rows3 ho1 ho2 (HB.out _ ((Kp.alloc No w _).drew.trans' (hk1.trans' hk2))) hk2) rfl (by simp) (by simp [numB_length]; have := HD.out; omega)).mono ?_); rintro e w5 ⟨A5, n5, c5, rfl, ho5, hk5⟩); have s5 := kept3 (hk2.trans ((Kp.alloc _ _ _).trans (hk5.of_no _))) (fun f => f) (by assumption)))
  go_wp2
  go_ret
  have k5 : Kp No w w5 := (Kp.alloc No w _).drew.trans' (hk1.trans' (hk2.trans' ((Kp.alloc No w2 _).trans' hk5)))
  rw [HE.out] at ho5
  refine ⟨A5, n5, c5, rfl, ho5.rebase fun k hk => ?_, k5⟩
  have a1 := ho5.ge k hk
  have a2 := ((Kp.alloc No w _).drew.trans' (hk1.trans' hk2)).size
  simp at a1
  omega
set_option maxHeartbeats 4000000 in
theorem pbytes_any {w : World} (p : Rp) {A : Option Addr} {n c : Nat} (hn : p.num < 18446744073709551616) (hr : p.rgt = true) (hb : Bts w (.slice A n c) p.data) (hl : n ≤ 1000) : Calls Try.prog 18 #[rpV p (.slice A n c)] w (OwnPost w p.bytes) := by
  have hk := p.rgt_e hr
  have hln := hb.len
  have H : ∀ w', Calls Try.prog 34 #[rpV p (.slice A n c)] w' (RtPostK w' true) := fun w' => by
    have := rpright_any (w := w') p A n c
    rw [hln] at this ⊢
    rwa [show RpB p.e p.data.length = true from hr] at this
  have HR := hide H
  clear H
  have HB := hide (fun w' (k : Kp No w w') => hb.no k)
  have HE : Hid (numB p.num 8 ++ numB p.e.toNat 1 ++ p.data = p.bytes) := by show _ = _; simp [Rp.bytes]
  have HD : Hid (p.data.length ≤ 1000) := by show _ ≤ _; rw [← hln]; exact hl
  have hx := Bx3.new w 47 (.int .u64 (p.num : Int)) (.int .i64 p.e) (.slice A n c)
  have HX := hide hx
  clear hx hr hb hln
  obtain ⟨num, e, data⟩ := p
  dsimp only at *
  obtain ⟨j, rfl⟩ : ∃ j : Nat, e = j := ⟨e.toNat, by omega⟩
  rw [Int.toNat_natCast] at HE
  have hj1 : j < 18446744073709551616 := by omega
  have q0 : IntKind.u64.wrap (j : Int) = j := IntWalk.u64_in _ (by omega)
  clear hk hl
  have K8 : IsK 8 8 := ⟨by omega, by omega⟩
  have K1 : IsK 1 1 := ⟨by omega, by omega⟩
  go_enter Try.func18, Try.ntmps18
  go_wp2_with fail
  refine (HR.out _).mono ?_
  rintro e w1 ⟨rfl, hk1⟩
  have X1 := HX.out.no hk1
  have K0 : Kp No w w1 := (Kp.alloc No w _).trans' hk1
  have X2 := X1.no (Kp.alloc No w1 (.cells #[.slice none 0 0] 64))
  have HC := hide X2.cell
  have hne : ¬ (Fr w1.heap.size w.heap.size) := by have := X1.lt; unfold Fr; omega
  have HN := hide hne
  have kA : Kp No w1 (w1.alloc (.cells #[.slice none 0 0] 64)) := Kp.alloc No w1 _
  have a0 : WrAt (w1.alloc (.cells #[.slice none 0 0] 64)) (Fr w1.heap.size) w1.heap.size [] := (WrAt.new w1).mono fun k hk => by subst hk; exact Nat.le_refl _
  have HA := hide a0
  have HK := hide (And.intro K0 kA)
  clear X1 X2 hne a0 kA K0 hk1
  go_wp2_with fail
  go_region_held3 (fun w' => w'.cell? ⟨w.heap.size, 0, none⟩ = some (.int .u64 num) ∧ w'.cell? ⟨w.heap.size, 1, none⟩ = some (.int .i64 j) ∧ w'.cell? ⟨w.heap.size, 2, none⟩ = some (.slice A n c)) (first | assumption | exact kept3 ((Kp.refl No _).drew) (fun f => f) HC.out | go_keep)
    (first
      | (go_at_call 27; ((with_reducible refine (num_any (bs := []) (F := Fr w1.heap.size) (g := w1.heap.size) num 8 8 hn K8 (WrAt.drew HA.out) (by simp)).mono ?_); rintro e w2 hp2; obtain rfl := hp2.1); have k2 := HK.out.2.drew.thenFr hp2.2.2; have a2 := hp2.again (fun k hk' => Nat.le_trans HK.out.2.size hk'); have s2 := kept3 hp2.2.2 HN.out (by assumption))
      | (go_at_call 27; ((with_reducible refine (num_any (F := Fr w1.heap.size) (g := w1.heap.size) j 1 1 hj1 K1 a2 (by simp [numB_length])).mono ?_); rintro e w3 hp3; obtain rfl := hp3.1); have k3 := k2.thenFr hp3.2.2; have a3 := hp3.again (fun k hk' => Nat.le_trans k2.size hk'); have s3 := kept3 hp3.2.2 HN.out (by assumption))
      | (go_at_call 29; ((with_reducible refine (raw_any (F := Fr w1.heap.size) (g := w1.heap.size) a3 (HB.out _ (HK.out.1.trans' k3)) (by simp [numB_length]; have := HD.out; omega)).mono ?_); rintro e w6 hp6; obtain rfl := hp6.1); have k6 := k3.thenFr hp6.2.2; have a6 := hp6.again (fun k hk' => Nat.le_trans k3.size hk'); have s6 := kept3 hp6.2.2 HN.out (by assumption); rw [List.nil_append, HE.out] at a6)
      | (go_at_call 30; ((with_reducible refine (bytes_any (g := w1.heap.size) a6 (by rw [Rp.bytes_len]; have := HD.out; simp; omega)).mono ?_); rintro e w7 ⟨A7, n7, c7, rfl, ho7, hk7⟩); have s7 := kept3 hk7 (fun f => f) (by assumption)))
  have z7 := (HK.out.1.trans' k6).size
  go_wp2
  go_ret
  exact ⟨A7, n7, c7, rfl, ho7.rebase fun i hi => Nat.le_trans z7 (ho7.ge i hi), (HK.out.1.trans' k6).trans' hk7⟩
end Go.Proofs.Ytkpongkojkhboaa
