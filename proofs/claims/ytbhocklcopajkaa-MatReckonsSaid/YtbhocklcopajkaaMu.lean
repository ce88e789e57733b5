/- Package mat's At, Set, Row, Copy, Same and Dot, each as a contract over memory. -/
import Derived.Test.YtbhocklcopajkaaMt
import Derived.Deep.RegionHeld3
import Derived.Deep.QuietTactic
namespace Go.Proofs.Ytbhocklcopajkaa
open Go.RowKit
set_option linter.unusedVariables false

section
variable {w : World} {m : MB} {r c : Nat} {f : Nat → Nat → UInt8}

/-- No slice comes back. -/
def NoRow (w : World) (e : Ending) (w1 : World) : Prop := e = .returned (.slice none 0 0) ∧ Sm w w1
theorem row_out (h : MatAt w m r c f) (i : Int) (hi : i < 0 ∨ (r : Int) ≤ i) : Calls Try.prog 32 #[m.ptr, .int .i64 i] w (NoRow w) := by
  by_cases h1 : i < 0
  · clear hi
    go_enter Try.func32, Try.ntmps32
    go_wp2_with fail
    refine (size_any h).mono ?_
    rintro e w1 ⟨rfl, hs⟩
    go_wp2_with fail
    go_ret
    exact ⟨rfl, hs⟩
  · have h2 : (r : Int) ≤ i := by omega
    clear hi
    go_enter Try.func32, Try.ntmps32
    go_wp2_with fail
    refine (size_any h).mono ?_
    rintro e w1 ⟨rfl, hs⟩
    go_wp2_with fail
    go_ret
    exact ⟨rfl, hs⟩
theorem row_nil (w : World) (i : Int) : Calls Try.prog 32 #[.pointer none, .int .i64 i] w (NoRow w) := by
  by_cases h1 : i < 0
  · go_enter Try.func32, Try.ntmps32
    go_wp2_with fail
    refine (size_nil w).mono ?_
    rintro e w1 ⟨rfl, rfl⟩
    go_wp2_with fail
    go_ret
    exact ⟨rfl, Sm.refl _⟩
  · have h2 : 0 ≤ i := by omega
    go_enter Try.func32, Try.ntmps32
    go_wp2_with fail
    refine (size_nil w).mono ?_
    rintro e w1 ⟨rfl, rfl⟩
    go_wp2_with fail
    go_ret
    exact ⟨rfl, Sm.refl _⟩

theorem at_in (h : MatAt w m r c f) (i k : Nat) (hi : i < r) (hk : k < c) :
    Calls Try.prog 12 #[m.ptr, .int .i64 (i : Int), .int .i64 (k : Int)] w fun e w' => e = .returned (.int .u8 ((f i k).toNat : Int)) ∧ Sm w w' := by
  have hc2 := h.c2
  go_enter Try.func12, Try.ntmps12
  go_wp2_with fail
  refine (row_any h i hi).mono ?_
  rintro e w1 ⟨o, cp, rfl, ho, hcp, hs⟩
  have hx := (h.sm hs).cell (o := o + k) hi hk (by omega)
  have HO := hide ho
  clear ho
  go_wp2_with fail
  go_ret
  exact ⟨rfl, hs⟩
theorem at_out (h : MatAt w m r c f) (i k : Int) (hi : ¬ (0 ≤ i ∧ i < r ∧ 0 ≤ k ∧ k < c)) :
    Calls Try.prog 12 #[m.ptr, .int .i64 i, .int .i64 k] w fun e w' => e = .returned (.int .u8 0) ∧ Sm w w' := by
  by_cases h1 : 0 ≤ i ∧ i < r
  · obtain ⟨j, rfl⟩ : ∃ j : Nat, i = j := ⟨i.toNat, by omega⟩
    have h3 : k < 0 ∨ (c : Int) ≤ k := by omega
    have h2 : j < r := by omega
    clear hi h1
    rcases h3 with h3 | h3
    · go_enter Try.func12, Try.ntmps12
      go_wp2_with fail
      refine (row_any h j h2).mono ?_
      rintro e w1 ⟨o, cp, rfl, ho, hcp, hs⟩
      clear ho
      go_wp2_with fail
      go_ret
      exact ⟨rfl, hs⟩
    · have h4 : ¬ k < 0 := by omega
      go_enter Try.func12, Try.ntmps12
      go_wp2_with fail
      refine (row_any h j h2).mono ?_
      rintro e w1 ⟨o, cp, rfl, ho, hcp, hs⟩
      clear ho
      go_wp2_with fail
      go_ret
      exact ⟨rfl, hs⟩
  · have h2 : i < 0 ∨ (r : Int) ≤ i := by omega
    clear hi h1
    by_cases h3 : k < 0
    · go_enter Try.func12, Try.ntmps12
      go_wp2_with fail
      refine (row_out h i h2).mono ?_
      rintro e w1 ⟨rfl, hs⟩
      go_wp2_with fail
      go_ret
      exact ⟨rfl, hs⟩
    · have h4 : 0 ≤ k := by omega
      go_enter Try.func12, Try.ntmps12
      go_wp2_with fail
      refine (row_out h i h2).mono ?_
      rintro e w1 ⟨rfl, hs⟩
      go_wp2_with fail
      go_ret
      exact ⟨rfl, hs⟩
theorem at_nil (w : World) : Calls Try.prog 12 #[.pointer none, .int .i64 0, .int .i64 0] w fun e w' => e = .returned (.int .u8 0) ∧ Sm w w' := by
  go_enter Try.func12, Try.ntmps12
  go_wp2_with fail
  refine (row_nil w 0).mono ?_
  rintro e w1 ⟨rfl, hs⟩
  go_wp2_with fail
  go_ret
  exact ⟨rfl, hs⟩

/-- An element is set. -/
def SetPost (w : World) (m : MB) (r c : Nat) (f : Nat → Nat → UInt8) (e : Ending) (w1 : World) : Prop := e = .returned (.int .i64 0) ∧ MatAt w1 m r c f ∧ Kp (fun k => k = m.b) w w1
theorem set_in (h : MatAt w m r c f) (i k : Nat) (x : UInt8) (hi : i < r) (hk : k < c) :
    Calls Try.prog 15 #[m.ptr, .int .i64 (i : Int), .int .i64 (k : Int), .int .u8 (x.toNat : Int)] w (SetPost w m r c (setF f i k x)) := by
  have hc2 := h.c2
  go_enter Try.func15, Try.ntmps15
  go_wp2_with fail
  refine (row_any h i hi).mono ?_
  rintro e w1 ⟨o, cp, rfl, ho, hcp, hs⟩
  have hx := (h.sm hs).cell (o := o + k) hi hk (by omega)
  have hf := (h.sm hs).frozen (o + k)
  have HO := hide ho
  clear ho
  go_wp2_with fail
  go_ret
  exact ⟨rfl, (h.sm hs).set hi hk (by have := HO.out; omega) x _ rfl, hs.kp.trans' (kp_set (S := fun k => k = m.b) rfl _ _)⟩
theorem set_out (h : MatAt w m r c f) (i k x : Int) (hi : ¬ (0 ≤ i ∧ i < r ∧ 0 ≤ k ∧ k < c)) :
    Calls Try.prog 15 #[m.ptr, .int .i64 i, .int .i64 k, .int .u8 x] w fun e w' => e = .returned (.int .i64 1) ∧ Sm w w' := by
  by_cases h1 : 0 ≤ i ∧ i < r
  · obtain ⟨j, rfl⟩ : ∃ j : Nat, i = j := ⟨i.toNat, by omega⟩
    have h3 : k < 0 ∨ (c : Int) ≤ k := by omega
    have h2 : j < r := by omega
    clear hi h1
    rcases h3 with h3 | h3
    · go_enter Try.func15, Try.ntmps15
      go_wp2_with fail
      refine (row_any h j h2).mono ?_
      rintro e w1 ⟨o, cp, rfl, ho, hcp, hs⟩
      clear ho
      go_wp2_with fail
      go_ret
      exact ⟨rfl, hs⟩
    · have h4 : ¬ k < 0 := by omega
      go_enter Try.func15, Try.ntmps15
      go_wp2_with fail
      refine (row_any h j h2).mono ?_
      rintro e w1 ⟨o, cp, rfl, ho, hcp, hs⟩
      clear ho
      go_wp2_with fail
      go_ret
      exact ⟨rfl, hs⟩
  · have h2 : i < 0 ∨ (r : Int) ≤ i := by omega
    clear hi h1
    by_cases h3 : k < 0
    · go_enter Try.func15, Try.ntmps15
      go_wp2_with fail
      refine (row_out h i h2).mono ?_
      rintro e w1 ⟨rfl, hs⟩
      go_wp2_with fail
      go_ret
      exact ⟨rfl, hs⟩
    · have h4 : 0 ≤ k := by omega
      go_enter Try.func15, Try.ntmps15
      go_wp2_with fail
      refine (row_out h i h2).mono ?_
      rintro e w1 ⟨rfl, hs⟩
      go_wp2_with fail
      go_ret
      exact ⟨rfl, hs⟩
theorem set_nil (w : World) (x : Int) : Calls Try.prog 15 #[.pointer none, .int .i64 0, .int .i64 0, .int .u8 x] w fun e w' => e = .returned (.int .i64 1) ∧ Sm w w' := by
  go_enter Try.func15, Try.ntmps15
  go_wp2_with fail
  refine (row_nil w 0).mono ?_
  rintro e w1 ⟨rfl, hs⟩
  go_wp2_with fail
  go_ret
  exact ⟨rfl, hs⟩

theorem OwnPost.of_sm {w w1 w2 : World} {bs : List UInt8} {e : Ending} (hs : Sm w w1) (h : OwnPost w1 bs e w2) : OwnPost w bs e w2 := by
  obtain ⟨A, n, c, rfl, ho, hk⟩ := h
  exact ⟨A, n, c, rfl, by rw [← hs.size]; exact ho, hs.kp.trans' hk⟩
theorem rowc_in (h : MatAt w m r c f) (i : Nat) (hi : i < r) : Calls Try.prog 25 #[m.ptr, .int .i64 (i : Int)] w (OwnPost w (rowL c (f i))) := by
  have hc2 := h.c2
  go_enter Try.func25, Try.ntmps25
  go_wp2_with fail
  refine (row_any h i hi).mono ?_
  rintro e w1 ⟨o, cp, rfl, ho, hcp, hs⟩
  have hb := (h.sm hs).bts hi ho cp
  clear ho
  go_wp2_with fail
  refine (clone_any hb (by rw [rowL_len]; omega)).mono ?_
  rintro e w2 hp
  obtain ⟨A1, n1, c1, rfl, ho1, hk1⟩ := hp
  go_wp2_with fail
  go_ret
  exact OwnPost.of_sm hs ⟨A1, n1, c1, rfl, ho1, hk1⟩
theorem rowc_nil (w : World) : Calls Try.prog 25 #[.pointer none, .int .i64 0] w (OwnPost w []) := by
  go_enter Try.func25, Try.ntmps25
  go_wp2_with fail
  refine (row_nil w 0).mono ?_
  rintro e w1 ⟨rfl, hs⟩
  go_wp2_with fail
  refine (clone_any (Bts.nil w1) (by simp)).mono ?_
  rintro e w2 hp
  obtain ⟨A1, n1, c1, rfl, ho1, hk1⟩ := hp
  go_wp2_with fail
  go_ret
  exact OwnPost.of_sm hs ⟨A1, n1, c1, rfl, ho1, hk1⟩

/-- A new matrix comes back. -/
def PtrPost (w : World) (r c : Nat) (f : Nat → Nat → UInt8) (e : Ending) (w1 : World) : Prop :=
  ∃ m : MB, e = .returned m.ptr ∧ MatAt w1 m r c f ∧ w.heap.size ≤ m.g ∧ w.heap.size ≤ m.b ∧ Kp No w w1
theorem MatAt.of_own {w : World} {A : Option Addr} {n cp base g : Nat} {r c : Nat} {f : Nat → Nat → UInt8} (ho : Own w base 5 (.slice A n cp) (allL r c f)) (r1 : 1 ≤ r) (r2 : r ≤ 64) (c1 : 1 ≤ c) (c2 : c ≤ 64)
    (hg : w.heap[g]? = some (.cells #[.int .i64 (r : Int), .int .i64 (c : Int), .slice A n cp] 55 (0, 0))) : ∃ b, base ≤ b ∧ A = some ⟨b, 0, none⟩ ∧ MatAt w ⟨g, b, n, cp⟩ r c f := by
  have hn := ho.len
  rw [allL_len] at hn
  have hpos : 0 < r * c := Nat.mul_pos r1 c1
  rcases ho.2 with ⟨e, hz⟩ | ⟨b, cap, cur, e, hb, hh, hle, hmx, hsz, htk⟩
  · rw [allL_len] at hz
    omega
  · rw [allL_len] at e hle htk
    injection e with e1 e2 e3
    subst e1 e3
    refine ⟨b, hb, rfl, hg, ⟨cur, hh, by rw [hsz, Nat.mul_one], fun i k hi hk => ?_⟩, hn, r1, r2, c1, c2, (by show n ≤ cp; omega), hmx⟩
    have hj := idx_lt hi hk
    have h2 : (cur.toList.take (r * c * 1))[i * c + k]? = ((allL r c f).map bv)[i * c + k]? := by rw [htk]
    rw [List.getElem?_take, if_pos (by omega), Array.getElem?_toList, List.getElem?_map, allL_get f hj] at h2
    rw [h2]
    have e1 : (i * c + k) / c = i := by rw [Nat.mul_comm, Nat.mul_add_div (by omega), Nat.div_eq_of_lt hk, Nat.add_zero]
    have e2 : (i * c + k) % c = k := by rw [Nat.mul_comm, Nat.mul_add_mod, Nat.mod_eq_of_lt hk]
    rw [e1, e2]
    rfl

theorem kept3 {W w1 : World} {b : Nat} {x0 x1 x2 : Value} (hk : Kp No W w1)
    (h : W.cell? ⟨b, 0, none⟩ = some x0 ∧ W.cell? ⟨b, 1, none⟩ = some x1 ∧ W.cell? ⟨b, 2, none⟩ = some x2) :
    w1.cell? ⟨b, 0, none⟩ = some x0 ∧ w1.cell? ⟨b, 1, none⟩ = some x1 ∧ w1.cell? ⟨b, 2, none⟩ = some x2 :=
  ⟨hk.cell h.1 fun f => f, hk.cell h.2.1 fun f => f, hk.cell h.2.2 fun f => f⟩

set_option maxHeartbeats 1000000 in
theorem copy_any (h : MatAt w m r c f) : Calls Try.prog 14 #[m.ptr] w (PtrPost w r c f) := by
  have e0 := h.c_rows
  have e1 := h.c_cols
  have e2 := h.c_cells
  have hn := h.n_le
  have hb : Bts w.drew (.slice (some ⟨m.b, 0, none⟩) m.n m.cap) (allL r c f) := (h.sm (Sm.drew w)).all m.cap
  have hl : (allL r c f).length ≤ 900000000 := by rw [allL_len, ← h.n_eq]; omega
  go_enter Try.func14, Try.ntmps14
  go_wp2_with fail
  go_region_held3 (fun w' => w'.cell? ⟨m.g, 0, none⟩ = some (.int .i64 (r : Int)) ∧ w'.cell? ⟨m.g, 1, none⟩ = some (.int .i64 (c : Int)) ∧ w'.cell? ⟨m.g, 2, none⟩ = some (.slice (some ⟨m.b, 0, none⟩) m.n m.cap)) (first | assumption | exact ⟨e0, e1, e2⟩ | go_keep)
    (first
      | (go_at_call 33; ((with_reducible refine (clone_any hb hl).mono ?_); rintro e w1 ⟨A1, n1, c1, rfl, ho1, hk1⟩); have s1 := kept3 hk1 ⟨e0, e1, e2⟩))
  go_wp2_with fail
  go_ret
  have hkp : Kp No w w1 := (Sm.drew w).kp.trans' hk1
  have hown := ho1.alloc (.cells #[.int .i64 (r : Int), .int .i64 (c : Int), .slice A1 n1 c1] 55)
  obtain ⟨b, hb1, rfl, hM⟩ := MatAt.of_own hown h.r1 h.r2 h.c1 h.c2 (heap_alloc_new w1 _)
  exact ⟨⟨w1.heap.size, b, n1, c1⟩, rfl, hM, hkp.size, hb1, hkp.trans' (Kp.alloc No _ _)⟩
theorem copy_nil (w : World) : Calls Try.prog 14 #[.pointer none] w fun e w' => e = .returned (.pointer none) ∧ w = w' := by
  go_enter Try.func14, Try.ntmps14
  go_wp2
  go_ret
  exact ⟨rfl, rfl⟩

theorem conv_bts {w : World} {v : Value} {bs : List UInt8} (h : Bts w v bs) : (convert 34 9 v).run Try.prog w = .ok (.string (strOf bs)) w := h.str 34 9 5 Try.underlying34 Try.underlying5 Try.underlying9
/-- Are the bytes alike? -/
def eqB (a b : List UInt8) : Bool := decide (a = b)
theorem eqB_str (a b : List UInt8) : ((strOf a).toList == (strOf b).toList) = eqB a b := by
  rw [Bool.eq_iff_iff, beq_iff_eq, ByteArray.toList_eq, ByteArray.toList_eq]
  unfold eqB
  rw [decide_eq_true_iff]
  exact Iff.rfl
theorem equal_any {w : World} {u v : Value} {a b : List UInt8} (hu : Bts w u a) (hv : Bts w v b) : Calls Try.prog 35 #[u, v] w fun e w' => e = .returned (.bool (eqB a b)) ∧ w = w' := by
  have c1 := conv_bts hu
  have c2 := conv_bts hv
  obtain ⟨A, n, c, rfl⟩ := hu.form
  obtain ⟨B, m, d, rfl⟩ := hv.form
  clear hu hv
  go_enter Try.func35, Try.ntmps35
  go_wp2
  go_ret
  exact ⟨ret_b (eqB_str a b), rfl⟩

/-- Are the sizes alike? -/
def szB (r c r' c' : Nat) : Bool := decide (r = r' ∧ c = c')
theorem samesize_any {m' : MB} {r' c' : Nat} {f' : Nat → Nat → UInt8} (h : MatAt w m r c f) (h' : MatAt w m' r' c' f') :
    Calls Try.prog 34 #[m.ptr, m'.ptr] w fun e w' => e = .returned (.bool (szB r c r' c')) ∧ Sm w w' := by
  by_cases hr : r = r'
  · have hb : Hid (szB r c r' c' = decide (c = c')) := by show szB r c r' c' = _; unfold szB; simp [hr]
    subst hr
    go_enter Try.func34, Try.ntmps34
    go_wp2_with fail
    refine (size_any h).mono ?_
    rintro e w1 ⟨rfl, hs⟩
    go_wp2_with fail
    refine (size_any (h'.sm hs)).mono ?_
    rintro e w2 ⟨rfl, hs2⟩
    go_wp2_with fail
    go_ret
    exact ⟨ret_b (by rw [hb.out, Bool.eq_iff_iff]; simp; omega), hs.trans hs2⟩
  · have hb : Hid (szB r c r' c' = false) := by show szB r c r' c' = _; unfold szB; simp [hr]
    have hr' : ((r : Int) == (r' : Int)) = false := by simp; omega
    go_enter Try.func34, Try.ntmps34
    go_wp2_with fail
    refine (size_any h).mono ?_
    rintro e w1 ⟨rfl, hs⟩
    go_wp2_with fail
    refine (size_any (h'.sm hs)).mono ?_
    rintro e w2 ⟨rfl, hs2⟩
    go_wp2_with fail
    go_ret
    exact ⟨ret_b hb.out.symm, hs.trans hs2⟩
theorem same_any {m' : MB} {r' c' : Nat} {f' : Nat → Nat → UInt8} (h : MatAt w m r c f) (h' : MatAt w m' r' c' f') :
    Calls Try.prog 16 #[m.ptr, m'.ptr] w fun e w' => e = .returned (.bool (szB r c r' c' && eqB (allL r c f) (allL r' c' f'))) ∧ Sm w w' := by
  have e2 := h.c_cells
  have e2' := h'.c_cells
  rcases hsz : szB r c r' c' with _ | _
  · have HZ := hide hsz
    have hq : ∀ n, Calls Try.prog 34 #[m.ptr, m'.ptr] (w.drewN n) fun e w'' => e = .returned (.bool false) ∧ ∃ k, w'' = w.drewN k :=
      fun n => Calls.quiet_of (by have := samesize_any (h.sm (Sm.drewN w n)) (h'.sm (Sm.drewN w n)); rw [hsz] at this; exact this)
    clear hsz
    go_enter Try.func16, Try.ntmps16
    go_wp2_with fail
    go_quiet ((go_at_call 34; exact hq _))
    go_wp2_with fail
    go_ret
    exact ⟨rfl, Sm.drewN _ _⟩
  · have HZ := hide hsz
    have hq : ∀ n, Calls Try.prog 34 #[m.ptr, m'.ptr] (w.drewN n) fun e w'' => e = .returned (.bool true) ∧ ∃ k, w'' = w.drewN k :=
      fun n => Calls.quiet_of (by have := samesize_any (h.sm (Sm.drewN w n)) (h'.sm (Sm.drewN w n)); rw [hsz] at this; exact this)
    have hq2 : ∀ n, Calls Try.prog 35 #[.slice (some ⟨m.b, 0, none⟩) m.n m.cap, .slice (some ⟨m'.b, 0, none⟩) m'.n m'.cap] (w.drewN n) fun e w'' => e = .returned (.bool (eqB (allL r c f) (allL r' c' f'))) ∧ ∃ k, w'' = w.drewN k :=
      fun n => (equal_any ((h.sm (Sm.drewN w n)).all m.cap) ((h'.sm (Sm.drewN w n)).all m'.cap)).mono fun _ _ ⟨he, hw⟩ => ⟨he, n, hw.symm⟩
    clear hsz
    go_enter Try.func16, Try.ntmps16
    go_wp2_with fail
    go_quiet ((first | (go_at_call 34; exact hq _) | (go_at_call 35; exact hq2 _)))
    go_wp2_with fail
    go_ret
    exact ⟨rfl, Sm.drewN _ _⟩
theorem same_nil_nil (w : World) : Calls Try.prog 16 #[.pointer none, .pointer none] w fun e w' => e = .returned (.bool true) ∧ w = w' := by
  go_enter Try.func16, Try.ntmps16
  go_wp2
  go_ret
  exact ⟨rfl, rfl⟩
theorem same_nil (w : World) (a : Addr) : Calls Try.prog 16 #[.pointer (some a), .pointer none] w fun e w' => e = .returned (.bool false) ∧ w = w' := by
  go_enter Try.func16, Try.ntmps16
  go_wp2
  go_ret
  exact ⟨rfl, rfl⟩
end
end Go.Proofs.Ytbhocklcopajkaa
