/- A matrix in memory, and package mat's New, Size and row, each as a contract over memory. -/
import Derived.Test.YtbkelijmdpoanaaBy
import Derived.Test.YtbkelijmdpoanaaMtm
import Derived.Test.YtbkelijmdpoanaaGfw
import Derived.BigQuiet
namespace Go.Proofs.Ytbkelijmdpoanaa
open Go.RowKit
set_option linter.unusedVariables false

/-- All but the count of draws is as it was. -/
def Sm (w w' : World) : Prop := ∃ n, w' = w.drewN n
section
variable {w w1 w2 : World} {S : Nat → Prop}
theorem Sm.refl (w : World) : Sm w w := ⟨0, rfl⟩
theorem Sm.trans (h : Sm w w1) (k : Sm w1 w2) : Sm w w2 := by
  obtain ⟨a, rfl⟩ := h
  obtain ⟨b, rfl⟩ := k
  exact ⟨a + b, World.drewN_drewN _ _ _⟩
theorem Sm.drew (w : World) : Sm w w.drew := ⟨1, rfl⟩
theorem Sm.drewN (w : World) (n : Nat) : Sm w (w.drewN n) := ⟨n, rfl⟩
theorem Sm.heap (h : Sm w w1) : w1.heap = w.heap := by obtain ⟨n, rfl⟩ := h; rfl
theorem Sm.kp (h : Sm w w1) : Kp S w w1 := by obtain ⟨n, rfl⟩ := h; exact (Kp.refl S w).drewN n
theorem Sm.block (h : Sm w w1) (k : Nat) : w1.heap[k]? = w.heap[k]? := by rw [h.heap]
theorem Sm.cell (h : Sm w w1) (p : Addr) : w1.cell? p = w.cell? p := World.cell?_of_block (h.block p.block)
theorem Sm.size (h : Sm w w1) : w1.heap.size = w.heap.size := by rw [h.heap]
end

/-- A matrix's two blocks, how many cells it has, and how many there is room for. -/
structure MB where
  g : Nat
  b : Nat
  n : Nat
  cap : Nat

/-- In memory lies the matrix f of r rows and c columns. -/
structure MatAt (w : World) (m : MB) (r c : Nat) (f : Nat → Nat → UInt8) : Prop where
  head : w.heap[m.g]? = some (.cells #[.int .i64 (r : Int), .int .i64 (c : Int), .slice (some ⟨m.b, 0, none⟩) m.n m.cap] 83 (0, 0))
  body : ∃ cur : Array Value, w.heap[m.b]? = some (.cells cur 5 (0, 0)) ∧ cur.size = m.cap ∧ ∀ i k, i < r → k < c → cur[i * c + k]? = some (bv (f i k))
  n_eq : m.n = r * c
  r1 : 1 ≤ r
  r2 : r ≤ 64
  c1 : 1 ≤ c
  c2 : c ≤ 64
  cap1 : m.n ≤ m.cap
  cap2 : m.cap ≤ maxLen

/-- The matrix's pointer. -/
abbrev MB.ptr (m : MB) : Value := .pointer (some ⟨m.g, 0, none⟩)
/-- The matrix's blocks. -/
def MB.In (m : MB) (k : Nat) : Prop := k = m.g ∨ k = m.b

theorem idx_lt {i k r c : Nat} (hi : i < r) (hk : k < c) : i * c + k < r * c := by
  have := Nat.mul_le_mul_right c (show i + 1 ≤ r from hi)
  rw [Nat.add_mul, Nat.one_mul] at this
  omega
theorem mul_le_4096 {r c : Nat} (hr : r ≤ 64) (hc : c ≤ 64) : r * c ≤ 4096 := Nat.mul_le_mul hr hc

section
variable {w w1 : World} {m : MB} {r c : Nat} {f f' : Nat → Nat → UInt8} {S : Nat → Prop}
theorem MatAt.ne (h : MatAt w m r c f) : m.g ≠ m.b := by
  intro e
  obtain ⟨cur, hb, _⟩ := h.body
  have hg := h.head
  rw [e, hb] at hg
  simp only [Option.some.injEq, Obj.cells.injEq] at hg
  exact absurd hg.2.1 (by decide)
theorem MatAt.keep (h : MatAt w m r c f) (hk : Kp S w w1) (hg : ¬ S m.g) (hb : ¬ S m.b) : MatAt w1 m r c f := by
  obtain ⟨cur, h1, h2, h3⟩ := h.body
  exact ⟨(hk.block m.g (Array.getElem?_eq_some_iff.1 h.head).1 hg).trans h.head, ⟨cur, (hk.block m.b (Array.getElem?_eq_some_iff.1 h1).1 hb).trans h1, h2, h3⟩, h.n_eq, h.r1, h.r2, h.c1, h.c2, h.cap1, h.cap2⟩
theorem MatAt.no (h : MatAt w m r c f) (hk : Kp No w w1) : MatAt w1 m r c f := h.keep hk (fun f => f) (fun f => f)
theorem MatAt.sm (h : MatAt w m r c f) (hk : Sm w w1) : MatAt w1 m r c f := h.no hk.kp
theorem MatAt.eqF (h : MatAt w m r c f) (he : EqF r c f f') : MatAt w m r c f' := by
  obtain ⟨cur, h1, h2, h3⟩ := h.body
  exact ⟨h.head, ⟨cur, h1, h2, fun i k hi hk => by rw [← he i k hi hk]; exact h3 i k hi hk⟩, h.n_eq, h.r1, h.r2, h.c1, h.c2, h.cap1, h.cap2⟩
theorem MatAt.lt (h : MatAt w m r c f) : m.g < w.heap.size ∧ m.b < w.heap.size := by
  obtain ⟨cur, h1, h2, h3⟩ := h.body
  exact ⟨(Array.getElem?_eq_some_iff.1 h.head).1, (Array.getElem?_eq_some_iff.1 h1).1⟩
theorem MatAt.c_rows (h : MatAt w m r c f) : w.cell? ⟨m.g, 0, none⟩ = some (.int .i64 (r : Int)) := by rw [cell_of_row w m.g 0 _ _ _ h.head]; rfl
theorem MatAt.c_cols (h : MatAt w m r c f) : w.cell? ⟨m.g, 1, none⟩ = some (.int .i64 (c : Int)) := by rw [cell_of_row w m.g 1 _ _ _ h.head]; rfl
theorem MatAt.c_cells (h : MatAt w m r c f) : w.cell? ⟨m.g, 2, none⟩ = some (.slice (some ⟨m.b, 0, none⟩) m.n m.cap) := by rw [cell_of_row w m.g 2 _ _ _ h.head]; rfl
theorem MatAt.cell (h : MatAt w m r c f) {i k o : Nat} (hi : i < r) (hk : k < c) (ho : o = i * c + k) : w.cell? ⟨m.b, o, none⟩ = some (.int .u8 ((f i k).toNat : Int)) := by
  obtain ⟨cur, h1, h2, h3⟩ := h.body
  rw [cell_of_row w m.b o _ _ _ h1, ho, h3 i k hi hk]
  rfl
theorem MatAt.frozen (h : MatAt w m r c f) (o : Nat) : w.frozen? ⟨m.b, o, none⟩ = false := by
  obtain ⟨cur, h1, h2, h3⟩ := h.body
  exact frozen_of_row w m.b o _ _ h1
theorem MatAt.n_le (h : MatAt w m r c f) : m.n ≤ 4096 := by rw [h.n_eq]; exact mul_le_4096 h.r2 h.c2
/-- One element set. -/
def setF (f : Nat → Nat → UInt8) (i0 k0 : Nat) (x : UInt8) (i k : Nat) : UInt8 := if i = i0 ∧ k = k0 then x else f i k
theorem idx_inj {i k i0 k0 c : Nat} (hk : k < c) (hk0 : k0 < c) (h : i * c + k = i0 * c + k0) : i = i0 ∧ k = k0 := by
  have hc : 0 < c := by omega
  have h1 : (i * c + k) / c = i := by rw [Nat.mul_comm, Nat.mul_add_div hc, Nat.div_eq_of_lt hk, Nat.add_zero]
  have h2 : (i0 * c + k0) / c = i0 := by rw [Nat.mul_comm, Nat.mul_add_div hc, Nat.div_eq_of_lt hk0, Nat.add_zero]
  have h3 : (i * c + k) % c = k := by rw [Nat.mul_comm, Nat.mul_add_mod, Nat.mod_eq_of_lt hk]
  have h4 : (i0 * c + k0) % c = k0 := by rw [Nat.mul_comm, Nat.mul_add_mod, Nat.mod_eq_of_lt hk0]
  rw [h] at h1 h3
  omega
theorem MatAt.set (h : MatAt w m r c f) {i k o : Nat} (hi : i < r) (hk : k < c) (ho : o = i * c + k) (x : UInt8) (v : Value) (hv : v = bv x) : MatAt (w.setCell ⟨m.b, o, none⟩ v) m r c (setF f i k x) := by
  obtain ⟨cur, h1, h2, h3⟩ := h.body
  have hne := h.ne
  subst hv
  refine ⟨?_, ⟨cur.setIfInBounds o (bv x), heap_setCell_same w m.b o cur _ _ h1, by rw [Array.size_setIfInBounds]; exact h2, fun i' k' hi' hk' => ?_⟩, h.n_eq, h.r1, h.r2, h.c1, h.c2, h.cap1, h.cap2⟩
  · rw [Below.heap_setCell w ⟨m.b, o, none⟩ (bv x) m.g hne]
    exact h.head
  · have hlt : i' * c + k' < cur.size := (Array.getElem?_eq_some_iff.1 (h3 i' k' hi' hk')).1
    rw [Array.getElem?_setIfInBounds]
    unfold setF
    by_cases e : i' = i ∧ k' = k
    · rw [if_pos e]
      obtain ⟨rfl, rfl⟩ := e
      rw [if_pos ho, if_pos (by omega)]
    · rw [if_neg e, if_neg (fun he => e (idx_inj hk' hk (by omega)))]
      exact h3 i' k' hi' hk'
theorem kp_set (hS : S m.b) (o : Nat) (v : Value) : Kp S w (w.setCell ⟨m.b, o, none⟩ v) := Kp.setCell (p := ⟨m.b, o, none⟩) hS v
theorem kp_set1 (w : World) (m : MB) (o : Nat) (v : Value) : Kp (fun k => k = m.b) w (w.setCell ⟨m.b, o, none⟩ v) := Kp.setCell (p := ⟨m.b, o, none⟩) (S := fun k => k = m.b) rfl v
/-- A row, as bytes. -/
def rowL (c : Nat) (s : Nat → UInt8) : List UInt8 := (List.range c).map s
theorem rowL_len (c : Nat) (s : Nat → UInt8) : (rowL c s).length = c := by simp [rowL]
theorem rowL_get {c k : Nat} (s : Nat → UInt8) (hk : k < c) : (rowL c s)[k]? = some (s k) := by simp [rowL, hk]
theorem MatAt.bts (h : MatAt w m r c f) {i o : Nat} (hi : i < r) (ho : o = i * c) (cap : Nat) : Bts w (.slice (some ⟨m.b, o, none⟩) c cap) (rowL c (f i)) := by
  refine ⟨_, cap, by rw [rowL_len], (fun h => by cases h), fun ad ha j u hu => ?_⟩
  injection ha with ha
  subst ha
  have hj : j < c := by have := (List.getElem?_eq_some_iff.1 hu).1; rwa [rowL_len] at this
  rw [rowL_get _ hj] at hu
  injection hu with hu
  subst hu
  rw [add_none]
  exact h.cell hi hj (by omega)
/-- All of it, as bytes. -/
def allL (r c : Nat) (f : Nat → Nat → UInt8) : List UInt8 := (List.range (r * c)).map fun j => f (j / c) (j % c)
theorem allL_len (r c : Nat) (f : Nat → Nat → UInt8) : (allL r c f).length = r * c := by simp [allL]
theorem allL_get {j : Nat} (f : Nat → Nat → UInt8) (hj : j < r * c) : (allL r c f)[j]? = some (f (j / c) (j % c)) := by simp [allL, hj]
theorem div_lt {j : Nat} (hj : j < r * c) : j / c < r := by rw [Nat.mul_comm] at hj; exact Nat.div_lt_of_lt_mul hj
theorem MatAt.all (h : MatAt w m r c f) (cap : Nat) : Bts w (.slice (some ⟨m.b, 0, none⟩) m.n cap) (allL r c f) := by
  have hc := h.c1
  refine ⟨_, cap, by rw [allL_len, h.n_eq], (fun h => by cases h), fun ad ha j u hu => ?_⟩
  injection ha with ha
  subst ha
  have hj : j < r * c := by have := (List.getElem?_eq_some_iff.1 hu).1; rwa [allL_len] at this
  rw [allL_get _ hj] at hu
  injection hu with hu
  subst hu
  rw [add_none, Nat.zero_add]
  exact h.cell (div_lt hj) (Nat.mod_lt _ (by omega)) (by rw [Nat.mul_comm]; exact (Nat.div_add_mod j c).symm)
theorem allL_eq (hc : 1 ≤ c) {g : Nat → Nat → UInt8} : allL r c f = allL r c g ↔ EqF r c f g := by
  constructor
  · intro h i k hi hk
    have hj := idx_lt hi hk
    have := allL_get f hj
    rw [h, allL_get g hj] at this
    have e1 : (i * c + k) / c = i := by rw [Nat.mul_comm, Nat.mul_add_div (by omega), Nat.div_eq_of_lt hk, Nat.add_zero]
    have e2 : (i * c + k) % c = k := by rw [Nat.mul_comm, Nat.mul_add_mod, Nat.mod_eq_of_lt hk]
    rw [e1, e2] at this
    injection this with this
    exact this.symm
  · intro h
    refine List.map_congr_left fun j hj => ?_
    have hj := List.mem_range.1 hj
    exact h _ _ (div_lt hj) (Nat.mod_lt _ (by omega))
end

theorem ret_b {a b : Bool} (h : a = b) : Ending.returned (.bool a) = .returned (.bool b) := by rw [h]
theorem fits_yes (n : Int) (w : World) (h1 : 1 ≤ n) (h2 : n ≤ 64) : Calls Try.prog 61 #[.int .i64 n] w fun e w' => e = .returned (.bool true) ∧ w = w' := by
  go_enter Try.func61, Try.ntmps61
  go_wp2
  go_ret
  exact ⟨rfl, rfl⟩
theorem fits_no (n : Int) (w : World) (h : n < 1 ∨ 64 < n) : Calls Try.prog 61 #[.int .i64 n] w fun e w' => e = .returned (.bool false) ∧ w = w' := by
  by_cases h1 : 1 ≤ n
  · have h2 : ¬ n ≤ 64 := by omega
    clear h
    go_enter Try.func61, Try.ntmps61
    go_wp2
    go_ret
    exact ⟨rfl, rfl⟩
  · clear h
    go_enter Try.func61, Try.ntmps61
    go_wp2
    go_ret
    exact ⟨rfl, rfl⟩

theorem size_any {w : World} {m : MB} {r c : Nat} {f : Nat → Nat → UInt8} (h : MatAt w m r c f) :
    Calls Try.prog 55 #[m.ptr] w fun e w' => e = .returned (.tuple #[.int .i64 (r : Int), .int .i64 (c : Int)]) ∧ Sm w w' := by
  have h0 := h.c_rows
  have h1 := h.c_cols
  go_enter Try.func55, Try.ntmps55
  go_wp2_with fail
  go_quiet (fail)
  go_wp2_with fail
  go_ret2
  exact ⟨rfl, Sm.drewN _ _⟩
theorem size_nil (w : World) : Calls Try.prog 55 #[.pointer none] w fun e w' => e = .returned (.tuple #[.int .i64 0, .int .i64 0]) ∧ w = w' := by
  go_enter Try.func55, Try.ntmps55
  go_wp2
  go_ret2
  exact ⟨rfl, rfl⟩

/-- A new matrix comes back, and no error. -/
def NewPost (w : World) (r c : Nat) (f : Nat → Nat → UInt8) (e : Ending) (w1 : World) : Prop :=
  ∃ m : MB, e = .returned (.tuple #[m.ptr, .int .i64 0]) ∧ MatAt w1 m r c f ∧ w.heap.size ≤ m.g ∧ w.heap.size ≤ m.b ∧ Kp No w w1
/-- No matrix comes back, and ErrArg. -/
def ArgPost (w : World) (e : Ending) (w1 : World) : Prop := e = .returned (.tuple #[.pointer none, .int .i64 1]) ∧ Kp No w w1

theorem new_no (r c : Int) (w : World) (h : ¬ (1 ≤ r ∧ r ≤ 64 ∧ 1 ≤ c ∧ c ≤ 64)) : Calls Try.prog 53 #[.int .i64 r, .int .i64 c] w (ArgPost w) := by
  by_cases h1 : 1 ≤ r ∧ r ≤ 64
  · have hc : c < 1 ∨ 64 < c := by omega
    obtain ⟨h1, h2⟩ := h1
    clear h
    go_enter Try.func53, Try.ntmps53
    go_wp2_with fail
    refine (fits_yes r w h1 h2).mono ?_
    rintro e w' ⟨rfl, rfl⟩
    go_wp2_with fail
    refine (fits_no c w hc).mono ?_
    rintro e w' ⟨rfl, rfl⟩
    go_wp2_with fail
    go_ret2
    exact ⟨rfl, Kp.refl _ _⟩
  · have hr : r < 1 ∨ 64 < r := by omega
    clear h h1
    go_enter Try.func53, Try.ntmps53
    go_wp2_with fail
    refine (fits_no r w hr).mono ?_
    rintro e w' ⟨rfl, rfl⟩
    go_wp2_with fail
    go_ret2
    exact ⟨rfl, Kp.refl _ _⟩

theorem new_yes (r c : Nat) (w : World) (r1 : 1 ≤ r) (r2 : r ≤ 64) (c1 : 1 ≤ c) (c2 : c ≤ 64) : Calls Try.prog 53 #[.int .i64 (r : Int), .int .i64 (c : Int)] w (NewPost w r c fun _ _ => 0) := by
  have hm := mul_le_4096 r2 c2
  have hmi : ((r * c : Nat) : Int) ≤ 4096 := by omega
  rw [Int.natCast_mul] at hmi
  have hm0 : 0 ≤ ((r * c : Nat) : Int) := by omega
  rw [Int.natCast_mul] at hm0
  obtain ⟨n, hn⟩ : ∃ n, n = r * c := ⟨_, rfl⟩
  have hmk := fun w => make_bytes w n ((r : Int) * c) (by rw [hn, Int.natCast_mul]) (by omega)
  have HN := hide hn
  clear hn
  have HM := hide hm
  clear hm
  go_enter Try.func53, Try.ntmps53
  go_wp2_with fail
  refine (fits_yes r w (by omega) (by omega)).mono ?_
  rintro e w' ⟨rfl, rfl⟩
  go_wp2_with fail
  refine (fits_yes c w (by omega) (by omega)).mono ?_
  rintro e w' ⟨rfl, rfl⟩
  go_wp2_with fail
  go_ret2
  have hn := HN.out
  have hm := HM.out
  refine ⟨⟨w.heap.size + 1, w.heap.size, n, n⟩, by simp, ⟨?_, ⟨zc n, ?_, zc_size n, fun i k hi hk => zc_get (by rw [hn]; exact idx_lt hi hk)⟩, hn, r1, r2, c1, c2, Nat.le_refl _, by simp only [maxLen]; omega⟩, by simp, Nat.le_refl _, (Kp.alloc No w _).trans' (Kp.alloc No _ _)⟩
  · have := heap_alloc_new (w.alloc (.cells (zc n) 5)) (.cells #[.int .i64 (r : Int), .int .i64 (c : Int), .slice (some ⟨w.heap.size, 0, none⟩) n n] 83)
    simpa using this
  · rw [Below.heap_alloc _ _ _ (by simp)]
    exact heap_alloc_new w _

/-- A row's slice comes back. -/
def RowPost (w : World) (m : MB) (i c : Nat) (e : Ending) (w1 : World) : Prop := ∃ o cp, e = .returned (.slice (some ⟨m.b, o, none⟩) c cp) ∧ o = i * c ∧ c ≤ cp ∧ Sm w w1

theorem row_any {w : World} {m : MB} {r c : Nat} {f : Nat → Nat → UInt8} (h : MatAt w m r c f) (i : Nat) (hi : i < r) :
    Calls Try.prog 54 #[m.ptr, .int .i64 (i : Int)] w (RowPost w m i c) := by
  obtain ⟨o, ho⟩ : ∃ o, o = i * c := ⟨_, rfl⟩
  have hn := h.n_eq
  have hn4 := h.n_le
  have hlt : o + c ≤ m.n := by
    rw [ho, hn]
    have := Nat.mul_le_mul_right c (show i + 1 ≤ r from hi)
    rw [Nat.add_mul, Nat.one_mul] at this
    exact this
  have hcap := h.cap1
  have hc1 := h.c1
  have hmul : (i : Int) * c = (o : Int) := by rw [ho, Int.natCast_mul]
  have HO := hide ho
  have HN := hide hn
  clear ho hn
  have e1 := h.c_cols
  have e2 := h.c_cells
  go_enter Try.func54, Try.ntmps54
  go_wp2_with fail
  refine (size_any h).mono ?_
  rintro e w1 ⟨rfl, hs⟩
  have e1 : w1.cell? ⟨m.g, 1, none⟩ = some (.int .i64 (c : Int)) := (h.sm hs).c_cols
  have e2 : w1.cell? ⟨m.g, 2, none⟩ = some (.slice (some ⟨m.b, 0, none⟩) m.n m.cap) := (h.sm hs).c_cells
  go_wp2_with fail
  go_quiet (fail)
  go_wp2_with fail
  go_ret
  refine ⟨o, _, rfl, HO.out, ?_, hs.trans (Sm.drewN _ _)⟩
  omega
end Go.Proofs.Ytbkelijmdpoanaa
