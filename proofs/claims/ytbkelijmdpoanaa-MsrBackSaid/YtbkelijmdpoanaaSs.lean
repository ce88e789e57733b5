/- Package solve's rowsOf, square, Rank, Steps and Det, each as a contract over memory. -/
import Derived.Test.YtbkelijmdpoanaaSr
import Derived.Test.YtbkelijmdpoanaaSvd
namespace Go.Proofs.Ytbkelijmdpoanaa
open Go.RowKit
set_option linter.unusedVariables false
set_option maxRecDepth 20000

/-- So many nil slices. -/
def zr (n : Nat) : Array Value := madeCells (Value.slice none 0 0).cells (n * 1)
theorem zr_get {n j : Nat} (h : j < n) : (zr n)[j]? = some (.slice none 0 0) := by
  have e : (zr n).toList = List.replicate n (.slice none 0 0) := by unfold zr; rw [Nat.mul_one]; exact toList_madeCells_one _ _
  rw [← Array.getElem?_toList, e, List.getElem?_replicate, if_pos h]
/-- make([][]byte, n). -/
theorem make_rows (w : World) (n : Nat) (x : Int) (hx : x = n) (hn : n ≤ 1000) :
    (Instr.makeSlice 26 (.int .i64 x) (.int .i64 x)).run Try.prog w = .ok (.slice (some ⟨w.heap.size, 0, none⟩) n n) (w.alloc (.cells (zr n) 29)) := by
  obtain ⟨i0, hi0, hz0, hz1, hz2⟩ := slc_parts
  subst hx
  have := run_make (P := Try.prog) w 26 29 i0 (.slice none 0 0) Try.underlying26 hi0 hz0 .i64 .i64 n n (by omega) (by omega) (by rw [hz2]; omega) (by omega)
  rw [hz1] at this
  simpa [zr] using this

/-- The rows of a matrix come back, each of the call's own. -/
def RofPost (w : World) (r c : Nat) (f : Nat → Nat → UInt8) (e : Ending) (w1 : World) : Prop :=
  ∃ g hv, e = .returned (.slice (some ⟨g, 0, none⟩) r r) ∧ Grd w1 w.heap.size g r hv (fun j => rowL c (f j)) ∧ InjV r hv ∧ Kp No w w1
/-- So many rows are there. -/
structure RoI (w : World) (g r c : Nat) (f : Nat → Nat → UInt8) (k : Nat) (wr : World) : Prop where
  ex : ∃ hv, Outer wr g r hv ∧ (∀ j, j < k → Own wr w.heap.size 5 (hv j) (rowL c (f j))) ∧ InjV k hv
  kp : Kp No w wr
theorem RoI.step {w wr w1 : World} {g r c k base : Nat} {f : Nat → Nat → UInt8} {v : Value} (h : RoI w g r c f k wr) (hg : w.heap.size ≤ g) (hkr : k < r) (hc : 0 < c) (hb : wr.heap.size ≤ base) (ho : Own w1 base 5 v (rowL c (f k))) (hk : Kp No wr w1) : RoI w g r c f (k + 1) (w1.setCell ⟨g, k, none⟩ v) := by
  obtain ⟨hv, h1, h2, h3⟩ := h.ex
  have hO1 := h1.keep hk fun f => f
  have hks : Kp (fun q => q = g) w1 (w1.setCell ⟨g, k, none⟩ v) := Kp.setCell (p := ⟨g, k, none⟩) (S := fun q => q = g) rfl v
  have hwk := h.kp.size
  refine ⟨⟨upd hv k v, hO1.set hkr v, fun j hj => ?_, fun i j hi hj e => ?_⟩, (h.kp.trans' hk).trans (hks.mono fun q hq => .inr (by omega))⟩
  · by_cases e : j = k
    · subst e
      rw [upd_at]
      exact (ho.keep hks fun q hq e => outer_ne hO1 ho (by rw [hq, e])).rebase fun q hq => by have := ho.ge q hq; omega
    · rw [upd_ne _ _ e]
      have := (h2 j (by omega)).no hk
      exact this.keep hks fun q hq e => outer_ne hO1 this (by rw [hq, e])
  · have fresh : ∀ q, q < k → (hv q).ownBlock ≠ v.ownBlock := fun q hq e => by
      obtain ⟨b, c1, e1, g1, g2⟩ := (h2 q hq).some_ (by rw [rowL_len]; exact hc)
      have := ho.ge b (by rw [← e, e1]; rfl)
      omega
    by_cases e1 : i = k <;> by_cases e2 : j = k
    · omega
    · rw [e1, upd_at, upd_ne _ _ e2] at e
      exact absurd e.symm (fresh j (by omega))
    · rw [e2, upd_at, upd_ne _ _ e1] at e
      exact absurd e (fresh i (by omega))
    · rw [upd_ne _ _ e1, upd_ne _ _ e2] at e
      exact h3 i j (by omega) (by omega) e

set_option maxHeartbeats 1000000 in
theorem rowsof_any {w : World} {m : MB} {r c : Nat} {f : Nat → Nat → UInt8} (h : MatAt w m r c f) : Calls Try.prog 63 #[m.ptr] w (RofPost w r c f) := by
  have hr2 := h.r2
  have hc1 := h.c1
  have hmk := fun w => make_rows w r (r : Int) rfl (by omega)
  go_enter Try.func63, Try.ntmps63
  go_wp2_with fail
  refine (size_any h).mono ?_
  rintro e w1 ⟨rfl, hs⟩
  have hstart : RoI w w1.heap.size r c f 0 (w1.alloc (.cells (zr r) 29)) := ⟨⟨fun _ => .slice none 0 0, ⟨zr r, heap_alloc_new w1 _, fun j hj => zr_get hj⟩, fun j hj => absurd hj (Nat.not_lt_zero _), fun i j hi => absurd hi (Nat.not_lt_zero _)⟩, hs.kp.trans' (Kp.alloc No _ _)⟩
  have hsz := hs.size
  obtain ⟨g, hg⟩ : ∃ g, g = w1.heap.size := ⟨_, rfl⟩
  have HG : Hid (w.heap.size ≤ g) := by show w.heap.size ≤ g; omega
  clear hsz
  go_wp2_with fail
  rw [← hg] at hstart ⊢
  clear hg
  go_loopw [16] (fun i wr => ∃ k : Nat, k ≤ r ∧ i = .int .i64 (k : Int) ∧ RoI w g r c f k wr) (fun i _ => r - (intOf i).toNat)
  case atStart => exact ⟨0, Nat.zero_le _, rfl, hstart⟩
  case round =>
    obtain ⟨k, hk, rfl, hI⟩ := hrel
    by_cases hlt : k < r
    · go_wp2_with fail
      refine (rowc_in (h.no hI.kp) k hlt).mono ?_
      rintro e w2 ⟨A1, n1, c2, rfl, ho1, hk1⟩
      have HS := hide (hI.step HG.out hlt hc1 (Nat.le_refl _) ho1 hk1)
      obtain ⟨hv, h1, _, _⟩ := hI.ex
      have h2 := h1.keep hk1 fun f => f
      have x1 := h2.cell hlt
      have x2 := h2.frozen k
      go_wp2_with fail
      go_round
      case rel => exact ⟨k + 1, by omega, by go_num, HS.out⟩
      case measure => simp [intOf]; omega
    · obtain rfl : k = r := by omega
      obtain ⟨hv, h1, h2, h3⟩ := hI.ex
      go_wp2_with fail
      go_ret
      exact ⟨g, hv, rfl, ⟨h1, h2, HG.out⟩, h3, hI.kp⟩
theorem rowsof_nil (w : World) : Calls Try.prog 63 #[.pointer none] w (RofPost w 0 1 fun _ _ => 0) := by
  have hmk := fun w => make_rows w 0 0 rfl (by omega)
  go_enter Try.func63, Try.ntmps63
  go_wp2_with fail
  refine (size_nil w).mono ?_
  rintro e w1 ⟨rfl, rfl⟩
  go_wp2_with fail
  go_loopw [16] (fun i wr => i = .int .i64 0 ∧ wr = w.alloc (.cells (zr 0) 29)) (fun _ _ => 0)
  case atStart => exact ⟨rfl, rfl⟩
  case round =>
    obtain ⟨rfl, rfl⟩ := hrel
    go_wp2_with fail
    go_ret
    exact ⟨w.heap.size, fun _ => .slice none 0 0, rfl, ⟨⟨zr 0, heap_alloc_new w _, fun j hj => absurd hj (Nat.not_lt_zero _)⟩, fun j hj => absurd hj (Nat.not_lt_zero _), Nat.le_refl _⟩, fun i j hi => absurd hi (Nat.not_lt_zero _), Kp.alloc No _ _⟩

section
variable {w : World} {m : MB} {r c : Nat} {f : Nat → Nat → UInt8}
theorem square_yes (h : MatAt w m r r f) : Calls Try.prog 62 #[m.ptr] w fun e w' => e = .returned (.bool true) ∧ Sm w w' := by
  go_enter Try.func62, Try.ntmps62
  go_wp2_with fail
  refine (size_any h).mono ?_
  rintro e w1 ⟨rfl, hs⟩
  go_wp2_with fail
  go_ret
  exact ⟨rfl, hs⟩
theorem square_no (h : MatAt w m r c f) (hne : r ≠ c) : Calls Try.prog 62 #[m.ptr] w fun e w' => e = .returned (.bool false) ∧ Sm w w' := by
  have t0 : ((r : Int) == (c : Int)) = false := by simp; omega
  clear hne
  go_enter Try.func62, Try.ntmps62
  go_wp2_with fail
  refine (size_any h).mono ?_
  rintro e w1 ⟨rfl, hs⟩
  go_wp2_with fail
  go_ret
  exact ⟨rfl, hs⟩
theorem square_nil (w : World) : Calls Try.prog 62 #[.pointer none] w fun e w' => e = .returned (.bool false) ∧ Sm w w' := by
  go_enter Try.func62, Try.ntmps62
  go_wp2_with fail
  refine (size_nil w).mono ?_
  rintro e w1 ⟨rfl, rfl⟩
  go_wp2_with fail
  go_ret
  exact ⟨rfl, Sm.refl _⟩

/-- What a call changes in memory of its own is no matter. -/
theorem Kp.own {w0 w1 w2 : World} (h : Kp No w0 w1) (k : Kp (fun q => w0.heap.size ≤ q) w1 w2) : Kp No w0 w2 := h.trans (k.mono fun q hq => .inr hq)

theorem fnL_matL {r c : Nat} (f : Nat → Nat → UInt8) : EqF r c (fnL (matL r c f)) f := fun i k hi hk => by
  rw [fnL_of (matL_get f hi), lg_rowL _ hk]
theorem NewPost.eqF {g : Nat → Nat → UInt8} {e : Ending} {w1 : World} (h : NewPost w r c f e w1) (he : EqF r c f g) : NewPost w r c g e w1 := by
  obtain ⟨m, h1, h2, h3⟩ := h
  exact ⟨m, h1, h2.eqF he, h3⟩
/-- A matrix made in a later world. -/
theorem NewPost.later {w0 : World} {e : Ending} {w1 : World} (h : NewPost w r c f e w1) (hk : Kp No w0 w) : NewPost w0 r c f e w1 := by
  obtain ⟨m, h1, h2, h3, h4, h5⟩ := h
  have := hk.size
  exact ⟨m, h1, h2, by omega, by omega, hk.trans' h5⟩

end
end Go.Proofs.Ytbkelijmdpoanaa
