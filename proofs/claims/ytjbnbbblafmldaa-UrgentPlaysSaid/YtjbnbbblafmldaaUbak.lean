/- Rows of jobs and a queue of package urgent in memory. No condition. -/
import Derived.Test.YtjbnbbblafmldaaUbaj
namespace Go.Proofs.Ytjbnbbblafmldaa
open Go.RowKit
set_option linter.unusedVariables false
set_option linter.unusedSimpArgs false
set_option maxRecDepth 20000

/-- The cells of these jobs. -/
def jbC (R : List Nat) : List Value := R.flatMap fun x => [.int .u32 (jO x : Int), .int .u16 (jS x : Int), .int .i64 (jG x)]
theorem jbC_cons (x : Nat) (R : List Nat) : jbC (x :: R) = [.int .u32 (jO x : Int), .int .u16 (jS x : Int), .int .i64 (jG x)] ++ jbC R := rfl
theorem jbC_get : ∀ {R : List Nat} {j x : Nat}, R[j]? = some x → (jbC R)[j * 3]? = some (.int .u32 (jO x : Int)) ∧ (jbC R)[j * 3 + 1]? = some (.int .u16 (jS x : Int)) ∧ (jbC R)[j * 3 + 2]? = some (.int .i64 (jG x))
  | [], j, x, h => by simp at h
  | y :: R, 0, x, h => by
    simp at h
    subst h
    exact ⟨rfl, rfl, rfl⟩
  | y :: R, j + 1, x, h => by
    rw [List.getElem?_cons_succ] at h
    have ih := jbC_get h
    have key : ∀ i, (jbC (y :: R))[(j + 1) * 3 + i]? = (jbC R)[j * 3 + i]? := fun i => by
      rw [jbC_cons, List.getElem?_append_right (by simp; omega)]
      congr 1
      simp
      omega
    exact ⟨(key 0).trans ih.1, (key 1).trans ih.2.1, (key 2).trans ih.2.2⟩
theorem jbC_append (L M : List Nat) : jbC (L ++ M) = jbC L ++ jbC M := by simp [jbC]
theorem jbC_len : ∀ (L : List Nat), (jbC L).length = L.length * 3
  | [] => rfl
  | x :: L => by
    have ih := jbC_len L
    rw [jbC_cons, List.length_append, ih, List.length_cons]
    simp
    omega
theorem jbC_take : ∀ (L : List Nat) (k : Nat), (jbC L).take (k * 3) = jbC (L.take k)
  | [], k => by simp [jbC]
  | x :: L, 0 => by simp [jbC]
  | x :: L, k + 1 => by
    have ih := jbC_take L k
    rw [jbC_cons, List.take_succ_cons, jbC_cons, List.take_append, List.take_of_length_le (by simp; omega)]
    congr 1
    rw [← ih]
    congr 1
    simp
    omega
theorem jbC_cell (L : List Nat) : ∀ u ∈ jbC L, u.oneCell' = true := fun u hu => by
  obtain ⟨p, _, hp⟩ := List.mem_flatMap.1 hu
  simp at hp
  rcases hp with rfl | rfl | rfl <;> rfl
theorem jbC_set : ∀ (R : List Nat) (i x : Nat), i < R.length → (((jbC R).set (i * 3) (.int .u32 (jO x : Int))).set (i * 3 + 1) (.int .u16 (jS x : Int))).set (i * 3 + 2) (.int .i64 (jG x)) = jbC (R.set i x)
  | [], i, x, h => by simp at h
  | y :: R, 0, x, h => by simp [jbC]
  | y :: R, i + 1, x, h => by
    have ih := jbC_set R i x (by simp at h; omega)
    rw [List.set_cons_succ, jbC_cons, jbC_cons, ← ih]
    have key : ∀ (L : List Value) (k : Nat) (v : Value), ([Value.int .u32 (jO y : Int), .int .u16 (jS y : Int), .int .i64 (jG y)] ++ L).set (k + 3) v = [Value.int .u32 (jO y : Int), .int .u16 (jS y : Int), .int .i64 (jG y)] ++ L.set k v := fun L k v => by simp
    rw [show (i + 1) * 3 = i * 3 + 3 by omega, show i * 3 + 3 + 1 = i * 3 + 1 + 3 by omega, show i * 3 + 3 + 2 = i * 3 + 2 + 3 by omega, key, key, key]
theorem ty_uj : Ty 36 (.agg #[.int .u32 0, .int .u16 0, .int .i64 0]) 3 16 := ty_of (by kernel_rfl) rfl (by omega) (by omega)
theorem ty_rj : Ty 26 (.agg #[.int .u32 0, .int .u16 0, .int .i64 0]) 3 16 := ty_of (by kernel_rfl) rfl (by omega) (by omega)
theorem nws_bx3 {t : TypeId} {w : World} {m : Nat} {u0 u1 u2 : Value} (h : Bx3 t w m u0 u1 u2) (o0 : u0.oneCell' = true) (o1 : u1.oneCell' = true) (o2 : u2.oneCell' = true) : Nws w ⟨m, 0, none⟩ 1 3 [u0, u1, u2] := nws_three h.cell.1 h.cell.2.1 h.cell.2.2 o0 o1 o2
theorem ujsl_size (w : World) : (sizeOf (Try.prog.elem 47)).run Try.prog w = .ok 3 w := by
  have he : Try.prog.elem 47 = 36 := by unfold Program.elem; rw [Try.underlying47]
  obtain ⟨⟨i, hi, _, hs, _⟩, _⟩ := ty_uj
  rw [he]
  simp [sizeOf, typeInfo, hi, hs]
theorem ujsl_under : Try.prog.underlying 47 = some (.slice (Try.prog.elem 47)) := by
  have he : Try.prog.elem 47 = 36 := by unfold Program.elem; rw [Try.underlying47]
  rw [he]; exact Try.underlying47
/-- l[:k] of jobs. -/
theorem ujsl_u (A : Option Addr) {L cl k : Nat} (hk : k ≤ L) (hcl : L ≤ cl) (w' : World) : (Instr.slice 47 (.slice A L cl) none (some (.int .i64 (k : Int))) none).run Try.prog w' = .ok (.slice A k cl) w' := by
  rw [run_slice_h w' _ _ _ _ ujsl_under .i64 _ (by omega) (by omega), ujsl_size]
  simp only [Result.andThen, sliced, Int.toNat_natCast, Nat.zero_mul, Nat.sub_zero]
  congr 2
  split
  · rfl
  · rcases A with _ | a
    · rfl
    · simp [Addr.add]
theorem rjsl_size (w : World) : (sizeOf (Try.prog.elem 30)).run Try.prog w = .ok 3 w := by
  have he : Try.prog.elem 30 = 26 := by unfold Program.elem; rw [Try.underlying30]
  obtain ⟨⟨i, hi, _, hs, _⟩, _⟩ := ty_rj
  rw [he]
  simp [sizeOf, typeInfo, hi, hs]
theorem rjsl_under : Try.prog.underlying 30 = some (.slice (Try.prog.elem 30)) := by
  have he : Try.prog.elem 30 = 26 := by unfold Program.elem; rw [Try.underlying30]
  rw [he]; exact Try.underlying30
/-- l[:k], l[k:] of the document's jobs. -/
theorem rjsl_u (A : Option Addr) {L cl k : Nat} (hk : k ≤ L) (hcl : L ≤ cl) (w' : World) : (Instr.slice 30 (.slice A L cl) none (some (.int .i64 (k : Int))) none).run Try.prog w' = .ok (.slice A k cl) w' := by
  rw [run_slice_h w' _ _ _ _ rjsl_under .i64 _ (by omega) (by omega), rjsl_size]
  simp only [Result.andThen, sliced, Int.toNat_natCast, Nat.zero_mul, Nat.sub_zero]
  congr 2
  split
  · rfl
  · rcases A with _ | a
    · rfl
    · simp [Addr.add]
section
variable {w : World} {base g n c k r sz : Nat} {e : TypeId} {xs : List Value} {A : Option Addr}
theorem OwnT.uptoG (h : OwnT w base e sz (.slice A n c) n xs) (hk : k ≤ n) : OwnT w base e sz (.slice A k c) k (xs.take (k * sz)) := by
  have hl := h.1
  have hm : k * sz ≤ n * sz := Nat.mul_le_mul_right sz hk
  rcases h.2 with ⟨e1, hn⟩ | ⟨g, cap, cur, e1, hb, hg, h1, h2, h3, ht⟩
  · injection e1 with e1 e2 e3
    obtain rfl : k = 0 := by omega
    subst e1 e3
    rw [Nat.zero_mul, List.take_zero]
    exact OwnT.nil _ _ _ _
  · injection e1 with e1 e2 e3
    subst e1 e3
    refine ⟨by rw [List.length_take]; omega, .inr ⟨g, c, cur, rfl, hb, hg, by omega, h2, h3, ?_⟩⟩
    rw [← ht, List.take_take]
    congr 1
    omega
theorem OwnT.setG (h : OwnT w base e sz (.slice (some ⟨g, 0, none⟩) r c) n xs) (v : Value) (hk : k < n * sz) : OwnT (w.setCell ⟨g, k, none⟩ v) base e sz (.slice (some ⟨g, 0, none⟩) r c) n (xs.set k v) := by
  have hl := h.1
  rcases h.2 with ⟨e1, hn⟩ | ⟨g', cap, cur, e1, hb, hg, h1, h2, h3, ht⟩
  · cases e1
  · injection e1 with e1 e2 e3
    injection e1 with e1
    injection e1 with e1
    subst e1 e2 e3
    refine ⟨by rw [List.length_set]; exact hl, .inr ⟨g, c, cur.setIfInBounds k v, rfl, hb, heap_setCell_same w g k cur _ _ hg, h1, h2, by rw [Array.size_setIfInBounds]; exact h3, ?_⟩⟩
    rw [Array.toList_setIfInBounds, ← ht, List.take_set]
theorem OwnT.fz (h : OwnT w base e sz (.slice (some ⟨g, 0, none⟩) r c) n xs) (j : Nat) : w.frozen? ⟨g, j, none⟩ = false := by
  obtain ⟨cur, hc⟩ := h.kind rfl
  exact frozen_of_row w g j _ _ hc
end
/-- A row of jobs. -/
abbrev JbR (w : World) (base : Nat) (t : TypeId) (v : Value) (R : List Nat) : Prop := OwnT w base t 3 v R.length (jbC R)
section
variable {w : World} {base g n c i x : Nat} {t : TypeId} {R : List Nat} {A : Option Addr}
theorem JbR.cells (h : JbR w base t (.slice (some ⟨g, 0, none⟩) n c) R) (hx : R[i]? = some x) : w.cell? ⟨g, i * 3, none⟩ = some (.int .u32 (jO x : Int)) ∧ w.cell? ⟨g, i * 3 + 1, none⟩ = some (.int .u16 (jS x : Int)) ∧ w.cell? ⟨g, i * 3 + 2, none⟩ = some (.int .i64 (jG x)) := by
  obtain ⟨h0, h1, h2⟩ := jbC_get hx
  exact ⟨OwnT.cellAt h h0, OwnT.cellAt h h1, OwnT.cellAt h h2⟩
theorem JbR.set (h : JbR w base t (.slice (some ⟨g, 0, none⟩) n c) R) (hi : i < R.length) (x : Nat) : JbR (((w.setCell ⟨g, i * 3, none⟩ (.int .u32 (jO x : Int))).setCell ⟨g, i * 3 + 1, none⟩ (.int .u16 (jS x : Int))).setCell ⟨g, i * 3 + 2, none⟩ (.int .i64 (jG x))) base t (.slice (some ⟨g, 0, none⟩) n c) (R.set i x) := by
  unfold JbR
  rw [← jbC_set R i x hi, List.length_set]
  exact ((OwnT.setG h _ (by omega)).setG _ (by omega)).setG _ (by omega)
theorem kp3_at {S : Nat → Prop} (w : World) (b o : Nat) (u0 u1 u2 : Value) (hb : S b) : Kp S w (((w.setCell ⟨b, o, none⟩ u0).setCell ⟨b, o + 1, none⟩ u1).setCell ⟨b, o + 2, none⟩ u2) :=
  ((Kp.setCell (p := ⟨b, o, none⟩) hb u0).trans' (Kp.setCell (p := ⟨b, o + 1, none⟩) hb u1)).trans' (Kp.setCell (p := ⟨b, o + 2, none⟩) hb u2)
end

/-- At block g lies a queue: its row of jobs R, its places M in the map b (at most c of them); all that is its own lies in F. -/
structure QuR (w : World) (F : Nat → Prop) (g b : Nat) (A : Option Addr) (n cp : Nat) (R : List Nat) (M : Nat → Option Nat) (c : Nat) : Prop where
  blk : w.heap[g]? = some (.cells #[.slice A n cp, .map (some b)] 50 (0, 0))
  row : JbR w 0 36 (.slice A n cp) R
  mp : MpU w b M c
  fg : F g
  fb : F b
  fv : ∀ k, (Value.slice A n cp).ownBlock = some k → F k
section
variable {w w1 : World} {F S G : Nat → Prop} {g b n cp c : Nat} {A : Option Addr} {R : List Nat} {M : Nat → Option Nat}
theorem QuR.glt (h : QuR w F g b A n cp R M c) : g < w.heap.size := (Array.getElem?_eq_some_iff.1 h.blk).1
theorem QuR.mono (h : QuR w F g b A n cp R M c) (hF : ∀ k, F k → G k) : QuR w G g b A n cp R M c := ⟨h.blk, h.row, h.mp, hF _ h.fg, hF _ h.fb, fun k hk => hF _ (h.fv k hk)⟩
theorem QuR.lt (h : QuR w F g b A n cp R M c) : QuR w (fun k => F k ∧ k < w.heap.size) g b A n cp R M c := ⟨h.blk, h.row, h.mp, ⟨h.fg, h.glt⟩, ⟨h.fb, h.mp.lt⟩, fun k hk => ⟨h.fv k hk, OwnT.lt h.row k hk⟩⟩
theorem QuR.keep (h : QuR w F g b A n cp R M c) (hk : Kp S w w1) (hS : ∀ k, k < w.heap.size → F k → ¬ S k) : QuR w1 F g b A n cp R M c :=
  ⟨(hk.block g h.glt (hS g h.glt h.fg)).trans h.blk, OwnT.keep h.row hk fun k hk' => hS k (OwnT.lt h.row k hk') (h.fv k hk'), h.mp.keep hk (hS b h.mp.lt h.fb), h.fg, h.fb, h.fv⟩
theorem QuR.no (h : QuR w F g b A n cp R M c) (hk : Kp No w w1) : QuR w1 F g b A n cp R M c := h.keep hk fun _ _ _ f => f
theorem QuR.c0 (h : QuR w F g b A n cp R M c) : w.cell? ⟨g, 0, none⟩ = some (.slice A n cp) := by rw [cell_of_row w g 0 _ _ _ h.blk]; rfl
theorem QuR.c1 (h : QuR w F g b A n cp R M c) : w.cell? ⟨g, 1, none⟩ = some (.map (some b)) := by rw [cell_of_row w g 1 _ _ _ h.blk]; rfl
theorem QuR.fz (h : QuR w F g b A n cp R M c) (j : Nat) : w.frozen? ⟨g, j, none⟩ = false := frozen_of_row w g j _ _ h.blk
theorem QuR.len (h : QuR w F g b A n cp R M c) : n = R.length := OwnT.len h.row
theorem QuR.ngb (h : QuR w F g b A n cp R M c) : g ≠ b := fun e => by
  subst e
  obtain ⟨es, cl, e2⟩ := h.mp.blk h.blk
  cases e2
theorem QuR.nvg (h : QuR w F g b A n cp R M c) : (Value.slice A n cp).ownBlock ≠ some g := fun hk => by
  obtain ⟨cur, h1⟩ := OwnT.kind h.row hk
  rw [h.blk] at h1
  injection h1 with h1
  injection h1 with _ h1
  exact absurd h1 (by decide)
theorem QuR.nvb (h : QuR w F g b A n cp R M c) : (Value.slice A n cp).ownBlock ≠ some b := fun hk => by
  obtain ⟨cur, h1⟩ := OwnT.kind h.row hk
  obtain ⟨es, cl, e2⟩ := h.mp.blk h1
  cases e2
end
end Go.Proofs.Ytjbnbbblafmldaa
