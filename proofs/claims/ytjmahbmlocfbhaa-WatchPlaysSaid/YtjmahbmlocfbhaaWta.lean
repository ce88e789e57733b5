/- A watch of package watch in memory; New, Len, Now, has, Of and Name, each as a contract. No condition. -/
import Derived.Test.YtjmahbmlocfbhaaWtm
import Derived.Test.YtjmahbmlocfbhaaBasf
import Derived.Deep.QuietTactic
import Derived.BigQuiet
namespace Go.Proofs.Ytjmahbmlocfbhaa
open Go.RowKit
set_option linter.unusedVariables false
set_option maxRecDepth 20000
set_option linter.unusedSimpArgs false

/-- The block b holds the whole numbers ns. -/
def IRow (w : World) (b : Nat) (ns : List Nat) : Prop := ∃ cur : Array Value, w.heap[b]? = some (.cells cur 3 (0, 0)) ∧ ∀ (j : Nat) x, ns[j]? = some x → cur[j]? = some (.int .i64 (x : Int))
section
variable {w w1 : World} {b : Nat} {ns : List Nat} {S : Nat → Prop}
theorem IRow.lt (h : IRow w b ns) : b < w.heap.size := by
  obtain ⟨cur, h1, _⟩ := h
  exact (Array.getElem?_eq_some_iff.1 h1).1
theorem IRow.cell (h : IRow w b ns) {j x : Nat} (hj : ns[j]? = some x) : w.cell? ⟨b, j, none⟩ = some (.int .i64 (x : Int)) := by
  obtain ⟨cur, h1, h2⟩ := h
  rw [cell_of_row w b j _ _ _ h1, h2 j x hj]
theorem IRow.fz (h : IRow w b ns) (j : Nat) : w.frozen? ⟨b, j, none⟩ = false := by
  obtain ⟨cur, h1, _⟩ := h
  exact frozen_of_row w b j _ _ h1
theorem IRow.keep (h : IRow w b ns) (hk : Kp S w w1) (hS : ¬ S b) : IRow w1 b ns := by
  obtain ⟨cur, h1, h2⟩ := h
  exact ⟨cur, by rw [hk.block b (Array.getElem?_eq_some_iff.1 h1).1 hS]; exact h1, h2⟩
theorem IRow.no (h : IRow w b ns) (hk : Kp No w w1) : IRow w1 b ns := h.keep hk fun f => f
theorem IRow.set (h : IRow w b ns) (k x : Nat) : IRow (w.setCell ⟨b, k, none⟩ (.int .i64 (x : Int))) b (ns.set k x) := by
  obtain ⟨cur, h1, h2⟩ := h
  refine ⟨cur.setIfInBounds k (.int .i64 (x : Int)), heap_setCell_same w b k cur _ _ h1, fun j y hj => ?_⟩
  rw [List.getElem?_set] at hj
  rw [Array.getElem?_setIfInBounds]
  by_cases e : k = j
  · subst e
    rw [if_pos rfl] at hj
    split at hj
    · rename_i hl
      injection hj with hj
      subst hj
      have := (Array.getElem?_eq_some_iff.1 (h2 k _ (List.getElem?_eq_getElem hl))).1
      rw [if_pos rfl, if_pos this]
    · cases hj
  · rw [if_neg e] at hj
    rw [if_neg e]
    exact h2 j y hj
theorem IRow.new (w : World) (n : Nat) : IRow (w.alloc (.cells (zi n) 3)) w.heap.size (List.replicate n 0) := by
  refine ⟨zi n, heap_alloc_new w _, fun j x hj => ?_⟩
  rw [List.getElem?_replicate] at hj
  split at hj
  · rename_i hl
    injection hj with hj
    subst hj
    exact zi_get hl
  · cases hj
end
/-- What a box of a watch holds. -/
def wtC (T : Wt) (ga c : Nat) : Array Value := #[.int .i64 (T.late : Int), .int .i64 (T.gone : Int), .slice (some ⟨ga, 0, none⟩) T.hs.length c, .int .i64 (T.now : Int), .int .i64 (T.ep : Int)]
/-- At block g lies a watch T, its ticks in the block ga; all that is its own lies in F. -/
structure WtR (w : World) (F : Nat → Prop) (g : Nat) (T : Wt) (ga c : Nat) : Prop where
  blk : w.heap[g]? = some (.cells (wtC T ga c) 51 (0, 0))
  row : IRow w ga T.hs
  fg : F g
  fa : F ga
  cap : T.hs.length ≤ c
  ok : T.Ok
def WtAt (w : World) (F : Nat → Prop) (g : Nat) (T : Wt) : Prop := ∃ ga c, WtR w F g T ga c
section
variable {w w1 : World} {F S G : Nat → Prop} {g ga c : Nat} {T : Wt}
theorem WtR.glt (h : WtR w F g T ga c) : g < w.heap.size := (Array.getElem?_eq_some_iff.1 h.blk).1
theorem WtR.mono (h : WtR w F g T ga c) (hF : ∀ k, F k → G k) : WtR w G g T ga c := ⟨h.blk, h.row, hF _ h.fg, hF _ h.fa, h.cap, h.ok⟩
theorem WtR.keep (h : WtR w F g T ga c) (hk : Kp S w w1) (hS : ∀ k, k < w.heap.size → F k → ¬ S k) : WtR w1 F g T ga c :=
  ⟨(hk.block g h.glt (hS g h.glt h.fg)).trans h.blk, h.row.keep hk (hS ga h.row.lt h.fa), h.fg, h.fa, h.cap, h.ok⟩
theorem WtR.no (h : WtR w F g T ga c) (hk : Kp No w w1) : WtR w1 F g T ga c := h.keep hk fun _ _ _ f => f
theorem WtAt.mono (h : WtAt w F g T) (hF : ∀ k, F k → G k) : WtAt w G g T := by
  obtain ⟨ga, c, h⟩ := h
  exact ⟨ga, c, h.mono hF⟩
theorem WtAt.keep (h : WtAt w F g T) (hk : Kp S w w1) (hS : ∀ k, k < w.heap.size → F k → ¬ S k) : WtAt w1 F g T := by
  obtain ⟨ga, c, h⟩ := h
  exact ⟨ga, c, h.keep hk hS⟩
theorem WtAt.no (h : WtAt w F g T) (hk : Kp No w w1) : WtAt w1 F g T := h.keep hk fun _ _ _ f => f
theorem WtAt.lt (h : WtAt w F g T) : WtAt w (fun k => F k ∧ k < w.heap.size) g T := by
  obtain ⟨ga, c, h⟩ := h
  exact ⟨ga, c, h.blk, h.row, ⟨h.fg, h.glt⟩, ⟨h.fa, h.row.lt⟩, h.cap, h.ok⟩
theorem WtAt.ok (h : WtAt w F g T) : T.Ok := by
  obtain ⟨ga, c, h⟩ := h
  exact h.ok
theorem WtR.apart (h : WtR w F g T ga c) : g ≠ ga := fun e => by
  subst e
  obtain ⟨cur, h1, _⟩ := h.row
  rw [h.blk] at h1
  injection h1 with h1
  injection h1 with _ h1
  exact absurd h1 (by decide)
theorem WtR.c0 (h : WtR w F g T ga c) : w.cell? ⟨g, 0, none⟩ = some (.int .i64 (T.late : Int)) := by rw [cell_of_row w g 0 _ _ _ h.blk]; rfl
theorem WtR.c1 (h : WtR w F g T ga c) : w.cell? ⟨g, 1, none⟩ = some (.int .i64 (T.gone : Int)) := by rw [cell_of_row w g 1 _ _ _ h.blk]; rfl
theorem WtR.c2 (h : WtR w F g T ga c) : w.cell? ⟨g, 2, none⟩ = some (.slice (some ⟨ga, 0, none⟩) T.hs.length c) := by rw [cell_of_row w g 2 _ _ _ h.blk]; rfl
theorem WtR.c3 (h : WtR w F g T ga c) : w.cell? ⟨g, 3, none⟩ = some (.int .i64 (T.now : Int)) := by rw [cell_of_row w g 3 _ _ _ h.blk]; rfl
theorem WtR.c4 (h : WtR w F g T ga c) : w.cell? ⟨g, 4, none⟩ = some (.int .i64 (T.ep : Int)) := by rw [cell_of_row w g 4 _ _ _ h.blk]; rfl
theorem WtR.fz (h : WtR w F g T ga c) (j : Nat) : w.frozen? ⟨g, j, none⟩ = false := frozen_of_row w g j _ _ h.blk
end

/-- A watch comes back. -/
def WnPost (w : World) (T : Wt) (e : Ending) (w1 : World) : Prop := ∃ g, e = .returned (.tuple #[.pointer (some ⟨g, 0, none⟩), .int .i64 0]) ∧ WtAt w1 (fun k => w.heap.size ≤ k) g T ∧ Kp No w w1
theorem wnew_no (w : World) (n a b : Int) (h : ¬ Wt.Right n a b) : Calls Try.prog 7 #[.int .i64 n, .int .i64 a, .int .i64 b] w fun e w1 => e = .returned (.tuple #[.pointer none, .int .i64 1]) ∧ w = w1 := by
  unfold Wt.Right at h
  by_cases h1 : n < 1
  · clear h
    go_enter Try.func7, Try.ntmps7
    go_wp2
    go_ret2
    exact ⟨rfl, rfl⟩
  by_cases h2 : n > 32
  · clear h
    go_enter Try.func7, Try.ntmps7
    go_wp2
    go_ret2
    exact ⟨rfl, rfl⟩
  by_cases h3 : a < 1
  · clear h
    go_enter Try.func7, Try.ntmps7
    go_wp2
    go_ret2
    exact ⟨rfl, rfl⟩
  by_cases h4 : b ≤ a
  · clear h
    go_enter Try.func7, Try.ntmps7
    go_wp2
    go_ret2
    exact ⟨rfl, rfl⟩
  have h5 : b > 1099511627776 := by omega
  clear h
  go_enter Try.func7, Try.ntmps7
  go_wp2
  go_ret2
  exact ⟨rfl, rfl⟩
theorem wnew_any (w : World) (n a b : Nat) (h : Wt.Right (n : Int) (a : Int) (b : Int)) : Calls Try.prog 7 #[.int .i64 (n : Int), .int .i64 (a : Int), .int .i64 (b : Int)] w (WnPost w (Wt.new n a b)) := by
  have hok := hide (Wt.new_ok h)
  obtain ⟨h1, h2, h3, h4, h5⟩ := h
  have hmk := fun w => make_ints w n (n : Int) rfl (by omega)
  go_enter Try.func7, Try.ntmps7
  go_wp2
  go_ret2
  have e1 : (w.alloc (.cells (zi n) 3)).heap.size = w.heap.size + 1 := by simp
  have k2 := Kp.alloc No (w.alloc (.cells (zi n) 3)) (.cells (wtC (Wt.new n a b) w.heap.size n) 51)
  have hb := heap_alloc_new (w.alloc (.cells (zi n) 3)) (.cells (wtC (Wt.new n a b) w.heap.size n) 51)
  rw [e1] at hb
  have hl : (Wt.new n a b).hs.length = n := List.length_replicate
  have hc : wtC (Wt.new n a b) w.heap.size n = #[.int .i64 (a : Int), .int .i64 (b : Int), .slice (some ⟨w.heap.size, 0, none⟩) n n, .int .i64 0, .int .i64 0] := by unfold wtC; rw [hl]; rfl
  rw [← hc]
  exact ⟨w.heap.size + 1, rfl, ⟨w.heap.size, n, hb, (IRow.new w n).no k2, by show _ ≤ _; omega, Nat.le_refl _, by rw [hl]; exact Nat.le_refl _, hok.out⟩, (Kp.alloc No w _).trans' k2⟩

theorem wlen_nil (w : World) : Calls Try.prog 9 #[.pointer none] w fun e w1 => e = .returned (.int .i64 0) ∧ w = w1 := by
  go_enter Try.func9, Try.ntmps9
  go_wp2
  go_ret
  exact ⟨rfl, rfl⟩
theorem wnow_nil (w : World) : Calls Try.prog 14 #[.pointer none] w fun e w1 => e = .returned (.tuple #[.int .i64 0, .int .i64 0]) ∧ w = w1 := by
  go_enter Try.func14, Try.ntmps14
  go_wp2
  go_ret2
  exact ⟨rfl, rfl⟩
theorem whas_nil (w : World) : Calls Try.prog 22 #[.pointer none, .int .i64 0] w fun e w1 => e = .returned (.bool false) ∧ w = w1 := by
  go_enter Try.func22, Try.ntmps22
  go_wp2_with fail
  refine (wlen_nil _).mono ?_
  rintro e w1 ⟨rfl, rfl⟩
  go_wp2_with fail
  go_ret
  exact ⟨rfl, rfl⟩
theorem wof_nil (w : World) : Calls Try.prog 15 #[.pointer none, .int .i64 0] w fun e w1 => e = .returned (.int .i64 2) ∧ w = w1 := by
  go_enter Try.func15, Try.ntmps15
  go_wp2_with fail
  refine (whas_nil _).mono ?_
  rintro e w1 ⟨rfl, rfl⟩
  go_wp2_with fail
  go_ret
  exact ⟨rfl, rfl⟩
theorem wheard_nil (w : World) : Calls Try.prog 12 #[.pointer none, .int .i64 0] w fun e w1 => e = .returned (.bool false) ∧ w = w1 := by
  go_enter Try.func12, Try.ntmps12
  go_wp2_with fail
  refine (whas_nil _).mono ?_
  rintro e w1 ⟨rfl, rfl⟩
  go_wp2_with fail
  go_ret
  exact ⟨rfl, rfl⟩
theorem wtick_nil (w : World) : Calls Try.prog 10 #[.pointer none, .int .i64 1] w fun e w1 => e = .returned (.bool false) ∧ w = w1 := by
  go_enter Try.func10, Try.ntmps10
  go_wp2_with fail
  refine (wlen_nil _).mono ?_
  rintro e w1 ⟨rfl, rfl⟩
  go_wp2_with fail
  go_ret
  exact ⟨rfl, rfl⟩
theorem wcount_nil (w : World) : Calls Try.prog 17 #[.pointer none, .int .i64 0] w fun e w1 => e = .returned (.int .i64 0) ∧ w = w1 := by
  go_enter Try.func17, Try.ntmps17
  go_wp2_with fail
  refine (wlen_nil _).mono ?_
  rintro e w1 ⟨rfl, rfl⟩
  go_wp2_with fail
  go_loopw [5, 9] (fun n i wr => n = .int .i64 0 ∧ i = .int .i64 0 ∧ wr = w) (fun _ i _ => 0)
  case atStart => exact ⟨rfl, rfl, rfl⟩
  case round =>
    obtain ⟨rfl, rfl, rfl⟩ := hrel
    go_wp2_with fail
    go_ret
    exact ⟨rfl, rfl⟩

section
variable {w : World} {F : Nat → Prop} {g : Nat} {T : Wt}
theorem wlen_any (h : WtAt w F g T) : Calls Try.prog 9 #[.pointer (some ⟨g, 0, none⟩)] w fun e w1 => e = .returned (.int .i64 (T.hs.length : Int)) ∧ w = w1 := by
  obtain ⟨ga, c, h⟩ := h
  have x2 := h.c2
  clear h
  go_enter Try.func9, Try.ntmps9
  go_wp2
  go_ret
  exact ⟨rfl, rfl⟩
theorem wnow_any (h : WtAt w F g T) : Calls Try.prog 14 #[.pointer (some ⟨g, 0, none⟩)] w fun e w1 => e = .returned (.tuple #[.int .i64 (T.now : Int), .int .i64 (T.ep : Int)]) ∧ Kp No w w1 := by
  obtain ⟨ga, c, h⟩ := h
  have x3 : w.drew.cell? ⟨g, 3, none⟩ = some (.int .i64 (T.now : Int)) := h.c3
  have x4 : w.drew.cell? ⟨g, 4, none⟩ = some (.int .i64 (T.ep : Int)) := h.c4
  clear h
  go_enter Try.func14, Try.ntmps14
  go_wp2_with fail
  go_region
  go_wp2
  go_ret2
  exact ⟨rfl, (Kp.refl No w).drew⟩
theorem whas_any (h : WtAt w F g T) (z : Int) : Calls Try.prog 22 #[.pointer (some ⟨g, 0, none⟩), .int .i64 z] w fun e w1 => e = .returned (.bool (decide (T.In z))) ∧ w = w1 := by
  by_cases h0 : 0 ≤ z
  · have e : decide (T.In z) = decide (z < (T.hs.length : Int)) := decide_eq_decide.2 ⟨fun hz => hz.2, fun hz => ⟨h0, hz⟩⟩
    rw [e]
    clear e
    go_enter Try.func22, Try.ntmps22
    go_wp2_with fail
    refine (wlen_any h).mono ?_
    rintro e w1 ⟨rfl, rfl⟩
    go_wp2_with fail
    go_ret
    exact ⟨rfl, rfl⟩
  · have e : decide (T.In z) = false := decide_eq_false fun hz => h0 hz.1
    rw [e]
    go_enter Try.func22, Try.ntmps22
    go_wp2_with fail
    go_ret
    exact ⟨rfl, rfl⟩
set_option maxHeartbeats 1000000 in
theorem wof_any (h : WtAt w F g T) (z : Int) : Calls Try.prog 15 #[.pointer (some ⟨g, 0, none⟩), .int .i64 z] w fun e w1 => e = .returned (.int .i64 (T.st z : Int)) ∧ Kp No w w1 := by
  have HH := hide (whas_any h z)
  by_cases hz : T.In z
  · obtain ⟨ga, c, h⟩ := h
    obtain ⟨k, rfl⟩ : ∃ k : Nat, z = k := ⟨z.toNat, by have := hz.1; omega⟩
    have hk : k < T.hs.length := by have := hz.2; omega
    obtain ⟨x, hx⟩ : ∃ x, T.hs[k]? = some x := ⟨_, List.getElem?_eq_getElem hk⟩
    have hxn := h.ok.heard hx
    have htk := h.ok.tk
    have x0 : w.drew.cell? ⟨g, 0, none⟩ = some (.int .i64 (T.late : Int)) := h.c0
    have x1 : w.drew.cell? ⟨g, 1, none⟩ = some (.int .i64 (T.gone : Int)) := h.c1
    have x2 : w.drew.cell? ⟨g, 2, none⟩ = some (.slice (some ⟨ga, 0, none⟩) T.hs.length c) := h.c2
    have x3 : w.drew.cell? ⟨g, 3, none⟩ = some (.int .i64 (T.now : Int)) := h.c3
    have xk : w.drew.cell? ⟨ga, k, none⟩ = some (.int .i64 (x : Int)) := h.row.cell hx
    have hd : decide (T.In (k : Int)) = true := decide_eq_true hz
    rw [hd] at HH
    have hs : T.st (k : Int) = T.by_ (T.now - x) := by rw [T.st_nat, T.stN_in hx]
    rw [hs]
    obtain ⟨d, hdx⟩ : ∃ d, T.now = x + d := Nat.exists_eq_add_of_le hxn
    have hsub : T.now - x = d := by rw [hdx]; exact Nat.add_sub_cancel_left ..
    rw [hsub]
    have hw : (T.now : Int) - (x : Int) = (d : Int) := by omega
    have hwr : IntKind.i64.wrap (d : Int) = (d : Int) := IntWalk.i64_in _ (by omega)
    have HD := hide hdx
    clear h hz hd hs hsub hx hdx hxn htk
    go_enter Try.func15, Try.ntmps15
    go_wp2_with fail
    refine HH.out.mono ?_
    rintro e w1 ⟨rfl, rfl⟩
    go_wp2_with fail
    go_region
    by_cases hg : T.gone ≤ d
    · have e : T.by_ d = 2 := by unfold Wt.by_; rw [if_pos hg]
      have HE := hide e
      clear e
      go_wp2_with fail
      go_ret
      exact ⟨by rw [HE.out]; rfl, (Kp.refl No w).drew⟩
    by_cases hl : T.late ≤ d
    · have e : T.by_ d = 1 := by unfold Wt.by_; rw [if_neg hg, if_pos hl]
      have HE := hide e
      clear e
      go_wp2_with fail
      go_ret
      exact ⟨by rw [HE.out]; rfl, (Kp.refl No w).drew⟩
    · have e : T.by_ d = 0 := by unfold Wt.by_; rw [if_neg hg, if_neg hl]
      have HE := hide e
      clear e
      go_wp2_with fail
      go_ret
      exact ⟨by rw [HE.out]; rfl, (Kp.refl No w).drew⟩
  · have hd : decide (T.In z) = false := decide_eq_false hz
    rw [hd] at HH
    rw [T.st_out hz]
    clear h hz hd
    go_enter Try.func15, Try.ntmps15
    go_wp2_with fail
    refine HH.out.mono ?_
    rintro e w1 ⟨rfl, rfl⟩
    go_wp2_with fail
    go_ret
    exact ⟨rfl, Kp.refl No w⟩
end
end Go.Proofs.Ytjmahbmlocfbhaa
