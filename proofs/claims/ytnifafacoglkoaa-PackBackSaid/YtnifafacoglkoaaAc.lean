/- The acts of package pack's statements as they lie in memory, and the guard on their size. -/
import Derived.Test.YtnifafacoglkoaaRf
import Derived.Test.YtnifafacoglkoaaOp
namespace Go.Proofs.Ytnifafacoglkoaa
open Go.RowKit Go.ChangeShapes Go.WideShapes Go.Deep
set_option linter.unusedVariables false

/-- What an act holds. -/
structure ActD where
  kind : Int
  n : Nat
  size : Int
  b : List UInt8
  o : Nat
  st : Nat
  sl : Nat
  gn : Nat

/-- An act's eight cells. -/
structure ActAt (w : World) (B off : Nat) (d : ActD) (A : Option Addr) (m c : Nat) : Prop where
  c0 : w.cell? ⟨B, off, none⟩ = some (.int .i64 d.kind)
  c1 : w.cell? ⟨B, off + 1, none⟩ = some (.int .u64 d.n)
  c2 : w.cell? ⟨B, off + 2, none⟩ = some (.int .i64 d.size)
  c3 : w.cell? ⟨B, off + 3, none⟩ = some (.slice A m c)
  c4 : w.cell? ⟨B, off + 4, none⟩ = some (.int .u32 d.o)
  c5 : w.cell? ⟨B, off + 5, none⟩ = some (.int .u16 d.st)
  c6 : w.cell? ⟨B, off + 6, none⟩ = some (.int .u16 d.sl)
  c7 : w.cell? ⟨B, off + 7, none⟩ = some (.int .u32 d.gn)
  bts : Bts w (.slice A m c) d.b
  small : m ≤ 9223372036854775807
  hn : d.n < 18446744073709551616
  ho : d.o < 4294967296
  hst : d.st < 65536
  hsl : d.sl < 65536
  hgn : d.gn < 4294967296
  hk : -9223372036854775808 ≤ d.kind ∧ d.kind ≤ 9223372036854775807
  hs : -9223372036854775808 ≤ d.size ∧ d.size ≤ 9223372036854775807

/-- The slice at A holds the acts ds. -/
def ActsAt (w : World) (A : Option Addr) (n : Nat) (ds : List ActD) : Prop :=
  n = ds.length ∧ n ≤ 9223372036854775807 ∧ ∀ (j : Nat) (d : ActD), ds[j]? = some d → ∃ B off A' m c, A = some ⟨B, off, none⟩ ∧ ActAt w B (off + j * 8) d A' m c

/-- The guard's answer: true only of few and short acts. -/
def LightPost (w : World) (ds : List ActD) (e : Ending) (w1 : World) : Prop :=
  ∃ b, e = .returned (.bool b) ∧ w = w1 ∧ (b = true → ds.length ≤ 40 ∧ ∀ d ∈ ds, d.b.length ≤ 4000)

set_option maxHeartbeats 1000000 in
theorem light_any {w : World} {A : Option Addr} {n c : Nat} {ds : List ActD} (h : ActsAt w A n ds) : Calls Try.prog 5 #[.slice A n c] w (LightPost w ds) := by
  obtain ⟨hn, hmax, hat⟩ := h
  have HN := hide hn
  have HA := hide hat
  clear hn hat
  go_enter Try.func5, Try.ntmps5
  go_wp2
  go_loop [3, 4] (fun s i => ∃ k q : Nat, k ≤ n ∧ k ≤ 40 ∧ i = .int .i64 (k : Int) ∧ s = .int .i64 (q : Int) ∧ q ≤ 5000 * k ∧ Hid (q ≤ 4000 → ∀ (j : Nat) d, j < k → ds[j]? = some d → d.b.length ≤ 4000)) (fun _ i => n - (intOf i).toNat)
  case atStart => exact ⟨0, 0, by omega, by omega, rfl, rfl, by omega, fun _ j _ hj => by omega⟩
  case round =>
    obtain ⟨k, q, hk, hk40, rfl, rfl, hq, HQ⟩ := hrel
    by_cases hlt : k < n
    · by_cases h40 : k < 40
      · obtain ⟨d, hd⟩ : ∃ d, ds[k]? = some d := ⟨_, List.getElem?_eq_getElem (by have := HN.out; omega)⟩
        obtain ⟨B, off, A', m, c', hA, ha⟩ := HA.out k d hd
        have HD := hide hd
        clear hd
        subst hA
        have c3 := ha.c3
        have hm := ha.small
        have hi : (k : Int) < n := by omega
        have hi40 : (k : Int) < 40 := by omega
        have HM := hide ha.bts.len
        go_wp2
        go_round
        case rel =>
          refine ⟨k + 1, q + min m 5000, by omega, by omega, by go_num, ?_, by omega, ?_⟩
          · congr 1
            split <;> omega
          · intro hs j d' hj hd'
            rcases Nat.lt_or_ge j k with g | g
            · exact HQ.out (by omega) j d' g hd'
            · obtain rfl : j = k := by omega
              rw [HD.out] at hd'
              injection hd' with hd'
              subst hd'
              have := HM.out
              omega
        case measure => simp [intOf]; omega
      · have hk' : (k : Int) < n := by omega
        have hi40 : ¬ (k : Int) < 40 := by omega
        have hn40 : ¬ (n : Int) ≤ 40 := by omega
        go_wp2
        go_ret
        exact ⟨false, rfl, rfl, fun h => by cases h⟩
    · have hk' : ¬ (k : Int) < n := by omega
      have hn40 : (n : Int) ≤ 40 := by omega
      have HE : Hid (k = n) := by show k = n; omega
      by_cases hq4 : q ≤ 4000
      · have hqi : (q : Int) ≤ 4000 := by omega
        go_wp2
        go_ret
        refine ⟨true, rfl, rfl, fun _ => ⟨by have := HN.out; omega, fun d hd => ?_⟩⟩
        obtain ⟨j, hj⟩ := List.getElem?_of_mem hd
        refine HQ.out hq4 j d ?_ hj
        have := (List.getElem?_eq_some_iff.1 hj).1
        have := HN.out
        have := HE.out
        omega
      · have hqi : ¬ (q : Int) ≤ 4000 := by omega
        go_wp2
        go_ret
        exact ⟨false, rfl, rfl, fun h => by cases h⟩

theorem cells35 : Try.prog.cellsOf 35 = 8 := by kernel_rfl
theorem cells33 : Try.prog.cellsOf 33 = 4 := by kernel_rfl
theorem cells30 : Try.prog.cellsOf 30 = 1 := by kernel_rfl
theorem cells31 : Try.prog.cellsOf 31 = 1 := by kernel_rfl
theorem cells29 : Try.prog.cellsOf 29 = 1 := by kernel_rfl
theorem cells26 : Try.prog.cellsOf 26 = 1 := by kernel_rfl
theorem cells5 : Try.prog.cellsOf 5 = 1 := by kernel_rfl
theorem cells3 : Try.prog.cellsOf 3 = 1 := by kernel_rfl

section
variable {H : Type} {enc : TypeId × Value → H} {w : World} {base : Nat} {spare : Nat → Bool} {held : Bool} {fuel : Nat}

theorem open_act {cs : List Value} {y : DataW H × List MemPlace} (h : DataW.trod enc Try.prog w base spare held fuel 35 cs = some y) :
    ∃ (d : ActD) (A : Option Addr) (m c : Nat), cs = [.int .i64 d.kind, .int .u64 d.n, .int .i64 d.size, .slice A m c, .int .u32 d.o, .int .u16 d.st, .int .u16 d.sl, .int .u32 d.gn] ∧
      Bts w (.slice A m c) d.b ∧ m ≤ 9223372036854775807 ∧ d.n < 18446744073709551616 ∧ d.o < 4294967296 ∧ d.st < 65536 ∧ d.sl < 65536 ∧ d.gn < 4294967296 ∧
      (-9223372036854775808 ≤ d.kind ∧ d.kind ≤ 9223372036854775807) ∧ (-9223372036854775808 ≤ d.size ∧ d.size ≤ 9223372036854775807) := by
  obtain ⟨n, hl, hf⟩ := open_parts Try.underlying35 h
  rw [cells35] at hl
  match cs, hl with
  | [v0, v1, v2, v3, v4, v5, v6, v7], _ =>
    obtain ⟨y0, h0⟩ := hf 0 3 0 _ rfl cells3
    obtain ⟨y1, h1⟩ := hf 1 29 1 _ rfl cells29
    obtain ⟨y2, h2⟩ := hf 2 3 2 _ rfl cells3
    obtain ⟨y3, h3⟩ := hf 3 26 3 _ rfl cells26
    obtain ⟨y4, h4⟩ := hf 4 33 4 _ rfl cells33
    simp only [List.drop_zero, List.drop_succ_cons, List.take_succ_cons, List.take_zero] at h0 h1 h2 h3 h4
    obtain ⟨kd, e0, _, w0⟩ := DataW.trod_int Try.underlying3 h0
    obtain ⟨nn, e1, w1⟩ := open_nat Try.underlying29 (fun _ h => (bounds_u64 h).1) h1
    obtain ⟨sz, e2, _, w2⟩ := DataW.trod_int Try.underlying3 h2
    obtain ⟨A, m, c, bs, e3, hb, hm⟩ := open_bts Try.underlying26 Try.underlying5 cells5 h3
    obtain ⟨n', _, hg⟩ := open_parts Try.underlying33 h4
    obtain ⟨z0, g0⟩ := hg 0 30 0 _ rfl cells30
    obtain ⟨z1, g1⟩ := hg 1 31 1 _ rfl cells31
    obtain ⟨z2, g2⟩ := hg 2 31 2 _ rfl cells31
    obtain ⟨z3, g3⟩ := hg 3 30 3 _ rfl cells30
    simp only [List.drop_zero, List.drop_succ_cons, List.take_succ_cons, List.take_zero] at g0 g1 g2 g3
    obtain ⟨o, f0, u0⟩ := open_nat Try.underlying30 (fun _ h => (bounds_u32 h).1) g0
    obtain ⟨st, f1, u1⟩ := open_nat Try.underlying31 (fun _ h => (bounds_u16 h).1) g1
    obtain ⟨sl, f2, u2⟩ := open_nat Try.underlying31 (fun _ h => (bounds_u16 h).1) g2
    obtain ⟨gn, f3, u3⟩ := open_nat Try.underlying30 (fun _ h => (bounds_u32 h).1) g3
    simp only [List.cons.injEq, and_true] at e0 e2
    subst e0 e1 e2 e3 f0 f1 f2 f3
    have b1 := bounds_u64 w1
    have b4 := bounds_u32 u0
    have b5 := bounds_u16 u1
    have b6 := bounds_u16 u2
    have b7 := bounds_u32 u3
    refine ⟨⟨kd, nn, sz, bs, o, st, sl, gn⟩, A, m, c, rfl, hb, by simp only [maxLen] at hm; omega, ?_, ?_, ?_, ?_, ?_, bounds_i64 w0, bounds_i64 w2⟩
    all_goals (simp only; omega)

theorem open_acts {v : Value} {x : DataW H × List MemPlace} (h : DataW.trod enc Try.prog w base spare held fuel 22 [v] = some x) :
    ∃ A n c ds, v = .slice A n c ∧ ActsAt w A n ds := by
  obtain ⟨A, len, cap, n, rfl, hl, _, hi⟩ := open_elems Try.underlying22 h
  have hch : ∀ i, i < len → ∃ d, ∃ B off A' m c, A = some ⟨B, off, none⟩ ∧ ActAt w B (off + i * 8) d A' m c := by
    intro i hil
    obtain ⟨a, cs, y, rfl, hcl, hat, ht⟩ := hi i hil
    rw [cells35] at hcl hat
    obtain ⟨d, A', m, c, rfl, hb, r⟩ := open_act ht
    obtain ⟨B, off, spot⟩ := a
    have hspot : spot = none := by
      obtain ⟨a', cs', y', ha', hcl', hat', _⟩ := hi 0 (by omega)
      injection ha' with ha'
      subst ha'
      rw [cells35] at hcl' hat'
      have := hat' 0 (by omega)
      rw [List.getElem?_eq_getElem (by omega)] at this
      simpa [Addr.add] using World.cell?_spot this
    subst hspot
    have ad : ∀ k, (⟨B, off, none⟩ : Addr).add k = ⟨B, off + k, none⟩ := by
      intro k
      unfold Addr.add
      split
      · simp_all
      · rfl
    have at' : ∀ j x, ([.int .i64 d.kind, .int .u64 d.n, .int .i64 d.size, .slice A' m c, .int .u32 d.o, .int .u16 d.st, .int .u16 d.sl, .int .u32 d.gn] : List Value)[j]? = some x → w.cell? ⟨B, off + i * 8 + j, none⟩ = some x := by
      intro j x hx
      have hj : j < 8 := (List.getElem?_eq_some_iff.1 hx).1
      have := hat j hj
      rw [ad, hx] at this
      rw [Nat.add_assoc]
      exact this
    obtain ⟨r1, r2, r3, r4, r5, r6, r7, r8⟩ := r
    exact ⟨d, B, off, A', m, c, rfl, at' 0 _ rfl, at' 1 _ rfl, at' 2 _ rfl, at' 3 _ rfl, at' 4 _ rfl, at' 5 _ rfl, at' 6 _ rfl, at' 7 _ rfl, hb, r1, r2, r3, r4, r5, r6, r7, r8⟩
  have hlist : ∀ k, k ≤ len → ∃ ds : List ActD, ds.length = k ∧ ∀ (j : Nat) (d : ActD), ds[j]? = some d → ∃ B off A' m c, A = some ⟨B, off, none⟩ ∧ ActAt w B (off + j * 8) d A' m c := by
    intro k
    induction k with
    | zero => exact fun _ => ⟨[], rfl, fun j d hj => by simp at hj⟩
    | succ k ih =>
      intro hk
      obtain ⟨ds, hl, hd⟩ := ih (by omega)
      obtain ⟨d, hd'⟩ := hch k (by omega)
      refine ⟨ds ++ [d], by simp [hl], fun j e hj => ?_⟩
      rcases Nat.lt_or_ge j k with g | g
      · rw [List.getElem?_append_left (by omega)] at hj
        exact hd j e hj
      · rw [List.getElem?_append_right (by omega)] at hj
        have hj0 : j - ds.length = 0 := by
          have := (List.getElem?_eq_some_iff.1 hj).1
          simp at this
          omega
        rw [hj0] at hj
        simp at hj
        subst hj
        obtain rfl : j = k := by omega
        exact hd'
  obtain ⟨ds, hl', hd⟩ := hlist len (Nat.le_refl _)
  exact ⟨A, len, cap, ds, rfl, hl'.symm, by simp only [maxLen] at hl; omega, hd⟩
end
end Go.Proofs.Ytnifafacoglkoaa
