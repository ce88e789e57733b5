/- The acts of layer 12's statements as they lie in memory. No condition. -/
import Derived.Test.YtndghapdpfgmoaaOp
import Derived.Test.YtndghapdpfgmoaaOcp
import Derived.Test.YtndghapdpfgmoaaMem
import Derived.Test.YtndghapdpfgmoaaVoq
namespace Go.Proofs.Ytndghapdpfgmoaa
open Go.RowKit Go.ChangeShapes Go.WideShapes Go.Deep
set_option linter.unusedVariables false
set_option maxRecDepth 20000

/-- What an act holds. -/
structure ActV where
  kind : Int
  s : Nat
  b : List UInt8
  n : Int
  m : Int
  bits : UInt8
/-- An act's nine cells. -/
structure ActVAt (w : World) (B off : Nat) (d : ActV) (A : Option Addr) (m c : Nat) : Prop where
  c0 : w.cell? ⟨B, off, none⟩ = some (.int .i64 d.kind)
  c1 : w.cell? ⟨B, off + 1, none⟩ = some (.int .u32 (cO d.s : Int))
  c2 : w.cell? ⟨B, off + 2, none⟩ = some (.int .u16 (cS d.s : Int))
  c3 : w.cell? ⟨B, off + 3, none⟩ = some (.int .u16 (cL d.s : Int))
  c4 : w.cell? ⟨B, off + 4, none⟩ = some (.int .u32 (cG d.s : Int))
  c5 : w.cell? ⟨B, off + 5, none⟩ = some (.slice A m c)
  c6 : w.cell? ⟨B, off + 6, none⟩ = some (.int .i64 d.n)
  c7 : w.cell? ⟨B, off + 7, none⟩ = some (.int .i64 d.m)
  c8 : w.cell? ⟨B, off + 8, none⟩ = some (.int .u8 (d.bits.toNat : Int))
  bts : Bts w (.slice A m c) d.b
  room : m ≤ c
  small : m ≤ 9223372036854775807
  nm : d.s < N96
theorem ActVAt.no {w w1 : World} {B off : Nat} {d : ActV} {A : Option Addr} {m c : Nat} (h : ActVAt w B off d A m c) (hk : Kp No w w1) : ActVAt w1 B off d A m c :=
  ⟨hk.cell h.c0 fun f => f, hk.cell h.c1 fun f => f, hk.cell h.c2 fun f => f, hk.cell h.c3 fun f => f, hk.cell h.c4 fun f => f, hk.cell h.c5 fun f => f, hk.cell h.c6 fun f => f, hk.cell h.c7 fun f => f, hk.cell h.c8 fun f => f, h.bts.no hk, h.room, h.small, h.nm⟩
/-- The slice at A holds the acts ds. -/
structure ActsV (w : World) (A : Option Addr) (n : Nat) (ds : List ActV) : Prop where
  len : n = ds.length
  big : n ≤ 9223372036854775807
  at_ : ∀ (j : Nat) (d : ActV), ds[j]? = some d → ∃ B off A' m c, A = some ⟨B, off, none⟩ ∧ ActVAt w B (off + j * 9) d A' m c
theorem ActsV.no {w w1 : World} {A : Option Addr} {n : Nat} {ds : List ActV} (h : ActsV w A n ds) (hk : Kp No w w1) : ActsV w1 A n ds :=
  ⟨h.len, h.big, fun j d hj => by
    obtain ⟨B, off, A', m, c, e, ha⟩ := h.at_ j d hj
    exact ⟨B, off, A', m, c, e, ha.no hk⟩⟩

theorem cells_actv : Try.prog.cellsOf 41 = 9 := by kernel_rfl
theorem cells_slcv : Try.prog.cellsOf 27 = 1 := by kernel_rfl
theorem cells_n64v : Try.prog.cellsOf 3 = 1 := by kernel_rfl
section
variable {H : Type} {enc : TypeId × Value → H} {w : World} {base : Nat} {spare : Nat → Bool} {held : Bool} {fuel : Nat}
theorem open_actv {cs : List Value} {y : DataW H × List MemPlace} (h : DataW.trod enc Try.prog w base spare held fuel 41 cs = some y) :
    ∃ (d : ActV) (A : Option Addr) (m c : Nat), cs = [.int .i64 d.kind, .int .u32 (cO d.s : Int), .int .u16 (cS d.s : Int), .int .u16 (cL d.s : Int), .int .u32 (cG d.s : Int), .slice A m c, .int .i64 d.n, .int .i64 d.m, .int .u8 (d.bits.toNat : Int)] ∧
      Bts w (.slice A m c) d.b ∧ m ≤ c ∧ m ≤ 9223372036854775807 ∧ d.s < N96 := by
  obtain ⟨n, hl, hf⟩ := open_parts Try.underlying41 h
  rw [cells_actv] at hl
  match cs, hl with
  | [v0, v1, v2, v3, v4, v5, v6, v7, v8], _ =>
    obtain ⟨y0, h0⟩ := hf 0 3 0 _ rfl cells_n64v
    obtain ⟨y1, h1⟩ := hf 1 26 1 _ rfl sh_cells
    obtain ⟨y5, h5⟩ := hf 2 27 5 _ rfl cells_slcv
    obtain ⟨y6, h6⟩ := hf 3 3 6 _ rfl cells_n64v
    obtain ⟨y7, h7⟩ := hf 4 3 7 _ rfl cells_n64v
    obtain ⟨y8, h8⟩ := hf 5 5 8 _ rfl cells_u8
    simp only [List.drop_zero, List.drop_succ_cons, List.take_succ_cons, List.take_zero] at h0 h1 h5 h6 h7 h8
    obtain ⟨k0, e0, _, w0⟩ := DataW.trod_int Try.underlying3 h0
    obtain ⟨s, hs, e1⟩ := open_sh h1
    obtain ⟨k6, e6, _, w6⟩ := DataW.trod_int Try.underlying3 h6
    obtain ⟨k7, e7, _, w7⟩ := DataW.trod_int Try.underlying3 h7
    obtain ⟨k8, e8, w8⟩ := open_nat Try.underlying5 (fun _ h => (bounds_u8 h).1) h8
    obtain ⟨A, m, c, bs, e5, ⟨hb, hr⟩, hm⟩ := open_btc h5
    simp only [List.cons.injEq, and_true] at e0 e6 e7
    simp only [shV, Value.agg.injEq, Array.mk.injEq, List.cons.injEq, and_true] at e1
    obtain ⟨f1, f2, f3, f4⟩ := e1
    have b8 := bounds_u8 w8
    have hk8 : ((UInt8.ofNat k8).toNat : Int) = (k8 : Int) := by rw [UInt8.toNat_ofNat']; omega
    subst e0 f1 f2 f3 f4 e5 e6 e7 e8
    exact ⟨⟨k0, s, bs, k6, k7, UInt8.ofNat k8⟩, A, m, c, by simp only [hk8], hb, hr, by unfold maxLen at hm; omega, hs⟩

theorem open_actsv {v : Value} {x : DataW H × List MemPlace} (h : DataW.trod enc Try.prog w base spare held fuel 22 [v] = some x) :
    ∃ A n c ds, v = .slice A n c ∧ ActsV w A n ds := by
  obtain ⟨A, len, cap, n, rfl, hl, _, hi⟩ := open_elems Try.underlying22 h
  have hch : ∀ i, i < len → ∃ d, ∃ B off A' m c, A = some ⟨B, off, none⟩ ∧ ActVAt w B (off + i * 9) d A' m c := by
    intro i hil
    obtain ⟨a, cs, y, rfl, hcl, hat, ht⟩ := hi i hil
    rw [cells_actv] at hcl hat
    obtain ⟨d, A', m, c, rfl, hb, r1, r2, r3⟩ := open_actv ht
    obtain ⟨B, off, spot⟩ := a
    have hspot : spot = none := by
      obtain ⟨a', cs', y', ha', hcl', hat', _⟩ := hi 0 (by omega)
      injection ha' with ha'
      subst ha'
      rw [cells_actv] at hcl' hat'
      have := hat' 0 (by omega)
      rw [List.getElem?_eq_getElem (by omega)] at this
      simpa [Addr.add] using World.cell?_spot this
    subst hspot
    have at' : ∀ j x, ([.int .i64 d.kind, .int .u32 (cO d.s : Int), .int .u16 (cS d.s : Int), .int .u16 (cL d.s : Int), .int .u32 (cG d.s : Int), .slice A' m c, .int .i64 d.n, .int .i64 d.m, .int .u8 (d.bits.toNat : Int)] : List Value)[j]? = some x → w.cell? ⟨B, off + i * 9 + j, none⟩ = some x := by
      intro j x hx
      have hj : j < 9 := (List.getElem?_eq_some_iff.1 hx).1
      have := hat j hj
      rw [add_none, hx] at this
      rw [Nat.add_assoc]
      exact this
    exact ⟨d, B, off, A', m, c, rfl, at' 0 _ rfl, at' 1 _ rfl, at' 2 _ rfl, at' 3 _ rfl, at' 4 _ rfl, at' 5 _ rfl, at' 6 _ rfl, at' 7 _ rfl, at' 8 _ rfl, hb, r1, r2, r3⟩
  have hlist : ∀ k, k ≤ len → ∃ ds : List ActV, ds.length = k ∧ ∀ (j : Nat) (d : ActV), ds[j]? = some d → ∃ B off A' m c, A = some ⟨B, off, none⟩ ∧ ActVAt w B (off + j * 9) d A' m c := by
    intro k
    induction k with
    | zero => exact fun _ => ⟨[], rfl, fun j d hj => by simp at hj⟩
    | succ k ih =>
      intro hk
      obtain ⟨ds, hl, hd⟩ := ih (by omega)
      obtain ⟨d, hd'⟩ := hch k (by omega)
      refine ⟨ds ++ [d], by simp [hl], fun j e hj => ?_⟩
      rcases Nat.lt_or_ge j k with g | g
      · rw [List.getElem?_append_left (by omega)] at hj
        exact hd j e hj
      · rw [List.getElem?_append_right (by omega)] at hj
        have hj0 : j - ds.length = 0 := by
          have := (List.getElem?_eq_some_iff.1 hj).1
          simp at this
          omega
        rw [hj0] at hj
        simp at hj
        subst hj
        obtain rfl : j = k := by omega
        exact hd'
  obtain ⟨ds, hl', hd⟩ := hlist len (Nat.le_refl _)
  exact ⟨A, len, cap, ds, rfl, hl'.symm, by simp only [maxLen] at hl; omega, hd⟩
end
end Go.Proofs.Ytndghapdpfgmoaa
