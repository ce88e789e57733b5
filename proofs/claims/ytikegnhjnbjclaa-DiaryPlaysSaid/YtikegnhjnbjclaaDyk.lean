/- The acts of layer 14's statements as they lie in memory. No condition. -/
import Derived.Test.YtikegnhjnbjclaaOp
import Derived.Test.YtikegnhjnbjclaaOcp
import Derived.Test.YtikegnhjnbjclaaMem
namespace Go.Proofs.Ytikegnhjnbjclaa
open Go.RowKit Go.ChangeShapes Go.WideShapes Go.Deep
set_option linter.unusedVariables false
set_option maxRecDepth 20000

/-- What an act holds. -/
structure ActY where
  kind : Int
  b : List UInt8
  n : Int
  bits : UInt8
/-- An act's four cells. -/
structure ActYAt (w : World) (B off : Nat) (d : ActY) (A : Option Addr) (m c : Nat) : Prop where
  c0 : w.cell? ⟨B, off, none⟩ = some (.int .i64 d.kind)
  c1 : w.cell? ⟨B, off + 1, none⟩ = some (.slice A m c)
  c2 : w.cell? ⟨B, off + 2, none⟩ = some (.int .i64 d.n)
  c3 : w.cell? ⟨B, off + 3, none⟩ = some (.int .u8 (d.bits.toNat : Int))
  bts : Bts w (.slice A m c) d.b
  room : m ≤ c
  small : m ≤ 9223372036854775807
theorem ActYAt.no {w w1 : World} {B off : Nat} {d : ActY} {A : Option Addr} {m c : Nat} (h : ActYAt w B off d A m c) (hk : Kp No w w1) : ActYAt w1 B off d A m c :=
  ⟨hk.cell h.c0 fun f => f, hk.cell h.c1 fun f => f, hk.cell h.c2 fun f => f, hk.cell h.c3 fun f => f, h.bts.no hk, h.room, h.small⟩
/-- The slice at A holds the acts ds. -/
structure ActsY (w : World) (A : Option Addr) (n : Nat) (ds : List ActY) : Prop where
  len : n = ds.length
  big : n ≤ 9223372036854775807
  at_ : ∀ (j : Nat) (d : ActY), ds[j]? = some d → ∃ B off A' m c, A = some ⟨B, off, none⟩ ∧ ActYAt w B (off + j * 4) d A' m c
theorem ActsY.no {w w1 : World} {A : Option Addr} {n : Nat} {ds : List ActY} (h : ActsY w A n ds) (hk : Kp No w w1) : ActsY w1 A n ds :=
  ⟨h.len, h.big, fun j d hj => by
    obtain ⟨B, off, A', m, c, e, ha⟩ := h.at_ j d hj
    exact ⟨B, off, A', m, c, e, ha.no hk⟩⟩

theorem cells_acty : Try.prog.cellsOf 41 = 4 := by kernel_rfl
section
variable {H : Type} {enc : TypeId × Value → H} {w : World} {base : Nat} {spare : Nat → Bool} {held : Bool} {fuel : Nat}
theorem open_acty {cs : List Value} {y : DataW H × List MemPlace} (h : DataW.trod enc Try.prog w base spare held fuel 41 cs = some y) :
    ∃ (d : ActY) (A : Option Addr) (m c : Nat), cs = [.int .i64 d.kind, .slice A m c, .int .i64 d.n, .int .u8 (d.bits.toNat : Int)] ∧
      Bts w (.slice A m c) d.b ∧ m ≤ c ∧ m ≤ 9223372036854775807 := by
  obtain ⟨n, hl, hf⟩ := open_parts Try.underlying41 h
  rw [cells_acty] at hl
  match cs, hl with
  | [v0, v1, v2, v3], _ =>
    obtain ⟨y0, h0⟩ := hf 0 3 0 _ rfl cells_n64
    obtain ⟨y1, h1⟩ := hf 1 22 1 _ rfl cells_slc
    obtain ⟨y2, h2⟩ := hf 2 3 2 _ rfl cells_n64
    obtain ⟨y3, h3⟩ := hf 3 5 3 _ rfl cells_u8
    simp only [List.drop_zero, List.drop_succ_cons, List.take_succ_cons, List.take_zero] at h0 h1 h2 h3
    obtain ⟨k0, e0, _, w0⟩ := DataW.trod_int Try.underlying3 h0
    obtain ⟨A, m, c, bs, e1, ⟨hb, hr⟩, hm⟩ := open_btc h1
    obtain ⟨k2, e2, _, w2⟩ := DataW.trod_int Try.underlying3 h2
    obtain ⟨k3, e3, w3⟩ := open_nat Try.underlying5 (fun _ h => (bounds_u8 h).1) h3
    simp only [List.cons.injEq, and_true] at e0 e2
    have b3 := bounds_u8 w3
    have hk3 : ((UInt8.ofNat k3).toNat : Int) = (k3 : Int) := by rw [UInt8.toNat_ofNat']; omega
    subst e0 e1 e2 e3
    exact ⟨⟨k0, bs, k2, UInt8.ofNat k3⟩, A, m, c, by simp only [hk3], hb, hr, by unfold maxLen at hm; omega⟩

theorem open_actsy {v : Value} {x : DataW H × List MemPlace} (h : DataW.trod enc Try.prog w base spare held fuel 31 [v] = some x) :
    ∃ A n c ds, v = .slice A n c ∧ ActsY w A n ds := by
  obtain ⟨A, len, cap, n, rfl, hl, _, hi⟩ := open_elems Try.underlying31 h
  have hch : ∀ i, i < len → ∃ d, ∃ B off A' m c, A = some ⟨B, off, none⟩ ∧ ActYAt w B (off + i * 4) d A' m c := by
    intro i hil
    obtain ⟨a, cs, y, rfl, hcl, hat, ht⟩ := hi i hil
    rw [cells_acty] at hcl hat
    obtain ⟨d, A', m, c, rfl, hb, r1, r2⟩ := open_acty ht
    obtain ⟨B, off, spot⟩ := a
    have hspot : spot = none := by
      obtain ⟨a', cs', y', ha', hcl', hat', _⟩ := hi 0 (by omega)
      injection ha' with ha'
      subst ha'
      rw [cells_acty] at hcl' hat'
      have := hat' 0 (by omega)
      rw [List.getElem?_eq_getElem (by omega)] at this
      simpa [Addr.add] using World.cell?_spot this
    subst hspot
    have at' : ∀ j x, ([.int .i64 d.kind, .slice A' m c, .int .i64 d.n, .int .u8 (d.bits.toNat : Int)] : List Value)[j]? = some x → w.cell? ⟨B, off + i * 4 + j, none⟩ = some x := by
      intro j x hx
      have hj : j < 4 := (List.getElem?_eq_some_iff.1 hx).1
      have := hat j hj
      rw [add_none, hx] at this
      rw [Nat.add_assoc]
      exact this
    exact ⟨d, B, off, A', m, c, rfl, at' 0 _ rfl, at' 1 _ rfl, at' 2 _ rfl, at' 3 _ rfl, hb, r1, r2⟩
  have hlist : ∀ k, k ≤ len → ∃ ds : List ActY, ds.length = k ∧ ∀ (j : Nat) (d : ActY), ds[j]? = some d → ∃ B off A' m c, A = some ⟨B, off, none⟩ ∧ ActYAt w B (off + j * 4) d A' m c := by
    intro k
    induction k with
    | zero => exact fun _ => ⟨[], rfl, fun j d hj => by simp at hj⟩
    | succ k ih =>
      intro hk
      obtain ⟨ds, hl, hd⟩ := ih (by omega)
      obtain ⟨d, hd'⟩ := hch k (by omega)
      refine ⟨ds ++ [d], by simp [hl], fun j e hj => ?_⟩
      rcases Nat.lt_or_ge j k with g | g
      · rw [List.getElem?_append_left (by omega)] at hj
        exact hd j e hj
      · rw [List.getElem?_append_right (by omega)] at hj
        have hj0 : j - ds.length = 0 := by
          have := (List.getElem?_eq_some_iff.1 hj).1
          simp at this
          omega
        rw [hj0] at hj
        simp at hj
        subst hj
        obtain rfl : j = k := by omega
        exact hd'
  obtain ⟨ds, hl', hd⟩ := hlist len (Nat.le_refl _)
  exact ⟨A, len, cap, ds, rfl, hl'.symm, by simp only [maxLen] at hl; omega, hd⟩
end
end Go.Proofs.Ytikegnhjnbjclaa
