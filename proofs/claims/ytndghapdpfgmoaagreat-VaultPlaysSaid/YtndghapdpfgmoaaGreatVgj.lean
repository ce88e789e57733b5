/- Readings of arguments opened to cells: bytes, numbers, and structs within slices. No condition; An argument of bytes opened, with its room. No condition; Arguments opened to cells: names by value. No condition; The acts of layer 12's statements as they lie in memory. No condition; Truth values in a block of the call's own. No condition; Package vault's ranging over a vault's map, and slices.Index of truth values; A vault and its disk in memory. -/
import Derived.Test.YtndghapdpfgmoaaGreatVga
import Derived.Deep.Slices
import Derived.Deep.Fields
import Derived.ChangeSame
import Derived.ChangeSlices
import Derived.OpenShut
import Derived.Test.YtndghapdpfgmoaaGreatVgd
import Derived.Lib.SmallJoins
import Derived.Test.YtndghapdpfgmoaaGreatVge
import Derived.Test.YtndghapdpfgmoaaGreatVgf
import Derived.Test.YtndghapdpfgmoaaGreatVvb
import Derived.Test.YtndghapdpfgmoaaGreatVgh
namespace Go.Proofs.YtndghapdpfgmoaaGreat
open Go.ChangeShapes Go.WideShapes Go.RowKit Go.Deep
set_option linter.unusedVariables false
set_option maxRecDepth 20000

section
variable {H : Type} {enc : TypeId × Value → H} {P : Program} {w : World} {base : Nat} {spare : Nat → Bool} {held : Bool} {fuel : Nat} {v : Value} {x : DataW H × List MemPlace}

theorem toNat_byte (z : Int) (h : 0 ≤ z ∧ z ≤ 255) : ((UInt8.ofNat z.toNat).toNat : Int) = z := by
  rw [UInt8.toNat_ofNat']
  omega

/-- A slice of bytes that came in. -/
theorem open_bts {t e : TypeId} (ht : P.underlying t = some (.slice e)) (he : P.underlying e = some (.int .u8)) (hc : P.cellsOf e = 1) (h : DataW.trod enc P w base spare held fuel t [v] = some x) :
    ∃ A m c bs, v = .slice A m c ∧ Bts w (.slice A m c) bs ∧ m ≤ maxLen := by
  rcases open_ints ht he hc h with ⟨hcs, _⟩ | ⟨a, len, cap, zs, hcs, _, hl, hm, hz, _, hcell, hwz⟩
  · simp only [List.cons.injEq, and_true] at hcs
    exact ⟨none, 0, 0, [], hcs, Bts.nil w, Nat.zero_le _⟩
  · simp only [List.cons.injEq, and_true] at hcs
    have hle : len ≤ zs.length := by rw [hz]; split <;> omega
    refine ⟨some a, len, cap, (zs.take len).map (fun z => UInt8.ofNat z.toNat), hcs, ⟨some a, cap, by simp [hle], (fun h => by cases h), fun ad ha j u hu => ?_⟩, by omega⟩
    injection ha with ha
    subst ha
    simp only [List.getElem?_map, Option.map_eq_some_iff] at hu
    obtain ⟨z, hz', rfl⟩ := hu
    rw [List.getElem?_take] at hz'
    split at hz'
    · have hj := (List.getElem?_eq_some_iff.1 hz').1
      rw [hcell j hj]
      have hg : zs.getD j 0 = z := by simp [List.getD, hz']
      rw [hg]
      have hb := bounds_u8 (hwz z (List.mem_of_getElem? hz'))
      unfold bv
      rw [toNat_byte z hb]
    · cases hz'

/-- An unsigned number that came in. -/
theorem open_nat {t : TypeId} {k : IntKind} (ht : P.underlying t = some (.int k)) (h0 : ∀ n, (Lit.int k n).wf = true → 0 ≤ n) (h : DataW.trod enc P w base spare held fuel t [v] = some x) :
    ∃ n : Nat, v = .int k (n : Int) ∧ (Lit.int k (n : Int)).wf = true := by
  obtain ⟨n, hcs, _, hwf⟩ := DataW.trod_int ht h
  simp only [List.cons.injEq, and_true] at hcs
  have := h0 n hwf
  obtain ⟨m, rfl⟩ := Int.eq_ofNat_of_zero_le this
  exact ⟨m, hcs, hwf⟩

/-- A struct's fields, one by one. -/
theorem open_parts {t : TypeId} {fs : Array Field} {cs : List Value} (ht : P.underlying t = some (.struct fs)) (h : DataW.trod enc P w base spare held fuel t cs = some x) :
    ∃ n, cs.length = P.cellsOf t ∧ ∀ (i : Nat) (ty : TypeId) (off k : Nat), (fs[i]?).map (fun f => (f.type, f.offset)) = some (ty, off) → P.cellsOf ty = k → ∃ y, DataW.trod enc P w base spare held n ty ((cs.drop off).take k) = some y := by
  obtain ⟨xs, n, _, _, hl, hx, hf⟩ := DataW.trod_struct ht h
  refine ⟨n, hl, fun i ty off k hi hk => ?_⟩
  obtain ⟨f, hfi, he⟩ := Option.map_eq_some_iff.1 hi
  have hlt : i < xs.length := by rw [hx]; exact (Array.getElem?_eq_some_iff.1 hfi).1
  simp only [Prod.mk.injEq] at he
  obtain ⟨rfl, rfl⟩ := he
  subst hk
  exact ⟨xs[i], (hf i f hfi).trans (List.getElem?_eq_getElem hlt)⟩

/-- A slice's elements, one by one: the cells of each, and its reading. -/
theorem open_elems {t e : TypeId} (ht : P.underlying t = some (.slice e)) (h : DataW.trod enc P w base spare held fuel t [v] = some x) :
    ∃ A len cap n, v = .slice A len cap ∧ len ≤ maxLen ∧ (A = none → len = 0 ∧ cap = 0) ∧
      ∀ i, i < len → ∃ a cs y, A = some a ∧ cs.length = P.cellsOf e ∧ (∀ j, j < P.cellsOf e → w.cell? (a.add (i * P.cellsOf e + j)) = cs[j]?) ∧ DataW.trod enc P w base spare held n e cs = some y := by
  rcases open_slice ht h with ⟨hcs, _⟩ | ⟨a, len, cap, m, n, D, Pl, hcs, _, hl, hm, hmm, _, hi⟩
  · simp only [List.cons.injEq, and_true] at hcs
    exact ⟨none, 0, 0, 0, hcs, Nat.zero_le _, fun _ => ⟨rfl, rfl⟩, fun i hi => by omega⟩
  · simp only [List.cons.injEq, and_true] at hcs
    refine ⟨some a, len, cap, n, hcs, by omega, (fun h => by cases h), fun i hil => ?_⟩
    have him : i < m := by rw [hmm]; split <;> omega
    obtain ⟨cs', hc, ht'⟩ := hi i him
    obtain ⟨_, hcl, hat⟩ := World.cells?_some hc
    exact ⟨a, cs', _, rfl, hcl, fun j hj => by rw [← Go.Deep.add_add]; exact hat j hj, ht'⟩
end
end Go.Proofs.YtndghapdpfgmoaaGreat
namespace Go.Proofs.YtndghapdpfgmoaaGreat
open Go.ChangeShapes Go.WideShapes Go.RowKit
set_option linter.unusedVariables false
set_option maxRecDepth 20000
section
variable {H : Type} {enc : TypeId × Value → H} {w : World} {base : Nat} {spare : Nat → Bool} {held : Bool} {fuel : Nat} {v : Value} {x : DataW H × List MemPlace}
theorem open_btc (h : DataW.trod enc Tryz.prog w base spare held fuel 47 [v] = some x) : ∃ A m c bs, v = .slice A m c ∧ (Bts w (.slice A m c) bs ∧ m ≤ c) ∧ m ≤ maxLen := by
  obtain ⟨A, m, c, bs, rfl, hb, hm⟩ := open_bts Tryz.underlying47 Tryz.underlying5 cells_u8 h
  refine ⟨A, m, c, bs, rfl, ⟨hb, ?_⟩, hm⟩
  rcases open_ints Tryz.underlying47 Tryz.underlying5 cells_u8 h with ⟨hcs, _⟩ | ⟨a, len, cap, zs, hcs, _, hl, hm, hz, _, hcell, hwz⟩
  · simp only [List.cons.injEq, and_true] at hcs
    injection hcs with h1 h2 h3
    omega
  · simp only [List.cons.injEq, and_true] at hcs
    injection hcs with h1 h2 h3
    omega
end
end Go.Proofs.YtndghapdpfgmoaaGreat
namespace Go.Proofs.YtndghapdpfgmoaaGreat
open Go.ChangeShapes Go.WideShapes Go.RowKit Go.Deep Go.Joins
set_option linter.unusedVariables false
set_option maxRecDepth 100000

section
variable {H : Type} {enc : TypeId × Value → H} {w : World} {base : Nat} {spare : Nat → Bool} {held : Bool} {fuel : Nat} {v : Value}
theorem open_sh {cs : List Value} {y : DataW H × List MemPlace} (h : DataW.trod enc Tryz.prog w base spare held fuel 46 cs = some y) : ∃ s, s < N96 ∧ .agg cs.toArray = shV s := by
  obtain ⟨n, hl, hf⟩ := open_parts Tryz.underlying46 h
  rw [sh_cells] at hl
  match cs, hl with
  | [v0, v1, v2, v3], _ =>
    obtain ⟨y0, h0⟩ := hf 0 43 0 _ rfl sh_one.1
    obtain ⟨y1, h1⟩ := hf 1 44 1 _ rfl sh_one.2
    obtain ⟨y2, h2⟩ := hf 2 44 2 _ rfl sh_one.2
    obtain ⟨y3, h3⟩ := hf 3 43 3 _ rfl sh_one.1
    simp only [List.drop_zero, List.drop_succ_cons, List.take_succ_cons, List.take_zero] at h0 h1 h2 h3
    obtain ⟨a, e0, _, w0⟩ := DataW.trod_int Tryz.underlying43 h0
    obtain ⟨b, e1, _, w1⟩ := DataW.trod_int Tryz.underlying44 h1
    obtain ⟨c, e2, _, w2⟩ := DataW.trod_int Tryz.underlying44 h2
    obtain ⟨d, e3, _, w3⟩ := DataW.trod_int Tryz.underlying43 h3
    simp only [List.cons.injEq, and_true] at e0 e1 e2 e3
    subst e0 e1 e2 e3
    obtain ⟨a0, rfl, b0⟩ := of_u32 w0
    obtain ⟨a1, rfl, b1⟩ := of_u16 w1
    obtain ⟨a2, rfl, b2⟩ := of_u16 w2
    obtain ⟨a3, rfl, b3⟩ := of_u32 w3
    refine ⟨mkN a0 a1 a2 a3, mkN_lt b0 b1 b2 b3, ?_⟩
    unfold shV
    rw [cO_mk b1 b2 b3, cS_mk b1 b2 b3, cL_mk b2 b3, cG_mk b3]
/-- A name by value. -/
theorem open_shv {r : Reach} {b0 : Nat} {d : DataW H} {p : List MemPlace} (hv : Value.okWide Tryz.prog w r b0 46 v) (h : DataW.Trod enc Tryz.prog w base spare held 46 v d p) : ∃ s, s < N96 ∧ v = shV s := by
  obtain ⟨cs, rfl, hsz⟩ := okWide_struct Tryz.underlying46 hv
  obtain ⟨l⟩ := cs
  obtain ⟨fuel, hf⟩ := h
  exact open_sh (cs := l) hf
end
end Go.Proofs.YtndghapdpfgmoaaGreat
namespace Go.Proofs.YtndghapdpfgmoaaGreat
open Go.RowKit Go.ChangeShapes Go.WideShapes Go.Deep
set_option linter.unusedVariables false
set_option maxRecDepth 20000

/-- What an act holds. -/
structure ActV where
  kind : Int
  s : Nat
  b : List UInt8
  n : Int
  m : Int
  bits : UInt8
/-- An act's nine cells. -/
structure ActVAt (w : World) (B off : Nat) (d : ActV) (A : Option Addr) (m c : Nat) : Prop where
  c0 : w.cell? ⟨B, off, none⟩ = some (.int .i64 d.kind)
  c1 : w.cell? ⟨B, off + 1, none⟩ = some (.int .u32 (cO d.s : Int))
  c2 : w.cell? ⟨B, off + 2, none⟩ = some (.int .u16 (cS d.s : Int))
  c3 : w.cell? ⟨B, off + 3, none⟩ = some (.int .u16 (cL d.s : Int))
  c4 : w.cell? ⟨B, off + 4, none⟩ = some (.int .u32 (cG d.s : Int))
  c5 : w.cell? ⟨B, off + 5, none⟩ = some (.slice A m c)
  c6 : w.cell? ⟨B, off + 6, none⟩ = some (.int .i64 d.n)
  c7 : w.cell? ⟨B, off + 7, none⟩ = some (.int .i64 d.m)
  c8 : w.cell? ⟨B, off + 8, none⟩ = some (.int .u8 (d.bits.toNat : Int))
  bts : Bts w (.slice A m c) d.b
  room : m ≤ c
  small : m ≤ 9223372036854775807
  nm : d.s < N96
theorem ActVAt.no {w w1 : World} {B off : Nat} {d : ActV} {A : Option Addr} {m c : Nat} (h : ActVAt w B off d A m c) (hk : Kp No w w1) : ActVAt w1 B off d A m c :=
  ⟨hk.cell h.c0 fun f => f, hk.cell h.c1 fun f => f, hk.cell h.c2 fun f => f, hk.cell h.c3 fun f => f, hk.cell h.c4 fun f => f, hk.cell h.c5 fun f => f, hk.cell h.c6 fun f => f, hk.cell h.c7 fun f => f, hk.cell h.c8 fun f => f, h.bts.no hk, h.room, h.small, h.nm⟩
/-- The slice at A holds the acts ds. -/
structure ActsV (w : World) (A : Option Addr) (n : Nat) (ds : List ActV) : Prop where
  len : n = ds.length
  big : n ≤ 9223372036854775807
  at_ : ∀ (j : Nat) (d : ActV), ds[j]? = some d → ∃ B off A' m c, A = some ⟨B, off, none⟩ ∧ ActVAt w B (off + j * 9) d A' m c
theorem ActsV.no {w w1 : World} {A : Option Addr} {n : Nat} {ds : List ActV} (h : ActsV w A n ds) (hk : Kp No w w1) : ActsV w1 A n ds :=
  ⟨h.len, h.big, fun j d hj => by
    obtain ⟨B, off, A', m, c, e, ha⟩ := h.at_ j d hj
    exact ⟨B, off, A', m, c, e, ha.no hk⟩⟩

theorem cells_actv : Tryz.prog.cellsOf 49 = 9 := by kernel_rfl
theorem cells_slcv : Tryz.prog.cellsOf 47 = 1 := by kernel_rfl
theorem cells_n64v : Tryz.prog.cellsOf 3 = 1 := by kernel_rfl
section
variable {H : Type} {enc : TypeId × Value → H} {w : World} {base : Nat} {spare : Nat → Bool} {held : Bool} {fuel : Nat}
theorem open_actv {cs : List Value} {y : DataW H × List MemPlace} (h : DataW.trod enc Tryz.prog w base spare held fuel 49 cs = some y) :
    ∃ (d : ActV) (A : Option Addr) (m c : Nat), cs = [.int .i64 d.kind, .int .u32 (cO d.s : Int), .int .u16 (cS d.s : Int), .int .u16 (cL d.s : Int), .int .u32 (cG d.s : Int), .slice A m c, .int .i64 d.n, .int .i64 d.m, .int .u8 (d.bits.toNat : Int)] ∧
      Bts w (.slice A m c) d.b ∧ m ≤ c ∧ m ≤ 9223372036854775807 ∧ d.s < N96 := by
  obtain ⟨n, hl, hf⟩ := open_parts Tryz.underlying49 h
  rw [cells_actv] at hl
  match cs, hl with
  | [v0, v1, v2, v3, v4, v5, v6, v7, v8], _ =>
    obtain ⟨y0, h0⟩ := hf 0 3 0 _ rfl cells_n64v
    obtain ⟨y1, h1⟩ := hf 1 46 1 _ rfl sh_cells
    obtain ⟨y5, h5⟩ := hf 2 47 5 _ rfl cells_slcv
    obtain ⟨y6, h6⟩ := hf 3 3 6 _ rfl cells_n64v
    obtain ⟨y7, h7⟩ := hf 4 3 7 _ rfl cells_n64v
    obtain ⟨y8, h8⟩ := hf 5 5 8 _ rfl cells_u8
    simp only [List.drop_zero, List.drop_succ_cons, List.take_succ_cons, List.take_zero] at h0 h1 h5 h6 h7 h8
    obtain ⟨k0, e0, _, w0⟩ := DataW.trod_int Tryz.underlying3 h0
    obtain ⟨s, hs, e1⟩ := open_sh h1
    obtain ⟨k6, e6, _, w6⟩ := DataW.trod_int Tryz.underlying3 h6
    obtain ⟨k7, e7, _, w7⟩ := DataW.trod_int Tryz.underlying3 h7
    obtain ⟨k8, e8, w8⟩ := open_nat Tryz.underlying5 (fun _ h => (bounds_u8 h).1) h8
    obtain ⟨A, m, c, bs, e5, ⟨hb, hr⟩, hm⟩ := open_btc h5
    simp only [List.cons.injEq, and_true] at e0 e6 e7
    simp only [shV, Value.agg.injEq, Array.mk.injEq, List.cons.injEq, and_true] at e1
    obtain ⟨f1, f2, f3, f4⟩ := e1
    have b8 := bounds_u8 w8
    have hk8 : ((UInt8.ofNat k8).toNat : Int) = (k8 : Int) := by rw [UInt8.toNat_ofNat']; omega
    subst e0 f1 f2 f3 f4 e5 e6 e7 e8
    exact ⟨⟨k0, s, bs, k6, k7, UInt8.ofNat k8⟩, A, m, c, by simp only [hk8], hb, hr, by unfold maxLen at hm; omega, hs⟩

theorem open_actsv {v : Value} {x : DataW H × List MemPlace} (h : DataW.trod enc Tryz.prog w base spare held fuel 22 [v] = some x) :
    ∃ A n c ds, v = .slice A n c ∧ ActsV w A n ds := by
  obtain ⟨A, len, cap, n, rfl, hl, _, hi⟩ := open_elems Tryz.underlying22 h
  have hch : ∀ i, i < len → ∃ d, ∃ B off A' m c, A = some ⟨B, off, none⟩ ∧ ActVAt w B (off + i * 9) d A' m c := by
    intro i hil
    obtain ⟨a, cs, y, rfl, hcl, hat, ht⟩ := hi i hil
    rw [cells_actv] at hcl hat
    obtain ⟨d, A', m, c, rfl, hb, r1, r2, r3⟩ := open_actv ht
    obtain ⟨B, off, spot⟩ := a
    have hspot : spot = none := by
      obtain ⟨a', cs', y', ha', hcl', hat', _⟩ := hi 0 (by omega)
      injection ha' with ha'
      subst ha'
      rw [cells_actv] at hcl' hat'
      have := hat' 0 (by omega)
      rw [List.getElem?_eq_getElem (by omega)] at this
      simpa [Addr.add] using World.cell?_spot this
    subst hspot
    have at' : ∀ j x, ([.int .i64 d.kind, .int .u32 (cO d.s : Int), .int .u16 (cS d.s : Int), .int .u16 (cL d.s : Int), .int .u32 (cG d.s : Int), .slice A' m c, .int .i64 d.n, .int .i64 d.m, .int .u8 (d.bits.toNat : Int)] : List Value)[j]? = some x → w.cell? ⟨B, off + i * 9 + j, none⟩ = some x := by
      intro j x hx
      have hj : j < 9 := (List.getElem?_eq_some_iff.1 hx).1
      have := hat j hj
      rw [add_none, hx] at this
      rw [Nat.add_assoc]
      exact this
    exact ⟨d, B, off, A', m, c, rfl, at' 0 _ rfl, at' 1 _ rfl, at' 2 _ rfl, at' 3 _ rfl, at' 4 _ rfl, at' 5 _ rfl, at' 6 _ rfl, at' 7 _ rfl, at' 8 _ rfl, hb, r1, r2, r3⟩
  have hlist : ∀ k, k ≤ len → ∃ ds : List ActV, ds.length = k ∧ ∀ (j : Nat) (d : ActV), ds[j]? = some d → ∃ B off A' m c, A = some ⟨B, off, none⟩ ∧ ActVAt w B (off + j * 9) d A' m c := by
    intro k
    induction k with
    | zero => exact fun _ => ⟨[], rfl, fun j d hj => by simp at hj⟩
    | succ k ih =>
      intro hk
      obtain ⟨ds, hl, hd⟩ := ih (by omega)
      obtain ⟨d, hd'⟩ := hch k (by omega)
      refine ⟨ds ++ [d], by simp [hl], fun j e hj => ?_⟩
      rcases Nat.lt_or_ge j k with g | g
      · rw [List.getElem?_append_left (by omega)] at hj
        exact hd j e hj
      · rw [List.getElem?_append_right (by omega)] at hj
        have hj0 : j - ds.length = 0 := by
          have := (List.getElem?_eq_some_iff.1 hj).1
          simp at this
          omega
        rw [hj0] at hj
        simp at hj
        subst hj
        obtain rfl : j = k := by omega
        exact hd'
  obtain ⟨ds, hl', hd⟩ := hlist len (Nat.le_refl _)
  exact ⟨A, len, cap, ds, rfl, hl'.symm, by simp only [maxLen] at hl; omega, hd⟩
end
end Go.Proofs.YtndghapdpfgmoaaGreat
namespace Go.Proofs.YtndghapdpfgmoaaGreat
open Go.RowKit
set_option linter.unusedVariables false
set_option linter.unusedSimpArgs false
set_option maxRecDepth 100000

/-- Truth values in a block of the call's own. -/
def BRow (w : World) (b n : Nat) (f : Nat → Bool) : Prop := ∃ cur : Array Value, w.heap[b]? = some (.cells cur 4 (0, 0)) ∧ ∀ j, j < n → cur[j]? = some (.bool (f j))
section
variable {w w1 : World} {b n : Nat} {f f' : Nat → Bool} {S : Nat → Prop}
theorem BRow.cell (h : BRow w b n f) {j : Nat} (hj : j < n) : w.cell? ⟨b, j, none⟩ = some (.bool (f j)) := by
  obtain ⟨cur, h1, h2⟩ := h
  rw [cell_of_row w b j _ _ _ h1, h2 j hj]
theorem BRow.cellv (h : BRow w b n f) {j : Nat} {u : Bool} (hj : j < n) (hu : f j = u) : w.cell? ⟨b, j, none⟩ = some (.bool u) := hu ▸ h.cell hj
theorem BRow.frozen (h : BRow w b n f) (j : Nat) : w.frozen? ⟨b, j, none⟩ = false := by
  obtain ⟨cur, h1, _⟩ := h
  exact frozen_of_row w b j _ _ h1
theorem BRow.keep (h : BRow w b n f) (hk : Kp S w w1) (hS : ¬ S b) : BRow w1 b n f := by
  obtain ⟨cur, h1, h2⟩ := h
  exact ⟨cur, by rw [hk.block b (Array.getElem?_eq_some_iff.1 h1).1 hS]; exact h1, h2⟩
theorem BRow.no (h : BRow w b n f) (hk : Kp No w w1) : BRow w1 b n f := h.keep hk fun f => f
theorem BRow.eq (h : BRow w b n f) (he : ∀ j, j < n → f j = f' j) : BRow w b n f' := by
  obtain ⟨cur, h1, h2⟩ := h
  exact ⟨cur, h1, fun j hj => by rw [← he j hj]; exact h2 j hj⟩
theorem BRow.set (h : BRow w b n f) {i : Nat} (hi : i < n) : BRow (w.setCell ⟨b, i, none⟩ (.bool true)) b n fun j => if j = i then true else f j := by
  obtain ⟨cur, h1, h2⟩ := h
  have hsz : i < cur.size := (Array.getElem?_eq_some_iff.1 (h2 i hi)).1
  refine ⟨cur.setIfInBounds i (.bool true), heap_setCell_same w b i cur _ _ h1, fun j hj => ?_⟩
  rw [Array.getElem?_setIfInBounds]
  show _ = some (Value.bool (if j = i then true else f j))
  by_cases e : i = j
  · subst e
    rw [if_pos rfl, if_pos hsz, if_pos rfl]
  · rw [if_neg e, if_neg (fun e' : j = i => e e'.symm)]
    exact h2 j hj
end
def zbl (n : Nat) : Array Value := madeCells (Value.bool false).cells (n * 1)
theorem zbl_get {n j : Nat} (h : j < n) : (zbl n)[j]? = some (.bool false) := by
  have e : (zbl n).toList = List.replicate n (.bool false) := by unfold zbl; rw [Nat.mul_one]; exact toList_madeCells_one _ _
  rw [← Array.getElem?_toList, e, List.getElem?_replicate, if_pos h]
theorem ty_bool : Ty 4 (.bool false) 1 1 := ty_of (by kernel_rfl) rfl (by omega) (by omega)
/-- make([]bool, n). -/
theorem make_bools (w : World) (n : Nat) (x : Int) (hx : x = n) (hn : n ≤ 1000) :
    (Instr.makeSlice 133 (.int .i64 x) (.int .i64 x)).run Tryz.prog w = .ok (.slice (some ⟨w.heap.size, 0, none⟩) n n) (w.alloc (.cells (zbl n) 4)) := by
  obtain ⟨⟨i0, hi0, hz0, hz1, hz2⟩, _⟩ := ty_bool
  subst hx
  have := run_make (P := Tryz.prog) w 133 4 i0 (.bool false) Tryz.underlying133 hi0 hz0 .i64 .i64 n n (by omega) (by omega) (by rw [hz2]; omega) (by omega)
  rw [hz1] at this
  simpa [zbl] using this
end Go.Proofs.YtndghapdpfgmoaaGreat
namespace Go.Proofs.YtndghapdpfgmoaaGreat
open Go.RowKit
set_option linter.unusedVariables false
set_option linter.unusedSimpArgs false
set_option maxRecDepth 20000

section
variable {w : World} {b r : Nat} {L dn left : List (Nat × Nat)} {ops : Array Oper} {rest : List Oper} {o : Oper} {a : Act} {Q : Exit → Act → World → Prop}
/-- 'range m', at the operation. -/
theorem wpList_mrange (hg : o.guard = none) (m : Operand) (hop : o.op = Op.range 64 m) (hm : a.eval m = .map (some b)) (h : MpAt w b L) (r : Nat) (hrz : r = w.heap.size)
    (hK : ∀ w', RgAt w' b r L [] L → Kp No w w' → w'.heap.size = r + 1 → wpList Tryz.prog ops Q rest (a.put o.dst (.pointer (some ⟨r, 0, none⟩))) w') : wpList Tryz.prog ops Q (o :: rest) a w := by
  subst hrz
  refine wpList_plain hg fun K' hK' => ?_
  obtain ⟨w', hrun, r1, r2, r3⟩ := h.range
  unfold Oper.wp
  simp [execOp, hop, hm, hrun, Result.andThen]
  exact hK' _ _ (hK w' r1 r2 r3)
/-- The step, at the operation. -/
theorem wpList_mnext (hg : o.guard = none) (it : Operand) (hop : o.op = Op.next it false) (hit : a.eval it = .pointer (some ⟨r, 0, none⟩)) (h : RgAt w b r L dn left)
    (hDone : left = [] → wpList Tryz.prog ops Q rest (a.put o.dst (.tuple #[.bool false])) w)
    (hMore : ∀ c s w' left', s < N96 → c < 1024 → (c, s) ∈ L → RgAt w' b r L (dn ++ [(c, s)]) left' → w'.rangeLeft b r < w.rangeLeft b r → Kp (fun q => q = r) w w' → (Instr.entry (.pointer (some ⟨r, 0, none⟩))).run Tryz.prog w' = .ok (.tuple #[shV s, .int .i64 (c : Int)]) w' →
      wpList Tryz.prog ops Q rest (a.put o.dst (.tuple #[.bool true, shV s, .int .i64 (c : Int)])) w') : wpList Tryz.prog ops Q (o :: rest) a w := by
  refine wpList_plain hg fun K' hK' => ?_
  unfold Oper.wp
  rcases h.next o.type with ⟨hl, _, hrun⟩ | ⟨c, s, w', left', hs, hc, hm, hrun, hr, hlt, hk, _, he⟩
  · simp [execOp, hop, hit, hrun, Result.andThen]
    exact hK' _ _ (hDone hl)
  · simp [execOp, hop, hit, hrun, Result.andThen]
    exact hK' _ _ (hMore c s w' left' hs hc hm hr hlt hk he)
end
/-- The first that is false. -/
def fstF (n : Nat) (f : Nat → Bool) : Nat := (List.range n).findIdx fun j => !f j
section
variable {n : Nat} {f : Nat → Bool}
theorem fstF_at {k : Nat} (hk : k < n) (h : ∀ j, j < k → f j = true) (hf : f k = false) : fstF n f = k := by
  unfold fstF
  refine (List.findIdx_eq (xs := List.range n) (by rw [List.length_range]; exact hk)).2 ⟨by simp [hf], fun j hj => ?_⟩
  rw [List.getElem_range]
  simp [h j hj]
theorem fstF_none (h : ∀ j, j < n → f j = true) : fstF n f = n := by
  have : (List.range n).findIdx (fun j => !f j) = (List.range n).length := List.findIdx_eq_length.2 fun x hx => by simp [h x (List.mem_range.1 hx)]
  rw [List.length_range] at this
  exact this
end
def fstZ (n : Nat) (f : Nat → Bool) : Int := if fstF n f < n then (fstF n f : Int) else -1
theorem index_any {w : World} {b n c : Nat} {f : Nat → Bool} (h : BRow w b n f) (hn : n ≤ 1000) : Calls Tryz.prog 73 #[.slice (some ⟨b, 0, none⟩) n c, .bool false] w fun e w1 => e = .returned (.int .i64 (fstZ n f)) ∧ w = w1 := by
  have HB := hide h
  clear h
  go_enter Tryz.func73, Tryz.ntmps73
  go_wp2_with fail
  go_loopw [8] (fun i wr => ∃ k : Nat, k ≤ n ∧ i = .int .i64 (k : Int) ∧ (∀ j, j < k → f j = true) ∧ w = wr) (fun i _ => n - (intOf i).toNat)
  case atStart => exact ⟨0, by omega, rfl, fun j hj => by omega, rfl⟩
  case round =>
    obtain ⟨k, hk, rfl, hz, rfl⟩ := hrel
    have HZ := hide hz
    clear hz
    by_cases hlt : k < n
    · have hkz : (k : Int) < n := by omega
      rcases hf : f k with _ | _
      · have hc := HB.out.cellv hlt hf
        have hq : fstZ n f = (k : Int) := by unfold fstZ; rw [fstF_at hlt HZ.out hf, if_pos hlt]
        have HQ := hide hq
        have HF := hide hf
        clear hq hf
        go_wp2_with fail
        go_ret
        exact ⟨ret_int HQ.out.symm, rfl⟩
      · have hc := HB.out.cellv hlt hf
        have HF := hide hf
        clear hf
        go_wp2_with fail
        go_round
        case rel => exact ⟨k + 1, by omega, by go_num, fun j hj => by
          rcases Nat.lt_or_ge j k with g | g
          · exact HZ.out j g
          · rw [show j = k by omega]; exact HF.out, trivial⟩
        case measure => simp [intOf]; omega
    · have hkz : ¬ (k : Int) < n := by omega
      obtain rfl : k = n := by omega
      have hq : fstZ k f = -1 := by unfold fstZ; rw [fstF_none HZ.out, if_neg (by omega)]
      have HQ := hide hq
      clear hq
      go_wp2_with fail
      go_ret
      exact ⟨ret_int HQ.out.symm, rfl⟩
end Go.Proofs.YtndghapdpfgmoaaGreat
namespace Go.Proofs.YtndghapdpfgmoaaGreat
open Go.RowKit
set_option linter.unusedVariables false
set_option linter.unusedSimpArgs false
set_option maxRecDepth 20000

/-- A vault and its disk: all that is its own in F, but for the disk's the two blocks g and b. -/
def Fd (F : Nat → Prop) (g b k : Nat) : Prop := F k ∧ k ≠ g ∧ k ≠ b
structure VtR (w : World) (F : Nat → Prop) (g gd b : Nat) (V : Vt) : Prop where
  blk : VtB w g gd b
  dk : DkAt w (Fd F g b) gd V.D
  mp : MpAt w b V.L
  fg : F g
  fb : F b
  ok : V.Ok
def VtAt (w : World) (F : Nat → Prop) (g gd : Nat) (V : Vt) : Prop := ∃ b, VtR w F g gd b V
section
variable {w w1 : World} {F S T : Nat → Prop} {g gd b : Nat} {V : Vt}
theorem VtR.ne (h : VtR w F g gd b V) : g ≠ b := fun e => by
  subst e
  obtain ⟨es, clock, e⟩ := h.mp.blk h.blk
  cases e
theorem VtR.keep (h : VtR w F g gd b V) (hk : Kp S w w1) (hS : ∀ k, k < w.heap.size → F k → ¬ S k) : VtR w1 F g gd b V :=
  ⟨h.blk.keep hk (hS g h.blk.lt h.fg), h.dk.keep hk (fun k hk hf => hS k hk hf.1), h.mp.keep hk (hS b h.mp.lt h.fb), h.fg, h.fb, h.ok⟩
theorem VtR.no (h : VtR w F g gd b V) (hk : Kp No w w1) : VtR w1 F g gd b V := h.keep hk fun _ _ _ f => f
theorem VtR.mono (h : VtR w F g gd b V) (hF : ∀ k, F k → T k) : VtR w T g gd b V := ⟨h.blk, h.dk.mono fun k hk => ⟨hF k hk.1, hk.2⟩, h.mp, hF _ h.fg, hF _ h.fb, h.ok⟩
/-- The disk has turned. -/
theorem VtR.disk (h : VtR w F g gd b V) {D : Dk} (hn : D.cells.length = V.D.cells.length) (hd : DkAt w1 (Up (Fd F g b) w) gd D) (hk : Kp (Fd F g b) w w1) : VtR w1 (Up F w) g gd b ⟨D, V.L⟩ := by
  have l1 := h.blk.lt
  have l2 := h.mp.lt
  refine ⟨h.blk.keep hk (fun f => f.2.1 rfl), hd.mono fun k hk' => ?_, h.mp.keep hk (fun f => f.2.2 rfl), .inl h.fg, .inl h.fb, h.ok.disk hd.ok hn⟩
  rcases hk' with hf | hf
  · exact ⟨.inl hf.1, hf.2⟩
  · exact ⟨.inr hf, by omega, by omega⟩
/-- The map has turned. -/
theorem VtR.map (h : VtR w F g gd b V) {L' : List (Nat × Nat)} (hm : MpAt w1 b L') (hk : Kp (fun q => q = b) w w1) (hok : (Vt.mk V.D L').Ok) : VtR w1 F g gd b ⟨V.D, L'⟩ :=
  ⟨h.blk.keep hk h.ne, h.dk.keep hk (fun k _ hf e => hf.2.2 e), hm, h.fg, h.fb, hok⟩
theorem VtR.up (h : VtR w F g gd b V) (hk : Kp No w w1) : VtR w1 (Up F w) g gd b V := (h.no hk).mono fun k hk => .inl hk
end
/-- What Get comes to. -/
def GetPost (w : World) (er : Nat) (bs : List UInt8) (e : Ending) (w1 : World) : Prop :=
  ∃ A n c, e = .returned (.tuple #[.slice A n c, .int .i64 (er : Int)]) ∧ Own w1 w.heap.size 5 (.slice A n c) bs ∧ Kp No w w1
theorem GetPost.err {w w1 : World} {er : Nat} {z : Int} (h : z = (er : Int)) (hk : Kp No w w1) : GetPost w er [] (.returned (.tuple #[.slice none 0 0, .int .i64 z])) w1 := by
  subst h
  exact ⟨none, 0, 0, rfl, Own.nil _ _ _, hk⟩
theorem shV_ne {a b : Nat} (h : a ≠ b) : ¬ ((cO a = cO b ∧ cS a = cS b) ∧ cL a = cL b ∧ cG a = cG b) := fun e => h (c_inj e.1.1 e.1.2 e.2.1 e.2.2)
end Go.Proofs.YtndghapdpfgmoaaGreat
