/- Memory in plain words, for any program: what a step keeps, bytes that a slice reads as, and a row of bytes that the call made and appends to. No condition; A byte's type, rows of bytes of the call's own, make and bytes.Clone, each as a contract over memory; The calls of package pack's Writer, each as a contract over memory, and the plain functions of bytes that they come to; bytes.Clone, the Writer's Bytes, and the document's own answers for package pack, each as a contract over memory; CRC-32C in plain words: the register's step on any number, that it keeps xor, that bytes are fed as one great number, and that bits turned within 32 side by side change what comes out. No program is spoken of. -/
import Derived.WalkKit
import Derived.Maps.AppendAt
import Derived.Laws.IdiomStrings
import Derived.Deep.Draws
import Derived.DataReads
import Derived.BigFrame
import Derived.Test.YtndghapdpfgmoaaGreatProg
import Derived.WalkLawsBesides
import Derived.WalkSpells
import Derived.KernelRfl
import Derived.Laws.OwnMore
namespace Go.Proofs.YtndghapdpfgmoaaGreat
open Go.RowKit

/-- A fact laid out of the walk's sight. -/
theorem hide {p : Prop} (h : p) : Hid p := h

/-- The blocks outside S are as they were. -/
structure Kp (S : Nat → Prop) (w w' : World) : Prop where
  os : w'.os = w.os
  tape : w'.tape = w.tape
  output : w'.output = w.output
  size : w.heap.size ≤ w'.heap.size
  block : ∀ k, k < w.heap.size → ¬ S k → w'.heap[k]? = w.heap[k]?

/-- S, and all that is younger than w. -/
def Up (S : Nat → Prop) (w : World) (k : Nat) : Prop := S k ∨ w.heap.size ≤ k
/-- No block. -/
def No (_ : Nat) : Prop := False

section
variable {S T : Nat → Prop} {w w1 w2 : World}
theorem Kp.refl (S : Nat → Prop) (w : World) : Kp S w w := ⟨rfl, rfl, rfl, Nat.le_refl _, fun _ _ _ => rfl⟩
theorem Kp.mono (h : Kp S w w1) (hs : ∀ k, S k → T k) : Kp T w w1 := ⟨h.os, h.tape, h.output, h.size, fun k hk hn => h.block k hk fun s => hn (hs k s)⟩
theorem Kp.of_no (h : Kp No w w1) (S : Nat → Prop) : Kp S w w1 := h.mono fun _ f => f.elim
theorem Kp.trans (h : Kp S w w1) (k : Kp (Up S w) w1 w2) : Kp S w w2 :=
  ⟨k.os.trans h.os, k.tape.trans h.tape, k.output.trans h.output, Nat.le_trans h.size k.size, fun i hi hn =>
    (k.block i (Nat.lt_of_lt_of_le hi h.size) (by rintro (s | s); exact hn s; omega)).trans (h.block i hi hn)⟩
theorem Kp.trans' (h : Kp S w w1) (k : Kp S w1 w2) : Kp S w w2 := h.trans (k.mono fun _ s => .inl s)
theorem Kp.up (h : Kp S w w1) : Kp (Up S w) w w1 := h.mono fun _ s => .inl s
theorem Up.mono (hs : ∀ k, S k → T k) {k : Nat} (h : Up S w k) : Up T w k := h.imp (hs k) id
theorem Up.le (hw : w.heap.size ≤ w1.heap.size) {k : Nat} (h : Up S w1 k) : Up S w k := h.imp id (Nat.le_trans hw)
theorem Up.two (hw : w.heap.size ≤ w1.heap.size) {k : Nat} (h : Up (Up S w) w1 k) : Up S w k := by
  rcases h with h | h
  · exact h
  · exact .inr (Nat.le_trans hw h)
theorem Kp.grown {row : Option Nat} (h : w.grownBy w1 row) : Kp (fun k => row = some k) w w1 := ⟨h.os, h.tape, h.output, h.size, fun k hk hn => h.block k hk fun e => hn e.symm⟩
theorem Kp.alloc (S : Nat → Prop) (w : World) (o : Obj) : Kp S w (w.alloc o) := ⟨rfl, rfl, rfl, by simp, fun k hk _ => Below.heap_alloc w o k hk⟩
theorem Kp.drew (h : Kp S w w1) : Kp S w w1.drew := ⟨h.os, h.tape, h.output, h.size, h.block⟩
theorem Kp.drewN (h : Kp S w w1) (n : Nat) : Kp S w (w1.drewN n) := ⟨h.os, h.tape, h.output, h.size, h.block⟩
theorem Kp.setCell {p : Addr} (hp : S p.block) (u : Value) : Kp S w (w.setCell p u) :=
  ⟨rfl, rfl, rfl, by simp [World.setCell], fun k _ hn => Below.heap_setCell w p u k (fun e => hn (e ▸ hp))⟩
theorem Kp.below {B : Nat} (h : Kp S w w1) (hs : ∀ k, S k → B ≤ k) (hB : B ≤ w.heap.size) : Below B w w1 :=
  ⟨h.os, h.tape, h.output, h.size, fun k hk => h.block k (by omega) fun s => by have := hs k s; omega⟩
theorem Kp.below0 (h : Kp No w w1) : Below w.heap.size w w1 := h.below (fun _ f => f.elim) (Nat.le_refl _)
theorem Kp.of_below {B : Nat} (h : Below B w w1) (hs : ∀ k, B ≤ k → S k) : Kp S w w1 :=
  ⟨h.os, h.tape, h.output, h.size, fun k _ hn => h.block k (by rcases Nat.lt_or_ge k B with g | g; exact g; exact absurd (hs k g) hn)⟩
theorem Kp.cell {p : Addr} {v : Value} (h : Kp S w w1) (hc : w.cell? p = some v) (hn : ¬ S p.block) : w1.cell? p = some v :=
  (World.cell?_of_block (h.block p.block (World.block_lt_of_cell? w p hc) hn)).trans hc
end

/-- A byte's value. -/
def bv (b : UInt8) : Value := .int .u8 (b.toNat : Int)
theorem bv_one (b : UInt8) : (bv b).oneCell' = true := rfl
theorem blk_add (a : Addr) (n : Nat) : (a.add n).block = a.block := by unfold Addr.add; split <;> rfl

/-- The slice v reads as the bytes bs in w. -/
def Bts (w : World) (v : Value) (bs : List UInt8) : Prop :=
  ∃ (A : Option Addr) (c : Nat), v = .slice A bs.length c ∧ (A = none → bs = [] ∧ c = 0) ∧ ∀ ad, A = some ad → ∀ (j : Nat) (u : UInt8), bs[j]? = some u → w.cell? (ad.add j) = some (bv u)

section
variable {S : Nat → Prop} {w w1 : World} {v : Value} {bs : List UInt8}
theorem Bts.nil (w : World) : Bts w (.slice none 0 0) [] := ⟨none, 0, rfl, fun _ => ⟨rfl, rfl⟩, fun _ h => by cases h⟩
theorem Bts.keep (h : Bts w v bs) (hk : Kp S w w1) (hS : ∀ k, v.ownBlock = some k → ¬ S k) : Bts w1 v bs := by
  obtain ⟨A, c, rfl, hn, hc⟩ := h
  refine ⟨A, c, rfl, hn, fun ad ha j u hu => ?_⟩
  subst ha
  exact hk.cell (hc ad rfl j u hu) (by rw [blk_add]; exact hS _ rfl)
theorem Bts.below {B : Nat} (h : Bts w v bs) (hk : Below B w w1) (hS : ∀ k, v.ownBlock = some k → k < B) : Bts w1 v bs :=
  h.keep (Kp.of_below (S := fun k => B ≤ k) hk fun _ g => g) fun k hk => by have := hS k hk; omega
theorem Bts.form (h : Bts w v bs) : ∃ A n c, v = .slice A n c := by
  obtain ⟨A, c, rfl, _⟩ := h
  exact ⟨A, _, c, rfl⟩
theorem Bts.len {A : Option Addr} {n c : Nat} (h : Bts w (.slice A n c) bs) : n = bs.length := by
  obtain ⟨A, c, h1, _⟩ := h
  injection h1
theorem add_none (B off j : Nat) : (⟨B, off, none⟩ : Addr).add j = ⟨B, off + j, none⟩ := by
  unfold Addr.add
  split
  · simp_all
  · rfl
/-- A byte's cell. -/
theorem Bts.at_ {A : Option Addr} {m c j : Nat} (h : Bts w (.slice A m c) bs) (hj : j < m) :
    ∃ B off b, A = some ⟨B, off, none⟩ ∧ bs[j]? = some b ∧ w.cell? ⟨B, off + j, none⟩ = some (.int .u8 (b.toNat : Int)) := by
  have hl : m = bs.length := by
    obtain ⟨_, _, e, _⟩ := h
    injection e
  obtain ⟨A', c', e, hn, hc⟩ := h
  injection e with e1 e2 e3
  subst e1 e3
  rcases A with _ | ⟨B, off, spot⟩
  · have := (hn rfl).1
    subst this
    simp at hl
    omega
  · have h0 := hc _ rfl 0 _ (List.getElem?_eq_getElem (by omega : 0 < bs.length))
    have hs : spot = none := by simpa [Addr.add] using World.cell?_spot h0
    subst hs
    have hjj := hc _ rfl j _ (List.getElem?_eq_getElem (by omega : j < bs.length))
    rw [add_none] at hjj
    exact ⟨B, off, _, rfl, List.getElem?_eq_getElem (by omega), hjj⟩
theorem Bts.no (h : Bts w v bs) (hk : Kp No w w1) : Bts w1 v bs := h.keep hk fun _ _ f => f
theorem Bts.drew (h : Bts w v bs) : Bts w.drew v bs := h
theorem Bts.drewN (h : Bts w v bs) (n : Nat) : Bts (w.drewN n) v bs := h
theorem Bts.alloc (h : Bts w v bs) (o : Obj) (hl : ∀ k, v.ownBlock = some k → k < w.heap.size) : Bts (w.alloc o) v bs :=
  h.below (B := w.heap.size) ((Below.refl _ _).alloc (Nat.le_refl _) o) hl

/-- The bytes as a string. -/
def strOf (bs : List UInt8) : ByteArray := ⟨bs.toArray⟩
theorem strOf_toList (bs : List UInt8) : (strOf bs).data.toList = bs := rfl
theorem Bts.str {P : Program} (h : Bts w v bs) (src dst e : TypeId) (hs : P.underlying src = some (.slice e)) (he : P.underlying e = some (.int .u8)) (hd : P.underlying dst = some .string) :
    (convert src dst v).run P w = .ok (.string (strOf bs)) w := by
  obtain ⟨A, c, rfl, hn, hc⟩ := h
  rcases A with _ | ad
  · obtain ⟨rfl, rfl⟩ := hn rfl
    rw [run_convert_bytes_string w src dst e none _ 0 hs he hd]
    rfl
  · exact run_convert_bytes_back w src dst e ad c bs hs he hd fun j hj => hc ad rfl j _ (List.getElem?_eq_getElem hj)
end

/-- The row of bytes v is the call's own, from block base on. -/
def Own (w : World) (base : Nat) (e : TypeId) (v : Value) (bs : List UInt8) : Prop := w.ownsRow base e 1 v bs.length (bs.map bv)

section
variable {S : Nat → Prop} {w w1 : World} {base : Nat} {e : TypeId} {v : Value} {bs : List UInt8}
theorem Own.nil (w : World) (base : Nat) (e : TypeId) : Own w base e (.slice none 0 0) [] := World.ownsRow_nil w base e 1
theorem Own.lt (h : Own w base e v bs) (k : Nat) (hk : v.ownBlock = some k) : k < w.heap.size := (World.ownsRow.lt h k hk).2
theorem Own.ge (h : Own w base e v bs) (k : Nat) (hk : v.ownBlock = some k) : base ≤ k := (World.ownsRow.lt h k hk).1
theorem Own.keep (h : Own w base e v bs) (hk : Kp S w w1) (hS : ∀ k, v.ownBlock = some k → ¬ S k) : Own w1 base e v bs := by
  refine ⟨h.1, ?_⟩
  rcases h.2 with hn | ⟨g, cap, cur, rfl, hb, hg, r⟩
  · exact .inl hn
  · exact .inr ⟨g, cap, cur, rfl, hb, by rw [hk.block g (Array.getElem?_eq_some_iff.1 hg).1 (hS g rfl)]; exact hg, r⟩
theorem Own.no (h : Own w base e v bs) (hk : Kp No w w1) : Own w1 base e v bs := h.keep hk fun _ _ f => f
theorem Own.rebase {b : Nat} (h : Own w base e v bs) (hb : ∀ k, v.ownBlock = some k → b ≤ k) : Own w b e v bs := by
  refine ⟨h.1, ?_⟩
  rcases h.2 with hn | ⟨g, cap, cur, rfl, _, r⟩
  · exact .inl hn
  · exact .inr ⟨g, cap, cur, rfl, hb g rfl, r⟩
theorem Own.base0 (h : Own w base e v bs) : Own w 0 e v bs := h.rebase fun _ _ => Nat.zero_le _
theorem Own.drew (h : Own w base e v bs) : Own w.drew base e v bs := h
theorem Own.drewN (h : Own w base e v bs) (n : Nat) : Own (w.drewN n) base e v bs := h
theorem Own.alloc (h : Own w base e v bs) (o : Obj) : Own (w.alloc o) base e v bs := h.keep (Kp.alloc No w o) fun _ _ f => f
theorem Own.form (h : Own w base e v bs) : ∃ A n c, v = .slice A n c := by
  rcases h.2 with ⟨rfl, hn⟩ | ⟨g, cap, cur, rfl, _⟩
  · exact ⟨none, 0, 0, rfl⟩
  · exact ⟨_, _, _, rfl⟩
theorem Own.len {A : Option Addr} {n c : Nat} (h : Own w base e (.slice A n c) bs) : n = bs.length := by
  rcases h.2 with ⟨h1, hn⟩ | ⟨g, cap, cur, h1, _⟩
  · injection h1 with _ h1 _
    omega
  · injection h1
theorem Own.bts (h : Own w base e v bs) : Bts w v bs := by
  rcases h.2 with ⟨rfl, hn⟩ | ⟨g, cap, cur, rfl, _, hg, _, _, _, ht⟩
  · have : bs = [] := List.eq_nil_of_length_eq_zero hn
    subst this
    exact Bts.nil w
  · refine ⟨_, cap, rfl, (fun h => by cases h), fun ad ha j u hu => ?_⟩
    injection ha with ha
    subst ha
    have hj : j < bs.length := (List.getElem?_eq_some_iff.1 hu).1
    have hcell : w.cell? ⟨g, j, none⟩ = cur[j]? := cell_of_row w g j cur e (0, 0) hg
    have ha : (⟨g, 0, none⟩ : Addr).add j = ⟨g, j, none⟩ := by
      unfold Addr.add
      split
      · simp_all
      · simp
    rw [ha, hcell]
    have h2 : (cur.toList.take (bs.length * 1))[j]? = (bs.map bv)[j]? := by rw [ht]
    rw [List.getElem?_take, if_pos (by omega)] at h2
    simp only [Array.getElem?_toList, List.getElem?_map, hu, Option.map_some] at h2
    exact h2

/-- What append leaves. -/
structure App (w : World) (base : Nat) (e : TypeId) (v : Value) (bs cs : List UInt8) (v1 : Value) (w1 : World) : Prop where
  own : Own w1 base e v1 (bs ++ cs)
  kp : Kp (fun k => v.ownBlock = some k) w w1
  at_ : v1.ownBlock = v.ownBlock ∨ v1.ownBlock = some w.heap.size
  nil_ : v ≠ .slice none 0 0 → v1 ≠ .slice none 0 0

theorem App.keeps {w0 : World} {cs : List UInt8} {v1 : Value} (ha : App w base e v bs cs v1 w1) (h : Own w w0.heap.size e v bs) (hk : Kp S w0 w) : Kp S w0 w1 :=
  hk.trans (ha.kp.mono fun k hk => .inr (h.ge k hk))

theorem run_app {P : Program} (t ty : TypeId) (i : TypeInfo) (ht : P.underlying t = some (.slice e)) (hi : P.info? e = some i) (hz : i.zero = some (.int .u8 0)) (hsize : i.size = 1) (hby : i.bytes = 1)
    (h : Own w base e v bs) {u : Value} {cs : List UInt8} (hu : Bts w u cs) (hlen : bs.length + cs.length ≤ 1000000000) (hb : base ≤ w.heap.size) :
    ∃ v1 w1, (Builtin.append_ #[t, t] ty #[v, u]).run P w = .ok v1 w1 ∧ App w base e v bs cs v1 w1 := by
  obtain ⟨A, c, rfl, hn, hc⟩ := hu
  rcases A with _ | ad
  · obtain ⟨rfl, rfl⟩ := hn rfl
    exact ⟨v, w, run_append_owned_none w base t ty e i 1 ht hi v bs.length _ h, ⟨by simpa using h, Kp.refl _ _, .inl rfl, fun h => h⟩⟩
  · obtain ⟨v1, w1, hr, h1, h2, h3, h4⟩ := run_append_own_at (P := P) w base t ty e i (.int .u8 0) 1 1 ht hi hz hsize hby rfl (by omega) v bs.length (bs.map bv) h ad cs.length c (cs.map bv) (by simp)
      (fun j x hx => by
        simp only [List.getElem?_map, Option.map_eq_some_iff] at hx
        obtain ⟨y, hy, rfl⟩ := hx
        exact hc ad rfl j y hy) (fun x hx => by
        obtain ⟨y, _, rfl⟩ := List.mem_map.1 hx
        rfl) (by simp only [maxLen]; omega) (by omega) hb
    exact ⟨v1, w1, hr, ⟨by unfold Own; rw [List.length_append, List.map_append]; exact h1, Kp.grown h2, h4, fun hv e => hv (h3.1 e).1⟩⟩

theorem wpList_app {P : Program} {ops : Array Oper} {rest : List Oper} {o : Oper} {a : Act} {Q : Exit → Act → World → Prop} (hgd : o.guard = none) (s x : Operand) (t : TypeId)
    (ho : o.op = .call { callee := .builtin .append, args := #[s, x], argTypes := #[t, t] })
    (i : TypeInfo) (ht : P.underlying t = some (.slice e)) (hi : P.info? e = some i) (hz : i.zero = some (.int .u8 0)) (hsize : i.size = 1) (hby : i.bytes = 1)
    (hs : a.eval s = v) (h : Own w base e v bs) {u : Value} {cs : List UInt8} (hx : a.eval x = u) (hu : Bts w u cs) (hlen : bs.length + cs.length ≤ 1000000000) (hb : base ≤ w.heap.size)
    (hQ : ∀ A1 n1 c1 w1, App w base e v bs cs (.slice A1 n1 c1) w1 → wpList P ops Q rest (a.put o.dst (.slice A1 n1 c1)) w1) : wpList P ops Q (o :: rest) a w := by
  refine wpList_plain hgd fun K hK => ?_
  obtain ⟨v1, w1, hr, h1⟩ := run_app (P := P) t o.type i ht hi hz hsize hby h hu hlen hb
  unfold Oper.wp execOp
  simp only [ho, resolve, invoke, builtin, Sem.run_bind, Sem.run_pure, Result.andThen_ok, List.map_toArray, List.map_cons, List.map_nil, hs, hx, hr]
  obtain ⟨A1, n1, c1, rfl⟩ := h1.own.form
  exact hK _ _ (hQ A1 n1 c1 w1 h1)
/-- The same where a guard says yes. -/
theorem wpList_app_want {P : Program} {ops : Array Oper} {rest : List Oper} {o : Oper} {a : Act} {Q : Exit → Act → World → Prop} (hgd : Region.wanted o (yielded ops a.tmps) = true) (s x : Operand) (t : TypeId)
    (ho : o.op = .call { callee := .builtin .append, args := #[s, x], argTypes := #[t, t] })
    (i : TypeInfo) (ht : P.underlying t = some (.slice e)) (hi : P.info? e = some i) (hz : i.zero = some (.int .u8 0)) (hsize : i.size = 1) (hby : i.bytes = 1)
    (hs : a.eval s = v) (h : Own w base e v bs) {u : Value} {cs : List UInt8} (hx : a.eval x = u) (hu : Bts w u cs) (hlen : bs.length + cs.length ≤ 1000000000) (hb : base ≤ w.heap.size)
    (hQ : ∀ A1 n1 c1 w1, App w base e v bs cs (.slice A1 n1 c1) w1 → wpList P ops Q rest (a.put o.dst (.slice A1 n1 c1)) w1) : wpList P ops Q (o :: rest) a w := by
  refine BigFrame.wpList_want hgd fun K hK => ?_
  obtain ⟨v1, w1, hr, h1⟩ := run_app (P := P) t o.type i ht hi hz hsize hby h hu hlen hb
  unfold Oper.wp execOp
  simp only [ho, resolve, invoke, builtin, Sem.run_bind, Sem.run_pure, Result.andThen_ok, List.map_toArray, List.map_cons, List.map_nil, hs, hx, hr]
  obtain ⟨A1, n1, c1, rfl⟩ := h1.own.form
  exact hK _ _ (hQ A1 n1 c1 w1 h1)
end

theorem Kp.fresh {w w1 : World} {p : Addr} (h : Kp No w w1) (hp : w.heap.size ≤ p.block) (u : Value) : Kp No w (w1.setCell p u) := h.trans (Kp.setCell (S := Up No w) (.inr hp) u)
theorem Kp.al {w w1 : World} (h : Kp No w w1) (o : Obj) : Kp No w (w1.alloc o) := h.trans' (Kp.alloc No _ _)
theorem Kp.rd {W w1 : World} (hk : Kp No W w1) : (∀ b o, b < W.heap.size → w1.cell? ⟨b, o, none⟩ = W.cell? ⟨b, o, none⟩) ∧ (∀ b o, b < W.heap.size → w1.frozen? ⟨b, o, none⟩ = W.frozen? ⟨b, o, none⟩) :=
  ⟨fun b o h => hk.below0.cell (p := ⟨b, o, none⟩) h, fun b o h => hk.below0.frozen (p := ⟨b, o, none⟩) h⟩
/-- True comes back, and no old block is turned. -/
def TruePost (w : World) (e : Ending) (w1 : World) : Prop := e = .returned (.bool true) ∧ Kp No w w1
end Go.Proofs.YtndghapdpfgmoaaGreat
namespace Go.Proofs.YtndghapdpfgmoaaGreat
open Go.RowKit
set_option linter.unusedVariables false
set_option maxRecDepth 20000

theorem byte_info : (Tryz.prog.info? 5).map (fun i => (i.zero, i.size, i.bytes)) = some (some (.int .u8 0), 1, 1) := by kernel_rfl
theorem cells_u8 : Tryz.prog.cellsOf 5 = 1 := by kernel_rfl
theorem byte_parts : ∃ i, Tryz.prog.info? 5 = some i ∧ i.zero = some (.int .u8 0) ∧ i.size = 1 ∧ i.bytes = 1 := by
  have h := byte_info
  rcases hi : Tryz.prog.info? 5 with _ | i
  · rw [hi] at h; cases h
  · rw [hi] at h
    simp only [Option.map_some, Option.some.injEq, Prod.mk.injEq] at h
    exact ⟨i, rfl, h.1, h.2.1, h.2.2⟩
theorem bts_new (w : World) (u : UInt8) (v : Value) (hv : v = bv u) : Bts (w.alloc (.cells #[v] 5)) (.slice (some ⟨w.heap.size, 0, none⟩) 1 1) [u] := by
  subst hv
  refine ⟨_, 1, rfl, (fun h => by cases h), fun ad ha j x hx => ?_⟩
  injection ha with ha
  subst ha
  match j, hx with
  | 0, hx =>
    simp at hx
    subst hx
    simp [Addr.add]
  | j + 1, hx => simp at hx

theorem bts_row (w : World) (bs : List UInt8) (n : Nat) (fr : Nat × Nat) (hn : n = bs.length) : Bts (w.alloc (.cells (bs.map bv).toArray 5 fr)) (.slice (some ⟨w.heap.size, 0, none⟩) n n) bs := by
  subst hn
  refine ⟨_, _, rfl, (fun h => by cases h), fun ad ha j x hx => ?_⟩
  injection ha with ha
  subst ha
  rw [add_none, Nat.zero_add, World.cell?_alloc_mark]
  simp [hx]
theorem conv_bts {w : World} {v : Value} {bs : List UInt8} (h : Bts w v bs) : (convert 47 9 v).run Tryz.prog w = .ok (.string (strOf bs)) w := h.str 47 9 5 Tryz.underlying47 Tryz.underlying5 Tryz.underlying9

/-- So many noughts. -/
def zc (n : Nat) : Array Value := madeCells (Value.int .u8 0).cells (n * 1)
theorem zc_size (n : Nat) : (zc n).size = n := by unfold zc; rw [size_madeCells, Nat.mul_one]
theorem zc_get {n j : Nat} (h : j < n) : (zc n)[j]? = some (bv 0) := by
  have e : (zc n).toList = List.replicate n (.int .u8 0) := by unfold zc; rw [Nat.mul_one]; exact toList_madeCells_one _ _
  rw [← Array.getElem?_toList, e, List.getElem?_replicate, if_pos h]
  rfl
/-- make([]byte, n). -/
theorem make_bytes (w : World) (n : Nat) (x : Int) (hx : x = n) (hn : n ≤ 1000000000) :
    (Instr.makeSlice 47 (.int .i64 x) (.int .i64 x)).run Tryz.prog w = .ok (.slice (some ⟨w.heap.size, 0, none⟩) n n) (w.alloc (.cells (zc n) 5)) := by
  obtain ⟨i0, hi0, hz0, hz1, hz2⟩ := byte_parts
  subst hx
  have := run_make (P := Tryz.prog) w 47 5 i0 (.int .u8 0) Tryz.underlying47 hi0 hz0 .i64 .i64 n n (by omega) (by omega) (by rw [hz2]; omega) (by omega)
  rw [hz1] at this
  simpa [zc] using this

/-- A row of the call's own comes back. -/
def OwnPost (w : World) (bs : List UInt8) (e : Ending) (w1 : World) : Prop := ∃ A n c, e = .returned (.slice A n c) ∧ Own w1 w.heap.size 5 (.slice A n c) bs ∧ Kp No w w1

theorem own_empty (w : World) : Own (w.alloc (.cells #[] 5)) w.heap.size 5 (.slice (some ⟨w.heap.size, 0, none⟩) 0 0) [] :=
  World.ownsRow_made w #[] 0 (Nat.le_refl _) (Nat.zero_le _) rfl

theorem clone_any {w : World} {bs : List UInt8} {u : Value} (hu : Bts w u bs) (hl : bs.length ≤ 900000000) : Calls Tryz.prog 63 #[u] w (OwnPost w bs) := by
  obtain ⟨i0, hi0, hz0, hz1, hz2⟩ := byte_parts
  obtain ⟨A, n, c, rfl⟩ := hu.form
  have hq := fun (w : World) (a : Option Addr) (n c : Nat) => Lib.run_eql_slice_nil (P := Tryz.prog) w 47 5 a n c 0 0 Tryz.underlying47
  rcases A with _ | ad
  · have hb : bs = [] ∧ n = 0 ∧ c = 0 := by
      obtain ⟨A', c', e, hn, _⟩ := hu
      injection e with e1 e2 e3
      subst e1 e2 e3
      exact ⟨(hn rfl).1, by simp [(hn rfl).1], (hn rfl).2⟩
    obtain ⟨rfl, rfl, rfl⟩ := hb
    go_enter Tryz.func63, Tryz.ntmps63
    go_wp2
    go_ret
    exact ⟨none, 0, 0, rfl, Own.nil _ _ _, Kp.refl _ _⟩
  · go_enter Tryz.func63, Tryz.ntmps63
    go_wp2_with (first
      | (at_builtin
         refine wpList_app rfl (.tmp 5) (.tmp 6) _ rfl i0 Tryz.underlying47 hi0 hz0 hz1 hz2 rfl (own_empty w) rfl (hu.keep (Kp.alloc No w _) fun _ _ f => f) (by simp; omega) (by simp) ?_
         intro A1 n1 c1 w1 ha))
    go_ret
    exact ⟨A1, n1, c1, rfl, by simpa using ha.own, ha.keeps (own_empty w) (Kp.alloc No w _)⟩
end Go.Proofs.YtndghapdpfgmoaaGreat
namespace Go.Proofs.YtndghapdpfgmoaaGreat
open Go.RowKit
set_option linter.unusedVariables false
set_option maxRecDepth 20000

/-- The lowest k bytes of n, the least first. -/
def numB (n k : Nat) : List UInt8 := (List.range k).map fun i => UInt8.ofNat (n / 2 ^ (8 * i))
theorem numB_succ (n k : Nat) : numB n (k + 1) = numB n k ++ [UInt8.ofNat (n / 2 ^ (8 * k))] := by simp [numB, List.range_succ]
theorem numB_length (n k : Nat) : (numB n k).length = k := by simp [numB]
theorem bv_ofNat (m : Nat) : bv (UInt8.ofNat m) = .int .u8 ((m : Int) % 256) := by
  unfold bv
  rw [UInt8.toNat_ofNat']
  congr 1
/-- At block g lies a Writer that holds bs; it and its row lie in F. -/
def WrAt (w : World) (F : Nat → Prop) (g : Nat) (bs : List UInt8) : Prop :=
  ∃ v, w.heap[g]? = some (.cells #[v] 129 (0, 0)) ∧ Own w 0 5 v bs ∧ F g ∧ ∀ k, v.ownBlock = some k → F k

theorem own_ne {w : World} {base : Nat} {v : Value} {bs : List UInt8} {g : Nat} {t : TypeId} {cs : Array Value} (h : Own w base 5 v bs) (hg : w.heap[g]? = some (.cells cs t (0, 0))) (ht : t ≠ 5) : v.ownBlock ≠ some g := by
  rcases h.2 with ⟨rfl, _⟩ | ⟨g', cap, cur, rfl, _, hh, _⟩
  · simp [Value.ownBlock]
  · intro he
    simp only [Value.ownBlock, Option.some.injEq] at he
    subst he
    rw [hh] at hg
    simp only [Option.some.injEq, Obj.cells.injEq] at hg
    exact ht hg.2.1.symm

section
variable {w w1 : World} {F S : Nat → Prop} {g : Nat} {bs : List UInt8}
theorem WrAt.mono {T : Nat → Prop} (h : WrAt w F g bs) (hF : ∀ k, F k → T k) : WrAt w T g bs := by
  obtain ⟨v, h1, h2, h3, h4⟩ := h
  exact ⟨v, h1, h2, hF _ h3, fun k hk => hF _ (h4 k hk)⟩
theorem WrAt.lt (h : WrAt w F g bs) : WrAt w (fun k => F k ∧ k < w.heap.size) g bs := by
  obtain ⟨v, h1, h2, h3, h4⟩ := h
  exact ⟨v, h1, h2, ⟨h3, (Array.getElem?_eq_some_iff.1 h1).1⟩, fun k hk => ⟨h4 k hk, h2.lt k hk⟩⟩
theorem WrAt.keep (h : WrAt w F g bs) (hk : Kp S w w1) (hS : ∀ k, k < w.heap.size → F k → ¬ S k) : WrAt w1 F g bs := by
  obtain ⟨v, h1, h2, h3, h4⟩ := h.lt
  exact ⟨v, (hk.block g h3.2 (hS g h3.2 h3.1)).trans h1, h2.keep hk fun k hk => hS k (h4 k hk).2 (h4 k hk).1, h3.1, fun k hk => (h4 k hk).1⟩
theorem WrAt.drew (h : WrAt w F g bs) : WrAt w.drew F g bs := h
theorem WrAt.new (w : World) : WrAt (w.alloc (.cells #[.slice none 0 0] 129)) (fun k => k = w.heap.size) w.heap.size [] :=
  ⟨_, heap_alloc_new w _, Own.nil _ _ _, rfl, fun k hk => by simp [Value.ownBlock] at hk⟩
end

/-- What a call on a Writer comes to: the pointer is returned, cs is appended, all else is as it was. -/
def WrPost (w : World) (F : Nat → Prop) (g : Nat) (bs : List UInt8) (e : Ending) (w1 : World) : Prop :=
  e = .returned (.pointer (some ⟨g, 0, none⟩)) ∧ WrAt w1 (Up F w) g bs ∧ Kp F w w1

theorem raw_any {w : World} {F : Nat → Prop} {g : Nat} {bs cs : List UInt8} {u : Value} (h : WrAt w F g bs) (hu : Bts w u cs) (hl : bs.length + cs.length ≤ 1000000000) :
    Calls Tryz.prog 71 #[.pointer (some ⟨g, 0, none⟩), u] w (WrPost w F g (bs ++ cs)) := by
  obtain ⟨i0, hi0, hz0, hz1, hz2⟩ := byte_parts
  obtain ⟨v, h1, h2, h3, h4⟩ := h
  obtain ⟨A, n, c, rfl⟩ := h2.form
  obtain ⟨B, m, d, rfl⟩ := hu.form
  have hne := own_ne h2 h1 (by decide)
  have hc : w.cell? ⟨g, 0, none⟩ = some (.slice A n c) := by rw [cell_of_row w g 0 _ _ _ h1]; rfl
  go_enter Tryz.func71, Tryz.ntmps71
  go_wp2_with (first
    | (at_builtin
       refine wpList_app rfl (.tmp 11) (.tmp 12) _ rfl i0 Tryz.underlying47 hi0 hz0 hz1 hz2 rfl h2 rfl hu hl (Nat.zero_le _) ?_
       intro A1 n1 c1 w1 ha
       have hg1 : w1.heap[g]? = some (.cells #[.slice A n c] 129 (0, 0)) := (ha.kp.block g (Array.getElem?_eq_some_iff.1 h1).1 hne).trans h1
       have hc1 : w1.cell? ⟨g, 0, none⟩ = some (.slice A n c) := by rw [cell_of_row w1 g 0 _ _ _ hg1]; rfl
       have hf1 : w1.frozen? ⟨g, 0, none⟩ = false := frozen_of_row w1 g 0 _ _ hg1
       have HG := hide hg1
       clear hg1))
  go_ret
  have hg1 := HG.out
  refine ⟨rfl, ⟨_, heap_setCell_same w1 g 0 _ 129 _ hg1, ?_, .inl h3, fun k hk => ?_⟩, ?_⟩
  · refine ha.own.keep (Kp.setCell (p := ⟨g, 0, none⟩) (S := fun k => k = g) rfl _) fun k hk e => ?_
    subst e
    exact own_ne ha.own hg1 (by decide) hk
  · rcases ha.at_ with e | e
    · exact .inl (h4 k (e ▸ hk))
    · refine .inr ?_
      rw [hk] at e
      injection e with e
      omega
  · exact (ha.kp.mono h4).trans (Kp.setCell (.inl h3) _)

theorem WrPost.trans {w w1 : World} {F : Nat → Prop} {g : Nat} {bs : List UInt8} {e : Ending} {w2 : World} (hk : Kp F w w1) (h : WrPost w1 (Up F w) g bs e w2) : WrPost w F g bs e w2 :=
  ⟨h.1, h.2.1.mono fun _ hk' => hk'.two hk.size, hk.trans h.2.2⟩

/-- How many bytes Num writes. -/
def IsK (sz : Int) (K : Nat) : Prop := K ≤ 8 ∧ ((sz < 0 ∧ K = 0) ∨ (8 < sz ∧ K = 8) ∨ sz = K)

set_option maxHeartbeats 1000000 in
theorem num_any {w : World} {F : Nat → Prop} {g : Nat} {bs : List UInt8} (n : Nat) (sz : Int) (K : Nat) (hn : n < 18446744073709551616) (hK : IsK sz K) (h : WrAt w F g bs) (hl : bs.length ≤ 900000000) :
    Calls Tryz.prog 86 #[.pointer (some ⟨g, 0, none⟩), .int .u64 n, .int .i64 sz] w (WrPost w F g (bs ++ numB n K)) := by
  obtain ⟨i0, hi0, hz0, hz1, hz2⟩ := byte_parts
  have h8 := hK.1
  have hcase : (sz < 0 ∧ K ≤ 0) ∨ (8 < sz ∧ 8 ≤ K) ∨ sz = K := by have := hK.2; omega
  clear hK
  rcases hcase with ⟨hs, hK⟩ | ⟨hs, hK⟩ | rfl
  all_goals
    go_enter Tryz.func86, Tryz.ntmps86
    go_wp2
    go_loopw [7, 12] (fun b i wr => ∃ k A m c, k ≤ K ∧ i = .int .i64 ((k : Nat) : Int) ∧ b = .slice A m c ∧ Own wr w.heap.size 5 (.slice A m c) (numB n k) ∧ Kp No w wr) (fun _ i _ => 8 - (intOf i).toNat)
    case atStart => exact ⟨0, none, 0, 0, Nat.zero_le _, rfl, rfl, Own.nil _ _ _, Kp.refl _ _⟩
    case round =>
      obtain ⟨k, A, m, c, hk, rfl, rfl, hb, hkp⟩ := hrel
      by_cases hlt : k < K
      · first
        | (exfalso; omega)
        | (go_wp2_with (first
            | (at_builtin
               refine wpList_app rfl (.tmp 15) (.tmp 21) _ rfl i0 Tryz.underlying47 hi0 hz0 hz1 hz2 rfl (hb.alloc _) rfl (bts_new _ (UInt8.ofNat (n / 2 ^ (8 * k))) _ ?hv) ?hl ?hs ?_
               case hv => rw [bv_ofNat]; simp
               case hl => simp [numB_length]; omega
               case hs => have := hkp.size; simp; omega
               intro A1 n1 c1 w1 ha))
           go_round
           case rel => exact ⟨k + 1, A1, n1, c1, by omega, by go_num, rfl, by rw [numB_succ]; exact ha.own, ha.keeps (hb.alloc _) (hkp.trans (Kp.alloc _ _ _))⟩
           case measure => simp [intOf]; omega)
      · have hkK : k = K := by omega
        subst hkK
        go_wp2_with (go_at_call 71; refine (raw_any (bs := bs) (cs := numB n k) (F := Up F w) (g := g) ((h.keep hkp fun _ _ _ f => f).mono fun _ x => .inl x) hb.bts ?hlen).mono ?_; (case hlen => rw [numB_length]; omega); rintro e w2 hp; obtain rfl := hp.1)
        go_ret
        exact WrPost.trans (hkp.of_no F) hp

/-- A text's bytes. -/
def textB (cs : List UInt8) : List UInt8 := numB cs.length 2 ++ cs

/-- A shard's bytes. -/
def shardB (o st sl gn : Nat) : List UInt8 := numB o 4 ++ numB st 2 ++ numB sl 2 ++ numB gn 4

theorem WrPost.again {w : World} {G : Nat → Prop} {g : Nat} {bs : List UInt8} {e : Ending} {w1 : World} (h : WrPost w G g bs e w1) (hG : ∀ k, w.heap.size ≤ k → G k) : WrAt w1 G g bs :=
  h.2.1.mono fun k hk => hk.elim id (hG k)

/-- The blocks that F names or that are younger than w, but for the one that is made next. -/
def Nx (F : Nat → Prop) (w : World) (k : Nat) : Prop := k ≠ w.heap.size ∧ Up F w k

set_option maxHeartbeats 1000000 in
theorem shard_any {w : World} {F : Nat → Prop} {g : Nat} {bs : List UInt8} (o st sl gn : Nat) (ho : o < 4294967296) (hst : st < 65536) (hsl : sl < 65536) (hgn : gn < 4294967296) (h : WrAt w F g bs) (hl : bs.length ≤ 800000000) :
    Calls Tryz.prog 70 #[.pointer (some ⟨g, 0, none⟩), .agg #[.int .u32 o, .int .u16 st, .int .u16 sl, .int .u32 gn]] w (WrPost w F g (bs ++ shardB o st sl gn)) := by
  have hG : ∀ k, w.heap.size + 1 ≤ k → Nx F w k := fun k hk => ⟨by omega, .inr (by omega)⟩
  have HG := hide hG
  clear hG
  have hW : ∀ ob : Obj, WrAt (w.alloc ob) (Nx F w) g bs := fun ob => (h.lt.keep (Kp.alloc No w ob) fun _ _ _ f => f).mono fun k hk => ⟨by omega, .inl hk.1⟩
  have HW := hide hW
  clear hW
  have cells : ∀ (W0 w1 : World) (j : Nat) (x : Value), Kp (Nx F w) W0 w1 → W0.cell? ⟨w.heap.size, j, none⟩ = some x → w1.cell? ⟨w.heap.size, j, none⟩ = some x :=
    fun W0 w1 j x hk hc => hk.cell hc fun hn => hn.1 rfl
  have CS := hide cells
  clear cells
  go_enter Tryz.func70, Tryz.ntmps70
  go_wp2_with fail
  refine (num_any (bs := bs) (F := Nx F w) (g := g) o 4 4 (by omega) ⟨by omega, by omega⟩ (HW.out _) (by omega)).mono ?_
  rintro e w1 hp
  obtain rfl := hp.1
  have c1 : w1.cell? ⟨w.heap.size, 1, none⟩ = some (.int .u16 st) := CS.out _ _ 1 _ hp.2.2 (by simp)
  have c2 : w1.cell? ⟨w.heap.size, 2, none⟩ = some (.int .u16 sl) := CS.out _ _ 2 _ hp.2.2 (by simp)
  have c3 : w1.cell? ⟨w.heap.size, 3, none⟩ = some (.int .u32 gn) := CS.out _ _ 3 _ hp.2.2 (by simp)
  have ha1 := hp.again (fun k hk => HG.out k (by simpa using hk))
  have z1 : w.heap.size + 1 ≤ w1.heap.size := by have := hp.2.2.size; simpa using this
  have k1 := hp.2.2
  clear hp
  go_wp2_with fail
  refine (num_any (bs := bs ++ numB o 4) (F := Nx F w) (g := g) st 2 2 (by omega) ⟨by omega, by omega⟩ ha1 (by rw [List.length_append, numB_length]; omega)).mono ?_
  rintro e w2 hp
  obtain rfl := hp.1
  have d2 : w2.cell? ⟨w.heap.size, 2, none⟩ = some (.int .u16 sl) := CS.out _ _ 2 _ hp.2.2 c2
  have d3 : w2.cell? ⟨w.heap.size, 3, none⟩ = some (.int .u32 gn) := CS.out _ _ 3 _ hp.2.2 c3
  have ha2 := hp.again (fun k hk => HG.out k (by omega))
  have z2 : w.heap.size + 1 ≤ w2.heap.size := by have := hp.2.2.size; omega
  have k2 := k1.trans' hp.2.2
  clear hp
  go_wp2_with fail
  refine (num_any (bs := bs ++ numB o 4 ++ numB st 2) (F := Nx F w) (g := g) sl 2 2 (by omega) ⟨by omega, by omega⟩ ha2 (by simp only [List.length_append, numB_length]; omega)).mono ?_
  rintro e w3 hp
  obtain rfl := hp.1
  have e3 : w3.cell? ⟨w.heap.size, 3, none⟩ = some (.int .u32 gn) := CS.out _ _ 3 _ hp.2.2 d3
  have ha3 := hp.again (fun k hk => HG.out k (by omega))
  have z3 : w.heap.size + 1 ≤ w3.heap.size := by have := hp.2.2.size; omega
  have k3 := k2.trans' hp.2.2
  clear hp
  go_wp2_with fail
  refine (num_any (bs := bs ++ numB o 4 ++ numB st 2 ++ numB sl 2) (F := Nx F w) (g := g) gn 4 4 (by omega) ⟨by omega, by omega⟩ ha3 (by simp only [List.length_append, numB_length]; omega)).mono ?_
  rintro e w4 hp
  obtain rfl := hp.1
  have ha4 := hp.again (fun k hk => HG.out k (by omega))
  have k4 := k3.trans' hp.2.2
  clear hp
  go_wp2
  go_ret
  refine ⟨rfl, ?_, (Kp.alloc F w _).trans (k4.mono fun _ hk => hk.2)⟩
  have e : bs ++ shardB o st sl gn = bs ++ numB o 4 ++ numB st 2 ++ numB sl 2 ++ numB gn 4 := by simp [shardB, List.append_assoc]
  rw [e]
  exact ha4.mono fun _ hk => hk.2
end Go.Proofs.YtndghapdpfgmoaaGreat
namespace Go.Proofs.YtndghapdpfgmoaaGreat
open Go.RowKit
set_option linter.unusedVariables false
set_option maxRecDepth 20000

/-- The Writer's Bytes: a copy. -/
theorem bytes_any {w : World} {F : Nat → Prop} {g : Nat} {bs : List UInt8} (h : WrAt w F g bs) (hl : bs.length ≤ 900000000) : Calls Tryz.prog 72 #[.pointer (some ⟨g, 0, none⟩)] w (OwnPost w bs) := by
  obtain ⟨v, h1, h2, h3, h4⟩ := h
  obtain ⟨A, n, c, rfl⟩ := h2.form
  have hc : w.cell? ⟨g, 0, none⟩ = some (.slice A n c) := by rw [cell_of_row w g 0 _ _ _ h1]; rfl
  go_enter Tryz.func72, Tryz.ntmps72
  go_wp2_with (go_at_call 63; refine (clone_any h2.bts hl).mono ?_; rintro e w1 ⟨A1, n1, c1, rfl, ho, hk⟩)
  go_ret
  exact ⟨A1, n1, c1, rfl, ho, hk⟩

theorem div_step (n k : Nat) : n / 2 ^ (8 * k) / 256 = n / 2 ^ (8 * (k + 1)) := by
  rw [Nat.div_div_eq_div_mul]
  congr 1
  rw [show 8 * (k + 1) = 8 * k + 8 by omega, Nat.pow_add]

set_option maxHeartbeats 1000000 in
/-- The document's number: so many bytes of n. -/
theorem rnum_any {w : World} (n : Nat) (sz : Int) (K : Nat) (hn : n < 18446744073709551616) (hK : IsK sz K) : Calls Tryz.prog 88 #[.int .u64 n, .int .i64 sz] w (OwnPost w (numB n K)) := by
  obtain ⟨i0, hi0, hz0, hz1, hz2⟩ := byte_parts
  have h8 := hK.1
  have hcase : (sz < 0 ∧ K ≤ 0) ∨ (8 < sz ∧ 8 ≤ K) ∨ (0 ≤ sz ∧ sz ≤ 8 ∧ sz ≤ K ∧ K ≤ sz) := by have := hK.2; omega
  clear hK
  go_enter Tryz.func88, Tryz.ntmps88
  go_wp2
  go_loopw [0, 5, 6] (fun m b i wr => ∃ k A l c q, k ≤ K ∧ i = .int .i64 ((k : Nat) : Int) ∧ m = .int .u64 ((q : Nat) : Int) ∧ q < 18446744073709551616 ∧ Hid (q = n / 2 ^ (8 * k)) ∧ b = .slice A l c ∧ Own wr w.heap.size 5 (.slice A l c) (numB n k) ∧ Kp No w wr) (fun _ _ i _ => 8 - (intOf i).toNat)
  case atStart => exact ⟨0, none, 0, 0, n, Nat.zero_le _, rfl, rfl, hn, by show n = n / 2 ^ 0; simp, rfl, Own.nil _ _ _, Kp.refl _ _⟩
  case round =>
    obtain ⟨k, A, l, c, q, hk, rfl, rfl, hq, HQ, rfl, hb, hkp⟩ := hrel
    by_cases hlt : k < K
    · have ht : (k : Int) < sz := by omega
      have ht8 : (k : Int) < 8 := by omega
      clear hcase
      go_wp2_with (first
        | (at_builtin
           refine wpList_app rfl (.tmp 16) (.tmp 20) _ rfl i0 Tryz.underlying47 hi0 hz0 hz1 hz2 rfl (hb.alloc _) rfl (bts_new _ (UInt8.ofNat (n / 2 ^ (8 * k))) _ ?hv) ?hl ?hs ?_
           case hv => rw [bv_ofNat, ← HQ.out]
           case hl => simp [numB_length]; omega
           case hs => have := hkp.size; simp; omega
           intro A1 n1 c1 w1 ha))
      go_round
      case rel => exact ⟨k + 1, A1, n1, c1, q / 256, by omega, by go_num, by go_num, by omega, by show q / 256 = _; rw [HQ.out, div_step], rfl, by rw [numB_succ]; exact ha.own, ha.keeps (hb.alloc _) (hkp.trans (Kp.alloc _ _ _))⟩
      case measure => simp [intOf]; omega
    · have hkK : k = K := by omega
      subst hkK
      by_cases ht : (k : Int) < sz
      · have ht8 : ¬ (k : Int) < 8 := by omega
        clear hcase
        go_wp2
        go_ret
        exact ⟨A, l, c, rfl, hb, hkp⟩
      · clear hcase
        go_wp2
        go_ret
        exact ⟨A, l, c, rfl, hb, hkp⟩
end Go.Proofs.YtndghapdpfgmoaaGreat
namespace Go.Proofs.YtndghapdpfgmoaaGreat
set_option linter.unusedVariables false
set_option maxRecDepth 20000
set_option linter.unusedSimpArgs false

/-- One bit leaves the register. -/
def cb (c : Nat) : Nat := if c % 2 = 1 then c / 2 ^^^ 0x82f63b78 else c / 2
/-- So many bits leave it. -/
def cn : Nat → Nat → Nat
  | 0, c => c
  | k + 1, c => cn k (cb c)
/-- One byte is fed. -/
def cby (c b : Nat) : Nat := cn 8 (c ^^^ b)
/-- Bytes are fed. -/
def cbs (c : Nat) (bs : List UInt8) : Nat := bs.foldl (fun c b => cby c b.toNat) c
/-- All ones. -/
def c1s : Nat := 4294967295
/-- The sum of bytes. -/
def crc (bs : List UInt8) : Nat := c1s - cbs c1s bs
/-- Bytes as one number, the first the least. -/
def bnum : List UInt8 → Nat
  | [] => 0
  | b :: t => b.toNat + 256 * bnum t

theorem xor_half (a b : Nat) : (a ^^^ b) / 2 = a / 2 ^^^ b / 2 := by
  have := Nat.shiftRight_xor_distrib (a := a) (b := b) (i := 1)
  simpa [Nat.shiftRight_succ] using this
theorem xor_odd (a b : Nat) : (a ^^^ b) % 2 = (a % 2 + b % 2) % 2 := by
  have h := Nat.xor_mod_two_pow (a := a) (b := b) (n := 1)
  rw [Nat.pow_one] at h
  rw [h]
  have ha : a % 2 = 0 ∨ a % 2 = 1 := by omega
  have hb : b % 2 = 0 ∨ b % 2 = 1 := by omega
  rcases ha with ha | ha <;> rcases hb with hb | hb <;> rw [ha, hb] <;> decide
theorem cb_xor (a b : Nat) : cb (a ^^^ b) = cb a ^^^ cb b := by
  unfold cb
  rw [xor_odd, xor_half]
  have ha : a % 2 = 0 ∨ a % 2 = 1 := by omega
  have hb : b % 2 = 0 ∨ b % 2 = 1 := by omega
  rcases ha with ha | ha <;> rcases hb with hb | hb <;> rw [ha, hb]
  · simp
  · simp only [Nat.zero_add, if_true, if_false, Nat.reduceMod, Nat.reduceEqDiff]
    rw [← Nat.xor_assoc]
  · simp only [Nat.add_zero, if_true, if_false, Nat.reduceMod, Nat.reduceEqDiff]
    rw [Nat.xor_assoc, Nat.xor_comm (b / 2), ← Nat.xor_assoc]
  · simp only [Nat.reduceAdd, Nat.reduceMod, if_true]
    simp only [Nat.reduceEqDiff, if_false]
    rw [Nat.xor_assoc, ← Nat.xor_assoc 2197175160 (b / 2), Nat.xor_comm 2197175160 (b / 2), Nat.xor_assoc (b / 2), Nat.xor_self, Nat.xor_zero]
theorem cn_xor (k a b : Nat) : cn k (a ^^^ b) = cn k a ^^^ cn k b := by
  induction k generalizing a b with
  | zero => rfl
  | succ k ih => show cn k (cb (a ^^^ b)) = cn k (cb a) ^^^ cn k (cb b); rw [cb_xor, ih]
theorem cn_add (k l c : Nat) : cn (k + l) c = cn l (cn k c) := by
  induction k generalizing c with
  | zero => rw [Nat.zero_add]; rfl
  | succ k ih => rw [Nat.succ_add]; exact ih _
theorem cb_even (x : Nat) : cb (2 * x) = x := by unfold cb; rw [if_neg (by omega)]; omega
theorem cn_up (k x : Nat) : cn k (2 ^ k * x) = x := by
  induction k generalizing x with
  | zero => simp [cn]
  | succ k ih =>
    show cn k (cb (2 ^ (k + 1) * x)) = x
    rw [Nat.pow_succ, Nat.mul_comm (2 ^ k) 2, Nat.mul_assoc, cb_even, ih]
theorem cb_lt {c : Nat} (h : c < 2 ^ 32) : cb c < 2 ^ 32 := by
  unfold cb
  split
  · exact Nat.xor_lt_two_pow (by omega) (by decide)
  · omega
theorem cn_lt {c : Nat} (h : c < 2 ^ 32) (k : Nat) : cn k c < 2 ^ 32 := by
  induction k generalizing c with
  | zero => exact h
  | succ k ih => exact ih (cb_lt h)
theorem xor_zero_eq {a b : Nat} (h : a ^^^ b = 0) : a = b := by
  have : (a ^^^ b) ^^^ b = 0 ^^^ b := by rw [h]
  rw [Nat.xor_assoc, Nat.xor_self, Nat.xor_zero, Nat.zero_xor] at this
  exact this
theorem cb_zero {c : Nat} (h : c < 2 ^ 32) (hz : cb c = 0) : c = 0 := by
  unfold cb at hz
  split at hz
  · have := xor_zero_eq hz
    omega
  · omega
theorem cn_zero {c : Nat} (h : c < 2 ^ 32) (k : Nat) (hz : cn k c = 0) : c = 0 := by
  induction k generalizing c with
  | zero => exact hz
  | succ k ih => exact cb_zero h (ih (cb_lt h) hz)
/-- A great number's low byte and the rest. -/
theorem low_xor {b : Nat} (h : b < 256) (x : Nat) : b + 256 * x = b ^^^ 256 * x := by
  apply Nat.eq_of_testBit_eq
  intro i
  have e : b + 256 * x = 2 ^ 8 * x + b := by omega
  rw [e, Nat.testBit_two_pow_mul_add x h, Nat.testBit_xor]
  have e2 : 256 * x = 2 ^ 8 * x := rfl
  rw [e2, Nat.testBit_two_pow_mul]
  by_cases g : i < 8
  · have : decide (i ≥ 8) = false := decide_eq_false (by omega)
    rw [if_pos g, this]; simp
  · have hd : decide (i ≥ 8) = true := decide_eq_true (by omega)
    rw [if_neg g, hd]
    have : b.testBit i = false := Nat.testBit_lt_two_pow (Nat.lt_of_lt_of_le h (by
      have := Nat.pow_le_pow_right (n := 2) (by omega) (show 8 ≤ i by omega)
      exact this))
    rw [this]; simp
theorem cn8_split (x : Nat) : cn 8 x = cn 8 (x % 256) ^^^ x / 256 := by
  have e : x = x % 256 ^^^ 256 * (x / 256) := by rw [← low_xor (Nat.mod_lt _ (by omega))]; omega
  have h := cn_xor 8 (x % 256) (256 * (x / 256))
  rw [← e] at h
  rw [h]
  congr 1
  exact cn_up 8 (x / 256)
theorem cby_lt {c b : Nat} (h : c < 2 ^ 32) (hb : b < 256) : cby c b < 2 ^ 32 := cn_lt (Nat.xor_lt_two_pow h (by omega)) 8
theorem cbs_lt {c : Nat} (h : c < 2 ^ 32) (bs : List UInt8) : cbs c bs < 2 ^ 32 := by
  induction bs generalizing c with
  | nil => exact h
  | cons b t ih => exact ih (cby_lt h (by have := b.toNat_lt; omega))
theorem cbs_app (c : Nat) (a b : List UInt8) : cbs c (a ++ b) = cbs (cbs c a) b := List.foldl_append
/-- Bytes are fed as one great number. -/
theorem cbs_num (c : Nat) (bs : List UInt8) : cbs c bs = cn (8 * bs.length) (c ^^^ bnum bs) := by
  induction bs generalizing c with
  | nil => simp [cbs, bnum, cn]
  | cons b t ih =>
    have hb := b.toNat_lt
    show cbs (cby c b.toNat) t = _
    rw [ih, show 8 * (b :: t).length = 8 + 8 * t.length by simp; omega, cn_add]
    congr 1
    show cby c b.toNat ^^^ bnum t = cn 8 (c ^^^ (b.toNat + 256 * bnum t))
    rw [low_xor (by omega), ← Nat.xor_assoc, cn_xor]
    unfold cby
    congr 1
    exact (cn_up 8 (bnum t)).symm
/-- Turned bits within 32 side by side, at any place, change the register. -/
theorem cbs_burst {c : Nat} {us bs : List UInt8} {B s : Nat} (hl : us.length = bs.length) (hB : B < 2 ^ 32) (h0 : B ≠ 0) (hs : s + 32 ≤ 8 * us.length) (he : bnum bs = bnum us ^^^ 2 ^ s * B) : cbs c bs ≠ cbs c us := by
  intro e
  rw [cbs_num, cbs_num, ← hl, he, ← Nat.xor_assoc, cn_xor] at e
  have hz : cn (8 * us.length) (2 ^ s * B) = 0 := by
    have : (cn (8 * us.length) (c ^^^ bnum us) ^^^ cn (8 * us.length) (2 ^ s * B)) ^^^ cn (8 * us.length) (c ^^^ bnum us) = 0 := by rw [e, Nat.xor_self]
    rw [Nat.xor_comm, ← Nat.xor_assoc, Nat.xor_self, Nat.zero_xor] at this
    exact this
  rw [show 8 * us.length = s + (8 * us.length - s) by omega, cn_add, cn_up] at hz
  exact h0 (cn_zero hB _ hz)
theorem c1s_lt : c1s < 2 ^ 32 := by decide
/-- The complement. -/
theorem comp_xor {x : Nat} (h : x < 2 ^ 32) : c1s - x = x ^^^ c1s := by
  have e : c1s = 2 ^ 32 - 1 := rfl
  apply Nat.eq_of_testBit_eq
  intro i
  rw [Nat.testBit_xor, e, show 2 ^ 32 - 1 - x = 2 ^ 32 - (x + 1) by omega, Nat.testBit_two_pow_sub_succ h, Nat.testBit_two_pow_sub_one]
  by_cases g : i < 32
  · simp [g]
  · have : x.testBit i = false := Nat.testBit_lt_two_pow (Nat.lt_of_lt_of_le h (Nat.pow_le_pow_right (by omega) (by omega)))
    simp [g, this]
theorem crc_lt (bs : List UInt8) : crc bs < 2 ^ 32 := by unfold crc c1s; omega
/-- Go. -/
theorem crc_go (a b : List UInt8) : c1s - cbs (c1s - crc a) b = crc (a ++ b) := by
  have h := cbs_lt c1s_lt a
  have e : c1s - crc a = cbs c1s a := by unfold crc; have : cbs c1s a ≤ c1s := by unfold c1s; unfold c1s at h; omega
                                         omega
  rw [e]
  unfold crc
  rw [cbs_app]
theorem crc_inj {a b : List UInt8} (h : crc a = crc b) : cbs c1s a = cbs c1s b := by
  have ha := cbs_lt c1s_lt a
  have hb := cbs_lt c1s_lt b
  unfold crc at h
  have e : c1s = 2 ^ 32 - 1 := rfl
  omega
theorem bnum_app (a b : List UInt8) : bnum (a ++ b) = bnum a + 256 ^ a.length * bnum b := by
  induction a with
  | nil => simp [bnum]
  | cons x t ih =>
    show x.toNat + 256 * bnum (t ++ b) = x.toNat + 256 * bnum t + 256 ^ (t.length + 1) * bnum b
    rw [ih, Nat.mul_add, Nat.pow_succ, Nat.mul_comm (256 ^ t.length) 256, Nat.mul_assoc, Nat.add_assoc]
theorem bnum_lt (a : List UInt8) : bnum a < 256 ^ a.length := by
  induction a with
  | nil => simp [bnum]
  | cons x t ih =>
    have := x.toNat_lt
    show x.toNat + 256 * bnum t < 256 ^ (t.length + 1)
    rw [Nat.pow_succ]
    omega
/-- One bit of the bytes is turned. -/
def bflip (bs : List UInt8) (k : Nat) : List UInt8 := bs.set (k / 8) (bs.getD (k / 8) 0 ^^^ UInt8.ofNat (2 ^ (k % 8)))
theorem bflip_len (bs : List UInt8) (k : Nat) : (bflip bs k).length = bs.length := by simp [bflip]
theorem bnum_flip (bs : List UInt8) (k : Nat) (h : k < 8 * bs.length) : bnum (bflip bs k) = bnum bs ^^^ 2 ^ k := by
  induction bs generalizing k with
  | nil => simp at h
  | cons b t ih =>
    have hb := b.toNat_lt
    by_cases g : k < 8
    · have e1 : k / 8 = 0 := by omega
      have e2 : k % 8 = k := by omega
      have hp : 2 ^ k < 256 := by
        have := Nat.pow_lt_pow_right (a := 2) (by omega) g
        exact this
      have e3 : bflip (b :: t) k = (b ^^^ UInt8.ofNat (2 ^ k)) :: t := by unfold bflip; rw [e1, e2]; rfl
      rw [e3]
      show (b ^^^ UInt8.ofNat (2 ^ k)).toNat + 256 * bnum t = (b.toNat + 256 * bnum t) ^^^ 2 ^ k
      have e4 : (b ^^^ UInt8.ofNat (2 ^ k)).toNat = b.toNat ^^^ 2 ^ k := by rw [UInt8.toNat_xor, UInt8.toNat_ofNat', Nat.mod_eq_of_lt hp]
      rw [e4, low_xor (Nat.xor_lt_two_pow (n := 8) (by omega) hp), low_xor (by omega), Nat.xor_assoc, Nat.xor_comm (2 ^ k), ← Nat.xor_assoc]
    · obtain ⟨j, rfl⟩ : ∃ j, k = j + 8 := ⟨k - 8, by omega⟩
      have e1 : (j + 8) / 8 = j / 8 + 1 := by omega
      have e2 : (j + 8) % 8 = j % 8 := by omega
      have e3 : bflip (b :: t) (j + 8) = b :: bflip t j := by unfold bflip; rw [e1, e2]; rfl
      rw [e3]
      show b.toNat + 256 * bnum (bflip t j) = (b.toNat + 256 * bnum t) ^^^ 2 ^ (j + 8)
      rw [ih j (by simp at h; omega), low_xor (by omega), low_xor (by omega), Nat.xor_assoc]
      congr 1
      have e4 : 2 ^ (j + 8) = 256 * 2 ^ j := by rw [Nat.pow_add, Nat.mul_comm]
      rw [e4]
      have := Nat.shiftLeft_xor_distrib (a := bnum t) (b := 2 ^ j) (i := 8)
      simp only [Nat.shiftLeft_eq] at this
      rw [Nat.mul_comm 256, Nat.mul_comm 256, Nat.mul_comm 256]
      exact this
/-- So many of 32 bits are turned, from s on. -/
def bflips (bs : List UInt8) (s B : Nat) : Nat → List UInt8
  | 0 => bs
  | i + 1 => if B / 2 ^ i % 2 = 1 then bflip (bflips bs s B i) (s + i) else bflips bs s B i
theorem bflips_len (bs : List UInt8) (s B i : Nat) : (bflips bs s B i).length = bs.length := by
  induction i with
  | zero => rfl
  | succ i ih => unfold bflips; split; rw [bflip_len, ih]; exact ih
theorem mod_succ (B i : Nat) : B % 2 ^ (i + 1) = B % 2 ^ i + 2 ^ i * (B / 2 ^ i % 2) := by
  rw [Nat.pow_succ, Nat.mod_mul]
theorem bnum_flips (bs : List UInt8) (s B i : Nat) (h : s + i ≤ 8 * bs.length) : bnum (bflips bs s B i) = bnum bs ^^^ 2 ^ s * (B % 2 ^ i) := by
  induction i with
  | zero => simp [bflips, Nat.mod_one]
  | succ i ih =>
    have ih := ih (by omega)
    unfold bflips
    by_cases g : B / 2 ^ i % 2 = 1
    · rw [if_pos g, bnum_flip _ _ (by rw [bflips_len]; omega), ih, Nat.xor_assoc]
      congr 1
      rw [mod_succ, g, Nat.mul_one, Nat.mul_add, ← Nat.pow_add]
      have hlt : 2 ^ s * (B % 2 ^ i) < 2 ^ (s + i) := by
        rw [Nat.pow_add]
        exact Nat.mul_lt_mul_of_pos_left (Nat.mod_lt _ (Nat.two_pow_pos _)) (Nat.two_pow_pos _)
      apply Nat.eq_of_testBit_eq
      intro j
      have e : 2 ^ s * (B % 2 ^ i) + 2 ^ (s + i) = 2 ^ (s + i) * 1 + 2 ^ s * (B % 2 ^ i) := by omega
      rw [e, Nat.testBit_two_pow_mul_add 1 hlt, Nat.testBit_xor, Nat.testBit_two_pow]
      by_cases q : j < s + i
      · have hd : decide (s + i = j) = false := decide_eq_false (by omega)
        rw [if_pos q, hd]; simp
      · rw [if_neg q]
        have : (2 ^ s * (B % 2 ^ i)).testBit j = false := Nat.testBit_lt_two_pow (Nat.lt_of_lt_of_le hlt (Nat.pow_le_pow_right (by omega) (by omega)))
        rw [this]
        by_cases r : s + i = j
        · subst r; simp
        · have : Nat.testBit 1 (j - (s + i)) = false := by
            obtain ⟨u, hu⟩ : ∃ u, j - (s + i) = u + 1 := ⟨j - (s + i) - 1, by omega⟩
            rw [hu, Nat.testBit_succ]; simp
          rw [this]; simp [r]
    · rw [if_neg g, ih, mod_succ, show B / 2 ^ i % 2 = 0 by omega, Nat.mul_zero, Nat.add_zero]
/-- What is turned within 32 bits of what stands behind some bytes is found. -/
theorem crc_finds {hd bs : List UInt8} {s B : Nat} (hB : B < 2 ^ 32) (h0 : B ≠ 0) (hs : s + 32 ≤ 8 * bs.length) : crc (hd ++ bflips bs s B 32) ≠ crc (hd ++ bs) := by
  intro e
  have e := crc_inj e
  rw [cbs_app, cbs_app] at e
  refine cbs_burst (us := bs) (bs := bflips bs s B 32) (B := B) (s := s) (bflips_len _ _ _ _).symm hB h0 hs ?_ e
  rw [bnum_flips _ _ _ _ hs, Nat.mod_eq_of_lt hB]
end Go.Proofs.YtndghapdpfgmoaaGreat
