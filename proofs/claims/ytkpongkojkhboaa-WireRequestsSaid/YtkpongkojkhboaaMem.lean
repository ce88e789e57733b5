/- Memory in plain words, for any program: what a step keeps, bytes that a slice reads as, and a row of bytes that the call made and appends to. No condition. -/
import Derived.WalkKit
import Derived.Maps.AppendAt
import Derived.Laws.IdiomStrings
import Derived.Deep.Draws
import Derived.DataReads
import Derived.BigFrame
namespace Go.Proofs.Ytkpongkojkhboaa
open Go.RowKit

/-- A fact laid out of the walk's sight. -/
theorem hide {p : Prop} (h : p) : Hid p := h

/-- The blocks outside S are as they were. -/
structure Kp (S : Nat → Prop) (w w' : World) : Prop where
  os : w'.os = w.os
  tape : w'.tape = w.tape
  output : w'.output = w.output
  size : w.heap.size ≤ w'.heap.size
  block : ∀ k, k < w.heap.size → ¬ S k → w'.heap[k]? = w.heap[k]?

/-- S, and all that is younger than w. -/
def Up (S : Nat → Prop) (w : World) (k : Nat) : Prop := S k ∨ w.heap.size ≤ k
/-- No block. -/
def No (_ : Nat) : Prop := False

section
variable {S T : Nat → Prop} {w w1 w2 : World}
theorem Kp.refl (S : Nat → Prop) (w : World) : Kp S w w := ⟨rfl, rfl, rfl, Nat.le_refl _, fun _ _ _ => rfl⟩
theorem Kp.mono (h : Kp S w w1) (hs : ∀ k, S k → T k) : Kp T w w1 := ⟨h.os, h.tape, h.output, h.size, fun k hk hn => h.block k hk fun s => hn (hs k s)⟩
theorem Kp.of_no (h : Kp No w w1) (S : Nat → Prop) : Kp S w w1 := h.mono fun _ f => f.elim
theorem Kp.trans (h : Kp S w w1) (k : Kp (Up S w) w1 w2) : Kp S w w2 :=
  ⟨k.os.trans h.os, k.tape.trans h.tape, k.output.trans h.output, Nat.le_trans h.size k.size, fun i hi hn =>
    (k.block i (Nat.lt_of_lt_of_le hi h.size) (by rintro (s | s); exact hn s; omega)).trans (h.block i hi hn)⟩
theorem Kp.trans' (h : Kp S w w1) (k : Kp S w1 w2) : Kp S w w2 := h.trans (k.mono fun _ s => .inl s)
theorem Kp.up (h : Kp S w w1) : Kp (Up S w) w w1 := h.mono fun _ s => .inl s
theorem Up.mono (hs : ∀ k, S k → T k) {k : Nat} (h : Up S w k) : Up T w k := h.imp (hs k) id
theorem Up.le (hw : w.heap.size ≤ w1.heap.size) {k : Nat} (h : Up S w1 k) : Up S w k := h.imp id (Nat.le_trans hw)
theorem Up.two (hw : w.heap.size ≤ w1.heap.size) {k : Nat} (h : Up (Up S w) w1 k) : Up S w k := by
  rcases h with h | h
  · exact h
  · exact .inr (Nat.le_trans hw h)
theorem Kp.grown {row : Option Nat} (h : w.grownBy w1 row) : Kp (fun k => row = some k) w w1 := ⟨h.os, h.tape, h.output, h.size, fun k hk hn => h.block k hk fun e => hn e.symm⟩
theorem Kp.alloc (S : Nat → Prop) (w : World) (o : Obj) : Kp S w (w.alloc o) := ⟨rfl, rfl, rfl, by simp, fun k hk _ => Below.heap_alloc w o k hk⟩
theorem Kp.drew (h : Kp S w w1) : Kp S w w1.drew := ⟨h.os, h.tape, h.output, h.size, h.block⟩
theorem Kp.drewN (h : Kp S w w1) (n : Nat) : Kp S w (w1.drewN n) := ⟨h.os, h.tape, h.output, h.size, h.block⟩
theorem Kp.setCell {p : Addr} (hp : S p.block) (u : Value) : Kp S w (w.setCell p u) :=
  ⟨rfl, rfl, rfl, by simp [World.setCell], fun k _ hn => Below.heap_setCell w p u k (fun e => hn (e ▸ hp))⟩
theorem Kp.below {B : Nat} (h : Kp S w w1) (hs : ∀ k, S k → B ≤ k) (hB : B ≤ w.heap.size) : Below B w w1 :=
  ⟨h.os, h.tape, h.output, h.size, fun k hk => h.block k (by omega) fun s => by have := hs k s; omega⟩
theorem Kp.below0 (h : Kp No w w1) : Below w.heap.size w w1 := h.below (fun _ f => f.elim) (Nat.le_refl _)
theorem Kp.of_below {B : Nat} (h : Below B w w1) (hs : ∀ k, B ≤ k → S k) : Kp S w w1 :=
  ⟨h.os, h.tape, h.output, h.size, fun k _ hn => h.block k (by rcases Nat.lt_or_ge k B with g | g; exact g; exact absurd (hs k g) hn)⟩
theorem Kp.cell {p : Addr} {v : Value} (h : Kp S w w1) (hc : w.cell? p = some v) (hn : ¬ S p.block) : w1.cell? p = some v :=
  (World.cell?_of_block (h.block p.block (World.block_lt_of_cell? w p hc) hn)).trans hc
end

/-- A byte's value. -/
def bv (b : UInt8) : Value := .int .u8 (b.toNat : Int)
theorem bv_one (b : UInt8) : (bv b).oneCell' = true := rfl
theorem blk_add (a : Addr) (n : Nat) : (a.add n).block = a.block := by unfold Addr.add; split <;> rfl

/-- The slice v reads as the bytes bs in w. -/
def Bts (w : World) (v : Value) (bs : List UInt8) : Prop :=
  ∃ (A : Option Addr) (c : Nat), v = .slice A bs.length c ∧ (A = none → bs = [] ∧ c = 0) ∧ ∀ ad, A = some ad → ∀ (j : Nat) (u : UInt8), bs[j]? = some u → w.cell? (ad.add j) = some (bv u)

section
variable {S : Nat → Prop} {w w1 : World} {v : Value} {bs : List UInt8}
theorem Bts.nil (w : World) : Bts w (.slice none 0 0) [] := ⟨none, 0, rfl, fun _ => ⟨rfl, rfl⟩, fun _ h => by cases h⟩
theorem Bts.keep (h : Bts w v bs) (hk : Kp S w w1) (hS : ∀ k, v.ownBlock = some k → ¬ S k) : Bts w1 v bs := by
  obtain ⟨A, c, rfl, hn, hc⟩ := h
  refine ⟨A, c, rfl, hn, fun ad ha j u hu => ?_⟩
  subst ha
  exact hk.cell (hc ad rfl j u hu) (by rw [blk_add]; exact hS _ rfl)
theorem Bts.below {B : Nat} (h : Bts w v bs) (hk : Below B w w1) (hS : ∀ k, v.ownBlock = some k → k < B) : Bts w1 v bs :=
  h.keep (Kp.of_below (S := fun k => B ≤ k) hk fun _ g => g) fun k hk => by have := hS k hk; omega
theorem Bts.form (h : Bts w v bs) : ∃ A n c, v = .slice A n c := by
  obtain ⟨A, c, rfl, _⟩ := h
  exact ⟨A, _, c, rfl⟩
theorem Bts.len {A : Option Addr} {n c : Nat} (h : Bts w (.slice A n c) bs) : n = bs.length := by
  obtain ⟨A, c, h1, _⟩ := h
  injection h1
theorem add_none (B off j : Nat) : (⟨B, off, none⟩ : Addr).add j = ⟨B, off + j, none⟩ := by
  unfold Addr.add
  split
  · simp_all
  · rfl
/-- A byte's cell. -/
theorem Bts.at_ {A : Option Addr} {m c j : Nat} (h : Bts w (.slice A m c) bs) (hj : j < m) :
    ∃ B off b, A = some ⟨B, off, none⟩ ∧ bs[j]? = some b ∧ w.cell? ⟨B, off + j, none⟩ = some (.int .u8 (b.toNat : Int)) := by
  have hl : m = bs.length := by
    obtain ⟨_, _, e, _⟩ := h
    injection e
  obtain ⟨A', c', e, hn, hc⟩ := h
  injection e with e1 e2 e3
  subst e1 e3
  rcases A with _ | ⟨B, off, spot⟩
  · have := (hn rfl).1
    subst this
    simp at hl
    omega
  · have h0 := hc _ rfl 0 _ (List.getElem?_eq_getElem (by omega : 0 < bs.length))
    have hs : spot = none := by simpa [Addr.add] using World.cell?_spot h0
    subst hs
    have hjj := hc _ rfl j _ (List.getElem?_eq_getElem (by omega : j < bs.length))
    rw [add_none] at hjj
    exact ⟨B, off, _, rfl, List.getElem?_eq_getElem (by omega), hjj⟩
theorem Bts.no (h : Bts w v bs) (hk : Kp No w w1) : Bts w1 v bs := h.keep hk fun _ _ f => f
theorem Bts.drew (h : Bts w v bs) : Bts w.drew v bs := h
theorem Bts.drewN (h : Bts w v bs) (n : Nat) : Bts (w.drewN n) v bs := h
theorem Bts.alloc (h : Bts w v bs) (o : Obj) (hl : ∀ k, v.ownBlock = some k → k < w.heap.size) : Bts (w.alloc o) v bs :=
  h.below (B := w.heap.size) ((Below.refl _ _).alloc (Nat.le_refl _) o) hl

/-- The bytes as a string. -/
def strOf (bs : List UInt8) : ByteArray := ⟨bs.toArray⟩
theorem strOf_toList (bs : List UInt8) : (strOf bs).data.toList = bs := rfl
theorem Bts.str {P : Program} (h : Bts w v bs) (src dst e : TypeId) (hs : P.underlying src = some (.slice e)) (he : P.underlying e = some (.int .u8)) (hd : P.underlying dst = some .string) :
    (convert src dst v).run P w = .ok (.string (strOf bs)) w := by
  obtain ⟨A, c, rfl, hn, hc⟩ := h
  rcases A with _ | ad
  · obtain ⟨rfl, rfl⟩ := hn rfl
    rw [run_convert_bytes_string w src dst e none _ 0 hs he hd]
    rfl
  · exact run_convert_bytes_back w src dst e ad c bs hs he hd fun j hj => hc ad rfl j _ (List.getElem?_eq_getElem hj)
end

/-- The row of bytes v is the call's own, from block base on. -/
def Own (w : World) (base : Nat) (e : TypeId) (v : Value) (bs : List UInt8) : Prop := w.ownsRow base e 1 v bs.length (bs.map bv)

section
variable {S : Nat → Prop} {w w1 : World} {base : Nat} {e : TypeId} {v : Value} {bs : List UInt8}
theorem Own.nil (w : World) (base : Nat) (e : TypeId) : Own w base e (.slice none 0 0) [] := World.ownsRow_nil w base e 1
theorem Own.lt (h : Own w base e v bs) (k : Nat) (hk : v.ownBlock = some k) : k < w.heap.size := (World.ownsRow.lt h k hk).2
theorem Own.ge (h : Own w base e v bs) (k : Nat) (hk : v.ownBlock = some k) : base ≤ k := (World.ownsRow.lt h k hk).1
theorem Own.keep (h : Own w base e v bs) (hk : Kp S w w1) (hS : ∀ k, v.ownBlock = some k → ¬ S k) : Own w1 base e v bs := by
  refine ⟨h.1, ?_⟩
  rcases h.2 with hn | ⟨g, cap, cur, rfl, hb, hg, r⟩
  · exact .inl hn
  · exact .inr ⟨g, cap, cur, rfl, hb, by rw [hk.block g (Array.getElem?_eq_some_iff.1 hg).1 (hS g rfl)]; exact hg, r⟩
theorem Own.no (h : Own w base e v bs) (hk : Kp No w w1) : Own w1 base e v bs := h.keep hk fun _ _ f => f
theorem Own.rebase {b : Nat} (h : Own w base e v bs) (hb : ∀ k, v.ownBlock = some k → b ≤ k) : Own w b e v bs := by
  refine ⟨h.1, ?_⟩
  rcases h.2 with hn | ⟨g, cap, cur, rfl, _, r⟩
  · exact .inl hn
  · exact .inr ⟨g, cap, cur, rfl, hb g rfl, r⟩
theorem Own.base0 (h : Own w base e v bs) : Own w 0 e v bs := h.rebase fun _ _ => Nat.zero_le _
theorem Own.drew (h : Own w base e v bs) : Own w.drew base e v bs := h
theorem Own.drewN (h : Own w base e v bs) (n : Nat) : Own (w.drewN n) base e v bs := h
theorem Own.alloc (h : Own w base e v bs) (o : Obj) : Own (w.alloc o) base e v bs := h.keep (Kp.alloc No w o) fun _ _ f => f
theorem Own.form (h : Own w base e v bs) : ∃ A n c, v = .slice A n c := by
  rcases h.2 with ⟨rfl, hn⟩ | ⟨g, cap, cur, rfl, _⟩
  · exact ⟨none, 0, 0, rfl⟩
  · exact ⟨_, _, _, rfl⟩
theorem Own.len {A : Option Addr} {n c : Nat} (h : Own w base e (.slice A n c) bs) : n = bs.length := by
  rcases h.2 with ⟨h1, hn⟩ | ⟨g, cap, cur, h1, _⟩
  · injection h1 with _ h1 _
    omega
  · injection h1
theorem Own.bts (h : Own w base e v bs) : Bts w v bs := by
  rcases h.2 with ⟨rfl, hn⟩ | ⟨g, cap, cur, rfl, _, hg, _, _, _, ht⟩
  · have : bs = [] := List.eq_nil_of_length_eq_zero hn
    subst this
    exact Bts.nil w
  · refine ⟨_, cap, rfl, (fun h => by cases h), fun ad ha j u hu => ?_⟩
    injection ha with ha
    subst ha
    have hj : j < bs.length := (List.getElem?_eq_some_iff.1 hu).1
    have hcell : w.cell? ⟨g, j, none⟩ = cur[j]? := cell_of_row w g j cur e (0, 0) hg
    have ha : (⟨g, 0, none⟩ : Addr).add j = ⟨g, j, none⟩ := by
      unfold Addr.add
      split
      · simp_all
      · simp
    rw [ha, hcell]
    have h2 : (cur.toList.take (bs.length * 1))[j]? = (bs.map bv)[j]? := by rw [ht]
    rw [List.getElem?_take, if_pos (by omega)] at h2
    simp only [Array.getElem?_toList, List.getElem?_map, hu, Option.map_some] at h2
    exact h2

/-- What append leaves. -/
structure App (w : World) (base : Nat) (e : TypeId) (v : Value) (bs cs : List UInt8) (v1 : Value) (w1 : World) : Prop where
  own : Own w1 base e v1 (bs ++ cs)
  kp : Kp (fun k => v.ownBlock = some k) w w1
  at_ : v1.ownBlock = v.ownBlock ∨ v1.ownBlock = some w.heap.size
  nil_ : v ≠ .slice none 0 0 → v1 ≠ .slice none 0 0

theorem App.keeps {w0 : World} {cs : List UInt8} {v1 : Value} (ha : App w base e v bs cs v1 w1) (h : Own w w0.heap.size e v bs) (hk : Kp S w0 w) : Kp S w0 w1 :=
  hk.trans (ha.kp.mono fun k hk => .inr (h.ge k hk))

theorem run_app {P : Program} (t ty : TypeId) (i : TypeInfo) (ht : P.underlying t = some (.slice e)) (hi : P.info? e = some i) (hz : i.zero = some (.int .u8 0)) (hsize : i.size = 1) (hby : i.bytes = 1)
    (h : Own w base e v bs) {u : Value} {cs : List UInt8} (hu : Bts w u cs) (hlen : bs.length + cs.length ≤ 1000000000) (hb : base ≤ w.heap.size) :
    ∃ v1 w1, (Builtin.append_ #[t, t] ty #[v, u]).run P w = .ok v1 w1 ∧ App w base e v bs cs v1 w1 := by
  obtain ⟨A, c, rfl, hn, hc⟩ := hu
  rcases A with _ | ad
  · obtain ⟨rfl, rfl⟩ := hn rfl
    exact ⟨v, w, run_append_owned_none w base t ty e i 1 ht hi v bs.length _ h, ⟨by simpa using h, Kp.refl _ _, .inl rfl, fun h => h⟩⟩
  · obtain ⟨v1, w1, hr, h1, h2, h3, h4⟩ := run_append_own_at (P := P) w base t ty e i (.int .u8 0) 1 1 ht hi hz hsize hby rfl (by omega) v bs.length (bs.map bv) h ad cs.length c (cs.map bv) (by simp)
      (fun j x hx => by
        simp only [List.getElem?_map, Option.map_eq_some_iff] at hx
        obtain ⟨y, hy, rfl⟩ := hx
        exact hc ad rfl j y hy) (fun x hx => by
        obtain ⟨y, _, rfl⟩ := List.mem_map.1 hx
        rfl) (by simp only [maxLen]; omega) (by omega) hb
    exact ⟨v1, w1, hr, ⟨by unfold Own; rw [List.length_append, List.map_append]; exact h1, Kp.grown h2, h4, fun hv e => hv (h3.1 e).1⟩⟩

theorem wpList_app {P : Program} {ops : Array Oper} {rest : List Oper} {o : Oper} {a : Act} {Q : Exit → Act → World → Prop} (hgd : o.guard = none) (s x : Operand) (t : TypeId)
    (ho : o.op = .call { callee := .builtin .append, args := #[s, x], argTypes := #[t, t] })
    (i : TypeInfo) (ht : P.underlying t = some (.slice e)) (hi : P.info? e = some i) (hz : i.zero = some (.int .u8 0)) (hsize : i.size = 1) (hby : i.bytes = 1)
    (hs : a.eval s = v) (h : Own w base e v bs) {u : Value} {cs : List UInt8} (hx : a.eval x = u) (hu : Bts w u cs) (hlen : bs.length + cs.length ≤ 1000000000) (hb : base ≤ w.heap.size)
    (hQ : ∀ A1 n1 c1 w1, App w base e v bs cs (.slice A1 n1 c1) w1 → wpList P ops Q rest (a.put o.dst (.slice A1 n1 c1)) w1) : wpList P ops Q (o :: rest) a w := by
  refine wpList_plain hgd fun K hK => ?_
  obtain ⟨v1, w1, hr, h1⟩ := run_app (P := P) t o.type i ht hi hz hsize hby h hu hlen hb
  unfold Oper.wp execOp
  simp only [ho, resolve, invoke, builtin, Sem.run_bind, Sem.run_pure, Result.andThen_ok, List.map_toArray, List.map_cons, List.map_nil, hs, hx, hr]
  obtain ⟨A1, n1, c1, rfl⟩ := h1.own.form
  exact hK _ _ (hQ A1 n1 c1 w1 h1)
/-- The same where a guard says yes. -/
theorem wpList_app_want {P : Program} {ops : Array Oper} {rest : List Oper} {o : Oper} {a : Act} {Q : Exit → Act → World → Prop} (hgd : Region.wanted o (yielded ops a.tmps) = true) (s x : Operand) (t : TypeId)
    (ho : o.op = .call { callee := .builtin .append, args := #[s, x], argTypes := #[t, t] })
    (i : TypeInfo) (ht : P.underlying t = some (.slice e)) (hi : P.info? e = some i) (hz : i.zero = some (.int .u8 0)) (hsize : i.size = 1) (hby : i.bytes = 1)
    (hs : a.eval s = v) (h : Own w base e v bs) {u : Value} {cs : List UInt8} (hx : a.eval x = u) (hu : Bts w u cs) (hlen : bs.length + cs.length ≤ 1000000000) (hb : base ≤ w.heap.size)
    (hQ : ∀ A1 n1 c1 w1, App w base e v bs cs (.slice A1 n1 c1) w1 → wpList P ops Q rest (a.put o.dst (.slice A1 n1 c1)) w1) : wpList P ops Q (o :: rest) a w := by
  refine BigFrame.wpList_want hgd fun K hK => ?_
  obtain ⟨v1, w1, hr, h1⟩ := run_app (P := P) t o.type i ht hi hz hsize hby h hu hlen hb
  unfold Oper.wp execOp
  simp only [ho, resolve, invoke, builtin, Sem.run_bind, Sem.run_pure, Result.andThen_ok, List.map_toArray, List.map_cons, List.map_nil, hs, hx, hr]
  obtain ⟨A1, n1, c1, rfl⟩ := h1.own.form
  exact hK _ _ (hQ A1 n1 c1 w1 h1)
end

theorem Kp.fresh {w w1 : World} {p : Addr} (h : Kp No w w1) (hp : w.heap.size ≤ p.block) (u : Value) : Kp No w (w1.setCell p u) := h.trans (Kp.setCell (S := Up No w) (.inr hp) u)
theorem Kp.al {w w1 : World} (h : Kp No w w1) (o : Obj) : Kp No w (w1.alloc o) := h.trans' (Kp.alloc No _ _)
theorem Kp.rd {W w1 : World} (hk : Kp No W w1) : (∀ b o, b < W.heap.size → w1.cell? ⟨b, o, none⟩ = W.cell? ⟨b, o, none⟩) ∧ (∀ b o, b < W.heap.size → w1.frozen? ⟨b, o, none⟩ = W.frozen? ⟨b, o, none⟩) :=
  ⟨fun b o h => hk.below0.cell (p := ⟨b, o, none⟩) h, fun b o h => hk.below0.frozen (p := ⟨b, o, none⟩) h⟩
/-- True comes back, and no old block is turned. -/
def TruePost (w : World) (e : Ending) (w1 : World) : Prop := e = .returned (.bool true) ∧ Kp No w w1
theorem Kp.fr {w w1 w2 : World} {F : Nat → Prop} (h : Kp No w w1) (k : Kp F w1 w2) (hF : ∀ q, F q → w.heap.size ≤ q) : Kp No w w2 := h.trans (k.mono fun q hq => .inr (hF q hq))
/-- The blocks from b on. -/
def Frm (b k : Nat) : Prop := b ≤ k
end Go.Proofs.Ytkpongkojkhboaa
