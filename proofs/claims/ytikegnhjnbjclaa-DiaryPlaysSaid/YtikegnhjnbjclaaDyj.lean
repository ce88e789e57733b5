/- What DiaryPlays knows: the diary, the document's tape, and all records of the law's own. No condition. -/
import Derived.Test.YtikegnhjnbjclaaDyh
import Derived.Test.YtikegnhjnbjclaaDyk
import Derived.Test.YtikegnhjnbjclaaTpc
import Derived.ArgAppend
namespace Go.Proofs.Ytikegnhjnbjclaa
open Go.RowKit
set_option linter.unusedVariables false
set_option maxRecDepth 20000
set_option linter.unusedSimpArgs false

/-- The box s of the document's tape, and the box a of an act. -/
def Ys (s k : Nat) : Prop := k = s
def Ysa (s a k : Nat) : Prop := k = s ∨ k = a
/-- The diary g over the tape D, the document's E in the box s, and all records in the law's own slice va; all that is the diary's own is the call's own, and lies outside X. -/
structure PyS (W : World) (X : Nat → Prop) (g tp s : Nat) (D E : Tp) (rs : List (List UInt8)) (sf : Nat) (vs vl va : Value) (pa : List (Value × List UInt8)) (wr : World) : Prop where
  ex : ∃ F : Nat → Prop, DyAt wr F g tp D rs sf ∧ RtR wr (fun k => F k ∨ X k) E vs vl ∧ AlF wr (fun k => F k ∨ X k) va pa ∧ ∀ k, F k → W.heap.size ≤ k ∧ k < wr.heap.size ∧ ¬ X k
  bx : BxT wr s vs vl E.most
  kp : Kp No W wr
  xs : X s
  xW : ∀ k, X k → W.heap.size ≤ k
section
variable {W wr w1 w2 : World} {X : Nat → Prop} {g g' tp s a sf sf' : Nat} {D D' E E' : Tp} {rs rs' : List (List UInt8)} {vs vl vs' vl' va va' v : Value} {pa pa' : List (Value × List UInt8)} {F : Nat → Prop}
theorem PyS.no (h : PyS W X g tp s D E rs sf vs vl va pa wr) (hk : Kp No wr w1) : PyS W X g tp s D E rs sf vs vl va pa w1 := by
  obtain ⟨F, h1, h2, h4, h3⟩ := h.ex
  exact ⟨⟨F, h1.no hk, h2.no hk, h4.no hk, fun k f => ⟨(h3 k f).1, Nat.lt_of_lt_of_le (h3 k f).2.1 hk.size, (h3 k f).2.2⟩⟩, h.bx.no hk, h.kp.trans' hk, h.xs, h.xW⟩
/-- A call on the diary or on its tape. -/
theorem PyS.call (h : PyS W X g tp s D E rs sf vs vl va pa wr) (h2 : RtR wr (fun k => F k ∨ X k) E vs vl) (h4 : AlF wr (fun k => F k ∨ X k) va pa) (h3 : ∀ k, F k → W.heap.size ≤ k ∧ k < wr.heap.size ∧ ¬ X k) (hd : DyAt w1 (Up F wr) g' tp D' rs' sf') (hk : Kp F wr w1) :
    PyS W X g' tp s D' E rs' sf' vs vl va pa w1 ∧ Kp (fun k => ¬ X k) wr w1 := by
  have hup : ∀ k, (Up F wr k ∧ k < w1.heap.size) ∨ X k → Up (fun k => F k ∨ X k) wr k ∧ k < w1.heap.size := fun k f => by
    rcases f with ⟨f | f, g⟩ | f
    · exact ⟨.inl (.inl f), g⟩
    · exact ⟨.inr f, g⟩
    · exact ⟨.inl (.inr f), Nat.lt_of_lt_of_le (h2.bd k (.inr f)) hk.size⟩
  refine ⟨⟨⟨_, hd.lt, h2.step (hk.mono fun k f => .inl f) hup, h4.step (hk.mono fun k f => .inl f) fun k f => (hup k f).1, fun k f => ⟨?_, f.2, fun x => ?_⟩⟩, (hk.block s h.bx.lt fun f => (h3 s f).2.2 h.xs).trans h.bx, h.kp.trans (hk.mono fun k f => .inr (h3 k f).1), h.xs, h.xW⟩, hk.mono fun k f => (h3 k f).2.2⟩
  · rcases f.1 with f | f
    · exact (h3 k f).1
    · exact Nat.le_trans h.kp.size f
  · rcases f.1 with f | f
    · exact (h3 k f).2.2 x
    · have := h2.bd k (.inr x)
      omega
/-- The document's tape is another one, and its box is written. -/
theorem PyS.ref (h : PyS W X g tp s D E rs sf vs vl va pa wr) (h1 : DyAt wr F g tp D rs sf) (h4 : AlF wr (fun k => F k ∨ X k) va pa) (h3 : ∀ k, F k → W.heap.size ≤ k ∧ k < wr.heap.size ∧ ¬ X k) (hr : RtR w1 (fun k => F k ∨ X k) E' vs' vl') (hk : Kp No wr w1) (hk2 : Kp (fun k => k = s) w1 w2) (hb : BxT w2 s vs' vl' E'.most) :
    PyS W X g tp s D E' rs sf vs' vl' va pa w2 :=
  ⟨⟨F, (h1.no hk).keep hk2 fun k _ f e => (h3 k f).2.2 (by rw [e]; exact h.xs), hr.keep hk2 fun k _ hn e => hn (.inr (by rw [e]; exact h.xs)), (h4.no hk).keep hk2 fun k _ hn e => hn (.inr (by rw [e]; exact h.xs)), fun k f => ⟨(h3 k f).1, Nat.lt_of_lt_of_le (h3 k f).2.1 (Nat.le_trans hk.size hk2.size), (h3 k f).2.2⟩⟩, hb, (h.kp.trans' hk).trans (hk2.mono fun k e => .inr (by rw [e]; exact h.xW s h.xs)), h.xs, h.xW⟩
/-- The same, by its parts. -/
theorem PyS.refp (h : PyS W X g tp s D E rs sf vs vl va pa wr) (h1 : DyAt wr F g tp D rs sf) (h4 : AlF wr (fun k => F k ∨ X k) va pa) (h3 : ∀ k, F k → W.heap.size ≤ k ∧ k < wr.heap.size ∧ ¬ X k) (hr : RtR w1 (fun k => F k ∨ X k) E' vs' vl') (hk : Kp No wr w1) (hk2 : Kp (fun k => k = s) w1 w2) :
    DyAt w2 F g tp D rs sf ∧ RtR w2 (fun k => F k ∨ X k) E' vs' vl' ∧ AlF w2 (fun k => F k ∨ X k) va pa ∧ ∀ k, F k → W.heap.size ≤ k ∧ k < w2.heap.size ∧ ¬ X k :=
  ⟨(h1.no hk).keep hk2 fun k _ f e => (h3 k f).2.2 (by rw [e]; exact h.xs), hr.keep hk2 fun k _ hn e => hn (.inr (by rw [e]; exact h.xs)), (h4.no hk).keep hk2 fun k _ hn e => hn (.inr (by rw [e]; exact h.xs)), fun k f => ⟨(h3 k f).1, Nat.lt_of_lt_of_le (h3 k f).2.1 (Nat.le_trans hk.size hk2.size), (h3 k f).2.2⟩⟩
/-- A box is made that lies outside. -/
theorem RtR.box {w : World} {T : Tp} (h : RtR w F T vs vl) (o : Obj) : RtR (w.alloc o) (fun k => F k ∨ k = w.heap.size) T vs vl := h.step (Kp.alloc _ w o) fun k f => by
  rcases f with f | f
  · exact ⟨.inl f, by have := h.bd k f; simp; omega⟩
  · exact ⟨.inr (by omega), by simp; omega⟩
/-- All records of the law's own are other ones. -/
theorem PyS.alls (h : PyS W X g tp s D E rs sf vs vl va pa wr) (h1 : DyAt wr F g tp D rs sf) (h2 : RtR wr (fun k => F k ∨ X k) E vs vl) (h3 : ∀ k, F k → W.heap.size ≤ k ∧ k < wr.heap.size ∧ ¬ X k) (ha : AlF wr (fun k => F k ∨ X k) va' pa') : PyS W X g tp s D E rs sf vs vl va' pa' wr :=
  ⟨⟨F, h1, h2, ha, h3⟩, h.bx, h.kp, h.xs, h.xW⟩
/-- The act's box is made. -/
theorem PyS.box (h : PyS W (Ys s) g tp s D E rs sf vs vl va pa wr) (o : Obj) : PyS W (Ysa s wr.heap.size) g tp s D E rs sf vs vl va pa (wr.alloc o) ∧ s ≠ wr.heap.size := by
  have hs := h.bx.lt
  have h' := h.no (Kp.alloc No wr o)
  obtain ⟨F, h1, h2, h4, h3⟩ := h.ex
  have hup : ∀ k, F k ∨ Ysa s wr.heap.size k → Up (fun k => F k ∨ Ys s k) wr k ∧ k < (wr.alloc o).heap.size := fun k f => by
    rcases f with f | f | f
    · exact ⟨.inl (.inl f), by have := (h3 k f).2.1; simp; omega⟩
    · exact ⟨.inl (.inr f), by simp; omega⟩
    · exact ⟨.inr (by omega), by simp; omega⟩
  refine ⟨⟨⟨F, h1.no (Kp.alloc No wr o), h2.step (Kp.alloc _ wr o) hup, h4.step (Kp.alloc _ wr o) fun k f => (hup k f).1, fun k f => ⟨(h3 k f).1, by have := (h3 k f).2.1; simp; omega, fun x => ?_⟩⟩, h'.bx, h'.kp, .inl rfl, fun k x => ?_⟩, by omega⟩
  · rcases x with x | x
    · exact (h3 k f).2.2 x
    · have := (h3 k f).2.1
      omega
  · rcases x with x | x
    · exact h.xW k x
    · have := h.kp.size
      omega
theorem PyS.less (h : PyS W (Ysa s a) g tp s D E rs sf vs vl va pa wr) : PyS W (Ys s) g tp s D E rs sf vs vl va pa wr := by
  obtain ⟨F, h1, h2, h4, h3⟩ := h.ex
  exact ⟨⟨F, h1, h2.less fun k f => f.imp id .inl, h4.up fun k _ f => f.imp id .inl, fun k f => ⟨(h3 k f).1, (h3 k f).2.1, fun x => (h3 k f).2.2 (.inl x)⟩⟩, h.bx, h.kp, rfl, fun k x => h.xW k (.inl x)⟩
end
theorem RwD.keep {v0 : Value} {bs : List UInt8} {w w1 : World} {S : Nat → Prop} {base : Nat} {v : Value} {ps : List (Value × List UInt8)} (h : RwD v0 bs w base v ps) (hk : Kp S w w1) (hS : ∀ k, v.ownBlock = some k → ¬ S k) : RwD v0 bs w1 base v ps := ⟨h.own.keep hk hS, h.all, h.cap⟩
/-- One more of the law's own. -/
theorem AlF.more {w w1 : World} {F : Nat → Prop} {A1 : Option Addr} {na c1 : Nat} {va u : Value} {pa : List (Value × List UInt8)} {b : List UInt8} (h : AlF w1 F va pa) (hl : pa.length = na) (ho : OwnT w1 w.heap.size 22 1 (.slice A1 (na + 1) c1) (na + 1) (sls pa ++ [u])) (hF : ∀ k, F k → k < w.heap.size) (hu : BtF w1 F u b) : AlF w1 F (.slice A1 (na + 1) c1) (pa ++ [(u, b)]) := by
  refine ⟨?_, fun k hk f => ?_, fun p hp => ?_⟩
  · rw [List.length_append, hl, sls_snoc]; exact ownT_base0 ho
  · have h1 := ho.ge k hk; have h2 := hF k f; omega
  · rcases List.mem_append.1 hp with hp | hp
    · exact h.el p hp
    · rw [List.mem_singleton] at hp; subst hp; exact hu
/-- The box of an act. -/
def BxY (w : World) (a : Nat) (d : ActY) (A : Option Addr) (m c : Nat) : Prop := w.heap[a]? = some (.cells #[.int .i64 d.kind, .slice A m c, .int .i64 d.n, .int .u8 (d.bits.toNat : Int)] 41 (0, 0))
section
variable {w w1 : World} {S : Nat → Prop} {a : Nat} {d : ActY} {A : Option Addr} {m c : Nat}
theorem BxY.keep (h : BxY w a d A m c) (hk : Kp S w w1) (hS : ¬ S a) : BxY w1 a d A m c := (hk.block a (Array.getElem?_eq_some_iff.1 h).1 hS).trans h
theorem BxY.no (h : BxY w a d A m c) (hk : Kp No w w1) : BxY w1 a d A m c := h.keep hk fun f => f
theorem BxY.c0 (h : BxY w a d A m c) : w.cell? ⟨a, 0, none⟩ = some (.int .i64 d.kind) := by rw [cell_of_row w a 0 _ _ _ h]; rfl
theorem BxY.c1 (h : BxY w a d A m c) : w.cell? ⟨a, 1, none⟩ = some (.slice A m c) := by rw [cell_of_row w a 1 _ _ _ h]; rfl
theorem BxY.c2 (h : BxY w a d A m c) : w.cell? ⟨a, 2, none⟩ = some (.int .i64 d.n) := by rw [cell_of_row w a 2 _ _ _ h]; rfl
theorem BxY.c3 (h : BxY w a d A m c) : w.cell? ⟨a, 3, none⟩ = some (.int .u8 (d.bits.toNat : Int)) := by rw [cell_of_row w a 3 _ _ _ h]; rfl
end

/-! Bounds of what Records tells. -/
/-- Items one behind the other. -/
def chn : Nat → List ItD → Nat → Prop
  | p, [], a => p = a
  | p, it :: t, a => it.at_ = p ∧ chn (p + 12 + it.ld.length) t a
theorem chn_snoc {p a k : Nat} {l : List ItD} {ld : List UInt8} (h : chn p l a) : chn p (l ++ [⟨a, k, ld⟩]) (a + (12 + ld.length)) := by
  induction l generalizing p with
  | nil =>
    have e : p = a := h
    subst e
    exact ⟨rfl, by show _ = _; simp only; omega⟩
  | cons it t ih => exact ⟨h.1, ih h.2⟩
theorem scN_chn (bs : List UInt8) (i : Nat) : chn 0 (scN bs i).2 (scN bs i).1 := by
  induction i with
  | zero => rfl
  | succ i ih =>
    rw [scN_succ]
    split
    · have := opN_le (by assumption)
      simp only
      rw [this.2.2]
      exact chn_snoc ih
    · exact ih
theorem rcI_chn {n p a : Nat} {l : List ItD} (h : chn p l a) : p + 20 * (rcI n l a).1.length ≤ (rcI n l a).2 := by
  induction l generalizing n p with
  | nil =>
    have e : p = a := h
    simp [rcI, e]
  | cons it t ih =>
    simp only [rcI]
    split
    · have h8 := (show okR it (n + 1) by assumption).2.1
      have := ih (n := n + 1) h.2
      simp only [List.length_cons]
      omega
    · simp [h.1]
theorem rcI_small {n a m : Nat} {l : List ItD} (h : ∀ it ∈ l, it.ld.length ≤ m) : ∀ b ∈ (rcI n l a).1, b.length ≤ m := by
  induction l generalizing n with
  | nil => simp [rcI]
  | cons it t ih =>
    simp only [rcI]
    split
    · intro b hb
      rcases List.mem_cons.1 hb with rfl | hb
      · have := h it List.mem_cons_self
        rw [List.length_drop]; omega
      · exact ih (fun x hx => h x (List.mem_cons_of_mem _ hx)) b hb
    · simp
theorem Rcs.few {bs : List UInt8} {rs : List (List UInt8)} {sz : Nat} (h : Rcs bs rs sz) : sz ≤ bs.length ∧ 20 * rs.length ≤ sz ∧ ∀ b ∈ rs, b.length ≤ bs.length := by
  have hb := h.bound.1
  obtain ⟨a, l, ⟨i, hi⟩, h2, h3⟩ := h
  have h4 := scN_chn bs i
  have h5 := scN_ld bs i
  rw [hi] at h4 h5
  have h6 := rcI_chn (n := 0) h4
  have h7 := rcI_small (n := 0) (a := a) h5
  simp only at h6 h7
  rw [h3] at h6 h7
  simp only at h6 h7
  exact ⟨hb, by omega, h7⟩

theorem rsl_m (A : Option Addr) {L cl : Nat} (hcl : L ≤ cl) (w' : World) : (Instr.slice 25 (.slice A L cl) none (some (.int .i64 (L : Int))) (some (.int .i64 (L : Int)))).run Try.prog w' = .ok (.slice A L L) w' := by
  rw [run_slice_hm w' _ _ _ _ rsl_under .i64 .i64 _ _ (by omega) (by omega) (by omega), rsl_size]
  simp only [Result.andThen, sliced, Int.toNat_natCast, Nat.zero_mul, Nat.sub_zero]
  congr 2
  split
  · rfl
  · rcases A with _ | a
    · rfl
    · simp [Addr.add]
/-- append to a slice without room, of one more slice: a row of its own. -/
theorem run_appF {w : World} {A : Option Addr} {L c : Nat} {xs : List Value} {u : Value} (h : OwnT w 0 22 1 (.slice A L c) L xs) (ad : Addr) (hN : Nws w ad 1 1 [u]) (hL : L ≤ 100000) (ty : TypeId) :
    ∃ v1 w1, (Builtin.append_ #[25, 25] ty #[.slice A L L, .slice (some ad) 1 1]).run Try.prog w = .ok v1 w1 ∧ OwnT w1 w.heap.size 22 1 v1 (L + 1) (xs ++ [u]) ∧ Kp No w w1 := by
  rcases h.2 with ⟨e1, hn⟩ | ⟨g, cap, cur, e1, hb, hg, h1, h2, h3, ht⟩
  · injection e1 with e1 e2 e3
    subst e1 e2 e3
    have hx : xs = [] := List.eq_nil_of_length_eq_zero (by have := h.1; simpa using this)
    subst hx
    obtain ⟨v1, w1, hr, ha⟩ := run_appT ty_slc 25 ty Try.underlying25 (OwnT.nil w w.heap.size _ 1) ad 1 hN (by omega) (Nat.le_refl _)
    exact ⟨v1, w1, hr, ha.own, ha.kp.mono fun k hk => by cases hk⟩
  · injection e1 with e1 e2 e3
    subst e1 e3
    obtain ⟨⟨i0, hi0, hz0, hz1, hz2⟩, t1, t2, t3⟩ := ty_slc
    have hx : xs.length = L * 1 := h.1
    obtain ⟨v1, w1, hr, ho, hgr⟩ := run_append_arg_grows (P := Try.prog) w 25 ty 22 i0 _ 1 24 Try.underlying25 hi0 hz0 hz1 hz2 t1 t2 ⟨g, 0, none⟩ L L xs hx (fun j u hj => by
      have := h.cellAt hj
      rw [add_none, Nat.zero_add]
      exact this) ad 1 1 [u] hN.len hN.at_ (by omega) (by simp only [maxLen]; omega) (by omega)
    exact ⟨v1, w1, hr, ho, (Kp.grown hgr).mono fun k hk => by cases hk⟩
theorem step_appF {w : World} {A : Option Addr} {L c : Nat} {xs : List Value} {u : Value} {ops : Array Oper} {o : Oper} {a : Act} {Q : Exit → Act → World → Prop} {K : Act → World → Prop} {E : Prop} (hgd : o.guard = none) (s x : Operand)
    (ho : o.op = .call { callee := .builtin .append, args := #[s, x], argTypes := #[25, 25] })
    (hs : a.eval s = .slice A L L) (h : OwnT w 0 22 1 (.slice A L c) L xs) (ad : Addr) (hx : a.eval x = .slice (some ad) 1 1) (hN : Nws w ad 1 1 [u]) (hL : L ≤ 100000)
    (hQ : ∀ A1 c1 w1, OwnT w1 w.heap.size 22 1 (.slice A1 (L + 1) c1) (L + 1) (xs ++ [u]) → Kp No w w1 → K (a.put o.dst (.slice A1 (L + 1) c1)) w1) : if Region.wanted o (yielded ops a.tmps) = true then Oper.wp Try.prog o a w K Q else E := by
  have hw : Region.wanted o (yielded ops a.tmps) = true := by simp [Region.wanted, hgd]
  rw [if_pos hw]
  obtain ⟨v1, w1, hr, h1, h2⟩ := run_appF h ad hN hL o.type
  obtain ⟨A1, c1, rfl⟩ := h1.form
  have hq := hQ A1 c1 w1 h1 h2
  unfold Oper.wp
  simp only [execOp, ho, resolve, invoke, builtin, Sem.run_bind, Sem.run_pure, Result.andThen_ok, List.map_toArray, List.map_cons, List.map_nil, hs, hx, hr]
  exact hq
end Go.Proofs.Ytikegnhjnbjclaa
