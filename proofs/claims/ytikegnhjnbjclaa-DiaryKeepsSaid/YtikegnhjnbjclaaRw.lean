/- Slices of slices of bytes: what they read as, and rows of them that the call made and appends to. -/
import Derived.Test.YtikegnhjnbjclaaBy
namespace Go.Proofs.Ytikegnhjnbjclaa
open Go.RowKit
set_option linter.unusedVariables false

/-- The slice at A of n slices reads as the rows bss. -/
structure Rws (w : World) (A : Option Addr) (n : Nat) (bss : List (List UInt8)) : Prop where
  len : n = bss.length
  at_ : ∀ (j : Nat) bs, bss[j]? = some bs → ∃ B off v, A = some ⟨B, off, none⟩ ∧ w.cell? ⟨B, off + j, none⟩ = some v ∧ Bts w v bs

theorem Rws.no {w w1 : World} {A : Option Addr} {n : Nat} {bss : List (List UInt8)} (h : Rws w A n bss) (hk : Kp No w w1) : Rws w1 A n bss := by
  refine ⟨h.len, fun j bs hj => ?_⟩
  obtain ⟨B, off, v, h1, h2, h3⟩ := h.at_ j bs hj
  exact ⟨B, off, v, h1, hk.cell h2 (fun f => f), h3.no hk⟩
theorem Rws.nil (w : World) : Rws w none 0 [] := ⟨rfl, fun j bs hj => by simp at hj⟩
/-- One of the rows. -/
theorem Rws.get {w : World} {A : Option Addr} {n : Nat} {bss : List (List UInt8)} (h : Rws w A n bss) {j : Nat} (hj : j < n) :
    ∃ B off A' m c bs, A = some ⟨B, off, none⟩ ∧ w.cell? ⟨B, off + j, none⟩ = some (.slice A' m c) ∧ bss[j]? = some bs ∧ Bts w (.slice A' m c) bs := by
  have hl := h.len
  obtain ⟨B, off, v, h1, h2, h3⟩ := h.at_ j _ (List.getElem?_eq_getElem (by omega))
  obtain ⟨A', m, c, rfl⟩ := h3.form
  exact ⟨B, off, A', m, c, _, h1, h2, List.getElem?_eq_getElem (by omega), h3⟩

theorem slc_info : (Try.prog.info? 22).map (fun i => (i.zero, i.size, i.bytes)) = some (some (.slice none 0 0), 1, 24) := by kernel_rfl
theorem slc_parts : ∃ i, Try.prog.info? 22 = some i ∧ i.zero = some (.slice none 0 0) ∧ i.size = 1 ∧ i.bytes = 24 := by
  have h := slc_info
  rcases hi : Try.prog.info? 22 with _ | i
  · rw [hi] at h; cases h
  · rw [hi] at h
    simp only [Option.map_some, Option.some.injEq, Prod.mk.injEq] at h
    exact ⟨i, rfl, h.1, h.2.1, h.2.2⟩

/-- The row of slices v is the call's own, from block base on; it holds vs. -/
def OwnV (w : World) (base : Nat) (v : Value) (vs : List Value) : Prop := w.ownsRow base 22 1 v vs.length vs
section
variable {w w1 : World} {S : Nat → Prop} {base : Nat} {v u : Value} {vs : List Value}
theorem OwnV.nil (w : World) (base : Nat) : OwnV w base (.slice none 0 0) [] := World.ownsRow_nil w base _ 1
theorem OwnV.lt (h : OwnV w base v vs) (k : Nat) (hk : v.ownBlock = some k) : k < w.heap.size := (World.ownsRow.lt h k hk).2
theorem OwnV.ge (h : OwnV w base v vs) (k : Nat) (hk : v.ownBlock = some k) : base ≤ k := (World.ownsRow.lt h k hk).1
theorem OwnV.keep (h : OwnV w base v vs) (hk : Kp S w w1) (hS : ∀ k, v.ownBlock = some k → ¬ S k) : OwnV w1 base v vs := by
  refine ⟨h.1, ?_⟩
  rcases h.2 with hn | ⟨g, cap, cur, rfl, hb, hg, r⟩
  · exact .inl hn
  · exact .inr ⟨g, cap, cur, rfl, hb, by rw [hk.block g (Array.getElem?_eq_some_iff.1 hg).1 (hS g rfl)]; exact hg, r⟩
theorem OwnV.no (h : OwnV w base v vs) (hk : Kp No w w1) : OwnV w1 base v vs := h.keep hk fun _ _ f => f
theorem OwnV.form (h : OwnV w base v vs) : ∃ A c, v = .slice A vs.length c := by
  rcases h.2 with ⟨rfl, hn⟩ | ⟨g, cap, cur, rfl, _⟩
  · exact ⟨none, 0, by rw [hn]⟩
  · exact ⟨_, _, rfl⟩
theorem OwnV.len {A : Option Addr} {n c : Nat} (h : OwnV w base (.slice A n c) vs) : n = vs.length := by
  obtain ⟨A', c', e⟩ := h.form
  injection e
theorem OwnV.cell {A : Option Addr} {n c j : Nat} (h : OwnV w base (.slice A n c) vs) {u : Value} (hj : vs[j]? = some u) : ∃ g, A = some ⟨g, 0, none⟩ ∧ base ≤ g ∧ g < w.heap.size ∧ w.cell? ⟨g, 0 + j, none⟩ = some u := by
  have hjl : j < vs.length := (List.getElem?_eq_some_iff.1 hj).1
  rcases h.2 with ⟨h1, hn⟩ | ⟨g, cap, cur, h1, hb, hg, _, _, _, ht⟩
  · omega
  · injection h1 with h1
    refine ⟨g, h1, hb, (Array.getElem?_eq_some_iff.1 hg).1, ?_⟩
    rw [Nat.zero_add, cell_of_row w g j cur _ _ hg]
    have h2 : (cur.toList.take (vs.length * 1))[j]? = vs[j]? := by rw [ht]
    rw [List.getElem?_take, if_pos (by omega), Array.getElem?_toList, hj] at h2
    exact h2
theorem OwnV.rws {A : Option Addr} {n c : Nat} {bss : List (List UInt8)} (h : OwnV w base (.slice A n c) vs) (hl : vs.length = bss.length) (hb : ∀ (j : Nat) u bs, vs[j]? = some u → bss[j]? = some bs → Bts w u bs) : Rws w A n bss := by
  refine ⟨h.len.trans hl, fun j bs hj => ?_⟩
  have hjl : j < vs.length := by rw [hl]; exact (List.getElem?_eq_some_iff.1 hj).1
  obtain ⟨g, h1, _, _, h2⟩ := h.cell (List.getElem?_eq_getElem hjl)
  exact ⟨g, 0, _, h1, h2, hb j _ bs (List.getElem?_eq_getElem hjl) hj⟩

/-- What append leaves. -/
structure AppV (w : World) (base : Nat) (v : Value) (vs : List Value) (u v1 : Value) (w1 : World) : Prop where
  own : OwnV w1 base v1 (vs ++ [u])
  kp : Kp (fun k => v.ownBlock = some k) w w1
theorem run_appV (t ty : TypeId) (ht : Try.prog.underlying t = some (.slice 22)) (h : OwnV w base v vs) (a : Addr) (hu : w.cell? a = some u) (hsp : a.spot = none) (h1 : u.oneCell' = true) (hlen : vs.length ≤ 1000000) (hb : base ≤ w.heap.size) :
    ∃ v1 w1, (Builtin.append_ #[t, t] ty #[v, .slice (some a) 1 1]).run Try.prog w = .ok v1 w1 ∧ AppV w base v vs u v1 w1 := by
  obtain ⟨i0, hi0, hz0, hz1, hz2⟩ := slc_parts
  obtain ⟨v1, w1, hr, e1, e2, e3, e4⟩ := run_append_own_at (P := Try.prog) w base t ty 22 i0 (.slice none 0 0) 1 24 ht hi0 hz0 hz1 hz2 rfl (by omega) v vs.length vs h a 1 1 [u] (by simp)
    (fun j x hx => by
      match j, hx with
      | 0, hx =>
        simp at hx
        subst hx
        obtain ⟨B, off, sp⟩ := a
        subst hsp
        rw [add_none]
        exact hu
      | j + 1, hx => simp at hx) (fun x hx => by simp at hx; subst hx; exact h1) (by simp only [maxLen]; omega) (by omega) hb
  exact ⟨v1, w1, hr, ⟨by unfold OwnV; rw [List.length_append]; exact e1, Kp.grown e2⟩⟩
theorem wpList_appV {ops : Array Oper} {rest : List Oper} {o : Oper} {a : Act} {Q : Exit → Act → World → Prop} (hgd : o.guard = none) (s x : Operand) (t : TypeId)
    (ho : o.op = .call { callee := .builtin .append, args := #[s, x], argTypes := #[t, t] })
    (ht : Try.prog.underlying t = some (.slice 22)) (hs : a.eval s = v) (h : OwnV w base v vs) (ad : Addr) (hx : a.eval x = .slice (some ad) 1 1) (hu : w.cell? ad = some u) (hsp : ad.spot = none) (h1 : u.oneCell' = true) (hlen : vs.length ≤ 1000000) (hb : base ≤ w.heap.size)
    (hQ : ∀ A1 n1 c1 w1, AppV w base v vs u (.slice A1 n1 c1) w1 → wpList Try.prog ops Q rest (a.put o.dst (.slice A1 n1 c1)) w1) : wpList Try.prog ops Q (o :: rest) a w := by
  refine wpList_plain hgd fun K hK => ?_
  obtain ⟨v1, w1, hr, h1⟩ := run_appV t o.type ht h ad hu hsp h1 hlen hb
  unfold Oper.wp execOp
  simp only [ho, resolve, invoke, builtin, Sem.run_bind, Sem.run_pure, Result.andThen_ok, List.map_toArray, List.map_cons, List.map_nil, hs, hx, hr]
  obtain ⟨A1, c1, rfl⟩ := h1.own.form
  exact hK _ _ (hQ A1 _ c1 w1 h1)
end
end Go.Proofs.Ytikegnhjnbjclaa
