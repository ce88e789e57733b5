/- Slices of slices of bytes whose rows' capacities are known: read, opened, made. No condition. -/
import Derived.Test.YtllcmblkjcppnaaOr
import Derived.Test.YtllcmblkjcppnaaMg
import Derived.Test.YtllcmblkjcppnaaRg
import Derived.Test.YtllcmblkjcppnaaSg
namespace Go.Proofs.Ytllcmblkjcppnaa
open Go.ChangeShapes Go.WideShapes Go.RowKit Go.Deep
set_option linter.unusedVariables false

/-- No row is longer than there is room. -/
def Caps (w : World) (A : Option Addr) (n : Nat) : Prop := ∀ j, j < n → ∀ B off A' m c, A = some ⟨B, off, none⟩ → w.cell? ⟨B, off + j, none⟩ = some (.slice A' m c) → m ≤ c
structure Rwc (w : World) (A : Option Addr) (n : Nat) (bss : List (List UInt8)) : Prop where
  rws : Rws w A n bss
  cap : Caps w A n
theorem Rwc.no {w w1 : World} {A : Option Addr} {n : Nat} {bss : List (List UInt8)} (h : Rwc w A n bss) (hk : Kp No w w1) : Rwc w1 A n bss := by
  refine ⟨h.rws.no hk, fun j hj B off A' m c hA hc => ?_⟩
  obtain ⟨B', off', A1, m1, c1, b1, hA', hc1, _, _⟩ := h.rws.get hj
  have e : w.cell? ⟨B, off + j, none⟩ = some (.slice A1 m1 c1) := by
    rw [hA] at hA'
    injection hA' with hA'
    injection hA' with e1 e2
    subst e1 e2
    exact hc1
  rw [hk.cell e fun f => f] at hc
  injection hc with hc
  rw [hc] at e
  exact h.cap j hj B off A' m c hA e
theorem Rwc.get {w : World} {A : Option Addr} {n : Nat} {bss : List (List UInt8)} (h : Rwc w A n bss) {j : Nat} (hj : j < n) :
    ∃ B off A' m c bs, A = some ⟨B, off, none⟩ ∧ w.cell? ⟨B, off + j, none⟩ = some (.slice A' m c) ∧ bss[j]? = some bs ∧ Bts w (.slice A' m c) bs ∧ m ≤ c := by
  obtain ⟨B, off, A', m, c, bs, h1, h2, h3, h4⟩ := h.rws.get hj
  exact ⟨B, off, A', m, c, bs, h1, h2, h3, h4, h.cap j hj B off A' m c h1 h2⟩

section
variable {H : Type} {enc : TypeId × Value → H} {w : World} {base : Nat} {spare : Nat → Bool} {held : Bool} {fuel : Nat} {v : Value} {x : DataW H × List MemPlace}
theorem open_cap (h : DataW.trod enc Try.prog w base spare held fuel 22 [v] = some x) : ∃ A m c, v = .slice A m c ∧ m ≤ c := by
  rcases open_ints Try.underlying22 Try.underlying5 cells_u8 h with ⟨hcs, _⟩ | ⟨a, len, cap, zs, hcs, _, hl, hm, hz, _, hcell, hwz⟩
  · simp only [List.cons.injEq, and_true] at hcs
    exact ⟨none, 0, 0, hcs, Nat.le_refl _⟩
  · simp only [List.cons.injEq, and_true] at hcs
    exact ⟨some a, len, cap, hcs, by omega⟩
theorem open_rwc (h : DataW.trod enc Try.prog w base spare held fuel 48 [v] = some x) : ∃ A n c bss, v = .slice A n c ∧ Rwc w A n bss ∧ n ≤ maxLen := by
  obtain ⟨A, n, c, bss, rfl, hR, hn⟩ := open_rws h
  obtain ⟨A2, len, cap, q, e, hl, hnil, hi⟩ := open_elems Try.underlying48 h
  injection e with e1 e2 e3
  subst e1 e2 e3
  refine ⟨A, n, c, bss, rfl, ⟨hR, fun j hj B off A' m c' hA hc => ?_⟩, hn⟩
  obtain ⟨a, cs, y, ha, hcl, hat, ht⟩ := hi j hj
  rw [cells_bts] at hcl hat
  subst hA
  injection ha with ha
  subst ha
  match cs, hcl with
  | [v0], _ =>
    have h0 := hat 0 (by omega)
    rw [Nat.mul_one, Nat.add_zero, add_none, hc] at h0
    injection h0 with h0
    subst h0
    obtain ⟨A3, m3, c3, e, hle⟩ := open_cap ht
    injection e with e1 e2 e3
    omega
end

theorem GridAt.rwc {w : World} {base : Nat} {A : Option Addr} {n cp : Nat} {bl : Nat → Nat} {r c : Nat} {f : Nat → Nat → UInt8} (h : GridAt w base (.slice A n cp) bl r c f) : Rwc w A n (matL r c f) := by
  refine ⟨h.rws, fun j hj B off A' m c' hA hc => ?_⟩
  have hn : n = r := by rw [h.own.len]; simp
  obtain ⟨g, hg, _, hcell⟩ := h.outer (j := j) (by omega)
  rw [hA] at hg
  injection hg with hg
  injection hg with e1 e2
  subst e1 e2
  rw [Nat.zero_add, hcell] at hc
  injection hc with hc
  injection hc
  omega
theorem RInv.rwc {w wr : World} {s : Nat → List UInt8} {k : Nat} {A : Option Addr} {n c : Nat} {vs : List Value} {bss : List (List UInt8)} (h : RInv w s k (.slice A n c) vs wr) (hl : bss.length = k) (hb : ∀ j, j < k → bss[j]? = some (s j)) : Rwc wr A k bss := by
  refine ⟨h.rws hl hb, fun j hj B off A' m c' hA hc => ?_⟩
  have hlen := h.len
  obtain ⟨g, hg, _, _, hcell⟩ := h.own.cell (j := j) (List.getElem?_eq_getElem (by omega))
  rw [hA] at hg
  injection hg with hg
  injection hg with e1 e2
  subst e1 e2
  rw [hcell] at hc
  injection hc with hc
  have ho := h.row j _ (List.getElem?_eq_getElem (by omega))
  rw [hc] at ho
  rcases ho.2 with ⟨e, _⟩ | ⟨g', cap, cur, e, _, _, h1, _⟩
  · injection e
    omega
  · injection e
    omega

section
variable {P : Program} {ops : Array Oper} {Q : Exit → Act → World → Prop}
/-- append of one slice, as one step of a region. -/
theorem step_appV {w : World} {base : Nat} {v u : Value} {vs : List Value} {o : Oper} {a : Act} {K : Act → World → Prop} {E : Prop} (hgd : o.guard = none) (s x : Operand) (t : TypeId)
    (ho : o.op = .call { callee := .builtin .append, args := #[s, x], argTypes := #[t, t] })
    (ht : Try.prog.underlying t = some (.slice 22)) (hs : a.eval s = v) (h : OwnV w base v vs) (ad : Addr) (hx : a.eval x = .slice (some ad) 1 1) (hu : w.cell? ad = some u) (hsp : ad.spot = none) (h1 : u.oneCell' = true) (hlen : vs.length ≤ 1000000) (hb : base ≤ w.heap.size)
    (hQ : ∀ A1 n1 c1 w1, AppV w base v vs u (.slice A1 n1 c1) w1 → K (a.put o.dst (.slice A1 n1 c1)) w1) : if Region.wanted o (yielded ops a.tmps) = true then Oper.wp Try.prog o a w K Q else E := by
  have hw : Region.wanted o (yielded ops a.tmps) = true := by simp [Region.wanted, hgd]
  rw [if_pos hw]
  obtain ⟨v1, w1, hr, h1⟩ := run_appV t o.type ht h ad hu hsp h1 hlen hb
  obtain ⟨A1, c1, rfl⟩ := h1.own.form
  have hq := hQ A1 _ c1 w1 h1
  unfold Oper.wp
  simp only [execOp, ho, resolve, invoke, builtin, Sem.run_bind, Sem.run_pure, Result.andThen_ok, List.map_toArray, List.map_cons, List.map_nil, hs, hx, hr]
  exact hq
end
end Go.Proofs.Ytllcmblkjcppnaa
