/- A Key's and a job's values; jobs and Keys held against each other; a map from Keys to places, by what it says of each Key. No condition. -/
import Derived.Test.YtjbnbbblafmldaaUbah
import Derived.Test.YtjbnbbblafmldaaUbaf
import Derived.Test.YtjbnbbblafmldaaUbae
import Derived.Test.YtjbnbbblafmldaaUbad
namespace Go.Proofs.Ytjbnbbblafmldaa
open Go.RowKit
set_option linter.unusedVariables false
set_option linter.unusedSimpArgs false
set_option maxRecDepth 20000

/-- A Key's value, a job's value (package urgent's and the document's have the same cells). -/
abbrev kyV (k : Nat) : Value := .agg #[.int .u32 (kO k : Int), .int .u16 (kS k : Int)]
abbrev jbV (x : Nat) : Value := .agg #[.int .u32 (jO x : Int), .int .u16 (jS x : Int), .int .i64 (jG x)]
theorem kyV_inj {j k : Nat} (h : kyV j = kyV k) : j = k := by
  simp only [kyV, Value.agg.injEq, Array.mk.injEq, List.cons.injEq, Value.int.injEq, true_and, and_true] at h
  exact k_inj (by omega) (by omega)
theorem jbV_inj {x y : Nat} (h : jbV x = jbV y) : x = y := by
  simp only [jbV, Value.agg.injEq, Array.mk.injEq, List.cons.injEq, Value.int.injEq, true_and, and_true] at h
  exact j_inj h.2.2 (by omega) (by omega)
theorem uk_row : (34 : TypeId) < Try.prog.types.size := of_decide_eq_true (by kernel_rfl)
theorem uk_deep : Try.prog.keyType 34 = true := by kernel_rfl
theorem uk_wide : (match Try.prog.underlying 34 with | some (.array _ _) | some (.struct _) => true | _ => false) = true := by kernel_rfl
theorem uk_law : Maps.Keyed Try.prog 34 := Maps.Keyed.of_law (deep_law_laid sh_laid (m := 2) (by omega) uk_row (by kernel_rfl) uk_wide)
theorem uk_cells : Try.prog.cellsOf 34 = 2 := by kernel_rfl
theorem ukey_ex {s : Nat} (hs : s < N48) : ∃ l, keyOf Try.prog 34 (kyV s) = some l := by
  obtain ⟨m, hm⟩ : ∃ m, Try.prog.types.size = m + 1 := Nat.exists_eq_succ_of_ne_zero (Nat.ne_of_gt (Nat.lt_of_le_of_lt (Nat.zero_le _) uk_row))
  have h0 := nat_u32 (kO_lt hs)
  have h1 := nat_u16 (kS_lt s)
  have hd := uk_deep
  have hc := uk_cells
  have cc := sh_one
  unfold keyOf
  rw [hm]
  simp [Try.underlying34, hd, Value.formed, hc, Program.keyLits, kyV, Value.cells, Try.underlying23, Try.underlying24, cc.1, cc.2, h0, h1]
/-- What a Key reads as. -/
noncomputable def klU (s : Nat) : Lit := (keyOf Try.prog 34 (kyV s)).getD (.bool false)
section
variable {s t : Nat}
theorem ukey_kl (hs : s < N48) : keyOf Try.prog 34 (kyV s) = some (klU s) := by
  obtain ⟨l, h⟩ := ukey_ex hs
  unfold klU
  rw [h]
  rfl
theorem ukl_inj (hs : s < N48) (ht : t < N48) (h : klU s = klU t) : s = t := kyV_inj (uk_law.inj (ukey_kl hs) (by rw [h]; exact ukey_kl ht))
theorem ukl_key (hs : s < N48) : WideAt.IsKeyLit (klU s) := uk_law.key (ukey_kl hs)
end
theorem uk_equal (w : World) {s t : Nat} (hs : s < N48) (ht : t < N48) : (Op.equal 34 (kyV s) (kyV t)).run Try.prog w = .ok (s == t) w := by
  obtain ⟨r, h1, h2⟩ := run_equal_deep w (P := Try.prog) (m := 2) (by omega) (k := 34) (by kernel_rfl) uk_wide (ukey_kl hs) (ukey_kl ht)
  rw [h1]
  congr 1
  by_cases e : s = t
  · subst e
    rw [h2.2 rfl]
    simp
  · cases r
    · simp [e]
    · exact absurd (ukl_inj hs ht (h2.1 rfl)) e
theorem uk_guard : Try.prog.eqGuardType Try.prog.depth 34 = false := by kernel_rfl
/-- Jobs. -/
theorem uj_row : (36 : TypeId) < Try.prog.types.size := of_decide_eq_true (by kernel_rfl)
theorem uj_deep : Try.prog.keyType 36 = true := by kernel_rfl
theorem uj_wide : (match Try.prog.underlying 36 with | some (.array _ _) | some (.struct _) => true | _ => false) = true := by kernel_rfl
theorem uj_law : Maps.Keyed Try.prog 36 := Maps.Keyed.of_law (deep_law_laid sh_laid (m := 3) (by omega) uj_row (by kernel_rfl) uj_wide)
theorem uj_cells : Try.prog.cellsOf 36 = 3 := by kernel_rfl
theorem ui_one : Try.prog.cellsOf 3 = 1 := by kernel_rfl
theorem two_types : ∃ m, Try.prog.types.size = m + 2 := ⟨Try.prog.types.size - 2, by have : 2 ≤ Try.prog.types.size := of_decide_eq_true (by kernel_rfl); omega⟩
theorem ujob_ex {x : Nat} (hx : x < NJ) : ∃ l, keyOf Try.prog 36 (jbV x) = some l := by
  obtain ⟨m, hm⟩ := two_types
  have h0 := nat_u32 (jO_lt x)
  have h1 := nat_u16 (jS_lt x)
  have h2 : (Lit.int .i64 (jG x)).wf = true := WalkArith.wf_i64 (jG_in hx)
  have hd := uj_deep
  have hc := uj_cells
  have hk := uk_cells
  have hi := ui_one
  have cc := sh_one
  unfold keyOf
  rw [hm]
  simp [Try.underlying36, Try.underlying34, hd, Value.formed, hc, Program.keyLits, jbV, Value.cells, Try.underlying23, Try.underlying24, Try.underlying3, cc.1, cc.2, hk, hi, h0, h1, h2]
  rw [if_pos (by decide)]
  simp
noncomputable def klJ (x : Nat) : Lit := (keyOf Try.prog 36 (jbV x)).getD (.bool false)
theorem ujob_kl {x : Nat} (hx : x < NJ) : keyOf Try.prog 36 (jbV x) = some (klJ x) := by
  obtain ⟨l, h⟩ := ujob_ex hx
  unfold klJ
  rw [h]
  rfl
theorem uj_equal (w : World) {x y : Nat} (hx : x < NJ) (hy : y < NJ) : (Op.equal 36 (jbV x) (jbV y)).run Try.prog w = .ok (x == y) w := by
  obtain ⟨r, h1, h2⟩ := run_equal_deep w (P := Try.prog) (m := 3) (by omega) (k := 36) (by kernel_rfl) uj_wide (ujob_kl hx) (ujob_kl hy)
  rw [h1]
  congr 1
  by_cases e : x = y
  · subst e
    rw [h2.2 rfl]
    simp
  · cases r
    · simp [e]
    · exact absurd (jbV_inj (uj_law.inj (ujob_kl hx) (by rw [h2.1 rfl]; exact ujob_kl hy))) e
theorem uj_guard : Try.prog.eqGuardType Try.prog.depth 36 = false := by kernel_rfl
section
variable {w : World} {x y j k : Nat}
variable {ops : Array Oper} {rest : List Oper} {o : Oper} {a : Act} {Q : Exit → Act → World → Prop}
theorem wpList_kneq (hg : o.guard = none) (p q : Operand) (hop : o.op = Op.binOp .neq 34 p q 34) (hp : a.eval p = kyV j) (hq : a.eval q = kyV k) (hx : j < N48) (hy : k < N48) (r : Bool) (hr : (!(j == k)) = r)
    (hK : wpList Try.prog ops Q rest (a.put o.dst (.bool r)) w) : wpList Try.prog ops Q (o :: rest) a w := by
  subst hr
  refine wpList_plain hg fun K' hK' => ?_
  have he := uk_equal w hx hy
  have hgd := uk_guard
  unfold Oper.wp
  simp [execOp, hop, hp, hq, eqGuard, binOp, hgd, he, Result.andThen]
  exact hK' _ _ hK
end

noncomputable abbrev intU : Value → Option (DataW Unit × List MemPlace) := plainElem Try.prog 3
/-- The block b is a map that says M of each Key; it has at most c of them. -/
def MpU (w : World) (b : Nat) (M : Nat → Option Nat) (c : Nat) : Prop := ∃ D, w.ownsMap Try.prog 34 intU b c D ∧
  (∀ k, k < N48 → Maps.has D (klU k) = (M k).isSome) ∧ ∀ k i, k < N48 → M k = some i → D.atKey (klU k) (.lit (.int .i64 0)) = .lit (.int .i64 (i : Int))
section
variable {w w1 : World} {b c i k : Nat} {M : Nat → Option Nat} {S : Nat → Prop}
theorem MpU.lt (h : MpU w b M c) : b < w.heap.size := by
  obtain ⟨D, h1, _⟩ := h
  exact h1.lt
theorem MpU.keep (h : MpU w b M c) (hk : Kp S w w1) (hS : ¬ S b) : MpU w1 b M c := by
  obtain ⟨D, h1, h2⟩ := h
  have hlt := h1.lt
  obtain ⟨es, clock, hb, r⟩ := h1
  exact ⟨D, ⟨es, clock, (hk.block b hlt hS).trans hb, r⟩, h2⟩
theorem MpU.no (h : MpU w b M c) (hk : Kp No w w1) : MpU w1 b M c := h.keep hk fun f => f
theorem MpU.new (w : World) : MpU (w.alloc (.map #[] 0)) w.heap.size (fun _ => none) 0 := ⟨_, World.ownsMap_made w _ _ _, fun k _ => rfl, fun k i _ h => by cases h⟩
theorem MpU.blk {o : Obj} (h : MpU w b M c) (hb : w.heap[b]? = some o) : ∃ es clock, o = .map es clock := by
  obtain ⟨D, ⟨es, clock, h1, _⟩, _⟩ := h
  rw [hb] at h1
  exact ⟨es, clock, Option.some.inj h1⟩
/-- At most as many entries as the datum has, or more. -/
theorem ownsU_le {n m : Nat} {D : DataW Unit} (h : w.ownsMap Try.prog 34 intU b n D) (hm : Maps.size D ≤ m) : w.ownsMap Try.prog 34 intU b m D := by
  obtain ⟨es, clock, hb, F, _, rfl⟩ := h
  refine ⟨es, clock, hb, F, ?_, rfl⟩
  simp [Maps.size, length_sorted] at hm
  exact hm
theorem ownsU_size {n : Nat} {D : DataW Unit} (h : w.ownsMap Try.prog 34 intU b n D) : Maps.size D ≤ n := by
  obtain ⟨es, clock, hb, F, hn, rfl⟩ := h
  simp [Maps.size, length_sorted]
  exact hn
theorem uzero_int (w : World) : (zeroValue 3).run Try.prog w = .ok (.int .i64 0) w := by kernel_rfl
/-- What looking up comes to. -/
theorem MpU.look (h : MpU w b M c) (hs : k < N48) : (Instr.lookup 48 (.map (some b)) (kyV k) true).run Try.prog w = .ok (.tuple #[.int .i64 (((M k).getD 0 : Nat) : Int), .bool (M k).isSome]) w := by
  obtain ⟨D, h1, h2, h3⟩ := h
  obtain ⟨v, ps, hr, hv⟩ := h1.look_ok uk_law Try.underlying48 (uzero_int w) (plainElem_int (H := Unit) Try.underlying3 (by decide)) (ukey_kl hs)
  obtain ⟨c, rfl, hc, _⟩ := plainElem_int_inv Try.underlying3 hv
  rw [hr, h2 k hs]
  rcases hk : M k with _ | i
  · have hf : Maps.has D (klU k) = false := by rw [h2 k hs, hk]; rfl
    rw [Maps.atKey_of_not_has hf] at hc
    have e : (0 : Int) = c := by
      injection hc with e1 _
      injection e1 with e1
      injection e1
    rw [← e]
    rfl
  · rw [h3 k i hs hk] at hc
    have e : ((i : Nat) : Int) = c := by
      injection hc with e1 _
      injection e1 with e1
      injection e1
    rw [← e]
    rfl
/-- A place is stored. -/
theorem MpU.put (h : MpU w b M c) (hs : k < N48) (hi : i ≤ 1000000000) (hc : c ≤ 1000000000) {c' : Nat} (h1 : c ≤ c') (h2 : M k = none → c + 1 ≤ c') :
    ∃ w', (Instr.mapUpdate 48 (.map (some b)) (kyV k) (.int .i64 (i : Int))).run Try.prog w = .ok () w' ∧ MpU w' b (updM M k (some i)) c' ∧ Kp (fun q => q = b) w w' := by
  obtain ⟨D, h3, h4, h5⟩ := h
  obtain ⟨w', hr, ho, hg⟩ := h3.update uk_law Try.underlying48 (by unfold maxLen; omega) (val := .int .i64 (i : Int)) (ukey_kl hs) (plainElem_int (H := Unit) Try.underlying3 (WalkArith.wf_i64 ⟨by omega, by omega⟩))
  have hm := h3.isMap
  have hsz := ownsU_size h3
  refine ⟨w', hr, ⟨_, ownsU_le ho ?_, fun t ht => ?_, fun t i' ht hkt => ?_⟩, (Kp.grown hg).mono fun q hq => by injection hq with hq; exact hq.symm⟩
  · have := Maps.size_put (h3.tidy uk_law) (k := klU k) (.lit (.int .i64 (i : Int)))
    rw [this, h4 k hs]
    rcases hk : M k with _ | x
    · have := h2 hk
      simp
      omega
    · simp
      omega
  · by_cases e : t = k
    · subst e
      rw [Maps.has_put_same hm (ukl_key hs), updM_k]
      rfl
    · rw [Maps.has_put_other (fun e2 => e (ukl_inj ht hs e2)), h4 t ht, updM_o e]
  · by_cases e : t = k
    · subst e
      rw [updM_k] at hkt
      injection hkt with hkt
      subst hkt
      rw [Maps.atKey_put_same hm (ukl_key hs)]
    · rw [updM_o e] at hkt
      rw [Maps.atKey_put_other (fun e2 => e (ukl_inj ht hs e2)), h5 t i' ht hkt]
/-- A Key is struck. -/
theorem MpU.del (h : MpU w b M c) (hs : k < N48) (hk : M k = some i) (ty : TypeId) :
    ∃ w', (Builtin.delete_ #[48, 34] ty #[.map (some b), kyV k]).run Try.prog w = .ok (.tuple #[]) w' ∧ MpU w' b (updM M k none) (c - 1) ∧ Kp (fun q => q = b) w w' := by
  obtain ⟨D, h3, h4, h5⟩ := h
  obtain ⟨w', hr, ho, hg⟩ := h3.drop uk_law Try.underlying48 (ukey_kl hs) ty
  have hsz := ownsU_size h3
  refine ⟨w', hr, ⟨_, ownsU_le ho ?_, fun t ht => ?_, fun t i' ht hkt => ?_⟩, (Kp.grown hg.grown).mono fun q hq => by injection hq with hq; exact hq.symm⟩
  · have := Maps.size_del (h3.tidy uk_law) (k := klU k)
    rw [h4 k hs, hk] at this
    simp at this
    omega
  · by_cases e : t = k
    · subst e
      rw [Maps.has_del_same, updM_k]
      rfl
    · rw [Maps.has_del_other (fun e2 => e (ukl_inj ht hs e2)), h4 t ht, updM_o e]
  · by_cases e : t = k
    · subst e
      rw [updM_k] at hkt
      cases hkt
    · rw [updM_o e] at hkt
      rw [Maps.atKey_del_other (fun e2 => e (ukl_inj ht hs e2)), h5 t i' ht hkt]
end
end Go.Proofs.Ytjbnbbblafmldaa
