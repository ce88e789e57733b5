/- Names (api.Shard): a name is one number, its parts, its bytes, its value, as a map's key, held against another. -/
import Derived.Test.YtkpongkojkhboaaRd2
import Derived.Test.YtkpongkojkhboaaSee
import Derived.Maps.RangeWalk
import Derived.DeepKeys4
namespace Go.Proofs.Ytkpongkojkhboaa
open Go.RowKit
set_option linter.unusedVariables false
set_option linter.unusedSimpArgs false
set_option maxRecDepth 20000

/-- A name's number: rising by its parts. -/
def mkN (o st sl gn : Nat) : Nat := ((o * 65536 + st) * 65536 + sl) * 4294967296 + gn
def cO (n : Nat) : Nat := n / 18446744073709551616
def cS (n : Nat) : Nat := n / 281474976710656 % 65536
def cL (n : Nat) : Nat := n / 4294967296 % 65536
def cG (n : Nat) : Nat := n % 4294967296
abbrev N96 : Nat := 79228162514264337593543950336
section
variable {o st sl gn : Nat}
theorem mkN_lt (ho : o < 4294967296) (hst : st < 65536) (hsl : sl < 65536) (hgn : gn < 4294967296) : mkN o st sl gn < N96 := by unfold mkN N96; omega
theorem cO_mk (hst : st < 65536) (hsl : sl < 65536) (hgn : gn < 4294967296) : cO (mkN o st sl gn) = o := by unfold cO mkN; omega
theorem cS_mk (hst : st < 65536) (hsl : sl < 65536) (hgn : gn < 4294967296) : cS (mkN o st sl gn) = st := by unfold cS mkN; omega
theorem cL_mk (hsl : sl < 65536) (hgn : gn < 4294967296) : cL (mkN o st sl gn) = sl := by unfold cL mkN; omega
theorem cG_mk (hgn : gn < 4294967296) : cG (mkN o st sl gn) = gn := by unfold cG mkN; omega
theorem cO_lt {n : Nat} (h : n < N96) : cO n < 4294967296 := by unfold cO; unfold N96 at h; omega
theorem cS_lt (n : Nat) : cS n < 65536 := Nat.mod_lt _ (by omega)
theorem cL_lt (n : Nat) : cL n < 65536 := Nat.mod_lt _ (by omega)
theorem cG_lt (n : Nat) : cG n < 4294967296 := Nat.mod_lt _ (by omega)
theorem c_inj {m n : Nat} (h0 : cO m = cO n) (h1 : cS m = cS n) (h2 : cL m = cL n) (h3 : cG m = cG n) : m = n := by unfold cO at h0; unfold cS at h1; unfold cL at h2; unfold cG at h3; omega
theorem mk_c (n : Nat) : mkN (cO n) (cS n) (cL n) (cG n) = n := by unfold mkN cO cS cL cG; omega
/-- One name stands before another, part by part. -/
theorem lt_parts {m n : Nat} : m < n ↔ cO m < cO n ∨ (cO m = cO n ∧ (cS m < cS n ∨ (cS m = cS n ∧ (cL m < cL n ∨ (cL m = cL n ∧ cG m < cG n))))) := by unfold cO cS cL cG; omega
end
/-- A name's bytes. -/
def shB (s : Nat) : List UInt8 := shardB (cO s) (cS s) (cL s) (cG s)
theorem shB_len (s : Nat) : (shB s).length = 12 := by simp [shB, shardB, numB_length]
theorem numB_ofB (l : List UInt8) : numB (ofB l) l.length = l := by
  have h : ∀ (k : Nat) (l : List UInt8), l.length = k → numB (ofB l) k = l := by
    intro k
    induction k with
    | zero => intro l hl; rw [List.eq_nil_of_length_eq_zero hl]; rfl
    | succ k ih =>
      intro l hl
      have hne : l ≠ [] := fun e => by rw [e] at hl; simp at hl
      obtain ⟨i, b, rfl⟩ : ∃ i b, l = i ++ [b] := ⟨l.dropLast, l.getLast hne, (List.dropLast_concat_getLast hne).symm⟩
      have hi : i.length = k := by simp at hl; exact hl
      have h1 := ofB_lt i
      rw [hi] at h1
      have hb := b.toNat_lt
      rw [ofB_snoc, hi, numB_succ]
      have e1 : numB (ofB i + b.toNat * 2 ^ (8 * k)) k = numB (ofB i) k := by
        unfold numB
        refine List.map_congr_left fun j hj => ?_
        have hj' : j < k := List.mem_range.1 hj
        have hp : 2 ^ (8 * k) = 2 ^ (8 * j) * (256 * 2 ^ (8 * (k - j - 1))) := by
          rw [show (256 : Nat) = 2 ^ 8 from rfl, ← Nat.pow_add, ← Nat.pow_add]
          congr 1
          omega
        rw [hp, show b.toNat * (2 ^ (8 * j) * (256 * 2 ^ (8 * (k - j - 1)))) = 2 ^ (8 * j) * (256 * (b.toNat * 2 ^ (8 * (k - j - 1)))) by
          rw [Nat.mul_left_comm, Nat.mul_left_comm b.toNat 256], Nat.add_mul_div_left _ _ (Nat.pow_pos (by omega))]
        apply UInt8.toNat_inj.1
        rw [UInt8.toNat_ofNat', UInt8.toNat_ofNat']
        omega
      rw [e1, ih i hi]
      congr 2
      rw [Nat.add_mul_div_right _ _ (Nat.pow_pos (by omega)), Nat.div_eq_of_lt h1]
      apply UInt8.toNat_inj.1
      rw [UInt8.toNat_ofNat']
      omega
  exact h _ l rfl
/-- The name that bytes begin with. -/
def nmO (bs : List UInt8) : Nat := mkN (ofB (bs.take 4)) (ofB ((bs.drop 4).take 2)) (ofB ((bs.drop 6).take 2)) (ofB ((bs.drop 8).take 4))
theorem nmO_lt (bs : List UInt8) : nmO bs < N96 := mkN_lt (ofB_take 4) (ofB_take 2) (ofB_take 2) (ofB_take 4)
theorem nm_c (bs : List UInt8) : cO (nmO bs) = ofB (bs.take 4) ∧ cS (nmO bs) = ofB ((bs.drop 4).take 2) ∧ cL (nmO bs) = ofB ((bs.drop 6).take 2) ∧ cG (nmO bs) = ofB ((bs.drop 8).take 4) :=
  ⟨cO_mk (ofB_take 2) (ofB_take 2) (ofB_take 4), cS_mk (ofB_take 2) (ofB_take 2) (ofB_take 4), cL_mk (ofB_take 2) (ofB_take 4), cG_mk (ofB_take 4)⟩
theorem nm_parts {bs : List UInt8} (h : 12 ≤ bs.length) : shB (nmO bs) ++ bs.drop 12 = bs := by
  obtain ⟨e0, e1, e2, e3⟩ := nm_c bs
  unfold shB shardB
  rw [e0, e1, e2, e3]
  have n0 := numB_ofB (bs.take 4)
  have n1 := numB_ofB ((bs.drop 4).take 2)
  have n2 := numB_ofB ((bs.drop 6).take 2)
  have n3 := numB_ofB ((bs.drop 8).take 4)
  rw [List.length_take, show min 4 bs.length = 4 by omega] at n0
  rw [List.length_take, List.length_drop, show min 2 (bs.length - 4) = 2 by omega] at n1
  rw [List.length_take, List.length_drop, show min 2 (bs.length - 6) = 2 by omega] at n2
  rw [List.length_take, List.length_drop, show min 4 (bs.length - 8) = 4 by omega] at n3
  rw [n0, n1, n2, n3]
  have d1 : bs.drop 6 = (bs.drop 4).drop 2 := by rw [List.drop_drop]
  have d2 : bs.drop 8 = (bs.drop 6).drop 2 := by rw [List.drop_drop]
  have d3 : bs.drop 12 = (bs.drop 8).drop 4 := by rw [List.drop_drop]
  rw [d3, List.append_assoc, List.take_append_drop, d2, List.append_assoc, List.take_append_drop, d1, List.append_assoc, List.take_append_drop, List.take_append_drop]
theorem nm_shB {s : Nat} (hs : s < N96) (m : List UInt8) : nmO (shB s ++ m) = s := by
  have h : shB (nmO (shB s ++ m)) ++ (shB s ++ m).drop 12 = shB s ++ m := nm_parts (by rw [List.length_append, shB_len]; omega)
  have e : shB (nmO (shB s ++ m)) = shB s := by
    have := congrArg (List.take 12) h
    rwa [List.take_left' (shB_len _), List.take_left' (shB_len _)] at this
  have key : ∀ a b : Nat, shB a = shB b → a < N96 → b < N96 → a = b := fun a b hab ha hb => by
    unfold shB shardB at hab
    have l4 : ∀ x y, x < 4294967296 → y < 4294967296 → numB x 4 = numB y 4 → x = y := fun x y hx hy hh => by
      have := congrArg ofB hh
      rw [ofB_numB, ofB_numB] at this
      omega
    have l2 : ∀ x y, x < 65536 → y < 65536 → numB x 2 = numB y 2 → x = y := fun x y hx hy hh => by
      have := congrArg ofB hh
      rw [ofB_numB, ofB_numB] at this
      omega
    obtain ⟨h1, g3⟩ := List.append_inj' hab (by simp [numB_length])
    obtain ⟨h2, g2⟩ := List.append_inj' h1 (by simp [numB_length])
    obtain ⟨g0, g1⟩ := List.append_inj' h2 (by simp [numB_length])
    exact c_inj (l4 _ _ (cO_lt ha) (cO_lt hb) g0) (l2 _ _ (cS_lt _) (cS_lt _) g1) (l2 _ _ (cL_lt _) (cL_lt _) g2) (l4 _ _ (cG_lt _) (cG_lt _) g3)
  exact key _ _ e (nmO_lt _) hs

/-- A name's value. -/
abbrev shV (s : Nat) : Value := .agg #[.int .u32 (cO s : Int), .int .u16 (cS s : Int), .int .u16 (cL s : Int), .int .u32 (cG s : Int)]
theorem shV_inj {s t : Nat} (h : shV s = shV t) : s = t := by
  simp only [shV, Value.agg.injEq, Array.mk.injEq, List.cons.injEq, Value.int.injEq, true_and, and_true] at h
  exact c_inj (by omega) (by omega) (by omega) (by omega)
theorem sh_row : (26 : TypeId) < Try.prog.types.size := of_decide_eq_true (by kernel_rfl)
theorem sh_laid : laidOutB Try.prog = true := by kernel_rfl
theorem sh_deep : Try.prog.keyType 26 = true := by kernel_rfl
theorem sh_wide : (match Try.prog.underlying 26 with | some (.array _ _) | some (.struct _) => true | _ => false) = true := by kernel_rfl
theorem sh_law : Maps.Keyed Try.prog 26 := Maps.Keyed.of_law (deep_law_laid sh_laid (m := 2) (by omega) sh_row (by kernel_rfl) sh_wide)
theorem sh_cells : Try.prog.cellsOf 26 = 4 := by kernel_rfl
theorem nat_u32 {x : Nat} (h : x < 4294967296) : (Lit.int .u32 (x : Int)).wf = true := WalkArith.wf_u32 ⟨by omega, by omega⟩
theorem nat_u16 {x : Nat} (h : x < 65536) : (Lit.int .u16 (x : Int)).wf = true := WalkArith.wf_u16 ⟨by omega, by omega⟩
theorem of_u32 {n : Int} (h : (Lit.int .u32 n).wf = true) : ∃ a : Nat, n = (a : Int) ∧ a < 4294967296 := by
  simp [Lit.wf, IntKind.min, IntKind.max, IntKind.signed, IntKind.bits] at h
  exact ⟨n.toNat, by omega, by omega⟩
theorem of_u16 {n : Int} (h : (Lit.int .u16 n).wf = true) : ∃ a : Nat, n = (a : Int) ∧ a < 65536 := by
  simp [Lit.wf, IntKind.min, IntKind.max, IntKind.signed, IntKind.bits] at h
  exact ⟨n.toNat, by omega, by omega⟩
theorem sh_one : Try.prog.cellsOf 23 = 1 ∧ Try.prog.cellsOf 24 = 1 := ⟨by kernel_rfl, by kernel_rfl⟩
theorem key_ex {s : Nat} (hs : s < N96) : ∃ l, keyOf Try.prog 26 (shV s) = some l := by
  obtain ⟨m, hm⟩ : ∃ m, Try.prog.types.size = m + 1 := Nat.exists_eq_succ_of_ne_zero (Nat.ne_of_gt (Nat.lt_of_le_of_lt (Nat.zero_le _) sh_row))
  have h0 := nat_u32 (cO_lt hs)
  have h1 := nat_u16 (cS_lt s)
  have h2 := nat_u16 (cL_lt s)
  have h3 := nat_u32 (cG_lt s)
  have hd := sh_deep
  have hc := sh_cells
  have cc := sh_one
  unfold keyOf
  rw [hm]
  simp [Try.underlying26, hd, Value.formed, hc, Program.keyLits, shV, Value.cells, Try.underlying23, Try.underlying24, cc.1, cc.2, h0, h1, h2, h3]
theorem one_lit {P : Program} {m : Nat} {t : TypeId} {q : IntKind} {v : Value} {l : List Lit} (ht : P.underlying t = some (.int q)) (h : P.keyLits (m + 1) t [v] = some l) : ∃ n, v = .int q n ∧ (Lit.int q n).wf = true := by
  cases v <;> simp [Program.keyLits, ht] at h
  obtain ⟨⟨rfl, hw⟩, _⟩ := h
  exact ⟨_, rfl, hw⟩
theorem key_inv {key : Value} {l : Lit} (h : keyOf Try.prog 26 key = some l) : ∃ s, s < N96 ∧ key = shV s := by
  obtain ⟨m, hm⟩ : ∃ m, Try.prog.types.size = m + 1 := Nat.exists_eq_succ_of_ne_zero (Nat.ne_of_gt (Nat.lt_of_le_of_lt (Nat.zero_le _) sh_row))
  have hc := sh_cells
  have cc := sh_one
  unfold keyOf at h
  rw [hm] at h
  simp only [Try.underlying26] at h
  split at h
  · rename_i hf
    simp only [Bool.and_eq_true] at hf
    have hf2 := hf.2
    cases key <;> simp [Value.formed, Try.underlying26, hc] at hf2
    rename_i cs
    obtain ⟨l4⟩ := cs
    match l4, hf2 with
    | [a, b, c, d], _ =>
      rw [Option.map_eq_some_iff] at h
      obtain ⟨ls, h, _⟩ := h
      rw [Program.keyLits.eq_def] at h
      simp only [Try.underlying26, Value.cells, hc] at h
      simp [cc.1, cc.2] at h
      rcases g0 : Try.prog.keyLits (m + 1) 23 [a] with _ | x0
      · simp [g0] at h
      rcases g1 : Try.prog.keyLits (m + 1) 24 [b] with _ | x1
      · simp [g0, g1] at h
      rcases g2 : Try.prog.keyLits (m + 1) 24 [c] with _ | x2
      · simp [g0, g1, g2] at h
      rcases g3 : Try.prog.keyLits (m + 1) 23 [d] with _ | x3
      · simp [g0, g1, g2, g3] at h
      obtain ⟨n0, rfl, w0⟩ := one_lit Try.underlying23 g0
      obtain ⟨n1, rfl, w1⟩ := one_lit Try.underlying24 g1
      obtain ⟨n2, rfl, w2⟩ := one_lit Try.underlying24 g2
      obtain ⟨n3, rfl, w3⟩ := one_lit Try.underlying23 g3
      obtain ⟨a0, rfl, b0⟩ := of_u32 w0
      obtain ⟨a1, rfl, b1⟩ := of_u16 w1
      obtain ⟨a2, rfl, b2⟩ := of_u16 w2
      obtain ⟨a3, rfl, b3⟩ := of_u32 w3
      refine ⟨mkN a0 a1 a2 a3, mkN_lt b0 b1 b2 b3, ?_⟩
      unfold shV
      rw [cO_mk b1 b2 b3, cS_mk b1 b2 b3, cL_mk b2 b3, cG_mk b3]
    | [], hl => simp at hl
    | [_], hl => simp at hl
    | [_, _], hl => simp at hl
    | [_, _, _], hl => simp at hl
    | _ :: _ :: _ :: _ :: _ :: _, hl => simp at hl
  · cases h
/-- What a name reads as. -/
noncomputable def klN (s : Nat) : Lit := (keyOf Try.prog 26 (shV s)).getD (.bool false)
section
variable {s t : Nat}
theorem key_kl (hs : s < N96) : keyOf Try.prog 26 (shV s) = some (klN s) := by
  obtain ⟨l, h⟩ := key_ex hs
  unfold klN
  rw [h]
  rfl
theorem kl_inj (hs : s < N96) (ht : t < N96) (h : klN s = klN t) : s = t := shV_inj (sh_law.inj (key_kl hs) (by rw [h]; exact key_kl ht))
theorem kl_key (hs : s < N96) : WideAt.IsKeyLit (klN s) := sh_law.key (key_kl hs)
theorem kl_same (hs : s < N96) (ht : t < N96) : (klN s).sameKey (klN t) = (s == t) := by
  by_cases e : s = t
  · subst e
    rw [WideAt.sameKey_self (kl_key hs)]
    simp
  · rw [Maps.sameKey_ne (fun h => e (kl_inj hs ht h))]
    simp [e]
end
theorem sh_equal (w : World) {s t : Nat} (hs : s < N96) (ht : t < N96) : (Op.equal 26 (shV s) (shV t)).run Try.prog w = .ok (s == t) w := by
  obtain ⟨r, h1, h2⟩ := run_equal_deep w (P := Try.prog) (m := 2) (by omega) (k := 26) (by kernel_rfl) sh_wide (key_kl hs) (key_kl ht)
  rw [h1]
  congr 1
  by_cases e : s = t
  · subst e
    rw [h2.2 rfl]
    simp
  · cases r
    · simp [e]
    · exact absurd (kl_inj hs ht (h2.1 rfl)) e
theorem sh_guard : Try.prog.eqGuardType Try.prog.depth 26 = false := by kernel_rfl
end Go.Proofs.Ytkpongkojkhboaa
