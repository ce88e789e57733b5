/- Of any k shards the message is one, in plain words: a matrix that nothing but noughts comes to nought with is of whole rank; what solves equations of whole rank is one; the product of rows of powers with two symmetric halves tells both. No condition. -/
import Derived.Test.YtbkelijmdpoanaaVm
namespace Go.Proofs.Ytbkelijmdpoanaa
set_option linter.unusedVariables false
set_option maxRecDepth 20000

theorem SInv.lt_of {r k : Nat} {s : RS} {p : Nat → Nat} (h : SInv r k s p) : ∀ d i, i + d + 1 < s.rk → p i < p (i + d + 1)
  | 0, i, hi => h.mono i hi
  | d + 1, i, hi => Nat.lt_trans (h.lt_of d i (by omega)) (h.mono (i + d + 1) (by omega))
theorem SInv.less {r k : Nat} {s : RS} {p : Nat → Nat} (h : SInv r k s p) {i j : Nat} (hij : i < j) (hj : j < s.rk) : p i < p j := by
  have := h.lt_of (j - i - 1) i (by omega)
  rwa [show i + (j - i - 1) + 1 = j by omega] at this
/-- A column without a row's 1. -/
theorem SInv.free {r k : Nat} {s : RS} {p : Nat → Nat} (h : SInv r k s p) (hlt : s.rk < k) : ∃ q, q < k ∧ ∀ i, i < s.rk → p i ≠ q := by
  have lo : ∀ i, i < s.rk → i ≤ p i := by
    intro i
    induction i with
    | zero => exact fun _ => Nat.zero_le _
    | succ i ih =>
      intro hi
      have := ih (by omega)
      have := h.mono i (by omega)
      omega
  have key : ∀ m, m ≤ s.rk → (∀ i, i < m → p i = i) ∨ ∃ q, q < s.rk ∧ ∀ i, i < s.rk → p i ≠ q := by
    intro m
    induction m with
    | zero => exact fun _ => .inl fun i hi => absurd hi (Nat.not_lt_zero _)
    | succ m ih =>
      intro hm
      rcases ih (by omega) with g | g
      · by_cases e : p m = m
        · refine .inl fun i hi => ?_
          by_cases e2 : i = m
          · rw [e2, e]
          · exact g i (by omega)
        · refine .inr ⟨m, by omega, fun i hi e2 => ?_⟩
          have hpm := lo m (by omega)
          rcases Nat.lt_trichotomy i m with g1 | g1 | g1
          · have := g i g1
            omega
          · subst g1
            exact e e2
          · have := h.less g1 hi
            omega
      · exact .inr g
  rcases key s.rk (Nat.le_refl _) with g | ⟨q, h1, h2⟩
  · exact ⟨s.rk, hlt, fun i hi e => by have := g i hi; omega⟩
  · exact ⟨q, by omega, h2⟩
theorem us_pick (s : Nat → UInt8) (q n : Nat) (hq : q < n) : us (fun j => if q = j then s j else 0) n = s q := by
  rw [us_one _ q n hq fun j _ hne => if_neg fun e => hne e.symm, if_pos rfl]
/-- Only noughts come to nought: whole rank. -/
theorem rank_of_ker {n : Nat} {f : Nat → Nat → UInt8} (h : ∀ v : Nat → UInt8, (∀ o, o < n → ud (f o) v n = 0) → ∀ j, j < n → v j = 0) : (redS n f n).rk = n := by
  obtain ⟨p, hp⟩ := redS_inv n f n
  obtain ⟨s, hs⟩ : ∃ s, s = redS n f n := ⟨_, rfl⟩
  rcases Nat.lt_or_ge (redS n f n).rk n with hlt | hge
  · exfalso
    rw [← hs] at hp hlt
    obtain ⟨q, hq, hfree⟩ := hp.free hlt
    let v : Nat → UInt8 := fun j => (if q = j then 1 else 0) ^^^ us (fun i => if p i = j then s.f i q else 0) s.rk
    have hv : ∀ o, o < n → ud (s.f o) v n = 0 := by
      intro o ho
      by_cases hor : o < s.rk
      · have e1 : ud (s.f o) v n = us (fun j => um (s.f o j) (if q = j then 1 else 0)) n ^^^ us (fun j => um (s.f o j) (us (fun i => if p i = j then s.f i q else 0) s.rk)) n := by
          unfold ud
          rw [← us_xor]
          exact us_congr fun j _ => um_xor_right _ _ _
        have e2 : us (fun j => um (s.f o j) (if q = j then 1 else 0)) n = s.f o q := by
          rw [us_congr (t := fun j => if q = j then s.f o j else 0) fun j _ => by by_cases e : q = j <;> simp [e, um_one, um_zero]]
          exact us_pick _ q n hq
        have e3 : us (fun j => um (s.f o j) (us (fun i => if p i = j then s.f i q else 0) s.rk)) n = s.f o q := by
          rw [us_congr (t := fun j => us (fun i => um (s.f o j) (if p i = j then s.f i q else 0)) s.rk) fun j _ => um_us _ _ _, us_swap]
          rw [us_congr (t := fun i => um (s.f o (p i)) (s.f i q)) fun i hi => by
            rw [us_congr (t := fun j => if p i = j then um (s.f o j) (s.f i q) else 0) fun j _ => by by_cases e : p i = j <;> simp [e, um_zero]]
            exact us_pick (fun j => um (s.f o j) (s.f i q)) (p i) n (hp.lt i hi)]
          rw [us_one _ o s.rk hor fun i hi hne => by rw [hp.col i o hi ho (Ne.symm hne), zero_um], hp.one o hor, one_um]
        rw [e1, e2, e3, ux_self]
      · unfold ud
        rw [us_congr (t := fun _ => 0) fun j hj => by rw [hp.zero o j (by omega) ho hj, zero_um], us_zero]
    have h1 := h v (redS_ker f v n (by rw [← hs]; exact hv)) q hq
    have h2 : v q = 1 := by
      show (if q = q then (1 : UInt8) else 0) ^^^ us (fun i => if p i = q then s.f i q else 0) s.rk = 1
      rw [if_pos rfl, us_congr (t := fun _ => 0) fun i hi => if_neg (hfree i hi), us_zero, ux_zero]
    rw [h1] at h2
    exact absurd h2 (by decide)
  · have := (redS_le n f n).1
    omega
/-- Of whole rank: there is an inverse, on both sides. -/
theorem inv_both {n : Nat} {f : Nat → Nat → UInt8} (h : (redS n f n).rk = n) : ∃ g, EqF n n (mulF n f g) oneF ∧ EqF n n (mulF n g f) oneF := by
  obtain ⟨g, hg⟩ := inv_right h
  have hd : um (detF n f) (detF n g) = 1 := by rw [← det_prod, detF_congr hg, det_one]
  have hgw : (redS n g n).rk = n := whole_of fun e => by
    rw [e, um_zero] at hd
    exact absurd hd (by decide)
  obtain ⟨u, hu⟩ := inv_right hgw
  have e : EqF n n f u := fun i k hi hk => by
    have h1 := one_mulF (r := n) f i k hi hk
    have h2 := mulF_congr (EqF.refl n n f) hu i k hi hk
    have h3 := mulF_assoc f g u n n i k
    have h4 := mulF_congr hg (EqF.refl n n u) i k hi hk
    have h5 := mulF_one (c := n) u i k hi hk
    rw [← h1, ← h2, ← h3, h4, h5]
  exact ⟨g, hg, (mulF_congr (EqF.refl n n g) e).trans hu⟩
/-- What solves is one. -/
theorem solve_only {n m : Nat} {a x y : Nat → Nat → UInt8} (h : (redS n a n).rk = n) (hv : EqF n m (mulF n a x) (mulF n a y)) : EqF n m x y := by
  obtain ⟨g, _, hg⟩ := inv_both h
  have key : ∀ z : Nat → Nat → UInt8, EqF n m z (mulF n g (mulF n a z)) := fun z i k hi hk => by
    have h1 := mulF_one (c := m) z i k hi hk
    have h2 := mulF_congr hg (EqF.refl n m z) i k hi hk
    have h3 := mulF_assoc g a z n n i k
    rw [← h1, ← h2, h3]
  exact ((key x).trans (mulF_congr (EqF.refl n n g) hv)).trans (key y).symm
theorem redS_stay {n : Nat} {f : Nat → Nat → UInt8} (h : (redS n f n).rk = n) : ∀ m, redS n f (n + m) = redS n f n
  | 0 => rfl
  | m + 1 => by
    show stepS n (n + m) (redS n f (n + m)) = redS n f n
    rw [redS_stay h m]
    exact stepS_none (lead_none (by omega) fun q h1 h2 => by omega)
/-- The steps of equations of whole rank end in what solves them. -/
theorem steps_solve {n m : Nat} {f a b x : Nat → Nat → UInt8} (h : (redS n a n).rk = n) (hf : EqF n (n + m) f (catF n a b)) (hx : EqF n m (mulF n a x) b) : ∀ i j, i < n → j < m → (redS n f (n + m)).f i (n + j) = x i j := by
  intro i j hi hj
  have hw : (redS n (catF n a b) n).rk = n := (redS_congr (catF_left n a b n) n (Nat.le_refl _)).1.trans h
  rw [(redS_congr hf (n + m) (Nat.le_refl _)).2.2 i (n + j) hi (by omega), redS_stay hw m]
  exact solve_only h ((solve_eq (m := m) a b hw).trans hx.symm) i j hi hj

theorem upw_add (x : UInt8) (m : Nat) : ∀ n, upw x (m + n) = um (upw x m) (upw x n)
  | 0 => (um_one _).symm
  | n + 1 => by
    show um (upw x (m + n)) x = um (upw x m) (um (upw x n) x)
    rw [upw_add x m n, um_assoc]

/-- A shard's part: a row of powers, by the upper half, and by its last power, by the lower one. -/
def shF (a : Nat) (x : UInt8) (S T : Nat → Nat → UInt8) (j : Nat) : UInt8 := ud (upw x) (fun r => S r j) a ^^^ um (upw x a) (ud (upw x) (fun r => T r j) a)
/-- A half between two rows of powers. -/
def bilF (a : Nat) (S : Nat → Nat → UInt8) (x y : UInt8) : UInt8 := ud (fun j => ud (upw x) (fun r => S r j) a) (upw y) a
theorem bil_sym {a : Nat} {S : Nat → Nat → UInt8} (hS : ∀ r j, r < a → j < a → S r j = S j r) (x y : UInt8) : bilF a S x y = bilF a S y x := by
  unfold bilF
  rw [ud_assoc, ud_comm (fun j => ud (upw y) (fun r => S r j) a) (upw x)]
  exact ud_congr (fun _ _ => rfl) fun r hr => by
    rw [ud_comm]
    exact ud_congr (fun _ _ => rfl) fun j hj => hS r j hr hj
theorem bil_sh (a : Nat) (S T : Nat → Nat → UInt8) (x y : UInt8) : ud (shF a x S T) (upw y) a = bilF a S x y ^^^ um (upw x a) (bilF a T x y) := by
  show ud (fun j => ud (upw x) (fun r => S r j) a ^^^ um (upw x a) (ud (upw x) (fun r => T r j) a)) (upw y) a = _
  rw [ud_add]
  congr 1
  rw [ud_congr (f' := fun j => um (ud (upw x) (fun r => T r j) a) (upw x a)) (g' := upw y) (fun j _ => um_comm _ _) (fun _ _ => rfl), ud_scale, um_comm]
  rfl
theorem off_diag {p q l m : UInt8} (hne : l ≠ m) (h1 : p ^^^ um l q = 0) (h2 : p ^^^ um m q = 0) : p = 0 ∧ q = 0 := by
  have e1 := ux_eq h1
  have e2 := ux_eq h2
  have h3 : um (l ^^^ m) q = 0 := by rw [um_xor_left, ← e1, ← e2, ux_self]
  have hq : q = 0 := by
    by_cases hq : q = 0
    · exact hq
    · exact absurd h3 (um_ne (fun e => hne (ux_eq e)) hq)
  exact ⟨by rw [e1, hq, um_zero], hq⟩
theorem Uq.skip {n : Nat} {x : Nat → UInt8} (h : Uq (n + 1) x) {i : Nat} : Uq n fun l => x (skp i l) := fun u v hv hu => by
  have : skp i v < skp i u := by unfold skp; split <;> split <;> omega
  exact h _ _ this (skp_lt hu)
theorem Uq.less {m n : Nat} {x : Nat → UInt8} (h : Uq n x) (hm : m ≤ n) : Uq m x := fun i k hk hi => h i k hk (by omega)
/-- Powers that are unlike are of unlike points. -/
theorem Uq.of_pow {n a : Nat} {x : Nat → UInt8} (h : Uq n fun i => upw (x i) a) : Uq n x := fun i k hk hi e => h i k hk hi (by show upw (x i) a = upw (x k) a; rw [e])
theorem half_zero {a : Nat} {x : Nat → UInt8} {S : Nat → Nat → UInt8} (hU : Uq (a + 1) x) (hB : ∀ i l, i < a + 1 → l < a + 1 → i ≠ l → bilF a S (x i) (x l) = 0) : EqF a a S fun _ _ => 0 := by
  have hc : ∀ i, i < a + 1 → ∀ j, j < a → ud (upw (x i)) (fun r => S r j) a = 0 := by
    intro i hi j hj
    refine pv_only (p := fun l => x (skp i l)) (a := fun j => ud (upw (x i)) (fun r => S r j) a) (b := fun _ => 0) hU.skip (fun l hl => ?_) j hj
    have h1 : pv (fun j => ud (upw (x i)) (fun r => S r j) a) (x (skp i l)) a = bilF a S (x i) (x (skp i l)) := rfl
    rw [h1, hB i (skp i l) hi (skp_lt hl) (by unfold skp; split <;> omega)]
    unfold pv ud
    rw [us_congr (t := fun _ => 0) fun j _ => zero_um _, us_zero]
  intro r j hr hj
  refine pv_only (p := x) (a := fun r => S r j) (b := fun _ => 0) (hU.less (Nat.le_succ a)) (fun i hi => ?_) r hr
  show ud (fun r => S r j) (upw (x i)) a = _
  rw [ud_comm, hc i (by omega) j hj]
  unfold pv ud
  rw [us_congr (t := fun _ => 0) fun j _ => zero_um _, us_zero]
/-- Shards of a + 1 slots that are all noughts are of halves that are noughts. -/
theorem msr_inj {a : Nat} {x : Nat → UInt8} {S T : Nat → Nat → UInt8} (hS : ∀ r j, r < a → j < a → S r j = S j r) (hT : ∀ r j, r < a → j < a → T r j = T j r) (hU : Uq (a + 1) fun i => upw (x i) a)
    (h0 : ∀ i, i < a + 1 → ∀ j, j < a → shF a (x i) S T j = 0) : (EqF a a S fun _ _ => 0) ∧ EqF a a T fun _ _ => 0 := by
  have hb : ∀ i l, i < a + 1 → l < a + 1 → bilF a S (x i) (x l) ^^^ um (upw (x i) a) (bilF a T (x i) (x l)) = 0 := fun i l hi _ => by
    rw [← bil_sh]
    unfold ud
    rw [us_congr (t := fun _ => 0) fun j hj => by rw [h0 i hi j hj, zero_um], us_zero]
  have hne : ∀ i l, i < a + 1 → l < a + 1 → i ≠ l → upw (x i) a ≠ upw (x l) a := fun i l hi hl hne e => by
    rcases Nat.lt_or_ge l i with g | g
    · exact hU i l g hi e
    · exact hU l i (by omega) hl e.symm
  have ho : ∀ i l, i < a + 1 → l < a + 1 → i ≠ l → bilF a S (x i) (x l) = 0 ∧ bilF a T (x i) (x l) = 0 := fun i l hi hl hil =>
    off_diag (hne i l hi hl hil) (hb i l hi hl) (by have := hb l i hl hi; rwa [bil_sym hS, bil_sym hT] at this)
  exact ⟨half_zero hU.of_pow fun i l hi hl hil => (ho i l hi hl hil).1, half_zero hU.of_pow fun i l hi hl hil => (ho i l hi hl hil).2⟩

/-- Which part of the message stands where: symmetric in each half, and every part stands somewhere. -/
structure Plc (a N : Nat) (P : Nat → Nat → Nat) : Prop where
  lt : ∀ r j, r < a + a → j < a → P r j < N
  up : ∀ r j, r < a → j < a → P r j = P j r
  low : ∀ r j, r < a → j < a → P (a + r) j = P (a + j) r
  all : ∀ q, q < N → ∃ r j, r < a + a ∧ j < a ∧ P r j = q
/-- The equations' rows: that of slot t / a and part t % a. -/
def eqM (a : Nat) (P : Nat → Nat → Nat) (x : Nat → UInt8) (t q : Nat) : UInt8 := us (fun r => if P r (t % a) = q then upw (x (t / a)) r else 0) (a + a)
/-- What a row of equations comes to with a message is the shard's part. -/
theorem eqM_sh {a N : Nat} {P : Nat → Nat → Nat} (hP : Plc a N P) (ha : 0 < a) (x : Nat → UInt8) (v : Nat → UInt8) (t : Nat) :
    ud (eqM a P x t) v N = ud (upw (x (t / a))) (fun r => v (P r (t % a))) (a + a) := by
  have hj : t % a < a := Nat.mod_lt _ ha
  unfold ud eqM
  rw [us_congr (t := fun q => us (fun r => um (if P r (t % a) = q then upw (x (t / a)) r else 0) (v q)) (a + a)) fun q _ => us_um _ _ _, us_swap]
  refine us_congr fun r hr => ?_
  rw [us_congr (t := fun q => if P r (t % a) = q then um (upw (x (t / a)) r) (v q) else 0) fun q _ => by by_cases e : P r (t % a) = q <;> simp [e, zero_um]]
  exact us_pick (fun q => um (upw (x (t / a)) r) (v q)) _ N (hP.lt r _ hr hj)
theorem row_sh (a : Nat) (x : UInt8) (M : Nat → Nat → UInt8) (j : Nat) : ud (upw x) (fun r => M r j) (a + a) = shF a x M (fun r j => M (a + r) j) j := by
  rw [ud_split]
  unfold shF
  congr 1
  rw [ud_congr (f' := fun r => um (upw x r) (upw x a)) (g' := fun r => M (a + r) j) (fun r _ => by rw [upw_add, um_comm]) (fun _ _ => rfl), ud_scale, um_comm]
/-- The equations of any a + 1 slots are of whole rank. -/
theorem eqM_whole {a N : Nat} {P : Nat → Nat → Nat} (hP : Plc a N P) (ha : 0 < a) (hN : N = (a + 1) * a) {x : Nat → UInt8} (hU : Uq (a + 1) fun i => upw (x i) a) : (redS N (eqM a P x) N).rk = N := by
  refine rank_of_ker fun v hv => ?_
  have h0 : ∀ i, i < a + 1 → ∀ j, j < a → shF a (x i) (fun r j => v (P r j)) (fun r j => v (P (a + r) j)) j = 0 := fun i hi j hj => by
    have hlt : i * a + j < N := by
      have := Nat.mul_le_mul_right a (show i + 1 ≤ a + 1 from hi)
      rw [Nat.add_mul, Nat.one_mul] at this
      omega
    have h1 := hv (i * a + j) hlt
    have e1 : (i * a + j) / a = i := by rw [Nat.mul_comm, Nat.mul_add_div ha, Nat.div_eq_of_lt hj, Nat.add_zero]
    have e2 : (i * a + j) % a = j := by rw [Nat.mul_comm, Nat.mul_add_mod, Nat.mod_eq_of_lt hj]
    rw [eqM_sh hP ha, e1, e2] at h1
    rw [← row_sh a (x i) (fun r j => v (P r j)) j]
    exact h1
  obtain ⟨z1, z2⟩ := msr_inj (fun r j hr hj => by show v (P r j) = v (P j r); rw [hP.up r j hr hj]) (fun r j hr hj => by show v (P (a + r) j) = v (P (a + j) r); rw [hP.low r j hr hj]) hU h0
  intro q hq
  obtain ⟨r, j, hr, hj, rfl⟩ := hP.all q hq
  by_cases e : r < a
  · exact z1 r j e hj
  · have : v (P (a + (r - a)) j) = 0 := z2 (r - a) j (by omega) hj
    rwa [show a + (r - a) = r by omega] at this
/-- The document's order: in each half row by row, from the diagonal on. -/
def offP (a i j : Nat) : Nat := i * a - i * (i - 1) / 2 + (j - i)
def plcF (a r j : Nat) : Nat := if r < a then offP a (min r j) (max r j) else a * (a + 1) / 2 + offP a (min (r - a) j) (max (r - a) j)
theorem plc_small : ∀ a, a < 8 → 0 < a → (∀ r, r < a + a → ∀ j, j < a → plcF a r j < (a + 1) * a) ∧ (∀ r, r < a → ∀ j, j < a → plcF a r j = plcF a j r ∧ plcF a (a + r) j = plcF a (a + j) r) ∧ ∀ q, q < (a + 1) * a → ((List.range (a + a)).any fun r => (List.range a).any fun j => plcF a r j == q) = true := by decide +kernel
theorem plc_ok {a : Nat} (h : a < 8) (ha : 0 < a) : Plc a ((a + 1) * a) (plcF a) := by
  obtain ⟨h1, h2, h3⟩ := plc_small a h ha
  refine ⟨fun r j hr hj => h1 r hr j hj, fun r j hr hj => (h2 r hr j hj).1, fun r j hr hj => (h2 r hr j hj).2, fun q hq => ?_⟩
  obtain ⟨r, hr, hx⟩ := List.any_eq_true.1 (h3 q hq)
  obtain ⟨j, hj, hy⟩ := List.any_eq_true.1 hx
  exact ⟨r, j, List.mem_range.1 hr, List.mem_range.1 hj, by simpa using hy⟩
end Go.Proofs.Ytbkelijmdpoanaa
