/- Of any k shards the message is one, in plain words: a matrix that nothing but noughts comes to nought with is of whole rank; what solves equations of whole rank is one; the product of rows of powers with two symmetric halves tells both. No condition; Package msr's New, N, K, Helpers, Parts, Symbols, has and Row, each as a contract over memory; Rows of any type that the call made and appends to, and rows of rows of whole numbers. No condition; The document's Places, and package msr's columns, each as a contract over memory; Package msr's columns and elementsAt, each as a contract over memory; The document's Right and Rows, and law06's small and awake, each as a contract over memory; The document's Shard and Encode, each as a contract over memory. -/
import Derived.Test.YtcdmljlangbloaaVan
import Derived.Test.YtcdmljlangbloaaSol
import Derived.Test.YtcdmljlangbloaaBasf
import Derived.Test.YtcdmljlangbloaaBase
namespace Go.Proofs.Ytcdmljlangbloaa
set_option linter.unusedVariables false
set_option maxRecDepth 20000

theorem SInv.lt_of {r k : Nat} {s : RS} {p : Nat → Nat} (h : SInv r k s p) : ∀ d i, i + d + 1 < s.rk → p i < p (i + d + 1)
  | 0, i, hi => h.mono i hi
  | d + 1, i, hi => Nat.lt_trans (h.lt_of d i (by omega)) (h.mono (i + d + 1) (by omega))
theorem SInv.less {r k : Nat} {s : RS} {p : Nat → Nat} (h : SInv r k s p) {i j : Nat} (hij : i < j) (hj : j < s.rk) : p i < p j := by
  have := h.lt_of (j - i - 1) i (by omega)
  rwa [show i + (j - i - 1) + 1 = j by omega] at this
/-- A column without a row's 1. -/
theorem SInv.free {r k : Nat} {s : RS} {p : Nat → Nat} (h : SInv r k s p) (hlt : s.rk < k) : ∃ q, q < k ∧ ∀ i, i < s.rk → p i ≠ q := by
  have lo : ∀ i, i < s.rk → i ≤ p i := by
    intro i
    induction i with
    | zero => exact fun _ => Nat.zero_le _
    | succ i ih =>
      intro hi
      have := ih (by omega)
      have := h.mono i (by omega)
      omega
  have key : ∀ m, m ≤ s.rk → (∀ i, i < m → p i = i) ∨ ∃ q, q < s.rk ∧ ∀ i, i < s.rk → p i ≠ q := by
    intro m
    induction m with
    | zero => exact fun _ => .inl fun i hi => absurd hi (Nat.not_lt_zero _)
    | succ m ih =>
      intro hm
      rcases ih (by omega) with g | g
      · by_cases e : p m = m
        · refine .inl fun i hi => ?_
          by_cases e2 : i = m
          · rw [e2, e]
          · exact g i (by omega)
        · refine .inr ⟨m, by omega, fun i hi e2 => ?_⟩
          have hpm := lo m (by omega)
          rcases Nat.lt_trichotomy i m with g1 | g1 | g1
          · have := g i g1
            omega
          · subst g1
            exact e e2
          · have := h.less g1 hi
            omega
      · exact .inr g
  rcases key s.rk (Nat.le_refl _) with g | ⟨q, h1, h2⟩
  · exact ⟨s.rk, hlt, fun i hi e => by have := g i hi; omega⟩
  · exact ⟨q, by omega, h2⟩
theorem us_pick (s : Nat → UInt8) (q n : Nat) (hq : q < n) : us (fun j => if q = j then s j else 0) n = s q := by
  rw [us_one _ q n hq fun j _ hne => if_neg fun e => hne e.symm, if_pos rfl]
/-- Only noughts come to nought: whole rank. -/
theorem rank_of_ker {n : Nat} {f : Nat → Nat → UInt8} (h : ∀ v : Nat → UInt8, (∀ o, o < n → ud (f o) v n = 0) → ∀ j, j < n → v j = 0) : (redS n f n).rk = n := by
  obtain ⟨p, hp⟩ := redS_inv n f n
  obtain ⟨s, hs⟩ : ∃ s, s = redS n f n := ⟨_, rfl⟩
  rcases Nat.lt_or_ge (redS n f n).rk n with hlt | hge
  · exfalso
    rw [← hs] at hp hlt
    obtain ⟨q, hq, hfree⟩ := hp.free hlt
    let v : Nat → UInt8 := fun j => (if q = j then 1 else 0) ^^^ us (fun i => if p i = j then s.f i q else 0) s.rk
    have hv : ∀ o, o < n → ud (s.f o) v n = 0 := by
      intro o ho
      by_cases hor : o < s.rk
      · have e1 : ud (s.f o) v n = us (fun j => um (s.f o j) (if q = j then 1 else 0)) n ^^^ us (fun j => um (s.f o j) (us (fun i => if p i = j then s.f i q else 0) s.rk)) n := by
          unfold ud
          rw [← us_xor]
          exact us_congr fun j _ => um_xor_right _ _ _
        have e2 : us (fun j => um (s.f o j) (if q = j then 1 else 0)) n = s.f o q := by
          rw [us_congr (t := fun j => if q = j then s.f o j else 0) fun j _ => by by_cases e : q = j <;> simp [e, um_one, um_zero]]
          exact us_pick _ q n hq
        have e3 : us (fun j => um (s.f o j) (us (fun i => if p i = j then s.f i q else 0) s.rk)) n = s.f o q := by
          rw [us_congr (t := fun j => us (fun i => um (s.f o j) (if p i = j then s.f i q else 0)) s.rk) fun j _ => um_us _ _ _, us_swap]
          rw [us_congr (t := fun i => um (s.f o (p i)) (s.f i q)) fun i hi => by
            rw [us_congr (t := fun j => if p i = j then um (s.f o j) (s.f i q) else 0) fun j _ => by by_cases e : p i = j <;> simp [e, um_zero]]
            exact us_pick (fun j => um (s.f o j) (s.f i q)) (p i) n (hp.lt i hi)]
          rw [us_one _ o s.rk hor fun i hi hne => by rw [hp.col i o hi ho (Ne.symm hne), zero_um], hp.one o hor, one_um]
        rw [e1, e2, e3, ux_self]
      · unfold ud
        rw [us_congr (t := fun _ => 0) fun j hj => by rw [hp.zero o j (by omega) ho hj, zero_um], us_zero]
    have h1 := h v (redS_ker f v n (by rw [← hs]; exact hv)) q hq
    have h2 : v q = 1 := by
      show (if q = q then (1 : UInt8) else 0) ^^^ us (fun i => if p i = q then s.f i q else 0) s.rk = 1
      rw [if_pos rfl, us_congr (t := fun _ => 0) fun i hi => if_neg (hfree i hi), us_zero, ux_zero]
    rw [h1] at h2
    exact absurd h2 (by decide)
  · have := (redS_le n f n).1
    omega
/-- Of whole rank: there is an inverse, on both sides. -/
theorem inv_both {n : Nat} {f : Nat → Nat → UInt8} (h : (redS n f n).rk = n) : ∃ g, EqF n n (mulF n f g) oneF ∧ EqF n n (mulF n g f) oneF := by
  obtain ⟨g, hg⟩ := inv_right h
  have hd : um (detF n f) (detF n g) = 1 := by rw [← det_prod, detF_congr hg, det_one]
  have hgw : (redS n g n).rk = n := whole_of fun e => by
    rw [e, um_zero] at hd
    exact absurd hd (by decide)
  obtain ⟨u, hu⟩ := inv_right hgw
  have e : EqF n n f u := fun i k hi hk => by
    have h1 := one_mulF (r := n) f i k hi hk
    have h2 := mulF_congr (EqF.refl n n f) hu i k hi hk
    have h3 := mulF_assoc f g u n n i k
    have h4 := mulF_congr hg (EqF.refl n n u) i k hi hk
    have h5 := mulF_one (c := n) u i k hi hk
    rw [← h1, ← h2, ← h3, h4, h5]
  exact ⟨g, hg, (mulF_congr (EqF.refl n n g) e).trans hu⟩
/-- What solves is one. -/
theorem solve_only {n m : Nat} {a x y : Nat → Nat → UInt8} (h : (redS n a n).rk = n) (hv : EqF n m (mulF n a x) (mulF n a y)) : EqF n m x y := by
  obtain ⟨g, _, hg⟩ := inv_both h
  have key : ∀ z : Nat → Nat → UInt8, EqF n m z (mulF n g (mulF n a z)) := fun z i k hi hk => by
    have h1 := mulF_one (c := m) z i k hi hk
    have h2 := mulF_congr hg (EqF.refl n m z) i k hi hk
    have h3 := mulF_assoc g a z n n i k
    rw [← h1, ← h2, h3]
  exact ((key x).trans (mulF_congr (EqF.refl n n g) hv)).trans (key y).symm
theorem redS_stay {n : Nat} {f : Nat → Nat → UInt8} (h : (redS n f n).rk = n) : ∀ m, redS n f (n + m) = redS n f n
  | 0 => rfl
  | m + 1 => by
    show stepS n (n + m) (redS n f (n + m)) = redS n f n
    rw [redS_stay h m]
    exact stepS_none (lead_none (by omega) fun q h1 h2 => by omega)
/-- The steps of equations of whole rank end in what solves them. -/
theorem steps_solve {n m : Nat} {f a b x : Nat → Nat → UInt8} (h : (redS n a n).rk = n) (hf : EqF n (n + m) f (catF n a b)) (hx : EqF n m (mulF n a x) b) : ∀ i j, i < n → j < m → (redS n f (n + m)).f i (n + j) = x i j := by
  intro i j hi hj
  have hw : (redS n (catF n a b) n).rk = n := (redS_congr (catF_left n a b n) n (Nat.le_refl _)).1.trans h
  rw [(redS_congr hf (n + m) (Nat.le_refl _)).2.2 i (n + j) hi (by omega), redS_stay hw m]
  exact solve_only h ((solve_eq (m := m) a b hw).trans hx.symm) i j hi hj

theorem upw_add (x : UInt8) (m : Nat) : ∀ n, upw x (m + n) = um (upw x m) (upw x n)
  | 0 => (um_one _).symm
  | n + 1 => by
    show um (upw x (m + n)) x = um (upw x m) (um (upw x n) x)
    rw [upw_add x m n, um_assoc]

/-- A shard's part: a row of powers, by the upper half, and by its last power, by the lower one. -/
def shF (a : Nat) (x : UInt8) (S T : Nat → Nat → UInt8) (j : Nat) : UInt8 := ud (upw x) (fun r => S r j) a ^^^ um (upw x a) (ud (upw x) (fun r => T r j) a)
/-- A half between two rows of powers. -/
def bilF (a : Nat) (S : Nat → Nat → UInt8) (x y : UInt8) : UInt8 := ud (fun j => ud (upw x) (fun r => S r j) a) (upw y) a
theorem bil_sym {a : Nat} {S : Nat → Nat → UInt8} (hS : ∀ r j, r < a → j < a → S r j = S j r) (x y : UInt8) : bilF a S x y = bilF a S y x := by
  unfold bilF
  rw [ud_assoc, ud_comm (fun j => ud (upw y) (fun r => S r j) a) (upw x)]
  exact ud_congr (fun _ _ => rfl) fun r hr => by
    rw [ud_comm]
    exact ud_congr (fun _ _ => rfl) fun j hj => hS r j hr hj
theorem bil_sh (a : Nat) (S T : Nat → Nat → UInt8) (x y : UInt8) : ud (shF a x S T) (upw y) a = bilF a S x y ^^^ um (upw x a) (bilF a T x y) := by
  show ud (fun j => ud (upw x) (fun r => S r j) a ^^^ um (upw x a) (ud (upw x) (fun r => T r j) a)) (upw y) a = _
  rw [ud_add]
  congr 1
  rw [ud_congr (f' := fun j => um (ud (upw x) (fun r => T r j) a) (upw x a)) (g' := upw y) (fun j _ => um_comm _ _) (fun _ _ => rfl), ud_scale, um_comm]
  rfl
theorem off_diag {p q l m : UInt8} (hne : l ≠ m) (h1 : p ^^^ um l q = 0) (h2 : p ^^^ um m q = 0) : p = 0 ∧ q = 0 := by
  have e1 := ux_eq h1
  have e2 := ux_eq h2
  have h3 : um (l ^^^ m) q = 0 := by rw [um_xor_left, ← e1, ← e2, ux_self]
  have hq : q = 0 := by
    by_cases hq : q = 0
    · exact hq
    · exact absurd h3 (um_ne (fun e => hne (ux_eq e)) hq)
  exact ⟨by rw [e1, hq, um_zero], hq⟩
theorem Uq.skip {n : Nat} {x : Nat → UInt8} (h : Uq (n + 1) x) {i : Nat} : Uq n fun l => x (skp i l) := fun u v hv hu => by
  have : skp i v < skp i u := by unfold skp; split <;> split <;> omega
  exact h _ _ this (skp_lt hu)
theorem Uq.less {m n : Nat} {x : Nat → UInt8} (h : Uq n x) (hm : m ≤ n) : Uq m x := fun i k hk hi => h i k hk (by omega)
/-- Powers that are unlike are of unlike points. -/
theorem Uq.of_pow {n a : Nat} {x : Nat → UInt8} (h : Uq n fun i => upw (x i) a) : Uq n x := fun i k hk hi e => h i k hk hi (by show upw (x i) a = upw (x k) a; rw [e])
theorem half_zero {a : Nat} {x : Nat → UInt8} {S : Nat → Nat → UInt8} (hU : Uq (a + 1) x) (hB : ∀ i l, i < a + 1 → l < a + 1 → i ≠ l → bilF a S (x i) (x l) = 0) : EqF a a S fun _ _ => 0 := by
  have hc : ∀ i, i < a + 1 → ∀ j, j < a → ud (upw (x i)) (fun r => S r j) a = 0 := by
    intro i hi j hj
    refine pv_only (p := fun l => x (skp i l)) (a := fun j => ud (upw (x i)) (fun r => S r j) a) (b := fun _ => 0) hU.skip (fun l hl => ?_) j hj
    have h1 : pv (fun j => ud (upw (x i)) (fun r => S r j) a) (x (skp i l)) a = bilF a S (x i) (x (skp i l)) := rfl
    rw [h1, hB i (skp i l) hi (skp_lt hl) (by unfold skp; split <;> omega)]
    unfold pv ud
    rw [us_congr (t := fun _ => 0) fun j _ => zero_um _, us_zero]
  intro r j hr hj
  refine pv_only (p := x) (a := fun r => S r j) (b := fun _ => 0) (hU.less (Nat.le_succ a)) (fun i hi => ?_) r hr
  show ud (fun r => S r j) (upw (x i)) a = _
  rw [ud_comm, hc i (by omega) j hj]
  unfold pv ud
  rw [us_congr (t := fun _ => 0) fun j _ => zero_um _, us_zero]
/-- Shards of a + 1 slots that are all noughts are of halves that are noughts. -/
theorem msr_inj {a : Nat} {x : Nat → UInt8} {S T : Nat → Nat → UInt8} (hS : ∀ r j, r < a → j < a → S r j = S j r) (hT : ∀ r j, r < a → j < a → T r j = T j r) (hU : Uq (a + 1) fun i => upw (x i) a)
    (h0 : ∀ i, i < a + 1 → ∀ j, j < a → shF a (x i) S T j = 0) : (EqF a a S fun _ _ => 0) ∧ EqF a a T fun _ _ => 0 := by
  have hb : ∀ i l, i < a + 1 → l < a + 1 → bilF a S (x i) (x l) ^^^ um (upw (x i) a) (bilF a T (x i) (x l)) = 0 := fun i l hi _ => by
    rw [← bil_sh]
    unfold ud
    rw [us_congr (t := fun _ => 0) fun j hj => by rw [h0 i hi j hj, zero_um], us_zero]
  have hne : ∀ i l, i < a + 1 → l < a + 1 → i ≠ l → upw (x i) a ≠ upw (x l) a := fun i l hi hl hne e => by
    rcases Nat.lt_or_ge l i with g | g
    · exact hU i l g hi e
    · exact hU l i (by omega) hl e.symm
  have ho : ∀ i l, i < a + 1 → l < a + 1 → i ≠ l → bilF a S (x i) (x l) = 0 ∧ bilF a T (x i) (x l) = 0 := fun i l hi hl hil =>
    off_diag (hne i l hi hl hil) (hb i l hi hl) (by have := hb l i hl hi; rwa [bil_sym hS, bil_sym hT] at this)
  exact ⟨half_zero hU.of_pow fun i l hi hl hil => (ho i l hi hl hil).1, half_zero hU.of_pow fun i l hi hl hil => (ho i l hi hl hil).2⟩

/-- Which part of the message stands where: symmetric in each half, and every part stands somewhere. -/
structure Plc (a N : Nat) (P : Nat → Nat → Nat) : Prop where
  lt : ∀ r j, r < a + a → j < a → P r j < N
  up : ∀ r j, r < a → j < a → P r j = P j r
  low : ∀ r j, r < a → j < a → P (a + r) j = P (a + j) r
  all : ∀ q, q < N → ∃ r j, r < a + a ∧ j < a ∧ P r j = q
/-- The equations' rows: that of slot t / a and part t % a. -/
def eqM (a : Nat) (P : Nat → Nat → Nat) (x : Nat → UInt8) (t q : Nat) : UInt8 := us (fun r => if P r (t % a) = q then upw (x (t / a)) r else 0) (a + a)
/-- What a row of equations comes to with a message is the shard's part. -/
theorem eqM_sh {a N : Nat} {P : Nat → Nat → Nat} (hP : Plc a N P) (ha : 0 < a) (x : Nat → UInt8) (v : Nat → UInt8) (t : Nat) :
    ud (eqM a P x t) v N = ud (upw (x (t / a))) (fun r => v (P r (t % a))) (a + a) := by
  have hj : t % a < a := Nat.mod_lt _ ha
  unfold ud eqM
  rw [us_congr (t := fun q => us (fun r => um (if P r (t % a) = q then upw (x (t / a)) r else 0) (v q)) (a + a)) fun q _ => us_um _ _ _, us_swap]
  refine us_congr fun r hr => ?_
  rw [us_congr (t := fun q => if P r (t % a) = q then um (upw (x (t / a)) r) (v q) else 0) fun q _ => by by_cases e : P r (t % a) = q <;> simp [e, zero_um]]
  exact us_pick (fun q => um (upw (x (t / a)) r) (v q)) _ N (hP.lt r _ hr hj)
theorem row_sh (a : Nat) (x : UInt8) (M : Nat → Nat → UInt8) (j : Nat) : ud (upw x) (fun r => M r j) (a + a) = shF a x M (fun r j => M (a + r) j) j := by
  rw [ud_split]
  unfold shF
  congr 1
  rw [ud_congr (f' := fun r => um (upw x r) (upw x a)) (g' := fun r => M (a + r) j) (fun r _ => by rw [upw_add, um_comm]) (fun _ _ => rfl), ud_scale, um_comm]
/-- The document's order: in each half row by row, from the diagonal on. -/
def offP (a i j : Nat) : Nat := i * a - i * (i - 1) / 2 + (j - i)
def plcF (a r j : Nat) : Nat := if r < a then offP a (min r j) (max r j) else a * (a + 1) / 2 + offP a (min (r - a) j) (max (r - a) j)
theorem plc_small : ∀ a, a < 8 → 0 < a → (∀ r, r < a + a → ∀ j, j < a → plcF a r j < (a + 1) * a) ∧ (∀ r, r < a → ∀ j, j < a → plcF a r j = plcF a j r ∧ plcF a (a + r) j = plcF a (a + j) r) ∧ ∀ q, q < (a + 1) * a → ((List.range (a + a)).any fun r => (List.range a).any fun j => plcF a r j == q) = true := by decide +kernel
theorem plc_ok {a : Nat} (h : a < 8) (ha : 0 < a) : Plc a ((a + 1) * a) (plcF a) := by
  obtain ⟨h1, h2, h3⟩ := plc_small a h ha
  refine ⟨fun r j hr hj => h1 r hr j hj, fun r j hr hj => (h2 r hr j hj).1, fun r j hr hj => (h2 r hr j hj).2, fun q hq => ?_⟩
  obtain ⟨r, hr, hx⟩ := List.any_eq_true.1 (h3 q hq)
  obtain ⟨j, hj, hy⟩ := List.any_eq_true.1 hx
  exact ⟨r, j, List.mem_range.1 hr, List.mem_range.1 hj, by simpa using hy⟩
end Go.Proofs.Ytcdmljlangbloaa
namespace Go.Proofs.Ytcdmljlangbloaa
open Go.RowKit
set_option linter.unusedVariables false
set_option maxRecDepth 20000

theorem kpt2 {W w1 : World} {p q : Addr} {x0 x1 : Value} (hk : Kp No W w1) (h : W.cell? p = some x0 ∧ W.cell? q = some x1) : w1.cell? p = some x0 ∧ w1.cell? q = some x1 := ⟨hk.cell h.1 fun f => f, hk.cell h.2 fun f => f⟩
/-- A code's numbers: n shards, k suffice, a parts, d helpers, q symbols. -/
structure Dim (n k a d q : Nat) : Prop where
  k_ : k = a + 1
  d_ : d = a + a
  q_ : q = (a + 1) * a
  a1 : 1 ≤ a
  a7 : a ≤ 7
  n1 : d < n
  n2 : n ≤ 24
theorem Dim.q56 {n k a d q : Nat} (h : Dim n k a d q) : 2 ≤ q ∧ q ≤ 56 ∧ a ≤ q := by
  have h1 := h.a1
  have h7 := h.a7
  have e := h.q_
  rw [Nat.add_mul, Nat.one_mul] at e
  have := Nat.mul_le_mul h7 h7
  have := Nat.mul_le_mul h1 h1
  omega
theorem dim_of {n k : Nat} (h1 : 2 ≤ k) (h2 : k ≤ 8) (h3 : 2 * k ≤ n + 1) (h4 : n ≤ 24) : ∃ a d q, Dim n k a d q :=
  ⟨k - 1, k - 1 + (k - 1), (k - 1 + 1) * (k - 1), by omega, rfl, rfl, by omega, by omega, by omega, h4⟩

/-- The powers that were found, each reckoned once. -/
def fqs (e : Nat) (l : List UInt8) (x : Nat) : List UInt8 := if upw (UInt8.ofNat x) e ∈ l then l else l ++ [upw (UInt8.ofNat x) e]
theorem fpw_fold (e : Nat) : ∀ x, fpw e x = (List.range x).foldl (fqs e) []
  | 0 => rfl
  | x + 1 => by
    rw [List.range_succ, List.foldl_append, ← fpw_fold e x]
    show fpw e (x + 1) = fqs e (fpw e x) x
    unfold fqs
    by_cases h : upw (UInt8.ofNat x) e ∈ fpw e x
    · rw [fpw_in h, if_pos h]
    · rw [fpw_new h, if_neg h]
theorem enough : ∀ e, e < 8 → 0 < e → 24 ≤ ((List.range 60).foldl (fqs e) []).length := by decide +kernel
theorem fnd_enough {a : Nat} (h1 : 1 ≤ a) (h7 : a ≤ 7) : 24 ≤ (fnd a 256).length := by
  have h := enough a (by omega) (by omega)
  rw [← fpw_fold, fpw_len] at h
  exact Nat.le_trans h (fnd_le (by omega))

/-- The points of the slots: the first ones whose powers are unlike. -/
structure Pts (n a : Nat) (x : Nat → UInt8) : Prop where
  eq : ∃ N, N = 256 ∧ n ≤ (fnd a N).length ∧ (fnd a N).take n = rowL n x
  uq : Uq n fun i => upw (x i) a
theorem lg_take {l : List UInt8} {n i : Nat} (h : i < n) : lg (l.take n) i = lg l i := by
  unfold lg
  rw [List.getD_eq_getElem?_getD, List.getD_eq_getElem?_getD, List.getElem?_take, if_pos h]
theorem pts_ex {n a : Nat} (h1 : 1 ≤ a) (h7 : a ≤ 7) (hn : n ≤ 24) : ∃ x, Pts n a x := by
  have he := fnd_enough h1 h7
  have hu := fpw_uq a 256
  rw [fpw_len] at hu
  refine ⟨lg ((fnd a 256).take n), ⟨256, rfl, by omega, ?_⟩, fun i j hj hi => ?_⟩
  · have h := rowL_lg ((fnd a 256).take n)
    rw [List.length_take, Nat.min_eq_left (by omega)] at h
    exact h.symm
  · have key : ∀ m, m < n → upw (lg ((fnd a 256).take n) m) a = lg (fpw a 256) m := fun m hm => by
      rw [lg_take hm]
      have hl : m < (fnd a 256).length := by omega
      have hl2 : m < (fpw a 256).length := by rw [fpw_len]; exact hl
      rw [lg_of (List.getElem?_eq_getElem hl), lg_of (List.getElem?_eq_getElem hl2)]
      simp [fpw]
    show upw (lg ((fnd a 256).take n) i) a ≠ upw (lg ((fnd a 256).take n) j) a
    rw [key i hi, key j (by omega)]
    exact hu i j hj (by omega)

/-- A code in memory. -/
structure CodeAt (w : World) (g n k : Nat) (x : Nat → UInt8) : Prop where
  head : ∃ A cp, w.heap[g]? = some (.cells #[.int .i64 (k : Int), .slice A n cp] 58 (0, 0)) ∧ Bts w (.slice A n cp) (rowL n x)
section
variable {w w1 : World} {g n k a d q : Nat} {x : Nat → UInt8}
theorem CodeAt.no (h : CodeAt w g n k x) (hk : Kp No w w1) : CodeAt w1 g n k x := by
  obtain ⟨A, cp, h1, h2⟩ := h.head
  exact ⟨A, cp, by rw [hk.block g (Array.getElem?_eq_some_iff.1 h1).1 fun f => f]; exact h1, h2.no hk⟩
theorem CodeAt.c0 (h : CodeAt w g n k x) : w.cell? ⟨g, 0, none⟩ = some (.int .i64 (k : Int)) := by
  obtain ⟨A, cp, h1, h2⟩ := h.head
  rw [cell_of_row w g _ _ _ _ h1]
  rfl
theorem CodeAt.c1 (h : CodeAt w g n k x) : ∃ A cp, w.cell? ⟨g, 1, none⟩ = some (.slice A n cp) ∧ Bts w (.slice A n cp) (rowL n x) := by
  obtain ⟨A, cp, h1, h2⟩ := h.head
  refine ⟨A, cp, ?_, h2⟩
  rw [cell_of_row w g _ _ _ _ h1]
  rfl
abbrev cptr (g : Nat) : Value := .pointer (some ⟨g, 0, none⟩)

theorem kk_any (h : CodeAt w g n k x) : Calls Try.prog 32 #[cptr g] w fun e w' => e = .returned (.int .i64 (k : Int)) ∧ w = w' := by
  have c := h.c0
  go_enter Try.func32, Try.ntmps32
  go_wp2_with fail
  go_ret
  exact ⟨rfl, rfl⟩
theorem kk_nil (w : World) : Calls Try.prog 32 #[.pointer none] w fun e w' => e = .returned (.int .i64 0) ∧ w = w' := by
  go_enter Try.func32, Try.ntmps32
  go_wp2_with fail
  go_ret
  exact ⟨rfl, rfl⟩
theorem nn_any (h : CodeAt w g n k x) : Calls Try.prog 33 #[cptr g] w fun e w' => e = .returned (.int .i64 (n : Int)) ∧ w = w' := by
  obtain ⟨A, cp, c, _⟩ := h.c1
  go_enter Try.func33, Try.ntmps33
  go_wp2_with fail
  go_ret
  exact ⟨rfl, rfl⟩
theorem nn_nil (w : World) : Calls Try.prog 33 #[.pointer none] w fun e w' => e = .returned (.int .i64 0) ∧ w = w' := by
  go_enter Try.func33, Try.ntmps33
  go_wp2_with fail
  go_ret
  exact ⟨rfl, rfl⟩
theorem aa_any (h : CodeAt w g n k x) (hD : Dim n k a d q) : Calls Try.prog 26 #[cptr g] w fun e w' => e = .returned (.int .i64 (a : Int)) ∧ w = w' := by
  have hk := hD.k_
  have ha := hD.a7
  have h1 : 1 ≤ k := by omega
  have h2 : k ≤ 8 := by omega
  have HK := hide hk
  clear hk hD
  go_enter Try.func26, Try.ntmps26
  go_wp2_with fail
  refine (kk_any h).mono ?_
  rintro e w' ⟨rfl, rfl⟩
  go_wp2_with fail
  go_ret
  exact ⟨ret_i64 (by have := HK.out; omega), rfl⟩
theorem aa_nil (w : World) : Calls Try.prog 26 #[.pointer none] w fun e w' => e = .returned (.int .i64 0) ∧ w = w' := by
  go_enter Try.func26, Try.ntmps26
  go_wp2_with fail
  refine (kk_nil w).mono ?_
  rintro e w' ⟨rfl, rfl⟩
  go_wp2_with fail
  go_ret
  exact ⟨rfl, rfl⟩
theorem dd_any (h : CodeAt w g n k x) (hD : Dim n k a d q) : Calls Try.prog 43 #[cptr g] w fun e w' => e = .returned (.int .i64 (d : Int)) ∧ w = w' := by
  have HD := hide hD.d_
  have ha := hD.a7
  have hc := aa_any h hD
  clear hD
  go_enter Try.func43, Try.ntmps43
  go_wp2_with fail
  refine hc.mono ?_
  rintro e w' ⟨rfl, rfl⟩
  go_wp2_with fail
  go_ret
  exact ⟨ret_i64 (by have := HD.out; omega), rfl⟩
theorem dd_nil (w : World) : Calls Try.prog 43 #[.pointer none] w fun e w' => e = .returned (.int .i64 0) ∧ w = w' := by
  go_enter Try.func43, Try.ntmps43
  go_wp2_with fail
  refine (aa_nil w).mono ?_
  rintro e w' ⟨rfl, rfl⟩
  go_wp2_with fail
  go_ret
  exact ⟨rfl, rfl⟩
theorem qq_any (h : CodeAt w g n k x) (hD : Dim n k a d q) : Calls Try.prog 24 #[cptr g] w fun e w' => e = .returned (.int .i64 (q : Int)) ∧ w = w' := by
  have hq : (k : Int) * a = q := by rw [hD.k_, hD.q_, Int.natCast_mul]
  have hb := hD.q56
  have h0 : 0 ≤ (k : Int) * a := by omega
  have h1 : (k : Int) * a ≤ 56 := by omega
  have HQ := hide hq
  have hc := aa_any h hD
  clear hD hq hb
  go_enter Try.func24, Try.ntmps24
  go_wp2_with fail
  refine (kk_any h).mono ?_
  rintro e w' ⟨rfl, rfl⟩
  go_wp2_with fail
  refine hc.mono ?_
  rintro e w' ⟨rfl, rfl⟩
  go_wp2_with fail
  go_ret
  exact ⟨ret_i64 HQ.out, rfl⟩
theorem qq_nil (w : World) : Calls Try.prog 24 #[.pointer none] w fun e w' => e = .returned (.int .i64 0) ∧ w = w' := by
  go_enter Try.func24, Try.ntmps24
  go_wp2_with fail
  refine (kk_nil w).mono ?_
  rintro e w' ⟨rfl, rfl⟩
  go_wp2_with fail
  refine (aa_nil w).mono ?_
  rintro e w' ⟨rfl, rfl⟩
  go_wp2_with fail
  go_ret
  exact ⟨rfl, rfl⟩
theorem has_yes (h : CodeAt w g n k x) (i : Nat) (hi : i < n) : Calls Try.prog 41 #[cptr g, .int .i64 (i : Int)] w fun e w' => e = .returned (.bool true) ∧ w = w' := by
  go_enter Try.func41, Try.ntmps41
  go_wp2_with fail
  refine (nn_any h).mono ?_
  rintro e w' ⟨rfl, rfl⟩
  go_wp2_with fail
  go_ret
  exact ⟨rfl, rfl⟩
theorem has_no (h : CodeAt w g n k x) (i : Int) (hi : i < 0 ∨ (n : Int) ≤ i) : Calls Try.prog 41 #[cptr g, .int .i64 i] w fun e w' => e = .returned (.bool false) ∧ w = w' := by
  rcases Int.lt_or_le i 0 with h0 | h0
  · clear hi
    go_enter Try.func41, Try.ntmps41
    go_wp2_with fail
    go_ret
    exact ⟨rfl, rfl⟩
  · have hi : (n : Int) ≤ i := by omega
    go_enter Try.func41, Try.ntmps41
    go_wp2_with fail
    refine (nn_any h).mono ?_
    rintro e w' ⟨rfl, rfl⟩
    go_wp2_with fail
    go_ret
    exact ⟨ret_b (decide_eq_false (by omega)), rfl⟩
theorem has_nil (w : World) : Calls Try.prog 41 #[.pointer none, .int .i64 0] w fun e w' => e = .returned (.bool false) ∧ w = w' := by
  go_enter Try.func41, Try.ntmps41
  go_wp2_with fail
  refine (nn_nil w).mono ?_
  rintro e w' ⟨rfl, rfl⟩
  go_wp2_with fail
  go_ret
  exact ⟨rfl, rfl⟩
theorem rowo_nil (w : World) : Calls Try.prog 34 #[.pointer none, .int .i64 0] w (OwnPost w []) := by
  go_enter Try.func34, Try.ntmps34
  go_wp2_with fail
  refine (has_nil w).mono ?_
  rintro e w' ⟨rfl, rfl⟩
  go_wp2_with fail
  go_ret
  exact ⟨none, 0, 0, rfl, Own.nil _ _ _, Kp.refl _ _⟩
theorem rowo_out (h : CodeAt w g n k x) (i : Int) (hi : i < 0 ∨ (n : Int) ≤ i) : Calls Try.prog 34 #[cptr g, .int .i64 i] w (OwnPost w []) := by
  have hc := has_no h i hi
  clear hi
  go_enter Try.func34, Try.ntmps34
  go_wp2_with fail
  refine hc.mono ?_
  rintro e w' ⟨rfl, rfl⟩
  go_wp2_with fail
  go_ret
  exact ⟨none, 0, 0, rfl, Own.nil _ _ _, Kp.refl _ _⟩
theorem OwnPost.drew {w w2 : World} {bs : List UInt8} {e : Ending} (m : Nat) (h : OwnPost (w.drewN m) bs e w2) : OwnPost w bs e w2 := OwnPost.of_sm (Sm.drewN w m) h
set_option maxHeartbeats 1000000 in
theorem rowo_in (h : CodeAt w g n k x) (hD : Dim n k a d q) (i : Nat) (hi : i < n) : Calls Try.prog 34 #[cptr g, .int .i64 (i : Int)] w (OwnPost w (rowL d (upw (x i)))) := by
  obtain ⟨A, cp, hc, hb⟩ := h.c1
  obtain ⟨B, off, rfl, hcell⟩ := hb.cell hi
  have hd1 : 1 ≤ d := by have := hD.a1; have := hD.d_; omega
  have hd2 : d ≤ 1000 := by have := hD.a7; have := hD.d_; omega
  go_enter Try.func34, Try.ntmps34
  go_wp2_with fail
  refine (has_yes h i hi).mono ?_
  rintro e w' ⟨rfl, rfl⟩
  go_wp2_with fail
  have hdd := dd_any (h.no (Sm.drew w).kp) hD
  have hvr := vrow_any (x i) d w.drew hd1 hd2
  go_region_held3 (fun w' => w'.cell? ⟨g, 1, none⟩ = some (.slice (some ⟨B, off, none⟩) n cp) ∧ w'.cell? ⟨B, off + i, none⟩ = some (.int .u8 ((x i).toNat : Int))) (first | assumption | exact ⟨hc, hcell⟩ | go_keep)
    (first | (go_at_call 43; ((with_reducible refine hdd.mono ?_); rintro e w' ⟨rfl, rfl⟩)) | (go_at_call 42; ((with_reducible refine hvr.mono ?_); rintro e w2 ⟨A1, n1, c1, rfl, ho, hk⟩); have s1 := kpt2 hk ⟨hc, hcell⟩))
  go_wp2_with fail
  go_ret
  exact ⟨A1, n1, c1, rfl, ho, (Sm.drew w).kp.trans' hk⟩
/-- A code comes back. -/
def CodePost (w : World) (n k : Nat) (x : Nat → UInt8) (e : Ending) (w1 : World) : Prop :=
  ∃ g, e = .returned (.tuple #[cptr g, .int .i64 0]) ∧ CodeAt w1 g n k x ∧ Kp No w w1
theorem mnew_no (n k : Int) (w : World) (h : ¬ (2 ≤ k ∧ k ≤ 8 ∧ 2 * k ≤ n + 1 ∧ n ≤ 24)) (h1 : -9223372036854775808 ≤ k) (h2 : k ≤ 9223372036854775807) : Calls Try.prog 9 #[.int .i64 n, .int .i64 k] w (ArgPost w) := by
  by_cases h3 : k < 2
  · clear h
    go_enter Try.func9, Try.ntmps9
    go_wp2_with fail
    go_ret2
    exact ⟨rfl, Kp.refl _ _⟩
  have h3 : 2 ≤ k := by omega
  by_cases h4 : 8 < k
  · clear h
    go_enter Try.func9, Try.ntmps9
    go_wp2_with fail
    go_ret2
    exact ⟨rfl, Kp.refl _ _⟩
  have h4 : k ≤ 8 := by omega
  by_cases h5 : n < 2 * k - 1
  · clear h
    go_enter Try.func9, Try.ntmps9
    go_wp2_with fail
    go_ret2
    exact ⟨rfl, Kp.refl _ _⟩
  have h5 : 2 * k - 1 ≤ n := by omega
  have h6 : 24 < n := by omega
  clear h
  go_enter Try.func9, Try.ntmps9
  go_wp2_with fail
  go_ret2
  exact ⟨rfl, Kp.refl _ _⟩
set_option maxHeartbeats 1000000 in
theorem mnew_yes (w : World) (hD : Dim n k a d q) (hP : Pts n a x) : Calls Try.prog 9 #[.int .i64 (n : Int), .int .i64 (k : Int)] w (CodePost w n k x) := by
  have hk := hD.k_
  have hd := hD.d_
  have ha1 := hD.a1
  have ha7 := hD.a7
  have hn1 := hD.n1
  have hn2 := hD.n2
  have h2 : 2 ≤ k := by omega
  have h8 : k ≤ 8 := by omega
  have h3 : 2 * (k : Int) - 1 ≤ n := by omega
  have hz : (a : Nat) = ((k : Int) - 1).toNat := by omega
  obtain ⟨N, hN, hN2, hN3⟩ := hP.eq
  have hp := points_yes n ((k : Int) - 1) a N w (by omega) (by omega) (by omega) hz hN hN2
  rw [hN3] at hp
  have HP := hide hp
  clear hk hd hN hN2 hN3 hz hp hD hP
  go_enter Try.func9, Try.ntmps9
  go_wp2_with fail
  refine HP.out.mono ?_
  rintro e w1 ⟨A, m, c, rfl, ho, hkp⟩
  have hm : m = n := by rw [ho.len, rowL_len]
  subst hm
  go_wp2_with fail
  go_ret2
  refine ⟨w1.heap.size, rfl, ⟨A, c, heap_alloc_new w1 _, ho.bts.no (Kp.alloc No _ _)⟩, hkp.trans' (Kp.alloc No _ _)⟩
end
end Go.Proofs.Ytcdmljlangbloaa
namespace Go.Proofs.Ytcdmljlangbloaa
open Go.RowKit
set_option linter.unusedVariables false
set_option maxRecDepth 20000

/-- The type e takes sz cells and bt bytes, and is z when it is new. -/
structure Ty (e : TypeId) (z : Value) (sz bt : Nat) : Prop where
  ex : ∃ i, Try.prog.info? e = some i ∧ i.zero = some z ∧ i.size = sz ∧ i.bytes = bt
  zs : z.cells.size = sz
  s0 : 0 < sz
  b0 : bt ≤ 100
theorem ty_of {e : TypeId} {z : Value} {sz bt : Nat} (h : (Try.prog.info? e).map (fun i => (i.zero, i.size, i.bytes)) = some (some z, sz, bt)) (h2 : z.cells.size = sz) (h3 : 0 < sz) (h4 : bt ≤ 100) : Ty e z sz bt := by
  refine ⟨?_, h2, h3, h4⟩
  rcases hi : Try.prog.info? e with _ | i
  · rw [hi] at h; cases h
  · rw [hi] at h
    simp only [Option.map_some, Option.some.injEq, Prod.mk.injEq] at h
    exact ⟨i, rfl, h.1, h.2.1, h.2.2⟩
theorem ty_int : Ty 3 (.int .i64 0) 1 8 := ty_of (by kernel_rfl) rfl (by omega) (by omega)
theorem ty_ints : Ty 71 (.slice none 0 0) 1 24 := ty_of (by kernel_rfl) rfl (by omega) (by omega)
theorem ty_slc : Ty 38 (.slice none 0 0) 1 24 := ty_of (by kernel_rfl) rfl (by omega) (by omega)

/-- Cells that are appended. -/
structure Nws (w : World) (ad : Addr) (m sz : Nat) (cs : List Value) : Prop where
  len : cs.length = m * sz
  at_ : ∀ (j : Nat) u, cs[j]? = some u → w.cell? (ad.add j) = some u
  one : ∀ u ∈ cs, u.oneCell' = true
def OwnT (w : World) (base : Nat) (e : TypeId) (sz : Nat) (v : Value) (n : Nat) (xs : List Value) : Prop := w.ownsRow base e sz v n xs
section
variable {w w1 w2 : World} {S : Nat → Prop} {base : Nat} {e : TypeId} {sz n m : Nat} {v v1 z : Value} {xs cs : List Value}
theorem OwnT.nil (w : World) (base : Nat) (e : TypeId) (sz : Nat) : OwnT w base e sz (.slice none 0 0) 0 [] := World.ownsRow_nil w base e sz
theorem OwnT.lt (h : OwnT w base e sz v n xs) (k : Nat) (hk : v.ownBlock = some k) : k < w.heap.size := (World.ownsRow.lt h k hk).2
theorem OwnT.ge (h : OwnT w base e sz v n xs) (k : Nat) (hk : v.ownBlock = some k) : base ≤ k := (World.ownsRow.lt h k hk).1
theorem OwnT.keep (h : OwnT w base e sz v n xs) (hk : Kp S w w1) (hS : ∀ k, v.ownBlock = some k → ¬ S k) : OwnT w1 base e sz v n xs := by
  refine ⟨h.1, ?_⟩
  rcases h.2 with hn | ⟨g, cap, cur, rfl, hb, hg, r⟩
  · exact .inl hn
  · exact .inr ⟨g, cap, cur, rfl, hb, by rw [hk.block g (Array.getElem?_eq_some_iff.1 hg).1 (hS g rfl)]; exact hg, r⟩
theorem OwnT.no (h : OwnT w base e sz v n xs) (hk : Kp No w w1) : OwnT w1 base e sz v n xs := h.keep hk fun _ _ f => f
theorem OwnT.form (h : OwnT w base e sz v n xs) : ∃ A c, v = .slice A n c := by
  rcases h.2 with ⟨rfl, rfl⟩ | ⟨g, cap, cur, rfl, _⟩
  · exact ⟨none, 0, rfl⟩
  · exact ⟨_, _, rfl⟩
theorem OwnT.cell {A : Option Addr} {n' c j : Nat} (h : OwnT w base e sz (.slice A n' c) n xs) {u : Value} (hj : xs[j]? = some u) : ∃ g, A = some ⟨g, 0, none⟩ ∧ base ≤ g ∧ g < w.heap.size ∧ n ≤ c ∧ w.cell? ⟨g, j, none⟩ = some u := by
  have hjl : j < xs.length := (List.getElem?_eq_some_iff.1 hj).1
  rcases h.2 with ⟨h1, hn⟩ | ⟨g, cap, cur, h1, hb, hg, hc, _, _, ht⟩
  · have := h.1
    rw [hn, Nat.zero_mul] at this
    omega
  · injection h1 with h1 h2 h3
    subst h3
    refine ⟨g, h1, hb, (Array.getElem?_eq_some_iff.1 hg).1, hc, ?_⟩
    rw [cell_of_row w g j cur _ _ hg]
    have h2 : (cur.toList.take (n * sz))[j]? = xs[j]? := by rw [ht]
    rw [List.getElem?_take, if_pos (by rw [← h.1]; exact hjl), Array.getElem?_toList, hj] at h2
    exact h2
theorem OwnT.kind (h : OwnT w base e sz v n xs) {g : Nat} (hg : v.ownBlock = some g) : ∃ cur, w.heap[g]? = some (.cells cur e (0, 0)) := by
  rcases h.2 with ⟨rfl, _⟩ | ⟨g', cap, cur, rfl, _, h1, _⟩
  · cases hg
  · injection hg with hg
    subst hg
    exact ⟨cur, h1⟩
/-- What append leaves. -/
structure AppT (w : World) (base : Nat) (e : TypeId) (sz : Nat) (v : Value) (n : Nat) (xs : List Value) (m : Nat) (cs : List Value) (v1 : Value) (w1 : World) : Prop where
  own : OwnT w1 base e sz v1 (n + m) (xs ++ cs)
  kp : Kp (fun k => v.ownBlock = some k) w w1
  at_ : v1.ownBlock = v.ownBlock ∨ v1.ownBlock = some w.heap.size
theorem run_appT {bt : Nat} (hT : Ty e z sz bt) (t ty : TypeId) (ht : Try.prog.underlying t = some (.slice e)) (h : OwnT w base e sz v n xs) (ad : Addr) (c : Nat) (hN : Nws w ad m sz cs) (hlen : n + m ≤ 1000000) (hb : base ≤ w.heap.size) :
    ∃ v1 w1, (Builtin.append_ #[t, t] ty #[v, .slice (some ad) m c]).run Try.prog w = .ok v1 w1 ∧ AppT w base e sz v n xs m cs v1 w1 := by
  obtain ⟨⟨i0, hi0, hz0, hz1, hz2⟩, h1, h2, h3⟩ := hT
  have h5 : (n + m) * bt ≤ 1000000 * 100 := Nat.mul_le_mul hlen h3
  obtain ⟨v1, w1, hr, e1, e2, e3, e4⟩ := run_append_own_at (P := Try.prog) w base t ty e i0 z sz bt ht hi0 hz0 hz1 hz2 h1 h2 v n xs h ad m c cs hN.len hN.at_ hN.one (by simp only [maxLen]; omega) (by omega) hb
  exact ⟨v1, w1, hr, ⟨e1, Kp.grown e2, e4⟩⟩
theorem AppT.keeps {w0 : World} (ha : AppT w w0.heap.size e sz v n xs m cs v1 w1) (h : OwnT w w0.heap.size e sz v n xs) (hk : Kp S w0 w) : Kp S w0 w1 :=
  hk.trans (ha.kp.mono fun k hk => .inr (h.ge k hk))
theorem wpList_appT {ops : Array Oper} {rest : List Oper} {o : Oper} {a : Act} {Q : Exit → Act → World → Prop} {bt : Nat} (hT : Ty e z sz bt) (hgd : o.guard = none) (s x : Operand) (t : TypeId)
    (ho : o.op = .call { callee := .builtin .append, args := #[s, x], argTypes := #[t, t] })
    (ht : Try.prog.underlying t = some (.slice e)) (hs : a.eval s = v) (h : OwnT w base e sz v n xs) (ad : Addr) (c : Nat) (hx : a.eval x = .slice (some ad) m c) (hN : Nws w ad m sz cs) (hlen : n + m ≤ 1000000) (hb : base ≤ w.heap.size)
    (hQ : ∀ A1 n1 c1 w1, n1 = n + m → AppT w base e sz v n xs m cs (.slice A1 n1 c1) w1 → wpList Try.prog ops Q rest (a.put o.dst (.slice A1 n1 c1)) w1) : wpList Try.prog ops Q (o :: rest) a w := by
  refine wpList_plain hgd fun K hK => ?_
  obtain ⟨v1, w1, hr, h1⟩ := run_appT hT t o.type ht h ad c hN hlen hb
  unfold Oper.wp execOp
  simp only [ho, resolve, invoke, builtin, Sem.run_bind, Sem.run_pure, Result.andThen_ok, List.map_toArray, List.map_cons, List.map_nil, hs, hx, hr]
  obtain ⟨A1, c1, rfl⟩ := h1.own.form
  exact hK _ _ (hQ A1 _ c1 w1 rfl h1)
theorem step_appT {ops : Array Oper} {o : Oper} {a : Act} {Q : Exit → Act → World → Prop} {K : Act → World → Prop} {E : Prop} {bt : Nat} (hT : Ty e z sz bt) (hgd : o.guard = none) (s x : Operand) (t : TypeId)
    (ho : o.op = .call { callee := .builtin .append, args := #[s, x], argTypes := #[t, t] })
    (ht : Try.prog.underlying t = some (.slice e)) (hs : a.eval s = v) (h : OwnT w base e sz v n xs) (ad : Addr) (c : Nat) (hx : a.eval x = .slice (some ad) m c) (hN : Nws w ad m sz cs) (hlen : n + m ≤ 1000000) (hb : base ≤ w.heap.size)
    (hQ : ∀ A1 n1 c1 w1, n1 = n + m → AppT w base e sz v n xs m cs (.slice A1 n1 c1) w1 → K (a.put o.dst (.slice A1 n1 c1)) w1) : if Region.wanted o (yielded ops a.tmps) = true then Oper.wp Try.prog o a w K Q else E := by
  have hw : Region.wanted o (yielded ops a.tmps) = true := by simp [Region.wanted, hgd]
  rw [if_pos hw]
  obtain ⟨v1, w1, hr, h1⟩ := run_appT hT t o.type ht h ad c hN hlen hb
  obtain ⟨A1, c1, rfl⟩ := h1.own.form
  have hq := hQ A1 _ c1 w1 rfl h1
  unfold Oper.wp
  simp only [execOp, ho, resolve, invoke, builtin, Sem.run_bind, Sem.run_pure, Result.andThen_ok, List.map_toArray, List.map_cons, List.map_nil, hs, hx, hr]
  exact hq
theorem nws_one {u : Value} (h : w.cell? ⟨m, 0, none⟩ = some u) (h1 : u.oneCell' = true) : Nws w ⟨m, 0, none⟩ 1 1 [u] := by
  refine ⟨rfl, fun j x hx => ?_, fun x hx => by simp at hx; subst hx; exact h1⟩
  match j, hx with
  | 0, hx =>
    simp at hx
    subst hx
    rw [add_none]
    exact h
  | j + 1, hx => simp at hx
end

/-- So many noughts. -/
def zi (n : Nat) : Array Value := madeCells (Value.int .i64 0).cells (n * 1)
theorem zi_size (n : Nat) : (zi n).size = n := by unfold zi; rw [size_madeCells, Nat.mul_one]
theorem zi_get {n j : Nat} (h : j < n) : (zi n)[j]? = some (.int .i64 ((0 : Nat) : Int)) := by
  have e : (zi n).toList = List.replicate n (.int .i64 0) := by unfold zi; rw [Nat.mul_one]; exact toList_madeCells_one _ _
  rw [← Array.getElem?_toList, e, List.getElem?_replicate, if_pos h]
  rfl
theorem zr_size (n : Nat) : (zr n).size = n := by unfold zr; rw [size_madeCells, Nat.mul_one]
/-- make([]int, n). -/
theorem make_ints (w : World) (n : Nat) (x : Int) (hx : x = n) (hn : n ≤ 1000) :
    (Instr.makeSlice 71 (.int .i64 x) (.int .i64 x)).run Try.prog w = .ok (.slice (some ⟨w.heap.size, 0, none⟩) n n) (w.alloc (.cells (zi n) 3)) := by
  obtain ⟨⟨i0, hi0, hz0, hz1, hz2⟩, _⟩ := ty_int
  subst hx
  have := run_make (P := Try.prog) w 71 3 i0 (.int .i64 0) Try.underlying71 hi0 hz0 .i64 .i64 n n (by omega) (by omega) (by rw [hz2]; omega) (by omega)
  rw [hz1] at this
  simpa [zi] using this
/-- make([][]int, n). -/
theorem make_irows (w : World) (n : Nat) (x : Int) (hx : x = n) (hn : n ≤ 1000) :
    (Instr.makeSlice 69 (.int .i64 x) (.int .i64 x)).run Try.prog w = .ok (.slice (some ⟨w.heap.size, 0, none⟩) n n) (w.alloc (.cells (zr n) 71)) := by
  obtain ⟨⟨i0, hi0, hz0, hz1, hz2⟩, _⟩ := ty_ints
  subst hx
  have := run_make (P := Try.prog) w 69 71 i0 (.slice none 0 0) Try.underlying69 hi0 hz0 .i64 .i64 n n (by omega) (by omega) (by rw [hz2]; omega) (by omega)
  rw [hz1] at this
  simpa [zr] using this

/-- Rows of whole numbers, each row a block of its own: the block g (of m slices at least) leads to the first n of them. -/
structure GrI (w : World) (base g m n L : Nat) (bl : Nat → Nat) (f : Nat → Nat → Nat) : Prop where
  out : ∃ cur : Array Value, w.heap[g]? = some (.cells cur 71 (0, 0)) ∧ m ≤ cur.size ∧ ∀ j, j < n → cur[j]? = some (.slice (some ⟨bl j, 0, none⟩) L L)
  row : ∀ j, j < n → ∃ cur : Array Value, w.heap[bl j]? = some (.cells cur 3 (0, 0)) ∧ cur.size = L ∧ ∀ k, k < L → cur[k]? = some (.int .i64 (f j k : Int))
  inj : ∀ i j, i < n → j < n → bl i = bl j → i = j
  bas : ∀ j, j < n → base ≤ bl j
  bg : base ≤ g
def set2 (f : Nat → Nat → Nat) (i k z a b : Nat) : Nat := if a = i ∧ b = k then z else f a b
section
variable {w w1 : World} {S : Nat → Prop} {base g m n L : Nat} {bl : Nat → Nat} {f f' : Nat → Nat → Nat}
theorem GrI.keep (h : GrI w base g m n L bl f) (hk : Kp S w w1) (hg : ¬ S g) (hb : ∀ j, j < n → ¬ S (bl j)) : GrI w1 base g m n L bl f := by
  refine ⟨?_, fun j hj => ?_, h.inj, h.bas, h.bg⟩
  · obtain ⟨cur, h1, h2⟩ := h.out
    exact ⟨cur, by rw [hk.block g (Array.getElem?_eq_some_iff.1 h1).1 hg]; exact h1, h2⟩
  · obtain ⟨cur, h1, h2⟩ := h.row j hj
    exact ⟨cur, by rw [hk.block (bl j) (Array.getElem?_eq_some_iff.1 h1).1 (hb j hj)]; exact h1, h2⟩
theorem GrI.no (h : GrI w base g m n L bl f) (hk : Kp No w w1) : GrI w1 base g m n L bl f := h.keep hk (fun f => f) fun _ _ f => f
theorem GrI.eq (h : GrI w base g m n L bl f) (he : ∀ j k, j < n → k < L → f j k = f' j k) : GrI w base g m n L bl f' :=
  ⟨h.out, fun j hj => by
    obtain ⟨cur, h1, h2, h3⟩ := h.row j hj
    exact ⟨cur, h1, h2, fun k hk => by rw [← he j k hj hk]; exact h3 k hk⟩, h.inj, h.bas, h.bg⟩
theorem GrI.outer (h : GrI w base g m n L bl f) {j : Nat} (hj : j < n) : w.cell? ⟨g, j, none⟩ = some (.slice (some ⟨bl j, 0, none⟩) L L) := by
  obtain ⟨cur, h1, _, h3⟩ := h.out
  rw [cell_of_row w g j cur _ _ h1, h3 j hj]
theorem GrI.cell (h : GrI w base g m n L bl f) {j k : Nat} (hj : j < n) (hk : k < L) : w.cell? ⟨bl j, k, none⟩ = some (.int .i64 (f j k : Int)) := by
  obtain ⟨cur, h1, _, h3⟩ := h.row j hj
  rw [cell_of_row w _ k cur _ _ h1, h3 k hk]
theorem GrI.frozen (h : GrI w base g m n L bl f) {j : Nat} (hj : j < n) (k : Nat) : w.frozen? ⟨bl j, k, none⟩ = false := by
  obtain ⟨cur, h1, _, _⟩ := h.row j hj
  exact frozen_of_row w _ k _ _ h1
theorem GrI.frozen0 (h : GrI w base g m n L bl f) (k : Nat) : w.frozen? ⟨g, k, none⟩ = false := by
  obtain ⟨cur, h1, _, _⟩ := h.out
  exact frozen_of_row w _ k _ _ h1
theorem GrI.cell0 (h : GrI w base g m n L bl f) {j : Nat} (hj : j < m) : ∃ v, w.cell? ⟨g, j, none⟩ = some v := by
  obtain ⟨cur, h1, h2, _⟩ := h.out
  rw [cell_of_row w g j cur _ _ h1]
  exact ⟨_, Array.getElem?_eq_getElem (by omega)⟩
theorem GrI.ne (h : GrI w base g m n L bl f) {j : Nat} (hj : j < n) : bl j ≠ g := by
  intro e
  obtain ⟨cur, h1, _⟩ := h.row j hj
  obtain ⟨cur2, h2, _⟩ := h.out
  rw [e, h2] at h1
  injection h1 with h1
  injection h1 with h3 h4
  exact absurd h4 (by decide)
theorem GrI.lt (h : GrI w base g m n L bl f) {j : Nat} (hj : j < n) : bl j < w.heap.size := by
  obtain ⟨cur, h1, _⟩ := h.row j hj
  exact (Array.getElem?_eq_some_iff.1 h1).1
theorem GrI.glt (h : GrI w base g m n L bl f) : g < w.heap.size := by
  obtain ⟨cur, h1, _⟩ := h.out
  exact (Array.getElem?_eq_some_iff.1 h1).1
theorem GrI.set (h : GrI w base g m n L bl f) {i k : Nat} (hi : i < n) (hk : k < L) (z : Nat) (u : Value) (hu : u = .int .i64 (z : Int)) : GrI (w.setCell ⟨bl i, k, none⟩ u) base g m n L bl (set2 f i k z) := by
  subst hu
  refine ⟨?_, fun j hj => ?_, h.inj, h.bas, h.bg⟩
  · obtain ⟨cur, h1, h2⟩ := h.out
    exact ⟨cur, by rw [heap_setCell_other _ _ _ _ (fun e => h.ne hi e.symm)]; exact h1, h2⟩
  · obtain ⟨cur, h1, h2, h3⟩ := h.row j hj
    by_cases e : j = i
    · subst e
      refine ⟨cur.setIfInBounds k (.int .i64 (z : Int)), heap_setCell_same w _ k cur _ _ h1, by rw [Array.size_setIfInBounds]; exact h2, fun q hq => ?_⟩
      rw [Array.getElem?_setIfInBounds]
      unfold set2
      by_cases e2 : k = q
      · subst e2
        rw [if_pos rfl, if_pos (by omega), if_pos ⟨rfl, rfl⟩]
      · rw [if_neg e2, if_neg (fun e' => e2 e'.2.symm)]
        exact h3 q hq
    · refine ⟨cur, by rw [heap_setCell_other _ _ _ _ (fun e' => e (h.inj j i hj hi e'))]; exact h1, h2, fun q hq => ?_⟩
      unfold set2
      rw [if_neg (fun e' => e e'.1)]
      exact h3 q hq
theorem GrI.kpset (h : GrI w base g m n L bl f) {i : Nat} (hi : i < n) (k : Nat) (u : Value) : Kp (fun q => base ≤ q) w (w.setCell ⟨bl i, k, none⟩ u) := Kp.setCell (p := ⟨bl i, k, none⟩) (S := fun q => base ≤ q) (h.bas i hi) u
/-- One row more, laid into its place. -/
theorem GrI.put (h : GrI w base g m n L bl fun _ _ => 0) (hn : n < m) (hb : base ≤ w.heap.size) :
    GrI ((w.alloc (.cells (zi L) 3)).setCell ⟨g, n, none⟩ (.slice (some ⟨w.heap.size, 0, none⟩) L L)) base g m (n + 1) L (upd bl n w.heap.size) fun _ _ => 0 := by
  have h2 := h.no (Kp.alloc No w (.cells (zi L) 3))
  have hg := h.glt
  have hlt : ∀ j, j < n → bl j < w.heap.size := fun j hj => h.lt hj
  refine ⟨?_, fun j hj => ?_, fun i j hi hj e => ?_, fun j hj => ?_, h.bg⟩
  · obtain ⟨cur, h1, h3, h4⟩ := h2.out
    refine ⟨_, heap_setCell_same _ g n cur _ _ h1, by rw [Array.size_setIfInBounds]; exact h3, fun j hj => ?_⟩
    rw [Array.getElem?_setIfInBounds]
    unfold upd
    by_cases e : n = j
    · subst e
      rw [if_pos rfl, if_pos (by omega), if_pos rfl]
    · rw [if_neg e, if_neg (fun e' => e e'.symm)]
      exact h4 j (by omega)
  · unfold upd
    by_cases e : j = n
    · subst e
      rw [if_pos rfl]
      refine ⟨zi L, ?_, zi_size L, fun k hk => zi_get hk⟩
      rw [heap_setCell_other _ _ _ _ (by show w.heap.size ≠ g; omega)]
      exact heap_alloc_new w _
    · rw [if_neg e]
      obtain ⟨cur, h1, h3, h4⟩ := h2.row j (by omega)
      exact ⟨cur, by rw [heap_setCell_other _ _ _ _ (h2.ne (by omega))]; exact h1, h3, h4⟩
  · unfold upd at e
    by_cases e1 : i = n <;> by_cases e2 : j = n
    · omega
    · rw [if_pos e1, if_neg e2] at e
      have := hlt j (by omega)
      omega
    · rw [if_neg e1, if_pos e2] at e
      have := hlt i (by omega)
      omega
    · rw [if_neg e1, if_neg e2] at e
      exact h.inj i j (by omega) (by omega) e
  · unfold upd
    by_cases e : j = n
    · rw [if_pos e]; exact hb
    · rw [if_neg e]; exact h.bas j (by omega)
theorem GrI.new (w : World) (m L : Nat) : GrI (w.alloc (.cells (zr m) 71)) w.heap.size w.heap.size m 0 L (fun _ => 0) fun _ _ => 0 :=
  ⟨⟨zr m, heap_alloc_new w _, by rw [zr_size]; exact Nat.le_refl _, fun j hj => absurd hj (Nat.not_lt_zero _)⟩, fun j hj => absurd hj (Nat.not_lt_zero _), fun i j hi => absurd hi (Nat.not_lt_zero _), fun j hj => absurd hj (Nat.not_lt_zero _), Nat.le_refl _⟩
end

/-- Rows of whole numbers of the call's own, the slices to them in a row that is appended to. -/
structure GrT (w : World) (base : Nat) (v : Value) (bl : Nat → Nat) (n L : Nat) : Prop where
  own : OwnT w base 71 1 v n ((List.range n).map fun j => .slice (some ⟨bl j, 0, none⟩) L L)
  row : ∀ j, j < n → w.heap[bl j]? = some (.cells (zi L) 3 (0, 0))
  inj : ∀ i j, i < n → j < n → bl i = bl j → i = j
  bas : ∀ j, j < n → base ≤ bl j
section
variable {w w1 w3 : World} {base n L : Nat} {v v1 : Value} {bl : Nat → Nat} {o : Obj}
theorem GrT.nil (w : World) (base : Nat) (bl : Nat → Nat) (L : Nat) : GrT w base (.slice none 0 0) bl 0 L :=
  ⟨OwnT.nil _ _ _ _, fun j hj => absurd hj (Nat.not_lt_zero _), fun i j hi => absurd hi (Nat.not_lt_zero _), fun j hj => absurd hj (Nat.not_lt_zero _)⟩
theorem GrT.step (h : GrT w base v bl n L) (hb : base ≤ w.heap.size)
    (ha : AppT ((w.alloc (.cells (zi L) 3)).alloc o) base 71 1 v n ((List.range n).map fun j => .slice (some ⟨bl j, 0, none⟩) L L) 1 [.slice (some ⟨w.heap.size, 0, none⟩) L L] v1 w3) :
    GrT w3 base v1 (upd bl n w.heap.size) (n + 1) L := by
  have hlt : ∀ j, j < n → bl j < w.heap.size := fun j hj => (Array.getElem?_eq_some_iff.1 (h.row j hj)).1
  have hne : ∀ j, j < n → v.ownBlock ≠ some (bl j) := fun j hj e => by
    obtain ⟨cur, h1⟩ := h.own.kind e
    rw [h.row j hj] at h1
    injection h1 with h1
    injection h1 with h3 h4
    exact absurd h4 (by decide)
  refine ⟨?_, fun j hj => ?_, fun i j hi hj e => ?_, fun j hj => ?_⟩
  · have e : ((List.range (n + 1)).map fun j => Value.slice (some ⟨upd bl n w.heap.size j, 0, none⟩) L L) = ((List.range n).map fun j => .slice (some ⟨bl j, 0, none⟩) L L) ++ [.slice (some ⟨w.heap.size, 0, none⟩) L L] := by
      rw [List.range_succ, List.map_append]
      congr 1
      · refine List.map_congr_left fun j hj => ?_
        have := List.mem_range.1 hj
        rw [upd_ne _ _ (by omega)]
      · simp [upd]
    rw [e]
    exact ha.own
  · by_cases e : j = n
    · subst e
      rw [upd_at, ha.kp.block w.heap.size (by simp; omega) ?_, Below.heap_alloc _ _ _ (by simp)]
      · exact heap_alloc_new w _
      · intro hv
        exact absurd (h.own.lt _ hv) (by omega)
    · rw [upd_ne _ _ e, ha.kp.block (bl j) (by have := hlt j (by omega); simp; omega) (hne j (by omega)), Below.heap_alloc _ _ _ (by have := hlt j (by omega); simp; omega), Below.heap_alloc _ _ _ (hlt j (by omega))]
      exact h.row j (by omega)
  · unfold upd at e
    by_cases e1 : i = n <;> by_cases e2 : j = n
    · omega
    · rw [if_pos e1, if_neg e2] at e
      have := hlt j (by omega)
      omega
    · rw [if_neg e1, if_pos e2] at e
      have := hlt i (by omega)
      omega
    · rw [if_neg e1, if_neg e2] at e
      exact h.inj i j (by omega) (by omega) e
  · unfold upd
    by_cases e : j = n
    · rw [if_pos e]; exact hb
    · rw [if_neg e]; exact h.bas j (by omega)
theorem GrT.gri {A : Option Addr} {m c : Nat} (h : GrT w base (.slice A m c) bl n L) (hn : 0 < n) : ∃ g, A = some ⟨g, 0, none⟩ ∧ m = n ∧ GrI w base g n n L bl fun _ _ => 0 := by
  have hm : m = n := by
    obtain ⟨A', c', e⟩ := h.own.form
    injection e
  rcases h.own.2 with ⟨_, h0⟩ | ⟨g, cap, cur, h1, hb, hg, hc, _, hs, ht⟩
  · omega
  · injection h1 with h1 h2 h3
    refine ⟨g, h1, hm, ⟨⟨cur, hg, by omega, fun j hj => ?_⟩, fun j hj => ⟨zi L, h.row j hj, zi_size L, fun k hk => zi_get hk⟩, h.inj, h.bas, hb⟩⟩
    have h2 : (cur.toList.take (n * 1))[j]? = ((List.range n).map fun j => Value.slice (some ⟨bl j, 0, none⟩) L L)[j]? := by rw [ht]
    rw [List.getElem?_take, if_pos (by omega), Array.getElem?_toList] at h2
    rw [h2]
    simp [hj]
end
/-- Rows of whole numbers of the call's own come back. -/
def GriPost (w : World) (n L : Nat) (f : Nat → Nat → Nat) (e : Ending) (w1 : World) : Prop :=
  ∃ g cp bl, e = .returned (.slice (some ⟨g, 0, none⟩) n cp) ∧ GrI w1 w.heap.size g n n L bl f ∧ Kp No w w1
end Go.Proofs.Ytcdmljlangbloaa
namespace Go.Proofs.Ytcdmljlangbloaa
open Go.RowKit
set_option linter.unusedVariables false
set_option maxRecDepth 20000

theorem fresh_c1 (w : World) (o : Obj) (u : Value) (t : TypeId) : ((w.alloc o).alloc (.cells #[u] t)).cell? ⟨w.heap.size + 1, 0, none⟩ = some u := by simp
/-- The part that comes next, at row i, column j of the half that begins at row T. -/
def nxP (a T i j : Nat) : Nat := (if T = 0 then 0 else a * (a + 1) / 2) + offP a i j
theorem nx_small : ∀ a, a < 8 → (∀ i, i < a + 1 → ∀ j, j < a + 1 → offP a i j ≤ 100) ∧ (∀ i, i < a → offP a i a = offP a (i + 1) (i + 1)) ∧ offP a a a = a * (a + 1) / 2 ∧ offP a 0 0 = 0 ∧ a * (a + 1) / 2 ≤ 100 := by decide +kernel
theorem nx_le {a T i j : Nat} (ha : a < 8) (hi : i ≤ a) (hj : j ≤ a) : nxP a T i j ≤ 200 := by
  obtain ⟨h1, _, _, _, h5⟩ := nx_small a ha
  have := h1 i (by omega) j (by omega)
  unfold nxP
  split <;> omega
theorem nx_step {a T i j : Nat} (h : i ≤ j) : nxP a T i j + 1 = nxP a T i (j + 1) := by
  unfold nxP offP
  omega
theorem nx_row {a T i : Nat} (ha : a < 8) (hi : i < a) : nxP a T i a = nxP a T (i + 1) (i + 1) := by
  obtain ⟨_, h2, _⟩ := nx_small a ha
  unfold nxP
  rw [h2 i hi]
theorem nx_half {a : Nat} (ha : a < 8) (h0 : 0 < a) : nxP a 0 a a = nxP a a 0 0 := by
  obtain ⟨_, _, h3, h4, _⟩ := nx_small a ha
  unfold nxP
  rw [if_pos rfl, if_neg (by omega), h3, h4]
  omega
theorem nx_zero {a : Nat} (ha : a < 8) : nxP a 0 0 0 = 0 := by
  obtain ⟨_, _, _, h4, _⟩ := nx_small a ha
  unfold nxP
  rw [if_pos rfl, h4]
theorem plc_nx1 {a T i j : Nat} (hT : T = 0 ∨ T = a) (h0 : 0 < a) (hij : i ≤ j) (hj : j < a) : plcF a (T + i) j = nxP a T i j := by
  unfold plcF nxP
  rcases hT with rfl | rfl
  · rw [if_pos (by omega), if_pos rfl, Nat.zero_add, Nat.min_eq_left hij, Nat.max_eq_right hij, Nat.zero_add]
  · rw [if_neg (by omega), if_neg (by omega), show T + i - T = i by omega, Nat.min_eq_left hij, Nat.max_eq_right hij]
theorem plc_nx2 {a T i j : Nat} (hT : T = 0 ∨ T = a) (h0 : 0 < a) (hij : i ≤ j) (hj : j < a) : plcF a (T + j) i = nxP a T i j := by
  unfold plcF nxP
  rcases hT with rfl | rfl
  · rw [if_pos (by omega), if_pos rfl, Nat.zero_add, Nat.min_eq_right hij, Nat.max_eq_left hij, Nat.zero_add]
  · rw [if_neg (by omega), if_neg (by omega), show T + j - T = j by omega, Nat.min_eq_right hij, Nat.max_eq_left hij]
/-- What was laid ahead of row i, column j of the half that begins at row T. -/
def Dn (a T i j r c : Nat) : Prop := r < T ∨ (T ≤ r ∧ r < T + a ∧ (r - T < i ∨ c < i ∨ (r - T = i ∧ c < j) ∨ (c = i ∧ r - T < j)))
/-- All that was laid is as it must be. -/
def Laid (a d T i j : Nat) (f : Nat → Nat → Nat) : Prop := ∀ r c, r < d → c < a → Dn a T i j r c → f r c = plcF a r c
theorem Laid.start (a d : Nat) (f : Nat → Nat → Nat) : Laid a d 0 0 0 f := fun r c _ _ h => by unfold Dn at h; omega
theorem Laid.row {a d T i : Nat} {f : Nat → Nat → Nat} (h : Laid a d T i a f) : Laid a d T (i + 1) (i + 1) f := fun r c hr hc hd => h r c hr hc (by unfold Dn at hd ⊢; omega)
theorem Laid.half {a d T : Nat} {f : Nat → Nat → Nat} (h : Laid a d T a a f) : Laid a d (T + a) 0 0 f := fun r c hr hc hd => h r c hr hc (by unfold Dn at hd ⊢; omega)
theorem Laid.done {a d : Nat} {f : Nat → Nat → Nat} (h : Laid a d d 0 0 f) : ∀ r c, r < d → c < a → f r c = plcF a r c := fun r c hr hc => h r c hr hc (by unfold Dn; omega)
theorem Laid.next {a d T i j : Nat} {f : Nat → Nat → Nat} (h : Laid a d T i j f) (hT : T = 0 ∨ T = a) (hij : i ≤ j) (hj : j < a) : Laid a d T i (j + 1) (set2 (set2 f (T + i) j (nxP a T i j)) (T + j) i (nxP a T i j)) := by
  intro r c hr hc hd
  unfold set2
  by_cases e1 : r = T + j ∧ c = i
  · obtain ⟨rfl, rfl⟩ := e1
    rw [if_pos ⟨rfl, rfl⟩, plc_nx2 hT (by omega) hij hj]
  · rw [if_neg e1]
    by_cases e2 : r = T + i ∧ c = j
    · obtain ⟨rfl, rfl⟩ := e2
      rw [if_pos ⟨rfl, rfl⟩, plc_nx1 hT (by omega) hij hj]
    · rw [if_neg e2]
      exact h r c hr hc (by unfold Dn at hd ⊢; omega)
theorem set2_turn (f : Nat → Nat → Nat) (i k z a b : Nat) : set2 f i k z a b = set2 (fun r c => f c r) k i z b a := by
  unfold set2
  by_cases h : a = i ∧ b = k
  · rw [if_pos h, if_pos ⟨h.2, h.1⟩]
  · rw [if_neg h, if_neg fun e => h ⟨e.2, e.1⟩]
theorem Laid.next' {a d T i j : Nat} {f : Nat → Nat → Nat} (h : Laid a d T i j fun r c => f c r) (hT : T = 0 ∨ T = a) (hij : i ≤ j) (hj : j < a) : Laid a d T i (j + 1) fun r c => set2 (set2 f j (T + i) (nxP a T i j)) i (T + j) (nxP a T i j) c r := by
  intro r c hr hc hd
  have := h.next hT hij hj r c hr hc hd
  rw [← this]
  show set2 (set2 f j (T + i) (nxP a T i j)) i (T + j) (nxP a T i j) c r = _
  rw [set2_turn, show (fun r c => set2 f j (T + i) (nxP a T i j) c r) = set2 (fun r c => f c r) (T + i) j (nxP a T i j) from funext fun r => funext fun c => set2_turn _ _ _ _ _ _]

/-- The rows are laid so far. -/
structure PlI (w : World) (g a d : Nat) (bl : Nat → Nat) (T i j : Nat) (wr : World) : Prop where
  ex : ∃ f, GrI wr w.heap.size g d d a bl f ∧ Laid a d T i j f
  kp : Kp No w wr
theorem PlI.next {w wr : World} {g a d T i j : Nat} {bl : Nat → Nat} (h : PlI w g a d bl T i j wr) (hT : T = 0 ∨ T = a) (hd : T + a ≤ d) (hij : i ≤ j) (hj : j < a) (u : Value) (hu : u = .int .i64 (nxP a T i j : Int)) :
    PlI w g a d bl T i (j + 1) ((wr.setCell ⟨bl (T + i), j, none⟩ u).setCell ⟨bl (T + j), i, none⟩ u) := by
  obtain ⟨f, h1, h2⟩ := h.ex
  have h3 := h1.set (i := T + i) (k := j) (by omega) hj _ u hu
  refine ⟨⟨_, h3.set (i := T + j) (k := i) (by omega) (by omega) _ u hu, h2.next hT hij hj⟩, ?_⟩
  exact (h.kp.own (h1.kpset (by omega) _ _)).own (h3.kpset (by omega) _ _)

set_option maxHeartbeats 4000000 in
theorem places_any (w : World) {n k a d q : Nat} (hD : Dim n k a d q) : Calls Try.prog 47 #[.int .i64 (k : Int)] w (GriPost w d a (plcF a)) := by
  have hk := hD.k_
  have hd := hD.d_
  have ha1 := hD.a1
  have ha7 := hD.a7
  have hka : (k : Int) - 1 = (a : Int) := by omega
  have h2a : 2 * (a : Int) = (d : Int) := by omega
  have hd14 : d ≤ 14 := by omega
  have hk8 : k ≤ 8 := by omega
  have hmk := fun w => make_ints w a (a : Int) rfl (by omega)
  have H2 := hide h2a
  have HDD := hide hd
  clear hk hd hD h2a
  go_enter Try.func47, Try.ntmps47
  go_wp2_with fail
  clear hka
  go_loopw [4, 5] (fun v i wr => ∃ (j : Nat) (A : Option Addr) (m cp : Nat) (bl : Nat → Nat), j ≤ d ∧ i = .int .i64 (j : Int) ∧ v = .slice A m cp ∧ GrT wr w.heap.size (.slice A m cp) bl j a ∧ Kp No w wr) (fun _ i _ => d - (intOf i).toNat)
  case atStart => exact ⟨0, none, 0, 0, fun _ => 0, Nat.zero_le _, rfl, rfl, GrT.nil _ _ _ _, Kp.refl _ _⟩
  case round =>
    obtain ⟨j, A, m, cp, bl, hj, rfl, rfl, hG, hkw⟩ := hrel
    have h2a := H2.out
    by_cases hlt : j < d
    · have hsz := hkw.size
      have ho2 := (hG.own.no (Kp.alloc No wr (.cells (zi a) 3))).no (Kp.alloc No _ (.cells #[.slice (some ⟨wr.heap.size, 0, none⟩) a a] 71))
      go_wp2_with (first
        | (at_builtin
           refine wpList_appT ty_ints rfl (.tmp 18) (.tmp 21) _ rfl Try.underlying69 rfl ho2 _ _ rfl (nws_one (fresh_c1 _ _ _ _) rfl) (by omega) ?hs ?_
           case hs => simp; omega
           intro A3 n3 c3 w3 hn3 ha
           have HN3 := hide hn3
           clear hn3))
      go_round
      case rel => exact ⟨j + 1, A3, n3, c3, _, by omega, by go_num, rfl, hG.step hsz ha, ha.keeps ho2 ((hkw.trans' (Kp.alloc No _ _)).trans' (Kp.alloc No _ _))⟩
      case measure => simp [intOf]; omega
    · obtain rfl : j = d := by omega
      obtain ⟨g, rfl, hm, hGI⟩ := hG.gri (by omega)
      subst hm
      go_wp2_with fail
      clear h2a
      go_loopw [6, 7] (fun nx h wr => ∃ (T t z : Nat), t ≤ 2 ∧ Hid (T = t * a) ∧ Hid (t < 2 → z = nxP a T 0 0) ∧ h = .int .i64 (t : Int) ∧ nx = .int .i64 (z : Int) ∧ PlI w g a m bl T 0 0 wr) (fun _ h _ => 2 - (intOf h).toNat)
      case atStart => exact ⟨0, 0, 0, by omega, (by simp : 0 = 0 * a), (fun _ => (nx_zero (by omega)).symm : 0 < 2 → 0 = nxP a 0 0 0), rfl, rfl, ⟨⟨_, hGI, Laid.start _ _ _⟩, hkw⟩⟩
      case round =>
        obtain ⟨T, t, z, ht, hT, hz, rfl, rfl, hP⟩ := hrel
        by_cases hlt2 : t < 2
        · obtain rfl := hz.out hlt2
          clear hz
          have hT2 : Hid (T = 0 ∨ T = a) := by
            show T = 0 ∨ T = a
            have := hT.out
            rcases Nat.lt_or_ge t 1 with g1 | g1
            · obtain rfl : t = 0 := by omega
              left; omega
            · obtain rfl : t = 1 := by omega
              right; omega
          have hTa : T + a ≤ m := by have := hT2.out; have := HDD.out; omega
          have hta : (t : Int) * (a : Int) = (T : Int) := by have := hT.out; rw [this, Int.natCast_mul]
          have HTA := hide hta
          clear hta
          go_wp2_with fail
          go_loopw [6, 8] (fun nx h wr => ∃ i : Nat, i ≤ a ∧ h = .int .i64 (i : Int) ∧ nx = .int .i64 (nxP a T i i : Int) ∧ PlI w g a m bl T i i wr) (fun _ h _ => a - (intOf h).toNat)
          case atStart => exact ⟨0, Nat.zero_le _, rfl, rfl, hP⟩
          case round =>
            obtain ⟨i, hi, rfl, rfl, hPi⟩ := hrel
            by_cases hlti : i < a
            · go_wp2_with fail
              go_loopw [6, 9] (fun nx h wr => ∃ jj : Nat, i ≤ jj ∧ jj ≤ a ∧ h = .int .i64 (jj : Int) ∧ nx = .int .i64 (nxP a T i jj : Int) ∧ PlI w g a m bl T i jj wr) (fun _ h _ => a - (intOf h).toNat)
              case atStart => exact ⟨i, Nat.le_refl _, by omega, rfl, rfl, hPi⟩
              case round =>
                obtain ⟨jj, hij, hja, rfl, rfl, hPj⟩ := hrel
                by_cases hltj : jj < a
                · obtain ⟨f, hF, _⟩ := hPj.ex
                  have c1 := hF.outer (j := T + i) (by omega)
                  have c2 := hF.cell (j := T + i) (k := jj) (by omega) hltj
                  have f2 := hF.frozen (j := T + i) (by omega) jj
                  have hF2 := hF.set (i := T + i) (k := jj) (by omega) hltj (nxP a T i jj) _ rfl
                  have c3 := hF2.outer (j := T + jj) (by omega)
                  have c4 := hF2.cell (j := T + jj) (k := i) (by omega) (by omega)
                  have f4 := hF2.frozen (j := T + jj) (by omega) i
                  have hnx := nx_le (T := T) (i := i) (j := jj) (show a < 8 by omega) (by omega) (by omega)
                  have hst := hide (nx_step (a := a) (T := T) hij)
                  have HN := hide (hPj.next hT2.out hTa hij hltj _ rfl)
                  have hta := HTA.out
                  generalize nxP a T i jj = z at *
                  go_wp2_with fail
                  go_round
                  case rel => exact ⟨jj + 1, by omega, by omega, by go_num, by rw [← hst.out]; go_num, HN.out⟩
                  case measure => simp [intOf]; omega
                · obtain rfl : jj = a := by omega
                  have hr := hide (nx_row (T := T) (show jj < 8 by omega) hlti)
                  have HP : Hid (PlI w g jj m bl T (i + 1) (i + 1) wr) := ⟨⟨_, hPj.ex.choose_spec.1, hPj.ex.choose_spec.2.row⟩, hPj.kp⟩
                  go_wp2_with fail
                  go_round
                  case rel => exact ⟨i + 1, by omega, by go_num, by rw [hr.out], HP.out⟩
                  case measure => simp [intOf]; omega
            · obtain rfl : i = a := by omega
              have HP : Hid (PlI w g i m bl (T + i) 0 0 wr) := ⟨⟨_, hPi.ex.choose_spec.1, hPi.ex.choose_spec.2.half⟩, hPi.kp⟩
              have hnx : Hid (t + 1 < 2 → nxP i T i i = nxP i (T + i) 0 0) := by
                show t + 1 < 2 → nxP i T i i = nxP i (T + i) 0 0
                intro g1
                obtain rfl : t = 0 := by omega
                have := hT.out
                obtain rfl : T = 0 := by omega
                rw [nx_half (by omega) (by omega), Nat.zero_add]
              go_wp2_with fail
              go_round
              case rel => exact ⟨T + i, t + 1, nxP i T i i, by omega, (by have := hT.out; rw [Nat.add_mul, Nat.one_mul]; omega : T + i = (t + 1) * i), hnx, by go_num, rfl, HP.out⟩
              case measure => simp [intOf]; omega
        · obtain rfl : t = 2 := by omega
          have hTd : T = m := by have := hT.out; have := HDD.out; omega
          have HF : Hid (∃ f, GrI wr w.heap.size g m m a bl f ∧ ∀ r c, r < m → c < a → f r c = plcF a r c) := by
            obtain ⟨f, h1, h2⟩ := hP.ex
            rw [hTd] at h2
            exact ⟨f, h1, h2.done⟩
          have hkp := hP.kp
          clear hP hTd
          go_wp2_with fail
          go_ret
          obtain ⟨f, h1, h2⟩ := HF.out
          exact ⟨g, cp, bl, rfl, h1.eq h2, hkp⟩
end Go.Proofs.Ytcdmljlangbloaa
namespace Go.Proofs.Ytcdmljlangbloaa
open Go.RowKit
set_option linter.unusedVariables false
set_option maxRecDepth 20000

/-- The columns are laid so far. -/
structure CoI (w : World) (g a d : Nat) (bl : Nat → Nat) (T i j : Nat) (wr : World) : Prop where
  ex : ∃ f, GrI wr w.heap.size g a a d bl f ∧ Laid a d T i j fun r c => f c r
  kp : Kp No w wr
theorem CoI.next {w wr : World} {g a d T i j : Nat} {bl : Nat → Nat} (h : CoI w g a d bl T i j wr) (hT : T = 0 ∨ T = a) (hd : T + a ≤ d) (hij : i ≤ j) (hj : j < a) (u : Value) (hu : u = .int .i64 (nxP a T i j : Int)) :
    CoI w g a d bl T i (j + 1) ((wr.setCell ⟨bl j, T + i, none⟩ u).setCell ⟨bl i, T + j, none⟩ u) := by
  obtain ⟨f, h1, h2⟩ := h.ex
  have h3 := h1.set (i := j) (k := T + i) hj (by omega) _ u hu
  refine ⟨⟨_, h3.set (i := i) (k := T + j) (by omega) (by omega) _ u hu, h2.next' hT hij hj⟩, ?_⟩
  exact (h.kp.own (h1.kpset hj _ _)).own (h3.kpset (by omega) _ _)

set_option maxHeartbeats 4000000 in
theorem columns_any {w : World} {c n k a d q : Nat} {x : Nat → UInt8} (h : CodeAt w c n k x) (hD : Dim n k a d q) : Calls Try.prog 35 #[cptr c] w (GriPost w a d fun j r => plcF a r j) := by
  have HDD := hide hD.d_
  have ha1 := hD.a1
  have ha7 := hD.a7
  have hd14 : d ≤ 14 := by have := HDD.out; omega
  have hmk := fun w => make_ints w d (d : Int) rfl (by omega)
  have hmo := make_irows w a (a : Int) rfl (by omega)
  have hnew := GrI.new w a d
  have hk0 : Kp No w (w.alloc (.cells (zr a) 71)) := Kp.alloc No _ _
  obtain ⟨g, hg⟩ : ∃ g, g = w.heap.size := ⟨_, rfl⟩
  go_enter Try.func35, Try.ntmps35
  go_wp2_with fail
  refine (aa_any h hD).mono ?_
  rintro e w' ⟨rfl, rfl⟩
  go_wp2_with fail
  rw [← hg] at hnew ⊢
  have hnew : GrI (w.alloc (.cells (zr a) 71)) w.heap.size g a 0 d (fun _ => 0) (fun _ _ => 0) := by rw [← hg]; exact hnew
  have HG := hide hg
  clear hg hmo
  go_loopw [16] (fun i wr => ∃ (j : Nat) (bl : Nat → Nat), j ≤ a ∧ i = .int .i64 (j : Int) ∧ GrI wr w.heap.size g a j d bl (fun _ _ => 0) ∧ Kp No w wr) (fun i _ => a - (intOf i).toNat)
  case atStart => exact ⟨0, _, Nat.zero_le _, rfl, hnew, hk0⟩
  case round =>
    clear hnew hk0
    obtain ⟨j, bl, hj, rfl, hI, hkw⟩ := hrel
    by_cases hlt : j < a
    · obtain ⟨v0, c0⟩ := (hI.no (Kp.alloc No wr (.cells (zi d) 3))).cell0 hlt
      have f0 := (hI.no (Kp.alloc No wr (.cells (zi d) 3))).frozen0 j
      have HP := hide (hI.put hlt hkw.size)
      have HK : Hid (Kp No w ((wr.alloc (.cells (zi d) 3)).setCell ⟨g, j, none⟩ (.slice (some ⟨wr.heap.size, 0, none⟩) d d))) := (hkw.trans' (Kp.alloc No _ _)).own (Kp.setCell (p := ⟨g, j, none⟩) (S := fun q => w.heap.size ≤ q) hI.bg _)
      go_wp2_with fail
      refine (dd_any (h.no hkw) hD).mono ?_
      rintro e w' ⟨rfl, rfl⟩
      go_wp2_with fail
      go_round
      case rel => exact ⟨j + 1, _, by omega, by go_num, HP.out, HK.out⟩
      case measure => simp [intOf]; omega
    · obtain rfl : j = a := by omega
      clear hmk
      go_wp2_with fail
      go_loopw [6, 7] (fun nx h wr => ∃ (T z : Nat), T ≤ d ∧ Hid (T = 0 ∨ T = j ∨ T = d) ∧ Hid (T < d → z = nxP j T 0 0) ∧ h = .int .i64 (T : Int) ∧ nx = .int .i64 (z : Int) ∧ CoI w g j d bl T 0 0 wr) (fun _ h _ => d - (intOf h).toNat)
      case atStart => exact ⟨0, 0, by omega, (.inl rfl : 0 = 0 ∨ 0 = j ∨ 0 = d), (fun _ => (nx_zero (by omega)).symm : 0 < d → 0 = nxP j 0 0 0), rfl, rfl, ⟨⟨_, hI, Laid.start _ _ _⟩, hkw⟩⟩
      case round =>
        obtain ⟨T, z, hTd, hT, hz, rfl, rfl, hP⟩ := hrel
        have hcd := dd_any (h.no hP.kp) hD
        by_cases hlt2 : T < d
        · obtain rfl := hz.out hlt2
          clear hz
          have hT2 : Hid (T = 0 ∨ T = j) := by
            show T = 0 ∨ T = j
            have := hT.out
            omega
          have hTa : T + j ≤ d := by have := hT2.out; have := HDD.out; omega
          go_wp2_with fail
          refine hcd.mono ?_
          rintro e w' ⟨rfl, rfl⟩
          go_wp2_with fail
          go_loopw [6, 34] (fun nx h wr => ∃ i : Nat, i ≤ j ∧ h = .int .i64 (i : Int) ∧ nx = .int .i64 (nxP j T i i : Int) ∧ CoI w g j d bl T i i wr) (fun _ h _ => j - (intOf h).toNat)
          case atStart => exact ⟨0, Nat.zero_le _, rfl, rfl, hP⟩
          case round =>
            obtain ⟨i, hi, rfl, rfl, hPi⟩ := hrel
            by_cases hlti : i < j
            · go_wp2_with fail
              go_loopw [6, 9] (fun nx h wr => ∃ jj : Nat, i ≤ jj ∧ jj ≤ j ∧ h = .int .i64 (jj : Int) ∧ nx = .int .i64 (nxP j T i jj : Int) ∧ CoI w g j d bl T i jj wr) (fun _ h _ => j - (intOf h).toNat)
              case atStart => exact ⟨i, Nat.le_refl _, by omega, rfl, rfl, hPi⟩
              case round =>
                obtain ⟨jj, hij, hja, rfl, rfl, hPj⟩ := hrel
                by_cases hltj : jj < j
                · obtain ⟨f, hF, _⟩ := hPj.ex
                  have c1 := hF.outer hltj
                  have c2 := hF.cell (j := jj) (k := T + i) hltj (by omega)
                  have f2 := hF.frozen hltj (T + i)
                  have hF2 := hF.set (i := jj) (k := T + i) hltj (by omega) (nxP j T i jj) _ rfl
                  have c3 := hF2.outer hlti
                  have c4 := hF2.cell (j := i) (k := T + jj) hlti (by omega)
                  have f4 := hF2.frozen hlti (T + jj)
                  have hnx := nx_le (T := T) (i := i) (j := jj) (show j < 8 by omega) (by omega) (by omega)
                  have hst := hide (nx_step (a := j) (T := T) hij)
                  have HN := hide (hPj.next hT2.out hTa hij hltj _ rfl)
                  generalize nxP j T i jj = z at *
                  go_wp2_with fail
                  go_round
                  case rel => exact ⟨jj + 1, by omega, by omega, by go_num, by rw [← hst.out]; go_num, HN.out⟩
                  case measure => simp [intOf]; omega
                · obtain rfl : jj = j := by omega
                  have hr := hide (nx_row (T := T) (show jj < 8 by omega) hlti)
                  have HP : Hid (CoI w g jj d bl T (i + 1) (i + 1) wr) := ⟨⟨_, hPj.ex.choose_spec.1, hPj.ex.choose_spec.2.row⟩, hPj.kp⟩
                  go_wp2_with fail
                  go_round
                  case rel => exact ⟨i + 1, by omega, by go_num, by rw [hr.out], HP.out⟩
                  case measure => simp [intOf]; omega
            · obtain rfl : i = j := by omega
              have HP : Hid (CoI w g i d bl (T + i) 0 0 wr) := ⟨⟨_, hPi.ex.choose_spec.1, hPi.ex.choose_spec.2.half⟩, hPi.kp⟩
              have hnx : Hid (T + i < d → nxP i T i i = nxP i (T + i) 0 0) := by
                show T + i < d → nxP i T i i = nxP i (T + i) 0 0
                intro g1
                have := hT2.out
                have := HDD.out
                obtain rfl : T = 0 := by omega
                rw [nx_half (by omega) (by omega), Nat.zero_add]
              have hTn : Hid (T + i = 0 ∨ T + i = i ∨ T + i = d) := by
                show T + i = 0 ∨ T + i = i ∨ T + i = d
                have := hT2.out
                have := HDD.out
                omega
              go_wp2_with fail
              go_round
              case rel => exact ⟨T + i, nxP i T i i, by omega, hTn, hnx, by go_num, rfl, HP.out⟩
              case measure => simp [intOf]; omega
        · obtain rfl : T = d := by omega
          have HF : Hid (∃ f, GrI wr w.heap.size g j j T bl f ∧ ∀ r c, r < T → c < j → f c r = plcF j r c) := by
            obtain ⟨f, h1, h2⟩ := hP.ex
            exact ⟨f, h1, h2.done⟩
          have hkp := hP.kp
          clear hP
          go_wp2_with fail
          refine hcd.mono ?_
          rintro e w' ⟨rfl, rfl⟩
          go_wp2_with fail
          go_ret
          obtain ⟨f, h1, h2⟩ := HF.out
          exact ⟨g, _, bl, rfl, h1.eq fun c r hc hr => h2 r c hr hc, hkp⟩
theorem upS_to {t s : Nat → UInt8} {k : Nat} {x : UInt8} (h : x = t k) (j : Nat) : upd (upS t s k) k x j = upS t s (k + 1) j := by rw [h]; exact upS_step t s k j
set_option maxHeartbeats 1000000 in
theorem elements_any {w : World} {A : Option Addr} {m c B d L at_ : Nat} {bs : List UInt8} {p : Nat → Nat} (hb : Bts w (.slice A m c) bs) (hc : ∀ i, i < d → w.cell? ⟨B, i, none⟩ = some (.int .i64 (p i : Int))) (hd : d ≤ 1000) (hm : m ≤ 1000000) (hL : L ≤ 1000000) (hp : ∀ i, i < d → p i * L + at_ < m) :
    Calls Try.prog 36 #[.slice A m c, .slice (some ⟨B, 0, none⟩) d d, .int .i64 (L : Int), .int .i64 (at_ : Int)] w (OwnPost w (rowL d fun i => lg bs (p i * L + at_))) := by
  have hmk := fun w => make_bytes w d (d : Int) rfl (by omega)
  have hst := row_new w d hd
  have hk0 : Kp No w (w.alloc (.cells (zc d) 5)) := Kp.alloc No _ _
  have HC := hide hc
  have HP := hide hp
  clear hc hp
  obtain ⟨g, hg⟩ : ∃ g, g = w.heap.size := ⟨_, rfl⟩
  go_enter Try.func36, Try.ntmps36
  go_wp2_with fail
  rw [← hg] at hst ⊢
  have HG := hide hg
  clear hg hmk
  go_loopw [17] (fun i wr => ∃ k : Nat, k ≤ d ∧ i = .int .i64 (k : Int) ∧ RowAt wr g g d d (upS (fun i => lg bs (p i * L + at_)) (fun _ => 0) k) ∧ Kp No w wr) (fun i _ => d - (intOf i).toNat)
  case atStart => exact ⟨0, Nat.zero_le _, rfl, hst.eq fun k _ => by simp [upS], hk0⟩
  case round =>
    obtain ⟨k, hk, rfl, hR, hkw⟩ := hrel
    by_cases hlt : k < d
    · have c1 := hkw.cell (HC.out k hlt) fun f => f
      obtain ⟨y, hy⟩ : ∃ y, y = p k * L := ⟨_, rfl⟩
      have hyl : y + at_ < m := by rw [hy]; exact HP.out k hlt
      have hyi : (p k : Int) * (L : Int) = (y : Int) := by rw [hy, Int.natCast_mul]
      obtain ⟨B1, o1, u, rfl, hu, c2⟩ := (hb.no hkw).at_ hyl
      have hf := hR.frozen k
      have hz := hR.cell hlt
      have HR := hide ((hR.set hlt u _ rfl).eq fun j _ => upS_to (t := fun i => lg bs (p i * L + at_)) (by show u = lg bs (p k * L + at_); rw [← hy]; exact (lg_of hu).symm) j)
      clear hu
      have HY := hide hy
      clear hy
      go_wp2_with fail
      go_round
      case rel => exact ⟨k + 1, by omega, by go_num, HR.out, hkw.trans ((RowAt.kpset _ _ _ _).mono fun q hq => .inr (by rw [hq, HG.out]; exact Nat.le_refl _))⟩
      case measure => simp [intOf]; omega
    · obtain rfl : k = d := by omega
      go_wp2_with fail
      go_ret
      refine ⟨_, _, _, rfl, ?_, hkw⟩
      rw [← HG.out]
      exact hR.eq fun j hj => by unfold upS; rw [if_pos hj]
end Go.Proofs.Ytcdmljlangbloaa
namespace Go.Proofs.Ytcdmljlangbloaa
open Go.RowKit
set_option linter.unusedVariables false
set_option maxRecDepth 20000

/-- There is such a code. -/
def Rgt (n k : Int) : Prop := 2 ≤ k ∧ k ≤ 8 ∧ 2 * k ≤ n + 1 ∧ n ≤ 24
theorem rright_yes (n k : Int) (w : World) (h : Rgt n k) : Calls Try.prog 7 #[.int .i64 n, .int .i64 k] w fun e w' => e = .returned (.bool true) ∧ w = w' := by
  obtain ⟨h1, h2, h3, h4⟩ := h
  have h5 : 2 * k - 1 ≤ n := by omega
  clear h3
  go_enter Try.func7, Try.ntmps7
  go_wp2_with fail
  go_ret
  exact ⟨rfl, rfl⟩
theorem rright_no (n k : Int) (w : World) (h : ¬ Rgt n k) : Calls Try.prog 7 #[.int .i64 n, .int .i64 k] w fun e w' => e = .returned (.bool false) ∧ w = w' := by
  unfold Rgt at h
  by_cases h3 : k < 2
  · clear h
    go_enter Try.func7, Try.ntmps7
    go_wp2_with fail
    go_ret
    exact ⟨rfl, rfl⟩
  have h3 : 2 ≤ k := by omega
  by_cases h4 : 8 < k
  · clear h
    go_enter Try.func7, Try.ntmps7
    go_wp2_with fail
    go_ret
    exact ⟨rfl, rfl⟩
  have h4 : k ≤ 8 := by omega
  by_cases h5 : n < 2 * k - 1
  · clear h
    go_enter Try.func7, Try.ntmps7
    go_wp2_with fail
    go_ret
    exact ⟨rfl, rfl⟩
  have h5 : 2 * k - 1 ≤ n := by omega
  have h6 : 24 < n := by omega
  clear h
  go_enter Try.func7, Try.ntmps7
  go_wp2_with fail
  go_ret
  exact ⟨ret_b (decide_eq_false (by omega)), rfl⟩
set_option maxHeartbeats 1000000 in
theorem rrows_any (w : World) {n k a d q : Nat} {x : Nat → UInt8} (hD : Dim n k a d q) (hP : Pts n a x) : Calls Try.prog 38 #[.int .i64 (n : Int), .int .i64 (k : Int)] w (RowsPost w n (matL n d (vF x))) := by
  have hk := hD.k_
  have hd := hD.d_
  have ha1 := hD.a1
  have ha7 := hD.a7
  have hn1 := hD.n1
  have hn2 := hD.n2
  have h8 : k ≤ 8 := by omega
  have h1 : 1 ≤ k := by omega
  have hz : (a : Nat) = ((k : Int) - 1).toNat := by omega
  have h2k : 2 * (k : Int) - 2 = (d : Int) := by omega
  have hd1000 : d ≤ 1000 := by omega
  obtain ⟨N, hN, hN2, hN3⟩ := hP.eq
  have hp := rpoints_yes n ((k : Int) - 1) a N w (by omega) (by omega) (by omega) (by omega) hz hN hN2
  rw [hN3] at hp
  have HP := hide hp
  have H2 := hide h2k
  clear hk hd hN hN2 hN3 hz hp hD hP h2k
  go_enter Try.func38, Try.ntmps38
  go_wp2_with fail
  refine HP.out.mono ?_
  rintro e w1 ⟨A0, m, c0, rfl, ho, hkp⟩
  have hm : m = n := by rw [ho.len, rowL_len]
  subst hm
  have hbt := ho.bts
  clear ho
  go_wp2_with fail
  go_loopw [6, 7] (fun v i wr => ∃ (j : Nat) (A : Option Addr) (r cp : Nat) (vs : List Value), j ≤ m ∧ i = .int .i64 (j : Int) ∧ v = .slice A r cp ∧ RInv w1 (fun i => rowL d (vF x i)) j (.slice A r cp) vs wr) (fun _ i _ => m - (intOf i).toNat)
  case atStart => exact ⟨0, none, 0, 0, [], Nat.zero_le _, rfl, rfl, OwnV.nil _ _, rfl, (fun j u hj => by simp at hj), Kp.refl _ _⟩
  case round =>
    obtain ⟨j, A, r, cp, vs, hj, rfl, rfl, hI⟩ := hrel
    by_cases hlt : j < m
    · obtain ⟨B, off, rfl, c1⟩ := (hbt.no hI.kp).cell hlt
      have h2k := H2.out
      go_wp2_with fail
      clear h2k
      refine (rrow_any (x j) d _ hd1000).mono ?_
      rintro e w2 ⟨A1, n1, cc1, rfl, ho1, hk1⟩
      have hkw := hI.kp.size
      have hk1s := hk1.size
      have hlen : vs.length ≤ 1000000 := by rw [hI.len]; omega
      have ho2 : OwnV (w2.alloc (.cells #[.slice A1 n1 cc1] 38)) w1.heap.size (.slice A r cp) vs := (hI.own.no hk1).no (Kp.alloc No _ _)
      go_wp2_with (first
        | (at_builtin
           refine wpList_appV rfl (.tmp 18) (.tmp 27) _ rfl Try.underlying39 rfl ho2 _ rfl (fresh_cell _ _ _) rfl rfl hlen ?hs ?_
           case hs => simp; omega
           intro A3 n3 c3 w3 ha))
      go_round
      case rel => exact ⟨j + 1, A3, n3, c3, _, by omega, by go_num, rfl, hI.step hk1 ho1 hkw ha⟩
      case measure => simp [intOf]; omega
    · have hjm : j = m := by omega
      subst hjm
      have hn : r = j := by rw [hI.own.len, hI.len]
      subst hn
      go_wp2_with fail
      go_ret
      exact ⟨A, cp, rfl, hI.rws (matL_len _ _ _) fun i hi => matL_get _ hi, hkp.trans' hI.kp⟩
end Go.Proofs.Ytcdmljlangbloaa
namespace Go.Proofs.Ytcdmljlangbloaa
open Go.RowKit
set_option linter.unusedVariables false
set_option maxRecDepth 20000

/-- A byte of the shard of the slot whose point is y. -/
def shE (a d L : Nat) (bs : List UInt8) (y : UInt8) (t : Nat) : UInt8 := ud (upw y) (fun r => lg bs (plcF a r (t / L) * L + t % L)) d
theorem shE_at {a d L : Nat} (bs : List UInt8) (y : UInt8) {j i : Nat} (hi : i < L) : shE a d L bs y (j * L + i) = ud (upw y) (fun r => lg bs (plcF a r j * L + i)) d := by
  unfold shE
  have h1 : (j * L + i) / L = j := by rw [Nat.mul_comm, Nat.mul_add_div (by omega), Nat.div_eq_of_lt hi, Nat.add_zero]
  have h2 : (j * L + i) % L = i := by rw [Nat.mul_comm, Nat.mul_add_mod, Nat.mod_eq_of_lt hi]
  rw [h1, h2]
theorem plc_lt {n k a d q : Nat} (hD : Dim n k a d q) {r j : Nat} (hr : r < d) (hj : j < a) : plcF a r j < q := by
  have := (plc_ok (a := a) (by have := hD.a7; omega) hD.a1).lt r j (by rw [← hD.d_]; exact hr) hj
  rwa [← hD.q_] at this

set_option maxHeartbeats 4000000 in
theorem shard_any {w : World} {n k a d q L : Nat} (hD : Dim n k a d q) {A1 A2 : Option Addr} {c1 c2 m : Nat} {bs : List UInt8} {y : UInt8} (h1 : Bts w (.slice A1 d c1) (rowL d (upw y))) (h2 : Bts w (.slice A2 m c2) bs) (hm : m = q * L) (hm2 : m ≤ 1000) (hL : 1 ≤ L) :
    Calls Try.prog 39 #[.int .i64 (k : Int), .slice A1 d c1, .slice A2 m c2] w (OwnPost w (rowL (a * L) (shE a d L bs y))) := by
  obtain ⟨i0, hi0, hz0, hz1, hz2⟩ := byte_parts
  have ha1 := hD.a1
  have ha7 := hD.a7
  have hk := hD.k_
  have hk8 : k ≤ 8 := by omega
  have hk1 : 1 ≤ k := by omega
  have hq := hD.q56
  have hka : (k : Int) - 1 = (a : Int) := by omega
  have hkq : (k : Int) * (a : Int) = (q : Int) := by rw [hD.k_, hD.q_, Int.natCast_mul]
  have hmq : (m : Int) / (q : Int) = (L : Int) := by
    rw [hm, Int.natCast_mul, Int.mul_ediv_cancel_left _ (by omega)]
  have hLm : L ≤ 1000 := by
    have := Nat.mul_le_mul_right L (show 1 ≤ q by omega)
    omega
  have haL : a * L ≤ 1000 := Nat.le_trans (Nat.mul_le_mul_right L hq.2.2) (by omega)
  have hd2 : d ≤ 14 := by have := hD.d_; omega
  have HP : Hid (∀ r j, r < d → j < a → ∀ i, i < L → plcF a r j * L + i < m) := fun r j hr hj i hi => by
    rw [hm]
    exact idx_lt (plc_lt hD hr hj) hi
  have hpl := places_any w hD
  have HM := hide hm
  have HKA := hide hka
  have HKQ := hide hkq
  have HMQ := hide hmq
  clear hm hk hka hkq hmq hD
  obtain ⟨hq2, hq56, hqa⟩ := hq
  go_enter Try.func39, Try.ntmps39
  go_wp2_with fail
  refine hpl.mono ?_
  rintro e w1 ⟨g, cp, bl, rfl, hG, hk1'⟩
  have hka := HKA.out
  have hkq := HKQ.out
  have hmq := HMQ.out
  go_wp2_with fail
  clear hkq hmq
  go_loopw [9, 10] (fun v jv wr => ∃ (j : Nat) (A : Option Addr) (r cc : Nat), j ≤ a ∧ jv = .int .i64 (j : Int) ∧ v = .slice A r cc ∧ Own wr w1.heap.size 5 (.slice A r cc) (rowL (j * L) (shE a d L bs y)) ∧ Kp No w1 wr) (fun _ jv _ => a - (intOf jv).toNat)
  case atStart => exact ⟨0, none, 0, 0, Nat.zero_le _, rfl, rfl, by rw [Nat.zero_mul]; exact Own.nil _ _ _, Kp.refl _ _⟩
  case round =>
    obtain ⟨j, A, r, cc, hj, rfl, rfl, ho, hkw⟩ := hrel
    by_cases hlt : j < a
    · go_wp2_with fail
      clear hka
      have HJ : Hid (j * L + L ≤ a * L) := by
        show j * L + L ≤ a * L
        have := Nat.mul_le_mul_right L (show j + 1 ≤ a from hlt)
        rwa [Nat.add_mul, Nat.one_mul] at this
      go_loopw [9, 11] (fun v iv wr => ∃ (i : Nat) (A : Option Addr) (r cc : Nat), i ≤ L ∧ iv = .int .i64 (i : Int) ∧ v = .slice A r cc ∧ Own wr w1.heap.size 5 (.slice A r cc) (rowL (j * L + i) (shE a d L bs y)) ∧ Kp No w1 wr) (fun _ iv _ => L - (intOf iv).toNat)
      case atStart => exact ⟨0, A, r, cc, Nat.zero_le _, rfl, rfl, ho, hkw⟩
      case round =>
        clear ho hkw
        obtain ⟨i, A, r, cc, hi, rfl, rfl, ho, hkw⟩ := hrel
        by_cases hlti : i < L
        · go_wp2_with fail
          go_loopw [12, 13] (fun s rv wr => ∃ u : Nat, u ≤ d ∧ rv = .int .i64 (u : Int) ∧ s = .int .u8 ((ud (upw y) (fun r => lg bs (plcF a r j * L + i)) u).toNat : Int) ∧ Own wr w1.heap.size 5 (.slice A r cc) (rowL (j * L + i) (shE a d L bs y)) ∧ Kp No w1 wr) (fun _ rv _ => d - (intOf rv).toNat)
          case atStart => exact ⟨0, Nat.zero_le _, rfl, rfl, ho, hkw⟩
          case round =>
            clear ho hkw
            obtain ⟨u, hu, rfl, rfl, ho, hkw⟩ := hrel
            by_cases hltu : u < d
            · obtain ⟨B1, o1, rfl, e1⟩ := (h1.no (hk1'.trans' hkw)).cell hltu
              have hG2 := hG.no hkw
              have e2 := hG2.outer hltu
              have e3 := hG2.cell hltu hlt
              obtain ⟨yy, hyy⟩ : ∃ yy, yy = plcF a u j * L := ⟨_, rfl⟩
              obtain ⟨o, hoo⟩ : ∃ o, o = yy + i := ⟨_, rfl⟩
              have hlo : o < m := by rw [hoo, hyy]; exact HP.out u j hltu hlt i hlti
              obtain ⟨B2, o2, b, rfl, hb, e4⟩ := (h2.no (hk1'.trans' hkw)).at_ hlo
              have hstep : Hid (ud (upw y) (fun r => lg bs (plcF a r j * L + i)) (u + 1) = ux (ud (upw y) (fun r => lg bs (plcF a r j * L + i)) u) (um (upw y u) b)) := by
                show ud (upw y) (fun r => lg bs (plcF a r j * L + i)) (u + 1) = _
                rw [ud_succ, ← hyy, ← hoo, lg_of hb]
                rfl
              have hw1 : IntKind.i64.wrap ((plcF a u j : Int) * (L : Int)) = (yy : Int) := by
                rw [hyy, ← Int.natCast_mul]
                exact IntWalk.i64_in _ (by omega)
              have hw2 : IntKind.i64.wrap ((yy : Int) + (i : Int)) = (o : Int) := by
                rw [hoo, Int.natCast_add]
                exact IntWalk.i64_in _ (by omega)
              have hlz : (0 : Int) ≤ (o : Int) := by omega
              have hlo' : (o : Int) < (m : Int) := by omega
              clear hyy hoo hb
              generalize ud (upw y) (fun r => lg bs (plcF a r j * L + i)) u = s at *
              generalize plcF a u j = z at *
              have hxor := xorU s (um (upw y u) b)
              go_wp2_with fail
              go_quiet ((go_at_call 48; exact refmulU_q _ _ (upw y u) b))
              go_wp2_with fail
              go_round
              case rel => exact ⟨u + 1, by omega, by go_num, by rw [hstep.out], ho.drewN _, hkw.drewN _⟩
              case measure => simp [intOf]; omega
            · obtain rfl : u = d := by omega
              have hval : Hid (ud (upw y) (fun r => lg bs (plcF a r j * L + i)) u = shE a u L bs y (j * L + i)) := (shE_at bs y hlti).symm
              rw [hval.out]
              have hsz := hkw.size
              have hb := bts_new wr (shE a u L bs y (j * L + i)) _ rfl
              have ho2 := ho.alloc (.cells #[bv (shE a u L bs y (j * L + i))] 5)
              have hl : (rowL (j * L + i) (shE a u L bs y)).length + [shE a u L bs y (j * L + i)].length ≤ 1000000000 := by have := HJ.out; rw [rowL_len]; simp; omega
              go_wp2_with (first
                | (at_builtin
                   refine wpList_app rfl (.tmp 61) (.tmp 63) _ rfl i0 Try.underlying38 hi0 hz0 hz1 hz2 rfl ho2 rfl hb hl (by simp; omega) ?_
                   intro A3 n3 c3 w3 ha))
              go_round
              case rel => exact ⟨i + 1, A3, n3, c3, by omega, by go_num, rfl, by rw [← Nat.add_assoc, rowL_succ]; exact ha.own, ha.keeps ho2 (hkw.trans' (Kp.alloc No _ _))⟩
              case measure => simp [intOf]; omega
        · obtain rfl : i = L := by omega
          go_wp2_with fail
          go_round
          case rel => exact ⟨j + 1, A, r, cc, by omega, by go_num, rfl, by rw [Nat.add_mul, Nat.one_mul]; exact ho, hkw⟩
          case measure => simp [intOf]; omega
    · obtain rfl : j = a := by omega
      go_wp2_with fail
      go_ret
      exact ⟨A, r, cc, rfl, ho.rebase fun q hq => Nat.le_trans hk1'.size (ho.ge q hq), hk1'.trans' hkw⟩

/-- Rows come back, and whether there are any. -/
def EncPost (w : World) (n : Nat) (bss : List (List UInt8)) (e : Ending) (w1 : World) : Prop := ∃ A cp, e = .returned (.tuple #[.slice A n cp, .bool true]) ∧ Rws w1 A n bss ∧ Kp No w w1
theorem renc_no {w : World} {n : Int} {k a q : Nat} (hk : k = a + 1) (hq : q = (a + 1) * a) (ha1 : 1 ≤ a) (ha7 : a ≤ 7) {A : Option Addr} {m c : Nat} (hm : m = 0 ∨ m % q ≠ 0) (hm2 : m ≤ 1000) :
    Calls Try.prog 29 #[.int .i64 n, .int .i64 (k : Int), .slice A m c] w fun e w' => e = .returned (.tuple #[.slice none 0 0, .bool false]) ∧ w = w' := by
  by_cases h0 : m = 0
  · subst h0
    clear hm hk hq
    go_enter Try.func29, Try.ntmps29
    go_wp2_with fail
    go_ret2
    exact ⟨rfl, rfl⟩
  · have h1 : 0 < m := by omega
    have hka : (k : Int) - 1 = (a : Int) := by omega
    have hkq : (k : Int) * (a : Int) = (q : Int) := by rw [hk, hq, Int.natCast_mul]
    have hk8 : k ≤ 8 := by omega
    have hq0 : 1 ≤ q ∧ q ≤ 56 := by
      rw [hq]
      exact ⟨Nat.mul_le_mul (show 1 ≤ a + 1 by omega) ha1, Nat.mul_le_mul (show a + 1 ≤ 8 by omega) ha7⟩
    obtain ⟨hq1, hq2⟩ := hq0
    obtain ⟨r, hr⟩ : ∃ r, r = m % q := ⟨_, rfl⟩
    have hrm : (m : Int) % (q : Int) = (r : Int) := by rw [hr, Int.natCast_emod]
    have hr0 : ((r : Int) != 0) = true := by have : 0 < r := by omega
                                             simp; omega
    have hm0 : ((m : Int) == 0) = false := by simp; omega
    clear hm h0 hk hq hr
    go_enter Try.func29, Try.ntmps29
    go_wp2_with fail
    go_ret2
    exact ⟨rfl, rfl⟩
/-- The rows of the call's own come back, each appended. -/
def RencPost (w : World) (n : Nat) (F : Nat → List UInt8) (e : Ending) (w1 : World) : Prop := ∃ A cp vs w0, e = .returned (.tuple #[.slice A n cp, .bool true]) ∧ RInv w0 F n (.slice A n cp) vs w1 ∧ w.heap.size ≤ w0.heap.size ∧ Kp No w w1
set_option maxHeartbeats 2000000 in
theorem renc_grd {w : World} {n k a d q L : Nat} {x : Nat → UInt8} (hD : Dim n k a d q) (hP : Pts n a x) {A2 : Option Addr} {c2 m : Nat} {bs : List UInt8} (h2 : Bts w (.slice A2 m c2) bs) (hm : m = q * L) (hm2 : m ≤ 1000) (hL : 1 ≤ L) :
    Calls Try.prog 29 #[.int .i64 (n : Int), .int .i64 (k : Int), .slice A2 m c2] w (RencPost w n fun i => rowL (a * L) (shE a d L bs (x i))) := by
  have ha1 := hD.a1
  have ha7 := hD.a7
  have hk := hD.k_
  have hk8 : k ≤ 8 := by omega
  have hk1 : 1 ≤ k := by omega
  have hn2 := hD.n2
  have hq := hD.q56
  have hka : (k : Int) - 1 = (a : Int) := by omega
  have hkq : (k : Int) * (a : Int) = (q : Int) := by rw [hD.k_, hD.q_, Int.natCast_mul]
  have hqm : 0 < m := by
    rw [hm]
    exact Nat.mul_pos (by omega) (by omega)
  have hm0 : ((m : Int) == 0) = false := by simp; omega
  have hrm : (m : Int) % (q : Int) = 0 := by rw [hm, Int.natCast_mul, Int.mul_emod_right]
  have HR := hide (rrows_any w hD hP)
  have HM := hide hm
  have HD := hide hD
  clear hm hk hD hP
  obtain ⟨hq2, hq56, hqa⟩ := hq
  go_enter Try.func29, Try.ntmps29
  go_wp2_with fail
  refine HR.out.mono ?_
  clear hka hkq hm0 hrm HR
  rintro e w1 ⟨A1, c1, rfl, hR, hk1'⟩
  go_wp2_with fail
  go_loopw [9, 10] (fun v i wr => ∃ (j : Nat) (A : Option Addr) (r cp : Nat) (vs : List Value), j ≤ n ∧ i = .int .i64 (j : Int) ∧ v = .slice A r cp ∧ RInv w1 (fun i => rowL (a * L) (shE a d L bs (x i))) j (.slice A r cp) vs wr) (fun _ i _ => n - (intOf i).toNat)
  case atStart => exact ⟨0, none, 0, 0, [], Nat.zero_le _, rfl, rfl, OwnV.nil _ _, rfl, (fun j u hj => by simp at hj), Kp.refl _ _⟩
  case round =>
    obtain ⟨j, A, r, cp, vs, hj, rfl, rfl, hI⟩ := hrel
    by_cases hlt : j < n
    · obtain ⟨B, off, A3, m3, c3, bs3, rfl, e1, hb3, hB3⟩ := (hR.no hI.kp).get hlt
      have hbs : bs3 = rowL d (upw (x j)) := by
        rw [matL_get _ hlt] at hb3
        injection hb3 with hb3
        exact hb3.symm
      subst hbs
      obtain rfl : m3 = d := by rw [hB3.len, rowL_len]
      clear hb3
      have hsh := shard_any (L := L) HD.out hB3 (h2.no (hk1'.trans' hI.kp)) HM.out hm2 hL
      go_wp2_with fail
      refine hsh.mono ?_
      rintro e w2 ⟨A4, n4, cc4, rfl, ho1, hk2⟩
      have hkw := hI.kp.size
      have hk1s := hk2.size
      have hlen : vs.length ≤ 1000000 := by rw [hI.len]; omega
      have ho2 : OwnV (w2.alloc (.cells #[.slice A4 n4 cc4] 38)) w1.heap.size (.slice A r cp) vs := (hI.own.no hk2).no (Kp.alloc No _ _)
      clear hsh
      go_wp2_with (first
        | (at_builtin
           refine wpList_appV rfl (.tmp 32) (.tmp 40) _ rfl Try.underlying39 rfl ho2 _ rfl (fresh_cell _ _ _) rfl rfl hlen ?hs ?_
           case hs => simp; omega
           intro A5 n5 c5 w3 ha))
      go_round
      case rel => exact ⟨j + 1, A5, n5, c5, _, by omega, by go_num, rfl, hI.step hk2 ho1 hkw ha⟩
      case measure => simp [intOf]; omega
    · have hjm : j = n := by omega
      subst hjm
      have hn : r = j := by rw [hI.own.len, hI.len]
      subst hn
      go_wp2_with fail
      go_ret2
      exact ⟨A, cp, vs, w1, rfl, hI, hk1'.size, hk1'.trans' hI.kp⟩
theorem renc_yes {w : World} {n k a d q L : Nat} {x : Nat → UInt8} (hD : Dim n k a d q) (hP : Pts n a x) {A2 : Option Addr} {c2 m : Nat} {bs : List UInt8} (h2 : Bts w (.slice A2 m c2) bs) (hm : m = q * L) (hm2 : m ≤ 1000) (hL : 1 ≤ L) :
    Calls Try.prog 29 #[.int .i64 (n : Int), .int .i64 (k : Int), .slice A2 m c2] w (EncPost w n (matL n (a * L) fun i => shE a d L bs (x i))) :=
  (renc_grd hD hP h2 hm hm2 hL).mono fun _ _ ⟨A, cp, vs, w0, h1, hI, _, hk⟩ => ⟨A, cp, h1, hI.rws (matL_len _ _ _) fun i hi => matL_get _ hi, hk⟩
end Go.Proofs.Ytcdmljlangbloaa
