/- The document's Near (layer 9), as a contract over memory. -/
import Derived.Test.YthbnomemknnmeaaSnr
import Derived.Test.YthbnomemknnmeaaSpu
import Derived.Test.YthbnomemknnmeaaOpt
import Derived.Deep.RegionHeld3
namespace Go.Proofs.Ythbnomemknnmeaa
open Go.RowKit
set_option linter.unusedVariables false
set_option linter.unusedSimpArgs false
set_option maxRecDepth 100000

theorem Rpts.no {w w1 : World} {A : Option Addr} {m : Nat} {X Y : Nat → Int} (h : Rpts w A m X Y) (hk : Kp No w w1) : Rpts w1 A m X Y :=
  ⟨fun j hj => by
    obtain ⟨B, off, h1, h2, h3⟩ := h.at_ j hj
    exact ⟨B, off, h1, hk.cell h2 fun f => f, hk.cell h3 fun f => f⟩, h.big⟩
/-- Truth values in a block of the call's own. -/
def BRow (w : World) (b n : Nat) (f : Nat → Bool) : Prop := ∃ cur : Array Value, w.heap[b]? = some (.cells cur 4 (0, 0)) ∧ ∀ j, j < n → cur[j]? = some (.bool (f j))
section
variable {w w1 : World} {b n : Nat} {f f' : Nat → Bool} {S : Nat → Prop}
theorem BRow.cell (h : BRow w b n f) {j : Nat} (hj : j < n) : w.cell? ⟨b, j, none⟩ = some (.bool (f j)) := by
  obtain ⟨cur, h1, h2⟩ := h
  rw [cell_of_row w b j _ _ _ h1, h2 j hj]
theorem BRow.cellv (h : BRow w b n f) {j : Nat} {u : Bool} (hj : j < n) (hu : f j = u) : w.cell? ⟨b, j, none⟩ = some (.bool u) := hu ▸ h.cell hj
theorem BRow.frozen (h : BRow w b n f) (j : Nat) : w.frozen? ⟨b, j, none⟩ = false := by
  obtain ⟨cur, h1, _⟩ := h
  exact frozen_of_row w b j _ _ h1
theorem BRow.keep (h : BRow w b n f) (hk : Kp S w w1) (hS : ¬ S b) : BRow w1 b n f := by
  obtain ⟨cur, h1, h2⟩ := h
  exact ⟨cur, by rw [hk.block b (Array.getElem?_eq_some_iff.1 h1).1 hS]; exact h1, h2⟩
theorem BRow.no (h : BRow w b n f) (hk : Kp No w w1) : BRow w1 b n f := h.keep hk fun f => f
theorem BRow.eq (h : BRow w b n f) (he : ∀ j, j < n → f j = f' j) : BRow w b n f' := by
  obtain ⟨cur, h1, h2⟩ := h
  exact ⟨cur, h1, fun j hj => by rw [← he j hj]; exact h2 j hj⟩
theorem BRow.set (h : BRow w b n f) {i : Nat} (hi : i < n) : BRow (w.setCell ⟨b, i, none⟩ (.bool true)) b n fun j => if j = i then true else f j := by
  obtain ⟨cur, h1, h2⟩ := h
  have hsz : i < cur.size := (Array.getElem?_eq_some_iff.1 (h2 i hi)).1
  refine ⟨cur.setIfInBounds i (.bool true), heap_setCell_same w b i cur _ _ h1, fun j hj => ?_⟩
  rw [Array.getElem?_setIfInBounds]
  show _ = some (Value.bool (if j = i then true else f j))
  by_cases e : i = j
  · subst e
    rw [if_pos rfl, if_pos hsz, if_pos rfl]
  · rw [if_neg e, if_neg (fun e' : j = i => e e'.symm)]
    exact h2 j hj
end
def zbl (n : Nat) : Array Value := madeCells (Value.bool false).cells (n * 1)
theorem zbl_get {n j : Nat} (h : j < n) : (zbl n)[j]? = some (.bool false) := by
  have e : (zbl n).toList = List.replicate n (.bool false) := by unfold zbl; rw [Nat.mul_one]; exact toList_madeCells_one _ _
  rw [← Array.getElem?_toList, e, List.getElem?_replicate, if_pos h]
theorem ty_bool : Ty 4 (.bool false) 1 1 := ty_of (by kernel_rfl) rfl (by omega) (by omega)
/-- make([]bool, n). -/
theorem make_bools (w : World) (n : Nat) (x : Int) (hx : x = n) (hn : n ≤ 1000) :
    (Instr.makeSlice 55 (.int .i64 x) (.int .i64 x)).run Try.prog w = .ok (.slice (some ⟨w.heap.size, 0, none⟩) n n) (w.alloc (.cells (zbl n) 4)) := by
  obtain ⟨⟨i0, hi0, hz0, hz1, hz2⟩, _⟩ := ty_bool
  subst hx
  have := run_make (P := Try.prog) w 55 4 i0 (.bool false) Try.underlying55 hi0 hz0 .i64 .i64 n n (by omega) (by omega) (by rw [hz2]; omega) (by omega)
  rw [hz1] at this
  simpa [zbl] using this
/-- The numbers that came out. -/
def outL (f : Nat → Nat) (t : Nat) : List Value := (List.range t).map fun j => .int .i64 (f j : Int)
theorem outL_succ (f : Nat → Nat) (t : Nat) : outL f (t + 1) = outL f t ++ [.int .i64 (f t : Int)] := by unfold outL; rw [List.range_succ, List.map_append]; rfl
theorem outL_get (f : Nat → Nat) {t j : Nat} (h : j < t) : (outL f t)[j]? = some (.int .i64 (f j : Int)) := by unfold outL; rw [List.getElem?_map, List.getElem?_range h]; rfl
/-- Which are done. -/
def dnF (f : Nat → Nat) (t j : Nat) : Bool := decide (∃ s, s < t ∧ f s = j)
/-- The nearest of the first i that are not done. -/
def BstAt (k : Nat → Int) (dn : Nat → Bool) (i : Nat) (z : Int) : Prop := (z = -1 ∧ ∀ j, j < i → dn j = true) ∨ ∃ q : Nat, q < i ∧ z = (q : Int) ∧ dn q = false ∧ ∀ j, j < i → dn j = false → j = q ∨ soL k q j
section
variable {k : Nat → Int} {dn : Nat → Bool} {i : Nat} {z : Int}
theorem BstAt.done (h : BstAt k dn i z) (hd : dn i = true) : BstAt k dn (i + 1) z := by
  rcases h with ⟨h1, h2⟩ | ⟨q, h1, h2, h3, h4⟩
  · refine .inl ⟨h1, fun j hj => ?_⟩
    rcases Nat.lt_or_ge j i with g | g
    · exact h2 j g
    · rw [show j = i by omega]; exact hd
  · refine .inr ⟨q, by omega, h2, h3, fun j hj hf => ?_⟩
    rcases Nat.lt_or_ge j i with g | g
    · exact h4 j g hf
    · rw [show j = i by omega, hd] at hf; cases hf
theorem BstAt.first (h : ∀ j, j < i → dn j = true) (hd : dn i = false) : BstAt k dn (i + 1) (i : Int) := by
  refine .inr ⟨i, by omega, rfl, hd, fun j hj hf => ?_⟩
  rcases Nat.lt_or_ge j i with g | g
  · rw [h j g] at hf; cases hf
  · exact .inl (by omega)
theorem BstAt.less {q : Nat} (h1 : q < i) (h4 : ∀ j, j < i → dn j = false → j = q ∨ soL k q j) (hd : dn i = false) (hl : k i < k q) : BstAt k dn (i + 1) (i : Int) := by
  refine .inr ⟨i, by omega, rfl, hd, fun j hj hf => ?_⟩
  rcases Nat.lt_or_ge j i with g | g
  · have hiq : soL k i q := .inl hl
    rcases h4 j g hf with e | e
    · rw [e]; exact .inr hiq
    · exact .inr (hiq.trans e)
  · exact .inl (by omega)
theorem BstAt.more {q : Nat} (h1 : q < i) (h3 : dn q = false) (h4 : ∀ j, j < i → dn j = false → j = q ∨ soL k q j) (hl : ¬ k i < k q) : BstAt k dn (i + 1) (q : Int) := by
  refine .inr ⟨q, by omega, rfl, h3, fun j hj hf => ?_⟩
  rcases Nat.lt_or_ge j i with g | g
  · exact h4 j g hf
  · rw [show j = i by omega]; exact .inr ((soL.of_not h1).2 hl)
theorem BstAt.take {n t : Nat} (h : BstAt k (dnF (soF k n) t) n z) (ht : t < n) : z = (soF k n t : Int) := by
  have ho := soF_ok k n
  have hv := ho.val (Nat.zero_le _) ht
  have hun : dnF (soF k n) t (soF k n t) = false := by
    unfold dnF
    refine decide_eq_false ?_
    rintro ⟨s, hs, e⟩
    have := ho.srt.inj (Nat.zero_le _) (show s < n by omega) (Nat.zero_le _) ht e
    omega
  rcases h with ⟨_, h2⟩ | ⟨q, h1, h2, h3, h4⟩
  · rw [h2 _ hv.2] at hun; cases hun
  · obtain ⟨s, _, s2, s3⟩ := (ho.rng q).2 ⟨Nat.zero_le _, h1⟩
    have hs : t ≤ s := by
      rcases Nat.lt_or_ge s t with g | g
      · unfold dnF at h3
        exact absurd ⟨s, g, s3⟩ (of_decide_eq_false h3)
      · exact g
    rcases h4 _ hv.2 hun with e | e
    · rw [h2, e]
    · rcases Nat.lt_or_ge t s with g | g
      · have := ho.srt t s (Nat.zero_le _) g s2
        rw [s3] at this
        exact (e.asymm this).elim
      · rw [show t = s by omega, s3]; exact h2
theorem dnF_succ (f : Nat → Nat) (t j : Nat) : dnF f (t + 1) j = if j = f t then true else dnF f t j := by
  unfold dnF
  by_cases e : j = f t
  · rw [if_pos e]; exact decide_eq_true ⟨t, by omega, e.symm⟩
  · rw [if_neg e]
    apply decide_eq_decide.2
    constructor
    · rintro ⟨s, h1, h2⟩
      rcases Nat.lt_or_ge s t with g | g
      · exact ⟨s, g, h2⟩
      · rw [show s = t by omega] at h2; exact absurd h2.symm e
    · rintro ⟨s, h1, h2⟩
      exact ⟨s, by omega, h2⟩
end
/-- The numbers of the nearest come back, in a row that was appended to. -/
def RnPost (w : World) (n : Nat) (k : Nat → Int) (e : Ending) (w1 : World) : Prop := ∃ A c, e = .returned (.slice A n c) ∧ OwnT w1 w.heap.size 3 1 (.slice A n c) n (outL (soF k n) n) ∧ Kp No w w1
theorem ownT_rebase {w : World} {base b : Nat} {e : TypeId} {sz n : Nat} {v : Value} {xs : List Value} (h : OwnT w base e sz v n xs) (hb : ∀ k, v.ownBlock = some k → b ≤ k) : OwnT w b e sz v n xs := by
  refine ⟨h.1, ?_⟩
  rcases h.2 with hn | ⟨g, cap, cur, rfl, _, r⟩
  · exact .inl hn
  · exact .inr ⟨g, cap, cur, rfl, hb g rfl, r⟩
/-- A slice's length. -/
def lnOf : Value → Nat | .slice _ n _ => n | _ => 0
/-- So many have come out. -/
structure RnI (w : World) (db n t : Nat) (f : Nat → Nat) (v : Value) (wr : World) : Prop where
  own : OwnT wr (db + 1) 3 1 v t (outL f t)
  row : BRow wr db n (dnF f t)
  kp : Kp (On db) w wr
/-- The cells of a comparison. -/
theorem cells7 {W w1 : World} {g0 db i oi oq B : Nat} {x y X Y Z T : Int} (hk : Kp No W w1) (h : W.cell? ⟨g0, 0, none⟩ = some (.int .i64 x) ∧ W.cell? ⟨g0, 1, none⟩ = some (.int .i64 y) ∧ W.cell? ⟨db, i, none⟩ = some (.bool false) ∧ W.cell? ⟨B, oi, none⟩ = some (.int .i64 X) ∧ W.cell? ⟨B, oi + 1, none⟩ = some (.int .i64 Y) ∧ W.cell? ⟨B, oq, none⟩ = some (.int .i64 Z) ∧ W.cell? ⟨B, oq + 1, none⟩ = some (.int .i64 T)) :
    w1.cell? ⟨g0, 0, none⟩ = some (.int .i64 x) ∧ w1.cell? ⟨g0, 1, none⟩ = some (.int .i64 y) ∧ w1.cell? ⟨db, i, none⟩ = some (.bool false) ∧ w1.cell? ⟨B, oi, none⟩ = some (.int .i64 X) ∧ w1.cell? ⟨B, oi + 1, none⟩ = some (.int .i64 Y) ∧ w1.cell? ⟨B, oq, none⟩ = some (.int .i64 Z) ∧ w1.cell? ⟨B, oq + 1, none⟩ = some (.int .i64 T) := by
  obtain ⟨h1, h2, h3, h4, h5, h6, h7⟩ := h
  exact ⟨hk.cell h1 fun f => f, hk.cell h2 fun f => f, hk.cell h3 fun f => f, hk.cell h4 fun f => f, hk.cell h5 fun f => f, hk.cell h6 fun f => f, hk.cell h7 fun f => f⟩
set_option maxHeartbeats 8000000 in
theorem rnear_any {w : World} {A : Option Addr} {n c : Nat} {x y : Int} {X Y : Nat → Int} (hP : Rpts w A n X Y) (hx : Alw x) (hy : Alw y) (hX : ∀ j, j < n → Alw (X j)) (hY : ∀ j, j < n → Alw (Y j)) (hn : n ≤ 60) :
    Calls Try.prog 17 #[rpV x y, .slice A n c] w (RnPost w n fun j => farZ x y (X j) (Y j)) := by
  have hmk := fun w => make_bools w n (n : Int) rfl (by omega)
  have hF : ∀ q, q < n → ∀ w, Calls Try.prog 11 #[rpV x y, rpV (X q) (Y q)] w fun e w' => e = .returned (.int .i64 (farZ x y (X q) (Y q))) ∧ Kp No w w' := fun q hq w =>
    rfar_any w x y (X q) (Y q) (by have := hX q hq; unfold Alw at *; omega) (by have := hY q hq; unfold Alw at *; omega) (by unfold Alw at *; omega)
  obtain ⟨k, hk⟩ : ∃ k, k = fun j => farZ x y (X j) (Y j) := ⟨_, rfl⟩
  have hF2 : ∀ q, q < n → ∀ w, Calls Try.prog 11 #[rpV x y, rpV (X q) (Y q)] w fun e w' => e = .returned (.int .i64 (k q)) ∧ Kp No w w' := by rw [hk]; exact hF
  rw [← hk]
  have HF := hide hF2
  obtain ⟨w3, hw3⟩ : ∃ w3, w3 = (w.alloc (.cells #[.int .i64 x, .int .i64 y] 23)).alloc (.cells (zbl n) 4) := ⟨_, rfl⟩
  obtain ⟨g0, hg0⟩ : ∃ g0, g0 = w.heap.size := ⟨_, rfl⟩
  have c1 : w3.cell? ⟨g0, 0, none⟩ = some (.int .i64 x) := by rw [hw3, hg0]; simp [go_sem]
  have c2 : w3.cell? ⟨g0, 1, none⟩ = some (.int .i64 y) := by rw [hw3, hg0]; simp [go_sem]
  have hB : BRow w3 (g0 + 1) n (dnF (soF k n) 0) := by
    refine ⟨zbl n, ?_, fun j hj => ?_⟩
    · have := heap_alloc_new (w.alloc (.cells #[.int .i64 x, .int .i64 y] 23)) (.cells (zbl n) 4)
      rw [hw3, hg0]
      simpa using this
    · rw [zbl_get hj]
      have : dnF (soF k n) 0 j = false := by unfold dnF; exact decide_eq_false (by rintro ⟨s, h, _⟩; omega)
      rw [this]
  have hK : Kp No w w3 := by rw [hw3]; exact ((Kp.refl No w).al _).al _
  have hsz : g0 + 2 = w3.heap.size := by rw [hw3, hg0]; simp
  have h0 : RnI w3 (g0 + 1) n 0 (soF k n) (.slice none 0 0) w3 := ⟨OwnT.nil _ _ _ _, hB, Kp.refl _ _⟩
  have C12 := hide (And.intro c1 c2)
  have HP := hide hP
  have HK := hide hK
  have HG := hide hg0
  have HZ := hide hsz
  have HW3 := hide hw3
  clear hP hx hy hX hY hF hF2 c1 c2 hB hK hw3 hg0 hsz hk
  go_enter Try.func17, Try.ntmps17
  go_wp2_with fail
  rw [← HW3.out, ← HG.out]
  clear HW3 hmk
  go_loopw [5, 7, 8] (fun ov bv iv wr => ∃ (t : Nat) (A1 : Option Addr) (c1 : Nat), t ≤ n ∧ ov = .slice A1 t c1 ∧ RnI w3 (g0 + 1) n t (soF k n) (.slice A1 t c1) wr) (fun ov _ _ _ => n - lnOf ov)
  case atStart => exact ⟨0, none, 0, Nat.zero_le _, rfl, h0⟩
  case round =>
    clear h0
    obtain ⟨t, A1, c1, ht, rfl, hR⟩ := hrel
    by_cases hlt : t < n
    · have HR := hide hR
      have hB0 : BstAt k (dnF (soF k n) t) 0 (-1) := .inl ⟨rfl, fun j hj => by omega⟩
      have HT := hide (fun z (h : BstAt k (dnF (soF k n) t) n z) => h.take hlt)
      rename World => wo
      generalize hdn : dnF (soF k n) t = dn at hB0 HT
      have HRow : Hid (BRow wo (g0 + 1) n dn) := hide (hdn ▸ hR.row)
      clear hR
      go_wp2_with fail
      go_loopw [7, 8] (fun bv iv wr => ∃ (i : Nat) (z : Int), i ≤ n ∧ bv = .int .i64 z ∧ iv = .int .i64 (i : Int) ∧ BstAt k dn i z ∧ Kp No wo wr) (fun _ iv _ => n - (intOf iv).toNat)
      case atStart => exact ⟨0, -1, Nat.zero_le _, rfl, rfl, hB0, Kp.refl _ _⟩
      case round =>
        clear hB0
        obtain ⟨i, z, hi, rfl, rfl, hB, hkr⟩ := hrel
        have HKR := hide hkr
        by_cases hlt2 : i < n
        · have KW := hide (HR.out.kp.trans' (hkr.of_no _))
          have KN : Hid (Kp No w wr) := hide (HK.out.trans (KW.out.mono fun q e => .inr (by have := HG.out; have e' : q = g0 + 1 := e; omega)))
          have x0 := (HRow.out.no hkr).cell hlt2
          obtain ⟨B, off, hA, p1, p2⟩ := (HP.out.no KN.out).at_ i hlt2
          subst hA
          cases hd : dn i with
          | true =>
            rw [hd] at x0
            have HN := hide (hB.done hd)
            clear hB hd hkr p1 p2
            go_wp2_with fail
            go_quiet (fail)
            go_wp2_with fail
            go_round
            case rel => exact ⟨i + 1, z, by omega, rfl, by go_num, HN.out, HKR.out.drewN nq⟩
            case measure => simp [intOf]; omega
          | false =>
            rw [hd] at x0
            rcases hB with ⟨rfl, hall⟩ | ⟨q, h1, rfl, h3, h4⟩
            · have HN : Hid (BstAt k dn (i + 1) (i : Int)) := hide (BstAt.first hall hd)
              clear hd hkr p1 p2 hall
              go_wp2_with fail
              go_quiet (fail)
              go_wp2_with fail
              go_round
              case rel => exact ⟨i + 1, i, by omega, by rfl, by go_num, HN.out, HKR.out.drewN nq⟩
              case measure => simp [intOf]; omega
            · obtain ⟨B', off', hA', q1, q2⟩ := (HP.out.no KN.out).at_ q (by omega)
              injection hA' with hA'
              injection hA' with hA' hA2
              subst hA' hA2
              have hqn : q < n := by omega
              have d1 := KW.out.cell C12.out.1 (by show ¬ g0 = g0 + 1; omega)
              have d2 := KW.out.cell C12.out.2 (by show ¬ g0 = g0 + 1; omega)
              have PP := hide (And.intro d1 (And.intro d2 (And.intro x0 (And.intro p1 (And.intro p2 (And.intro q1 q2))))))
              have hHi := HF.out i hlt2
              have hHq := HF.out q hqn
              have HHi := hide hHi
              have HHq := hide hHq
              have hzq : decide ((q : Int) < 0) = false := decide_eq_false (by omega)
              generalize X i = Xi at PP HHi
              generalize Y i = Yi at PP HHi
              generalize X q = Xq at PP HHq
              generalize Y q = Yq at PP HHq
              have H1 := hide h1
              have H3 := hide h3
              have H4 := hide h4
              have HD := hide hd
              clear d1 d2 x0 p1 p2 q1 q2 hHi hHq h3 h4 hd hkr
              by_cases hl : k i < k q
              · have HN : Hid (BstAt k dn (i + 1) (i : Int)) := hide (BstAt.less H1.out H4.out HD.out hl)
                go_wp2_with fail
                go_region_held3 (fun w' => w'.cell? ⟨g0, 0, none⟩ = some (.int .i64 x) ∧ w'.cell? ⟨g0, 1, none⟩ = some (.int .i64 y) ∧ w'.cell? ⟨g0 + 1, i, none⟩ = some (.bool false) ∧ w'.cell? ⟨B, off + i * 2, none⟩ = some (.int .i64 Xi) ∧ w'.cell? ⟨B, off + i * 2 + 1, none⟩ = some (.int .i64 Yi) ∧ w'.cell? ⟨B, off + q * 2, none⟩ = some (.int .i64 Xq) ∧ w'.cell? ⟨B, off + q * 2 + 1, none⟩ = some (.int .i64 Yq))
                  (first | assumption | exact cells7 ((Kp.refl No _).drew) PP.out | go_keep)
                  (first
                    | (go_at_call 11; ((with_reducible refine (HHi.out _).mono ?_); rintro e w5 ⟨rfl, hk5⟩); have s5 := cells7 ((Kp.refl No _).drew.trans' hk5) PP.out)
                    | (go_at_call 11; ((with_reducible refine (HHq.out _).mono ?_); rintro e w6 ⟨rfl, hk6⟩); have s6 := cells7 (((Kp.refl No _).drew.trans' hk5).trans' hk6) PP.out))
                go_wp2_with fail
                go_round
                case rel => exact ⟨i + 1, i, by omega, by rfl, by go_num, HN.out, ((HKR.out.drew).trans' hk5).trans' hk6⟩
                case measure => simp [intOf]; omega
              · have HN : Hid (BstAt k dn (i + 1) (q : Int)) := hide (BstAt.more H1.out H3.out H4.out hl)
                have hdl : decide (k i < k q) = false := decide_eq_false hl
                go_wp2_with fail
                go_region_held3 (fun w' => w'.cell? ⟨g0, 0, none⟩ = some (.int .i64 x) ∧ w'.cell? ⟨g0, 1, none⟩ = some (.int .i64 y) ∧ w'.cell? ⟨g0 + 1, i, none⟩ = some (.bool false) ∧ w'.cell? ⟨B, off + i * 2, none⟩ = some (.int .i64 Xi) ∧ w'.cell? ⟨B, off + i * 2 + 1, none⟩ = some (.int .i64 Yi) ∧ w'.cell? ⟨B, off + q * 2, none⟩ = some (.int .i64 Xq) ∧ w'.cell? ⟨B, off + q * 2 + 1, none⟩ = some (.int .i64 Yq))
                  (first | assumption | exact cells7 ((Kp.refl No _).drew) PP.out | go_keep)
                  (first
                    | (go_at_call 11; ((with_reducible refine (HHi.out _).mono ?_); rintro e w5 ⟨rfl, hk5⟩); have s5 := cells7 ((Kp.refl No _).drew.trans' hk5) PP.out)
                    | (go_at_call 11; ((with_reducible refine (HHq.out _).mono ?_); rintro e w6 ⟨rfl, hk6⟩); have s6 := cells7 (((Kp.refl No _).drew.trans' hk5).trans' hk6) PP.out))
                go_wp2_with fail
                go_round
                case rel => exact ⟨i + 1, q, by omega, by rfl, by go_num, HN.out, ((HKR.out.drew).trans' hk5).trans' hk6⟩
                case measure => simp [intOf]; omega
        · obtain rfl : i = n := by omega
          have hz := HT.out z hB
          subst hz
          have hv := (soF_ok k i).val (Nat.zero_le _) hlt
          have hrow := HRow.out.no hkr
          obtain ⟨q, hq⟩ : ∃ q, q = soF k i t := ⟨_, rfl⟩
          rw [← hq]
          have hqn : q < i := by rw [hq]; exact hv.2
          have hfr := hrow.frozen q
          have hcl := hrow.cell hqn
          have HS := hide (hrow.set hqn)
          have hks : Kp (On (g0 + 1)) wr (wr.setCell ⟨g0 + 1, q, none⟩ (.bool true)) := IRow.kp _ _ _ _
          have hown := HR.out.own.no hkr
          have hsz1 : g0 + 2 ≤ wr.heap.size := by have := HZ.out; have := HR.out.kp.size; have := hkr.size; omega
          have ho1 := hown.keep hks (fun p hp e => by have := hown.ge p hp; have e' : p = g0 + 1 := e; omega)
          generalize dn q = dq at hcl
          have HO := hide hq
          clear hB hv hrow hown hq
          have ho2 := ho1.no (Kp.alloc No _ (.cells #[.int .i64 (q : Int)] 3))
          have KS := hide ((HR.out.kp.trans' (hkr.of_no _)).trans' hks)
          have HSZ := hide (show w3.heap.size = g0 + 1 + 1 by have := HZ.out; omega)
          have hszb : g0 + 1 + 1 ≤ ((wr.setCell ⟨g0 + 1, q, none⟩ (.bool true)).alloc (.cells #[.int .i64 (q : Int)] 3)).heap.size := by
            have := hks.size
            simp
            simp at this
            omega
          have hfc : ((wr.setCell ⟨g0 + 1, q, none⟩ (.bool true)).alloc (.cells #[.int .i64 (q : Int)] 3)).cell? ⟨wr.heap.size, 0, none⟩ = some (.int .i64 (q : Int)) := by
            have := fresh_cell (wr.setCell ⟨g0 + 1, q, none⟩ (.bool true)) (.int .i64 (q : Int)) 3
            simpa using this
          clear hks hkr ho1
          go_wp2_with (first
            | (at_builtin
               refine wpList_appT ty_int rfl (.tmp 51) (.tmp 53) _ rfl Try.underlying42 rfl ho2 _ _ rfl (nws_one hfc rfl) (by omega) ?hs ?_
               case hs => exact hszb
               intro A3 n3 c3 w5 hn3 ha
               have HN3 := hide hn3
               clear hn3))
          go_round
          case rel =>
            have hn3 := HN3.out
            subst hn3
            have hown := ha.own
            rw [HO.out, ← outL_succ] at hown
            refine ⟨t + 1, A3, c3, by omega, rfl, hown, ?_, ?_⟩
            · have h1 := (HS.out.no (Kp.alloc No _ (.cells #[.int .i64 (q : Int)] 3))).keep ha.kp (fun e => by have := ho2.ge _ e; omega)
              rw [← hdn] at h1
              exact h1.eq fun j _ => by rw [dnF_succ, ← HO.out]
            · have hk2 := KS.out.trans' ((Kp.alloc No _ (.cells #[.int .i64 (q : Int)] 3)).of_no _)
              exact hk2.trans (ha.kp.mono fun p hp => .inr (by have := ho2.ge _ hp; have := HSZ.out; omega))
          case measure => simp [lnOf]; have := HN3.out; omega
    · obtain rfl : t = n := by omega
      have hO := hR.own
      have HE : Hid (RnPost w t k (.returned (.slice A1 t c1)) wr) := hide ⟨A1, c1, rfl, by have h2 := hO; have hg := HG.out; exact ownT_rebase h2 fun q hq => by have := h2.ge q hq; omega, HK.out.trans (hR.kp.mono fun q e => .inr (by have := HG.out; have e' : q = g0 + 1 := e; omega))⟩
      clear hR hO
      go_wp2_with fail
      go_ret
      exact HE.out
end Go.Proofs.Ythbnomemknnmeaa
