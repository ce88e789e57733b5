/- Package solve's Solve and Invert, each as a contract over memory. -/
import Derived.Test.YtbkelijmdpoanaaSs
import Derived.Test.YtbkelijmdpoanaaRg
namespace Go.Proofs.Ytbkelijmdpoanaa
open Go.RowKit
set_option linter.unusedVariables false
set_option maxRecDepth 20000
set_option linter.unusedSimpArgs false

/-- A row of the call's own is appended to. -/
theorem Grd.grew {w w2 w3 : World} {base g n i : Nat} {hv : Nat → Value} {bs : Nat → List UInt8} {cs : List UInt8} {v1 : Value} (h : Grd w base g n hv bs) (hI : InjV n hv) (hi : i < n) (hne : ∀ j, j < n → 0 < (bs j).length) (hk : Kp No w w2) (ha : App w2 base 5 (hv i) (bs i) cs v1 w3) :
    Grd (w3.setCell ⟨g, i, none⟩ v1) base g n (upd hv i v1) (upd bs i (bs i ++ cs)) ∧ InjV n (upd hv i v1) ∧ Outer w3 g n hv := by
  have h2 := h.no hk
  have hO3 : Outer w3 g n hv := h2.out.keep ha.kp fun e => outer_ne h2.out (h2.row i hi) e
  have hks : Kp (fun q => q = g) w3 (w3.setCell ⟨g, i, none⟩ v1) := Kp.setCell (p := ⟨g, i, none⟩) (S := fun q => q = g) rfl v1
  refine ⟨⟨hO3.set hi v1, fun j hj => ?_, h.bas⟩, fun p q hp hq e => ?_, hO3⟩
  · by_cases e : j = i
    · rw [e, upd_at, upd_at]
      exact ha.own.keep hks fun q hq e => outer_ne hO3 ha.own (by rw [hq, e])
    · rw [upd_ne _ _ e, upd_ne _ _ e]
      have h3 := (h2.row j hj).keep ha.kp fun q hq e' => e (hI j i hj hi (by rw [hq, e']))
      exact h3.keep hks fun q hq e => outer_ne hO3 h3 (by rw [hq, e])
  · have far : ∀ j, j < n → j ≠ i → (hv j).ownBlock ≠ v1.ownBlock := fun j hj hji e => by
      rcases ha.at_ with e1 | e1
      · exact hji (hI j i hj hi (by rw [e, e1]))
      · rw [e1] at e
        have := (h.row j hj).lt _ e
        have := hk.size
        omega
    by_cases e1 : p = i <;> by_cases e2 : q = i
    · omega
    · rw [e1, upd_at, upd_ne _ _ e2] at e
      exact absurd e.symm (far q hq e2)
    · rw [e2, upd_at, upd_ne _ _ e1] at e
      exact absurd e (far p hp e1)
    · rw [upd_ne _ _ e1, upd_ne _ _ e2] at e
      exact hI p q hp hq e

/-- So many rows are side by side. -/
def sideB (n c : Nat) (a b : Nat → Nat → UInt8) (k j : Nat) : List UInt8 := if j < k then rowL (n + c) (catF n a b j) else rowL n (a j)
theorem rowL_cat (n c : Nat) (a b : Nat → Nat → UInt8) (j : Nat) : rowL n (a j) ++ rowL c (b j) = rowL (n + c) (catF n a b j) := by
  apply List.ext_getElem?
  intro k
  by_cases h : k < n
  · rw [List.getElem?_append_left (by rw [rowL_len]; exact h), rowL_get _ h, rowL_get _ (by omega)]
    unfold catF
    rw [if_pos h]
  · rw [List.getElem?_append_right (by rw [rowL_len]; omega), rowL_len]
    by_cases h2 : k < n + c
    · rw [rowL_get _ (by omega), rowL_get _ h2]
      unfold catF
      rw [if_neg h]
    · rw [List.getElem?_eq_none (by rw [rowL_len]; omega), List.getElem?_eq_none (by rw [rowL_len]; omega)]
theorem side_at (n c : Nat) (a b : Nat → Nat → UInt8) (k : Nat) : sideB n c a b k k = rowL n (a k) := if_neg (Nat.lt_irrefl k)
theorem side_step (n c : Nat) (a b : Nat → Nat → UInt8) (k j : Nat) : upd (sideB n c a b k) k (sideB n c a b k k ++ rowL c (b k)) j = sideB n c a b (k + 1) j := by
  rw [side_at, rowL_cat]
  unfold upd sideB
  by_cases e : j = k
  · rw [if_pos e, if_pos (by omega), e]
  · rw [if_neg e]
    by_cases h : j < k
    · rw [if_pos h, if_pos (by omega)]
    · rw [if_neg h, if_neg (by omega)]
/-- What the first loop keeps. -/
structure SvI (w : World) (g n c : Nat) (a b : Nat → Nat → UInt8) (k : Nat) (wr : World) : Prop where
  ex : ∃ hv, Grd wr w.heap.size g n hv (sideB n c a b k) ∧ InjV n hv
  kp : Kp No w wr
theorem side_pos {n c : Nat} (a b : Nat → Nat → UInt8) (k : Nat) (hn : 0 < n) (j : Nat) : 0 < (sideB n c a b k j).length := by
  unfold sideB
  split
  · rw [rowL_len]; omega
  · rw [rowL_len]; exact hn

/-- The slice behind n elements. -/
def tailV (n c b cp : Nat) : Value := .slice (some ⟨b, n, none⟩) c (cp - n)
theorem RowAt.tail {w : World} {base b n c cp : Nat} {s : Nat → UInt8} (h : RowAt w base b (n + c) cp s) : Bts w (tailV n c b cp) (rowL c fun j => s (n + j)) := by
  refine ⟨_, cp - n, by rw [rowL_len]; rfl, (fun h => by cases h), fun ad ha j u hu => ?_⟩
  injection ha with ha
  subst ha
  have hj : j < c := by have := (List.getElem?_eq_some_iff.1 hu).1; rwa [rowL_len] at this
  rw [rowL_get _ hj] at hu
  injection hu with hu
  subst hu
  rw [add_none]
  exact h.cell (by omega)
/-- What the second loop keeps: so many rows are cut. -/
structure SwI (w : World) (base g n c : Nat) (bl cp : Nat → Nat) (f : Nat → Nat → UInt8) (k : Nat) (wr : World) : Prop where
  out : Outer wr g n fun j => if j < k then tailV n c (bl j) (cp j) else .slice (some ⟨bl j, 0, none⟩) (n + c) (cp j)
  row : ∀ j, j < n → RowAt wr base (bl j) (n + c) (cp j) (f j)
  kp : Kp No w wr
theorem SwI.step {w wr : World} {base g n c k : Nat} {bl cp : Nat → Nat} {f : Nat → Nat → UInt8} (h : SwI w base g n c bl cp f k wr) (hk : k < n) (hg : w.heap.size ≤ g) : SwI w base g n c bl cp f (k + 1) (wr.setCell ⟨g, k, none⟩ (tailV n c (bl k) (cp k))) := by
  have hks : Kp (fun q => q = g) wr (wr.setCell ⟨g, k, none⟩ (tailV n c (bl k) (cp k))) := Kp.setCell (p := ⟨g, k, none⟩) (S := fun q => q = g) rfl _
  refine ⟨(h.out.set hk _).eq fun j _ => ?_, fun j hj => (h.row j hj).keep hks fun e => outer_ne h.out (h.row j hj) (by rw [← e]; rfl), h.kp.trans (hks.mono fun q hq => .inr (by omega))⟩
  unfold upd
  by_cases e : j = k
  · rw [if_pos e, if_pos (by omega), e]
  · rw [if_neg e]
    show (if j < k then _ else _) = _
    by_cases h : j < k
    · rw [if_pos h, if_pos (by omega)]
    · rw [if_neg h, if_neg (by omega)]
theorem SwI.rws {w wr : World} {base g n c : Nat} {bl cp : Nat → Nat} {f : Nat → Nat → UInt8} (h : SwI w base g n c bl cp f n wr) : Rws wr (some ⟨g, 0, none⟩) n (matL n c (offF n f)) := by
  refine ⟨(matL_len _ _ _).symm, fun j l hj => ?_⟩
  have hjl : j < n := by have := (List.getElem?_eq_some_iff.1 hj).1; rwa [matL_len] at this
  rw [matL_get _ hjl] at hj
  injection hj with hj
  subst hj
  refine ⟨g, 0, _, rfl, ?_, (h.row j hjl).tail⟩
  rw [Nat.zero_add, h.out.cell hjl, if_pos hjl]
theorem SwI.start {w wr : World} {base g n c : Nat} {hv : Nat → Value} {f : Nat → Nat → UInt8} (h : Grd wr base g n hv fun j => rowL (n + c) (f j)) (hn : 0 < n) (hk : Kp No w wr) : ∃ bl cp, SwI w base g n c bl cp f 0 wr ∧ ∀ j, j < n → n + c ≤ cp j := by
  have key : ∀ j, ∃ b cp, j < n → hv j = .slice (some ⟨b, 0, none⟩) (n + c) cp ∧ RowAt wr base b (n + c) cp (f j) ∧ n + c ≤ cp := fun j => by
    by_cases hj : j < n
    · obtain ⟨b, cp, e1, _, hR, _, _⟩ := h.at_ (by omega) hj
      obtain ⟨_, _, _, h3, _⟩ := Own.block hR
      exact ⟨b, cp, fun _ => ⟨e1, hR, h3⟩⟩
    · exact ⟨0, 0, fun h => absurd h hj⟩
  refine ⟨fun j => (key j).choose, fun j => (key j).choose_spec.choose, ⟨h.out.eq fun j hj => ?_, fun j hj => ?_, hk⟩, fun j hj => ?_⟩
  · rw [if_neg (Nat.not_lt_zero _)]
    exact ((key j).choose_spec.choose_spec hj).1
  · exact ((key j).choose_spec.choose_spec hj).2.1
  · exact ((key j).choose_spec.choose_spec hj).2.2

/-- No matrix comes back, and ErrSingular. -/
def SngPost (w : World) (e : Ending) (w1 : World) : Prop := e = .returned (.tuple #[.pointer none, .int .i64 23]) ∧ Kp No w w1
/-- The rank tells which. -/
def SolPost (w : World) (n c : Nat) (a b : Nat → Nat → UInt8) (e : Ending) (w1 : World) : Prop :=
  ((redS n a n).rk < n ∧ SngPost w e w1) ∨ ((redS n a n).rk = n ∧ NewPost w n c (offF n (redS n (catF n a b) n).f) e w1)

set_option maxHeartbeats 4000000 in
set_option maxRecDepth 100000 in
theorem solve_any {w : World} {m m' : MB} {n c : Nat} {a b : Nat → Nat → UInt8} (h : MatAt w m n n a) (h' : MatAt w m' n c b) : Calls Try.prog 57 #[m.ptr, m'.ptr] w (SolPost w n c a b) := by
  obtain ⟨i0, hi0, hz0, hz1, hz2⟩ := byte_parts
  have hn1 := h.r1
  have hn2 := h.r2
  have hc1 := h'.c1
  have hc2 := h'.c2
  have HK : Hid ((redS n (catF n a b) n).rk = (redS n a n).rk) := (redS_congr (catF_left n a b n) n (Nat.le_refl _)).1
  have hle := redS_le n a n
  go_enter Try.func57, Try.ntmps57
  go_wp2_with fail
  refine (size_any h).mono ?_
  rintro e w1 ⟨rfl, hs1⟩
  go_wp2_with fail
  refine (size_any (h'.sm hs1)).mono ?_
  rintro e w2 ⟨rfl, hs2⟩
  go_wp2_with fail
  refine (square_yes (h.sm (hs1.trans hs2))).mono ?_
  rintro e w3 ⟨rfl, hs3⟩
  have hs := (hs1.trans hs2).trans hs3
  go_wp2_with fail
  refine (rowsof_any (h.sm hs)).mono ?_
  rintro e w4 ⟨g, hv, rfl, hG, hI, hk4⟩
  rw [hs.size] at hG
  have hS : SvI w g n c a b 0 w4 := ⟨⟨hv, hG.eq fun j _ => by unfold sideB; rw [if_neg (Nat.not_lt_zero _)], hI⟩, hs.kp.trans' hk4⟩
  have HB : Hid (w.heap.size ≤ g) := hG.bas
  clear hG hI hk4
  go_wp2_with fail
  go_loopw [41] (fun i wr => ∃ k : Nat, k ≤ n ∧ i = .int .i64 (k : Int) ∧ SvI w g n c a b k wr) (fun i _ => n - (intOf i).toNat)
  case atStart => exact ⟨0, Nat.zero_le _, rfl, hS⟩
  case round =>
    obtain ⟨k, hk, rfl, hR⟩ := hrel
    by_cases hlt : k < n
    · obtain ⟨hv, hG, hI⟩ := hR.ex
      have hGd := hG.no (Sm.drew wr).kp
      have hO := hGd.row k hlt
      rw [side_at] at hO
      obtain ⟨b0, cp0, e1, _, _⟩ := hO.some_ (by rw [rowL_len]; omega)
      rw [rowL_len] at e1
      have x1 : wr.drew.cell? ⟨g, k, none⟩ = some (.slice (some ⟨b0, 0, none⟩) n cp0) := by rw [hGd.out.cell hlt, e1]
      have HM := hide (h'.no (hR.kp.trans' (Sm.drew wr).kp))
      have E1 := hide e1
      have HI := hide hI
      have hsz := hR.kp.size
      clear e1 hI
      go_wp2_with fail
      refine wp_region_noPanic ?_
      refine LastR.begin (S := fun w' => w'.cell? ⟨g, k, none⟩ = some (.slice (some ⟨b0, 0, none⟩) n cp0)) (t := 11) (by kernel_rfl) (x1) (fun hHeld => ?_)
      refine LastR.take (i := 0) (v := ?va0) (oi := ?oa0) ?ha0 (by kernel_rfl) (by kernel_rfl) (by kernel_rfl) (by kernel_rfl) (fun _ _ _ h => h) (Or.inl ⟨?wa0, ?ya0⟩) hHeld ?ra0
      case ha0 => simp only [List.getElem?_toArray, List.getElem?_cons_zero, List.getElem?_cons_succ]; rfl
      case wa0 => rfl
      case ya0 => intro w hSw; (try dsimp only at hSw); go_simp; (try with_reducible rfl)
      simp only [Act.put, List.setIfInBounds_toArray, List.set_cons_zero, List.set_cons_succ]
      refine LastR.take (i := 1) (v := ?va1) (oi := ?oa1) ?ha1 (by kernel_rfl) (by kernel_rfl) (by kernel_rfl) (by kernel_rfl) (fun _ _ _ h => h) (Or.inl ⟨?wa1, ?ya1⟩) hHeld ?ra1
      case ha1 => simp only [List.getElem?_toArray, List.getElem?_cons_zero, List.getElem?_cons_succ]; rfl
      case wa1 => rfl
      case ya1 => intro w hSw; (try dsimp only at hSw); go_simp; (try with_reducible rfl)
      simp only [Act.put, List.setIfInBounds_toArray, List.set_cons_zero, List.set_cons_succ]
      refine LastR.take (i := 2) (v := ?va2) (oi := ?oa2) ?ha2 (by kernel_rfl) (by kernel_rfl) (by kernel_rfl) (by kernel_rfl) (fun _ _ _ h => h) (Or.inl ⟨?wa2, ?ya2⟩) hHeld ?ra2
      case ha2 => simp only [List.getElem?_toArray, List.getElem?_cons_zero, List.getElem?_cons_succ]; rfl
      case wa2 => rfl
      case ya2 => intro w hSw; (try dsimp only at hSw); go_simp; (try with_reducible rfl)
      simp only [Act.put, List.setIfInBounds_toArray, List.set_cons_zero, List.set_cons_succ]
      refine LastR.take (i := 3) (v := ?va3) (oi := ?oa3) ?ha3 (by kernel_rfl) (by kernel_rfl) (by kernel_rfl) (by kernel_rfl) (fun _ _ _ h => h) (Or.inl ⟨?wa3, ?ya3⟩) hHeld ?ra3
      case ha3 => simp only [List.getElem?_toArray, List.getElem?_cons_zero, List.getElem?_cons_succ]; rfl
      case wa3 => rfl
      case ya3 => intro w hSw; (try dsimp only at hSw); go_simp; (try with_reducible rfl)
      simp only [Act.put, List.setIfInBounds_toArray, List.set_cons_zero, List.set_cons_succ]
      refine LastR.take (i := 4) (v := ?va4) (oi := ?oa4) ?ha4 (by kernel_rfl) (by kernel_rfl) (by kernel_rfl) (by kernel_rfl) (fun _ _ _ h => h) (Or.inl ⟨?wa4, ?ya4⟩) hHeld ?ra4
      case ha4 => simp only [List.getElem?_toArray, List.getElem?_cons_zero, List.getElem?_cons_succ]; rfl
      case wa4 => rfl
      case ya4 => intro w hSw; (try dsimp only at hSw); go_simp; (try with_reducible rfl)
      simp only [Act.put, List.setIfInBounds_toArray, List.set_cons_zero, List.set_cons_succ]
      refine LastR.take (i := 5) (v := ?va5) (oi := ?oa5) ?ha5 (by kernel_rfl) (by kernel_rfl) (by kernel_rfl) (by kernel_rfl) (fun _ _ _ h => h) (Or.inl ⟨?wa5, ?ya5⟩) hHeld ?ra5
      case ha5 => simp only [List.getElem?_toArray, List.getElem?_cons_zero, List.getElem?_cons_succ]; rfl
      case wa5 => rfl
      case ya5 => intro w hSw; (try dsimp only at hSw); go_simp; (try with_reducible rfl)
      simp only [Act.put, List.setIfInBounds_toArray, List.set_cons_zero, List.set_cons_succ]
      refine LastR.take (i := 6) (v := ?va6) (oi := ?oa6) ?ha6 (by kernel_rfl) (by kernel_rfl) (by kernel_rfl) (by kernel_rfl) (fun _ _ _ h => h) (Or.inl ⟨?wa6, ?ya6⟩) hHeld ?ra6
      case ha6 => simp only [List.getElem?_toArray, List.getElem?_cons_zero, List.getElem?_cons_succ]; rfl
      case wa6 => rfl
      case ya6 => intro w hSw; (try dsimp only at hSw); go_simp; (try with_reducible rfl)
      simp only [Act.put, List.setIfInBounds_toArray, List.set_cons_zero, List.set_cons_succ]
      refine LastR.take (i := 7) (v := ?va7) (oi := ?oa7) ?ha7 (by kernel_rfl) (by kernel_rfl) (by kernel_rfl) (by kernel_rfl) (fun _ _ _ h => h) (Or.inl ⟨?wa7, ?ya7⟩) hHeld ?ra7
      case ha7 => simp only [List.getElem?_toArray, List.getElem?_cons_zero, List.getElem?_cons_succ]; rfl
      case wa7 => rfl
      case ya7 => intro w hSw; (try dsimp only at hSw); go_simp; (try with_reducible rfl)
      simp only [Act.put, List.setIfInBounds_toArray, List.set_cons_zero, List.set_cons_succ]
      refine LastR.run (i := 8) (o := ?oa8) ?ha8 (by kernel_rfl) (fun K hK => ?sa8)
      case ha8 => simp only [List.getElem?_toArray, List.getElem?_cons_zero, List.getElem?_cons_succ]; rfl
      go_simp
      refine (rowc_in HM.out k hlt).mono ?_
      rintro e w5 ⟨A5, n5, c5, rfl, ho5, hk5⟩
      have x5 : w5.cell? ⟨g, k, none⟩ = some (.slice (some ⟨b0, 0, none⟩) n cp0) := hk5.cell x1 fun f => f
      go_wp2_with fail
      refine hK.out _ _ (fun _ => x5) (fun hHe => ?_)
      have hHeld := hHe (by decide)
      clear hK K hHe
      try simp only [Act.put, List.setIfInBounds_toArray, List.set_cons_zero, List.set_cons_succ]
      refine LastR.run (i := 9) (o := ?oa9) ?ha9 (by kernel_rfl) (fun K hK => ?sa9)
      case ha9 => simp only [List.getElem?_toArray, List.getElem?_cons_zero, List.getElem?_cons_succ]; rfl
      have hO5 : Own w5 w.heap.size 5 (.slice (some ⟨b0, 0, none⟩) n cp0) (rowL n (a k)) := by rw [← E1.out]; exact hO.no hk5
      have hO3 : Outer w5 g n hv := hGd.out.keep hk5 fun f => f
      refine step_app rfl (.tmp 49) (.tmp 52) _ rfl i0 Try.underlying29 hi0 hz0 hz1 hz2 rfl hO5 rfl ho5.bts (by rw [rowL_len, rowL_len]; omega) (Nat.le_trans hsz hk5.size) ?_
      intro A6 n6 c6 w6 ha
      have hO6 : Outer w6 g n hv := hO3.keep ha.kp fun e => outer_ne hO3 hO5 e
      have x6 : w6.cell? ⟨g, k, none⟩ = some (.slice (some ⟨b0, 0, none⟩) n cp0) := by rw [hO6.cell hlt, E1.out]
      have xf6 := hO6.frozen k
      refine hK.out _ _ (fun _ => x6) (fun hHe => ?_)
      have hHeld := hHe (by decide)
      clear hK K hHe
      try simp only [Act.put, List.setIfInBounds_toArray, List.set_cons_zero, List.set_cons_succ]
      refine LastR.take (i := 10) (v := ?va10) (oi := ?oa10) ?ha10 (by kernel_rfl) (by kernel_rfl) (by kernel_rfl) (by kernel_rfl) (fun _ _ _ h => h) (Or.inl ⟨?wa10, ?ya10⟩) hHeld ?ra10
      case ha10 => simp only [List.getElem?_toArray, List.getElem?_cons_zero, List.getElem?_cons_succ]; rfl
      case wa10 => rfl
      case ya10 => intro w hSw; (try dsimp only at hSw); go_simp; (try with_reducible rfl)
      simp only [Act.put, List.setIfInBounds_toArray, List.set_cons_zero, List.set_cons_succ]
      refine LastR.run (i := 11) (o := ?oa11) ?ha11 (by kernel_rfl) (fun K hK => ?sa11)
      case ha11 => simp only [List.getElem?_toArray, List.getElem?_cons_zero, List.getElem?_cons_succ]; rfl
      go_simp
      refine hK.out _ _ (fun h => absurd rfl h) (fun _ => ?_)
      clear hK K
      try simp only [Act.put, List.setIfInBounds_toArray, List.set_cons_zero, List.set_cons_succ]
      refine LastR.done (by kernel_rfl) ?_ _
      refine NoPanic.normal ?_
      have hAt : App w5 w.heap.size 5 (hv k) (sideB n c a b k k) (rowL c (b k)) (.slice A6 n6 c6) w6 := by rw [side_at, E1.out]; exact ha
      obtain ⟨hG6, hI6, _⟩ := hGd.grew HI.out hlt (fun j _ => side_pos a b k hn1 j) hk5 hAt
      have hnext : SvI w g n c a b (k + 1) (w6.setCell ⟨g, k, none⟩ (.slice A6 n6 c6)) := by
        refine ⟨⟨_, hG6.eq fun j _ => side_step n c a b k j, hI6⟩, ?_⟩
        have k5 : Kp No w w5 := hR.kp.drew.trans' hk5
        have k6 : Kp No w w6 := k5.trans (ha.kp.mono fun q hq => .inr (hO5.ge q hq))
        exact k6.trans (Kp.setCell (p := ⟨g, k, none⟩) (.inr HB.out) _)
      have HN := hide hnext
      clear hnext hG6 hI6 hAt
      go_wp2_with fail
      go_round
      case rel => exact ⟨k + 1, by omega, by go_num, HN.out⟩
      case measure => simp [intOf]; omega
    · obtain rfl : k = n := by omega
      obtain ⟨hv, hG, hI⟩ := hR.ex
      have hG2 : Grd wr w.heap.size g k hv fun j => rowL (k + c) (catF k a b j) := hG.eq fun j hj => by unfold sideB; rw [if_pos hj]
      have HI := hide hI
      clear hI hG
      go_wp2_with fail
      refine (reduce_any hG2 HI.out (by omega) (by omega) k (by omega)).mono ?_
      rintro e w5 ⟨rfl, hv5, hG5, hI5, hk5⟩
      clear hI5
      have k5 : Kp No w w5 := hR.kp.own hk5
      rw [HK.out]
      by_cases hrk : (redS k a k).rk < k
      · go_wp2_with fail
        go_ret2
        exact .inl ⟨hrk, rfl, k5⟩
      · have HRK : Hid ((redS k a k).rk = k) := by show (redS k a k).rk = k; omega
        obtain ⟨bl, cp, hW, hcp⟩ := SwI.start hG5 hn1 k5
        have HCP := hide hcp
        clear hcp hle
        go_wp2_with fail
        go_loopw [67] (fun i wr => ∃ q : Nat, q ≤ k ∧ i = .int .i64 (q : Int) ∧ SwI w w.heap.size g k c bl cp (redS k (catF k a b) k).f q wr) (fun i _ => k - (intOf i).toNat)
        case atStart => exact ⟨0, Nat.zero_le _, rfl, hW⟩
        case round =>
          obtain ⟨q, hq, rfl, hQ⟩ := hrel
          by_cases hlq : q < k
          · have x1 := hQ.out.cell hlq
            rw [if_neg (Nat.lt_irrefl q)] at x1
            have x2 := hQ.out.frozen q
            have x3 := HCP.out q hlq
            have HN := hide (hQ.step hlq HB.out)
            go_wp2_with fail
            go_round
            case rel => exact ⟨q + 1, by omega, by go_num, HN.out⟩
            case measure => simp [intOf]; omega
          · obtain rfl : q = k := by omega
            go_wp2_with fail
            refine (of_yes hQ.rws (matL_rect _ hn1 hn2 hc1 hc2)).mono ?_
            intro e w6 hp
            have hp2 : NewPost w q c (offF q (redS q (catF q a b) q).f) e w6 := (hp.later hQ.kp).eqF (fnL_matL _)
            clear hp
            obtain ⟨m6, rfl, h6, g1, g2, k6⟩ := hp2
            go_wp2_with fail
            go_ret2
            exact .inr ⟨HRK.out, m6, rfl, h6, g1, g2, k6⟩
end Go.Proofs.Ytbkelijmdpoanaa
