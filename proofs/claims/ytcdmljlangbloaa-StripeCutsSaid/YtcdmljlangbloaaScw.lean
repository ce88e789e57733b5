/- StripeCuts: the stripes of every object, what any rows are, joined, and that what is cut is joined as it was. -/
import Derived.Test.YtcdmljlangbloaaStf
import Derived.Test.YtcdmljlangbloaaMsb
import Derived.Test.YtcdmljlangbloaaEwR
namespace Go.Proofs.Ytcdmljlangbloaa
open Go.RowKit
set_option linter.unusedVariables false
set_option linter.unusedSimpArgs false
set_option maxRecDepth 100000

theorem rowL_add (a b : Nat) (G : Nat → UInt8) : rowL (a + b) G = rowL a G ++ rowL b fun j => G (a + j) := by
  unfold rowL
  rw [List.range_add, List.map_append, List.map_map]
  rfl
theorem matL_flat (c f : Nat) (G : Nat → UInt8) : (matL c f fun i j => G (i * f + j)).flatten = rowL (c * f) G := by
  induction c with
  | zero => simp [matL, rowL]
  | succ c ih =>
    have e : (matL (c + 1) f fun i j => G (i * f + j)) = (matL c f fun i j => G (i * f + j)) ++ [rowL f fun j => G (c * f + j)] := by
      unfold matL
      rw [List.range_succ, List.map_append]
      rfl
    rw [e, List.flatten_append, ih, Nat.add_mul, Nat.one_mul, rowL_add]
    simp
theorem rowL_take {n l : Nat} (G : Nat → UInt8) (h : l ≤ n) : (rowL n G).take l = rowL l G := by
  unfold rowL
  rw [← List.map_take, List.take_range, Nat.min_eq_left h]
theorem cut_back {bs : List UInt8} {c f : Nat} (h : bs.length ≤ c * f) : (matL c f fun i j => lg bs (i * f + j)).flatten.take bs.length = bs := by
  rw [matL_flat, rowL_take _ h, rowL_lg]
theorem matL_fit (c f : Nat) (F : Nat → Nat → UInt8) : FitR (matL c f F) c f := by
  refine ⟨matL_len _ _ _, fun j bs hj => ?_⟩
  have hjl : j < c := by have := (List.getElem?_eq_some_iff.1 hj).1; rwa [matL_len] at this
  rw [matL_get _ hjl] at hj
  injection hj with hj
  subst hj
  exact rowL_len _ _
/-- What Join says of any rows: the bytes, or an error. -/
inductive JnR (bss : List (List UInt8)) (c f l : Nat) : List UInt8 → Bool → Prop
  | yes (h : FitR bss c f) : JnR bss c f l (bss.flatten.take l) true
  | no (h : bss.length ≠ c) : JnR bss c f l [] false
  | bad (h : bss.length = c) (z : Nat) (bz : List UInt8) (hz : bss[z]? = some bz) (hn : bz.length ≠ f) : JnR bss c f l [] false
theorem jnR_ex (bss : List (List UInt8)) (c f l : Nat) : ∃ bs b, JnR bss c f l bs b := by
  by_cases h : bss.length = c
  · by_cases hall : ∀ (j : Nat) bs, bss[j]? = some bs → bs.length = f
    · exact ⟨_, _, .yes ⟨h, hall⟩⟩
    · simp only [Classical.not_forall] at hall
      obtain ⟨j, bs, hj, hne⟩ := hall
      exact ⟨_, _, .bad h j bs hj hne⟩
  · exact ⟨_, _, .no h⟩
/-- Bytes and a word on them. -/
def JPost (w : World) (bs : List UInt8) (k : Value) (e : Ending) (w1 : World) : Prop := ∃ A n cp, e = .returned (.tuple #[.slice A n cp, k]) ∧ Bts w1 (.slice A n cp) bs ∧ Kp No w w1
theorem ErrPost.j {w : World} {k : Value} {e : Ending} {w1 : World} (h : ErrPost w k e w1) : JPost w [] k e w1 := ⟨none, 0, 0, h.1, Bts.nil _, h.2⟩
theorem BtsPost.j {w : World} {n : Nat} {bs : List UInt8} {k : Value} {e : Ending} {w1 : World} (h : BtsPost w n bs k e w1) : JPost w bs k e w1 := by
  obtain ⟨A, cp, h1, h2, h3⟩ := h
  exact ⟨A, n, cp, h1, h2, h3⟩
def jE (b : Bool) : Value := .int .i64 (if b then 0 else 1)
section
variable {w : World} {g n k a d q : Nat} {x : Nat → UInt8}
theorem join_any (h : CodeAt w g n k x) (hD : Dim n k a d q) {l c p cp m : Nat} {A : Option Addr} {bss : List (List UInt8)} {bs : List UInt8} {b : Bool} (hR : Rws w A m bss) (hP : Pln q l c p) (hJ : JnR bss c (q * p) l bs b) (hsm : ∀ (j : Nat) bs, bss[j]? = some bs → bs.length ≤ 1000000) :
    Calls Try.prog 19 #[cptr g, plV (l : Int) (c : Int) (p : Int), .slice A m cp] w (JPost w bs (jE b)) := by
  have hl := hR.len
  cases hJ with
  | yes hF => obtain rfl : m = c := by rw [hl, hF.1]
              exact (join_yes h hD hR hP rfl hF).mono fun _ _ h => h.j
  | no hc => exact (join_count w h hD l p (by rw [hl]; exact hc)).mono fun _ _ h => h.j
  | bad hc z bz hz hn => obtain rfl : m = c := by rw [hl, hc]
                         exact (join_bad h hD hR hP rfl hz hn hsm).mono fun _ _ h => h.j
theorem rjoin_any (hD : Dim n k a d q) {l c p cp m : Nat} {A : Option Addr} {bss : List (List UInt8)} {bs : List UInt8} {b : Bool} (hR : Rws w A m bss) (hP : Pln q l c p) (hJ : JnR bss c (q * p) l bs b) (hsm : ∀ (j : Nat) bs, bss[j]? = some bs → bs.length ≤ 1000000) :
    Calls Try.prog 20 #[.int .i64 (k : Int), plV (l : Int) (c : Int) (p : Int), .slice A m cp] w (JPost w bs (.bool b)) := by
  have hl := hR.len
  cases hJ with
  | yes hF => obtain rfl : m = c := by rw [hl, hF.1]
              exact (rjoin_yes hD hR hP rfl hF).mono fun _ _ h => h.j
  | no hc => exact (rjoin_count w k l p (by rw [hl]; exact hc)).mono fun _ _ h => h.j
  | bad hc z bz hz hn => obtain rfl : m = c := by rw [hl, hc]
                         exact (rjoin_bad hD hR hP rfl hz hn hsm).mono fun _ _ h => h.j
/-- Cut says an error's number. -/
def CtPost (w : World) (k : Int) (e : Ending) (w1 : World) : Prop := ∃ A n cp, e = .returned (.tuple #[.slice A n cp, .int .i64 k]) ∧ Kp No w w1
theorem cut_any (h : CodeAt w g n k x) (hD : Dim n k a d q) {l c p cp m : Nat} {A : Option Addr} {bs : List UInt8} (hB : Bts w (.slice A m cp) bs) (hcap : m ≤ cp) (hP : Pln q l c p) :
    Calls Try.prog 16 #[cptr g, plV (l : Int) (c : Int) (p : Int), .slice A m cp] w (CtPost w (if m = l then 0 else 1)) := by
  by_cases e : m = l
  · subst e
    rw [if_pos rfl]
    exact (cut_yes h hD hB hcap hP rfl).mono fun _ _ ⟨A, cp, h1, _, h2⟩ => ⟨A, _, cp, h1, h2⟩
  · rw [if_neg e]
    exact (cut_err w h hD l c p (.inl (by omega))).mono fun _ _ ⟨h1, h2⟩ => ⟨none, 0, 0, h1, h2⟩
end
section
variable {w : World} {A B : Option Addr} {m cp r cr : Nat} {bs : List UInt8} {bss : List (List UInt8)}
theorem scuts_not (n k pc len : Int) (h : ¬ (Rgt n k ∧ n ≤ 12 ∧ k ≤ 4)) : Calls Try.prog 4 #[.int .i64 n, .int .i64 k, .int .i64 pc, .slice A m cp, .slice B r cr, .int .i64 len] w (R8 w) := by
  have hs := small8_no n k w h
  clear h
  go_enter Try.func4, Try.ntmps4
  go_wp2_with fail
  refine hs.mono ?_
  rintro e w' ⟨rfl, rfl⟩
  clear hs
  go_wp2_with fail
  refine (awake8_any _).mono ?_
  rintro e w9 ⟨rfl, k9⟩
  go_wp2_with fail
  go_ret
  exact ⟨rfl, k9.below0⟩
theorem scuts_long (n k pc len : Int) (hR : Rgt n k) (h1 : n ≤ 12) (h2 : k ≤ 4) (h3 : 400 < m) : Calls Try.prog 4 #[.int .i64 n, .int .i64 k, .int .i64 pc, .slice A m cp, .slice B r cr, .int .i64 len] w (R8 w) := by
  have hs := small8_yes n k w hR h1 h2
  clear hR
  go_enter Try.func4, Try.ntmps4
  go_wp2_with fail
  refine hs.mono ?_
  rintro e w' ⟨rfl, rfl⟩
  clear hs
  go_wp2_with fail
  refine (awake8_any _).mono ?_
  rintro e w9 ⟨rfl, k9⟩
  go_wp2_with fail
  go_ret
  exact ⟨rfl, k9.below0⟩
theorem scuts_many (n k pc len : Int) (hR : Rgt n k) (h1 : n ≤ 12) (h2 : k ≤ 4) (h3 : m ≤ 400) (h4 : 40 < r) : Calls Try.prog 4 #[.int .i64 n, .int .i64 k, .int .i64 pc, .slice A m cp, .slice B r cr, .int .i64 len] w (R8 w) := by
  have hs := small8_yes n k w hR h1 h2
  clear hR
  go_enter Try.func4, Try.ntmps4
  go_wp2_with fail
  refine hs.mono ?_
  rintro e w' ⟨rfl, rfl⟩
  clear hs
  go_wp2_with fail
  refine (awake8_any _).mono ?_
  rintro e w9 ⟨rfl, k9⟩
  go_wp2_with fail
  go_ret
  exact ⟨rfl, k9.below0⟩
set_option maxHeartbeats 1000000 in
theorem scuts_row (n k pc len : Int) (hR : Rgt n k) (h1 : n ≤ 12) (h2 : k ≤ 4) (h3 : m ≤ 400) (h4 : r ≤ 40) (hL : Rws w B r bss) {z : Nat} {bz : List UInt8} (hz : bss[z]? = some bz) (hzn : 400 < bz.length) : Calls Try.prog 4 #[.int .i64 n, .int .i64 k, .int .i64 pc, .slice A m cp, .slice B r cr, .int .i64 len] w (R8 w) := by
  have hs := small8_yes n k w hR h1 h2
  have hzr : z < r := by rw [hL.len]; exact (List.getElem?_eq_some_iff.1 hz).1
  have HZ := hide hz
  have HZN := hide hzn
  clear hR hz hzn
  go_enter Try.func4, Try.ntmps4
  go_wp2_with fail
  refine hs.mono ?_
  rintro e w' ⟨rfl, rfl⟩
  clear hs
  go_wp2_with fail
  go_loop [13] (fun iv => ∃ i : Nat, i ≤ z ∧ iv = .int .i64 (i : Int)) (fun iv => r - (intOf iv).toNat)
  case atStart => exact ⟨0, Nat.zero_le _, rfl⟩
  case round =>
    obtain ⟨i, hi, rfl⟩ := hrel
    have hlt : i < r := by omega
    obtain ⟨B3, off, A3, m3, c3, bs3, rfl, e3, hb3, hB3⟩ := hL.get hlt
    have hl3 := hB3.len
    by_cases hm : m3 ≤ 400
    · have hiz : i < z := by
        rcases Nat.lt_or_ge i z with g1 | g1
        · exact g1
        · obtain rfl : i = z := by omega
          have := HZ.out
          rw [hb3] at this
          injection this with this
          subst this
          have := HZN.out
          omega
      clear hb3 hl3 hL
      go_wp2_with fail
      go_round
      case rel => exact ⟨i + 1, by omega, by go_num⟩
      case measure => simp [intOf]; omega
    · have hm : 400 < m3 := by omega
      clear hb3 hl3 hL
      go_wp2_with fail
      refine (awake8_any _).mono ?_
      rintro e w9 ⟨rfl, k9⟩
      go_wp2_with fail
      go_ret
      exact ⟨rfl, k9.below0⟩
set_option maxHeartbeats 8000000 in
theorem scuts_e1 {n k a d q : Nat} {x : Nat → UInt8} (hD : Dim n k a d q) (hX : Pts n a x) (h1 : n ≤ 12) (h2 : k ≤ 4) (h3 : m ≤ 400) (h4 : r ≤ 40) (hL : Rws w B r bss) (hsm : ∀ (j : Nat) bs, bss[j]? = some bs → bs.length ≤ 400) (pc len : Int) {l c p e lz cz pz ez : Nat} (hO : OfR q (m : Int) pc l c p e) (hZ : OfR q len pc lz cz pz ez) (he : e = 1 ∨ e = 29) :
    Calls Try.prog 4 #[.int .i64 (n : Int), .int .i64 (k : Int), .int .i64 pc, .slice A m cp, .slice B r cr, .int .i64 len] w (R8 w) := by
  have hR : Rgt (n : Int) (k : Int) := by have := hD.k_; have := hD.d_; have := hD.n1; have := hD.n2; have := hD.a7; have := hD.a1; unfold Rgt; omega
  have hs := small8_yes (n : Int) (k : Int) w hR (by omega) (by omega)
  have HN := hide (mnew_yes w hD hX)
  have HRO := hide (fun w' => rof_any w' hD hO)
  have HRZ := hide (fun w' => rof_any w' hD hZ)
  have HSM := hide hsm
  have he0 : (((e : Int) != 0)) = true := by rcases he with rfl | rfl <;> rfl
  clear he
  clear hD hX hO hZ hsm hR
  go_enter Try.func4, Try.ntmps4
  go_wp2_with fail
  refine hs.mono ?_
  rintro e w' ⟨rfl, rfl⟩
  clear hs
  go_wp2_with fail
  go_loop [13] (fun iv => ∃ i : Nat, i ≤ r ∧ iv = .int .i64 (i : Int)) (fun iv => r - (intOf iv).toNat)
  case atStart => exact ⟨0, Nat.zero_le _, rfl⟩
  case round =>
    obtain ⟨i, hi, rfl⟩ := hrel
    by_cases hlt : i < r
    · obtain ⟨B3, off, A3, m3, c3, bs3, rfl, e3, hb3, hB3⟩ := hL.get hlt
      have hm : m3 ≤ 400 := by rw [hB3.len]; exact HSM.out i bs3 hb3
      clear hb3 hL
      go_wp2_with fail
      go_round
      case rel => exact ⟨i + 1, by omega, by go_num⟩
      case measure => simp [intOf]; omega
    · obtain rfl : r = i := by omega
      clear hi hlt
      go_wp2_with fail
      refine (HN.out).mono ?_
      rintro e w1 ⟨g, rfl, hC, s1⟩
      have HC := hide (fun w' (hk : Kp No w1 w') => hC.no hk)
      clear hC
      go_wp2_with fail
      refine (HRO.out _).mono ?_
      rintro e w2 ⟨rfl, s2⟩
      go_wp2_with fail
      have t1 := PC.new w2 (l : Int) (c : Int) (p : Int) 32
      have s3 := Kp.alloc No w2 (.cells #[.int .i64 (l : Int), .int .i64 (c : Int), .int .i64 (p : Int)] 32)
      obtain ⟨b1, hb1⟩ : ∃ b1, b1 = w2.heap.size := ⟨_, rfl⟩
      rw [← hb1] at t1 ⊢
      clear hb1
      generalize (w2.alloc (.cells #[.int .i64 (l : Int), .int .i64 (c : Int), .int .i64 (p : Int)] 32)) = w3 at *
      have Hq : Hid (∀ w', Kp No w3 w' → w'.cell? ⟨b1, 0, none⟩ = some (.int .i64 (l : Int)) ∧ w'.cell? ⟨b1, 1, none⟩ = some (.int .i64 (c : Int)) ∧ w'.cell? ⟨b1, 2, none⟩ = some (.int .i64 (p : Int))) := fun w' hk => ⟨(t1.no hk).c0, (t1.no hk).c1, (t1.no hk).c2⟩
      clear t1
      refine (HRZ.out _).mono ?_
      rintro e w4 ⟨rfl, s4⟩
      obtain ⟨q0, q1, q2⟩ := Hq.out (w4.alloc (.cells #[.int .i64 (lz : Int), .int .i64 (cz : Int), .int .i64 (pz : Int)] 32)) (s4.al _)
      go_wp2_with fail
      refine (awake8_any _).mono ?_
      rintro e w9 ⟨rfl, k9⟩
      go_wp2_with fail
      go_ret
      exact ⟨rfl, ((((s1.trans' s2).trans' s3).trans' s4).al _ |>.trans' k9).below0⟩
set_option maxHeartbeats 8000000 in
theorem scuts_e2 {n k a d q : Nat} {x : Nat → UInt8} (hD : Dim n k a d q) (hX : Pts n a x) (h1 : n ≤ 12) (h2 : k ≤ 4) (h3 : m ≤ 400) (h4 : r ≤ 40) (hL : Rws w B r bss) (hsm : ∀ (j : Nat) bs, bss[j]? = some bs → bs.length ≤ 400) (pc len : Int) {l c p e lz cz pz ez : Nat} (hO : OfR q (m : Int) pc l c p e) (hZ : OfR q len pc lz cz pz ez) (he : e = 0) (hez : ez = 1 ∨ ez = 29) :
    Calls Try.prog 4 #[.int .i64 (n : Int), .int .i64 (k : Int), .int .i64 pc, .slice A m cp, .slice B r cr, .int .i64 len] w (R8 w) := by
  have hR : Rgt (n : Int) (k : Int) := by have := hD.k_; have := hD.d_; have := hD.n1; have := hD.n2; have := hD.a7; have := hD.a1; unfold Rgt; omega
  have hs := small8_yes (n : Int) (k : Int) w hR (by omega) (by omega)
  have HN := hide (mnew_yes w hD hX)
  have HRO := hide (fun w' => rof_any w' hD hO)
  have HRZ := hide (fun w' => rof_any w' hD hZ)
  have HSM := hide hsm
  have he0 : (((ez : Int) != 0)) = true := by rcases hez with rfl | rfl <;> rfl
  subst he
  clear hez
  clear hD hX hO hZ hsm hR
  go_enter Try.func4, Try.ntmps4
  go_wp2_with fail
  refine hs.mono ?_
  rintro e w' ⟨rfl, rfl⟩
  clear hs
  go_wp2_with fail
  go_loop [13] (fun iv => ∃ i : Nat, i ≤ r ∧ iv = .int .i64 (i : Int)) (fun iv => r - (intOf iv).toNat)
  case atStart => exact ⟨0, Nat.zero_le _, rfl⟩
  case round =>
    obtain ⟨i, hi, rfl⟩ := hrel
    by_cases hlt : i < r
    · obtain ⟨B3, off, A3, m3, c3, bs3, rfl, e3, hb3, hB3⟩ := hL.get hlt
      have hm : m3 ≤ 400 := by rw [hB3.len]; exact HSM.out i bs3 hb3
      clear hb3 hL
      go_wp2_with fail
      go_round
      case rel => exact ⟨i + 1, by omega, by go_num⟩
      case measure => simp [intOf]; omega
    · obtain rfl : r = i := by omega
      clear hi hlt
      go_wp2_with fail
      refine (HN.out).mono ?_
      rintro e w1 ⟨g, rfl, hC, s1⟩
      have HC := hide (fun w' (hk : Kp No w1 w') => hC.no hk)
      clear hC
      go_wp2_with fail
      refine (HRO.out _).mono ?_
      rintro e w2 ⟨rfl, s2⟩
      go_wp2_with fail
      have t1 := PC.new w2 (l : Int) (c : Int) (p : Int) 32
      have s3 := Kp.alloc No w2 (.cells #[.int .i64 (l : Int), .int .i64 (c : Int), .int .i64 (p : Int)] 32)
      obtain ⟨b1, hb1⟩ : ∃ b1, b1 = w2.heap.size := ⟨_, rfl⟩
      rw [← hb1] at t1 ⊢
      clear hb1
      generalize (w2.alloc (.cells #[.int .i64 (l : Int), .int .i64 (c : Int), .int .i64 (p : Int)] 32)) = w3 at *
      have Hq : Hid (∀ w', Kp No w3 w' → w'.cell? ⟨b1, 0, none⟩ = some (.int .i64 (l : Int)) ∧ w'.cell? ⟨b1, 1, none⟩ = some (.int .i64 (c : Int)) ∧ w'.cell? ⟨b1, 2, none⟩ = some (.int .i64 (p : Int))) := fun w' hk => ⟨(t1.no hk).c0, (t1.no hk).c1, (t1.no hk).c2⟩
      clear t1
      refine (HRZ.out _).mono ?_
      rintro e w4 ⟨rfl, s4⟩
      obtain ⟨q0, q1, q2⟩ := Hq.out (w4.alloc (.cells #[.int .i64 (lz : Int), .int .i64 (cz : Int), .int .i64 (pz : Int)] 32)) (s4.al _)
      go_wp2_with fail
      refine (awake8_any _).mono ?_
      rintro e w9 ⟨rfl, k9⟩
      go_wp2_with fail
      go_ret
      exact ⟨rfl, ((((s1.trans' s2).trans' s3).trans' s4).al _ |>.trans' k9).below0⟩
set_option maxHeartbeats 8000000 in
theorem scuts_main {n k a d q : Nat} {x : Nat → UInt8} (hD : Dim n k a d q) (hX : Pts n a x) (h1 : n ≤ 12) (h2 : k ≤ 4) (h3 : m ≤ 400) (h4 : r ≤ 40) (hL : Rws w B r bss) (hsm : ∀ (j : Nat) bs, bss[j]? = some bs → bs.length ≤ 400) (pc len : Int) {l c p e lz cz pz ez : Nat} (hO : OfR q (m : Int) pc l c p e) (hZ : OfR q len pc lz cz pz ez) (hB : Bts w (.slice A m cp) bs) (hcap : m ≤ cp) (he : e = 0) (hez : ez = 0) {y : List UInt8} {jb : Bool} (hJ : JnR bss cz (q * pz) lz y jb) :
    Calls Try.prog 4 #[.int .i64 (n : Int), .int .i64 (k : Int), .int .i64 pc, .slice A m cp, .slice B r cr, .int .i64 len] w (R8 w) := by
  have hR : Rgt (n : Int) (k : Int) := by have := hD.k_; have := hD.d_; have := hD.n1; have := hD.n2; have := hD.a7; have := hD.a1; unfold Rgt; omega
  have hs := small8_yes (n : Int) (k : Int) w hR (by omega) (by omega)
  have HN := hide (mnew_yes w hD hX)
  have HRO := hide (fun w' => rof_any w' hD hO)
  have HRZ := hide (fun w' => rof_any w' hD hZ)
  have HSM := hide hsm
  subst he hez
  have hP := hO.pln hD.q56.1
  have hPz := hZ.pln hD.q56.1
  obtain rfl : m = l := by rcases hO.err with ⟨_, h⟩ | ⟨h, _⟩ <;> omega
  obtain rfl : len = (lz : Int) := by rcases hZ.err with ⟨_, h⟩ | ⟨h, _⟩ <;> omega
  have hbl := hB.len
  have HB := hide (fun w' (hk : Kp No w w') => hB.no hk)
  have HCUT := hide (fun w' g (hC : CodeAt w' g n k x) (hk : Kp No w w') => cut_yes hC hD (hB.no hk) hcap hP rfl)
  have HRCUT := hide (fun w' (hk : Kp No w w') => rcut_any hD (hB.no hk) hP rfl)
  have HJ1 := hide (fun w' g (hC : CodeAt w' g n k x) A' c' (f : Nat → Nat → UInt8) (hR : Rws w' A' c (matL c (q * p) f)) => (join_yes (cp := c') hC hD hR hP rfl (matL_fit _ _ _)).mono fun _ _ h => h.j)
  have HJ2 := hide (fun w' g (hC : CodeAt w' g n k x) (hk : Kp No w w') => join_any (cp := cr) hC hD (hL.no hk) hPz hJ fun j bs h => Nat.le_trans (hsm j bs h) (by omega))
  have HRJ := hide (fun w' (hk : Kp No w w') => rjoin_any (cp := cr) hD (hL.no hk) hPz hJ fun j bs h => Nat.le_trans (hsm j bs h) (by omega))
  obtain ⟨ct, hct⟩ : ∃ ct : Int, ct = if m = lz then 0 else 1 := ⟨_, rfl⟩
  have HCA := hide (fun w' g (hC : CodeAt w' g n k x) (hk : Kp No w w') => cut_any hC hD (hB.no hk) hcap hPz)
  rw [← hct] at HCA
  have HCT : Hid ((lz = m ∧ ct = 0) ∨ (lz ≠ m ∧ ct = 1)) := by
    show (lz = m ∧ ct = 0) ∨ (lz ≠ m ∧ ct = 1)
    by_cases e : m = lz
    · rw [if_pos e] at hct; exact .inl ⟨e.symm, hct⟩
    · rw [if_neg e] at hct; exact .inr ⟨fun h => e h.symm, hct⟩
  have HCE := hide (fun w' g (hC : CodeAt w' g n k x) => cut_err (A := none) (m := 0) (cp := 0) w' hC hD 0 0 0 (.inr (by omega)))
  have hbk : (matL c (q * p) fun i j => lg bs (i * (q * p) + j)).flatten.take m = bs := by
    have := cut_back (bs := bs) (c := c) (f := q * p) (by rw [← hbl]; exact hP.cov)
    rw [← hbl] at this
    exact this
  obtain ⟨tt, htt⟩ : ∃ tt, tt = strOf bs := ⟨_, rfl⟩
  have HT := hide htt
  obtain ⟨t2, htt2⟩ : ∃ t2, t2 = strOf y := ⟨_, rfl⟩
  have HT2 := hide htt2
  have HBK := hide hbk
  have hc32 := hP.c32
  clear htt htt2 hbk hbl hJ hP hPz hB hct
  clear hD hX hO hZ hsm hR
  go_enter Try.func4, Try.ntmps4
  go_wp2_with fail
  refine hs.mono ?_
  rintro e w' ⟨rfl, rfl⟩
  clear hs
  go_wp2_with fail
  go_loop [13] (fun iv => ∃ i : Nat, i ≤ r ∧ iv = .int .i64 (i : Int)) (fun iv => r - (intOf iv).toNat)
  case atStart => exact ⟨0, Nat.zero_le _, rfl⟩
  case round =>
    obtain ⟨i, hi, rfl⟩ := hrel
    by_cases hlt : i < r
    · obtain ⟨B3, off, A3, m3, c3, bs3, rfl, e3, hb3, hB3⟩ := hL.get hlt
      have hm : m3 ≤ 400 := by rw [hB3.len]; exact HSM.out i bs3 hb3
      clear hb3 hL
      go_wp2_with fail
      go_round
      case rel => exact ⟨i + 1, by omega, by go_num⟩
      case measure => simp [intOf]; omega
    · obtain rfl : r = i := by omega
      clear hi hlt
      go_wp2_with fail
      refine (HN.out).mono ?_
      rintro e w1 ⟨g, rfl, hC, s1⟩
      have HC := hide (fun w' (hk : Kp No w1 w') => hC.no hk)
      clear hC
      go_wp2_with fail
      refine (HRO.out _).mono ?_
      rintro e w2 ⟨rfl, s2⟩
      go_wp2_with fail
      have t1 := PC.new w2 (m : Int) (c : Int) (p : Int) 32
      have s3 := Kp.alloc No w2 (.cells #[.int .i64 (m : Int), .int .i64 (c : Int), .int .i64 (p : Int)] 32)
      obtain ⟨b1, hb1⟩ : ∃ b1, b1 = w2.heap.size := ⟨_, rfl⟩
      rw [← hb1] at t1 ⊢
      clear hb1
      generalize (w2.alloc (.cells #[.int .i64 (m : Int), .int .i64 (c : Int), .int .i64 (p : Int)] 32)) = w3 at *
      have Hq : Hid (∀ w', Kp No w3 w' → w'.cell? ⟨b1, 0, none⟩ = some (.int .i64 (m : Int)) ∧ w'.cell? ⟨b1, 1, none⟩ = some (.int .i64 (c : Int)) ∧ w'.cell? ⟨b1, 2, none⟩ = some (.int .i64 (p : Int))) := fun w' hk => ⟨(t1.no hk).c0, (t1.no hk).c1, (t1.no hk).c2⟩
      clear t1
      refine (HRZ.out _).mono ?_
      rintro e w4 ⟨rfl, s4⟩
      obtain ⟨q0, q1, q2⟩ := Hq.out (w4.alloc (.cells #[.int .i64 (lz : Int), .int .i64 (cz : Int), .int .i64 (pz : Int)] 32)) (s4.al _)
      go_wp2_with fail
      clear q0 q1 q2
      have t2 := PC.new w4 (lz : Int) (cz : Int) (pz : Int) 32
      have s5 := Kp.alloc No w4 (.cells #[.int .i64 (lz : Int), .int .i64 (cz : Int), .int .i64 (pz : Int)] 32)
      obtain ⟨b2, hb2⟩ : ∃ b2, b2 = w4.heap.size := ⟨_, rfl⟩
      rw [← hb2] at t2 ⊢
      clear hb2
      generalize (w4.alloc (.cells #[.int .i64 (lz : Int), .int .i64 (cz : Int), .int .i64 (pz : Int)] 32)) = w5 at *
      have Hz : Hid (∀ w', Kp No w5 w' → w'.cell? ⟨b2, 0, none⟩ = some (.int .i64 (lz : Int)) ∧ w'.cell? ⟨b2, 1, none⟩ = some (.int .i64 (cz : Int)) ∧ w'.cell? ⟨b2, 2, none⟩ = some (.int .i64 (pz : Int))) := fun w' hk => ⟨(t2.no hk).c0, (t2.no hk).c1, (t2.no hk).c2⟩
      clear t2
      refine (to_any _ _ _ _).mono ?_
      rintro e w6 ⟨rfl, s6⟩
      go_wp2_with fail
      refine (HCUT.out _ _ (HC.out _ ((((s2.trans' s3).trans' s4).trans' s5).trans' s6)) (((((s1.trans' s2).trans' s3).trans' s4).trans' s5).trans' s6)).mono ?_
      rintro e w7 ⟨A7, c7, rfl, hR7, s7⟩
      have H7 := hide (fun w' (hk : Kp No w7 w') => hR7.no hk)
      clear hR7
      obtain ⟨q0, q1, q2⟩ := Hq.out _ (((s4.trans' s5).trans' s6).trans' s7)
      go_wp2_with fail
      clear q0 q1 q2
      refine (HRCUT.out _ ((((((s1.trans' s2).trans' s3).trans' s4).trans' s5).trans' s6).trans' s7)).mono ?_
      rintro e w8 ⟨A8, c8, rfl, hR8, s8⟩
      go_wp2_with fail
      refine (rs6_any (H7.out _ s8) hR8 (by omega) (by omega)).mono ?_
      rintro e w9 ⟨rfl, m9⟩
      have s9 : Kp No w8 w9 := m9.kp
      clear m9 hR8
      rw [eqR_self]
      obtain ⟨q0, q1, q2⟩ := Hq.out _ (((((s4.trans' s5).trans' s6).trans' s7).trans' s8).trans' s9)
      go_wp2_with fail
      clear q0 q1 q2
      refine (to_any _ _ _ _).mono ?_
      rintro e w10 ⟨rfl, s10⟩
      go_wp2_with fail
      refine (HJ1.out _ _ (HC.out _ ((((((((s2.trans' s3).trans' s4).trans' s5).trans' s6).trans' s7).trans' s8).trans' s9).trans' s10)) _ _ _ (H7.out _ ((s8.trans' s9).trans' s10))).mono ?_
      rintro e w11 ⟨A11, n11, c11, rfl, hB11, s11⟩
      rw [HBK.out] at hB11
      have v1 := conv_bts hB11
      have v2 := conv_bts (HB.out _ ((((((((((s1.trans' s2).trans' s3).trans' s4).trans' s5).trans' s6).trans' s7).trans' s8).trans' s9).trans' s10).trans' s11))
      rw [← HT.out] at v1 v2
      obtain ⟨z0, z1, z2⟩ := Hz.out _ (((((s6.trans' s7).trans' s8).trans' s9).trans' s10).trans' s11)
      go_wp2_with fail
      clear z0 z1 z2
      clear v1 v2 hB11
      refine (to_any _ _ _ _).mono ?_
      rintro e w12 ⟨rfl, s12⟩
      go_wp2_with fail
      refine (HJ2.out _ _ (HC.out _ ((((((((((s2.trans' s3).trans' s4).trans' s5).trans' s6).trans' s7).trans' s8).trans' s9).trans' s10).trans' s11).trans' s12)) (((((((((((s1.trans' s2).trans' s3).trans' s4).trans' s5).trans' s6).trans' s7).trans' s8).trans' s9).trans' s10).trans' s11).trans' s12)).mono ?_
      rintro e w13 ⟨A13, n13, c13, rfl, hB13, s13⟩
      have H13 := hide (fun w' (hk : Kp No w13 w') => hB13.no hk)
      clear hB13
      obtain ⟨z0, z1, z2⟩ := Hz.out _ (((((((s6.trans' s7).trans' s8).trans' s9).trans' s10).trans' s11).trans' s12).trans' s13)
      go_wp2_with fail
      clear z0 z1 z2
      refine (HRJ.out _ ((((((((((((s1.trans' s2).trans' s3).trans' s4).trans' s5).trans' s6).trans' s7).trans' s8).trans' s9).trans' s10).trans' s11).trans' s12).trans' s13)).mono ?_
      rintro e w14 ⟨A14, n14, c14, rfl, hB14, s14⟩
      have H14 := hide (fun w' (hk : Kp No w14 w') => hB14.no hk)
      clear hB14
      obtain ⟨z0, z1, z2⟩ := Hz.out _ ((((((((s6.trans' s7).trans' s8).trans' s9).trans' s10).trans' s11).trans' s12).trans' s13).trans' s14)
      go_wp2_with fail
      clear z0 z1 z2
      refine (to_any _ _ _ _).mono ?_
      rintro e w15 ⟨rfl, s15⟩
      go_wp2_with fail
      refine (HCA.out _ _ (HC.out _ (((((((((((((s2.trans' s3).trans' s4).trans' s5).trans' s6).trans' s7).trans' s8).trans' s9).trans' s10).trans' s11).trans' s12).trans' s13).trans' s14).trans' s15)) ((((((((((((((s1.trans' s2).trans' s3).trans' s4).trans' s5).trans' s6).trans' s7).trans' s8).trans' s9).trans' s10).trans' s11).trans' s12).trans' s13).trans' s14).trans' s15)).mono ?_
      rintro e w16 ⟨A16, n16, c16, rfl, s16⟩
      obtain ⟨q0, q1, q2⟩ := Hq.out _ ((((((((((((s4.trans' s5).trans' s6).trans' s7).trans' s8).trans' s9).trans' s10).trans' s11).trans' s12).trans' s13).trans' s14).trans' s15).trans' s16)
      go_wp2_with fail
      clear q0 q1 q2
      refine (to_any _ _ _ _).mono ?_
      rintro e w17 ⟨rfl, s17⟩
      go_wp2_with fail
      refine (cut_nil _ _ _ _ _ _ _).mono ?_
      rintro e w18 ⟨rfl, s18⟩
      obtain ⟨q0, q1, q2⟩ := Hq.out _ ((((((((((((((s4.trans' s5).trans' s6).trans' s7).trans' s8).trans' s9).trans' s10).trans' s11).trans' s12).trans' s13).trans' s14).trans' s15).trans' s16).trans' s17).trans' s18)
      go_wp2_with fail
      clear q0 q1 q2
      refine (to_any _ _ _ _).mono ?_
      rintro e w19 ⟨rfl, s19⟩
      go_wp2_with fail
      refine (join_nil _ _ _ _ _ _ _).mono ?_
      rintro e w20 ⟨rfl, s20⟩
      go_wp2_with fail
      refine (HCE.out _ _ (HC.out _ ((((((((((((((((((s2.trans' s3).trans' s4).trans' s5).trans' s6).trans' s7).trans' s8).trans' s9).trans' s10).trans' s11).trans' s12).trans' s13).trans' s14).trans' s15).trans' s16).trans' s17).trans' s18).trans' s19).trans' s20))).mono ?_
      rintro e w21 ⟨rfl, s21⟩
      have v1 := conv_bts (H13.out _ (((((((s14.trans' s15).trans' s16).trans' s17).trans' s18).trans' s19).trans' s20).trans' s21))
      have v2 := conv_bts (H14.out _ ((((((s15.trans' s16).trans' s17).trans' s18).trans' s19).trans' s20).trans' s21))
      rw [← HT2.out] at v1 v2
      have j1 : jE true = .int .i64 0 := rfl
      have j0 : jE false = .int .i64 1 := rfl
      rcases HCT.out with ⟨rfl, rfl⟩ | ⟨hne, rfl⟩
      · cases jb
        · go_wp2_with fail
          refine (awake8_any _).mono ?_
          rintro e w9 ⟨rfl, k9⟩
          go_wp2_with fail
          go_ret
          exact ⟨rfl, (((((((((((((((((((((s1.trans' s2).trans' s3).trans' s4).trans' s5).trans' s6).trans' s7).trans' s8).trans' s9).trans' s10).trans' s11).trans' s12).trans' s13).trans' s14).trans' s15).trans' s16).trans' s17).trans' s18).trans' s19).trans' s20).trans' s21).trans' k9).below0⟩
        · go_wp2_with fail
          refine (awake8_any _).mono ?_
          rintro e w9 ⟨rfl, k9⟩
          go_wp2_with fail
          go_ret
          exact ⟨rfl, (((((((((((((((((((((s1.trans' s2).trans' s3).trans' s4).trans' s5).trans' s6).trans' s7).trans' s8).trans' s9).trans' s10).trans' s11).trans' s12).trans' s13).trans' s14).trans' s15).trans' s16).trans' s17).trans' s18).trans' s19).trans' s20).trans' s21).trans' k9).below0⟩
      · have hne2 : ((lz : Int) == (m : Int)) = false := by simp; omega
        clear hne
        cases jb
        · go_wp2_with fail
          refine (awake8_any _).mono ?_
          rintro e w9 ⟨rfl, k9⟩
          go_wp2_with fail
          go_ret
          exact ⟨rfl, (((((((((((((((((((((s1.trans' s2).trans' s3).trans' s4).trans' s5).trans' s6).trans' s7).trans' s8).trans' s9).trans' s10).trans' s11).trans' s12).trans' s13).trans' s14).trans' s15).trans' s16).trans' s17).trans' s18).trans' s19).trans' s20).trans' s21).trans' k9).below0⟩
        · go_wp2_with fail
          refine (awake8_any _).mono ?_
          rintro e w9 ⟨rfl, k9⟩
          go_wp2_with fail
          go_ret
          exact ⟨rfl, (((((((((((((((((((((s1.trans' s2).trans' s3).trans' s4).trans' s5).trans' s6).trans' s7).trans' s8).trans' s9).trans' s10).trans' s11).trans' s12).trans' s13).trans' s14).trans' s15).trans' s16).trans' s17).trans' s18).trans' s19).trans' s20).trans' s21).trans' k9).below0⟩
end
theorem stripecuts_walk {w : World} {A B : Option Addr} {m cp r cr : Nat} {bs : List UInt8} {bss : List (List UInt8)} (n k pc len : Int) (hB : Bts w (.slice A m cp) bs) (hcap : m ≤ cp) (hL : Rws w B r bss) : Calls Try.prog 4 #[.int .i64 n, .int .i64 k, .int .i64 pc, .slice A m cp, .slice B r cr, .int .i64 len] w fun e w' => e = .returned (.bool true) ∧ Below w.heap.size w w' := by
  show Calls _ _ _ _ (R8 w)
  by_cases h : Rgt n k ∧ n ≤ 12 ∧ k ≤ 4
  · obtain ⟨hR, h1, h2⟩ := h
    by_cases h3 : m ≤ 400
    · by_cases h4 : r ≤ 40
      · by_cases hall : ∀ (j : Nat) bs, bss[j]? = some bs → bs.length ≤ 400
        · obtain ⟨r1, r2, r3, r4⟩ := hR
          obtain ⟨n', rfl⟩ : ∃ n' : Nat, n = n' := ⟨n.toNat, by omega⟩
          obtain ⟨k', rfl⟩ : ∃ k' : Nat, k = k' := ⟨k.toNat, by omega⟩
          obtain ⟨a, d, q, hD⟩ := dim_of (n := n') (k := k') (by omega) (by omega) (by omega) (by omega)
          obtain ⟨x, hX⟩ := pts_ex (n := n') hD.a1 hD.a7 hD.n2
          have hq := hD.q56
          obtain ⟨l, c, p, e, hO⟩ := ofR_ex q (by omega) (m : Int) pc
          obtain ⟨lz, cz, pz, ez, hZ⟩ := ofR_ex q (by omega) len pc
          rcases hO.err with ⟨he, _⟩ | ⟨he, _⟩
          · rcases hZ.err with ⟨hz, _⟩ | ⟨hz, _⟩
            · obtain ⟨y, jb, hJ⟩ := jnR_ex bss cz (q * pz) lz
              exact scuts_main hD hX (by omega) (by omega) h3 h4 hL hall pc len hO hZ hB hcap he hz hJ
            · exact scuts_e2 hD hX (by omega) (by omega) h3 h4 hL hall pc len hO hZ he hz
          · exact scuts_e1 hD hX (by omega) (by omega) h3 h4 hL hall pc len hO hZ he
        · simp only [Classical.not_forall] at hall
          obtain ⟨j, bz, hj, hne⟩ := hall
          exact scuts_row n k pc len hR h1 h2 h3 h4 hL hj (by omega)
      · exact scuts_many n k pc len hR h1 h2 h3 (by omega)
    · exact scuts_long n k pc len hR h1 h2 (by omega)
  · exact scuts_not n k pc len h
end Go.Proofs.Ytcdmljlangbloaa
