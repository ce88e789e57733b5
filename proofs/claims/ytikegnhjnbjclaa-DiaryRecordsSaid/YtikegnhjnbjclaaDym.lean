/- The records of a diary in plain words: what bytes begin with, frames side by side, and what a crash leaves of them. No program is spoken of but by its bytes' rows. No condition. -/
import Derived.Test.YtikegnhjnbjclaaSem
import Derived.Test.YtikegnhjnbjclaaSej
import Derived.Test.YtikegnhjnbjclaaTpm
namespace Go.Proofs.Ytikegnhjnbjclaa
set_option linter.unusedVariables false
set_option maxRecDepth 20000
set_option linter.unusedSimpArgs false

/-- A record on a tape. -/
def rcF (n : Nat) (b : List UInt8) : List UInt8 := frm 2 (numB n 8 ++ b)
theorem rcF_len (n : Nat) (b : List UInt8) : (rcF n b).length = 20 + b.length := by unfold rcF; rw [frm_len, List.length_append, numB_length]; omega
/-- What an item must be to be the record of the number n. -/
def okR (it : ItD) (n : Nat) : Prop := it.kd = 2 ∧ 8 ≤ it.ld.length ∧ it.ld.length ≤ 60008 ∧ ofB (it.ld.take 8) = n
instance (it : ItD) (n : Nat) : Decidable (okR it n) := by unfold okR; infer_instance
/-- The records among items from the number n + 1 on, and where they end. -/
def rcI (n : Nat) : List ItD → Nat → List (List UInt8) × Nat
  | [], a => ([], a)
  | it :: t, a => if okR it (n + 1) then (it.ld.drop 8 :: (rcI (n + 1) t a).1, (rcI (n + 1) t a).2) else ([], it.at_)
/-- The records that bytes begin with, and how many bytes their frames are. -/
def Rcs (bs : List UInt8) (rs : List (List UInt8)) (sz : Nat) : Prop := ∃ a l, ScA bs a l ∧ opE (bs.drop a) ≠ 0 ∧ rcI 0 l a = (rs, sz)
theorem Rcs.one {bs : List UInt8} {rs rs' : List (List UInt8)} {sz sz' : Nat} (h : Rcs bs rs sz) (h' : Rcs bs rs' sz') : rs = rs' ∧ sz = sz' := by
  obtain ⟨a, l, h1, h2, h3⟩ := h
  obtain ⟨a', l', h1', h2', h3'⟩ := h'
  obtain ⟨rfl, rfl⟩ := h1.one h1' h2 h2'
  rw [h3] at h3'
  exact ⟨congrArg Prod.fst h3', congrArg Prod.snd h3'⟩
/-- What a walk through the items has found behind i of them. -/
def RcK (l : List ItD) (a i : Nat) (acc : List (List UInt8)) : Prop := rcI 0 l a = (acc ++ (rcI i (l.drop i) a).1, (rcI i (l.drop i) a).2)
theorem RcK.zero (l : List ItD) (a : Nat) : RcK l a 0 [] := by unfold RcK; simp
theorem RcK.next {l : List ItD} {a i : Nat} {acc : List (List UInt8)} {it : ItD} (h : RcK l a i acc) (hi : l[i]? = some it) (hk : okR it (i + 1)) : RcK l a (i + 1) (acc ++ [it.ld.drop 8]) := by
  unfold RcK at *
  obtain ⟨hlt, he⟩ := List.getElem?_eq_some_iff.1 hi
  rw [h, List.drop_eq_getElem_cons hlt, he]
  simp only [rcI]
  rw [if_pos hk]
  simp
theorem RcK.stop {l : List ItD} {a i : Nat} {acc : List (List UInt8)} {it : ItD} (h : RcK l a i acc) (hi : l[i]? = some it) (hk : ¬ okR it (i + 1)) : rcI 0 l a = (acc, it.at_) := by
  unfold RcK at h
  obtain ⟨hlt, he⟩ := List.getElem?_eq_some_iff.1 hi
  rw [h, List.drop_eq_getElem_cons hlt, he]
  simp only [rcI]
  rw [if_neg hk]
  simp
theorem RcK.fin {l : List ItD} {a i : Nat} {acc : List (List UInt8)} (h : RcK l a i acc) (hi : l.length ≤ i) : rcI 0 l a = (acc, a) := by
  unfold RcK at h
  rw [h, List.drop_of_length_le hi]
  simp [rcI]
theorem rcI_len (n : Nat) (l : List ItD) (a : Nat) : (rcI n l a).1.length ≤ l.length := by
  induction l generalizing n with
  | nil => simp [rcI]
  | cons it t ih =>
    simp only [rcI]
    split
    · have := ih (n + 1); simp; omega
    · simp
theorem rcI_at {n : Nat} {l : List ItD} {a m : Nat} (h : ∀ it ∈ l, it.at_ ≤ m) (ha : a ≤ m) : (rcI n l a).2 ≤ m := by
  induction l generalizing n with
  | nil => exact ha
  | cons it t ih =>
    simp only [rcI]
    split
    · exact ih fun x hx => h x (List.mem_cons_of_mem _ hx)
    · exact h it List.mem_cons_self
theorem scN_at (bs : List UInt8) (i : Nat) : ∀ it ∈ (scN bs i).2, it.at_ ≤ (scN bs i).1 := by
  induction i with
  | zero => intro it h; simp [scN] at h
  | succ i ih =>
    intro it h
    rw [scN_succ] at h ⊢
    split at h
    · rw [if_pos (by assumption)]
      rcases List.mem_append.1 h with h | h
      · have := ih it h; simp only; omega
      · rw [List.mem_singleton] at h; subst h; simp only; omega
    · rw [if_neg (by assumption)]; exact ih it h
theorem scN_ld (bs : List UInt8) (i : Nat) : ∀ it ∈ (scN bs i).2, it.ld.length ≤ bs.length := by
  induction i with
  | zero => intro it h; simp [scN] at h
  | succ i ih =>
    intro it h
    rw [scN_succ] at h
    split at h
    · rcases List.mem_append.1 h with h | h
      · exact ih it h
      · rw [List.mem_singleton] at h
        subst h
        have := opN_le (by assumption)
        rw [List.length_drop] at this
        simp only
        omega
    · exact ih it h
theorem ScA.ld {bs : List UInt8} {a i : Nat} {l : List ItD} {it : ItD} (h : ScA bs a l) (hi : l[i]? = some it) : it.ld.length ≤ bs.length := by
  obtain ⟨j, h⟩ := h
  have := scN_ld bs j
  rw [h] at this
  exact this it (List.mem_of_getElem? hi)
/-- The frames end within the bytes, and there are few. -/
theorem Rcs.bound {bs : List UInt8} {rs : List (List UInt8)} {sz : Nat} (h : Rcs bs rs sz) : sz ≤ bs.length ∧ 12 * rs.length ≤ bs.length := by
  obtain ⟨a, l, h1, h2, h3⟩ := h
  have hb := h1.bound
  obtain ⟨i, hi⟩ := h1
  have ha := scN_at bs i
  rw [hi] at ha
  have e1 : (rcI 0 l a).2 = sz := by rw [h3]
  have e2 : (rcI 0 l a).1 = rs := by rw [h3]
  have b1 := rcI_at (n := 0) ha (Nat.le_refl a)
  have b2 := rcI_len 0 l a
  rw [e1] at b1
  rw [e2] at b2
  simp only at *
  omega

/-- Records side by side, from the number n + 1 on, and as items. -/
def fr (n : Nat) : List (List UInt8) → List UInt8
  | [] => []
  | b :: t => rcF (n + 1) b ++ fr (n + 1) t
def its (n p : Nat) : List (List UInt8) → List ItD
  | [] => []
  | b :: t => ⟨p, 2, numB (n + 1) 8 ++ b⟩ :: its (n + 1) (p + (20 + b.length)) t
theorem fr_snoc (n : Nat) (rs : List (List UInt8)) (b : List UInt8) : fr n (rs ++ [b]) = fr n rs ++ rcF (n + rs.length + 1) b := by
  induction rs generalizing n with
  | nil => simp [fr]
  | cons c t ih =>
    simp only [List.cons_append, fr, ih, List.append_assoc, List.length_cons]
    rw [show n + 1 + t.length + 1 = n + (t.length + 1) + 1 by omega]
theorem fr_app (n : Nat) (rs ss : List (List UInt8)) : fr n (rs ++ ss) = fr n rs ++ fr (n + rs.length) ss := by
  induction rs generalizing n with
  | nil => simp [fr]
  | cons c t ih =>
    simp only [List.cons_append, fr, ih, List.append_assoc, List.length_cons]
    rw [show n + 1 + t.length = n + (t.length + 1) by omega]
theorem rcI_its (n p : Nat) (rs : List (List UInt8)) (a : Nat) (hl : ∀ b ∈ rs, b.length ≤ 60000) (hn : n + rs.length < 18446744073709551616) : (rcI n (its n p rs) a) = (rs, a) := by
  induction rs generalizing n p with
  | nil => rfl
  | cons b t ih =>
    have hb := hl b List.mem_cons_self
    have hlen : (numB (n + 1) 8 ++ b).length = 8 + b.length := by rw [List.length_append, numB_length]
    have ht : (numB (n + 1) 8 ++ b).take 8 = numB (n + 1) 8 := by rw [List.take_left' (numB_length _ _)]
    have hd : (numB (n + 1) 8 ++ b).drop 8 = b := by rw [List.drop_left' (numB_length _ _)]
    simp only [List.length_cons] at hn
    have hof : ofB (numB (n + 1) 8) = n + 1 := by rw [ofB_numB]; omega
    simp only [its, rcI]
    rw [if_pos ⟨rfl, by simp only; omega, by simp only; omega, by simp only; rw [ht, hof]⟩, ih (n + 1) _ (fun c hc => hl c (List.mem_cons_of_mem _ hc)) (by omega)]
    simp only [hd]
theorem sc_frames (rs : List (List UInt8)) (hl : ∀ b ∈ rs, b.length ≤ 60000) (P Y : List UInt8) (n : Nat) (l : List ItD) (h : ScA (P ++ fr n rs ++ Y) P.length l) :
    ScA (P ++ fr n rs ++ Y) (P.length + (fr n rs).length) (l ++ its n P.length rs) := by
  induction rs generalizing P n l with
  | nil => simpa [fr, its] using h
  | cons b t ih =>
    have hb := hl b List.mem_cons_self
    have hll : (numB (n + 1) 8 ++ b).length = 8 + b.length := by rw [List.length_append, numB_length]
    have e : P ++ fr n (b :: t) ++ Y = (P ++ rcF (n + 1) b) ++ fr (n + 1) t ++ Y := by simp [fr]
    have ed : (P ++ fr n (b :: t) ++ Y).drop P.length = rcF (n + 1) b ++ (fr (n + 1) t ++ Y) := by simp [fr]
    obtain ⟨o1, o2, o3, o4⟩ := frm_open (k := 2) (bs := numB (n + 1) 8 ++ b) (m := fr (n + 1) t ++ Y) (by omega) (by omega)
    have hs := h.next (by rw [ed]; exact o1)
    rw [ed] at hs
    unfold rcF at hs
    rw [o2, o3, o4, hll] at hs
    have hP : (P ++ rcF (n + 1) b).length = P.length + (20 + b.length) := by rw [List.length_append, rcF_len]
    have := ih (fun c hc => hl c (List.mem_cons_of_mem _ hc)) (P ++ rcF (n + 1) b) (n + 1) (l ++ [⟨P.length, 2, numB (n + 1) 8 ++ b⟩]) (by rw [← e, hP]; rw [show 12 + (8 + b.length) = 20 + b.length by omega] at hs; exact hs)
    rw [← e, hP] at this
    simp only [fr, its, List.length_append, rcF_len]
    rw [← Nat.add_assoc P.length]
    simpa [fr] using this
/-- The records of frames side by side, where what stands behind them is none. -/
theorem rcs_frames {rs : List (List UInt8)} (hl : ∀ b ∈ rs, b.length ≤ 60000) (hn : rs.length < 18446744073709551616) {Y : List UInt8} (hY : opE Y ≠ 0) : Rcs (fr 0 rs ++ Y) rs (fr 0 rs).length := by
  have h := sc_frames rs hl [] Y 0 [] (by simpa using ScA.zero (fr 0 rs ++ Y))
  simp only [List.nil_append, List.length_nil, Nat.zero_add] at h
  exact ⟨_, _, h, by rw [List.drop_left]; exact hY, rcI_its 0 0 rs _ hl (by omega)⟩

/-! What a crash leaves of frames side by side. -/
theorem turnl_app (A : List UInt8) {Z : List UInt8} (hZ : 0 < Z.length) (x : UInt8) : turnl (A ++ Z) x = A ++ turnl Z x := by
  unfold turnl
  rw [List.length_append, List.set_append_right _ _ (by omega), List.getD_eq_getElem?_getD, List.getD_eq_getElem?_getD, List.getElem?_append_right (by omega)]
  rw [show A.length + Z.length - 1 - A.length = Z.length - 1 by omega]
theorem turnl_zero (Z : List UInt8) : turnl Z 0 = Z := by
  unfold turnl
  rcases Nat.eq_zero_or_pos Z.length with h | h
  · have := List.eq_nil_of_length_eq_zero h; subst this; rfl
  · rw [List.getD_eq_getElem?_getD, List.getElem?_eq_getElem (by omega)]
    simp
theorem bnum_set (bs : List UInt8) (i : Nat) (x : UInt8) (h : i < bs.length) : bnum (bs.set i (bs.getD i 0 ^^^ x)) = bnum bs ^^^ 2 ^ (8 * i) * x.toNat := by
  induction bs generalizing i with
  | nil => simp at h
  | cons b t ih =>
    have hb := b.toNat_lt
    have hx := x.toNat_lt
    match i, h with
    | 0, h =>
      show (b ^^^ x).toNat + 256 * bnum t = (b.toNat + 256 * bnum t) ^^^ 2 ^ 0 * x.toNat
      rw [UInt8.toNat_xor, Nat.pow_zero, Nat.one_mul, low_xor (Nat.xor_lt_two_pow (n := 8) (by omega) (by omega)), low_xor (by omega), Nat.xor_assoc, Nat.xor_comm x.toNat, ← Nat.xor_assoc]
    | j + 1, h =>
      show b.toNat + 256 * bnum (t.set j (t.getD j 0 ^^^ x)) = (b.toNat + 256 * bnum t) ^^^ 2 ^ (8 * (j + 1)) * x.toNat
      rw [ih j (by simp at h; omega), low_xor (by omega), low_xor (by omega), Nat.xor_assoc]
      congr 1
      have e4 : 2 ^ (8 * (j + 1)) * x.toNat = 256 * (2 ^ (8 * j) * x.toNat) := by
        rw [show 8 * (j + 1) = 8 * j + 8 by omega, Nat.pow_add, Nat.mul_comm (2 ^ (8 * j)), Nat.mul_assoc]
      rw [e4]
      have := Nat.shiftLeft_xor_distrib (a := bnum t) (b := 2 ^ (8 * j) * x.toNat) (i := 8)
      simp only [Nat.shiftLeft_eq] at this
      rw [Nat.mul_comm 256, Nat.mul_comm 256, Nat.mul_comm 256]
      exact this
/-- A frame whose last byte is turned is none. -/
theorem opE_turned {k : Nat} {bs : List UInt8} {x : UInt8} (hk : k < 65536) (hl : bs.length ≤ 65536) (h4 : 4 ≤ bs.length) (hx : x ≠ 0) : opE (turnl (frm k bs) x) = 22 := by
  have e : turnl (frm k bs) x = anyF k (fsum k bs) (turnl bs x) [] := by
    unfold frm anyF
    rw [turnl_app _ (by omega), turnl_len, List.append_nil]
  rw [e]
  have h := anyF_ok (k := k) (s := fsum k bs) (bs := turnl bs x) (m := []) hk (fsum_lt k bs) (by rw [turnl_len]; exact hl)
  refine h.bad (by rw [turnl_len]; exact hl) fun hh => ?_
  rw [turnl_len] at hh
  unfold fsum at hh
  have hx0 : x.toNat ≠ 0 := fun h0 => hx (UInt8.toNat_inj.1 (by rw [h0]; rfl))
  have hx8 := x.toNat_lt
  have hb : bnum (turnl bs x) = bnum bs ^^^ 2 ^ (8 * bs.length - 32) * (2 ^ 24 * x.toNat) := by
    unfold turnl
    rw [bnum_set _ _ _ (by omega)]
    congr 1
    rw [← Nat.mul_assoc, ← Nat.pow_add]
    congr 2
    omega
  have e := crc_inj hh
  rw [cbs_app, cbs_app] at e
  exact cbs_burst (us := bs) (bs := turnl bs x) (B := 2 ^ 24 * x.toNat) (s := 8 * bs.length - 32) (turnl_len _ _).symm (by omega) (by omega) (by omega) hb e.symm
theorem ctO_eq (L : List UInt8) : ctO L = ofB ((L.take 8).drop 4) := by unfold ctO; rw [List.drop_take]
/-- A frame of which a part is there is none, whatever its last byte is. -/
theorem opE_part {k j : Nat} {bs : List UInt8} {x : UInt8} (hk : k < 65536) (hl : bs.length ≤ 65536) (hj : j < (frm k bs).length) : opE (turnl ((frm k bs).take j) x) = 21 := by
  rw [frm_len] at hj
  have hlen : (turnl ((frm k bs).take j) x).length = j := by rw [turnl_len, List.length_take, frm_len]; omega
  by_cases h : j < 12
  · exact opE_21 (.inl (by rw [hlen]; exact h))
  have h8 : (turnl ((frm k bs).take j) x).take 8 = (frm k bs).take 8 := by
    unfold turnl
    rw [List.take_set_of_le (by rw [List.length_take, frm_len]; omega), List.take_take, Nat.min_eq_left (by omega)]
  have hc : ctO (turnl ((frm k bs).take j) x) = bs.length := by
    rw [ctO_eq, h8, ← ctO_eq]
    have := (anyF_ok (k := k) (s := fsum k bs) (bs := bs) (m := []) hk (fsum_lt k bs) hl).ct
    unfold anyF at this
    rw [List.append_nil] at this
    exact this
  exact opE_21 (.inr (.inr (.inr (by rw [hc, hlen]; omega))))
/-- Of frames side by side, cut off anywhere and the last byte turned, some are left, and none behind them. -/
theorem fr_cut (rs : List (List UInt8)) (hl : ∀ b ∈ rs, b.length ≤ 60000) (n k : Nat) (x : UInt8) (h0 : 0 < k) (hk : k ≤ (fr n rs).length) :
    ∃ j Y, j ≤ rs.length ∧ turnl ((fr n rs).take k) x = fr n (rs.take j) ++ Y ∧ opE Y ≠ 0 := by
  induction rs generalizing n k with
  | nil => simp [fr] at hk; omega
  | cons b t ih =>
    have hb := hl b List.mem_cons_self
    have hll : (numB (n + 1) 8 ++ b).length = 8 + b.length := by rw [List.length_append, numB_length]
    have hF : (rcF (n + 1) b).length = 20 + b.length := rcF_len _ _
    rcases Nat.lt_trichotomy k (rcF (n + 1) b).length with hlt | heq | hgt
    · refine ⟨0, _, Nat.zero_le _, (List.nil_append _).symm, ?_⟩
      simp only [fr]
      rw [List.take_append_of_le_length (by omega)]
      unfold rcF at hlt ⊢
      rw [opE_part (by omega) (by omega) hlt]
      omega
    · have e : (fr n (b :: t)).take k = rcF (n + 1) b := by simp only [fr]; rw [heq, List.take_left]
      rw [e]
      by_cases hx : x = 0
      · subst hx
        exact ⟨1, [], by simp, by rw [turnl_zero]; simp [fr], opE_nil⟩
      · refine ⟨0, _, Nat.zero_le _, (List.nil_append _).symm, ?_⟩
        unfold rcF
        rw [opE_turned (by omega) (by omega) (by omega) hx]
        omega
    · have hk' : k ≤ (rcF (n + 1) b).length + (fr (n + 1) t).length := by simpa [fr] using hk
      obtain ⟨j, Y, h1, h2, h3⟩ := ih (fun c hc => hl c (List.mem_cons_of_mem _ hc)) (n + 1) (k - (rcF (n + 1) b).length) (by omega) (by omega)
      refine ⟨j + 1, Y, by simp; omega, ?_, h3⟩
      simp only [fr, List.take_succ_cons]
      rw [List.take_append, List.take_of_length_le (by omega), turnl_app _ (by rw [List.length_take]; omega), h2, List.append_assoc]
/-- What is left behind a crash of records that were synced and others that were not. -/
theorem crash_rcs (a b : List (List UInt8)) (ha : ∀ c ∈ a, c.length ≤ 60000) (hb : ∀ c ∈ b, c.length ≤ 60000) (hn : a.length + b.length < 18446744073709551616) (m : Nat) (z : Int) (x : UInt8) :
    ∃ j, j ≤ b.length ∧ Rcs ((Tp.mk (fr 0 a) (fr a.length b) m).left z x) (a ++ b.take j) (fr 0 (a ++ b.take j)).length := by
  have key : ∀ j Y, opE Y ≠ 0 → Rcs (fr 0 a ++ (fr a.length (b.take j) ++ Y)) (a ++ b.take j) (fr 0 (a ++ b.take j)).length := fun j Y hY => by
    have e : fr 0 a ++ (fr a.length (b.take j) ++ Y) = fr 0 (a ++ b.take j) ++ Y := by rw [fr_app, Nat.zero_add, List.append_assoc]
    rw [e]
    refine rcs_frames (fun c hc => ?_) (by rw [List.length_append, List.length_take]; omega) hY
    rcases List.mem_append.1 hc with hc | hc
    · exact ha c hc
    · exact hb c (List.mem_of_mem_take hc)
  have hs := (Tp.mk (fr 0 a) (fr a.length b) m).stay_le z
  by_cases h0 : (Tp.mk (fr 0 a) (fr a.length b) m).stay z = 0
  · refine ⟨0, Nat.zero_le _, ?_⟩
    rw [Tp.left_zero _ _ _ h0]
    simpa [fr] using key 0 [] opE_nil
  · unfold Tp.left
    rw [if_neg h0]
    simp only at hs ⊢
    rw [turnl_app _ (by rw [List.length_take]; omega)]
    obtain ⟨j, Y, h1, h2, h3⟩ := fr_cut b hb a.length _ x (by omega) hs
    rw [h2]
    exact ⟨j, h1, key j Y h3⟩
/-- The chapter's example: of the second record three bytes stay. -/
theorem crash_one (a : List (List UInt8)) (c : List UInt8) (ha : ∀ b ∈ a, b.length ≤ 60000) (hc : c.length ≤ 60000) (hn : a.length < 18446744073709551615) (m : Nat) (z : Int) (x : UInt8) (hz : z < 20 + c.length) :
    Rcs ((Tp.mk (fr 0 a) (fr a.length [c]) m).left z x) a (fr 0 a).length := by
  have hll : (numB (a.length + 1) 8 ++ c).length = 8 + c.length := by rw [List.length_append, numB_length]
  have hs := (Tp.mk (fr 0 a) (fr a.length [c]) m).stay_le z
  by_cases h0 : (Tp.mk (fr 0 a) (fr a.length [c]) m).stay z = 0
  · rw [Tp.left_zero _ _ _ h0]
    simpa using rcs_frames ha (by omega) opE_nil
  · have hst : (Tp.mk (fr 0 a) (fr a.length [c]) m).stay z < 20 + c.length := by unfold Tp.stay at *; omega
    unfold Tp.left
    rw [if_neg h0]
    simp only at hs ⊢
    generalize (Tp.mk (fr 0 a) (fr a.length [c]) m).stay z = q at h0 hs hst ⊢
    rw [turnl_app _ (by rw [List.length_take]; omega)]
    refine rcs_frames ha (by omega) ?_
    have e : fr a.length [c] = frm 2 (numB (a.length + 1) 8 ++ c) := by simp [fr, rcF]
    rw [e]
    rw [opE_part (by omega) (by omega) (by rw [frm_len]; omega)]
    omega
end Go.Proofs.Ytikegnhjnbjclaa
