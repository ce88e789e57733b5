/- Package mat's Of and One, each as a contract over memory. -/
import Derived.Test.YtbkelijmdpoanaaMd
import Derived.Test.YtbkelijmdpoanaaRw
import Derived.Laws.CopyOwn
namespace Go.Proofs.Ytbkelijmdpoanaa
open Go.RowKit
set_option linter.unusedVariables false

/-- The rows as a function. -/
def fnL (bss : List (List UInt8)) (i k : Nat) : UInt8 := lg (bss.getD i []) k
theorem fnL_of {bss : List (List UInt8)} {i : Nat} {bs : List UInt8} (h : bss[i]? = some bs) (k : Nat) : fnL bss i k = lg bs k := by simp [fnL, h]
/-- May rows be a matrix of r rows and c columns? -/
structure Rect (bss : List (List UInt8)) (r c : Nat) : Prop where
  len : bss.length = r
  row : ∀ (j : Nat) bs, bss[j]? = some bs → bs.length = c
  r1 : 1 ≤ r
  r2 : r ≤ 64
  c1 : 1 ≤ c
  c2 : c ≤ 64
/-- One row set. -/
def setR (f : Nat → Nat → UInt8) (i0 : Nat) (s : Nat → UInt8) (i k : Nat) : UInt8 := if i = i0 then s k else f i k

theorem byte_size : (Try.prog.info? 5).map (·.size) = some 1 := by kernel_rfl
/-- copy into a matrix's row. -/
theorem wpList_copy_mat {w : World} {ops : Array Oper} {rest : List Oper} {o : Oper} {a : Act} {Q : Exit → Act → World → Prop} (hgd : o.guard = none) (d s : Operand)
    (ho : o.op = .call { callee := .builtin .copy, args := #[d, s], argTypes := #[29, 29] })
    {m : MB} {r c : Nat} {f : Nat → Nat → UInt8} (h : MatAt w m r c f) {i off cp : Nat} (hi : i < r) (hoff : off = i * c) (hd : a.eval d = .slice (some ⟨m.b, off, none⟩) c cp)
    {B : Option Addr} {n cq : Nat} {bs : List UInt8} (hs : a.eval s = .slice B n cq) (hb : Bts w (.slice B n cq) bs) (hn : bs.length = c)
    (hQ : ∀ n1 w1, MatAt w1 m r c (setR f i (lg bs)) → Kp (fun k => k = m.b) w w1 → wpList Try.prog ops Q rest (a.put o.dst (goInt n1)) w1) : wpList Try.prog ops Q (o :: rest) a w := by
  have hc1 := h.c1
  have hnl := hb.len
  have hne := h.ne
  have hle : off + c ≤ m.cap := by
    have := Nat.mul_le_mul_right c (show i + 1 ≤ r from hi)
    rw [Nat.add_mul, Nat.one_mul] at this
    have h1 := h.cap1
    rw [h.n_eq] at h1
    omega
  have hcap1 := h.cap1
  have hcap2 := h.cap2
  have hneq := h.n_eq
  obtain ⟨cur, h1, h2, h3⟩ := h.body
  obtain ⟨B', c', e, hnil, hcell⟩ := hb
  injection e with e1 e2 e3
  subst e1 e3
  rcases B with _ | ad
  · have := (hnil rfl).1
    subst this
    simp at hn
    omega
  · have hlen : (bs.map bv).length = c := by rw [List.length_map]; exact hn
    refine wpList_copy_own hgd d s 29 29 ho 5 Try.underlying29 byte_size m.b off c cp ad n cq hd hs cur 5 h1 (bs.map bv) (by rw [hlen]; show c = min n c; omega) ?_ (by rw [hlen]; omega) ?_ ?_
    · intro j v hj
      simp only [List.getElem?_map, Option.map_eq_some_iff] at hj
      obtain ⟨x, hx, rfl⟩ := hj
      exact hcell ad rfl j x hx
    · intro v hv
      obtain ⟨x, _, rfl⟩ := List.mem_map.1 hv
      rfl
    · have hkp : Kp (fun k => k = m.b) w (w.setRow m.b (cur.toList.take off ++ (bs.map bv ++ cur.toList.drop (off + (bs.map bv).length))).toArray) :=
        ⟨rfl, rfl, rfl, by simp [World.setRow], fun k _ hk => setRow_other w m.b k _ (fun e => hk e)⟩
      refine hQ _ _ ⟨?_, ⟨_, setRow_heap w m.b cur _ _ _ h1, ?_, fun i' k' hi' hk' => ?_⟩, hneq, h.r1, h.r2, h.c1, h.c2, hcap1, hcap2⟩ hkp
      · rw [hkp.block m.g (Array.getElem?_eq_some_iff.1 h.head).1 hne]
        exact h.head
      · simp only [List.size_toArray, List.length_append, List.length_take, List.length_drop, Array.length_toList, hlen]
        omega
      · have hx := h3 i' k' hi' hk'
        have hxl : i' * c + k' < cur.size := (Array.getElem?_eq_some_iff.1 hx).1
        rw [hlen, List.getElem?_toArray, List.getElem?_append, List.length_take, Array.length_toList]
        unfold setR
        by_cases e : i' = i
        · subst e
          rw [if_pos rfl, if_neg (by omega), List.getElem?_append, hlen, if_pos (by omega), List.getElem?_map, show i' * c + k' - min off cur.size = k' by omega, List.getElem?_eq_getElem (by omega)]
          simp [lg]
          rw [List.getElem?_eq_getElem (by omega)]
          rfl
        · rw [if_neg e]
          by_cases hlt : i' < i
          · have : i' * c + c ≤ off := by
              have := Nat.mul_le_mul_right c (show i' + 1 ≤ i from hlt)
              rw [Nat.add_mul, Nat.one_mul] at this
              omega
            rw [if_pos (by omega), List.getElem?_take, if_pos (by omega), Array.getElem?_toList]
            exact hx
          · have : off + c ≤ i' * c := by
              have := Nat.mul_le_mul_right c (show i + 1 ≤ i' by omega)
              rw [Nat.add_mul, Nat.one_mul] at this
              omega
            rw [if_neg (by omega), List.getElem?_append, hlen, if_neg (by omega), List.getElem?_drop, Array.getElem?_toList, show off + c + (i' * c + k' - min off cur.size - c) = i' * c + k' by omega]
            exact hx

/-- The first rows are f's, the others g's. -/
def upF (f g : Nat → Nat → UInt8) (k i j : Nat) : UInt8 := if i < k then f i j else g i j
theorem upF_step {f g : Nat → Nat → UInt8} {k : Nat} {s : Nat → UInt8} (h : ∀ j, f k j = s j) (i j : Nat) : setR (upF f g k) k s i j = upF f g (k + 1) i j := by
  unfold setR upF
  by_cases e : i = k
  · subst e
    rw [if_pos rfl, if_pos (by omega), h]
  · rw [if_neg e]
    by_cases h1 : i < k
    · rw [if_pos h1, if_pos (by omega)]
    · rw [if_neg h1, if_neg (by omega)]

set_option maxHeartbeats 1000000 in
theorem of_yes {w : World} {A : Option Addr} {n c cp : Nat} {bss : List (List UInt8)} (h : Rws w A n bss) (hR : Rect bss n c) :
    Calls Try.prog 42 #[.slice A n cp] w (NewPost w n c (fnL bss)) := by
  obtain ⟨hlen, hrow, r1, r2, c1, c2⟩ := hR
  have hn0 : ((n : Int) == 0) = false := by simp; omega
  obtain ⟨B, off, A0, m0, cp0, b0, rfl, hc0, hb0, hbt0⟩ := h.get (j := 0) (by omega)
  rw [Nat.add_zero] at hc0
  have hm0 : c = m0 := by rw [hbt0.len]; exact (hrow 0 b0 hb0).symm
  subst hm0
  have HB := hide hb0
  have HR := hide hrow
  have HL := hide hlen
  clear hb0 hrow hlen
  go_enter Try.func42, Try.ntmps42
  go_wp2_with fail
  refine (new_yes n c w r1 r2 c1 c2).mono ?_
  rintro e w1 ⟨m, rfl, hM, hg, hb, hk⟩
  go_wp2_with fail
  go_loopw [26] (fun i wr => ∃ k : Nat, k ≤ n ∧ i = .int .i64 (k : Int) ∧ MatAt wr m n c (upF (fnL bss) (fun _ _ => 0) k) ∧ Kp No w wr) (fun i _ => n - (intOf i).toNat)
  case atStart => exact ⟨0, Nat.zero_le _, rfl, hM.eqF (fun i k _ _ => by simp [upF]), hk⟩
  case round =>
    obtain ⟨k, hk', rfl, hMr, hkw⟩ := hrel
    by_cases hlt : k < n
    · obtain ⟨B', off', A1, m1, cp1, b1, hA, hcr, hb1, hbt1⟩ := (h.no hkw).get hlt
      injection hA with hA
      injection hA with hA1 hA2
      subst hA1 hA2
      have hl1 := HR.out k b1 hb1
      have hm1 : c = m1 := by rw [hbt1.len]; exact hl1.symm
      subst hm1
      have HF : Hid (∀ j, fnL bss k j = lg b1 j) := fun j => fnL_of hb1 j
      clear hb1
      have hcol := hMr.c_cols
      go_wp2_with fail
      refine (row_any hMr k hlt).mono ?_
      rintro e w2 ⟨o, cp2, rfl, ho, hcp2, hs2⟩
      have HO := hide ho
      have HL1 := hide hl1
      clear ho hl1
      have hM2 := hMr.sm hs2
      have hbt2 := hbt1.no hs2.kp
      go_wp2_with (with_reducible refine wpList_copy_mat rfl (.tmp 40) (.tmp 41) rfl hM2 hlt HO.out rfl rfl hbt2 HL1.out ?_; intro n3 w3 hM3 hk3)
      go_round
      case rel => exact ⟨k + 1, by omega, by go_num, hM3.eqF (fun i j _ _ => upF_step HF.out i j), (hkw.trans' hs2.kp).trans (hk3.mono fun q hq => by subst hq; exact .inr hb)⟩
      case measure => simp [intOf]; omega
    · have hkn : k = n := by omega
      subst hkn
      go_wp2_with fail
      go_ret2
      exact ⟨m, rfl, hMr.eqF (fun i j hi _ => by unfold upF; rw [if_pos hi]), hg, hb, hkw⟩

set_option maxHeartbeats 1000000 in
theorem of_bad {w : World} {A : Option Addr} {n c cp : Nat} {bss : List (List UInt8)} (h : Rws w A n bss) (r1 : 1 ≤ n) (r2 : n ≤ 64) (c1 : 1 ≤ c) (c2 : c ≤ 64) (h0 : ∀ bs, bss[0]? = some bs → bs.length = c) (q : Nat) (bq : List UInt8) (hbq : bss[q]? = some bq) (hq : bq.length ≠ c) :
    Calls Try.prog 42 #[.slice A n cp] w (ArgPost w) := by
  have hqn : q < n := by rw [h.len]; exact (List.getElem?_eq_some_iff.1 hbq).1
  have hn0 : ((n : Int) == 0) = false := by simp; omega
  obtain ⟨B, off, A0, m0, cp0, b0, rfl, hc0, hb0, hbt0⟩ := h.get (j := 0) (by omega)
  rw [Nat.add_zero] at hc0
  have hm0 : c = m0 := by rw [hbt0.len]; exact (h0 b0 hb0).symm
  subst hm0
  have HQ := hide hbq
  have HQ2 := hide hq
  clear hb0 h0 hbq hq
  go_enter Try.func42, Try.ntmps42
  go_wp2_with fail
  refine (new_yes n c w r1 r2 c1 c2).mono ?_
  rintro e w1 ⟨m, rfl, hM, hg, hb, hk⟩
  go_wp2_with fail
  go_loopw [26] (fun i wr => ∃ (k : Nat) (f : Nat → Nat → UInt8), k ≤ q ∧ i = .int .i64 (k : Int) ∧ MatAt wr m n c f ∧ Kp No w wr) (fun i _ => n - (intOf i).toNat)
  case atStart => exact ⟨0, _, Nat.zero_le _, rfl, hM, hk⟩
  case round =>
    obtain ⟨k, f, hk', rfl, hMr, hkw⟩ := hrel
    have hlt : k < n := by omega
    obtain ⟨B', off', A1, m1, cp1, b1, hA, hcr, hb1, hbt1⟩ := (h.no hkw).get hlt
    injection hA with hA
    injection hA with hA1 hA2
    subst hA1 hA2
    have hcol := hMr.c_cols
    have hl1 := hbt1.len
    by_cases hc : b1.length = c
    · have hm1 : c = m1 := by omega
      subst hm1
      have hkq : k < q := by
        rcases Nat.lt_or_ge k q with g | g
        · exact g
        · obtain rfl : k = q := by omega
          have := HQ.out
          rw [hb1] at this
          injection this with this
          subst this
          exact absurd hc HQ2.out
      have HL1 := hide hc
      clear hb1 hc hl1
      go_wp2_with fail
      refine (row_any hMr k hlt).mono ?_
      rintro e w2 ⟨o, cp2, rfl, ho, hcp2, hs2⟩
      have HO := hide ho
      clear ho
      have hM2 := hMr.sm hs2
      have hbt2 := hbt1.no hs2.kp
      go_wp2_with (with_reducible refine wpList_copy_mat rfl (.tmp 40) (.tmp 41) rfl hM2 hlt HO.out rfl rfl hbt2 HL1.out ?_; intro n3 w3 hM3 hk3)
      go_round
      case rel => exact ⟨k + 1, _, by omega, by go_num, hM3, (hkw.trans' hs2.kp).trans (hk3.mono fun q hq => by subst hq; exact .inr hb)⟩
      case measure => simp [intOf]; omega
    · have hne : ((m1 : Int) != (c : Int)) = true := by simp; omega
      clear hb1 hc hl1
      go_wp2_with fail
      go_ret2
      exact ⟨rfl, hkw⟩

theorem of_none (w : World) (A : Option Addr) (cp : Nat) : Calls Try.prog 42 #[.slice A 0 cp] w (ArgPost w) := by
  go_enter Try.func42, Try.ntmps42
  go_wp2_with fail
  go_ret2
  exact ⟨rfl, Kp.refl _ _⟩
theorem of_size {w : World} {A : Option Addr} {n c cp : Nat} {bss : List (List UInt8)} (h : Rws w A n bss) (r1 : 1 ≤ n) (h0 : ∀ bs, bss[0]? = some bs → bs.length = c) (hbad : ¬ (n ≤ 64 ∧ 1 ≤ c ∧ c ≤ 64)) :
    Calls Try.prog 42 #[.slice A n cp] w (ArgPost w) := by
  have hn0 : ((n : Int) == 0) = false := by simp; omega
  obtain ⟨B, off, A0, m0, cp0, b0, rfl, hc0, hb0, hbt0⟩ := h.get (j := 0) (by omega)
  rw [Nat.add_zero] at hc0
  have hm0 : c = m0 := by rw [hbt0.len]; exact (h0 b0 hb0).symm
  subst hm0
  clear hb0 h0
  go_enter Try.func42, Try.ntmps42
  go_wp2_with fail
  refine (new_no n c w (by omega)).mono ?_
  rintro e w1 ⟨rfl, hk⟩
  go_wp2_with fail
  go_ret2
  exact ⟨rfl, hk⟩

/-- The length of the first row. -/
def len0 (bss : List (List UInt8)) : Nat := (bss.getD 0 []).length
theorem of_no {w : World} {A : Option Addr} {n cp : Nat} {bss : List (List UInt8)} (h : Rws w A n bss) (hR : ¬ Rect bss n (len0 bss)) :
    Calls Try.prog 42 #[.slice A n cp] w (ArgPost w) := by
  have h0 : ∀ bs, bss[0]? = some bs → bs.length = len0 bss := fun bs hb => by simp [len0, hb]
  rcases Nat.eq_zero_or_pos n with rfl | hn
  · exact of_none w A cp
  · by_cases hs : n ≤ 64 ∧ 1 ≤ len0 bss ∧ len0 bss ≤ 64
    · by_cases hall : ∀ (j : Nat) bs, bss[j]? = some bs → bs.length = len0 bss
      · exact absurd ⟨h.len.symm, hall, hn, hs.1, hs.2.1, hs.2.2⟩ hR
      · simp only [Classical.not_forall] at hall
        obtain ⟨j, bs, hj, hne⟩ := hall
        exact of_bad h hn hs.1 hs.2.1 hs.2.2 h0 j bs hj hne
    · exact of_size h hn h0 hs

set_option maxHeartbeats 1000000 in
theorem one_yes (n : Nat) (w : World) (r1 : 1 ≤ n) (r2 : n ≤ 64) : Calls Try.prog 56 #[.int .i64 (n : Int)] w (NewPost w n n oneF) := by
  go_enter Try.func56, Try.ntmps56
  go_wp2_with fail
  refine (new_yes n n w r1 r2 r1 r2).mono ?_
  rintro e w1 ⟨m, rfl, hM, hg, hb, hk⟩
  go_wp2_with fail
  go_loopw [17] (fun i wr => ∃ k : Nat, k ≤ n ∧ i = .int .i64 (k : Int) ∧ MatAt wr m n n (upF oneF (fun _ _ => 0) k) ∧ Kp No w wr) (fun i _ => n - (intOf i).toNat)
  case atStart => exact ⟨0, Nat.zero_le _, rfl, hM.eqF (fun i k _ _ => by simp [upF]), hk⟩
  case round =>
    obtain ⟨k, hk', rfl, hMr, hkw⟩ := hrel
    by_cases hlt : k < n
    · go_wp2_with fail
      refine (row_any hMr k hlt).mono ?_
      rintro e w2 ⟨o, cp2, rfl, ho, hcp2, hs2⟩
      have HO := hide ho
      clear ho
      have hM2 := hMr.sm hs2
      have hf := hM2.frozen (o + k)
      have hx := hM2.cell (o := o + k) hlt hlt (by have := HO.out; omega)
      go_wp2_with fail
      go_round
      case rel =>
        refine ⟨k + 1, by omega, by go_num, (hM2.set hlt hlt (by have := HO.out; omega) 1 _ rfl).eqF fun i j hi hj => ?_, (hkw.trans' hs2.kp).trans (kp_set (.inr hb) _ _)⟩
        unfold setF upF
        by_cases h1 : i = k ∧ j = k
        · obtain ⟨rfl, rfl⟩ := h1
          rw [if_pos ⟨rfl, rfl⟩, if_pos (by omega)]
          simp [oneF]
        · rw [if_neg h1]
          by_cases h2 : i < k
          · rw [if_pos h2, if_pos (by omega)]
          · rw [if_neg h2]
            by_cases h3 : i < k + 1
            · rw [if_pos h3, oneF, if_neg (by omega)]
            · rw [if_neg h3]
      case measure => simp [intOf]; omega
    · have hkn : k = n := by omega
      subst hkn
      go_wp2_with fail
      go_ret2
      exact ⟨m, rfl, hMr.eqF (fun i j hi _ => by unfold upF; rw [if_pos hi]), hg, hb, hkw⟩
theorem one_no (n : Int) (w : World) (h : ¬ (1 ≤ n ∧ n ≤ 64)) : Calls Try.prog 56 #[.int .i64 n] w (ArgPost w) := by
  go_enter Try.func56, Try.ntmps56
  go_wp2_with fail
  refine (new_no n n w (by omega)).mono ?_
  rintro e w1 ⟨rfl, hk⟩
  go_wp2_with fail
  go_ret2
  exact ⟨rfl, hk⟩
end Go.Proofs.Ytbkelijmdpoanaa
