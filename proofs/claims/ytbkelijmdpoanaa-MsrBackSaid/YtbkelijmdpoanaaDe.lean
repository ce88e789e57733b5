/- Package msr's Decode, as a contract over memory. -/
import Derived.Test.YtbkelijmdpoanaaIv
namespace Go.Proofs.Ytbkelijmdpoanaa
open Go.RowKit
set_option linter.unusedVariables false
set_option linter.unusedSimpArgs false
set_option maxRecDepth 100000

theorem Prts.eq {w : World} {A : Option Addr} {m : Nat} {sl sl' : Nat → Int} {ds : Nat → List UInt8} (h : Prts w A m sl ds) (he : ∀ j, j < m → sl j = sl' j) : Prts w A m sl' ds :=
  ⟨fun j hj => by rw [← he j hj]; exact h.at_ j hj⟩
/-- What was reckoned ahead of part p of byte i. -/
def decP (L : Nat) (f : Nat → UInt8) (i p t : Nat) : UInt8 := if t % L < i ∨ (t % L = i ∧ t / L < p) then f t else 0
theorem decP_step {L i : Nat} (hi : i < L) (f : Nat → UInt8) (p t : Nat) : upd (decP L f i p) (p * L + i) (f (p * L + i)) t = decP L f i (p + 1) t := by
  have h1 : (p * L + i) / L = p := by rw [Nat.mul_comm, Nat.mul_add_div (by omega), Nat.div_eq_of_lt hi, Nat.add_zero]
  have h2 : (p * L + i) % L = i := by rw [Nat.mul_comm, Nat.mul_add_mod, Nat.mod_eq_of_lt hi]
  unfold upd
  by_cases e : t = p * L + i
  · subst e
    rw [if_pos rfl]
    unfold decP
    rw [if_pos (.inr ⟨h2, by rw [h1]; omega⟩)]
  · rw [if_neg e]
    have key : ¬ (t % L = i ∧ t / L = p) := fun hx => e (by
      have := Nat.div_add_mod t L
      rw [hx.1, hx.2, Nat.mul_comm] at this
      exact this.symm)
    unfold decP
    by_cases e2 : t % L < i ∨ (t % L = i ∧ t / L < p)
    · rw [if_pos e2, if_pos (by omega)]
    · rw [if_neg e2, if_neg (by omega)]
theorem decP_turn {L q : Nat} (f : Nat → UInt8) (i : Nat) {t : Nat} (ht : t < q * L) : decP L f i q t = decP L f (i + 1) 0 t := by
  have hq : t / L < q := Nat.div_lt_of_lt_mul (by rw [Nat.mul_comm]; exact ht)
  unfold decP
  generalize t / L = s at hq ⊢
  generalize t % L = r
  by_cases e : r < i + 1
  · rw [if_pos (by omega), if_pos (by omega)]
  · rw [if_neg (by omega), if_neg (by omega)]
theorem decP_zero {L : Nat} (f : Nat → UInt8) (t : Nat) : decP L f 0 0 t = 0 := if_neg (by rintro (h | ⟨_, h⟩) <;> exact absurd h (Nat.not_lt_zero _))
theorem decP_done {L : Nat} (hL : 0 < L) (f : Nat → UInt8) (t : Nat) : decP L f L 0 t = f t := by
  unfold decP
  rw [if_pos (.inl (Nat.mod_lt _ hL))]
theorem row_big (w : World) (L : Nat) (hL : L ≤ 1000000) : RowAt (w.alloc (.cells (zc L) 5)) w.heap.size w.heap.size L L fun _ => 0 :=
  Own.mk (heap_alloc_new w _) (by rw [rowL_len]) (Nat.le_refl _) (by simp only [maxLen]; omega) (zc_size L) (Nat.le_refl _) fun k y hk => by
    have hkl : k < L := by have := (List.getElem?_eq_some_iff.1 hk).1; rwa [rowL_len] at this
    rw [rowL_get _ hkl] at hk
    injection hk with hk
    subst hk
    exact zc_get hkl
theorem uq_slots {n k a : Nat} {x : Nat → UInt8} {ss : Nat → Nat} (hU : Uq n fun i => upw (x i) a) (h1 : ∀ j, j < k → ss j < n) (h2 : ∀ i j, i < j → j < k → ss i ≠ ss j) : Uq k fun j => upw (x (ss j)) a := fun i j hj hi e => by
  have h3 := h2 j i hj hi
  rcases Nat.lt_or_ge (ss j) (ss i) with g | g
  · exact hU (ss i) (ss j) g (h1 i hi) e
  · exact hU (ss j) (ss i) (by omega) (h1 j (by omega)) e.symm
/-- A message comes back, whose shards these are. -/
def MsgPost (w : World) (a q L W : Nat) (E : Nat → Nat → UInt8) (ds : Nat → List UInt8) (e : Ending) (w1 : World) : Prop :=
  ∃ (X : Nat → Nat → UInt8) (A' : Option Addr) (r cc : Nat), e = .returned (.tuple #[.slice A' r cc, .int .i64 0]) ∧ Own w1 w.heap.size 5 (.slice A' r cc) (rowL W fun t => X (t / L) (t % L)) ∧ EqF q L (mulF q E X) (knF a L ds) ∧ Kp No w w1
theorem dec_nil (w : World) : Calls Try.prog 9 #[.pointer none, .slice none 0 0] w fun e w' => e = .returned (.tuple #[.slice none 0 0, .int .i64 1]) ∧ w = w' := by
  go_enter Try.func9, Try.ntmps9
  go_wp2_with fail
  refine (check_nil w _).mono ?_
  rintro e w' ⟨rfl, rfl⟩
  go_wp2_with fail
  go_ret2
  exact ⟨rfl, rfl⟩
section
variable {w : World} {c n k a d q m cp : Nat} {x : Nat → UInt8} {A : Option Addr} {sl : Nat → Int} {ds : Nat → List UInt8}
/-- An error comes back. -/
def ErrPost (w : World) (z : Int) (e : Ending) (w1 : World) : Prop := e = .returned (.tuple #[.slice none 0 0, .int .i64 z]) ∧ Kp No w w1
theorem dec_err (h : CodeAt w c n k x) (hD : Dim n k a d q) (hP : Prts w A m sl ds) (hm : m ≤ 1000) (z : Int) (hz : ∀ y, CkV n k a m sl ds y → y = z) (h0 : z ≠ 0) : Calls Try.prog 9 #[cptr c, .slice A m cp] w (ErrPost w z) := by
  have hck := check_any (cp := cp) h hD hP hm
  have hz0 : (z != 0) = true := by simpa using h0
  have HZ := hide hz
  clear hz h0 hD hP
  go_enter Try.func9, Try.ntmps9
  go_wp2_with fail
  refine hck.mono ?_
  rintro e w1 ⟨y, rfl, hV, hk⟩
  have := HZ.out y hV
  subst this
  go_wp2_with fail
  go_ret2
  exact ⟨rfl, hk⟩
set_option maxHeartbeats 8000000 in
theorem dec_ok {ss : Nat → Nat} {L W : Nat} (h : CodeAt w c n k x) (hD : Dim n k a d q) (hX : Pts n a x) (hP : Prts w A m sl ds) (hm : m ≤ 1000) (hcp : m ≤ cp) (hkm : k ≤ m) (hgood : ∀ j, j < m → PGood n sl ds j) (hs : ∀ j, j < m → sl j = (ss j : Int)) (hL : (ds 0).length = a * L) (hWe : W = q * L) (hWb : W ≤ 100000) :
    Calls Try.prog 9 #[cptr c, .slice A m cp] w (MsgPost w a q L W (eqM a (plcF a) fun j => x (ss j)) ds) := by
  have hck := check_any (cp := cp) h hD hP hm
  obtain ⟨hq1, hq2, hq3⟩ := hD.q56
  have ha1 := hD.a1
  have ha7 := hD.a7
  have hk1 : 1 ≤ k := by have := hD.k_; omega
  have hk8 : k ≤ 8 := by have := hD.k_; omega
  have hmp : 0 < m := by omega
  have hlen : ∀ j, j < k → (ds j).length = a * L := fun j hj => by rw [(hgood j (by omega)).2.2.2, hL]
  have hL1 : 1 ≤ L := by
    rcases Nat.eq_zero_or_pos L with e | e
    · have := (hgood 0 hmp).2.2.1
      rw [hL, e, Nat.mul_zero] at this
      exact absurd rfl this
    · exact e
  have haL : a * L ≤ 100000 := Nat.le_trans (Nat.mul_le_mul_right L hq3) (by omega)
  have hLb : L ≤ 100000 := by have := Nat.mul_le_mul_right L ha1; omega
  have hV0 : ∀ y, CkV n k a m sl ds y → y = 0 := fun y hy => by
    rcases hy with ⟨⟨j, hj, hb⟩, _⟩ | ⟨_, ⟨hf, _⟩ | ⟨_, ⟨hf, _⟩ | ⟨_, hy⟩⟩⟩
    · exact absurd (hgood j hj) hb
    · omega
    · rw [hL, Nat.mul_mod_right] at hf
      exact absurd rfl hf
    · exact hy
  have hsn : ∀ j, j < k → ss j < n := fun j hj => by
    have h1 := (hgood j (by omega)).1
    have h2 := hs j (by omega)
    omega
  have hne : ∀ i j, i < j → j < k → ss i ≠ ss j := fun i j hi hj e => by
    have h1 := (hgood j (by omega)).2.1 i hi
    rw [hs i (by omega), hs j (by omega), e] at h1
    exact h1 rfl
  have hPk : Prts w A k (fun j => (ss j : Int)) ds := (hP.less hkm).eq fun j hj => hs j (by omega)
  obtain ⟨B, off, A0, r0, c0, rfl, _, z00, hB0⟩ := hP.at_ 0 hmp
  rw [Nat.zero_mul, Nat.add_zero] at z00
  have hr0 : r0 = a * L := by rw [hB0.len, hL]
  have hd1 : (r0 : Int) / (a : Int) = (L : Int) := by rw [hr0, Int.natCast_mul, Int.mul_ediv_cancel_left _ (by omega)]
  have hd2 : (r0 : Int).tdiv (a : Int) = (L : Int) := by rw [Int.tdiv_eq_ediv_of_nonneg (by omega), hd1]
  have hWi : (q : Int) * (L : Int) = (W : Int) := by rw [hWe, Int.natCast_mul]
  have hkq : k * a = q := by rw [hD.k_, hD.q_]
  have hka : k * a ≤ 1000 := by omega
  have hinv := fun w' (hk : Kp No w w') => inverse_any (cp := cp) (h.no hk) hD (hPk.no hk) hsn (uq_slots hX.uq hsn hne)
  have hby := fun w' (hk : Kp No w w') i (hi : i < L) => bytesat_any (cp := cp) (hPk.no hk) hlen ha1 hi hka haL
  rw [hkq] at hby
  have HV0 := hide hV0
  have HINV := hide hinv
  have HBY := hide hby
  have HWE := hide hWe
  have HD := hide hD
  have HWI := hide hWi
  have HD1 := hide hd1
  have HD2 := hide hd2
  clear hV0 hinv hby hWe hD hX hsn hne hlen hgood hs hL hP hPk hB0 hr0 hkq hka hWi hd1 hd2
  go_enter Try.func9, Try.ntmps9
  go_wp2_with fail
  refine hck.mono ?_
  rintro e w1 ⟨y, rfl, hV, hk⟩
  have := HV0.out y hV
  subst this
  clear hV hck
  go_wp2_with fail
  refine (kk_any (h.no hk)).mono ?_
  rintro e w' ⟨rfl, rfl⟩
  have y00 := hk.cell z00 fun f => f
  have hC1 := h.no hk
  have hd1 := HD1.out
  have hd2 := HD2.out
  go_wp2_with fail
  go_quiet ((go_at_call 13; exact aa_q hC1 HD.out _))
  go_wp2_with fail
  clear hd1 hd2
  generalize hgen : World.drewN w1 _ = w2
  have hk2 : Kp No w w2 := hk.trans' (hgen ▸ (Sm.drewN w1 _).kp)
  clear hgen hC1 y00
  refine (HINV.out w2 hk2).mono ?_
  rintro e w3 ⟨g, hv, G, rfl, hG, hE, hk3⟩
  have hk3' := hk2.trans' hk3
  have hqq := qq_any (h.no hk3') HD.out
  have hmk := make_bytes w3 W (W : Int) rfl (by omega)
  have hWi := HWI.out
  go_wp2_with fail
  refine hqq.mono ?_
  rintro e w' ⟨rfl, rfl⟩
  go_wp2_with fail
  clear hWi hmk hqq
  have hst := row_big w3 W (by omega)
  have hk0 : Kp No w3 (w3.alloc (.cells (zc W) 5)) := Kp.alloc No _ _
  obtain ⟨gb, hgb⟩ : ∃ gb, gb = w3.heap.size := ⟨_, rfl⟩
  rw [← hgb] at hst ⊢
  have HGB := hide hgb
  have HE := hide hE
  clear hgb hE
  go_loopw [41] (fun iv wr => ∃ i : Nat, i ≤ L ∧ iv = .int .i64 (i : Int) ∧ RowAt wr gb gb W W (decP L (fun t => ud (G (t / L)) (fun u => knF a L ds u (t % L)) q) i 0) ∧ Kp No w3 wr) (fun iv _ => L - (intOf iv).toNat)
  case atStart => exact ⟨0, Nat.zero_le _, rfl, hst.eq fun t _ => (decP_zero _ t).symm, hk0⟩
  case round =>
    clear hst hk0
    obtain ⟨i, hi, rfl, hR, hkw⟩ := hrel
    by_cases hlt : i < L
    · go_wp2_with fail
      refine (HBY.out wr (hk3'.trans' hkw) i hlt).mono ?_
      rintro e w5 ⟨A5, n5, c5, rfl, ho5, hk5⟩
      have hkw5 := hkw.trans' hk5
      have hR5 := hR.no hk5
      have hsz := hkw.size
      have hge5 : Hid (gb < wr.heap.size) := by
        obtain ⟨_, h1, _⟩ := Own.block hR
        exact (Array.getElem?_eq_some_iff.1 h1).1
      have ho6 := ho5.rebase (b := gb + 1) fun b hb => Nat.le_trans hge5.out (ho5.ge b hb)
      clear ho5 hk5 hkw hR
      go_wp2_with fail
      go_loopw [50] (fun pv wr => ∃ p : Nat, p ≤ q ∧ pv = .int .i64 (p : Int) ∧ RowAt wr gb gb W W (decP L (fun t => ud (G (t / L)) (fun u => knF a L ds u (t % L)) q) i p) ∧ Own wr (gb + 1) 5 (.slice A5 n5 c5) (rowL q fun u => knF a L ds u i) ∧ Kp No w3 wr) (fun pv _ => q - (intOf pv).toNat)
      case atStart => exact ⟨0, Nat.zero_le _, rfl, hR5, ho6, hkw5⟩
      case round =>
        clear hR5 ho6 hkw5
        obtain ⟨p, hp, rfl, hR, ho, hkw⟩ := hrel
        by_cases hltp : p < q
        · obtain ⟨b1, c1, e1, _, hR1, _, _⟩ := (hG.no hkw).at_ (by omega) hltp
          have x1 := (hG.no hkw).out.cell hltp
          rw [e1] at x1
          have hdot := dot_any hR1.bts ho.bts q (by rw [rowL_len, rowL_len]; omega) (by rw [rowL_len]; omega) (by rw [rowL_len]; omega)
          obtain ⟨T, hT⟩ : ∃ T, T = p * L + i := ⟨_, rfl⟩
          have hTW : T < W := by rw [hT, HWE.out]; exact idx_lt hltp hlt
          have HVal : Hid (ud (lg (rowL q (G p))) (lg (rowL q fun u => knF a L ds u i)) q = (fun t => ud (G (t / L)) (fun u => knF a L ds u (t % L)) q) T) := by
            show ud (lg (rowL q (G p))) (lg (rowL q fun u => knF a L ds u i)) q = ud (G (T / L)) (fun u => knF a L ds u (T % L)) q
            have h1 : T / L = p := by rw [hT, Nat.mul_comm, Nat.mul_add_div (by omega), Nat.div_eq_of_lt hlt, Nat.add_zero]
            have h2 : T % L = i := by rw [hT, Nat.mul_comm, Nat.mul_add_mod, Nat.mod_eq_of_lt hlt]
            rw [h1, h2]
            exact ud_congr (fun u hu => lg_rowL _ hu) fun u hu => lg_rowL (fun u => knF a L ds u i) hu
          obtain ⟨yy, hyy⟩ : ∃ yy, yy = p * L := ⟨_, rfl⟩
          have hyi : (p : Int) * (L : Int) = (yy : Int) := by rw [hyy, Int.natCast_mul]
          have hyT : Hid (T = yy + i) := by show T = yy + i; rw [hT, hyy]
          have HT := hide hT
          have hyW : yy + i < W := by have := hyT.out; omega
          clear hT hyy e1
          go_wp2_with fail
          clear hyi
          refine hdot.mono ?_
          rintro e w6 ⟨rfl, hs6⟩
          rw [HVal.out]
          have hR6 := hR.no hs6.kp
          have x3 := hR6.cell hyW
          have x4 := hR6.frozen (yy + i)
          have hstep : ∀ t, upd (decP L (fun t => ud (G (t / L)) (fun u => knF a L ds u (t % L)) q) i p) T (ud (G (T / L)) (fun u => knF a L ds u (T % L)) q) t = decP L (fun t => ud (G (t / L)) (fun u => knF a L ds u (t % L)) q) i (p + 1) t := by
            rw [HT.out]
            exact fun t => decP_step hlt (fun t => ud (G (t / L)) (fun u => knF a L ds u (t % L)) q) p t
          have HN := hide ((hR6.set hTW (ud (G (T / L)) (fun u => knF a L ds u (T % L)) q) _ rfl).eq fun t _ => hstep t)
          clear hstep
          have HON := hide (fun v => (ho.no hs6.kp).keep (RowAt.kpset gb T v w6) fun b hb e => by have := ho.ge b hb; omega)
          have HKN := hide (fun v => (hkw.trans' hs6.kp).trans ((RowAt.kpset gb T v w6).mono fun b hb => .inr (by rw [hb, HGB.out]; exact Nat.le_refl _)))
          rw [hyT.out] at HN HON HKN ⊢
          clear hdot hR hR6 ho hkw
          go_wp2_with fail
          go_round
          case rel => exact ⟨p + 1, by omega, by go_num, HN.out, HON.out _, HKN.out _⟩
          case measure => simp [intOf]; omega
        · obtain rfl : p = q := by omega
          have hR2 := hR.eq fun t ht => decP_turn (fun t => ud (G (t / L)) (fun u => knF a L ds u (t % L)) p) i (by rw [← HWE.out]; exact ht)
          clear hR
          go_wp2_with fail
          go_round
          case rel => exact ⟨i + 1, by omega, by go_num, hR2, hkw⟩
          case measure => simp [intOf]; omega
    · obtain rfl : i = L := by omega
      have hR2 := hR.eq fun t ht => decP_done (show 0 < i by omega) (fun t => ud (G (t / i)) (fun u => knF a i ds u (t % i)) q) t
      have HX : Hid (EqF q i (mulF q (eqM a (plcF a) fun j => x (ss j)) (mulF q G (knF a i ds))) (knF a i ds)) := fun u v hu hv => by
        rw [← mulF_assoc]
        exact (mulF_congr HE.out (EqF.refl q i _) u v hu hv).trans (mulF_one (c := i) (knF a i ds) u v hu hv)
      clear hR
      go_wp2_with fail
      go_ret2
      exact ⟨mulF q G (knF a i ds), _, _, _, rfl, (show Own _ _ _ _ _ from hR2).rebase fun b hb => by injection hb with hb; rw [← hb, HGB.out]; exact hk3'.size, HX.out, hk3'.trans' hkw⟩
end
end Go.Proofs.Ytbkelijmdpoanaa
