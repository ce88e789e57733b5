/- Package slices' stable sort by a closure, as a contract over memory. -/
import Derived.Test.YthbnomemknnmeaaSsq
namespace Go.Proofs.Ythbnomemknnmeaa
open Go.RowKit
set_option linter.unusedVariables false
set_option linter.unusedSimpArgs false
set_option maxRecDepth 100000

/-- So many blocks of 20 are sorted, the rest is as it was. -/
structure StI (w : World) (b n : Nat) (k : Nat → Int) (t A : Nat) (wr : World) : Prop where
  ex : ∃ d, IRow wr b n d ∧ (∀ i, i < n → d i < n) ∧ (∀ q, q < t → soK k d (q * 20) (q * 20 + 20)) ∧ ∀ i, A ≤ i → i < n → d i = i
  at_ : A = t * 20
  le : A ≤ n
  kp : Kp (On b) w wr
/-- All blocks of so many are sorted. -/
structure BkI (w : World) (b n : Nat) (k : Nat → Int) (bs : Nat) (wr : World) : Prop where
  ex : ∃ d, IRow wr b n d ∧ (∀ i, i < n → d i < n) ∧ ∀ q, soK k d (q * bs) (min (q * bs + bs) n)
  kp : Kp (On b) w wr
/-- So many pairs of blocks are merged. -/
structure MrI (w : World) (b n : Nat) (k : Nat → Int) (bs t A : Nat) (wr : World) : Prop where
  ex : ∃ d, IRow wr b n d ∧ (∀ i, i < n → d i < n) ∧ (∀ q, q < t → soK k d (q * (2 * bs)) (q * (2 * bs) + 2 * bs)) ∧ ∀ q, 2 * t ≤ q → soK k d (q * bs) (min (q * bs + bs) n)
  at_ : A = t * (2 * bs)
  le : A ≤ n
  kp : Kp (On b) w wr
section
variable {w wr w1 : World} {b n bs t A : Nat} {k : Nat → Int} {d d' : Nat → Nat}
theorem StI.next (h : StI w b n k t A wr) (hI : IRow wr b n d) (hd : ∀ i, i < n → d i < n) (hq : ∀ q, q < t → soK k d (q * 20) (q * 20 + 20)) (hid : ∀ i, A ≤ i → i < n → d i = i) (he : A + 20 ≤ n)
    (h1 : IRow w1 b n d') (h2 : soE d d' A (A + 20)) (h3 : soS k d' A (A + 20)) (h4 : Kp (On b) wr w1) : StI w b n k (t + 1) (A + 20) w1 := by
  have ha := h.at_
  refine ⟨⟨d', h1, h2.lt hd he, fun q hqt => ?_, fun i hi hn => by rw [h2.out i (.inr hi)]; exact hid i (by omega) hn⟩, by omega, he, h.kp.trans' h4⟩
  rcases Nat.lt_or_ge q t with g | g
  · exact (hq q g).congr fun i _ hi => h2.out i (.inl (by omega))
  · obtain rfl : q = t := by omega
    rw [← ha]
    exact soK.of_id (fun i hi hi2 => hid i hi (by omega)) h2 h3
theorem StI.last (h : StI w b n k t A wr) (hI : IRow wr b n d) (hd : ∀ i, i < n → d i < n) (hq : ∀ q, q < t → soK k d (q * 20) (q * 20 + 20)) (hid : ∀ i, A ≤ i → i < n → d i = i) (he : n < A + 20)
    (h1 : IRow w1 b n d') (h2 : soE d d' A n) (h3 : soS k d' A n) (h4 : Kp (On b) wr w1) : BkI w b n k 20 w1 := by
  have ha := h.at_
  refine ⟨⟨d', h1, h2.lt hd (Nat.le_refl _), fun q => ?_⟩, h.kp.trans' h4⟩
  rcases Nat.lt_trichotomy q t with g | g | g
  · have hl := h.le
    rw [show min (q * 20 + 20) n = q * 20 + 20 by omega]
    exact (hq q g).congr fun i _ hi => h2.out i (.inl (by omega))
  · subst g
    rw [← ha, show min (A + 20) n = n by omega]
    exact soK.of_id (fun i hi hi2 => hid i hi hi2) h2 h3
  · exact soK.empty (by omega)
theorem BkI.begin (h : BkI w b n k bs wr) : MrI w b n k bs 0 0 wr := by
  obtain ⟨d, h1, h2, h3⟩ := h.ex
  exact ⟨⟨d, h1, h2, fun q hq => by omega, fun q _ => h3 q⟩, by omega, Nat.zero_le _, h.kp⟩
theorem BkI.whole (h : BkI w b n k bs wr) (hn : n ≤ bs) : ∃ d, IRow wr b n d ∧ soK k d 0 n := by
  obtain ⟨d, h1, h2, h3⟩ := h.ex
  have := h3 0
  rw [Nat.zero_mul, Nat.zero_add, show min bs n = n by omega] at this
  exact ⟨d, h1, this⟩
theorem mul_b (q t bs : Nat) (h : q < t) : q * (2 * bs) + 2 * bs ≤ t * (2 * bs) := by
  have := Nat.mul_le_mul_right (2 * bs) (show q + 1 ≤ t by omega)
  rw [Nat.add_mul, Nat.one_mul] at this
  exact this
theorem MrI.two (h : MrI w b n k bs t A wr) : 2 * t * bs = A ∧ (2 * t + 1) * bs = A + bs := by
  have ha := h.at_
  have e : 2 * t * bs = A := by rw [ha, Nat.mul_comm 2 t, Nat.mul_assoc]
  exact ⟨e, by rw [Nat.add_mul, Nat.one_mul, e]⟩
theorem MrI.pair (h : MrI w b n k bs t A wr) (hr : ∀ q, 2 * t ≤ q → soK k d (q * bs) (min (q * bs + bs) n)) {e : Nat} (h1 : A + bs ≤ n) (he : e = min (A + bs + bs) n) : soK k d A (A + bs) ∧ soK k d (A + bs) e := by
  obtain ⟨e1, e2⟩ := h.two
  have a1 := hr (2 * t) (Nat.le_refl _)
  have a2 := hr (2 * t + 1) (Nat.le_succ _)
  rw [e1, show min (A + bs) n = A + bs by omega] at a1
  rw [e2, ← he] at a2
  exact ⟨a1, a2⟩
theorem MrI.next (h : MrI w b n k bs t A wr) (hd : ∀ i, i < n → d i < n) (hq : ∀ q, q < t → soK k d (q * (2 * bs)) (q * (2 * bs) + 2 * bs)) (hr : ∀ q, 2 * t ≤ q → soK k d (q * bs) (min (q * bs + bs) n)) {e : Nat} (he : e = A + 2 * bs) (hen : e ≤ n)
    (h1 : IRow w1 b n d') (h2 : soE d d' A e) (h3 : soS k d' A e) (h4 : Kp (On b) wr w1) : MrI w b n k bs (t + 1) e w1 := by
  have ha := h.at_
  obtain ⟨e1, e2⟩ := h.two
  have hp := h.pair hr (e := e) (by omega) (by omega)
  refine ⟨⟨d', h1, h2.lt hd hen, fun q hqt => ?_, fun q hqt => ?_⟩, by rw [he, ha, Nat.add_mul, Nat.one_mul], hen, h.kp.trans' h4⟩
  · rcases Nat.lt_or_ge q t with g | g
    · have := mul_b q t bs g
      exact (hq q g).congr fun i _ hi => h2.out i (.inl (by omega))
    · obtain rfl : q = t := by omega
      rw [← ha, ← he]
      exact hp.1.merged hp.2 (by omega) (by omega) h2 h3
  · have g : (2 * t + 2) * bs ≤ q * bs := Nat.mul_le_mul_right bs (by omega)
    have e3 : (2 * t + 2) * bs = A + 2 * bs := by rw [Nat.add_mul, e1]
    exact (hr q (by omega)).congr fun i hi _ => h2.out i (.inr (by omega))
theorem MrI.last (h : MrI w b n k bs t A wr) (hd : ∀ i, i < n → d i < n) (hq : ∀ q, q < t → soK k d (q * (2 * bs)) (q * (2 * bs) + 2 * bs)) (hen : n < A + 2 * bs)
    (h1 : IRow w1 b n d') (h2 : soE d d' A n) (h3 : soK k d' A n) (h4 : Kp (On b) wr w1) : BkI w b n k (2 * bs) w1 := by
  have ha := h.at_
  have hl := h.le
  refine ⟨⟨d', h1, h2.lt hd (Nat.le_refl _), fun q => ?_⟩, h.kp.trans' h4⟩
  rcases Nat.lt_trichotomy q t with g | g | g
  · have := mul_b q t bs g
    rw [show min (q * (2 * bs) + 2 * bs) n = q * (2 * bs) + 2 * bs by omega]
    exact (hq q g).congr fun i _ hi => h2.out i (.inl (by omega))
  · subst g
    rw [← ha, show min (A + 2 * bs) n = n by omega]
    exact h3
  · have := mul_b t q bs g
    exact soK.empty (by omega)
theorem MrI.tail (h : MrI w b n k bs t A wr) (hr : ∀ q, 2 * t ≤ q → soK k d (q * bs) (min (q * bs + bs) n)) (hen : n ≤ A + bs) : soK k d A n := by
  obtain ⟨e1, _⟩ := h.two
  have a1 := hr (2 * t) (Nat.le_refl _)
  rw [e1, show min (A + bs) n = n by omega] at a1
  exact a1
end
/-- The row is sorted. -/
def StPost (w : World) (b n : Nat) (k : Nat → Int) (en : Ending) (w1 : World) : Prop := en = .returned (.tuple #[]) ∧ (∃ d, IRow w1 b n d ∧ soK k d 0 n) ∧ Kp (On b) w w1
set_option maxHeartbeats 8000000 in
theorem stable_any {w : World} {b n cp bf bl : Nat} {k : Nat → Int} (h : IRow w b n fun i => i) (hC : CmpAt bf bl k n b w) (hn : n ≤ 500) :
    Calls Try.prog 26 #[.slice (some ⟨b, 0, none⟩) n cp, .int .i64 (n : Int), nearV bf bl] w (StPost w b n k) := by
  have h0 : StI w b n k 0 0 w := ⟨⟨_, h, fun i hi => hi, fun q hq => by omega, fun i _ _ => rfl⟩, by omega, Nat.zero_le _, Kp.refl _ _⟩
  have HC := hide hC
  clear h hC
  go_enter Try.func26, Try.ntmps26
  go_wp2_with fail
  go_loopw [7, 8] (fun av ev wr => ∃ t A E : Nat, Hid (E = A + 20) ∧ av = .int .i64 (A : Int) ∧ ev = .int .i64 (E : Int) ∧ StI w b n k t A wr) (fun av _ _ => n + 20 - (intOf av).toNat)
  case atStart => exact ⟨0, 0, 20, rfl, rfl, rfl, h0⟩
  case round =>
    clear h0
    obtain ⟨t, A, E, hE, rfl, rfl, hS⟩ := hrel
    have hAn := hS.le
    have hEA : A < E := by have := hE.out; omega
    have hEb : E ≤ 1000 := by have := hE.out; omega
    have HS := hide hS
    obtain ⟨d, hI, hd, hq, hid⟩ := hS.ex
    have HX := hide (And.intro hd (And.intro hq hid))
    have HI := hide hI
    clear hS hI hd hq hid
    by_cases hlt : E ≤ n
    · go_wp2_with fail
      refine (insort_any HI.out HX.out.1 (HC.out.on HS.out.kp) A E hEA hlt (by omega) (fun i j h1 h2 h3 => by rw [HX.out.2.2 i h1 (by omega), HX.out.2.2 j (by omega) (by omega)]; exact h2)).mono ?_
      rintro en w1 ⟨rfl, d', hI', hE', hS', hk'⟩
      have hEe := hE.out
      subst hEe
      have HN := hide (HS.out.next HI.out HX.out.1 HX.out.2.1 HX.out.2.2 hlt hI' hE' hS' hk')
      clear hI' hE' hS' hk'
      go_wp2_with fail
      go_round
      case rel => exact ⟨t + 1, A + 20, A + 20 + 20, rfl, by go_num, by go_num, HN.out⟩
      case measure => simp [intOf]; omega
    · -- the last block
      have hlast : Calls Try.prog 28 #[.slice (some ⟨b, 0, none⟩) n cp, .int .i64 (A : Int), .int .i64 (n : Int), nearV bf bl] wr fun e w1 => e = .returned (.tuple #[]) ∧ BkI w b n k 20 w1 := by
        have hEe := hE.out
        rcases Nat.lt_or_ge A n with g | g
        · refine (insort_any HI.out HX.out.1 (HC.out.on HS.out.kp) A n g (Nat.le_refl _) (by omega) (fun i j h1 h2 h3 => by rw [HX.out.2.2 i h1 (by omega), HX.out.2.2 j (by omega) (by omega)]; exact h2)).mono ?_
          rintro en w1 ⟨rfl, d', hI', hE', hS', hk'⟩
          exact ⟨rfl, HS.out.last HI.out HX.out.1 HX.out.2.1 HX.out.2.2 (by omega) hI' hE' hS' hk'⟩
        · have e : A = n := by omega
          have hh := insort_none (w := wr) (b := b) (n := n) (cp := cp) (bf := bf) (bl := bl) n (by omega) (Nat.le_refl _)
          rw [e]
          refine hh.mono ?_
          rintro en w1 ⟨rfl, rfl⟩
          refine ⟨rfl, HS.out.last (d := d) (d' := d) HI.out HX.out.1 HX.out.2.1 HX.out.2.2 (by omega) HI.out (soE.refl _ _ _) (fun i j h1 h2 h3 => by omega) (Kp.refl _ _)⟩
      have HLST := hide hlast
      rename World => wo
      clear hlast
      go_wp2_with fail
      refine HLST.out.mono ?_
      rintro en w1 ⟨rfl, hB⟩
      clear HS HI HX HLST
      go_wp2_with fail
      go_loopw [6] (fun bv wr => ∃ bs : Nat, bv = .int .i64 (bs : Int) ∧ 20 ≤ bs ∧ bs ≤ 1000 ∧ BkI w b n k bs wr) (fun bv _ => n - (intOf bv).toNat)
      case atStart => exact ⟨20, rfl, by omega, by omega, hB⟩
      case round =>
        clear hB
        obtain ⟨bs, rfl, hb1, hb2, hB⟩ := hrel
        by_cases hlt2 : bs < n
        · obtain ⟨b2, hb⟩ : ∃ b2, b2 = 2 * bs := ⟨_, rfl⟩
          have z2 : (2 : Int) * (bs : Int) = (b2 : Int) := by omega
          have z2' : (bs : Int) * 2 = (b2 : Int) := by omega
          have hb3 : b2 ≤ 1000 := by omega
          have hb4 : bs < b2 := by omega
          have HB2 := hide hb
          have hM := hB.begin
          clear hb hB
          go_wp2_with fail
          go_loopw [7, 8] (fun av ev wr => ∃ t A E : Nat, Hid (E = A + b2) ∧ av = .int .i64 (A : Int) ∧ ev = .int .i64 (E : Int) ∧ MrI w b n k bs t A wr) (fun av _ _ => n - (intOf av).toNat)
          case atStart => exact ⟨0, 0, b2, by show _ = _; omega, rfl, by go_num, hM⟩
          case round =>
            clear hM
            obtain ⟨t, A, E, hE, rfl, rfl, hS⟩ := hrel
            have hAn := hS.le
            have HS := hide hS
            obtain ⟨d, hI, hd, hq, hr⟩ := hS.ex
            have HX := hide (And.intro hd (And.intro hq hr))
            have HI := hide hI
            clear hS hI hd hq hr
            have hEb : E ≤ 3000 := by have := hE.out; omega
            obtain ⟨M, hM⟩ : ∃ M, M = A + bs := ⟨_, rfl⟩
            have zM : (A : Int) + (bs : Int) = (M : Int) := by omega
            have HM := hide hM
            have hMb : M ≤ 3000 := by omega
            clear hM
            by_cases hlt3 : E ≤ n
            · have hp := HS.out.pair HX.out.2.2 (e := E) (by have := hE.out; have := HB2.out; omega) (by have := hE.out; have := HB2.out; omega)
              rw [← HM.out] at hp
              have hMg := merge_any (cp := cp) (bf := bf) (bl := bl) (b := b) (k := k) (n := n) (by omega) (E - A) A M E (Nat.le_refl _) (by have := HM.out; omega) (by have := HM.out; have := hE.out; have := HB2.out; omega) hlt3 wr d HI.out HX.out.1 (HC.out.on HS.out.kp) hp.1.srt hp.2.srt (hp.1.apart hp.2)
              have HMG := hide hMg
              clear hp hMg
              go_wp2_with fail
              refine HMG.out.mono ?_
              rintro en w2 ⟨rfl, d', hI', hE', hS', hk'⟩
              have HN := hide (HS.out.next HX.out.1 HX.out.2.1 HX.out.2.2 (e := E) (by have := hE.out; have := HB2.out; omega) hlt3 hI' hE' hS' hk')
              clear hI' hE' hS' hk' HMG
              go_wp2_with fail
              go_round
              case rel => exact ⟨t + 1, E, E + b2, rfl, by rfl, by go_num, HN.out⟩
              case measure => have := hE.out; simp [intOf]; omega
            · by_cases hm : M < n
              · have hp := HS.out.pair HX.out.2.2 (e := n) (by have := HM.out; omega) (by have := hE.out; have := HB2.out; have := HM.out; omega)
                rw [← HM.out] at hp
                have hMg := merge_any (cp := cp) (bf := bf) (bl := bl) (b := b) (k := k) (n := n) (by omega) (n - A) A M n (Nat.le_refl _) (by have := HM.out; omega) hm (Nat.le_refl _) wr d HI.out HX.out.1 (HC.out.on HS.out.kp) hp.1.srt hp.2.srt (hp.1.apart hp.2)
                have HMG := hide hMg
                have HP := hide hp
                clear hp hMg
                go_wp2_with fail
                refine HMG.out.mono ?_
                rintro en w2 ⟨rfl, d', hI', hE', hS', hk'⟩
                have HN := hide (HS.out.last HX.out.1 HX.out.2.1 (by have := hE.out; have := HB2.out; omega) hI' hE' (HP.out.1.merged HP.out.2 (by have := HM.out; omega) (by omega) hE' hS') hk')
                rw [← HB2.out] at HN
                clear hI' hE' hS' hk' HMG HP
                go_wp2_with fail
                go_round
                case rel => exact ⟨b2, by go_num, by omega, hb3, HN.out⟩
                case measure => simp [intOf]; omega
              · have HN := hide (HS.out.last (d := d) (d' := d) HX.out.1 HX.out.2.1 (by have := hE.out; have := HB2.out; omega) HI.out (soE.refl _ _ _) (HS.out.tail HX.out.2.2 (by have := HM.out; omega)) (Kp.refl _ _))
                rw [← HB2.out] at HN
                go_wp2_with fail
                go_round
                case rel => exact ⟨b2, by go_num, by omega, hb3, HN.out⟩
                case measure => simp [intOf]; omega
        · have hw := hB.whole (by omega)
          go_wp2_with fail
          go_end0
          exact ⟨rfl, hw, hB.kp⟩
theorem sortstable_any {w : World} {b n cp bf bl : Nat} {k : Nat → Int} (h : IRow w b n fun i => i) (hC : CmpAt bf bl k n b w) (hn : n ≤ 500) :
    Calls Try.prog 23 #[.slice (some ⟨b, 0, none⟩) n cp, nearV bf bl] w (StPost w b n k) := by
  have hs := stable_any (cp := cp) h hC hn
  clear h hC
  go_enter Try.func23, Try.ntmps23
  go_wp2_with fail
  refine hs.mono ?_
  rintro en w1 ⟨rfl, h1, h2⟩
  go_wp2_with fail
  go_end0
  exact ⟨rfl, h1, h2⟩
end Go.Proofs.Ythbnomemknnmeaa
