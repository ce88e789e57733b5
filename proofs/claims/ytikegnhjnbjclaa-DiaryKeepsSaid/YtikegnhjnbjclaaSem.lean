/- What a frame reads as, and what one reads as whose bytes were turned; no program is spoken of but by its bytes' rows. -/
import Derived.Test.YtikegnhjnbjclaaSee
namespace Go.Proofs.Ytikegnhjnbjclaa
set_option linter.unusedVariables false
set_option maxRecDepth 20000
set_option linter.unusedSimpArgs false

theorem five_parts {a b c d e : List UInt8} (ha : a.length = 2) (hb : b.length = 2) (hc : c.length = 4) (hd : d.length = 4) :
    (a ++ (b ++ (c ++ (d ++ e)))).take 2 = a ∧ ((a ++ (b ++ (c ++ (d ++ e)))).drop 2).take 2 = b ∧ ((a ++ (b ++ (c ++ (d ++ e)))).drop 4).take 4 = c ∧ ((a ++ (b ++ (c ++ (d ++ e)))).drop 8).take 4 = d ∧ (a ++ (b ++ (c ++ (d ++ e)))).drop 12 = e ∧ (a ++ (b ++ (c ++ (d ++ e)))).take 8 = a ++ b ++ c := by
  have d2 : ∀ x : List UInt8, (a ++ x).drop 2 = x := fun x => by rw [← ha, List.drop_left]
  have e2 : ∀ x : List UInt8, (b ++ x).drop 2 = x := fun x => by rw [← hb, List.drop_left]
  have c4 : ∀ x : List UInt8, (c ++ x).drop 4 = x := fun x => by rw [← hc, List.drop_left]
  have d4 : ∀ x : List UInt8, (d ++ x).drop 4 = x := fun x => by rw [← hd, List.drop_left]
  have t2 : ∀ x : List UInt8, (a ++ x).take 2 = a := fun x => by rw [← ha, List.take_left]
  have u2 : ∀ x : List UInt8, (b ++ x).take 2 = b := fun x => by rw [← hb, List.take_left]
  have t4 : ∀ x : List UInt8, (c ++ x).take 4 = c := fun x => by rw [← hc, List.take_left]
  have u4 : ∀ x : List UInt8, (d ++ x).take 4 = d := fun x => by rw [← hd, List.take_left]
  have g4 : (a ++ (b ++ (c ++ (d ++ e)))).drop 4 = c ++ (d ++ e) := by rw [show (4 : Nat) = 2 + 2 from rfl, ← List.drop_drop, d2, e2]
  have g8 : (a ++ (b ++ (c ++ (d ++ e)))).drop 8 = d ++ e := by rw [show (8 : Nat) = 4 + 4 from rfl, ← List.drop_drop, g4, c4]
  refine ⟨t2 _, by rw [d2, u2], by rw [g4, t4], by rw [g8, u4], by rw [show (12 : Nat) = 8 + 4 from rfl, ← List.drop_drop, g8, d4], ?_⟩
  have h8 : (a ++ b ++ c).length = 8 := by simp [ha, hb, hc]
  rw [show a ++ (b ++ (c ++ (d ++ e))) = (a ++ b ++ c) ++ (d ++ e) by simp, ← h8, List.take_left]

/-- A frame of any sum, with anything behind it. -/
def anyF (k s : Nat) (bs m : List UInt8) : List UInt8 := hdr k bs.length ++ numB s 4 ++ bs ++ m
structure AnyF (L : List UInt8) (k s : Nat) (bs m : List UInt8) : Prop where
  len : L.length = 12 + bs.length + m.length
  mk_ : mkO L = 53021
  kd : kdO L = k
  ct : ctO L = bs.length
  sm : smO L = s
  ld : ldO L bs.length = bs
  cs : csO L bs.length = crc (hdr k bs.length ++ bs)
theorem anyF_ok {k s : Nat} {bs m : List UInt8} (hk : k < 65536) (hs : s < 4294967296) (hl : bs.length ≤ 65536) : AnyF (anyF k s bs m) k s bs m := by
  have e : anyF k s bs m = numB 53021 2 ++ (numB k 2 ++ (numB bs.length 4 ++ (numB s 4 ++ (bs ++ m)))) := by simp [anyF, hdr]
  obtain ⟨p1, p2, p3, p4, p5, p6⟩ := five_parts (a := numB 53021 2) (b := numB k 2) (c := numB bs.length 4) (d := numB s 4) (e := bs ++ m) (numB_length _ _) (numB_length _ _) (numB_length _ _) (numB_length _ _)
  have hld : ldO (anyF k s bs m) bs.length = bs := by unfold ldO; rw [e, p5, List.take_left]
  refine ⟨by simp [anyF, hdr_len, numB_length]; omega, ?_, ?_, ?_, ?_, hld, ?_⟩
  · unfold mkO; rw [e, p1, ofB_numB]
  · unfold kdO; rw [e, p2, ofB_numB]; omega
  · unfold ctO; rw [e, p3, ofB_numB]; omega
  · unfold smO; rw [e, p4, ofB_numB]; omega
  · unfold csO; rw [hld, e, p6]; rfl
theorem AnyF.form {L bs m : List UInt8} {k s : Nat} (h : AnyF L k s bs m) (hl : bs.length ≤ 65536) : ¬ (L.length < 12 ∨ mkO L ≠ 53021 ∨ 65536 < ctO L ∨ L.length - 12 < ctO L) := by
  have := h.len; have := h.mk_; have := h.ct
  omega
theorem AnyF.good {L bs m : List UInt8} {k s : Nat} (h : AnyF L k s bs m) (hl : bs.length ≤ 65536) (hs : s = crc (hdr k bs.length ++ bs)) : opE L = 0 ∧ opK L = k ∧ opL L = bs ∧ opN L = 12 + bs.length := by
  have e : opE L = 0 := by
    unfold opE
    rw [if_neg (h.form hl), if_neg]
    rw [h.ct, h.sm, h.cs, hs]; simp
  refine ⟨e, ?_, ?_, ?_⟩
  · unfold opK; rw [if_pos e, h.kd]
  · unfold opL; rw [if_pos e, h.ct, h.ld]
  · unfold opN; rw [if_pos e, h.ct]
theorem AnyF.bad {L bs m : List UInt8} {k s : Nat} (h : AnyF L k s bs m) (hl : bs.length ≤ 65536) (hs : s ≠ crc (hdr k bs.length ++ bs)) : opE L = 22 := by
  unfold opE
  rw [if_neg (h.form hl), if_pos]
  rw [h.ct, h.sm, h.cs]; exact hs
theorem frm_open {k : Nat} {bs m : List UInt8} (hk : k < 65536) (hl : bs.length ≤ 65536) : opE (frm k bs ++ m) = 0 ∧ opK (frm k bs ++ m) = k ∧ opL (frm k bs ++ m) = bs ∧ opN (frm k bs ++ m) = 12 + bs.length :=
  (anyF_ok (m := m) hk (fsum_lt k bs) hl).good hl rfl
/-- A frame of which bits are turned within 32 is not opened. -/
theorem frm_turned {k s B : Nat} {bs : List UInt8} (hk : k < 65536) (hl : bs.length ≤ 65536) (hB : B < 2 ^ 32) (h0 : B ≠ 0) (hs : s + 32 ≤ 8 * bs.length) :
    opE (hdr k bs.length ++ numB (fsum k bs) 4 ++ bflips bs s B 32) = 22 := by
  have el := bflips_len bs s B 32
  have h := anyF_ok (k := k) (s := fsum k bs) (bs := bflips bs s B 32) (m := []) hk (fsum_lt k bs) (by rw [el]; exact hl)
  have e : anyF k (fsum k bs) (bflips bs s B 32) [] = hdr k bs.length ++ numB (fsum k bs) 4 ++ bflips bs s B 32 := by unfold anyF; rw [el, List.append_nil]
  rw [e] at h
  refine h.bad (by rw [el]; exact hl) fun hh => ?_
  rw [el] at hh
  exact crc_finds (hd := hdr k bs.length) hB h0 hs hh.symm
end Go.Proofs.Ytikegnhjnbjclaa
