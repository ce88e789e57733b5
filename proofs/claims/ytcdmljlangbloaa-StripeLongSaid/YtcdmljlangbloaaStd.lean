/- Package stripe's Cut, as a contract over memory; copy into a row that was just made. -/
import Derived.Test.YtcdmljlangbloaaStc
import Derived.Test.YtcdmljlangbloaaBase
import Derived.Laws.CopyOwn
namespace Go.Proofs.Ytcdmljlangbloaa
open Go.RowKit
set_option linter.unusedVariables false
set_option linter.unusedSimpArgs false
set_option maxRecDepth 100000

/-- A plan's three cells. -/
structure PC (w : World) (b : Nat) (l c p : Int) : Prop where
  c0 : w.cell? ⟨b, 0, none⟩ = some (.int .i64 l)
  c1 : w.cell? ⟨b, 1, none⟩ = some (.int .i64 c)
  c2 : w.cell? ⟨b, 2, none⟩ = some (.int .i64 p)
theorem PC.no {w w1 : World} {b : Nat} {l c p : Int} (h : PC w b l c p) (hk : Kp No w w1) : PC w1 b l c p := ⟨hk.cell h.c0 fun f => f, hk.cell h.c1 fun f => f, hk.cell h.c2 fun f => f⟩
theorem PC.new (w : World) (l c p : Int) (t : TypeId) : PC (w.alloc (.cells #[.int .i64 l, .int .i64 c, .int .i64 p] t)) w.heap.size l c p := ⟨by simp [go_sem], by simp [go_sem], by simp [go_sem]⟩
theorem bts_drop {w : World} {B o n c k : Nat} {bs : List UInt8} (h : Bts w (.slice (some ⟨B, o, none⟩) n c) bs) (hk : k ≤ n) (c' : Nat) : Bts w (.slice (some ⟨B, o + k, none⟩) (n - k) c') (bs.drop k) := by
  have hl := h.len
  obtain ⟨A, c0, e, hn, hc⟩ := h
  injection e with e1 e2 e3
  subst e1 e3
  refine ⟨_, c', by rw [List.length_drop, hl], (fun h => by cases h), fun ad ha j u hu => ?_⟩
  injection ha with ha
  subst ha
  rw [List.getElem?_drop] at hu
  have := hc _ rfl (k + j) u hu
  rw [add_none] at this ⊢
  rw [← this]
  congr 2
  omega
theorem lg_drop (bs : List UInt8) (k j : Nat) : lg (bs.drop k) j = lg bs (k + j) := by
  unfold lg
  rw [List.getD_eq_getElem?_getD, List.getD_eq_getElem?_getD, List.getElem?_drop]
/-- b[k:]. -/
theorem slice_from (w : World) (B off l cp k r rc : Nat) (hk : k < cp) (hl : k ≤ l) (hr : r = l - k) (hrc : rc = cp - k) :
    (Instr.slice 38 (.slice (some ⟨B, off, none⟩) l cp) (some (.int .i64 (k : Int))) none none).run Try.prog w = .ok (.slice (some ⟨B, off + k, none⟩) r rc) w := by
  obtain ⟨i0, hi0, hz0, hz1, hz2⟩ := byte_parts
  have he : Try.prog.elem 38 = 5 := by kernel_rfl
  have hs : (sizeOf (Try.prog.elem 38)).run Try.prog w = .ok 1 w := by
    rw [he]
    have hc : Try.prog.cellsOf 5 = 1 := by kernel_rfl
    simp [run_sizeOf, hi0, hz1, hc]
  rw [run_slice_l w _ _ _ _ (by rw [he]; exact Try.underlying38) .i64 _ (by omega) (by omega), hs]
  subst hr hrc
  simp only [Result.andThen, sliced, Int.toNat_natCast]
  rw [if_neg (by omega), Option.map_some, Nat.mul_one, add_none]
/-- copy into a row of noughts that was just made. -/
theorem wpList_copy_new {w : World} {ops : Array Oper} {rest : List Oper} {o : Oper} {a : Act} {Q : Exit → Act → World → Prop} (hgd : o.guard = none) (d s : Operand)
    (ho : o.op = .call { callee := .builtin .copy, args := #[d, s], argTypes := #[38, 38] }) {f m cc : Nat} {ad : Addr} {bs : List UInt8}
    (hd : a.eval d = .slice (some ⟨w.heap.size, 0, none⟩) f f) (hs : a.eval s = .slice (some ad) m cc) (hb : Bts w (.slice (some ad) m cc) bs) (hf : f ≤ maxLen)
    (hQ : ∀ n1 w1, Own w1 w.heap.size 5 (.slice (some ⟨w.heap.size, 0, none⟩) f f) (rowL f (lg bs)) → Kp No w w1 → wpList Try.prog ops Q rest (a.put o.dst (goInt n1)) w1) :
    wpList Try.prog ops Q (o :: rest) a (w.alloc (.cells (zc f) 5)) := by
  have hlb := hb.len
  have hzs : (zc f).size = f := by unfold zc; rw [size_madeCells, Nat.mul_one]
  have hzl : (zc f).toList = List.replicate f (.int .u8 0) := by unfold zc; rw [Nat.mul_one]; exact toList_madeCells_one _ _
  have hg := heap_alloc_new w (.cells (zc f) 5)
  have hb2 := hb.no (Kp.alloc No w (.cells (zc f) 5))
  obtain ⟨A', c', e, hnil, hcell⟩ := hb2
  injection e with e1 e2 e3
  subst e1 e3
  have hcl : ((bs.take f).map bv).length = Nat.min m f := by rw [List.length_map, List.length_take, ← hlb]; show min f m = min m f; omega
  have hle : ((bs.take f).map bv).length ≤ f := by rw [hcl]; exact Nat.min_le_right _ _
  refine wpList_copy_own hgd d s 38 38 ho 5 Try.underlying38 byte_size w.heap.size 0 f f ad m cc hd hs (zc f) 5 hg ((bs.take f).map bv) hcl ?_ (by rw [hzs]; omega) ?_ ?_
  · intro j v hj
    simp only [List.getElem?_map, Option.map_eq_some_iff] at hj
    obtain ⟨x, hx, rfl⟩ := hj
    rw [List.getElem?_take] at hx
    split at hx
    · exact hcell ad rfl j x hx
    · cases hx
  · intro v hv
    obtain ⟨x, _, rfl⟩ := List.mem_map.1 hv
    rfl
  · have hkp : Kp No w ((w.alloc (.cells (zc f) 5)).setRow w.heap.size ((zc f).toList.take 0 ++ ((bs.take f).map bv ++ (zc f).toList.drop (0 + ((bs.take f).map bv).length))).toArray) :=
      (Kp.alloc No w _).trans ⟨rfl, rfl, rfl, by simp [World.setRow], fun k hk hn => setRow_other _ _ k _ (fun e => hn (.inr (by omega)))⟩
    refine hQ _ _ ⟨?_, .inr ⟨w.heap.size, f, _, ?_, Nat.le_refl _, setRow_heap _ _ _ _ _ _ hg, by rw [rowL_len]; exact Nat.le_refl _, hf, ?_, ?_⟩⟩ hkp
    · rw [List.length_map, rowL_len, Nat.mul_one]
    · rw [rowL_len]
    · simp only [List.take_zero, List.nil_append, List.size_toArray, List.length_append, List.length_drop, Array.length_toList, hzs]
      omega
    · rw [rowL_len, Nat.mul_one]
      simp only [List.take_zero, List.nil_append, Nat.zero_add]
      have hlen : ((bs.take f).map bv ++ (zc f).toList.drop ((bs.take f).map bv).length).length = f := by simp only [List.length_append, List.length_drop, Array.length_toList, hzs]; omega
      rw [List.take_of_length_le (by rw [hlen]; exact Nat.le_refl _)]
      apply List.ext_getElem?
      intro j
      rcases Nat.lt_or_ge j f with g | g
      · rw [List.getElem?_map, rowL_get _ g, List.getElem?_append, hcl, hzl, List.getElem?_drop, List.getElem?_map, List.getElem?_take, if_pos g, List.getElem?_replicate]
        have hmm : Nat.min m f = min m f := rfl
        unfold lg
        rw [List.getD_eq_getElem?_getD]
        split
        · rw [List.getElem?_eq_getElem (by omega)]
          rfl
        · rw [List.getElem?_eq_none (by omega), if_pos (by omega)]
          rfl
      · rw [List.getElem?_eq_none (by rw [hlen]; exact g), List.getElem?_eq_none (by rw [List.length_map, rowL_len]; exact g)]
theorem RInv.no {w wr w1 : World} {s : Nat → List UInt8} {k : Nat} {v : Value} {vs : List Value} (h : RInv w s k v vs wr) (hk : Kp No wr w1) : RInv w s k v vs w1 := ⟨h.own.no hk, h.len, fun j u hj => (h.row j u hj).no hk, h.kp.trans' hk⟩
theorem cut_err (w : World) {g n k a d q : Nat} {x : Nat → UInt8} (h : CodeAt w g n k x) (hD : Dim n k a d q) (l c p : Int) {A : Option Addr} {m cp : Nat} (hne : (m : Int) ≠ l ∨ p < 1) : Calls Try.prog 16 #[cptr g, plV l c p, .slice A m cp] w fun e w' => e = .returned (.tuple #[.slice none 0 0, .int .i64 1]) ∧ Kp No w w' := by
  have hq0 : ((q : Int) == 0) = false := by have := hD.q56; simp; omega
  have HQ := hide (fun w' (hk : Kp No w w') => qq_any (h.no hk) hD)
  have HN := hide hne
  clear h hD hne
  by_cases h1 : (m : Int) = l
  · have h2 : p < 1 := by have := HN.out; omega
    have h1' : ((m : Int) != l) = false := by simp [h1]
    clear h1
    go_enter Try.func16, Try.ntmps16
    go_wp2_with fail
    refine (HQ.out _ ((Kp.refl _ _).al _)).mono ?_
    rintro e w' ⟨rfl, rfl⟩
    go_wp2_with fail
    go_ret2
    exact ⟨rfl, Kp.alloc No _ _⟩
  · have h1' : ((m : Int) != l) = true := by simp [h1]
    clear h1
    go_enter Try.func16, Try.ntmps16
    go_wp2_with fail
    refine (HQ.out _ ((Kp.refl _ _).al _)).mono ?_
    rintro e w' ⟨rfl, rfl⟩
    go_wp2_with fail
    go_ret2
    exact ⟨rfl, Kp.alloc No _ _⟩
theorem cut_nil (w : World) (l c p : Int) (A : Option Addr) (m cp : Nat) : Calls Try.prog 16 #[.pointer none, plV l c p, .slice A m cp] w fun e w' => e = .returned (.tuple #[.slice none 0 0, .int .i64 1]) ∧ Kp No w w' := by
  go_enter Try.func16, Try.ntmps16
  go_wp2_with fail
  refine (qq_nil _).mono ?_
  rintro e w' ⟨rfl, rfl⟩
  go_wp2_with fail
  go_ret2
  exact ⟨rfl, Kp.alloc No _ _⟩
set_option maxHeartbeats 4000000 in
theorem cut_yes {w : World} {g n k a d q : Nat} {x : Nat → UInt8} (h : CodeAt w g n k x) (hD : Dim n k a d q) {l c p cp f : Nat} {A : Option Addr} {bs : List UInt8} (hB : Bts w (.slice A l cp) bs) (hcap : l ≤ cp) (hP : Pln q l c p) (hf : f = q * p) :
    Calls Try.prog 16 #[cptr g, plV (l : Int) (c : Int) (p : Int), .slice A l cp] w (Enc2Post w c (matL c f fun i j => lg bs (i * f + j))) := by
  have hq0 : ((q : Int) == 0) = false := by have := hD.q56; simp; omega
  have hl16 := hP.l16
  have hc32 := hP.c32
  have hp1 := hP.p1
  have hp2 := hP.p256
  have hf1 : 1 ≤ f := by rw [hf]; exact hP.f1 hD.q56.1
  have hf2 : f ≤ 14336 := by rw [hf]; exact hP.fb hD.q56.2.1
  have hl1 : ((l : Int) != (l : Int)) = false := by simp
  have HQ := hide (fun w' (hk : Kp No w w') => qq_any (h.no hk) hD)
  have HM := hide (fun w' (hk : Kp No w w') => msg_any (h.no hk) hD (l : Int) (c : Int) p f hf (by omega))
  have HC : Hid (l ≤ c * f) := by rw [hf]; exact hP.cov
  have HL : Hid (∀ i, i < c → i * f < l) := by rw [hf]; exact hP.low
  have hmk := fun w => make_bytes w f (f : Int) rfl (by omega)
  clear hP hf h hD
  go_enter Try.func16, Try.ntmps16
  go_wp2_with fail
  refine (HQ.out _ ((Kp.refl _ _).al _)).mono ?_
  rintro e w' ⟨rfl, rfl⟩
  go_wp2_with fail
  have P0 := PC.new w (l : Int) (c : Int) (p : Int) 29
  have K0 := Kp.alloc No w (.cells #[.int .i64 (l : Int), .int .i64 (c : Int), .int .i64 (p : Int)] 29)
  generalize (w.alloc (.cells #[.int .i64 (l : Int), .int .i64 (c : Int), .int .i64 (p : Int)] 29)) = w0 at *
  go_loopw [8, 9] (fun v av wr => ∃ (i y : Nat) (A' : Option Addr) (r cc : Nat) (vs : List Value), i ≤ c ∧ av = .int .i64 (y : Int) ∧ Hid (y = i * f) ∧ v = .slice A' r cc ∧ RInv w0 (fun i => rowL f (fun j => lg bs (i * f + j))) i (.slice A' r cc) vs wr) (fun _ av _ => l + f - (intOf av).toNat)
  case atStart => exact ⟨0, 0, none, 0, 0, [], Nat.zero_le _, rfl, by show 0 = 0 * f; rw [Nat.zero_mul], rfl, OwnV.nil _ _, rfl, (fun j u hj => by simp at hj), Kp.refl _ _⟩
  case round =>
    obtain ⟨i, y, A', r, cc, vs, hi, rfl, HY, rfl, hI⟩ := hrel
    have hPw := P0.no hI.kp
    have hkr := hI.kp.size
    obtain ⟨q0, q1, q2⟩ := hPw
    by_cases hlt : i < c
    · have hyl : y < l := by rw [HY.out]; exact HL.out i hlt
      obtain ⟨B, off, b0, rfl, _, _⟩ := hB.at_ hyl
      obtain ⟨r2, hr2⟩ : ∃ r2, r2 = l - y := ⟨_, rfl⟩
      obtain ⟨rc2, hrc2⟩ : ∃ rc2, rc2 = cp - y := ⟨_, rfl⟩
      have hsl := fun w => slice_from w B off l cp y r2 rc2 (by omega) (by omega) hr2 hrc2
      have HSB : Hid (∀ w', Kp No w w' → Bts w' (.slice (some ⟨B, off + y, none⟩) r2 rc2) (bs.drop y)) := fun w' hk => by
        have := bts_drop (hB.no hk) (k := y) (by omega) rc2
        rw [← hr2] at this
        exact this
      clear hr2 hrc2
      have HRW : Hid (rowL f (lg (bs.drop y)) = rowL f (fun j => lg bs (i * f + j))) := by
        show rowL f (lg (bs.drop y)) = rowL f (fun j => lg bs (i * f + j))
        rw [show lg (bs.drop y) = fun j => lg bs (i * f + j) from funext fun j => by rw [lg_drop, HY.out]]
      go_wp2_with fail
      refine (HM.out _ (K0.trans' hI.kp)).mono ?_
      rintro e w2 ⟨rfl, hk2⟩
      have hk2s := hk2.size
      have hlen : vs.length ≤ 1000000 := by rw [hI.len]; omega
      go_wp2_with (first
        | (with_reducible refine wpList_copy_new rfl (.tmp 42) (.tmp 45) rfl rfl rfl (HSB.out _ ((K0.trans' hI.kp).trans' hk2)) (by unfold maxLen; omega) ?_
           intro nn w3 ho3 hk3
           rw [HRW.out] at ho3)
        | (at_builtin
           refine wpList_appV rfl (.tmp 47) (.tmp 49) _ rfl Try.underlying39 rfl (((hI.own.no hk2).no hk3).no (Kp.alloc No _ _)) _ rfl (fresh_cell _ _ _) rfl rfl hlen ?hs ?_
           case hs => have := hk3.size; simp; omega
           intro A5 n5 c5 w4 ha
           have hI4 := hI.step (s := fun i => rowL f (fun j => lg bs (i * f + j))) (hk2.trans' hk3) ho3 (by omega) ha
           obtain ⟨s0, s1, s2⟩ := P0.no hI4.kp))
      refine (HM.out _ (K0.trans' hI4.kp)).mono ?_
      rintro e w5 ⟨rfl, hk5⟩
      go_wp2_with fail
      go_round
      case rel => exact ⟨i + 1, y + f, A5, n5, c5, _, by omega, by go_num, (by show y + f = (i + 1) * f; rw [Nat.add_mul, Nat.one_mul, HY.out]), rfl, hI4.no hk5⟩
      case measure => simp [intOf]; omega
    · have hyl : l ≤ y := by
        rcases Nat.lt_or_ge y l with g1 | g1
        · obtain rfl : i = c := by omega
          have := HC.out
          rw [← HY.out] at this
          omega
        · exact g1
      obtain rfl : c = i := by omega
      clear hi hlt
      have hn : r = c := by rw [hI.own.len, hI.len]
      subst hn
      go_wp2_with fail
      go_ret2
      exact ⟨A', cc, rfl, hI.rws (matL_len _ _ _) fun i hi => matL_get _ hi, K0.trans' hI.kp⟩
end Go.Proofs.Ytcdmljlangbloaa
