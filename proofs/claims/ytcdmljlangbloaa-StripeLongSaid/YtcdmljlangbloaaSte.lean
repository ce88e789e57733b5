/- The document's Cut, as a contract over memory. -/
import Derived.Test.YtcdmljlangbloaaStd
import Derived.Test.YtcdmljlangbloaaSol
namespace Go.Proofs.Ytcdmljlangbloaa
open Go.RowKit
set_option linter.unusedVariables false
set_option linter.unusedSimpArgs false
set_option maxRecDepth 100000

theorem row_new2 (w : World) (L : Nat) (hL : L ≤ 1000000) : RowAt (w.alloc (.cells (zc L) 5)) w.heap.size w.heap.size L L fun _ => 0 := by
  have hzs : (zc L).size = L := by unfold zc; rw [size_madeCells, Nat.mul_one]
  have hzl : (zc L).toList = List.replicate L (.int .u8 0) := by unfold zc; rw [Nat.mul_one]; exact toList_madeCells_one _ _
  refine ⟨?_, .inr ⟨w.heap.size, L, zc L, ?_, Nat.le_refl _, heap_alloc_new w _, by rw [rowL_len]; exact Nat.le_refl _, by unfold maxLen; omega, by rw [hzs, Nat.mul_one], ?_⟩⟩
  · rw [List.length_map, rowL_len, Nat.mul_one]
  · rw [rowL_len]
  · rw [rowL_len, Nat.mul_one, hzl]
    apply List.ext_getElem?
    intro j
    rcases Nat.lt_or_ge j L with g | g
    · rw [List.getElem?_take, if_pos g, List.getElem?_replicate, if_pos g, List.getElem?_map, rowL_get _ g]
      rfl
    · rw [List.getElem?_eq_none (by rw [List.length_take, List.length_replicate]; omega), List.getElem?_eq_none (by rw [List.length_map, rowL_len]; exact g)]
theorem lg_beyond {bs : List UInt8} {j : Nat} (h : bs.length ≤ j) : lg bs j = 0 := by
  unfold lg
  rw [List.getD_eq_getElem?_getD, List.getElem?_eq_none h]
  rfl
set_option maxHeartbeats 4000000 in
theorem rcut_any {w : World} {n k a d q : Nat} (hD : Dim n k a d q) {l c p cp f : Nat} {A : Option Addr} {bs : List UInt8} (hB : Bts w (.slice A l cp) bs) (hP : Pln q l c p) (hf : f = q * p) :
    Calls Try.prog 18 #[.int .i64 (k : Int), plV (l : Int) (c : Int) (p : Int), .slice A l cp] w (RowsPost w c (matL c f fun i j => lg bs (i * f + j))) := by
  have ha7 := hD.a7
  have hk8 : k ≤ 8 := by have := hD.k_; omega
  have hk1 : 1 ≤ k := by have := hD.k_; omega
  have hq2 := hD.q56
  obtain ⟨hq2, hq56, _⟩ := hq2
  have hka : (k : Int) - 1 = (a : Int) := by have := hD.k_; omega
  have hkq : (k : Int) * (a : Int) = (q : Int) := by rw [hD.k_, hD.q_, Int.natCast_mul]
  have hqf : (q : Int) * (p : Int) = (f : Int) := by rw [hf, Int.natCast_mul]
  have hl16 := hP.l16
  have hc32 := hP.c32
  have hp1 := hP.p1
  have hp2 := hP.p256
  have hf1 : 1 ≤ f := by rw [hf]; exact hP.f1 hD.q56.1
  have hf2 : f ≤ 14336 := by rw [hf]; exact hP.fb hD.q56.2.1
  have hmk := fun w => make_bytes w f (f : Int) rfl (by omega)
  have HLN := hide hB.len
  clear hP hf hD
  go_enter Try.func18, Try.ntmps18
  go_wp2_with fail
  clear hka hkq hqf
  have P0 := PC.new w (l : Int) (c : Int) (p : Int) 32
  have K0 := Kp.alloc No w (.cells #[.int .i64 (l : Int), .int .i64 (c : Int), .int .i64 (p : Int)] 32)
  generalize (w.alloc (.cells #[.int .i64 (l : Int), .int .i64 (c : Int), .int .i64 (p : Int)] 32)) = w0 at *
  go_loopw [8, 9] (fun v iv wr => ∃ (i : Nat) (A' : Option Addr) (r cc : Nat) (vs : List Value), i ≤ c ∧ iv = .int .i64 (i : Int) ∧ v = .slice A' r cc ∧ RInv w0 (fun i => rowL f (fun j => lg bs (i * f + j))) i (.slice A' r cc) vs wr) (fun _ iv _ => c - (intOf iv).toNat)
  case atStart => exact ⟨0, none, 0, 0, [], Nat.zero_le _, rfl, rfl, OwnV.nil _ _, rfl, (fun j u hj => by simp at hj), Kp.refl _ _⟩
  case round =>
    obtain ⟨i, A', r, cc, vs, hi, rfl, rfl, hI⟩ := hrel
    obtain ⟨q0, q1, q2⟩ := P0.no hI.kp
    have hkr := hI.kp.size
    by_cases hlt : i < c
    · rename World => wo
      go_wp2_with fail
      have hst := row_new2 wo f (by omega)
      have hk0 : Kp No wo (wo.alloc (.cells (zc f) 5)) := Kp.alloc No _ _
      obtain ⟨g, hg⟩ : ∃ g, g = wo.heap.size := ⟨_, rfl⟩
      rw [← hg] at hst ⊢
      have HG := hide hg
      clear hg
      obtain ⟨y, hy⟩ : ∃ y, y = i * f := ⟨_, rfl⟩
      have hyi : (i : Int) * (f : Int) = (y : Int) := by rw [hy, Int.natCast_mul]
      have hyb : y ≤ 1000000 := by rw [hy]; exact Nat.le_trans (Nat.mul_le_mul (show i ≤ 32 by omega) hf2) (by omega)
      have HY := hide hy
      clear hy
      go_loopw [11] (fun jv wr => ∃ t : Nat, t ≤ f ∧ (t = 0 ∨ y + t ≤ l) ∧ jv = .int .i64 (t : Int) ∧ RowAt wr g g f f (upS (fun j => lg bs (y + j)) (fun _ => 0) t) ∧ Kp No wo wr) (fun jv _ => f - (intOf jv).toNat)
      case atStart => exact ⟨0, Nat.zero_le _, .inl rfl, rfl, hst.eq fun k _ => by simp [upS], hk0⟩
      case round =>
        obtain ⟨t, ht, hte, rfl, hR, hkq⟩ := hrel
        by_cases h1 : t < f ∧ y + t < l
        · obtain ⟨h1, h2⟩ := h1
          have hyy := hR.cell h1
          have hfz := hR.frozen t
          obtain ⟨B, off, b0, rfl, hb0, hz⟩ := (((hB.no K0).no hI.kp).no hkq).at_ h2
          have HB0 := hide hb0
          clear hte hb0
          go_wp2_with fail
          go_round
          case rel => exact ⟨t + 1, by omega, .inr (by omega), by go_num, (hR.set h1 b0 _ rfl).eq fun j _ => by
            rw [show b0 = (fun j => lg bs (y + j)) t from (lg_of HB0.out).symm]
            exact upS_step (fun j => lg bs (y + j)) _ t j, hkq.trans ((RowAt.kpset _ _ _ _).mono fun q hq => .inr (by rw [hq, HG.out]; exact Nat.le_refl _))⟩
          case measure => simp [intOf]; omega
        · have hE : RowAt wr g g f f fun j => lg bs (i * f + j) := hR.eq fun j hj => by
            rw [← HY.out]
            unfold upS
            by_cases e : j < t
            · rw [if_pos e]
            · rw [if_neg e, lg_beyond (by have := HLN.out; omega)]
          have hlen : vs.length ≤ 1000000 := by rw [hI.len]; omega
          have hkqs := hkq.size
          have H1 := hide h1
          clear h1 hte hR
          by_cases h2 : t < f
          · have h3 : l ≤ y + t := by have := H1.out; omega
            go_wp2_with (first
              | (at_builtin
                 refine wpList_appV rfl (.tmp 53) (.tmp 55) _ rfl Try.underlying39 rfl ((hI.own.no hkq).no (Kp.alloc No _ _)) _ rfl (fresh_cell _ _ _) rfl rfl hlen ?hs ?_
                 case hs => simp; omega
                 intro A5 n5 c5 w4 ha
                 have hI4 := hI.step (s := fun i => rowL f (fun j => lg bs (i * f + j))) hkq hE (by have := HG.out; omega) ha))
            go_round
            case rel => exact ⟨i + 1, A5, n5, c5, _, by omega, by go_num, rfl, hI4⟩
            case measure => simp [intOf]; omega
          · have h3 : f ≤ t := by omega
            go_wp2_with (first
              | (at_builtin
                 refine wpList_appV rfl (.tmp 53) (.tmp 55) _ rfl Try.underlying39 rfl ((hI.own.no hkq).no (Kp.alloc No _ _)) _ rfl (fresh_cell _ _ _) rfl rfl hlen ?hs ?_
                 case hs => simp; omega
                 intro A5 n5 c5 w4 ha
                 have hI4 := hI.step (s := fun i => rowL f (fun j => lg bs (i * f + j))) hkq hE (by have := HG.out; omega) ha))
            go_round
            case rel => exact ⟨i + 1, A5, n5, c5, _, by omega, by go_num, rfl, hI4⟩
            case measure => simp [intOf]; omega
    · obtain rfl : c = i := by omega
      clear hi hlt
      have hn : r = c := by rw [hI.own.len, hI.len]
      subst hn
      go_wp2_with fail
      go_ret
      exact ⟨A', cc, rfl, hI.rws (matL_len _ _ _) fun i hi => matL_get _ hi, K0.trans' hI.kp⟩
end Go.Proofs.Ytcdmljlangbloaa
