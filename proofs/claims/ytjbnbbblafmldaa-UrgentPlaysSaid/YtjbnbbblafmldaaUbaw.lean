/- The document's Index and Drop of jobs, each as a contract; rows of jobs that are read. No condition. -/
import Derived.Test.YtjbnbbblafmldaaUbav
namespace Go.Proofs.Ytjbnbbblafmldaa
open Go.RowKit
set_option linter.unusedVariables false
set_option linter.unusedSimpArgs false
set_option maxRecDepth 20000

/-- The slice at A, n long, reads as the document's jobs r. -/
structure RdJ (w : World) (A : Option Addr) (n : Nat) (r : List Nat) : Prop where
  len : n = r.length
  at_ : ∀ j x, r[j]? = some x → ∃ B off, A = some ⟨B, off, none⟩ ∧ w.cell? ⟨B, off + j * 3, none⟩ = some (.int .u32 (jO x : Int)) ∧ w.cell? ⟨B, off + j * 3 + 1, none⟩ = some (.int .u16 (jS x : Int)) ∧ w.cell? ⟨B, off + j * 3 + 2, none⟩ = some (.int .i64 (jG x))
section
variable {w w1 : World} {S : Nat → Prop} {A : Option Addr} {n c base k i x : Nat} {r : List Nat} {t : TypeId}
theorem RdJ.keep (h : RdJ w A n r) (hk : Kp S w w1) (hS : ∀ B off, A = some ⟨B, off, none⟩ → ¬ S B) : RdJ w1 A n r :=
  ⟨h.len, fun j x hx => by
    obtain ⟨B, off, e, h0, h1, h2⟩ := h.at_ j x hx
    exact ⟨B, off, e, hk.cell h0 (hS B off e), hk.cell h1 (hS B off e), hk.cell h2 (hS B off e)⟩⟩
theorem RdJ.no (h : RdJ w A n r) (hk : Kp No w w1) : RdJ w1 A n r := h.keep hk fun _ _ _ f => f
theorem RdJ.nil (w : World) : RdJ w none 0 [] := ⟨rfl, fun j x hx => by simp at hx⟩
theorem RdJ.of_row (h : JbR w base t (.slice A n c) r) : RdJ w A n r :=
  ⟨OwnT.len h, fun j x hx => by
    obtain ⟨h0, h1, h2⟩ := jbC_get hx
    obtain ⟨g, e, _, _, _, c0⟩ := OwnT.cell h h0
    obtain ⟨g', e', _, _, _, c1⟩ := OwnT.cell h h1
    obtain ⟨g'', e'', _, _, _, c2⟩ := OwnT.cell h h2
    rw [e] at e' e''
    injection e' with e'
    injection e' with e'
    injection e'' with e''
    injection e'' with e''
    subst e' e''
    exact ⟨g, 0, e, by rw [Nat.zero_add]; exact c0, by rw [Nat.zero_add]; exact c1, by rw [Nat.zero_add]; exact c2⟩⟩
/-- The rest of it. -/
theorem RdJ.tail {y : Nat} {A' : Option Addr} (h : RdJ w A n (y :: r)) (hA : ∀ B off, 1 < n → A = some ⟨B, off, none⟩ → A' = some ⟨B, off + 3, none⟩) : RdJ w A' (n - 1) r :=
  ⟨by rw [h.len]; simp, fun j x hx => by
    obtain ⟨B, off, e, h0, h1, h2⟩ := h.at_ (j + 1) x (by rw [List.getElem?_cons_succ]; exact hx)
    have hj := (List.getElem?_eq_some_iff.1 hx).1
    refine ⟨B, off + 3, hA B off (by rw [h.len, List.length_cons]; omega) e, ?_, ?_, ?_⟩
    · rw [show off + 3 + j * 3 = off + (j + 1) * 3 by omega]; exact h0
    · rw [show off + 3 + j * 3 = off + (j + 1) * 3 by omega]; exact h1
    · rw [show off + 3 + j * 3 = off + (j + 1) * 3 by omega]; exact h2⟩
/-- Where a Key stands; below 0: nowhere. -/
def rIxZ (r : List Nat) (k : Nat) : Int := if rHas r k = true then (rIx r k : Int) else -1
theorem rIxZ_yes (hb : ∀ (j : Nat) (y : Nat), j < i → r[j]? = some y → ky y ≠ k) (hx : r[i]? = some x) (hk : ky x = k) : rIxZ r k = (i : Int) := by
  have hh : rHas r k = true := rHas_iff.2 ⟨x, List.mem_of_getElem? hx, hk⟩
  unfold rIxZ
  rw [if_pos hh]
  have hg := rJob_get hh
  have h1 : ¬ rIx r k < i := fun e => hb _ _ e hg.1 hg.2
  have h2 : ¬ i < rIx r k := fun e => by
    obtain ⟨hi, e2⟩ := List.getElem?_eq_some_iff.1 hx
    have := List.not_of_lt_findIdx (xs := r) (p := fun x => ky x == k) e
    rw [e2, hk] at this
    simp at this
  have : rIx r k = i := by omega
  rw [this]
theorem rHas_none (hb : ∀ (j : Nat) (y : Nat), r[j]? = some y → ky y ≠ k) : rHas r k = false := by
  cases hh : rHas r k
  · rfl
  · obtain ⟨x, hx, e⟩ := rHas_iff.1 hh
    obtain ⟨j, hj⟩ := List.getElem?_of_mem hx
    exact absurd e (hb j x hj)
theorem rIxZ_no (hb : ∀ (j : Nat) (y : Nat), r[j]? = some y → ky y ≠ k) : rIxZ r k = -1 := by
  unfold rIxZ
  rw [rHas_none hb]
  rfl
theorem rDrop_take (hx : r[i]? = some x) : rDrop (r.take (i + 1)) k = rDrop (r.take i) k ++ (if ky x = k then [] else [x]) := by
  rw [List.take_add_one, hx]
  unfold rDrop
  rw [List.filter_append]
  congr 1
  by_cases e : ky x = k
  · rw [if_pos e]; simp [e]
  · rw [if_neg e]; simp [e]
end
set_option maxHeartbeats 1000000 in
theorem rindex_any {w : World} {A : Option Addr} {n c k : Nat} {r : List Nat} (h : RdJ w A n r) (hn : r.length ≤ 900000) :
    Calls Try.prog 9 #[.slice A n c, .int .u32 (kO k : Int), .int .u16 (kS k : Int)] w fun e w1 => e = .returned (.int .i64 (rIxZ r k)) ∧ w = w1 := by
  have H := hide h
  have HN := hide hn
  have hnb : n ≤ 900000 := by rw [h.len]; exact hn
  clear h hn
  go_enter Try.func9, Try.ntmps9
  go_wp2_with fail
  go_loopw [7] (fun u wr => ∃ i : Nat, i ≤ n ∧ u = .int .i64 (i : Int) ∧ (∀ j y, j < i → r[j]? = some y → ky y ≠ k) ∧ w = wr) (fun u _ => n - (intOf u).toNat)
  case atStart => exact ⟨0, Nat.zero_le _, rfl, fun j y hj => absurd hj (Nat.not_lt_zero _), rfl⟩
  case round =>
    obtain ⟨i, hi, rfl, hb, rfl⟩ := hrel
    by_cases hin : i < n
    · obtain ⟨x, hx⟩ : ∃ x, r[i]? = some x := ⟨_, List.getElem?_eq_getElem (by rw [← H.out.len]; exact hin)⟩
      obtain ⟨B, off, rfl, x0, x1, x2⟩ := H.out.at_ i x hx
      have HB := hide hb
      have HX := hide hx
      have hz : (i : Int) < n := by omega
      clear hb hx
      by_cases e0 : jO x = kO k
      · by_cases e1 : jS x = kS k
        · have hq : Hid ((i : Int) = rIxZ r k) := (rIxZ_yes HB.out HX.out (k_inj e0 e1)).symm
          have t0 : ((jO x : Int) == (kO k : Int)) = true := by rw [e0]; simp
          have t1 : ((jS x : Int) == (kS k : Int)) = true := by rw [e1]; simp
          clear e0 e1
          go_wp2_with fail
          go_ret
          exact ⟨ret_int hq.out, rfl⟩
        · have hq : Hid (ky x ≠ k) := fun e => e1 (by rw [← e]; rfl)
          have t0 : ((jO x : Int) == (kO k : Int)) = true := by rw [e0]; simp
          have t1 : ((jS x : Int) == (kS k : Int)) = false := by simp; omega
          clear e0 e1
          go_wp2_with fail
          go_round
          case rel =>
            refine ⟨i + 1, by omega, by go_num, fun j y hj hy => ?_, trivial⟩
            rcases Nat.lt_or_ge j i with g | g
            · exact HB.out j y g hy
            · obtain rfl : j = i := by omega
              rw [HX.out] at hy
              injection hy with hy
              rw [← hy]
              exact hq.out
          case measure => simp [intOf]; omega
      · have hq : Hid (ky x ≠ k) := fun e => e0 (by rw [← e]; rfl)
        have t0 : ((jO x : Int) == (kO k : Int)) = false := by simp; omega
        clear e0
        go_wp2_with fail
        go_round
        case rel =>
          refine ⟨i + 1, by omega, by go_num, fun j y hj hy => ?_, trivial⟩
          rcases Nat.lt_or_ge j i with g | g
          · exact HB.out j y g hy
          · obtain rfl : j = i := by omega
            rw [HX.out] at hy
            injection hy with hy
            rw [← hy]
            exact hq.out
        case measure => simp [intOf]; omega
    · have hz : ¬ (i : Int) < n := by omega
      have hq : Hid ((-1 : Int) = rIxZ r k) := (rIxZ_no fun j y hy => hb j y (by have := (List.getElem?_eq_some_iff.1 hy).1; have := H.out.len; omega) hy).symm
      clear hb
      go_wp2_with fail
      go_ret
      exact ⟨ret_int hq.out, rfl⟩
/-- A row of the document's jobs, of the call's own, comes back. -/
def RjPost (w : World) (R : List Nat) (e : Ending) (w1 : World) : Prop := ∃ A n c, e = .returned (.slice A n c) ∧ JbR w1 w.heap.size 26 (.slice A n c) R ∧ Kp No w w1
set_option maxHeartbeats 2000000 in
theorem rdrop_any {w : World} {A : Option Addr} {n c k : Nat} {r : List Nat} (h : RdJ w A n r) (hn : r.length ≤ 900000) :
    Calls Try.prog 11 #[.slice A n c, .int .u32 (kO k : Int), .int .u16 (kS k : Int)] w (RjPost w (rDrop r k)) := by
  have H := hide h
  have HN := hide hn
  have hnb : n ≤ 900000 := by rw [h.len]; exact hn
  clear h hn
  go_enter Try.func11, Try.ntmps11
  go_wp2_with fail
  go_loopw [7, 8] (fun o u wr => ∃ (i : Nat) (A1 : Option Addr) (n1 c1 : Nat), i ≤ n ∧ o = .slice A1 n1 c1 ∧ u = .int .i64 (i : Int) ∧ JbR wr w.heap.size 26 (.slice A1 n1 c1) (rDrop (r.take i) k) ∧ Kp No w wr) (fun _ u _ => n - (intOf u).toNat)
  case atStart => exact ⟨0, none, 0, 0, Nat.zero_le _, rfl, rfl, OwnT.nil _ _ _ _, Kp.refl No w⟩
  case round =>
    obtain ⟨i, A1, n1, c1, hi, rfl, rfl, ho, hk⟩ := hrel
    have HO := hide ho
    have HK := hide hk
    clear ho hk
    by_cases hin : i < n
    · obtain ⟨x, hx⟩ : ∃ x, r[i]? = some x := ⟨_, List.getElem?_eq_getElem (by rw [← H.out.len]; exact hin)⟩
      have HRw := H.out.no HK.out
      obtain ⟨B, off, rfl, x0, x1, x2⟩ := HRw.at_ i x hx
      have HX := hide hx
      have hz : (i : Int) < n := by omega
      clear hx HRw
      by_cases hkx : ky x = k
      · have HT := hide (rDrop_take (k := k) HX.out)
        rw [if_pos hkx, List.append_nil] at HT
        have t0 : ((jO x : Int) != (kO k : Int)) = false := by rw [(ky_eq.1 hkx).1]; simp
        have t1 : ((jS x : Int) != (kS k : Int)) = false := by rw [(ky_eq.1 hkx).2]; simp
        clear hkx
        go_wp2_with fail
        go_round
        case rel => exact ⟨i + 1, A1, n1, c1, by omega, rfl, by go_num, by rw [HT.out]; exact HO.out, HK.out⟩
        case measure => simp [intOf]; omega
      · have HT := hide (rDrop_take (k := k) HX.out)
        rw [if_neg hkx] at HT
        have hlen : (rDrop (r.take i) k).length ≤ 900000 := Nat.le_trans rDrop_len_le (by rw [List.length_take]; have := HN.out; omega)
        have HL := hide hlen
        have hn1 := OwnT.len HO.out
        have HN1 := hide hn1
        have hko : Kp No wr (wr.alloc (.cells #[.int .u32 (jO x : Int), .int .u16 (jS x : Int), .int .i64 (jG x)] 26)) := Kp.alloc No _ _
        have hbx := Bx3.new wr 26 (.int .u32 (jO x : Int)) (.int .u16 (jS x : Int)) (.int .i64 (jG x))
        have HOA := hide (OwnT.no HO.out hko)
        have HNW := hide (nws_bx3 hbx rfl rfl rfl)
        have HKO := hide (HK.out.trans' hko)
        have hsz : w.heap.size ≤ (wr.alloc (.cells #[.int .u32 (jO x : Int), .int .u16 (jS x : Int), .int .i64 (jG x)] 26)).heap.size := HKO.out.size
        have HSZ := hide hsz
        clear hlen hn1 hko hbx hsz
        by_cases e0 : jO x = kO k
        · have e1 : jS x ≠ kS k := fun e => hkx (k_inj e0 e)
          have t0 : ((jO x : Int) != (kO k : Int)) = false := by rw [e0]; simp
          have t1 : ((jS x : Int) != (kS k : Int)) = true := by simp; omega
          clear e0 e1 hkx
          go_wp2_with (first
            | (at_builtin
               refine wpList_appT (m := 1) (cs := jbC [x]) ty_rj rfl (.tmp 31) (.tmp 36) _ rfl Try.underlying30 rfl HOA.out _ _ rfl HNW.out (by have := HL.out; omega) HSZ.out ?_
               intro A2 n2 c2 w2 hn2 ha2
               have HA2 := hide ha2
               clear hn2 ha2 x0 x1 x2))
          go_round
          case rel =>
            refine ⟨i + 1, A2, n2, c2, by omega, rfl, by go_num, ?_, HA2.out.keeps HOA.out HKO.out⟩
            rw [HT.out]
            unfold JbR
            rw [List.length_append, jbC_append]
            exact HA2.out.own
          case measure => simp [intOf]; omega
        · have t0 : ((jO x : Int) != (kO k : Int)) = true := by simp; omega
          clear e0 hkx
          go_wp2_with (first
            | (at_builtin
               refine wpList_appT (m := 1) (cs := jbC [x]) ty_rj rfl (.tmp 31) (.tmp 36) _ rfl Try.underlying30 rfl HOA.out _ _ rfl HNW.out (by have := HL.out; omega) HSZ.out ?_
               intro A2 n2 c2 w2 hn2 ha2
               have HA2 := hide ha2
               clear hn2 ha2 x0 x1 x2))
          go_round
          case rel =>
            refine ⟨i + 1, A2, n2, c2, by omega, rfl, by go_num, ?_, HA2.out.keeps HOA.out HKO.out⟩
            rw [HT.out]
            unfold JbR
            rw [List.length_append, jbC_append]
            exact HA2.out.own
          case measure => simp [intOf]; omega
    · have hz : ¬ (i : Int) < n := by omega
      have HE : Hid (r.take i = r) := List.take_of_length_le (by have := H.out.len; omega)
      go_wp2_with fail
      go_ret
      refine ⟨A1, n1, c1, rfl, ?_, HK.out⟩
      have := HO.out
      rw [HE.out] at this
      exact this
end Go.Proofs.Ytjbnbbblafmldaa
