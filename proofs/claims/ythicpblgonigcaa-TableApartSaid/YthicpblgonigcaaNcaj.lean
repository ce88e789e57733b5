/- Package table's rightPlaces; where a name, a number stands: cmp.Compare of strings, slices.BinarySearchFunc and slices.IndexFunc over objects, place, numbered. No condition. -/
import Derived.Test.YthicpblgonigcaaNcai
namespace Go.Proofs.Ythicpblgonigcaa
open Go.RowKit
set_option linter.unusedVariables false
set_option linter.unusedSimpArgs false
set_option maxRecDepth 20000

section
variable {sl nd k : Nat} {P : List (List Pc)} {l : List Pc}
theorem okL_no (h : P[k]? = some l) (hl : okS sl nd l = false) : okL sl nd P = false := decide_eq_false fun e => by
  have := e l (List.mem_of_getElem? h)
  rw [hl] at this
  cases this
theorem okL_all (h : ∀ (k : Nat) l, k < P.length → P[k]? = some l → okS sl nd l = true) : okL sl nd P = true := decide_eq_true fun l hl => by
  obtain ⟨k, hk⟩ := List.getElem?_of_mem hl
  exact h k l (List.getElem?_eq_some_iff.1 hk).1 hk
end
set_option maxHeartbeats 2000000 in
theorem tplaces_any {w : World} {F G : Nat → Prop} {g : Nat} {T : Tb} {v : Value} {P : List (List Pc)} (ct : Int) (h : TbAt w F g T) (hv : RdP w G v P) (hn : P.length ≤ 1000000000000000) (hP : ∀ l ∈ P, l.length ≤ 1000000000000000) :
    Calls Try.prog 48 #[.pointer (some ⟨g, 0, none⟩), .int .i64 ct, v] w (BoolPost w (decide ((P.length : Int) = ct) && okL T.sl T.nd P)) := by
  obtain ⟨A2, c2, rfl, hz, hat⟩ := hv
  obtain ⟨n, hnl⟩ : ∃ n, n = P.length := ⟨_, rfl⟩
  rw [← hnl]
  rw [← hnl] at hn
  have HL := hide hnl
  have HAT := hide hat
  have HT := hide h
  have HPP := hide hP
  clear hnl hat hz h hP
  by_cases hl : (n : Int) = ct
  · have ht : ((n : Int) != ct) = false := by simp [hl]
    rw [decide_eq_true hl, Bool.true_and]
    clear hl
    go_enter Try.func48, Try.ntmps48
    go_wp2_with fail
    clear ht
    go_loopw [15] (fun i wr => ∃ k : Nat, k ≤ n ∧ i = .int .i64 (k : Int) ∧ Hid (∀ (j : Nat) l, j < k → P[j]? = some l → okS T.sl T.nd l = true) ∧ Kp No w wr) (fun i _ => n - (intOf i).toNat)
    case atStart => exact ⟨0, Nat.zero_le _, rfl, hide (fun j p hj => absurd hj (Nat.not_lt_zero _)), Kp.refl _ _⟩
    case round =>
      obtain ⟨k, hk, rfl, HA, hkw⟩ := hrel
      have HK := hide hkw
      clear hkw
      by_cases hlt : k < n
      · obtain ⟨l, hp⟩ : ∃ l, P[k]? = some l := ⟨_, List.getElem?_eq_getElem (by rw [← HL.out]; exact hlt)⟩
        obtain ⟨B, off, u, rfl, hB, x0, x1⟩ := HAT.out k l hp
        have y0 := HK.out.cell x0 fun f => f
        have hc := tslots_any (HT.out.no HK.out) (x1.no HK.out) (HPP.out l (List.mem_of_getElem? hp))
        obtain ⟨Au, cu, rfl⟩ := x1.form
        have HP := hide hp
        clear x0 x1 hp
        rcases hb : okS T.sl T.nd l with _ | _
        · rw [hb] at hc
          have HN : Hid (okL T.sl T.nd P = false) := okL_no HP.out hb
          clear hb
          go_wp2_with fail
          refine hc.mono ?_
          rintro e w1 ⟨rfl, hk1⟩
          go_wp2_with fail
          go_ret
          exact ⟨ret_bt HN.out.symm, HK.out.trans' hk1⟩
        · rw [hb] at hc
          have HB := hide hb
          clear hb
          go_wp2_with fail
          refine hc.mono ?_
          rintro e w1 ⟨rfl, hk1⟩
          go_wp2_with fail
          go_round
          case rel =>
            refine ⟨k + 1, by omega, by go_num, hide (fun j q hj hq => ?_), HK.out.trans' hk1⟩
            rcases Nat.lt_or_ge j k with e | e
            · exact HA.out j q e hq
            · obtain rfl : j = k := by omega
              rw [HP.out] at hq
              injection hq with hq
              subst hq
              exact HB.out
          case measure => simp [intOf]; omega
      · obtain rfl : k = n := by omega
        have HN : Hid (okL T.sl T.nd P = true) := okL_all fun j p hj hp => HA.out j p (by rw [HL.out]; exact hj) hp
        go_wp2_with fail
        go_ret
        exact ⟨ret_bt HN.out.symm, HK.out⟩
  · have ht : ((n : Int) != ct) = true := by simp [hl]
    rw [decide_eq_false hl, Bool.false_and]
    clear hl
    go_enter Try.func48, Try.ntmps48
    go_wp2_with fail
    go_ret
    exact ⟨rfl, Kp.refl _ _⟩

/-! Two names. -/
theorem sisnan_any (w : World) (x : List UInt8) : Calls Try.prog 66 #[.string (strOf x)] w fun e w' => e = .returned (.bool false) ∧ w = w' := by
  go_enter Try.func66, Try.ntmps66
  go_wp2
  go_ret
  exact ⟨ret_bt (by simp), rfl⟩
theorem cmp_str (w : World) (x y : List UInt8) : Calls Try.prog 58 #[.string (strOf x), .string (strOf y)] w fun e w' => e = .returned (.int .i64 (cmpL x y)) ∧ w = w' := by
  have h1 := sisnan_any w x
  have h2 := sisnan_any w y
  have e1 : (strOf x).toList = x := ByteArray.toList_mk x
  have e2 : (strOf y).toList = y := ByteArray.toList_mk y
  rcases hx : Op.bytesLess x y with _ | _
  · rcases hy : Op.bytesLess y x with _ | _
    · obtain rfl := bl_tri _ _ hx hy
      have hc : Hid (0 = cmpL x x) := by show _ = _; unfold cmpL; rw [hx]; rfl
      have hl : Op.bytesLess (strOf x).toList (strOf x).toList = false := by rw [e1]; exact hx
      clear hx hy e2 e1
      go_enter Try.func58, Try.ntmps58
      go_wp2_with fail
      refine h1.mono ?_
      rintro e w' ⟨rfl, rfl⟩
      go_wp2_with fail
      refine h2.mono ?_
      rintro e w' ⟨rfl, rfl⟩
      go_wp2_with fail
      go_ret
      exact ⟨ret_int hc.out, rfl⟩
    · have hc : Hid (1 = cmpL x y) := by show _ = _; unfold cmpL; rw [hx, hy]; rfl
      have hl : Op.bytesLess (strOf x).toList (strOf y).toList = false := by rw [e1, e2]; exact hx
      have hne : ((strOf x).toList == (strOf y).toList) = false := by rw [e1, e2]; simpa using (bl_ne hy).symm
      clear hx hy e2 e1
      go_enter Try.func58, Try.ntmps58
      go_wp2_with fail
      refine h1.mono ?_
      rintro e w' ⟨rfl, rfl⟩
      go_wp2_with fail
      refine h2.mono ?_
      rintro e w' ⟨rfl, rfl⟩
      go_wp2_with fail
      go_ret
      exact ⟨ret_int hc.out, rfl⟩
  · have hc : Hid (-1 = cmpL x y) := by show _ = _; unfold cmpL; rw [hx]; rfl
    have hl : Op.bytesLess (strOf x).toList (strOf y).toList = true := by rw [e1, e2]; exact hx
    clear hx e2 e1
    go_enter Try.func58, Try.ntmps58
    go_wp2_with fail
    refine h1.mono ?_
    rintro e w' ⟨rfl, rfl⟩
    go_wp2_with fail
    refine h2.mono ?_
    rintro e w' ⟨rfl, rfl⟩
    go_wp2_with fail
    go_ret
    exact ⟨ret_int hc.out, rfl⟩
/-- The closure of place; that of numbered. -/
theorem tpcl_any (w : World) (o : Ob) (v : Value) (s : List UInt8) : Calls Try.prog 57 #[obV o v, .string (strOf s)] w fun e w1 => e = .returned (.int .i64 (cmpL o.nm s)) ∧ Kp No w w1 := by
  go_enter Try.func57, Try.ntmps57
  go_wp2_with fail
  refine (cmp_str _ _ _).mono ?_
  rintro e w' ⟨rfl, rfl⟩
  go_wp2_with fail
  go_ret
  exact ⟨rfl, Kp.alloc No _ _⟩
theorem tncl_any {w : World} {b n : Nat} (o : Ob) (v : Value) (hb : w.cell? ⟨b, 0, none⟩ = some (.int .u32 (n : Int))) : Calls Try.prog 60 #[obV o v, .pointer (some ⟨b, 0, none⟩)] w fun e w1 => e = .returned (.bool (decide (o.num = n))) ∧ Kp No w w1 := by
  have hlt := World.block_lt_of_cell? w _ hb
  by_cases h : o.num = n
  · have ht : ((o.num : Int) == (n : Int)) = true := by simp [h]
    rw [decide_eq_true h]
    clear h
    go_enter Try.func60, Try.ntmps60
    go_wp2_with fail
    go_ret
    exact ⟨rfl, Kp.alloc No _ _⟩
  · have ht : ((o.num : Int) == (n : Int)) = false := by simp; omega
    rw [decide_eq_false h]
    clear h
    go_enter Try.func60, Try.ntmps60
    go_wp2_with fail
    go_ret
    exact ⟨rfl, Kp.alloc No _ _⟩
end Go.Proofs.Ythicpblgonigcaa
