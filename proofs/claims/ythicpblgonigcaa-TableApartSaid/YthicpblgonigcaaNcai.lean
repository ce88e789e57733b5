/- What is right: package table's rightPlan, rightSlots, rightPlaces, each as a contract. No condition. -/
import Derived.Test.YthicpblgonigcaaNcah
namespace Go.Proofs.Ythicpblgonigcaa
open Go.RowKit
set_option linter.unusedVariables false
set_option linter.unusedSimpArgs false
set_option maxRecDepth 20000

theorem okP_no {ln ct pc : Int} (h : ¬ (0 ≤ ln ∧ ln ≤ 16384 ∧ 0 ≤ ct ∧ ct ≤ 32 ∧ 1 ≤ pc ∧ pc ≤ 256)) : okP ln ct pc = false := decide_eq_false h
set_option maxHeartbeats 1000000 in
theorem tplan_any (w : World) (ln ct pc : Int) : Calls Try.prog 47 #[.agg #[.int .i64 ln, .int .i64 ct, .int .i64 pc]] w (BoolPost w (okP ln ct pc)) := by
  by_cases a1 : ln < 0
  · have HN := hide (okP_no (ln := ln) (ct := ct) (pc := pc) (by omega))
    go_enter Try.func47, Try.ntmps47
    go_wp2
    go_ret
    exact ⟨ret_bt HN.out.symm, Kp.alloc No _ _⟩
  · by_cases a2 : 16384 < ln
    · have HN := hide (okP_no (ln := ln) (ct := ct) (pc := pc) (by omega))
      go_enter Try.func47, Try.ntmps47
      go_wp2
      go_ret
      exact ⟨ret_bt HN.out.symm, Kp.alloc No _ _⟩
    · by_cases a3 : ct < 0
      · have HN := hide (okP_no (ln := ln) (ct := ct) (pc := pc) (by omega))
        go_enter Try.func47, Try.ntmps47
        go_wp2
        go_ret
        exact ⟨ret_bt HN.out.symm, Kp.alloc No _ _⟩
      · by_cases a4 : 32 < ct
        · have HN := hide (okP_no (ln := ln) (ct := ct) (pc := pc) (by omega))
          go_enter Try.func47, Try.ntmps47
          go_wp2
          go_ret
          exact ⟨ret_bt HN.out.symm, Kp.alloc No _ _⟩
        · have HN : Hid (okP ln ct pc = decide (1 ≤ pc ∧ pc ≤ 256)) := decide_eq_decide.2 (by omega)
          by_cases a5 : 1 ≤ pc
          · go_enter Try.func47, Try.ntmps47
            go_wp2
            go_ret
            exact ⟨ret_bt (by rw [HN.out, Bool.eq_iff_iff]; simp; omega), Kp.alloc No _ _⟩
          · go_enter Try.func47, Try.ntmps47
            go_wp2
            go_ret
            exact ⟨ret_bt (by rw [HN.out, Bool.eq_iff_iff]; simp; omega), Kp.alloc No _ _⟩

/-! A stripe's places. -/
section
variable {sl nd k : Nat} {l : List Pc} {p : Pc}
theorem okS_len (h : l.length ≠ sl) : okS sl nd l = false := decide_eq_false fun e => h e.1
theorem okS_no (h : l[k]? = some p) (hp : ¬ (0 ≤ p.1 ∧ p.1 < nd)) : okS sl nd l = false := decide_eq_false fun e => hp (e.2.1 p (List.mem_of_getElem? h))
theorem sNd_mem {m : Nat} (h : m ∈ sNd (l.take k)) : ∃ (j : Nat) (q : Pc), j < k ∧ l[j]? = some q ∧ q.1.toNat = m := by
  unfold sNd at h
  obtain ⟨q, hq, e⟩ := List.mem_map.1 h
  obtain ⟨j, hj⟩ := List.getElem?_of_mem hq
  rw [List.getElem?_take] at hj
  split at hj
  · exact ⟨j, q, by assumption, hj, e⟩
  · cases hj
theorem mem_sNd {j : Nat} (hj : j < k) (h : l[j]? = some p) : p.1.toNat ∈ sNd (l.take k) :=
  List.mem_map.2 ⟨p, List.mem_of_getElem? (i := j) (by rw [List.getElem?_take, if_pos hj]; exact h), rfl⟩
theorem okS_dup (h : l[k]? = some p) (hm : p.1.toNat ∈ sNd (l.take k)) : okS sl nd l = false := decide_eq_false fun e => by
  obtain ⟨j, q, hj, hq, e2⟩ := sNd_mem hm
  have h1 := e.2.1 p (List.mem_of_getElem? h)
  have h2 := e.2.1 q (List.mem_of_getElem? hq)
  have h3 : p.1 = q.1 := by omega
  have h4 := List.pairwise_iff_getElem.1 e.2.2
  obtain ⟨a1, a2⟩ := List.getElem?_eq_some_iff.1 h
  obtain ⟨b1, b2⟩ := List.getElem?_eq_some_iff.1 hq
  refine h4 j k (by simpa using b1) (by simpa using a1) hj ?_
  simp only [List.getElem_map]
  rw [a2, b2]
  exact h3.symm
theorem okS_all (hl : l.length = sl) (h : ∀ (k : Nat) p, k < l.length → l[k]? = some p → 0 ≤ p.1 ∧ p.1 < nd ∧ p.1.toNat ∉ sNd (l.take k)) : okS sl nd l = true := by
  refine decide_eq_true ⟨hl, fun p hp => ?_, List.pairwise_iff_getElem.2 fun i j hi hj hij e => ?_⟩
  · obtain ⟨k, hk⟩ := List.getElem?_of_mem hp
    have := h k p (List.getElem?_eq_some_iff.1 hk).1 hk
    exact ⟨this.1, this.2.1⟩
  · simp only [List.length_map] at hi hj
    simp only [List.getElem_map] at e
    have := (h j _ hj (List.getElem?_eq_getElem hj)).2.2
    rw [← e] at this
    exact this (mem_sNd hij (List.getElem?_eq_getElem hi))
theorem sNd_succ (h : l[k]? = some p) : sNd (l.take (k + 1)) = sNd (l.take k) ++ [p.1.toNat] := by
  unfold sNd
  rw [List.take_add_one, h, List.map_append]
  rfl
end
/-- No node is taken. -/
def ndZ : Array Value := Array.replicate 32 (.bool false)
theorem nd_info : (Try.prog.info? 116).map (fun i => i.zero) = some (some (.agg ndZ)) := by kernel_rfl
theorem nd_zero (w : World) : (zeroValue 116).run Try.prog w = .ok (.agg ndZ) w := by
  have h := nd_info
  rcases hi : Try.prog.info? 116 with _ | i
  · rw [hi] at h; cases h
  · rw [hi] at h
    simp only [Option.map_some, Option.some.injEq] at h
    simp [zeroValue, typeInfo, go_sem, hi, h]
/-- Block b tells which nodes are taken: those of L. -/
def NdAt (w : World) (b : Nat) (L : List Nat) : Prop := ∃ cs : Array Value, w.heap[b]? = some (.cells cs 116 (0, 0)) ∧ cs.size = 32 ∧ ∀ k, k < 32 → cs[k]? = some (.bool (decide (k ∈ L)))
section
variable {w w1 : World} {b m : Nat} {L : List Nat} {S : Nat → Prop}
theorem NdAt.new (w : World) : NdAt (w.alloc (.cells ndZ 116)) w.heap.size [] := by
  refine ⟨ndZ, heap_alloc_new w _, by simp [ndZ], fun k hk => ?_⟩
  unfold ndZ
  rw [Array.getElem?_replicate, if_pos hk]
  simp
theorem NdAt.no (h : NdAt w b L) (hk : Kp No w w1) : NdAt w1 b L := by
  obtain ⟨cs, h1, h2, h3⟩ := h
  exact ⟨cs, by rw [hk.block b (Array.getElem?_eq_some_iff.1 h1).1 fun f => f]; exact h1, h2, h3⟩
theorem NdAt.lt (h : NdAt w b L) : b < w.heap.size := by
  obtain ⟨cs, h1, _⟩ := h
  exact (Array.getElem?_eq_some_iff.1 h1).1
theorem NdAt.cell (h : NdAt w b L) (hm : m < 32) : w.cell? ⟨b, m, none⟩ = some (.bool (decide (m ∈ L))) := by
  obtain ⟨cs, h1, h2, h3⟩ := h
  rw [cell_of_row w b _ _ _ _ h1, h3 m hm]
theorem NdAt.fz (h : NdAt w b L) (o : Nat) : w.frozen? ⟨b, o, none⟩ = false := by
  obtain ⟨cs, h1, _⟩ := h
  exact frozen_of_row w b o _ _ h1
theorem NdAt.set (h : NdAt w b L) (hm : m < 32) : NdAt (w.setCell ⟨b, m, none⟩ (.bool true)) b (L ++ [m]) := by
  obtain ⟨cs, h1, h2, h3⟩ := h
  refine ⟨cs.setIfInBounds m (.bool true), heap_setCell_same w b _ cs _ _ h1, by rw [Array.size_setIfInBounds]; exact h2, fun a ha => ?_⟩
  rw [Array.getElem?_setIfInBounds]
  by_cases e : m = a
  · subst e
    rw [if_pos rfl, if_pos (by omega)]
    simp
  · rw [if_neg e, h3 a ha]
    congr 2
    rw [decide_eq_decide]
    simp
    exact fun e' => absurd e'.symm e
end
set_option maxHeartbeats 4000000 in
theorem tslots_any {w : World} {F G : Nat → Prop} {g : Nat} {T : Tb} {v : Value} {l : List Pc} (h : TbAt w F g T) (hv : RdS w G v l) (hn : l.length ≤ 1000000000000000) :
    Calls Try.prog 52 #[.pointer (some ⟨g, 0, none⟩), v] w (BoolPost w (okS T.sl T.nd l)) := by
  obtain ⟨A, n', c', vs, h⟩ := h
  have c0 := h.c0
  have c1 := h.c1
  have hg := h.glt
  have s2 := h.ok.sl2
  have d2 := h.ok.nd2
  obtain ⟨A2, c2, rfl, hz, hat⟩ := hv
  obtain ⟨n, hnl⟩ : ∃ n, n = l.length := ⟨_, rfl⟩
  rw [← hnl]
  rw [← hnl] at hn
  have HL := hide hnl
  have HAT := hide hat
  clear hnl hat hz h
  by_cases hl : n = T.sl
  · subst hl
    have hb := nd_zero
    have hnew := NdAt.new w
    obtain ⟨b, hbe⟩ : ∃ b, b = w.heap.size := ⟨_, rfl⟩
    go_enter Try.func52, Try.ntmps52
    go_wp2_with fail
    rw [← hbe] at hnew ⊢
    have hgb : g < b := by omega
    have HB := hide hbe
    have hk0 : Kp No w (w.alloc (.cells ndZ 116)) := Kp.alloc No _ _
    clear hbe hb
    go_loopw [17] (fun i wr => ∃ k : Nat, k ≤ T.sl ∧ i = .int .i64 (k : Int) ∧ Hid (∀ (j : Nat) p, j < k → l[j]? = some p → 0 ≤ p.1 ∧ p.1 < T.nd ∧ p.1.toNat ∉ sNd (l.take j)) ∧ NdAt wr b (sNd (l.take k)) ∧ Kp No w wr) (fun i _ => T.sl - (intOf i).toNat)
    case atStart => exact ⟨0, Nat.zero_le _, rfl, hide (fun j p hj => absurd hj (Nat.not_lt_zero _)), hnew, hk0⟩
    case round =>
      obtain ⟨k, hk, rfl, HA, hS, hkw⟩ := hrel
      have HK := hide hkw
      have HS := hide hS
      have gl := Nat.lt_of_lt_of_le hg hkw.size
      have z0 := hkw.cell c0 fun f => f
      have z1 := hkw.cell c1 fun f => f
      clear hkw hS
      by_cases hlt : k < T.sl
      · obtain ⟨p, hp⟩ : ∃ p, l[k]? = some p := ⟨_, List.getElem?_eq_getElem (by rw [← HL.out]; exact hlt)⟩
        obtain ⟨B, off, rfl, hB, x0, x1⟩ := HAT.out k p hp
        have y0 := HK.out.cell x0 fun f => f
        have y1 := HK.out.cell x1 fun f => f
        have HP := hide hp
        have hbl := HS.out.lt
        clear x0 x1 hp
        by_cases hr : 0 ≤ p.1 ∧ p.1 < T.nd
        · obtain ⟨m, hm⟩ : ∃ m : Nat, p.1 = m := ⟨p.1.toNat, by omega⟩
          rw [hm] at y0 hr
          have hm32 : m < 32 := by omega
          have hmn : (m : Int) < (T.nd : Int) := hr.2
          have t0 := HS.out.cell hm32
          have d1 : decide ((m : Int) < 0) = false := by simp
          have d2 : decide (T.nd ≤ m) = false := by simp; omega
          have HM : Hid (p.1.toNat = m) := by show _ = _; omega
          have HPM := hide hm
          clear hm hr
          by_cases he : m ∈ sNd (l.take k)
          · rw [decide_eq_true he] at t0
            have HN : Hid (okS T.sl T.nd l = false) := okS_dup HP.out (by rw [HM.out]; exact he)
            clear he
            go_wp2_with fail
            go_quiet (fail)
            go_wp2_with fail
            go_ret
            exact ⟨ret_bt HN.out.symm, (HK.out.al _).drewN _⟩
          · rw [decide_eq_false he] at t0
            have HE := hide he
            have hf := HS.out.fz m
            clear he
            go_wp2_with fail
            go_quiet (fail)
            go_wp2_with fail
            go_round
            case rel =>
              refine ⟨k + 1, by omega, by go_num, hide (fun j q hj hq => ?_), ?_, ?_⟩
              · rcases Nat.lt_or_ge j k with e | e
                · exact HA.out j q e hq
                · obtain rfl : j = k := by omega
                  rw [HP.out] at hq
                  injection hq with hq
                  subst hq
                  refine ⟨by have := HPM.out; omega, by have := HPM.out; omega, by rw [HM.out]; exact HE.out⟩
              · rw [sNd_succ HP.out, HM.out]
                exact (HS.out.no (((Kp.refl No _).al _).drewN _)).set hm32
              · exact ((HK.out.al _).drewN _).fresh (by rw [HB.out]; exact Nat.le_refl _) _
            case measure => simp [intOf]; omega
        · have HN : Hid (okS T.sl T.nd l = false) := okS_no HP.out hr
          by_cases hr1 : p.1 < 0
          · have d1 : decide (p.1 < 0) = true := by simpa using hr1
            clear hr
            go_wp2_with fail
            go_quiet (fail)
            go_wp2_with fail
            go_ret
            exact ⟨ret_bt HN.out.symm, (HK.out.al _).drewN _⟩
          · have hr2 : (T.nd : Int) ≤ p.1 := by omega
            have hr0 : 0 ≤ p.1 := by omega
            have d1 : decide (p.1 < 0) = false := by simp; omega
            have d2 : decide ((T.nd : Int) ≤ p.1) = true := by simp; omega
            clear hr
            go_wp2_with fail
            go_quiet (fail)
            go_wp2_with fail
            go_ret
            exact ⟨ret_bt HN.out.symm, (HK.out.al _).drewN _⟩
      · obtain rfl : k = T.sl := by omega
        have HN : Hid (okS T.sl T.nd l = true) := okS_all HL.out.symm fun j p hj hp => HA.out j p (by rw [HL.out]; exact hj) hp
        go_wp2_with fail
        go_ret
        exact ⟨ret_bt HN.out.symm, HK.out⟩
  · have HN : Hid (okS T.sl T.nd l = false) := okS_len (by rw [← HL.out]; exact hl)
    have ht : ((n : Int) != (T.sl : Int)) = true := by simp; omega
    clear hl
    go_enter Try.func52, Try.ntmps52
    go_wp2_with fail
    go_ret
    exact ⟨ret_bt HN.out.symm, Kp.refl _ _⟩
end Go.Proofs.Ythicpblgonigcaa
