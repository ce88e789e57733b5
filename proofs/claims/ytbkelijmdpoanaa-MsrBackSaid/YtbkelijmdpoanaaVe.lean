/- Which elements were seen, and package vand's fit, and the document's Twice, each as a contract over memory. -/
import Derived.Test.YtbkelijmdpoanaaVr
namespace Go.Proofs.Ytbkelijmdpoanaa
open Go.RowKit
set_option linter.unusedVariables false
set_option maxRecDepth 20000

/-- Nothing was seen. -/
def elZ : Array Value := Array.replicate 256 (.bool false)
theorem el_info : (Try.prog.info? 66).map (fun i => i.zero) = some (some (.agg elZ)) := by kernel_rfl
theorem el_zero (w : World) : (zeroValue 66).run Try.prog w = .ok (.agg elZ) w := by
  have h := el_info
  rcases hi : Try.prog.info? 66 with _ | i
  · rw [hi] at h; cases h
  · rw [hi] at h
    simp only [Option.map_some, Option.some.injEq] at h
    simp [zeroValue, typeInfo, go_sem, hi, h]
/-- The block g tells which elements were seen: those of l. -/
def SetAt (w : World) (g : Nat) (l : List UInt8) : Prop := ∃ cs : Array Value, w.heap[g]? = some (.cells cs 66 (0, 0)) ∧ cs.size = 256 ∧ ∀ a : UInt8, cs[a.toNat]? = some (.bool (decide (a ∈ l)))
section
variable {w w1 : World} {g : Nat} {l l' : List UInt8} {S : Nat → Prop}
theorem SetAt.new (w : World) : SetAt (w.alloc (.cells elZ 66)) w.heap.size [] := by
  refine ⟨elZ, heap_alloc_new w _, by simp [elZ], fun a => ?_⟩
  unfold elZ
  rw [Array.getElem?_replicate, if_pos (u8_lt a)]
  simp
theorem SetAt.eq (h : SetAt w g l) (he : ∀ a, a ∈ l ↔ a ∈ l') : SetAt w g l' := by
  obtain ⟨cs, h1, h2, h3⟩ := h
  exact ⟨cs, h1, h2, fun a => by rw [h3 a, decide_eq_decide.2 (he a)]⟩
theorem SetAt.keep (h : SetAt w g l) (hk : Kp S w w1) (hS : ¬ S g) : SetAt w1 g l := by
  obtain ⟨cs, h1, h2, h3⟩ := h
  exact ⟨cs, by rw [hk.block g (Array.getElem?_eq_some_iff.1 h1).1 hS]; exact h1, h2, h3⟩
theorem SetAt.no (h : SetAt w g l) (hk : Kp No w w1) : SetAt w1 g l := h.keep hk fun f => f
theorem SetAt.lt (h : SetAt w g l) : g < w.heap.size := by
  obtain ⟨cs, h1, _⟩ := h
  exact (Array.getElem?_eq_some_iff.1 h1).1
theorem SetAt.cell (h : SetAt w g l) (x : UInt8) : w.cell? ⟨g, x.toNat, none⟩ = some (.bool (decide (x ∈ l))) := by
  obtain ⟨cs, h1, h2, h3⟩ := h
  rw [cell_of_row w g _ _ _ _ h1, h3 x]
theorem SetAt.frozen (h : SetAt w g l) (o : Nat) : w.frozen? ⟨g, o, none⟩ = false := by
  obtain ⟨cs, h1, h2, h3⟩ := h
  exact frozen_of_row w g o _ _ h1
theorem SetAt.set (h : SetAt w g l) (x : UInt8) : SetAt (w.setCell ⟨g, x.toNat, none⟩ (.bool true)) g (l ++ [x]) := by
  obtain ⟨cs, h1, h2, h3⟩ := h
  refine ⟨cs.setIfInBounds x.toNat (.bool true), heap_setCell_same w g _ cs _ _ h1, by rw [Array.size_setIfInBounds]; exact h2, fun a => ?_⟩
  rw [Array.getElem?_setIfInBounds]
  by_cases e : x.toNat = a.toNat
  · have e2 : x = a := u8_ext e
    subst e2
    rw [if_pos rfl, if_pos (by rw [h2]; exact u8_lt x)]
    simp
  · rw [if_neg e, h3 a]
    have e2 : a ≠ x := fun e' => e (by rw [e'])
    congr 2
    rw [decide_eq_decide]
    simp [e2]
end

/-- What add leaves. -/
def AddPost (w : World) (g : Nat) (l : List UInt8) (x : UInt8) (e : Ending) (w1 : World) : Prop := e = .returned (.bool (!decide (x ∈ l))) ∧ SetAt w1 g (l ++ [x]) ∧ Kp (fun q => q = g) w w1
theorem eladd_any {w : World} {g : Nat} {l : List UInt8} (h : SetAt w g l) (x : UInt8) : Calls Try.prog 38 #[.pointer (some ⟨g, 0, none⟩), .int .u8 (x.toNat : Int)] w (AddPost w g l x) := by
  have hc := h.cell x
  have hf := h.frozen x.toNat
  have hx := u8_lt x
  have HS := hide (h.set x)
  clear h
  unfold AddPost
  generalize decide (x ∈ l) = b at *
  go_enter Try.func38, Try.ntmps38
  go_wp2_with fail
  go_ret
  exact ⟨rfl, HS.out, Kp.setCell (p := ⟨g, x.toNat, none⟩) (S := fun q => q = g) rfl _⟩

/-- No two are alike: none is among those ahead of it. -/
theorem uq_iff (bs : List UInt8) : Uq bs.length (lg bs) ↔ ∀ (k : Nat) b, bs[k]? = some b → b ∉ bs.take k := by
  constructor
  · intro h k b hb hm
    obtain ⟨j, hj, e⟩ := List.mem_iff_getElem.1 hm
    rw [List.length_take] at hj
    have hkl : k < bs.length := (List.getElem?_eq_some_iff.1 hb).1
    rw [List.getElem_take] at e
    exact h k j (by omega) hkl (by rw [lg_of hb, lg_of (b := bs[j]) (List.getElem?_eq_getElem _), e])
  · intro h i k hk hi e
    refine h i _ (List.getElem?_eq_getElem hi) ?_
    rw [lg_of (List.getElem?_eq_getElem hi), lg_of (List.getElem?_eq_getElem (show k < bs.length by omega))] at e
    rw [e]
    exact List.mem_iff_getElem.2 ⟨k, by rw [List.length_take]; omega, by rw [List.getElem_take]⟩

/-- fit's answer, memory of its own aside. -/
def BoolPost (w : World) (b : Bool) (e : Ending) (w1 : World) : Prop := e = .returned (.bool b) ∧ Kp No w w1

/-- fit's answer of so many points. -/
def FitPost (w : World) (n : Nat) (s : Nat → UInt8) (e : Ending) (w1 : World) : Prop := ∃ b, e = .returned (.bool b) ∧ (b = true ↔ Uq n s) ∧ Kp No w w1

section
variable {w : World} {A : Option Addr} {n c : Nat} {bs : List UInt8}
/-- Twice's answer. -/
def TwPost (w : World) (n : Nat) (s : Nat → UInt8) (e : Ending) (w1 : World) : Prop := ∃ b, e = .returned (.bool b) ∧ (b = false ↔ Uq n s) ∧ Sm w w1
set_option maxHeartbeats 1000000 in
theorem twice_any (h : Bts w (.slice A n c) bs) (hn : n ≤ 1000) : Calls Try.prog 46 #[.slice A n c] w (TwPost w n (lg bs)) := by
  go_enter Try.func46, Try.ntmps46
  go_wp2_with fail
  go_loopw [3] (fun i wr => ∃ k : Nat, k ≤ n ∧ i = .int .i64 (k : Int) ∧ Hid (Uq k (lg bs)) ∧ Sm w wr) (fun i _ => n - (intOf i).toNat)
  case atStart => exact ⟨0, Nat.zero_le _, rfl, (fun i k _ hi => absurd hi (Nat.not_lt_zero _) : Uq 0 (lg bs)), Sm.refl _⟩
  case round =>
    obtain ⟨k, hk, rfl, hU, hs⟩ := hrel
    by_cases hlt : k < n
    · obtain ⟨B1, o1, y, rfl, hy, c1⟩ := h.at_ hlt
      have HY := hide (lg_of hy)
      clear hy
      go_wp2_with fail
      go_loopw [4] (fun i wr => ∃ q : Nat, q ≤ k ∧ i = .int .i64 (q : Int) ∧ Hid (∀ j, j < q → lg bs k ≠ lg bs j) ∧ Sm w wr) (fun i _ => k - (intOf i).toNat)
      case atStart => exact ⟨0, Nat.zero_le _, rfl, (fun j hj => absurd hj (Nat.not_lt_zero _) : ∀ j, j < 0 → lg bs k ≠ lg bs j), hs⟩
      case round =>
        obtain ⟨q, hq, rfl, hV, hs2⟩ := hrel
        by_cases hlq : q < k
        · have hqn : q < n := by omega
          obtain ⟨B2, o2, z, hA, hz, c2⟩ := h.at_ hqn
          injection hA with hA
          injection hA with hA1 hA2
          subst hA1 hA2
          have HZ := hide (lg_of hz)
          have d1 : wr.cell? ⟨B1, o1 + k, none⟩ = some (.int .u8 (y.toNat : Int)) := by rw [hs2.cell]; exact c1
          have d2 : wr.cell? ⟨B1, o1 + q, none⟩ = some (.int .u8 (z.toNat : Int)) := by rw [hs2.cell]; exact c2
          clear hz
          by_cases he : y = z
          · have HE := hide he
            have t0 : ((y.toNat : Int) == (z.toNat : Int)) = true := by rw [he]; simp
            clear he
            go_wp2_with fail
            go_quiet (fail)
            go_wp2_with fail
            go_ret
            exact ⟨true, rfl, ⟨fun e => (by cases e), fun e => absurd (by rw [HY.out, HZ.out]; exact HE.out) (e k q hlq hlt)⟩, hs2.trans (Sm.drewN _ _)⟩
          · have HE := hide he
            have t0 : ((y.toNat : Int) == (z.toNat : Int)) = false := by
              simp
              exact fun e => he (u8_ext (by omega))
            clear he
            go_wp2_with fail
            go_quiet (fail)
            go_wp2_with fail
            go_round
            case rel =>
              refine ⟨q + 1, by omega, by go_num, (fun j hj => ?_ : ∀ j, j < q + 1 → lg bs k ≠ lg bs j), hs2.trans (Sm.drewN _ _)⟩
              by_cases e : j = q
              · subst e
                rw [HY.out, HZ.out]
                exact HE.out
              · exact hV.out j (by omega)
            case measure => simp [intOf]; omega
        · obtain rfl : q = k := by omega
          go_wp2_with fail
          go_round
          case rel =>
            refine ⟨q + 1, by omega, by go_num, (fun i j hj hi => ?_ : Uq (q + 1) (lg bs)), hs2⟩
            by_cases e : i = q
            · subst e
              exact hV.out j hj
            · exact hU.out i j hj (by omega)
          case measure => simp [intOf]; omega
    · obtain rfl : k = n := by omega
      go_wp2_with fail
      go_ret
      exact ⟨false, rfl, ⟨fun _ => hU.out, fun _ => rfl⟩, hs⟩
theorem twice_no (h : Bts w (.slice A n c) bs) (hn : n ≤ 1000) (hU : Uq n (lg bs)) : Calls Try.prog 46 #[.slice A n c] w fun e w' => e = .returned (.bool false) ∧ Sm w w' :=
  (twice_any h hn).mono fun e w1 ⟨b, he, hb, hk⟩ => ⟨by rw [he, hb.2 hU], hk⟩
theorem twice_yes (h : Bts w (.slice A n c) bs) (hn : n ≤ 1000) (hU : ¬ Uq n (lg bs)) : Calls Try.prog 46 #[.slice A n c] w fun e w' => e = .returned (.bool true) ∧ Sm w w' := by
  refine (twice_any h hn).mono fun e w1 ⟨b, he, hb, hk⟩ => ⟨?_, hk⟩
  rcases b with _ | _
  · exact absurd (hb.1 rfl) hU
  · exact he
end
end Go.Proofs.Ytbkelijmdpoanaa
