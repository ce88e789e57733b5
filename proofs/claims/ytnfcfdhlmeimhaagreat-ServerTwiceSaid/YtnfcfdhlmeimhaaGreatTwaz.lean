/- The loose writes of package platter's disk done, one torn; Sync and Crash, each as a contract over memory; no condition. -/
import Derived.Test.YtnfcfdhlmeimhaaGreatTwan
import Derived.Test.YtnfcfdhlmeimhaaGreatTwaj
import Derived.Test.YtnfcfdhlmeimhaaGreatTwaa
import Derived.Test.YtnfcfdhlmeimhaaGreatTwad
namespace Go.Proofs.YtnfcfdhlmeimhaaGreat
open Go.RowKit
set_option linter.unusedVariables false
set_option maxRecDepth 20000
set_option linter.unusedSimpArgs false

/-- So many loose writes are done. -/
structure DoI (w : World) (gc n c : Nat) (cv : List Value) (lv : List (Nat × Value)) (k : Nat) (wr : World) : Prop where
  own : OwnT wr 0 54 1 (.slice (some ⟨gc, 0, none⟩) n c) n (doG cv (lv.take k))
  kp : Kp (fun q => q = gc) w wr
theorem DoI.next {w wr : World} {gc n c k q : Nat} {cv : List Value} {lv : List (Nat × Value)} {v : Value} (h : DoI w gc n c cv lv k wr) (hp : lv[k]? = some (q, v)) (hq : q < n) : DoI w gc n c cv lv (k + 1) (wr.setCell ⟨gc, q, none⟩ v) :=
  ⟨by rw [take_more hp, doG_snoc]; exact h.own.set1 hq v, h.kp.trans' (Kp.setCell (p := ⟨gc, q, none⟩) (S := fun q => q = gc) rfl v)⟩
theorem DoI.no {w wr w1 : World} {gc n c k : Nat} {cv : List Value} {lv : List (Nat × Value)} (h : DoI w gc n c cv lv k wr) (hk : Kp No wr w1) : DoI w gc n c cv lv k w1 := ⟨h.own.no hk, h.kp.trans' (hk.of_no _)⟩

set_option maxHeartbeats 2000000 in
theorem pdo_any {w : World} {g gc n c m cl : Nat} {A : Option Addr} {cv : List Value} {lv : List (Nat × Value)} (x0 : w.cell? ⟨g, 0, none⟩ = some (.slice (some ⟨gc, 0, none⟩) n c)) (hg : g ≠ gc) (ho : OwnT w 0 54 1 (.slice (some ⟨gc, 0, none⟩) n c) n cv)
    (hl : LsR w A m lv) (hA : ∀ a, A = some a → a.block ≠ gc) (hin : ∀ p ∈ lv, p.1 < n ∧ ∃ A' m' c', p.2 = .slice A' m' c') (hm : m ≤ 1000000) :
    Calls Tryz.prog 72 #[.pointer (some ⟨g, 0, none⟩), .slice A m cl] w fun e w1 => e = .returned (.tuple #[]) ∧ DoI w gc n c cv lv lv.length w1 := by
  have HL := hide hl.len
  have hst : DoI w gc n c cv lv 0 w := ⟨ho, Kp.refl _ _⟩
  have HG := hide hg
  clear hg
  go_enter Tryz.func72, Tryz.ntmps72
  go_wp2
  go_loopw [8] (fun i wr => ∃ k : Nat, k ≤ m ∧ i = .int .i64 (k : Int) ∧ DoI w gc n c cv lv k wr) (fun i _ => m - (intOf i).toNat)
  case atStart => exact ⟨0, Nat.zero_le _, rfl, hst⟩
  case round =>
    obtain ⟨k, hk, rfl, hI⟩ := hrel
    by_cases hlt : k < m
    · obtain ⟨p, hp⟩ : ∃ p, lv[k]? = some p := ⟨_, List.getElem?_eq_getElem (by have := HL.out; omega)⟩
      obtain ⟨B, off, rfl, y0, y1⟩ := (hl.keep hI.kp hA).at_ k p hp
      obtain ⟨hq, A', m', c', e'⟩ := hin p (List.mem_of_getElem? hp)
      obtain ⟨q, v⟩ := p
      simp only at e' hq y0 y1
      subst e'
      have HP := hide hp
      clear hp
      have z0 : wr.cell? ⟨g, 0, none⟩ = some (.slice (some ⟨gc, 0, none⟩) n c) := hI.kp.cell x0 HG.out
      have hnc := hI.own.cap
      have hnn := hI.own.row
      have hn63 : n ≤ 9223372036854775807 := by
        obtain ⟨_, _, _, h1, h2, _⟩ := hnn
        unfold maxLen at h2
        omega
      clear hnn
      go_wp2_with fail
      have b0 : (wr.alloc (.cells #[.int .i64 (q : Int), .slice A' m' c'] 153)).cell? ⟨wr.heap.size, 0, none⟩ = some (.int .i64 (q : Int)) := by rw [World.cell?_alloc_mark]; rfl
      have b1 : (wr.alloc (.cells #[.int .i64 (q : Int), .slice A' m' c'] 153)).cell? ⟨wr.heap.size, 1, none⟩ = some (.slice A' m' c') := by rw [World.cell?_alloc_mark]; rfl
      have hI2 := hI.no (Kp.alloc No wr (.cells #[.int .i64 (q : Int), .slice A' m' c'] 153))
      have z2 := (Kp.alloc No wr (.cells #[.int .i64 (q : Int), .slice A' m' c'] 153)).cell z0 (fun f => f)
      clear y0 y1 z0 hI x0 ho
      generalize wr.alloc (.cells #[.int .i64 (q : Int), .slice A' m' c'] 153) = w2 at b0 b1 hI2 z2 ⊢
      generalize wr.heap.size = s at b0 b1 ⊢
      have z3 : w2.drew.cell? ⟨g, 0, none⟩ = some (.slice (some ⟨gc, 0, none⟩) n c) := z2
      have b3 : w2.drew.cell? ⟨s, 0, none⟩ = some (.int .i64 (q : Int)) := b0
      have b4 : w2.drew.cell? ⟨s, 1, none⟩ = some (.slice A' m' c') := b1
      have hI3 := hI2.no (Kp.refl No w2).drew
      have xf := hI3.own.frozenAt q
      obtain ⟨uu, huu⟩ : ∃ uu, (doG cv (lv.take k))[q]? = some uu := ⟨_, List.getElem?_eq_getElem (by have := hI3.own.1; omega)⟩
      have xc := hI3.own.cellAt huu
      have HN := hide (hI3.next HP.out hq)
      clear huu hI2 hI3 b0 b1 z2
      refine wp_region_noPanic ?_
      refine LastR.begin (S := fun w' => w'.cell? ⟨g, 0, none⟩ = some (.slice (some ⟨gc, 0, none⟩) n c) ∧ w'.cell? ⟨s, 0, none⟩ = some (.int .i64 (q : Int)) ∧ w'.cell? ⟨s, 1, none⟩ = some (.slice A' m' c')) (t := 9) (by kernel_rfl) (⟨z3, b3, b4⟩) (fun hHeld => ?_)
      refine LastR.take (i := 0) (v := ?va0) (oi := ?oa0) ?ha0 (by kernel_rfl) (by kernel_rfl) (by kernel_rfl) (by kernel_rfl) (fun _ _ _ h => h) (Or.inl ⟨?wa0, ?ya0⟩) hHeld ?ra0
      case ha0 => simp only [List.getElem?_toArray, List.getElem?_cons_zero, List.getElem?_cons_succ]; rfl
      case wa0 => rfl
      case ya0 => intro w hSw; (try dsimp only at hSw); go_simp; (try with_reducible rfl)
      simp only [Act.put, List.setIfInBounds_toArray, List.set_cons_zero, List.set_cons_succ]
      refine LastR.take (i := 1) (v := ?va1) (oi := ?oa1) ?ha1 (by kernel_rfl) (by kernel_rfl) (by kernel_rfl) (by kernel_rfl) (fun _ _ _ h => h) (Or.inl ⟨?wa1, ?ya1⟩) hHeld ?ra1
      case ha1 => simp only [List.getElem?_toArray, List.getElem?_cons_zero, List.getElem?_cons_succ]; rfl
      case wa1 => rfl
      case ya1 => intro w hSw; (try dsimp only at hSw); go_simp; (try with_reducible rfl)
      simp only [Act.put, List.setIfInBounds_toArray, List.set_cons_zero, List.set_cons_succ]
      refine LastR.take (i := 2) (v := ?va2) (oi := ?oa2) ?ha2 (by kernel_rfl) (by kernel_rfl) (by kernel_rfl) (by kernel_rfl) (fun _ _ _ h => h) (Or.inl ⟨?wa2, ?ya2⟩) hHeld ?ra2
      case ha2 => simp only [List.getElem?_toArray, List.getElem?_cons_zero, List.getElem?_cons_succ]; rfl
      case wa2 => rfl
      case ya2 => intro w hSw; (try dsimp only at hSw); go_simp; (try with_reducible rfl)
      simp only [Act.put, List.setIfInBounds_toArray, List.set_cons_zero, List.set_cons_succ]
      refine LastR.take (i := 3) (v := ?va3) (oi := ?oa3) ?ha3 (by kernel_rfl) (by kernel_rfl) (by kernel_rfl) (by kernel_rfl) (fun _ _ _ h => h) (Or.inl ⟨?wa3, ?ya3⟩) hHeld ?ra3
      case ha3 => simp only [List.getElem?_toArray, List.getElem?_cons_zero, List.getElem?_cons_succ]; rfl
      case wa3 => rfl
      case ya3 => intro w hSw; (try dsimp only at hSw); go_simp; (try with_reducible rfl)
      simp only [Act.put, List.setIfInBounds_toArray, List.set_cons_zero, List.set_cons_succ]
      refine LastR.take (i := 4) (v := ?va4) (oi := ?oa4) ?ha4 (by kernel_rfl) (by kernel_rfl) (by kernel_rfl) (by kernel_rfl) (fun _ _ _ h => h) (Or.inl ⟨?wa4, ?ya4⟩) hHeld ?ra4
      case ha4 => simp only [List.getElem?_toArray, List.getElem?_cons_zero, List.getElem?_cons_succ]; rfl
      case wa4 => rfl
      case ya4 => intro w hSw; (try dsimp only at hSw); go_simp; (try with_reducible rfl)
      simp only [Act.put, List.setIfInBounds_toArray, List.set_cons_zero, List.set_cons_succ]
      refine LastR.take (i := 5) (v := ?va5) (oi := ?oa5) ?ha5 (by kernel_rfl) (by kernel_rfl) (by kernel_rfl) (by kernel_rfl) (fun _ _ _ h => h) (Or.inl ⟨?wa5, ?ya5⟩) hHeld ?ra5
      case ha5 => simp only [List.getElem?_toArray, List.getElem?_cons_zero, List.getElem?_cons_succ]; rfl
      case wa5 => rfl
      case ya5 => intro w hSw; (try dsimp only at hSw); go_simp; (try with_reducible rfl)
      simp only [Act.put, List.setIfInBounds_toArray, List.set_cons_zero, List.set_cons_succ]
      refine LastR.take (i := 6) (v := ?va6) (oi := ?oa6) ?ha6 (by kernel_rfl) (by kernel_rfl) (by kernel_rfl) (by kernel_rfl) (fun _ _ _ h => h) (Or.inl ⟨?wa6, ?ya6⟩) hHeld ?ra6
      case ha6 => simp only [List.getElem?_toArray, List.getElem?_cons_zero, List.getElem?_cons_succ]; rfl
      case wa6 => rfl
      case ya6 => intro w hSw; (try dsimp only at hSw); go_simp; (try with_reducible rfl)
      simp only [Act.put, List.setIfInBounds_toArray, List.set_cons_zero, List.set_cons_succ]
      refine LastR.take (i := 7) (v := ?va7) (oi := ?oa7) ?ha7 (by kernel_rfl) (by kernel_rfl) (by kernel_rfl) (by kernel_rfl) (fun _ _ _ h => h) (Or.inl ⟨?wa7, ?ya7⟩) hHeld ?ra7
      case ha7 => simp only [List.getElem?_toArray, List.getElem?_cons_zero, List.getElem?_cons_succ]; rfl
      case wa7 => rfl
      case ya7 => intro w hSw; (try dsimp only at hSw); go_simp; (try with_reducible rfl)
      simp only [Act.put, List.setIfInBounds_toArray, List.set_cons_zero, List.set_cons_succ]
      refine LastR.take (i := 8) (v := ?va8) (oi := ?oa8) ?ha8 (by kernel_rfl) (by kernel_rfl) (by kernel_rfl) (by kernel_rfl) (fun _ _ _ h => h) (Or.inl ⟨?wa8, ?ya8⟩) hHeld ?ra8
      case ha8 => simp only [List.getElem?_toArray, List.getElem?_cons_zero, List.getElem?_cons_succ]; rfl
      case wa8 => rfl
      case ya8 => intro w hSw; (try dsimp only at hSw); go_simp; (try with_reducible rfl)
      simp only [Act.put, List.setIfInBounds_toArray, List.set_cons_zero, List.set_cons_succ]
      refine LastR.run (i := 9) (o := ?oa9) ?ha9 (by kernel_rfl) (fun K hK => ?sa9)
      case ha9 => simp only [List.getElem?_toArray, List.getElem?_cons_zero, List.getElem?_cons_succ]; rfl
      go_simp
      refine hK.out _ _ (fun h => absurd rfl h) (fun _ => ?_)
      clear hK K
      try simp only [Act.put, List.setIfInBounds_toArray, List.set_cons_zero, List.set_cons_succ]
      refine LastR.done (by kernel_rfl) ?_ _
      refine NoPanic.normal ?_
      go_wp2_with fail
      go_round
      case rel => exact ⟨k + 1, by omega, by go_num, HN.out⟩
      case measure => simp [intOf]; omega
    · obtain rfl : k = m := by omega
      have HI := hide hI
      go_wp2_with fail
      go_end0
      exact ⟨rfl, by rw [← HL.out]; exact HI.out⟩

end Go.Proofs.YtnfcfdhlmeimhaaGreat
