/- The document's vault of layer 12 in memory; its Index, as a contract. -/
import Derived.Test.YtndghapdpfgmoaaGreatVgh
import Derived.Test.YtndghapdpfgmoaaGreatPlh
namespace Go.Proofs.YtndghapdpfgmoaaGreat
open Go.RowKit
set_option linter.unusedVariables false
set_option linter.unusedSimpArgs false
set_option maxRecDepth 20000

/-- The cells of what is known. -/
def knC (L : List (Nat × Nat)) : List Value := L.flatMap fun p => [.int .i64 (p.1 : Int), .int .u32 (cO p.2 : Int), .int .u16 (cS p.2 : Int), .int .u16 (cL p.2 : Int), .int .u32 (cG p.2 : Int)]
theorem knC_append (L M : List (Nat × Nat)) : knC (L ++ M) = knC L ++ knC M := by simp [knC]
theorem knC_len : ∀ (L : List (Nat × Nat)), (knC L).length = L.length * 5
  | [] => rfl
  | p :: L => by
    have ih := knC_len L
    have e : knC (p :: L) = [.int .i64 (p.1 : Int), .int .u32 (cO p.2 : Int), .int .u16 (cS p.2 : Int), .int .u16 (cL p.2 : Int), .int .u32 (cG p.2 : Int)] ++ knC L := rfl
    rw [e, List.length_append, ih, List.length_cons]
    simp
    omega
theorem knC_one (L : List (Nat × Nat)) : ∀ u ∈ knC L, u.oneCell' = true := fun u hu => by
  obtain ⟨p, _, hp⟩ := List.mem_flatMap.1 hu
  simp at hp
  rcases hp with rfl | rfl | rfl | rfl | rfl <;> rfl
theorem knC_get : ∀ {L : List (Nat × Nat)} {j : Nat} {p : Nat × Nat}, L[j]? = some p → (knC L)[j * 5]? = some (.int .i64 (p.1 : Int)) ∧ (knC L)[j * 5 + 1]? = some (.int .u32 (cO p.2 : Int)) ∧ (knC L)[j * 5 + 2]? = some (.int .u16 (cS p.2 : Int)) ∧ (knC L)[j * 5 + 3]? = some (.int .u16 (cL p.2 : Int)) ∧ (knC L)[j * 5 + 4]? = some (.int .u32 (cG p.2 : Int))
  | [], j, p, h => by simp at h
  | x :: L, 0, p, h => by
    simp at h
    subst h
    exact ⟨rfl, rfl, rfl, rfl, rfl⟩
  | x :: L, j + 1, p, h => by
    rw [List.getElem?_cons_succ] at h
    have ih := knC_get h
    have e : knC (x :: L) = [.int .i64 (x.1 : Int), .int .u32 (cO x.2 : Int), .int .u16 (cS x.2 : Int), .int .u16 (cL x.2 : Int), .int .u32 (cG x.2 : Int)] ++ knC L := rfl
    have key : ∀ i, (knC (x :: L))[(j + 1) * 5 + i]? = (knC L)[j * 5 + i]? := fun i => by
      rw [e, List.getElem?_append_right (by simp; omega)]
      congr 1
      simp
      omega
    exact ⟨(key 0).trans ih.1, (key 1).trans ih.2.1, (key 2).trans ih.2.2.1, (key 3).trans ih.2.2.2.1, (key 4).trans ih.2.2.2.2⟩
theorem ty_kn : Ty 77 (.agg #[.int .i64 0, .int .u32 0, .int .u16 0, .int .u16 0, .int .u32 0]) 5 24 := ty_of (by kernel_rfl) rfl (by omega) (by omega)
/-- The row v holds what is known, outside F. -/
structure KnR (w : World) (F : Nat → Prop) (v : Value) (L : List (Nat × Nat)) : Prop where
  own : OwnT w 0 77 5 v L.length (knC L)
  far : ∀ k, v.ownBlock = some k → ¬ F k
section
variable {w w1 : World} {F F1 : Nat → Prop} {v : Value} {L : List (Nat × Nat)}
theorem KnR.no (h : KnR w F v L) (hk : Kp No w w1) : KnR w1 F v L := ⟨h.own.no hk, h.far⟩
theorem KnR.step (h : KnR w F v L) (hk : Kp F w w1) (hF : ∀ k, F1 k → Up F w k ∧ k < w1.heap.size) : KnR w1 F1 v L :=
  ⟨h.own.keep hk fun k hk' => h.far k hk', fun k hk' g => by
    rcases (hF k g).1 with f | f
    · exact h.far k hk' f
    · have := h.own.lt k hk'
      omega⟩
theorem KnR.less (h : KnR w F v L) (hF : ∀ k, F1 k → F k) : KnR w F1 v L := ⟨h.own, fun k hk g => h.far k hk (hF k g)⟩
theorem KnR.form (h : KnR w F v L) : ∃ A c, v = .slice A L.length c ∧ L.length ≤ c := by
  obtain ⟨A, c, e⟩ := h.own.form
  refine ⟨A, c, e, ?_⟩
  rcases h.own.2 with ⟨e1, e2⟩ | ⟨g', cap, cur, e1, _, _, h1, _⟩
  · omega
  · rw [e] at e1
    injection e1 with _ _ e3
    omega
theorem KnR.cell {A : Option Addr} {n c j : Nat} {p : Nat × Nat} (h : KnR w F (.slice A n c) L) (hj : L[j]? = some p) : ∃ g, A = some ⟨g, 0, none⟩ ∧ w.cell? ⟨g, j * 5, none⟩ = some (.int .i64 (p.1 : Int)) ∧ w.cell? ⟨g, j * 5 + 1, none⟩ = some (.int .u32 (cO p.2 : Int)) ∧ w.cell? ⟨g, j * 5 + 2, none⟩ = some (.int .u16 (cS p.2 : Int)) ∧ w.cell? ⟨g, j * 5 + 3, none⟩ = some (.int .u16 (cL p.2 : Int)) ∧ w.cell? ⟨g, j * 5 + 4, none⟩ = some (.int .u32 (cG p.2 : Int)) := by
  obtain ⟨e0, e1, e2, e3, e4⟩ := knC_get hj
  obtain ⟨g, rfl, _, _, _, c0⟩ := h.own.cell e0
  exact ⟨g, rfl, c0, h.own.cellAt e1, h.own.cellAt e2, h.own.cellAt e3, h.own.cellAt e4⟩
end
/-- The document's vault V, in the value of its five fields; what it holds lies outside F. -/
structure RvR (w : World) (F : Nat → Prop) (V : Vt) (vc vl vk : Value) (cs : List (Value × List UInt8)) (ls : List (Nat × (Value × List UInt8))) : Prop where
  rf : RfR w F V.D vc vl cs ls
  kn : KnR w F vk V.L
  ok : V.Ok
def rvV (D : Dk) (vc vl vk : Value) : Value := .agg #[.int .i64 (D.size : Int), vc, vl, .int .i64 (D.syncs : Int), vk]
def RvAt (w : World) (F : Nat → Prop) (V : Vt) (v : Value) : Prop := ∃ vc vl vk cs ls, v = rvV V.D vc vl vk ∧ RvR w F V vc vl vk cs ls
section
variable {w w1 : World} {F F1 : Nat → Prop} {V : Vt} {v vc vl vk : Value} {cs : List (Value × List UInt8)} {ls : List (Nat × (Value × List UInt8))}
theorem RvR.no (h : RvR w F V vc vl vk cs ls) (hk : Kp No w w1) : RvR w1 F V vc vl vk cs ls := ⟨h.rf.no hk, h.kn.no hk, h.ok⟩
theorem RvR.step (h : RvR w F V vc vl vk cs ls) (hk : Kp F w w1) (hF : ∀ k, F1 k → Up F w k ∧ k < w1.heap.size) : RvR w1 F1 V vc vl vk cs ls := ⟨h.rf.step hk hF, h.kn.step hk hF, h.ok⟩
theorem RvR.less (h : RvR w F V vc vl vk cs ls) (hF : ∀ k, F1 k → F k) : RvR w F1 V vc vl vk cs ls := ⟨h.rf.less hF, h.kn.less hF, h.ok⟩
theorem RvAt.no (h : RvAt w F V v) (hk : Kp No w w1) : RvAt w1 F V v := by
  obtain ⟨vc, vl, vk, cs, ls, e, h⟩ := h
  exact ⟨vc, vl, vk, cs, ls, e, h.no hk⟩
theorem RvAt.step (h : RvAt w F V v) (hk : Kp F w w1) (hF : ∀ k, F1 k → Up F w k ∧ k < w1.heap.size) : RvAt w1 F1 V v := by
  obtain ⟨vc, vl, vk, cs, ls, e, h⟩ := h
  exact ⟨vc, vl, vk, cs, ls, e, h.step hk hF⟩
theorem RvR.forms (h : RvR w F V vc vl vk cs ls) : ∃ gc cc A cl A2 ck, vc = .slice (some ⟨gc, 0, none⟩) V.D.cells.length cc ∧ vl = .slice A V.D.loose.length cl ∧ vk = .slice A2 V.L.length ck := by
  obtain ⟨gc, cc, e, _⟩ := h.rf.vc_
  obtain ⟨A, cl, e2, _⟩ := h.rf.vl_
  obtain ⟨A2, ck, e3, _⟩ := h.kn.form
  exact ⟨gc, cc, A, cl, A2, ck, e, e2, e3⟩
end
/-- A box of the document's vault. -/
def Bx5 (w : World) (s : Nat) (x0 x1 x2 x3 x4 : Value) : Prop := w.heap[s]? = some (.cells #[x0, x1, x2, x3, x4] 38 (0, 0))
section
variable {w w1 : World} {s : Nat} {x0 x1 x2 x3 x4 : Value}
theorem Bx5.cell (h : Bx5 w s x0 x1 x2 x3 x4) : w.cell? ⟨s, 0, none⟩ = some x0 ∧ w.cell? ⟨s, 1, none⟩ = some x1 ∧ w.cell? ⟨s, 2, none⟩ = some x2 ∧ w.cell? ⟨s, 3, none⟩ = some x3 ∧ w.cell? ⟨s, 4, none⟩ = some x4 := by
  refine ⟨?_, ?_, ?_, ?_, ?_⟩ <;> (rw [cell_of_row w s _ _ _ _ h]; rfl)
theorem Bx5.frozen (h : Bx5 w s x0 x1 x2 x3 x4) (j : Nat) : w.frozen? ⟨s, j, none⟩ = false := frozen_of_row w s j _ _ h
theorem Bx5.lt (h : Bx5 w s x0 x1 x2 x3 x4) : s < w.heap.size := (Array.getElem?_eq_some_iff.1 h).1
theorem Bx5.keep {S : Nat → Prop} (h : Bx5 w s x0 x1 x2 x3 x4) (hk : Kp S w w1) (hb : ¬ S s) : Bx5 w1 s x0 x1 x2 x3 x4 := (hk.block s h.lt hb).trans h
theorem Bx5.no (h : Bx5 w s x0 x1 x2 x3 x4) (hk : Kp No w w1) : Bx5 w1 s x0 x1 x2 x3 x4 := h.keep hk fun f => f
theorem Bx5.set0 (h : Bx5 w s x0 x1 x2 x3 x4) (u : Value) : Bx5 (w.setCell ⟨s, 0, none⟩ u) s u x1 x2 x3 x4 := heap_setCell_same w s 0 _ 38 u h
theorem Bx5.set1 (h : Bx5 w s x0 x1 x2 x3 x4) (u : Value) : Bx5 (w.setCell ⟨s, 1, none⟩ u) s x0 u x2 x3 x4 := heap_setCell_same w s 1 _ 38 u h
theorem Bx5.set2 (h : Bx5 w s x0 x1 x2 x3 x4) (u : Value) : Bx5 (w.setCell ⟨s, 2, none⟩ u) s x0 x1 u x3 x4 := heap_setCell_same w s 2 _ 38 u h
theorem Bx5.set3 (h : Bx5 w s x0 x1 x2 x3 x4) (u : Value) : Bx5 (w.setCell ⟨s, 3, none⟩ u) s x0 x1 x2 u x4 := heap_setCell_same w s 3 _ 38 u h
theorem Bx5.set4 (h : Bx5 w s x0 x1 x2 x3 x4) (u : Value) : Bx5 (w.setCell ⟨s, 4, none⟩ u) s x0 x1 x2 x3 u := heap_setCell_same w s 4 _ 38 u h
theorem Bx5.all (h : Bx5 w s x0 x1 x2 x3 x4) (u0 u1 u2 u3 u4 : Value) : Bx5 (((((w.setCell ⟨s, 0, none⟩ u0).setCell ⟨s, 1, none⟩ u1).setCell ⟨s, 2, none⟩ u2).setCell ⟨s, 3, none⟩ u3).setCell ⟨s, 4, none⟩ u4) s u0 u1 u2 u3 u4 := ((((h.set0 u0).set1 u1).set2 u2).set3 u3).set4 u4
theorem Bx5.four (h : Bx5 w s x0 x1 x2 x3 x4) (u0 u1 u2 u3 : Value) : Bx5 ((((w.setCell ⟨s, 0, none⟩ u0).setCell ⟨s, 1, none⟩ u1).setCell ⟨s, 2, none⟩ u2).setCell ⟨s, 3, none⟩ u3) s u0 u1 u2 u3 x4 := (((h.set0 u0).set1 u1).set2 u2).set3 u3
theorem Bx5.new (w : World) (x0 x1 x2 x3 x4 : Value) : Bx5 (w.alloc (.cells #[x0, x1, x2, x3, x4] 38)) w.heap.size x0 x1 x2 x3 x4 := heap_alloc_new w _
theorem kp5 {S : Nat → Prop} (w : World) (b : Nat) (u0 u1 u2 u3 u4 : Value) (hb : S b) : Kp S w (((((w.setCell ⟨b, 0, none⟩ u0).setCell ⟨b, 1, none⟩ u1).setCell ⟨b, 2, none⟩ u2).setCell ⟨b, 3, none⟩ u3).setCell ⟨b, 4, none⟩ u4) :=
  (kp4 w b u0 u1 u2 u3 hb).trans' (Kp.setCell (p := ⟨b, 4, none⟩) hb u4)
end
def ixZ (L : List (Nat × Nat)) (s : Nat) : Int := if kn L s = true then (ixl L s : Int) else -1
theorem ixZ_yes {L : List (Nat × Nat)} {s : Nat} (h : kn L s = true) : ixZ L s = (ixl L s : Int) := by unfold ixZ; rw [if_pos h]
theorem ixZ_no {L : List (Nat × Nat)} {s : Nat} (h : kn L s = false) : ixZ L s = -1 := by unfold ixZ; rw [if_neg (by rw [h]; simp)]
theorem ixl_eq {L : List (Nat × Nat)} {k s : Nat} {p : Nat × Nat} (h : L[k]? = some p) (e : p.2 = s) (hb : ∀ (j : Nat) q, j < k → L[j]? = some q → q.2 ≠ s) : ixZ L s = (k : Int) := by
  have hk : kn L s = true := kn_iff.2 ⟨p, List.mem_of_getElem? h, e⟩
  rw [ixZ_yes hk]
  have h1 : ¬ k < ixl L s := fun hl => ix_before hl h e
  have h2 : ¬ ixl L s < k := fun hl => hb _ _ hl (ix_get hk) rfl
  omega
theorem ixZ_end {L : List (Nat × Nat)} {s : Nat} (hb : ∀ (j : Nat) q, j < L.length → L[j]? = some q → q.2 ≠ s) : ixZ L s = -1 := by
  refine ixZ_no ?_
  cases hk : kn L s
  · rfl
  · exact absurd rfl (hb _ _ (kn_ix.1 hk) (ix_get hk))
theorem run_seql (w : World) {s t : Nat} (hs : s < N96) (ht : t < N96) (x y : Operand) : (do eqGuard .eql 46 x y (shV s) (shV t); binOp .eql 46 (shV s) (shV t)).run Tryz.prog w = .ok (.bool (s == t)) w := by
  have hq := sh_equal w hs ht
  have hg := sh_guard
  simp [eqGuard, binOp, hg, hq, Sem.run_bind, Result.andThen]
theorem if4 {β : Type} {s t : Nat} {r : Bool} (f : Bool → β) (hr : (s == t) = r) : (if (cO s : Int) = (cO t : Int) then (if (cS s : Int) = (cS t : Int) then (if (cL s : Int) = (cL t : Int) then (if (cG s : Int) = (cG t : Int) then f true else f false) else f false) else f false) else f false) = f r := by
  by_cases e : s = t
  · subst e
    have : r = true := by rw [← hr]; simp
    subst this
    simp
  · have : r = false := by rw [← hr]; simp [e]
    subst this
    split
    · split
      · split
        · split
          · exact absurd (c_inj (by omega) (by omega) (by omega) (by omega)) e
          · rfl
        · rfl
      · rfl
    · rfl
set_option maxHeartbeats 2000000 in
theorem rindex_any {w : World} {F : Nat → Prop} {v : Value} {x0 x1 x2 x3 : Value} {L : List (Nat × Nat)} {s : Nat} (h : KnR w F v L) (hs : s < N96) (hL : ∀ p ∈ L, p.2 < N96) (o0 : x0.oneCell' = true) (o1 : x1.oneCell' = true) (o2 : x2.oneCell' = true) (o3 : x3.oneCell' = true) : Calls Tryz.prog 15 #[.agg #[x0, x1, x2, x3, v], shV s] w (CelPost w (ixZ L s)) := by
  obtain ⟨A, c, rfl, _⟩ := h.form
  have HS := hide hs
  have HN := hide hL
  have hv := (Bx5.new w x0 x1 x2 x3 (.slice A L.length c)).keep (Kp.alloc No _ (.cells #[.int .u32 (cO s : Int), .int .u16 (cS s : Int), .int .u16 (cL s : Int), .int .u32 (cG s : Int)] 46)) fun f => f
  have hb := Box4.new2 w (.cells #[x0, x1, x2, x3, .slice A L.length c] 38) (.int .u32 (cO s : Int)) (.int .u16 (cS s : Int)) (.int .u16 (cL s : Int)) (.int .u32 (cG s : Int))
  have k0 : Kp No w ((w.alloc (.cells #[x0, x1, x2, x3, .slice A L.length c] 38)).alloc (.cells #[.int .u32 (cO s : Int), .int .u16 (cS s : Int), .int .u16 (cL s : Int), .int .u32 (cG s : Int)] 46)) := (Kp.alloc No w _).al _
  have hr := h.no k0
  have HV := hide hv
  have HB := hide hb
  have HR := hide hr
  have HK := hide k0
  obtain ⟨n, hn⟩ : ∃ n, n = L.length := ⟨_, rfl⟩
  rw [← hn] at HV HB HR HK ⊢
  have HNN := hide hn
  have hmax : n ≤ maxLen := by
    rcases h.own.2 with ⟨e1, e2⟩ | ⟨g', cap, cur, e1, _, _, h1, h2, _⟩
    · unfold maxLen; omega
    · omega
  unfold maxLen at hmax
  clear h hv hb hr k0 hn hL hs
  go_enter Tryz.func15, Tryz.ntmps15
  go_upto_region 1 with fail
  generalize ((w.alloc (.cells #[x0, x1, x2, x3, .slice A n c] 38)).alloc (.cells #[.int .u32 (cO s : Int), .int .u16 (cS s : Int), .int .u16 (cL s : Int), .int .u32 (cG s : Int)] 46)) = w0 at HV HB HR HK ⊢
  generalize w.heap.size = s0 at HV HB ⊢
  go_wp2_with fail
  go_loopw [5] (fun iv wr => ∃ k : Nat, k ≤ n ∧ iv = .int .i64 (k : Int) ∧ Hid (∀ (j : Nat) q, j < k → L[j]? = some q → q.2 ≠ s) ∧ Kp No w0 wr) (fun iv _ => n - (intOf iv).toNat)
  case atStart => exact ⟨0, Nat.zero_le _, rfl, (fun j q hj => by omega), Kp.refl _ _⟩
  case round =>
    obtain ⟨k, hk, rfl, HQ, hkr⟩ := hrel
    have hv2 := HV.out.no hkr
    obtain ⟨v0, v1, v2, v3, v4⟩ := hv2.cell
    have HKR := hide hkr
    clear v0 v1 v2 v3 hv2
    by_cases hlt : k < n
    · have hlz : (k : Int) < n := by omega
      obtain ⟨p, hp⟩ : ∃ p, L[k]? = some p := ⟨_, List.getElem?_eq_getElem (by have := HNN.out; omega)⟩
      obtain ⟨gk, rfl, y0, y1, y2, y3, y4⟩ := (HR.out.no hkr).cell hp
      obtain ⟨b0, b1, b2, b3⟩ := (HB.out.keep hkr fun f => f).cell
      have HP := hide hp
      have hpN := hide (HN.out p (List.mem_of_getElem? hp))
      obtain ⟨r, hr⟩ : ∃ r, (p.2 == s) = r := ⟨_, rfl⟩
      have HE := hide hr
      clear hkr hp y0 hr
      go_wp2_with fail
      refine wp_region_noPanic ?_
      refine wp_region_held_drew (S := fun w' => w'.cell? ⟨s0, 4, none⟩ = some (.slice (some ⟨gk, 0, none⟩) n c) ∧ w'.cell? ⟨gk, k * 5 + 1, none⟩ = some (.int .u32 (cO p.2 : Int)) ∧ w'.cell? ⟨gk, k * 5 + 2, none⟩ = some (.int .u16 (cS p.2 : Int)) ∧ w'.cell? ⟨gk, k * 5 + 3, none⟩ = some (.int .u16 (cL p.2 : Int)) ∧ w'.cell? ⟨gk, k * 5 + 4, none⟩ = some (.int .u32 (cG p.2 : Int)) ∧ w'.cell? ⟨s0 + 1, 0, none⟩ = some (.int .u32 (cO s : Int)) ∧ w'.cell? ⟨s0 + 1, 1, none⟩ = some (.int .u16 (cS s : Int)) ∧ w'.cell? ⟨s0 + 1, 2, none⟩ = some (.int .u16 (cL s : Int)) ∧ w'.cell? ⟨s0 + 1, 3, none⟩ = some (.int .u32 (cG s : Int))) (by kernel_rfl) (⟨v4, y1, y2, y3, y4, b0, b1, b2, b3⟩) (fun hHeld => ?_)
      refine wpAnyH_take (i := 0) (v := ?vax1) (oi := ?oax1) ?hax1 (by kernel_rfl) (by kernel_rfl) (by kernel_rfl) (fun _ _ _ h => h) (Or.inl ⟨?wax1, ?yax1⟩) hHeld ?rax1
      case hax1 => simp only [List.getElem?_toArray, List.getElem?_cons_zero, List.getElem?_cons_succ]; rfl
      case wax1 => rfl
      case yax1 => intro w hSw; (try dsimp only at hSw); go_simp; (try with_reducible rfl)
      simp only [Act.put, List.setIfInBounds_toArray, List.set_cons_zero, List.set_cons_succ]
      refine wpAnyH_take (i := 1) (v := ?vax2) (oi := ?oax2) ?hax2 (by kernel_rfl) (by kernel_rfl) (by kernel_rfl) (fun _ _ _ h => h) (Or.inl ⟨?wax2, ?yax2⟩) hHeld ?rax2
      case hax2 => simp only [List.getElem?_toArray, List.getElem?_cons_zero, List.getElem?_cons_succ]; rfl
      case wax2 => rfl
      case yax2 => intro w hSw; (try dsimp only at hSw); go_simp; (try with_reducible rfl)
      simp only [Act.put, List.setIfInBounds_toArray, List.set_cons_zero, List.set_cons_succ]
      refine wpAnyH_take (i := 2) (v := ?vax3) (oi := ?oax3) ?hax3 (by kernel_rfl) (by kernel_rfl) (by kernel_rfl) (fun _ _ _ h => h) (Or.inl ⟨?wax3, ?yax3⟩) hHeld ?rax3
      case hax3 => simp only [List.getElem?_toArray, List.getElem?_cons_zero, List.getElem?_cons_succ]; rfl
      case wax3 => rfl
      case yax3 => intro w hSw; (try dsimp only at hSw); go_simp; (try with_reducible rfl)
      simp only [Act.put, List.setIfInBounds_toArray, List.set_cons_zero, List.set_cons_succ]
      refine wpAnyH_take (i := 3) (v := ?vax4) (oi := ?oax4) ?hax4 (by kernel_rfl) (by kernel_rfl) (by kernel_rfl) (fun _ _ _ h => h) (Or.inl ⟨?wax4, ?yax4⟩) hHeld ?rax4
      case hax4 => simp only [List.getElem?_toArray, List.getElem?_cons_zero, List.getElem?_cons_succ]; rfl
      case wax4 => rfl
      case yax4 => intro w hSw; (try dsimp only at hSw); go_simp; (try with_reducible rfl)
      simp only [Act.put, List.setIfInBounds_toArray, List.set_cons_zero, List.set_cons_succ]
      refine wpAnyH_take (i := 4) (v := ?vax5) (oi := ?oax5) ?hax5 (by kernel_rfl) (by kernel_rfl) (by kernel_rfl) (fun _ _ _ h => h) (Or.inl ⟨?wax5, ?yax5⟩) hHeld ?rax5
      case hax5 => simp only [List.getElem?_toArray, List.getElem?_cons_zero, List.getElem?_cons_succ]; rfl
      case wax5 => rfl
      case yax5 => intro w hSw; (try dsimp only at hSw); go_simp; (try with_reducible rfl)
      simp only [Act.put, List.setIfInBounds_toArray, List.set_cons_zero, List.set_cons_succ]
      refine wpAnyH_take (i := 5) (v := ?vax6) (oi := ?oax6) ?hax6 (by kernel_rfl) (by kernel_rfl) (by kernel_rfl) (fun _ _ _ h => h) (Or.inl ⟨?wax6, ?yax6⟩) hHeld ?rax6
      case hax6 => simp only [List.getElem?_toArray, List.getElem?_cons_zero, List.getElem?_cons_succ]; rfl
      case wax6 => rfl
      case yax6 => intro w hSw; (try dsimp only at hSw); go_simp; (try with_reducible rfl)
      simp only [Act.put, List.setIfInBounds_toArray, List.set_cons_zero, List.set_cons_succ]
      refine wpAnyH_take (i := 6) (v := ?vax7) (oi := ?oax7) ?hax7 (by kernel_rfl) (by kernel_rfl) (by kernel_rfl) (fun _ _ _ h => h) (Or.inl ⟨?wax7, ?yax7⟩) hHeld ?rax7
      case hax7 => simp only [List.getElem?_toArray, List.getElem?_cons_zero, List.getElem?_cons_succ]; rfl
      case wax7 => rfl
      case yax7 => intro w hSw; (try dsimp only at hSw); go_simp; (try with_reducible rfl)
      simp only [Act.put, List.setIfInBounds_toArray, List.set_cons_zero, List.set_cons_succ]
      refine wpAnyH_take (i := 7) (v := ?vax8) (oi := ?oax8) ?hax8 (by kernel_rfl) (by kernel_rfl) (by kernel_rfl) (fun _ _ _ h => h) (Or.inl ⟨?wax8, ?yax8⟩) hHeld ?rax8
      case hax8 => simp only [List.getElem?_toArray, List.getElem?_cons_zero, List.getElem?_cons_succ]; rfl
      case wax8 => rfl
      case yax8 =>
        intro w hSw
        (try dsimp only at hSw)
        go_simp
        exact if4 (fun q => Result.ok (Next.value (Value.bool q)) w) HE.out
      simp only [Act.put, List.setIfInBounds_toArray, List.set_cons_zero, List.set_cons_succ]
      refine wpAnyH_done (by kernel_rfl) ?_ _
      refine NoPanic.normal ?_
      clear hHeld
      have HW : Hid (Kp No w0 wr.drew) := HKR.out.drew
      clear v4 y1 y2 y3 y4 b0 b1 b2 b3
      rcases r with _ | _
      · go_wp2_with fail
        go_round
        case rel => exact ⟨k + 1, by omega, by go_num, (fun j q hj hq => by
          rcases Nat.lt_or_ge j k with g | g
          · exact HQ.out j q g hq
          · obtain rfl : j = k := by omega
            rw [HP.out] at hq
            injection hq with hq
            subst hq
            have := HE.out
            simpa using this), HW.out⟩
        case measure => simp [intOf]; omega
      · go_wp2_with fail
        go_ret
        exact ⟨by rw [ixl_eq HP.out (by have := HE.out; simpa using this) HQ.out]; rfl, HK.out.trans' HW.out⟩
    · obtain rfl : k = n := by omega
      have hlz : ¬ (k : Int) < k := by omega
      clear hkr
      go_wp2_with fail
      go_ret
      exact ⟨by rw [ixZ_end (fun j q hj => HQ.out j q (by have := HNN.out; omega))]; rfl, HK.out.trans' HKR.out⟩
end Go.Proofs.YtndghapdpfgmoaaGreat
