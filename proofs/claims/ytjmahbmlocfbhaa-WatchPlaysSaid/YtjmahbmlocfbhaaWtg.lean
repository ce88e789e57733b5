/- The document's Heard and Tick, each as a contract. No condition. -/
import Derived.Test.YtjmahbmlocfbhaaWtn
namespace Go.Proofs.Ytjmahbmlocfbhaa
open Go.RowKit
set_option linter.unusedVariables false
set_option maxRecDepth 20000
set_option linter.unusedSimpArgs false

def iv (x : Nat) : Value := .int .i64 (x : Int)
theorem ownI_empty (w : World) : OwnT (w.alloc (.cells #[] 3)) w.heap.size 3 1 (.slice (some ⟨w.heap.size, 0, none⟩) 0 0) 0 [] := World.ownsRow_made w #[] 0 (Nat.le_refl _) (Nat.zero_le _) rfl
theorem IRow.of_own {w : World} {b g r c n : Nat} {ns : List Nat} (h : OwnT w b 3 1 (.slice (some ⟨g, 0, none⟩) r c) n (ns.map iv)) : IRow w g ns := by
  rcases h.2 with ⟨e, _⟩ | ⟨g', cap, cur, e, hb, hg, h1, h2, h3, ht⟩
  · cases e
  · injection e with e1 e2 e3
    injection e1 with e1
    injection e1 with e1
    subst e1
    refine ⟨cur, hg, fun j x hj => ?_⟩
    have hl := h.1
    rw [List.length_map] at hl
    have hjl : j < ns.length := (List.getElem?_eq_some_iff.1 hj).1
    have h4 : (cur.toList.take (n * 1))[j]? = (ns.map iv)[j]? := by rw [ht]
    rw [List.getElem?_take, if_pos (by omega), Array.getElem?_toList, List.getElem?_map, hj] at h4
    exact h4
theorem IRow.nws {w : World} {b : Nat} {ns : List Nat} (h : IRow w b ns) : Nws w ⟨b, 0, none⟩ ns.length 1 (ns.map iv) := by
  refine ⟨by rw [List.length_map, Nat.mul_one], fun j u hj => ?_, fun u hu => ?_⟩
  · rw [List.getElem?_map, Option.map_eq_some_iff] at hj
    obtain ⟨x, hx, rfl⟩ := hj
    rw [add_none, Nat.zero_add]
    exact h.cell hx
  · obtain ⟨x, _, rfl⟩ := List.mem_map.1 hu
    rfl
section
variable {w w1 : World} {S : Nat → Prop} {B s gb gb' c c' : Nat} {T T' : Wt}
theorem BxW.setHs (h : BxW w s T gb c) (k : Nat) : BxW (w.setCell ⟨s, 4, none⟩ (.slice (some ⟨gb', 0, none⟩) T.hs.length c')) s T gb' c' := heap_setCell_same w s 4 _ _ _ h
theorem BxW.setNow (h : BxW w s T gb c) (k : Nat) : BxW (w.setCell ⟨s, 2, none⟩ (.int .i64 ((T.now + k : Nat) : Int))) s (T.tck0 k) gb c := heap_setCell_same w s 2 _ _ _ h
theorem BxW.hrd0 (h : BxW w s T gb c) (k : Nat) : BxW w s (T.hrd0 k) gb c := by
  have e : rwC (T.hrd0 k) gb c = rwC T gb c := by
    unfold rwC
    rw [T.hrd0_len]
    rfl
  unfold BxW
  rw [e]
  exact h

/-- What the document's Heard and Tick return. -/
def RhPost (w : World) (B : Nat) (T : Wt) (b : Bool) (e : Ending) (w1 : World) : Prop := ∃ gb c, e = .returned (.tuple #[.agg (rwC T gb c), .bool b]) ∧ RwR w1 B T gb c ∧ Kp No w w1
set_option maxHeartbeats 4000000 in
theorem rtick17_any (h : RwR w B T gb c) (he : T.ep ≤ 1000000) (z : Int) : Calls Try.prog 11 #[.agg (rwC T gb c), .int .i64 z] w (RhPost w B (T.tck z) (decide (T.TkOk z))) := by
  have K1 := Kp.alloc No w (.cells (rwC T gb c) 31)
  have K2 := Kp.alloc No (w.alloc (.cells (rwC T gb c) 31)) (.cells rwZ 31)
  have K3 := Kp.alloc No (w.alloc (.cells (rwC T gb c) 31)) (.cells (rwC T gb c) 31)
  have e1 : (w.alloc (.cells (rwC T gb c) 31)).heap.size = w.heap.size + 1 := by simp
  have b1 := (BxW.new w T gb c).no K2
  have b2 := BxY.new (w.alloc (.cells (rwC T gb c) 31))
  have b3 := BxW.new (w.alloc (.cells (rwC T gb c) 31)) T gb c
  rw [e1] at b2 b3
  have HK := hide (K1.trans' K2)
  have HK2 := hide (K1.trans' K3)
  have htk := h.ok.tk
  have hgb : gb < w.heap.size := h.row.lt
  have HR0 := hide h
  have HR := hide (h.no HK.out)
  have HB1 := hide b1
  have HB2 := hide b2
  have HB3 := hide b3
  clear K1 K2 K3 e1 b1 b2 b3 h
  unfold rwC rwZ at *
  by_cases h1 : z < 1
  · have hz : ¬ T.TkOk z := fun hz => by have := hz.1; omega
    have hd : decide (T.TkOk z) = false := decide_eq_false hz
    have hh : T.tck z = T := by unfold Wt.tck; rw [if_neg hz]
    have HE := hide hh
    have HD := hide hd
    clear hz hd hh
    go_enter Try.func11, Try.ntmps11
    go_wp2_with fail
    have hf : BxW ((w.alloc (.cells #[.int .i64 (T.late : Int), .int .i64 (T.gone : Int), .int .i64 (T.now : Int), .int .i64 (T.ep : Int), .slice (some ⟨gb, 0, none⟩) T.hs.length c] 31)).alloc (.cells #[.int .i64 (T.late : Int), .int .i64 (T.gone : Int), .int .i64 (T.now : Int), .int .i64 (T.ep : Int), .slice (some ⟨gb, 0, none⟩) T.hs.length c] 31)) (w.heap.size + 1) T gb c := HB3.out
    have HK3 : Hid (Kp No w ((w.alloc (.cells #[.int .i64 (T.late : Int), .int .i64 (T.gone : Int), .int .i64 (T.now : Int), .int .i64 (T.ep : Int), .slice (some ⟨gb, 0, none⟩) T.hs.length c] 31)).alloc (.cells #[.int .i64 (T.late : Int), .int .i64 (T.gone : Int), .int .i64 (T.now : Int), .int .i64 (T.ep : Int), .slice (some ⟨gb, 0, none⟩) T.hs.length c] 31))) := HK2.out
    generalize (w.alloc (.cells #[.int .i64 (T.late : Int), .int .i64 (T.gone : Int), .int .i64 (T.now : Int), .int .i64 (T.ep : Int), .slice (some ⟨gb, 0, none⟩) T.hs.length c] 31)).alloc (.cells #[.int .i64 (T.late : Int), .int .i64 (T.gone : Int), .int .i64 (T.now : Int), .int .i64 (T.ep : Int), .slice (some ⟨gb, 0, none⟩) T.hs.length c] 31) = w9 at hf HK3 ⊢
    have q0 := hf.c0
    have q1 := hf.c1
    have q2 := hf.c2
    have q3 := hf.c3
    have q4 := hf.c4
    refine bodyPost_ret (v := .tuple #[.agg (rwC T gb c), .bool false]) (by simp [results, Try.results11, go_sem, rwC, q0, q1, q2, q3, q4]) rfl ?_
    exact ⟨gb, c, by rw [HE.out, HD.out], by rw [HE.out]; exact HR0.out.no HK3.out, HK3.out⟩
  have hws : IntKind.i64.wrap (1099511627776 - (T.now : Int)) = 1099511627776 - (T.now : Int) := IntWalk.i64_in _ (by omega)
  by_cases h2 : z > 1099511627776 - (T.now : Int)
  · have hz : ¬ T.TkOk z := fun hz => by have := hz.2; omega
    have hd : decide (T.TkOk z) = false := decide_eq_false hz
    have hh : T.tck z = T := by unfold Wt.tck; rw [if_neg hz]
    have HE := hide hh
    have HD := hide hd
    clear hz hd hh
    go_enter Try.func11, Try.ntmps11
    go_wp2_with fail
    have hf : BxW ((w.alloc (.cells #[.int .i64 (T.late : Int), .int .i64 (T.gone : Int), .int .i64 (T.now : Int), .int .i64 (T.ep : Int), .slice (some ⟨gb, 0, none⟩) T.hs.length c] 31)).alloc (.cells #[.int .i64 (T.late : Int), .int .i64 (T.gone : Int), .int .i64 (T.now : Int), .int .i64 (T.ep : Int), .slice (some ⟨gb, 0, none⟩) T.hs.length c] 31)) (w.heap.size + 1) T gb c := HB3.out
    have HK3 : Hid (Kp No w ((w.alloc (.cells #[.int .i64 (T.late : Int), .int .i64 (T.gone : Int), .int .i64 (T.now : Int), .int .i64 (T.ep : Int), .slice (some ⟨gb, 0, none⟩) T.hs.length c] 31)).alloc (.cells #[.int .i64 (T.late : Int), .int .i64 (T.gone : Int), .int .i64 (T.now : Int), .int .i64 (T.ep : Int), .slice (some ⟨gb, 0, none⟩) T.hs.length c] 31))) := HK2.out
    generalize (w.alloc (.cells #[.int .i64 (T.late : Int), .int .i64 (T.gone : Int), .int .i64 (T.now : Int), .int .i64 (T.ep : Int), .slice (some ⟨gb, 0, none⟩) T.hs.length c] 31)).alloc (.cells #[.int .i64 (T.late : Int), .int .i64 (T.gone : Int), .int .i64 (T.now : Int), .int .i64 (T.ep : Int), .slice (some ⟨gb, 0, none⟩) T.hs.length c] 31) = w9 at hf HK3 ⊢
    have q0 := hf.c0
    have q1 := hf.c1
    have q2 := hf.c2
    have q3 := hf.c3
    have q4 := hf.c4
    refine bodyPost_ret (v := .tuple #[.agg (rwC T gb c), .bool false]) (by simp [results, Try.results11, go_sem, rwC, q0, q1, q2, q3, q4]) rfl ?_
    exact ⟨gb, c, by rw [HE.out, HD.out], by rw [HE.out]; exact HR0.out.no HK3.out, HK3.out⟩
  obtain ⟨k, rfl⟩ : ∃ k : Nat, z = k := ⟨z.toNat, by omega⟩
  have hz : T.TkOk (k : Int) := ⟨by omega, by omega⟩
  have hk : T.now + k ≤ 1099511627776 := by omega
  have hd : decide (T.TkOk (k : Int)) = true := decide_eq_true hz
  have hh : T.tck (k : Int) = T.next (T.tck0 k) := by unfold Wt.tck; rw [if_pos hz, Int.toNat_natCast]
  have HE := hide hh
  have HD := hide hd
  clear hz hd hh
  go_enter Try.func11, Try.ntmps11
  go_wp2_with fail
  generalize (w.alloc (.cells #[.int .i64 (T.late : Int), .int .i64 (T.gone : Int), .int .i64 (T.now : Int), .int .i64 (T.ep : Int), .slice (some ⟨gb, 0, none⟩) T.hs.length c] 31)).alloc (.cells #[.int .i64 0, .int .i64 0, .int .i64 0, .int .i64 0, .slice none 0 0] 31) = w3 at HK HR HB1 HB2 ⊢
  obtain ⟨s, hs⟩ : ∃ s, s = w.heap.size := ⟨_, rfl⟩
  rw [← hs] at HB1 HB2 hgb ⊢
  have HSZ := hide hs
  clear hs
  have e2 : ((T.now : Int) + (k : Int)) = ((T.now + k : Nat) : Int) := by omega
  rw [e2]
  have k4 := Kp.alloc No w3 (.cells (rwC (T.tck0 k) gb c) 31)
  have hr4 := HR.out.no k4
  have hr4' : RwR (w3.alloc (.cells (rwC (T.tck0 k) gb c) 31)) B (T.tck0 k) gb c := ⟨hr4.row, hr4.ge, hr4.cap, Wt.tck0_ok hr4.ok hk⟩
  have hnx := rnext_any hr4 hr4' rfl he
  have hru := hr4'.next T
  obtain ⟨U, hU⟩ : ∃ U, U = T.next (T.tck0 k) := ⟨_, rfl⟩
  rw [← hU] at hnx hru HE
  have HNX := hide hnx
  have HRU := hide hru
  have HK8 := hide (HK.out.trans' k4)
  have HB8 := hide (HB2.out.no k4)
  have HGB : Hid (¬ gb = s + 1) := by show ¬ gb = s + 1; omega
  clear e2 hU hnx hru hr4 hr4' k4 hgb
  unfold rwC at *
  dsimp only [Wt.tck0] at *
  generalize w3.alloc (.cells #[.int .i64 (T.late : Int), .int .i64 (T.gone : Int), .int .i64 ((T.now + k : Nat) : Int), .int .i64 (T.ep : Int), .slice (some ⟨gb, 0, none⟩) T.hs.length c] 31) = w4 at HNX HRU HK8 HB8 ⊢
  refine HNX.out.mono ?_
  rintro e w9 ⟨rfl, k9⟩
  have HRU := hide (HRU.out.no k9)
  have HK9 := hide (HK8.out.trans' k9)
  have HB9 := hide (HB8.out.no k9)
  have z0 := HB9.out.z0
  have z1 := HB9.out.z1
  have z2 := HB9.out.z2
  have z3 := HB9.out.z3
  have z4 := HB9.out.z4
  have g0 := HB9.out.fz 0
  have g1 := HB9.out.fz 1
  have g2 := HB9.out.fz 2
  have g3 := HB9.out.fz 3
  have g4 := HB9.out.fz 4
  unfold rwC
  dsimp only [id]
  go_wp2_with fail
  have hf : BxW (((((w9.setCell ⟨s + 1, 0, none⟩ (.int .i64 (U.late : Int))).setCell ⟨s + 1, 1, none⟩ (.int .i64 (U.gone : Int))).setCell ⟨s + 1, 2, none⟩ (.int .i64 (U.now : Int))).setCell ⟨s + 1, 3, none⟩ (.int .i64 (U.ep : Int))).setCell ⟨s + 1, 4, none⟩ (.slice (some ⟨gb, 0, none⟩) U.hs.length c)) (s + 1) U gb c := set5 (cs := rwZ) HB9.out U gb c
  have kf := kp_set5 w9 (s + 1) (.int .i64 (U.late : Int)) (.int .i64 (U.gone : Int)) (.int .i64 (U.now : Int)) (.int .i64 (U.ep : Int)) (.slice (some ⟨gb, 0, none⟩) U.hs.length c)
  generalize (((((w9.setCell ⟨s + 1, 0, none⟩ (.int .i64 (U.late : Int))).setCell ⟨s + 1, 1, none⟩ (.int .i64 (U.gone : Int))).setCell ⟨s + 1, 2, none⟩ (.int .i64 (U.now : Int))).setCell ⟨s + 1, 3, none⟩ (.int .i64 (U.ep : Int))).setCell ⟨s + 1, 4, none⟩ (.slice (some ⟨gb, 0, none⟩) U.hs.length c)) = wf at hf kf ⊢
  clear z0 g0 z1 g1 z2 g2 z3 g3 z4 g4
  have q0 := hf.c0
  have q1 := hf.c1
  have q2 := hf.c2
  have q3 := hf.c3
  have q4 := hf.c4
  refine bodyPost_ret (v := .tuple #[.agg (rwC U gb c), .bool true]) (by simp [results, Try.results11, go_sem, rwC, q0, q1, q2, q3, q4]) rfl ?_
  exact ⟨gb, c, by rw [HE.out, HD.out], by rw [HE.out]; exact HRU.out.keep kf fun e => HGB.out e, HK9.out.trans (kf.mono fun q hq => .inr (by rw [hq, ← HSZ.out]; omega))⟩
set_option maxHeartbeats 4000000 in
theorem rheard17_any (h : RwR w B T gb c) (he : T.ep ≤ 1000000) (hB : B ≤ w.heap.size) (z : Int) : Calls Try.prog 13 #[.agg (rwC T gb c), .int .i64 z] w (RhPost w B (T.hrd z) (decide (T.In z))) := by
  have hn1 := h.ok.n1
  have hn2 := h.ok.n2
  have K1 := Kp.alloc No w (.cells (rwC T gb c) 31)
  have K2 := Kp.alloc No (w.alloc (.cells (rwC T gb c) 31)) (.cells rwZ 31)
  have K3 := Kp.alloc No (w.alloc (.cells (rwC T gb c) 31)) (.cells (rwC T gb c) 31)
  have e1 : (w.alloc (.cells (rwC T gb c) 31)).heap.size = w.heap.size + 1 := by simp
  have b1 := (BxW.new w T gb c).no K2
  have b2 := BxY.new (w.alloc (.cells (rwC T gb c) 31))
  have b3 := BxW.new (w.alloc (.cells (rwC T gb c) 31)) T gb c
  rw [e1] at b2 b3
  have HK := hide (K1.trans' K2)
  have HK2 := hide (K1.trans' K3)
  have htk := h.ok.tk
  have hgb : gb < w.heap.size := h.row.lt
  have HR0 := hide h
  have HR := hide (h.no HK.out)
  have HB1 := hide b1
  have HB2 := hide b2
  have HB3 := hide b3
  clear K1 K2 K3 e1 b1 b2 b3 h
  unfold rwC rwZ at *
  by_cases h1 : z < 0
  · have hz : ¬ T.In z := fun hz => by have := hz.1; omega
    have hd : decide (T.In z) = false := decide_eq_false hz
    have hh : T.hrd z = T := by unfold Wt.hrd; rw [if_neg hz]
    have HE := hide hh
    have HD := hide hd
    clear hz hd hh
    go_enter Try.func13, Try.ntmps13
    go_wp2_with fail
    have hf : BxW ((w.alloc (.cells #[.int .i64 (T.late : Int), .int .i64 (T.gone : Int), .int .i64 (T.now : Int), .int .i64 (T.ep : Int), .slice (some ⟨gb, 0, none⟩) T.hs.length c] 31)).alloc (.cells #[.int .i64 (T.late : Int), .int .i64 (T.gone : Int), .int .i64 (T.now : Int), .int .i64 (T.ep : Int), .slice (some ⟨gb, 0, none⟩) T.hs.length c] 31)) (w.heap.size + 1) T gb c := HB3.out
    have HK3 : Hid (Kp No w ((w.alloc (.cells #[.int .i64 (T.late : Int), .int .i64 (T.gone : Int), .int .i64 (T.now : Int), .int .i64 (T.ep : Int), .slice (some ⟨gb, 0, none⟩) T.hs.length c] 31)).alloc (.cells #[.int .i64 (T.late : Int), .int .i64 (T.gone : Int), .int .i64 (T.now : Int), .int .i64 (T.ep : Int), .slice (some ⟨gb, 0, none⟩) T.hs.length c] 31))) := HK2.out
    generalize (w.alloc (.cells #[.int .i64 (T.late : Int), .int .i64 (T.gone : Int), .int .i64 (T.now : Int), .int .i64 (T.ep : Int), .slice (some ⟨gb, 0, none⟩) T.hs.length c] 31)).alloc (.cells #[.int .i64 (T.late : Int), .int .i64 (T.gone : Int), .int .i64 (T.now : Int), .int .i64 (T.ep : Int), .slice (some ⟨gb, 0, none⟩) T.hs.length c] 31) = w9 at hf HK3 ⊢
    have q0 := hf.c0
    have q1 := hf.c1
    have q2 := hf.c2
    have q3 := hf.c3
    have q4 := hf.c4
    refine bodyPost_ret (v := .tuple #[.agg (rwC T gb c), .bool false]) (by simp [results, Try.results13, go_sem, rwC, q0, q1, q2, q3, q4]) rfl ?_
    exact ⟨gb, c, by rw [HE.out, HD.out], by rw [HE.out]; exact HR0.out.no HK3.out, HK3.out⟩
  by_cases h2 : (T.hs.length : Int) ≤ z
  · have hz : ¬ T.In z := fun hz => by have := hz.2; omega
    have hd : decide (T.In z) = false := decide_eq_false hz
    have hh : T.hrd z = T := by unfold Wt.hrd; rw [if_neg hz]
    have HE := hide hh
    have HD := hide hd
    clear hz hd hh
    go_enter Try.func13, Try.ntmps13
    go_wp2_with fail
    have hf : BxW ((w.alloc (.cells #[.int .i64 (T.late : Int), .int .i64 (T.gone : Int), .int .i64 (T.now : Int), .int .i64 (T.ep : Int), .slice (some ⟨gb, 0, none⟩) T.hs.length c] 31)).alloc (.cells #[.int .i64 (T.late : Int), .int .i64 (T.gone : Int), .int .i64 (T.now : Int), .int .i64 (T.ep : Int), .slice (some ⟨gb, 0, none⟩) T.hs.length c] 31)) (w.heap.size + 1) T gb c := HB3.out
    have HK3 : Hid (Kp No w ((w.alloc (.cells #[.int .i64 (T.late : Int), .int .i64 (T.gone : Int), .int .i64 (T.now : Int), .int .i64 (T.ep : Int), .slice (some ⟨gb, 0, none⟩) T.hs.length c] 31)).alloc (.cells #[.int .i64 (T.late : Int), .int .i64 (T.gone : Int), .int .i64 (T.now : Int), .int .i64 (T.ep : Int), .slice (some ⟨gb, 0, none⟩) T.hs.length c] 31))) := HK2.out
    generalize (w.alloc (.cells #[.int .i64 (T.late : Int), .int .i64 (T.gone : Int), .int .i64 (T.now : Int), .int .i64 (T.ep : Int), .slice (some ⟨gb, 0, none⟩) T.hs.length c] 31)).alloc (.cells #[.int .i64 (T.late : Int), .int .i64 (T.gone : Int), .int .i64 (T.now : Int), .int .i64 (T.ep : Int), .slice (some ⟨gb, 0, none⟩) T.hs.length c] 31) = w9 at hf HK3 ⊢
    have q0 := hf.c0
    have q1 := hf.c1
    have q2 := hf.c2
    have q3 := hf.c3
    have q4 := hf.c4
    refine bodyPost_ret (v := .tuple #[.agg (rwC T gb c), .bool false]) (by simp [results, Try.results13, go_sem, rwC, q0, q1, q2, q3, q4]) rfl ?_
    exact ⟨gb, c, by rw [HE.out, HD.out], by rw [HE.out]; exact HR0.out.no HK3.out, HK3.out⟩
  obtain ⟨k, rfl⟩ : ∃ k : Nat, z = k := ⟨z.toNat, by omega⟩
  have hz : T.In (k : Int) := ⟨by omega, by omega⟩
  have hk : k < T.hs.length := by omega
  have hd : decide (T.In (k : Int)) = true := decide_eq_true hz
  have hh : T.hrd (k : Int) = T.next (T.hrd0 k) := by unfold Wt.hrd; rw [if_pos hz, Int.toNat_natCast]
  have HE := hide hh
  have HD := hide hd
  have k4 := Kp.alloc No ((w.alloc (.cells #[.int .i64 (T.late : Int), .int .i64 (T.gone : Int), .int .i64 (T.now : Int), .int .i64 (T.ep : Int), .slice (some ⟨gb, 0, none⟩) T.hs.length c] 31)).alloc (.cells #[.int .i64 0, .int .i64 0, .int .i64 0, .int .i64 0, .slice none 0 0] 31)) (.cells #[.int .i64 (T.late : Int), .int .i64 (T.gone : Int), .int .i64 (T.now : Int), .int .i64 (T.ep : Int), .slice (some ⟨gb, 0, none⟩) T.hs.length c] 31)
  have e3 : ((w.alloc (.cells #[.int .i64 (T.late : Int), .int .i64 (T.gone : Int), .int .i64 (T.now : Int), .int .i64 (T.ep : Int), .slice (some ⟨gb, 0, none⟩) T.hs.length c] 31)).alloc (.cells #[.int .i64 0, .int .i64 0, .int .i64 0, .int .i64 0, .slice none 0 0] 31)).heap.size = w.heap.size + 1 + 1 := by simp
  have b4 := BxW.new ((w.alloc (.cells #[.int .i64 (T.late : Int), .int .i64 (T.gone : Int), .int .i64 (T.now : Int), .int .i64 (T.ep : Int), .slice (some ⟨gb, 0, none⟩) T.hs.length c] 31)).alloc (.cells #[.int .i64 0, .int .i64 0, .int .i64 0, .int .i64 0, .slice none 0 0] 31)) T gb c
  rw [e3] at b4
  have HX := hide b4
  have HR4 := hide (HR.out.no k4)
  have HB14 := hide (HB1.out.no k4)
  have HB24 := hide (HB2.out.no k4)
  have HK4 := hide (HK.out.trans' k4)
  clear hz hd hh k4 e3 b4
  unfold rwC at *
  go_enter Try.func13, Try.ntmps13
  go_upto_region 4 with fail
  generalize ((w.alloc (.cells #[.int .i64 (T.late : Int), .int .i64 (T.gone : Int), .int .i64 (T.now : Int), .int .i64 (T.ep : Int), .slice (some ⟨gb, 0, none⟩) T.hs.length c] 31)).alloc (.cells #[.int .i64 0, .int .i64 0, .int .i64 0, .int .i64 0, .slice none 0 0] 31)).alloc (.cells #[.int .i64 (T.late : Int), .int .i64 (T.gone : Int), .int .i64 (T.now : Int), .int .i64 (T.ep : Int), .slice (some ⟨gb, 0, none⟩) T.hs.length c] 31) = w4 at HX HR4 HB14 HB24 HK4 ⊢
  obtain ⟨s, hs⟩ : ∃ s, s = w.heap.size := ⟨_, rfl⟩
  rw [← hs] at HX HB14 HB24 hgb hB ⊢
  have HSZ := hide hs
  clear hs HK HK2 HR HB1 HB2 HB3
  have x4 := (HB14.out.no (Kp.alloc No w4 (.cells #[] 3))).c4
  go_upto_region 5 with (first
    | (at_builtin
       refine wpList_appT ty_int rfl (.tmp 18) (.tmp 20) _ rfl Try.underlying29 rfl (ownI_empty w4) ⟨gb, 0, none⟩ c rfl (HR4.out.row.no (Kp.alloc No w4 _)).nws (by omega) (by simp) ?_
       intro A1 n1 c1 w5 hn1 ha
       have k5 := ha.keeps (ownI_empty w4) (Kp.alloc No w4 _)
       have ho : OwnT w5 w4.heap.size 3 1 (.slice A1 n1 c1) T.hs.length (T.hs.map iv) := by simpa using ha.own
       obtain ⟨g', rfl, e5⟩ := ho.some_ (by omega)
       subst e5
       have hg' := ho.ge g' rfl
       have hcap := ho.cap
       have hrow := IRow.of_own ho
       have y4 := (HX.out.no k5).c4
       have yf := (HX.out.no k5).fz 4
       have HROW := hide hrow
       have HK5 := hide k5
       clear hrow k5 ho ha hn1 x4))
  have hX6 : BxW (w5.setCell ⟨s + 1 + 1, 4, none⟩ (.slice (some ⟨g', 0, none⟩) T.hs.length c1)) (s + 1 + 1) T g' c1 := (HX.out.no HK5.out).setHs k
  have k6 : Kp (fun q => q = s + 1 + 1) w5 (w5.setCell ⟨s + 1 + 1, 4, none⟩ (.slice (some ⟨g', 0, none⟩) T.hs.length c1)) := Kp.setCell (p := ⟨s + 1 + 1, 4, none⟩) (S := fun q => q = s + 1 + 1) rfl _
  have hxl : s + 1 + 1 < w4.heap.size := HX.out.lt
  have HROW6 := hide (HROW.out.keep k6 (by show ¬ g' = s + 1 + 1; omega))
  have HR6 := hide ((HR4.out.no HK5.out).keep k6 (by show ¬ gb = s + 1 + 1; omega))
  have HB16 := hide ((HB14.out.no HK5.out).keep k6 (by show ¬ s = s + 1 + 1; omega))
  have HB26 := hide ((HB24.out.no HK5.out).keep k6 (by show ¬ s + 1 = s + 1 + 1; omega))
  have HK6 := hide ((HK4.out.trans' HK5.out).trans (k6.mono fun q hq => .inr (by rw [hq, ← HSZ.out]; omega)))
  have HX6 := hide hX6
  have HGB : Hid (¬ g' = s + 1) := by show ¬ g' = s + 1; omega
  have HGE : Hid (B ≤ g') := by show B ≤ g'; omega
  have HGL : Hid (s ≤ g') := by show s ≤ g'; omega
  have HGG : Hid (¬ gb = g') := by show ¬ gb = g'; omega
  have HGX : Hid (¬ s + 1 + 1 = g' ∧ ¬ s = g' ∧ ¬ s + 1 = g') := ⟨by omega, by omega, by omega⟩
  clear hX6 k6 y4 yf HX HROW HR4 HB14 HB24 HK5 HK4 hg' hxl
  generalize w5.setCell ⟨s + 1 + 1, 4, none⟩ (.slice (some ⟨g', 0, none⟩) T.hs.length c1) = w6 at HX6 HROW6 HR6 HB16 HB26 HK6 ⊢
  have x4 := HX6.out.c4
  have y2 := HB16.out.c2
  have xk : w6.cell? ⟨g', k, none⟩ = some (.int .i64 ((T.hs[k] : Nat) : Int)) := HROW6.out.cell (List.getElem?_eq_getElem hk)
  have xf := HROW6.out.fz k
  go_upto_region 6 with fail
  clear x4 y2 xk xf
  have k7 : Kp (fun q => q = g') w6 (w6.setCell ⟨g', k, none⟩ (.int .i64 (T.now : Int))) := Kp.setCell (p := ⟨g', k, none⟩) (S := fun q => q = g') rfl _
  have HROW7 := hide (HROW6.out.set k T.now)
  have HX7 := hide ((HX6.out.keep k7 HGX.out.1).hrd0 k)
  have HR7 := hide (HR6.out.keep k7 HGG.out)
  have HB17 := hide (HB16.out.keep k7 HGX.out.2.1)
  have HB8 := hide (HB26.out.keep k7 HGX.out.2.2)
  have HK8 := hide (HK6.out.trans (k7.mono fun q hq => .inr (by rw [hq, ← HSZ.out]; exact HGL.out)))
  clear k7 HROW6 HX6 HR6 HB16 HB26 HK6
  generalize w6.setCell ⟨g', k, none⟩ (.int .i64 (T.now : Int)) = w7 at HROW7 HX7 HR7 HB17 HB8 HK8 ⊢
  have hr7' : RwR w7 B (T.hrd0 k) g' c1 := ⟨HROW7.out, HGE.out, by rw [T.hrd0_len]; exact hcap, Wt.hrd0_ok HR7.out.ok k⟩
  have hnx := rnext_any HR7.out hr7' (T.hrd0_len k).symm he
  have hru := hr7'.next T
  obtain ⟨U, hU⟩ : ∃ U, U = T.next (T.hrd0 k) := ⟨_, rfl⟩
  rw [← hU] at hnx hru HE
  have HNX := hide hnx
  have HRU := hide hru
  have x0 := HB17.out.c0
  have x1 := HB17.out.c1
  have x2 := HB17.out.c2
  have x3 := HB17.out.c3
  have x4 := HB17.out.c4
  have y0 := HX7.out.c0
  have y1 := HX7.out.c1
  have y2 := HX7.out.c2
  have y3 := HX7.out.c3
  have y4 := HX7.out.c4
  clear hU hnx hru hr7'
  unfold rwC at *
  go_wp2_with fail
  clear x0 x1 x2 x3 x4 y0 y1 y2 y3 y4
  refine HNX.out.mono ?_
  rintro e w9 ⟨rfl, k9⟩
  have HRU := hide (HRU.out.no k9)
  have HK9 := hide (HK8.out.trans' k9)
  have HB9 := hide (HB8.out.no k9)
  have z0 := HB9.out.z0
  have z1 := HB9.out.z1
  have z2 := HB9.out.z2
  have z3 := HB9.out.z3
  have z4 := HB9.out.z4
  have g0 := HB9.out.fz 0
  have g1 := HB9.out.fz 1
  have g2 := HB9.out.fz 2
  have g3 := HB9.out.fz 3
  have g4 := HB9.out.fz 4
  unfold rwC
  dsimp only [id]
  go_wp2_with fail
  have hf : BxW (((((w9.setCell ⟨s + 1, 0, none⟩ (.int .i64 (U.late : Int))).setCell ⟨s + 1, 1, none⟩ (.int .i64 (U.gone : Int))).setCell ⟨s + 1, 2, none⟩ (.int .i64 (U.now : Int))).setCell ⟨s + 1, 3, none⟩ (.int .i64 (U.ep : Int))).setCell ⟨s + 1, 4, none⟩ (.slice (some ⟨g', 0, none⟩) U.hs.length c1)) (s + 1) U g' c1 := set5 (cs := rwZ) HB9.out U g' c1
  have kf := kp_set5 w9 (s + 1) (.int .i64 (U.late : Int)) (.int .i64 (U.gone : Int)) (.int .i64 (U.now : Int)) (.int .i64 (U.ep : Int)) (.slice (some ⟨g', 0, none⟩) U.hs.length c1)
  generalize (((((w9.setCell ⟨s + 1, 0, none⟩ (.int .i64 (U.late : Int))).setCell ⟨s + 1, 1, none⟩ (.int .i64 (U.gone : Int))).setCell ⟨s + 1, 2, none⟩ (.int .i64 (U.now : Int))).setCell ⟨s + 1, 3, none⟩ (.int .i64 (U.ep : Int))).setCell ⟨s + 1, 4, none⟩ (.slice (some ⟨g', 0, none⟩) U.hs.length c1)) = wf at hf kf ⊢
  clear z0 g0 z1 g1 z2 g2 z3 g3 z4 g4
  have q0 := hf.c0
  have q1 := hf.c1
  have q2 := hf.c2
  have q3 := hf.c3
  have q4 := hf.c4
  refine bodyPost_ret (v := .tuple #[.agg (rwC U g' c1), .bool true]) (by simp [results, Try.results13, go_sem, rwC, q0, q1, q2, q3, q4]) rfl ?_
  exact ⟨g', c1, by rw [HE.out, HD.out], by rw [HE.out]; exact HRU.out.keep kf fun e => HGB.out e, HK9.out.trans (kf.mono fun q hq => .inr (by rw [hq, ← HSZ.out]; omega))⟩
end
end Go.Proofs.Ytjmahbmlocfbhaa
