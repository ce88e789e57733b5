/- WatchPlays walked: it returns true for any numbers and any acts. No condition. -/
import Derived.Test.YtjmahbmlocfbhaaWtd
import Derived.Test.YtjmahbmlocfbhaaWtg
import Derived.Test.YtjmahbmlocfbhaaWth
import Derived.Test.YtjmahbmlocfbhaaRgh
import Derived.Deep.DeepCutAuto
import Derived.Deep.CutBlock
import Derived.OpenShut
namespace Go.Proofs.Ytjmahbmlocfbhaa
open Go.RowKit Go.WideShapes Go.ChangeShapes
set_option linter.unusedVariables false
set_option maxRecDepth 20000
set_option linter.unusedSimpArgs false

/-- What the law knows: package watch's watch T, the document's D in the box s. -/
structure WpS (W : World) (B : Nat) (F : Nat → Prop) (g s : Nat) (T D : Wt) (gb c : Nat) (wr : World) : Prop where
  pr : WtAt wr F g T
  bx : BxW wr s D gb c
  rf : RwR wr B D gb c
  kp : Kp No W wr
  fB : ∀ k, F k → W.heap.size ≤ k ∧ k < B
  sB : B ≤ s
  bw : B ≤ wr.heap.size
  wB : W.heap.size ≤ B
section
variable {W wr w1 w2 : World} {B g s gb c gb' c' : Nat} {F S : Nat → Prop} {T T' D D' : Wt}
theorem BxW.apart {w : World} {ns : List Nat} (h : BxW w s D gb c) (hr : IRow w gb' ns) : gb' ≠ s := fun e => by
  subst e
  obtain ⟨cur, h1, _⟩ := hr
  unfold BxW at h
  rw [h] at h1
  injection h1 with h1
  injection h1 with _ h1
  exact absurd h1 (by decide)
theorem WpS.keep (h : WpS W B F g s T D gb c wr) (hk : Kp S wr w1) (hS : ∀ k, S k → ¬ F k ∧ k ≠ s ∧ k ≠ gb ∧ W.heap.size ≤ k) : WpS W B F g s T D gb c w1 :=
  ⟨h.pr.keep hk fun k _ f hs => (hS k hs).1 f, h.bx.keep hk fun hs => (hS s hs).2.1 rfl, h.rf.keep hk fun hs => (hS gb hs).2.2.1 rfl, h.kp.trans (hk.mono fun k hs => .inr (hS k hs).2.2.2), h.fB, h.sB, Nat.le_trans h.bw hk.size, h.wB⟩
theorem WpS.no (h : WpS W B F g s T D gb c wr) (hk : Kp No wr w1) : WpS W B F g s T D gb c w1 := h.keep hk fun k f => f.elim
/-- A call on package watch's watch. -/
theorem WpS.call (h : WpS W B F g s T D gb c wr) (ht : WtAt w1 F g T') (hk : Kp F wr w1) : WpS W B F g s T' D gb c w1 :=
  ⟨ht, h.bx.keep hk fun f => by have := h.fB s f; have := h.sB; omega, h.rf.keep hk fun f => by have := h.fB gb f; have := h.rf.ge; omega, h.kp.trans (hk.mono fun k f => .inr (h.fB k f).1), h.fB, h.sB, Nat.le_trans h.bw hk.size, h.wB⟩
/-- The document's watch is another one, and its box is written. -/
theorem WpS.ref (h : WpS W B F g s T D gb c wr) (hr : RwR w1 B D' gb' c') (hk : Kp No wr w1) (hb : BxW w2 s D' gb' c') (hk2 : Kp (fun k => k = s) w1 w2) : WpS W B F g s T D' gb' c' w2 :=
  ⟨(h.pr.no hk).keep hk2 fun k _ f e => by have := h.fB k f; have := h.sB; omega, hb, hr.keep hk2 fun e => (h.bx.no hk).apart hr.row e, (h.kp.trans' hk).trans (hk2.mono fun k e => .inr (by rw [e]; exact Nat.le_trans h.wB h.sB)), h.fB, h.sB, Nat.le_trans h.bw (Nat.le_trans hk.size hk2.size), h.wB⟩
theorem WpS.lts (h : WpS W B F g s T D gb c wr) : ∀ k, F k → k < wr.heap.size := fun k f => Nat.lt_of_lt_of_le (h.fB k f).2 h.bw
/-- A block made since lies apart. -/
theorem WpS.new (h : WpS W B F g s T D gb c wr) {q : Nat} (hq : wr.heap.size ≤ q) : ∀ k, k = q → ¬ F k ∧ k ≠ s ∧ k ≠ gb ∧ W.heap.size ≤ k := fun k e => by
  subst e
  have h1 := h.bx.lt
  have h2 := h.rf.row.lt
  have h3 := h.kp.size
  exact ⟨fun f => by have := h.lts _ f; omega, by omega, by omega, by omega⟩
theorem BxW.set5 (h : BxW wr s D gb c) (D' : Wt) (gb' c' : Nat) : BxW (((((wr.setCell ⟨s, 0, none⟩ (.int .i64 (D'.late : Int))).setCell ⟨s, 1, none⟩ (.int .i64 (D'.gone : Int))).setCell ⟨s, 2, none⟩ (.int .i64 (D'.now : Int))).setCell ⟨s, 3, none⟩ (.int .i64 (D'.ep : Int))).setCell ⟨s, 4, none⟩ (.slice (some ⟨gb', 0, none⟩) D'.hs.length c')) s D' gb' c' :=
  Go.Proofs.Ytjmahbmlocfbhaa.set5 (cs := rwZ) h D' gb' c'
end
/-- How many nodes have each state, of the first k. -/
def ctL (T : Wt) (k : Nat) : List Nat := [T.cnt 0 k, T.cnt 1 k, T.cnt 2 k]
theorem ctL_get (T : Wt) (k : Nat) {q : Nat} (h : q ≤ 2) : (ctL T k)[q]? = some (T.cnt q k) := by
  match q, h with
  | 0, _ => rfl
  | 1, _ => rfl
  | 2, _ => rfl
theorem ctL_set (T : Wt) (k : Nat) : (ctL T k).set (T.stN k) (T.cnt (T.stN k) k + 1) = ctL T (k + 1) := by
  have h := T.stN_le k
  unfold ctL
  rw [T.cnt_succ 0, T.cnt_succ 1, T.cnt_succ 2]
  generalize T.stN k = q at h
  match q, h with
  | 0, _ => rfl
  | 1, _ => rfl
  | 2, _ => rfl
/-- What the loop keeps. -/
def WpI (W : World) (B : Nat) (F : Nat → Prop) (g s N k : Nat) (wr : World) : Prop := ∃ D gb c, WpS W B F g s D D gb c wr ∧ D.ep ≤ k ∧ D.hs.length = N

set_option maxRecDepth 100000 in
set_option maxHeartbeats 8000000 in
theorem watchplays_any (W : World) (x : Nat) (hx : x < 256) (a b z : Int) {A0 : Option Addr} {n0 c0 : Nat} {KK NN : Nat → Int} (h0 : ActsW W A0 n0 KK NN) :
    Calls Try.prog 3 #[.int .u8 (x : Int), .int .i64 a, .int .i64 b, .slice A0 n0 c0, .int .i64 z] W (TruePost W) := by
  have hb0 := h0.big
  have HA0 := hide h0
  obtain ⟨N, hN⟩ : ∃ N, N = 1 + x % 32 := ⟨_, rfl⟩
  have e1 : (1 : Int) + (x : Int) % 32 = (N : Int) := by omega
  have hN1 : 1 ≤ N := by omega
  have hN2 : N ≤ 32 := by omega
  have E1 := hide e1
  clear h0 hN e1
  go_enter Try.func3, Try.ntmps3
  go_wp2_with fail
  refine (awake17_any _).mono ?_
  rintro e w1 ⟨rfl, k1⟩
  have HK1 := hide k1
  clear k1
  go_upto_region 4 with fail
  rw [E1.out]
  by_cases hR : Wt.Right (N : Int) a b
  rotate_left 1
  · have HN := hide (wnew_no w1 (N : Int) a b hR)
    have HRR := hide (rright17_no w1 (N : Int) a b hR)
    clear hR
    go_wp2_with fail
    refine HN.out.mono ?_
    rintro e w2 ⟨rfl, rfl⟩
    go_wp2_with fail
    refine HRR.out.mono ?_
    rintro e w2 ⟨rfl, rfl⟩
    go_wp2_with fail
    refine (awake17_any _).mono ?_
    rintro e w2 ⟨rfl, k2⟩
    go_wp2_with fail
    go_ret
    exact ⟨rfl, HK1.out.trans' k2⟩
  have HRR := hide (fun w => rright17_yes w (N : Int) a b hR)
  obtain ⟨a', rfl⟩ : ∃ q : Nat, a = q := ⟨a.toNat, by have := hR.2.2.1; omega⟩
  obtain ⟨b', rfl⟩ : ∃ q : Nat, b = q := ⟨b.toNat, by have := hR.2.2.2; omega⟩
  have HN := hide (wnew_any w1 N a' b' hR)
  have HOK := hide (Wt.new_ok hR)
  have hmk := fun w => make_ints w N (N : Int) rfl (by omega)
  clear hR
  go_wp2_with fail
  refine HN.out.mono ?_
  rintro e w2 ⟨g, rfl, h2, k2⟩
  have HT2 := hide h2.lt
  have HK2 := hide (HK1.out.trans' k2)
  have HW1 : Hid (W.heap.size ≤ w1.heap.size) := HK1.out.size
  clear h2 k2 HN
  go_wp2_with fail
  refine (HRR.out _).mono ?_
  rintro e w3 ⟨rfl, rfl⟩
  clear HRR
  go_upto_region 8 with fail
  have ea : (w2.alloc (.cells (zi N) 3)).heap.size = w2.heap.size + 1 := by simp
  have hll : (Wt.new N a' b').hs.length = N := List.length_replicate
  have hcc : rwC (Wt.new N a' b') w2.heap.size N = #[.int .i64 (a' : Int), .int .i64 (b' : Int), .int .i64 0, .int .i64 0, .slice (some ⟨w2.heap.size, 0, none⟩) N N] := by unfold rwC; rw [hll]; rfl
  have hbx := BxW.new (w2.alloc (.cells (zi N) 3)) (Wt.new N a' b') w2.heap.size N
  have hka := Kp.alloc No w2 (.cells (zi N) 3)
  have hkb := Kp.alloc No (w2.alloc (.cells (zi N) 3)) (.cells (rwC (Wt.new N a' b') w2.heap.size N) 31)
  have hrw := (IRow.new w2 N).no hkb
  rw [ea] at hbx
  rw [hcc] at hbx hkb hrw
  have hS0 : ∃ F : Nat → Prop, WpS W w2.heap.size F g (w2.heap.size + 1) (Wt.new N a' b') (Wt.new N a' b') w2.heap.size N ((w2.alloc (.cells (zi N) 3)).alloc (.cells #[.int .i64 (a' : Int), .int .i64 (b' : Int), .int .i64 0, .int .i64 0, .slice (some ⟨w2.heap.size, 0, none⟩) N N] 31)) :=
    ⟨_, (HT2.out.no hka).no hkb, hbx, ⟨hrw, Nat.le_refl _, by rw [hll]; exact Nat.le_refl _, HOK.out⟩, (HK2.out.trans' hka).trans' hkb, fun k f => ⟨Nat.le_trans HW1.out f.1, f.2⟩, Nat.le_succ _, by simp; omega, HK2.out.size⟩
  obtain ⟨F, hS0⟩ := hS0
  have HS0 := hide hS0
  have HLL := hide hll
  clear ea hll hcc hbx hka hkb hrw hS0 HT2 HK2 HK1 HW1 HOK
  generalize (w2.alloc (.cells (zi N) 3)).alloc (.cells #[.int .i64 (a' : Int), .int .i64 (b' : Int), .int .i64 0, .int .i64 0, .slice (some ⟨w2.heap.size, 0, none⟩) N N] 31) = w4 at HS0 ⊢
  obtain ⟨B, hB⟩ : ∃ B, B = w2.heap.size := ⟨_, rfl⟩
  rw [← hB] at HS0 ⊢
  obtain ⟨s, hs⟩ : ∃ s, s = B + 1 := ⟨_, rfl⟩
  rw [← hs] at HS0 ⊢
  clear hB hs
  clear hmk
  go_wp2_with fail
  refine (wlen_any HS0.out.pr).mono ?_
  rintro e w5 ⟨rfl, rfl⟩
  rw [HLL.out]
  go_wp2_with fail
  have HI0 : Hid (WpI W B F g s N 0 w4) := ⟨_, _, _, HS0.out, Nat.zero_le _, HLL.out⟩
  clear HS0 HLL
  go_loopw [15] (fun i wr => ∃ k : Nat, k ≤ n0 ∧ k ≤ 60 ∧ i = .int .i64 (k : Int) ∧ WpI W B F g s N k wr) (fun i _ => 60 - (intOf i).toNat)
  case atStart => exact ⟨0, Nat.zero_le _, by omega, rfl, HI0.out⟩
  case round =>
    obtain ⟨k, hk, hk60, rfl, hI⟩ := hrel
    by_cases hlt : k < n0
    · by_cases hl6 : k < 60
      · obtain ⟨B1, o1, rfl, x0, x1⟩ := HA0.out.at_ k hlt
        obtain ⟨D, gb, c, hS, hep, hlen⟩ := hI
        have y0 := hS.kp.cell x0 fun f => f
        have y1 := hS.kp.cell x1 fun f => f
        have HS := hide hS
        have HX1 := hide x1
        have HLEN := hide hlen
        have hep6 : D.ep ≤ 1000000 := by omega
        clear hS hlen HI0 x0 x1
        go_upto_if 78 with (fail)
        clear y0
        go_cut [16, 17] (fun v16 v17 wx => ∃ q : Bool, v16 = .bool q ∧ v17 = .bool q ∧ WpI W B F g s N (k + 1) wx)
        case first =>
          by_cases hkd : KK k = 1
          · have t1 : (KK k == 1) = true := by simp [hkd]
            clear hkd
            obtain ⟨q, hq⟩ : ∃ q, q = decide (D.TkOk (NN k)) := ⟨_, rfl⟩
            obtain ⟨D', hD⟩ : ∃ D', D' = D.tck (NN k) := ⟨_, rfl⟩
            have HQ := hide hq
            have HD := hide hD
            have HDE : Hid (D'.ep ≤ k + 1 ∧ D'.hs.length = N) := ⟨by rw [hD]; have := D.tck_ep (NN k); omega, by rw [hD, D.tck_len]; exact HLEN.out⟩
            clear hq hD
            go_wp2_with fail
            refine (wtick_any HS.out.pr hep6 HS.out.lts (NN k)).mono ?_
            rintro e w5 ⟨rfl, h5, k5⟩
            rw [← HQ.out]
            rw [← HD.out] at h5
            have HS5 := hide (HS.out.call h5 k5)
            clear y1 h5 k5
            go_upto_region 16 with (fail)
            refine wp_region_noPanic ?_
            refine HeldR.begin (S := fun w' => WpS W B F g s D' D gb c w') (t := 10) (by kernel_rfl) (HS5.out.no (Kp.refl No _).drew) (fun hHeld => ?_)
            refine HeldR.take (i := 0) (v := ?vtk0) (oi := ?otk0) ?htk0 (by kernel_rfl) (by kernel_rfl) (by kernel_rfl) (by kernel_rfl) (by kernel_rfl) (fun _ _ _ h => h) (Or.inl ⟨?wtk0, ?ytk0⟩) hHeld ?rtk0
            case htk0 => simp only [List.getElem?_toArray, List.getElem?_cons_zero, List.getElem?_cons_succ]; rfl
            case wtk0 => rfl
            case ytk0 =>
              intro w hSw
              (try dsimp only at hSw)
              have i0 := hSw.bx.c0
              have i1 := hSw.bx.c1
              have i2 := hSw.bx.c2
              have i3 := hSw.bx.c3
              have i4 := hSw.bx.c4
              go_simp
              try with_reducible rfl
            simp only [Act.put, List.setIfInBounds_toArray, List.set_cons_zero, List.set_cons_succ]
            refine HeldR.take (i := 1) (v := ?vtk1) (oi := ?otk1) ?htk1 (by kernel_rfl) (by kernel_rfl) (by kernel_rfl) (by kernel_rfl) (by kernel_rfl) (fun _ _ _ h => h) (Or.inl ⟨?wtk1, ?ytk1⟩) hHeld ?rtk1
            case htk1 => simp only [List.getElem?_toArray, List.getElem?_cons_zero, List.getElem?_cons_succ]; rfl
            case wtk1 => rfl
            case ytk1 => intro w hSw; (try dsimp only at hSw); go_simp; (try with_reducible rfl)
            simp only [Act.put, List.setIfInBounds_toArray, List.set_cons_zero, List.set_cons_succ]
            refine HeldR.take (i := 2) (v := ?vtk2) (oi := ?otk2) ?htk2 (by kernel_rfl) (by kernel_rfl) (by kernel_rfl) (by kernel_rfl) (by kernel_rfl) (fun _ _ _ h => h) (Or.inl ⟨?wtk2, ?ytk2⟩) hHeld ?rtk2
            case htk2 => simp only [List.getElem?_toArray, List.getElem?_cons_zero, List.getElem?_cons_succ]; rfl
            case wtk2 => rfl
            case ytk2 => intro w hSw; (try dsimp only at hSw); go_simp; (try with_reducible rfl)
            simp only [Act.put, List.setIfInBounds_toArray, List.set_cons_zero, List.set_cons_succ]
            refine HeldR.take (i := 3) (v := ?vtk3) (oi := ?otk3) ?htk3 (by kernel_rfl) (by kernel_rfl) (by kernel_rfl) (by kernel_rfl) (by kernel_rfl) (fun _ _ _ h => h) (Or.inl ⟨?wtk3, ?ytk3⟩) hHeld ?rtk3
            case htk3 => simp only [List.getElem?_toArray, List.getElem?_cons_zero, List.getElem?_cons_succ]; rfl
            case wtk3 => rfl
            case ytk3 => intro w hSw; (try dsimp only at hSw); go_simp; (try with_reducible rfl)
            simp only [Act.put, List.setIfInBounds_toArray, List.set_cons_zero, List.set_cons_succ]
            refine HeldR.take (i := 4) (v := ?vtk4) (oi := ?otk4) ?htk4 (by kernel_rfl) (by kernel_rfl) (by kernel_rfl) (by kernel_rfl) (by kernel_rfl) (fun _ _ _ h => h) (Or.inl ⟨?wtk4, ?ytk4⟩) hHeld ?rtk4
            case htk4 => simp only [List.getElem?_toArray, List.getElem?_cons_zero, List.getElem?_cons_succ]; rfl
            case wtk4 => rfl
            case ytk4 => intro w hSw; (try dsimp only at hSw); go_simp; (try with_reducible rfl)
            simp only [Act.put, List.setIfInBounds_toArray, List.set_cons_zero, List.set_cons_succ]
            refine HeldR.take (i := 5) (v := ?vtk5) (oi := ?otk5) ?htk5 (by kernel_rfl) (by kernel_rfl) (by kernel_rfl) (by kernel_rfl) (by kernel_rfl) (fun _ _ _ h => h) (Or.inl ⟨?wtk5, ?ytk5⟩) hHeld ?rtk5
            case htk5 => simp only [List.getElem?_toArray, List.getElem?_cons_zero, List.getElem?_cons_succ]; rfl
            case wtk5 => rfl
            case ytk5 =>
              intro w hSw
              (try dsimp only at hSw)
              have i0 := hSw.kp.cell HX1.out fun f => f
              go_simp
              try with_reducible rfl
            simp only [Act.put, List.setIfInBounds_toArray, List.set_cons_zero, List.set_cons_succ]
            refine HeldR.runS (i := 6) (o := ?otk6) ?htk6 (by kernel_rfl) (fun K hK => ?stk6)
            case htk6 => simp only [List.getElem?_toArray, List.getElem?_cons_zero, List.getElem?_cons_succ]; rfl
            go_simp
            refine (rtick17_any hHeld.rf hep6 (NN k)).mono ?_
            rintro e w9 ⟨gb5, c5, rfl, hR9, k9⟩
            rw [← HD.out] at hR9 ⊢
            rw [← HQ.out]
            unfold rwC
            have z0 := (hHeld.bx.no k9).c0
            have z1 := (hHeld.bx.no k9).c1
            have z2 := (hHeld.bx.no k9).c2
            have z3 := (hHeld.bx.no k9).c3
            have z4 := (hHeld.bx.no k9).c4
            have f0 := (hHeld.bx.no k9).fz 0
            have f1 := (hHeld.bx.no k9).fz 1
            have f2 := (hHeld.bx.no k9).fz 2
            have f3 := (hHeld.bx.no k9).fz 3
            have f4 := (hHeld.bx.no k9).fz 4
            have HR9 := hide hR9
            clear hR9
            try go_simp
            refine hK.out _ _ (hHeld.no k9) (fun hHeld => ?_)
            clear hK K
            try simp only [Act.put, List.setIfInBounds_toArray, List.set_cons_zero, List.set_cons_succ]
            refine HeldR.takeP (i := 7) (v := ?vtk7) (oi := ?otk7) ?htk7 (by kernel_rfl) (by kernel_rfl) (by kernel_rfl) (by decide) (fun _ _ _ h => h) (Or.inl ⟨?wtk7, ?ytk7⟩) (fun _ => hHeld) ?rtk7
            case htk7 => simp only [List.getElem?_toArray, List.getElem?_cons_zero, List.getElem?_cons_succ]; rfl
            case wtk7 => rfl
            case ytk7 => intro w hSw; (try dsimp only at hSw); go_simp; (try with_reducible rfl)
            simp only [Act.put, List.setIfInBounds_toArray, List.set_cons_zero, List.set_cons_succ]
            refine HeldR.takeP (i := 8) (v := ?vtk8) (oi := ?otk8) ?htk8 (by kernel_rfl) (by kernel_rfl) (by kernel_rfl) (by decide) (fun _ _ _ h => h) (Or.inl ⟨?wtk8, ?ytk8⟩) (fun _ => hHeld) ?rtk8
            case htk8 => simp only [List.getElem?_toArray, List.getElem?_cons_zero, List.getElem?_cons_succ]; rfl
            case wtk8 => rfl
            case ytk8 => intro w hSw; (try dsimp only at hSw); go_simp; (try with_reducible rfl)
            simp only [Act.put, List.setIfInBounds_toArray, List.set_cons_zero, List.set_cons_succ]
            refine HeldR.takeP (i := 9) (v := ?vtk9) (oi := ?otk9) ?htk9 (by kernel_rfl) (by kernel_rfl) (by kernel_rfl) (by decide) (fun _ _ _ h => h) (Or.inl ⟨?wtk9, ?ytk9⟩) (fun _ => hHeld) ?rtk9
            case htk9 => simp only [List.getElem?_toArray, List.getElem?_cons_zero, List.getElem?_cons_succ]; rfl
            case wtk9 => rfl
            case ytk9 => intro w hSw; (try dsimp only at hSw); go_simp; (try with_reducible rfl)
            simp only [Act.put, List.setIfInBounds_toArray, List.set_cons_zero, List.set_cons_succ]
            refine HeldR.runD (i := 10) (o := ?otk10) ?htk10 (by kernel_rfl) (by kernel_rfl) (fun K hK => ?stk10)
            case htk10 => simp only [List.getElem?_toArray, List.getElem?_cons_zero, List.getElem?_cons_succ]; rfl
            go_simp
            refine hK.out _ _ ?_
            clear hK K
            try simp only [Act.put, List.setIfInBounds_toArray, List.set_cons_zero, List.set_cons_succ]
            refine HeldR.takeD (i := 11) (v := ?vtk11) (oi := ?otk11) ?htk11 (by kernel_rfl) (by kernel_rfl) (by kernel_rfl) (by decide) (by kernel_rfl) (fun _ _ _ h => h) (Or.inl ⟨?wtk11, ?ytk11⟩) ?rtk11
            case htk11 => simp only [List.getElem?_toArray, List.getElem?_cons_zero, List.getElem?_cons_succ]; rfl
            case wtk11 => rfl
            case ytk11 => intro w hSw; (try dsimp only at hSw); go_simp; (try with_reducible rfl)
            simp only [Act.put, List.setIfInBounds_toArray, List.set_cons_zero, List.set_cons_succ]
            refine HeldR.done (by kernel_rfl) ?_ _
            refine NoPanic.normal ?_
            have hS9 : WpS W B F g s D' D' gb5 c5 (((((w9.setCell ⟨s, 0, none⟩ (.int .i64 (D'.late : Int))).setCell ⟨s, 1, none⟩ (.int .i64 (D'.gone : Int))).setCell ⟨s, 2, none⟩ (.int .i64 (D'.now : Int))).setCell ⟨s, 3, none⟩ (.int .i64 (D'.ep : Int))).setCell ⟨s, 4, none⟩ (.slice (some ⟨gb5, 0, none⟩) D'.hs.length c5)) := hHeld.ref HR9.out (Kp.refl _ _) (hHeld.bx.set5 D' gb5 c5) (kp_set5 w9 s _ _ _ _ _)
            have HS9 := hide hS9
            clear hS9 hHeld HR9 z0 f0 z1 f1 z2 f2 z3 f3 z4 f4
            generalize (((((w9.setCell ⟨s, 0, none⟩ (.int .i64 (D'.late : Int))).setCell ⟨s, 1, none⟩ (.int .i64 (D'.gone : Int))).setCell ⟨s, 2, none⟩ (.int .i64 (D'.now : Int))).setCell ⟨s, 3, none⟩ (.int .i64 (D'.ep : Int))).setCell ⟨s, 4, none⟩ (.slice (some ⟨gb5, 0, none⟩) D'.hs.length c5)) = w10 at HS9 ⊢
            go_wp2_with fail
            go_meet
            exact ⟨q, rfl, rfl, ⟨D', gb5, c5, HS9.out, HDE.out.1, HDE.out.2⟩⟩
          · have t1 : (KK k == 1) = false := by simp [hkd]
            clear hkd
            obtain ⟨q, hq⟩ : ∃ q, q = decide (D.In (NN k)) := ⟨_, rfl⟩
            obtain ⟨D', hD⟩ : ∃ D', D' = D.hrd (NN k) := ⟨_, rfl⟩
            have HQ := hide hq
            have HD := hide hD
            have HDE : Hid (D'.ep ≤ k + 1 ∧ D'.hs.length = N) := ⟨by rw [hD]; have := D.hrd_ep (NN k); omega, by rw [hD, D.hrd_len]; exact HLEN.out⟩
            clear hq hD
            go_wp2_with fail
            refine (wheard_any HS.out.pr hep6 HS.out.lts (NN k)).mono ?_
            rintro e w5 ⟨rfl, h5, k5⟩
            rw [← HQ.out]
            rw [← HD.out] at h5
            have HS5 := hide (HS.out.call h5 k5)
            clear y1 h5 k5
            go_upto_region 18 with (fail)
            refine wp_region_noPanic ?_
            refine HeldR.begin (S := fun w' => WpS W B F g s D' D gb c w') (t := 10) (by kernel_rfl) (HS5.out.no (Kp.refl No _).drew) (fun hHeld => ?_)
            refine HeldR.take (i := 0) (v := ?vhd0) (oi := ?ohd0) ?hhd0 (by kernel_rfl) (by kernel_rfl) (by kernel_rfl) (by kernel_rfl) (by kernel_rfl) (fun _ _ _ h => h) (Or.inl ⟨?whd0, ?yhd0⟩) hHeld ?rhd0
            case hhd0 => simp only [List.getElem?_toArray, List.getElem?_cons_zero, List.getElem?_cons_succ]; rfl
            case whd0 => rfl
            case yhd0 =>
              intro w hSw
              (try dsimp only at hSw)
              have i0 := hSw.bx.c0
              have i1 := hSw.bx.c1
              have i2 := hSw.bx.c2
              have i3 := hSw.bx.c3
              have i4 := hSw.bx.c4
              go_simp
              try with_reducible rfl
            simp only [Act.put, List.setIfInBounds_toArray, List.set_cons_zero, List.set_cons_succ]
            refine HeldR.take (i := 1) (v := ?vhd1) (oi := ?ohd1) ?hhd1 (by kernel_rfl) (by kernel_rfl) (by kernel_rfl) (by kernel_rfl) (by kernel_rfl) (fun _ _ _ h => h) (Or.inl ⟨?whd1, ?yhd1⟩) hHeld ?rhd1
            case hhd1 => simp only [List.getElem?_toArray, List.getElem?_cons_zero, List.getElem?_cons_succ]; rfl
            case whd1 => rfl
            case yhd1 => intro w hSw; (try dsimp only at hSw); go_simp; (try with_reducible rfl)
            simp only [Act.put, List.setIfInBounds_toArray, List.set_cons_zero, List.set_cons_succ]
            refine HeldR.take (i := 2) (v := ?vhd2) (oi := ?ohd2) ?hhd2 (by kernel_rfl) (by kernel_rfl) (by kernel_rfl) (by kernel_rfl) (by kernel_rfl) (fun _ _ _ h => h) (Or.inl ⟨?whd2, ?yhd2⟩) hHeld ?rhd2
            case hhd2 => simp only [List.getElem?_toArray, List.getElem?_cons_zero, List.getElem?_cons_succ]; rfl
            case whd2 => rfl
            case yhd2 => intro w hSw; (try dsimp only at hSw); go_simp; (try with_reducible rfl)
            simp only [Act.put, List.setIfInBounds_toArray, List.set_cons_zero, List.set_cons_succ]
            refine HeldR.take (i := 3) (v := ?vhd3) (oi := ?ohd3) ?hhd3 (by kernel_rfl) (by kernel_rfl) (by kernel_rfl) (by kernel_rfl) (by kernel_rfl) (fun _ _ _ h => h) (Or.inl ⟨?whd3, ?yhd3⟩) hHeld ?rhd3
            case hhd3 => simp only [List.getElem?_toArray, List.getElem?_cons_zero, List.getElem?_cons_succ]; rfl
            case whd3 => rfl
            case yhd3 => intro w hSw; (try dsimp only at hSw); go_simp; (try with_reducible rfl)
            simp only [Act.put, List.setIfInBounds_toArray, List.set_cons_zero, List.set_cons_succ]
            refine HeldR.take (i := 4) (v := ?vhd4) (oi := ?ohd4) ?hhd4 (by kernel_rfl) (by kernel_rfl) (by kernel_rfl) (by kernel_rfl) (by kernel_rfl) (fun _ _ _ h => h) (Or.inl ⟨?whd4, ?yhd4⟩) hHeld ?rhd4
            case hhd4 => simp only [List.getElem?_toArray, List.getElem?_cons_zero, List.getElem?_cons_succ]; rfl
            case whd4 => rfl
            case yhd4 => intro w hSw; (try dsimp only at hSw); go_simp; (try with_reducible rfl)
            simp only [Act.put, List.setIfInBounds_toArray, List.set_cons_zero, List.set_cons_succ]
            refine HeldR.take (i := 5) (v := ?vhd5) (oi := ?ohd5) ?hhd5 (by kernel_rfl) (by kernel_rfl) (by kernel_rfl) (by kernel_rfl) (by kernel_rfl) (fun _ _ _ h => h) (Or.inl ⟨?whd5, ?yhd5⟩) hHeld ?rhd5
            case hhd5 => simp only [List.getElem?_toArray, List.getElem?_cons_zero, List.getElem?_cons_succ]; rfl
            case whd5 => rfl
            case yhd5 =>
              intro w hSw
              (try dsimp only at hSw)
              have i0 := hSw.kp.cell HX1.out fun f => f
              go_simp
              try with_reducible rfl
            simp only [Act.put, List.setIfInBounds_toArray, List.set_cons_zero, List.set_cons_succ]
            refine HeldR.runS (i := 6) (o := ?ohd6) ?hhd6 (by kernel_rfl) (fun K hK => ?shd6)
            case hhd6 => simp only [List.getElem?_toArray, List.getElem?_cons_zero, List.getElem?_cons_succ]; rfl
            go_simp
            refine (rheard17_any hHeld.rf hep6 hHeld.bw (NN k)).mono ?_
            rintro e w9 ⟨gb5, c5, rfl, hR9, k9⟩
            rw [← HD.out] at hR9 ⊢
            rw [← HQ.out]
            unfold rwC
            have z0 := (hHeld.bx.no k9).c0
            have z1 := (hHeld.bx.no k9).c1
            have z2 := (hHeld.bx.no k9).c2
            have z3 := (hHeld.bx.no k9).c3
            have z4 := (hHeld.bx.no k9).c4
            have f0 := (hHeld.bx.no k9).fz 0
            have f1 := (hHeld.bx.no k9).fz 1
            have f2 := (hHeld.bx.no k9).fz 2
            have f3 := (hHeld.bx.no k9).fz 3
            have f4 := (hHeld.bx.no k9).fz 4
            have HR9 := hide hR9
            clear hR9
            try go_simp
            refine hK.out _ _ (hHeld.no k9) (fun hHeld => ?_)
            clear hK K
            try simp only [Act.put, List.setIfInBounds_toArray, List.set_cons_zero, List.set_cons_succ]
            refine HeldR.takeP (i := 7) (v := ?vhd7) (oi := ?ohd7) ?hhd7 (by kernel_rfl) (by kernel_rfl) (by kernel_rfl) (by decide) (fun _ _ _ h => h) (Or.inl ⟨?whd7, ?yhd7⟩) (fun _ => hHeld) ?rhd7
            case hhd7 => simp only [List.getElem?_toArray, List.getElem?_cons_zero, List.getElem?_cons_succ]; rfl
            case whd7 => rfl
            case yhd7 => intro w hSw; (try dsimp only at hSw); go_simp; (try with_reducible rfl)
            simp only [Act.put, List.setIfInBounds_toArray, List.set_cons_zero, List.set_cons_succ]
            refine HeldR.takeP (i := 8) (v := ?vhd8) (oi := ?ohd8) ?hhd8 (by kernel_rfl) (by kernel_rfl) (by kernel_rfl) (by decide) (fun _ _ _ h => h) (Or.inl ⟨?whd8, ?yhd8⟩) (fun _ => hHeld) ?rhd8
            case hhd8 => simp only [List.getElem?_toArray, List.getElem?_cons_zero, List.getElem?_cons_succ]; rfl
            case whd8 => rfl
            case yhd8 => intro w hSw; (try dsimp only at hSw); go_simp; (try with_reducible rfl)
            simp only [Act.put, List.setIfInBounds_toArray, List.set_cons_zero, List.set_cons_succ]
            refine HeldR.takeP (i := 9) (v := ?vhd9) (oi := ?ohd9) ?hhd9 (by kernel_rfl) (by kernel_rfl) (by kernel_rfl) (by decide) (fun _ _ _ h => h) (Or.inl ⟨?whd9, ?yhd9⟩) (fun _ => hHeld) ?rhd9
            case hhd9 => simp only [List.getElem?_toArray, List.getElem?_cons_zero, List.getElem?_cons_succ]; rfl
            case whd9 => rfl
            case yhd9 => intro w hSw; (try dsimp only at hSw); go_simp; (try with_reducible rfl)
            simp only [Act.put, List.setIfInBounds_toArray, List.set_cons_zero, List.set_cons_succ]
            refine HeldR.runD (i := 10) (o := ?ohd10) ?hhd10 (by kernel_rfl) (by kernel_rfl) (fun K hK => ?shd10)
            case hhd10 => simp only [List.getElem?_toArray, List.getElem?_cons_zero, List.getElem?_cons_succ]; rfl
            go_simp
            refine hK.out _ _ ?_
            clear hK K
            try simp only [Act.put, List.setIfInBounds_toArray, List.set_cons_zero, List.set_cons_succ]
            refine HeldR.takeD (i := 11) (v := ?vhd11) (oi := ?ohd11) ?hhd11 (by kernel_rfl) (by kernel_rfl) (by kernel_rfl) (by decide) (by kernel_rfl) (fun _ _ _ h => h) (Or.inl ⟨?whd11, ?yhd11⟩) ?rhd11
            case hhd11 => simp only [List.getElem?_toArray, List.getElem?_cons_zero, List.getElem?_cons_succ]; rfl
            case whd11 => rfl
            case yhd11 => intro w hSw; (try dsimp only at hSw); go_simp; (try with_reducible rfl)
            simp only [Act.put, List.setIfInBounds_toArray, List.set_cons_zero, List.set_cons_succ]
            refine HeldR.done (by kernel_rfl) ?_ _
            refine NoPanic.normal ?_
            have hS9 : WpS W B F g s D' D' gb5 c5 (((((w9.setCell ⟨s, 0, none⟩ (.int .i64 (D'.late : Int))).setCell ⟨s, 1, none⟩ (.int .i64 (D'.gone : Int))).setCell ⟨s, 2, none⟩ (.int .i64 (D'.now : Int))).setCell ⟨s, 3, none⟩ (.int .i64 (D'.ep : Int))).setCell ⟨s, 4, none⟩ (.slice (some ⟨gb5, 0, none⟩) D'.hs.length c5)) := hHeld.ref HR9.out (Kp.refl _ _) (hHeld.bx.set5 D' gb5 c5) (kp_set5 w9 s _ _ _ _ _)
            have HS9 := hide hS9
            clear hS9 hHeld HR9 z0 f0 z1 f1 z2 f2 z3 f3 z4 f4
            generalize (((((w9.setCell ⟨s, 0, none⟩ (.int .i64 (D'.late : Int))).setCell ⟨s, 1, none⟩ (.int .i64 (D'.gone : Int))).setCell ⟨s, 2, none⟩ (.int .i64 (D'.now : Int))).setCell ⟨s, 3, none⟩ (.int .i64 (D'.ep : Int))).setCell ⟨s, 4, none⟩ (.slice (some ⟨gb5, 0, none⟩) D'.hs.length c5)) = w10 at HS9 ⊢
            go_wp2_with fail
            go_meet
            exact ⟨q, rfl, rfl, ⟨D', gb5, c5, HS9.out, HDE.out.1, HDE.out.2⟩⟩
        case rest =>
          clear HS HLEN hep hep6 y1 HX1
          clear D gb c
          obtain ⟨q, rfl, rfl, D, gb, c, hS, hep, hlen⟩ := hcut
          have HS := hide hS
          have HEP := hide hep
          have HLEN := hide hlen
          clear hS hep hlen
          go_wp2_with fail
          refine (wnow_any HS.out.pr).mono ?_
          rintro e w5 ⟨rfl, k5⟩
          have HS5 := hide (HS.out.no k5)
          clear k5 HS
          go_upto_region 20 with (fail)
          refine wp_region_noPanic ?_
          refine wp_region_held_drew (S := fun w' => WpS W B F g s D D gb c w') (by kernel_rfl) (HS5.out.no (Kp.refl No _).drew) (fun hHeld => ?_)
          refine wpAnyH_take (i := 0) (v := ?vnwx1) (oi := ?onwx1) ?hnwx1 (by kernel_rfl) (by kernel_rfl) (by kernel_rfl) (fun _ _ _ h => h) (Or.inl ⟨?wnwx1, ?ynwx1⟩) hHeld ?rnwx1
          case hnwx1 => simp only [List.getElem?_toArray, List.getElem?_cons_zero, List.getElem?_cons_succ]; rfl
          case wnwx1 => rfl
          case ynwx1 => intro w hSw; (try dsimp only at hSw); go_simp; (try with_reducible rfl)
          simp only [Act.put, List.setIfInBounds_toArray, List.set_cons_zero, List.set_cons_succ]
          refine wpAnyH_take (i := 1) (v := ?vnwx2) (oi := ?onwx2) ?hnwx2 (by kernel_rfl) (by kernel_rfl) (by kernel_rfl) (fun _ _ _ h => h) (Or.inl ⟨?wnwx2, ?ynwx2⟩) hHeld ?rnwx2
          case hnwx2 => simp only [List.getElem?_toArray, List.getElem?_cons_zero, List.getElem?_cons_succ]; rfl
          case wnwx2 => rfl
          case ynwx2 => intro w hSw; (try dsimp only at hSw); go_simp; (try with_reducible rfl)
          simp only [Act.put, List.setIfInBounds_toArray, List.set_cons_zero, List.set_cons_succ]
          refine wpAnyH_take (i := 2) (v := ?vnwx3) (oi := ?onwx3) ?hnwx3 (by kernel_rfl) (by kernel_rfl) (by kernel_rfl) (fun _ _ _ h => h) (Or.inl ⟨?wnwx3, ?ynwx3⟩) hHeld ?rnwx3
          case hnwx3 => simp only [List.getElem?_toArray, List.getElem?_cons_zero, List.getElem?_cons_succ]; rfl
          case wnwx3 => rfl
          case ynwx3 => intro w hSw; (try dsimp only at hSw); go_simp; (try with_reducible rfl)
          simp only [Act.put, List.setIfInBounds_toArray, List.set_cons_zero, List.set_cons_succ]
          refine wpAnyH_take (i := 3) (v := ?vnwx4) (oi := ?onwx4) ?hnwx4 (by kernel_rfl) (by kernel_rfl) (by kernel_rfl) (fun _ _ _ h => h) (Or.inl ⟨?wnwx4, ?ynwx4⟩) hHeld ?rnwx4
          case hnwx4 => simp only [List.getElem?_toArray, List.getElem?_cons_zero, List.getElem?_cons_succ]; rfl
          case wnwx4 => rfl
          case ynwx4 => intro w hSw; (try dsimp only at hSw); go_simp; (try with_reducible rfl)
          simp only [Act.put, List.setIfInBounds_toArray, List.set_cons_zero, List.set_cons_succ]
          refine wpAnyH_take (i := 4) (v := ?vnwx5) (oi := ?onwx5) ?hnwx5 (by kernel_rfl) (by kernel_rfl) (by kernel_rfl) (fun _ _ _ h => h) (Or.inl ⟨?wnwx5, ?ynwx5⟩) hHeld ?rnwx5
          case hnwx5 => simp only [List.getElem?_toArray, List.getElem?_cons_zero, List.getElem?_cons_succ]; rfl
          case wnwx5 => rfl
          case ynwx5 => intro w hSw; (try dsimp only at hSw); go_simp; (try with_reducible rfl)
          simp only [Act.put, List.setIfInBounds_toArray, List.set_cons_zero, List.set_cons_succ]
          refine wpAnyH_take (i := 5) (v := ?vnwx6) (oi := ?onwx6) ?hnwx6 (by kernel_rfl) (by kernel_rfl) (by kernel_rfl) (fun _ _ _ h => h) (Or.inl ⟨?wnwx6, ?ynwx6⟩) hHeld ?rnwx6
          case hnwx6 => simp only [List.getElem?_toArray, List.getElem?_cons_zero, List.getElem?_cons_succ]; rfl
          case wnwx6 => rfl
          case ynwx6 => intro w hSw; (try dsimp only at hSw); go_simp; (try with_reducible rfl)
          simp only [Act.put, List.setIfInBounds_toArray, List.set_cons_zero, List.set_cons_succ]
          refine wpAnyH_take (i := 6) (v := ?vnwx7) (oi := ?onwx7) ?hnwx7 (by kernel_rfl) (by kernel_rfl) (by kernel_rfl) (fun _ _ _ h => h) (Or.inl ⟨?wnwx7, ?ynwx7⟩) hHeld ?rnwx7
          case hnwx7 => simp only [List.getElem?_toArray, List.getElem?_cons_zero, List.getElem?_cons_succ]; rfl
          case wnwx7 => rfl
          case ynwx7 =>
            intro w hSw
            (try dsimp only at hSw)
            have i0 := hSw.bx.c2
            go_simp
            try with_reducible rfl
          simp only [Act.put, List.setIfInBounds_toArray, List.set_cons_zero, List.set_cons_succ]
          refine wpAnyH_take (i := 7) (v := ?vnwx8) (oi := ?onwx8) ?hnwx8 (by kernel_rfl) (by kernel_rfl) (by kernel_rfl) (fun _ _ _ h => h) (Or.inl ⟨?wnwx8, ?ynwx8⟩) hHeld ?rnwx8
          case hnwx8 => simp only [List.getElem?_toArray, List.getElem?_cons_zero, List.getElem?_cons_succ]; rfl
          case wnwx8 => rfl
          case ynwx8 => intro w hSw; (try dsimp only at hSw); go_simp; (try with_reducible rfl)
          simp only [Act.put, List.setIfInBounds_toArray, List.set_cons_zero, List.set_cons_succ]
          refine wpAnyH_take (i := 8) (v := ?vnwx9) (oi := ?onwx9) ?hnwx9 (by kernel_rfl) (by kernel_rfl) (by kernel_rfl) (fun _ _ _ h => h) (Or.inl ⟨?wnwx9, ?ynwx9⟩) hHeld ?rnwx9
          case hnwx9 => simp only [List.getElem?_toArray, List.getElem?_cons_zero, List.getElem?_cons_succ]; rfl
          case wnwx9 => rfl
          case ynwx9 => intro w hSw; (try dsimp only at hSw); go_simp; (try with_reducible rfl)
          simp only [Act.put, List.setIfInBounds_toArray, List.set_cons_zero, List.set_cons_succ]
          refine wpAnyH_take (i := 9) (v := ?vnwx10) (oi := ?onwx10) ?hnwx10 (by kernel_rfl) (by kernel_rfl) (by kernel_rfl) (fun _ _ _ h => h) (Or.inl ⟨?wnwx10, ?ynwx10⟩) hHeld ?rnwx10
          case hnwx10 => simp only [List.getElem?_toArray, List.getElem?_cons_zero, List.getElem?_cons_succ]; rfl
          case wnwx10 => rfl
          case ynwx10 => intro w hSw; (try dsimp only at hSw); go_simp; (try with_reducible rfl)
          simp only [Act.put, List.setIfInBounds_toArray, List.set_cons_zero, List.set_cons_succ]
          refine wpAnyH_take (i := 10) (v := ?vnwx11) (oi := ?onwx11) ?hnwx11 (by kernel_rfl) (by kernel_rfl) (by kernel_rfl) (fun _ _ _ h => h) (Or.inl ⟨?wnwx11, ?ynwx11⟩) hHeld ?rnwx11
          case hnwx11 => simp only [List.getElem?_toArray, List.getElem?_cons_zero, List.getElem?_cons_succ]; rfl
          case wnwx11 => rfl
          case ynwx11 => intro w hSw; (try dsimp only at hSw); go_simp; (try with_reducible rfl)
          simp only [Act.put, List.setIfInBounds_toArray, List.set_cons_zero, List.set_cons_succ]
          refine wpAnyH_take (i := 11) (v := ?vnwx12) (oi := ?onwx12) ?hnwx12 (by kernel_rfl) (by kernel_rfl) (by kernel_rfl) (fun _ _ _ h => h) (Or.inl ⟨?wnwx12, ?ynwx12⟩) hHeld ?rnwx12
          case hnwx12 => simp only [List.getElem?_toArray, List.getElem?_cons_zero, List.getElem?_cons_succ]; rfl
          case wnwx12 => rfl
          case ynwx12 => intro w hSw; (try dsimp only at hSw); go_simp; (try with_reducible rfl)
          simp only [Act.put, List.setIfInBounds_toArray, List.set_cons_zero, List.set_cons_succ]
          refine wpAnyH_take (i := 12) (v := ?vnwx13) (oi := ?onwx13) ?hnwx13 (by kernel_rfl) (by kernel_rfl) (by kernel_rfl) (fun _ _ _ h => h) (Or.inl ⟨?wnwx13, ?ynwx13⟩) hHeld ?rnwx13
          case hnwx13 => simp only [List.getElem?_toArray, List.getElem?_cons_zero, List.getElem?_cons_succ]; rfl
          case wnwx13 => rfl
          case ynwx13 =>
            intro w hSw
            (try dsimp only at hSw)
            have i0 := hSw.bx.c3
            go_simp
            try with_reducible rfl
          simp only [Act.put, List.setIfInBounds_toArray, List.set_cons_zero, List.set_cons_succ]
          refine wpAnyH_take (i := 13) (v := ?vnwx14) (oi := ?onwx14) ?hnwx14 (by kernel_rfl) (by kernel_rfl) (by kernel_rfl) (fun _ _ _ h => h) (Or.inl ⟨?wnwx14, ?ynwx14⟩) hHeld ?rnwx14
          case hnwx14 => simp only [List.getElem?_toArray, List.getElem?_cons_zero, List.getElem?_cons_succ]; rfl
          case wnwx14 => rfl
          case ynwx14 => intro w hSw; (try dsimp only at hSw); go_simp; (try with_reducible rfl)
          simp only [Act.put, List.setIfInBounds_toArray, List.set_cons_zero, List.set_cons_succ]
          refine wpAnyH_take (i := 14) (v := ?vnwx15) (oi := ?onwx15) ?hnwx15 (by kernel_rfl) (by kernel_rfl) (by kernel_rfl) (fun _ _ _ h => h) (Or.inl ⟨?wnwx15, ?ynwx15⟩) hHeld ?rnwx15
          case hnwx15 => simp only [List.getElem?_toArray, List.getElem?_cons_zero, List.getElem?_cons_succ]; rfl
          case wnwx15 => rfl
          case ynwx15 => intro w hSw; (try dsimp only at hSw); go_simp; (try with_reducible rfl)
          simp only [Act.put, List.setIfInBounds_toArray, List.set_cons_zero, List.set_cons_succ]
          refine wpAnyH_take (i := 15) (v := ?vnwx16) (oi := ?onwx16) ?hnwx16 (by kernel_rfl) (by kernel_rfl) (by kernel_rfl) (fun _ _ _ h => h) (Or.inl ⟨?wnwx16, ?ynwx16⟩) hHeld ?rnwx16
          case hnwx16 => simp only [List.getElem?_toArray, List.getElem?_cons_zero, List.getElem?_cons_succ]; rfl
          case wnwx16 => rfl
          case ynwx16 => intro w hSw; (try dsimp only at hSw); go_simp; (try with_reducible rfl)
          simp only [Act.put, List.setIfInBounds_toArray, List.set_cons_zero, List.set_cons_succ]
          refine wpAnyH_take (i := 16) (v := ?vnwx17) (oi := ?onwx17) ?hnwx17 (by kernel_rfl) (by kernel_rfl) (by kernel_rfl) (fun _ _ _ h => h) (Or.inl ⟨?wnwx17, ?ynwx17⟩) hHeld ?rnwx17
          case hnwx17 => simp only [List.getElem?_toArray, List.getElem?_cons_zero, List.getElem?_cons_succ]; rfl
          case wnwx17 => rfl
          case ynwx17 => intro w hSw; (try dsimp only at hSw); go_simp; (try with_reducible rfl)
          simp only [Act.put, List.setIfInBounds_toArray, List.set_cons_zero, List.set_cons_succ]
          refine wpAnyH_take (i := 17) (v := ?vnwx18) (oi := ?onwx18) ?hnwx18 (by kernel_rfl) (by kernel_rfl) (by kernel_rfl) (fun _ _ _ h => h) (Or.inl ⟨?wnwx18, ?ynwx18⟩) hHeld ?rnwx18
          case hnwx18 => simp only [List.getElem?_toArray, List.getElem?_cons_zero, List.getElem?_cons_succ]; rfl
          case wnwx18 => rfl
          case ynwx18 => intro w hSw; (try dsimp only at hSw); go_simp; (try with_reducible rfl)
          simp only [Act.put, List.setIfInBounds_toArray, List.set_cons_zero, List.set_cons_succ]
          refine wpAnyH_take (i := 19) (v := ?vnwx19) (oi := ?onwx19) ?hnwx19 (by kernel_rfl) (by kernel_rfl) (by kernel_rfl) (fun _ _ _ h => h) (Or.inl ⟨?wnwx19, ?ynwx19⟩) hHeld ?rnwx19
          case hnwx19 => simp only [List.getElem?_toArray, List.getElem?_cons_zero, List.getElem?_cons_succ]; rfl
          case wnwx19 => rfl
          case ynwx19 =>
            intro w hSw
            (try dsimp only at hSw)
            have i0 := hSw.bx.c0
            have i1 := hSw.bx.c1
            have i2 := hSw.bx.c2
            have i3 := hSw.bx.c3
            have i4 := hSw.bx.c4
            go_simp
            try with_reducible rfl
          simp only [Act.put, List.setIfInBounds_toArray, List.set_cons_zero, List.set_cons_succ]
          refine wpAnyH_take (i := 20) (v := ?vnwx20) (oi := ?onwx20) ?hnwx20 (by kernel_rfl) (by kernel_rfl) (by kernel_rfl) (fun _ _ _ h => h) (Or.inl ⟨?wnwx20, ?ynwx20⟩) hHeld ?rnwx20
          case hnwx20 => simp only [List.getElem?_toArray, List.getElem?_cons_zero, List.getElem?_cons_succ]; rfl
          case wnwx20 => rfl
          case ynwx20 => intro w hSw; (try dsimp only at hSw); go_simp; (try with_reducible rfl)
          simp only [Act.put, List.setIfInBounds_toArray, List.set_cons_zero, List.set_cons_succ]
          refine wpAnyH_ready (rs := [18]) (by kernel_rfl) (by simp) ?_
          refine AllReadyH.cons (o := ?onwx21) ?hnwx21 (fun K hK => ?snwx21) AllReadyH.nil
          case hnwx21 => simp only [List.getElem?_toArray, List.getElem?_cons_zero, List.getElem?_cons_succ]; rfl
          go_simp
          refine (wof_any hHeld.pr z).mono ?_
          rintro e w8 ⟨rfl, k9⟩
          refine hK.out _ _ (hHeld.no k9) (fun hHeld => ?_)
          clear hK K
          try simp only [Act.put, List.setIfInBounds_toArray, List.set_cons_zero, List.set_cons_succ]
          refine wpAnyH_ready (rs := [21]) (by kernel_rfl) (by simp) ?_
          refine AllReadyH.cons (o := ?onwx22) ?hnwx22 (fun K hK => ?snwx22) AllReadyH.nil
          case hnwx22 => simp only [List.getElem?_toArray, List.getElem?_cons_zero, List.getElem?_cons_succ]; rfl
          go_simp
          refine (rstate_any hHeld.rf z).mono ?_
          rintro e w9 ⟨rfl, k9⟩
          refine hK.out _ _ (hHeld.no k9) (fun hHeld => ?_)
          clear hK K
          try simp only [Act.put, List.setIfInBounds_toArray, List.set_cons_zero, List.set_cons_succ]
          refine wpAnyH_take (i := 22) (v := ?vnwx23) (oi := ?onwx23) ?hnwx23 (by kernel_rfl) (by kernel_rfl) (by kernel_rfl) (fun _ _ _ h => h) (Or.inl ⟨?wnwx23, ?ynwx23⟩) hHeld ?rnwx23
          case hnwx23 => simp only [List.getElem?_toArray, List.getElem?_cons_zero, List.getElem?_cons_succ]; rfl
          case wnwx23 => rfl
          case ynwx23 => intro w hSw; (try dsimp only at hSw); go_simp; (try with_reducible rfl)
          simp only [Act.put, List.setIfInBounds_toArray, List.set_cons_zero, List.set_cons_succ]
          refine wpAnyH_take (i := 23) (v := ?vnwx24) (oi := ?onwx24) ?hnwx24 (by kernel_rfl) (by kernel_rfl) (by kernel_rfl) (fun _ _ _ h => h) (Or.inl ⟨?wnwx24, ?ynwx24⟩) hHeld ?rnwx24
          case hnwx24 => simp only [List.getElem?_toArray, List.getElem?_cons_zero, List.getElem?_cons_succ]; rfl
          case wnwx24 => rfl
          case ynwx24 => intro w hSw; (try dsimp only at hSw); go_simp; (try with_reducible rfl)
          simp only [Act.put, List.setIfInBounds_toArray, List.set_cons_zero, List.set_cons_succ]
          refine wpAnyH_done (by kernel_rfl) ?_ _
          refine NoPanic.normal ?_
          have HS9 := hide hHeld
          clear hHeld HS5
          have hmk3 : ∀ w, (Instr.makeSlice 29 (.int .i64 3) (.int .i64 3)).run Try.prog w = .ok (.slice (some ⟨w.heap.size, 0, none⟩) 3 3) (w.alloc (.cells (zi 3) 3)) := fun w => make_ints w 3 3 rfl (by omega)
          go_upto_region 23 with fail
          clear hmk3
          obtain ⟨s2, hs2⟩ : ∃ s2, s2 = w9.heap.size := ⟨_, rfl⟩
          have hrow : IRow (w9.alloc (.cells (zi 3) 3)) w9.heap.size (ctL D 0) := IRow.new w9 3
          have hS7 := HS9.out.no (Kp.alloc No w9 (.cells (zi 3) 3))
          have HFAR : Hid (∀ k, k = s2 → ¬ F k ∧ k ≠ s ∧ k ≠ gb ∧ W.heap.size ≤ k) := HS9.out.new (by rw [hs2]; exact Nat.le_refl _)
          rw [← hs2] at hrow ⊢
          have HS7 := hide hS7
          have HROW := hide hrow
          clear hS7 hrow hs2 HS9
          generalize w9.alloc (.cells (zi 3) 3) = w7 at HS7 HROW ⊢
          go_wp2_with fail
          go_loopw [21] (fun i wr => ∃ j : Nat, j ≤ N ∧ i = .int .i64 (j : Int) ∧ IRow wr s2 (ctL D j) ∧ Kp (fun q => q = s2) w7 wr) (fun i _ => N - (intOf i).toNat)
          case atStart => exact ⟨0, Nat.zero_le _, rfl, HROW.out, Kp.refl _ _⟩
          case round =>
            obtain ⟨j, hj, rfl, hrow, hkw⟩ := hrel
            have HSR := hide (HS7.out.keep hkw HFAR.out)
            have HRW := hide hrow
            have HKW := hide hkw
            clear hrow hkw
            by_cases hjl : j < N
            · obtain ⟨u, hu⟩ : ∃ u, u = D.stN j := ⟨_, rfl⟩
              have HU := hide hu
              have hu2 : u ≤ 2 := by rw [hu]; exact D.stN_le j
              have hcl := D.cnt_le u j
              clear hu
              have y0 := HSR.out.bx.c0
              have y1 := HSR.out.bx.c1
              have y2 := HSR.out.bx.c2
              have y3 := HSR.out.bx.c3
              have y4 := HSR.out.bx.c4
              go_wp2_with fail
              clear y0 y1 y2 y3 y4
              refine (rstate_any HSR.out.rf (j : Int)).mono ?_
              rintro e w3 ⟨rfl, k3⟩
              rw [D.st_nat, ← HU.out]
              have HS3 := hide (HSR.out.no k3)
              have HR3 := hide (HRW.out.no k3)
              have HK3 := hide (HKW.out.trans' (k3.of_no _))
              clear k3
              go_wp2_with fail
              refine (wof_any HS3.out.pr (j : Int)).mono ?_
              rintro e w4 ⟨rfl, k4⟩
              rw [D.st_nat, ← HU.out]
              have HR4 := hide (HR3.out.no k4)
              have HK4 := hide (HK3.out.trans' (k4.of_no _))
              clear k4
              have xc := HR4.out.cell (ctL_get D j hu2)
              have xf := HR4.out.fz u
              go_wp2_with fail
              have ec : ((D.cnt u j : Nat) : Int) + 1 = ((D.cnt u j + 1 : Nat) : Int) := by omega
              go_round
              case rel => exact ⟨j + 1, by omega, by go_num, by rw [ec, ← ctL_set D j, ← HU.out]; exact HR4.out.set u _, HK4.out.trans' (Kp.setCell (p := ⟨s2, u, none⟩) (S := fun q => q = s2) rfl _)⟩
              case measure => simp [intOf]; omega
            · obtain rfl : N = j := by omega
              go_upto_region 30 with (fail)
              refine wp_region_noPanic ?_
              refine wp_region_held_drew (S := fun w' => WpS W B F g s D D gb c w' ∧ IRow w' s2 (ctL D N)) (by kernel_rfl) (⟨HSR.out.no (Kp.refl No _).drew, HRW.out.no (Kp.refl No _).drew⟩) (fun hHeld => ?_)
              refine wpAnyH_take (i := 0) (v := ?vctx1) (oi := ?octx1) ?hctx1 (by kernel_rfl) (by kernel_rfl) (by kernel_rfl) (fun _ _ _ h => h) (Or.inl ⟨?wctx1, ?yctx1⟩) hHeld ?rctx1
              case hctx1 => simp only [List.getElem?_toArray, List.getElem?_cons_zero, List.getElem?_cons_succ]; rfl
              case wctx1 => rfl
              case yctx1 => intro w hSw; (try dsimp only at hSw); go_simp; (try with_reducible rfl)
              simp only [Act.put, List.setIfInBounds_toArray, List.set_cons_zero, List.set_cons_succ]
              refine wpAnyH_take (i := 2) (v := ?vctx2) (oi := ?octx2) ?hctx2 (by kernel_rfl) (by kernel_rfl) (by kernel_rfl) (fun _ _ _ h => h) (Or.inl ⟨?wctx2, ?yctx2⟩) hHeld ?rctx2
              case hctx2 => simp only [List.getElem?_toArray, List.getElem?_cons_zero, List.getElem?_cons_succ]; rfl
              case wctx2 => rfl
              case yctx2 => intro w hSw; (try dsimp only at hSw); go_simp; (try with_reducible rfl)
              simp only [Act.put, List.setIfInBounds_toArray, List.set_cons_zero, List.set_cons_succ]
              refine wpAnyH_take (i := 3) (v := ?vctx3) (oi := ?octx3) ?hctx3 (by kernel_rfl) (by kernel_rfl) (by kernel_rfl) (fun _ _ _ h => h) (Or.inl ⟨?wctx3, ?yctx3⟩) hHeld ?rctx3
              case hctx3 => simp only [List.getElem?_toArray, List.getElem?_cons_zero, List.getElem?_cons_succ]; rfl
              case wctx3 => rfl
              case yctx3 => intro w hSw; (try dsimp only at hSw); go_simp; (try with_reducible rfl)
              simp only [Act.put, List.setIfInBounds_toArray, List.set_cons_zero, List.set_cons_succ]
              refine wpAnyH_take (i := 4) (v := ?vctx4) (oi := ?octx4) ?hctx4 (by kernel_rfl) (by kernel_rfl) (by kernel_rfl) (fun _ _ _ h => h) (Or.inl ⟨?wctx4, ?yctx4⟩) hHeld ?rctx4
              case hctx4 => simp only [List.getElem?_toArray, List.getElem?_cons_zero, List.getElem?_cons_succ]; rfl
              case wctx4 => rfl
              case yctx4 =>
                intro w hSw
                (try dsimp only at hSw)
                have i0 := hSw.2.cell (ctL_get D N (q := 0) (by omega))
                go_simp
                try with_reducible rfl
              simp only [Act.put, List.setIfInBounds_toArray, List.set_cons_zero, List.set_cons_succ]
              refine wpAnyH_ready (rs := [1]) (by kernel_rfl) (by simp) ?_
              refine AllReadyH.cons (o := ?octx5) ?hctx5 (fun K hK => ?sctx5) AllReadyH.nil
              case hctx5 => simp only [List.getElem?_toArray, List.getElem?_cons_zero, List.getElem?_cons_succ]; rfl
              go_simp
              refine (wcount_any hHeld.1.pr 0).mono ?_
              rintro e w11 ⟨rfl, k9⟩
              rw [HLEN.out]
              refine hK.out _ _ (⟨hHeld.1.no k9, hHeld.2.no k9⟩) (fun hHeld => ?_)
              clear hK K
              try simp only [Act.put, List.setIfInBounds_toArray, List.set_cons_zero, List.set_cons_succ]
              refine wpAnyH_take (i := 5) (v := ?vctx6) (oi := ?octx6) ?hctx6 (by kernel_rfl) (by kernel_rfl) (by kernel_rfl) (fun _ _ _ h => h) (Or.inl ⟨?wctx6, ?yctx6⟩) hHeld ?rctx6
              case hctx6 => simp only [List.getElem?_toArray, List.getElem?_cons_zero, List.getElem?_cons_succ]; rfl
              case wctx6 => rfl
              case yctx6 => intro w hSw; (try dsimp only at hSw); go_simp; (try with_reducible rfl)
              simp only [Act.put, List.setIfInBounds_toArray, List.set_cons_zero, List.set_cons_succ]
              refine wpAnyH_take (i := 6) (v := ?vctx7) (oi := ?octx7) ?hctx7 (by kernel_rfl) (by kernel_rfl) (by kernel_rfl) (fun _ _ _ h => h) (Or.inl ⟨?wctx7, ?yctx7⟩) hHeld ?rctx7
              case hctx7 => simp only [List.getElem?_toArray, List.getElem?_cons_zero, List.getElem?_cons_succ]; rfl
              case wctx7 => rfl
              case yctx7 => intro w hSw; (try dsimp only at hSw); go_simp; (try with_reducible rfl)
              simp only [Act.put, List.setIfInBounds_toArray, List.set_cons_zero, List.set_cons_succ]
              refine wpAnyH_take (i := 7) (v := ?vctx8) (oi := ?octx8) ?hctx8 (by kernel_rfl) (by kernel_rfl) (by kernel_rfl) (fun _ _ _ h => h) (Or.inl ⟨?wctx8, ?yctx8⟩) hHeld ?rctx8
              case hctx8 => simp only [List.getElem?_toArray, List.getElem?_cons_zero, List.getElem?_cons_succ]; rfl
              case wctx8 => rfl
              case yctx8 => intro w hSw; (try dsimp only at hSw); go_simp; (try with_reducible rfl)
              simp only [Act.put, List.setIfInBounds_toArray, List.set_cons_zero, List.set_cons_succ]
              refine wpAnyH_take (i := 9) (v := ?vctx9) (oi := ?octx9) ?hctx9 (by kernel_rfl) (by kernel_rfl) (by kernel_rfl) (fun _ _ _ h => h) (Or.inl ⟨?wctx9, ?yctx9⟩) hHeld ?rctx9
              case hctx9 => simp only [List.getElem?_toArray, List.getElem?_cons_zero, List.getElem?_cons_succ]; rfl
              case wctx9 => rfl
              case yctx9 => intro w hSw; (try dsimp only at hSw); go_simp; (try with_reducible rfl)
              simp only [Act.put, List.setIfInBounds_toArray, List.set_cons_zero, List.set_cons_succ]
              refine wpAnyH_take (i := 10) (v := ?vctx10) (oi := ?octx10) ?hctx10 (by kernel_rfl) (by kernel_rfl) (by kernel_rfl) (fun _ _ _ h => h) (Or.inl ⟨?wctx10, ?yctx10⟩) hHeld ?rctx10
              case hctx10 => simp only [List.getElem?_toArray, List.getElem?_cons_zero, List.getElem?_cons_succ]; rfl
              case wctx10 => rfl
              case yctx10 => intro w hSw; (try dsimp only at hSw); go_simp; (try with_reducible rfl)
              simp only [Act.put, List.setIfInBounds_toArray, List.set_cons_zero, List.set_cons_succ]
              refine wpAnyH_take (i := 11) (v := ?vctx11) (oi := ?octx11) ?hctx11 (by kernel_rfl) (by kernel_rfl) (by kernel_rfl) (fun _ _ _ h => h) (Or.inl ⟨?wctx11, ?yctx11⟩) hHeld ?rctx11
              case hctx11 => simp only [List.getElem?_toArray, List.getElem?_cons_zero, List.getElem?_cons_succ]; rfl
              case wctx11 => rfl
              case yctx11 =>
                intro w hSw
                (try dsimp only at hSw)
                have i0 := hSw.2.cell (ctL_get D N (q := 1) (by omega))
                go_simp
                try with_reducible rfl
              simp only [Act.put, List.setIfInBounds_toArray, List.set_cons_zero, List.set_cons_succ]
              refine wpAnyH_ready (rs := [8]) (by kernel_rfl) (by simp) ?_
              refine AllReadyH.cons (o := ?octx12) ?hctx12 (fun K hK => ?sctx12) AllReadyH.nil
              case hctx12 => simp only [List.getElem?_toArray, List.getElem?_cons_zero, List.getElem?_cons_succ]; rfl
              go_simp
              refine (wcount_any hHeld.1.pr 1).mono ?_
              rintro e w12 ⟨rfl, k9⟩
              rw [HLEN.out]
              refine hK.out _ _ (⟨hHeld.1.no k9, hHeld.2.no k9⟩) (fun hHeld => ?_)
              clear hK K
              try simp only [Act.put, List.setIfInBounds_toArray, List.set_cons_zero, List.set_cons_succ]
              refine wpAnyH_take (i := 12) (v := ?vctx13) (oi := ?octx13) ?hctx13 (by kernel_rfl) (by kernel_rfl) (by kernel_rfl) (fun _ _ _ h => h) (Or.inl ⟨?wctx13, ?yctx13⟩) hHeld ?rctx13
              case hctx13 => simp only [List.getElem?_toArray, List.getElem?_cons_zero, List.getElem?_cons_succ]; rfl
              case wctx13 => rfl
              case yctx13 => intro w hSw; (try dsimp only at hSw); go_simp; (try with_reducible rfl)
              simp only [Act.put, List.setIfInBounds_toArray, List.set_cons_zero, List.set_cons_succ]
              refine wpAnyH_take (i := 13) (v := ?vctx14) (oi := ?octx14) ?hctx14 (by kernel_rfl) (by kernel_rfl) (by kernel_rfl) (fun _ _ _ h => h) (Or.inl ⟨?wctx14, ?yctx14⟩) hHeld ?rctx14
              case hctx14 => simp only [List.getElem?_toArray, List.getElem?_cons_zero, List.getElem?_cons_succ]; rfl
              case wctx14 => rfl
              case yctx14 => intro w hSw; (try dsimp only at hSw); go_simp; (try with_reducible rfl)
              simp only [Act.put, List.setIfInBounds_toArray, List.set_cons_zero, List.set_cons_succ]
              refine wpAnyH_take (i := 14) (v := ?vctx15) (oi := ?octx15) ?hctx15 (by kernel_rfl) (by kernel_rfl) (by kernel_rfl) (fun _ _ _ h => h) (Or.inl ⟨?wctx15, ?yctx15⟩) hHeld ?rctx15
              case hctx15 => simp only [List.getElem?_toArray, List.getElem?_cons_zero, List.getElem?_cons_succ]; rfl
              case wctx15 => rfl
              case yctx15 => intro w hSw; (try dsimp only at hSw); go_simp; (try with_reducible rfl)
              simp only [Act.put, List.setIfInBounds_toArray, List.set_cons_zero, List.set_cons_succ]
              refine wpAnyH_take (i := 15) (v := ?vctx16) (oi := ?octx16) ?hctx16 (by kernel_rfl) (by kernel_rfl) (by kernel_rfl) (fun _ _ _ h => h) (Or.inl ⟨?wctx16, ?yctx16⟩) hHeld ?rctx16
              case hctx16 => simp only [List.getElem?_toArray, List.getElem?_cons_zero, List.getElem?_cons_succ]; rfl
              case wctx16 => rfl
              case yctx16 => intro w hSw; (try dsimp only at hSw); go_simp; (try with_reducible rfl)
              simp only [Act.put, List.setIfInBounds_toArray, List.set_cons_zero, List.set_cons_succ]
              refine wpAnyH_take (i := 17) (v := ?vctx17) (oi := ?octx17) ?hctx17 (by kernel_rfl) (by kernel_rfl) (by kernel_rfl) (fun _ _ _ h => h) (Or.inl ⟨?wctx17, ?yctx17⟩) hHeld ?rctx17
              case hctx17 => simp only [List.getElem?_toArray, List.getElem?_cons_zero, List.getElem?_cons_succ]; rfl
              case wctx17 => rfl
              case yctx17 => intro w hSw; (try dsimp only at hSw); go_simp; (try with_reducible rfl)
              simp only [Act.put, List.setIfInBounds_toArray, List.set_cons_zero, List.set_cons_succ]
              refine wpAnyH_take (i := 18) (v := ?vctx18) (oi := ?octx18) ?hctx18 (by kernel_rfl) (by kernel_rfl) (by kernel_rfl) (fun _ _ _ h => h) (Or.inl ⟨?wctx18, ?yctx18⟩) hHeld ?rctx18
              case hctx18 => simp only [List.getElem?_toArray, List.getElem?_cons_zero, List.getElem?_cons_succ]; rfl
              case wctx18 => rfl
              case yctx18 => intro w hSw; (try dsimp only at hSw); go_simp; (try with_reducible rfl)
              simp only [Act.put, List.setIfInBounds_toArray, List.set_cons_zero, List.set_cons_succ]
              refine wpAnyH_take (i := 19) (v := ?vctx19) (oi := ?octx19) ?hctx19 (by kernel_rfl) (by kernel_rfl) (by kernel_rfl) (fun _ _ _ h => h) (Or.inl ⟨?wctx19, ?yctx19⟩) hHeld ?rctx19
              case hctx19 => simp only [List.getElem?_toArray, List.getElem?_cons_zero, List.getElem?_cons_succ]; rfl
              case wctx19 => rfl
              case yctx19 =>
                intro w hSw
                (try dsimp only at hSw)
                have i0 := hSw.2.cell (ctL_get D N (q := 2) (by omega))
                go_simp
                try with_reducible rfl
              simp only [Act.put, List.setIfInBounds_toArray, List.set_cons_zero, List.set_cons_succ]
              refine wpAnyH_ready (rs := [16]) (by kernel_rfl) (by simp) ?_
              refine AllReadyH.cons (o := ?octx20) ?hctx20 (fun K hK => ?sctx20) AllReadyH.nil
              case hctx20 => simp only [List.getElem?_toArray, List.getElem?_cons_zero, List.getElem?_cons_succ]; rfl
              go_simp
              refine (wcount_any hHeld.1.pr 2).mono ?_
              rintro e w13 ⟨rfl, k9⟩
              rw [HLEN.out]
              refine hK.out _ _ (⟨hHeld.1.no k9, hHeld.2.no k9⟩) (fun hHeld => ?_)
              clear hK K
              try simp only [Act.put, List.setIfInBounds_toArray, List.set_cons_zero, List.set_cons_succ]
              refine wpAnyH_take (i := 20) (v := ?vctx21) (oi := ?octx21) ?hctx21 (by kernel_rfl) (by kernel_rfl) (by kernel_rfl) (fun _ _ _ h => h) (Or.inl ⟨?wctx21, ?yctx21⟩) hHeld ?rctx21
              case hctx21 => simp only [List.getElem?_toArray, List.getElem?_cons_zero, List.getElem?_cons_succ]; rfl
              case wctx21 => rfl
              case yctx21 => intro w hSw; (try dsimp only at hSw); go_simp; (try with_reducible rfl)
              simp only [Act.put, List.setIfInBounds_toArray, List.set_cons_zero, List.set_cons_succ]
              refine wpAnyH_take (i := 21) (v := ?vctx22) (oi := ?octx22) ?hctx22 (by kernel_rfl) (by kernel_rfl) (by kernel_rfl) (fun _ _ _ h => h) (Or.inl ⟨?wctx22, ?yctx22⟩) hHeld ?rctx22
              case hctx22 => simp only [List.getElem?_toArray, List.getElem?_cons_zero, List.getElem?_cons_succ]; rfl
              case wctx22 => rfl
              case yctx22 => intro w hSw; (try dsimp only at hSw); go_simp; (try with_reducible rfl)
              simp only [Act.put, List.setIfInBounds_toArray, List.set_cons_zero, List.set_cons_succ]
              refine wpAnyH_done (by kernel_rfl) ?_ _
              refine NoPanic.normal ?_
              have HS8 := hide hHeld.1
              clear hHeld
              go_wp2_with fail
              go_round
              case rel => exact ⟨k + 1, by omega, by omega, by go_num, ⟨D, gb, c, HS8.out, HEP.out, HLEN.out⟩⟩
              case measure => simp [intOf]; omega
      · obtain rfl : k = 60 := by omega
        obtain ⟨D, gb, c, hS, -, -⟩ := hI
        have HKP := hide hS.kp
        clear hS
        go_wp2_with fail
        refine (awake17_any _).mono ?_
        rintro e w9 ⟨rfl, k9⟩
        go_wp2_with fail
        go_ret
        exact ⟨rfl, HKP.out.trans' k9⟩
    · obtain rfl : k = n0 := by omega
      obtain ⟨D, gb, c, hS, -, -⟩ := hI
      have HKP := hide hS.kp
      clear hS
      go_wp2_with fail
      refine (awake17_any _).mono ?_
      rintro e w9 ⟨rfl, k9⟩
      go_wp2_with fail
      go_ret
      exact ⟨rfl, HKP.out.trans' k9⟩

theorem watchplays_walk (W : World) (x a b z : Int) (hx : (Lit.int .u8 x).wf = true) {A0 : Option Addr} {n0 c0 : Nat} {KK NN : Nat → Int} (h0 : ActsW W A0 n0 KK NN) :
    Calls Try.prog 3 #[.int .u8 x, .int .i64 a, .int .i64 b, .slice A0 n0 c0, .int .i64 z] W fun e W' => e = .returned (.bool true) ∧ Below W.heap.size W W' := by
  have h1 := bounds_u8 hx
  obtain ⟨y, rfl⟩ : ∃ y : Nat, x = y := ⟨x.toNat, by omega⟩
  exact (watchplays_any W y (by omega) a b z h0).mono fun e W' p => ⟨p.1, p.2.below0⟩
end Go.Proofs.Ytjmahbmlocfbhaa
