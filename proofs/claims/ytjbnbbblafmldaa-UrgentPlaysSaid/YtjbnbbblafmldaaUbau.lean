/- Package urgent's Pop, as a contract; that of a queue that is none. No condition. -/
import Derived.Test.YtjbnbbblafmldaaUbat
namespace Go.Proofs.Ytjbnbbblafmldaa
open Go.RowKit
set_option linter.unusedVariables false
set_option linter.unusedSimpArgs false
set_option maxRecDepth 20000

theorem upop_of_no {w : World} {p : Value} (hc : ∀ w', Kp No w w' → Calls Try.prog 16 #[p] w' (UjPost w' none)) :
    Calls Try.prog 7 #[p] w (UjPost w none) := by
  have K1 := Kp.alloc No w (.cells #[.int .u32 0, .int .u16 0, .int .i64 0] 36)
  have hc1 := hc _ K1
  have HB := hide (Bx3.new w 36 (.int .u32 0) (.int .u16 0) (.int .i64 0))
  have HK := hide K1
  obtain ⟨x, hx⟩ : ∃ x, x = zJ := ⟨_, rfl⟩
  have HC : Hid (Calls Try.prog 16 #[p] (w.alloc (.cells #[.int .u32 0, .int .u16 0, .int .i64 0] 36)) fun e w1 => e = .returned (.tuple #[.agg #[.int .u32 (jO x : Int), .int .u16 (jS x : Int), .int .i64 (jG x)], .bool false]) ∧ Kp No (w.alloc (.cells #[.int .u32 0, .int .u16 0, .int .i64 0] 36)) w1) := by
    rw [hx]
    exact hc1
  have HX := hide hx
  clear hc K1 hc1 hx
  go_enter Try.func7, Try.ntmps7
  go_wp2_with fail
  refine HC.out.mono ?_
  rintro e w1 ⟨rfl, k1⟩
  have HB1 := hide (HB.out.no k1)
  have HK1 := hide (HK.out.trans' k1)
  have HL := hide (show w.heap.size < w1.heap.size from HB1.out.lt)
  clear HC HB HK k1
  have k2 := Kp.alloc No w1 (.cells #[.int .u32 (jO x : Int), .int .u16 (jS x : Int), .int .i64 (jG x)] 36)
  obtain ⟨x0, x1, x2⟩ := (HB1.out.no k2).cell
  have x3 := (HB1.out.no k2).fz
  have hl := HL.out
  have q0 := HB1.out.cell.1
  have q1 := HB1.out.cell.2.1
  have q2 := HB1.out.cell.2.2
  have q3 := HB1.out.fz
  have hall := ((HB1.out.no k2).all (.int .u32 (jO x : Int)) (.int .u16 (jS x : Int)) (.int .i64 (jG x))).cell
  have HK2 := hide (((HK1.out.trans' k2)).trans (kp3 (S := Up No w) _ w.heap.size (.int .u32 (jO x : Int)) (.int .u16 (jS x : Int)) (.int .i64 (jG x)) (.inr (Nat.le_refl _))))
  clear k2
  go_upto_region 4 with (fail)
  have HB2 : Hid (BxJ (w1.alloc (.cells #[.int .u32 (jO x : Int), .int .u16 (jS x : Int), .int .i64 (jG x)] 36)) w1.heap.size x) := Bx3.new w1 _ _ _ _
  generalize w1.alloc (.cells #[.int .u32 (jO x : Int), .int .u16 (jS x : Int), .int .i64 (jG x)] 36) = w2 at x0 x1 x2 x3 hall HK2 HB2 ⊢
  generalize w1.heap.size = s4 at HB2 ⊢
  obtain ⟨y0, y1, y2⟩ := HB2.out.cell
  go_wp2_with fail
  obtain ⟨r0, r1, r2⟩ := hall
  clear x0 x1 x2 x3 y0 y1 y2 q0 q1 q2 q3
  exact bodyPost_ret (v := .tuple #[jbV x, .bool false]) (by simp [results, Try.results7, go_sem, r0, r1, r2]) rfl ⟨by rw [HX.out]; rfl, HK2.out⟩
theorem rDrop_head {x : Nat} {t : List Nat} (h : ∀ y ∈ t, ky y ≠ ky x) : rDrop (x :: t) (ky x) = t := by
  unfold rDrop
  rw [List.filter_cons]
  simp
  exact h
set_option maxHeartbeats 1000000 in
theorem upop_yes {w : World} {F : Nat → Prop} {g x : Nat} {t : List Nat} (h : QuAt w F g (x :: t)) (hr : (x :: t).length ≤ 900000) :
    Calls Try.prog 7 #[.pointer (some ⟨g, 0, none⟩)] w (UqPost w F g t (.tuple #[jbV x, .bool true])) := by
  have hs := h.sor
  have hks := h.keys
  have hd : rDrop (x :: t) (ky x) = t := rDrop_head fun y hy e => by
    have := hks y (List.mem_cons_of_mem _ hy) x (by simp) e
    have := (List.pairwise_cons.1 hs).1 y hy
    omega
  have hhas : rHas (x :: t) (ky x) = true := rHas_iff.2 ⟨x, by simp, rfl⟩
  have hlt := h.lt
  have hmono : ∀ k, (fun k => F k ∧ k < w.heap.size) k → F k := fun k hk => hk.1
  obtain ⟨G, hG⟩ : ∃ G : Nat → Prop, G = fun k => F k ∧ k < w.heap.size := ⟨_, rfl⟩
  rw [← hG] at hlt hmono
  have HGL : Hid (∀ q, G q → q < w.heap.size) := by rw [hG]; exact fun q hq => hq.2
  have K1 := Kp.alloc No w (.cells #[.int .u32 0, .int .u16 0, .int .i64 0] 36)
  have HC := hide (ufirst_yes (hlt.no K1) hr)
  have HA := hide (hlt.no K1)
  have HB := hide (Bx3.new w 36 (.int .u32 0) (.int .u16 0) (.int .i64 0))
  have HK := hide K1
  have HD := hide hd
  have HH := hide hhas
  have HR := hide hr
  have HM := hide hmono
  clear h hs hks hd hhas hlt hmono hG K1 hr
  go_enter Try.func7, Try.ntmps7
  go_wp2_with fail
  refine HC.out.mono ?_
  rintro e w1 ⟨rfl, k1⟩
  have HB1 := hide (HB.out.no k1)
  have HK1 := hide (HK.out.trans' k1)
  have HA1 := hide (HA.out.no k1)
  have hl : w.heap.size < w1.heap.size := HB1.out.lt
  clear HC HB HK HA k1
  have k2 := Kp.alloc No w1 (.cells #[.int .u32 (jO x : Int), .int .u16 (jS x : Int), .int .i64 (jG x)] 36)
  have HA2 := hide (HA1.out.no k2)
  have HB2 := hide (HB1.out.no k2)
  have HK2 := hide (HK1.out.trans' k2)
  have HX2 : Hid (BxJ (w1.alloc (.cells #[.int .u32 (jO x : Int), .int .u16 (jS x : Int), .int .i64 (jG x)] 36)) w1.heap.size x) := Bx3.new w1 _ _ _ _
  have HG2 : Hid (¬ G w1.heap.size ∧ ¬ G w.heap.size) := ⟨fun e => by have := HGL.out _ e; omega, fun e => by have := HGL.out _ e; omega⟩
  have HS2 : Hid (w.heap.size < w1.heap.size) := hl
  clear k2 HA1 HB1 HK1
  go_upto_region 3 with (fail)
  generalize w1.alloc (.cells #[.int .u32 (jO x : Int), .int .u16 (jS x : Int), .int .i64 (jG x)] 36) = w2 at HA2 HB2 HK2 HX2 ⊢
  generalize w1.heap.size = s4 at HX2 HG2 HS2 hl ⊢
  obtain ⟨y0, y1, y2⟩ := HX2.out.cell
  have HDR := hide (udrop_yes HA2.out HH.out (ky_lt x) HR.out)
  rw [HD.out] at HDR
  have HDC : Hid (Calls Try.prog 10 #[.pointer (some ⟨g, 0, none⟩), .agg #[.int .u32 (jO x : Int), .int .u16 (jS x : Int)]] w2 (UqPost w2 G g t (.bool true))) := HDR.out
  clear HDR
  go_wp2_with fail
  refine HDC.out.mono ?_
  rintro e w3 ⟨rfl, h3, k3⟩
  have HX3 := hide (HX2.out.keep k3 HG2.out.1)
  have HB3 := hide (HB2.out.keep k3 HG2.out.2)
  have HQ3 := hide (h3.mono fun q hq => Up.le HK2.out.size (hq.imp (HM.out q) id))
  have HK3 := hide ((HK2.out.of_no F).trans' (k3.mono HM.out))
  have HQL := hide h3
  clear y0 y1 y2 h3 k3 HDC
  have HWS := hide (show w.heap.size < w2.heap.size from HB2.out.lt)
  clear HX2 HB2 HA2 HK2
  obtain ⟨y0, y1, y2⟩ := HX3.out.cell
  obtain ⟨x0, x1, x2⟩ := HB3.out.cell
  have x3 := HB3.out.fz
  go_wp2_with fail
  obtain ⟨r0, r1, r2⟩ := (HB3.out.all (.int .u32 (jO x : Int)) (.int .u16 (jS x : Int)) (.int .i64 (jG x))).cell
  have hk := kp3 (S := fun q => q = w.heap.size) w3 w.heap.size (.int .u32 (jO x : Int)) (.int .u16 (jS x : Int)) (.int .i64 (jG x)) rfl
  clear x0 x1 x2 x3 y0 y1 y2
  refine bodyPost_ret (v := .tuple #[jbV x, .bool true]) (by simp [results, Try.results7, go_sem, r0, r1, r2]) rfl ⟨rfl, ?_, HK3.out.trans (hk.mono fun q hq => .inr (by rw [hq]; exact Nat.le_refl _))⟩
  refine (HQL.out.keep hk fun q _ hq e => ?_).mono fun q hq => ?_
  · rcases hq with hq | hq
    · exact HG2.out.2 (e ▸ hq)
    · have := HWS.out
      omega
  · rcases hq with hq | hq
    · exact .inl (HM.out q hq)
    · exact .inr (Nat.le_trans (Nat.le_of_lt HWS.out) hq)
end Go.Proofs.Ytjbnbbblafmldaa
