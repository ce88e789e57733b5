/- Package urgent's Drop, as a contract. No condition. -/
import Derived.Test.YtjbnbbblafmldaaUbar
namespace Go.Proofs.Ytjbnbbblafmldaa
open Go.RowKit
set_option linter.unusedVariables false
set_option linter.unusedSimpArgs false
set_option maxRecDepth 20000

/-- A Key's box. -/
def BxK (w : World) (s k : Nat) : Prop := w.heap[s]? = some (.cells #[.int .u32 (kO k : Int), .int .u16 (kS k : Int)] 34 (0, 0))
section
variable {w w1 : World} {s k : Nat} {S : Nat → Prop}
theorem BxK.lt (h : BxK w s k) : s < w.heap.size := (Array.getElem?_eq_some_iff.1 h).1
theorem BxK.keep (h : BxK w s k) (hk : Kp S w w1) (hS : ¬ S s) : BxK w1 s k := (hk.block s h.lt hS).trans h
theorem BxK.no (h : BxK w s k) (hk : Kp No w w1) : BxK w1 s k := h.keep hk fun f => f
theorem BxK.cell (h : BxK w s k) : w.cell? ⟨s, 0, none⟩ = some (.int .u32 (kO k : Int)) ∧ w.cell? ⟨s, 1, none⟩ = some (.int .u16 (kS k : Int)) := by
  refine ⟨?_, ?_⟩ <;> (rw [cell_of_row w s _ _ _ _ h]; rfl)
end
theorem udrop_of_no {w : World} {p : Value} {k : Nat} {z : Int} (hc : ∀ w', Kp No w w' → Calls Try.prog 19 #[p, kyV k] w' (UpPost w' z false)) :
    Calls Try.prog 10 #[p, kyV k] w (BoolPost w false) := by
  unfold kyV at hc ⊢
  generalize kO k = k0 at hc ⊢
  generalize kS k = k1 at hc ⊢
  have HC := hide hc
  clear hc
  go_enter Try.func10, Try.ntmps10
  go_wp2_with fail
  refine (HC.out _ (Kp.alloc No w _)).mono ?_
  rintro e w1 ⟨rfl, hk⟩
  go_wp2_with fail
  go_ret
  exact ⟨rfl, (Kp.alloc No w _).trans' hk⟩
set_option maxHeartbeats 2000000 in
theorem udrop_yes {w : World} {F : Nat → Prop} {g k : Nat} {r : List Nat} (h : QuAt w F g r) (hh : rHas r k = true) (hk : k < N48) (hr : r.length ≤ 900000) :
    Calls Try.prog 10 #[.pointer (some ⟨g, 0, none⟩), kyV k] w (UqPost w F g (rDrop r k) (.bool true)) := by
  obtain ⟨b, A, n, cp, R, M, h1, h2⟩ := h
  have hRl : R.length ≤ 900000 := by rw [h2.len]; exact hr
  obtain ⟨i, hM, hi, hRi⟩ := h2.place_yes hh
  have hkk := (rJob_get hh).2
  obtain ⟨gj, rfl, -⟩ := OwnT.some_ h1.row (by omega)
  have hlt := h1.lt
  have hmono : ∀ k, (fun k => F k ∧ k < w.heap.size) k → F k := fun k hk => hk.1
  obtain ⟨G, hG⟩ : ∃ G : Nat → Prop, G = fun k => F k ∧ k < w.heap.size := ⟨_, rfl⟩
  rw [← hG] at hlt hmono
  have hsG : ¬ G w.heap.size := by rw [hG]; simp
  have KA := Kp.alloc No w (.cells #[.int .u32 (kO k : Int), .int .u16 (kS k : Int)] 34)
  have HX : Hid (BxK (w.alloc (.cells #[.int .u32 (kO k : Int), .int .u16 (kS k : Int)] 34)) w.heap.size k) := heap_alloc_new w _
  have HA := hide (hlt.no KA)
  have HK := hide KA
  have HP := hide (uplace_any HA.out hk)
  rw [hM] at HP
  change Hid (Calls Try.prog 19 #[.pointer (some ⟨g, 0, none⟩), .agg #[.int .u32 (kO k : Int), .int .u16 (kS k : Int)]] (w.alloc (.cells #[.int .u32 (kO k : Int), .int .u16 (kS k : Int)] 34)) (UpPost _ ((i : Nat) : Int) true)) at HP
  have HN := hide h1.len
  have HQ := hide h2
  have HRL := hide hRl
  have HMO := hide hmono
  have HG := hide hsG
  have HGL : Hid (∀ q, G q → q < w.heap.size) := by rw [hG]; exact fun q hq => hq.2
  have HMI := hide hM
  have HI := hide hi
  have HRI := hide hRi
  have HKK := hide hkk
  have HK48 := hide hk
  clear h1 h2 hr hRl hM hi hRi hkk hlt hmono hG hsG KA hk hh
  go_enter Try.func10, Try.ntmps10
  go_upto_region 1 with (fail)
  generalize w.alloc (.cells #[.int .u32 (kO k : Int), .int .u16 (kS k : Int)] 34) = wa at HA HX HK HP ⊢
  obtain ⟨s, hs⟩ : ∃ s, s = w.heap.size := ⟨_, rfl⟩
  rw [← hs] at HX HG ⊢
  have HSS := hide hs
  clear hs
  obtain ⟨x0, x1⟩ := HX.out.cell
  go_wp2_with fail
  refine HP.out.mono ?_
  rintro e w1 ⟨rfl, k1⟩
  have HA1 := hide (HA.out.no k1)
  have HX1 := hide (HX.out.no k1)
  have HK1 := hide ((HK.out.trans' k1).of_no G)
  clear k1 HA HX HK HP x0 x1
  go_upto_region 4 with (fail)
  obtain ⟨x0, x1⟩ := HX1.out.cell
  have y1 := HA1.out.c1
  obtain ⟨w2, hdel, hm2, hk2⟩ := MpU.del (w := w1.drew) (HA1.out.mp.no (Kp.refl No w1).drew) HK48.out HMI.out 0
  have HA2 := hide ((HA1.out.no (Kp.refl No w1).drew).map_ hk2 hm2)
  have HX2 := hide ((HX1.out.no (Kp.refl No w1).drew).keep hk2 (fun e => HG.out (by rw [e]; exact HA1.out.fb)))
  have HK2 := hide ((HK1.out.trans' (((Kp.refl No w1).drew).of_no G)).trans' HA2.out.2)
  change (Builtin.delete_ #[48, 34] 0 #[.map (some b), .agg #[.int .u32 (kO k : Int), .int .u16 (kS k : Int)]]).run Try.prog w1.drew = .ok (.tuple #[]) w2 at hdel
  clear hm2 hk2 HA1 HX1 HK1
  go_region
  clear x0 x1 y1 hdel
  go_upto_region 5 with (fail)
  obtain ⟨m, hm⟩ : ∃ m : Nat, m = R.length - 1 := ⟨_, rfl⟩
  have hmn : n = m + 1 := by have := HN.out; have := HI.out; omega
  have hmR : m < R.length := by have := HI.out; omega
  obtain ⟨x, hx⟩ : ∃ x, R[m]? = some x := ⟨_, List.getElem?_eq_getElem hmR⟩
  have hfx : fR R m = x := fR_get hx
  have hkx := ky_lt x
  obtain ⟨a0, a1, a2⟩ := JbR.cells HA2.out.1.row hx
  have y0 := HA2.out.1.c0
  have hgl := HA2.out.1.glt
  have hjl := OwnT.lt HA2.out.1.row gj rfl
  have e1 : ((m + 1 : Nat) : Int) - 1 = (m : Int) := by omega
  have hcap := OwnT.cap HA2.out.1.row
  have HCAP := hide (show n ≤ cp by have := HN.out; omega)
  have HMR := hide hmR
  have HM := hide hm
  have HFX := hide hfx
  have hmb : m < 1000000 := by have := HRL.out; omega
  have hwm : IntKind.i64.wrap (m : Int) = (m : Int) := IntWalk.i64_in _ (by omega)
  have hpl : HX2.out.lt = HX2.out.lt := rfl
  have hb5 := Bx3.new w2.drew 36 (.int .u32 (jO x : Int)) (.int .u16 (jS x : Int)) (.int .i64 (jG x))
  have hk5 := (Kp.refl No w2).drew.trans' (Kp.alloc No w2.drew (.cells #[.int .u32 (jO x : Int), .int .u16 (jS x : Int), .int .i64 (jG x)] 36))
  have HB5 := hide hb5
  have HK5 := hide hk5
  have HA3 := hide (HA2.out.1.no hk5)
  have HX3 := hide (HX2.out.no hk5)
  have HK3 := hide (HK2.out.trans' (hk5.of_no G))
  have HG5 : Hid (¬ G w2.heap.size) := fun e => by have := HGL.out _ e; have := HK2.out.size; omega
  have HS5 : Hid (s < w2.heap.size) := HX2.out.lt
  have HMN := hide hmn
  subst hmn
  clear hm hx hfx hcap hb5 hk5 hpl hmR
  go_region
  clear a0 a1 a2 y0 hgl hjl e1 hwm
  go_upto_region 6 with (fail)
  change Hid (BxJ (w2.alloc (.cells #[.int .u32 (jO x : Int), .int .u16 (jS x : Int), .int .i64 (jG x)] 36)).drew w2.heap.size x) at HB5
  change Hid (QuR (w2.alloc (.cells #[.int .u32 (jO x : Int), .int .u16 (jS x : Int), .int .i64 (jG x)] 36)).drew G g b (some ⟨gj, 0, none⟩) (m + 1) cp R (updM M k none) (R.length - 1)) at HA3
  change Hid (BxK (w2.alloc (.cells #[.int .u32 (jO x : Int), .int .u16 (jS x : Int), .int .i64 (jG x)] 36)).drew s k) at HX3
  change Hid (Kp G w (w2.alloc (.cells #[.int .u32 (jO x : Int), .int .u16 (jS x : Int), .int .i64 (jG x)] 36)).drew) at HK3
  clear HK5 HA2 HX2 HK2 HMN
  generalize (w2.alloc (.cells #[.int .u32 (jO x : Int), .int .u16 (jS x : Int), .int .i64 (jG x)] 36)).drew = w3 at HA3 HB5 HX3 HK3 ⊢
  generalize w2.heap.size = s5 at HB5 HG5 HS5 ⊢
  have y0 := HA3.out.c0
  have yf := HA3.out.fz 0
  have hsl := fun w' => ujsl_u (some ⟨gj, 0, none⟩) (L := m + 1) (cl := cp) (k := m) (by omega) HCAP.out w'
  have e1 : ((m + 1 : Nat) : Int) - 1 = (m : Int) := by omega
  obtain ⟨HQ4, HK4⟩ := (HA3.out.cut (k := m) (Nat.le_of_lt HMR.out))
  have hk4 : Kp (fun q => q = g) w3 (w3.setCell ⟨g, 0, none⟩ (.slice (some ⟨gj, 0, none⟩) m cp)) := Kp.setCell (p := ⟨g, 0, none⟩) (S := fun k => k = g) rfl _
  have HX4 := hide (HX3.out.keep hk4 (fun e => HG.out (by rw [e]; exact HA3.out.fg)))
  have HB4 := hide (HB5.out.keep hk4 (fun e => HG5.out (by rw [e]; exact HA3.out.fg)))
  have HQ4' := hide HQ4
  have HKQ := hide (HK3.out.trans' HK4)
  clear HQ4 HK4 hk4
  go_region
  clear y0 yf hsl e1
  go_upto_region 7 with (fail)
  clear HA3 HB5 HX3 HK3
  have HX5 : Hid (BxK (w3.setCell ⟨g, 0, none⟩ (.slice (some ⟨gj, 0, none⟩) m cp)).drew s k) := HX4.out
  have HB5 : Hid (BxJ (w3.setCell ⟨g, 0, none⟩ (.slice (some ⟨gj, 0, none⟩) m cp)).drew s5 x) := HB4.out
  have HQ5 := hide (HQ4'.out.no (Kp.refl No _).drew)
  have HK5 := hide (HKQ.out.drew)
  clear HX4 HB4 HQ4' HKQ
  generalize (w3.setCell ⟨g, 0, none⟩ (.slice (some ⟨gj, 0, none⟩) m cp)).drew = w5 at HX5 HB5 HQ5 HK5 ⊢
  obtain ⟨x0, x1⟩ := HX5.out.cell
  obtain ⟨b0, b1, b2⟩ := HB5.out.cell
  by_cases him : i = m
  · have hkk : ky x = k := by rw [← HFX.out, ← him, fR_get HRI.out]; exact HKK.out
    have hne : (!(ky x == k)) = false := by rw [hkk]; simp
    have hd := HQ.out.drop_last (k := k) (by have := HMR.out; omega) (by rw [← HM.out, HFX.out]; exact hkk)
    rw [← HM.out] at hd
    have HD := hide hd
    have HL : Hid ((R.take m).length = R.length - 1) := by
      show _ = _
      rw [List.length_take, ← HM.out]
      have := HMR.out
      omega
    have HKX := hide hkx
    clear hd hkk hkx him
    go_wp2_with (refine wpList_kneq (j := ky x) (k := k) rfl _ _ rfl rfl rfl HKX.out HK48.out false hne ?_)
    go_ret
    refine ⟨rfl, ⟨b, some ⟨gj, 0, none⟩, m, cp, R.take m, updM M k none, ?_, HD.out⟩, HK5.out.mono HMO.out⟩
    rw [HL.out]
    exact HQ5.out.mono fun q hq => .inl (HMO.out q hq)
  · have himl : i < R.length - 1 := by have := HI.out; have := HM.out; omega
    have hfi : fR R i = rJob r k := fR_get HRI.out
    obtain ⟨hst, hpl, hkn⟩ := HQ.out.drop_mid (k := k) himl (by rw [hfi]; exact HKK.out)
    rw [← HM.out, HFX.out] at hst
    rw [← HM.out, HFX.out] at hkn
    rw [← HM.out] at hpl
    have hne : (!(ky x == k)) = true := by simp [hkn]
    have HU := hide (ulay_any (N := m) (c := R.length - 1) HQ5.out hst (rDrop_sor HQ.out.sor) hpl (by have := HRL.out; have := HMR.out; omega) (by rw [← HM.out]; exact Nat.le_refl _) (fun e => by cases e))
    have HKX := hide hkx
    clear hst hpl hkn hkx him himl hfi
    go_wp2_with (refine wpList_kneq (j := ky x) (k := k) rfl _ _ rfl rfl rfl HKX.out HK48.out true hne ?_)
    refine HU.out.mono ?_
    rintro e w6 ⟨rfl, ⟨R', M', h6, q6⟩, k6⟩
    have H6 := hide (h6.mono HMO.out)
    have Q6 := hide q6
    have K6 := hide (((HK5.out.mono HMO.out)).trans' (k6.mono HMO.out))
    clear h6 q6 k6 x0 x1 b0 b1 b2
    go_wp2_with fail
    go_ret
    exact ⟨rfl, ⟨_, _, _, _, _, _, H6.out.mono fun k hk => .inl hk, Q6.out⟩, K6.out⟩
end Go.Proofs.Ytjbnbbblafmldaa
