/- PurseBounds walked: it returns true for any numbers and any acts. No condition. -/
import Derived.Test.YtjjdkkncdnipcaaPuf
import Derived.Test.YtjjdkkncdnipcaaPue
import Derived.Test.YtjjdkkncdnipcaaBasf
import Derived.Deep.DeepCutAuto
import Derived.Deep.CutBlock
namespace Go.Proofs.Ytjjdkkncdnipcaa
open Go.RowKit Go.WideShapes Go.ChangeShapes
set_option linter.unusedVariables false
set_option maxRecDepth 20000
set_option linter.unusedSimpArgs false

theorem ty_u64 : Ty 22 (.int .u64 0) 1 8 := ty_of (by kernel_rfl) rfl (by omega) (by omega)
def uv (x : Nat) : Value := .int .u64 (x : Int)
theorem fresh_u (w : World) (x : Nat) : (w.alloc (.cells #[.int .u64 (x : Int)] 22)).cell? ⟨w.heap.size, 0, none⟩ = some (uv x) := by simp [uv]
/-- What the law knows: the purse T at g, the tick, two slices of the call's own: when it was spent, and how much. -/
structure PbI (W : World) (g : Nat) (r b : Nat) (T : Pu) (now : Nat) (at_ took : List Nat) (va vt : Value) (wr : World) : Prop where
  pr : PuAt wr g T
  kt : Kept T now at_ took
  oa : OwnT wr W.heap.size 22 1 va at_.length (at_.map uv)
  ot : OwnT wr W.heap.size 22 1 vt took.length (took.map uv)
  ap : ∀ q, va.ownBlock = some q → vt.ownBlock ≠ some q
  kp : Kp No W wr
  ge : W.heap.size ≤ g
  rt : T.rate = r
  bu : T.burst = b
section
variable {W wr w1 w2 : World} {g r b now : Nat} {T T' : Pu} {at_ took : List Nat} {va vt va' vt' : Value} {S : Nat → Prop}
theorem PbI.far (h : PbI W g r b T now at_ took va vt wr) : va.ownBlock ≠ some g ∧ vt.ownBlock ≠ some g := by
  constructor
  · intro e
    obtain ⟨cur, h1⟩ := h.oa.kind e
    rw [h.pr.blk] at h1
    injection h1 with h1
    injection h1 with _ h1
    exact absurd h1 (by decide)
  · intro e
    obtain ⟨cur, h1⟩ := h.ot.kind e
    rw [h.pr.blk] at h1
    injection h1 with h1
    injection h1 with _ h1
    exact absurd h1 (by decide)
theorem Kept.less (h : Kept T now at_ took) (hr : T'.rate = T.rate) (hb : T'.burst = T.burst) (hl : T'.level ≤ T.level) : Kept T' now at_ took :=
  ⟨h.len, fun k t ht => by
    obtain ⟨h1, h2⟩ := h.bd k t ht
    rw [hr, hb]
    exact ⟨h1, by omega⟩⟩
theorem PbI.no (h : PbI W g r b T now at_ took va vt wr) (hk : Kp No wr w1) : PbI W g r b T now at_ took va vt w1 :=
  ⟨h.pr.no hk, h.kt, h.oa.no hk, h.ot.no hk, h.ap, h.kp.trans' hk, h.ge, h.rt, h.bu⟩
/-- A call on the purse. -/
theorem PbI.call (h : PbI W g r b T now at_ took va vt wr) (hp : PuAt w1 g T') (hk : Kp (fun k => k = g) wr w1) (hr : T'.rate = T.rate) (hb : T'.burst = T.burst) {now' : Nat} (ht : Kept T' now' at_ took) : PbI W g r b T' now' at_ took va vt w1 :=
  ⟨hp, ht, h.oa.keep hk fun q e f => h.far.1 (f ▸ e), h.ot.keep hk fun q e f => h.far.2 (f ▸ e), h.ap, h.kp.trans (hk.mono fun q e => .inr (by rw [e]; exact h.ge)), h.ge, hr.trans h.rt, hb.trans h.bu⟩
/-- Two slices more. -/
theorem PbI.app {b1 b2 : World} (h : PbI W g r b T now at_ took va vt wr) {x y : Nat} (k1 : Kp No wr b1) (a1 : AppT b1 W.heap.size 22 1 va at_.length (at_.map uv) 1 [uv x] va' w1) (k2 : Kp No w1 b2) (a2 : AppT b2 W.heap.size 22 1 vt took.length (took.map uv) 1 [uv y] vt' w2)
    (ht : Kept T now (at_ ++ [x]) (took ++ [y])) : PbI W g r b T now (at_ ++ [x]) (took ++ [y]) va' vt' w2 := by
  have f1 := h.far
  have oa1 := h.oa.no k1
  have ot1 := h.ot.no k1
  have g1 := (h.pr.no k1)
  have g2 := (g1.keep a1.kp fun e => f1.1 e).no k2
  have ot2 := (ot1.keep a1.kp fun q e f => h.ap q f e).no k2
  have hq : ∀ q, va'.ownBlock = some q → vt.ownBlock ≠ some q := fun q e e2 => by
    rcases a1.at_ with f | f
    · exact h.ap q (f.symm.trans e) e2
    · have h1 := ot1.lt q e2
      rw [f] at e
      injection e with e
      omega
  have oa3 := (a1.own.no k2).keep a2.kp fun q e f => hq q e f
  refine ⟨g2.keep a2.kp fun e => f1.2 e, ht, ?_, ?_, fun q e e2 => ?_, ?_, h.ge, h.rt, h.bu⟩
  · rw [List.length_append, List.map_append]
    exact oa3
  · rw [List.length_append, List.map_append]
    exact a2.own
  · rcases a2.at_ with f | f
    · exact hq q e (f.symm.trans e2)
    · have h1 := ((a1.own.no k2).lt q e)
      rw [f] at e2
      injection e2 with e2
      omega
  · exact ((h.kp.trans' k1).trans (a1.kp.mono fun q e => .inr (h.oa.ge q e))).trans' k2 |>.trans (a2.kp.mono fun q e => .inr (h.ot.ge q e))
end

set_option maxRecDepth 100000 in
set_option maxHeartbeats 8000000 in
theorem pursebounds_any (W : World) (r b : Nat) (hr : r ≤ 4294967295) (hb : b ≤ 4294967295) {A0 : Option Addr} {n0 c0 : Nat} {KK : Nat → Int} {NN : Nat → Nat} (h0 : ActsQ W A0 n0 KK NN) :
    Calls Try.prog 5 #[.int .u32 (r : Int), .int .u32 (b : Int), .slice A0 n0 c0] W (TruePost W) := by
  have hb0 := h0.big
  have HA0 := hide h0
  have HNEW := hide (fun w => pnew_any w r b (by omega) (by omega))
  have HR : Hid (r ≤ 4294967295) := hr
  have HB : Hid (b ≤ 4294967295) := hb
  have e1 : IntKind.u64.wrap (r : Int) = (r : Int) := wr64_in _ (by omega)
  have e2 : IntKind.u64.wrap (b : Int) = (b : Int) := wr64_in _ (by omega)
  clear h0 hr hb
  go_enter Try.func5, Try.ntmps5
  go_wp2_with fail
  refine (awake18_any _).mono ?_
  rintro e w1 ⟨rfl, k1⟩
  have HK1 := hide k1
  clear k1
  go_wp2_with fail
  refine (HNEW.out _).mono ?_
  rintro e w2 ⟨g, rfl, h2, hg, k2⟩
  have HI0 : Hid (PbI W g r b (Pu.new r b) 0 [] [] (.slice none 0 0) (.slice none 0 0) w2) :=
    ⟨h2, Kept.nil _ _, OwnT.nil _ _ _ _, OwnT.nil _ _ _ _, (fun q e => by cases e), HK1.out.trans' k2, Nat.le_trans HK1.out.size hg, rfl, rfl⟩
  clear h2 hg k2 HK1 HNEW e1 e2
  go_wp2_with fail
  go_loopw [9, 10, 11, 12] (fun v9 v10 v11 i wr => ∃ (k now : Nat) (at_ took : List Nat) (T : Pu) (A1 : Option Addr) (n1 c1 : Nat) (A2 : Option Addr) (n2 c2 : Nat), k ≤ n0 ∧ k ≤ 40 ∧ i = .int .i64 (k : Int) ∧ v9 = .int .u64 (now : Int) ∧ v10 = .slice A1 n1 c1 ∧ v11 = .slice A2 n2 c2 ∧ now ≤ 1000 * k ∧ took.length ≤ k ∧ PbI W g r b T now at_ took (.slice A1 n1 c1) (.slice A2 n2 c2) wr) (fun _ _ _ i _ => 40 - (intOf i).toNat)
  case atStart => exact ⟨0, 0, [], [], _, none, 0, 0, none, 0, 0, Nat.zero_le _, by omega, rfl, rfl, rfl, rfl, by omega, Nat.le_refl _, HI0.out⟩
  case round =>
    obtain ⟨k, now, at_, took, T, A1, n1, c1, A2, n2, c2, hk, hk40, rfl, rfl, rfl, rfl, hnow, htl, hS⟩ := hrel
    have HS := hide hS
    clear hS HI0
    by_cases hlt : k < n0
    · by_cases hl4 : k < 40
      · obtain ⟨B1, o1, rfl, x0, x1, hN⟩ := HA0.out.at_ k hlt
        have y0 := HS.out.kp.cell x0 fun f => f
        have y1 := HS.out.kp.cell x1 fun f => f
        have HX1 := hide x1
        clear x0 x1
        by_cases hkd : KK k = 1
        · have t1 : (KK k == 1) = true := by simp [hkd]
          clear hkd
          obtain ⟨m, hm⟩ : ∃ m, m = NN k % 1000 := ⟨_, rfl⟩
          have e1 : ((NN k : Nat) : Int).tmod 1000 = (m : Int) := by rw [IntWalk.rem_in _ _ (by omega)]; omega
          have e2 : ((NN k : Nat) : Int) % 1000 = (m : Int) := by omega
          have hm1 : m < 1000 := by omega
          have e3 : IntKind.u64.wrap ((now : Int) + (m : Int)) = ((now + m : Nat) : Int) := by rw [IntKind.wrap_u64]; omega
          clear hm e3 hN
          go_wp2_with fail
          refine (ptick_any HS.out.pr m (by omega)).mono ?_
          rintro e w5 ⟨rfl, h5, k5⟩
          have HS5 := hide (HS.out.call h5 k5 rfl rfl (HS.out.kt.tick m))
          clear y0 y1 h5 k5
          have y1 := HS5.out.kp.cell HX1.out fun f => f
          go_wp2_with fail
          go_round
          case rel => exact ⟨k + 1, now + m, at_, took, _, A1, n1, c1, A2, n2, c2, by omega, by omega, by go_num, by go_num, rfl, rfl, by omega, by omega, HS5.out⟩
          case measure => simp [intOf]; omega
        · have t1 : (KK k == 1) = false := by simp [hkd]
          clear hkd
          obtain ⟨m, hm⟩ : ∃ m, m = NN k % 8589934592 := ⟨_, rfl⟩
          have e1 : ((NN k : Nat) : Int).tmod 8589934592 = (m : Int) := by rw [IntWalk.rem_in _ _ (by omega)]; omega
          have e2 : ((NN k : Nat) : Int) % 8589934592 = (m : Int) := by omega
          have hm1 : m < 8589934592 := by omega
          clear hm hN
          obtain ⟨U, hU⟩ : ∃ U, U = T.spend m := ⟨_, rfl⟩
          obtain ⟨ok, hok⟩ : ∃ ok, ok = decide (m ≤ T.level) := ⟨_, rfl⟩
          have hur : U.rate = T.rate := by rw [hU]; unfold Pu.spend; split <;> rfl
          have hub : U.burst = T.burst := by rw [hU]; unfold Pu.spend; split <;> rfl
          have HUR := hide hur
          have HUB := hide hub
          have HU := hide hU
          have HOK := hide hok
          clear hU hok hur hub
          go_wp2_with fail
          refine (pspend_any HS.out.pr m).mono ?_
          rintro e w5 ⟨rfl, h5, k5⟩
          rw [← HU.out] at h5
          rw [← HOK.out]
          have H5 := hide h5
          have HK5 := hide k5
          clear y0 y1 h5 k5
          go_upto_if 72 with fail
          go_cut [10, 11] (fun v10 v11 wx => ∃ (at2 took2 : List Nat) (A1 : Option Addr) (n1 c1 : Nat) (A2 : Option Addr) (n2 c2 : Nat), v10 = .slice A1 n1 c1 ∧ v11 = .slice A2 n2 c2 ∧ took2.length ≤ k + 1 ∧ PbI W g r b U now at2 took2 (.slice A1 n1 c1) (.slice A2 n2 c2) wx)
          case first =>
            cases hq : ok
            · have e : U = T := by
                rw [HU.out]
                exact if_neg fun hle => by
                  have := HOK.out
                  rw [hq, decide_eq_true hle] at this
                  cases this
              subst e
              have HS5 := hide (HS.out.call H5.out HK5.out rfl rfl HS.out.kt)
              clear hq
              go_wp2_with fail
              go_meet
              exact ⟨at_, took, A1, n1, c1, A2, n2, c2, rfl, rfl, by omega, HS5.out⟩
            · have hle : m ≤ T.level := by
                have := HOK.out
                rw [hq] at this
                exact of_decide_eq_true this.symm
              have hul : U.level ≤ T.level := by rw [HU.out]; unfold Pu.spend; split <;> simp
              have HKT : Hid (Kept U now (at_ ++ [now]) (took ++ [m])) := by rw [HU.out]; exact HS.out.kt.spend HS.out.pr.ok hle
              have HS5 := hide (HS.out.call H5.out HK5.out HUR.out HUB.out (HS.out.kt.less HUR.out HUB.out hul))
              have ka := Kp.alloc No w5 (.cells #[.int .u64 (now : Int)] 22)
              have ha6 := HS5.out.oa.no ka
              have hb6 : W.heap.size ≤ (w5.alloc (.cells #[.int .u64 (now : Int)] 22)).heap.size := Nat.le_trans HS5.out.kp.size ka.size
              have hl2 : took.length + 1 ≤ 1000000 := by omega
              have hl1 : at_.length + 1 ≤ 1000000 := by rw [HS.out.kt.len]; exact hl2
              clear hq hle hul ka
              go_wp2_with (first
                | (at_builtin
                   refine wpList_appT ty_u64 rfl (.tmp 73) (.tmp 75) _ rfl Try.underlying46 rfl ha6 _ _ rfl (nws_one (fresh_u w5 now) rfl) hl1 hb6 ?_
                   intro A3 n3 c3 w6 hn3 happ
                   have HAPP := hide happ
                   have kb := Kp.alloc No w6 (.cells #[.int .u64 (m : Int)] 22)
                   have ht6 := ((HS5.out.ot.no (Kp.alloc No w5 (.cells #[.int .u64 (now : Int)] 22))).keep happ.kp fun q e f => HS5.out.ap q f e).no kb
                   have hb7 : W.heap.size ≤ (w6.alloc (.cells #[.int .u64 (m : Int)] 22)).heap.size := Nat.le_trans (Nat.le_trans hb6 happ.kp.size) kb.size
                   clear happ ha6 hb6 hn3)
                | (at_builtin
                   refine wpList_appT ty_u64 rfl (.tmp 77) (.tmp 79) _ rfl Try.underlying46 rfl ht6 _ _ rfl (nws_one (fresh_u w6 m) rfl) hl2 hb7 ?_
                   intro A4 n4 c4 w7 hn4 happ2
                   have HAPP2 := hide happ2
                   clear happ2 ht6 hb7 hn4 kb))
              go_meet
              exact ⟨at_ ++ [now], took ++ [m], A3, n3, c3, A4, n4, c4, rfl, rfl, by rw [List.length_append]; simp; omega, HS5.out.app (Kp.alloc No w5 _) HAPP.out (Kp.alloc No w6 _) HAPP2.out HKT.out⟩
          case rest =>
            have HUR2 : Hid (U.rate = r ∧ U.burst = b) := ⟨HUR.out.trans HS.out.rt, HUB.out.trans HS.out.bu⟩
            clear HS H5 HK5 HX1 HU HOK HUR HUB
            obtain ⟨at2, took2, A3, n3, c3, A4, n4, c4, rfl, rfl, htl2, hS⟩ := hcut
            have HS := hide hS
            have ln3 := hS.oa.len
            have ln4 := hS.ot.len
            have lk := hS.kt.len
            obtain rfl : n3 = n4 := by omega
            have HLN : Hid (n3 = took2.length) := ln4
            have HLA : Hid (n3 = at2.length) := ln3
            have hn3 : n3 ≤ 41 := by omega
            clear hS ln3 ln4 lk
            go_wp2_with fail
            go_loopw [14, 15] (fun sv kv wr => ∃ j : Nat, j ≤ n3 ∧ kv = .int .i64 ((j : Int) - 1) ∧ sv = .int .u64 (sinceN took2 j : Int) ∧ Kp No wc wr) (fun _ kv _ => (intOf kv + 1).toNat)
            case atStart => exact ⟨n3, Nat.le_refl _, rfl, by rw [HLN.out, sinceN_len]; rfl, Kp.refl _ _⟩
            case round =>
              obtain ⟨j, hj, rfl, rfl, hkw⟩ := hrel
              have HS2 := hide (HS.out.no hkw)
              have HKW := hide hkw
              clear hkw
              rcases j with _ | q
              · go_wp2_with fail
                go_round
                case rel => exact ⟨k + 1, now, at2, took2, U, A3, n3, c3, A4, n3, c4, by omega, by omega, by go_num, rfl, rfl, rfl, by omega, htl2, HS2.out⟩
                case measure => simp [intOf]; omega
              · have e0 : (((q + 1 : Nat) : Int) - 1) = (q : Int) := by omega
                rw [e0]
                have hqa : q < at2.length := by rw [← HLA.out]; omega
                have hqt : q < took2.length := by rw [← HLN.out]; omega
                obtain ⟨x, hx⟩ : ∃ x, at2[q]? = some x := ⟨_, List.getElem?_eq_getElem hqa⟩
                obtain ⟨y, hy⟩ : ∃ y, took2[q]? = some y := ⟨_, List.getElem?_eq_getElem hqt⟩
                obtain ⟨g3, rfl, -⟩ := HS2.out.oa.some_ (by omega)
                obtain ⟨g4, rfl, -⟩ := HS2.out.ot.some_ (by omega)
                have xa : wr.cell? ⟨g3, q, none⟩ = some (.int .u64 (x : Int)) := HS2.out.oa.cellAt (by rw [List.getElem?_map, hx]; rfl)
                have xt : wr.cell? ⟨g4, q, none⟩ = some (.int .u64 (y : Int)) := HS2.out.ot.cellAt (by rw [List.getElem?_map, hy]; rfl)
                have hs := sinceN_at hy
                have hbd := HS2.out.kt.bd q x hx
                have hle := HS2.out.kt.le hx
                obtain ⟨hb1, hb2⟩ := HUR2.out
                have hR := HR.out
                have hB := HB.out
                obtain ⟨d, hd⟩ : ∃ d, d = now - x := ⟨_, rfl⟩
                rw [← hd] at hle
                have hrd := Nat.mul_le_mul (show U.rate ≤ 4294967295 by omega) (show d ≤ 40000 by omega)
                have hbo : U.bound d = U.burst + U.rate * d := cutN_in (by omega)
                have e2 : IntKind.u64.wrap ((now : Int) - (x : Int)) = (d : Int) := by rw [IntKind.wrap_u64]; omega
                obtain ⟨s1, hs1⟩ : ∃ s1, s1 = sinceN took2 (q + 1) := ⟨_, rfl⟩
                obtain ⟨s0, hs0⟩ : ∃ s0, s0 = sinceN took2 q := ⟨_, rfl⟩
                rw [← hs1, ← hs0] at hs
                rw [← hs0] at hle
                have e1 : IntKind.u64.wrap ((s1 : Int) + (y : Int)) = (s0 : Int) := by rw [IntKind.wrap_u64]; omega
                have HC := hide (pbound_any HS2.out.pr d (by omega))
                obtain ⟨bd, hbd2⟩ : ∃ bd, bd = U.bound d := ⟨_, rfl⟩
                rw [← hbd2] at HC
                have cf : decide (bd < s0) = false := decide_eq_false (by omega)
                have HS0 := hide hs0
                rw [← hs1]
                clear e0 hqa hqt hx hy hs hbd hle hb1 hb2 hR hB hd hrd hbo hs1 hs0 hbd2
                go_wp2_with fail
                refine HC.out.mono ?_
                rintro e w8 ⟨rfl, k8⟩
                have HK8 := hide (HKW.out.trans' k8)
                clear k8 xa xt
                go_wp2_with fail
                go_round
                case rel => exact ⟨q, by omega, rfl, by rw [HS0.out], HK8.out⟩
                case measure => simp [intOf]
      · obtain rfl : k = 40 := by omega
        go_wp2_with fail
        refine (awake18_any _).mono ?_
        rintro e w9 ⟨rfl, k9⟩
        go_wp2_with fail
        go_ret
        exact ⟨rfl, HS.out.kp.trans' k9⟩
    · obtain rfl : k = n0 := by omega
      have hk4 : k < 40 ∨ k = 40 := by omega
      go_wp2_with fail
      refine (awake18_any _).mono ?_
      rintro e w9 ⟨rfl, k9⟩
      go_wp2_with fail
      go_ret
      exact ⟨rfl, HS.out.kp.trans' k9⟩
theorem pursebounds_walk (W : World) (r b : Int) (hr : (Lit.int .u32 r).wf = true) (hb : (Lit.int .u32 b).wf = true) {A0 : Option Addr} {n0 c0 : Nat} {KK : Nat → Int} {NN : Nat → Nat} (h0 : ActsQ W A0 n0 KK NN) :
    Calls Try.prog 5 #[.int .u32 r, .int .u32 b, .slice A0 n0 c0] W fun e W' => e = .returned (.bool true) ∧ Below W.heap.size W W' := by
  have h1 := bounds_u32 hr
  have h2 := bounds_u32 hb
  obtain ⟨r', rfl⟩ : ∃ y : Nat, r = y := ⟨r.toNat, by omega⟩
  obtain ⟨b', rfl⟩ : ∃ y : Nat, b = y := ⟨b.toNat, by omega⟩
  exact (pursebounds_any W r' b' (by omega) (by omega) h0).mono fun e W' p => ⟨p.1, p.2.below0⟩
end Go.Proofs.Ytjjdkkncdnipcaa
