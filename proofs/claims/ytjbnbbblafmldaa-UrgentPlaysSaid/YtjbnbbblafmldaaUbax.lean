/- The document's Put of jobs, as a contract. No condition. -/
import Derived.Test.YtjbnbbblafmldaaUbaw
import Derived.Deep.DeepCutAuto
import Derived.Deep.CutBlock
namespace Go.Proofs.Ytjbnbbblafmldaa
open Go.RowKit
set_option linter.unusedVariables false
set_option linter.unusedSimpArgs false
set_option maxRecDepth 20000

theorem Nws.no {w w1 : World} {ad : Addr} {m sz : Nat} {cs : List Value} (h : Nws w ad m sz cs) (hk : Kp No w w1) : Nws w1 ad m sz cs := ⟨h.len, fun j u hu => hk.cell (h.at_ j u hu) fun f => f, h.one⟩
theorem Nws.far {S : Nat → Prop} {w w1 : World} {ad : Addr} {m sz : Nat} {cs : List Value} (h : Nws w ad m sz cs) (hk : Kp S w w1) (hS : ¬ S ad.block) : Nws w1 ad m sz cs := ⟨h.len, fun j u hu => hk.cell (h.at_ j u hu) (by rw [blk_add]; exact hS), h.one⟩
theorem rj_empty (w : World) : JbR (w.alloc (.cells #[] 26)) w.heap.size 26 (.slice (some ⟨w.heap.size, 0, none⟩) 0 0) [] :=
  World.ownsRow_made w #[] 0 (Nat.le_refl _) (Nat.zero_le _) rfl
/-- append of any slice, nil too, as a step of a region. -/
theorem step_appSg {w : World} {base : Nat} {e : TypeId} {sz n m c : Nat} {v z : Value} {xs cs : List Value} {ops : Array Oper} {o : Oper} {a : Act} {Q : Exit → Act → World → Prop} {K : Act → World → Prop} {E : Prop} {bt : Nat} (hT : Ty e z sz bt) (hgd : o.guard = none) (s x : Operand) (t : TypeId)
    (ho : o.op = .call { callee := .builtin .append, args := #[s, x], argTypes := #[t, t] })
    (ht : Try.prog.underlying t = some (.slice e)) (hs : a.eval s = v) (h : OwnT w base e sz v n xs) (A : Option Addr) (hx : a.eval x = .slice A m c) (h0 : A = none → m = 0 ∧ c = 0 ∧ cs = []) (hN : ∀ ad, A = some ad → Nws w ad m sz cs) (hlen : n + m ≤ 1000000) (hb : base ≤ w.heap.size)
    (hQ : ∀ A1 n1 c1 w1, n1 = n + m → AppT w base e sz v n xs m cs (.slice A1 n1 c1) w1 → K (a.put o.dst (.slice A1 n1 c1)) w1) : if Region.wanted o (yielded ops a.tmps) = true then Oper.wp Try.prog o a w K Q else E := by
  rcases A with _ | ad
  · obtain ⟨rfl, rfl, rfl⟩ := h0 rfl
    have hw : Region.wanted o (yielded ops a.tmps) = true := by simp [Region.wanted, hgd]
    rw [if_pos hw]
    obtain ⟨⟨i0, hi0, hz0, hz1, hz2⟩, _⟩ := hT
    have hr := fun ty => run_append_owned_none (P := Try.prog) w base t ty e i0 sz ht hi0 v n _ h
    obtain ⟨A1, c1, rfl⟩ := h.form
    unfold Oper.wp execOp
    simp only [ho, resolve, invoke, builtin, Sem.run_bind, Sem.run_pure, Result.andThen_ok, List.map_toArray, List.map_cons, List.map_nil, hs, hx, hr]
    exact hQ A1 n c1 w (by omega) ⟨by simpa using h, Kp.refl _ _, .inl rfl⟩
  · exact step_appT hT hgd s x t ho ht hs h ad c hx (hN ad rfl) hlen hb hQ
theorem jbC_drop : ∀ (L : List Nat) (k : Nat), (jbC L).drop (k * 3) = jbC (L.drop k)
  | [], k => by simp [jbC]
  | x :: L, 0 => by simp
  | x :: L, k + 1 => by
    have ih := jbC_drop L k
    rw [jbC_cons, List.drop_succ_cons, ← ih, show (k + 1) * 3 = 3 + k * 3 by omega, ← List.drop_drop]
    rfl
/-- A part of a row that is to be appended. -/
structure RdP (w : World) (A : Option Addr) (m c : Nat) (xs : List Nat) : Prop where
  z : A = none → m = 0 ∧ c = 0 ∧ jbC xs = []
  nw : ∀ ad, A = some ad → Nws w ad m 3 (jbC xs)
  len : m = xs.length
theorem RdP.upto {w : World} {base n c k : Nat} {A : Option Addr} {t : TypeId} {L : List Nat} (h : JbR w base t (.slice A n c) L) (hk : k ≤ n) : RdP w A k c (L.take k) := by
  have hl := OwnT.len h
  refine ⟨fun e => ?_, fun ad e => ?_, by rw [List.length_take]; omega⟩
  · subst e
    rcases h.2 with ⟨e1, h0⟩ | ⟨g, cap, cur, e1, _⟩
    · injection e1 with e1 e2 e3
      obtain rfl : k = 0 := by omega
      exact ⟨rfl, e3, rfl⟩
    · cases e1
  · subst e
    rcases h.2 with ⟨e1, h0⟩ | ⟨g, cap, cur, e1, _⟩
    · cases e1
    · injection e1 with e1
      injection e1 with e1
      subst e1
      refine ⟨by rw [jbC_len, List.length_take, Nat.min_eq_left (by omega)], fun j u hu => ?_, jbC_cell _⟩
      rw [add_none, Nat.zero_add]
      rw [← jbC_take, List.getElem?_take] at hu
      split at hu
      · exact OwnT.cellAt h hu
      · cases hu
theorem RdP.from_ {w : World} {base n c k m mc : Nat} {A : Option Addr} {t : TypeId} {L : List Nat} (h : JbR w base t (.slice A n c) L) (hk : k ≤ n) (hm : m = n - k) (hmc : mc = c - k) : RdP w (if c = k then A else A.map (·.add (k * 3))) m mc (L.drop k) := by
  have hl := OwnT.len h
  subst hm hmc
  refine ⟨fun e => ?_, fun ad e => ?_, by rw [List.length_drop]; omega⟩
  · have hA : A = none := by
      rcases A with _ | a
      · rfl
      · split at e <;> cases e
    subst hA
    rcases h.2 with ⟨e1, h0⟩ | ⟨g, cap, cur, e1, _⟩
    · injection e1 with e1 e2 e3
      have : L = [] := List.eq_nil_of_length_eq_zero h0
      subst this
      exact ⟨by omega, by omega, by simp [jbC]⟩
    · cases e1
  · rcases h.2 with ⟨e1, h0⟩ | ⟨g, cap, cur, e1, _⟩
    · injection e1 with e1 e2 e3
      subst e1
      split at e <;> cases e
    · injection e1 with e1 e2 e3
      subst e1
      rcases Nat.lt_or_ge k n with hkn | hkn
      · have hc := OwnT.cap h
        rw [if_neg (by omega)] at e
        injection e with e
        subst e
        refine ⟨by rw [jbC_len, List.length_drop]; omega, fun j u hu => ?_, jbC_cell _⟩
        dsimp only
        rw [add_none, add_none, Nat.zero_add]
        rw [← jbC_drop, List.getElem?_drop] at hu
        exact OwnT.cellAt h hu
      · have : L.drop k = [] := List.drop_eq_nil_of_le (by omega)
        rw [this, show n - k = 0 by omega]
        exact nws_none ad 3
/-- l[k:] of the document's jobs. -/
theorem rjsl_at (A : Option Addr) {L cl k r rc : Nat} (hk : k ≤ L) (hcl : L ≤ cl) (hr : r = L - k) (hrc : rc = cl - k) (w' : World) :
    (Instr.slice 30 (.slice A L cl) (some (.int .i64 (k : Int))) none none).run Try.prog w' = .ok (.slice (if cl = k then A else A.map (·.add (k * 3))) r rc) w' := by
  subst hr hrc
  rw [run_slice_l w' _ _ _ _ rjsl_under .i64 _ (by omega) (by omega), rjsl_size]
  simp only [Result.andThen, sliced, Int.toNat_natCast]
theorem JbR.capR {w : World} {base n c : Nat} {A : Option Addr} {t : TypeId} {L : List Nat} (h : JbR w base t (.slice A n c) L) : n ≤ c := by
  rcases h.2 with ⟨e1, h0⟩ | ⟨g, cap, cur, e1, _, _, h1, _⟩
  · injection e1 with e1 e2 e3
    omega
  · injection e1 with e1 e2 e3
    omega
/-- What the region holds: as it began, and j's box. -/
def RpS (w : World) (s j : Nat) (w' : World) : Prop := Kp No w w' ∧ Bx3 26 w' s (.int .u32 (jO j : Int)) (.int .u16 (jS j : Int)) (.int .i64 (jG j))
theorem RpS.no {w w1 w2 : World} {s j : Nat} (h : RpS w s j w1) (hk : Kp No w1 w2) : RpS w s j w2 := ⟨h.1.trans' hk, h.2.no hk⟩
set_option maxHeartbeats 4000000 in
theorem rput_any {w : World} {A : Option Addr} {n c j : Nat} {r : List Nat} (h : RdJ w A n r) (hn : r.length ≤ 900000) :
    Calls Try.prog 13 #[.slice A n c, jbV j] w (RjPost w (rPut r j)) := by
  have K1 := Kp.alloc No w (.cells #[.int .u32 (jO j : Int), .int .u16 (jS j : Int), .int .i64 (jG j)] 26)
  have HD0 := rdrop_any (c := c) (k := ky j) (h.no K1) hn
  have HD : Hid (Calls Try.prog 11 #[.slice A n c, .int .u32 (jO j : Int), .int .u16 (jS j : Int)] (w.alloc (.cells #[.int .u32 (jO j : Int), .int .u16 (jS j : Int), .int .i64 (jG j)] 26)) (RjPost (w.alloc (.cells #[.int .u32 (jO j : Int), .int .u16 (jS j : Int), .int .i64 (jG j)] 26)) (rDrop r (ky j)))) := HD0
  have HB := hide (Bx3.new w 26 (.int .u32 (jO j : Int)) (.int .u16 (jS j : Int)) (.int .i64 (jG j)))
  have HK := hide K1
  have hll : (rDrop r (ky j)).length ≤ 900000 := Nat.le_trans rDrop_len_le hn
  have HR : Hid (rPut r j = rIns (rDrop r (ky j)) j) := rfl
  obtain ⟨L, hL⟩ : ∃ L, L = rDrop r (ky j) := ⟨_, rfl⟩
  rw [← hL] at HD hll HR
  have HLL := hide hll
  rw [HR.out]
  obtain ⟨x0, x1, x2⟩ := HB.out.cell
  clear HD0 K1 h hn hL hll HR
  go_enter Try.func13, Try.ntmps13
  go_wp2_with fail
  refine HD.out.mono ?_
  rintro e w1 ⟨A1, n1, c1, rfl, ho, k1⟩
  have HB1 := hide (HB.out.no k1)
  have HK1 := hide (HK.out.trans' k1)
  have HSL : Hid (w.heap.size < w1.heap.size) := HB1.out.lt
  have HO := hide ho
  have hnl := OwnT.len ho
  have hnb : n1 ≤ 900000 := by rw [hnl]; exact HLL.out
  have HN := hide hnl
  clear HB HK HD k1 ho hnl x0 x1 x2
  obtain ⟨s, hs⟩ : ∃ s, s = w.heap.size := ⟨_, rfl⟩
  rw [← hs] at HB1 HSL ⊢
  have HSS := hide hs
  clear hs
  go_upto_block 0 with fail
  go_cut [5] (fun v wx => v = .int .i64 ((rAt L j : Nat) : Int) ∧ Kp No w1 wx)
  case first =>
    go_wp2_with fail
    go_loopw [5] (fun u wr => ∃ i : Nat, i ≤ n1 ∧ u = .int .i64 (i : Int) ∧ (∀ (a : Nat) (y : Nat), a < i → L[a]? = some y → y < j) ∧ Kp No w1 wr) (fun u _ => n1 - (intOf u).toNat)
    case atStart => exact ⟨0, Nat.zero_le _, rfl, fun a y ha => absurd ha (Nat.not_lt_zero _), Kp.refl No w1⟩
    case round =>
      obtain ⟨i, hi, rfl, hb, hk⟩ := hrel
      have HBB := hide hb
      have HKR := hide hk
      clear hb hk
      by_cases hin : i < n1
      · obtain ⟨x, hx⟩ : ∃ x, L[i]? = some x := ⟨_, List.getElem?_eq_getElem (by rw [← HN.out]; exact hin)⟩
        obtain ⟨B, off, rfl, y0, y1, y2⟩ := ((RdJ.of_row HO.out).no HKR.out).at_ i x hx
        obtain ⟨j0, j1, j2⟩ := (HB1.out.no HKR.out).cell
        have HX := hide hx
        have hz : decide (i < n1) = true := decide_eq_true hin
        have hz2 : (i : Int) < n1 := by omega
        have HCM := hide (fun w => rless_any w x j)
        clear hx
        by_cases hxj : x < j
        · have hd : decide (x < j) = true := decide_eq_true hxj
          have HJ := hide hxj
          clear hxj
          go_wp2_with fail
          go_region_held3 (fun w' => w'.cell? ⟨B, off + i * 3, none⟩ = some (.int .u32 (jO x : Int)) ∧ w'.cell? ⟨B, off + i * 3 + 1, none⟩ = some (.int .u16 (jS x : Int)) ∧ w'.cell? ⟨B, off + i * 3 + 2, none⟩ = some (.int .i64 (jG x)) ∧
              w'.cell? ⟨s, 0, none⟩ = some (.int .u32 (jO j : Int)) ∧ w'.cell? ⟨s, 1, none⟩ = some (.int .u16 (jS j : Int)) ∧ w'.cell? ⟨s, 2, none⟩ = some (.int .i64 (jG j))) (first | assumption | go_keep)
            (first
              | (go_at_call 21; ((with_reducible refine (HCM.out _).mono ?_); rintro e w2 ⟨rfl, k2⟩); have s1 := ukept6 k2 (by assumption)))
          have HK2 := hide ((HKR.out.drew).trans' k2)
          clear y0 y1 y2 j0 j1 j2 k2
          go_wp2_with fail
          go_round
          case rel =>
            refine ⟨i + 1, by omega, by go_num, fun a y ha hy => ?_, HK2.out⟩
            rcases Nat.lt_or_ge a i with g | g
            · exact HBB.out a y g hy
            · obtain rfl : a = i := by omega
              rw [HX.out] at hy
              injection hy with hy
              rw [← hy]
              exact HJ.out
          case measure => simp [intOf]; omega
        · have hd : decide (x < j) = false := decide_eq_false hxj
          have HI : Hid (((i : Nat) : Int) = ((rAt L j : Nat) : Int)) := by show _ = _; rw [rAt_eq HBB.out HX.out (by omega)]
          clear hxj
          go_wp2_with fail
          go_region_held3 (fun w' => w'.cell? ⟨B, off + i * 3, none⟩ = some (.int .u32 (jO x : Int)) ∧ w'.cell? ⟨B, off + i * 3 + 1, none⟩ = some (.int .u16 (jS x : Int)) ∧ w'.cell? ⟨B, off + i * 3 + 2, none⟩ = some (.int .i64 (jG x)) ∧
              w'.cell? ⟨s, 0, none⟩ = some (.int .u32 (jO j : Int)) ∧ w'.cell? ⟨s, 1, none⟩ = some (.int .u16 (jS j : Int)) ∧ w'.cell? ⟨s, 2, none⟩ = some (.int .i64 (jG j))) (first | assumption | go_keep)
            (first
              | (go_at_call 21; ((with_reducible refine (HCM.out _).mono ?_); rintro e w2 ⟨rfl, k2⟩); have s1 := ukept6 k2 (by assumption)))
          have HK2 := hide ((HKR.out.drew).trans' k2)
          clear y0 y1 y2 j0 j1 j2 k2
          go_wp2_with fail
          go_meet
          exact ⟨by rw [HI.out], HK2.out⟩
      · have hz : decide (i < n1) = false := decide_eq_false hin
        have hz2 : ¬ (i : Int) < n1 := by omega
        have HI : Hid (((i : Nat) : Int) = ((rAt L j : Nat) : Int)) := by show _ = _; rw [rAt_end HBB.out (by have := HN.out; omega)]
        go_wp2_with fail
        go_quiet (fail)
        go_wp2_with fail
        go_meet
        exact ⟨by rw [HI.out], HKR.out.drewN _⟩
  case rest =>
    obtain ⟨rfl, hkc⟩ := hcut
    rename World => wS
    have HAT : Hid (rAt L j ≤ n1) := by have := rAt_le (l := L) (j := j); have := HN.out; show _ ≤ _; omega
    have HRI : Hid (rIns L j = L.take (rAt L j) ++ ([j] ++ L.drop (rAt L j))) := rfl
    generalize rAt L j = p at HAT HRI ⊢
    have HCP := hide (JbR.capR HO.out)
    obtain ⟨m, hm⟩ : ∃ m, m = n1 - p := ⟨_, rfl⟩
    obtain ⟨mc, hmc⟩ : ∃ mc, mc = c1 - p := ⟨_, rfl⟩
    have hs1 := rjsl_u A1 HAT.out HCP.out
    have hs2 := rjsl_at A1 HAT.out HCP.out hm hmc
    have HT := hide (fun w' (hk : Kp No wS w') => (RdP.upto (OwnT.no HO.out (hkc.trans' hk)) HAT.out))
    have HDR := hide (fun w' (hk : Kp No wS w') => (RdP.from_ (OwnT.no HO.out (hkc.trans' hk)) HAT.out hm hmc))
    have HLT : Hid (p ≤ 900000 ∧ m ≤ 900000 ∧ p + m ≤ 900000) := by
      have := HAT.out
      exact ⟨by omega, by omega, by omega⟩
    generalize (if c1 = p then A1 else A1.map (·.add (p * 3))) = A2 at hs2 HDR
    have HKS := hide (HK1.out.trans' hkc)
    have HBS := hide (HB1.out.no hkc)
    have HSG : Hid (s < wS.heap.size) := by have := hkc.size; have := HSL.out; show _ < _; omega
    have HT1 : Hid (p = (L.take p).length) := (HT.out wS (Kp.refl No wS)).len
    have HD1 : Hid (m = (L.drop p).length) := (HDR.out wS (Kp.refl No wS)).len
    clear hm hmc hkc HB1 HK1 HSL
    go_upto_region 5 with (fail)
    refine wp_region_noPanic ?_
    refine wp_region_held_drew (S := fun w' => RpS wS s j w') (by kernel_rfl) (⟨(Kp.refl No wS).drew, HBS.out.no (Kp.refl No wS).drew⟩) (fun hHeld => ?_)
    generalize wS.drew = v at hHeld ⊢
    refine wpAnyH_take (i := 1) (v := ?vgx1) (oi := ?ogx1) ?hgx1 (by kernel_rfl) (by kernel_rfl) (by kernel_rfl) (fun _ _ _ h => h) (Or.inl ⟨?wgx1, ?ygx1⟩) hHeld ?rgx1
    case hgx1 => simp only [List.getElem?_toArray, List.getElem?_cons_zero, List.getElem?_cons_succ]; rfl
    case wgx1 => rfl
    case ygx1 => intro w hSw; (try dsimp only at hSw); go_simp; (try with_reducible rfl)
    simp only [Act.put, List.setIfInBounds_toArray, List.set_cons_zero, List.set_cons_succ]
    refine wpAnyH_take (i := 2) (v := ?vgx2) (oi := ?ogx2) ?hgx2 (by kernel_rfl) (by kernel_rfl) (by kernel_rfl) (fun _ _ _ h => h) (Or.inl ⟨?wgx2, ?ygx2⟩) hHeld ?rgx2
    case hgx2 => simp only [List.getElem?_toArray, List.getElem?_cons_zero, List.getElem?_cons_succ]; rfl
    case wgx2 => rfl
    case ygx2 => intro w hSw; (try dsimp only at hSw); go_simp; (try with_reducible rfl)
    simp only [Act.put, List.setIfInBounds_toArray, List.set_cons_zero, List.set_cons_succ]
    refine wpAnyH_take (i := 3) (v := ?vgx3) (oi := ?ogx3) ?hgx3 (by kernel_rfl) (by kernel_rfl) (by kernel_rfl) (fun _ _ _ h => h) (Or.inl ⟨?wgx3, ?ygx3⟩) hHeld ?rgx3
    case hgx3 => simp only [List.getElem?_toArray, List.getElem?_cons_zero, List.getElem?_cons_succ]; rfl
    case wgx3 => rfl
    case ygx3 => intro w hSw; (try dsimp only at hSw); go_simp; (try with_reducible rfl)
    simp only [Act.put, List.setIfInBounds_toArray, List.set_cons_zero, List.set_cons_succ]
    refine wpAnyH_take (i := 5) (v := ?vgx4) (oi := ?ogx4) ?hgx4 (by kernel_rfl) (by kernel_rfl) (by kernel_rfl) (fun _ _ _ h => h) (Or.inl ⟨?wgx4, ?ygx4⟩) hHeld ?rgx4
    case hgx4 => simp only [List.getElem?_toArray, List.getElem?_cons_zero, List.getElem?_cons_succ]; rfl
    case wgx4 => rfl
    case ygx4 =>
      intro w hSw
      (try dsimp only at hSw)
      obtain ⟨i0, i1, i2⟩ := hSw.2.cell
      go_simp
      try with_reducible rfl
    simp only [Act.put, List.setIfInBounds_toArray, List.set_cons_zero, List.set_cons_succ]
    refine wpAnyH_take (i := 8) (v := ?vgx5) (oi := ?ogx5) ?hgx5 (by kernel_rfl) (by kernel_rfl) (by kernel_rfl) (fun _ _ _ h => h) (Or.inl ⟨?wgx5, ?ygx5⟩) hHeld ?rgx5
    case hgx5 => simp only [List.getElem?_toArray, List.getElem?_cons_zero, List.getElem?_cons_succ]; rfl
    case wgx5 => rfl
    case ygx5 => intro w hSw; (try dsimp only at hSw); go_simp; (try with_reducible rfl)
    simp only [Act.put, List.setIfInBounds_toArray, List.set_cons_zero, List.set_cons_succ]
    refine wpAnyH_take (i := 9) (v := ?vgx6) (oi := ?ogx6) ?hgx6 (by kernel_rfl) (by kernel_rfl) (by kernel_rfl) (fun _ _ _ h => h) (Or.inl ⟨?wgx6, ?ygx6⟩) hHeld ?rgx6
    case hgx6 => simp only [List.getElem?_toArray, List.getElem?_cons_zero, List.getElem?_cons_succ]; rfl
    case wgx6 => rfl
    case ygx6 => intro w hSw; (try dsimp only at hSw); go_simp; (try with_reducible rfl)
    simp only [Act.put, List.setIfInBounds_toArray, List.set_cons_zero, List.set_cons_succ]
    refine wpAnyH_take (i := 10) (v := ?vgx7) (oi := ?ogx7) ?hgx7 (by kernel_rfl) (by kernel_rfl) (by kernel_rfl) (fun _ _ _ h => h) (Or.inl ⟨?wgx7, ?ygx7⟩) hHeld ?rgx7
    case hgx7 => simp only [List.getElem?_toArray, List.getElem?_cons_zero, List.getElem?_cons_succ]; rfl
    case wgx7 => rfl
    case ygx7 => intro w hSw; (try dsimp only at hSw); go_simp; (try with_reducible rfl)
    simp only [Act.put, List.setIfInBounds_toArray, List.set_cons_zero, List.set_cons_succ]
    refine wpAnyH_ready (rs := [0, 6]) (by kernel_rfl) (by simp) ?_
    refine (AllReadyH.cons (o := ?ogx9) ?hgx9 (fun K hK => ?sgx9) (AllReadyH.cons (o := ?ogx10) ?hgx10 (fun K hK => ?sgx10) AllReadyH.nil))
    case hgx9 => simp only [List.getElem?_toArray, List.getElem?_cons_zero, List.getElem?_cons_succ]; rfl
    case hgx10 => simp only [List.getElem?_toArray, List.getElem?_cons_zero, List.getElem?_cons_succ]; rfl
    case sgx9 =>
      go_simp
      have kA := Kp.alloc No v (.cells #[] 26)
      have kH := hHeld.no kA
      have HEv_0 := hide (ownT_rebase (b := wS.heap.size) (rj_empty v) (fun q e => by have e : v.heap.size = q := Option.some.inj e; have := hHeld.1.size; omega))
      have HZv_0 : Hid (v.heap.size = v.heap.size) := rfl
      clear kA
      generalize v.alloc (.cells #[] 26) = v_0 at kH HEv_0 ⊢
      generalize v.heap.size = e0 at HEv_0 HZv_0 ⊢
      have HL0 : Hid (e0 < v_0.heap.size) := OwnT.lt HEv_0.out e0 rfl
      refine hK.out _ _ (kH) (fun hHeld => ?_)
      clear hK K
      try simp only [Act.put, List.setIfInBounds_toArray, List.set_cons_zero, List.set_cons_succ]
      refine wpAnyH_ready (rs := [4, 6]) (by kernel_rfl) (by simp) ?_
      refine (AllReadyH.cons (o := ?ogx12) ?hgx12 (fun K hK => ?sgx12) (AllReadyH.cons (o := ?ogx13) ?hgx13 (fun K hK => ?sgx13) AllReadyH.nil))
      case hgx12 => simp only [List.getElem?_toArray, List.getElem?_cons_zero, List.getElem?_cons_succ]; rfl
      case hgx13 => simp only [List.getElem?_toArray, List.getElem?_cons_zero, List.getElem?_cons_succ]; rfl
      case sgx12 =>
        refine step_appSg ty_rj rfl (.tmp 26) (.tmp 29) _ rfl Try.underlying30 rfl HEv_0.out A1 rfl (HT.out _ hHeld.1).z (HT.out _ hHeld.1).nw (by have := HLT.out; simp; omega) hHeld.1.size ?_
        intro A4 n4 c4 v_0_4 hn4 ha4
        have HFv_0_4 : Hid (JbR v_0_4 wS.heap.size 26 (.slice A4 n4 c4) (L.take p)) := by
          have := ha4.own
          rw [List.length_nil, Nat.zero_add] at this
          have hl := HT1.out
          unfold Hid JbR
          rw [← hl]
          exact this
        have kH : RpS wS s j v_0_4 := ⟨ha4.keeps HEv_0.out hHeld.1, hHeld.2.keep ha4.kp (fun e => by have := OwnT.ge HEv_0.out s e; have := HSG.out; omega)⟩
        clear ha4 hn4
        refine hK.out _ _ (kH) (fun hHeld => ?_)
        clear hK K
        try simp only [Act.put, List.setIfInBounds_toArray, List.set_cons_zero, List.set_cons_succ]
        refine wpAnyH_ready (rs := [6]) (by kernel_rfl) (by simp) ?_
        refine AllReadyH.cons (o := ?ogx14) ?hgx14 (fun K hK => ?sgx14) AllReadyH.nil
        case hgx14 => simp only [List.getElem?_toArray, List.getElem?_cons_zero, List.getElem?_cons_succ]; rfl
        go_simp
        have kA := Kp.alloc No v_0_4 (.cells #[.int .u32 (jO j : Int), .int .u16 (jS j : Int), .int .i64 (jG j)] 26)
        have kH := hHeld.no kA
        have HXv_0_4_6 : Hid (Nws (v_0_4.alloc (.cells #[.int .u32 (jO j : Int), .int .u16 (jS j : Int), .int .i64 (jG j)] 26)) ⟨v_0_4.heap.size, 0, none⟩ 1 3 (jbC [j])) := nws_bx3 (Bx3.new v_0_4 26 _ _ _) rfl rfl rfl
        have hl6 : v_0_4.heap.size < (v_0_4.alloc (.cells #[.int .u32 (jO j : Int), .int .u16 (jS j : Int), .int .i64 (jG j)] 26)).heap.size := by simp
        have HFv_0_4_6 := hide (OwnT.no HFv_0_4.out kA)
        clear kA
        generalize v_0_4.alloc (.cells #[.int .u32 (jO j : Int), .int .u16 (jS j : Int), .int .i64 (jG j)] 26) = v_0_4_6 at kH HXv_0_4_6 hl6 HFv_0_4_6 ⊢
        generalize v_0_4.heap.size = b6 at HXv_0_4_6 hl6 ⊢
        have HL6 := hide hl6
        clear hl6
        refine hK.out _ _ (kH) (fun hHeld => ?_)
        clear hK K
        try simp only [Act.put, List.setIfInBounds_toArray, List.set_cons_zero, List.set_cons_succ]
        refine wpAnyH_ready (rs := [7]) (by kernel_rfl) (by simp) ?_
        refine AllReadyH.cons (o := ?ogx15) ?hgx15 (fun K hK => ?sgx15) AllReadyH.nil
        case hgx15 => simp only [List.getElem?_toArray, List.getElem?_cons_zero, List.getElem?_cons_succ]; rfl
        refine step_appT (m := 1) (cs := jbC [j]) ty_rj rfl (.tmp 30) (.tmp 32) _ rfl Try.underlying30 rfl HFv_0_4_6.out _ _ rfl HXv_0_4_6.out (by have := HLT.out; have := HT1.out; omega) hHeld.1.size ?_
        intro A7 n7 c7 v_0_4_6_7 hn7 ha7
        have HFv_0_4_6_7 : Hid (JbR v_0_4_6_7 wS.heap.size 26 (.slice A7 n7 c7) (L.take p ++ [j])) := by
          have := ha7.own
          unfold Hid JbR
          rw [List.length_append, jbC_append]
          exact this
        have kH : RpS wS s j v_0_4_6_7 := ⟨ha7.keeps HFv_0_4_6.out hHeld.1, hHeld.2.keep ha7.kp (fun e => by have := OwnT.ge HFv_0_4_6.out s e; have := HSG.out; omega)⟩
        clear ha7 hn7
        refine hK.out _ _ (kH) (fun hHeld => ?_)
        clear hK K
        try simp only [Act.put, List.setIfInBounds_toArray, List.set_cons_zero, List.set_cons_succ]
        refine wpAnyH_ready (rs := [11]) (by kernel_rfl) (by simp) ?_
        refine AllReadyH.cons (o := ?ogx16) ?hgx16 (fun K hK => ?sgx16) AllReadyH.nil
        case hgx16 => simp only [List.getElem?_toArray, List.getElem?_cons_zero, List.getElem?_cons_succ]; rfl
        refine step_appSg ty_rj rfl (.tmp 33) (.tmp 36) _ rfl Try.underlying30 rfl HFv_0_4_6_7.out A2 rfl (HDR.out _ hHeld.1).z (HDR.out _ hHeld.1).nw (by have := HLT.out; have := HT1.out; rw [List.length_append]; simp only [List.length_cons, List.length_nil]; omega) hHeld.1.size ?_
        intro A9 n9 c9 v_0_4_6_7_11 hn9 ha9
        have HFv_0_4_6_7_11 : Hid (JbR v_0_4_6_7_11 wS.heap.size 26 (.slice A9 n9 c9) (L.take p ++ ([j] ++ L.drop p))) := by
          have := ha9.own
          have hl := HD1.out
          unfold Hid JbR
          rw [← List.append_assoc, List.length_append, jbC_append, ← hl]
          exact this
        have kH : RpS wS s j v_0_4_6_7_11 := ⟨ha9.keeps HFv_0_4_6_7.out hHeld.1, hHeld.2.keep ha9.kp (fun e => by have := OwnT.ge HFv_0_4_6_7.out s e; have := HSG.out; omega)⟩
        clear ha9 hn9
        refine hK.out _ _ (kH) (fun hHeld => ?_)
        clear hK K
        try simp only [Act.put, List.setIfInBounds_toArray, List.set_cons_zero, List.set_cons_succ]
        refine wpAnyH_ready (rs := [12]) (by kernel_rfl) (by simp) ?_
        refine AllReadyH.cons (o := ?ogx17) ?hgx17 (fun K hK => ?sgx17) AllReadyH.nil
        case hgx17 => simp only [List.getElem?_toArray, List.getElem?_cons_zero, List.getElem?_cons_succ]; rfl
        go_simp
        refine hK.out _ _ (hHeld) (fun hHeld => ?_)
        clear hK K
        try simp only [Act.put, List.setIfInBounds_toArray, List.set_cons_zero, List.set_cons_succ]
        refine wpAnyH_done (by kernel_rfl) ?_ _
        refine NoPanic.normal ?_
        have HKF := hide hHeld.1
        clear hHeld
        go_wp2_with fail
        go_ret
        refine ⟨A9, n9, c9, rfl, ?_, HKS.out.trans' HKF.out⟩
        rw [HRI.out]
        exact ownT_rebase HFv_0_4_6_7_11.out (fun q e => Nat.le_trans HKS.out.size (OwnT.ge HFv_0_4_6_7_11.out q e))
      case sgx13 =>
        go_simp
        have kA := Kp.alloc No v_0 (.cells #[.int .u32 (jO j : Int), .int .u16 (jS j : Int), .int .i64 (jG j)] 26)
        have kH := hHeld.no kA
        have HXv_0_6 : Hid (Nws (v_0.alloc (.cells #[.int .u32 (jO j : Int), .int .u16 (jS j : Int), .int .i64 (jG j)] 26)) ⟨v_0.heap.size, 0, none⟩ 1 3 (jbC [j])) := nws_bx3 (Bx3.new v_0 26 _ _ _) rfl rfl rfl
        have hl6 : v_0.heap.size < (v_0.alloc (.cells #[.int .u32 (jO j : Int), .int .u16 (jS j : Int), .int .i64 (jG j)] 26)).heap.size := by simp
        have HEv_0_6 := hide (OwnT.no HEv_0.out kA)
        have HQv_0_6 : Hid (e0 < v_0.heap.size) := HL0.out
        clear kA
        generalize v_0.alloc (.cells #[.int .u32 (jO j : Int), .int .u16 (jS j : Int), .int .i64 (jG j)] 26) = v_0_6 at kH HXv_0_6 hl6 HEv_0_6 ⊢
        generalize v_0.heap.size = b6 at HXv_0_6 hl6 HQv_0_6 ⊢
        have HL6 := hide hl6
        clear hl6
        refine hK.out _ _ (kH) (fun hHeld => ?_)
        clear hK K
        try simp only [Act.put, List.setIfInBounds_toArray, List.set_cons_zero, List.set_cons_succ]
        refine wpAnyH_ready (rs := [4]) (by kernel_rfl) (by simp) ?_
        refine AllReadyH.cons (o := ?ogx19) ?hgx19 (fun K hK => ?sgx19) AllReadyH.nil
        case hgx19 => simp only [List.getElem?_toArray, List.getElem?_cons_zero, List.getElem?_cons_succ]; rfl
        refine step_appSg ty_rj rfl (.tmp 26) (.tmp 29) _ rfl Try.underlying30 rfl HEv_0_6.out A1 rfl (HT.out _ hHeld.1).z (HT.out _ hHeld.1).nw (by have := HLT.out; simp; omega) hHeld.1.size ?_
        intro A4 n4 c4 v_0_6_4 hn4 ha4
        have HFv_0_6_4 : Hid (JbR v_0_6_4 wS.heap.size 26 (.slice A4 n4 c4) (L.take p)) := by
          have := ha4.own
          rw [List.length_nil, Nat.zero_add] at this
          have hl := HT1.out
          unfold Hid JbR
          rw [← hl]
          exact this
        have kH : RpS wS s j v_0_6_4 := ⟨ha4.keeps HEv_0_6.out hHeld.1, hHeld.2.keep ha4.kp (fun e => by have := OwnT.ge HEv_0_6.out s e; have := HSG.out; omega)⟩
        have HXv_0_6_4 := hide (HXv_0_6.out.far ha4.kp (fun e => by have e : e0 = b6 := Option.some.inj e; have := HQv_0_6.out; omega))
        clear ha4 hn4
        refine hK.out _ _ (kH) (fun hHeld => ?_)
        clear hK K
        try simp only [Act.put, List.setIfInBounds_toArray, List.set_cons_zero, List.set_cons_succ]
        refine wpAnyH_ready (rs := [7]) (by kernel_rfl) (by simp) ?_
        refine AllReadyH.cons (o := ?ogx20) ?hgx20 (fun K hK => ?sgx20) AllReadyH.nil
        case hgx20 => simp only [List.getElem?_toArray, List.getElem?_cons_zero, List.getElem?_cons_succ]; rfl
        refine step_appT (m := 1) (cs := jbC [j]) ty_rj rfl (.tmp 30) (.tmp 32) _ rfl Try.underlying30 rfl HFv_0_6_4.out _ _ rfl HXv_0_6_4.out (by have := HLT.out; have := HT1.out; omega) hHeld.1.size ?_
        intro A7 n7 c7 v_0_6_4_7 hn7 ha7
        have HFv_0_6_4_7 : Hid (JbR v_0_6_4_7 wS.heap.size 26 (.slice A7 n7 c7) (L.take p ++ [j])) := by
          have := ha7.own
          unfold Hid JbR
          rw [List.length_append, jbC_append]
          exact this
        have kH : RpS wS s j v_0_6_4_7 := ⟨ha7.keeps HFv_0_6_4.out hHeld.1, hHeld.2.keep ha7.kp (fun e => by have := OwnT.ge HFv_0_6_4.out s e; have := HSG.out; omega)⟩
        clear ha7 hn7
        refine hK.out _ _ (kH) (fun hHeld => ?_)
        clear hK K
        try simp only [Act.put, List.setIfInBounds_toArray, List.set_cons_zero, List.set_cons_succ]
        refine wpAnyH_ready (rs := [11]) (by kernel_rfl) (by simp) ?_
        refine AllReadyH.cons (o := ?ogx21) ?hgx21 (fun K hK => ?sgx21) AllReadyH.nil
        case hgx21 => simp only [List.getElem?_toArray, List.getElem?_cons_zero, List.getElem?_cons_succ]; rfl
        refine step_appSg ty_rj rfl (.tmp 33) (.tmp 36) _ rfl Try.underlying30 rfl HFv_0_6_4_7.out A2 rfl (HDR.out _ hHeld.1).z (HDR.out _ hHeld.1).nw (by have := HLT.out; have := HT1.out; rw [List.length_append]; simp only [List.length_cons, List.length_nil]; omega) hHeld.1.size ?_
        intro A9 n9 c9 v_0_6_4_7_11 hn9 ha9
        have HFv_0_6_4_7_11 : Hid (JbR v_0_6_4_7_11 wS.heap.size 26 (.slice A9 n9 c9) (L.take p ++ ([j] ++ L.drop p))) := by
          have := ha9.own
          have hl := HD1.out
          unfold Hid JbR
          rw [← List.append_assoc, List.length_append, jbC_append, ← hl]
          exact this
        have kH : RpS wS s j v_0_6_4_7_11 := ⟨ha9.keeps HFv_0_6_4_7.out hHeld.1, hHeld.2.keep ha9.kp (fun e => by have := OwnT.ge HFv_0_6_4_7.out s e; have := HSG.out; omega)⟩
        clear ha9 hn9
        refine hK.out _ _ (kH) (fun hHeld => ?_)
        clear hK K
        try simp only [Act.put, List.setIfInBounds_toArray, List.set_cons_zero, List.set_cons_succ]
        refine wpAnyH_ready (rs := [12]) (by kernel_rfl) (by simp) ?_
        refine AllReadyH.cons (o := ?ogx22) ?hgx22 (fun K hK => ?sgx22) AllReadyH.nil
        case hgx22 => simp only [List.getElem?_toArray, List.getElem?_cons_zero, List.getElem?_cons_succ]; rfl
        go_simp
        refine hK.out _ _ (hHeld) (fun hHeld => ?_)
        clear hK K
        try simp only [Act.put, List.setIfInBounds_toArray, List.set_cons_zero, List.set_cons_succ]
        refine wpAnyH_done (by kernel_rfl) ?_ _
        refine NoPanic.normal ?_
        have HKF := hide hHeld.1
        clear hHeld
        go_wp2_with fail
        go_ret
        refine ⟨A9, n9, c9, rfl, ?_, HKS.out.trans' HKF.out⟩
        rw [HRI.out]
        exact ownT_rebase HFv_0_6_4_7_11.out (fun q e => Nat.le_trans HKS.out.size (OwnT.ge HFv_0_6_4_7_11.out q e))
    case sgx10 =>
      go_simp
      have kA := Kp.alloc No v (.cells #[.int .u32 (jO j : Int), .int .u16 (jS j : Int), .int .i64 (jG j)] 26)
      have kH := hHeld.no kA
      have HXv_6 : Hid (Nws (v.alloc (.cells #[.int .u32 (jO j : Int), .int .u16 (jS j : Int), .int .i64 (jG j)] 26)) ⟨v.heap.size, 0, none⟩ 1 3 (jbC [j])) := nws_bx3 (Bx3.new v 26 _ _ _) rfl rfl rfl
      have hl6 : v.heap.size < (v.alloc (.cells #[.int .u32 (jO j : Int), .int .u16 (jS j : Int), .int .i64 (jG j)] 26)).heap.size := by simp
      clear kA
      generalize v.alloc (.cells #[.int .u32 (jO j : Int), .int .u16 (jS j : Int), .int .i64 (jG j)] 26) = v_6 at kH HXv_6 hl6 ⊢
      generalize v.heap.size = b6 at HXv_6 hl6 ⊢
      have HL6 := hide hl6
      clear hl6
      refine hK.out _ _ (kH) (fun hHeld => ?_)
      clear hK K
      try simp only [Act.put, List.setIfInBounds_toArray, List.set_cons_zero, List.set_cons_succ]
      refine wpAnyH_ready (rs := [0]) (by kernel_rfl) (by simp) ?_
      refine AllReadyH.cons (o := ?ogx24) ?hgx24 (fun K hK => ?sgx24) AllReadyH.nil
      case hgx24 => simp only [List.getElem?_toArray, List.getElem?_cons_zero, List.getElem?_cons_succ]; rfl
      go_simp
      have kA := Kp.alloc No v_6 (.cells #[] 26)
      have kH := hHeld.no kA
      have HEv_6_0 := hide (ownT_rebase (b := wS.heap.size) (rj_empty v_6) (fun q e => by have e : v_6.heap.size = q := Option.some.inj e; have := hHeld.1.size; omega))
      have HXv_6_0 := hide (HXv_6.out.no kA)
      have HZv_6_0 : Hid (v_6.heap.size = v_6.heap.size) := rfl
      have HQv_6_0 : Hid (b6 < v_6.heap.size) := HL6.out
      clear kA
      generalize v_6.alloc (.cells #[] 26) = v_6_0 at kH HEv_6_0 HXv_6_0 ⊢
      generalize v_6.heap.size = e0 at HEv_6_0 HZv_6_0 HQv_6_0 ⊢
      refine hK.out _ _ (kH) (fun hHeld => ?_)
      clear hK K
      try simp only [Act.put, List.setIfInBounds_toArray, List.set_cons_zero, List.set_cons_succ]
      refine wpAnyH_ready (rs := [4]) (by kernel_rfl) (by simp) ?_
      refine AllReadyH.cons (o := ?ogx25) ?hgx25 (fun K hK => ?sgx25) AllReadyH.nil
      case hgx25 => simp only [List.getElem?_toArray, List.getElem?_cons_zero, List.getElem?_cons_succ]; rfl
      refine step_appSg ty_rj rfl (.tmp 26) (.tmp 29) _ rfl Try.underlying30 rfl HEv_6_0.out A1 rfl (HT.out _ hHeld.1).z (HT.out _ hHeld.1).nw (by have := HLT.out; simp; omega) hHeld.1.size ?_
      intro A4 n4 c4 v_6_0_4 hn4 ha4
      have HFv_6_0_4 : Hid (JbR v_6_0_4 wS.heap.size 26 (.slice A4 n4 c4) (L.take p)) := by
        have := ha4.own
        rw [List.length_nil, Nat.zero_add] at this
        have hl := HT1.out
        unfold Hid JbR
        rw [← hl]
        exact this
      have kH : RpS wS s j v_6_0_4 := ⟨ha4.keeps HEv_6_0.out hHeld.1, hHeld.2.keep ha4.kp (fun e => by have := OwnT.ge HEv_6_0.out s e; have := HSG.out; omega)⟩
      have HXv_6_0_4 := hide (HXv_6_0.out.far ha4.kp (fun e => by have e : e0 = b6 := Option.some.inj e; have := HQv_6_0.out; omega))
      clear ha4 hn4
      refine hK.out _ _ (kH) (fun hHeld => ?_)
      clear hK K
      try simp only [Act.put, List.setIfInBounds_toArray, List.set_cons_zero, List.set_cons_succ]
      refine wpAnyH_ready (rs := [7]) (by kernel_rfl) (by simp) ?_
      refine AllReadyH.cons (o := ?ogx26) ?hgx26 (fun K hK => ?sgx26) AllReadyH.nil
      case hgx26 => simp only [List.getElem?_toArray, List.getElem?_cons_zero, List.getElem?_cons_succ]; rfl
      refine step_appT (m := 1) (cs := jbC [j]) ty_rj rfl (.tmp 30) (.tmp 32) _ rfl Try.underlying30 rfl HFv_6_0_4.out _ _ rfl HXv_6_0_4.out (by have := HLT.out; have := HT1.out; omega) hHeld.1.size ?_
      intro A7 n7 c7 v_6_0_4_7 hn7 ha7
      have HFv_6_0_4_7 : Hid (JbR v_6_0_4_7 wS.heap.size 26 (.slice A7 n7 c7) (L.take p ++ [j])) := by
        have := ha7.own
        unfold Hid JbR
        rw [List.length_append, jbC_append]
        exact this
      have kH : RpS wS s j v_6_0_4_7 := ⟨ha7.keeps HFv_6_0_4.out hHeld.1, hHeld.2.keep ha7.kp (fun e => by have := OwnT.ge HFv_6_0_4.out s e; have := HSG.out; omega)⟩
      clear ha7 hn7
      refine hK.out _ _ (kH) (fun hHeld => ?_)
      clear hK K
      try simp only [Act.put, List.setIfInBounds_toArray, List.set_cons_zero, List.set_cons_succ]
      refine wpAnyH_ready (rs := [11]) (by kernel_rfl) (by simp) ?_
      refine AllReadyH.cons (o := ?ogx27) ?hgx27 (fun K hK => ?sgx27) AllReadyH.nil
      case hgx27 => simp only [List.getElem?_toArray, List.getElem?_cons_zero, List.getElem?_cons_succ]; rfl
      refine step_appSg ty_rj rfl (.tmp 33) (.tmp 36) _ rfl Try.underlying30 rfl HFv_6_0_4_7.out A2 rfl (HDR.out _ hHeld.1).z (HDR.out _ hHeld.1).nw (by have := HLT.out; have := HT1.out; rw [List.length_append]; simp only [List.length_cons, List.length_nil]; omega) hHeld.1.size ?_
      intro A9 n9 c9 v_6_0_4_7_11 hn9 ha9
      have HFv_6_0_4_7_11 : Hid (JbR v_6_0_4_7_11 wS.heap.size 26 (.slice A9 n9 c9) (L.take p ++ ([j] ++ L.drop p))) := by
        have := ha9.own
        have hl := HD1.out
        unfold Hid JbR
        rw [← List.append_assoc, List.length_append, jbC_append, ← hl]
        exact this
      have kH : RpS wS s j v_6_0_4_7_11 := ⟨ha9.keeps HFv_6_0_4_7.out hHeld.1, hHeld.2.keep ha9.kp (fun e => by have := OwnT.ge HFv_6_0_4_7.out s e; have := HSG.out; omega)⟩
      clear ha9 hn9
      refine hK.out _ _ (kH) (fun hHeld => ?_)
      clear hK K
      try simp only [Act.put, List.setIfInBounds_toArray, List.set_cons_zero, List.set_cons_succ]
      refine wpAnyH_ready (rs := [12]) (by kernel_rfl) (by simp) ?_
      refine AllReadyH.cons (o := ?ogx28) ?hgx28 (fun K hK => ?sgx28) AllReadyH.nil
      case hgx28 => simp only [List.getElem?_toArray, List.getElem?_cons_zero, List.getElem?_cons_succ]; rfl
      go_simp
      refine hK.out _ _ (hHeld) (fun hHeld => ?_)
      clear hK K
      try simp only [Act.put, List.setIfInBounds_toArray, List.set_cons_zero, List.set_cons_succ]
      refine wpAnyH_done (by kernel_rfl) ?_ _
      refine NoPanic.normal ?_
      have HKF := hide hHeld.1
      clear hHeld
      go_wp2_with fail
      go_ret
      refine ⟨A9, n9, c9, rfl, ?_, HKS.out.trans' HKF.out⟩
      rw [HRI.out]
      exact ownT_rebase HFv_6_0_4_7_11.out (fun q e => Nat.le_trans HKS.out.size (OwnT.ge HFv_6_0_4_7_11.out q e))
end Go.Proofs.Ytjbnbbblafmldaa
