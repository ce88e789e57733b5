/- Law 20's places as a contract (printed by tools/gen_tbv.py). No condition. -/
import Derived.Test.YthicpblgonigcaaNcav
namespace Go.Proofs.Ythicpblgonigcaa
open Go.RowKit
set_option linter.unusedVariables false
set_option linter.unusedSimpArgs false
set_option maxRecDepth 20000

section
variable {w : World} {base : Nat} {e : TypeId} {sz n m : Nat} {v z : Value} {xs cs : List Value}
theorem run_appW {bt : Nat} (hT : Ty e z sz bt) (t ty : TypeId) (ht : Try.prog.underlying t = some (.slice e)) (h : OwnT w base e sz v n xs) (ad : Addr) (c : Nat) (hN : Nws w ad m sz cs) (hlen : (n + m) * bt ≤ 140737488355328) (hl2 : n + m ≤ 140737488355328) (hb : base ≤ w.heap.size) :
    ∃ v1 w1, (Builtin.append_ #[t, t] ty #[v, .slice (some ad) m c]).run Try.prog w = .ok v1 w1 ∧ AppT w base e sz v n xs m cs v1 w1 := by
  obtain ⟨⟨i0, hi0, hz0, hz1, hz2⟩, h1, h2, h3⟩ := hT
  obtain ⟨v1, w1, hr, e1, e2, e3, e4⟩ := run_append_own_at (P := Try.prog) w base t ty e i0 z sz bt ht hi0 hz0 hz1 hz2 h1 h2 v n xs h ad m c cs hN.len hN.at_ hN.one (by simp only [maxLen]; omega) hlen hb
  exact ⟨v1, w1, hr, ⟨e1, Kp.grown e2, e4⟩⟩
theorem step_appW {ops : Array Oper} {o : Oper} {a : Act} {Q : Exit → Act → World → Prop} {K : Act → World → Prop} {E : Prop} {bt : Nat} (hT : Ty e z sz bt) (hgd : o.guard = none) (s x : Operand) (t : TypeId)
    (ho : o.op = .call { callee := .builtin .append, args := #[s, x], argTypes := #[t, t] })
    (ht : Try.prog.underlying t = some (.slice e)) (hs : a.eval s = v) (h : OwnT w base e sz v n xs) (ad : Addr) (c : Nat) (hx : a.eval x = .slice (some ad) m c) (hN : Nws w ad m sz cs) (hlen : (n + m) * bt ≤ 140737488355328) (hl2 : n + m ≤ 140737488355328) (hb : base ≤ w.heap.size)
    (hQ : ∀ A1 n1 c1 w1, n1 = n + m → AppT w base e sz v n xs m cs (.slice A1 n1 c1) w1 → K (a.put o.dst (.slice A1 n1 c1)) w1) : if Region.wanted o (yielded ops a.tmps) = true then Oper.wp Try.prog o a w K Q else E := by
  have hw : Region.wanted o (yielded ops a.tmps) = true := by simp [Region.wanted, hgd]
  rw [if_pos hw]
  obtain ⟨v1, w1, hr, h1⟩ := run_appW hT t o.type ht h ad c hN hlen hl2 hb
  unfold Oper.wp execOp
  simp only [ho, resolve, invoke, builtin, Sem.run_bind, Sem.run_pure, Result.andThen_ok, List.map_toArray, List.map_cons, List.map_nil, hs, hx, hr]
  obtain ⟨A1, c1, rfl⟩ := h1.own.form
  exact hQ A1 _ c1 w1 rfl h1
end
theorem pcC_succ {l : List Pc} {k : Nat} {p : Pc} (h : l[k]? = some p) : pcC (l.take (k + 1)) = pcC (l.take k) ++ pcF p := flat_take pcF l h
/-- A copy of rows of places comes back. -/
def PcPost (w : World) (P : List (List Pc)) (e : Ending) (w1 : World) : Prop := ∃ A n c, e = .returned (.slice A n c) ∧ PlR w1 (fun k => w.heap.size ≤ k) (.slice A n c) P ∧ Kp No w w1
set_option maxHeartbeats 4000000 in
theorem places_any {w : World} {F : Nat → Prop} {v : Value} {P : List (List Pc)} (h : RdP w F v P) (hn : P.length ≤ 40) (hP : ∀ l ∈ P, l.length * 16 ≤ 0x7ffffffff000) : Calls Try.prog 34 #[v] w (PcPost w P) := by
  obtain ⟨A0, c0, rfl, _, hat⟩ := h
  obtain ⟨n, hnl⟩ : ∃ n, n = P.length := ⟨_, rfl⟩
  rw [← hnl] at hn ⊢
  have HL := hide hnl
  have HAT := hide hat
  have HP := hide hP
  clear hnl hat hP
  go_enter Try.func34, Try.ntmps34
  go_wp2
  go_loopw [3, 4] (fun rv iv wr => ∃ (k : Nat) (A : Option Addr) (m c : Nat), k ≤ n ∧ iv = .int .i64 (k : Int) ∧ rv = .slice A m c ∧ CpI w wr P k (.slice A m c)) (fun _ iv _ => n - (intOf iv).toNat)
  case atStart => exact ⟨0, none, 0, 0, Nat.zero_le _, rfl, rfl, CpI.nil P (Kp.refl No w)⟩
  case round =>
    rename World => wa
    obtain ⟨k, A, m, c, hkn, rfl, rfl, ⟨us, h1, h2⟩, hkw⟩ := hrel
    have HK := hide hkw
    have hm := hide h1.len
    have H1 := hide h1
    have H2 := hide h2
    by_cases hlt : k < n
    · obtain ⟨l, hp⟩ : ∃ l, P[k]? = some l := ⟨_, List.getElem?_eq_getElem (by rw [← HL.out]; exact hlt)⟩
      obtain ⟨B, off, u, rfl, hB, x0, A2, c2, rfl, _, hat2⟩ := HAT.out k l hp
      obtain ⟨q, hq⟩ : ∃ q, q = l.length := ⟨_, rfl⟩
      have HQ := hide hq
      have HPk := hide hp
      have HAT2 := hide hat2
      have hqb : q * 16 ≤ 0x7ffffffff000 := by rw [hq]; exact HP.out l (List.mem_of_getElem? hp)
      rw [← hq] at x0
      have HX := hide x0
      clear x0 hat2 hp hq h1 h2 hkw
      have hqb2 : q ≤ 8796093021952 := by omega
      go_wp2_with fail
      go_loopw [5, 6] (fun rv iv wr2 => ∃ (i : Nat) (A3 : Option Addr) (m3 c3 : Nat), i ≤ q ∧ iv = .int .i64 (i : Int) ∧ rv = .slice A3 m3 c3 ∧ OwnT wr2 wa.heap.size 46 2 (.slice A3 m3 c3) i (pcC (l.take i)) ∧ Kp No wa wr2) (fun _ iv _ => q - (intOf iv).toNat)
      case atStart => exact ⟨0, none, 0, 0, Nat.zero_le _, rfl, rfl, OwnT.nil _ _ _ _, Kp.refl _ _⟩
      case round =>
        obtain ⟨i, A3, m3, c3, hiq, rfl, rfl, h3, hkw2⟩ := hrel
        have hm3 := hide h3.len
        have HK2 := hide hkw2
        have H3 := hide h3
        have x0 := (HK.out.trans' hkw2).cell HX.out fun f => f
        clear hkw2 h3
        by_cases hi : i < q
        · obtain ⟨p, hpi⟩ : ∃ p, l[i]? = some p := ⟨_, List.getElem?_eq_getElem (by rw [← HQ.out]; exact hi)⟩
          obtain ⟨B2, off2, rfl, _, y0, y1⟩ := HAT2.out i p hpi
          have HPI := hide hpi
          have HY0 := hide y0
          have HY1 := hide y1
          clear hpi y0 y1
          go_wp2_with fail
          clear x0
          have KD := hide (HK2.out.drew)
          have H3D := hide (H3.out.no (Kp.refl No wr).drew)
          have S3 : Hid (∀ w5, Kp No wa w5 → w5.cell? ⟨B, off + k, none⟩ = some (.slice (some ⟨B2, off2, none⟩) q c2) ∧ w5.cell? ⟨B2, off2 + i * 2, none⟩ = some (.int .i64 p.1) ∧ w5.cell? ⟨B2, off2 + i * 2 + 1, none⟩ = some (.int .u32 (p.2 : Int))) := fun w5 hk5 => ⟨(HK.out.trans' hk5).cell HX.out fun f => f, (HK.out.trans' hk5).cell HY0.out fun f => f, (HK.out.trans' hk5).cell HY1.out fun f => f⟩
          refine wp_region_noPanic ?_
          refine wp_region_held_drew (S := fun w' => w'.cell? ⟨B, off + k, none⟩ = some (.slice (some ⟨B2, off2, none⟩) q c2) ∧ w'.cell? ⟨B2, off2 + i * 2, none⟩ = some (.int .i64 p.1) ∧ w'.cell? ⟨B2, off2 + i * 2 + 1, none⟩ = some (.int .u32 (p.2 : Int))) (by kernel_rfl) (S3.out _ KD.out) (fun hHeld => ?_)
          generalize wr.drew = wd at hHeld KD H3D ⊢
          refine wpAnyH_take (i := 0) (v := ?vg0) (oi := ?og0) ?hg0 (by kernel_rfl) (by kernel_rfl) (by kernel_rfl) (fun _ _ _ h => h) (Or.inl ⟨?wg0, ?yg0⟩) hHeld ?rg0
          case hg0 => simp only [List.getElem?_toArray, List.getElem?_cons_zero, List.getElem?_cons_succ]; rfl
          case wg0 => rfl
          case yg0 => intro w hSw; (try dsimp only at hSw); go_simp; (try with_reducible rfl)
          simp only [Act.put, List.setIfInBounds_toArray, List.set_cons_zero, List.set_cons_succ]
          refine wpAnyH_take (i := 1) (v := ?vg1) (oi := ?og1) ?hg1 (by kernel_rfl) (by kernel_rfl) (by kernel_rfl) (fun _ _ _ h => h) (Or.inl ⟨?wg1, ?yg1⟩) hHeld ?rg1
          case hg1 => simp only [List.getElem?_toArray, List.getElem?_cons_zero, List.getElem?_cons_succ]; rfl
          case wg1 => rfl
          case yg1 => intro w hSw; (try dsimp only at hSw); go_simp; (try with_reducible rfl)
          simp only [Act.put, List.setIfInBounds_toArray, List.set_cons_zero, List.set_cons_succ]
          refine wpAnyH_take (i := 2) (v := ?vg2) (oi := ?og2) ?hg2 (by kernel_rfl) (by kernel_rfl) (by kernel_rfl) (fun _ _ _ h => h) (Or.inl ⟨?wg2, ?yg2⟩) hHeld ?rg2
          case hg2 => simp only [List.getElem?_toArray, List.getElem?_cons_zero, List.getElem?_cons_succ]; rfl
          case wg2 => rfl
          case yg2 => intro w hSw; (try dsimp only at hSw); go_simp; (try with_reducible rfl)
          simp only [Act.put, List.setIfInBounds_toArray, List.set_cons_zero, List.set_cons_succ]
          refine wpAnyH_take (i := 3) (v := ?vg3) (oi := ?og3) ?hg3 (by kernel_rfl) (by kernel_rfl) (by kernel_rfl) (fun _ _ _ h => h) (Or.inl ⟨?wg3, ?yg3⟩) hHeld ?rg3
          case hg3 => simp only [List.getElem?_toArray, List.getElem?_cons_zero, List.getElem?_cons_succ]; rfl
          case wg3 => rfl
          case yg3 => intro w hSw; (try dsimp only at hSw); go_simp; (try with_reducible rfl)
          simp only [Act.put, List.setIfInBounds_toArray, List.set_cons_zero, List.set_cons_succ]
          refine wpAnyH_take (i := 4) (v := ?vg4) (oi := ?og4) ?hg4 (by kernel_rfl) (by kernel_rfl) (by kernel_rfl) (fun _ _ _ h => h) (Or.inl ⟨?wg4, ?yg4⟩) hHeld ?rg4
          case hg4 => simp only [List.getElem?_toArray, List.getElem?_cons_zero, List.getElem?_cons_succ]; rfl
          case wg4 => rfl
          case yg4 => intro w hSw; (try dsimp only at hSw); go_simp; (try with_reducible rfl)
          simp only [Act.put, List.setIfInBounds_toArray, List.set_cons_zero, List.set_cons_succ]
          refine wpAnyH_take (i := 5) (v := ?vg5) (oi := ?og5) ?hg5 (by kernel_rfl) (by kernel_rfl) (by kernel_rfl) (fun _ _ _ h => h) (Or.inl ⟨?wg5, ?yg5⟩) hHeld ?rg5
          case hg5 => simp only [List.getElem?_toArray, List.getElem?_cons_zero, List.getElem?_cons_succ]; rfl
          case wg5 => rfl
          case yg5 => intro w hSw; (try dsimp only at hSw); go_simp; (try with_reducible rfl)
          simp only [Act.put, List.setIfInBounds_toArray, List.set_cons_zero, List.set_cons_succ]
          refine wpAnyH_take (i := 6) (v := ?vg6) (oi := ?og6) ?hg6 (by kernel_rfl) (by kernel_rfl) (by kernel_rfl) (fun _ _ _ h => h) (Or.inl ⟨?wg6, ?yg6⟩) hHeld ?rg6
          case hg6 => simp only [List.getElem?_toArray, List.getElem?_cons_zero, List.getElem?_cons_succ]; rfl
          case wg6 => rfl
          case yg6 => intro w hSw; (try dsimp only at hSw); go_simp; (try with_reducible rfl)
          simp only [Act.put, List.setIfInBounds_toArray, List.set_cons_zero, List.set_cons_succ]
          refine wpAnyH_take (i := 7) (v := ?vg7) (oi := ?og7) ?hg7 (by kernel_rfl) (by kernel_rfl) (by kernel_rfl) (fun _ _ _ h => h) (Or.inl ⟨?wg7, ?yg7⟩) hHeld ?rg7
          case hg7 => simp only [List.getElem?_toArray, List.getElem?_cons_zero, List.getElem?_cons_succ]; rfl
          case wg7 => rfl
          case yg7 => intro w hSw; (try dsimp only at hSw); go_simp; (try with_reducible rfl)
          simp only [Act.put, List.setIfInBounds_toArray, List.set_cons_zero, List.set_cons_succ]
          refine wpAnyH_take (i := 8) (v := ?vg8) (oi := ?og8) ?hg8 (by kernel_rfl) (by kernel_rfl) (by kernel_rfl) (fun _ _ _ h => h) (Or.inl ⟨?wg8, ?yg8⟩) hHeld ?rg8
          case hg8 => simp only [List.getElem?_toArray, List.getElem?_cons_zero, List.getElem?_cons_succ]; rfl
          case wg8 => rfl
          case yg8 => intro w hSw; (try dsimp only at hSw); go_simp; (try with_reducible rfl)
          simp only [Act.put, List.setIfInBounds_toArray, List.set_cons_zero, List.set_cons_succ]
          refine wpAnyH_take (i := 9) (v := ?vg9) (oi := ?og9) ?hg9 (by kernel_rfl) (by kernel_rfl) (by kernel_rfl) (fun _ _ _ h => h) (Or.inl ⟨?wg9, ?yg9⟩) hHeld ?rg9
          case hg9 => simp only [List.getElem?_toArray, List.getElem?_cons_zero, List.getElem?_cons_succ]; rfl
          case wg9 => rfl
          case yg9 => intro w hSw; (try dsimp only at hSw); go_simp; (try with_reducible rfl)
          simp only [Act.put, List.setIfInBounds_toArray, List.set_cons_zero, List.set_cons_succ]
          refine wpAnyH_take (i := 10) (v := ?vg10) (oi := ?og10) ?hg10 (by kernel_rfl) (by kernel_rfl) (by kernel_rfl) (fun _ _ _ h => h) (Or.inl ⟨?wg10, ?yg10⟩) hHeld ?rg10
          case hg10 => simp only [List.getElem?_toArray, List.getElem?_cons_zero, List.getElem?_cons_succ]; rfl
          case wg10 => rfl
          case yg10 => intro w hSw; (try dsimp only at hSw); go_simp; (try with_reducible rfl)
          simp only [Act.put, List.setIfInBounds_toArray, List.set_cons_zero, List.set_cons_succ]
          refine wpAnyH_take (i := 11) (v := ?vg11) (oi := ?og11) ?hg11 (by kernel_rfl) (by kernel_rfl) (by kernel_rfl) (fun _ _ _ h => h) (Or.inl ⟨?wg11, ?yg11⟩) hHeld ?rg11
          case hg11 => simp only [List.getElem?_toArray, List.getElem?_cons_zero, List.getElem?_cons_succ]; rfl
          case wg11 => rfl
          case yg11 => intro w hSw; (try dsimp only at hSw); go_simp; (try with_reducible rfl)
          simp only [Act.put, List.setIfInBounds_toArray, List.set_cons_zero, List.set_cons_succ]
          refine wpAnyH_take (i := 12) (v := ?vg12) (oi := ?og12) ?hg12 (by kernel_rfl) (by kernel_rfl) (by kernel_rfl) (fun _ _ _ h => h) (Or.inl ⟨?wg12, ?yg12⟩) hHeld ?rg12
          case hg12 => simp only [List.getElem?_toArray, List.getElem?_cons_zero, List.getElem?_cons_succ]; rfl
          case wg12 => rfl
          case yg12 => intro w hSw; (try dsimp only at hSw); go_simp; (try with_reducible rfl)
          simp only [Act.put, List.setIfInBounds_toArray, List.set_cons_zero, List.set_cons_succ]
          refine wpAnyH_take (i := 13) (v := ?vg13) (oi := ?og13) ?hg13 (by kernel_rfl) (by kernel_rfl) (by kernel_rfl) (fun _ _ _ h => h) (Or.inl ⟨?wg13, ?yg13⟩) hHeld ?rg13
          case hg13 => simp only [List.getElem?_toArray, List.getElem?_cons_zero, List.getElem?_cons_succ]; rfl
          case wg13 => rfl
          case yg13 => intro w hSw; (try dsimp only at hSw); go_simp; (try with_reducible rfl)
          simp only [Act.put, List.setIfInBounds_toArray, List.set_cons_zero, List.set_cons_succ]
          refine wpAnyH_take (i := 14) (v := ?vg14) (oi := ?og14) ?hg14 (by kernel_rfl) (by kernel_rfl) (by kernel_rfl) (fun _ _ _ h => h) (Or.inl ⟨?wg14, ?yg14⟩) hHeld ?rg14
          case hg14 => simp only [List.getElem?_toArray, List.getElem?_cons_zero, List.getElem?_cons_succ]; rfl
          case wg14 => rfl
          case yg14 => intro w hSw; (try dsimp only at hSw); go_simp; (try with_reducible rfl)
          simp only [Act.put, List.setIfInBounds_toArray, List.set_cons_zero, List.set_cons_succ]
          refine wpAnyH_take (i := 15) (v := ?vg15) (oi := ?og15) ?hg15 (by kernel_rfl) (by kernel_rfl) (by kernel_rfl) (fun _ _ _ h => h) (Or.inl ⟨?wg15, ?yg15⟩) hHeld ?rg15
          case hg15 => simp only [List.getElem?_toArray, List.getElem?_cons_zero, List.getElem?_cons_succ]; rfl
          case wg15 => rfl
          case yg15 => intro w hSw; (try dsimp only at hSw); go_simp; (try with_reducible rfl)
          simp only [Act.put, List.setIfInBounds_toArray, List.set_cons_zero, List.set_cons_succ]
          refine wpAnyH_take (i := 16) (v := ?vg16) (oi := ?og16) ?hg16 (by kernel_rfl) (by kernel_rfl) (by kernel_rfl) (fun _ _ _ h => h) (Or.inl ⟨?wg16, ?yg16⟩) hHeld ?rg16
          case hg16 => simp only [List.getElem?_toArray, List.getElem?_cons_zero, List.getElem?_cons_succ]; rfl
          case wg16 => rfl
          case yg16 => intro w hSw; (try dsimp only at hSw); go_simp; (try with_reducible rfl)
          simp only [Act.put, List.setIfInBounds_toArray, List.set_cons_zero, List.set_cons_succ]
          refine wpAnyH_take (i := 17) (v := ?vg17) (oi := ?og17) ?hg17 (by kernel_rfl) (by kernel_rfl) (by kernel_rfl) (fun _ _ _ h => h) (Or.inl ⟨?wg17, ?yg17⟩) hHeld ?rg17
          case hg17 => simp only [List.getElem?_toArray, List.getElem?_cons_zero, List.getElem?_cons_succ]; rfl
          case wg17 => rfl
          case yg17 => intro w hSw; (try dsimp only at hSw); go_simp; (try with_reducible rfl)
          simp only [Act.put, List.setIfInBounds_toArray, List.set_cons_zero, List.set_cons_succ]
          refine wpAnyH_ready (rs := [18]) (by kernel_rfl) (by simp) ?_
          refine AllReadyH.cons (o := ?og18) ?hg18 (fun K hK => ?sg18) AllReadyH.nil
          case hg18 => simp only [List.getElem?_toArray, List.getElem?_cons_zero, List.getElem?_cons_succ]; rfl
          go_simp
          have KA := hide (KD.out.al (.cells #[.int .i64 p.1, .int .u32 (p.2 : Int)] 46))
          have HN5 := hide (nws_two (w := wd.alloc (.cells #[.int .i64 p.1, .int .u32 (p.2 : Int)] 46)) (m := wd.heap.size) (u0 := .int .i64 p.1) (u1 := .int .u32 (p.2 : Int)) (by rw [World.cell?_alloc_mark]; rfl) (by rw [World.cell?_alloc_mark]; rfl) rfl rfl)
          have HOA := hide (H3D.out.no (Kp.alloc No wd (.cells #[.int .i64 p.1, .int .u32 (p.2 : Int)] 46)))
          refine hK.out _ _ (S3.out _ KA.out) (fun hHeld => ?_)
          clear hK K
          try simp only [Act.put, List.setIfInBounds_toArray, List.set_cons_zero, List.set_cons_succ]
          refine wpAnyH_ready (rs := [19]) (by kernel_rfl) (by simp) ?_
          refine AllReadyH.cons (o := ?og19) ?hg19 (fun K hK => ?sg19) AllReadyH.nil
          case hg19 => simp only [List.getElem?_toArray, List.getElem?_cons_zero, List.getElem?_cons_succ]; rfl
          refine step_appW (m := 1) ty_pc rfl (.tmp 22) (.tmp 40) _ rfl Try.underlying88 rfl HOA.out _ _ rfl HN5.out (by omega) (by omega) KA.out.size ?_
          intro A5 n5 c5 w5 hn5 ha5
          have HA5 := hide ha5
          have K5 := hide (ha5.keeps HOA.out KA.out)
          clear ha5 hn5
          refine hK.out _ _ (S3.out _ K5.out) (fun hHeld => ?_)
          clear hK K
          try simp only [Act.put, List.setIfInBounds_toArray, List.set_cons_zero, List.set_cons_succ]
          refine wpAnyH_take (i := 20) (v := ?vg20) (oi := ?og20) ?hg20 (by kernel_rfl) (by kernel_rfl) (by kernel_rfl) (fun _ _ _ h => h) (Or.inl ⟨?wg20, ?yg20⟩) hHeld ?rg20
          case hg20 => simp only [List.getElem?_toArray, List.getElem?_cons_zero, List.getElem?_cons_succ]; rfl
          case wg20 => rfl
          case yg20 => intro w hSw; (try dsimp only at hSw); go_simp; (try with_reducible rfl)
          simp only [Act.put, List.setIfInBounds_toArray, List.set_cons_zero, List.set_cons_succ]
          refine wpAnyH_done (by kernel_rfl) ?_ _
          refine NoPanic.normal ?_
          clear hHeld
          go_wp2_with fail
          go_round
          case rel => exact ⟨i + 1, A5, n5, c5, by omega, by go_num, rfl, by rw [pcC_succ HPI.out]; exact HA5.out.own, K5.out⟩
          case measure => simp [intOf]; omega
        · obtain rfl : i = q := by omega
          have HE : Hid (l.take i = l) := List.take_of_length_le (by have := HQ.out; omega)
          have HO : Hid (OwnT wr wa.heap.size 46 2 (.slice A3 m3 c3) l.length (pcC l)) := by
            have := H3.out
            rw [HE.out, HQ.out] at this
            exact this
          have hs1 : w.heap.size ≤ (wr.alloc (.cells #[.slice A3 m3 c3] 88)).heap.size := ((HK.out.trans' HK2.out).al _).size
          have hna := own1_nws (w := wr) (u := .slice A3 m3 c3) (t := 88) rfl
          have hoa := H1.out.no (HK2.out.al (.cells #[.slice A3 m3 c3] 88))
          have HOA := hide hoa
          have HNA := hide hna
          have HS1 := hide hs1
          clear hoa hna hs1
          go_wp2_with (first
            | (at_builtin
               refine wpList_appT ty_pcs rfl (.tmp 42) (.tmp 44) _ rfl Try.underlying45 rfl HOA.out _ _ rfl HNA.out (by omega) HS1.out ?_
               intro A5 n5 c5 w5 hn5 ha
               have HA := hide ha
               clear ha hn5))
          go_round
          case rel => exact ⟨k + 1, A5, n5, c5, by omega, by go_num, rfl, CpI.step H1.out H2.out HK.out HPk.out HO.out HK2.out HA.out⟩
          case measure => simp [intOf]; omega
    · obtain rfl : k = n := by omega
      go_wp2_with fail
      go_ret
      refine ⟨A, m, c, rfl, ⟨us, ?_, H1.out.ge, H2.out⟩, HK.out⟩
      rw [← HL.out]
      exact ownT_base0 h1
end Go.Proofs.Ythicpblgonigcaa
