/- Slices of slices of bytes: what they read as, and rows of them that the call made and appends to; slices.Concat of rows of bytes, as a contract over memory; no condition. -/
import Derived.Test.YtndghapdpfgmoaaGreatVga
import Derived.Test.YtndghapdpfgmoaaGreatVge
import Derived.Lib.AppendZeros
namespace Go.Proofs.YtndghapdpfgmoaaGreat
open Go.RowKit
set_option linter.unusedVariables false

/-- The slice at A of n slices reads as the rows bss. -/
structure Rws (w : World) (A : Option Addr) (n : Nat) (bss : List (List UInt8)) : Prop where
  len : n = bss.length
  at_ : ∀ (j : Nat) bs, bss[j]? = some bs → ∃ B off v, A = some ⟨B, off, none⟩ ∧ w.cell? ⟨B, off + j, none⟩ = some v ∧ Bts w v bs

theorem Rws.no {w w1 : World} {A : Option Addr} {n : Nat} {bss : List (List UInt8)} (h : Rws w A n bss) (hk : Kp No w w1) : Rws w1 A n bss := by
  refine ⟨h.len, fun j bs hj => ?_⟩
  obtain ⟨B, off, v, h1, h2, h3⟩ := h.at_ j bs hj
  exact ⟨B, off, v, h1, hk.cell h2 (fun f => f), h3.no hk⟩
theorem Rws.nil (w : World) : Rws w none 0 [] := ⟨rfl, fun j bs hj => by simp at hj⟩
/-- One of the rows. -/
theorem Rws.get {w : World} {A : Option Addr} {n : Nat} {bss : List (List UInt8)} (h : Rws w A n bss) {j : Nat} (hj : j < n) :
    ∃ B off A' m c bs, A = some ⟨B, off, none⟩ ∧ w.cell? ⟨B, off + j, none⟩ = some (.slice A' m c) ∧ bss[j]? = some bs ∧ Bts w (.slice A' m c) bs := by
  have hl := h.len
  obtain ⟨B, off, v, h1, h2, h3⟩ := h.at_ j _ (List.getElem?_eq_getElem (by omega))
  obtain ⟨A', m, c, rfl⟩ := h3.form
  exact ⟨B, off, A', m, c, _, h1, h2, List.getElem?_eq_getElem (by omega), h3⟩

theorem slc_info : (Tryz.prog.info? 47).map (fun i => (i.zero, i.size, i.bytes)) = some (some (.slice none 0 0), 1, 24) := by kernel_rfl
theorem slc_parts : ∃ i, Tryz.prog.info? 47 = some i ∧ i.zero = some (.slice none 0 0) ∧ i.size = 1 ∧ i.bytes = 24 := by
  have h := slc_info
  rcases hi : Tryz.prog.info? 47 with _ | i
  · rw [hi] at h; cases h
  · rw [hi] at h
    simp only [Option.map_some, Option.some.injEq, Prod.mk.injEq] at h
    exact ⟨i, rfl, h.1, h.2.1, h.2.2⟩

/-- The row of slices v is the call's own, from block base on; it holds vs. -/
def OwnV (w : World) (base : Nat) (v : Value) (vs : List Value) : Prop := w.ownsRow base 47 1 v vs.length vs
section
variable {w w1 : World} {S : Nat → Prop} {base : Nat} {v u : Value} {vs : List Value}
theorem OwnV.nil (w : World) (base : Nat) : OwnV w base (.slice none 0 0) [] := World.ownsRow_nil w base _ 1
theorem OwnV.lt (h : OwnV w base v vs) (k : Nat) (hk : v.ownBlock = some k) : k < w.heap.size := (World.ownsRow.lt h k hk).2
theorem OwnV.ge (h : OwnV w base v vs) (k : Nat) (hk : v.ownBlock = some k) : base ≤ k := (World.ownsRow.lt h k hk).1
theorem OwnV.keep (h : OwnV w base v vs) (hk : Kp S w w1) (hS : ∀ k, v.ownBlock = some k → ¬ S k) : OwnV w1 base v vs := by
  refine ⟨h.1, ?_⟩
  rcases h.2 with hn | ⟨g, cap, cur, rfl, hb, hg, r⟩
  · exact .inl hn
  · exact .inr ⟨g, cap, cur, rfl, hb, by rw [hk.block g (Array.getElem?_eq_some_iff.1 hg).1 (hS g rfl)]; exact hg, r⟩
theorem OwnV.no (h : OwnV w base v vs) (hk : Kp No w w1) : OwnV w1 base v vs := h.keep hk fun _ _ f => f
theorem OwnV.form (h : OwnV w base v vs) : ∃ A c, v = .slice A vs.length c := by
  rcases h.2 with ⟨rfl, hn⟩ | ⟨g, cap, cur, rfl, _⟩
  · exact ⟨none, 0, by rw [hn]⟩
  · exact ⟨_, _, rfl⟩
theorem OwnV.len {A : Option Addr} {n c : Nat} (h : OwnV w base (.slice A n c) vs) : n = vs.length := by
  obtain ⟨A', c', e⟩ := h.form
  injection e
theorem OwnV.cell {A : Option Addr} {n c j : Nat} (h : OwnV w base (.slice A n c) vs) {u : Value} (hj : vs[j]? = some u) : ∃ g, A = some ⟨g, 0, none⟩ ∧ base ≤ g ∧ g < w.heap.size ∧ w.cell? ⟨g, 0 + j, none⟩ = some u := by
  have hjl : j < vs.length := (List.getElem?_eq_some_iff.1 hj).1
  rcases h.2 with ⟨h1, hn⟩ | ⟨g, cap, cur, h1, hb, hg, _, _, _, ht⟩
  · omega
  · injection h1 with h1
    refine ⟨g, h1, hb, (Array.getElem?_eq_some_iff.1 hg).1, ?_⟩
    rw [Nat.zero_add, cell_of_row w g j cur _ _ hg]
    have h2 : (cur.toList.take (vs.length * 1))[j]? = vs[j]? := by rw [ht]
    rw [List.getElem?_take, if_pos (by omega), Array.getElem?_toList, hj] at h2
    exact h2
theorem OwnV.rws {A : Option Addr} {n c : Nat} {bss : List (List UInt8)} (h : OwnV w base (.slice A n c) vs) (hl : vs.length = bss.length) (hb : ∀ (j : Nat) u bs, vs[j]? = some u → bss[j]? = some bs → Bts w u bs) : Rws w A n bss := by
  refine ⟨h.len.trans hl, fun j bs hj => ?_⟩
  have hjl : j < vs.length := by rw [hl]; exact (List.getElem?_eq_some_iff.1 hj).1
  obtain ⟨g, h1, _, _, h2⟩ := h.cell (List.getElem?_eq_getElem hjl)
  exact ⟨g, 0, _, h1, h2, hb j _ bs (List.getElem?_eq_getElem hjl) hj⟩

/-- What append leaves. -/
structure AppV (w : World) (base : Nat) (v : Value) (vs : List Value) (u v1 : Value) (w1 : World) : Prop where
  own : OwnV w1 base v1 (vs ++ [u])
  kp : Kp (fun k => v.ownBlock = some k) w w1
theorem run_appV (t ty : TypeId) (ht : Tryz.prog.underlying t = some (.slice 47)) (h : OwnV w base v vs) (a : Addr) (hu : w.cell? a = some u) (hsp : a.spot = none) (h1 : u.oneCell' = true) (hlen : vs.length ≤ 1000000) (hb : base ≤ w.heap.size) :
    ∃ v1 w1, (Builtin.append_ #[t, t] ty #[v, .slice (some a) 1 1]).run Tryz.prog w = .ok v1 w1 ∧ AppV w base v vs u v1 w1 := by
  obtain ⟨i0, hi0, hz0, hz1, hz2⟩ := slc_parts
  obtain ⟨v1, w1, hr, e1, e2, e3, e4⟩ := run_append_own_at (P := Tryz.prog) w base t ty 47 i0 (.slice none 0 0) 1 24 ht hi0 hz0 hz1 hz2 rfl (by omega) v vs.length vs h a 1 1 [u] (by simp)
    (fun j x hx => by
      match j, hx with
      | 0, hx =>
        simp at hx
        subst hx
        obtain ⟨B, off, sp⟩ := a
        subst hsp
        rw [add_none]
        exact hu
      | j + 1, hx => simp at hx) (fun x hx => by simp at hx; subst hx; exact h1) (by simp only [maxLen]; omega) (by omega) hb
  exact ⟨v1, w1, hr, ⟨by unfold OwnV; rw [List.length_append]; exact e1, Kp.grown e2⟩⟩
theorem wpList_appV {ops : Array Oper} {rest : List Oper} {o : Oper} {a : Act} {Q : Exit → Act → World → Prop} (hgd : o.guard = none) (s x : Operand) (t : TypeId)
    (ho : o.op = .call { callee := .builtin .append, args := #[s, x], argTypes := #[t, t] })
    (ht : Tryz.prog.underlying t = some (.slice 47)) (hs : a.eval s = v) (h : OwnV w base v vs) (ad : Addr) (hx : a.eval x = .slice (some ad) 1 1) (hu : w.cell? ad = some u) (hsp : ad.spot = none) (h1 : u.oneCell' = true) (hlen : vs.length ≤ 1000000) (hb : base ≤ w.heap.size)
    (hQ : ∀ A1 n1 c1 w1, AppV w base v vs u (.slice A1 n1 c1) w1 → wpList Tryz.prog ops Q rest (a.put o.dst (.slice A1 n1 c1)) w1) : wpList Tryz.prog ops Q (o :: rest) a w := by
  refine wpList_plain hgd fun K hK => ?_
  obtain ⟨v1, w1, hr, h1⟩ := run_appV t o.type ht h ad hu hsp h1 hlen hb
  unfold Oper.wp execOp
  simp only [ho, resolve, invoke, builtin, Sem.run_bind, Sem.run_pure, Result.andThen_ok, List.map_toArray, List.map_cons, List.map_nil, hs, hx, hr]
  obtain ⟨A1, c1, rfl⟩ := h1.own.form
  exact hK _ _ (hQ A1 _ c1 w1 h1)
end
end Go.Proofs.YtndghapdpfgmoaaGreat
namespace Go.Proofs.YtndghapdpfgmoaaGreat
open Go.RowKit
set_option linter.unusedVariables false
set_option maxRecDepth 20000
set_option linter.unusedSimpArgs false

/-- A row with room and no bytes comes back. -/
def GrowPost (w : World) (e : Ending) (w1 : World) : Prop := ∃ A c, e = .returned (.slice A 0 c) ∧ Own w1 w.heap.size 5 (.slice A 0 c) [] ∧ Kp No w w1
theorem sgrow_nil (w : World) (n : Nat) (hn : n ≤ 1000000) : Calls Tryz.prog 89 #[.slice none 0 0, .int .i64 (n : Int)] w (GrowPost w) := by
  obtain ⟨i0, hi0, hz0, hz1, hz2⟩ := byte_parts
  by_cases h0 : 0 < n
  · have hr := fun ty => Lib.run_append_nil_zeros (P := Tryz.prog) w 47 3 ty 5 i0 (.int .u8 0) .i64 .i64 Tryz.underlying47 Tryz.underlying3 hi0 hz0 n h0 (by omega) (by omega) (by rw [hz2]; omega)
    have hG1 := grownCap_ge w n 0 5
    have hG2 := grownCap_le_maxLen w n 0 5 (by unfold maxLen; omega)
    obtain ⟨G, hG⟩ : ∃ G, G = grownCap w n 0 5 := ⟨_, rfl⟩
    rw [← hG] at hr hG1 hG2
    have hG3 := hG2
    unfold maxLen at hG3
    have hcut : ∀ w' : World, (Instr.slice 47 (.slice (some ⟨w.heap.size, 0, none⟩) n G) none (some (.int .i64 0)) none).run Tryz.prog w' = .ok (.slice (some ⟨w.heap.size, 0, none⟩) 0 G) w' := fun w' => by
      have he : Tryz.prog.elem 47 = 5 := by kernel_rfl
      have hel : Tryz.prog.underlying 47 = some (.slice (Tryz.prog.elem 47)) := by rw [he]; exact Tryz.underlying47
      have hsz : (sizeOf (Tryz.prog.elem 47)).run Tryz.prog w' = .ok 1 w' := by
        have hc : Tryz.prog.cellsOf 5 = 1 := by kernel_rfl
        rw [he]
        simp [run_sizeOf, hi0, hz1, hc]
      have := run_slice_h (P := Tryz.prog) w' 47 (some ⟨w.heap.size, 0, none⟩) n G hel .i64 0 (by omega) (by omega)
      rw [this, hsz]
      simp [Result.andThen, sliced, Addr.add]
    have HG := hide hG1
    have hp : ¬ ((n : Int) < 0) := by omega
    have hq : (n : Int) > 0 := by omega
    clear hG hG1 hG2
    go_enter Tryz.func89, Tryz.ntmps89
    go_wp2_with (at_builtin; refine Lib.wpList_append_run _ rfl _ _ _ _ rfl _ _ rfl rfl _ _ (hr _) ?_)
    go_ret
    refine ⟨_, G, rfl, ⟨rfl, .inr ⟨w.heap.size, G, _, rfl, Nat.le_refl _, heap_alloc_new w.drew _, Nat.zero_le _, by unfold maxLen; omega, ?_, rfl⟩⟩, (Kp.refl No w).drew.al _⟩
    have := HG.out
    simp [Builtin.zeroCells]
    omega
  · obtain rfl : n = 0 := by omega
    go_enter Tryz.func89, Tryz.ntmps89
    go_wp2
    go_ret
    exact ⟨none, 0, rfl, Own.nil _ _ _, Kp.refl _ _⟩

theorem flat_next {bss : List (List UInt8)} {k : Nat} {b : List UInt8} (h : bss[k]? = some b) : (bss.take (k + 1)).flatten = (bss.take k).flatten ++ b := by
  rw [List.take_add_one, h]; simp
theorem flat_le (bss : List (List UInt8)) (k : Nat) : (bss.take k).flatten.length ≤ bss.flatten.length := by
  have := congrArg (fun l => (List.flatten l).length) (List.take_append_drop k bss)
  simp only [List.flatten_append, List.length_append] at this
  omega
set_option maxHeartbeats 2000000 in
theorem scat_any {w : World} {A : Option Addr} {n c : Nat} {bss : List (List UInt8)} (h : Rws w A n bss) (hn : n ≤ 1000000) (hl : bss.flatten.length ≤ 1000000) : Calls Tryz.prog 76 #[.slice A n c] w (OwnPost w bss.flatten) := by
  obtain ⟨i0, hi0, hz0, hz1, hz2⟩ := byte_parts
  have HL := hide h.len
  go_enter Tryz.func76, Tryz.ntmps76
  go_wp2
  go_loop [3, 11] (fun s i => ∃ k q : Nat, k ≤ n ∧ i = .int .i64 (k : Int) ∧ s = .int .i64 (q : Int) ∧ q ≤ 1000000 ∧ Hid (q = (bss.take k).flatten.length)) (fun _ i => n - (intOf i).toNat)
  case atStart => exact ⟨0, 0, Nat.zero_le _, rfl, rfl, by omega, rfl⟩
  case round =>
    obtain ⟨k, q, hk, rfl, rfl, hq, HQ⟩ := hrel
    by_cases hlt : k < n
    · obtain ⟨B, off, A', m, c', bs, rfl, hc, hb, hB⟩ := h.get hlt
      have hm := hB.len
      have hq2 : q + m ≤ 1000000 := by
        have h1 := flat_next hb
        have h2 := flat_le bss (k + 1)
        rw [h1, List.length_append] at h2
        have := HQ.out
        omega
      have HN : Hid (q + m = (bss.take (k + 1)).flatten.length) := by
        show _ = _
        rw [flat_next hb, List.length_append, ← HQ.out, hm]
      clear hm hb
      have hq3 : ¬ ((q : Int) + (m : Int) < 0) := by omega
      go_wp2
      go_round
      case rel => exact ⟨k + 1, q + m, by omega, by go_num, by go_num, by omega, HN⟩
      case measure => simp [intOf]; omega
    · obtain rfl : k = n := by omega
      have HQ2 : Hid (q = bss.flatten.length) := by
        show _ = _
        rw [HQ.out, List.take_of_length_le (by have := HL.out; omega)]
      clear HQ
      go_wp2_with fail
      refine (sgrow_nil w q hq).mono ?_
      rintro e w1 ⟨A1, c1, rfl, ho1, k1⟩
      go_wp2_with fail
      go_loopw [6, 27] (fun b i wr => ∃ k' A2 m2 c2, k' ≤ k ∧ i = .int .i64 ((k' : Nat) : Int) ∧ b = .slice A2 m2 c2 ∧ Own wr w.heap.size 5 (.slice A2 m2 c2) (bss.take k').flatten ∧ Kp No w wr) (fun _ i _ => k - (intOf i).toNat)
      case atStart => exact ⟨0, A1, 0, c1, Nat.zero_le _, rfl, rfl, ho1, k1⟩
      case round =>
        obtain ⟨k', A2, m2, c2, hk', rfl, rfl, ho2, k2⟩ := hrel
        by_cases hlt' : k' < k
        · obtain ⟨B, off, A', m, c', bs, rfl, hc, hb, hB⟩ := (h.no k2).get hlt'
          have hfl : (bss.take k').flatten.length + bs.length ≤ 1000000 := by
            have h1 := flat_next hb
            have h2 := flat_le bss (k' + 1)
            rw [h1, List.length_append] at h2
            omega
          have HE := hide (flat_next hb)
          clear hb
          go_wp2_with (first
            | (at_builtin
               refine wpList_app rfl (.tmp 31) (.tmp 32) _ rfl i0 Tryz.underlying47 hi0 hz0 hz1 hz2 rfl ho2 rfl hB (by omega) k2.size ?_
               intro A3 n3 c3 w3 ha))
          go_round
          case rel => exact ⟨k' + 1, A3, n3, c3, by omega, by go_num, rfl, by rw [HE.out]; exact ha.own, ha.keeps ho2 k2⟩
          case measure => simp [intOf]; omega
        · obtain rfl : k' = k := by omega
          rw [List.take_of_length_le (by have := HL.out; omega)] at ho2
          go_wp2
          go_ret
          exact ⟨A2, m2, c2, rfl, ho2, k2⟩
end Go.Proofs.YtndghapdpfgmoaaGreat
