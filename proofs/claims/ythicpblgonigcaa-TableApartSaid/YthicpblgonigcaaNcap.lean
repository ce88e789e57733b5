/- slices.Insert of one object in all cases; what a table is when its head or its row of objects is written; begin, remove. No condition. -/
import Derived.Test.YthicpblgonigcaaNcao
namespace Go.Proofs.Ythicpblgonigcaa
open Go.RowKit
set_option linter.unusedVariables false
set_option linter.unusedSimpArgs false
set_option maxRecDepth 20000

section
variable {w : World} {A : Option Addr} {n c i vb g : Nat} {xs : List (Ob × Value)} {x : Ob × Value}
theorem tins_any (h : OwnT w 0 54 6 (.slice A n c) n (obC xs)) (hx : ∀ y ∈ xs, y.2.oneCell' = true) (hi : i ≤ n) (hn : n ≤ 1000) (hb : Bx 54 w vb (obF x)) (h1 : x.2.oneCell' = true) (hne : ∀ k, (Value.slice A n c).ownBlock = some k → vb ≠ k) :
    Calls Try.prog 49 #[.slice A n c, .int .i64 (i : Int), .slice (some ⟨vb, 0, none⟩) 1 1] w (InPost w A n c (obC (xs.take i ++ [x] ++ xs.drop i))) := by
  have hxl : xs.length = n := by have := h.1; rw [obC_len] at this; omega
  rw [obC_split]
  by_cases e : i = n
  · subst e
    have := tins_end h hn hb h1
    rw [List.take_of_length_le (by omega), List.drop_of_length_le (by omega)]
    have e2 : obC xs ++ obF x ++ obC [] = obC xs ++ obF x := by simp [obC]
    rw [e2]
    exact this
  · obtain ⟨g, rfl, _⟩ := OwnT.some_ h (by omega)
    by_cases hr : n < c
    · exact tins_room h hx (by omega) hr hn hb h1 (hne g rfl)
    · exact tins_grow h hx (by omega) (by omega) hn hb h1
end
section
variable {w w1 w2 : World} {F G S : Nat → Prop} {v : Value} {P : List (List Pc)} {A A' : Option Addr} {n c n' c' g : Nat} {T T' : Tb} {vs vs' : List Value}
/-- What is written lies in blocks of other types. -/
theorem PlR.away (h : PlR w F v P) (hk : Kp S w w1) (hS : ∀ k, S k → ∃ (cur : Array Value) (t : TypeId), w.heap[k]? = some (.cells cur t (0, 0)) ∧ t ≠ 46 ∧ t ≠ 88) : PlR w1 F v P := by
  obtain ⟨us, h1, h2, h3⟩ := h
  refine ⟨us, h1.keep hk fun q hq e => ?_, h2, fun j u l hu hl => ?_⟩
  · obtain ⟨cur, t, e1, e2, e3⟩ := hS q e
    exact OwnT.not_at h1 e1 e3 hq
  · have hp := h3 j u l hu hl
    refine ⟨hp.own.keep hk fun q hq e => ?_, hp.fv⟩
    obtain ⟨cur, t, e1, e2, e3⟩ := hS q e
    exact OwnT.not_at hp.own e1 e2 hq
theorem TbR.row_at (h : TbR w F g A n c T vs) : ∀ k, (Value.slice A n c).ownBlock = some k → ∃ (cur : Array Value) (t : TypeId), w.heap[k]? = some (.cells cur t (0, 0)) ∧ t ≠ 46 ∧ t ≠ 88 := fun k hk => by
  obtain ⟨cur, e⟩ := h.row.kind hk
  exact ⟨cur, _, e, by decide, by decide⟩
theorem TbR.blk_at (h : TbR w F g A n c T vs) : ∀ k, k = g → ∃ (cur : Array Value) (t : TypeId), w.heap[k]? = some (.cells cur t (0, 0)) ∧ t ≠ 46 ∧ t ≠ 88 := fun k hk => by
  subst hk
  exact ⟨_, _, h.blk, by decide, by decide⟩
theorem TbR.row_ne (h : TbR w F g A n c T vs) : (Value.slice A n c).ownBlock ≠ some g := OwnT.not_at h.row h.blk (by decide)
/-- The head is written. -/
theorem TbR.head (h : TbR w F g A n c T vs) (hk : Kp (fun k => k = g) w w1) (hb : w1.heap[g]? = some (.cells #[.int .i64 (T'.sl : Int), .int .i64 (T'.nd : Int), .int .u32 (T'.nx : Int), .int .u32 (T'.lt : Int), .slice A n c] 74 (0, 0))) (ho : T'.os = T.os) (ok : T'.Ok) : TbR w1 F g A n c T' vs :=
  ⟨hb, by rw [ho]; exact h.row.keep hk fun k hk' e => h.row_ne (e ▸ hk'), by rw [ho]; exact h.len, fun j o v hj hv => (h.pls j o v (ho ▸ hj) hv).away hk h.blk_at, h.inj, h.fg, h.fv, ok⟩
/-- The row of objects is another one. -/
theorem TbR.next (h : TbR w F g A n c T vs) (hk : Kp (fun k => (Value.slice A n c).ownBlock = some k) w w1) (hrow : OwnT w1 0 54 6 (.slice A' n' c') T'.os.length (obC (T'.os.zip vs'))) (hsl : T'.sl = T.sl ∧ T'.nd = T.nd ∧ T'.nx = T.nx ∧ T'.lt = T.lt)
    (hlen : vs'.length = T'.os.length) (hpls : ∀ (j : Nat) o v, T'.os[j]? = some o → vs'[j]? = some v → PlR w1 G v o.pl) (hinj : ∀ (i j : Nat) u v k, vs'[i]? = some u → vs'[j]? = some v → u.ownBlock = some k → v.ownBlock = some k → i = j)
    (hfv : ∀ k, (Value.slice A' n' c').ownBlock = some k → G k) (hG : ∀ k, F k → G k) (ok : T'.Ok) : TbR (w1.setCell ⟨g, 4, none⟩ (.slice A' n' c')) G g A' n' c' T' vs' ∧ Kp F w (w1.setCell ⟨g, 4, none⟩ (.slice A' n' c')) := by
  have hb1 : w1.heap[g]? = _ := (hk.block g h.glt h.row_ne).trans h.blk
  have hks : Kp (fun k => k = g) w1 (w1.setCell ⟨g, 4, none⟩ (.slice A' n' c')) := Kp.setCell (p := ⟨g, 4, none⟩) (S := fun k => k = g) rfl _
  refine ⟨⟨?_, hrow.keep hks fun k hk' e => OwnT.not_at hrow hb1 (by decide) (e ▸ hk'), hlen, fun j o v hj hv => (hpls j o v hj hv).away hks fun k e => by subst e; exact ⟨_, _, hb1, by decide, by decide⟩, hinj, hG g h.fg, hfv, ok⟩, (hk.mono h.fv).trans' (hks.mono fun k e => e ▸ h.fg)⟩
  obtain ⟨e1, e2, e3, e4⟩ := hsl
  rw [heap_setCell_same w1 g 4 _ _ (.slice A' n' c') hb1, e1, e2, e3, e4]
  rfl
end
/-- A call that may turn the table. -/
def TbPost (w : World) (F : Nat → Prop) (g : Nat) (T : Tb) (z : Int) (e : Ending) (w1 : World) : Prop := e = .returned (.int .i64 z) ∧ TbAt w1 (Up F w) g T ∧ Kp F w w1
section
variable {w w1 : World} {F : Nat → Prop} {g n : Nat} {T : Tb}
theorem TbPost.same (h : TbAt w F g T) (hk : Kp No w w1) (z : Int) : TbPost w F g T z (.returned (.int .i64 z)) w1 := ⟨rfl, (h.no hk).mono fun k _ hf => .inl hf, hk.of_no F⟩
theorem tbegin_any (h : TbAt w F g T) (n : Nat) : Calls Try.prog 30 #[.pointer (some ⟨g, 0, none⟩), .int .u32 (n : Int)] w (TbPost w F g (T.bg n) (T.bgE n)) := by
  have HT := hide h
  obtain ⟨A, m, c, vs, h⟩ := h
  have c2 := h.c2
  have f2 := h.fz 2
  have HR := hide h
  have hok := h.ok
  have hnx := h.ok.nx
  have HB := hide (h.ok.bg (n := n))
  clear h
  by_cases e1 : n = T.nx
  · by_cases e2 : n = 4294967295
    · have hz : T.bgE n = 28 := by unfold Tb.bgE; rw [if_pos (.inr e2)]
      have ht : T.bg n = T := by unfold Tb.bg; rw [hz, if_neg (by decide)]
      rw [hz, ht]
      have t1 : ((n : Int) != (T.nx : Int)) = false := by simp [e1]
      have t2 : ((n : Int) == 4294967295) = true := by simp; omega
      clear e1 e2 hz ht hok hnx
      go_enter Try.func30, Try.ntmps30
      go_wp2_with fail
      go_ret
      exact TbPost.same HT.out (Kp.refl _ _) 28
    · have hz : T.bgE n = 0 := by unfold Tb.bgE; rw [if_neg (by omega)]
      have ht : T.bg n = { T with nx := T.nx + 1 } := by unfold Tb.bg; rw [hz, if_pos rfl]
      rw [ht] at HB
      rw [hz, ht]
      have t1 : ((n : Int) != (T.nx : Int)) = false := by simp [e1]
      have t2 : ((n : Int) == 4294967295) = false := by rw [beq_eq_false_iff_ne]; omega
      have hnx2 : (T.nx : Int) + 1 < 4294967296 := by omega
      clear e1 e2 hz ht hok
      go_enter Try.func30, Try.ntmps30
      go_wp2_with fail
      go_ret
      have hk : Kp (fun k => k = g) w (w.setCell ⟨g, 2, none⟩ (.int .u32 ((T.nx : Int) + 1))) := Kp.setCell (p := ⟨g, 2, none⟩) (S := fun k => k = g) rfl _
      have hT := HR.out.head (T' := { T with nx := T.nx + 1 }) hk (by rw [heap_setCell_same w g 2 _ _ _ HR.out.blk]; rfl) rfl HB.out
      exact ⟨rfl, ⟨A, m, c, vs, hT.mono fun k _ hf => .inl hf⟩, hk.mono fun k e => e ▸ HR.out.fg⟩
  · have hz : T.bgE n = 28 := by unfold Tb.bgE; rw [if_pos (.inl e1)]
    have ht : T.bg n = T := by unfold Tb.bg; rw [hz, if_neg (by decide)]
    rw [hz, ht]
    have t1 : ((n : Int) != (T.nx : Int)) = true := by simp; omega
    clear e1 hz ht hok hnx
    go_enter Try.func30, Try.ntmps30
    go_wp2_with fail
    go_ret
    exact TbPost.same HT.out (Kp.refl _ _) 28
theorem zip_one {os : List Ob} {vs : List Value} {A n c} {w : World} {F : Nat → Prop} {g : Nat} {T : Tb} (h : TbR w F g A n c T vs) : ∀ y ∈ T.os.zip vs, y.2.oneCell' = true := fun y hy => by
  obtain ⟨j, hj⟩ := List.getElem?_of_mem hy
  obtain ⟨o, v⟩ := y
  rw [List.getElem?_zip_eq_some] at hj
  exact (h.pls j o v hj.1 hj.2).one
theorem zip_takeO : ∀ (os : List Ob) (vs : List Value) (i : Nat), (os.take i).zip (vs.take i) = (os.zip vs).take i
  | [], vs, i => by simp
  | o :: os, [], i => by cases i <;> simp
  | o :: os, v :: vs, 0 => by simp
  | o :: os, v :: vs, i + 1 => by simp [zip_takeO os vs i]
theorem zip_dropO : ∀ (os : List Ob) (vs : List Value) (i : Nat), (os.drop i).zip (vs.drop i) = (os.zip vs).drop i
  | [], vs, i => by simp
  | o :: os, [], i => by cases i <;> simp
  | o :: os, v :: vs, 0 => by simp
  | o :: os, v :: vs, i + 1 => by simp [zip_dropO os vs i]
theorem zip_rem (os : List Ob) (vs : List Value) (i : Nat) : (remO os i).zip (vs.take i ++ vs.drop (i + 1)) = (os.zip vs).take i ++ (os.zip vs).drop (i + 1) ∨ ¬ vs.length = os.length := by
  by_cases h : vs.length = os.length
  · left
    unfold remO
    rw [List.zip_append (by simp [h]), zip_takeO, zip_dropO]
  · exact .inr h
theorem rem_get {α : Type} (l : List α) (k j : Nat) (hk : k < l.length) : (l.take k ++ l.drop (k + 1))[j]? = if j < k then l[j]? else l[j + 1]? := by
  by_cases g : j < k
  · rw [if_pos g, List.getElem?_append_left (by rw [List.length_take]; omega), List.getElem?_take, if_pos g]
  · rw [if_neg g, List.getElem?_append_right (by rw [List.length_take]; omega), List.length_take, Nat.min_eq_left (by omega), List.getElem?_drop]
    congr 1
    omega
set_option maxHeartbeats 1000000 in
theorem tremove_any (h : TbAt w F g T) (s : List UInt8) : Calls Try.prog 32 #[.pointer (some ⟨g, 0, none⟩), .string (strOf s)] w (TbPost w F g (T.rem s) (T.remE s)) := by
  have hc := tplace_any h s
  have HT := hide h
  by_cases e : fNm T.os s < T.os.length
  · have hz : T.remE s = 0 := by unfold Tb.remE; rw [if_pos e]
    have ht : T.rem s = { T with os := remO T.os (fNm T.os s) } := by unfold Tb.rem; rw [if_pos e]
    rw [hz, ht]
    rw [decide_eq_true e, h.ok.ris.same e] at hc
    have HOK := hide (h.ok.remO e)
    obtain ⟨A, n, c, vs, h⟩ := h
    have hn := h.n_
    have hn64 : n ≤ 64 := by rw [hn]; exact h.ok.len
    obtain ⟨i, hi⟩ : ∃ i, i = fNm T.os s := ⟨_, rfl⟩
    rw [← hi] at hc HOK e ⊢
    have hin : i < n := by omega
    obtain ⟨g2, rfl, _⟩ := OwnT.some_ h.row (by omega)
    have HR := hide h
    have HC := hide hc
    have HN := hide hn
    clear h hc hn hi hz ht e
    go_enter Try.func32, Try.ntmps32
    go_wp2_with fail
    refine HC.out.mono ?_
    rintro e w1 ⟨rfl, hk1⟩
    have hR1 := HR.out.no hk1
    have c4 := hR1.c4
    have f4 := hR1.fz 4
    have hrow := hR1.row
    rw [← HN.out] at hrow
    have HDL := hide (tdel_any (i := i) hrow (zip_one (os := T.os) hR1) hin (by omega))
    have HR1 := hide hR1
    have HK1 := hide hk1
    clear hR1 hk1 hrow
    go_wp2_with fail
    refine HDL.out.mono ?_
    rintro e w2 ⟨rfl, ho2, hk2⟩
    have y4 := hk2.cell c4 fun e => HR1.out.row_ne (congrArg some (Eq.symm e))
    have z4 : w2.frozen? ⟨g, 4, none⟩ = false := frozen_of_row w2 g 4 _ _ ((hk2.block g HR1.out.glt fun e => HR1.out.row_ne (congrArg some (Eq.symm e))).trans HR1.out.blk)
    have HO2 := hide ho2
    have HK2 := hide hk2
    clear ho2 hk2 c4 f4
    go_wp2_with fail
    go_ret
    have hlen := HR1.out.len
    have hnn := HN.out
    have hz2 := (zip_rem T.os vs i).resolve_right (fun e => e hlen)
    have hro : (remO T.os i).length = n - 1 := by unfold remO; rw [List.length_append, List.length_take, List.length_drop]; omega
    have hkk : Kp (fun k => (Value.slice (some ⟨g2, 0, none⟩) n c).ownBlock = some k) w1 w2 := HK2.out.mono fun k e => by rw [e]; rfl
    have hnx := HR1.out.next (G := Up F w) (T' := { T with os := remO T.os i }) (vs' := vs.take i ++ vs.drop (i + 1)) (A' := some ⟨g2, 0, none⟩) (n' := n - 1) (c' := c) hkk
      (by show OwnT w2 0 _ 6 _ (remO T.os i).length (obC ((remO T.os i).zip _)); rw [hz2, hro]; exact HO2.out) ⟨rfl, rfl, rfl, rfl⟩
      (by show _ = (remO T.os i).length; rw [hro, List.length_append, List.length_take, List.length_drop]; omega)
      (fun j o v hj hv => by
        have hj2 : (remO T.os i)[j]? = some o := hj
        unfold remO at hj2
        rw [rem_get _ _ _ (by omega)] at hj2
        rw [rem_get _ _ _ (by omega)] at hv
        have hp : PlR w1 F v o.pl := by
          split at hj2
          · rename_i g; rw [if_pos g] at hv; exact HR1.out.pls _ _ _ hj2 hv
          · rename_i g; rw [if_neg g] at hv; exact HR1.out.pls _ _ _ hj2 hv
        exact (hp.away hkk HR1.out.row_at).mono fun k _ hf => .inl hf)
      (fun a b u v k ha hb hu hv => by
        rw [rem_get _ _ _ (by omega)] at ha hb
        split at ha <;> split at hb <;> (have := HR1.out.inj _ _ _ _ _ ha hb hu hv; omega))
      (fun k hk => .inl (HR1.out.fv k hk)) (fun k hf => .inl hf) HOK.out
    exact ⟨rfl, ⟨_, _, _, _, hnx.1⟩, HK1.out.of_no F |>.trans' hnx.2⟩
  · have hz : T.remE s = 6 := by unfold Tb.remE; rw [if_neg e]
    have ht : T.rem s = T := by unfold Tb.rem; rw [if_neg e]
    rw [hz, ht]
    rw [decide_eq_false e] at hc
    have HC := hide hc
    clear h hc hz ht e
    go_enter Try.func32, Try.ntmps32
    go_wp2_with fail
    refine HC.out.mono ?_
    rintro e w1 ⟨rfl, hk1⟩
    have HK1 := hide hk1
    clear hk1
    go_wp2_with fail
    go_ret
    exact TbPost.same HT.out HK1.out 6
end
end Go.Proofs.Ythicpblgonigcaa
