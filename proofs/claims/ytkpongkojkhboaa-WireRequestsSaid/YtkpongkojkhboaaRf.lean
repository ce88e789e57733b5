/- The document's own answers for package pack (a text, a shard, rows joined), each as a contract over memory. -/
import Derived.Test.YtkpongkojkhboaaCl
import Derived.Deep.RegionHeld3
namespace Go.Proofs.Ytkpongkojkhboaa
open Go.RowKit
set_option linter.unusedVariables false
set_option maxRecDepth 20000

/-- From block b on lie the slices vs, which read as the rows bss. -/
structure RowsAt (w : World) (b : Nat) (vs : List Value) (bss : List (List UInt8)) : Prop where
  len : vs.length = bss.length
  cell : ∀ (j : Nat) v, vs[j]? = some v → w.cell? ⟨b, j, none⟩ = some v
  bts : ∀ (j : Nat) v bs, vs[j]? = some v → bss[j]? = some bs → Bts w v bs

theorem RowsAt.keep {w w1 : World} {b : Nat} {vs : List Value} {bss : List (List UInt8)} (h : RowsAt w b vs bss) (hk : Kp No w w1) : RowsAt w1 b vs bss :=
  ⟨h.len, fun j v hj => hk.cell (h.cell j v hj) (fun f => f), fun j v bs hj hb => (h.bts j v bs hj hb).keep hk fun _ _ f => f⟩

theorem RowsAt.new (w : World) (vs : List Value) (bss : List (List UInt8)) (hl : vs.length = bss.length) (hb : ∀ (j : Nat) v bs, vs[j]? = some v → bss[j]? = some bs → Bts w v bs) :
    RowsAt (w.alloc (.cells vs.toArray 27)) w.heap.size vs bss :=
  ⟨hl, fun j v hj => by rw [World.cell?_alloc_mark]; simpa using hj, fun j v bs hj hbs => (hb j v bs hj hbs).no (Kp.alloc No w _)⟩

theorem take_flat (bss : List (List UInt8)) (k : Nat) (bs : List UInt8) (h : bss[k]? = some bs) : (bss.take (k + 1)).flatten = (bss.take k).flatten ++ bs := by
  have hk := (List.getElem?_eq_some_iff.1 h).1
  rw [List.take_succ_eq_append_getElem hk, List.flatten_append]
  simp [(List.getElem?_eq_some_iff.1 h).2]
theorem take_flat_le (bss : List (List UInt8)) (k : Nat) : (bss.take k).flatten.length ≤ bss.flatten.length := by
  conv => rhs; rw [← List.take_append_drop k bss, List.flatten_append, List.length_append]
  omega

set_option maxHeartbeats 1000000 in
theorem join_any {w : World} {b n : Nat} {vs : List Value} {bss : List (List UInt8)} (h : RowsAt w b vs bss) (hn : n = bss.length) (hs : bss.length ≤ 1000) (hl : bss.flatten.length ≤ 900000000) :
    Calls Try.prog 31 #[.slice (some ⟨b, 0, none⟩) n n] w (OwnPost w bss.flatten) := by
  obtain ⟨i0, hi0, hz0, hz1, hz2⟩ := byte_parts
  have HN := hide hn
  have hn2 : n ≤ 1000 := by omega
  clear hn
  go_enter Try.func31, Try.ntmps31
  go_wp2
  go_loopw [3, 4] (fun o i wr => ∃ k A l c, k ≤ n ∧ i = .int .i64 ((k : Nat) : Int) ∧ o = .slice A l c ∧ Own wr w.heap.size 5 (.slice A l c) (bss.take k).flatten ∧ Kp No w wr) (fun _ i _ => n - (intOf i).toNat)
  case atStart => exact ⟨0, none, 0, 0, Nat.zero_le _, rfl, rfl, Own.nil _ _ _, Kp.refl _ _⟩
  case round =>
    obtain ⟨k, A, l, c, hk, rfl, rfl, hb, hkp⟩ := hrel
    by_cases hlt : k < n
    · obtain ⟨v, hv⟩ : ∃ v, vs[k]? = some v := ⟨_, List.getElem?_eq_getElem (by rw [h.len]; have := HN.out; omega)⟩
      obtain ⟨bs, hbs⟩ : ∃ bs, bss[k]? = some bs := ⟨_, List.getElem?_eq_getElem (by have := HN.out; omega)⟩
      have hr := h.keep hkp
      have hc : wr.cell? ⟨b, k, none⟩ = some v := hr.cell k v hv
      have hbt := hr.bts k v bs hv hbs
      obtain ⟨B, m, d, rfl⟩ := hbt.form
      have HF := hide (take_flat bss k bs hbs)
      have hle : (bss.take (k + 1)).flatten.length ≤ 900000000 := Nat.le_trans (take_flat_le bss (k + 1)) hl
      rw [HF.out, List.length_append] at hle
      have HV := hide hv
      have HB := hide hbs
      clear hv hbs
      go_wp2_with (first
        | (at_builtin
           refine wpList_app rfl (.tmp 11) (.tmp 15) _ rfl i0 Try.underlying27 hi0 hz0 hz1 hz2 rfl hb rfl hbt ?hl ?hs ?_
           case hl => omega
           case hs => exact hkp.size
           intro A1 n1 c1 w1 ha))
      go_round
      case rel => exact ⟨k + 1, A1, n1, c1, by omega, by go_num, rfl, by rw [HF.out]; exact ha.own, ha.keeps hb hkp⟩
      case measure => simp [intOf]; omega
    · have hkn : k = n := by omega
      subst hkn
      go_wp2
      go_ret
      have e : bss.take k = bss := List.take_of_length_le (by have := HN.out; omega)
      rw [e] at hb
      exact ⟨A, l, c, rfl, hb, hkp⟩

theorem kept4 {W w1 : World} {b : Nat} {x0 x1 x2 x3 : Value} (hk : Kp No W w1)
    (h : W.cell? ⟨b, 0, none⟩ = some x0 ∧ W.cell? ⟨b, 1, none⟩ = some x1 ∧ W.cell? ⟨b, 2, none⟩ = some x2 ∧ W.cell? ⟨b, 3, none⟩ = some x3) :
    w1.cell? ⟨b, 0, none⟩ = some x0 ∧ w1.cell? ⟨b, 1, none⟩ = some x1 ∧ w1.cell? ⟨b, 2, none⟩ = some x2 ∧ w1.cell? ⟨b, 3, none⟩ = some x3 :=
  ⟨hk.cell h.1 fun f => f, hk.cell h.2.1 fun f => f, hk.cell h.2.2.1 fun f => f, hk.cell h.2.2.2 fun f => f⟩

theorem rows4 {w1 w2 w3 w4 : World} {b1 b2 b3 b4 : Nat} {v1 v2 v3 v4 : Value} {x1 x2 x3 x4 : List UInt8} (h1 : Own w1 b1 5 v1 x1) (h2 : Own w2 b2 5 v2 x2) (h3 : Own w3 b3 5 v3 x3) (h4 : Own w4 b4 5 v4 x4)
    (k2 : Kp No w1 w2) (k3 : Kp No w2 w3) (k4 : Kp No w3 w4) : RowsAt (w4.alloc (.cells #[v1, v2, v3, v4] 27)) w4.heap.size [v1, v2, v3, v4] [x1, x2, x3, x4] := by
  refine RowsAt.new w4 _ _ rfl ?_
  intro j v bs hj hb
  match j, hj, hb with
  | 0, hj, hb =>
    simp at hj hb
    subst hj hb
    exact ((h1.no k2).no k3).no k4 |>.bts
  | 1, hj, hb =>
    simp at hj hb
    subst hj hb
    exact (h2.no k3).no k4 |>.bts
  | 2, hj, hb =>
    simp at hj hb
    subst hj hb
    exact (h3.no k4).bts
  | 3, hj, hb =>
    simp at hj hb
    subst hj hb
    exact h4.bts
  | j + 4, hj, _ => simp at hj

theorem shard_flat (o st sl gn : Nat) : [numB o 4, numB st 2, numB sl 2, numB gn 4].flatten = shardB o st sl gn := by simp [shardB]

set_option maxHeartbeats 4000000 in
theorem rshard_any {w : World} (o st sl gn : Nat) (ho : o < 4294967296) (hst : st < 65536) (hsl : sl < 65536) (hgn : gn < 4294967296) :
    Calls Try.prog 33 #[.agg #[.int .u32 o, .int .u16 st, .int .u16 sl, .int .u32 gn]] w (OwnPost w (shardB o st sl gn)) := by
  have z0 : o < 18446744073709551616 := by omega
  have z1 : st < 18446744073709551616 := by omega
  have z2 : sl < 18446744073709551616 := by omega
  have z3 : gn < 18446744073709551616 := by omega
  have q0 : IntKind.u64.wrap (o : Int) = o := IntWalk.u64_in _ (by omega)
  have q1 : IntKind.u64.wrap (st : Int) = st := IntWalk.u64_in _ (by omega)
  have q2 : IntKind.u64.wrap (sl : Int) = sl := IntWalk.u64_in _ (by omega)
  have q3 : IntKind.u64.wrap (gn : Int) = gn := IntWalk.u64_in _ (by omega)
  have K4 : IsK 4 4 := ⟨by omega, by omega⟩
  have K2 : IsK 2 2 := ⟨by omega, by omega⟩
  go_enter Try.func33, Try.ntmps33
  go_wp2_with fail
  go_region_held3 (fun w' => w'.cell? ⟨w.heap.size, 0, none⟩ = some (.int .u32 o) ∧ w'.cell? ⟨w.heap.size, 1, none⟩ = some (.int .u16 st) ∧ w'.cell? ⟨w.heap.size, 2, none⟩ = some (.int .u16 sl) ∧ w'.cell? ⟨w.heap.size, 3, none⟩ = some (.int .u32 gn)) (first | assumption | go_keep)
    (first
      | (go_at_call 32; ((with_reducible refine (rnum_any o 4 4 z0 K4).mono ?_); rintro e w1 ⟨A1, n1, c1, rfl, ho1, hk1⟩); have s1 := kept4 hk1 (by assumption))
      | (go_at_call 32; ((with_reducible refine (rnum_any st 2 2 z1 K2).mono ?_); rintro e w2 ⟨A2, n2, c2, rfl, ho2, hk2⟩); have s2 := kept4 hk2 (by assumption))
      | (go_at_call 32; ((with_reducible refine (rnum_any sl 2 2 z2 K2).mono ?_); rintro e w3 ⟨A3, n3, c3, rfl, ho3, hk3⟩); have s3 := kept4 hk3 (by assumption))
      | (go_at_call 32; ((with_reducible refine (rnum_any gn 4 4 z3 K4).mono ?_); rintro e w4 ⟨A4, n4, c4, rfl, ho4, hk4⟩); have s4 := kept4 hk4 (by assumption))
      | (go_at_call 31; ((with_reducible refine (join_any (n := 4) (rows4 ho1 ho2 ho3 ho4 hk2 hk3 hk4) rfl (by simp) (by simp [numB_length])).mono ?_); rintro e w5 ⟨A5, n5, c5, rfl, ho5, hk5⟩); have s5 := kept4 (hk4.trans ((Kp.alloc _ _ _).trans (hk5.of_no _))) (by assumption)))
  go_wp2
  go_ret
  have k5 : Kp No w w5 := (Kp.alloc No w _).drew.trans' (hk1.trans' (hk2.trans' (hk3.trans' (hk4.trans' ((Kp.alloc No w4 _).trans' hk5)))))
  rw [shard_flat] at ho5
  refine ⟨A5, n5, c5, rfl, ho5.rebase fun k hk => ?_, k5⟩
  have a1 := ho5.ge k hk
  have a2 := ((Kp.alloc No w _).drew.trans' (hk1.trans' (hk2.trans' (hk3.trans' hk4)))).size
  simp at a1
  omega
end Go.Proofs.Ytkpongkojkhboaa
