/- Package seal's Sum and Go and the document's Sum, each as a contract over memory; The document's own answers for package pack (a text, a shard, rows joined), each as a contract over memory; Package seal's Frame and the document's Frame, each as a contract over memory; A slice of bytes cut: b[l:u], b[:u] and b[l:], what each reads as and that it doesn't panic; no condition. -/
import Derived.Test.YtnfcfdhlmeimhaaGreatTwac
import Derived.IntWalk
import Derived.Laws.BitsAllLaws
import Derived.Deep.RegionHeld3
import Derived.Test.YtnfcfdhlmeimhaaGreatTwaa
namespace Go.Proofs.YtnfcfdhlmeimhaaGreat
open Go.RowKit
set_option linter.unusedVariables false
set_option maxRecDepth 20000
set_option linter.unusedSimpArgs false

/-- The sum of any bytes whose sum is s, and bs behind them. -/
def goS (s : Nat) (bs : List UInt8) : Nat := c1s - cbs (c1s - s) bs
theorem goS_crc (a b : List UInt8) : goS (crc a) b = crc (a ++ b) := crc_go a b

/-- One bit, as the program reckons. -/
theorem bit_step (x : Nat) (h : x < 4294967296) : bits .xor .u32 ((x : Int) / 2) (bits .and .u32 (-(bits .and .u32 (x : Int) 1) % 4294967296) 2197175160) = ((cb x : Nat) : Int) := by
  have e1 : bits .and .u32 (x : Int) 1 = ((x % 2 : Nat) : Int) := by
    have := u32_and_nat x 1 h (by omega)
    rw [Nat.and_one_is_mod] at this
    exact this
  have e2 : ((x : Int) / 2) = ((x / 2 : Nat) : Int) := by omega
  rw [e1, e2]
  rcases (by omega : x % 2 = 0 ∨ x % 2 = 1) with g | g
  · have e3 : bits .and .u32 (-((x % 2 : Nat) : Int) % 4294967296) 2197175160 = ((0 : Nat) : Int) := by
      rw [g]; exact u32_and_nat 0 2197175160 (by omega) (by omega)
    rw [e3, u32_xor_nat _ _ (by omega) (by omega), Nat.xor_zero]
    unfold cb; rw [if_neg (by omega)]
  · have e3 : bits .and .u32 (-((x % 2 : Nat) : Int) % 4294967296) 2197175160 = ((2197175160 : Nat) : Int) := by
      rw [g]; exact (u32_and_nat 4294967295 2197175160 (by omega) (by omega)).trans (by decide)
    rw [e3, u32_xor_nat _ _ (by omega) (by omega)]
    unfold cb; rw [if_pos g]
theorem byte_in (q : Nat) (b : UInt8) (h : q < 4294967296) : bits .xor .u32 (q : Int) (b.toNat : Int) = ((q ^^^ b.toNat : Nat) : Int) ∧ q ^^^ b.toNat < 4294967296 := by
  have := b.toNat_lt
  exact ⟨u32_xor_nat _ _ h (by omega), Nat.xor_lt_two_pow (n := 32) h (by omega)⟩
theorem ones_xor (x : Nat) (h : x < 4294967296) : bits .xor .u32 IntKind.u32.max (x : Int) = ((c1s - x : Nat) : Int) := by
  have e : IntKind.u32.max = ((c1s : Nat) : Int) := by decide
  rw [e, u32_xor_nat _ _ (by decide) h, comp_xor h, Nat.xor_comm]
theorem cn_step (k x : Nat) : cb (cn k x) = cn (k + 1) x := by rw [cn_add]; rfl
theorem cbs_step {bs : List UInt8} {j : Nat} {b : UInt8} (c : Nat) (h : bs[j]? = some b) : cbs c (bs.take (j + 1)) = cn 8 (cbs c (bs.take j) ^^^ b.toNat) := by
  obtain ⟨hj, e⟩ := List.getElem?_eq_some_iff.1 h
  rw [List.take_succ_eq_append_getElem hj, cbs_app, e]
  rfl

set_option maxHeartbeats 1000000 in
theorem sgo_any {w : World} {bs : List UInt8} {u : Value} (s : Nat) (hs : s < 4294967296) (hu : Bts w u bs) (hl : bs.length ≤ 900000000) :
    Calls Tryz.prog 150 #[.int .u32 s, u] w fun e w' => e = .returned (.int .u32 ((goS s bs : Nat) : Int)) ∧ w = w' := by
  obtain ⟨A, m, c, rfl⟩ := hu.form
  have HM := hide hu.len
  have hm2 : m ≤ 900000000 := by have := HM.out; omega
  go_enter Tryz.func150, Tryz.ntmps150
  go_wp2
  go_loop [5, 7, 12, 20] (fun r _ i _ => ∃ (j q : Nat), j ≤ m ∧ i = .int .i64 (j : Int) ∧ r = .int .u32 (q : Int) ∧ q < 4294967296 ∧ Hid (q = cbs (c1s - s) (bs.take j))) (fun _ _ i _ => m - (intOf i).toNat)
  case atStart => exact ⟨0, c1s - s, by omega, rfl, by rw [ones_xor s hs], by unfold c1s; omega, rfl⟩
  case round =>
    obtain ⟨j, q, hj, rfl, rfl, hq, HQ⟩ := hrel
    by_cases hlt : j < m
    · obtain ⟨B, off, b, hA, hb', hcell⟩ := hu.at_ hlt
      have HB := hide hb'
      clear hb'
      subst hA
      have hbl := b.toNat_lt
      go_wp2
      go_loop [5, 20] (fun r i => ∃ (k x : Nat), k ≤ 8 ∧ i = .int .i64 (k : Int) ∧ r = .int .u32 (x : Int) ∧ x < 4294967296 ∧ Hid (x = cn k (q ^^^ b.toNat))) (fun _ i => 8 - (intOf i).toNat)
      case atStart => exact ⟨0, q ^^^ b.toNat, by omega, rfl, by rw [(byte_in q b hq).1], (byte_in q b hq).2, rfl⟩
      case round =>
        obtain ⟨k, x, hk, rfl, rfl, hx, HX⟩ := hrel
        by_cases hk8 : k < 8
        · go_wp2
          go_round
          case rel => exact ⟨k + 1, cb x, by omega, by go_num, by rw [bit_step x hx], cb_lt hx, by show cb x = _; rw [HX.out, cn_step]⟩
          case measure => simp [intOf]; omega
        · have hk9 : k = 8 := by omega
          subst hk9
          go_wp2
          go_round
          case rel => exact ⟨j + 1, x, by omega, by go_num, rfl, hx, by show x = _; rw [HX.out, HQ.out, cbs_step _ HB.out]⟩
          case measure => simp [intOf]; omega
    · have hjm : j = m := by omega
      subst hjm
      go_wp2
      go_ret
      refine ⟨?_, rfl⟩
      rw [ones_xor q hq, HQ.out, List.take_of_length_le (by have := HM.out; omega)]
      rfl

theorem ssum_any {w : World} {bs : List UInt8} {u : Value} (hu : Bts w u bs) (hl : bs.length ≤ 900000000) :
    Calls Tryz.prog 151 #[u] w fun e w' => e = .returned (.int .u32 ((crc bs : Nat) : Int)) ∧ w = w' := by
  go_enter Tryz.func151, Tryz.ntmps151
  go_wp2_with (go_at_call 150; refine (sgo_any 0 (by omega) hu hl).mono ?_; rintro e w' ⟨rfl, rfl⟩)
  go_ret
  exact ⟨rfl, rfl⟩

end Go.Proofs.YtnfcfdhlmeimhaaGreat
namespace Go.Proofs.YtnfcfdhlmeimhaaGreat
open Go.RowKit
set_option linter.unusedVariables false
set_option maxRecDepth 20000

/-- From block b on lie the slices vs, which read as the rows bss. -/
structure RowsAt (w : World) (b : Nat) (vs : List Value) (bss : List (List UInt8)) : Prop where
  len : vs.length = bss.length
  cell : ∀ (j : Nat) v, vs[j]? = some v → w.cell? ⟨b, j, none⟩ = some v
  bts : ∀ (j : Nat) v bs, vs[j]? = some v → bss[j]? = some bs → Bts w v bs

theorem RowsAt.keep {w w1 : World} {b : Nat} {vs : List Value} {bss : List (List UInt8)} (h : RowsAt w b vs bss) (hk : Kp No w w1) : RowsAt w1 b vs bss :=
  ⟨h.len, fun j v hj => hk.cell (h.cell j v hj) (fun f => f), fun j v bs hj hb => (h.bts j v bs hj hb).keep hk fun _ _ f => f⟩

theorem RowsAt.new (w : World) (vs : List Value) (bss : List (List UInt8)) (hl : vs.length = bss.length) (hb : ∀ (j : Nat) v bs, vs[j]? = some v → bss[j]? = some bs → Bts w v bs) :
    RowsAt (w.alloc (.cells vs.toArray 54)) w.heap.size vs bss :=
  ⟨hl, fun j v hj => by rw [World.cell?_alloc_mark]; simpa using hj, fun j v bs hj hbs => (hb j v bs hj hbs).no (Kp.alloc No w _)⟩

theorem take_flat (bss : List (List UInt8)) (k : Nat) (bs : List UInt8) (h : bss[k]? = some bs) : (bss.take (k + 1)).flatten = (bss.take k).flatten ++ bs := by
  have hk := (List.getElem?_eq_some_iff.1 h).1
  rw [List.take_succ_eq_append_getElem hk, List.flatten_append]
  simp [(List.getElem?_eq_some_iff.1 h).2]
theorem take_flat_le (bss : List (List UInt8)) (k : Nat) : (bss.take k).flatten.length ≤ bss.flatten.length := by
  conv => rhs; rw [← List.take_append_drop k bss, List.flatten_append, List.length_append]
  omega

set_option maxHeartbeats 1000000 in
theorem join_any {w : World} {b n : Nat} {vs : List Value} {bss : List (List UInt8)} (h : RowsAt w b vs bss) (hn : n = bss.length) (hs : bss.length ≤ 1000) (hl : bss.flatten.length ≤ 900000000) :
    Calls Tryz.prog 39 #[.slice (some ⟨b, 0, none⟩) n n] w (OwnPost w bss.flatten) := by
  obtain ⟨i0, hi0, hz0, hz1, hz2⟩ := byte_parts
  have HN := hide hn
  have hn2 : n ≤ 1000 := by omega
  clear hn
  go_enter Tryz.func39, Tryz.ntmps39
  go_wp2
  go_loopw [3, 4] (fun o i wr => ∃ k A l c, k ≤ n ∧ i = .int .i64 ((k : Nat) : Int) ∧ o = .slice A l c ∧ Own wr w.heap.size 5 (.slice A l c) (bss.take k).flatten ∧ Kp No w wr) (fun _ i _ => n - (intOf i).toNat)
  case atStart => exact ⟨0, none, 0, 0, Nat.zero_le _, rfl, rfl, Own.nil _ _ _, Kp.refl _ _⟩
  case round =>
    obtain ⟨k, A, l, c, hk, rfl, rfl, hb, hkp⟩ := hrel
    by_cases hlt : k < n
    · obtain ⟨v, hv⟩ : ∃ v, vs[k]? = some v := ⟨_, List.getElem?_eq_getElem (by rw [h.len]; have := HN.out; omega)⟩
      obtain ⟨bs, hbs⟩ : ∃ bs, bss[k]? = some bs := ⟨_, List.getElem?_eq_getElem (by have := HN.out; omega)⟩
      have hr := h.keep hkp
      have hc : wr.cell? ⟨b, k, none⟩ = some v := hr.cell k v hv
      have hbt := hr.bts k v bs hv hbs
      obtain ⟨B, m, d, rfl⟩ := hbt.form
      have HF := hide (take_flat bss k bs hbs)
      have hle : (bss.take (k + 1)).flatten.length ≤ 900000000 := Nat.le_trans (take_flat_le bss (k + 1)) hl
      rw [HF.out, List.length_append] at hle
      have HV := hide hv
      have HB := hide hbs
      clear hv hbs
      go_wp2_with (first
        | (at_builtin
           refine wpList_app rfl (.tmp 11) (.tmp 15) _ rfl i0 Tryz.underlying54 hi0 hz0 hz1 hz2 rfl hb rfl hbt ?hl ?hs ?_
           case hl => omega
           case hs => exact hkp.size
           intro A1 n1 c1 w1 ha))
      go_round
      case rel => exact ⟨k + 1, A1, n1, c1, by omega, by go_num, rfl, by rw [HF.out]; exact ha.own, ha.keeps hb hkp⟩
      case measure => simp [intOf]; omega
    · have hkn : k = n := by omega
      subst hkn
      go_wp2
      go_ret
      have e : bss.take k = bss := List.take_of_length_le (by have := HN.out; omega)
      rw [e] at hb
      exact ⟨A, l, c, rfl, hb, hkp⟩

theorem kept4 {W w1 : World} {b : Nat} {x0 x1 x2 x3 : Value} (hk : Kp No W w1)
    (h : W.cell? ⟨b, 0, none⟩ = some x0 ∧ W.cell? ⟨b, 1, none⟩ = some x1 ∧ W.cell? ⟨b, 2, none⟩ = some x2 ∧ W.cell? ⟨b, 3, none⟩ = some x3) :
    w1.cell? ⟨b, 0, none⟩ = some x0 ∧ w1.cell? ⟨b, 1, none⟩ = some x1 ∧ w1.cell? ⟨b, 2, none⟩ = some x2 ∧ w1.cell? ⟨b, 3, none⟩ = some x3 :=
  ⟨hk.cell h.1 fun f => f, hk.cell h.2.1 fun f => f, hk.cell h.2.2.1 fun f => f, hk.cell h.2.2.2 fun f => f⟩

theorem rows4 {w1 w2 w3 w4 : World} {b1 b2 b3 b4 : Nat} {v1 v2 v3 v4 : Value} {x1 x2 x3 x4 : List UInt8} (h1 : Own w1 b1 5 v1 x1) (h2 : Own w2 b2 5 v2 x2) (h3 : Own w3 b3 5 v3 x3) (h4 : Own w4 b4 5 v4 x4)
    (k2 : Kp No w1 w2) (k3 : Kp No w2 w3) (k4 : Kp No w3 w4) : RowsAt (w4.alloc (.cells #[v1, v2, v3, v4] 54)) w4.heap.size [v1, v2, v3, v4] [x1, x2, x3, x4] := by
  refine RowsAt.new w4 _ _ rfl ?_
  intro j v bs hj hb
  match j, hj, hb with
  | 0, hj, hb =>
    simp at hj hb
    subst hj hb
    exact ((h1.no k2).no k3).no k4 |>.bts
  | 1, hj, hb =>
    simp at hj hb
    subst hj hb
    exact (h2.no k3).no k4 |>.bts
  | 2, hj, hb =>
    simp at hj hb
    subst hj hb
    exact (h3.no k4).bts
  | 3, hj, hb =>
    simp at hj hb
    subst hj hb
    exact h4.bts
  | j + 4, hj, _ => simp at hj

theorem shard_flat (o st sl gn : Nat) : [numB o 4, numB st 2, numB sl 2, numB gn 4].flatten = shardB o st sl gn := by simp [shardB]

set_option maxHeartbeats 4000000 in
theorem rshard_any {w : World} (o st sl gn : Nat) (ho : o < 4294967296) (hst : st < 65536) (hsl : sl < 65536) (hgn : gn < 4294967296) :
    Calls Tryz.prog 41 #[.agg #[.int .u32 o, .int .u16 st, .int .u16 sl, .int .u32 gn]] w (OwnPost w (shardB o st sl gn)) := by
  have z0 : o < 18446744073709551616 := by omega
  have z1 : st < 18446744073709551616 := by omega
  have z2 : sl < 18446744073709551616 := by omega
  have z3 : gn < 18446744073709551616 := by omega
  have q0 : IntKind.u64.wrap (o : Int) = o := IntWalk.u64_in _ (by omega)
  have q1 : IntKind.u64.wrap (st : Int) = st := IntWalk.u64_in _ (by omega)
  have q2 : IntKind.u64.wrap (sl : Int) = sl := IntWalk.u64_in _ (by omega)
  have q3 : IntKind.u64.wrap (gn : Int) = gn := IntWalk.u64_in _ (by omega)
  have K4 : IsK 4 4 := ⟨by omega, by omega⟩
  have K2 : IsK 2 2 := ⟨by omega, by omega⟩
  go_enter Tryz.func41, Tryz.ntmps41
  go_wp2_with fail
  go_region_held3 (fun w' => w'.cell? ⟨w.heap.size, 0, none⟩ = some (.int .u32 o) ∧ w'.cell? ⟨w.heap.size, 1, none⟩ = some (.int .u16 st) ∧ w'.cell? ⟨w.heap.size, 2, none⟩ = some (.int .u16 sl) ∧ w'.cell? ⟨w.heap.size, 3, none⟩ = some (.int .u32 gn)) (first | assumption | go_keep)
    (first
      | (go_at_call 40; ((with_reducible refine (rnum_any o 4 4 z0 K4).mono ?_); rintro e w1 ⟨A1, n1, c1, rfl, ho1, hk1⟩); have s1 := kept4 hk1 (by assumption))
      | (go_at_call 40; ((with_reducible refine (rnum_any st 2 2 z1 K2).mono ?_); rintro e w2 ⟨A2, n2, c2, rfl, ho2, hk2⟩); have s2 := kept4 hk2 (by assumption))
      | (go_at_call 40; ((with_reducible refine (rnum_any sl 2 2 z2 K2).mono ?_); rintro e w3 ⟨A3, n3, c3, rfl, ho3, hk3⟩); have s3 := kept4 hk3 (by assumption))
      | (go_at_call 40; ((with_reducible refine (rnum_any gn 4 4 z3 K4).mono ?_); rintro e w4 ⟨A4, n4, c4, rfl, ho4, hk4⟩); have s4 := kept4 hk4 (by assumption))
      | (go_at_call 39; ((with_reducible refine (join_any (n := 4) (rows4 ho1 ho2 ho3 ho4 hk2 hk3 hk4) rfl (by simp) (by simp [numB_length])).mono ?_); rintro e w5 ⟨A5, n5, c5, rfl, ho5, hk5⟩); have s5 := kept4 (hk4.trans ((Kp.alloc _ _ _).trans (hk5.of_no _))) (by assumption)))
  go_wp2
  go_ret
  have k5 : Kp No w w5 := (Kp.alloc No w _).drew.trans' (hk1.trans' (hk2.trans' (hk3.trans' (hk4.trans' ((Kp.alloc No w4 _).trans' hk5)))))
  rw [shard_flat] at ho5
  refine ⟨A5, n5, c5, rfl, ho5.rebase fun k hk => ?_, k5⟩
  have a1 := ho5.ge k hk
  have a2 := ((Kp.alloc No w _).drew.trans' (hk1.trans' (hk2.trans' (hk3.trans' hk4)))).size
  simp at a1
  omega
end Go.Proofs.YtnfcfdhlmeimhaaGreat
namespace Go.Proofs.YtnfcfdhlmeimhaaGreat
open Go.RowKit
set_option linter.unusedVariables false
set_option maxRecDepth 20000
set_option linter.unusedSimpArgs false

/-- The eight bytes ahead of a frame's sum. -/
def hdr (k n : Nat) : List UInt8 := numB 53021 2 ++ numB k 2 ++ numB n 4
/-- A frame's sum. -/
def fsum (k : Nat) (bs : List UInt8) : Nat := crc (hdr k bs.length ++ bs)
/-- A frame. -/
def frm (k : Nat) (bs : List UInt8) : List UInt8 := hdr k bs.length ++ numB (fsum k bs) 4 ++ bs
theorem hdr_len (k n : Nat) : (hdr k n).length = 8 := by simp [hdr, numB_length]
theorem frm_len (k : Nat) (bs : List UInt8) : (frm k bs).length = 12 + bs.length := by simp [frm, hdr_len, numB_length]; omega
theorem fsum_lt (k : Nat) (bs : List UInt8) : fsum k bs < 4294967296 := crc_lt _

/-- The blocks from b on. -/
def Fr (b k : Nat) : Prop := b ≤ k
theorem Kp.thenFr {w w1 w2 : World} (h : Kp No w w1) (k : Kp (Fr w.heap.size) w1 w2) : Kp No w w2 := h.trans (k.mono fun _ hk => .inr hk)

theorem sfsum_any {w : World} {hs bs : List UInt8} {u v : Value} (hu : Bts w u hs) (hv : Bts w v bs) (l1 : hs.length ≤ 900000000) (l2 : bs.length ≤ 900000000) :
    Calls Tryz.prog 138 #[u, v] w fun e w' => e = .returned (.int .u32 ((crc (hs ++ bs) : Nat) : Int)) ∧ w = w' := by
  go_enter Tryz.func138, Tryz.ntmps138
  go_wp2_with fail
  refine (ssum_any hu l1).mono ?_
  rintro e w' ⟨rfl, rfl⟩
  go_wp2_with fail
  refine (sgo_any (crc hs) (crc_lt hs) hv l2).mono ?_
  rintro e w' ⟨rfl, rfl⟩
  rw [goS_crc]
  go_wp2
  go_ret
  exact ⟨rfl, rfl⟩

theorem sfr_no {w : World} {k n c : Nat} {A : Option Addr} (h : 65536 < n) :
    Calls Tryz.prog 108 #[.int .u16 k, .slice A n c] w fun e w' => e = .returned (.slice none 0 0) ∧ w = w' := by
  go_enter Tryz.func108, Tryz.ntmps108
  go_wp2
  go_ret
  exact ⟨rfl, rfl⟩

set_option maxHeartbeats 1000000 in
theorem sfr_yes {w : World} {k n c : Nat} {A : Option Addr} {bs : List UInt8} (hb : Bts w (.slice A n c) bs) (hk : k < 65536) (h : n ≤ 65536) :
    Calls Tryz.prog 108 #[.int .u16 k, .slice A n c] w (OwnPost w (frm k bs)) := by
  have HL := hide hb.len
  have hl : bs.length ≤ 65536 := by have := HL.out; omega
  have K2 : IsK 2 2 := ⟨by omega, by omega⟩
  have K4 : IsK 4 4 := ⟨by omega, by omega⟩
  have k0 : Kp No w (w.alloc (.cells #[.slice none 0 0] 134)) := Kp.alloc No w _
  have a0 : WrAt (w.alloc (.cells #[.slice none 0 0] 134)) (Fr w.heap.size) w.heap.size [] := (WrAt.new w).mono fun k hk => by subst hk; exact Nat.le_refl _
  have HA := hide a0
  have HK := hide k0
  clear a0 k0
  go_enter Tryz.func108, Tryz.ntmps108
  go_wp2_with fail
  refine (num_any (bs := []) (F := Fr w.heap.size) (g := w.heap.size) 53021 2 2 (by omega) K2 HA.out (by simp)).mono ?_
  rintro e w1 hp
  obtain rfl := hp.1
  have k1 := HK.out.thenFr hp.2.2
  have a1 := hp.again (fun k hk' => Nat.le_trans (HK.out.size) hk')
  clear hp
  go_wp2_with fail
  refine (num_any (F := Fr w.heap.size) (g := w.heap.size) k 2 2 (by omega) K2 a1 (by simp [numB_length])).mono ?_
  rintro e w2 hp
  obtain rfl := hp.1
  have k2 := k1.thenFr hp.2.2
  have a2 := hp.again (fun k hk' => Nat.le_trans (k1.size) hk')
  clear hp a1
  go_wp2_with fail
  refine (num_any (F := Fr w.heap.size) (g := w.heap.size) n 4 4 (by omega) K4 a2 (by simp [numB_length])).mono ?_
  rintro e w3 hp
  obtain rfl := hp.1
  have k3 := k2.thenFr hp.2.2
  have a3 := hp.again (fun k hk' => Nat.le_trans (k2.size) hk')
  clear hp a2
  have e3 : ([] ++ numB 53021 2 ++ numB k 2 ++ numB n 4) = hdr k bs.length := by rw [← HL.out]; rfl
  rw [e3] at a3
  clear e3
  go_wp2_with fail
  refine (bytes_any (g := w.heap.size) a3 (by rw [hdr_len]; omega)).mono ?_
  rintro e w4 ⟨A4, n4, c4, rfl, ho4, hk4⟩
  have k4 := k3.trans' hk4
  have a4 := a3.keep hk4 (fun _ _ _ f => f)
  clear a3
  go_wp2_with fail
  refine (sfsum_any ho4.bts (hb.no k4) (by rw [hdr_len]; omega) (by omega)).mono ?_
  rintro e w' ⟨rfl, rfl⟩
  rw [show crc (hdr k bs.length ++ bs) = fsum k bs from rfl]
  have hs := fsum_lt k bs
  go_wp2_with fail
  refine (num_any (F := Fr w.heap.size) (g := w.heap.size) (fsum k bs) 4 4 (by omega) K4 a4 (by simp [hdr_len])).mono ?_
  rintro e w5 hp
  obtain rfl := hp.1
  have k5 := k4.thenFr hp.2.2
  have a5 := hp.again (fun k hk' => Nat.le_trans (k4.size) hk')
  clear hp a4
  go_wp2_with fail
  refine (raw_any (F := Fr w.heap.size) (g := w.heap.size) a5 (hb.no k5) (by simp [hdr_len, numB_length]; omega)).mono ?_
  rintro e w6 hp
  obtain rfl := hp.1
  have k6 := k5.thenFr hp.2.2
  have a6 := hp.again (fun k hk' => Nat.le_trans (k5.size) hk')
  clear hp a5
  rw [show hdr k bs.length ++ numB (fsum k bs) 4 ++ bs = frm k bs from rfl] at a6
  go_wp2_with fail
  refine (bytes_any (g := w.heap.size) a6 (by rw [frm_len]; omega)).mono ?_
  rintro e w7 ⟨A7, n7, c7, rfl, ho7, hk7⟩
  have z6 := k6.size
  go_wp2
  go_ret
  exact ⟨A7, n7, c7, rfl, ho7.rebase fun j hj => Nat.le_trans z6 (ho7.ge j hj), k6.trans' hk7⟩
end Go.Proofs.YtnfcfdhlmeimhaaGreat
namespace Go.Proofs.YtnfcfdhlmeimhaaGreat
open Go.RowKit
set_option linter.unusedVariables false
set_option maxRecDepth 20000
set_option linter.unusedSimpArgs false

theorem bts_upto {w : World} {A : Option Addr} {m c k : Nat} {bs : List UInt8} (h : Bts w (.slice A m c) bs) (hk : k ≤ m) : Bts w (.slice A k c) (bs.take k) := by
  have hl := h.len
  obtain ⟨A', c', e, hn, hc⟩ := h
  injection e with e1 e2 e3
  subst e1 e3
  refine ⟨A, c, by rw [List.length_take]; congr 1; omega, fun ha => ⟨by rw [(hn ha).1]; simp, (hn ha).2⟩, fun ad ha j u hu => ?_⟩
  rw [List.getElem?_take] at hu
  split at hu
  · exact hc ad ha j u hu
  · cases hu
theorem add_two (a : Addr) (i j : Nat) : (a.add i).add j = a.add (i + j) := by
  unfold Addr.add
  by_cases hi : i = 0 <;> by_cases hj : j = 0 <;> simp [hi, hj, Nat.add_assoc]
theorem bts_from {w : World} {A : Option Addr} {m c k : Nat} {bs : List UInt8} (h : Bts w (.slice A m c) bs) (hk : k ≤ m) (hm : m ≤ c) :
    Bts w (.slice (if c = k then A else A.map (·.add k)) (m - k) (c - k)) (bs.drop k) := by
  have hl := h.len
  obtain ⟨A', c', e, hn, hc⟩ := h
  injection e with e1 e2 e3
  subst e1 e3
  refine ⟨_, c - k, by rw [List.length_drop]; congr 1; omega, fun ha => ?_, fun ad ha j u hu => ?_⟩
  · split at ha
    · have := hn ha
      exact ⟨by rw [this.1]; simp, by omega⟩
    · rw [Option.map_eq_none_iff] at ha
      have := hn ha
      exact ⟨by rw [this.1]; simp, by omega⟩
  · rw [List.getElem?_drop] at hu
    have hlt := (List.getElem?_eq_some_iff.1 hu).1
    rw [if_neg (by omega)] at ha
    obtain ⟨ad', ha', rfl⟩ := Option.map_eq_some_iff.1 ha
    rw [add_two]
    exact hc ad' ha' _ u hu

theorem size_bytes (w : World) : (sizeOf (Tryz.prog.elem 54)).run Tryz.prog w = .ok 1 w := by
  obtain ⟨i0, hi0, hz0, hz1, hz2⟩ := byte_parts
  have he : Tryz.prog.elem 54 = 5 := by kernel_rfl
  have hc : Tryz.prog.cellsOf 5 = 1 := by kernel_rfl
  rw [he]
  simp [run_sizeOf, hi0, hz1, hc]
theorem elem_bytes : Tryz.prog.underlying 54 = some (.slice (Tryz.prog.elem 54)) := by
  have he : Tryz.prog.elem 54 = 5 := by kernel_rfl
  rw [he]; exact Tryz.underlying54
section
variable {w : World} {A : Option Addr} {n c : Nat} {bs : List UInt8}
/-- b[l:u], in every world in which b reads as something. -/
theorem slice_lu_all (n c : Nat) (A : Option Addr) (hnc : n ≤ c) (l u r rc : Nat) (x y : Int) (hx : x = l) (hy : y = u) (hlu : l ≤ u) (hu : u ≤ n) (hr : r = u - l) (hrc : rc = c - l) :
    ∃ A', (∀ w', (Instr.slice 54 (.slice A n c) (some (.int .i64 x)) (some (.int .i64 y)) none).run Tryz.prog w' = .ok (.slice A' r rc) w') ∧ (∀ w bs, Bts w (.slice A n c) bs → Bts w (.slice A' r rc) ((bs.drop l).take r)) ∧ r ≤ rc := by
  subst hx hy hr hrc
  refine ⟨if c = l then A else A.map (·.add l), fun w' => ?_, fun w bs h => bts_upto (bts_from h (by omega) hnc) (by omega), by omega⟩
  rw [run_slice_lh w' _ _ _ _ elem_bytes .i64 .i64 _ _ (by omega) (by omega) (by omega), size_bytes]
  simp only [Result.andThen, sliced, Int.toNat_natCast, Nat.mul_one]
/-- b[l:u]. -/
theorem slice_lu (h : Bts w (.slice A n c) bs) (hnc : n ≤ c) (l u r rc : Nat) (x y : Int) (hx : x = l) (hy : y = u) (hlu : l ≤ u) (hu : u ≤ n) (hr : r = u - l) (hrc : rc = c - l) :
    ∃ A', (∀ w', (Instr.slice 54 (.slice A n c) (some (.int .i64 x)) (some (.int .i64 y)) none).run Tryz.prog w' = .ok (.slice A' r rc) w') ∧ Bts w (.slice A' r rc) ((bs.drop l).take r) ∧ r ≤ rc := by
  obtain ⟨A', h1, h2, h3⟩ := slice_lu_all n c A hnc l u r rc x y hx hy hlu hu hr hrc
  exact ⟨A', h1, h2 w bs h, h3⟩
/-- b[:u]. -/
theorem slice_u (h : Bts w (.slice A n c) bs) (hnc : n ≤ c) (u : Nat) (y : Int) (hy : y = u) (hu : u ≤ n) :
    (∀ w', (Instr.slice 54 (.slice A n c) none (some (.int .i64 y)) none).run Tryz.prog w' = .ok (.slice A u c) w') ∧ Bts w (.slice A u c) (bs.take u) ∧ u ≤ c := by
  subst hy
  refine ⟨fun w' => ?_, bts_upto h hu, by omega⟩
  rw [run_slice_h w' _ _ _ _ elem_bytes .i64 _ (by omega) (by omega), size_bytes]
  simp only [Result.andThen, sliced, Int.toNat_natCast, Nat.zero_mul, Nat.sub_zero]
  congr 2
  split
  · rfl
  · rcases A with _ | a
    · rfl
    · simp [Addr.add]
end
end Go.Proofs.YtnfcfdhlmeimhaaGreat
