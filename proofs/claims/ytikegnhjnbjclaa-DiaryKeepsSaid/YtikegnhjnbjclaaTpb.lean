/- leave, Sync, Crash, Back and Cut of package tape, each as a contract over memory. No condition. -/
import Derived.Test.YtikegnhjnbjclaaTpa
namespace Go.Proofs.Ytikegnhjnbjclaa
open Go.RowKit
set_option linter.unusedVariables false
set_option maxRecDepth 20000
set_option linter.unusedSimpArgs false

/-- The first bytes of a row of the call's own. -/
theorem Own.upto {w : World} {base : Nat} {e : TypeId} {A : Option Addr} {m c k : Nat} {bs : List UInt8} (h : Own w base e (.slice A m c) bs) (hk : k ≤ m) : Own w base e (.slice A k c) (bs.take k) := by
  have hl := h.len
  rcases h.2 with ⟨e1, hn⟩ | ⟨g, cap, cur, e1, hb, hg, h1, h2, h3, ht⟩
  · injection e1 with e1 e2 e3
    obtain rfl : bs = [] := List.eq_nil_of_length_eq_zero hn
    obtain rfl : k = 0 := by omega
    subst e1 e3
    exact Own.nil _ _ _
  · injection e1 with e1 e2 e3
    subst e1 e3
    have hkl : (bs.take k).length = k := by rw [List.length_take]; omega
    refine ⟨by simp, .inr ⟨g, c, cur, by rw [hkl], hb, hg, by omega, h2, h3, ?_⟩⟩
    rw [hkl, List.map_take, ← ht, List.take_take]
    congr 1
    omega
theorem slice_blk (A : Option Addr) (n m c d : Nat) : (Value.slice A n c).ownBlock = (Value.slice A m d).ownBlock := by rcases A with _ | a <;> rfl
section
variable {w : World} {F : Nat → Prop} {g : Nat} {T : Tp}
theorem TpAt.most_le (h : TpAt w F g T) : T.most ≤ 9223372036854775807 := by
  obtain ⟨va, h⟩ := h
  exact h.mx
theorem tleave_any (h : TpAt w F g T) (n : Nat) (hn : n ≤ T.len) (hL : T.len ≤ 900000000) : Calls Try.prog 41 #[.pointer (some ⟨g, 0, none⟩), .int .i64 (n : Int)] w (TpPost w F g ⟨(T.sf ++ T.ls).take n, [], T.most⟩ (.tuple #[])) := by
  obtain ⟨va, h⟩ := h
  obtain ⟨A, c, rfl, hc⟩ := h.va_
  have x0 := h.c0
  have x1 := h.c1
  have f0 := h.fz 0
  have f1 := h.fz 1
  have hsl := (slice_u h.own.bts hc n (n : Int) rfl hn).1
  have hlen : ((T.sf ++ T.ls).take n).length = n := by rw [List.length_take, List.length_append]; have : T.len = T.sf.length + T.ls.length := rfl; omega
  have hb1 := heap_setCell_same w g 0 _ _ (.slice A n c) h.blk
  have hb2 := heap_setCell_same (w.setCell ⟨g, 0, none⟩ (.slice A n c)) g 1 _ _ (.int .i64 (n : Int)) hb1
  have k2 : Kp (fun k => k = g) w ((w.setCell ⟨g, 0, none⟩ (.slice A n c)).setCell ⟨g, 1, none⟩ (.int .i64 (n : Int))) := (Kp.setCell (p := ⟨g, 0, none⟩) (S := fun k => k = g) rfl _).trans' (Kp.setCell (p := ⟨g, 1, none⟩) (S := fun k => k = g) rfl _)
  have HR : Hid (TpR ((w.setCell ⟨g, 0, none⟩ (.slice A n c)).setCell ⟨g, 1, none⟩ (.int .i64 (n : Int))) F g ⟨(T.sf ++ T.ls).take n, [], T.most⟩ (.slice A n c)) := by
    refine ⟨?_, ?_, h.fg, (fun k hk => h.fa k (by rw [← hk]; exact slice_blk _ _ _ _ _)), h.mx⟩
    · show _ = some (Obj.cells #[_, .int .i64 (((T.sf ++ T.ls).take n).length : Int), _] _ _)
      rw [hlen]
      exact hb2
    · show Own _ _ _ _ ((T.sf ++ T.ls).take n ++ [])
      rw [List.append_nil]
      exact (h.own.upto hn).keep k2 fun k hk e => by
        subst e
        exact h.apart (by rw [← hk]; exact slice_blk _ _ _ _ _)
  have HK := hide (k2.mono (T := F) fun k e => by rw [e]; exact h.fg)
  clear h hb1 hb2 k2 hlen
  go_enter Try.func41, Try.ntmps41
  go_wp2
  go_end0
  exact ⟨rfl, HR.out.at_.mono fun _ hk => .inl hk, HK.out⟩

theorem tsync_any (h : TpAt w F g T) (hL : T.len ≤ 900000000) : Calls Try.prog 39 #[.pointer (some ⟨g, 0, none⟩)] w (TpPost w F g T.sync (.int .i64 0)) := by
  have hle := tleave_any h T.len (Nat.le_refl _) hL
  rw [List.take_of_length_le (by rw [List.length_append]; exact Nat.le_refl _)] at hle
  obtain ⟨va, h⟩ := h
  obtain ⟨A, c, rfl, hc⟩ := h.va_
  have x0 := h.c0
  clear h
  go_enter Try.func39, Try.ntmps39
  go_wp2_with fail
  refine hle.mono ?_
  rintro e w1 ⟨rfl, h1, k1⟩
  go_wp2_with fail
  go_ret
  exact ⟨rfl, h1, k1⟩

theorem tcut_any (h : TpAt w F g T) (hL : T.len ≤ 900000000) (z : Int) : Calls Try.prog 37 #[.pointer (some ⟨g, 0, none⟩), .int .i64 z] w (TpPost w F g (T.cut z) (.int .i64 (T.cutE z : Int))) := by
  have HH := hide h
  by_cases h0 : z < 0
  · have hE : T.cutE z = 1 := by unfold Tp.cutE; rw [if_pos (.inl h0)]
    have hP : T.cut z = T := by unfold Tp.cut; rw [if_neg (by omega)]
    rw [hE, hP]
    clear hE hP
    obtain ⟨va, h⟩ := h
    obtain ⟨A, c, rfl, hc⟩ := h.va_
    have x0 := h.c0
    clear h
    go_enter Try.func37, Try.ntmps37
    go_wp2_with fail
    go_ret
    exact HH.out.stay _
  by_cases h1 : (T.len : Int) < z
  · have hE : T.cutE z = 1 := by unfold Tp.cutE; rw [if_pos (.inr h1)]
    have hP : T.cut z = T := by unfold Tp.cut; rw [if_neg (by omega)]
    rw [hE, hP]
    clear hE hP
    obtain ⟨va, h⟩ := h
    obtain ⟨A, c, rfl, hc⟩ := h.va_
    have x0 := h.c0
    clear h
    go_enter Try.func37, Try.ntmps37
    go_wp2_with fail
    go_ret
    exact HH.out.stay _
  obtain ⟨n, rfl⟩ : ∃ n : Nat, z = n := ⟨z.toNat, by omega⟩
  have hn : n ≤ T.len := by omega
  have hE : T.cutE (n : Int) = 0 := by unfold Tp.cutE; rw [if_neg (by omega)]
  have hP : T.cut (n : Int) = ⟨(T.sf ++ T.ls).take n, [], T.most⟩ := by unfold Tp.cut; rw [if_pos hE, Int.toNat_natCast]
  rw [hE, hP]
  clear hE hP h0 h1
  have hle := tleave_any h n hn hL
  obtain ⟨va, h⟩ := h
  obtain ⟨A, c, rfl, hc⟩ := h.va_
  have x0 := h.c0
  clear h
  go_enter Try.func37, Try.ntmps37
  go_wp2_with fail
  refine hle.mono ?_
  rintro e w1 ⟨rfl, h1, k1⟩
  go_wp2_with fail
  go_ret
  exact ⟨rfl, h1, k1⟩

/-- A byte of the tape is turned, behind those that are safe. -/
theorem TpR.turn {va : Value} (h : TpR w F g T va) {gb L c q : Nat} (hv : va = .slice (some ⟨gb, 0, none⟩) L c) (hq : q < L) (hs : T.sf.length ≤ q) (y : UInt8) (v : Value) (hy : v = bv y) :
    ∃ ls', T.sf ++ ls' = (T.sf ++ T.ls).set q y ∧ TpR (w.setCell ⟨gb, q, none⟩ v) F g ⟨T.sf, ls', T.most⟩ va ∧ Kp F w (w.setCell ⟨gb, q, none⟩ v) ∧ ls'.length = T.ls.length := by
  subst hv
  have hne : gb ≠ g := fun e => h.apart (by rw [← e]; rfl)
  have hk : Kp (fun k => k = gb) w (w.setCell ⟨gb, q, none⟩ v) := Kp.setCell (p := ⟨gb, q, none⟩) (S := fun k => k = gb) rfl _
  have e1 : (T.sf ++ T.ls).set q y = T.sf ++ T.ls.set (q - T.sf.length) y := by rw [List.set_append_right _ _ hs]
  refine ⟨T.ls.set (q - T.sf.length) y, e1.symm, ⟨(hk.block g h.glt (Ne.symm hne)).trans h.blk, ?_, h.fg, h.fa, h.mx⟩, hk.mono fun k e => by rw [e]; exact h.fa gb rfl, List.length_set⟩
  show Own _ _ _ _ (T.sf ++ T.ls.set (q - T.sf.length) y)
  rw [← e1]
  exact h.own.set hq y v hy
theorem xor_byt (x y : UInt8) : Value.int .u8 (bits .xor .u8 (x.toNat : Int) (y.toNat : Int)) = bv (x ^^^ y) := by
  rw [u8_xor_nat _ _ x.toNat_lt y.toNat_lt]
  unfold bv
  rw [UInt8.toNat_xor]
set_option maxHeartbeats 4000000 in
theorem tcrash_any (h : TpAt w F g T) (hL : T.len ≤ 900000000) (z : Int) (x : UInt8) : Calls Try.prog 17 #[.pointer (some ⟨g, 0, none⟩), .int .i64 z, .int .u8 (x.toNat : Int)] w (TpPost w F g (T.crash z x) (.int .i64 (T.gone z : Int))) := by
  have HD := hide (h.no (Kp.refl No w).drew)
  obtain ⟨va, h⟩ := h
  obtain ⟨A, c, rfl, hc⟩ := h.va_
  have x0 : w.drew.cell? ⟨g, 0, none⟩ = some (.slice A T.len c) := h.c0
  have x1 : w.drew.cell? ⟨g, 1, none⟩ = some (.int .i64 (T.sf.length : Int)) := h.c1
  have HR0 := hide h
  have HR := hide (h.no (Kp.refl No w).drew.drew)
  obtain ⟨L, hLL⟩ : ∃ L, T.ls.length = L := ⟨_, rfl⟩
  have eL : (T.len : Int) - (T.sf.length : Int) = (L : Int) := by have : T.len = T.sf.length + T.ls.length := rfl; omega
  have hsl : T.sf.length ≤ 900000000 := by have : T.len = T.sf.length + T.ls.length := rfl; omega
  have hL9 : L ≤ 900000000 := by have : T.len = T.sf.length + T.ls.length := rfl; omega
  clear h
  by_cases h0 : z ≤ 0
  · have hst : T.stay z = 0 := by unfold Tp.stay; omega
    have hE : T.gone z = T.ls.length := by unfold Tp.gone; omega
    have hP : T.crash z x = ⟨(T.sf ++ T.ls).take T.sf.length, [], T.most⟩ := by unfold Tp.crash; rw [Tp.left_zero _ _ _ hst, List.take_left']; rfl
    rw [hE, hP, hLL]
    clear hE hP hst
    have hle := tleave_any HD.out T.sf.length (by have : T.len = T.sf.length + T.ls.length := rfl; omega) hL
    have HLE := hide hle
    clear hle
    go_enter Try.func17, Try.ntmps17
    go_wp2_with fail
    go_region
    go_wp2_with fail
    refine HLE.out.mono ?_
    rintro e w1 ⟨rfl, h1, k1⟩
    go_wp2_with fail
    go_ret
    exact ⟨rfl, h1, (Kp.refl F w).drew.trans' k1⟩
  by_cases hL0 : L = 0
  · obtain rfl : 0 = L := hL0.symm
    have hst : T.stay z = 0 := by unfold Tp.stay; omega
    have hE : T.gone z = T.ls.length := by unfold Tp.gone; omega
    have hP : T.crash z x = ⟨(T.sf ++ T.ls).take T.sf.length, [], T.most⟩ := by unfold Tp.crash; rw [Tp.left_zero _ _ _ hst, List.take_left']; rfl
    rw [hE, hP, hLL]
    clear hE hP hst
    have hle := tleave_any HD.out T.sf.length (by have : T.len = T.sf.length + T.ls.length := rfl; omega) hL
    have HLE := hide hle
    clear hle
    go_enter Try.func17, Try.ntmps17
    go_wp2_with fail
    go_region
    go_wp2_with fail
    refine HLE.out.mono ?_
    rintro e w1 ⟨rfl, h1, k1⟩
    go_wp2_with fail
    go_ret
    exact ⟨rfl, h1, (Kp.refl F w).drew.trans' k1⟩
  by_cases hz : z ≤ L
  · obtain ⟨K, rfl⟩ : ∃ K : Nat, z = K := ⟨z.toNat, by omega⟩
    have HLL : Hid (K ≤ T.ls.length) := by show K ≤ _; omega
    have hst : T.stay (K : Int) = K := by unfold Tp.stay; omega
    have hE : T.gone (K : Int) = L - K := by unfold Tp.gone; omega
    have hK0 : 0 < K := by omega
    have e7 : (L : Int) - (K : Int) = ((L - K : Nat) : Int) := by omega
    obtain ⟨m, hm⟩ : ∃ m, m = T.sf.length + K := ⟨_, rfl⟩
    obtain ⟨q, hq⟩ : ∃ q, q = m - 1 := ⟨_, rfl⟩
    have HTL : Hid (T.len = T.sf.length + T.ls.length) := rfl
    have hmT : m ≤ T.len := by have := HTL.out; have := HLL.out; omega
    obtain ⟨gb, cb, e, _, _⟩ := HR.out.own.some_ (by rw [List.length_append]; have := HTL.out; omega)
    rw [List.length_append] at e
    injection e with e1 e2 e3
    subst e1 e3
    have hqT : q < T.len := by omega
    obtain ⟨y, hy⟩ : ∃ y, (T.sf ++ T.ls)[q]? = some y := ⟨_, List.getElem?_eq_getElem (by rw [List.length_append]; have := HTL.out; omega)⟩
    have y0 : w.drew.drew.cell? ⟨gb, q, none⟩ = some (.int .u8 (y.toNat : Int)) := HR.out.own.cellAt hy
    have yf : w.drew.drew.frozen? ⟨gb, q, none⟩ = false := HR.out.own.frozenAt q
    have hy1 := y.toNat_lt
    have hx1 := x.toNat_lt
    obtain ⟨ls', e4, hT, hkT, hll⟩ := HR0.out.turn rfl hqT (by omega) (y ^^^ x) _ (xor_byt y x)
    have hP : T.crash (K : Int) x = ⟨(T.sf ++ ls').take m, [], T.most⟩ := by
      unfold Tp.crash
      rw [e4, hm, hq, hm]
      rw [Tp.left_eq T (K : Int) x K hst.symm hK0 y (by rw [← hm, ← hq]; exact hy)]
    rw [hE, hP]
    clear hE hP e4 e2
    have hT2 := hT.no ((Kp.refl No _).drew.drew)
    have hle := tleave_any hT2.at_ m (by show m ≤ T.sf.length + ls'.length; have := HTL.out; omega) (by show T.sf.length + ls'.length ≤ _; have := HTL.out; omega)
    have e5 : (T.sf.length : Int) + (K : Int) = (m : Int) := by omega
    have e6 : (m : Int) - 1 = (q : Int) := by omega
    have z0 := hT2.c0
    have z1 := hT2.c1
    have HLE := hide hle
    have HKT := hide hkT
    have hKL : K ≤ 900000000 := by have := HTL.out; have := T.stay_le (K : Int); omega
    clear hle hkT hT hT2 hy hst hm hq hll
    go_enter Try.func17, Try.ntmps17
    go_wp2_with fail
    go_region
    go_wp2_with fail
    go_region
    go_wp2_with fail
    refine HLE.out.mono ?_
    rintro e w1 ⟨rfl, h1, k1⟩
    go_wp2_with fail
    go_ret
    exact ⟨rfl, h1.mono fun k hk => Up.le HKT.out.size hk, HKT.out.drew.drew.trans' k1⟩
  · obtain ⟨K, hKL'⟩ : ∃ K : Nat, K = L := ⟨_, rfl⟩
    have HLL : Hid (K ≤ T.ls.length) := by show K ≤ _; omega
    have hst : T.stay z = K := by unfold Tp.stay; omega
    have hE : T.gone z = 0 := by unfold Tp.gone; omega
    have hK0 : 0 < K := by omega
    have hL1 : 0 < L := by omega
    obtain ⟨m, hm⟩ : ∃ m, m = T.sf.length + K := ⟨_, rfl⟩
    obtain ⟨q, hq⟩ : ∃ q, q = m - 1 := ⟨_, rfl⟩
    have HTL : Hid (T.len = T.sf.length + T.ls.length) := rfl
    have hmT : m ≤ T.len := by have := HTL.out; have := HLL.out; omega
    obtain ⟨gb, cb, e, _, _⟩ := HR.out.own.some_ (by rw [List.length_append]; have := HTL.out; omega)
    rw [List.length_append] at e
    injection e with e1 e2 e3
    subst e1 e3
    have hqT : q < T.len := by omega
    obtain ⟨y, hy⟩ : ∃ y, (T.sf ++ T.ls)[q]? = some y := ⟨_, List.getElem?_eq_getElem (by rw [List.length_append]; have := HTL.out; omega)⟩
    have y0 : w.drew.drew.cell? ⟨gb, q, none⟩ = some (.int .u8 (y.toNat : Int)) := HR.out.own.cellAt hy
    have yf : w.drew.drew.frozen? ⟨gb, q, none⟩ = false := HR.out.own.frozenAt q
    have hy1 := y.toNat_lt
    have hx1 := x.toNat_lt
    obtain ⟨ls', e4, hT, hkT, hll⟩ := HR0.out.turn rfl hqT (by omega) (y ^^^ x) _ (xor_byt y x)
    have hP : T.crash z x = ⟨(T.sf ++ ls').take m, [], T.most⟩ := by
      unfold Tp.crash
      rw [e4, hm, hq, hm]
      rw [Tp.left_eq T z x K hst.symm hK0 y (by rw [← hm, ← hq]; exact hy)]
    rw [hE, hP]
    clear hE hP e4 e2
    have hT2 := hT.no ((Kp.refl No _).drew.drew)
    have hle := tleave_any hT2.at_ m (by show m ≤ T.sf.length + ls'.length; have := HTL.out; omega) (by show T.sf.length + ls'.length ≤ _; have := HTL.out; omega)
    have e5 : (T.sf.length : Int) + (L : Int) = (m : Int) := by omega
    have e6 : (m : Int) - 1 = (q : Int) := by omega
    have z0 := hT2.c0
    have z1 := hT2.c1
    have HLE := hide hle
    have HKT := hide hkT
    have hKL : K ≤ 900000000 := by have := HTL.out; have := T.stay_le z; omega
    clear hle hkT hT hT2 hy hst hm hq hll
    go_enter Try.func17, Try.ntmps17
    go_wp2_with fail
    go_region
    go_wp2_with fail
    go_region
    go_wp2_with fail
    refine HLE.out.mono ?_
    rintro e w1 ⟨rfl, h1, k1⟩
    go_wp2_with fail
    go_ret
    exact ⟨rfl, h1.mono fun k hk => Up.le HKT.out.size hk, HKT.out.drew.drew.trans' k1⟩
theorem tback_any (h : TpAt w F g T) (hL : T.len ≤ 900000000) : Calls Try.prog 40 #[.pointer (some ⟨g, 0, none⟩)] w (TpPost w F g ⟨T.sf, [], T.most⟩ (.int .i64 (T.ls.length : Int))) := by
  have hc := tcrash_any h hL 0 0
  have e1 : T.crash 0 0 = ⟨T.sf, [], T.most⟩ := by unfold Tp.crash; rw [Tp.left_zero _ _ _ (by unfold Tp.stay; simp)]
  have e2 : T.gone 0 = T.ls.length := by unfold Tp.gone Tp.stay; simp
  rw [e1, e2] at hc
  have HC := hide hc
  clear hc e1 e2
  go_enter Try.func40, Try.ntmps40
  go_wp2_with fail
  refine HC.out.mono ?_
  rintro e w1 ⟨rfl, h1, k1⟩
  go_wp2_with fail
  go_ret
  exact ⟨rfl, h1, k1⟩
end
end Go.Proofs.Ytikegnhjnbjclaa
