/- Package seal's Scan, as a contract over memory. -/
import Derived.Test.YtikegnhjnbjclaaSej
import Derived.Test.YtikegnhjnbjclaaOw
import Derived.Test.YtikegnhjnbjclaaSl
import Derived.ScopeJumps
namespace Go.Proofs.Ytikegnhjnbjclaa
open Go.RowKit
set_option linter.unusedVariables false
set_option maxRecDepth 20000
set_option linter.unusedSimpArgs false

theorem item_info : (Try.prog.info? 65).map (fun i => (i.zero, i.size, i.bytes)) = some (some (.agg #[.int .i64 0, .int .u16 0, .slice none 0 0]), 3, 40) := by kernel_rfl
theorem ty_item : Ty 65 (.agg #[.int .i64 0, .int .u16 0, .slice none 0 0]) 3 40 := ty_of item_info rfl (by omega) (by omega)
theorem cells_new (w : World) (t : TypeId) (u0 u1 u2 : Value) (h0 : u0.oneCell' = true) (h1 : u1.oneCell' = true) (h2 : u2.oneCell' = true) : Nws (w.alloc (.cells #[u0, u1, u2] t)) ⟨w.heap.size, 0, none⟩ 1 3 [u0, u1, u2] :=
  nws_three (by rw [World.cell?_alloc_mark]; rfl) (by rw [World.cell?_alloc_mark]; rfl) (by rw [World.cell?_alloc_mark]; rfl) h0 h1 h2
theorem item_new (w : World) (u0 u1 u2 : Value) (h0 : u0.oneCell' = true) (h1 : u1.oneCell' = true) (h2 : u2.oneCell' = true) : Nws (w.alloc (.cells #[u0, u1, u2] 65)) ⟨w.heap.size, 0, none⟩ 1 3 [u0, u1, u2] := cells_new w _ u0 u1 u2 h0 h1 h2

/-- Items of the call's own, and what they bear. -/
structure ItS (w : World) (base : Nat) (v : Value) (ps : List (ItD × Value)) : Prop where
  own : OwnT w base 65 3 v ps.length (itC ps)
  ld : ∀ p ∈ ps, Own w 0 5 p.2 p.1.ld
theorem ItS.nil (w : World) : ItS w w.heap.size (.slice none 0 0) [] := ⟨OwnT.nil _ _ _ _, fun p hp => by simp at hp⟩
theorem ItS.no {w w1 : World} {base : Nat} {v : Value} {ps : List (ItD × Value)} (h : ItS w base v ps) (hk : Kp No w w1) : ItS w1 base v ps := ⟨h.own.no hk, fun p hp => (h.ld p hp).no hk⟩
theorem ItS.next {w w6 : World} {base : Nat} {v v6 : Value} {ps : List (ItD × Value)} {p : ItD × Value} (h : ItS w base v ps) (hl : Own w 0 5 p.2 p.1.ld)
    (ha : AppT w base 65 3 v ps.length (itC ps) 1 [.int .i64 (p.1.at_ : Int), .int .u16 (p.1.kd : Int), p.2] v6 w6) : ItS w6 base v6 (ps ++ [p]) := by
  have key : ∀ q : ItD × Value, Own w 0 5 q.2 q.1.ld → Own w6 0 5 q.2 q.1.ld := fun q hq =>
    hq.keep ha.kp fun k hk hk' => ownT_far (e := 5) (sz := 1) (w := w) (b := 0) (n := q.1.ld.length) (xs := q.1.ld.map bv) (v := q.2) hq h.own (by decide) hk hk'
  refine ⟨?_, fun q hq => ?_⟩
  · rw [List.length_append, itC_snoc]; exact ha.own
  · rcases List.mem_append.1 hq with hq | hq
    · exact key q (h.ld q hq)
    · rw [List.mem_singleton] at hq; subst hq; exact key q hl

/-- What holds at each jump. -/
def ScJ (w : World) (A : Option Addr) (n c : Nat) (bs : List UInt8) (a' : Act) (w' : World) : Prop :=
  ∃ (ps : List (ItD × Value)) (a r cc : Nat) (A1 : Option Addr) (u6 u7 u8 u9 u10 u11 u12 u13 u14 u15 u16 u17 u18 u19 u20 u21 u22 u23 u24 u25 u26 u27 u28 u29 u30 u31 u32 : Value), a' = { tmps := #[.slice A n c, undef, .slice none 0 0, .int .i64 0, .slice A1 r cc, .int .i64 (a : Int), u6, u7, u8, u9, u10, u11, u12, u13, u14, u15, u16, u17, u18, u19, u20, u21, u22, u23, u24, u25, u26, u27, u28, u29, u30, u31, u32], defers := [] } ∧
    a ≤ n ∧ ItS w' w.heap.size (.slice A1 r cc) ps ∧ Hid (ScA bs a (ps.map Prod.fst)) ∧ Kp No w w'
/-- What Scan returns. -/
def ScPost (w : World) (bs : List UInt8) (e : Ending) (w1 : World) : Prop :=
  ∃ (ps : List (ItD × Value)) (a r cc : Nat) (A1 : Option Addr), e = .returned (.tuple #[.slice A1 r cc, .int .i64 (a : Int)]) ∧ ItS w1 w.heap.size (.slice A1 r cc) ps ∧ ScA bs a (ps.map Prod.fst) ∧ opE (bs.drop a) ≠ 0 ∧ Kp No w w1

set_option maxRecDepth 100000 in
set_option maxHeartbeats 4000000 in
theorem sscan_any {w : World} {n c : Nat} {A : Option Addr} {bs : List UInt8} (hb : Bts w (.slice A n c) bs) (hnc : n ≤ c) (hbig : n ≤ 1000000) :
    Calls Try.prog 27 #[.slice A n c] w (ScPost w bs) := by
  have HL := hide hb.len
  go_enter Try.func27, Try.ntmps27
  go_wp2_with fail
  refine wp_scope_jumps 0 (ScJ w A n c bs) (fun a' _ => n - (intOf (a'.tmps.getD 5 undef)).toNat) rfl ?_ ?_
  · skip
    have hI : ItS w w.heap.size (.slice none 0 0) [] := ItS.nil w
    have hS0 := ScA.zero bs
    have HS := hide hS0
    clear hS0
    obtain ⟨er, her⟩ : ∃ q, q = opE bs := ⟨_, rfl⟩
    obtain ⟨kd, hkd⟩ : ∃ q, q = opK bs := ⟨_, rfl⟩
    obtain ⟨sz, hsz⟩ : ∃ q, q = opN bs := ⟨_, rfl⟩
    have HER := hide her
    have HKD := hide hkd
    have HSZ := hide hsz
    clear her hkd hsz
    have hcnt : 12 * ([] : List (ItD × Value)).length ≤ 0 := by simp
    go_wp2_with fail
    go_step3
    go_wp2_with fail
    refine (sopen_any hb hnc (by omega)).mono ?_
    rintro e w1 ⟨A5, n5, c5, rfl, ho5, hk5⟩
    rw [← HER.out, ← HKD.out, ← HSZ.out]
    by_cases h0 : er = 0
    · subst h0
      have hN := opN_le HER.out.symm
      rw [← HSZ.out] at hN
      have hN1 : 12 ≤ sz := hN.1
      have hN2 : 0 + sz ≤ n := by have := HL.out; omega
      clear hN
      have hI1 := (hI.no hk5).no (Kp.alloc No w1 (.cells #[.int .i64 (0 : Int), .int .u16 (kd : Int), .slice A5 n5 c5] 65))
      have K1 := hk5
      have z1 := K1.size
      go_wp2_with (first
        | (at_builtin
           refine wpList_appT ty_item rfl (.tmp 21) (.tmp 26) _ rfl Try.underlying60 rfl hI1.own _ _ rfl (item_new w1 _ _ _ rfl rfl rfl) ?hl ?hs ?_
           case hl => omega
           case hs => simp; omega
           intro A6 n6 c6 w6 hn6 ha6
           clear hn6))
      go_step3
      have hI6 := hI1.next (p := (⟨0, kd, opL bs⟩, .slice A5 n5 c5)) ((ho5.base0).no (Kp.alloc No w1 _)) ha6
      have K6 : Kp No w w6 := (K1.trans' (Kp.alloc No w1 _)).trans (ha6.kp.mono fun q hq => .inr (hI1.own.ge q hq))
      have HN := HS.out.next (by rw [List.drop_zero, ← HER.out])
      refine ⟨rfl, ⟨[] ++ [(⟨0, kd, opL bs⟩, .slice A5 n5 c5)], sz, n6, c6, A6, _, _, _, _, _, _, _, _, _, _, _, _, _, _, _, _, _, _, _, _, _, _, _, _, _, _, _, rfl, by omega, hI6, ?_, K6⟩⟩
      · rw [List.map_append, HSZ.out, HKD.out]
        have e := HN; rw [List.drop_zero, Nat.zero_add] at e; exact hide e
    · have hne : ((er : Int) == 0) = false := by simp; omega
      go_wp2_with fail
      simp only [Exit.jump]
      go_ret2
      exact ⟨[], 0, _, _, _, rfl, hI.no hk5, HS.out, by rw [List.drop_zero, ← HER.out]; exact h0, hk5⟩
  · rintro a' wr ⟨ps, a, r, cc, A1, u6, u7, u8, u9, u10, u11, u12, u13, u14, u15, u16, u17, u18, u19, u20, u21, u22, u23, u24, u25, u26, u27, u28, u29, u30, u31, u32, rfl, hal, hI, HS, hkp⟩
    obtain ⟨A2, s2, b2, c2⟩ := slice_l (hb.no hkp) hnc a (n - a) (c - a) (a : Int) rfl hal rfl rfl
    obtain ⟨er, her⟩ : ∃ q, q = opE (bs.drop a) := ⟨_, rfl⟩
    obtain ⟨kd, hkd⟩ : ∃ q, q = opK (bs.drop a) := ⟨_, rfl⟩
    obtain ⟨sz, hsz⟩ : ∃ q, q = opN (bs.drop a) := ⟨_, rfl⟩
    have HER := hide her
    have HKD := hide hkd
    have HSZ := hide hsz
    clear her hkd hsz
    have hcnt : 12 * ps.length ≤ a := by have := HS.out.bound.2; rwa [List.length_map] at this
    go_wp2_with fail
    refine (sopen_any b2 c2 (by omega)).mono ?_
    rintro e w1 ⟨A5, n5, c5, rfl, ho5, hk5⟩
    rw [← HER.out, ← HKD.out, ← HSZ.out]
    by_cases h0 : er = 0
    · subst h0
      have hN := opN_le HER.out.symm
      rw [← HSZ.out, List.length_drop] at hN
      have hN1 : 12 ≤ sz := hN.1
      have hN2 : a + sz ≤ n := by have := HL.out; omega
      clear hN
      have hI1 := (hI.no hk5).no (Kp.alloc No w1 (.cells #[.int .i64 (a : Int), .int .u16 (kd : Int), .slice A5 n5 c5] 65))
      have K1 := hkp.trans' hk5
      have z1 := K1.size
      go_wp2_with (first
        | (at_builtin
           refine wpList_appT ty_item rfl (.tmp 21) (.tmp 26) _ rfl Try.underlying60 rfl hI1.own _ _ rfl (item_new w1 _ _ _ rfl rfl rfl) ?hl ?hs ?_
           case hl => omega
           case hs => simp; omega
           intro A6 n6 c6 w6 hn6 ha6
           clear hn6))
      go_step3
      have hI6 := hI1.next (p := (⟨a, kd, opL (bs.drop a)⟩, .slice A5 n5 c5)) ((ho5.base0).no (Kp.alloc No w1 _)) ha6
      have K6 : Kp No w w6 := (K1.trans' (Kp.alloc No w1 _)).trans (ha6.kp.mono fun q hq => .inr (hI1.own.ge q hq))
      have HN := HS.out.next (by rw [← HER.out])
      refine ⟨rfl, ⟨ps ++ [(⟨a, kd, opL (bs.drop a)⟩, .slice A5 n5 c5)], a + sz, n6, c6, A6, _, _, _, _, _, _, _, _, _, _, _, _, _, _, _, _, _, _, _, _, _, _, _, _, _, _, _, rfl, by omega, hI6, ?_, K6⟩, ?_⟩
      · rw [List.map_append, HSZ.out, HKD.out]
        exact hide HN
      · simp [intOf]; omega
    · have hne : ((er : Int) == 0) = false := by simp; omega
      go_wp2_with fail
      simp only [Exit.jump]
      go_ret2
      exact ⟨ps, a, _, _, _, rfl, hI.no hk5, HS.out, by rw [← HER.out]; exact h0, hkp.trans' hk5⟩
end Go.Proofs.Ytikegnhjnbjclaa
