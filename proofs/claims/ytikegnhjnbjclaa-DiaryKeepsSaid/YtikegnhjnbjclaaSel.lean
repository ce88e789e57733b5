/- The document's Scan, as a contract over memory. -/
import Derived.Test.YtikegnhjnbjclaaSeg
import Derived.Test.YtikegnhjnbjclaaSek
namespace Go.Proofs.Ytikegnhjnbjclaa
open Go.RowKit
set_option linter.unusedVariables false
set_option maxRecDepth 20000
set_option linter.unusedSimpArgs false

theorem ritem_info : (Try.prog.info? 70).map (fun i => (i.zero, i.size, i.bytes)) = some (some (.agg #[.int .i64 0, .int .u16 0, .slice none 0 0]), 3, 40) := by kernel_rfl
theorem ty_ritem : Ty 70 (.agg #[.int .i64 0, .int .u16 0, .slice none 0 0]) 3 40 := ty_of ritem_info rfl (by omega) (by omega)
theorem ritem_new (w : World) (u0 u1 u2 : Value) (h0 : u0.oneCell' = true) (h1 : u1.oneCell' = true) (h2 : u2.oneCell' = true) : Nws (w.alloc (.cells #[u0, u1, u2] 70)) ⟨w.heap.size, 0, none⟩ 1 3 [u0, u1, u2] := cells_new w _ u0 u1 u2 h0 h1 h2

/-- The document's items, and what they bear: that reads so in w0, and in each world in which v0 reads as bs. -/
structure ItR (v0 : Value) (bs : List UInt8) (w0 w : World) (base : Nat) (v : Value) (ps : List (ItD × Value)) : Prop where
  own : OwnT w base 70 3 v ps.length (itC ps)
  ld : ∀ p ∈ ps, Bts w0 p.2 p.1.ld
  all : ∀ p ∈ ps, ∀ w1, Bts w1 v0 bs → Bts w1 p.2 p.1.ld
  cap : ∀ p ∈ ps, ∀ A n c, p.2 = .slice A n c → n ≤ c
theorem ItR.nil (v0 : Value) (bs : List UInt8) (w0 w : World) : ItR v0 bs w0 w w.heap.size (.slice none 0 0) [] := ⟨OwnT.nil _ _ _ _, fun p hp => by simp at hp, fun p hp => by simp at hp, fun p hp => by simp at hp⟩
theorem ItR.no {v0 : Value} {bs : List UInt8} {w0 w w1 : World} {base : Nat} {v : Value} {ps : List (ItD × Value)} (h : ItR v0 bs w0 w base v ps) (hk : Kp No w w1) : ItR v0 bs w0 w1 base v ps := ⟨h.own.no hk, h.ld, h.all, h.cap⟩
theorem ItR.next {v0 : Value} {bs : List UInt8} {w0 w w6 : World} {base : Nat} {v v6 : Value} {ps : List (ItD × Value)} {p : ItD × Value} (h : ItR v0 bs w0 w base v ps) (hl : Bts w0 p.2 p.1.ld) (hall : ∀ w1, Bts w1 v0 bs → Bts w1 p.2 p.1.ld) (hcap : ∀ A n c, p.2 = .slice A n c → n ≤ c)
    (ha : AppT w base 70 3 v ps.length (itC ps) 1 [.int .i64 (p.1.at_ : Int), .int .u16 (p.1.kd : Int), p.2] v6 w6) : ItR v0 bs w0 w6 base v6 (ps ++ [p]) := by
  refine ⟨?_, fun q hq => ?_, fun q hq => ?_, fun q hq => ?_⟩
  · rw [List.length_append, itC_snoc]; exact ha.own
  · rcases List.mem_append.1 hq with hq | hq
    · exact h.ld q hq
    · rw [List.mem_singleton] at hq; subst hq; exact hl
  · rcases List.mem_append.1 hq with hq | hq
    · exact h.all q hq
    · rw [List.mem_singleton] at hq; subst hq; exact hall
  · rcases List.mem_append.1 hq with hq | hq
    · exact h.cap q hq
    · rw [List.mem_singleton] at hq; subst hq; exact hcap
/-- What the document's Scan returns. -/
def RcPost (w : World) (v0 : Value) (bs : List UInt8) (e : Ending) (w1 : World) : Prop :=
  ∃ (ps : List (ItD × Value)) (a r cc : Nat) (A1 : Option Addr), e = .returned (.tuple #[.slice A1 r cc, .int .i64 (a : Int)]) ∧ ItR v0 bs w w1 w.heap.size (.slice A1 r cc) ps ∧ ScA bs a (ps.map Prod.fst) ∧ opE (bs.drop a) ≠ 0 ∧ Kp No w w1

set_option maxRecDepth 100000 in
set_option maxHeartbeats 4000000 in
theorem rscan_any {w : World} {n c : Nat} {A : Option Addr} {bs : List UInt8} (hb : Bts w (.slice A n c) bs) (hnc : n ≤ c) (hbig : n ≤ 1000000) :
    Calls Try.prog 29 #[.slice A n c] w (RcPost w (.slice A n c) bs) := by
  have HL := hide hb.len
  go_enter Try.func29, Try.ntmps29
  go_wp2_with fail
  go_loopw [4, 5] (fun v i wr => ∃ (ps : List (ItD × Value)) (a r cc : Nat) (A1 : Option Addr), i = .int .i64 (a : Int) ∧ v = .slice A1 r cc ∧ a ≤ n ∧ ItR (.slice A n c) bs w wr w.heap.size (.slice A1 r cc) ps ∧ Hid (ScA bs a (ps.map Prod.fst)) ∧ Kp No w wr) (fun _ i _ => n - (intOf i).toNat)
  case atStart => exact ⟨[], 0, 0, 0, none, rfl, rfl, Nat.zero_le _, ItR.nil _ _ w w, hide (ScA.zero bs), Kp.refl _ _⟩
  case round =>
    obtain ⟨ps, a, r, cc, A1, rfl, rfl, hal, hI, HS, hkp⟩ := hrel
    have hcnt : 12 * ps.length ≤ a := by have := HS.out.bound.2; rwa [List.length_map] at this
    by_cases hlt : a < n
    · obtain ⟨A2, s2, ball, c2⟩ := slice_l_all n c A hnc a (n - a) (c - a) (a : Int) rfl hal rfl rfl
      have HB2 := hide (ball w bs hb)
      have HBA := hide ball
      clear ball
      obtain ⟨er, her⟩ : ∃ q, q = opE (bs.drop a) := ⟨_, rfl⟩
      obtain ⟨kd, hkd⟩ : ∃ q, q = opK (bs.drop a) := ⟨_, rfl⟩
      have HER := hide her
      have HKD := hide hkd
      clear her hkd
      go_wp2_with fail
      refine (ropen_any (HB2.out.no hkp) c2 (by omega)).mono ?_
      rintro e w1 ⟨A5, n5, c5, rfl, hc5, hall, hk5⟩
      rw [← HER.out, ← HKD.out]
      have hld := hall w HB2.out
      have HLD := hide hld
      have HAL := hide (fun w0 h => hall w0 (HBA.out w0 bs h))
      have K1 := hkp.trans' hk5
      have z1 := K1.size
      clear hall hld
      by_cases h0 : er = 0
      · subst h0
        have hN := opN_le HER.out.symm
        have h5 := HLD.out.len
        have hN2 : a + 12 + n5 ≤ n := by rw [List.length_drop] at hN; have := HL.out; omega
        have HN5 : Hid (opN (bs.drop a) = 12 + n5) := by show opN (bs.drop a) = 12 + n5; omega
        clear hN h5
        have hI1 := (hI.no hk5).no (Kp.alloc No w1 (.cells #[.int .i64 (a : Int), .int .u16 (kd : Int), .slice A5 n5 c5] 70))
        go_wp2_with (first
          | (at_builtin
             refine wpList_appT ty_ritem rfl (.tmp 25) (.tmp 30) _ rfl Try.underlying67 rfl hI1.own _ _ rfl (ritem_new w1 _ _ _ rfl rfl rfl) ?hl ?hs ?_
             case hl => omega
             case hs => simp; omega
             intro A6 n6 c6 w6 hn6 ha6
             clear hn6))
        have hI6 := hI1.next (p := (⟨a, kd, opL (bs.drop a)⟩, .slice A5 n5 c5)) HLD.out HAL.out (fun A n c e => by injection e with _ e1 e2; omega) ha6
        have K6 : Kp No w w6 := (K1.trans' (Kp.alloc No w1 _)).trans (ha6.kp.mono fun q hq => .inr (hI1.own.ge q hq))
        have HN := HS.out.next (by rw [← HER.out])
        go_round
        case rel =>
          refine ⟨ps ++ [(⟨a, kd, opL (bs.drop a)⟩, .slice A5 n5 c5)], a + 12 + n5, n6, c6, A6, by go_num, rfl, hN2, hI6, ?_, K6⟩
          rw [List.map_append, HKD.out]
          have e := HN
          rw [HN5.out, ← Nat.add_assoc] at e
          exact hide e
        case measure => simp [intOf]; omega
      · have hne : ((er : Int) != 0) = true := by simp; omega
        go_wp2_with fail
        go_ret2
        exact ⟨ps, a, _, _, _, rfl, hI.no hk5, HS.out, by rw [← HER.out]; exact h0, K1⟩
    · obtain rfl : n = a := by omega
      go_wp2_with fail
      go_ret2
      exact ⟨ps, n, _, _, _, rfl, hI, HS.out, by rw [List.drop_of_length_le (by have := HL.out; omega)]; exact opE_nil, hkp⟩
end Go.Proofs.Ytikegnhjnbjclaa
