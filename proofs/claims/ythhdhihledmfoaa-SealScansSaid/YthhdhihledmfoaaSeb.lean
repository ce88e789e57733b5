/- Layer 10's awake, and SealSums walked: it returns true for any bytes; no condition. -/
import Derived.Test.YthhdhihledmfoaaSea
import Derived.Lib.SlBytesConst
namespace Go.Proofs.Ythhdhihledmfoaa
open Go.RowKit
set_option linter.unusedVariables false
set_option linter.unusedSimpArgs false

theorem bts_row (w : World) (bs : List UInt8) (n : Nat) (fr : Nat × Nat) (hn : n = bs.length) : Bts (w.alloc (.cells (bs.map bv).toArray 5 fr)) (.slice (some ⟨w.heap.size, 0, none⟩) n n) bs := by
  subst hn
  refine ⟨_, _, rfl, (fun h => by cases h), fun ad ha j x hx => ?_⟩
  injection ha with ha
  subst ha
  rw [add_none, Nat.zero_add, World.cell?_alloc_mark]
  simp [hx]

/-- The chapter's nine digits. -/
def digs : List UInt8 := [49, 50, 51, 52, 53, 54, 55, 56, 57]
theorem digs_sum : ((crc digs : Nat) : Int) = 3808858755 := by decide +kernel

theorem awake10_any (w : World) : Calls Try.prog 8 #[] w (TruePost w) := by
  have kc := fun (w : World) (C : Array Value) (n c : Nat) => Lib.run_convert_bytes_const (P := Try.prog) w 22 5 C n c Try.underlying22 Try.underlying5
  have hb := bts_row w digs 9 (9, 10) rfl
  have HB := hide hb
  clear hb
  have HD := hide digs_sum
  go_enter Try.func8, Try.ntmps8
  go_wp2_with fail
  refine (ssum_any (bs := digs) HB.out (by decide)).mono ?_
  rintro e w' ⟨rfl, rfl⟩
  rw [HD.out]
  go_wp2
  go_ret
  exact ⟨rfl, Kp.alloc No w _⟩

theorem sealsums_no (W : World) {A0 A1 : Option Addr} {n0 c0 n1 c1 : Nat} (hs : 1000 < n0 ∨ (n0 ≤ 1000 ∧ 1000 < n1)) :
    Calls Try.prog 3 #[.slice A0 n0 c0, .slice A1 n1 c1] W (TruePost W) := by
  rcases hs with h | ⟨h, h1⟩
  all_goals
    go_enter Try.func3, Try.ntmps3
    go_wp2_with (go_at_call 8; refine (awake10_any _).mono ?_; rintro e w1 hp; obtain rfl := hp.1)
    go_ret
    exact ⟨rfl, hp.2⟩

theorem sealsums_yes (W : World) {A0 A1 : Option Addr} {n0 c0 n1 c1 : Nat} {xs bs : List UInt8} (ha : Bts W (.slice A0 n0 c0) xs) (hb : Bts W (.slice A1 n1 c1) bs) (h0 : n0 ≤ 1000) (h1 : n1 ≤ 1000) :
    Calls Try.prog 3 #[.slice A0 n0 c0, .slice A1 n1 c1] W (TruePost W) := by
  obtain ⟨i0, hi0, hz0, hz1, hz2⟩ := byte_parts
  have l0 : xs.length ≤ 1000 := by have := ha.len; omega
  have l1 : bs.length ≤ 1000 := by have := hb.len; omega
  go_enter Try.func3, Try.ntmps3
  go_wp2_with fail
  refine (ssum_any ha (by omega)).mono ?_
  rintro e w' ⟨rfl, rfl⟩
  go_wp2_with fail
  refine (srsum_any ha (by omega)).mono ?_
  rintro e w' ⟨rfl, rfl⟩
  go_wp2_with fail
  refine (ssum_any ha (by omega)).mono ?_
  rintro e w' ⟨rfl, rfl⟩
  go_wp2_with fail
  refine (sgo_any (crc xs) (crc_lt xs) hb (by omega)).mono ?_
  rintro e w' ⟨rfl, rfl⟩
  rw [goS_crc]
  go_wp2_with (first
    | (at_builtin
       refine wpList_app_want rfl (.tmp 24) (.tmp 25) _ rfl i0 Try.underlying22 hi0 hz0 hz1 hz2 rfl (own_empty W) rfl (ha.no (Kp.alloc No W _)) ?hl (by simp) ?_
       case hl => simp; omega
       intro A2 n2 c2 w2 h2
       have k2 : Kp No W w2 := h2.keeps (own_empty W) (Kp.alloc No W _)
       have z2 := k2.size)
    | (at_builtin
       refine wpList_app_want rfl (.tmp 26) (.tmp 27) _ rfl i0 Try.underlying22 hi0 hz0 hz1 hz2 rfl h2.own rfl (hb.no k2) ?hl z2 ?_
       case hl => simp; omega
       intro A3 n3 c3 w3 h3
       have k3 : Kp No W w3 := h3.keeps h2.own k2))
  have b3 : Bts w3 (.slice A3 n3 c3) (xs ++ bs) := by simpa using h3.own.bts
  refine (srsum_any b3 (by simp; omega)).mono ?_
  rintro e w' ⟨rfl, rfl⟩
  go_wp2_with fail
  refine (awake10_any _).mono ?_
  rintro e w4 hp
  obtain rfl := hp.1
  go_wp2
  go_ret
  exact ⟨rfl, k3.trans' hp.2⟩

theorem sealsums_walk (W : World) {A0 A1 : Option Addr} {n0 c0 n1 c1 : Nat} {xs bs : List UInt8} (ha : Bts W (.slice A0 n0 c0) xs) (hb : Bts W (.slice A1 n1 c1) bs) :
    Calls Try.prog 3 #[.slice A0 n0 c0, .slice A1 n1 c1] W fun e W' => e = .returned (.bool true) ∧ Below W.heap.size W W' := by
  by_cases h : 1000 < n0 ∨ (n0 ≤ 1000 ∧ 1000 < n1)
  · exact (sealsums_no W h).mono fun e W' p => ⟨p.1, p.2.below0⟩
  · exact (sealsums_yes W ha hb (by omega) (by omega)).mono fun e W' p => ⟨p.1, p.2.below0⟩
end Go.Proofs.Ythhdhihledmfoaa
