/- Package seal's Open, as a contract over memory. -/
import Derived.Test.YtikegnhjnbjclaaSec
import Derived.Test.YtikegnhjnbjclaaRd
import Derived.Deep.RegionHeld3
namespace Go.Proofs.Ytikegnhjnbjclaa
open Go.RowKit
set_option linter.unusedVariables false
set_option maxRecDepth 20000
set_option linter.unusedSimpArgs false

/-- A frame's mark, kind, count, sum, and what it bears. -/
def mkO (bs : List UInt8) : Nat := ofB (bs.take 2)
def kdO (bs : List UInt8) : Nat := ofB ((bs.drop 2).take 2)
def ctO (bs : List UInt8) : Nat := ofB ((bs.drop 4).take 4)
def smO (bs : List UInt8) : Nat := ofB ((bs.drop 8).take 4)
def ldO (bs : List UInt8) (n : Nat) : List UInt8 := (bs.drop 12).take n
def csO (bs : List UInt8) (n : Nat) : Nat := crc (bs.take 8 ++ ldO bs n)
/-- What Open says of bytes: the error, and the rest. -/
def opE (bs : List UInt8) : Nat := if bs.length < 12 ∨ mkO bs ≠ 53021 ∨ 65536 < ctO bs ∨ bs.length - 12 < ctO bs then 21 else if smO bs ≠ csO bs (ctO bs) then 22 else 0
def opK (bs : List UInt8) : Nat := if opE bs = 0 then kdO bs else 0
def opL (bs : List UInt8) : List UInt8 := if opE bs = 0 then ldO bs (ctO bs) else []
def opN (bs : List UInt8) : Nat := if opE bs = 0 then 12 + ctO bs else 0

theorem ofB_take {l : List UInt8} (k : Nat) : ofB (l.take k) < 2 ^ (8 * k) :=
  Nat.lt_of_lt_of_le (ofB_lt _) (Nat.pow_le_pow_right (by omega) (by have := List.length_take_le k l; omega))
theorem mkO_lt (bs : List UInt8) : mkO bs < 65536 := ofB_take 2
theorem kdO_lt (bs : List UInt8) : kdO bs < 65536 := ofB_take 2
theorem ctO_lt (bs : List UInt8) : ctO bs < 4294967296 := ofB_take 4
theorem smO_lt (bs : List UInt8) : smO bs < 4294967296 := ofB_take 4
theorem csO_lt (bs : List UInt8) (n : Nat) : csO bs n < 4294967296 := crc_lt _
theorem head_parts (bs : List UInt8) : bs.take 12 = bs.take 2 ++ ((bs.drop 2).take 2 ++ ((bs.drop 4).take 4 ++ ((bs.drop 8).take 4 ++ []))) := by
  rw [show (12 : Nat) = 2 + (2 + (4 + 4)) from rfl, List.take_add, List.take_add, List.take_add, List.drop_drop, List.drop_drop, List.append_nil]

/-- What Open returns. -/
def OpPost (w : World) (k : Nat) (ld : List UInt8) (sz er : Nat) (e : Ending) (w1 : World) : Prop :=
  ∃ A n c, e = .returned (.tuple #[.int .u16 (k : Int), .slice A n c, .int .i64 (sz : Int), .int .i64 (er : Int)]) ∧ Own w1 w.heap.size 5 (.slice A n c) ld ∧ Kp No w w1
theorem OpPost.err {w w1 : World} {er : Nat} (hk : Kp No w w1) : OpPost w 0 [] 0 er (.returned (.tuple #[.int .u16 0, .slice none 0 0, .int .i64 0, .int .i64 (er : Int)])) w1 := ⟨none, 0, 0, rfl, Own.nil _ _ _, hk⟩

theorem sop_short {w : World} {n c : Nat} {A : Option Addr} (h : n < 12) : Calls Try.prog 44 #[.slice A n c] w (OpPost w 0 [] 0 21) := by
  go_enter Try.func44, Try.ntmps44
  go_wp2
  exact bodyPost_ret (v := .tuple #[.int .u16 0, .slice none 0 0, .int .i64 0, .int .i64 21]) (by simp [results, Try.results44, go_sem]) rfl (OpPost.err (Kp.refl _ _))

section
variable {w : World} {n c : Nat} {A : Option Addr} {bs : List UInt8}
/-- A block that is younger than w, and what a reader's call there keeps. -/
theorem Kp.thenAt {w w1 w2 : World} {g : Nat} (h : Kp No w w1) (hg : w.heap.size ≤ g) (k : Kp (fun b => b = g) w1 w2) : Kp No w w2 := h.trans (k.mono fun b hb => .inr (by omega))

theorem RdAt.in_ {F : Nat → Prop} {g : Nat} (h : RdAt w F g bs) : F g := by
  obtain ⟨_, _, _, _, _, _, h4, _⟩ := h
  exact h4
theorem op_err {er : Nat} {e : Ending} {w1 : World} (h : opE bs = er) (h0 : er ≠ 0) (hp : OpPost w 0 [] 0 er e w1) : OpPost w (opK bs) (opL bs) (opN bs) (opE bs) e w1 := by
  unfold opK opL opN
  rw [if_neg (by omega), if_neg (by omega), if_neg (by omega), h]
  exact hp
theorem op_ok {e : Ending} {w1 : World} (h : opE bs = 0) (hp : OpPost w (kdO bs) (ldO bs (ctO bs)) (12 + ctO bs) 0 e w1) : OpPost w (opK bs) (opL bs) (opN bs) (opE bs) e w1 := by
  unfold opK opL opN
  rw [if_pos h, if_pos h, if_pos h, h]
  exact hp
theorem opE_21 (h : bs.length < 12 ∨ mkO bs ≠ 53021 ∨ 65536 < ctO bs ∨ bs.length - 12 < ctO bs) : opE bs = 21 := by unfold opE; rw [if_pos h]

set_option maxHeartbeats 2000000 in
theorem sopen_any (hb : Bts w (.slice A n c) bs) (hnc : n ≤ c) (hbig : n ≤ 900000000) : Calls Try.prog 44 #[.slice A n c] w (OpPost w (opK bs) (opL bs) (opN bs) (opE bs)) := by
  have HL := hide hb.len
  by_cases h : n < 12
  · exact (sop_short h).mono fun e w1 hp => op_err (opE_21 (by have := HL.out; omega)) (by omega) hp
  have h : 12 ≤ n := by omega
  obtain ⟨s1, b1, _⟩ := slice_u hb hnc 12 12 rfl h
  rw [head_parts] at b1
  obtain ⟨s2, b2, _⟩ := slice_u hb hnc 8 8 rfl (by omega)
  obtain ⟨q, hq⟩ : ∃ q, q = mkO bs := ⟨_, rfl⟩
  obtain ⟨k, hk⟩ : ∃ q, q = kdO bs := ⟨_, rfl⟩
  obtain ⟨t, ht⟩ : ∃ q, q = ctO bs := ⟨_, rfl⟩
  obtain ⟨z, hz⟩ : ∃ q, q = smO bs := ⟨_, rfl⟩
  have kl : k < 65536 := hk ▸ kdO_lt bs
  have tl : t < 4294967296 := ht ▸ ctO_lt bs
  have zl : z < 4294967296 := hz ▸ smO_lt bs
  have HQ := hide hq
  have HK := hide hk
  have HT := hide ht
  have HZ := hide hz
  clear hq hk ht hz
  go_enter Try.func44, Try.ntmps44
  go_wp2_with fail
  refine (read_any b1 (by simp; omega)).mono ?_
  rintro e w1 ⟨g, rfl, hr, hk1⟩
  have hg := hr.in_.1
  go_wp2_with fail
  refine (rdnum_any 2 (by simp; have := HL.out; omega) (by omega) hr).mono ?_
  rintro e w2 ⟨rfl, hr2, hk2⟩
  rw [show ofB (bs.take 2) = q from HQ.out.symm]
  have k2 := hk1.thenAt hg hk2
  clear hr hk1 hk2
  by_cases hm : q = 53021
  · have HM := hide hm
    subst hm
    go_wp2_with fail
    refine (rdnum_any 2 (by simp; have := HL.out; omega) (by omega) hr2).mono ?_
    rintro e w3 ⟨rfl, hr3, hk3⟩
    rw [show ofB ((bs.drop 2).take 2) = k from HK.out.symm]
    have k3 := k2.thenAt hg hk3
    clear hr2 hk3
    go_wp2_with fail
    refine (rdnum_any 4 (by simp; have := HL.out; omega) (by omega) hr3).mono ?_
    rintro e w4 ⟨rfl, hr4, hk4⟩
    rw [show ofB ((bs.drop 4).take 4) = t from HT.out.symm]
    have k4 := k3.thenAt hg hk4
    clear hr3 hk4 k2 k3
    by_cases ht1 : 65536 < t
    · go_wp2
      exact bodyPost_ret (v := .tuple #[.int .u16 0, .slice none 0 0, .int .i64 0, .int .i64 21]) (by simp [results, Try.results44, go_sem]) rfl (op_err (opE_21 (by have := HT.out; omega)) (by omega) (OpPost.err k4))
    have ht1 : t ≤ 65536 := by omega
    by_cases ht2 : n - 12 < t
    · have ht3 : (n : Int) - 12 < t := by omega
      go_wp2
      exact bodyPost_ret (v := .tuple #[.int .u16 0, .slice none 0 0, .int .i64 0, .int .i64 21]) (by simp [results, Try.results44, go_sem]) rfl (op_err (opE_21 (by have := HT.out; have := HL.out; omega)) (by omega) (OpPost.err k4))
    have ht2 : 12 + t ≤ n := by omega
    have ht3 : ¬ ((n : Int) - 12 < t) := by omega
    obtain ⟨A3, s3, b3, c3⟩ := slice_lu hb hnc 12 (12 + t) t (c - 12) 12 (12 + (t : Int)) rfl (by omega) (by omega) ht2 (by omega) rfl
    obtain ⟨y, hy⟩ : ∃ y, y = csO bs t := ⟨_, rfl⟩
    have yl : y < 4294967296 := hy ▸ csO_lt bs t
    have HY := hide hy
    clear hy
    have HS2 := hide b2
    have HS3 := hide b3
    have l4 : 4 = ((bs.drop 8).take 4).length := by simp; have := HL.out; omega
    have L4 := hide l4
    have l8 : (bs.take 8).length ≤ 900000000 := by simp; omega
    have l9 : ((bs.drop 12).take t).length ≤ 900000000 := by simp; omega
    clear l4 b2 b3
    have HR := hide hr4
    clear hr4
    have E4 : (4 : Nat) ≤ 8 := by omega
    have hnm : ∀ w', RdAt w' (fun k => w.heap.size ≤ k ∧ k < w1.heap.size) g ((bs.drop 8).take 4 ++ []) → Calls Try.prog 46 #[.pointer (some ⟨g, 0, none⟩), .int .i64 4] w' (NmPost w' (fun k => w.heap.size ≤ k ∧ k < w1.heap.size) g z []) := fun w' h => by
      have := rdnum_any 4 L4.out E4 h
      rw [show ofB ((bs.drop 8).take 4) = z from HZ.out.symm] at this
      exact this
    have HNM := hide hnm
    clear hnm
    have hw : IntKind.u32.wrap (z : Int) = z := IntWalk.u32_in _ (by omega)
    by_cases hzy : z = y
    · have HZY := hide hzy
      subst hzy
      go_wp2_with fail
      go_region_held3 (fun _ => True) (trivial)
        (first
          | (go_at_call 46; ((with_reducible refine (HNM.out _ (RdAt.drew HR.out)).mono ?_); rintro e w5 ⟨rfl, hr5, hk5⟩); have k5 := k4.drew.thenAt hg hk5; clear hr5 hk5)
          | (go_at_call 50; ((with_reducible refine (sfsum_any (HS2.out.no k5) (HS3.out.no k5) l8 l9).mono ?_); rintro e w6 ⟨rfl, rfl⟩); rw [show crc (bs.take 8 ++ (bs.drop 12).take t) = z from HY.out.symm]))
      clear hw
      go_wp2_with fail
      refine (clone_any (HS3.out.no k5) l9).mono ?_
      rintro e w7 ⟨A7, n7, c7, rfl, ho7, hk7⟩
      have z5 := k5.size
      go_wp2
      refine bodyPost_ret (v := .tuple #[.int .u16 (k : Int), .slice A7 n7 c7, .int .i64 (12 + (t : Int)), .int .i64 0]) (by simp [results, Try.results44, go_sem]) rfl (op_ok ?_ ⟨A7, n7, c7, ?_, ?_, k5.trans' hk7⟩)
      · unfold opE
        rw [if_neg (by have := HM.out; have := HT.out; have := HL.out; have := HQ.out; omega), if_neg]
        rw [← HT.out, ← HY.out, ← HZ.out]; simp
      · rw [← HK.out, ← HT.out]; congr 5
      · rw [← HT.out]; exact ho7.rebase fun j hj => Nat.le_trans z5 (ho7.ge j hj)
    · have hne : ((z : Int) != (y : Int)) = true := by simp; omega
      go_wp2_with fail
      go_region_held3 (fun _ => True) (trivial)
        (first
          | (go_at_call 46; ((with_reducible refine (HNM.out _ (RdAt.drew HR.out)).mono ?_); rintro e w5 ⟨rfl, hr5, hk5⟩); have k5 := k4.drew.thenAt hg hk5; clear hr5 hk5)
          | (go_at_call 50; ((with_reducible refine (sfsum_any (HS2.out.no k5) (HS3.out.no k5) l8 l9).mono ?_); rintro e w6 ⟨rfl, rfl⟩); rw [show crc (bs.take 8 ++ (bs.drop 12).take t) = y from HY.out.symm]))
      clear hw hne
      go_wp2
      refine bodyPost_ret (v := .tuple #[.int .u16 0, .slice none 0 0, .int .i64 0, .int .i64 22]) (by simp [results, Try.results44, go_sem]) rfl (op_err (er := 22) ?_ (by omega) (OpPost.err k5))
      unfold opE
      rw [if_neg (by have := HM.out; have := HT.out; have := HL.out; have := HQ.out; omega), if_pos]
      rw [← HT.out, ← HY.out, ← HZ.out]; exact hzy
  · have hm2 : ((q : Int) != 53021) = true := by simp; omega
    go_wp2
    exact bodyPost_ret (v := .tuple #[.int .u16 0, .slice none 0 0, .int .i64 0, .int .i64 21]) (by simp [results, Try.results44, go_sem]) rfl (op_err (opE_21 (by have := HQ.out; omega)) (by omega) (OpPost.err k2))
end
end Go.Proofs.Ytikegnhjnbjclaa
