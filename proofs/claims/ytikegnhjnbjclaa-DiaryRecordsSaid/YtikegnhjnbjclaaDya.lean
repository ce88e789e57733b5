/- diary's Frame, open and Records, and the document's Frame and Records, each as a contract over memory. No condition. -/
import Derived.Test.YtikegnhjnbjclaaDym
import Derived.Test.YtikegnhjnbjclaaVrq
import Derived.Test.YtikegnhjnbjclaaSel
import Derived.Test.YtikegnhjnbjclaaOwt
import Derived.Deep.QuietTactic
import Derived.BigQuiet
namespace Go.Proofs.Ytikegnhjnbjclaa
open Go.RowKit
set_option linter.unusedVariables false
set_option maxRecDepth 20000
set_option linter.unusedSimpArgs false

set_option maxHeartbeats 1000000 in
theorem dfr_any {w : World} {num n c : Nat} {A : Option Addr} {bs : List UInt8} (hn : num < 18446744073709551616) (hb : Bts w (.slice A n c) bs) (h : n ≤ 60000) :
    Calls Try.prog 10 #[.int .u64 num, .slice A n c] w (OwnPost w (rcF num bs)) := by
  have HL := hide hb.len
  have hl : bs.length ≤ 60000 := by have := HL.out; omega
  have K8 : IsK 8 8 := ⟨by omega, by omega⟩
  have k0 : Kp No w (w.alloc (.cells #[.slice none 0 0] 74)) := Kp.alloc No w _
  have a0 : WrAt (w.alloc (.cells #[.slice none 0 0] 74)) (Fr w.heap.size) w.heap.size [] := (WrAt.new w).mono fun k hk => by subst hk; exact Nat.le_refl _
  have HA := hide a0
  have HK := hide k0
  have HB := hide hb
  clear a0 k0 hb
  go_enter Try.func10, Try.ntmps10
  go_wp2_with fail
  refine (num_any (bs := []) (F := Fr w.heap.size) (g := w.heap.size) num 8 8 hn K8 HA.out (by simp)).mono ?_
  rintro e w1 hp
  obtain rfl := hp.1
  have k1 := HK.out.thenFr hp.2.2
  have a1 := hp.again (fun k hk' => Nat.le_trans (HK.out.size) hk')
  clear hp
  go_wp2_with fail
  refine (raw_any (F := Fr w.heap.size) (g := w.heap.size) a1 (HB.out.no k1) (by simp [numB_length]; omega)).mono ?_
  rintro e w2 hp
  obtain rfl := hp.1
  have k2 := k1.thenFr hp.2.2
  have a2 := hp.again (fun k hk' => Nat.le_trans (k1.size) hk')
  clear hp a1
  rw [List.nil_append] at a2
  go_wp2_with fail
  refine (bytes_any (g := w.heap.size) a2 (by rw [List.length_append, numB_length]; omega)).mono ?_
  rintro e w3 ⟨A3, n3, c3, rfl, ho3, hk3⟩
  have k3 := k2.trans' hk3
  have hn3 : n3 ≤ 65536 := by have h1 := ho3.len; rw [List.length_append, numB_length] at h1; omega
  clear a2
  go_wp2_with fail
  refine (sfr_yes (k := 2) ho3.bts (by omega) hn3).mono ?_
  rintro e w4 ⟨A4, n4, c4, rfl, ho4, hk4⟩
  have z3 := k3.size
  go_wp2
  go_ret
  exact ⟨A4, n4, c4, rfl, ho4.rebase fun j hj => Nat.le_trans z3 (ho4.ge j hj), k3.trans' hk4⟩

set_option maxHeartbeats 1000000 in
theorem rdfr_any {w : World} {num n c : Nat} {A : Option Addr} {bs : List UInt8} (hn : num < 18446744073709551616) (hb : Bts w (.slice A n c) bs) (h : n ≤ 60000) :
    Calls Try.prog 11 #[.int .u64 num, .slice A n c] w (OwnPost w (rcF num bs)) := by
  obtain ⟨i0, hi0, hz0, hz1, hz2⟩ := byte_parts
  have HL := hide hb.len
  have hl : bs.length ≤ 60000 := by have := HL.out; omega
  have K8 : IsK 8 8 := ⟨by omega, by omega⟩
  have HB := hide hb
  clear hb
  go_enter Try.func11, Try.ntmps11
  go_wp2_with fail
  refine (rnum_any num 8 8 hn K8).mono ?_
  rintro e w1 ⟨A1, n1, c1, rfl, ho1, k1⟩
  have hu := HB.out.no k1
  have z1 := k1.size
  go_wp2_with (first
    | (at_builtin
       refine wpList_app rfl (.tmp 6) (.tmp 7) _ rfl i0 Try.underlying22 hi0 hz0 hz1 hz2 rfl ho1 rfl hu (by rw [numB_length]; omega) z1 ?_
       intro A2 n2 c2 w2 ha
       have ho2 := ha.own
       have k2 : Kp No w w2 := ha.keeps ho1 k1
       have hn2 : n2 ≤ 65536 := by have h1 := ho2.len; rw [List.length_append, numB_length] at h1; omega
       clear ha hu))
  refine (rfr_any (k := 2) ho2.bts (by omega) hn2).mono ?_
  rintro e w4 ⟨A4, n4, c4, rfl, ho4, hk4⟩
  have z3 := k2.size
  go_wp2
  go_ret
  exact ⟨A4, n4, c4, rfl, ho4.rebase fun j hj => Nat.le_trans z3 (ho4.ge j hj), k2.trans' hk4⟩

/-- What open returns: the record, or nothing. -/
def DoPost (w : World) (it : ItD) (num : Nat) (e : Ending) (w1 : World) : Prop :=
  Kp No w w1 ∧ ((okR it num ∧ ∃ A n c, e = .returned (.tuple #[.slice A n c, .bool true]) ∧ Own w1 w.heap.size 5 (.slice A n c) (it.ld.drop 8)) ∨ (¬ okR it num ∧ e = .returned (.tuple #[.slice none 0 0, .bool false])))
set_option maxHeartbeats 2000000 in
theorem dopen_any {w : World} {a k n c num : Nat} {A : Option Addr} {ld : List UInt8} (hn : 1 ≤ num) (hb : Bts w (.slice A n c) ld) (hl : n ≤ 900000000) :
    Calls Try.prog 28 #[.agg #[.int .i64 (a : Int), .int .u16 (k : Int), .slice A n c], .int .u64 (num : Int)] w (DoPost w ⟨a, k, ld⟩ num) := by
  have HL := hide hb.len
  have k0 : Kp No w (w.alloc (.cells #[.int .i64 (a : Int), .int .u16 (k : Int), .slice A n c] 65)) := Kp.alloc No w _
  have HB := hide (hb.no k0)
  have HK := hide k0
  have hll : ld.length ≤ 900000000 := by have := HL.out; omega
  clear hb k0
  by_cases h2 : k = 2
  · subst h2
    by_cases h8 : ld.length < 8
    · have hne : ((0 : Int) != (num : Int)) = true := by simp; omega
      go_enter Try.func28, Try.ntmps28
      go_wp2_with fail
      refine (read_any HB.out hll).mono ?_
      rintro e w1 ⟨g, rfl, hr, k1⟩
      have hg := hr.in_.1
      go_wp2_with fail
      refine (numz_any (k := 8) hr.q h8 (by omega)).mono ?_
      rintro e w2 ⟨rfl, hr2, k2⟩
      have K2 := hide ((HK.out.trans' k1).thenAt (by have := HK.out.size; omega) k2)
      clear hr hr2 k1 k2
      go_wp2_with fail
      go_ret2
      exact ⟨K2.out, .inr ⟨fun h => by have := h.2.1; simp only at this; omega, rfl⟩⟩
    · obtain ⟨x, hx⟩ : ∃ x, x = ofB (ld.take 8) := ⟨_, rfl⟩
      obtain ⟨L, hL⟩ : ∃ L, L = (ld.drop 8).length := ⟨_, rfl⟩
      have HX := hide hx
      have HLL := hide hL
      clear hx hL
      have h8' : 8 ≤ ld.length := by omega
      have e8 : (8 : Nat) = (ld.take 8).length := by rw [List.length_take]; omega
      have E8 := hide e8
      have HBB : Hid (Bts (w.alloc (.cells #[.int .i64 (a : Int), .int .u16 ((2 : Nat) : Int), .slice A n c] 65)) (.slice A n c) (ld.take 8 ++ ld.drop 8)) := by show Bts _ _ _; rw [List.take_append_drop]; exact HB.out
      clear e8
      by_cases hxn : x = num
      · subst hxn
        by_cases hbig : 60000 < L
        · go_enter Try.func28, Try.ntmps28
          go_wp2_with fail
          refine (read_any HBB.out (by rw [List.take_append_drop]; exact hll)).mono ?_
          rintro e w1 ⟨g, rfl, hr, k1⟩
          have hg := hr.in_.1
          go_wp2_with fail
          refine (rdnum_any 8 E8.out (by omega) hr).mono ?_
          rintro e w2 ⟨rfl, hr2, k2⟩
          rw [← HX.out]
          have K2 := hide ((HK.out.trans' k1).thenAt (by have := HK.out.size; omega) k2)
          clear hr k1 k2
          go_wp2_with fail
          refine (rdleft_any hr2).mono ?_
          rintro e w3 ⟨rfl, rfl⟩
          rw [← HLL.out]
          clear hr2
          go_wp2_with fail
          go_ret2
          exact ⟨K2.out, .inr ⟨fun h => by have h1 := h.2.2.1; have h2 := HLL.out; rw [List.length_drop] at h2; simp only at h1; omega, rfl⟩⟩
        · go_enter Try.func28, Try.ntmps28
          go_wp2_with fail
          refine (read_any HBB.out (by rw [List.take_append_drop]; exact hll)).mono ?_
          rintro e w1 ⟨g, rfl, hr, k1⟩
          have hg := hr.in_.1
          go_wp2_with fail
          refine (rdnum_any 8 E8.out (by omega) hr).mono ?_
          rintro e w2 ⟨rfl, hr2, k2⟩
          rw [← HX.out]
          have K2 := hide ((HK.out.trans' k1).thenAt (by have := HK.out.size; omega) k2)
          clear hr k1 k2
          go_wp2_with fail
          refine (rdleft_any hr2).mono ?_
          rintro e w3 ⟨rfl, rfl⟩
          rw [← HLL.out]
          go_wp2_with fail
          refine (rdrest_any hr2 (by rw [List.length_drop]; omega)).mono ?_
          rintro e w4 ⟨A4, n4, c4, rfl, ho4, _, k4⟩
          have K4 := hide (K2.out.thenAt (by have := HK.out.size; omega) k4)
          have z2 := K2.out.size
          clear hr2 k4
          go_wp2_with fail
          go_ret2
          refine ⟨K4.out, .inl ⟨⟨rfl, h8', ?_, HX.out.symm⟩, A4, n4, c4, rfl, ho4.rebase fun j hj => Nat.le_trans z2 (ho4.ge j hj)⟩⟩
          have h2 := HLL.out
          rw [List.length_drop] at h2
          simp only
          omega
      · have hne : ((x : Int) != (num : Int)) = true := by simp; omega
        go_enter Try.func28, Try.ntmps28
        go_wp2_with fail
        refine (read_any HBB.out (by rw [List.take_append_drop]; exact hll)).mono ?_
        rintro e w1 ⟨g, rfl, hr, k1⟩
        have hg := hr.in_.1
        go_wp2_with fail
        refine (rdnum_any 8 E8.out (by omega) hr).mono ?_
        rintro e w2 ⟨rfl, hr2, k2⟩
        rw [← HX.out]
        have K2 := hide ((HK.out.trans' k1).thenAt (by have := HK.out.size; omega) k2)
        clear hr hr2 k1 k2
        go_wp2_with fail
        go_ret2
        exact ⟨K2.out, .inr ⟨fun h => hxn (by rw [HX.out]; exact h.2.2.2), rfl⟩⟩
  · have hne : ((k : Int) != 2) = true := by simp; omega
    go_enter Try.func28, Try.ntmps28
    go_wp2_with fail
    go_ret2
    exact ⟨HK.out, .inr ⟨fun h => h2 h.1, rfl⟩⟩
end Go.Proofs.Ytikegnhjnbjclaa
