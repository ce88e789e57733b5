/- Package vault's framed, as a contract over memory. -/
import Derived.Test.YtndghapdpfgmoaaVva
import Derived.Test.YtndghapdpfgmoaaSec
namespace Go.Proofs.Ytndghapdpfgmoaa
open Go.RowKit
set_option linter.unusedVariables false
set_option linter.unusedSimpArgs false
set_option maxRecDepth 20000

/-- What framed comes to. -/
def FrdPost (w : World) (bs : List UInt8) (e : Ending) (w1 : World) : Prop := ∃ A n c, e = .returned (.slice A n c) ∧ Own w1 w.heap.size 5 (.slice A n c) bs ∧ Kp No w w1
set_option maxHeartbeats 2000000 in
theorem framed_any {w : World} {s n c : Nat} {A : Option Addr} {b : List UInt8} (hs : s < N96) (hb : Bts w (.slice A n c) b) (hl : b.length ≤ 800000000) :
    Calls Try.prog 26 #[shV s, .slice A n c] w (FrdPost w (if b.length ≤ 65524 then frV s b else [])) := by
  generalize hR : (if b.length ≤ 65524 then frV s b else []) = R
  have HRR := hide hR
  clear hR
  have HL := hide hl
  have i0 := cO_lt hs
  have i1 := cS_lt s
  have i2 := cL_lt s
  have i3 := cG_lt s
  have k0 : Kp No w (w.alloc (.cells #[.int .u32 (cO s : Int), .int .u16 (cS s : Int), .int .u16 (cL s : Int), .int .u32 (cG s : Int)] 26)) := Kp.alloc No w _
  have a0 := (WrAt.new (w.alloc (.cells #[.int .u32 (cO s : Int), .int .u16 (cS s : Int), .int .u16 (cL s : Int), .int .u32 (cG s : Int)] 26))).mono (T := Fr w.heap.size) fun k hk => by subst hk; rw [World.size_alloc]; exact Nat.le_succ _
  rw [World.size_alloc] at a0
  have k1 := k0.trans' (Kp.alloc No (w.alloc (.cells #[.int .u32 (cO s : Int), .int .u16 (cS s : Int), .int .u16 (cL s : Int), .int .u32 (cG s : Int)] 26)) (.cells #[.slice none 0 0] 87))
  have HA := hide a0
  have HK := hide k1
  have HFR : Hid (frV s b = frm 1 (shardB (cO s) (cS s) (cL s) (cG s) ++ b)) := hide rfl
  have HSL := hide (shB_len s)
  have hd : shB s = shardB (cO s) (cS s) (cL s) (cG s) := rfl
  rw [hd] at HSL
  clear a0 k0 k1 hl hd
  unfold shV
  generalize cO s = o0 at *
  generalize cS s = o1 at *
  generalize cL s = o2 at *
  generalize cG s = o3 at *
  go_enter Try.func26, Try.ntmps26
  go_wp2_with fail
  refine (shard_any (F := Fr w.heap.size) (bs := []) o0 o1 o2 o3 i0 i1 i2 i3 HA.out (by simp)).mono ?_
  rintro e w1 hp
  obtain rfl := hp.1
  have k1 := HK.out.thenFr hp.2.2
  have a1 := hp.again (fun k hk' => Nat.le_trans (HK.out.size) hk')
  clear hp
  rw [List.nil_append] at a1
  go_wp2_with fail
  refine (raw_any (F := Fr w.heap.size) a1 (hb.no k1) (by have := HSL.out; have := HL.out; omega)).mono ?_
  rintro e w2 hp
  obtain rfl := hp.1
  have k2 := k1.thenFr hp.2.2
  have a2 := hp.again (fun k hk' => Nat.le_trans (k1.size) hk')
  clear hp a1
  go_wp2_with fail
  refine (bytes_any a2 (by rw [List.length_append, HSL.out]; have := HL.out; omega)).mono ?_
  rintro e w3 ⟨A4, n4, c4, rfl, ho4, hk4⟩
  have k3 := k2.trans' hk4
  clear a2
  have hn4 : Hid (n4 = 12 + b.length) := by have := ho4.len; rw [List.length_append, HSL.out] at this; exact this
  by_cases hle : b.length ≤ 65524
  · have hfr := sfr_yes (w := w3) (k := 1) (c := c4) ho4.bts (by omega) (by have := hn4.out; omega)
    rw [← HFR.out, show frV s b = R by rw [← HRR.out, if_pos hle]] at hfr
    clear HFR HRR
    go_wp2_with fail
    refine hfr.mono ?_
    rintro e w4 ⟨A5, n5, c5, rfl, ho5, hk5⟩
    clear hfr
    have z := k3.size
    have HO := hide (ho5.rebase fun j hj => Nat.le_trans z (ho5.ge j hj))
    have HK5 := hide (k3.trans' hk5)
    clear ho5 hk5 k3 z
    go_wp2
    go_ret
    exact ⟨A5, n5, c5, rfl, HO.out, HK5.out⟩
  · have hfr := sfr_no (w := w3) (k := 1) (A := A4) (c := c4) (n := n4) (by have := hn4.out; omega)
    obtain rfl : [] = R := by rw [← HRR.out, if_neg hle]
    clear HFR HRR
    go_wp2_with fail
    refine hfr.mono ?_
    rintro e w4 ⟨rfl, rfl⟩
    go_wp2
    go_ret
    exact ⟨none, 0, 0, rfl, Own.nil _ _ _, k3⟩
end Go.Proofs.Ytndghapdpfgmoaa
