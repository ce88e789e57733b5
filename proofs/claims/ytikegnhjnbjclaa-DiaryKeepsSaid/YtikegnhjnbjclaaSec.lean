/- Package seal's Frame and the document's Frame, each as a contract over memory. -/
import Derived.Test.YtikegnhjnbjclaaSeb
import Derived.Test.YtikegnhjnbjclaaRf
namespace Go.Proofs.Ytikegnhjnbjclaa
open Go.RowKit
set_option linter.unusedVariables false
set_option maxRecDepth 20000
set_option linter.unusedSimpArgs false

/-- The eight bytes ahead of a frame's sum. -/
def hdr (k n : Nat) : List UInt8 := numB 53021 2 ++ numB k 2 ++ numB n 4
/-- A frame's sum. -/
def fsum (k : Nat) (bs : List UInt8) : Nat := crc (hdr k bs.length ++ bs)
/-- A frame. -/
def frm (k : Nat) (bs : List UInt8) : List UInt8 := hdr k bs.length ++ numB (fsum k bs) 4 ++ bs
theorem hdr_len (k n : Nat) : (hdr k n).length = 8 := by simp [hdr, numB_length]
theorem frm_len (k : Nat) (bs : List UInt8) : (frm k bs).length = 12 + bs.length := by simp [frm, hdr_len, numB_length]; omega
theorem fsum_lt (k : Nat) (bs : List UInt8) : fsum k bs < 4294967296 := crc_lt _

theorem Kp.to_no {S : Nat → Prop} {w w1 : World} (h : Kp S w w1) (hS : ∀ k, S k → w.heap.size ≤ k) : Kp No w w1 :=
  ⟨h.os, h.tape, h.output, h.size, fun k hk _ => h.block k hk fun s => by have := hS k s; omega⟩
/-- The blocks from b on. -/
def Fr (b k : Nat) : Prop := b ≤ k
theorem Kp.thenFr {w w1 w2 : World} (h : Kp No w w1) (k : Kp (Fr w.heap.size) w1 w2) : Kp No w w2 := h.trans (k.mono fun _ hk => .inr hk)

theorem sfsum_any {w : World} {hs bs : List UInt8} {u v : Value} (hu : Bts w u hs) (hv : Bts w v bs) (l1 : hs.length ≤ 900000000) (l2 : bs.length ≤ 900000000) :
    Calls Try.prog 50 #[u, v] w fun e w' => e = .returned (.int .u32 ((crc (hs ++ bs) : Nat) : Int)) ∧ w = w' := by
  go_enter Try.func50, Try.ntmps50
  go_wp2_with fail
  refine (ssum_any hu l1).mono ?_
  rintro e w' ⟨rfl, rfl⟩
  go_wp2_with fail
  refine (sgo_any (crc hs) (crc_lt hs) hv l2).mono ?_
  rintro e w' ⟨rfl, rfl⟩
  rw [goS_crc]
  go_wp2
  go_ret
  exact ⟨rfl, rfl⟩

theorem sfr_no {w : World} {k n c : Nat} {A : Option Addr} (h : 65536 < n) :
    Calls Try.prog 31 #[.int .u16 k, .slice A n c] w fun e w' => e = .returned (.slice none 0 0) ∧ w = w' := by
  go_enter Try.func31, Try.ntmps31
  go_wp2
  go_ret
  exact ⟨rfl, rfl⟩

set_option maxHeartbeats 1000000 in
theorem sfr_yes {w : World} {k n c : Nat} {A : Option Addr} {bs : List UInt8} (hb : Bts w (.slice A n c) bs) (hk : k < 65536) (h : n ≤ 65536) :
    Calls Try.prog 31 #[.int .u16 k, .slice A n c] w (OwnPost w (frm k bs)) := by
  have HL := hide hb.len
  have hl : bs.length ≤ 65536 := by have := HL.out; omega
  have K2 : IsK 2 2 := ⟨by omega, by omega⟩
  have K4 : IsK 4 4 := ⟨by omega, by omega⟩
  have k0 : Kp No w (w.alloc (.cells #[.slice none 0 0] 74)) := Kp.alloc No w _
  have a0 : WrAt (w.alloc (.cells #[.slice none 0 0] 74)) (Fr w.heap.size) w.heap.size [] := (WrAt.new w).mono fun k hk => by subst hk; exact Nat.le_refl _
  have HA := hide a0
  have HK := hide k0
  clear a0 k0
  go_enter Try.func31, Try.ntmps31
  go_wp2_with fail
  refine (num_any (bs := []) (F := Fr w.heap.size) (g := w.heap.size) 53021 2 2 (by omega) K2 HA.out (by simp)).mono ?_
  rintro e w1 hp
  obtain rfl := hp.1
  have k1 := HK.out.thenFr hp.2.2
  have a1 := hp.again (fun k hk' => Nat.le_trans (HK.out.size) hk')
  clear hp
  go_wp2_with fail
  refine (num_any (F := Fr w.heap.size) (g := w.heap.size) k 2 2 (by omega) K2 a1 (by simp [numB_length])).mono ?_
  rintro e w2 hp
  obtain rfl := hp.1
  have k2 := k1.thenFr hp.2.2
  have a2 := hp.again (fun k hk' => Nat.le_trans (k1.size) hk')
  clear hp a1
  go_wp2_with fail
  refine (num_any (F := Fr w.heap.size) (g := w.heap.size) n 4 4 (by omega) K4 a2 (by simp [numB_length])).mono ?_
  rintro e w3 hp
  obtain rfl := hp.1
  have k3 := k2.thenFr hp.2.2
  have a3 := hp.again (fun k hk' => Nat.le_trans (k2.size) hk')
  clear hp a2
  have e3 : ([] ++ numB 53021 2 ++ numB k 2 ++ numB n 4) = hdr k bs.length := by rw [← HL.out]; rfl
  rw [e3] at a3
  clear e3
  go_wp2_with fail
  refine (bytes_any (g := w.heap.size) a3 (by rw [hdr_len]; omega)).mono ?_
  rintro e w4 ⟨A4, n4, c4, rfl, ho4, hk4⟩
  have k4 := k3.trans' hk4
  have a4 := a3.keep hk4 (fun _ _ _ f => f)
  clear a3
  go_wp2_with fail
  refine (sfsum_any ho4.bts (hb.no k4) (by rw [hdr_len]; omega) (by omega)).mono ?_
  rintro e w' ⟨rfl, rfl⟩
  rw [show crc (hdr k bs.length ++ bs) = fsum k bs from rfl]
  have hs := fsum_lt k bs
  go_wp2_with fail
  refine (num_any (F := Fr w.heap.size) (g := w.heap.size) (fsum k bs) 4 4 (by omega) K4 a4 (by simp [hdr_len])).mono ?_
  rintro e w5 hp
  obtain rfl := hp.1
  have k5 := k4.thenFr hp.2.2
  have a5 := hp.again (fun k hk' => Nat.le_trans (k4.size) hk')
  clear hp a4
  go_wp2_with fail
  refine (raw_any (F := Fr w.heap.size) (g := w.heap.size) a5 (hb.no k5) (by simp [hdr_len, numB_length]; omega)).mono ?_
  rintro e w6 hp
  obtain rfl := hp.1
  have k6 := k5.thenFr hp.2.2
  have a6 := hp.again (fun k hk' => Nat.le_trans (k5.size) hk')
  clear hp a5
  rw [show hdr k bs.length ++ numB (fsum k bs) 4 ++ bs = frm k bs from rfl] at a6
  go_wp2_with fail
  refine (bytes_any (g := w.heap.size) a6 (by rw [frm_len]; omega)).mono ?_
  rintro e w7 ⟨A7, n7, c7, rfl, ho7, hk7⟩
  have z6 := k6.size
  go_wp2
  go_ret
  exact ⟨A7, n7, c7, rfl, ho7.rebase fun j hj => Nat.le_trans z6 (ho7.ge j hj), k6.trans' hk7⟩
end Go.Proofs.Ytikegnhjnbjclaa
