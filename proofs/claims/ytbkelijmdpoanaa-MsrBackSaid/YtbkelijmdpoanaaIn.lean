/- Package msr's bytesAt and inverse, each as a contract over memory. -/
import Derived.Test.YtbkelijmdpoanaaCk
import Derived.Test.YtbkelijmdpoanaaSu
namespace Go.Proofs.Ytbkelijmdpoanaa
open Go.RowKit
set_option linter.unusedVariables false
set_option linter.unusedSimpArgs false
set_option maxRecDepth 100000

/-- What is known of byte i of each part: of shard u / a, part u % a. -/
def knF (a L : Nat) (ds : Nat → List UInt8) (u i : Nat) : UInt8 := lg (ds (u / a)) ((u % a) * L + i)
theorem knF_at {a L : Nat} (ds : Nat → List UInt8) (i : Nat) {j t : Nat} (ht : t < a) : knF a L ds (j * a + t) i = lg (ds j) (t * L + i) := by
  unfold knF
  have h1 : (j * a + t) / a = j := by rw [Nat.mul_comm, Nat.mul_add_div (by omega), Nat.div_eq_of_lt ht, Nat.add_zero]
  have h2 : (j * a + t) % a = t := by rw [Nat.mul_comm, Nat.mul_add_mod, Nat.mod_eq_of_lt ht]
  rw [h1, h2]
theorem own_part {w : World} {b bx : Nat} {v : Value} {bs : List UInt8} {cs : Array Value} (h : Own w b 5 v bs) (hb : w.heap[bx]? = some (.cells cs 45 (0, 0))) : v.ownBlock ≠ some bx := by
  intro e
  rcases h.2 with ⟨rfl, _⟩ | ⟨g, cap, cur, rfl, _, h1, _⟩
  · cases e
  · injection e with e
    subst e
    rw [show (⟨g, 0, none⟩ : Addr).block = g from rfl] at hb
    rw [h1] at hb
    injection hb with hb
    injection hb with h3 h4
    exact absurd h4 (by decide)
set_option maxHeartbeats 4000000 in
theorem bytesat_any {w : World} {A : Option Addr} {m cp a L i : Nat} {sl : Nat → Int} {ds : Nat → List UInt8} (hP : Prts w A m sl ds) (hl : ∀ j, j < m → (ds j).length = a * L) (ha : 1 ≤ a) (hi : i < L) (hm : m * a ≤ 1000) (haL : a * L ≤ 100000) :
    Calls Try.prog 29 #[.slice A m cp, .int .i64 (L : Int), .int .i64 (i : Int)] w (OwnPost w (rowL (m * a) fun u => knF a L ds u i)) := by
  obtain ⟨i0, hi0, hz0, hz1, hz2⟩ := byte_parts
  have HL := hide hl
  have hLa : L ≤ a * L := by have := Nat.mul_le_mul_right L ha; omega
  have hm1 : m ≤ 1000 := by have := Nat.mul_le_mul_left m ha; omega
  have hL2 : L ≤ 100000 := by omega
  have HM := hide hm
  have HAL := hide haL
  clear hl hm hLa haL
  go_enter Try.func29, Try.ntmps29
  go_wp2_with fail
  go_loopw [7, 13] (fun v jv wr => ∃ (j : Nat) (A' : Option Addr) (r cc : Nat), j ≤ m ∧ jv = .int .i64 (j : Int) ∧ v = .slice A' r cc ∧ Own wr w.heap.size 5 (.slice A' r cc) (rowL (j * a) fun u => knF a L ds u i) ∧ Kp No w wr) (fun _ jv _ => m - (intOf jv).toNat)
  case atStart => exact ⟨0, none, 0, 0, Nat.zero_le _, rfl, rfl, by rw [Nat.zero_mul]; exact Own.nil _ _ _, Kp.refl _ _⟩
  case round =>
    obtain ⟨j, A', r, cc, hj, rfl, rfl, ho, hkw⟩ := hrel
    by_cases hlt : j < m
    · obtain ⟨B, off, A1, r1, c1, rfl, z0, z1, hB⟩ := hP.at_ j hlt
      have hr1 : Hid (r1 = a * L) := by show r1 = a * L; rw [hB.len, HL.out j hlt]
      have y0 := hkw.cell z0 fun f => f
      have y1 := hkw.cell z1 fun f => f
      have HJ : Hid (j * a + a ≤ 1000) := by
        show j * a + a ≤ 1000
        have := Nat.mul_le_mul_right a (show j + 1 ≤ m from hlt)
        rw [Nat.add_mul, Nat.one_mul] at this
        have := HM.out
        omega
      have HK2 : Hid (Kp No w (wr.alloc (.cells #[.int .i64 (sl j), .slice A1 r1 c1] 45))) := hkw.trans' (Kp.alloc No _ _)
      have HO2 := hide (ho.alloc (.cells #[.int .i64 (sl j), .slice A1 r1 c1] 45))
      have HB2 : Hid ((wr.alloc (.cells #[.int .i64 (sl j), .slice A1 r1 c1] 45)).heap[wr.heap.size]? = some (.cells #[.int .i64 (sl j), .slice A1 r1 c1] 45 (0, 0))) := heap_alloc_new wr _
      have hge := hide hkw.size
      clear z0 z1 ho hkw
      go_wp2_with fail
      generalize wr.alloc (.cells #[.int .i64 (sl j), .slice A1 r1 c1] 45) = wb at *
      generalize wr.heap.size = bx at *
      clear y0 y1
      go_loopw [7, 10] (fun v iv wr => ∃ (t I : Nat) (A' : Option Addr) (r cc : Nat), t ≤ a ∧ I ≤ 1000000 ∧ Hid (I = t * L + i) ∧ iv = .int .i64 (I : Int) ∧ v = .slice A' r cc ∧ Own wr w.heap.size 5 (.slice A' r cc) (rowL (j * a + t) fun u => knF a L ds u i) ∧ Hid (wr.heap[bx]? = some (.cells #[.int .i64 (sl j), .slice A1 r1 c1] 45 (0, 0))) ∧ Kp No w wr) (fun _ iv _ => 2000000 - (intOf iv).toNat)
      case atStart => exact ⟨0, i, A', r, cc, Nat.zero_le _, by omega, (by simp : i = 0 * L + i), rfl, rfl, HO2.out, HB2, HK2.out⟩
      case round =>
        clear HO2 HB2 HK2
        obtain ⟨t, I, A', r, cc, ht, hI1, hI, rfl, rfl, ho, hbx, hkw⟩ := hrel
        have x1 : wr.cell? ⟨bx, 1, none⟩ = some (.slice A1 r1 c1) := by rw [cell_of_row wr bx _ _ _ _ hbx.out]; rfl
        by_cases hltt : t < a
        · have hIr : I < r1 := by rw [hI.out, hr1.out]; exact idx_lt hltt hi
          obtain ⟨B1, o1, u, rfl, hu, x2⟩ := (hB.no hkw).at_ hIr
          have hval : Hid (u = knF a L ds (j * a + t) i) := by show u = knF a L ds (j * a + t) i; rw [knF_at ds i hltt, ← hI.out, lg_of hu]
          clear hu
          have hsz := hkw.size
          have hb := bts_new wr u _ rfl
          have ho2 := ho.alloc (.cells #[bv u] 5)
          have hln : (rowL (j * a + t) fun u => knF a L ds u i).length + [u].length ≤ 1000000000 := by have := HJ.out; rw [rowL_len]; simp; omega
          have hI2 : I + L ≤ 1000000 := by have := HAL.out; have := hr1.out; omega
          have HBN := hide (fun w3 (hk : Kp (fun k => (Value.slice A' r cc).ownBlock = some k) (wr.alloc (.cells #[bv u] 5)) w3) => hk.block bx (by have := (Array.getElem?_eq_some_iff.1 hbx.out).1; simp; omega) (own_part ho hbx.out))
          go_wp2_with (first
            | (at_builtin
               refine wpList_app rfl (.tmp 26) (.tmp 32) _ rfl i0 Try.underlying29 hi0 hz0 hz1 hz2 rfl ho2 rfl hb hln (by simp; omega) ?_
               intro A3 n3 c3 w3 ha3))
          go_round
          case rel =>
            refine ⟨t + 1, I + L, A3, n3, c3, by omega, hI2, (by have := hI.out; rw [Nat.add_mul, Nat.one_mul]; omega : I + L = (t + 1) * L + i), by go_num, rfl, ?_, ?_, ha3.keeps ho2 (hkw.trans' (Kp.alloc No _ _))⟩
            · rw [← Nat.add_assoc, rowL_succ, ← hval.out]
              exact ha3.own
            · show w3.heap[bx]? = _
              rw [HBN.out w3 ha3.kp, Below.heap_alloc _ _ _ (Array.getElem?_eq_some_iff.1 hbx.out).1]
              exact hbx.out
          case measure => simp [intOf]; omega
        · obtain rfl : t = a := by omega
          have hIr : r1 ≤ I := by rw [hI.out, hr1.out]; omega
          go_wp2_with fail
          go_round
          case rel => exact ⟨j + 1, A', r, cc, by omega, by go_num, rfl, by rw [Nat.add_mul, Nat.one_mul]; exact ho, hkw⟩
          case measure => simp [intOf]; omega
    · obtain rfl : j = m := by omega
      go_wp2_with fail
      go_ret
      exact ⟨A', r, cc, rfl, ho, hkw⟩
end Go.Proofs.Ytbkelijmdpoanaa
