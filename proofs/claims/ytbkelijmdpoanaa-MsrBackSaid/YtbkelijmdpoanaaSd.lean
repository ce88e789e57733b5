/- The document's Shard and Encode, each as a contract over memory. -/
import Derived.Test.YtbkelijmdpoanaaRe
namespace Go.Proofs.Ytbkelijmdpoanaa
open Go.RowKit
set_option linter.unusedVariables false
set_option maxRecDepth 20000

/-- A byte of the shard of the slot whose point is y. -/
def shE (a d L : Nat) (bs : List UInt8) (y : UInt8) (t : Nat) : UInt8 := ud (upw y) (fun r => lg bs (plcF a r (t / L) * L + t % L)) d
theorem shE_at {a d L : Nat} (bs : List UInt8) (y : UInt8) {j i : Nat} (hi : i < L) : shE a d L bs y (j * L + i) = ud (upw y) (fun r => lg bs (plcF a r j * L + i)) d := by
  unfold shE
  have h1 : (j * L + i) / L = j := by rw [Nat.mul_comm, Nat.mul_add_div (by omega), Nat.div_eq_of_lt hi, Nat.add_zero]
  have h2 : (j * L + i) % L = i := by rw [Nat.mul_comm, Nat.mul_add_mod, Nat.mod_eq_of_lt hi]
  rw [h1, h2]
theorem plc_lt {n k a d q : Nat} (hD : Dim n k a d q) {r j : Nat} (hr : r < d) (hj : j < a) : plcF a r j < q := by
  have := (plc_ok (a := a) (by have := hD.a7; omega) hD.a1).lt r j (by rw [← hD.d_]; exact hr) hj
  rwa [← hD.q_] at this

set_option maxHeartbeats 4000000 in
theorem shard_any {w : World} {n k a d q L : Nat} (hD : Dim n k a d q) {A1 A2 : Option Addr} {c1 c2 m : Nat} {bs : List UInt8} {y : UInt8} (h1 : Bts w (.slice A1 d c1) (rowL d (upw y))) (h2 : Bts w (.slice A2 m c2) bs) (hm : m = q * L) (hm2 : m ≤ 1000) (hL : 1 ≤ L) :
    Calls Try.prog 34 #[.int .i64 (k : Int), .slice A1 d c1, .slice A2 m c2] w (OwnPost w (rowL (a * L) (shE a d L bs y))) := by
  obtain ⟨i0, hi0, hz0, hz1, hz2⟩ := byte_parts
  have ha1 := hD.a1
  have ha7 := hD.a7
  have hk := hD.k_
  have hk8 : k ≤ 8 := by omega
  have hk1 : 1 ≤ k := by omega
  have hq := hD.q56
  have hka : (k : Int) - 1 = (a : Int) := by omega
  have hkq : (k : Int) * (a : Int) = (q : Int) := by rw [hD.k_, hD.q_, Int.natCast_mul]
  have hmq : (m : Int) / (q : Int) = (L : Int) := by
    rw [hm, Int.natCast_mul, Int.mul_ediv_cancel_left _ (by omega)]
  have hLm : L ≤ 1000 := by
    have := Nat.mul_le_mul_right L (show 1 ≤ q by omega)
    omega
  have haL : a * L ≤ 1000 := Nat.le_trans (Nat.mul_le_mul_right L hq.2.2) (by omega)
  have hd2 : d ≤ 14 := by have := hD.d_; omega
  have HP : Hid (∀ r j, r < d → j < a → ∀ i, i < L → plcF a r j * L + i < m) := fun r j hr hj i hi => by
    rw [hm]
    exact idx_lt (plc_lt hD hr hj) hi
  have hpl := places_any w hD
  have HM := hide hm
  have HKA := hide hka
  have HKQ := hide hkq
  have HMQ := hide hmq
  clear hm hk hka hkq hmq hD
  obtain ⟨hq2, hq56, hqa⟩ := hq
  go_enter Try.func34, Try.ntmps34
  go_wp2_with fail
  refine hpl.mono ?_
  rintro e w1 ⟨g, cp, bl, rfl, hG, hk1'⟩
  have hka := HKA.out
  have hkq := HKQ.out
  have hmq := HMQ.out
  go_wp2_with fail
  clear hkq hmq
  go_loopw [9, 10] (fun v jv wr => ∃ (j : Nat) (A : Option Addr) (r cc : Nat), j ≤ a ∧ jv = .int .i64 (j : Int) ∧ v = .slice A r cc ∧ Own wr w1.heap.size 5 (.slice A r cc) (rowL (j * L) (shE a d L bs y)) ∧ Kp No w1 wr) (fun _ jv _ => a - (intOf jv).toNat)
  case atStart => exact ⟨0, none, 0, 0, Nat.zero_le _, rfl, rfl, by rw [Nat.zero_mul]; exact Own.nil _ _ _, Kp.refl _ _⟩
  case round =>
    obtain ⟨j, A, r, cc, hj, rfl, rfl, ho, hkw⟩ := hrel
    by_cases hlt : j < a
    · go_wp2_with fail
      clear hka
      have HJ : Hid (j * L + L ≤ a * L) := by
        show j * L + L ≤ a * L
        have := Nat.mul_le_mul_right L (show j + 1 ≤ a from hlt)
        rwa [Nat.add_mul, Nat.one_mul] at this
      go_loopw [9, 11] (fun v iv wr => ∃ (i : Nat) (A : Option Addr) (r cc : Nat), i ≤ L ∧ iv = .int .i64 (i : Int) ∧ v = .slice A r cc ∧ Own wr w1.heap.size 5 (.slice A r cc) (rowL (j * L + i) (shE a d L bs y)) ∧ Kp No w1 wr) (fun _ iv _ => L - (intOf iv).toNat)
      case atStart => exact ⟨0, A, r, cc, Nat.zero_le _, rfl, rfl, ho, hkw⟩
      case round =>
        clear ho hkw
        obtain ⟨i, A, r, cc, hi, rfl, rfl, ho, hkw⟩ := hrel
        by_cases hlti : i < L
        · go_wp2_with fail
          go_loopw [12, 13] (fun s rv wr => ∃ u : Nat, u ≤ d ∧ rv = .int .i64 (u : Int) ∧ s = .int .u8 ((ud (upw y) (fun r => lg bs (plcF a r j * L + i)) u).toNat : Int) ∧ Own wr w1.heap.size 5 (.slice A r cc) (rowL (j * L + i) (shE a d L bs y)) ∧ Kp No w1 wr) (fun _ rv _ => d - (intOf rv).toNat)
          case atStart => exact ⟨0, Nat.zero_le _, rfl, rfl, ho, hkw⟩
          case round =>
            clear ho hkw
            obtain ⟨u, hu, rfl, rfl, ho, hkw⟩ := hrel
            by_cases hltu : u < d
            · obtain ⟨B1, o1, rfl, e1⟩ := (h1.no (hk1'.trans' hkw)).cell hltu
              have hG2 := hG.no hkw
              have e2 := hG2.outer hltu
              have e3 := hG2.cell hltu hlt
              obtain ⟨yy, hyy⟩ : ∃ yy, yy = plcF a u j * L := ⟨_, rfl⟩
              obtain ⟨o, hoo⟩ : ∃ o, o = yy + i := ⟨_, rfl⟩
              have hlo : o < m := by rw [hoo, hyy]; exact HP.out u j hltu hlt i hlti
              obtain ⟨B2, o2, b, rfl, hb, e4⟩ := (h2.no (hk1'.trans' hkw)).at_ hlo
              have hstep : Hid (ud (upw y) (fun r => lg bs (plcF a r j * L + i)) (u + 1) = ux (ud (upw y) (fun r => lg bs (plcF a r j * L + i)) u) (um (upw y u) b)) := by
                show ud (upw y) (fun r => lg bs (plcF a r j * L + i)) (u + 1) = _
                rw [ud_succ, ← hyy, ← hoo, lg_of hb]
                rfl
              have hw1 : IntKind.i64.wrap ((plcF a u j : Int) * (L : Int)) = (yy : Int) := by
                rw [hyy, ← Int.natCast_mul]
                exact IntWalk.i64_in _ (by omega)
              have hw2 : IntKind.i64.wrap ((yy : Int) + (i : Int)) = (o : Int) := by
                rw [hoo, Int.natCast_add]
                exact IntWalk.i64_in _ (by omega)
              have hlz : (0 : Int) ≤ (o : Int) := by omega
              have hlo' : (o : Int) < (m : Int) := by omega
              clear hyy hoo hb
              generalize ud (upw y) (fun r => lg bs (plcF a r j * L + i)) u = s at *
              generalize plcF a u j = z at *
              have hxor := xorU s (um (upw y u) b)
              go_wp2_with fail
              go_quiet ((go_at_call 48; exact refmulU_q _ _ (upw y u) b))
              go_wp2_with fail
              go_round
              case rel => exact ⟨u + 1, by omega, by go_num, by rw [hstep.out], ho.drewN _, hkw.drewN _⟩
              case measure => simp [intOf]; omega
            · obtain rfl : u = d := by omega
              have hval : Hid (ud (upw y) (fun r => lg bs (plcF a r j * L + i)) u = shE a u L bs y (j * L + i)) := (shE_at bs y hlti).symm
              rw [hval.out]
              have hsz := hkw.size
              have hb := bts_new wr (shE a u L bs y (j * L + i)) _ rfl
              have ho2 := ho.alloc (.cells #[bv (shE a u L bs y (j * L + i))] 5)
              have hl : (rowL (j * L + i) (shE a u L bs y)).length + [shE a u L bs y (j * L + i)].length ≤ 1000000000 := by have := HJ.out; rw [rowL_len]; simp; omega
              go_wp2_with (first
                | (at_builtin
                   refine wpList_app rfl (.tmp 61) (.tmp 63) _ rfl i0 Try.underlying29 hi0 hz0 hz1 hz2 rfl ho2 rfl hb hl (by simp; omega) ?_
                   intro A3 n3 c3 w3 ha))
              go_round
              case rel => exact ⟨i + 1, A3, n3, c3, by omega, by go_num, rfl, by rw [← Nat.add_assoc, rowL_succ]; exact ha.own, ha.keeps ho2 (hkw.trans' (Kp.alloc No _ _))⟩
              case measure => simp [intOf]; omega
        · obtain rfl : i = L := by omega
          go_wp2_with fail
          go_round
          case rel => exact ⟨j + 1, A, r, cc, by omega, by go_num, rfl, by rw [Nat.add_mul, Nat.one_mul]; exact ho, hkw⟩
          case measure => simp [intOf]; omega
    · obtain rfl : j = a := by omega
      go_wp2_with fail
      go_ret
      exact ⟨A, r, cc, rfl, ho.rebase fun q hq => Nat.le_trans hk1'.size (ho.ge q hq), hk1'.trans' hkw⟩

/-- Rows come back, and whether there are any. -/
def EncPost (w : World) (n : Nat) (bss : List (List UInt8)) (e : Ending) (w1 : World) : Prop := ∃ A cp, e = .returned (.tuple #[.slice A n cp, .bool true]) ∧ Rws w1 A n bss ∧ Kp No w w1
theorem renc_no {w : World} {n : Int} {k a q : Nat} (hk : k = a + 1) (hq : q = (a + 1) * a) (ha1 : 1 ≤ a) (ha7 : a ≤ 7) {A : Option Addr} {m c : Nat} (hm : m = 0 ∨ m % q ≠ 0) (hm2 : m ≤ 1000) :
    Calls Try.prog 20 #[.int .i64 n, .int .i64 (k : Int), .slice A m c] w fun e w' => e = .returned (.tuple #[.slice none 0 0, .bool false]) ∧ w = w' := by
  by_cases h0 : m = 0
  · subst h0
    clear hm hk hq
    go_enter Try.func20, Try.ntmps20
    go_wp2_with fail
    go_ret2
    exact ⟨rfl, rfl⟩
  · have h1 : 0 < m := by omega
    have hka : (k : Int) - 1 = (a : Int) := by omega
    have hkq : (k : Int) * (a : Int) = (q : Int) := by rw [hk, hq, Int.natCast_mul]
    have hk8 : k ≤ 8 := by omega
    have hq0 : 1 ≤ q ∧ q ≤ 56 := by
      rw [hq]
      exact ⟨Nat.mul_le_mul (show 1 ≤ a + 1 by omega) ha1, Nat.mul_le_mul (show a + 1 ≤ 8 by omega) ha7⟩
    obtain ⟨hq1, hq2⟩ := hq0
    obtain ⟨r, hr⟩ : ∃ r, r = m % q := ⟨_, rfl⟩
    have hrm : (m : Int) % (q : Int) = (r : Int) := by rw [hr, Int.natCast_emod]
    have hr0 : ((r : Int) != 0) = true := by have : 0 < r := by omega
                                             simp; omega
    have hm0 : ((m : Int) == 0) = false := by simp; omega
    clear hm h0 hk hq hr
    go_enter Try.func20, Try.ntmps20
    go_wp2_with fail
    go_ret2
    exact ⟨rfl, rfl⟩
set_option maxHeartbeats 2000000 in
theorem renc_yes {w : World} {n k a d q L : Nat} {x : Nat → UInt8} (hD : Dim n k a d q) (hP : Pts n a x) {A2 : Option Addr} {c2 m : Nat} {bs : List UInt8} (h2 : Bts w (.slice A2 m c2) bs) (hm : m = q * L) (hm2 : m ≤ 1000) (hL : 1 ≤ L) :
    Calls Try.prog 20 #[.int .i64 (n : Int), .int .i64 (k : Int), .slice A2 m c2] w (EncPost w n (matL n (a * L) fun i => shE a d L bs (x i))) := by
  have ha1 := hD.a1
  have ha7 := hD.a7
  have hk := hD.k_
  have hk8 : k ≤ 8 := by omega
  have hk1 : 1 ≤ k := by omega
  have hn2 := hD.n2
  have hq := hD.q56
  have hka : (k : Int) - 1 = (a : Int) := by omega
  have hkq : (k : Int) * (a : Int) = (q : Int) := by rw [hD.k_, hD.q_, Int.natCast_mul]
  have hqm : 0 < m := by
    rw [hm]
    exact Nat.mul_pos (by omega) (by omega)
  have hm0 : ((m : Int) == 0) = false := by simp; omega
  have hrm : (m : Int) % (q : Int) = 0 := by rw [hm, Int.natCast_mul, Int.mul_emod_right]
  have HR := hide (rrows_any w hD hP)
  have HM := hide hm
  have HD := hide hD
  clear hm hk hD hP
  obtain ⟨hq2, hq56, hqa⟩ := hq
  go_enter Try.func20, Try.ntmps20
  go_wp2_with fail
  refine HR.out.mono ?_
  clear hka hkq hm0 hrm HR
  rintro e w1 ⟨A1, c1, rfl, hR, hk1'⟩
  go_wp2_with fail
  go_loopw [9, 10] (fun v i wr => ∃ (j : Nat) (A : Option Addr) (r cp : Nat) (vs : List Value), j ≤ n ∧ i = .int .i64 (j : Int) ∧ v = .slice A r cp ∧ RInv w1 (fun i => rowL (a * L) (shE a d L bs (x i))) j (.slice A r cp) vs wr) (fun _ i _ => n - (intOf i).toNat)
  case atStart => exact ⟨0, none, 0, 0, [], Nat.zero_le _, rfl, rfl, OwnV.nil _ _, rfl, (fun j u hj => by simp at hj), Kp.refl _ _⟩
  case round =>
    obtain ⟨j, A, r, cp, vs, hj, rfl, rfl, hI⟩ := hrel
    by_cases hlt : j < n
    · obtain ⟨B, off, A3, m3, c3, bs3, rfl, e1, hb3, hB3⟩ := (hR.no hI.kp).get hlt
      have hbs : bs3 = rowL d (upw (x j)) := by
        rw [matL_get _ hlt] at hb3
        injection hb3 with hb3
        exact hb3.symm
      subst hbs
      obtain rfl : m3 = d := by rw [hB3.len, rowL_len]
      clear hb3
      have hsh := shard_any (L := L) HD.out hB3 (h2.no (hk1'.trans' hI.kp)) HM.out hm2 hL
      go_wp2_with fail
      refine hsh.mono ?_
      rintro e w2 ⟨A4, n4, cc4, rfl, ho1, hk2⟩
      have hkw := hI.kp.size
      have hk1s := hk2.size
      have hlen : vs.length ≤ 1000000 := by rw [hI.len]; omega
      have ho2 : OwnV (w2.alloc (.cells #[.slice A4 n4 cc4] 29)) w1.heap.size (.slice A r cp) vs := (hI.own.no hk2).no (Kp.alloc No _ _)
      clear hsh
      go_wp2_with (first
        | (at_builtin
           refine wpList_appV rfl (.tmp 32) (.tmp 40) _ rfl Try.underlying26 rfl ho2 _ rfl (fresh_cell _ _ _) rfl rfl hlen ?hs ?_
           case hs => simp; omega
           intro A5 n5 c5 w3 ha))
      go_round
      case rel => exact ⟨j + 1, A5, n5, c5, _, by omega, by go_num, rfl, hI.step hk2 ho1 hkw ha⟩
      case measure => simp [intOf]; omega
    · have hjm : j = n := by omega
      subst hjm
      have hn : r = j := by rw [hI.own.len, hI.len]
      subst hn
      go_wp2_with fail
      go_ret2
      exact ⟨A, cp, rfl, hI.rws (matL_len _ _ _) fun i hi => matL_get _ hi, hk1'.trans' hI.kp⟩
end Go.Proofs.Ytbkelijmdpoanaa
