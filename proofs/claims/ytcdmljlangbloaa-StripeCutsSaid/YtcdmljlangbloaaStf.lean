/- Package stripe's Join and the document's, each as a contract over memory. -/
import Derived.Test.YtcdmljlangbloaaSte
namespace Go.Proofs.Ytcdmljlangbloaa
open Go.RowKit
set_option linter.unusedVariables false
set_option linter.unusedSimpArgs false
set_option maxRecDepth 100000

theorem bts_take {w : World} {A : Option Addr} {n c k c' : Nat} {bs : List UInt8} (h : Bts w (.slice A n c) bs) (hk : k ≤ n) (hc : A = none → c' = 0) : Bts w (.slice A k c') (bs.take k) := by
  have hl := h.len
  obtain ⟨A1, c0, e, hn, hcl⟩ := h
  injection e with e1 e2 e3
  subst e1 e3
  refine ⟨_, c', by rw [List.length_take, ← hl, Nat.min_eq_left hk], (fun h => ⟨by rw [(hn h).1, List.take_nil], hc h⟩), fun ad ha j u hu => ?_⟩
  rw [List.getElem?_take] at hu
  split at hu
  · exact hcl ad ha j u hu
  · cases hu
/-- A row of the call's own: v[:k:k] and v[:k]. -/
theorem slice_own {w : World} {base : Nat} {A : Option Addr} {n c k : Nat} {bs : List UInt8} (h : Own w base 5 (.slice A n c) bs) (hk : k ≤ n) :
    (∀ w', (Instr.slice 38 (.slice A n c) none (some (.int .i64 (k : Int))) (some (.int .i64 (k : Int)))).run Try.prog w' = .ok (.slice A k k) w') ∧
    (∀ w', (Instr.slice 38 (.slice A n c) none (some (.int .i64 (k : Int))) none).run Try.prog w' = .ok (.slice A k c) w') ∧ (A = none → k = 0 ∧ c = 0) := by
  obtain ⟨i0, hi0, hz0, hz1, hz2⟩ := byte_parts
  have he : Try.prog.elem 38 = 5 := by kernel_rfl
  have hc : Try.prog.cellsOf 5 = 1 := by kernel_rfl
  have hs : ∀ w', (sizeOf (Try.prog.elem 38)).run Try.prog w' = .ok 1 w' := fun w' => by
    rw [he]
    simp [run_sizeOf, hi0, hz1, hc]
  have hu : Try.prog.underlying 38 = some (.slice (Try.prog.elem 38)) := by rw [he]; exact Try.underlying38
  have key : (n ≤ c) ∧ (A = none ∧ c = 0 ∨ ∃ g, A = some ⟨g, 0, none⟩) := by
    rcases h.2 with ⟨h1, hn⟩ | ⟨g, cap, cur, h1, _, _, hcp, _⟩
    · injection h1 with h1 h2 h3
      exact ⟨by omega, .inl ⟨h1, h3⟩⟩
    · injection h1 with h1 h2 h3
      exact ⟨by omega, .inr ⟨g, h1⟩⟩
  obtain ⟨hnc, hA⟩ := key
  refine ⟨fun w' => ?_, fun w' => ?_, fun hA' => ?_⟩
  · rw [run_slice_hm w' _ _ _ _ hu .i64 .i64 _ _ (by omega) (by omega) (by omega), hs]
    simp only [Result.andThen, sliced, Int.toNat_natCast, Nat.sub_zero]
    rcases hA with ⟨rfl, rfl⟩ | ⟨g, rfl⟩
    · simp
    · rw [Option.map_some, Nat.zero_mul, add_none]; simp
  · rw [run_slice_h w' _ _ _ _ hu .i64 _ (by omega) (by omega), hs]
    simp only [Result.andThen, sliced, Int.toNat_natCast, Nat.sub_zero]
    rcases hA with ⟨rfl, rfl⟩ | ⟨g, rfl⟩
    · simp
    · rw [Option.map_some, Nat.zero_mul, add_none]; simp
  · rcases hA with ⟨_, rfl⟩ | ⟨g, rfl⟩
    · exact ⟨by omega, rfl⟩
    · cases hA'
/-- The rows are the plan's: so many, each so long. -/
def FitR (bss : List (List UInt8)) (c f : Nat) : Prop := bss.length = c ∧ ∀ (j : Nat) bs, bss[j]? = some bs → bs.length = f
theorem flat_step {bss : List (List UInt8)} {i : Nat} {bs : List UInt8} (h : bss[i]? = some bs) : (bss.take (i + 1)).flatten = (bss.take i).flatten ++ bs := by
  rw [List.take_add_one, h]
  simp
/-- Bytes come back, and no error. -/
def BtsPost (w : World) (n : Nat) (bs : List UInt8) (k : Value) (e : Ending) (w1 : World) : Prop := ∃ A cp, e = .returned (.tuple #[.slice A n cp, k]) ∧ Bts w1 (.slice A n cp) bs ∧ Kp No w w1
/-- Nothing comes back, but an error. -/
def ErrPost (w : World) (k : Value) (e : Ending) (w1 : World) : Prop := e = .returned (.tuple #[.slice none 0 0, k]) ∧ Kp No w w1
theorem join_nil (w : World) (l c p : Int) (A : Option Addr) (m cp : Nat) : Calls Try.prog 19 #[.pointer none, plV l c p, .slice A m cp] w (ErrPost w (.int .i64 1)) := by
  go_enter Try.func19, Try.ntmps19
  go_wp2_with fail
  refine (qq_nil _).mono ?_
  rintro e w' ⟨rfl, rfl⟩
  go_wp2_with fail
  go_ret2
  exact ⟨rfl, Kp.alloc No _ _⟩
theorem join_count (w : World) {g n k a d q : Nat} {x : Nat → UInt8} (h : CodeAt w g n k x) (hD : Dim n k a d q) (l p : Int) {A : Option Addr} {m cp c : Nat} (hne : m ≠ c) : Calls Try.prog 19 #[cptr g, plV l (c : Int) p, .slice A m cp] w (ErrPost w (.int .i64 1)) := by
  have hq0 : ((q : Int) == 0) = false := by have := hD.q56; simp; omega
  have hm : ((m : Int) != (c : Int)) = true := by simp; omega
  have HQ := hide (fun w' (hk : Kp No w w') => qq_any (h.no hk) hD)
  clear h hD hne
  go_enter Try.func19, Try.ntmps19
  go_wp2_with fail
  refine (HQ.out _ ((Kp.refl _ _).al _)).mono ?_
  rintro e w' ⟨rfl, rfl⟩
  go_wp2_with fail
  go_ret2
  exact ⟨rfl, Kp.alloc No _ _⟩
set_option maxHeartbeats 4000000 in
theorem join_yes {w : World} {g n k a d q : Nat} {x : Nat → UInt8} (h : CodeAt w g n k x) (hD : Dim n k a d q) {l c p cp f : Nat} {A : Option Addr} {bss : List (List UInt8)} (hR : Rws w A c bss) (hP : Pln q l c p) (hf : f = q * p) (hF : FitR bss c f) :
    Calls Try.prog 19 #[cptr g, plV (l : Int) (c : Int) (p : Int), .slice A c cp] w (BtsPost w l (bss.flatten.take l) (.int .i64 0)) := by
  obtain ⟨i0, hi0, hz0, hz1, hz2⟩ := byte_parts
  have hq0 : ((q : Int) == 0) = false := by have := hD.q56; simp; omega
  have hl16 := hP.l16
  have hc32 := hP.c32
  have hp1 := hP.p1
  have hp2 := hP.p256
  have hf1 : 1 ≤ f := by rw [hf]; exact hP.f1 hD.q56.1
  have hf2 : f ≤ 14336 := by rw [hf]; exact hP.fb hD.q56.2.1
  have hcc : ((c : Int) != (c : Int)) = false := by simp
  have HQ := hide (fun w' (hk : Kp No w w') => qq_any (h.no hk) hD)
  have HM := hide (fun w' (hk : Kp No w w') => msg_any (h.no hk) hD (l : Int) (c : Int) p f hf (by omega))
  have HC : Hid (l ≤ c * f) := by rw [hf]; exact hP.cov
  have HF := hide hF
  clear hP hf h hD hF
  go_enter Try.func19, Try.ntmps19
  go_wp2_with fail
  refine (HQ.out _ ((Kp.refl _ _).al _)).mono ?_
  rintro e w' ⟨rfl, rfl⟩
  go_wp2_with fail
  have P0 := PC.new w (l : Int) (c : Int) (p : Int) 29
  have K0 := Kp.alloc No w (.cells #[.int .i64 (l : Int), .int .i64 (c : Int), .int .i64 (p : Int)] 29)
  generalize (w.alloc (.cells #[.int .i64 (l : Int), .int .i64 (c : Int), .int .i64 (p : Int)] 29)) = w0 at *
  go_loopw [8, 28] (fun v iv wr => ∃ (i : Nat) (A' : Option Addr) (r cc : Nat), i ≤ c ∧ iv = .int .i64 (i : Int) ∧ v = .slice A' r cc ∧ Own wr w0.heap.size 5 (.slice A' r cc) (bss.take i).flatten ∧ Hid ((bss.take i).flatten.length = i * f) ∧ Kp No w0 wr) (fun _ iv _ => c - (intOf iv).toNat)
  case atStart => exact ⟨0, none, 0, 0, Nat.zero_le _, rfl, rfl, Own.nil _ _ _, by show ((bss.take 0).flatten).length = 0 * f; simp, Kp.refl _ _⟩
  case round =>
    obtain ⟨i, A', r, cc, hi, rfl, rfl, ho, HL, hkw⟩ := hrel
    obtain ⟨q0, q1, q2⟩ := P0.no hkw
    have hkr := hkw.size
    by_cases hlt : i < c
    · obtain ⟨B, off, A3, m3, c3, bs3, rfl, e3, hb3, hB3⟩ := ((hR.no K0).no hkw).get hlt
      have hl3 := hB3.len
      have HB3 := hide hb3
      obtain rfl : f = m3 := by rw [hl3]; exact (HF.out.2 i bs3 hb3).symm
      have HL3 := hide hl3.symm
      have HLB : Hid ((bss.take i).flatten.length + bs3.length ≤ 1000000000) := by
        show (bss.take i).flatten.length + bs3.length ≤ 1000000000
        rw [HL.out, ← hl3]
        have := Nat.mul_le_mul (show i ≤ 32 by omega) hf2
        omega
      have hff : ((f : Int) != (f : Int)) = false := by simp
      clear hb3 hl3
      go_wp2_with fail
      refine (HM.out _ (K0.trans' hkw)).mono ?_
      rintro e w2 ⟨rfl, hk2⟩
      have hk2s := hk2.size
      go_wp2_with (first
        | (at_builtin
           refine wpList_app rfl (.tmp 38) (.tmp 39) _ rfl i0 Try.underlying38 hi0 hz0 hz1 hz2 rfl (ho.no hk2) rfl (hB3.no hk2) (by have := HLB.out; omega) (by omega) ?_
           intro A1 n1 c1 w3 ha))
      go_round
      case rel => exact ⟨i + 1, A1, n1, c1, by omega, by go_num, rfl, (by rw [flat_step HB3.out]; exact ha.own), (by show ((bss.take (i + 1)).flatten).length = (i + 1) * f; rw [flat_step HB3.out, List.length_append, HL.out, HL3.out, Nat.add_mul, Nat.one_mul]), ha.keeps (ho.no hk2) (hkw.trans' hk2)⟩
      case measure => simp [intOf]; omega
    · obtain rfl : c = i := by omega
      clear hi hlt
      have hrr : l ≤ r := by rw [ho.len, HL.out]; exact HC.out
      obtain ⟨hs1, _, hs3⟩ := slice_own ho hrr
      have HS3 := hide hs3
      clear hs3
      have hbt := bts_take (c' := l) ho.bts hrr fun e => (HS3.out e).1
      have HFL : Hid (bss.take c = bss) := by show bss.take c = bss; rw [← HF.out.1]; exact List.take_of_length_le (Nat.le_refl _)
      go_wp2_with fail
      go_ret2
      exact ⟨A', l, rfl, (by rw [HFL.out] at hbt; exact hbt), K0.trans' hkw⟩
set_option maxHeartbeats 4000000 in
theorem join_bad {w : World} {g n k a d q : Nat} {x : Nat → UInt8} (h : CodeAt w g n k x) (hD : Dim n k a d q) {l c p cp f : Nat} {A : Option Addr} {bss : List (List UInt8)} (hR : Rws w A c bss) (hP : Pln q l c p) (hf : f = q * p) {z : Nat} {bz : List UInt8} (hz : bss[z]? = some bz) (hzn : bz.length ≠ f) (hsm : ∀ (j : Nat) bs, bss[j]? = some bs → bs.length ≤ 1000000) :
    Calls Try.prog 19 #[cptr g, plV (l : Int) (c : Int) (p : Int), .slice A c cp] w (ErrPost w (.int .i64 1)) := by
  obtain ⟨i0, hi0, hz0, hz1, hz2⟩ := byte_parts
  have hq0 : ((q : Int) == 0) = false := by have := hD.q56; simp; omega
  have hl16 := hP.l16
  have hc32 := hP.c32
  have hp1 := hP.p1
  have hp2 := hP.p256
  have hf1 : 1 ≤ f := by rw [hf]; exact hP.f1 hD.q56.1
  have hf2 : f ≤ 14336 := by rw [hf]; exact hP.fb hD.q56.2.1
  have hcc : ((c : Int) != (c : Int)) = false := by simp
  have HQ := hide (fun w' (hk : Kp No w w') => qq_any (h.no hk) hD)
  have HM := hide (fun w' (hk : Kp No w w') => msg_any (h.no hk) hD (l : Int) (c : Int) p f hf (by omega))
  have HC : Hid (l ≤ c * f) := by rw [hf]; exact hP.cov
  have HZ := hide hz
  have HZN := hide hzn
  have HSM := hide hsm
  have hzc : z < c := by rw [hR.len]; exact (List.getElem?_eq_some_iff.1 hz).1
  clear hP hf h hD hz hzn hsm
  go_enter Try.func19, Try.ntmps19
  go_wp2_with fail
  refine (HQ.out _ ((Kp.refl _ _).al _)).mono ?_
  rintro e w' ⟨rfl, rfl⟩
  go_wp2_with fail
  have P0 := PC.new w (l : Int) (c : Int) (p : Int) 29
  have K0 := Kp.alloc No w (.cells #[.int .i64 (l : Int), .int .i64 (c : Int), .int .i64 (p : Int)] 29)
  generalize (w.alloc (.cells #[.int .i64 (l : Int), .int .i64 (c : Int), .int .i64 (p : Int)] 29)) = w0 at *
  go_loopw [8, 28] (fun v iv wr => ∃ (i : Nat) (A' : Option Addr) (r cc : Nat), i ≤ z ∧ iv = .int .i64 (i : Int) ∧ v = .slice A' r cc ∧ Own wr w0.heap.size 5 (.slice A' r cc) (bss.take i).flatten ∧ Hid ((bss.take i).flatten.length = i * f) ∧ Kp No w0 wr) (fun _ iv _ => c - (intOf iv).toNat)
  case atStart => exact ⟨0, none, 0, 0, Nat.zero_le _, rfl, rfl, Own.nil _ _ _, by show ((bss.take 0).flatten).length = 0 * f; simp, Kp.refl _ _⟩
  case round =>
    obtain ⟨i, A', r, cc, hi, rfl, rfl, ho, HL, hkw⟩ := hrel
    obtain ⟨q0, q1, q2⟩ := P0.no hkw
    have hkr := hkw.size
    have hlt : i < c := by omega
    obtain ⟨B, off, A3, m3, c3, bs3, rfl, e3, hb3, hB3⟩ := ((hR.no K0).no hkw).get hlt
    have hl3 := hB3.len
    have HB3 := hide hb3
    have HL3 := hide hl3.symm
    by_cases hm : m3 = f
    · subst hm
      have hiz : i < z := by
        rcases Nat.lt_or_ge i z with g1 | g1
        · exact g1
        · obtain rfl : i = z := by omega
          have := HZ.out
          rw [hb3] at this
          injection this with this
          subst this
          exact absurd hl3.symm HZN.out
      have HLB : Hid ((bss.take i).flatten.length + bs3.length ≤ 1000000000) := by
        show (bss.take i).flatten.length + bs3.length ≤ 1000000000
        rw [HL.out, ← hl3]
        have := Nat.mul_le_mul (show i ≤ 32 by omega) hf2
        omega
      have hff : ((m3 : Int) != (m3 : Int)) = false := by simp
      clear hb3 hl3
      go_wp2_with fail
      refine (HM.out _ (K0.trans' hkw)).mono ?_
      rintro e w2 ⟨rfl, hk2⟩
      have hk2s := hk2.size
      go_wp2_with (first
        | (at_builtin
           refine wpList_app rfl (.tmp 38) (.tmp 39) _ rfl i0 Try.underlying38 hi0 hz0 hz1 hz2 rfl (ho.no hk2) rfl (hB3.no hk2) (by have := HLB.out; omega) (by omega) ?_
           intro A1 n1 c1 w3 ha))
      go_round
      case rel => exact ⟨i + 1, A1, n1, c1, by omega, by go_num, rfl, (by rw [flat_step HB3.out]; exact ha.own), (by show ((bss.take (i + 1)).flatten).length = (i + 1) * m3; rw [flat_step HB3.out, List.length_append, HL.out, HL3.out, Nat.add_mul, Nat.one_mul]), ha.keeps (ho.no hk2) (hkw.trans' hk2)⟩
      case measure => simp [intOf]; omega
    · have hne : ((m3 : Int) != (f : Int)) = true := by simp; omega
      clear hb3 hl3 hm
      go_wp2_with fail
      refine (HM.out _ (K0.trans' hkw)).mono ?_
      rintro e w2 ⟨rfl, hk2⟩
      go_wp2_with fail
      go_ret2
      exact ⟨rfl, (K0.trans' hkw).trans' hk2⟩
theorem rjoin_count (w : World) (k l p : Int) {A : Option Addr} {m cp c : Nat} (hne : m ≠ c) : Calls Try.prog 20 #[.int .i64 k, plV l (c : Int) p, .slice A m cp] w (ErrPost w (.bool false)) := by
  have hm : ((m : Int) != (c : Int)) = true := by simp; omega
  clear hne
  go_enter Try.func20, Try.ntmps20
  go_wp2_with fail
  go_ret2
  exact ⟨rfl, Kp.alloc No _ _⟩
set_option maxHeartbeats 4000000 in
theorem rjoin_yes {w : World} {n k a d q : Nat} (hD : Dim n k a d q) {l c p cp f : Nat} {A : Option Addr} {bss : List (List UInt8)} (hR : Rws w A c bss) (hP : Pln q l c p) (hf : f = q * p) (hF : FitR bss c f) :
    Calls Try.prog 20 #[.int .i64 (k : Int), plV (l : Int) (c : Int) (p : Int), .slice A c cp] w (BtsPost w l (bss.flatten.take l) (.bool true)) := by
  obtain ⟨i0, hi0, hz0, hz1, hz2⟩ := byte_parts
  have ha7 := hD.a7
  have hk8 : k ≤ 8 := by have := hD.k_; omega
  have hk1 : 1 ≤ k := by have := hD.k_; omega
  have hqb := hD.q56
  obtain ⟨hqb1, hqb2, _⟩ := hqb
  have hka : (k : Int) - 1 = (a : Int) := by have := hD.k_; omega
  have W1 : Hid (IntKind.i64.wrap ((k : Int) - 1) = (a : Int)) := by show IntKind.i64.wrap ((k : Int) - 1) = (a : Int); rw [hka]; exact IntWalk.i64_in _ (by omega)
  have W2 : Hid (IntKind.i64.wrap ((k : Int) * (a : Int)) = (q : Int)) := by
    have e : (k : Int) * (a : Int) = (q : Int) := by rw [hD.k_, hD.q_, Int.natCast_mul]
    show IntKind.i64.wrap ((k : Int) * (a : Int)) = (q : Int)
    rw [e]
    exact IntWalk.i64_in _ (by omega)
  have hl16 := hP.l16
  have hc32 := hP.c32
  have hp1 := hP.p1
  have hp2 := hP.p256
  have hf1 : 1 ≤ f := by rw [hf]; exact hP.f1 hqb1
  have hf2 : f ≤ 14336 := by rw [hf]; exact hP.fb hqb2
  have W3 : Hid (IntKind.i64.wrap ((q : Int) * (p : Int)) = (f : Int)) := by show IntKind.i64.wrap ((q : Int) * (p : Int)) = (f : Int); rw [hf, ← Int.natCast_mul, ← hf]; exact IntWalk.i64_in _ (by omega)
  have hcc : ((c : Int) != (c : Int)) = false := by simp
  have HC : Hid (l ≤ c * f) := by rw [hf]; exact hP.cov
  clear hka
  have HF := hide hF
  clear hP hf hD hF
  go_enter Try.func20, Try.ntmps20
  go_wp2_with fail
  have P0 := PC.new w (l : Int) (c : Int) (p : Int) 32
  have K0 := Kp.alloc No w (.cells #[.int .i64 (l : Int), .int .i64 (c : Int), .int .i64 (p : Int)] 32)
  generalize (w.alloc (.cells #[.int .i64 (l : Int), .int .i64 (c : Int), .int .i64 (p : Int)] 32)) = w0 at *
  go_loopw [8, 9] (fun v iv wr => ∃ (i : Nat) (A' : Option Addr) (r cc : Nat), i ≤ c ∧ iv = .int .i64 (i : Int) ∧ v = .slice A' r cc ∧ Own wr w0.heap.size 5 (.slice A' r cc) (bss.take i).flatten ∧ Hid ((bss.take i).flatten.length = i * f) ∧ Kp No w0 wr) (fun _ iv _ => c - (intOf iv).toNat)
  case atStart => exact ⟨0, none, 0, 0, Nat.zero_le _, rfl, rfl, Own.nil _ _ _, by show ((bss.take 0).flatten).length = 0 * f; simp, Kp.refl _ _⟩
  case round =>
    obtain ⟨i, A', r, cc, hi, rfl, rfl, ho, HL, hkw⟩ := hrel
    obtain ⟨q0, q1, q2⟩ := P0.no hkw
    have hkr := hkw.size
    by_cases hlt : i < c
    · obtain ⟨B, off, A3, m3, c3, bs3, rfl, e3, hb3, hB3⟩ := ((hR.no K0).no hkw).get hlt
      have hl3 := hB3.len
      have HB3 := hide hb3
      obtain rfl : f = m3 := by rw [hl3]; exact (HF.out.2 i bs3 hb3).symm
      have HL3 := hide hl3.symm
      have HLB : Hid ((bss.take i).flatten.length + bs3.length ≤ 1000000000) := by
        show (bss.take i).flatten.length + bs3.length ≤ 1000000000
        rw [HL.out, ← hl3]
        have := Nat.mul_le_mul (show i ≤ 32 by omega) hf2
        omega
      have hff : ((f : Int) != (f : Int)) = false := by simp
      clear hb3 hl3
      have w1' := W1.out
      have w2' := W2.out
      have w3' := W3.out
      go_wp2_with fail
      go_quiet (fail)
      clear w1' w2' w3'
      go_wp2_with (first
        | (at_builtin
           refine wpList_app rfl (.tmp 34) (.tmp 38) _ rfl i0 Try.underlying38 hi0 hz0 hz1 hz2 rfl (ho.drewN _) rfl (hB3.drewN _) (by have := HLB.out; omega) (by simp; omega) ?_
           intro A1 n1 c1 w3 ha))
      go_round
      case rel => exact ⟨i + 1, A1, n1, c1, by omega, by go_num, rfl, (by rw [flat_step HB3.out]; exact ha.own), (by show ((bss.take (i + 1)).flatten).length = (i + 1) * f; rw [flat_step HB3.out, List.length_append, HL.out, HL3.out, Nat.add_mul, Nat.one_mul]), ha.keeps (ho.drewN _) (hkw.drewN _)⟩
      case measure => simp [intOf]; omega
    · obtain rfl : c = i := by omega
      clear hi hlt
      have hrr : l ≤ r := by rw [ho.len, HL.out]; exact HC.out
      obtain ⟨_, hs2, hs3⟩ := slice_own ho hrr
      have HS3 := hide hs3
      clear hs3
      have hbt := bts_take (c' := cc) ho.bts hrr fun e => (HS3.out e).2
      have HFL : Hid (bss.take c = bss) := by show bss.take c = bss; rw [← HF.out.1]; exact List.take_of_length_le (Nat.le_refl _)
      go_wp2_with fail
      go_ret2
      exact ⟨A', cc, rfl, (by rw [HFL.out] at hbt; exact hbt), K0.trans' hkw⟩
set_option maxHeartbeats 4000000 in
theorem rjoin_bad {w : World} {n k a d q : Nat} (hD : Dim n k a d q) {l c p cp f : Nat} {A : Option Addr} {bss : List (List UInt8)} (hR : Rws w A c bss) (hP : Pln q l c p) (hf : f = q * p) {z : Nat} {bz : List UInt8} (hz : bss[z]? = some bz) (hzn : bz.length ≠ f) (hsm : ∀ (j : Nat) bs, bss[j]? = some bs → bs.length ≤ 1000000) :
    Calls Try.prog 20 #[.int .i64 (k : Int), plV (l : Int) (c : Int) (p : Int), .slice A c cp] w (ErrPost w (.bool false)) := by
  obtain ⟨i0, hi0, hz0, hz1, hz2⟩ := byte_parts
  have ha7 := hD.a7
  have hk8 : k ≤ 8 := by have := hD.k_; omega
  have hk1 : 1 ≤ k := by have := hD.k_; omega
  have hqb := hD.q56
  obtain ⟨hqb1, hqb2, _⟩ := hqb
  have hka : (k : Int) - 1 = (a : Int) := by have := hD.k_; omega
  have W1 : Hid (IntKind.i64.wrap ((k : Int) - 1) = (a : Int)) := by show IntKind.i64.wrap ((k : Int) - 1) = (a : Int); rw [hka]; exact IntWalk.i64_in _ (by omega)
  have W2 : Hid (IntKind.i64.wrap ((k : Int) * (a : Int)) = (q : Int)) := by
    have e : (k : Int) * (a : Int) = (q : Int) := by rw [hD.k_, hD.q_, Int.natCast_mul]
    show IntKind.i64.wrap ((k : Int) * (a : Int)) = (q : Int)
    rw [e]
    exact IntWalk.i64_in _ (by omega)
  have hl16 := hP.l16
  have hc32 := hP.c32
  have hp1 := hP.p1
  have hp2 := hP.p256
  have hf1 : 1 ≤ f := by rw [hf]; exact hP.f1 hqb1
  have hf2 : f ≤ 14336 := by rw [hf]; exact hP.fb hqb2
  have W3 : Hid (IntKind.i64.wrap ((q : Int) * (p : Int)) = (f : Int)) := by show IntKind.i64.wrap ((q : Int) * (p : Int)) = (f : Int); rw [hf, ← Int.natCast_mul, ← hf]; exact IntWalk.i64_in _ (by omega)
  have hcc : ((c : Int) != (c : Int)) = false := by simp
  have HC : Hid (l ≤ c * f) := by rw [hf]; exact hP.cov
  clear hka
  have HZ := hide hz
  have HZN := hide hzn
  have HSM := hide hsm
  have hzc : z < c := by rw [hR.len]; exact (List.getElem?_eq_some_iff.1 hz).1
  clear hP hf hD hz hzn hsm
  go_enter Try.func20, Try.ntmps20
  go_wp2_with fail
  have P0 := PC.new w (l : Int) (c : Int) (p : Int) 32
  have K0 := Kp.alloc No w (.cells #[.int .i64 (l : Int), .int .i64 (c : Int), .int .i64 (p : Int)] 32)
  generalize (w.alloc (.cells #[.int .i64 (l : Int), .int .i64 (c : Int), .int .i64 (p : Int)] 32)) = w0 at *
  go_loopw [8, 9] (fun v iv wr => ∃ (i : Nat) (A' : Option Addr) (r cc : Nat), i ≤ z ∧ iv = .int .i64 (i : Int) ∧ v = .slice A' r cc ∧ Own wr w0.heap.size 5 (.slice A' r cc) (bss.take i).flatten ∧ Hid ((bss.take i).flatten.length = i * f) ∧ Kp No w0 wr) (fun _ iv _ => c - (intOf iv).toNat)
  case atStart => exact ⟨0, none, 0, 0, Nat.zero_le _, rfl, rfl, Own.nil _ _ _, by show ((bss.take 0).flatten).length = 0 * f; simp, Kp.refl _ _⟩
  case round =>
    obtain ⟨i, A', r, cc, hi, rfl, rfl, ho, HL, hkw⟩ := hrel
    obtain ⟨q0, q1, q2⟩ := P0.no hkw
    have hkr := hkw.size
    have hlt : i < c := by omega
    obtain ⟨B, off, A3, m3, c3, bs3, rfl, e3, hb3, hB3⟩ := ((hR.no K0).no hkw).get hlt
    have hl3 := hB3.len
    have HB3 := hide hb3
    have HL3 := hide hl3.symm
    by_cases hm : m3 = f
    · subst hm
      have hiz : i < z := by
        rcases Nat.lt_or_ge i z with g1 | g1
        · exact g1
        · obtain rfl : i = z := by omega
          have := HZ.out
          rw [hb3] at this
          injection this with this
          subst this
          exact absurd hl3.symm HZN.out
      have HLB : Hid ((bss.take i).flatten.length + bs3.length ≤ 1000000000) := by
        show (bss.take i).flatten.length + bs3.length ≤ 1000000000
        rw [HL.out, ← hl3]
        have := Nat.mul_le_mul (show i ≤ 32 by omega) hf2
        omega
      have hff : ((m3 : Int) != (m3 : Int)) = false := by simp
      clear hb3 hl3
      have w1' := W1.out
      have w2' := W2.out
      have w3' := W3.out
      go_wp2_with fail
      go_quiet (fail)
      clear w1' w2' w3'
      go_wp2_with (first
        | (at_builtin
           refine wpList_app rfl (.tmp 34) (.tmp 38) _ rfl i0 Try.underlying38 hi0 hz0 hz1 hz2 rfl (ho.drewN _) rfl (hB3.drewN _) (by have := HLB.out; omega) (by simp; omega) ?_
           intro A1 n1 c1 w3 ha))
      go_round
      case rel => exact ⟨i + 1, A1, n1, c1, by omega, by go_num, rfl, (by rw [flat_step HB3.out]; exact ha.own), (by show ((bss.take (i + 1)).flatten).length = (i + 1) * m3; rw [flat_step HB3.out, List.length_append, HL.out, HL3.out, Nat.add_mul, Nat.one_mul]), ha.keeps (ho.drewN _) (hkw.drewN _)⟩
      case measure => simp [intOf]; omega
    · have hne : ((m3 : Int) != (f : Int)) = true := by simp; omega
      clear hb3 hl3 hm
      have w1' := W1.out
      have w2' := W2.out
      have w3' := W3.out
      go_wp2_with fail
      go_quiet (fail)
      clear w1' w2' w3'
      go_wp2_with fail
      go_ret2
      exact ⟨rfl, (K0.trans' hkw).drewN _⟩
end Go.Proofs.Ytcdmljlangbloaa
