/- HealBack: of the fragments of any so many others, in any order, a lost shard comes as it was, and of any so many whole ones, too. -/
import Derived.Test.YthmplbklphobaaaHz
import Derived.Deep.DeepCutAuto
import Derived.Deep.RegionHeld3
namespace Go.Proofs.Ythmplbklphobaaa
open Go.RowKit
set_option linter.unusedVariables false
set_option linter.unusedSimpArgs false
set_option maxRecDepth 100000

section
variable {w : World} {A Ap : Option Addr} {m c mp cpp lo : Nat} {bs ps : List UInt8}
theorem hbw_notsmall (n k : Int) (h : ¬ (Rgt n k ∧ n ≤ 12 ∧ k ≤ 4)) : Calls Try.prog 5 #[.int .i64 n, .int .i64 k, .slice A m c, .int .u8 (lo : Int), .slice Ap mp cpp] w (R7 w) := by
  have hs := small7_no n k w h
  clear h
  go_enter Try.func5, Try.ntmps5
  go_wp2_with fail
  refine hs.mono ?_
  rintro e w' ⟨rfl, rfl⟩
  go_wp2_with fail
  refine (awake7_any _).mono ?_
  rintro e w9 ⟨rfl, k9⟩
  go_wp2_with fail
  go_ret
  exact ⟨rfl, k9.below0⟩
theorem hbw_len (n k : Int) (h : Rgt n k) (h1 : n ≤ 12) (h2 : k ≤ 4) (hm : 200 < m ∨ m = 0) : Calls Try.prog 5 #[.int .i64 n, .int .i64 k, .slice A m c, .int .u8 (lo : Int), .slice Ap mp cpp] w (R7 w) := by
  have hs := small7_yes n k w h h1 h2
  clear h
  rcases hm with hm | rfl
  · go_enter Try.func5, Try.ntmps5
    go_wp2_with fail
    refine hs.mono ?_
    rintro e w' ⟨rfl, rfl⟩
    go_wp2_with fail
    refine (awake7_any _).mono ?_
    rintro e w9 ⟨rfl, k9⟩
    go_wp2_with fail
    go_ret
    exact ⟨rfl, k9.below0⟩
  · go_enter Try.func5, Try.ntmps5
    go_wp2_with fail
    refine hs.mono ?_
    rintro e w' ⟨rfl, rfl⟩
    go_wp2_with fail
    refine (awake7_any _).mono ?_
    rintro e w9 ⟨rfl, k9⟩
    go_wp2_with fail
    go_ret
    exact ⟨rfl, k9.below0⟩
theorem hbw_unfit {n k a d q : Nat} (hD : Dim n k a d q) (h1 : n ≤ 12) (h2 : k ≤ 4) (hm : m ≤ 200) (hm0 : 0 < m) (hf : m % q ≠ 0) : Calls Try.prog 5 #[.int .i64 (n : Int), .int .i64 (k : Int), .slice A m c, .int .u8 (lo : Int), .slice Ap mp cpp] w (R7 w) := by
  have hR : Rgt (n : Int) (k : Int) := by have := hD.k_; have := hD.d_; have := hD.n1; have := hD.a1; unfold Rgt; omega
  have hs := small7_yes (n : Int) (k : Int) w hR (by omega) (by omega)
  obtain ⟨hq1, hq2, _⟩ := hD.q56
  have hka : (k : Int) - 1 = (a : Int) := by have := hD.k_; omega
  have hkq : (k : Int) * (a : Int) = (q : Int) := by rw [hD.k_, hD.q_, Int.natCast_mul]
  have hk1 : 1 ≤ k := by have := hD.k_; omega
  obtain ⟨r, hr⟩ : ∃ r, r = m % q := ⟨_, rfl⟩
  have hrm : (m : Int) % (q : Int) = (r : Int) := by rw [hr, Int.natCast_emod]
  have hr0 : ((r : Int) != 0) = true := by simp; omega
  have hmz : ((m : Int) == 0) = false := by simp; omega
  clear hD hR hf hr
  go_enter Try.func5, Try.ntmps5
  go_wp2_with fail
  refine hs.mono ?_
  rintro e w' ⟨rfl, rfl⟩
  go_wp2_with fail
  refine (awake7_any _).mono ?_
  rintro e w9 ⟨rfl, k9⟩
  go_wp2_with fail
  go_ret
  exact ⟨rfl, k9.below0⟩
set_option maxHeartbeats 40000000 in
theorem hbw_fit {n k a d q L : Nat} {x : Nat → UInt8} (hB : Bts w (.slice A m c) bs) (hPk : Bts w (.slice Ap mp cpp) ps) (hlo : lo < 256) (hD : Dim n k a d q) (hX : Pts n a x) (h1 : n ≤ 12) (h2 : k ≤ 4) (hm : m ≤ 200) (hm0 : 0 < m) (hf : m = q * L) (hL : 1 ≤ L) : Calls Try.prog 5 #[.int .i64 (n : Int), .int .i64 (k : Int), .slice A m c, .int .u8 (lo : Int), .slice Ap mp cpp] w (R7 w) := by
  have hR : Rgt (n : Int) (k : Int) := by have := hD.k_; have := hD.d_; have := hD.n1; have := hD.a1; unfold Rgt; omega
  have hs := small7_yes (n : Int) (k : Int) w hR (by omega) (by omega)
  obtain ⟨hq1, hq2, hq3⟩ := hD.q56
  have hka : (k : Int) - 1 = (a : Int) := by have := hD.k_; omega
  have hkq : (k : Int) * (a : Int) = (q : Int) := by rw [hD.k_, hD.q_, Int.natCast_mul]
  have hk1 : 1 ≤ k := by have := hD.k_; omega
  have ha1 := hD.a1
  have hkd : Hid (k ≤ d) := by show k ≤ d; have := hD.k_; have := hD.d_; have := hD.a1; omega
  have hdn : d < n := hD.n1
  have hd1 : 1 ≤ d := by have := hD.d_; omega
  have hn1 : 1 ≤ n := by omega
  have H2K : Hid (2 * (k : Int) - 2 = (d : Int)) := by show 2 * (k : Int) - 2 = (d : Int); have := hD.k_; have := hD.d_; omega
  have hrm : (m : Int) % (q : Int) = 0 := by rw [hf, Int.natCast_mul, Int.mul_emod_right]
  have hmz : ((m : Int) == 0) = false := by simp; omega
  have haLm : Hid (a * L ≤ m) := by show a * L ≤ m; rw [hf]; exact Nat.mul_le_mul_right L hq3
  have hLm : Hid (L ≤ 200) := by show L ≤ 200; have h5 := Nat.mul_le_mul_right L ha1; have := haLm.out; omega
  have HN := hide (mnew_yes w hD hX)
  have HE := hide (fun w' g (hk : Kp No w w') (hC : CodeAt w' g n k x) => enc_yes (L := L) hC hD (hB.no hk) hf (by omega) hL)
  have HD := hide hD
  have HX := hide hX
  have HF := hide hf
  have HBL := hide hB.len
  obtain ⟨la, hla⟩ : ∃ la, la = lo % n := ⟨_, rfl⟩
  have hlan : la < n := by rw [hla]; exact Nat.mod_lt _ (by omega)
  have hlm : (lo : Int) % (n : Int) = (la : Int) := by rw [hla, Int.natCast_emod]
  have hlt' : (lo : Int).tmod (n : Int) = (la : Int) := by rw [Int.tmod_eq_emod_of_nonneg (by omega), hlm]
  have HLM := hide hlm
  have HLT := hide hlt'
  clear hD hX hR hf hla hlm hlt'
  go_enter Try.func5, Try.ntmps5
  go_wp2_with fail
  refine hs.mono ?_
  rintro e w' ⟨rfl, rfl⟩
  go_wp2_with fail
  refine HN.out.mono ?_
  clear hka hkq hrm hmz hs
  rintro e w1 ⟨g, rfl, hC, hk⟩
  go_wp2_with fail
  refine (HE.out w1 g hk hC).mono ?_
  rintro e w2 ⟨A2, c2, rfl, hR2, hk2⟩
  have hk2' := hk.trans' hk2
  have hC2 := hC.no hk2
  obtain ⟨B2, o2, _, _, _, _, rfl, _, _, _⟩ := hR2.get (j := 0) (by omega)
  obtain ⟨hdr, hhdr⟩ : ∃ hdr : Nat → Value, ∀ j, j < n → ∃ A' r cc, w2.cell? ⟨B2, o2 + j, none⟩ = some (.slice A' r cc) ∧ hdr j = .slice A' r cc ∧ Bts w2 (.slice A' r cc) (shB a d L bs (x j)) := by
    have hch : ∀ j, ∃ v : Value, j < n → ∃ A' r cc, w2.cell? ⟨B2, o2 + j, none⟩ = some (.slice A' r cc) ∧ v = .slice A' r cc ∧ Bts w2 (.slice A' r cc) (shB a d L bs (x j)) := fun j => by
      by_cases hj : j < n
      · obtain ⟨B', o', A', r, cc, b', e, hc, hb', hbt⟩ := hR2.get hj
        injection e with e
        injection e with e1 e2
        subst e1 e2
        rw [matL_get _ hj] at hb'
        injection hb' with hb'
        subst hb'
        exact ⟨_, fun _ => ⟨A', r, cc, hc, rfl, hbt⟩⟩
      · exact ⟨.slice none 0 0, fun h => absurd h hj⟩
    exact Classical.axiomOfChoice hch
  have HH := hide hhdr
  clear hhdr hR2 hk2 hk hC HE HN
  have hlm := HLM.out
  have hlt' := HLT.out
  go_wp2_with fail
  clear hlm hlt'
  go_loopw [16, 17] (fun v iv wr => ∃ (i : Nat) (A' : Option Addr) (r cc : Nat) (lf : List Nat), i ≤ n ∧ iv = .int .i64 (i : Int) ∧ v = .slice A' r cc ∧ Hid (lf = lfF la i) ∧ OwnT wr w2.heap.size 3 1 (.slice A' r cc) lf.length (lf.map fun s : Nat => Value.int .i64 (s : Int)) ∧ Kp No w2 wr) (fun _ iv _ => n - (intOf iv).toNat)
  case atStart => exact ⟨0, none, 0, 0, [], Nat.zero_le _, rfl, rfl, (rfl : ([] : List Nat) = lfF la 0), OwnT.nil _ _ _ _, Kp.refl _ _⟩
  case round =>
    obtain ⟨i, A', r, cc, lf, hi, rfl, rfl, hlf, ho, hkw⟩ := hrel
    by_cases hlt : i < n
    · by_cases hia : i = la
      · have HLF : Hid (lf = lfF la (i + 1)) := hlf.out.trans (lfF_in hia).symm
        have t1 : ((i : Int) != (la : Int)) = false := by simp; omega
        clear hia
        go_wp2_with fail
        go_round
        case rel => exact ⟨i + 1, A', r, cc, lf, by omega, by go_num, rfl, HLF, ho, hkw⟩
        case measure => simp [intOf]; omega
      · have HLF : Hid (lf ++ [i] = lfF la (i + 1)) := by
          show lf ++ [i] = lfF la (i + 1)
          rw [lfF_new hia, hlf.out]
        have t1 : ((i : Int) != (la : Int)) = true := by simp; omega
        have hll : lf.length ≤ 100 := by rw [hlf.out]; have := lfF_le la i; omega
        have hsz := hkw.size
        have ho2 := ho.no (Kp.alloc No wr (.cells #[.int .i64 (i : Int)] 3))
        clear hia
        go_wp2_with (first
          | (at_builtin
             refine wpList_appT ty_int rfl (.tmp 85) (.tmp 87) _ rfl Try.underlying38 rfl ho2 _ _ rfl (nws_one (fresh_cell _ _ _) rfl) (by omega) ?hs ?_
             case hs => simp; omega
             intro A3 n3 c3 w3 hn3 ha
             have HN3 := hide hn3
             clear hn3))
        go_round
        case rel => exact ⟨i + 1, A3, n3, c3, lf ++ [i], by omega, by go_num, rfl, HLF, by rw [List.length_append, List.map_append]; exact ha.own, ha.keeps ho2 (hkw.trans' (Kp.alloc No _ _))⟩
        case measure => simp [intOf]; omega
    · obtain rfl : i = n := by omega
      obtain ⟨n, hnn⟩ : ∃ n, n = i := ⟨_, rfl⟩
      subst hnn
      obtain ⟨N, hN⟩ : ∃ N, N + 1 = n := ⟨n - 1, by omega⟩
      have hlen : lf.length + 0 = N := by rw [hlf.out, lfF_len, if_pos hlan]; omega
      have hI0 : BhI w2 N 0 hdr (fun s => fbB a d L bs (x s) (x la)) (fun s => s < n ∧ s ≠ la) [] lf (.slice none 0 0) (.slice none 0 0) (.slice A' r cc) wr := ⟨OwnT.nil _ _ _ _, OwnT.nil _ _ _ _, ho, (fun k hk => by cases hk), (fun p hp => by simp at hp), rfl, hlen, by rw [List.map_nil, List.nil_append, hlf.out]; exact lfF_nd _ _, (fun s hs => by rw [List.map_nil, List.nil_append, hlf.out] at hs; exact lfF_mem hs), hkw⟩
      have HNN := hide hN
      clear ho hkw hlen hN
      have h2k := H2K.out
      go_wp2_with fail
      go_loopw [16, 18, 19, 20] (fun vL vF vW iv wr => ∃ (j : Nat) (pk : List (Nat × Value)) (lf : List Nat) (A1 : Option Addr) (n1 c1 : Nat) (A2 : Option Addr) (n2 c2 : Nat) (A3 : Option Addr) (n3 c3 : Nat), j ≤ d ∧ iv = .int .i64 (j : Int) ∧ vF = .slice A1 n1 c1 ∧ vW = .slice A2 n2 c2 ∧ vL = .slice A3 n3 c3 ∧ BhI w2 N j hdr (fun s => fbB a d L bs (x s) (x la)) (fun s => s < n ∧ s ≠ la) pk lf (.slice A1 n1 c1) (.slice A2 n2 c2) (.slice A3 n3 c3) wr) (fun _ _ _ iv _ => d - (intOf iv).toNat)
      case atStart => exact ⟨0, [], lf, none, 0, 0, none, 0, 0, A', r, cc, Nat.zero_le _, rfl, rfl, rfl, rfl, hI0⟩
      case round =>
        clear hI0
        obtain ⟨j, pk, lf, A1, n1, c1, A2, n2, c2, A3, r, cl, hj, rfl, rfl, rfl, rfl, hI⟩ := hrel
        by_cases hltj : j < d
        · have hlf : 0 < lf.length := by have := hI.lenL; have := HNN.out; omega
          obtain ⟨gl, rfl, hrl⟩ := hI.ownL.some_ hlf
          have HRL : Hid (r = lf.length) := hrl.symm
          have hr1 : 1 ≤ r := by omega
          have hr24 : r ≤ 24 := by have := hI.lenL; have := HNN.out; omega
          clear hrl hlf
          go_upto_if 99 with fail
          clear h2k
          go_cut [21] (fun v wx => ∃ p : Nat, v = .int .i64 (p : Int) ∧ p < r ∧ BhI w2 N j hdr (fun s => fbB a d L bs (x s) (x la)) (fun s => s < n ∧ s ≠ la) pk lf (.slice A1 n1 c1) (.slice A2 n2 c2) (.slice (some ⟨gl, 0, none⟩) r cl) wx)
          case first =>
            by_cases hpk : j < mp
            · obtain ⟨B3, o3, u, rfl, hu, z3⟩ := (hPk.no (hk2'.trans' hI.kp)).at_ hpk
              obtain ⟨p, hp⟩ : ∃ p, p = u.toNat % r := ⟨_, rfl⟩
              have hpr : p < r := by rw [hp]; exact Nat.mod_lt _ (by omega)
              have hpm : (u.toNat : Int) % (r : Int) = (p : Int) := by rw [hp, Int.natCast_emod]
              have hu8 := u8_lt u
              clear hp hu
              go_wp2_with fail
              go_meet
              exact ⟨p, (by simp; exact hpm), hpr, hI⟩
            · have hpk' : mp ≤ j := by omega
              clear hpk
              go_wp2_with fail
              go_meet
              exact ⟨0, by simp, by omega, hI⟩
          case rest =>
            clear hI
            obtain ⟨p, rfl, hpr, hI⟩ := hcut
            have hplt : p < lf.length := by have := HRL.out; omega
            obtain ⟨s, hsp⟩ : ∃ s, lf[p]? = some s := ⟨_, List.getElem?_eq_getElem hplt⟩
            have hsi : s < n := (hI.lt s (List.mem_append_right _ (List.mem_of_getElem? hsp))).1
            obtain ⟨Ah, rh, ch, z2, hhs, hbh⟩ := HH.out s hsi
            have hrh : rh = a * L := by rw [hbh.len]; unfold shB; rw [rowL_len]
            have HHS := hide hhs
            have HZ2 := hide z2
            have hsii : (s : Int) < (n : Int) := by omega
            have hpri : (p : Int) < (r : Int) := by omega
            have y1 := hI.ownL.num hsp
            have y2 := hI.kp.cell z2 fun f => f
            have hfr := frag_yes (cp := ch) (hC2.no hI.kp) HD.out la hlan (hbh.no hI.kp) hrh hL (by have := haLm.out; omega)
            clear hhs hbh hrh z2
            go_wp2_with fail
            refine hfr.mono ?_
            rintro e w5 ⟨Af, nf, cf, rfl, hof, hk5⟩
            have HFR : Hid (Own w5.drew w2.heap.size 5 (.slice Af nf cf) (fbB a d L bs (x s) (x la))) := (hof.rebase fun b hb => Nat.le_trans hI.kp.size (hof.ge b hb)).no (Sm.drew w5).kp
            have HI := hide ((hI.no hk5).no (Sm.drew w5).kp)
            have hS : ∀ u, Kp No w2 u → OwnT u w2.heap.size 3 1 (.slice (some ⟨gl, 0, none⟩) r cl) lf.length (lf.map fun s : Nat => Value.int .i64 (s : Int)) → (Kp No w2 u ∧ OwnT u w2.heap.size 3 1 (.slice (some ⟨gl, 0, none⟩) r cl) lf.length (lf.map fun s : Nat => Value.int .i64 (s : Int)) ∧ u.cell? ⟨gl, p, none⟩ = some (.int .i64 (s : Int)) ∧ u.cell? ⟨B2, o2 + s, none⟩ = some (.slice Ah rh ch)) := fun u hk hl => ⟨hk, hl, hl.num hsp, hk.cell HZ2.out fun f => f⟩
            have hj24 : j ≤ 24 := by omega
            clear hfr hof hk5 hI y1 y2
            go_upto_region 24 with fail
            go_cut [18, 19] (fun v1 v2 wx => ∃ (A3 : Option Addr) (n3 c3 : Nat) (A4 : Option Addr) (n4 c4 : Nat), v1 = .slice A3 n3 c3 ∧ v2 = .slice A4 n4 c4 ∧ BhM w2 N j hdr (fun s => fbB a d L bs (x s) (x la)) (fun s => s < n ∧ s ≠ la) pk lf s (.slice Af nf cf) (.slice A3 n3 c3) (.slice A4 n4 c4) (.slice (some ⟨gl, 0, none⟩) r cl) wx)
            case first =>
              refine wp_region_noPanic ?_
              refine wp_region_held_drew (S := fun w' => Kp No w2 w' ∧ OwnT w' w2.heap.size 3 1 (.slice (some ⟨gl, 0, none⟩) r cl) lf.length (lf.map fun s : Nat => Value.int .i64 (s : Int)) ∧ w'.cell? ⟨gl, p, none⟩ = some (.int .i64 (s : Int)) ∧ w'.cell? ⟨B2, o2 + s, none⟩ = some (.slice Ah rh ch)) (by kernel_rfl) (hS _ (HI.out.kp) HI.out.ownL) (fun hHeld => ?_)
              refine wpAnyH_take (i := 0) (v := ?vax1) (oi := ?oax1) ?hax1 (by kernel_rfl) (by kernel_rfl) (by kernel_rfl) (fun _ _ _ h => h) (Or.inl ⟨?wax1, ?yax1⟩) hHeld ?rax1
              case hax1 => simp only [List.getElem?_toArray, List.getElem?_cons_zero, List.getElem?_cons_succ]; rfl
              case wax1 => rfl
              case yax1 => intro w hSw; (try dsimp only at hSw); go_simp; (try with_reducible rfl)
              simp only [Act.put, List.setIfInBounds_toArray, List.set_cons_zero, List.set_cons_succ]
              refine wpAnyH_take (i := 1) (v := ?vax2) (oi := ?oax2) ?hax2 (by kernel_rfl) (by kernel_rfl) (by kernel_rfl) (fun _ _ _ h => h) (Or.inl ⟨?wax2, ?yax2⟩) hHeld ?rax2
              case hax2 => simp only [List.getElem?_toArray, List.getElem?_cons_zero, List.getElem?_cons_succ]; rfl
              case wax2 => rfl
              case yax2 => intro w hSw; (try dsimp only at hSw); go_simp; (try with_reducible rfl)
              simp only [Act.put, List.setIfInBounds_toArray, List.set_cons_zero, List.set_cons_succ]
              refine wpAnyH_take (i := 2) (v := ?vax3) (oi := ?oax3) ?hax3 (by kernel_rfl) (by kernel_rfl) (by kernel_rfl) (fun _ _ _ h => h) (Or.inl ⟨?wax3, ?yax3⟩) hHeld ?rax3
              case hax3 => simp only [List.getElem?_toArray, List.getElem?_cons_zero, List.getElem?_cons_succ]; rfl
              case wax3 => rfl
              case yax3 => intro w hSw; (try dsimp only at hSw); go_simp; (try with_reducible rfl)
              simp only [Act.put, List.setIfInBounds_toArray, List.set_cons_zero, List.set_cons_succ]
              refine wpAnyH_take (i := 3) (v := ?vax4) (oi := ?oax4) ?hax4 (by kernel_rfl) (by kernel_rfl) (by kernel_rfl) (fun _ _ _ h => h) (Or.inl ⟨?wax4, ?yax4⟩) hHeld ?rax4
              case hax4 => simp only [List.getElem?_toArray, List.getElem?_cons_zero, List.getElem?_cons_succ]; rfl
              case wax4 => rfl
              case yax4 => intro w hSw; (try dsimp only at hSw); go_simp; (try with_reducible rfl)
              simp only [Act.put, List.setIfInBounds_toArray, List.set_cons_zero, List.set_cons_succ]
              refine wpAnyH_take (i := 4) (v := ?vax5) (oi := ?oax5) ?hax5 (by kernel_rfl) (by kernel_rfl) (by kernel_rfl) (fun _ _ _ h => h) (Or.inl ⟨?wax5, ?yax5⟩) hHeld ?rax5
              case hax5 => simp only [List.getElem?_toArray, List.getElem?_cons_zero, List.getElem?_cons_succ]; rfl
              case wax5 => rfl
              case yax5 => intro w hSw; (try dsimp only at hSw); go_simp; (try with_reducible rfl)
              simp only [Act.put, List.setIfInBounds_toArray, List.set_cons_zero, List.set_cons_succ]
              refine wpAnyH_take (i := 5) (v := ?vax6) (oi := ?oax6) ?hax6 (by kernel_rfl) (by kernel_rfl) (by kernel_rfl) (fun _ _ _ h => h) (Or.inl ⟨?wax6, ?yax6⟩) hHeld ?rax6
              case hax6 => simp only [List.getElem?_toArray, List.getElem?_cons_zero, List.getElem?_cons_succ]; rfl
              case wax6 => rfl
              case yax6 => intro w hSw; (try dsimp only at hSw); go_simp; (try with_reducible rfl)
              simp only [Act.put, List.setIfInBounds_toArray, List.set_cons_zero, List.set_cons_succ]
              refine wpAnyH_take (i := 6) (v := ?vax7) (oi := ?oax7) ?hax7 (by kernel_rfl) (by kernel_rfl) (by kernel_rfl) (fun _ _ _ h => h) (Or.inl ⟨?wax7, ?yax7⟩) hHeld ?rax7
              case hax7 => simp only [List.getElem?_toArray, List.getElem?_cons_zero, List.getElem?_cons_succ]; rfl
              case wax7 => rfl
              case yax7 => intro w hSw; (try dsimp only at hSw); go_simp; (try with_reducible rfl)
              simp only [Act.put, List.setIfInBounds_toArray, List.set_cons_zero, List.set_cons_succ]
              refine wpAnyH_take (i := 9) (v := ?vax8) (oi := ?oax8) ?hax8 (by kernel_rfl) (by kernel_rfl) (by kernel_rfl) (fun _ _ _ h => h) (Or.inl ⟨?wax8, ?yax8⟩) hHeld ?rax8
              case hax8 => simp only [List.getElem?_toArray, List.getElem?_cons_zero, List.getElem?_cons_succ]; rfl
              case wax8 => rfl
              case yax8 => intro w hSw; (try dsimp only at hSw); go_simp; (try with_reducible rfl)
              simp only [Act.put, List.setIfInBounds_toArray, List.set_cons_zero, List.set_cons_succ]
              refine wpAnyH_take (i := 10) (v := ?vax9) (oi := ?oax9) ?hax9 (by kernel_rfl) (by kernel_rfl) (by kernel_rfl) (fun _ _ _ h => h) (Or.inl ⟨?wax9, ?yax9⟩) hHeld ?rax9
              case hax9 => simp only [List.getElem?_toArray, List.getElem?_cons_zero, List.getElem?_cons_succ]; rfl
              case wax9 => rfl
              case yax9 => intro w hSw; (try dsimp only at hSw); go_simp; (try with_reducible rfl)
              simp only [Act.put, List.setIfInBounds_toArray, List.set_cons_zero, List.set_cons_succ]
              refine wpAnyH_take (i := 11) (v := ?vax10) (oi := ?oax10) ?hax10 (by kernel_rfl) (by kernel_rfl) (by kernel_rfl) (fun _ _ _ h => h) (Or.inl ⟨?wax10, ?yax10⟩) hHeld ?rax10
              case hax10 => simp only [List.getElem?_toArray, List.getElem?_cons_zero, List.getElem?_cons_succ]; rfl
              case wax10 => rfl
              case yax10 => intro w hSw; (try dsimp only at hSw); go_simp; (try with_reducible rfl)
              simp only [Act.put, List.setIfInBounds_toArray, List.set_cons_zero, List.set_cons_succ]
              refine wpAnyH_take (i := 12) (v := ?vax11) (oi := ?oax11) ?hax11 (by kernel_rfl) (by kernel_rfl) (by kernel_rfl) (fun _ _ _ h => h) (Or.inl ⟨?wax11, ?yax11⟩) hHeld ?rax11
              case hax11 => simp only [List.getElem?_toArray, List.getElem?_cons_zero, List.getElem?_cons_succ]; rfl
              case wax11 => rfl
              case yax11 => intro w hSw; (try dsimp only at hSw); go_simp; (try with_reducible rfl)
              simp only [Act.put, List.setIfInBounds_toArray, List.set_cons_zero, List.set_cons_succ]
              refine wpAnyH_take (i := 13) (v := ?vax12) (oi := ?oax12) ?hax12 (by kernel_rfl) (by kernel_rfl) (by kernel_rfl) (fun _ _ _ h => h) (Or.inl ⟨?wax12, ?yax12⟩) hHeld ?rax12
              case hax12 => simp only [List.getElem?_toArray, List.getElem?_cons_zero, List.getElem?_cons_succ]; rfl
              case wax12 => rfl
              case yax12 => intro w hSw; (try dsimp only at hSw); go_simp; (try with_reducible rfl)
              simp only [Act.put, List.setIfInBounds_toArray, List.set_cons_zero, List.set_cons_succ]
              refine wpAnyH_take (i := 14) (v := ?vax13) (oi := ?oax13) ?hax13 (by kernel_rfl) (by kernel_rfl) (by kernel_rfl) (fun _ _ _ h => h) (Or.inl ⟨?wax13, ?yax13⟩) hHeld ?rax13
              case hax13 => simp only [List.getElem?_toArray, List.getElem?_cons_zero, List.getElem?_cons_succ]; rfl
              case wax13 => rfl
              case yax13 => intro w hSw; (try dsimp only at hSw); go_simp; (try with_reducible rfl)
              simp only [Act.put, List.setIfInBounds_toArray, List.set_cons_zero, List.set_cons_succ]
              refine wpAnyH_take (i := 15) (v := ?vax14) (oi := ?oax14) ?hax14 (by kernel_rfl) (by kernel_rfl) (by kernel_rfl) (fun _ _ _ h => h) (Or.inl ⟨?wax14, ?yax14⟩) hHeld ?rax14
              case hax14 => simp only [List.getElem?_toArray, List.getElem?_cons_zero, List.getElem?_cons_succ]; rfl
              case wax14 => rfl
              case yax14 => intro w hSw; (try dsimp only at hSw); go_simp; (try with_reducible rfl)
              simp only [Act.put, List.setIfInBounds_toArray, List.set_cons_zero, List.set_cons_succ]
              refine wpAnyH_take (i := 16) (v := ?vax15) (oi := ?oax15) ?hax15 (by kernel_rfl) (by kernel_rfl) (by kernel_rfl) (fun _ _ _ h => h) (Or.inl ⟨?wax15, ?yax15⟩) hHeld ?rax15
              case hax15 => simp only [List.getElem?_toArray, List.getElem?_cons_zero, List.getElem?_cons_succ]; rfl
              case wax15 => rfl
              case yax15 => intro w hSw; (try dsimp only at hSw); go_simp; (try with_reducible rfl)
              simp only [Act.put, List.setIfInBounds_toArray, List.set_cons_zero, List.set_cons_succ]
              refine wpAnyH_take (i := 17) (v := ?vax16) (oi := ?oax16) ?hax16 (by kernel_rfl) (by kernel_rfl) (by kernel_rfl) (fun _ _ _ h => h) (Or.inl ⟨?wax16, ?yax16⟩) hHeld ?rax16
              case hax16 => simp only [List.getElem?_toArray, List.getElem?_cons_zero, List.getElem?_cons_succ]; rfl
              case wax16 => rfl
              case yax16 => intro w hSw; (try dsimp only at hSw); go_simp; (try with_reducible rfl)
              simp only [Act.put, List.setIfInBounds_toArray, List.set_cons_zero, List.set_cons_succ]
              refine wpAnyH_take (i := 18) (v := ?vax17) (oi := ?oax17) ?hax17 (by kernel_rfl) (by kernel_rfl) (by kernel_rfl) (fun _ _ _ h => h) (Or.inl ⟨?wax17, ?yax17⟩) hHeld ?rax17
              case hax17 => simp only [List.getElem?_toArray, List.getElem?_cons_zero, List.getElem?_cons_succ]; rfl
              case wax17 => rfl
              case yax17 => intro w hSw; (try dsimp only at hSw); go_simp; (try with_reducible rfl)
              simp only [Act.put, List.setIfInBounds_toArray, List.set_cons_zero, List.set_cons_succ]
              refine wpAnyH_take (i := 19) (v := ?vax18) (oi := ?oax18) ?hax18 (by kernel_rfl) (by kernel_rfl) (by kernel_rfl) (fun _ _ _ h => h) (Or.inl ⟨?wax18, ?yax18⟩) hHeld ?rax18
              case hax18 => simp only [List.getElem?_toArray, List.getElem?_cons_zero, List.getElem?_cons_succ]; rfl
              case wax18 => rfl
              case yax18 => intro w hSw; (try dsimp only at hSw); go_simp; (try with_reducible rfl)
              simp only [Act.put, List.setIfInBounds_toArray, List.set_cons_zero, List.set_cons_succ]
              refine wpAnyH_take (i := 20) (v := ?vax19) (oi := ?oax19) ?hax19 (by kernel_rfl) (by kernel_rfl) (by kernel_rfl) (fun _ _ _ h => h) (Or.inl ⟨?wax19, ?yax19⟩) hHeld ?rax19
              case hax19 => simp only [List.getElem?_toArray, List.getElem?_cons_zero, List.getElem?_cons_succ]; rfl
              case wax19 => rfl
              case yax19 => intro w hSw; (try dsimp only at hSw); go_simp; (try with_reducible rfl)
              simp only [Act.put, List.setIfInBounds_toArray, List.set_cons_zero, List.set_cons_succ]
              refine wpAnyH_take (i := 21) (v := ?vax20) (oi := ?oax20) ?hax20 (by kernel_rfl) (by kernel_rfl) (by kernel_rfl) (fun _ _ _ h => h) (Or.inl ⟨?wax20, ?yax20⟩) hHeld ?rax20
              case hax20 => simp only [List.getElem?_toArray, List.getElem?_cons_zero, List.getElem?_cons_succ]; rfl
              case wax20 => rfl
              case yax20 => intro w hSw; (try dsimp only at hSw); go_simp; (try with_reducible rfl)
              simp only [Act.put, List.setIfInBounds_toArray, List.set_cons_zero, List.set_cons_succ]
              refine wpAnyH_ready (rs := [7, 22]) (by kernel_rfl) (by simp) ?_
              refine (AllReadyH.cons (o := ?oax22) ?hax22 (fun K hK => ?sax22) (AllReadyH.cons (o := ?oax23) ?hax23 (fun K hK => ?sax23) AllReadyH.nil))
              case hax22 => simp only [List.getElem?_toArray, List.getElem?_cons_zero, List.getElem?_cons_succ]; rfl
              case hax23 => simp only [List.getElem?_toArray, List.getElem?_cons_zero, List.getElem?_cons_succ]; rfl
              case sax22 =>
                go_simp
                refine hK.out _ _ (hS _ (hHeld.1.trans' (Kp.alloc No _ _)) (hHeld.2.1.no (Kp.alloc No _ _))) (fun hHeld => ?_)
                clear hK K
                try simp only [Act.put, List.setIfInBounds_toArray, List.set_cons_zero, List.set_cons_succ]
                refine wpAnyH_ready (rs := [8, 22]) (by kernel_rfl) (by simp) ?_
                refine (AllReadyH.cons (o := ?oax25) ?hax25 (fun K hK => ?sax25) (AllReadyH.cons (o := ?oax26) ?hax26 (fun K hK => ?sax26) AllReadyH.nil))
                case hax25 => simp only [List.getElem?_toArray, List.getElem?_cons_zero, List.getElem?_cons_succ]; rfl
                case hax26 => simp only [List.getElem?_toArray, List.getElem?_cons_zero, List.getElem?_cons_succ]; rfl
                case sax25 =>
                  have o8 := HI.out.ownF.no (Kp.alloc No _ (.cells #[.int .i64 (s : Int), .slice Af nf cf] 37))
                  refine step_appT ty_part rfl (.tmp 123) (.tmp 130) _ rfl Try.underlying35 rfl o8 _ _ rfl (nws_two (u0 := .int .i64 (s : Int)) (u1 := .slice Af nf cf) (by simp) (by simp) rfl rfl) (by omega) hHeld.1.size ?_
                  intro A3 n3 c3 w6 hn3 ha1
                  have HN3 := hide hn3
                  clear hn3
                  refine hK.out _ _ (hS _ (ha1.keeps o8 hHeld.1) (hHeld.2.1.keep ha1.kp fun k hk e => ownT_far hHeld.2.1 o8 (by decide) hk e)) (fun hHeld => ?_)
                  clear hK K
                  try simp only [Act.put, List.setIfInBounds_toArray, List.set_cons_zero, List.set_cons_succ]
                  refine wpAnyH_ready (rs := [22]) (by kernel_rfl) (by simp) ?_
                  refine AllReadyH.cons (o := ?oax27) ?hax27 (fun K hK => ?sax27) AllReadyH.nil
                  case hax27 => simp only [List.getElem?_toArray, List.getElem?_cons_zero, List.getElem?_cons_succ]; rfl
                  go_simp
                  refine hK.out _ _ (hS _ (hHeld.1.trans' (Kp.alloc No _ _)) (hHeld.2.1.no (Kp.alloc No _ _))) (fun hHeld => ?_)
                  clear hK K
                  try simp only [Act.put, List.setIfInBounds_toArray, List.set_cons_zero, List.set_cons_succ]
                  refine wpAnyH_ready (rs := [23]) (by kernel_rfl) (by simp) ?_
                  refine AllReadyH.cons (o := ?oax28) ?hax28 (fun K hK => ?sax28) AllReadyH.nil
                  case hax28 => simp only [List.getElem?_toArray, List.getElem?_cons_zero, List.getElem?_cons_succ]; rfl
                  have o23 := HI.out.midW (Kp.alloc No _ (.cells #[.int .i64 (s : Int), .slice Af nf cf] 37)) ha1 (Kp.alloc No w6 (.cells #[.int .i64 (s : Int), .slice Ah rh ch] 37))
                  have n23 : Nws (w6.alloc (.cells #[.int .i64 (s : Int), .slice Ah rh ch] 37)) ⟨w6.heap.size, 0, none⟩ 1 2 [.int .i64 (s : Int), .slice Ah rh ch] := nws_two (by simp) (by simp) rfl rfl
                  refine step_appT ty_part rfl (.tmp 132) (.tmp 145) _ rfl Try.underlying35 rfl o23 _ _ rfl n23 (by omega) hHeld.1.size ?_
                  intro A4 n4 c4 w7 hn4 ha2
                  have HN4 := hide hn4
                  clear hn4
                  have hM := HI.out.mid (Kp.alloc No _ (.cells #[.int .i64 (s : Int), .slice Af nf cf] 37)) ha1 (Kp.alloc No w6 (.cells #[.int .i64 (s : Int), .slice Ah rh ch] 37)) ha2 HHS.out HFR.out
                  refine hK.out _ _ (hS _ (ha2.keeps o23 hHeld.1) (hHeld.2.1.keep ha2.kp fun k hk e => ownT_far hHeld.2.1 o23 (by decide) hk e)) (fun hHeld => ?_)
                  clear hK K
                  try simp only [Act.put, List.setIfInBounds_toArray, List.set_cons_zero, List.set_cons_succ]
                  refine wpAnyH_ready (rs := [24]) (by kernel_rfl) (by simp) ?_
                  refine AllReadyH.cons (o := ?oax29) ?hax29 (fun K hK => ?sax29) AllReadyH.nil
                  case hax29 => simp only [List.getElem?_toArray, List.getElem?_cons_zero, List.getElem?_cons_succ]; rfl
                  go_simp
                  refine hK.out _ _ (hHeld) (fun hHeld => ?_)
                  clear hK K
                  try simp only [Act.put, List.setIfInBounds_toArray, List.set_cons_zero, List.set_cons_succ]
                  refine wpAnyH_ready (rs := [25]) (by kernel_rfl) (by simp) ?_
                  refine AllReadyH.cons (o := ?oax30) ?hax30 (fun K hK => ?sax30) AllReadyH.nil
                  case hax30 => simp only [List.getElem?_toArray, List.getElem?_cons_zero, List.getElem?_cons_succ]; rfl
                  go_simp
                  refine hK.out _ _ (hHeld) (fun hHeld => ?_)
                  clear hK K
                  try simp only [Act.put, List.setIfInBounds_toArray, List.set_cons_zero, List.set_cons_succ]
                  refine wpAnyH_done (by kernel_rfl) ?_ _
                  refine NoPanic.normal ?_
                  go_wp2_with fail
                  go_meet
                  exact ⟨A3, n3, c3, A4, n4, c4, rfl, rfl, hM⟩
                case sax26 =>
                  go_simp
                  refine hK.out _ _ (hS _ (hHeld.1.trans' (Kp.alloc No _ _)) (hHeld.2.1.no (Kp.alloc No _ _))) (fun hHeld => ?_)
                  clear hK K
                  try simp only [Act.put, List.setIfInBounds_toArray, List.set_cons_zero, List.set_cons_succ]
                  refine wpAnyH_ready (rs := [8]) (by kernel_rfl) (by simp) ?_
                  refine AllReadyH.cons (o := ?oax32) ?hax32 (fun K hK => ?sax32) AllReadyH.nil
                  case hax32 => simp only [List.getElem?_toArray, List.getElem?_cons_zero, List.getElem?_cons_succ]; rfl
                  have o8 := HI.out.ownF.no ((Kp.alloc No _ (.cells #[.int .i64 (s : Int), .slice Af nf cf] 37)).trans' (Kp.alloc No _ (.cells #[.int .i64 (s : Int), .slice Ah rh ch] 37)))
                  refine step_appT ty_part rfl (.tmp 123) (.tmp 130) _ rfl Try.underlying35 rfl o8 _ _ rfl (nws_two (u0 := .int .i64 (s : Int)) (u1 := .slice Af nf cf) (by simp) (by simp) rfl rfl) (by omega) hHeld.1.size ?_
                  intro A3 n3 c3 w6 hn3 ha1
                  have HN3 := hide hn3
                  clear hn3
                  refine hK.out _ _ (hS _ (ha1.keeps o8 hHeld.1) (hHeld.2.1.keep ha1.kp fun k hk e => ownT_far hHeld.2.1 o8 (by decide) hk e)) (fun hHeld => ?_)
                  clear hK K
                  try simp only [Act.put, List.setIfInBounds_toArray, List.set_cons_zero, List.set_cons_succ]
                  refine wpAnyH_ready (rs := [23]) (by kernel_rfl) (by simp) ?_
                  refine AllReadyH.cons (o := ?oax33) ?hax33 (fun K hK => ?sax33) AllReadyH.nil
                  case hax33 => simp only [List.getElem?_toArray, List.getElem?_cons_zero, List.getElem?_cons_succ]; rfl
                  have o23 := HI.out.midW ((Kp.alloc No _ (.cells #[.int .i64 (s : Int), .slice Af nf cf] 37)).trans' (Kp.alloc No _ (.cells #[.int .i64 (s : Int), .slice Ah rh ch] 37))) ha1 (Kp.refl No w6)
                  have c0 := ha1.kp.cell (p := ⟨w5.drew.heap.size + 1, 0, none⟩) (v := .int .i64 (s : Int)) (by simp) (fun e => by have : w5.drew.heap.size + 1 < w5.drew.heap.size := HI.out.ownF.lt _ e; omega)
                  have c1' := ha1.kp.cell (p := ⟨w5.drew.heap.size + 1, 1, none⟩) (v := .slice Ah rh ch) (by simp) (fun e => by have : w5.drew.heap.size + 1 < w5.drew.heap.size := HI.out.ownF.lt _ e; omega)
                  have n23 := nws_two c0 c1' rfl rfl
                  refine step_appT ty_part rfl (.tmp 132) (.tmp 145) _ rfl Try.underlying35 rfl o23 _ _ rfl n23 (by omega) hHeld.1.size ?_
                  intro A4 n4 c4 w7 hn4 ha2
                  have HN4 := hide hn4
                  clear hn4
                  have hM := HI.out.mid ((Kp.alloc No _ (.cells #[.int .i64 (s : Int), .slice Af nf cf] 37)).trans' (Kp.alloc No _ (.cells #[.int .i64 (s : Int), .slice Ah rh ch] 37))) ha1 (Kp.refl No w6) ha2 HHS.out HFR.out
                  refine hK.out _ _ (hS _ (ha2.keeps o23 hHeld.1) (hHeld.2.1.keep ha2.kp fun k hk e => ownT_far hHeld.2.1 o23 (by decide) hk e)) (fun hHeld => ?_)
                  clear hK K
                  try simp only [Act.put, List.setIfInBounds_toArray, List.set_cons_zero, List.set_cons_succ]
                  refine wpAnyH_ready (rs := [24]) (by kernel_rfl) (by simp) ?_
                  refine AllReadyH.cons (o := ?oax34) ?hax34 (fun K hK => ?sax34) AllReadyH.nil
                  case hax34 => simp only [List.getElem?_toArray, List.getElem?_cons_zero, List.getElem?_cons_succ]; rfl
                  go_simp
                  refine hK.out _ _ (hHeld) (fun hHeld => ?_)
                  clear hK K
                  try simp only [Act.put, List.setIfInBounds_toArray, List.set_cons_zero, List.set_cons_succ]
                  refine wpAnyH_ready (rs := [25]) (by kernel_rfl) (by simp) ?_
                  refine AllReadyH.cons (o := ?oax35) ?hax35 (fun K hK => ?sax35) AllReadyH.nil
                  case hax35 => simp only [List.getElem?_toArray, List.getElem?_cons_zero, List.getElem?_cons_succ]; rfl
                  go_simp
                  refine hK.out _ _ (hHeld) (fun hHeld => ?_)
                  clear hK K
                  try simp only [Act.put, List.setIfInBounds_toArray, List.set_cons_zero, List.set_cons_succ]
                  refine wpAnyH_done (by kernel_rfl) ?_ _
                  refine NoPanic.normal ?_
                  go_wp2_with fail
                  go_meet
                  exact ⟨A3, n3, c3, A4, n4, c4, rfl, rfl, hM⟩
              case sax23 =>
                go_simp
                refine hK.out _ _ (hS _ (hHeld.1.trans' (Kp.alloc No _ _)) (hHeld.2.1.no (Kp.alloc No _ _))) (fun hHeld => ?_)
                clear hK K
                try simp only [Act.put, List.setIfInBounds_toArray, List.set_cons_zero, List.set_cons_succ]
                refine wpAnyH_ready (rs := [7]) (by kernel_rfl) (by simp) ?_
                refine AllReadyH.cons (o := ?oax37) ?hax37 (fun K hK => ?sax37) AllReadyH.nil
                case hax37 => simp only [List.getElem?_toArray, List.getElem?_cons_zero, List.getElem?_cons_succ]; rfl
                go_simp
                refine hK.out _ _ (hS _ (hHeld.1.trans' (Kp.alloc No _ _)) (hHeld.2.1.no (Kp.alloc No _ _))) (fun hHeld => ?_)
                clear hK K
                try simp only [Act.put, List.setIfInBounds_toArray, List.set_cons_zero, List.set_cons_succ]
                refine wpAnyH_ready (rs := [8]) (by kernel_rfl) (by simp) ?_
                refine AllReadyH.cons (o := ?oax38) ?hax38 (fun K hK => ?sax38) AllReadyH.nil
                case hax38 => simp only [List.getElem?_toArray, List.getElem?_cons_zero, List.getElem?_cons_succ]; rfl
                have o8 := HI.out.ownF.no ((Kp.alloc No _ (.cells #[.int .i64 (s : Int), .slice Ah rh ch] 37)).trans' (Kp.alloc No _ (.cells #[.int .i64 (s : Int), .slice Af nf cf] 37)))
                refine step_appT ty_part rfl (.tmp 123) (.tmp 130) _ rfl Try.underlying35 rfl o8 _ _ rfl (nws_two (u0 := .int .i64 (s : Int)) (u1 := .slice Af nf cf) (by simp) (by simp) rfl rfl) (by omega) hHeld.1.size ?_
                intro A3 n3 c3 w6 hn3 ha1
                have HN3 := hide hn3
                clear hn3
                refine hK.out _ _ (hS _ (ha1.keeps o8 hHeld.1) (hHeld.2.1.keep ha1.kp fun k hk e => ownT_far hHeld.2.1 o8 (by decide) hk e)) (fun hHeld => ?_)
                clear hK K
                try simp only [Act.put, List.setIfInBounds_toArray, List.set_cons_zero, List.set_cons_succ]
                refine wpAnyH_ready (rs := [23]) (by kernel_rfl) (by simp) ?_
                refine AllReadyH.cons (o := ?oax39) ?hax39 (fun K hK => ?sax39) AllReadyH.nil
                case hax39 => simp only [List.getElem?_toArray, List.getElem?_cons_zero, List.getElem?_cons_succ]; rfl
                have o23 := HI.out.midW ((Kp.alloc No _ (.cells #[.int .i64 (s : Int), .slice Ah rh ch] 37)).trans' (Kp.alloc No _ (.cells #[.int .i64 (s : Int), .slice Af nf cf] 37))) ha1 (Kp.refl No w6)
                have c0 := ha1.kp.cell (p := ⟨w5.drew.heap.size, 0, none⟩) (v := .int .i64 (s : Int)) (by simp) (fun e => by have : w5.drew.heap.size < w5.drew.heap.size := HI.out.ownF.lt _ e; omega)
                have c1' := ha1.kp.cell (p := ⟨w5.drew.heap.size, 1, none⟩) (v := .slice Ah rh ch) (by simp) (fun e => by have : w5.drew.heap.size < w5.drew.heap.size := HI.out.ownF.lt _ e; omega)
                have n23 := nws_two c0 c1' rfl rfl
                refine step_appT ty_part rfl (.tmp 132) (.tmp 145) _ rfl Try.underlying35 rfl o23 _ _ rfl n23 (by omega) hHeld.1.size ?_
                intro A4 n4 c4 w7 hn4 ha2
                have HN4 := hide hn4
                clear hn4
                have hM := HI.out.mid ((Kp.alloc No _ (.cells #[.int .i64 (s : Int), .slice Ah rh ch] 37)).trans' (Kp.alloc No _ (.cells #[.int .i64 (s : Int), .slice Af nf cf] 37))) ha1 (Kp.refl No w6) ha2 HHS.out HFR.out
                refine hK.out _ _ (hS _ (ha2.keeps o23 hHeld.1) (hHeld.2.1.keep ha2.kp fun k hk e => ownT_far hHeld.2.1 o23 (by decide) hk e)) (fun hHeld => ?_)
                clear hK K
                try simp only [Act.put, List.setIfInBounds_toArray, List.set_cons_zero, List.set_cons_succ]
                refine wpAnyH_ready (rs := [24]) (by kernel_rfl) (by simp) ?_
                refine AllReadyH.cons (o := ?oax40) ?hax40 (fun K hK => ?sax40) AllReadyH.nil
                case hax40 => simp only [List.getElem?_toArray, List.getElem?_cons_zero, List.getElem?_cons_succ]; rfl
                go_simp
                refine hK.out _ _ (hHeld) (fun hHeld => ?_)
                clear hK K
                try simp only [Act.put, List.setIfInBounds_toArray, List.set_cons_zero, List.set_cons_succ]
                refine wpAnyH_ready (rs := [25]) (by kernel_rfl) (by simp) ?_
                refine AllReadyH.cons (o := ?oax41) ?hax41 (fun K hK => ?sax41) AllReadyH.nil
                case hax41 => simp only [List.getElem?_toArray, List.getElem?_cons_zero, List.getElem?_cons_succ]; rfl
                go_simp
                refine hK.out _ _ (hHeld) (fun hHeld => ?_)
                clear hK K
                try simp only [Act.put, List.setIfInBounds_toArray, List.set_cons_zero, List.set_cons_succ]
                refine wpAnyH_done (by kernel_rfl) ?_ _
                refine NoPanic.normal ?_
                go_wp2_with fail
                go_meet
                exact ⟨A3, n3, c3, A4, n4, c4, rfl, rfl, hM⟩
            case rest =>
              clear HI HFR hS
              obtain ⟨A3, n3, c3, A4, n4, c4, rfl, rfl, hM⟩ := hcut
              have HM3 := hide hM
              have HSP := hide hsp
              have HPLT := hide hplt
              have HX1 : Hid (∀ w', Kp No wc.drew w' → Nws w' ⟨gl, 0, none⟩ p 1 ((lf.map fun s : Nat => Value.int .i64 (s : Int)).take p)) := fun w' hk => (hM.ownL.no ((Sm.drew wc).kp.trans' hk)).nws_upto (by omega)
              have hr : r = lf.length := HRL.out
              have HPR : Hid (p < r ∧ r ≤ 24 ∧ p + (r - (p + 1)) ≤ 24) := ⟨by omega, by omega, by omega⟩
              have HLE : Hid ((List.take p lf ++ List.drop (p + 1) lf).length = 0 + p + (r - (p + 1)) ∧ ((List.take p lf ++ List.drop (p + 1) lf).map fun s : Nat => Value.int .i64 (s : Int)) = [] ++ (lf.map fun s : Nat => Value.int .i64 (s : Int)).take p ++ (lf.map fun s : Nat => Value.int .i64 (s : Int)).drop (p + 1)) := by
                refine ⟨?_, ?_⟩
                · rw [List.length_append, List.length_take, List.length_drop]; omega
                · rw [List.map_append, List.map_take, List.map_drop, List.nil_append]
              have hcl : r ≤ cl := by rw [hr]; exact hM.ownL.cap
              have wk : IntKind.i64.wrap ((p : Int) + 1) = (p : Int) + 1 := IntWalk.i64_in _ (by omega)
              have q1 : (0 : Int) ≤ (p : Int) + 1 := by omega
              have q2 : ((p : Int) + 1).toNat = p + 1 := by omega
              have q3 : (p : Int) + 1 ≤ (r : Int) := by omega
              have q4 : (p : Int) ≤ (cl : Int) := by omega
              have q5 : (p : Int) ≤ (p : Int) + 1 := by omega
              have HX2a : cl = p + 1 → Hid (∀ w', Kp No wc.drew w' → Nws w' ⟨gl, 0, none⟩ (r - (p + 1)) 1 ((lf.map fun s : Nat => Value.int .i64 (s : Int)).drop (p + 1))) := fun hcap w' hk => by
                have e : r - (p + 1) = 0 := by omega
                rw [e, List.drop_eq_nil_of_le (by rw [List.length_map]; omega)]
                exact nws_none _ _
              have HX2b : Hid (∀ w', Kp No wc.drew w' → Nws w' ⟨gl, p + 1, none⟩ (r - (p + 1)) 1 ((lf.map fun s : Nat => Value.int .i64 (s : Int)).drop (p + 1))) := fun w' hk => by
                rw [hr]
                exact (hM.ownL.no ((Sm.drew wc).kp.trans' hk)).nws_from (by omega)
              clear hr hM hplt hsp
              go_wp2_with fail
              by_cases hcap : cl = p + 1
              · have HX2 := HX2a hcap
                clear HX2a HX2b
                refine wp_region_noPanic ?_
                refine wp_region_held_drew (S := fun _ => True) (by kernel_rfl) (trivial) (fun hHeld => ?_)
                refine wpAnyH_take (i := 1) (v := ?vbx1) (oi := ?obx1) ?hbx1 (by kernel_rfl) (by kernel_rfl) (by kernel_rfl) (fun _ _ _ h => h) (Or.inl ⟨?wbx1, ?ybx1⟩) hHeld ?rbx1
                case hbx1 => simp only [List.getElem?_toArray, List.getElem?_cons_zero, List.getElem?_cons_succ]; rfl
                case wbx1 => rfl
                case ybx1 => intro w hSw; (try dsimp only at hSw); go_simp; (try with_reducible rfl)
                simp only [Act.put, List.setIfInBounds_toArray, List.set_cons_zero, List.set_cons_succ]
                refine wpAnyH_take (i := 2) (v := ?vbx2) (oi := ?obx2) ?hbx2 (by kernel_rfl) (by kernel_rfl) (by kernel_rfl) (fun _ _ _ h => h) (Or.inl ⟨?wbx2, ?ybx2⟩) hHeld ?rbx2
                case hbx2 => simp only [List.getElem?_toArray, List.getElem?_cons_zero, List.getElem?_cons_succ]; rfl
                case wbx2 => rfl
                case ybx2 => intro w hSw; (try dsimp only at hSw); go_simp; (try with_reducible rfl)
                simp only [Act.put, List.setIfInBounds_toArray, List.set_cons_zero, List.set_cons_succ]
                refine wpAnyH_take (i := 3) (v := ?vbx3) (oi := ?obx3) ?hbx3 (by kernel_rfl) (by kernel_rfl) (by kernel_rfl) (fun _ _ _ h => h) (Or.inl ⟨?wbx3, ?ybx3⟩) hHeld ?rbx3
                case hbx3 => simp only [List.getElem?_toArray, List.getElem?_cons_zero, List.getElem?_cons_succ]; rfl
                case wbx3 => rfl
                case ybx3 => intro w hSw; (try dsimp only at hSw); go_simp; (try with_reducible rfl)
                simp only [Act.put, List.setIfInBounds_toArray, List.set_cons_zero, List.set_cons_succ]
                refine wpAnyH_take (i := 5) (v := ?vbx4) (oi := ?obx4) ?hbx4 (by kernel_rfl) (by kernel_rfl) (by kernel_rfl) (fun _ _ _ h => h) (Or.inl ⟨?wbx4, ?ybx4⟩) hHeld ?rbx4
                case hbx4 => simp only [List.getElem?_toArray, List.getElem?_cons_zero, List.getElem?_cons_succ]; rfl
                case wbx4 => rfl
                case ybx4 => intro w hSw; (try dsimp only at hSw); go_simp; (try with_reducible rfl)
                simp only [Act.put, List.setIfInBounds_toArray, List.set_cons_zero, List.set_cons_succ]
                refine wpAnyH_take (i := 6) (v := ?vbx5) (oi := ?obx5) ?hbx5 (by kernel_rfl) (by kernel_rfl) (by kernel_rfl) (fun _ _ _ h => h) (Or.inl ⟨?wbx5, ?ybx5⟩) hHeld ?rbx5
                case hbx5 => simp only [List.getElem?_toArray, List.getElem?_cons_zero, List.getElem?_cons_succ]; rfl
                case wbx5 => rfl
                case ybx5 => intro w hSw; (try dsimp only at hSw); go_simp; (try with_reducible rfl)
                simp only [Act.put, List.setIfInBounds_toArray, List.set_cons_zero, List.set_cons_succ]
                refine wpAnyH_take (i := 7) (v := ?vbx6) (oi := ?obx6) ?hbx6 (by kernel_rfl) (by kernel_rfl) (by kernel_rfl) (fun _ _ _ h => h) (Or.inl ⟨?wbx6, ?ybx6⟩) hHeld ?rbx6
                case hbx6 => simp only [List.getElem?_toArray, List.getElem?_cons_zero, List.getElem?_cons_succ]; rfl
                case wbx6 => rfl
                case ybx6 => intro w hSw; (try dsimp only at hSw); go_simp; (try with_reducible rfl)
                simp only [Act.put, List.setIfInBounds_toArray, List.set_cons_zero, List.set_cons_succ]
                refine wpAnyH_take (i := 8) (v := ?vbx7) (oi := ?obx7) ?hbx7 (by kernel_rfl) (by kernel_rfl) (by kernel_rfl) (fun _ _ _ h => h) (Or.inl ⟨?wbx7, ?ybx7⟩) hHeld ?rbx7
                case hbx7 => simp only [List.getElem?_toArray, List.getElem?_cons_zero, List.getElem?_cons_succ]; rfl
                case wbx7 => rfl
                case ybx7 => intro w hSw; (try dsimp only at hSw); go_simp; (try with_reducible rfl)
                simp only [Act.put, List.setIfInBounds_toArray, List.set_cons_zero, List.set_cons_succ]
                refine wpAnyH_ready (rs := [0]) (by kernel_rfl) (by simp) ?_
                refine AllReadyH.cons (o := ?obx8) ?hbx8 (fun K hK => ?sbx8) AllReadyH.nil
                case hbx8 => simp only [List.getElem?_toArray, List.getElem?_cons_zero, List.getElem?_cons_succ]; rfl
                go_simp
                refine hK.out _ _ (trivial) (fun hHeld => ?_)
                clear hK K
                try simp only [Act.put, List.setIfInBounds_toArray, List.set_cons_zero, List.set_cons_succ]
                refine wpAnyH_ready (rs := [4]) (by kernel_rfl) (by simp) ?_
                refine AllReadyH.cons (o := ?obx9) ?hbx9 (fun K hK => ?sbx9) AllReadyH.nil
                case hbx9 => simp only [List.getElem?_toArray, List.getElem?_cons_zero, List.getElem?_cons_succ]; rfl
                refine step_appT ty_int rfl (.tmp 147) (.tmp 150) _ rfl Try.underlying38 rfl (ownT_empty wc.drew) _ _ rfl (HX1.out _ (Kp.alloc No _ _)) (by have := HPR.out; omega) ?hb4b ?_
                case hb4b => simp
                intro A7 n7 c7 w7 hn7 ha7
                have HN7 := hide hn7
                clear hn7
                have k7 : Kp No wc.drew w7 := ha7.keeps (ownT_empty wc.drew) (Kp.alloc No _ _)
                refine hK.out _ _ (trivial) (fun hHeld => ?_)
                clear hK K
                try simp only [Act.put, List.setIfInBounds_toArray, List.set_cons_zero, List.set_cons_succ]
                refine wpAnyH_ready (rs := [9]) (by kernel_rfl) (by simp) ?_
                refine AllReadyH.cons (o := ?obx10) ?hbx10 (fun K hK => ?sbx10) AllReadyH.nil
                case hbx10 => simp only [List.getElem?_toArray, List.getElem?_cons_zero, List.getElem?_cons_succ]; rfl
                refine step_appT ty_int rfl (.tmp 151) (.tmp 155) _ rfl Try.underlying38 rfl ha7.own _ _ rfl (HX2.out _ k7) (by have := HPR.out; omega) k7.size ?_
                intro A8 n8 c8 w8 hn8 ha8
                have HN8 := hide hn8
                clear hn8
                have k8 : Kp No wc.drew w8 := ha8.keeps ha7.own k7
                refine hK.out _ _ (trivial) (fun hHeld => ?_)
                clear hK K
                try simp only [Act.put, List.setIfInBounds_toArray, List.set_cons_zero, List.set_cons_succ]
                refine wpAnyH_ready (rs := [10]) (by kernel_rfl) (by simp) ?_
                refine AllReadyH.cons (o := ?obx11) ?hbx11 (fun K hK => ?sbx11) AllReadyH.nil
                case hbx11 => simp only [List.getElem?_toArray, List.getElem?_cons_zero, List.getElem?_cons_succ]; rfl
                go_simp
                refine hK.out _ _ (trivial) (fun hHeld => ?_)
                clear hK K
                try simp only [Act.put, List.setIfInBounds_toArray, List.set_cons_zero, List.set_cons_succ]
                refine wpAnyH_done (by kernel_rfl) ?_ _
                refine NoPanic.normal ?_
                go_wp2_with fail
                go_round
                case rel => exact ⟨j + 1, _, _, A3, n3, c3, A4, n4, c4, A8, n8, c8, by omega, by go_num, rfl, rfl, rfl, HM3.out.next HSP.out HPLT.out k8 (by rw [HLE.out.1, HLE.out.2]; exact ha8.own) rfl⟩
                case measure => simp [intOf]; omega
              · have HX2 := HX2b
                clear HX2a HX2b
                refine wp_region_noPanic ?_
                refine wp_region_held_drew (S := fun _ => True) (by kernel_rfl) (trivial) (fun hHeld => ?_)
                refine wpAnyH_take (i := 1) (v := ?vcx1) (oi := ?ocx1) ?hcx1 (by kernel_rfl) (by kernel_rfl) (by kernel_rfl) (fun _ _ _ h => h) (Or.inl ⟨?wcx1, ?ycx1⟩) hHeld ?rcx1
                case hcx1 => simp only [List.getElem?_toArray, List.getElem?_cons_zero, List.getElem?_cons_succ]; rfl
                case wcx1 => rfl
                case ycx1 => intro w hSw; (try dsimp only at hSw); go_simp; (try with_reducible rfl)
                simp only [Act.put, List.setIfInBounds_toArray, List.set_cons_zero, List.set_cons_succ]
                refine wpAnyH_take (i := 2) (v := ?vcx2) (oi := ?ocx2) ?hcx2 (by kernel_rfl) (by kernel_rfl) (by kernel_rfl) (fun _ _ _ h => h) (Or.inl ⟨?wcx2, ?ycx2⟩) hHeld ?rcx2
                case hcx2 => simp only [List.getElem?_toArray, List.getElem?_cons_zero, List.getElem?_cons_succ]; rfl
                case wcx2 => rfl
                case ycx2 => intro w hSw; (try dsimp only at hSw); go_simp; (try with_reducible rfl)
                simp only [Act.put, List.setIfInBounds_toArray, List.set_cons_zero, List.set_cons_succ]
                refine wpAnyH_take (i := 3) (v := ?vcx3) (oi := ?ocx3) ?hcx3 (by kernel_rfl) (by kernel_rfl) (by kernel_rfl) (fun _ _ _ h => h) (Or.inl ⟨?wcx3, ?ycx3⟩) hHeld ?rcx3
                case hcx3 => simp only [List.getElem?_toArray, List.getElem?_cons_zero, List.getElem?_cons_succ]; rfl
                case wcx3 => rfl
                case ycx3 => intro w hSw; (try dsimp only at hSw); go_simp; (try with_reducible rfl)
                simp only [Act.put, List.setIfInBounds_toArray, List.set_cons_zero, List.set_cons_succ]
                refine wpAnyH_take (i := 5) (v := ?vcx4) (oi := ?ocx4) ?hcx4 (by kernel_rfl) (by kernel_rfl) (by kernel_rfl) (fun _ _ _ h => h) (Or.inl ⟨?wcx4, ?ycx4⟩) hHeld ?rcx4
                case hcx4 => simp only [List.getElem?_toArray, List.getElem?_cons_zero, List.getElem?_cons_succ]; rfl
                case wcx4 => rfl
                case ycx4 => intro w hSw; (try dsimp only at hSw); go_simp; (try with_reducible rfl)
                simp only [Act.put, List.setIfInBounds_toArray, List.set_cons_zero, List.set_cons_succ]
                refine wpAnyH_take (i := 6) (v := ?vcx5) (oi := ?ocx5) ?hcx5 (by kernel_rfl) (by kernel_rfl) (by kernel_rfl) (fun _ _ _ h => h) (Or.inl ⟨?wcx5, ?ycx5⟩) hHeld ?rcx5
                case hcx5 => simp only [List.getElem?_toArray, List.getElem?_cons_zero, List.getElem?_cons_succ]; rfl
                case wcx5 => rfl
                case ycx5 => intro w hSw; (try dsimp only at hSw); go_simp; (try with_reducible rfl)
                simp only [Act.put, List.setIfInBounds_toArray, List.set_cons_zero, List.set_cons_succ]
                refine wpAnyH_take (i := 7) (v := ?vcx6) (oi := ?ocx6) ?hcx6 (by kernel_rfl) (by kernel_rfl) (by kernel_rfl) (fun _ _ _ h => h) (Or.inl ⟨?wcx6, ?ycx6⟩) hHeld ?rcx6
                case hcx6 => simp only [List.getElem?_toArray, List.getElem?_cons_zero, List.getElem?_cons_succ]; rfl
                case wcx6 => rfl
                case ycx6 => intro w hSw; (try dsimp only at hSw); go_simp; (try with_reducible rfl)
                simp only [Act.put, List.setIfInBounds_toArray, List.set_cons_zero, List.set_cons_succ]
                refine wpAnyH_take (i := 8) (v := ?vcx7) (oi := ?ocx7) ?hcx7 (by kernel_rfl) (by kernel_rfl) (by kernel_rfl) (fun _ _ _ h => h) (Or.inl ⟨?wcx7, ?ycx7⟩) hHeld ?rcx7
                case hcx7 => simp only [List.getElem?_toArray, List.getElem?_cons_zero, List.getElem?_cons_succ]; rfl
                case wcx7 => rfl
                case ycx7 => intro w hSw; (try dsimp only at hSw); go_simp; (try with_reducible rfl)
                simp only [Act.put, List.setIfInBounds_toArray, List.set_cons_zero, List.set_cons_succ]
                refine wpAnyH_ready (rs := [0]) (by kernel_rfl) (by simp) ?_
                refine AllReadyH.cons (o := ?ocx8) ?hcx8 (fun K hK => ?scx8) AllReadyH.nil
                case hcx8 => simp only [List.getElem?_toArray, List.getElem?_cons_zero, List.getElem?_cons_succ]; rfl
                go_simp
                refine hK.out _ _ (trivial) (fun hHeld => ?_)
                clear hK K
                try simp only [Act.put, List.setIfInBounds_toArray, List.set_cons_zero, List.set_cons_succ]
                refine wpAnyH_ready (rs := [4]) (by kernel_rfl) (by simp) ?_
                refine AllReadyH.cons (o := ?ocx9) ?hcx9 (fun K hK => ?scx9) AllReadyH.nil
                case hcx9 => simp only [List.getElem?_toArray, List.getElem?_cons_zero, List.getElem?_cons_succ]; rfl
                refine step_appT ty_int rfl (.tmp 147) (.tmp 150) _ rfl Try.underlying38 rfl (ownT_empty wc.drew) _ _ rfl (HX1.out _ (Kp.alloc No _ _)) (by have := HPR.out; omega) ?hb4c ?_
                case hb4c => simp
                intro A7 n7 c7 w7 hn7 ha7
                have HN7 := hide hn7
                clear hn7
                have k7 : Kp No wc.drew w7 := ha7.keeps (ownT_empty wc.drew) (Kp.alloc No _ _)
                refine hK.out _ _ (trivial) (fun hHeld => ?_)
                clear hK K
                try simp only [Act.put, List.setIfInBounds_toArray, List.set_cons_zero, List.set_cons_succ]
                refine wpAnyH_ready (rs := [9]) (by kernel_rfl) (by simp) ?_
                refine AllReadyH.cons (o := ?ocx10) ?hcx10 (fun K hK => ?scx10) AllReadyH.nil
                case hcx10 => simp only [List.getElem?_toArray, List.getElem?_cons_zero, List.getElem?_cons_succ]; rfl
                refine step_appT ty_int rfl (.tmp 151) (.tmp 155) _ rfl Try.underlying38 rfl ha7.own _ _ rfl (HX2.out _ k7) (by have := HPR.out; omega) k7.size ?_
                intro A8 n8 c8 w8 hn8 ha8
                have HN8 := hide hn8
                clear hn8
                have k8 : Kp No wc.drew w8 := ha8.keeps ha7.own k7
                refine hK.out _ _ (trivial) (fun hHeld => ?_)
                clear hK K
                try simp only [Act.put, List.setIfInBounds_toArray, List.set_cons_zero, List.set_cons_succ]
                refine wpAnyH_ready (rs := [10]) (by kernel_rfl) (by simp) ?_
                refine AllReadyH.cons (o := ?ocx11) ?hcx11 (fun K hK => ?scx11) AllReadyH.nil
                case hcx11 => simp only [List.getElem?_toArray, List.getElem?_cons_zero, List.getElem?_cons_succ]; rfl
                go_simp
                refine hK.out _ _ (trivial) (fun hHeld => ?_)
                clear hK K
                try simp only [Act.put, List.setIfInBounds_toArray, List.set_cons_zero, List.set_cons_succ]
                refine wpAnyH_done (by kernel_rfl) ?_ _
                refine NoPanic.normal ?_
                go_wp2_with fail
                go_round
                case rel => exact ⟨j + 1, _, _, A3, n3, c3, A4, n4, c4, A8, n8, c8, by omega, by go_num, rfl, rfl, rfl, HM3.out.next HSP.out HPLT.out k8 (by rw [HLE.out.1, HLE.out.2]; exact ha8.own) rfl⟩
                case measure => simp [intOf]; omega
        · obtain rfl : j = d := by omega
          obtain ⟨d, hdd⟩ : ∃ d, d = j := ⟨_, rfl⟩
          subst hdd
          obtain ⟨gf, rfl, hn1e⟩ := hI.ownF.some_ (by omega)
          obtain rfl : d = n1 := hn1e
          obtain ⟨gw, rfl, hn2e⟩ := hI.ownW.some_ (by omega)
          obtain rfl : d = n2 := hn2e
          have hpkl := hI.lenP
          obtain ⟨hv, hhv⟩ : ∃ hv : Nat → Nat × Value, ∀ u, u < d → pk[u]? = some (hv u) := ⟨fun u => pk.getD u (0, .slice none 0 0), fun u hu => by show pk[u]? = some (pk.getD u (0, .slice none 0 0)); rw [List.getD_eq_getElem?_getD, List.getElem?_eq_getElem (by omega)]; rfl⟩
          have hmp : ∀ u, u < d → (pk.map fun p => p.1)[u]? = some (hv u).1 := fun u hu => by rw [List.getElem?_map, hhv u hu]; rfl
          have hin : ∀ u, u < d → (hv u).1 < n ∧ (hv u).1 ≠ la := fun u hu => hI.lt _ (List.mem_append_left _ (List.mem_of_getElem? (hmp u hu)))
          have hne : ∀ u v, u < v → v < d → (hv u).1 ≠ (hv v).1 := fun u v hu hv' e => by
            have h5 := (List.nodup_append.1 hI.nd).1
            have h6 := hmp u (by omega)
            have h7 := hmp v hv'
            rw [e] at h6
            have := (List.getElem?_inj (i := u) (j := v) (by rw [List.length_map]; omega) h5).1 (h6.trans h7.symm)
            omega
          have hPF : Prts wr (some ⟨gf, 0, none⟩) d (fun u => (((hv u).1 : Nat) : Int)) fun u => fbB a d L bs (x (hv u).1) (x la) := ⟨fun u hu => by
            obtain ⟨f1, f2⟩ := flat_getP (fun p : Nat × Value => Value.int .i64 (p.1 : Int)) (fun p => p.2) pk u _ (hhv u hu)
            obtain ⟨g1, e1, _, _, _, x1⟩ := hI.ownF.cell f1
            obtain ⟨g2, e2, _, _, _, x2⟩ := hI.ownF.cell f2
            injection e1 with e1
            injection e1 with e1
            subst e1
            injection e2 with e2
            injection e2 with e2
            subst e2
            have hfr := hI.frag _ (List.mem_of_getElem? (hhv u hu))
            obtain ⟨Ah, rh, ch, e3⟩ := hfr.form
            rw [e3] at x2 hfr
            exact ⟨gf, 0, Ah, rh, ch, rfl, by rw [Nat.zero_add]; exact x1, by rw [Nat.zero_add]; exact x2, hfr.bts⟩⟩
          have hPW : Prts wr (some ⟨gw, 0, none⟩) d (fun u => (((hv u).1 : Nat) : Int)) fun u => shB a d L bs (x (hv u).1) := ⟨fun u hu => by
            obtain ⟨Ah, rh, ch, z2, hhs, hb⟩ := HH.out _ (hin u hu).1
            obtain ⟨f1, f2⟩ := flat_getP (fun p : Nat × Value => Value.int .i64 (p.1 : Int)) (fun p => hdr p.1) pk u _ (hhv u hu)
            obtain ⟨g1, e1, _, _, _, x1⟩ := hI.ownW.cell f1
            obtain ⟨g2, e2, _, _, _, x2⟩ := hI.ownW.cell f2
            injection e1 with e1
            injection e1 with e1
            subst e1
            injection e2 with e2
            injection e2 with e2
            subst e2
            rw [hhs] at x2
            exact ⟨gw, 0, Ah, rh, ch, rfl, by rw [Nat.zero_add]; exact x1, by rw [Nat.zero_add]; exact x2, hb.no hI.kp⟩⟩
          have hcapF := hI.ownF.cap
          have hcapW := hI.ownW.cap
          have hUd : Uq d fun u => x ((fun u => (hv u).1) u) := uq_of_pow (uq_slots HX.out.uq (fun u hu => (hin u hu).1) hne)
          have hUk := uq_slots (k := k) (ss := fun u => (hv u).1) HX.out.uq (fun u hu => (hin u (by have := hkd.out; omega)).1) fun u v hu hv' => hne u v hu (by have := hkd.out; omega)
          have hLpos : a * L ≠ 0 := by
            have := Nat.mul_pos HD.out.a1 hL
            omega
          have hgW : ∀ u, u < d → PGood n (fun u => (((hv u).1 : Nat) : Int)) (fun u => shB a d L bs (x (hv u).1)) u := fun u hu => ⟨⟨Int.natCast_nonneg _, Int.ofNat_lt.2 (hin u hu).1⟩, fun v hv' e => hne v u hv' hu (Int.ofNat_inj.1 (show (((hv v).1 : Nat) : Int) = (((hv u).1 : Nat) : Int) from e)), by unfold shB; rw [rowL_len]; exact hLpos, by unfold shB; rw [rowL_len, rowL_len]⟩
          have hgF : ∀ u, u < d → HGood n (la : Int) (fun u => (((hv u).1 : Nat) : Int)) (fun u => fbB a d L bs (x (hv u).1) (x la)) u := fun u hu => ⟨⟨(hgW u hu).1, (hgW u hu).2.1, by unfold fbB; rw [rowL_len]; omega, by unfold fbB; rw [rowL_len, rowL_len]⟩, fun e => (hin u hu).2 (Int.ofNat_inj.1 e)⟩
          obtain ⟨W, hW⟩ : ∃ W, W = a * L := ⟨_, rfl⟩
          have hreg := reg_ok (cp := c1) (ss := fun u => (hv u).1) (S := L) (W := W) (hC2.no hI.kp) HD.out HX.out hPF (by omega) hcapF (Nat.le_refl _) hgF (fun u _ => rfl) hlan (by unfold fbB; rw [rowL_len]) (by have := hLm.out; omega) hW
          have HWH := hide (fun w' (hk : Kp No wr w') => who_ok (cp := c2) (ss := fun u => (hv u).1) (L := L) (W := m) ((hC2.no hI.kp).no hk) HD.out HX.out (hPW.no hk) (by omega) hcapW hkd.out hgW (fun u _ => rfl) (by unfold shB; rw [rowL_len]) hL HF.out (by omega) hlan)
          have HMR : Hid (∀ G, EqF d d (mulF d (vF fun u => x ((fun u => (hv u).1) u)) G) oneF → rowL W (rgE G a d L (x la) fun u => fbB a d L bs (x (hv u).1) (x la)) = shB a d L bs (x la)) := fun G hG => heal_back HD.out hL hW hUd (fun _ _ => rfl) hG
          have HMB : Hid (∀ X, EqF q L (mulF q (eqM a (plcF a) fun u => x ((fun u => (hv u).1) u)) X) (knF a L fun u => shB a d L bs (x (hv u).1)) → (rowL m fun t => X (t / L) (t % L)) = bs) := fun X hXX => by
            rw [HF.out]
            exact msg_back HD.out (ss := fun u => (hv u).1) (by rw [← HBL.out]; exact HF.out) hL (fun _ _ => rfl) hUk hXX
          obtain ⟨Az, nz, cz, zz, _, hbz⟩ := HH.out la hlan
          have hkr := hk2'.trans' hI.kp
          have hk2r := hI.kp
          clear hI hpkl hhv hmp hin hne hPF hPW hcapF hcapW hUd hUk hgW hgF hLpos hW
          have h2k := H2K.out
          go_wp2_with fail
          clear h2k
          refine hreg.mono ?_
          rintro e w4 ⟨G, Ax, nx, cx, rfl, hox, hEx, hk4⟩
          have hbx := hox.bts
          rw [HMR.out G hEx] at hbx
          clear hreg hox hEx HMR
          go_wp2_with fail
          refine (HWH.out w4 hk4).mono ?_
          rintro e w6 ⟨X, Ay, ny, cy, rfl, hby, hEy, hk6⟩
          rw [HMB.out X hEy] at hby
          have hby' : Bts w6 (.slice Ay ny cy) (shB a d L bs (x la)) := hby
          clear hby hEy HMB HWH
          have hbx6 := hbx.no hk6
          have hbz6 := hbz.no ((hk2r.trans' hk4).trans' hk6)
          have zz6 := ((hk2r.trans' hk4).trans' hk6).cell zz fun f => f
          have hk6' := (hkr.trans' hk4).trans' hk6
          have hlai : (la : Int) < (n : Int) := by omega
          generalize shB a d L bs (x la) = YS at *
          obtain ⟨tt, htt⟩ : ∃ tt, tt = strOf YS := ⟨_, rfl⟩
          have HT := hide htt
          have hS : ∀ u, Kp No w6 u → (Kp No w6 u ∧ Bts u (.slice Ax nx cx) YS ∧ Bts u (.slice Ay ny cy) YS ∧ u.cell? ⟨B2, o2 + la, none⟩ = some (.slice Az nz cz) ∧ Bts u (.slice Az nz cz) YS) := fun u hk => ⟨hk, hbx6.no hk, hby'.no hk, hk.cell zz6 fun f => f, hbz6.no hk⟩
          clear htt hbx hbx6 hby' hbz hbz6 zz zz6 hk4 hk6 hkr hk2r
          go_wp2_with fail
          refine wp_region_noPanic ?_
          refine wp_region_held_drew (S := fun w' => Kp No w6 w' ∧ Bts w' (.slice Ax nx cx) YS ∧ Bts w' (.slice Ay ny cy) YS ∧ w'.cell? ⟨B2, o2 + la, none⟩ = some (.slice Az nz cz) ∧ Bts w' (.slice Az nz cz) YS) (by kernel_rfl) (hS _ (Sm.drew w6).kp) (fun hHeld => ?_)
          refine wpAnyH_take (i := 0) (v := ?vdx1) (oi := ?odx1) ?hdx1 (by kernel_rfl) (by kernel_rfl) (by kernel_rfl) (fun _ _ _ h => h) (Or.inl ⟨?wdx1, ?ydx1⟩) hHeld ?rdx1
          case hdx1 => simp only [List.getElem?_toArray, List.getElem?_cons_zero, List.getElem?_cons_succ]; rfl
          case wdx1 => rfl
          case ydx1 => intro w hSw; (try dsimp only at hSw); go_simp; (try with_reducible rfl)
          simp only [Act.put, List.setIfInBounds_toArray, List.set_cons_zero, List.set_cons_succ]
          refine wpAnyH_take (i := 1) (v := ?vdx2) (oi := ?odx2) ?hdx2 (by kernel_rfl) (by kernel_rfl) (by kernel_rfl) (fun _ _ _ h => h) (Or.inl ⟨?wdx2, ?ydx2⟩) hHeld ?rdx2
          case hdx2 => simp only [List.getElem?_toArray, List.getElem?_cons_zero, List.getElem?_cons_succ]; rfl
          case wdx2 => rfl
          case ydx2 => intro w hSw; (try dsimp only at hSw); go_simp; (try with_reducible rfl)
          simp only [Act.put, List.setIfInBounds_toArray, List.set_cons_zero, List.set_cons_succ]
          refine wpAnyH_take (i := 2) (v := ?vdx3) (oi := ?odx3) ?hdx3 (by kernel_rfl) (by kernel_rfl) (by kernel_rfl) (fun _ _ _ h => h) (Or.inl ⟨?wdx3, ?ydx3⟩) hHeld ?rdx3
          case hdx3 => simp only [List.getElem?_toArray, List.getElem?_cons_zero, List.getElem?_cons_succ]; rfl
          case wdx3 => rfl
          case ydx3 => intro w hSw; (try dsimp only at hSw); go_simp; (try with_reducible rfl)
          simp only [Act.put, List.setIfInBounds_toArray, List.set_cons_zero, List.set_cons_succ]
          refine wpAnyH_take (i := 3) (v := ?vdx4) (oi := ?odx4) ?hdx4 (by kernel_rfl) (by kernel_rfl) (by kernel_rfl) (fun _ _ _ h => h) (Or.inl ⟨?wdx4, ?ydx4⟩) hHeld ?rdx4
          case hdx4 => simp only [List.getElem?_toArray, List.getElem?_cons_zero, List.getElem?_cons_succ]; rfl
          case wdx4 => rfl
          case ydx4 => intro w hSw; (try dsimp only at hSw); go_simp; (try with_reducible rfl)
          simp only [Act.put, List.setIfInBounds_toArray, List.set_cons_zero, List.set_cons_succ]
          refine wpAnyH_take (i := 4) (v := ?vdx5) (oi := ?odx5) ?hdx5 (by kernel_rfl) (by kernel_rfl) (by kernel_rfl) (fun _ _ _ h => h) (Or.inl ⟨?wdx5, ?ydx5⟩) hHeld ?rdx5
          case hdx5 => simp only [List.getElem?_toArray, List.getElem?_cons_zero, List.getElem?_cons_succ]; rfl
          case wdx5 => rfl
          case ydx5 => intro w hSw; (try dsimp only at hSw); go_simp; (try with_reducible rfl)
          simp only [Act.put, List.setIfInBounds_toArray, List.set_cons_zero, List.set_cons_succ]
          refine wpAnyH_take (i := 5) (v := ?vdx6) (oi := ?odx6) ?hdx6 (by kernel_rfl) (by kernel_rfl) (by kernel_rfl) (fun _ _ _ h => h) (Or.inl ⟨?wdx6, ?ydx6⟩) hHeld ?rdx6
          case hdx6 => simp only [List.getElem?_toArray, List.getElem?_cons_zero, List.getElem?_cons_succ]; rfl
          case wdx6 => rfl
          case ydx6 => intro w hSw; (try dsimp only at hSw); go_simp; (try with_reducible rfl)
          simp only [Act.put, List.setIfInBounds_toArray, List.set_cons_zero, List.set_cons_succ]
          refine wpAnyH_take (i := 6) (v := ?vdx7) (oi := ?odx7) ?hdx7 (by kernel_rfl) (by kernel_rfl) (by kernel_rfl) (fun _ _ _ h => h) (Or.inl ⟨?wdx7, ?ydx7⟩) hHeld ?rdx7
          case hdx7 => simp only [List.getElem?_toArray, List.getElem?_cons_zero, List.getElem?_cons_succ]; rfl
          case wdx7 => rfl
          case ydx7 => intro w hSw; (try dsimp only at hSw); go_simp; (try with_reducible rfl)
          simp only [Act.put, List.setIfInBounds_toArray, List.set_cons_zero, List.set_cons_succ]
          refine wpAnyH_take (i := 7) (v := ?vdx8) (oi := ?odx8) ?hdx8 (by kernel_rfl) (by kernel_rfl) (by kernel_rfl) (fun _ _ _ h => h) (Or.inl ⟨?wdx8, ?ydx8⟩) hHeld ?rdx8
          case hdx8 => simp only [List.getElem?_toArray, List.getElem?_cons_zero, List.getElem?_cons_succ]; rfl
          case wdx8 => rfl
          case ydx8 => intro w hSw; (try dsimp only at hSw); go_simp; (try with_reducible rfl)
          simp only [Act.put, List.setIfInBounds_toArray, List.set_cons_zero, List.set_cons_succ]
          refine wpAnyH_take (i := 8) (v := ?vdx9) (oi := ?odx9) ?hdx9 (by kernel_rfl) (by kernel_rfl) (by kernel_rfl) (fun _ _ _ h => h) (Or.inl ⟨?wdx9, ?ydx9⟩) hHeld ?rdx9
          case hdx9 => simp only [List.getElem?_toArray, List.getElem?_cons_zero, List.getElem?_cons_succ]; rfl
          case wdx9 => rfl
          case ydx9 =>
            intro w hSw
            (try dsimp only at hSw)
            have v := conv_bts hSw.2.1
            rw [← HT.out] at v
            go_simp
            (try with_reducible rfl)
          simp only [Act.put, List.setIfInBounds_toArray, List.set_cons_zero, List.set_cons_succ]
          refine wpAnyH_take (i := 9) (v := ?vdx10) (oi := ?odx10) ?hdx10 (by kernel_rfl) (by kernel_rfl) (by kernel_rfl) (fun _ _ _ h => h) (Or.inl ⟨?wdx10, ?ydx10⟩) hHeld ?rdx10
          case hdx10 => simp only [List.getElem?_toArray, List.getElem?_cons_zero, List.getElem?_cons_succ]; rfl
          case wdx10 => rfl
          case ydx10 => intro w hSw; (try dsimp only at hSw); go_simp; (try with_reducible rfl)
          simp only [Act.put, List.setIfInBounds_toArray, List.set_cons_zero, List.set_cons_succ]
          refine wpAnyH_take (i := 10) (v := ?vdx11) (oi := ?odx11) ?hdx11 (by kernel_rfl) (by kernel_rfl) (by kernel_rfl) (fun _ _ _ h => h) (Or.inl ⟨?wdx11, ?ydx11⟩) hHeld ?rdx11
          case hdx11 => simp only [List.getElem?_toArray, List.getElem?_cons_zero, List.getElem?_cons_succ]; rfl
          case wdx11 => rfl
          case ydx11 => intro w hSw; (try dsimp only at hSw); go_simp; (try with_reducible rfl)
          simp only [Act.put, List.setIfInBounds_toArray, List.set_cons_zero, List.set_cons_succ]
          refine wpAnyH_take (i := 11) (v := ?vdx12) (oi := ?odx12) ?hdx12 (by kernel_rfl) (by kernel_rfl) (by kernel_rfl) (fun _ _ _ h => h) (Or.inl ⟨?wdx12, ?ydx12⟩) hHeld ?rdx12
          case hdx12 => simp only [List.getElem?_toArray, List.getElem?_cons_zero, List.getElem?_cons_succ]; rfl
          case wdx12 => rfl
          case ydx12 => intro w hSw; (try dsimp only at hSw); go_simp; (try with_reducible rfl)
          simp only [Act.put, List.setIfInBounds_toArray, List.set_cons_zero, List.set_cons_succ]
          refine wpAnyH_take (i := 12) (v := ?vdx13) (oi := ?odx13) ?hdx13 (by kernel_rfl) (by kernel_rfl) (by kernel_rfl) (fun _ _ _ h => h) (Or.inl ⟨?wdx13, ?ydx13⟩) hHeld ?rdx13
          case hdx13 => simp only [List.getElem?_toArray, List.getElem?_cons_zero, List.getElem?_cons_succ]; rfl
          case wdx13 => rfl
          case ydx13 => intro w hSw; (try dsimp only at hSw); go_simp; (try with_reducible rfl)
          simp only [Act.put, List.setIfInBounds_toArray, List.set_cons_zero, List.set_cons_succ]
          refine wpAnyH_take (i := 13) (v := ?vdx14) (oi := ?odx14) ?hdx14 (by kernel_rfl) (by kernel_rfl) (by kernel_rfl) (fun _ _ _ h => h) (Or.inl ⟨?wdx14, ?ydx14⟩) hHeld ?rdx14
          case hdx14 => simp only [List.getElem?_toArray, List.getElem?_cons_zero, List.getElem?_cons_succ]; rfl
          case wdx14 => rfl
          case ydx14 =>
            intro w hSw
            (try dsimp only at hSw)
            have v := conv_bts hSw.2.2.2.2
            rw [← HT.out] at v
            go_simp
            (try with_reducible rfl)
          simp only [Act.put, List.setIfInBounds_toArray, List.set_cons_zero, List.set_cons_succ]
          refine wpAnyH_take (i := 14) (v := ?vdx15) (oi := ?odx15) ?hdx15 (by kernel_rfl) (by kernel_rfl) (by kernel_rfl) (fun _ _ _ h => h) (Or.inl ⟨?wdx15, ?ydx15⟩) hHeld ?rdx15
          case hdx15 => simp only [List.getElem?_toArray, List.getElem?_cons_zero, List.getElem?_cons_succ]; rfl
          case wdx15 => rfl
          case ydx15 => intro w hSw; (try dsimp only at hSw); go_simp; (try with_reducible rfl)
          simp only [Act.put, List.setIfInBounds_toArray, List.set_cons_zero, List.set_cons_succ]
          refine wpAnyH_take (i := 15) (v := ?vdx16) (oi := ?odx16) ?hdx16 (by kernel_rfl) (by kernel_rfl) (by kernel_rfl) (fun _ _ _ h => h) (Or.inl ⟨?wdx16, ?ydx16⟩) hHeld ?rdx16
          case hdx16 => simp only [List.getElem?_toArray, List.getElem?_cons_zero, List.getElem?_cons_succ]; rfl
          case wdx16 => rfl
          case ydx16 => intro w hSw; (try dsimp only at hSw); go_simp; (try with_reducible rfl)
          simp only [Act.put, List.setIfInBounds_toArray, List.set_cons_zero, List.set_cons_succ]
          refine wpAnyH_take (i := 16) (v := ?vdx17) (oi := ?odx17) ?hdx17 (by kernel_rfl) (by kernel_rfl) (by kernel_rfl) (fun _ _ _ h => h) (Or.inl ⟨?wdx17, ?ydx17⟩) hHeld ?rdx17
          case hdx17 => simp only [List.getElem?_toArray, List.getElem?_cons_zero, List.getElem?_cons_succ]; rfl
          case wdx17 => rfl
          case ydx17 => intro w hSw; (try dsimp only at hSw); go_simp; (try with_reducible rfl)
          simp only [Act.put, List.setIfInBounds_toArray, List.set_cons_zero, List.set_cons_succ]
          refine wpAnyH_take (i := 17) (v := ?vdx18) (oi := ?odx18) ?hdx18 (by kernel_rfl) (by kernel_rfl) (by kernel_rfl) (fun _ _ _ h => h) (Or.inl ⟨?wdx18, ?ydx18⟩) hHeld ?rdx18
          case hdx18 => simp only [List.getElem?_toArray, List.getElem?_cons_zero, List.getElem?_cons_succ]; rfl
          case wdx18 => rfl
          case ydx18 => intro w hSw; (try dsimp only at hSw); go_simp; (try with_reducible rfl)
          simp only [Act.put, List.setIfInBounds_toArray, List.set_cons_zero, List.set_cons_succ]
          refine wpAnyH_take (i := 18) (v := ?vdx19) (oi := ?odx19) ?hdx19 (by kernel_rfl) (by kernel_rfl) (by kernel_rfl) (fun _ _ _ h => h) (Or.inl ⟨?wdx19, ?ydx19⟩) hHeld ?rdx19
          case hdx19 => simp only [List.getElem?_toArray, List.getElem?_cons_zero, List.getElem?_cons_succ]; rfl
          case wdx19 => rfl
          case ydx19 =>
            intro w hSw
            (try dsimp only at hSw)
            have v := conv_bts hSw.2.2.1
            rw [← HT.out] at v
            go_simp
            (try with_reducible rfl)
          simp only [Act.put, List.setIfInBounds_toArray, List.set_cons_zero, List.set_cons_succ]
          refine wpAnyH_take (i := 19) (v := ?vdx20) (oi := ?odx20) ?hdx20 (by kernel_rfl) (by kernel_rfl) (by kernel_rfl) (fun _ _ _ h => h) (Or.inl ⟨?wdx20, ?ydx20⟩) hHeld ?rdx20
          case hdx20 => simp only [List.getElem?_toArray, List.getElem?_cons_zero, List.getElem?_cons_succ]; rfl
          case wdx20 => rfl
          case ydx20 => intro w hSw; (try dsimp only at hSw); go_simp; (try with_reducible rfl)
          simp only [Act.put, List.setIfInBounds_toArray, List.set_cons_zero, List.set_cons_succ]
          refine wpAnyH_take (i := 20) (v := ?vdx21) (oi := ?odx21) ?hdx21 (by kernel_rfl) (by kernel_rfl) (by kernel_rfl) (fun _ _ _ h => h) (Or.inl ⟨?wdx21, ?ydx21⟩) hHeld ?rdx21
          case hdx21 => simp only [List.getElem?_toArray, List.getElem?_cons_zero, List.getElem?_cons_succ]; rfl
          case wdx21 => rfl
          case ydx21 => intro w hSw; (try dsimp only at hSw); go_simp; (try with_reducible rfl)
          simp only [Act.put, List.setIfInBounds_toArray, List.set_cons_zero, List.set_cons_succ]
          refine wpAnyH_take (i := 21) (v := ?vdx22) (oi := ?odx22) ?hdx22 (by kernel_rfl) (by kernel_rfl) (by kernel_rfl) (fun _ _ _ h => h) (Or.inl ⟨?wdx22, ?ydx22⟩) hHeld ?rdx22
          case hdx22 => simp only [List.getElem?_toArray, List.getElem?_cons_zero, List.getElem?_cons_succ]; rfl
          case wdx22 => rfl
          case ydx22 => intro w hSw; (try dsimp only at hSw); go_simp; (try with_reducible rfl)
          simp only [Act.put, List.setIfInBounds_toArray, List.set_cons_zero, List.set_cons_succ]
          refine wpAnyH_take (i := 22) (v := ?vdx23) (oi := ?odx23) ?hdx23 (by kernel_rfl) (by kernel_rfl) (by kernel_rfl) (fun _ _ _ h => h) (Or.inl ⟨?wdx23, ?ydx23⟩) hHeld ?rdx23
          case hdx23 => simp only [List.getElem?_toArray, List.getElem?_cons_zero, List.getElem?_cons_succ]; rfl
          case wdx23 => rfl
          case ydx23 => intro w hSw; (try dsimp only at hSw); go_simp; (try with_reducible rfl)
          simp only [Act.put, List.setIfInBounds_toArray, List.set_cons_zero, List.set_cons_succ]
          refine wpAnyH_take (i := 23) (v := ?vdx24) (oi := ?odx24) ?hdx24 (by kernel_rfl) (by kernel_rfl) (by kernel_rfl) (fun _ _ _ h => h) (Or.inl ⟨?wdx24, ?ydx24⟩) hHeld ?rdx24
          case hdx24 => simp only [List.getElem?_toArray, List.getElem?_cons_zero, List.getElem?_cons_succ]; rfl
          case wdx24 => rfl
          case ydx24 =>
            intro w hSw
            (try dsimp only at hSw)
            have v := conv_bts hSw.2.2.2.2
            rw [← HT.out] at v
            go_simp
            (try with_reducible rfl)
          simp only [Act.put, List.setIfInBounds_toArray, List.set_cons_zero, List.set_cons_succ]
          refine wpAnyH_take (i := 24) (v := ?vdx25) (oi := ?odx25) ?hdx25 (by kernel_rfl) (by kernel_rfl) (by kernel_rfl) (fun _ _ _ h => h) (Or.inl ⟨?wdx25, ?ydx25⟩) hHeld ?rdx25
          case hdx25 => simp only [List.getElem?_toArray, List.getElem?_cons_zero, List.getElem?_cons_succ]; rfl
          case wdx25 => rfl
          case ydx25 => intro w hSw; (try dsimp only at hSw); go_simp; (try with_reducible rfl)
          simp only [Act.put, List.setIfInBounds_toArray, List.set_cons_zero, List.set_cons_succ]
          refine wpAnyH_take (i := 25) (v := ?vdx26) (oi := ?odx26) ?hdx26 (by kernel_rfl) (by kernel_rfl) (by kernel_rfl) (fun _ _ _ h => h) (Or.inl ⟨?wdx26, ?ydx26⟩) hHeld ?rdx26
          case hdx26 => simp only [List.getElem?_toArray, List.getElem?_cons_zero, List.getElem?_cons_succ]; rfl
          case wdx26 => rfl
          case ydx26 => intro w hSw; (try dsimp only at hSw); go_simp; (try with_reducible rfl)
          simp only [Act.put, List.setIfInBounds_toArray, List.set_cons_zero, List.set_cons_succ]
          refine wpAnyH_take (i := 26) (v := ?vdx27) (oi := ?odx27) ?hdx27 (by kernel_rfl) (by kernel_rfl) (by kernel_rfl) (fun _ _ _ h => h) (Or.inl ⟨?wdx27, ?ydx27⟩) hHeld ?rdx27
          case hdx27 => simp only [List.getElem?_toArray, List.getElem?_cons_zero, List.getElem?_cons_succ]; rfl
          case wdx27 => rfl
          case ydx27 => intro w hSw; (try dsimp only at hSw); go_simp; (try with_reducible rfl)
          simp only [Act.put, List.setIfInBounds_toArray, List.set_cons_zero, List.set_cons_succ]
          refine wpAnyH_ready (rs := [27]) (by kernel_rfl) (by simp) ?_
          refine AllReadyH.cons (o := ?odx28) ?hdx28 (fun K hK => ?sdx28) AllReadyH.nil
          case hdx28 => simp only [List.getElem?_toArray, List.getElem?_cons_zero, List.getElem?_cons_succ]; rfl
          go_simp
          refine (awake7_any _).mono ?_
          rintro e w9 ⟨rfl, k9⟩
          have hx9 := hS _ (hHeld.1.trans' k9)
          go_wp2_with fail
          refine hK.out _ _ (hx9) (fun hHeld => ?_)
          clear hK K
          try simp only [Act.put, List.setIfInBounds_toArray, List.set_cons_zero, List.set_cons_succ]
          refine wpAnyH_take (i := 28) (v := ?vdx29) (oi := ?odx29) ?hdx29 (by kernel_rfl) (by kernel_rfl) (by kernel_rfl) (fun _ _ _ h => h) (Or.inl ⟨?wdx29, ?ydx29⟩) hHeld ?rdx29
          case hdx29 => simp only [List.getElem?_toArray, List.getElem?_cons_zero, List.getElem?_cons_succ]; rfl
          case wdx29 => rfl
          case ydx29 => intro w hSw; (try dsimp only at hSw); go_simp; (try with_reducible rfl)
          simp only [Act.put, List.setIfInBounds_toArray, List.set_cons_zero, List.set_cons_succ]
          refine wpAnyH_ready (rs := [29]) (by kernel_rfl) (by simp) ?_
          refine AllReadyH.cons (o := ?odx30) ?hdx30 (fun K hK => ?sdx30) AllReadyH.nil
          case hdx30 => simp only [List.getElem?_toArray, List.getElem?_cons_zero, List.getElem?_cons_succ]; rfl
          go_simp
          refine hK.out _ _ (hHeld) (fun hHeld => ?_)
          clear hK K
          try simp only [Act.put, List.setIfInBounds_toArray, List.set_cons_zero, List.set_cons_succ]
          refine wpAnyH_done (by kernel_rfl) ?_ _
          refine NoPanic.normal ?_
          go_wp2_with fail
          go_ret
          exact ⟨rfl, (hk6'.trans' hHeld.1).below0⟩
end
theorem healback_walk {w : World} {A Ap : Option Addr} {m c mp cpp : Nat} {bs ps : List UInt8} (n k lo : Int) (hlo : (Lit.int .u8 lo).wf = true) (hB : Bts w (.slice A m c) bs) (hPk : Bts w (.slice Ap mp cpp) ps) : Calls Try.prog 5 #[.int .i64 n, .int .i64 k, .slice A m c, .int .u8 lo, .slice Ap mp cpp] w fun e w' => e = .returned (.bool true) ∧ Below w.heap.size w w' := by
  show Calls _ _ _ _ (R7 w)
  obtain ⟨lo, rfl, hl256⟩ := of_wf_u8 hlo
  by_cases h : Rgt n k ∧ n ≤ 12 ∧ k ≤ 4
  · obtain ⟨hR, h1, h2⟩ := h
    by_cases hm : m ≤ 200 ∧ 0 < m
    · obtain ⟨r1, r2, r3, r4⟩ := hR
      obtain ⟨n', rfl⟩ : ∃ n' : Nat, n = n' := ⟨n.toNat, by omega⟩
      obtain ⟨k', rfl⟩ : ∃ k' : Nat, k = k' := ⟨k.toNat, by omega⟩
      obtain ⟨a, d, q, hD⟩ := dim_of (n := n') (k := k') (by omega) (by omega) (by omega) (by omega)
      obtain ⟨x, hX⟩ := pts_ex (n := n') hD.a1 hD.a7 hD.n2
      have hq := hD.q56
      by_cases hf : m % q ≠ 0
      · exact hbw_unfit hD (by omega) (by omega) hm.1 hm.2 hf
      · have hf1 : m % q = 0 := by omega
        have hdv : m = q * (m / q) := by have := Nat.div_add_mod m q; omega
        refine hbw_fit hB hPk hl256 hD hX (by omega) (by omega) hm.1 hm.2 hdv ?_
        rcases Nat.eq_zero_or_pos (m / q) with e | e
        · rw [e, Nat.mul_zero] at hdv; omega
        · exact e
    · exact hbw_len n k hR h1 h2 (by omega)
  · exact hbw_notsmall n k h
end Go.Proofs.Ythmplbklphobaaa
