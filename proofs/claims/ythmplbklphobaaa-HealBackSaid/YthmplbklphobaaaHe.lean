/- The document's Regenerate, as a contract over memory. -/
import Derived.Test.YthmplbklphobaaaHlm
import Derived.Test.YthmplbklphobaaaMsc
import Derived.Test.YthmplbklphobaaaAv
import Derived.Test.YthmplbklphobaaaSol
import Derived.Deep.RegionHeld3
import Derived.StillTailTactics
namespace Go.Proofs.Ythmplbklphobaaa
open Go.RowKit
set_option linter.unusedVariables false
set_option linter.unusedSimpArgs false
set_option maxRecDepth 100000

/-- What the fragments have. -/
def frB (ds : Nat → List UInt8) (j t : Nat) : UInt8 := lg (ds j) t
/-- A byte of the lost shard, of the columns. -/
def rxE (X : Nat → Nat → UInt8) (a S : Nat) (y : UInt8) (t : Nat) : UInt8 := ux (X (t / S) (t % S)) (um (X (t / S + a) (t % S)) (upw y a))
theorem rxE_at (X : Nat → Nat → UInt8) {a S j t : Nat} (y : UInt8) (ht : t < S) : rxE X a S y (j * S + t) = ux (X j t) (um (X (j + a) t) (upw y a)) := by
  have h1 : (j * S + t) / S = j := by rw [Nat.mul_comm, Nat.mul_add_div (by omega), Nat.div_eq_of_lt ht, Nat.add_zero]
  have h2 : (j * S + t) % S = t := by rw [Nat.mul_comm, Nat.mul_add_mod, Nat.mod_eq_of_lt ht]
  unfold rxE
  rw [h1, h2]
def RrgPost (w : World) (a d S W : Nat) (p : Nat → UInt8) (y : UInt8) (ds : Nat → List UInt8) (e : Ending) (w1 : World) : Prop :=
  ∃ (X : Nat → Nat → UInt8) (A' : Option Addr) (r cc : Nat), e = .returned (.slice A' r cc) ∧ Own w1 w.heap.size 5 (.slice A' r cc) (rowL W (rxE X a S y)) ∧ EqF d S (mulF d (vF p) X) (frB ds) ∧ Kp No w w1
set_option maxHeartbeats 8000000 in
theorem rreg_any {w : World} {n k a d q T W il : Nat} {x : Nat → UInt8} {Bs os ms cs : Nat} {Ad : Option Addr} {md cd : Nat} {ss : Nat → Nat} {dl : List (List UInt8)} {ds : Nat → List UInt8} (hD : Dim n k a d q) (hX : Pts n a x)
    (hsl : ∀ j, j < d → w.cell? ⟨Bs, os + j, none⟩ = some (.int .i64 (ss j : Int))) (hds : d ≤ ms) (hsh : Rws w Ad md dl) (hdm : d ≤ md) (hdl : ∀ j, j < d → dl[j]? = some (ds j)) (hlen : ∀ j, j < d → (ds j).length = T) (hsn : ∀ j, j < d → ss j < n) (hU : Uq d fun j => x (ss j)) (hil : il < n)
    (hT1 : 1 ≤ T) (hT2 : T ≤ 60) (hW : W = a * T) :
    Calls Try.prog 15 #[.int .i64 (n : Int), .int .i64 (k : Int), .int .i64 (il : Int), .slice (some ⟨Bs, os, none⟩) ms cs, .slice Ad md cd] w (RrgPost w a d T W (fun j => x (ss j)) (x il) ds) := by
  obtain ⟨i0, hi0, hz0, hz1, hz2⟩ := byte_parts
  have ha1 := hD.a1
  have ha7 := hD.a7
  have hn24 := hD.n2
  have hk1 : 1 ≤ k := by have := hD.k_; omega
  have hk8 : k ≤ 8 := by have := hD.k_; omega
  have hd1 : 1 ≤ d := by have := hD.d_; omega
  have hd14 : d ≤ 14 := by have := hD.d_; omega
  have HDA : Hid (d = a + a) := hD.d_
  have HKE : Hid (k = a + 1) := hD.k_
  have HKA : Hid ((k : Int) - 1 = (a : Int)) := by show (k : Int) - 1 = (a : Int); have := hD.k_; omega
  have H2K : Hid (2 * (k : Int) - 2 = (d : Int)) := by show 2 * (k : Int) - 2 = (d : Int); have := hD.k_; have := hD.d_; omega
  obtain ⟨B0, o0, A0, r0, c0, b0, rfl, z00, hb0, hB0⟩ := hsh.get (j := 0) (by omega)
  rw [Nat.add_zero] at z00
  obtain rfl : r0 = T := by
    rw [hdl 0 (by omega)] at hb0
    injection hb0 with hb0
    rw [hB0.len, ← hb0, hlen 0 (by omega)]
  obtain ⟨T, hTT⟩ : ∃ T, T = r0 := ⟨_, rfl⟩
  subst hTT
  have HR := hide (rrows_any w hD hX)
  have HSL := hide hsl
  have HDL := hide hdl
  have HLEN := hide hlen
  have HSN := hide hsn
  have HU := hide hU
  have HWE := hide hW
  clear hsl hdl hlen hsn hW hU hX hD hb0 hB0
  go_enter Try.func15, Try.ntmps15
  go_wp2_with fail
  refine HR.out.mono ?_
  rintro e w2 ⟨Ar, cr, rfl, hR2, hk2⟩
  obtain ⟨B3, o3, _, _, _, _, rfl, _, _, _⟩ := hR2.get hil
  have y00 := hk2.cell z00 fun f => f
  have h2k := H2K.out
  clear z00 HR
  go_wp2_with fail
  clear h2k
  go_loopw [13, 14] (fun v iv wr => ∃ (i : Nat) (A' : Option Addr) (r cc : Nat) (vs : List Value), i ≤ d ∧ iv = .int .i64 (i : Int) ∧ v = .slice A' r cc ∧ RInv w2 (fun t => rowL (d + T) (catF d (vF fun j => x (ss j)) (frB ds) t)) i (.slice A' r cc) vs wr) (fun _ iv _ => d - (intOf iv).toNat)
  case atStart => exact ⟨0, none, 0, 0, [], Nat.zero_le _, rfl, rfl, ⟨OwnV.nil _ _, rfl, (fun j u hj => by simp at hj), Kp.refl _ _⟩⟩
  case round =>
    obtain ⟨i, A', r, cc, vs, hi, rfl, rfl, hI⟩ := hrel
    by_cases hlt : i < d
    · have hsn := HSN.out i hlt
      obtain ⟨B4, o4, A3, r3, c3, b3, hAB, e3, hb3, hB3⟩ := hR2.get hsn
      injection hAB with hAB
      injection hAB with hAB1 hAB2
      subst hAB1 hAB2
      rw [matL_get _ hsn] at hb3
      injection hb3 with hb3
      subst hb3
      obtain rfl : d = r3 := by rw [hB3.len, rowL_len]
      obtain ⟨B5, o5, A5, r5, c5, b5, hAB, e5, hb5, hB5⟩ := (hsh.no hk2).get (j := i) (by omega)
      injection hAB with hAB
      injection hAB with hAB1 hAB2
      subst hAB1 hAB2
      rw [HDL.out i hlt] at hb5
      injection hb5 with hb5
      subst hb5
      have e4 := hk2.cell (HSL.out i hlt) fun f => f
      have hS : ∀ u, Kp No w2 u → (Kp No w2 u ∧ u.cell? ⟨Bs, os + i, none⟩ = some (.int .i64 (ss i : Int)) ∧ u.cell? ⟨B3, o3 + ss i, none⟩ = some (.slice A3 d c3) ∧ u.cell? ⟨B0, o0 + i, none⟩ = some (.slice A5 r5 c5)) := fun u hk => ⟨hk, hk.cell e4 fun f => f, hk.cell e3 fun f => f, hk.cell e5 fun f => f⟩
      have HB3 := hide (fun w' (hk : Kp No w2 w') => hB3.no hk)
      have HB5 := hide (fun w' (hk : Kp No w2 w') => hB5.no hk)
      have HL5 := hide (HLEN.out i hlt)
      have HR : Hid ([] ++ rowL d (vF x (ss i)) ++ ds i = rowL (d + T) (catF d (vF fun j => x (ss j)) (frB ds) i)) := by
        show [] ++ rowL d (vF x (ss i)) ++ ds i = rowL (d + T) (catF d (vF fun j => x (ss j)) (frB ds) i)
        have hl := rowL_lg (ds i)
        rw [HL5.out] at hl
        rw [List.nil_append, ← hl]
        refine rowL_app _ _ _ _ _ (fun t ht => ?_) fun t ht => ?_
        · unfold catF
          rw [if_pos ht]
          rfl
        · unfold catF
          rw [if_neg (by omega), Nat.add_sub_cancel_left]
          rfl
      have hid : i < md := by omega
      have him : i < ms := by omega
      have himi : (i : Int) < (ms : Int) := by omega
      have hidi : (i : Int) < (md : Int) := by omega
      have hsni : (ss i : Int) < (n : Int) := by omega
      have hvl : vs.length ≤ 1000000 := by rw [hI.len]; omega
      have hId := hI.no (Sm.drew wr).kp
      clear hI e3 e4 e5 hB3 hB5
      go_wp2_with fail
      refine wp_region_noPanic ?_
      refine wp_region_held_drew (S := fun w' => Kp No w2 w' ∧ w'.cell? ⟨Bs, os + i, none⟩ = some (.int .i64 (ss i : Int)) ∧ w'.cell? ⟨B3, o3 + ss i, none⟩ = some (.slice A3 d c3) ∧ w'.cell? ⟨B0, o0 + i, none⟩ = some (.slice A5 r5 c5)) (by kernel_rfl) (hS _ hId.kp) (fun hHeld => ?_)
      refine wpAnyH_take (i := 0) (v := ?vex1) (oi := ?oex1) ?hex1 (by kernel_rfl) (by kernel_rfl) (by kernel_rfl) (fun _ _ _ h => h) (Or.inl ⟨?wex1, ?yex1⟩) hHeld ?rex1
      case hex1 => simp only [List.getElem?_toArray, List.getElem?_cons_zero, List.getElem?_cons_succ]; rfl
      case wex1 => rfl
      case yex1 => intro w hSw; (try dsimp only at hSw); go_simp; (try with_reducible rfl)
      simp only [Act.put, List.setIfInBounds_toArray, List.set_cons_zero, List.set_cons_succ]
      refine wpAnyH_take (i := 2) (v := ?vex2) (oi := ?oex2) ?hex2 (by kernel_rfl) (by kernel_rfl) (by kernel_rfl) (fun _ _ _ h => h) (Or.inl ⟨?wex2, ?yex2⟩) hHeld ?rex2
      case hex2 => simp only [List.getElem?_toArray, List.getElem?_cons_zero, List.getElem?_cons_succ]; rfl
      case wex2 => rfl
      case yex2 => intro w hSw; (try dsimp only at hSw); go_simp; (try with_reducible rfl)
      simp only [Act.put, List.setIfInBounds_toArray, List.set_cons_zero, List.set_cons_succ]
      refine wpAnyH_take (i := 3) (v := ?vex3) (oi := ?oex3) ?hex3 (by kernel_rfl) (by kernel_rfl) (by kernel_rfl) (fun _ _ _ h => h) (Or.inl ⟨?wex3, ?yex3⟩) hHeld ?rex3
      case hex3 => simp only [List.getElem?_toArray, List.getElem?_cons_zero, List.getElem?_cons_succ]; rfl
      case wex3 => rfl
      case yex3 => intro w hSw; (try dsimp only at hSw); go_simp; (try with_reducible rfl)
      simp only [Act.put, List.setIfInBounds_toArray, List.set_cons_zero, List.set_cons_succ]
      refine wpAnyH_take (i := 4) (v := ?vex4) (oi := ?oex4) ?hex4 (by kernel_rfl) (by kernel_rfl) (by kernel_rfl) (fun _ _ _ h => h) (Or.inl ⟨?wex4, ?yex4⟩) hHeld ?rex4
      case hex4 => simp only [List.getElem?_toArray, List.getElem?_cons_zero, List.getElem?_cons_succ]; rfl
      case wex4 => rfl
      case yex4 => intro w hSw; (try dsimp only at hSw); go_simp; (try with_reducible rfl)
      simp only [Act.put, List.setIfInBounds_toArray, List.set_cons_zero, List.set_cons_succ]
      refine wpAnyH_take (i := 5) (v := ?vex5) (oi := ?oex5) ?hex5 (by kernel_rfl) (by kernel_rfl) (by kernel_rfl) (fun _ _ _ h => h) (Or.inl ⟨?wex5, ?yex5⟩) hHeld ?rex5
      case hex5 => simp only [List.getElem?_toArray, List.getElem?_cons_zero, List.getElem?_cons_succ]; rfl
      case wex5 => rfl
      case yex5 => intro w hSw; (try dsimp only at hSw); go_simp; (try with_reducible rfl)
      simp only [Act.put, List.setIfInBounds_toArray, List.set_cons_zero, List.set_cons_succ]
      refine wpAnyH_take (i := 6) (v := ?vex6) (oi := ?oex6) ?hex6 (by kernel_rfl) (by kernel_rfl) (by kernel_rfl) (fun _ _ _ h => h) (Or.inl ⟨?wex6, ?yex6⟩) hHeld ?rex6
      case hex6 => simp only [List.getElem?_toArray, List.getElem?_cons_zero, List.getElem?_cons_succ]; rfl
      case wex6 => rfl
      case yex6 => intro w hSw; (try dsimp only at hSw); go_simp; (try with_reducible rfl)
      simp only [Act.put, List.setIfInBounds_toArray, List.set_cons_zero, List.set_cons_succ]
      refine wpAnyH_take (i := 7) (v := ?vex7) (oi := ?oex7) ?hex7 (by kernel_rfl) (by kernel_rfl) (by kernel_rfl) (fun _ _ _ h => h) (Or.inl ⟨?wex7, ?yex7⟩) hHeld ?rex7
      case hex7 => simp only [List.getElem?_toArray, List.getElem?_cons_zero, List.getElem?_cons_succ]; rfl
      case wex7 => rfl
      case yex7 => intro w hSw; (try dsimp only at hSw); go_simp; (try with_reducible rfl)
      simp only [Act.put, List.setIfInBounds_toArray, List.set_cons_zero, List.set_cons_succ]
      refine wpAnyH_take (i := 8) (v := ?vex8) (oi := ?oex8) ?hex8 (by kernel_rfl) (by kernel_rfl) (by kernel_rfl) (fun _ _ _ h => h) (Or.inl ⟨?wex8, ?yex8⟩) hHeld ?rex8
      case hex8 => simp only [List.getElem?_toArray, List.getElem?_cons_zero, List.getElem?_cons_succ]; rfl
      case wex8 => rfl
      case yex8 => intro w hSw; (try dsimp only at hSw); go_simp; (try with_reducible rfl)
      simp only [Act.put, List.setIfInBounds_toArray, List.set_cons_zero, List.set_cons_succ]
      refine wpAnyH_take (i := 10) (v := ?vex9) (oi := ?oex9) ?hex9 (by kernel_rfl) (by kernel_rfl) (by kernel_rfl) (fun _ _ _ h => h) (Or.inl ⟨?wex9, ?yex9⟩) hHeld ?rex9
      case hex9 => simp only [List.getElem?_toArray, List.getElem?_cons_zero, List.getElem?_cons_succ]; rfl
      case wex9 => rfl
      case yex9 => intro w hSw; (try dsimp only at hSw); go_simp; (try with_reducible rfl)
      simp only [Act.put, List.setIfInBounds_toArray, List.set_cons_zero, List.set_cons_succ]
      refine wpAnyH_take (i := 11) (v := ?vex10) (oi := ?oex10) ?hex10 (by kernel_rfl) (by kernel_rfl) (by kernel_rfl) (fun _ _ _ h => h) (Or.inl ⟨?wex10, ?yex10⟩) hHeld ?rex10
      case hex10 => simp only [List.getElem?_toArray, List.getElem?_cons_zero, List.getElem?_cons_succ]; rfl
      case wex10 => rfl
      case yex10 => intro w hSw; (try dsimp only at hSw); go_simp; (try with_reducible rfl)
      simp only [Act.put, List.setIfInBounds_toArray, List.set_cons_zero, List.set_cons_succ]
      refine wpAnyH_take (i := 12) (v := ?vex11) (oi := ?oex11) ?hex11 (by kernel_rfl) (by kernel_rfl) (by kernel_rfl) (fun _ _ _ h => h) (Or.inl ⟨?wex11, ?yex11⟩) hHeld ?rex11
      case hex11 => simp only [List.getElem?_toArray, List.getElem?_cons_zero, List.getElem?_cons_succ]; rfl
      case wex11 => rfl
      case yex11 => intro w hSw; (try dsimp only at hSw); go_simp; (try with_reducible rfl)
      simp only [Act.put, List.setIfInBounds_toArray, List.set_cons_zero, List.set_cons_succ]
      refine wpAnyH_take (i := 13) (v := ?vex12) (oi := ?oex12) ?hex12 (by kernel_rfl) (by kernel_rfl) (by kernel_rfl) (fun _ _ _ h => h) (Or.inl ⟨?wex12, ?yex12⟩) hHeld ?rex12
      case hex12 => simp only [List.getElem?_toArray, List.getElem?_cons_zero, List.getElem?_cons_succ]; rfl
      case wex12 => rfl
      case yex12 => intro w hSw; (try dsimp only at hSw); go_simp; (try with_reducible rfl)
      simp only [Act.put, List.setIfInBounds_toArray, List.set_cons_zero, List.set_cons_succ]
      refine wpAnyH_ready (rs := [1]) (by kernel_rfl) (by simp) ?_
      refine AllReadyH.cons (o := ?oex13) ?hex13 (fun K hK => ?sex13) AllReadyH.nil
      case hex13 => simp only [List.getElem?_toArray, List.getElem?_cons_zero, List.getElem?_cons_succ]; rfl
      go_simp
      refine hK.out _ _ (hS _ (hHeld.1.trans' (Kp.alloc No _ _))) (fun hHeld => ?_)
      clear hK K
      try simp only [Act.put, List.setIfInBounds_toArray, List.set_cons_zero, List.set_cons_succ]
      refine wpAnyH_ready (rs := [9]) (by kernel_rfl) (by simp) ?_
      refine AllReadyH.cons (o := ?oex14) ?hex14 (fun K hK => ?sex14) AllReadyH.nil
      case hex14 => simp only [List.getElem?_toArray, List.getElem?_cons_zero, List.getElem?_cons_succ]; rfl
      have o9 := own_empty wr.drew
      refine step_app rfl (.tmp 31) (.tmp 38) _ rfl i0 Try.underlying22 hi0 hz0 hz1 hz2 rfl o9 rfl (HB3.out _ hHeld.1) ?l9 ?b9 ?_
      case l9 => rw [rowL_len]; simp; omega
      case b9 => simp
      intro A6 n6 c6 w6 ha6
      have k6 : Kp No wr.drew w6 := ha6.keeps o9 (Kp.alloc No _ _)
      refine hK.out _ _ (hS _ (hId.kp.trans' k6)) (fun hHeld => ?_)
      clear hK K
      try simp only [Act.put, List.setIfInBounds_toArray, List.set_cons_zero, List.set_cons_succ]
      refine wpAnyH_ready (rs := [14]) (by kernel_rfl) (by simp) ?_
      refine AllReadyH.cons (o := ?oex15) ?hex15 (fun K hK => ?sex15) AllReadyH.nil
      case hex15 => simp only [List.getElem?_toArray, List.getElem?_cons_zero, List.getElem?_cons_succ]; rfl
      refine step_app rfl (.tmp 39) (.tmp 43) _ rfl i0 Try.underlying22 hi0 hz0 hz1 hz2 rfl ha6.own rfl (HB5.out _ hHeld.1) ?l14 ?b14 ?_
      case l14 => rw [List.nil_append, rowL_len, HL5.out]; omega
      case b14 => exact k6.size
      intro A7 n7 c7 w7 ha7
      have k7 : Kp No wr.drew w7 := ha7.keeps ha6.own k6
      refine hK.out _ _ (hS _ (hId.kp.trans' k7)) (fun hHeld => ?_)
      clear hK K
      try simp only [Act.put, List.setIfInBounds_toArray, List.set_cons_zero, List.set_cons_succ]
      refine wpAnyH_ready (rs := [15]) (by kernel_rfl) (by simp) ?_
      refine AllReadyH.cons (o := ?oex16) ?hex16 (fun K hK => ?sex16) AllReadyH.nil
      case hex16 => simp only [List.getElem?_toArray, List.getElem?_cons_zero, List.getElem?_cons_succ]; rfl
      go_simp
      refine hK.out _ _ (hS _ (hHeld.1.trans' (Kp.alloc No _ _))) (fun hHeld => ?_)
      clear hK K
      try simp only [Act.put, List.setIfInBounds_toArray, List.set_cons_zero, List.set_cons_succ]
      refine wpAnyH_ready (rs := [16]) (by kernel_rfl) (by simp) ?_
      refine AllReadyH.cons (o := ?oex17) ?hex17 (fun K hK => ?sex17) AllReadyH.nil
      case hex17 => simp only [List.getElem?_toArray, List.getElem?_cons_zero, List.getElem?_cons_succ]; rfl
      have o16 := (hId.own.no k7).no (Kp.alloc No _ (.cells #[.slice A7 n7 c7] 22))
      refine step_appV rfl (.tmp 30) (.tmp 45) _ rfl Try.underlying39 rfl o16 _ rfl (fresh_cell _ _ _) rfl rfl hvl ?b16 ?_
      case b16 => exact hHeld.1.size
      intro A8 n8 c8 w8 ha8
      have k8 : Kp No w2 w8 := ha8.keeps o16 hHeld.1
      have hu7 : Own w7 wr.drew.heap.size 5 (.slice A7 n7 c7) (rowL (d + T) (catF d (vF fun j => x (ss j)) (frB ds) i)) := by rw [← HR.out]; exact ha7.own
      have HN := hide (hId.step k7 hu7 hId.kp.size ha8)
      refine hK.out _ _ (hS _ k8) (fun hHeld => ?_)
      clear hK K
      try simp only [Act.put, List.setIfInBounds_toArray, List.set_cons_zero, List.set_cons_succ]
      refine wpAnyH_ready (rs := [17]) (by kernel_rfl) (by simp) ?_
      refine AllReadyH.cons (o := ?oex18) ?hex18 (fun K hK => ?sex18) AllReadyH.nil
      case hex18 => simp only [List.getElem?_toArray, List.getElem?_cons_zero, List.getElem?_cons_succ]; rfl
      go_simp
      refine hK.out _ _ (hHeld) (fun hHeld => ?_)
      clear hK K
      try simp only [Act.put, List.setIfInBounds_toArray, List.set_cons_zero, List.set_cons_succ]
      refine wpAnyH_done (by kernel_rfl) ?_ _
      refine NoPanic.normal ?_
      go_wp2_with fail
      go_round
      case rel => exact ⟨i + 1, A8, n8, c8, _, by omega, by go_num, rfl, HN.out⟩
      case measure => simp [intOf]; omega
    · obtain rfl : i = d := by omega
      obtain ⟨d, hdd⟩ : ∃ d, d = i := ⟨_, rfl⟩
      subst hdd
      obtain rfl : d = r := by rw [hI.own.len, hI.len]
      have hRws := hI.rws (bss := matL d (d + T) (catF d (vF fun j => x (ss j)) (frB ds))) (matL_len _ _ _) fun t ht => matL_get _ ht
      have hst := rsteps_wide (cp := cc) hRws (fun t bs ht => by
        have htq : t < d := by have := (List.getElem?_eq_some_iff.1 ht).1; rwa [matL_len] at this
        rw [matL_get _ htq] at ht
        injection ht with ht
        rw [← ht, rowL_len]) (by omega) (by omega) (by omega) (by omega)
      have hkw := hk2.trans' hI.kp
      have hR3 := hR2.no hI.kp
      have y01 := hI.kp.cell y00 fun f => f
      obtain ⟨X, hX⟩ : ∃ X : Nat → Nat → UInt8, X = fun t v => (redS d (fnL (matL d (d + T) (catF d (vF fun j => x (ss j)) (frB ds)))) (d + T)).f t (d + v) := ⟨_, rfl⟩
      have HX : Hid (EqF d T (mulF d (vF fun j => x (ss j)) X) (frB ds)) := by
        obtain ⟨G, hG1, _⟩ := inv_both (vF_whole HU.out)
        have hsol : EqF d T (mulF d (vF fun j => x (ss j)) (mulF d G (frB ds))) (frB ds) := fun u v hu hv => by
          rw [← mulF_assoc]
          exact (mulF_congr hG1 (EqF.refl d T _) u v hu hv).trans (mulF_one (c := T) (frB ds) u v hu hv)
        have hXe : EqF d T X (mulF d G (frB ds)) := fun u v hu hv => by
          rw [hX]
          exact steps_cols HU.out (fnL_matL _) hsol u v hu hv
        exact (mulF_congr (EqF.refl d d _) hXe).trans hsol
      generalize hSt : (redS d (fnL (matL d (d + T) (catF d (vF fun j => x (ss j)) (frB ds)))) (d + T)).f = St at *
      clear hI hRws hR2 y00
      go_wp2_with fail
      refine hst.mono ?_
      rintro e w3 ⟨g3, hv3, cp3, rfl, hG3, hk3⟩
      rw [hSt] at hG3
      have HXS := hide hX
      clear hst hX hSt
      have hkw3 := hkw.trans' hk3
      have hR4 := hR3.no hk3
      have y02 := hk3.cell y01 fun f => f
      have hka := HKA.out
      clear hR3 y01
      go_wp2_with fail
      go_loopw [16, 17] (fun v jv wr => ∃ (j : Nat) (A' : Option Addr) (r cc : Nat), j ≤ a ∧ jv = .int .i64 (j : Int) ∧ v = .slice A' r cc ∧ Own wr w3.heap.size 5 (.slice A' r cc) (rowL (j * T) (rxE X a T (x il))) ∧ Kp No w3 wr) (fun _ jv _ => a - (intOf jv).toNat)
      case atStart => exact ⟨0, none, 0, 0, Nat.zero_le _, rfl, rfl, by rw [Nat.zero_mul]; exact Own.nil _ _ _, Kp.refl _ _⟩
      case round =>
        obtain ⟨j, A', r, cc, hj, rfl, rfl, ho, hkr⟩ := hrel
        by_cases hltj : j < a
        · have HJ : Hid (j * T + T ≤ 7 * 60) := by
            show j * T + T ≤ 7 * 60
            have h5 := Nat.mul_le_mul (show j + 1 ≤ 7 by omega) (show T ≤ 60 by omega)
            rwa [Nat.add_mul, Nat.one_mul] at h5
          go_wp2_with fail
          go_loopw [16, 18] (fun v tv wr => ∃ (t : Nat) (A' : Option Addr) (r cc : Nat), t ≤ T ∧ tv = .int .i64 (t : Int) ∧ v = .slice A' r cc ∧ Own wr w3.heap.size 5 (.slice A' r cc) (rowL (j * T + t) (rxE X a T (x il))) ∧ Kp No w3 wr) (fun _ tv _ => T - (intOf tv).toNat)
          case atStart => exact ⟨0, A', r, cc, Nat.zero_le _, rfl, rfl, ho, hkr⟩
          case round =>
            clear ho hkr
            obtain ⟨t, A', r, cc, ht, rfl, rfl, ho, hkr⟩ := hrel
            have y03 := hkr.cell y02 fun f => f
            have hmd0 : 0 < md := by omega
            by_cases hlt : t < T
            · go_wp2_with fail
              have hDA := HDA.out
              have hKE := HKE.out
              obtain ⟨b1, c1, q1, _, hR1, _, _⟩ := hG3.at_ (by omega) (show j < d by omega)
              have x1 := hG3.out.cell (show j < d by omega)
              rw [q1] at x1
              obtain ⟨ja, hja⟩ : ∃ ja, ja = j + a := ⟨_, rfl⟩
              have hjad : ja < d := by omega
              obtain ⟨b2, c2, q2, _, hR1', _, _⟩ := hG3.at_ (by omega) hjad
              have x2 := hG3.out.cell hjad
              rw [q2] at x2
              obtain ⟨NL, hNL⟩ : ∃ NL, NL = d + T := ⟨_, rfl⟩
              obtain ⟨dt, hdt⟩ : ∃ dt, dt = d + t := ⟨_, rfl⟩
              have hdtN : dt < NL := by omega
              have x3 := hR1.cell (show d + t < d + T by omega)
              have x4 := hR1'.cell (show d + t < d + T by omega)
              obtain ⟨B6, o6, A6, r6, c6, b6, hAB, x5, hb6, hB6⟩ := hR4.get hil
              injection hAB with hAB
              injection hAB with hAB1 hAB2
              subst hAB1 hAB2
              rw [matL_get _ hil] at hb6
              injection hb6 with hb6
              subst hb6
              have har6 : a < r6 := by rw [hB6.len, rowL_len]; omega
              obtain ⟨B7, o7, u7, rfl, hu7, x6⟩ := hB6.at_ har6
              obtain rfl : u7 = upw (x il) a := by
                rw [rowL_get _ (by omega)] at hu7
                injection hu7 with hu7
                exact hu7.symm
              rw [← hNL] at x1 x2
              rw [← hdt] at x3 x4
              have x6' : w3.cell? ⟨B7, o7 + a, none⟩ = some (.int .u8 ((upw (x il) a).toNat : Int)) := x6
              have x3' : w3.cell? ⟨b1, dt, none⟩ = some (.int .u8 ((St j dt).toNat : Int)) := x3
              have x4' : w3.cell? ⟨b2, dt, none⟩ = some (.int .u8 ((St ja dt).toNat : Int)) := x4
              have HV : Hid (ux (St j dt) (um (St ja dt) (upw (x il) a)) = rxE X a T (x il) (j * T + t)) := by
                show ux (St j dt) (um (St ja dt) (upw (x il) a)) = rxE X a T (x il) (j * T + t)
                rw [rxE_at X (x il) hlt, HXS.out, hdt, hja]
              have w1 : IntKind.i64.wrap ((d : Int) + (t : Int)) = (dt : Int) := by rw [hdt, Int.natCast_add]; exact IntWalk.i64_in _ (by omega)
              have w2' : IntKind.i64.wrap ((j : Int) + (k : Int)) = (j : Int) + (k : Int) := IntWalk.i64_in _ (by omega)
              have w3' : IntKind.i64.wrap ((j : Int) + (k : Int) - 1) = (ja : Int) := by
                rw [show (j : Int) + (k : Int) - 1 = (ja : Int) by omega]
                exact IntWalk.i64_in _ (by omega)
              have w4' : IntKind.i64.wrap ((k : Int) - 1) = (a : Int) := by rw [hka]; exact IntWalk.i64_in _ (by omega)
              have g1 : (0 : Int) ≤ (dt : Int) := by omega
              have g2 : (dt : Int) < (NL : Int) := by omega
              have g3' : (j : Int) < (d : Int) := by omega
              have g4 : (ja : Int) < (d : Int) := by omega
              have g5 : (a : Int) < (r6 : Int) := by omega
              have g6 : (il : Int) < (n : Int) := by omega
              clear q1 q2 hR1 hR1' x3 x4 x6 hu7 hB6 hNL hdt hja hDA hKE y03 hka
              generalize St j dt = s1 at *
              generalize St ja dt = s2 at *
              generalize upw (x il) a = yl at *
              have hxor := xorU s1 (um s2 yl)
              have hS : ∀ u, Kp No w3 u → (Kp No w3 u ∧ u.cell? ⟨g3, j, none⟩ = some (.slice (some ⟨b1, 0, none⟩) NL c1) ∧ u.cell? ⟨g3, ja, none⟩ = some (.slice (some ⟨b2, 0, none⟩) NL c2) ∧ u.cell? ⟨b1, dt, none⟩ = some (.int .u8 (s1.toNat : Int)) ∧ u.cell? ⟨b2, dt, none⟩ = some (.int .u8 (s2.toNat : Int)) ∧ u.cell? ⟨B3, o3 + il, none⟩ = some (.slice (some ⟨B7, o7, none⟩) r6 c6) ∧ u.cell? ⟨B7, o7 + a, none⟩ = some (.int .u8 (yl.toNat : Int))) := fun u hk => ⟨hk, hk.cell x1 fun f => f, hk.cell x2 fun f => f, hk.cell x3' fun f => f, hk.cell x4' fun f => f, hk.cell x5 fun f => f, hk.cell x6' fun f => f⟩
              have hl : (rowL (j * T + t) (rxE X a T (x il))).length + [rxE X a T (x il) (j * T + t)].length ≤ 1000000000 := by have := HJ.out; rw [rowL_len]; simp; omega
              clear x1 x2 x3' x4' x5 x6'
              refine wp_region_noPanic ?_
              refine wp_region_held_drew (S := fun w' => Kp No w3 w' ∧ w'.cell? ⟨g3, j, none⟩ = some (.slice (some ⟨b1, 0, none⟩) NL c1) ∧ w'.cell? ⟨g3, ja, none⟩ = some (.slice (some ⟨b2, 0, none⟩) NL c2) ∧ w'.cell? ⟨b1, dt, none⟩ = some (.int .u8 (s1.toNat : Int)) ∧ w'.cell? ⟨b2, dt, none⟩ = some (.int .u8 (s2.toNat : Int)) ∧ w'.cell? ⟨B3, o3 + il, none⟩ = some (.slice (some ⟨B7, o7, none⟩) r6 c6) ∧ w'.cell? ⟨B7, o7 + a, none⟩ = some (.int .u8 (yl.toNat : Int))) (by kernel_rfl) (hS _ (hkr.trans' (Sm.drew wr).kp)) (fun hHeld => ?_)
              refine wpAnyH_take (i := 0) (v := ?vfx1) (oi := ?ofx1) ?hfx1 (by kernel_rfl) (by kernel_rfl) (by kernel_rfl) (fun _ _ _ h => h) (Or.inl ⟨?wfx1, ?yfx1⟩) hHeld ?rfx1
              case hfx1 => simp only [List.getElem?_toArray, List.getElem?_cons_zero, List.getElem?_cons_succ]; rfl
              case wfx1 => rfl
              case yfx1 => intro w hSw; (try dsimp only at hSw); go_simp; (try with_reducible rfl)
              simp only [Act.put, List.setIfInBounds_toArray, List.set_cons_zero, List.set_cons_succ]
              refine wpAnyH_take (i := 1) (v := ?vfx2) (oi := ?ofx2) ?hfx2 (by kernel_rfl) (by kernel_rfl) (by kernel_rfl) (fun _ _ _ h => h) (Or.inl ⟨?wfx2, ?yfx2⟩) hHeld ?rfx2
              case hfx2 => simp only [List.getElem?_toArray, List.getElem?_cons_zero, List.getElem?_cons_succ]; rfl
              case wfx2 => rfl
              case yfx2 => intro w hSw; (try dsimp only at hSw); go_simp; (try with_reducible rfl)
              simp only [Act.put, List.setIfInBounds_toArray, List.set_cons_zero, List.set_cons_succ]
              refine wpAnyH_take (i := 2) (v := ?vfx3) (oi := ?ofx3) ?hfx3 (by kernel_rfl) (by kernel_rfl) (by kernel_rfl) (fun _ _ _ h => h) (Or.inl ⟨?wfx3, ?yfx3⟩) hHeld ?rfx3
              case hfx3 => simp only [List.getElem?_toArray, List.getElem?_cons_zero, List.getElem?_cons_succ]; rfl
              case wfx3 => rfl
              case yfx3 => intro w hSw; (try dsimp only at hSw); go_simp; (try with_reducible rfl)
              simp only [Act.put, List.setIfInBounds_toArray, List.set_cons_zero, List.set_cons_succ]
              refine wpAnyH_take (i := 3) (v := ?vfx4) (oi := ?ofx4) ?hfx4 (by kernel_rfl) (by kernel_rfl) (by kernel_rfl) (fun _ _ _ h => h) (Or.inl ⟨?wfx4, ?yfx4⟩) hHeld ?rfx4
              case hfx4 => simp only [List.getElem?_toArray, List.getElem?_cons_zero, List.getElem?_cons_succ]; rfl
              case wfx4 => rfl
              case yfx4 => intro w hSw; (try dsimp only at hSw); go_simp; (try with_reducible rfl)
              simp only [Act.put, List.setIfInBounds_toArray, List.set_cons_zero, List.set_cons_succ]
              refine wpAnyH_take (i := 4) (v := ?vfx5) (oi := ?ofx5) ?hfx5 (by kernel_rfl) (by kernel_rfl) (by kernel_rfl) (fun _ _ _ h => h) (Or.inl ⟨?wfx5, ?yfx5⟩) hHeld ?rfx5
              case hfx5 => simp only [List.getElem?_toArray, List.getElem?_cons_zero, List.getElem?_cons_succ]; rfl
              case wfx5 => rfl
              case yfx5 => intro w hSw; (try dsimp only at hSw); go_simp; (try with_reducible rfl)
              simp only [Act.put, List.setIfInBounds_toArray, List.set_cons_zero, List.set_cons_succ]
              refine wpAnyH_take (i := 5) (v := ?vfx6) (oi := ?ofx6) ?hfx6 (by kernel_rfl) (by kernel_rfl) (by kernel_rfl) (fun _ _ _ h => h) (Or.inl ⟨?wfx6, ?yfx6⟩) hHeld ?rfx6
              case hfx6 => simp only [List.getElem?_toArray, List.getElem?_cons_zero, List.getElem?_cons_succ]; rfl
              case wfx6 => rfl
              case yfx6 => intro w hSw; (try dsimp only at hSw); go_simp; (try with_reducible rfl)
              simp only [Act.put, List.setIfInBounds_toArray, List.set_cons_zero, List.set_cons_succ]
              refine wpAnyH_take (i := 6) (v := ?vfx7) (oi := ?ofx7) ?hfx7 (by kernel_rfl) (by kernel_rfl) (by kernel_rfl) (fun _ _ _ h => h) (Or.inl ⟨?wfx7, ?yfx7⟩) hHeld ?rfx7
              case hfx7 => simp only [List.getElem?_toArray, List.getElem?_cons_zero, List.getElem?_cons_succ]; rfl
              case wfx7 => rfl
              case yfx7 => intro w hSw; (try dsimp only at hSw); go_simp; (try with_reducible rfl)
              simp only [Act.put, List.setIfInBounds_toArray, List.set_cons_zero, List.set_cons_succ]
              refine wpAnyH_take (i := 7) (v := ?vfx8) (oi := ?ofx8) ?hfx8 (by kernel_rfl) (by kernel_rfl) (by kernel_rfl) (fun _ _ _ h => h) (Or.inl ⟨?wfx8, ?yfx8⟩) hHeld ?rfx8
              case hfx8 => simp only [List.getElem?_toArray, List.getElem?_cons_zero, List.getElem?_cons_succ]; rfl
              case wfx8 => rfl
              case yfx8 => intro w hSw; (try dsimp only at hSw); go_simp; (try with_reducible rfl)
              simp only [Act.put, List.setIfInBounds_toArray, List.set_cons_zero, List.set_cons_succ]
              refine wpAnyH_take (i := 8) (v := ?vfx9) (oi := ?ofx9) ?hfx9 (by kernel_rfl) (by kernel_rfl) (by kernel_rfl) (fun _ _ _ h => h) (Or.inl ⟨?wfx9, ?yfx9⟩) hHeld ?rfx9
              case hfx9 => simp only [List.getElem?_toArray, List.getElem?_cons_zero, List.getElem?_cons_succ]; rfl
              case wfx9 => rfl
              case yfx9 => intro w hSw; (try dsimp only at hSw); go_simp; (try with_reducible rfl)
              simp only [Act.put, List.setIfInBounds_toArray, List.set_cons_zero, List.set_cons_succ]
              refine wpAnyH_take (i := 9) (v := ?vfx10) (oi := ?ofx10) ?hfx10 (by kernel_rfl) (by kernel_rfl) (by kernel_rfl) (fun _ _ _ h => h) (Or.inl ⟨?wfx10, ?yfx10⟩) hHeld ?rfx10
              case hfx10 => simp only [List.getElem?_toArray, List.getElem?_cons_zero, List.getElem?_cons_succ]; rfl
              case wfx10 => rfl
              case yfx10 => intro w hSw; (try dsimp only at hSw); go_simp; (try with_reducible rfl)
              simp only [Act.put, List.setIfInBounds_toArray, List.set_cons_zero, List.set_cons_succ]
              refine wpAnyH_take (i := 10) (v := ?vfx11) (oi := ?ofx11) ?hfx11 (by kernel_rfl) (by kernel_rfl) (by kernel_rfl) (fun _ _ _ h => h) (Or.inl ⟨?wfx11, ?yfx11⟩) hHeld ?rfx11
              case hfx11 => simp only [List.getElem?_toArray, List.getElem?_cons_zero, List.getElem?_cons_succ]; rfl
              case wfx11 => rfl
              case yfx11 => intro w hSw; (try dsimp only at hSw); go_simp; (try with_reducible rfl)
              simp only [Act.put, List.setIfInBounds_toArray, List.set_cons_zero, List.set_cons_succ]
              refine wpAnyH_take (i := 11) (v := ?vfx12) (oi := ?ofx12) ?hfx12 (by kernel_rfl) (by kernel_rfl) (by kernel_rfl) (fun _ _ _ h => h) (Or.inl ⟨?wfx12, ?yfx12⟩) hHeld ?rfx12
              case hfx12 => simp only [List.getElem?_toArray, List.getElem?_cons_zero, List.getElem?_cons_succ]; rfl
              case wfx12 => rfl
              case yfx12 => intro w hSw; (try dsimp only at hSw); go_simp; (try with_reducible rfl)
              simp only [Act.put, List.setIfInBounds_toArray, List.set_cons_zero, List.set_cons_succ]
              refine wpAnyH_take (i := 12) (v := ?vfx13) (oi := ?ofx13) ?hfx13 (by kernel_rfl) (by kernel_rfl) (by kernel_rfl) (fun _ _ _ h => h) (Or.inl ⟨?wfx13, ?yfx13⟩) hHeld ?rfx13
              case hfx13 => simp only [List.getElem?_toArray, List.getElem?_cons_zero, List.getElem?_cons_succ]; rfl
              case wfx13 => rfl
              case yfx13 => intro w hSw; (try dsimp only at hSw); go_simp; (try with_reducible rfl)
              simp only [Act.put, List.setIfInBounds_toArray, List.set_cons_zero, List.set_cons_succ]
              refine wpAnyH_take (i := 13) (v := ?vfx14) (oi := ?ofx14) ?hfx14 (by kernel_rfl) (by kernel_rfl) (by kernel_rfl) (fun _ _ _ h => h) (Or.inl ⟨?wfx14, ?yfx14⟩) hHeld ?rfx14
              case hfx14 => simp only [List.getElem?_toArray, List.getElem?_cons_zero, List.getElem?_cons_succ]; rfl
              case wfx14 => rfl
              case yfx14 => intro w hSw; (try dsimp only at hSw); go_simp; (try with_reducible rfl)
              simp only [Act.put, List.setIfInBounds_toArray, List.set_cons_zero, List.set_cons_succ]
              refine wpAnyH_take (i := 14) (v := ?vfx15) (oi := ?ofx15) ?hfx15 (by kernel_rfl) (by kernel_rfl) (by kernel_rfl) (fun _ _ _ h => h) (Or.inl ⟨?wfx15, ?yfx15⟩) hHeld ?rfx15
              case hfx15 => simp only [List.getElem?_toArray, List.getElem?_cons_zero, List.getElem?_cons_succ]; rfl
              case wfx15 => rfl
              case yfx15 => intro w hSw; (try dsimp only at hSw); go_simp; (try with_reducible rfl)
              simp only [Act.put, List.setIfInBounds_toArray, List.set_cons_zero, List.set_cons_succ]
              refine wpAnyH_take (i := 15) (v := ?vfx16) (oi := ?ofx16) ?hfx16 (by kernel_rfl) (by kernel_rfl) (by kernel_rfl) (fun _ _ _ h => h) (Or.inl ⟨?wfx16, ?yfx16⟩) hHeld ?rfx16
              case hfx16 => simp only [List.getElem?_toArray, List.getElem?_cons_zero, List.getElem?_cons_succ]; rfl
              case wfx16 => rfl
              case yfx16 => intro w hSw; (try dsimp only at hSw); go_simp; (try with_reducible rfl)
              simp only [Act.put, List.setIfInBounds_toArray, List.set_cons_zero, List.set_cons_succ]
              refine wpAnyH_take (i := 16) (v := ?vfx17) (oi := ?ofx17) ?hfx17 (by kernel_rfl) (by kernel_rfl) (by kernel_rfl) (fun _ _ _ h => h) (Or.inl ⟨?wfx17, ?yfx17⟩) hHeld ?rfx17
              case hfx17 => simp only [List.getElem?_toArray, List.getElem?_cons_zero, List.getElem?_cons_succ]; rfl
              case wfx17 => rfl
              case yfx17 => intro w hSw; (try dsimp only at hSw); go_simp; (try with_reducible rfl)
              simp only [Act.put, List.setIfInBounds_toArray, List.set_cons_zero, List.set_cons_succ]
              refine wpAnyH_take (i := 17) (v := ?vfx18) (oi := ?ofx18) ?hfx18 (by kernel_rfl) (by kernel_rfl) (by kernel_rfl) (fun _ _ _ h => h) (Or.inl ⟨?wfx18, ?yfx18⟩) hHeld ?rfx18
              case hfx18 => simp only [List.getElem?_toArray, List.getElem?_cons_zero, List.getElem?_cons_succ]; rfl
              case wfx18 => rfl
              case yfx18 => intro w hSw; (try dsimp only at hSw); go_simp; (try with_reducible rfl)
              simp only [Act.put, List.setIfInBounds_toArray, List.set_cons_zero, List.set_cons_succ]
              refine wpAnyH_take (i := 18) (v := ?vfx19) (oi := ?ofx19) ?hfx19 (by kernel_rfl) (by kernel_rfl) (by kernel_rfl) (fun _ _ _ h => h) (Or.inl ⟨?wfx19, ?yfx19⟩) hHeld ?rfx19
              case hfx19 => simp only [List.getElem?_toArray, List.getElem?_cons_zero, List.getElem?_cons_succ]; rfl
              case wfx19 => rfl
              case yfx19 => intro w hSw; (try dsimp only at hSw); go_simp; (try with_reducible rfl)
              simp only [Act.put, List.setIfInBounds_toArray, List.set_cons_zero, List.set_cons_succ]
              refine wpAnyH_take (i := 19) (v := ?vfx20) (oi := ?ofx20) ?hfx20 (by kernel_rfl) (by kernel_rfl) (by kernel_rfl) (fun _ _ _ h => h) (Or.inl ⟨?wfx20, ?yfx20⟩) hHeld ?rfx20
              case hfx20 => simp only [List.getElem?_toArray, List.getElem?_cons_zero, List.getElem?_cons_succ]; rfl
              case wfx20 => rfl
              case yfx20 => intro w hSw; (try dsimp only at hSw); go_simp; (try with_reducible rfl)
              simp only [Act.put, List.setIfInBounds_toArray, List.set_cons_zero, List.set_cons_succ]
              refine wpAnyH_take (i := 20) (v := ?vfx21) (oi := ?ofx21) ?hfx21 (by kernel_rfl) (by kernel_rfl) (by kernel_rfl) (fun _ _ _ h => h) (Or.inl ⟨?wfx21, ?yfx21⟩) hHeld ?rfx21
              case hfx21 => simp only [List.getElem?_toArray, List.getElem?_cons_zero, List.getElem?_cons_succ]; rfl
              case wfx21 => rfl
              case yfx21 => intro w hSw; (try dsimp only at hSw); go_simp; (try with_reducible rfl)
              simp only [Act.put, List.setIfInBounds_toArray, List.set_cons_zero, List.set_cons_succ]
              refine wpAnyH_take (i := 21) (v := ?vfx22) (oi := ?ofx22) ?hfx22 (by kernel_rfl) (by kernel_rfl) (by kernel_rfl) (fun _ _ _ h => h) (Or.inl ⟨?wfx22, ?yfx22⟩) hHeld ?rfx22
              case hfx22 => simp only [List.getElem?_toArray, List.getElem?_cons_zero, List.getElem?_cons_succ]; rfl
              case wfx22 => rfl
              case yfx22 => intro w hSw; (try dsimp only at hSw); go_simp; (try with_reducible rfl)
              simp only [Act.put, List.setIfInBounds_toArray, List.set_cons_zero, List.set_cons_succ]
              refine wpAnyH_take (i := 22) (v := ?vfx23) (oi := ?ofx23) ?hfx23 (by kernel_rfl) (by kernel_rfl) (by kernel_rfl) (fun _ _ _ h => h) (Or.inl ⟨?wfx23, ?yfx23⟩) hHeld ?rfx23
              case hfx23 => simp only [List.getElem?_toArray, List.getElem?_cons_zero, List.getElem?_cons_succ]; rfl
              case wfx23 => rfl
              case yfx23 => intro w hSw; (try dsimp only at hSw); go_simp; (try with_reducible rfl)
              simp only [Act.put, List.setIfInBounds_toArray, List.set_cons_zero, List.set_cons_succ]
              refine wpAnyH_take (i := 23) (v := ?vfx24) (oi := ?ofx24) ?hfx24 (by kernel_rfl) (by kernel_rfl) (by kernel_rfl) (fun _ _ _ h => h) (Or.inl ⟨?wfx24, ?yfx24⟩) hHeld ?rfx24
              case hfx24 => simp only [List.getElem?_toArray, List.getElem?_cons_zero, List.getElem?_cons_succ]; rfl
              case wfx24 => rfl
              case yfx24 => intro w hSw; (try dsimp only at hSw); go_simp; (try with_reducible rfl)
              simp only [Act.put, List.setIfInBounds_toArray, List.set_cons_zero, List.set_cons_succ]
              refine wpAnyH_take (i := 24) (v := ?vfx25) (oi := ?ofx25) ?hfx25 (by kernel_rfl) (by kernel_rfl) (by kernel_rfl) (fun _ _ _ h => h) (Or.inl ⟨?wfx25, ?yfx25⟩) hHeld ?rfx25
              case hfx25 => simp only [List.getElem?_toArray, List.getElem?_cons_zero, List.getElem?_cons_succ]; rfl
              case wfx25 => rfl
              case yfx25 => intro w hSw; (try dsimp only at hSw); go_simp; (try with_reducible rfl)
              simp only [Act.put, List.setIfInBounds_toArray, List.set_cons_zero, List.set_cons_succ]
              refine wpAnyH_take (i := 25) (v := ?vfx26) (oi := ?ofx26) ?hfx26 (by kernel_rfl) (by kernel_rfl) (by kernel_rfl) (fun _ _ _ h => h) (Or.inl ⟨?wfx26, ?yfx26⟩) hHeld ?rfx26
              case hfx26 => simp only [List.getElem?_toArray, List.getElem?_cons_zero, List.getElem?_cons_succ]; rfl
              case wfx26 => rfl
              case yfx26 => intro w hSw; (try dsimp only at hSw); go_simp; (try with_reducible rfl)
              simp only [Act.put, List.setIfInBounds_toArray, List.set_cons_zero, List.set_cons_succ]
              refine wpAnyH_take (i := 26) (v := ?vfx27) (oi := ?ofx27) ?hfx27 (by kernel_rfl) (by kernel_rfl) (by kernel_rfl) (fun _ _ _ h => h) (Or.inl ⟨?wfx27, ?yfx27⟩) hHeld ?rfx27
              case hfx27 => simp only [List.getElem?_toArray, List.getElem?_cons_zero, List.getElem?_cons_succ]; rfl
              case wfx27 => rfl
              case yfx27 => intro w hSw; (try dsimp only at hSw); go_simp; (try with_reducible rfl)
              simp only [Act.put, List.setIfInBounds_toArray, List.set_cons_zero, List.set_cons_succ]
              refine wpAnyH_take (i := 27) (v := ?vfx28) (oi := ?ofx28) ?hfx28 (by kernel_rfl) (by kernel_rfl) (by kernel_rfl) (fun _ _ _ h => h) (Or.inl ⟨?wfx28, ?yfx28⟩) hHeld ?rfx28
              case hfx28 => simp only [List.getElem?_toArray, List.getElem?_cons_zero, List.getElem?_cons_succ]; rfl
              case wfx28 => rfl
              case yfx28 => intro w hSw; (try dsimp only at hSw); go_simp; (try with_reducible rfl)
              simp only [Act.put, List.setIfInBounds_toArray, List.set_cons_zero, List.set_cons_succ]
              refine wpAnyH_take (i := 28) (v := ?vfx29) (oi := ?ofx29) ?hfx29 (by kernel_rfl) (by kernel_rfl) (by kernel_rfl) (fun _ _ _ h => h) (Or.inl ⟨?wfx29, ?yfx29⟩) hHeld ?rfx29
              case hfx29 => simp only [List.getElem?_toArray, List.getElem?_cons_zero, List.getElem?_cons_succ]; rfl
              case wfx29 => rfl
              case yfx29 => intro w hSw; (try dsimp only at hSw); go_simp; (try with_reducible rfl)
              simp only [Act.put, List.setIfInBounds_toArray, List.set_cons_zero, List.set_cons_succ]
              refine wpAnyH_take (i := 29) (v := ?vfx30) (oi := ?ofx30) ?hfx30 (by kernel_rfl) (by kernel_rfl) (by kernel_rfl) (fun _ _ _ h => h) (Or.inl ⟨?wfx30, ?yfx30⟩) hHeld ?rfx30
              case hfx30 => simp only [List.getElem?_toArray, List.getElem?_cons_zero, List.getElem?_cons_succ]; rfl
              case wfx30 => rfl
              case yfx30 => intro w hSw; (try dsimp only at hSw); go_simp; (try with_reducible rfl)
              simp only [Act.put, List.setIfInBounds_toArray, List.set_cons_zero, List.set_cons_succ]
              refine wpAnyH_ready (rs := [30]) (by kernel_rfl) (by simp) ?_
              refine AllReadyH.cons (o := ?ofx31) ?hfx31 (fun K hK => ?sfx31) AllReadyH.nil
              case hfx31 => simp only [List.getElem?_toArray, List.getElem?_cons_zero, List.getElem?_cons_succ]; rfl
              go_simp
              refine (refmulU_any s2 yl _).mono ?_
              rintro e w' ⟨rfl, rfl⟩
              go_wp2_with fail
              refine hK.out _ _ (hHeld) (fun hHeld => ?_)
              clear hK K
              try simp only [Act.put, List.setIfInBounds_toArray, List.set_cons_zero, List.set_cons_succ]
              refine wpAnyH_take (i := 31) (v := ?vfx32) (oi := ?ofx32) ?hfx32 (by kernel_rfl) (by kernel_rfl) (by kernel_rfl) (fun _ _ _ h => h) (Or.inl ⟨?wfx32, ?yfx32⟩) hHeld ?rfx32
              case hfx32 => simp only [List.getElem?_toArray, List.getElem?_cons_zero, List.getElem?_cons_succ]; rfl
              case wfx32 => rfl
              case yfx32 => intro w hSw; (try dsimp only at hSw); go_simp; (try with_reducible rfl)
              simp only [Act.put, List.setIfInBounds_toArray, List.set_cons_zero, List.set_cons_succ]
              refine wpAnyH_ready (rs := [32]) (by kernel_rfl) (by simp) ?_
              refine AllReadyH.cons (o := ?ofx33) ?hfx33 (fun K hK => ?sfx33) AllReadyH.nil
              case hfx33 => simp only [List.getElem?_toArray, List.getElem?_cons_zero, List.getElem?_cons_succ]; rfl
              go_simp
              refine hK.out _ _ (hS _ (hHeld.1.trans' (Kp.alloc No _ _))) (fun hHeld => ?_)
              clear hK K
              try simp only [Act.put, List.setIfInBounds_toArray, List.set_cons_zero, List.set_cons_succ]
              refine wpAnyH_ready (rs := [33]) (by kernel_rfl) (by simp) ?_
              refine AllReadyH.cons (o := ?ofx34) ?hfx34 (fun K hK => ?sfx34) AllReadyH.nil
              case hfx34 => simp only [List.getElem?_toArray, List.getElem?_cons_zero, List.getElem?_cons_succ]; rfl
              rw [HV.out]
              have ho2 := (ho.no (Sm.drew wr).kp).alloc (.cells #[bv (rxE X a T (x il) (j * T + t))] 5)
              refine step_app rfl (.tmp 63) (.tmp 95) _ rfl i0 Try.underlying22 hi0 hz0 hz1 hz2 rfl ho2 rfl (bts_new _ (rxE X a T (x il) (j * T + t)) _ rfl) hl ?b33 ?_
              case b33 => exact (hkr.trans' ((Sm.drew wr).kp.trans' (Kp.alloc No _ _))).size
              intro A9 n9 c9 w9 ha9
              have k9 : Kp No w3 w9 := ha9.keeps ho2 (hkr.trans' ((Sm.drew wr).kp.trans' (Kp.alloc No _ _)))
              refine hK.out _ _ (hS _ k9) (fun hHeld => ?_)
              clear hK K
              try simp only [Act.put, List.setIfInBounds_toArray, List.set_cons_zero, List.set_cons_succ]
              refine wpAnyH_ready (rs := [34]) (by kernel_rfl) (by simp) ?_
              refine AllReadyH.cons (o := ?ofx35) ?hfx35 (fun K hK => ?sfx35) AllReadyH.nil
              case hfx35 => simp only [List.getElem?_toArray, List.getElem?_cons_zero, List.getElem?_cons_succ]; rfl
              go_simp
              refine hK.out _ _ (hHeld) (fun hHeld => ?_)
              clear hK K
              try simp only [Act.put, List.setIfInBounds_toArray, List.set_cons_zero, List.set_cons_succ]
              refine wpAnyH_done (by kernel_rfl) ?_ _
              refine NoPanic.normal ?_
              go_wp2_with fail
              go_round
              case rel => exact ⟨t + 1, A9, n9, c9, by omega, by go_num, rfl, by rw [← Nat.add_assoc, rowL_succ]; exact ha9.own, k9⟩
              case measure => simp [intOf]; omega
            · obtain rfl : t = T := by omega
              go_wp2_with fail
              go_round
              case rel => exact ⟨j + 1, A', r, cc, by omega, by go_num, rfl, by rw [Nat.add_mul, Nat.one_mul]; exact ho, hkr⟩
              case measure => simp [intOf]; omega
        · obtain rfl : j = a := by omega
          go_wp2_with fail
          go_ret
          exact ⟨X, A', r, cc, rfl, by rw [HWE.out]; exact ho.rebase fun b hb => Nat.le_trans hkw3.size (ho.ge b hb), HX.out, hkw3.trans' hkr⟩
end Go.Proofs.Ythmplbklphobaaa
