/- The document's Decode, as a contract over memory. -/
import Derived.Test.YtbkelijmdpoanaaDe
import Derived.Test.YtbkelijmdpoanaaRs
namespace Go.Proofs.Ytbkelijmdpoanaa
open Go.RowKit
set_option linter.unusedVariables false
set_option linter.unusedSimpArgs false
set_option maxRecDepth 100000

/-- Two rows side by side. -/
def ctF (q : Nat) (f h : Nat → UInt8) (p : Nat) : UInt8 := if p < q then f p else h (p - q)
theorem ctF_set {q : Nat} {f f' h : Nat → UInt8} {z : Nat} {v : UInt8} (hz : z < q) (hs : ∀ p, upd f z v p = f' p) (p : Nat) : upd (ctF q f h) z v p = ctF q f' h p := by
  rw [show ctF q f' h p = if p < q then f' p else h (p - q) from rfl, ← hs p]
  unfold upd ctF
  by_cases e : p = z
  · subst e
    rw [if_pos rfl, if_pos hz, if_pos rfl]
  · rw [if_neg e, if_neg e]
theorem ctF_out {q i : Nat} (f : Nat → UInt8) (t : Nat → UInt8) (p : Nat) : upd (ctF q f (upS t (fun _ => 0) i)) (q + i) (t i) p = ctF q f (upS t (fun _ => 0) (i + 1)) p := by
  unfold upd ctF upS
  by_cases e : p = q + i
  · subst e
    rw [if_pos rfl, if_neg (by omega), show q + i - q = i by omega, if_pos (by omega)]
  · rw [if_neg e]
    by_cases e2 : p < q
    · rw [if_pos e2, if_pos e2]
    · rw [if_neg e2, if_neg e2]
      by_cases e3 : p - q < i
      · rw [if_pos e3, if_pos (by omega)]
      · rw [if_neg e3, if_neg (by omega)]
/-- As ref's equations are laid: what stands there, and one more. -/
theorem eqS_xor {a j R : Nat} (y : UInt8) (p : Nat) : upd (eqS a y j R) (plcF a R j) (ux (eqS a y j R (plcF a R j)) (upw y R)) p = eqS a y j (R + 1) p := by
  show _ = eqS a y j R p ^^^ (if plcF a R j = p then upw y R else 0)
  unfold upd
  by_cases e : p = plcF a R j
  · subst e
    rw [if_pos rfl, if_pos rfl]
    rfl
  · rw [if_neg e, if_neg (fun e' => e e'.symm), ux_zero]
theorem rowL_app (n m : Nat) (f g h : Nat → UInt8) (h1 : ∀ t, t < n → h t = f t) (h2 : ∀ t, t < m → h (n + t) = g t) : rowL n f ++ rowL m g = rowL (n + m) h := by
  refine List.ext_getElem? fun t => ?_
  by_cases e : t < n
  · rw [List.getElem?_append_left (by rw [rowL_len]; exact e), rowL_get _ e, rowL_get _ (by omega), h1 t e]
  · rw [List.getElem?_append_right (by rw [rowL_len]; omega), rowL_len]
    by_cases e2 : t < n + m
    · rw [rowL_get _ (by omega), rowL_get _ e2, ← h2 (t - n) (by omega), show n + (t - n) = t by omega]
    · rw [List.getElem?_eq_none (by rw [rowL_len]; omega), List.getElem?_eq_none (by rw [rowL_len]; omega)]
/-- A message comes back, whose shards these are. -/
def MsgRPost (w : World) (a q L W : Nat) (E : Nat → Nat → UInt8) (ds : Nat → List UInt8) (e : Ending) (w1 : World) : Prop :=
  ∃ (X : Nat → Nat → UInt8) (A' : Option Addr) (r cc : Nat), e = .returned (.slice A' r cc) ∧ Own w1 w.heap.size 5 (.slice A' r cc) (rowL W fun t => X (t / L) (t % L)) ∧ EqF q L (mulF q E X) (knF a L ds) ∧ Kp No w w1

set_option maxHeartbeats 16000000 in
theorem rdec_any {w : World} {n k a d q L W : Nat} {x : Nat → UInt8} {Bs os ms cs : Nat} {Ad : Option Addr} {md cd : Nat} {ss : Nat → Nat} {dl : List (List UInt8)} {ds : Nat → List UInt8} (hD : Dim n k a d q) (hX : Pts n a x)
    (hsl : ∀ j, j < k → w.cell? ⟨Bs, os + j, none⟩ = some (.int .i64 (ss j : Int))) (hks : k ≤ ms) (hsh : Rws w Ad md dl) (hkd : k ≤ md) (hdl : ∀ j, j < k → dl[j]? = some (ds j)) (hlen : ∀ j, j < k → (ds j).length = a * L) (hsn : ∀ j, j < k → ss j < n) (hU : Uq k fun j => upw (x (ss j)) a)
    (hL1 : 1 ≤ L) (hL2 : L ≤ 60) (hq12 : q ≤ 12) (hW : W = q * L) :
    Calls Try.prog 22 #[.int .i64 (n : Int), .int .i64 (k : Int), .slice (some ⟨Bs, os, none⟩) ms cs, .slice Ad md cd] w (MsgRPost w a q L W (eqM a (plcF a) fun j => x (ss j)) ds) := by
  obtain ⟨i0, hi0, hz0, hz1, hz2⟩ := byte_parts
  obtain ⟨hq1, hq2, hq3⟩ := hD.q56
  have ha1 := hD.a1
  have ha7 := hD.a7
  have hn24 := hD.n2
  have hk1 : 1 ≤ k := by have := hD.k_; omega
  have hk8 : k ≤ 8 := by have := hD.k_; omega
  have hd14 : d ≤ 14 := by have := hD.d_; omega
  have hka : (k : Int) - 1 = (a : Int) := by have := hD.k_; omega
  have hkq : (k : Int) * (a : Int) = (q : Int) := by rw [hD.k_, hD.q_, Int.natCast_mul]
  have h2k : 2 * (k : Int) - 2 = (d : Int) := by have := hD.k_; have := hD.d_; omega
  have HKQ : Hid (k * a = q) := by show k * a = q; rw [hD.k_, hD.q_]
  have haL : a * L ≤ 1000 := Nat.le_trans (Nat.mul_le_mul_right L hq3) (Nat.le_trans (Nat.mul_le_mul hq12 hL2) (by omega))
  obtain ⟨B0, o0, A0, r0, c0, b0, rfl, z00, hb0, hB0⟩ := hsh.get (j := 0) (by omega)
  rw [Nat.add_zero] at z00
  have hr0 : r0 = a * L := by
    rw [hdl 0 (by omega)] at hb0
    injection hb0 with hb0
    rw [hB0.len, ← hb0, hlen 0 (by omega)]
  have hrL : (r0 : Int) / (a : Int) = (L : Int) := by rw [hr0, Int.natCast_mul, Int.mul_ediv_cancel_left _ (by omega)]
  have hr0b : r0 ≤ 1000 := by omega
  have HW0 : Hid ((redS q (eqM a (plcF a) fun j => x (ss j)) q).rk = q) := by
    have := eqM_whole (plc_ok (a := a) (by omega) ha1) ha1 rfl (x := fun j => x (ss j)) (by rw [← hD.k_]; exact hU)
    rw [← hD.q_] at this
    exact this
  have HPL : Hid (∀ r j, r < d → j < a → plcF a r j < q) := fun r j hr hj => plc_lt hD hr hj
  have HR := hide (rrows_any w hD hX)
  have HPP := hide (fun w => places_any w hD)
  have HSL := hide hsl
  have HDL := hide hdl
  have HLEN := hide hlen
  have HSN := hide hsn
  have HWE := hide hW
  have HDD := hide hD.d_
  have HKA := hide hka
  have HQ := hide hkq
  have H2K := hide h2k
  have HRL := hide hrL
  have HR0 := hide hr0
  clear hsl hdl hlen hsn hW hU hX hD hb0 hB0 hr0 hka hkq h2k hrL
  go_enter Try.func22, Try.ntmps22
  go_wp2_with fail
  refine HR.out.mono ?_
  rintro e w1 ⟨Ar, cr, rfl, hRr, hk1'⟩
  go_wp2_with fail
  refine (HPP.out w1).mono ?_
  rintro e w2 ⟨gp, cpp, bl, rfl, hG, hk2'⟩
  have hR2 := hRr.no hk2'
  have hk2 := hk1'.trans' hk2'
  have y00 := hk2.cell z00 fun f => f
  have hka := HKA.out
  have hkq := HQ.out
  have hrL := HRL.out
  clear hRr z00 HPP HR
  go_wp2_with fail
  clear hkq hrL y00
  go_loopw [13, 14] (fun v iv wr => ∃ (i : Nat) (A' : Option Addr) (r cc : Nat) (vs : List Value), i ≤ k ∧ iv = .int .i64 (i : Int) ∧ v = .slice A' r cc ∧ RInv w2 (fun t => rowL (q + L) (catF q (eqM a (plcF a) (fun j => x (ss j))) (knF a L ds) t)) (i * a) (.slice A' r cc) vs wr) (fun _ iv _ => k - (intOf iv).toNat)
  case atStart => exact ⟨0, none, 0, 0, [], Nat.zero_le _, rfl, rfl, by rw [Nat.zero_mul]; exact ⟨OwnV.nil _ _, rfl, (fun j u hj => by simp at hj), Kp.refl _ _⟩⟩
  case round =>
    obtain ⟨i, A', r, cc, vs, hi, rfl, rfl, hI⟩ := hrel
    by_cases hlt : i < k
    · go_wp2_with fail
      go_loopw [13, 15] (fun v jv wr => ∃ (j : Nat) (A' : Option Addr) (r cc : Nat) (vs : List Value), j ≤ a ∧ jv = .int .i64 (j : Int) ∧ v = .slice A' r cc ∧ RInv w2 (fun t => rowL (q + L) (catF q (eqM a (plcF a) (fun j => x (ss j))) (knF a L ds) t)) (i * a + j) (.slice A' r cc) vs wr) (fun _ jv _ => a - (intOf jv).toNat)
      case atStart => exact ⟨0, A', r, cc, vs, Nat.zero_le _, rfl, rfl, hI⟩
      case round =>
        clear hI
        obtain ⟨j, A', r, cc, vs, hj, rfl, rfl, hI⟩ := hrel
        by_cases hltj : j < a
        · obtain ⟨wB, rfl⟩ : ∃ wB, wB = wr := ⟨_, rfl⟩
          obtain ⟨NL, hNL⟩ : ∃ NL, NL = q + L := ⟨_, rfl⟩
          have hmk := make_bytes wB NL ((q : Int) + (L : Int)) (by omega) (by omega)
          have hst := row_new wB NL (by omega)
          have hk0 : Kp No wB (wB.alloc (.cells (zc NL) 5)) := Kp.alloc No _ _
          have hNq : q + L ≤ NL := by omega
          have HNL := hide hNL
          clear hNL
          obtain ⟨g, hg⟩ : ∃ g, g = wB.heap.size := ⟨_, rfl⟩
          have HEQ : Hid (eqM a (plcF a) (fun j => x (ss j)) (i * a + j) = eqS a (x (ss i)) j d) := eqM_at (fun j => x (ss j)) HDD.out hltj
          go_wp2_with fail
          rw [← hg] at hst ⊢
          have HGG := hide hg
          clear hg hmk hka
          go_loopw [17] (fun Rv wr => ∃ R : Nat, R ≤ d ∧ Rv = .int .i64 (R : Int) ∧ RowAt wr g g NL NL (ctF q (eqS a (x (ss i)) j R) fun _ => 0) ∧ Kp No wB wr) (fun Rv _ => d - (intOf Rv).toNat)
          case atStart => exact ⟨0, Nat.zero_le _, rfl, hst.eq fun p _ => by unfold ctF; split <;> rfl, hk0⟩
          case round =>
            clear hst hk0
            obtain ⟨R, hR, rfl, hRow, hkw⟩ := hrel
            have h2k := H2K.out
            by_cases hltR : R < d
            · have hkk := hI.kp.trans' hkw
              have e1 := (hG.no hkk).outer hltR
              have e2 := (hG.no hkk).cell hltR hltj
              have hp := HPL.out R j hltR hltj
              have e3 := hRow.cell (k := plcF a R j) (by omega)
              have hcv : ctF q (eqS a (x (ss i)) j R) (fun _ => 0) (plcF a R j) = eqS a (x (ss i)) j R (plcF a R j) := if_pos hp
              rw [hcv] at e3
              have e4 := (hk2.trans' hkk).cell (HSL.out i hlt) fun f => f
              have hsn := HSN.out i hlt
              obtain ⟨B3, o3, A3, r3, c3, b3, rfl, e5, hb3, hB3⟩ := (hR2.no hkk).get hsn
              rw [matL_get _ hsn] at hb3
              injection hb3 with hb3
              subst hb3
              obtain rfl : d = r3 := by rw [hB3.len, rowL_len]
              obtain ⟨B4, o4, rfl, e6⟩ := hB3.cell hltR
              have e6' : wr.cell? ⟨B4, o4 + R, none⟩ = some (.int .u8 ((upw (x (ss i)) R).toNat : Int)) := e6
              have HN := fun w3 (hs : Sm wr w3) => (((hRow.no hs.kp).set (k := plcF a R j) (by omega) (ux (eqS a (x (ss i)) j R (plcF a R j)) (upw (x (ss i)) R)) _ rfl).eq fun p _ => ctF_set (h := fun _ => 0) hp (eqS_xor (x (ss i))) p)
              have HNN := hide HN
              have HKN := hide (fun w3 (hs : Sm wr w3) v => (hkw.trans' hs.kp).trans ((RowAt.kpset g (plcF a R j) v w3).mono fun b hb => .inr (by rw [hb, HGG.out]; exact Nat.le_refl _)))
              have him : i < ms := by omega
              have himi : (i : Int) < (ms : Int) := by omega
              have hsni : (ss i : Int) < (n : Int) := by omega
              have hzl : plcF a R j < NL := by omega
              have hzi : ((plcF a R j : Nat) : Int) < (NL : Int) := by omega
              have hz0i : (0 : Int) ≤ ((plcF a R j : Nat) : Int) := by omega
              have HFR := hide (fun w3 (hs : Sm wr w3) => (hRow.no hs.kp).frozen (plcF a R j))
              have HCR := hide (fun w3 (hs : Sm wr w3) => (hRow.no hs.kp).cell hzl)
              clear HN hRow hkw hkk e6 hB3 hcv
              generalize hze : plcF a R j = z at *
              clear hze
              generalize eqS a (x (ss i)) j R z = u at *
              generalize upw (x (ss i)) R = v at *
              have hxor := xorU u v
              go_wp2_with fail
              refine wp_region_still_tail 29 (by kernel_rfl) (by kernel_rfl) ?_
              simp only [List.take_succ_cons, List.take_zero, List.drop_succ_cons, List.drop_zero]
              repeat still_step
              refine wpStill_nil ?_
              change wpList _ _ _ _ _ wr.drew
              generalize hgen : wr.drew = w3
              have hs2 : Sm wr w3 := ⟨1, hgen.symm⟩
              clear hgen e1 e2 e3 e4 e5 e6'
              have hy2 := HCR.out w3 hs2
              have hf2 := HFR.out w3 hs2
              go_wp2_with fail
              go_round
              case rel => exact ⟨R + 1, by omega, by go_num, HNN.out w3 hs2, HKN.out w3 hs2 _⟩
              case measure => simp [intOf]; omega
            · obtain rfl : R = d := by omega
              go_wp2_with fail
              clear h2k
              go_loopw [18] (fun mv wr => ∃ mm : Nat, mm ≤ L ∧ mv = .int .i64 (mm : Int) ∧ RowAt wr g g NL NL (ctF q (eqS a (x (ss i)) j R) (upS (fun v => knF a L ds (i * a + j) v) (fun _ => 0) mm)) ∧ Kp No wB wr) (fun mv _ => L - (intOf mv).toNat)
              case atStart => exact ⟨0, Nat.zero_le _, rfl, hRow.eq fun p _ => by unfold ctF upS; split <;> simp, hkw⟩
              case round =>
                clear hRow hkw
                obtain ⟨mm, hmm, rfl, hRow, hkw⟩ := hrel
                by_cases hltm : mm < L
                · have hkk := hk2.trans' (hI.kp.trans' hkw)
                  obtain ⟨B5, o5, A5, r5, c5, b5, hAB, e1, hb5, hB5⟩ := (hsh.no hkk).get (j := i) (by omega)
                  injection hAB with hAB
                  injection hAB with hAB1 hAB2
                  subst hAB1 hAB2
                  rw [HDL.out i hlt] at hb5
                  injection hb5 with hb5
                  subst hb5
                  have hr5 : Hid (r5 = a * L) := by show r5 = a * L; rw [hB5.len, HLEN.out i hlt]
                  obtain ⟨yy, hyy⟩ : ∃ yy, yy = j * L := ⟨_, rfl⟩
                  have hyr : yy + mm < r5 := by rw [hyy, hr5.out]; exact idx_lt hltj hltm
                  have hyi : (j : Int) * (L : Int) = (yy : Int) := by rw [hyy, Int.natCast_mul]
                  have hyb : yy ≤ 1000 := by have := hr5.out; omega
                  obtain ⟨B6, o6, u, rfl, hu, e2⟩ := hB5.at_ hyr
                  have hval : Hid (u = knF a L ds (i * a + j) mm) := by show u = knF a L ds (i * a + j) mm; rw [knF_at ds mm hltj, ← hyy, lg_of hu]
                  have hqm : q + mm < NL := by omega
                  have him : i < md := by omega
                  have e3 := hRow.cell hqm
                  have e4 := hRow.frozen (q + mm)
                  have HN := hide ((hRow.set hqm u _ rfl).eq (t := ctF q (eqS a (x (ss i)) j R) (upS (fun v => knF a L ds (i * a + j) v) (fun _ => 0) (mm + 1))) fun p _ => by
                    rw [hval.out]
                    exact ctF_out (eqS a (x (ss i)) j R) (fun v => knF a L ds (i * a + j) v) p)
                  have HKN := hide (fun v => hkw.trans ((RowAt.kpset g (q + mm) v wr).mono fun b hb => .inr (by rw [hb, HGG.out]; exact Nat.le_refl _)))
                  clear hu hyy hRow hkw hB5 hkk
                  go_wp2_with fail
                  clear hyi
                  go_round
                  case rel => exact ⟨mm + 1, by omega, by go_num, HN.out, HKN.out _⟩
                  case measure => simp [intOf]; omega
                · obtain rfl : mm = L := by omega
                  have hRow' : Own wr g 5 (.slice (some ⟨g, 0, none⟩) NL NL) (rowL (q + mm) (catF q (eqM a (plcF a) (fun j => x (ss j))) (knF a mm ds) (i * a + j))) := by
                    rw [← HNL.out]
                    refine hRow.eq fun p hp => ?_
                    have := HNL.out
                    unfold ctF catF upS
                    rw [HEQ.out]
                    by_cases e : p < q
                    · rw [if_pos e, if_pos e]
                    · rw [if_neg e, if_neg e, if_pos (by omega)]
                  have hlen : vs.length ≤ 1000000 := by
                    rw [hI.len]
                    have h5 := Nat.mul_le_mul (show i ≤ 8 by omega) (show a ≤ 7 by omega)
                    omega
                  have hgw : w2.heap.size ≤ g := by rw [HGG.out]; exact hI.kp.size
                  have hgw2 := hkw.size
                  have hgw3 := hI.kp.size
                  have ho2 : OwnV (wr.alloc (.cells #[.slice (some ⟨g, 0, none⟩) NL NL] 29)) w2.heap.size (.slice A' r cc) vs := (hI.own.no hkw).no (Kp.alloc No _ _)
                  clear hRow HEQ
                  go_wp2_with (first
                    | (at_builtin
                       refine wpList_appV rfl (.tmp 111) (.tmp 113) _ rfl Try.underlying26 rfl ho2 _ rfl (fresh_cell _ _ _) rfl rfl hlen ?hs ?_
                       case hs => simp; omega
                       intro A3 n3 c3 w3 ha))
                  go_round
                  case rel => exact ⟨j + 1, A3, n3, c3, _, by omega, by go_num, rfl, hI.step hkw hRow' hgw ha⟩
                  case measure => simp [intOf]; omega
        · obtain rfl : j = a := by omega
          have e : i * j + j = (i + 1) * j := by rw [Nat.add_mul, Nat.one_mul]
          rw [e] at hI
          clear e
          go_wp2_with fail
          go_round
          case rel => exact ⟨i + 1, A', r, cc, vs, by omega, by go_num, rfl, hI⟩
          case measure => simp [intOf]; omega
    · obtain rfl : i = k := by omega
      have hI2 := hI
      rw [HKQ.out] at hI2
      obtain rfl : q = r := by rw [hI2.own.len, hI2.len]
      have hRws := hI2.rws (bss := matL q (q + L) (catF q (eqM a (plcF a) (fun j => x (ss j))) (knF a L ds))) (matL_len _ _ _) fun t ht => matL_get _ ht
      have hst := rsteps_wide (cp := cc) hRws (fun t bs ht => by
        have htq : t < q := by have := (List.getElem?_eq_some_iff.1 ht).1; rwa [matL_len] at this
        rw [matL_get _ htq] at ht
        injection ht with ht
        rw [← ht, rowL_len]) (by omega) (by omega) (by omega) (by omega)
      have hkw := hk2.trans' hI.kp
      obtain ⟨X, hX⟩ : ∃ X : Nat → Nat → UInt8, X = fun t v => (redS q (fnL (matL q (q + L) (catF q (eqM a (plcF a) (fun j => x (ss j))) (knF a L ds)))) (q + L)).f t (q + v) := ⟨_, rfl⟩
      have HX : Hid (EqF q L (mulF q (eqM a (plcF a) fun j => x (ss j)) X) (knF a L ds)) := by
        obtain ⟨G, hG1, _⟩ := inv_both HW0.out
        have hsol : EqF q L (mulF q (eqM a (plcF a) fun j => x (ss j)) (mulF q G (knF a L ds))) (knF a L ds) := fun u v hu hv => by
          rw [← mulF_assoc]
          exact (mulF_congr hG1 (EqF.refl q L _) u v hu hv).trans (mulF_one (c := L) (knF a L ds) u v hu hv)
        have hXe : EqF q L X (mulF q G (knF a L ds)) := fun u v hu hv => by
          rw [hX]
          exact steps_solve HW0.out (fnL_matL _) hsol u v hu hv
        exact (mulF_congr (EqF.refl q q _) hXe).trans hsol
      generalize hSt : (redS q (fnL (matL q (q + L) (catF q (eqM a (plcF a) (fun j => x (ss j))) (knF a L ds)))) (q + L)).f = St at *
      clear hI hI2 hRws hka
      go_wp2_with fail
      refine hst.mono ?_
      rintro e w3 ⟨g3, hv3, cp3, rfl, hG3, hk3⟩
      rw [hSt] at hG3
      have HXS := hide hX
      clear hst hX hSt
      have hkw3 := hkw.trans' hk3
      go_wp2_with fail
      go_loopw [20, 21] (fun v tv wr => ∃ (t : Nat) (A' : Option Addr) (r cc : Nat), t ≤ q ∧ tv = .int .i64 (t : Int) ∧ v = .slice A' r cc ∧ Own wr w3.heap.size 5 (.slice A' r cc) (rowL (t * L) fun t => X (t / L) (t % L)) ∧ Kp No w3 wr) (fun _ tv _ => q - (intOf tv).toNat)
      case atStart => exact ⟨0, none, 0, 0, Nat.zero_le _, rfl, rfl, by rw [Nat.zero_mul]; exact Own.nil _ _ _, Kp.refl _ _⟩
      case round =>
        obtain ⟨t, A', r, cc, ht, rfl, rfl, ho, hkr⟩ := hrel
        by_cases hltt : t < q
        · obtain ⟨b1, c1, e1, _, hR1, _, _⟩ := (hG3.no hkr).at_ (by omega) hltt
          have x1 := (hG3.no hkr).out.cell hltt
          rw [e1] at x1
          obtain ⟨_, _, _, hcap, _, _, _, _⟩ := Own.block hR1
          obtain ⟨NL, hNL⟩ : ∃ NL, NL = q + L := ⟨_, rfl⟩
          have hbt := hR1.tail
          rw [← hNL] at x1 hcap
          have hNq : q ≤ NL := by omega
          have hNc : q < c1 := by omega
          have hNs : NL - q = L := by omega
          have hsz := hkr.size
          have hln : (rowL (t * L) fun t => X (t / L) (t % L)).length + (rowL L fun v => St t (q + v)).length ≤ 1000000000 := by
            rw [rowL_len, rowL_len]
            have h5 := Nat.mul_le_mul (show t ≤ 12 by omega) (show L ≤ 60 by omega)
            omega
          have HNX : Hid (rowL (t * L) (fun t => X (t / L) (t % L)) ++ (rowL L fun v => St t (q + v)) = rowL ((t + 1) * L) fun t => X (t / L) (t % L)) := by
            show rowL (t * L) (fun t => X (t / L) (t % L)) ++ (rowL L fun v => St t (q + v)) = rowL ((t + 1) * L) fun t => X (t / L) (t % L)
            rw [Nat.add_mul, Nat.one_mul]
            refine rowL_app _ _ _ _ _ (fun _ _ => rfl) fun v hv => ?_
            have h1 : (t * L + v) / L = t := by rw [Nat.mul_comm, Nat.mul_add_div (by omega), Nat.div_eq_of_lt hv, Nat.add_zero]
            have h2 : (t * L + v) % L = v := by rw [Nat.mul_comm, Nat.mul_add_mod, Nat.mod_eq_of_lt hv]
            rw [h1, h2, HXS.out]
          unfold tailV at hbt
          clear e1 hR1 hNL
          go_wp2_with (first
            | (at_builtin
               refine wpList_app rfl (.tmp 123) (.tmp 129) _ rfl i0 Try.underlying29 hi0 hz0 hz1 hz2 rfl ho rfl hbt hln (by omega) ?_
               intro A3 n3 c3 w4 ha3))
          go_round
          case rel => exact ⟨t + 1, A3, n3, c3, by omega, by go_num, rfl, by rw [← HNX.out]; exact ha3.own, ha3.keeps ho hkr⟩
          case measure => simp [intOf]; omega
        · obtain rfl : t = q := by omega
          have hgr := hG3
          go_wp2_with fail
          go_ret
          exact ⟨X, A', r, cc, rfl, by rw [HWE.out]; exact ho.rebase fun b hb => Nat.le_trans hkw3.size (ho.ge b hb), HX.out, hkw3.trans' hkr⟩
end Go.Proofs.Ytbkelijmdpoanaa
