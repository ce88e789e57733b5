/- diary's Records and the document's Records, each as a contract over memory. No condition. -/
import Derived.Test.YtikegnhjnbjclaaDya
namespace Go.Proofs.Ytikegnhjnbjclaa
open Go.RowKit
set_option linter.unusedVariables false
set_option maxRecDepth 20000
set_option linter.unusedSimpArgs false

/-- Slices and what they read as. -/
def sls (ps : List (Value × List UInt8)) : List Value := ps.map Prod.fst
def rws (ps : List (Value × List UInt8)) : List (List UInt8) := ps.map Prod.snd
theorem sls_len (ps : List (Value × List UInt8)) : (sls ps).length = ps.length := List.length_map _
theorem rws_len (ps : List (Value × List UInt8)) : (rws ps).length = ps.length := List.length_map _
theorem sls_snoc (ps : List (Value × List UInt8)) (p : Value × List UInt8) : sls (ps ++ [p]) = sls ps ++ [p.1] := by simp [sls]
theorem rws_snoc (ps : List (Value × List UInt8)) (p : Value × List UInt8) : rws (ps ++ [p]) = rws ps ++ [p.2] := by simp [rws]
theorem sls_take (ps : List (Value × List UInt8)) (k : Nat) : sls (ps.take k) = (sls ps).take k := List.map_take
theorem rws_take (ps : List (Value × List UInt8)) (k : Nat) : rws (ps.take k) = (rws ps).take k := List.map_take
theorem sls_get {ps : List (Value × List UInt8)} {j : Nat} {p : Value × List UInt8} (h : ps[j]? = some p) : (sls ps)[j]? = some p.1 := by unfold sls; rw [List.getElem?_map, h]; rfl
theorem rws_get {ps : List (Value × List UInt8)} {j : Nat} {p : Value × List UInt8} (h : ps[j]? = some p) : (rws ps)[j]? = some p.2 := by unfold rws; rw [List.getElem?_map, h]; rfl

/-- Slices of slices: a row of the call's own, and what its slices bear. -/
structure RwO (w : World) (base : Nat) (v : Value) (ps : List (Value × List UInt8)) : Prop where
  own : OwnT w base 22 1 v ps.length (sls ps)
  ld : ∀ p ∈ ps, Own w base 5 p.1 p.2
section
variable {w w1 : World} {S : Nat → Prop} {base b : Nat} {v v1 u : Value} {bs : List UInt8} {ps : List (Value × List UInt8)} {p : Value × List UInt8}
theorem RwO.nil (w : World) (base : Nat) : RwO w base (.slice none 0 0) [] := ⟨OwnT.nil _ _ _ _, fun p hp => by simp at hp⟩
theorem RwO.no (h : RwO w base v ps) (hk : Kp No w w1) : RwO w1 base v ps := ⟨h.own.no hk, fun p hp => (h.ld p hp).no hk⟩
theorem RwO.one (h : RwO w base v ps) (hp : p ∈ ps) : p.1.oneCell' = true := by
  obtain ⟨A, n, c, e⟩ := (h.ld p hp).form
  rw [e]
  rfl
theorem RwO.rebase (h : RwO w base v ps) (hb : b ≤ base) : RwO w b v ps := ⟨ownT_rebase h.own fun k hk => Nat.le_trans hb (h.own.ge k hk), fun p hp => (h.ld p hp).rebase fun k hk => Nat.le_trans hb ((h.ld p hp).ge k hk)⟩
theorem RwO.next (h : RwO w base v ps) (hl : Own w base 5 u bs) (ha : AppT w base 22 1 v ps.length (sls ps) 1 [u] v1 w1) : RwO w1 base v1 (ps ++ [(u, bs)]) := by
  have key : ∀ x ys, Own w base 5 x ys → Own w1 base 5 x ys := fun x ys hq =>
    hq.keep ha.kp fun k hk hk' => ownT_far (e := 5) (sz := 1) (w := w) (b := base) (n := ys.length) (xs := ys.map bv) (v := x) hq h.own (by decide) hk hk'
  refine ⟨?_, fun q hq => ?_⟩
  · rw [List.length_append, sls_snoc]; exact ha.own
  · rcases List.mem_append.1 hq with hq | hq
    · exact key _ _ (h.ld q hq)
    · rw [List.mem_singleton] at hq; subst hq; exact key _ _ hl
end
/-- What Records returns. -/
def DrPost (w : World) (bs : List UInt8) (e : Ending) (w1 : World) : Prop :=
  ∃ ps sz A r c, e = .returned (.tuple #[.slice A r c, .int .i64 ((sz : Nat) : Int)]) ∧ Rcs bs (rws ps) sz ∧ RwO w1 w.heap.size (.slice A r c) ps ∧ Kp No w w1

set_option maxRecDepth 100000 in
set_option maxHeartbeats 4000000 in
theorem drecs_any {w : World} {n c : Nat} {A : Option Addr} {bs : List UInt8} (hb : Bts w (.slice A n c) bs) (hnc : n ≤ c) (hbig : n ≤ 1000000) :
    Calls Try.prog 7 #[.slice A n c] w (DrPost w bs) := by
  have HL := hide hb.len
  go_enter Try.func7, Try.ntmps7
  go_wp2_with fail
  refine (sscan_any hb hnc hbig).mono ?_
  rintro e w1 ⟨qs, a, r, cc, A3, rfl, hI, hS, hE, k1⟩
  have HM := hide hI.own.len
  have HSE := hide (show ScA bs a (qs.map Prod.fst) ∧ opE (bs.drop a) ≠ 0 from ⟨hS, hE⟩)
  have hr : 12 * r ≤ 1000000 := by have := hS.bound; rw [List.length_map] at this; have := HL.out; have := HM.out; omega
  have HI := hide hI
  have HK1 := hide k1
  clear hI hS hE k1 hb
  go_wp2_with fail
  go_loopw [6, 18] (fun v i wr => ∃ (ps : List (Value × List UInt8)) (j cp : Nat) (Ap : Option Addr), i = .int .i64 (j : Int) ∧ v = .slice Ap j cp ∧ j ≤ r ∧ ps.length = j ∧ RwO wr w1.heap.size (.slice Ap j cp) ps ∧ Hid (RcK (qs.map Prod.fst) a j (rws ps)) ∧ Kp No w1 wr) (fun _ i _ => r - (intOf i).toNat)
  case atStart => exact ⟨[], 0, 0, none, rfl, rfl, Nat.zero_le _, rfl, RwO.nil _ _, hide (RcK.zero _ _), Kp.refl _ _⟩
  case round =>
    obtain ⟨ps, j, cp, Ap, rfl, rfl, hj, hpl, hR, HC, hkr⟩ := hrel
    have HPL := hide hpl
    have HR := hide hR
    clear hpl hR
    by_cases hlt : j < r
    · obtain ⟨⟨d, vq⟩, hq⟩ : ∃ q, qs[j]? = some q := ⟨_, List.getElem?_eq_getElem (by have := HM.out; omega)⟩
      have oq := HI.out.ld _ (List.mem_of_getElem? hq)
      obtain ⟨Aq, nq, cq, rfl⟩ := oq.form
      obtain ⟨q0, q1, q2⟩ := itC_get hq
      obtain ⟨g4, e4, _, hg4, _, _⟩ := HI.out.own.cell q0
      subst e4
      have cq0 := hkr.cell (HI.out.own.cellAt q0) fun f => f
      have cq1 := hkr.cell (HI.out.own.cellAt q1) fun f => f
      have cq2 := hkr.cell (HI.out.own.cellAt q2) fun f => f
      have hi : (qs.map Prod.fst)[j]? = some d := by rw [List.getElem?_map, hq]; rfl
      have HD := hide hi
      have hnq : nq ≤ 900000000 := by
        have h1 := oq.len
        have h2 := HSE.out.1.ld hi
        have h3 := HL.out
        simp only at h1
        omega
      obtain ⟨da, dk, ld⟩ := d
      simp only at cq0 cq1 cq2
      have hkb := Kp.alloc No wr (.cells #[.int .i64 (da : Int), .int .u16 (dk : Int), .slice Aq nq cq] 65)
      have HB := hide ((oq.bts.no hkr).no hkb)
      have HKB := hide (hkr.trans' hkb)
      have b0 : (wr.alloc (.cells #[.int .i64 (da : Int), .int .u16 (dk : Int), .slice Aq nq cq] 65)).cell? ⟨wr.heap.size, 0, none⟩ = some (.int .i64 (da : Int)) := by rw [World.cell?_alloc_mark]; rfl
      have HB0 := hide b0
      clear hi hq oq q0 q1 q2 hg4 hkb b0
      go_wp2_with fail
      refine (dopen_any (num := j + 1) (by omega) HB.out hnq).mono ?_
      rintro e w2 ⟨k2, hp | hp⟩
      · obtain ⟨hok, A5, n5, c5, rfl, ho5⟩ := hp
        have HOK := hide hok
        clear hok
        have K2 : Kp No w1 w2 := HKB.out.trans' k2
        have ho6 := ho5.rebase (b := w1.heap.size) fun k hk => Nat.le_trans HKB.out.size (ho5.ge k hk)
        have HO := hide (ho6.no (Kp.alloc No w2 (.cells #[.slice A5 n5 c5] 22)))
        have hR2 := ((HR.out.no (Kp.alloc No wr _)).no k2).no (Kp.alloc No w2 (.cells #[.slice A5 n5 c5] 22))
        have z2 := K2.size
        have hnw : Nws (w2.alloc (.cells #[.slice A5 n5 c5] 22)) ⟨w2.heap.size, 0, none⟩ 1 1 [.slice A5 n5 c5] := nws_one (by rw [World.cell?_alloc_mark]; rfl) rfl
        have HK2 := hide K2
        clear ho5 ho6 k2 K2
        go_wp2_with (first
          | (at_builtin
             refine wpList_appT ty_slc rfl (.tmp 36) (.tmp 38) _ rfl Try.underlying25 rfl hR2.own _ _ rfl hnw ?hl ?hs ?_
             case hl => have := HPL.out; omega
             case hs => simp; omega
             intro A6 n6 c6 w6 hn6 ha6
             have hR6 := hR2.next HO.out ha6
             have K6 : Kp No w1 w6 := (HK2.out.trans' (Kp.alloc No w2 _)).trans (ha6.kp.mono fun q hq => .inr (hR2.own.ge q hq))
             have hn6' : n6 = j + 1 := by have := HPL.out; omega
             subst hn6'
             have HR6 := hide hR6
             have HK6 := hide K6
             clear hn6 ha6 hR6 K6 hR2 hnw))
        go_round
        case rel => exact ⟨ps ++ [(.slice A5 n5 c5, List.drop 8 ld)], j + 1, c6, A6, by go_num, rfl, hlt, by rw [List.length_append, HPL.out]; rfl, HR6.out, by rw [rws_snoc]; exact hide (HC.out.next HD.out HOK.out), HK6.out⟩
        case measure => simp [intOf]; omega
      · obtain ⟨hok, rfl⟩ := hp
        have HOK := hide hok
        have HK2 := hide ((HK1.out.trans' HKB.out).trans' k2)
        have b2 : w2.drew.cell? ⟨wr.heap.size, 0, none⟩ = some (.int .i64 (da : Int)) := k2.drew.cell HB0.out (fun f => f)
        have HR2 := hide ((HR.out.no (Kp.alloc No wr _)).no k2)
        clear hok k2
        go_wp2_with fail
        go_region
        go_wp2_with fail
        go_ret2
        exact ⟨ps, da, Ap, j, cp, rfl, ⟨a, _, HSE.out.1, HSE.out.2, HC.out.stop HD.out HOK.out⟩, (HR2.out.no (Kp.refl No w2).drew).rebase HK1.out.size, HK2.out.drew⟩
    · obtain rfl : r = j := by omega
      go_wp2_with fail
      go_ret2
      exact ⟨ps, a, Ap, r, cp, rfl, ⟨a, _, HSE.out.1, HSE.out.2, HC.out.fin (by rw [List.length_map]; have := HM.out; omega)⟩, HR.out.rebase HK1.out.size, HK1.out.trans' hkr⟩

/-- The document's: a row of the call's own, and slices that read so in each world in which v0 reads as bs. -/
structure RwD (v0 : Value) (bs : List UInt8) (w : World) (base : Nat) (v : Value) (ps : List (Value × List UInt8)) : Prop where
  own : OwnT w base 22 1 v ps.length (sls ps)
  all : ∀ p ∈ ps, ∀ w1, Bts w1 v0 bs → Bts w1 p.1 p.2
  cap : ∀ p ∈ ps, ∀ A n c, p.1 = .slice A n c → n ≤ c
section
variable {w w1 : World} {S : Nat → Prop} {base b : Nat} {v v0 v1 u : Value} {bs cs : List UInt8} {ps : List (Value × List UInt8)} {p : Value × List UInt8}
theorem RwD.nil (v0 : Value) (bs : List UInt8) (w : World) (base : Nat) : RwD v0 bs w base (.slice none 0 0) [] := ⟨OwnT.nil _ _ _ _, fun p hp => by simp at hp, fun p hp => by simp at hp⟩
theorem RwD.no (h : RwD v0 bs w base v ps) (hk : Kp No w w1) : RwD v0 bs w1 base v ps := ⟨h.own.no hk, h.all, h.cap⟩
theorem RwD.rebase (h : RwD v0 bs w base v ps) (hb : b ≤ base) : RwD v0 bs w b v ps := ⟨ownT_rebase h.own fun k hk => Nat.le_trans hb (h.own.ge k hk), h.all, h.cap⟩
theorem RwD.next (h : RwD v0 bs w base v ps) (hl : ∀ w1, Bts w1 v0 bs → Bts w1 u cs) (hu : ∀ A n c, u = .slice A n c → n ≤ c) (ha : AppT w base 22 1 v ps.length (sls ps) 1 [u] v1 w1) : RwD v0 bs w1 base v1 (ps ++ [(u, cs)]) := by
  refine ⟨?_, fun q hq => ?_, fun q hq => ?_⟩
  · rw [List.length_append, sls_snoc]; exact ha.own
  · rcases List.mem_append.1 hq with hq | hq
    · exact h.all q hq
    · rw [List.mem_singleton] at hq; subst hq; exact hl
  · rcases List.mem_append.1 hq with hq | hq
    · exact h.cap q hq
    · rw [List.mem_singleton] at hq; subst hq; exact hu
end
/-- What the document's Records returns. -/
def DdPost (w : World) (v0 : Value) (bs : List UInt8) (e : Ending) (w1 : World) : Prop :=
  ∃ ps sz A r c, e = .returned (.tuple #[.slice A r c, .int .i64 ((sz : Nat) : Int)]) ∧ Rcs bs (rws ps) sz ∧ RwD v0 bs w1 w.heap.size (.slice A r c) ps ∧ Kp No w w1

set_option maxRecDepth 100000 in
set_option maxHeartbeats 8000000 in
theorem rdrecs_any {w : World} {n c : Nat} {A : Option Addr} {bs : List UInt8} (hb : Bts w (.slice A n c) bs) (hnc : n ≤ c) (hbig : n ≤ 1000000) :
    Calls Try.prog 8 #[.slice A n c] w (DdPost w (.slice A n c) bs) := by
  have HL := hide hb.len
  have HB := hide hb
  go_enter Try.func8, Try.ntmps8
  go_wp2_with fail
  refine (rscan_any hb hnc hbig).mono ?_
  rintro e w1 ⟨qs, a, r, cc, A3, rfl, hI, hS, hE, k1⟩
  have HM := hide hI.own.len
  have HSE := hide (show ScA bs a (qs.map Prod.fst) ∧ opE (bs.drop a) ≠ 0 from ⟨hS, hE⟩)
  have hr : 12 * r ≤ 1000000 := by have := hS.bound; rw [List.length_map] at this; have := HL.out; have := HM.out; omega
  have HI := hide hI
  have HK1 := hide k1
  clear hI hS hE k1 hb
  go_wp2_with fail
  go_loopw [4, 7] (fun v i wr => ∃ (ps : List (Value × List UInt8)) (j cp : Nat) (Ap : Option Addr), i = .int .i64 (j : Int) ∧ v = .slice Ap j cp ∧ j ≤ r ∧ ps.length = j ∧ RwD (.slice A n c) bs wr w1.heap.size (.slice Ap j cp) ps ∧ Hid (RcK (qs.map Prod.fst) a j (rws ps)) ∧ Kp No w1 wr) (fun _ i _ => r - (intOf i).toNat)
  case atStart => exact ⟨[], 0, 0, none, rfl, rfl, Nat.zero_le _, rfl, RwD.nil _ _ _ _, hide (RcK.zero _ _), Kp.refl _ _⟩
  case round =>
    obtain ⟨ps, j, cp, Ap, rfl, rfl, hj, hpl, hR, HC, hkr⟩ := hrel
    have HPL := hide hpl
    have HR := hide hR
    clear hpl hR
    by_cases hlt : j < r
    · obtain ⟨⟨d, vq⟩, hq⟩ : ∃ q, qs[j]? = some q := ⟨_, List.getElem?_eq_getElem (by have := HM.out; omega)⟩
      have oq := HI.out.ld _ (List.mem_of_getElem? hq)
      have hal := HI.out.all _ (List.mem_of_getElem? hq)
      obtain ⟨Aq, nq, cq, rfl⟩ := oq.form
      obtain ⟨q0, q1, q2⟩ := itC_get hq
      obtain ⟨g4, e4, _, hg4, _, _⟩ := HI.out.own.cell q0
      subst e4
      have cq0 := hkr.cell (HI.out.own.cellAt q0) fun f => f
      have cq1 := hkr.cell (HI.out.own.cellAt q1) fun f => f
      have cq2 := hkr.cell (HI.out.own.cellAt q2) fun f => f
      have hi : (qs.map Prod.fst)[j]? = some d := by rw [List.getElem?_map, hq]; rfl
      have HD := hide hi
      have hnq : nq ≤ 900000000 := by
        have h1 := oq.len
        have h2 := HSE.out.1.ld hi
        have h3 := HL.out
        simp only at h1
        omega
      obtain ⟨da, dk, ld⟩ := d
      simp only at cq0 cq1 cq2
      have HAL := hide hal
      have HOL := hide oq.len
      have HQ := hide ((HB.out.no HK1.out).no hkr)
      have hcq := HI.out.cap _ (List.mem_of_getElem? hq) _ _ _ rfl
      clear hi hq oq q0 q1 q2 hg4 hal
      have HR8 := hide (HR.out.no (Kp.refl No wr).drew)
      by_cases h2 : dk = 2
      · subst h2
        by_cases h8 : nq < 8
        · have cqd : wr.drew.cell? ⟨g4, j * 3, none⟩ = some (.int .i64 (da : Int)) := cq0
          go_wp2_with fail
          go_region
          go_wp2_with fail
          go_ret2
          exact ⟨ps, da, Ap, j, cp, rfl, ⟨a, _, HSE.out.1, HSE.out.2, HC.out.stop HD.out (fun h => by have h1 := h.2.1; have h2 := HOL.out; simp only at h1 h2; omega)⟩, HR8.out.rebase HK1.out.size, (HK1.out.trans' hkr).drew⟩
        · have h8' : 8 ≤ nq := by omega
          by_cases hbig : 60008 < nq
          · have cqd : wr.drew.cell? ⟨g4, j * 3, none⟩ = some (.int .i64 (da : Int)) := cq0
            go_wp2_with fail
            go_region
            go_wp2_with fail
            go_ret2
            exact ⟨ps, da, Ap, j, cp, rfl, ⟨a, _, HSE.out.1, HSE.out.2, HC.out.stop HD.out (fun h => by have h1 := h.2.2.1; have h2 := HOL.out; simp only at h1 h2; omega)⟩, HR8.out.rebase HK1.out.size, (HK1.out.trans' hkr).drew⟩
          · obtain ⟨x, hx⟩ : ∃ x, x = ofB (ld.take 8) := ⟨_, rfl⟩
            have HX := hide hx
            obtain ⟨s1, b1, _⟩ := slice_u (HAL.out _ HQ.out) hcq 8 8 rfl h8'
            have HB1 := hide b1
            clear hx b1
            by_cases hxn : x = j + 1
            · subst hxn
              obtain ⟨A2, s2, ball2, c2⟩ := slice_l_all nq cq Aq hcq 8 (nq - 8) (cq - 8) 8 rfl h8' rfl rfl
              have HBA2 := hide ball2
              clear ball2
              have hnw : Nws (wr.alloc (.cells #[.slice A2 (nq - 8) (cq - 8)] 22)) ⟨wr.heap.size, 0, none⟩ 1 1 [.slice A2 (nq - 8) (cq - 8)] := nws_one (by rw [World.cell?_alloc_mark]; rfl) rfl
              have hR2 := HR.out.no (Kp.alloc No wr (.cells #[.slice A2 (nq - 8) (cq - 8)] 22))
              go_wp2_with fail
              refine (rof_any HB1.out (by rw [List.length_take]; omega)).mono ?_
              rintro e w2 ⟨rfl, rfl⟩
              rw [← HX.out]
              go_wp2_with (first
                | (at_builtin
                   refine wpList_appT ty_slc rfl (.tmp 56) (.tmp 59) _ rfl Try.underlying25 rfl hR2.own _ _ rfl hnw ?hl ?hs ?_
                   case hl => have := HPL.out; omega
                   case hs => have h1 := HK1.out.size; have h2 := hkr.size; simp; omega
                   intro A6 n6 c6 w6 hn6 ha6
                   have hR6 := hR2.next (cs := ld.drop 8) (fun w1 h => HBA2.out _ _ (HAL.out _ h)) (fun A n c e => by injection e with _ e1 e2; omega) ha6
                   have K6 : Kp No w1 w6 := (hkr.trans' (Kp.alloc No wr _)).trans (ha6.kp.mono fun q hq => .inr (hR2.own.ge q hq))
                   have hn6' : n6 = j + 1 := by have := HPL.out; omega
                   subst hn6'
                   have HR6 := hide hR6
                   have HK6 := hide K6
                   clear hn6 ha6 hR6 K6 hR2 hnw))
              go_round
              case rel => exact ⟨ps ++ [(.slice A2 (nq - 8) (cq - 8), List.drop 8 ld)], j + 1, c6, A6, by go_num, rfl, hlt, by rw [List.length_append, HPL.out]; rfl, HR6.out, by rw [rws_snoc]; exact hide (HC.out.next HD.out ⟨rfl, by have := HOL.out; simp only at this ⊢; omega, by have := HOL.out; simp only at this ⊢; omega, HX.out.symm⟩), HK6.out⟩
              case measure => simp [intOf]; omega
            · have hne : ((x : Int) != (j : Int) + 1) = true := by simp; omega
              have cqd : wr.drew.cell? ⟨g4, j * 3, none⟩ = some (.int .i64 (da : Int)) := cq0
              go_wp2_with fail
              refine (rof_any HB1.out (by rw [List.length_take]; omega)).mono ?_
              rintro e w2 ⟨rfl, rfl⟩
              rw [← HX.out]
              go_wp2_with fail
              go_region
              go_wp2_with fail
              go_ret2
              exact ⟨ps, da, Ap, j, cp, rfl, ⟨a, _, HSE.out.1, HSE.out.2, HC.out.stop HD.out (fun h => hxn (by rw [HX.out]; exact h.2.2.2))⟩, HR8.out.rebase HK1.out.size, (HK1.out.trans' hkr).drew⟩
      · have hne : ((dk : Int) != 2) = true := by simp; omega
        have cqd : wr.drew.cell? ⟨g4, j * 3, none⟩ = some (.int .i64 (da : Int)) := cq0
        go_wp2_with fail
        go_region
        go_wp2_with fail
        go_ret2
        exact ⟨ps, da, Ap, j, cp, rfl, ⟨a, _, HSE.out.1, HSE.out.2, HC.out.stop HD.out (fun h => h2 h.1)⟩, HR8.out.rebase HK1.out.size, (HK1.out.trans' hkr).drew⟩
    · obtain rfl : r = j := by omega
      go_wp2_with fail
      go_ret2
      exact ⟨ps, a, Ap, r, cp, rfl, ⟨a, _, HSE.out.1, HSE.out.2, HC.out.fin (by rw [List.length_map]; have := HM.out; omega)⟩, HR.out.rebase HK1.out.size, HK1.out.trans' hkr⟩
end Go.Proofs.Ytikegnhjnbjclaa
