/- PackPuts: whatever is put into a Writer, in any order, its bytes are the document's. -/
import Derived.Test.YtnifafacoglkoaaAc
import Derived.Lib.Builder
namespace Go.Proofs.Ytnifafacoglkoaa
open Go.RowKit
set_option linter.unusedVariables false
set_option linter.unusedSimpArgs false

/-- What the loop keeps: the Writer and the document's row hold the same bytes, apart from each other. -/
structure Inv (w : World) (k : Nat) (A : Option Addr) (l c : Nat) (bs : List UInt8) (F : Nat → Prop) (wr : World) : Prop where
  wr_ : WrAt wr F w.heap.size bs
  own : Own wr w.heap.size 5 (.slice A l c) bs
  apart : ∀ q, (Value.slice A l c).ownBlock = some q → ¬ F q
  young : ∀ q, F q → w.heap.size ≤ q
  kp : Kp No w wr
  len : bs.length ≤ 5000 * k

section
variable {w wr w2 w3 w4 : World} {k : Nat} {A A4 : Option Addr} {l c l4 c4 : Nat} {bs cs : List UInt8} {F : Nat → Prop} {o : Obj} {e : Ending}

theorem Inv.drew (h : Inv w k A l c bs F wr) : Inv w k A l c bs F wr.drew := ⟨h.wr_, h.own, h.apart, h.young, h.kp.drew, h.len⟩
theorem Inv.no5 (h : Inv w k A l c bs F wr) (hk : Kp No wr.drew w2) : Inv w k A l c bs F w2 :=
  ⟨h.wr_.drew.keep hk fun _ _ _ f => f, h.own.drew.no hk, h.apart, h.young, h.kp.drew.trans' hk, h.len⟩
theorem Inv.start (h : Inv w k A l c bs F wr) (o : Obj) : WrAt (wr.alloc o) (Nx F wr) w.heap.size bs :=
  (h.wr_.lt.keep (Kp.alloc No wr o) fun _ _ _ f => f).mono fun q hq => ⟨by omega, .inl hq.1⟩
theorem Inv.nx (h : Inv w k A l c bs F wr) (q : Nat) (hq : Nx F wr q) : w.heap.size ≤ q := by
  rcases hq.2 with a | a
  · exact h.young q a
  · have := h.kp.size; omega
theorem Inv.kp1 (h : Inv w k A l c bs F wr) (o : Obj) (hk : Kp (Nx F wr) (wr.alloc o) w2) : Kp No w w2 :=
  (h.kp.trans' (Kp.alloc No wr o)).trans (hk.mono fun q hq => .inr (h.nx q hq))
theorem Inv.own2 (h : Inv w k A l c bs F wr) (hk : Kp (Nx F wr) (wr.alloc o) w2) : Own w2 w.heap.size 5 (.slice A l c) bs :=
  (h.own.alloc o).keep hk fun q hq hn => by
    have hlt := h.own.lt q hq
    rcases hn.2 with a | a
    · exact h.apart q hq a
    · omega
theorem Inv.next (h : Inv w k A l c bs F wr) (hp : WrPost (wr.alloc o) (Nx F wr) w.heap.size (bs ++ cs) e w2) (hk : Kp No w2 w3)
    (ha : App w3 w.heap.size 5 (.slice A l c) bs cs (.slice A4 l4 c4) w4) (hc : cs.length ≤ 5000) : ∃ F', Inv w (k + 1) A4 l4 c4 (bs ++ cs) F' w4 := by
  have hr2 := h.own2 hp.2.2
  have hsz := hp.2.2.size
  simp only [World.size_alloc] at hsz
  have hap : ∀ q, (Value.slice A l c).ownBlock = some q → ¬ Up (Nx F wr) (wr.alloc o) q := by
    intro q hq hu
    have hlt := h.own.lt q hq
    rcases hu with a | a
    · rcases a.2 with b | b
      · exact h.apart q hq b
      · omega
    · simp only [World.size_alloc] at a
      omega
  refine ⟨fun q => Up (Nx F wr) (wr.alloc o) q ∧ q < w2.heap.size, ?_, ha.own, ?_, ?_, ?_, ?_⟩
  · refine (hp.2.1.lt.keep hk fun _ _ _ f => f).keep ha.kp fun q hq hf hn => hap q hn hf.1
  · intro q hq hf
    rcases ha.at_ with a | a
    · exact hap q (a ▸ hq) hf.1
    · rw [hq] at a
      injection a with a
      have := hk.size
      omega
  · rintro q ⟨a | a, _⟩
    · exact h.nx q a
    · have := h.kp.size
      simp only [World.size_alloc] at a
      omega
  · exact ((h.kp1 o hp.2.2).trans' hk).trans (ha.kp.mono fun q hq => .inr (h.own.ge q hq))
  · rw [List.length_append]
    have := h.len
    omega
end

theorem conv_bts {w : World} {v : Value} {bs : List UInt8} (h : Bts w v bs) : (convert 26 9 v).run Try.prog w = .ok (.string (strOf bs)) w := h.str 26 9 5 Try.underlying26 Try.underlying5 Try.underlying9

theorem same_ptr (w : World) (a : Addr) : (binOp .neq 25 (.pointer (some a)) (.pointer (some a))).run Try.prog w = .ok (.bool false) w := by
  have h : (Try.prog.info? 28).isSome = true := by kernel_rfl
  obtain ⟨j, hj⟩ := Option.isSome_iff_exists.1 h
  exact Lib.run_neq_ptr_same w a Try.underlying25 hj

set_option maxHeartbeats 4000000 in
set_option maxRecDepth 100000 in
theorem puts_walk {w : World} {A : Option Addr} {n c : Nat} {ds : List ActD} (h : ActsAt w A n ds) : Calls Try.prog 3 #[.slice A n c] w fun e w1 => e = .returned (.bool true) ∧ Below w.heap.size w w1 := by
  obtain ⟨i0, hi0, hz0, hz1, hz2⟩ := byte_parts
  have hpp := same_ptr
  go_enter Try.func3, Try.ntmps3
  go_wp2_with fail
  refine (light_any h).mono ?_
  rintro e w1 ⟨b, rfl, rfl, hb⟩
  have HB := hide hb
  clear hb
  rcases b with _ | _
  · go_wp2_with fail
    refine (awake_any _).mono ?_
    rintro e w1 ⟨rfl, hk⟩
    go_wp2
    go_ret
    exact ⟨rfl, hk.below0⟩
  · obtain ⟨hn, hmax, hat⟩ := h
    have HN := hide hn
    have HA := hide hat
    have hn40 : n ≤ 40 := by have := (HB.out rfl).1; omega
    have HL := hide (HB.out rfl).2
    clear hn hat
    go_wp2_with fail
    go_loopw [4, 5] (fun r i wr => ∃ k A' l c' bs F, k ≤ n ∧ i = .int .i64 ((k : Nat) : Int) ∧ r = .slice A' l c' ∧ Inv w k A' l c' bs F wr) (fun _ i _ => n - (intOf i).toNat)
    case atStart => exact ⟨0, none, 0, 0, [], fun k => k = w.heap.size, Nat.zero_le _, rfl, rfl, WrAt.new w, Own.nil _ _ _, (fun q h => by simp [Value.ownBlock] at h), (fun q h => by omega), Kp.alloc No w _, by simp⟩
    case round =>
      obtain ⟨k, A', l, c', bs, F, hk, rfl, rfl, hI⟩ := hrel
      by_cases hlt : k < n
      · obtain ⟨d, hd⟩ : ∃ d, ds[k]? = some d := ⟨_, List.getElem?_eq_getElem (by have := HN.out; omega)⟩
        obtain ⟨B, off, A2, m, cc, hA, ha⟩ := HA.out k d hd
        have hdb : d.b.length ≤ 4000 := HL.out d (List.mem_of_getElem? hd)
        clear hd
        subst hA
        have hi : (k : Int) < n := by omega
        have c0 := hI.kp.cell ha.c0 fun f => f
        have c1 := hI.kp.cell ha.c1 fun f => f
        have c2 := hI.kp.cell ha.c2 fun f => f
        have c3 := hI.kp.cell ha.c3 fun f => f
        have c4 := hI.kp.cell ha.c4 fun f => f
        have c5 := hI.kp.cell ha.c5 fun f => f
        have c6 := hI.kp.cell ha.c6 fun f => f
        have c7 := hI.kp.cell ha.c7 fun f => f
        have hil := hI.len
        have hb1 : ∀ ob : Obj, Bts (wr.alloc ob) (.slice A2 m cc) d.b := fun ob => ha.bts.no (hI.kp.trans' (Kp.alloc No _ ob))
        have HB1 := hide hb1
        clear hb1
        by_cases k1 : d.kind = 1
        · have hk1 : (d.kind == 1) = true := by simp [k1]
          clear k1
          go_wp2_with fail
          refine (raw_any (hI.start _) (HB1.out _) (by omega)).mono ?_
          rintro e w2 hp
          obtain rfl := hp.1
          have ho2 := hI.own2 hp.2.2
          have hn2 := hI.kp1 _ hp.2.2
          have hs2 := hn2.size
          have e3 : w2.cell? ⟨wr.heap.size, 3, none⟩ = some (.slice A2 m cc) := hp.2.2.cell (by simp) (fun hn => hn.1 rfl)
          have hb2 := ha.bts.no hn2
          go_wp2_with (first
            | (at_builtin
               refine wpList_app rfl (.tmp 47) (.tmp 49) _ rfl i0 Try.underlying26 hi0 hz0 hz1 hz2 rfl ho2 rfl hb2 ?hl hs2 ?_
               case hl => omega
               intro A4 l4 c4 w4 hap
               obtain ⟨F', hJ⟩ := hI.next hp (Kp.refl _ _) hap (by omega)))
          have hJo := conv_bts hJ.own.bts
          have hJd := conv_bts hJ.own.bts.drew
          have hJl := hJ.len
          refine wp_region_noPanic ?_
          refine wp_region_held_drew (S := fun w' => (convert 26 9 (.slice A4 l4 c4)).run Try.prog w' = .ok (.string (strOf (bs ++ d.b))) w') (by kernel_rfl) (hJd) (fun hHeld => ?_)
          refine wpAnyH_take (i := 0) (v := ?va0) (oi := ?oa0) ?ha0 (by kernel_rfl) (by kernel_rfl) (by kernel_rfl) (fun _ _ _ h => h) (Or.inl ⟨?wa0, ?ya0⟩) hHeld ?ra0
          case ha0 => simp only [List.getElem?_toArray, List.getElem?_cons_zero, List.getElem?_cons_succ]; rfl
          case wa0 => rfl
          case ya0 => intro w hSw; (try dsimp only at hSw); go_simp; (try with_reducible rfl)
          simp only [Act.put, List.setIfInBounds_toArray, List.set_cons_zero, List.set_cons_succ]
          refine wpAnyH_take (i := 1) (v := ?va1) (oi := ?oa1) ?ha1 (by kernel_rfl) (by kernel_rfl) (by kernel_rfl) (fun _ _ _ h => h) (Or.inl ⟨?wa1, ?ya1⟩) hHeld ?ra1
          case ha1 => simp only [List.getElem?_toArray, List.getElem?_cons_zero, List.getElem?_cons_succ]; rfl
          case wa1 => rfl
          case ya1 => intro w hSw; (try dsimp only at hSw); go_simp; (try with_reducible rfl)
          simp only [Act.put, List.setIfInBounds_toArray, List.set_cons_zero, List.set_cons_succ]
          refine wpAnyH_take (i := 2) (v := ?va2) (oi := ?oa2) ?ha2 (by kernel_rfl) (by kernel_rfl) (by kernel_rfl) (fun _ _ _ h => h) (Or.inl ⟨?wa2, ?ya2⟩) hHeld ?ra2
          case ha2 => simp only [List.getElem?_toArray, List.getElem?_cons_zero, List.getElem?_cons_succ]; rfl
          case wa2 => rfl
          case ya2 => intro w hSw; (try dsimp only at hSw); go_simp; (try with_reducible rfl)
          simp only [Act.put, List.setIfInBounds_toArray, List.set_cons_zero, List.set_cons_succ]
          refine wpAnyH_take (i := 3) (v := ?va3) (oi := ?oa3) ?ha3 (by kernel_rfl) (by kernel_rfl) (by kernel_rfl) (fun _ _ _ h => h) (Or.inl ⟨?wa3, ?ya3⟩) hHeld ?ra3
          case ha3 => simp only [List.getElem?_toArray, List.getElem?_cons_zero, List.getElem?_cons_succ]; rfl
          case wa3 => rfl
          case ya3 => intro w hSw; (try dsimp only at hSw); go_simp; (try with_reducible rfl)
          simp only [Act.put, List.setIfInBounds_toArray, List.set_cons_zero, List.set_cons_succ]
          refine wpAnyH_take (i := 4) (v := ?va4) (oi := ?oa4) ?ha4 (by kernel_rfl) (by kernel_rfl) (by kernel_rfl) (fun _ _ _ h => h) (Or.inl ⟨?wa4, ?ya4⟩) hHeld ?ra4
          case ha4 => simp only [List.getElem?_toArray, List.getElem?_cons_zero, List.getElem?_cons_succ]; rfl
          case wa4 => rfl
          case ya4 => intro w hSw; (try dsimp only at hSw); go_simp; (try with_reducible rfl)
          simp only [Act.put, List.setIfInBounds_toArray, List.set_cons_zero, List.set_cons_succ]
          refine wpAnyH_take (i := 7) (v := ?va7) (oi := ?oa7) ?ha7 (by kernel_rfl) (by kernel_rfl) (by kernel_rfl) (fun _ _ _ h => h) (Or.inl ⟨?wa7, ?ya7⟩) hHeld ?ra7
          case ha7 => simp only [List.getElem?_toArray, List.getElem?_cons_zero, List.getElem?_cons_succ]; rfl
          case wa7 => rfl
          case ya7 => intro w hSw; (try dsimp only at hSw); go_simp; (try with_reducible rfl)
          simp only [Act.put, List.setIfInBounds_toArray, List.set_cons_zero, List.set_cons_succ]
          refine wpAnyH_take (i := 8) (v := ?va8) (oi := ?oa8) ?ha8 (by kernel_rfl) (by kernel_rfl) (by kernel_rfl) (fun _ _ _ h => h) (Or.inl ⟨?wa8, ?ya8⟩) hHeld ?ra8
          case ha8 => simp only [List.getElem?_toArray, List.getElem?_cons_zero, List.getElem?_cons_succ]; rfl
          case wa8 => rfl
          case ya8 => intro w hSw; (try dsimp only at hSw); go_simp; (try with_reducible rfl)
          simp only [Act.put, List.setIfInBounds_toArray, List.set_cons_zero, List.set_cons_succ]
          refine wpAnyH_ready (rs := [5]) (by kernel_rfl) (by simp) ?_
          refine AllReadyH.cons (o := ?oa5) ?ha5 (fun K hK => ?sa5) AllReadyH.nil
          case ha5 => simp only [List.getElem?_toArray, List.getElem?_cons_zero, List.getElem?_cons_succ]; rfl
          go_simp
          refine (bytes_any (F := F') (g := w.heap.size) (bs := bs ++ d.b) hJ.wr_.drew (by rw [List.length_append] at hJl ⊢; omega)).mono ?_
          rintro e w5 ⟨A5, l5, c5, rfl, ho5, hk5⟩
          have h5 := conv_bts ho5.bts
          have h6 := conv_bts (hJ.own.bts.drew.no hk5)
          go_wp2_with fail
          refine hK.out _ _ (h6) (fun hHeld => ?_)
          clear hK K
          try simp only [Act.put, List.setIfInBounds_toArray, List.set_cons_zero, List.set_cons_succ]
          refine wpAnyH_ready (rs := [6]) (by kernel_rfl) (by simp) ?_
          refine AllReadyH.cons (o := ?oa6) ?ha6 (fun K hK => ?sa6) AllReadyH.nil
          case ha6 => simp only [List.getElem?_toArray, List.getElem?_cons_zero, List.getElem?_cons_succ]; rfl
          go_simp
          refine hK.out _ _ (h6) (fun hHeld => ?_)
          clear hK K
          try simp only [Act.put, List.setIfInBounds_toArray, List.set_cons_zero, List.set_cons_succ]
          refine wpAnyH_take (i := 9) (v := ?va9) (oi := ?oa9) ?ha9 (by kernel_rfl) (by kernel_rfl) (by kernel_rfl) (fun _ _ _ h => h) (Or.inl ⟨?wa9, ?ya9⟩) hHeld ?ra9
          case ha9 => simp only [List.getElem?_toArray, List.getElem?_cons_zero, List.getElem?_cons_succ]; rfl
          case wa9 => rfl
          case ya9 => intro w hSw; (try dsimp only at hSw); go_simp; (try with_reducible rfl)
          simp only [Act.put, List.setIfInBounds_toArray, List.set_cons_zero, List.set_cons_succ]
          refine wpAnyH_take (i := 10) (v := ?va10) (oi := ?oa10) ?ha10 (by kernel_rfl) (by kernel_rfl) (by kernel_rfl) (fun _ _ _ h => h) (Or.inl ⟨?wa10, ?ya10⟩) hHeld ?ra10
          case ha10 => simp only [List.getElem?_toArray, List.getElem?_cons_zero, List.getElem?_cons_succ]; rfl
          case wa10 => rfl
          case ya10 => intro w hSw; (try dsimp only at hSw); go_simp; (try with_reducible rfl)
          simp only [Act.put, List.setIfInBounds_toArray, List.set_cons_zero, List.set_cons_succ]
          refine wpAnyH_done (by kernel_rfl) ?_ _
          refine NoPanic.normal ?_
          go_wp2
          go_round
          case rel => exact ⟨k + 1, A4, l4, c4, bs ++ d.b, F', by omega, by go_num, rfl, hJ.no5 hk5⟩
          case measure => simp [intOf]; omega
        · have hk1 : (d.kind == 1) = false := by simpa using k1
          clear k1
          by_cases k2 : d.kind = 2
          · have hk2 : (d.kind == 2) = true := by simp [k2]
            clear k2
            have hlt4 : (textB d.b).length ≤ 4002 := by simp only [textB, List.length_append, numB_length]; omega
            go_wp2_with fail
            refine (text_any (hI.start _) (HB1.out _) (fun w' hk => ha.bts.no (hI.kp1 _ hk)) (by omega)).mono ?_
            rintro e w2 hp
            obtain rfl := hp.1
            have ho2 := hI.own2 hp.2.2
            have hn2 := hI.kp1 _ hp.2.2
            have hs2 := hn2.size
            have e3 : w2.cell? ⟨wr.heap.size, 3, none⟩ = some (.slice A2 m cc) := hp.2.2.cell (by simp) (fun hn => hn.1 rfl)
            have hb2 := ha.bts.no hn2
            go_wp2_with fail
            refine (rtext_any hb2 (by omega)).mono ?_
            rintro e w3 ⟨A3, l3, c3, rfl, ho3, hk3⟩
            have ho23 := ho2.no hk3
            have hs3 : w.heap.size ≤ w3.heap.size := Nat.le_trans hs2 hk3.size
            go_wp2_with (first
              | (at_builtin
                 refine wpList_app rfl (.tmp 57) (.tmp 60) _ rfl i0 Try.underlying26 hi0 hz0 hz1 hz2 rfl ho23 rfl ho3.bts ?hl hs3 ?_
                 case hl => omega
                 intro A4 l4 c4 w4 hap
                 obtain ⟨F', hJ⟩ := hI.next hp hk3 hap (by omega)))
            have hJo := conv_bts hJ.own.bts
            have hJd := conv_bts hJ.own.bts.drew
            have hJl := hJ.len
            refine wp_region_noPanic ?_
            refine wp_region_held_drew (S := fun w' => (convert 26 9 (.slice A4 l4 c4)).run Try.prog w' = .ok (.string (strOf (bs ++ textB d.b))) w') (by kernel_rfl) (hJd) (fun hHeld => ?_)
            refine wpAnyH_take (i := 0) (v := ?vb0) (oi := ?ob0) ?hb0 (by kernel_rfl) (by kernel_rfl) (by kernel_rfl) (fun _ _ _ h => h) (Or.inl ⟨?wb0, ?yb0⟩) hHeld ?rb0
            case hb0 => simp only [List.getElem?_toArray, List.getElem?_cons_zero, List.getElem?_cons_succ]; rfl
            case wb0 => rfl
            case yb0 => intro w hSw; (try dsimp only at hSw); go_simp; (try with_reducible rfl)
            simp only [Act.put, List.setIfInBounds_toArray, List.set_cons_zero, List.set_cons_succ]
            refine wpAnyH_take (i := 1) (v := ?vb1) (oi := ?ob1) ?hb1 (by kernel_rfl) (by kernel_rfl) (by kernel_rfl) (fun _ _ _ h => h) (Or.inl ⟨?wb1, ?yb1⟩) hHeld ?rb1
            case hb1 => simp only [List.getElem?_toArray, List.getElem?_cons_zero, List.getElem?_cons_succ]; rfl
            case wb1 => rfl
            case yb1 => intro w hSw; (try dsimp only at hSw); go_simp; (try with_reducible rfl)
            simp only [Act.put, List.setIfInBounds_toArray, List.set_cons_zero, List.set_cons_succ]
            refine wpAnyH_take (i := 2) (v := ?vb2) (oi := ?ob2) ?hb2 (by kernel_rfl) (by kernel_rfl) (by kernel_rfl) (fun _ _ _ h => h) (Or.inl ⟨?wb2, ?yb2⟩) hHeld ?rb2
            case hb2 => simp only [List.getElem?_toArray, List.getElem?_cons_zero, List.getElem?_cons_succ]; rfl
            case wb2 => rfl
            case yb2 => intro w hSw; (try dsimp only at hSw); go_simp; (try with_reducible rfl)
            simp only [Act.put, List.setIfInBounds_toArray, List.set_cons_zero, List.set_cons_succ]
            refine wpAnyH_take (i := 3) (v := ?vb3) (oi := ?ob3) ?hb3 (by kernel_rfl) (by kernel_rfl) (by kernel_rfl) (fun _ _ _ h => h) (Or.inl ⟨?wb3, ?yb3⟩) hHeld ?rb3
            case hb3 => simp only [List.getElem?_toArray, List.getElem?_cons_zero, List.getElem?_cons_succ]; rfl
            case wb3 => rfl
            case yb3 => intro w hSw; (try dsimp only at hSw); go_simp; (try with_reducible rfl)
            simp only [Act.put, List.setIfInBounds_toArray, List.set_cons_zero, List.set_cons_succ]
            refine wpAnyH_take (i := 4) (v := ?vb4) (oi := ?ob4) ?hb4 (by kernel_rfl) (by kernel_rfl) (by kernel_rfl) (fun _ _ _ h => h) (Or.inl ⟨?wb4, ?yb4⟩) hHeld ?rb4
            case hb4 => simp only [List.getElem?_toArray, List.getElem?_cons_zero, List.getElem?_cons_succ]; rfl
            case wb4 => rfl
            case yb4 => intro w hSw; (try dsimp only at hSw); go_simp; (try with_reducible rfl)
            simp only [Act.put, List.setIfInBounds_toArray, List.set_cons_zero, List.set_cons_succ]
            refine wpAnyH_take (i := 7) (v := ?vb7) (oi := ?ob7) ?hb7 (by kernel_rfl) (by kernel_rfl) (by kernel_rfl) (fun _ _ _ h => h) (Or.inl ⟨?wb7, ?yb7⟩) hHeld ?rb7
            case hb7 => simp only [List.getElem?_toArray, List.getElem?_cons_zero, List.getElem?_cons_succ]; rfl
            case wb7 => rfl
            case yb7 => intro w hSw; (try dsimp only at hSw); go_simp; (try with_reducible rfl)
            simp only [Act.put, List.setIfInBounds_toArray, List.set_cons_zero, List.set_cons_succ]
            refine wpAnyH_take (i := 8) (v := ?vb8) (oi := ?ob8) ?hb8 (by kernel_rfl) (by kernel_rfl) (by kernel_rfl) (fun _ _ _ h => h) (Or.inl ⟨?wb8, ?yb8⟩) hHeld ?rb8
            case hb8 => simp only [List.getElem?_toArray, List.getElem?_cons_zero, List.getElem?_cons_succ]; rfl
            case wb8 => rfl
            case yb8 => intro w hSw; (try dsimp only at hSw); go_simp; (try with_reducible rfl)
            simp only [Act.put, List.setIfInBounds_toArray, List.set_cons_zero, List.set_cons_succ]
            refine wpAnyH_ready (rs := [5]) (by kernel_rfl) (by simp) ?_
            refine AllReadyH.cons (o := ?ob5) ?hb5 (fun K hK => ?sb5) AllReadyH.nil
            case hb5 => simp only [List.getElem?_toArray, List.getElem?_cons_zero, List.getElem?_cons_succ]; rfl
            go_simp
            refine (bytes_any (F := F') (g := w.heap.size) (bs := bs ++ textB d.b) hJ.wr_.drew (by rw [List.length_append] at hJl ⊢; omega)).mono ?_
            rintro e w5 ⟨A5, l5, c5, rfl, ho5, hk5⟩
            have h5 := conv_bts ho5.bts
            have h6 := conv_bts (hJ.own.bts.drew.no hk5)
            go_wp2_with fail
            refine hK.out _ _ (h6) (fun hHeld => ?_)
            clear hK K
            try simp only [Act.put, List.setIfInBounds_toArray, List.set_cons_zero, List.set_cons_succ]
            refine wpAnyH_ready (rs := [6]) (by kernel_rfl) (by simp) ?_
            refine AllReadyH.cons (o := ?ob6) ?hb6 (fun K hK => ?sb6) AllReadyH.nil
            case hb6 => simp only [List.getElem?_toArray, List.getElem?_cons_zero, List.getElem?_cons_succ]; rfl
            go_simp
            refine hK.out _ _ (h6) (fun hHeld => ?_)
            clear hK K
            try simp only [Act.put, List.setIfInBounds_toArray, List.set_cons_zero, List.set_cons_succ]
            refine wpAnyH_take (i := 9) (v := ?vb9) (oi := ?ob9) ?hb9 (by kernel_rfl) (by kernel_rfl) (by kernel_rfl) (fun _ _ _ h => h) (Or.inl ⟨?wb9, ?yb9⟩) hHeld ?rb9
            case hb9 => simp only [List.getElem?_toArray, List.getElem?_cons_zero, List.getElem?_cons_succ]; rfl
            case wb9 => rfl
            case yb9 => intro w hSw; (try dsimp only at hSw); go_simp; (try with_reducible rfl)
            simp only [Act.put, List.setIfInBounds_toArray, List.set_cons_zero, List.set_cons_succ]
            refine wpAnyH_take (i := 10) (v := ?vb10) (oi := ?ob10) ?hb10 (by kernel_rfl) (by kernel_rfl) (by kernel_rfl) (fun _ _ _ h => h) (Or.inl ⟨?wb10, ?yb10⟩) hHeld ?rb10
            case hb10 => simp only [List.getElem?_toArray, List.getElem?_cons_zero, List.getElem?_cons_succ]; rfl
            case wb10 => rfl
            case yb10 => intro w hSw; (try dsimp only at hSw); go_simp; (try with_reducible rfl)
            simp only [Act.put, List.setIfInBounds_toArray, List.set_cons_zero, List.set_cons_succ]
            refine wpAnyH_done (by kernel_rfl) ?_ _
            refine NoPanic.normal ?_
            go_wp2
            go_round
            case rel => exact ⟨k + 1, A4, l4, c4, bs ++ textB d.b, F', by omega, by go_num, rfl, hJ.no5 hk5⟩
            case measure => simp [intOf]; omega
          · have hk2 : (d.kind == 2) = false := by simpa using k2
            clear k2
            by_cases k3 : d.kind = 3
            · have hk3' : (d.kind == 3) = true := by simp [k3]
              clear k3
              have hlt4 : (shardB d.o d.st d.sl d.gn).length ≤ 12 := by simp only [shardB, List.length_append, numB_length]; omega
              go_wp2_with fail
              refine (shard_any d.o d.st d.sl d.gn ha.ho ha.hst ha.hsl ha.hgn (hI.start _) (by omega)).mono ?_
              rintro e w2 hp
              obtain rfl := hp.1
              have ho2 := hI.own2 hp.2.2
              have hn2 := hI.kp1 _ hp.2.2
              have hs2 := hn2.size
              have e4 : w2.cell? ⟨wr.heap.size, 4, none⟩ = some (.int .u32 d.o) := hp.2.2.cell (by simp) (fun hn => hn.1 rfl)
              have e5 : w2.cell? ⟨wr.heap.size, 5, none⟩ = some (.int .u16 d.st) := hp.2.2.cell (by simp) (fun hn => hn.1 rfl)
              have e6 : w2.cell? ⟨wr.heap.size, 6, none⟩ = some (.int .u16 d.sl) := hp.2.2.cell (by simp) (fun hn => hn.1 rfl)
              have e7 : w2.cell? ⟨wr.heap.size, 7, none⟩ = some (.int .u32 d.gn) := hp.2.2.cell (by simp) (fun hn => hn.1 rfl)
              go_wp2_with fail
              refine (rshard_any d.o d.st d.sl d.gn ha.ho ha.hst ha.hsl ha.hgn).mono ?_
              rintro e w3 ⟨A3, l3, c3, rfl, ho3, hk3⟩
              have ho23 := ho2.no hk3
              have hs3 : w.heap.size ≤ w3.heap.size := Nat.le_trans hs2 hk3.size
              go_wp2_with (first
                | (at_builtin
                   refine wpList_app rfl (.tmp 68) (.tmp 71) _ rfl i0 Try.underlying26 hi0 hz0 hz1 hz2 rfl ho23 rfl ho3.bts ?hl hs3 ?_
                   case hl => omega
                   intro A4 l4 c4 w4 hap
                   obtain ⟨F', hJ⟩ := hI.next hp hk3 hap (by omega)))
              have hJo := conv_bts hJ.own.bts
              have hJd := conv_bts hJ.own.bts.drew
              have hJl := hJ.len
              refine wp_region_noPanic ?_
              refine wp_region_held_drew (S := fun w' => (convert 26 9 (.slice A4 l4 c4)).run Try.prog w' = .ok (.string (strOf (bs ++ shardB d.o d.st d.sl d.gn))) w') (by kernel_rfl) (hJd) (fun hHeld => ?_)
              refine wpAnyH_take (i := 0) (v := ?vc0) (oi := ?oc0) ?hc0 (by kernel_rfl) (by kernel_rfl) (by kernel_rfl) (fun _ _ _ h => h) (Or.inl ⟨?wc0, ?yc0⟩) hHeld ?rc0
              case hc0 => simp only [List.getElem?_toArray, List.getElem?_cons_zero, List.getElem?_cons_succ]; rfl
              case wc0 => rfl
              case yc0 => intro w hSw; (try dsimp only at hSw); go_simp; (try with_reducible rfl)
              simp only [Act.put, List.setIfInBounds_toArray, List.set_cons_zero, List.set_cons_succ]
              refine wpAnyH_take (i := 1) (v := ?vc1) (oi := ?oc1) ?hc1 (by kernel_rfl) (by kernel_rfl) (by kernel_rfl) (fun _ _ _ h => h) (Or.inl ⟨?wc1, ?yc1⟩) hHeld ?rc1
              case hc1 => simp only [List.getElem?_toArray, List.getElem?_cons_zero, List.getElem?_cons_succ]; rfl
              case wc1 => rfl
              case yc1 => intro w hSw; (try dsimp only at hSw); go_simp; (try with_reducible rfl)
              simp only [Act.put, List.setIfInBounds_toArray, List.set_cons_zero, List.set_cons_succ]
              refine wpAnyH_take (i := 2) (v := ?vc2) (oi := ?oc2) ?hc2 (by kernel_rfl) (by kernel_rfl) (by kernel_rfl) (fun _ _ _ h => h) (Or.inl ⟨?wc2, ?yc2⟩) hHeld ?rc2
              case hc2 => simp only [List.getElem?_toArray, List.getElem?_cons_zero, List.getElem?_cons_succ]; rfl
              case wc2 => rfl
              case yc2 => intro w hSw; (try dsimp only at hSw); go_simp; (try with_reducible rfl)
              simp only [Act.put, List.setIfInBounds_toArray, List.set_cons_zero, List.set_cons_succ]
              refine wpAnyH_take (i := 3) (v := ?vc3) (oi := ?oc3) ?hc3 (by kernel_rfl) (by kernel_rfl) (by kernel_rfl) (fun _ _ _ h => h) (Or.inl ⟨?wc3, ?yc3⟩) hHeld ?rc3
              case hc3 => simp only [List.getElem?_toArray, List.getElem?_cons_zero, List.getElem?_cons_succ]; rfl
              case wc3 => rfl
              case yc3 => intro w hSw; (try dsimp only at hSw); go_simp; (try with_reducible rfl)
              simp only [Act.put, List.setIfInBounds_toArray, List.set_cons_zero, List.set_cons_succ]
              refine wpAnyH_take (i := 4) (v := ?vc4) (oi := ?oc4) ?hc4 (by kernel_rfl) (by kernel_rfl) (by kernel_rfl) (fun _ _ _ h => h) (Or.inl ⟨?wc4, ?yc4⟩) hHeld ?rc4
              case hc4 => simp only [List.getElem?_toArray, List.getElem?_cons_zero, List.getElem?_cons_succ]; rfl
              case wc4 => rfl
              case yc4 => intro w hSw; (try dsimp only at hSw); go_simp; (try with_reducible rfl)
              simp only [Act.put, List.setIfInBounds_toArray, List.set_cons_zero, List.set_cons_succ]
              refine wpAnyH_take (i := 7) (v := ?vc7) (oi := ?oc7) ?hc7 (by kernel_rfl) (by kernel_rfl) (by kernel_rfl) (fun _ _ _ h => h) (Or.inl ⟨?wc7, ?yc7⟩) hHeld ?rc7
              case hc7 => simp only [List.getElem?_toArray, List.getElem?_cons_zero, List.getElem?_cons_succ]; rfl
              case wc7 => rfl
              case yc7 => intro w hSw; (try dsimp only at hSw); go_simp; (try with_reducible rfl)
              simp only [Act.put, List.setIfInBounds_toArray, List.set_cons_zero, List.set_cons_succ]
              refine wpAnyH_take (i := 8) (v := ?vc8) (oi := ?oc8) ?hc8 (by kernel_rfl) (by kernel_rfl) (by kernel_rfl) (fun _ _ _ h => h) (Or.inl ⟨?wc8, ?yc8⟩) hHeld ?rc8
              case hc8 => simp only [List.getElem?_toArray, List.getElem?_cons_zero, List.getElem?_cons_succ]; rfl
              case wc8 => rfl
              case yc8 => intro w hSw; (try dsimp only at hSw); go_simp; (try with_reducible rfl)
              simp only [Act.put, List.setIfInBounds_toArray, List.set_cons_zero, List.set_cons_succ]
              refine wpAnyH_ready (rs := [5]) (by kernel_rfl) (by simp) ?_
              refine AllReadyH.cons (o := ?oc5) ?hc5 (fun K hK => ?sc5) AllReadyH.nil
              case hc5 => simp only [List.getElem?_toArray, List.getElem?_cons_zero, List.getElem?_cons_succ]; rfl
              go_simp
              refine (bytes_any (F := F') (g := w.heap.size) (bs := bs ++ shardB d.o d.st d.sl d.gn) hJ.wr_.drew (by rw [List.length_append] at hJl ⊢; omega)).mono ?_
              rintro e w5 ⟨A5, l5, c5, rfl, ho5, hk5⟩
              have h5 := conv_bts ho5.bts
              have h6 := conv_bts (hJ.own.bts.drew.no hk5)
              go_wp2_with fail
              refine hK.out _ _ (h6) (fun hHeld => ?_)
              clear hK K
              try simp only [Act.put, List.setIfInBounds_toArray, List.set_cons_zero, List.set_cons_succ]
              refine wpAnyH_ready (rs := [6]) (by kernel_rfl) (by simp) ?_
              refine AllReadyH.cons (o := ?oc6) ?hc6 (fun K hK => ?sc6) AllReadyH.nil
              case hc6 => simp only [List.getElem?_toArray, List.getElem?_cons_zero, List.getElem?_cons_succ]; rfl
              go_simp
              refine hK.out _ _ (h6) (fun hHeld => ?_)
              clear hK K
              try simp only [Act.put, List.setIfInBounds_toArray, List.set_cons_zero, List.set_cons_succ]
              refine wpAnyH_take (i := 9) (v := ?vc9) (oi := ?oc9) ?hc9 (by kernel_rfl) (by kernel_rfl) (by kernel_rfl) (fun _ _ _ h => h) (Or.inl ⟨?wc9, ?yc9⟩) hHeld ?rc9
              case hc9 => simp only [List.getElem?_toArray, List.getElem?_cons_zero, List.getElem?_cons_succ]; rfl
              case wc9 => rfl
              case yc9 => intro w hSw; (try dsimp only at hSw); go_simp; (try with_reducible rfl)
              simp only [Act.put, List.setIfInBounds_toArray, List.set_cons_zero, List.set_cons_succ]
              refine wpAnyH_take (i := 10) (v := ?vc10) (oi := ?oc10) ?hc10 (by kernel_rfl) (by kernel_rfl) (by kernel_rfl) (fun _ _ _ h => h) (Or.inl ⟨?wc10, ?yc10⟩) hHeld ?rc10
              case hc10 => simp only [List.getElem?_toArray, List.getElem?_cons_zero, List.getElem?_cons_succ]; rfl
              case wc10 => rfl
              case yc10 => intro w hSw; (try dsimp only at hSw); go_simp; (try with_reducible rfl)
              simp only [Act.put, List.setIfInBounds_toArray, List.set_cons_zero, List.set_cons_succ]
              refine wpAnyH_done (by kernel_rfl) ?_ _
              refine NoPanic.normal ?_
              go_wp2
              go_round
              case rel => exact ⟨k + 1, A4, l4, c4, bs ++ shardB d.o d.st d.sl d.gn, F', by omega, by go_num, rfl, hJ.no5 hk5⟩
              case measure => simp [intOf]; omega
            · have hk3' : (d.kind == 3) = false := by simpa using k3
              clear k3
              obtain ⟨KK, hK⟩ : ∃ KK, IsK d.size KK := by
                by_cases a : d.size < 0
                · exact ⟨0, by omega, .inl ⟨a, rfl⟩⟩
                · by_cases b : 8 < d.size
                  · exact ⟨8, by omega, .inr (.inl ⟨b, rfl⟩)⟩
                  · exact ⟨d.size.toNat, by omega, .inr (.inr (by omega))⟩
              have HK := hide hK
              have hlt4 : (numB d.n KK).length ≤ 8 := by rw [numB_length]; exact HK.out.1
              clear hK
              by_cases hneg : d.size < 0
              · have hK0 : IsK 0 KK := ⟨HK.out.1, by have := HK.out.2; omega⟩
                go_wp2_with fail
                refine (num_any d.n d.size KK ha.hn HK.out (hI.start _) (by omega)).mono ?_
                rintro e w2 hp
                obtain rfl := hp.1
                have ho2 := hI.own2 hp.2.2
                have hn2 := hI.kp1 _ hp.2.2
                have hs2 := hn2.size
                have e1 : w2.cell? ⟨wr.heap.size, 1, none⟩ = some (.int .u64 d.n) := hp.2.2.cell (by simp) (fun hn => hn.1 rfl)
                have e2 : w2.cell? ⟨wr.heap.size, 2, none⟩ = some (.int .i64 d.size) := hp.2.2.cell (by simp) (fun hn => hn.1 rfl)
                go_wp2_with fail
                refine (rnum_any d.n _ KK ha.hn hK0).mono ?_
                rintro e w3 ⟨A3, l3, c3, rfl, ho3, hk3⟩
                have ho23 := ho2.no hk3
                have hs3 : w.heap.size ≤ w3.heap.size := Nat.le_trans hs2 hk3.size
                go_wp2_with (first
                  | (at_builtin
                     refine wpList_app rfl (.tmp 33) (.tmp 39) _ rfl i0 Try.underlying26 hi0 hz0 hz1 hz2 rfl ho23 rfl ho3.bts ?hl hs3 ?_
                     case hl => omega
                     intro A4 l4 c4 w4 hap
                     obtain ⟨F', hJ⟩ := hI.next hp hk3 hap (by omega)))
                have hJo := conv_bts hJ.own.bts
                have hJd := conv_bts hJ.own.bts.drew
                have hJl := hJ.len
                refine wp_region_noPanic ?_
                refine wp_region_held_drew (S := fun w' => (convert 26 9 (.slice A4 l4 c4)).run Try.prog w' = .ok (.string (strOf (bs ++ numB d.n KK))) w') (by kernel_rfl) (hJd) (fun hHeld => ?_)
                refine wpAnyH_take (i := 0) (v := ?vd0) (oi := ?od0) ?hd0 (by kernel_rfl) (by kernel_rfl) (by kernel_rfl) (fun _ _ _ h => h) (Or.inl ⟨?wd0, ?yd0⟩) hHeld ?rd0
                case hd0 => simp only [List.getElem?_toArray, List.getElem?_cons_zero, List.getElem?_cons_succ]; rfl
                case wd0 => rfl
                case yd0 => intro w hSw; (try dsimp only at hSw); go_simp; (try with_reducible rfl)
                simp only [Act.put, List.setIfInBounds_toArray, List.set_cons_zero, List.set_cons_succ]
                refine wpAnyH_take (i := 1) (v := ?vd1) (oi := ?od1) ?hd1 (by kernel_rfl) (by kernel_rfl) (by kernel_rfl) (fun _ _ _ h => h) (Or.inl ⟨?wd1, ?yd1⟩) hHeld ?rd1
                case hd1 => simp only [List.getElem?_toArray, List.getElem?_cons_zero, List.getElem?_cons_succ]; rfl
                case wd1 => rfl
                case yd1 => intro w hSw; (try dsimp only at hSw); go_simp; (try with_reducible rfl)
                simp only [Act.put, List.setIfInBounds_toArray, List.set_cons_zero, List.set_cons_succ]
                refine wpAnyH_take (i := 2) (v := ?vd2) (oi := ?od2) ?hd2 (by kernel_rfl) (by kernel_rfl) (by kernel_rfl) (fun _ _ _ h => h) (Or.inl ⟨?wd2, ?yd2⟩) hHeld ?rd2
                case hd2 => simp only [List.getElem?_toArray, List.getElem?_cons_zero, List.getElem?_cons_succ]; rfl
                case wd2 => rfl
                case yd2 => intro w hSw; (try dsimp only at hSw); go_simp; (try with_reducible rfl)
                simp only [Act.put, List.setIfInBounds_toArray, List.set_cons_zero, List.set_cons_succ]
                refine wpAnyH_take (i := 3) (v := ?vd3) (oi := ?od3) ?hd3 (by kernel_rfl) (by kernel_rfl) (by kernel_rfl) (fun _ _ _ h => h) (Or.inl ⟨?wd3, ?yd3⟩) hHeld ?rd3
                case hd3 => simp only [List.getElem?_toArray, List.getElem?_cons_zero, List.getElem?_cons_succ]; rfl
                case wd3 => rfl
                case yd3 => intro w hSw; (try dsimp only at hSw); go_simp; (try with_reducible rfl)
                simp only [Act.put, List.setIfInBounds_toArray, List.set_cons_zero, List.set_cons_succ]
                refine wpAnyH_take (i := 4) (v := ?vd4) (oi := ?od4) ?hd4 (by kernel_rfl) (by kernel_rfl) (by kernel_rfl) (fun _ _ _ h => h) (Or.inl ⟨?wd4, ?yd4⟩) hHeld ?rd4
                case hd4 => simp only [List.getElem?_toArray, List.getElem?_cons_zero, List.getElem?_cons_succ]; rfl
                case wd4 => rfl
                case yd4 => intro w hSw; (try dsimp only at hSw); go_simp; (try with_reducible rfl)
                simp only [Act.put, List.setIfInBounds_toArray, List.set_cons_zero, List.set_cons_succ]
                refine wpAnyH_take (i := 7) (v := ?vd7) (oi := ?od7) ?hd7 (by kernel_rfl) (by kernel_rfl) (by kernel_rfl) (fun _ _ _ h => h) (Or.inl ⟨?wd7, ?yd7⟩) hHeld ?rd7
                case hd7 => simp only [List.getElem?_toArray, List.getElem?_cons_zero, List.getElem?_cons_succ]; rfl
                case wd7 => rfl
                case yd7 => intro w hSw; (try dsimp only at hSw); go_simp; (try with_reducible rfl)
                simp only [Act.put, List.setIfInBounds_toArray, List.set_cons_zero, List.set_cons_succ]
                refine wpAnyH_take (i := 8) (v := ?vd8) (oi := ?od8) ?hd8 (by kernel_rfl) (by kernel_rfl) (by kernel_rfl) (fun _ _ _ h => h) (Or.inl ⟨?wd8, ?yd8⟩) hHeld ?rd8
                case hd8 => simp only [List.getElem?_toArray, List.getElem?_cons_zero, List.getElem?_cons_succ]; rfl
                case wd8 => rfl
                case yd8 => intro w hSw; (try dsimp only at hSw); go_simp; (try with_reducible rfl)
                simp only [Act.put, List.setIfInBounds_toArray, List.set_cons_zero, List.set_cons_succ]
                refine wpAnyH_ready (rs := [5]) (by kernel_rfl) (by simp) ?_
                refine AllReadyH.cons (o := ?od5) ?hd5 (fun K hK => ?sd5) AllReadyH.nil
                case hd5 => simp only [List.getElem?_toArray, List.getElem?_cons_zero, List.getElem?_cons_succ]; rfl
                go_simp
                refine (bytes_any (F := F') (g := w.heap.size) (bs := bs ++ numB d.n KK) hJ.wr_.drew (by rw [List.length_append] at hJl ⊢; omega)).mono ?_
                rintro e w5 ⟨A5, l5, c5, rfl, ho5, hk5⟩
                have h5 := conv_bts ho5.bts
                have h6 := conv_bts (hJ.own.bts.drew.no hk5)
                go_wp2_with fail
                refine hK.out _ _ (h6) (fun hHeld => ?_)
                clear hK K
                try simp only [Act.put, List.setIfInBounds_toArray, List.set_cons_zero, List.set_cons_succ]
                refine wpAnyH_ready (rs := [6]) (by kernel_rfl) (by simp) ?_
                refine AllReadyH.cons (o := ?od6) ?hd6 (fun K hK => ?sd6) AllReadyH.nil
                case hd6 => simp only [List.getElem?_toArray, List.getElem?_cons_zero, List.getElem?_cons_succ]; rfl
                go_simp
                refine hK.out _ _ (h6) (fun hHeld => ?_)
                clear hK K
                try simp only [Act.put, List.setIfInBounds_toArray, List.set_cons_zero, List.set_cons_succ]
                refine wpAnyH_take (i := 9) (v := ?vd9) (oi := ?od9) ?hd9 (by kernel_rfl) (by kernel_rfl) (by kernel_rfl) (fun _ _ _ h => h) (Or.inl ⟨?wd9, ?yd9⟩) hHeld ?rd9
                case hd9 => simp only [List.getElem?_toArray, List.getElem?_cons_zero, List.getElem?_cons_succ]; rfl
                case wd9 => rfl
                case yd9 => intro w hSw; (try dsimp only at hSw); go_simp; (try with_reducible rfl)
                simp only [Act.put, List.setIfInBounds_toArray, List.set_cons_zero, List.set_cons_succ]
                refine wpAnyH_take (i := 10) (v := ?vd10) (oi := ?od10) ?hd10 (by kernel_rfl) (by kernel_rfl) (by kernel_rfl) (fun _ _ _ h => h) (Or.inl ⟨?wd10, ?yd10⟩) hHeld ?rd10
                case hd10 => simp only [List.getElem?_toArray, List.getElem?_cons_zero, List.getElem?_cons_succ]; rfl
                case wd10 => rfl
                case yd10 => intro w hSw; (try dsimp only at hSw); go_simp; (try with_reducible rfl)
                simp only [Act.put, List.setIfInBounds_toArray, List.set_cons_zero, List.set_cons_succ]
                refine wpAnyH_done (by kernel_rfl) ?_ _
                refine NoPanic.normal ?_
                go_wp2
                go_round
                case rel => exact ⟨k + 1, A4, l4, c4, bs ++ numB d.n KK, F', by omega, by go_num, rfl, hJ.no5 hk5⟩
                case measure => simp [intOf]; omega
              · have hK0 := HK.out
                go_wp2_with fail
                refine (num_any d.n d.size KK ha.hn HK.out (hI.start _) (by omega)).mono ?_
                rintro e w2 hp
                obtain rfl := hp.1
                have ho2 := hI.own2 hp.2.2
                have hn2 := hI.kp1 _ hp.2.2
                have hs2 := hn2.size
                have e1 : w2.cell? ⟨wr.heap.size, 1, none⟩ = some (.int .u64 d.n) := hp.2.2.cell (by simp) (fun hn => hn.1 rfl)
                have e2 : w2.cell? ⟨wr.heap.size, 2, none⟩ = some (.int .i64 d.size) := hp.2.2.cell (by simp) (fun hn => hn.1 rfl)
                go_wp2_with fail
                refine (rnum_any d.n _ KK ha.hn hK0).mono ?_
                rintro e w3 ⟨A3, l3, c3, rfl, ho3, hk3⟩
                have ho23 := ho2.no hk3
                have hs3 : w.heap.size ≤ w3.heap.size := Nat.le_trans hs2 hk3.size
                go_wp2_with (first
                  | (at_builtin
                     refine wpList_app rfl (.tmp 33) (.tmp 39) _ rfl i0 Try.underlying26 hi0 hz0 hz1 hz2 rfl ho23 rfl ho3.bts ?hl hs3 ?_
                     case hl => omega
                     intro A4 l4 c4 w4 hap
                     obtain ⟨F', hJ⟩ := hI.next hp hk3 hap (by omega)))
                have hJo := conv_bts hJ.own.bts
                have hJd := conv_bts hJ.own.bts.drew
                have hJl := hJ.len
                refine wp_region_noPanic ?_
                refine wp_region_held_drew (S := fun w' => (convert 26 9 (.slice A4 l4 c4)).run Try.prog w' = .ok (.string (strOf (bs ++ numB d.n KK))) w') (by kernel_rfl) (hJd) (fun hHeld => ?_)
                refine wpAnyH_take (i := 0) (v := ?ve0) (oi := ?oe0) ?he0 (by kernel_rfl) (by kernel_rfl) (by kernel_rfl) (fun _ _ _ h => h) (Or.inl ⟨?we0, ?ye0⟩) hHeld ?re0
                case he0 => simp only [List.getElem?_toArray, List.getElem?_cons_zero, List.getElem?_cons_succ]; rfl
                case we0 => rfl
                case ye0 => intro w hSw; (try dsimp only at hSw); go_simp; (try with_reducible rfl)
                simp only [Act.put, List.setIfInBounds_toArray, List.set_cons_zero, List.set_cons_succ]
                refine wpAnyH_take (i := 1) (v := ?ve1) (oi := ?oe1) ?he1 (by kernel_rfl) (by kernel_rfl) (by kernel_rfl) (fun _ _ _ h => h) (Or.inl ⟨?we1, ?ye1⟩) hHeld ?re1
                case he1 => simp only [List.getElem?_toArray, List.getElem?_cons_zero, List.getElem?_cons_succ]; rfl
                case we1 => rfl
                case ye1 => intro w hSw; (try dsimp only at hSw); go_simp; (try with_reducible rfl)
                simp only [Act.put, List.setIfInBounds_toArray, List.set_cons_zero, List.set_cons_succ]
                refine wpAnyH_take (i := 2) (v := ?ve2) (oi := ?oe2) ?he2 (by kernel_rfl) (by kernel_rfl) (by kernel_rfl) (fun _ _ _ h => h) (Or.inl ⟨?we2, ?ye2⟩) hHeld ?re2
                case he2 => simp only [List.getElem?_toArray, List.getElem?_cons_zero, List.getElem?_cons_succ]; rfl
                case we2 => rfl
                case ye2 => intro w hSw; (try dsimp only at hSw); go_simp; (try with_reducible rfl)
                simp only [Act.put, List.setIfInBounds_toArray, List.set_cons_zero, List.set_cons_succ]
                refine wpAnyH_take (i := 3) (v := ?ve3) (oi := ?oe3) ?he3 (by kernel_rfl) (by kernel_rfl) (by kernel_rfl) (fun _ _ _ h => h) (Or.inl ⟨?we3, ?ye3⟩) hHeld ?re3
                case he3 => simp only [List.getElem?_toArray, List.getElem?_cons_zero, List.getElem?_cons_succ]; rfl
                case we3 => rfl
                case ye3 => intro w hSw; (try dsimp only at hSw); go_simp; (try with_reducible rfl)
                simp only [Act.put, List.setIfInBounds_toArray, List.set_cons_zero, List.set_cons_succ]
                refine wpAnyH_take (i := 4) (v := ?ve4) (oi := ?oe4) ?he4 (by kernel_rfl) (by kernel_rfl) (by kernel_rfl) (fun _ _ _ h => h) (Or.inl ⟨?we4, ?ye4⟩) hHeld ?re4
                case he4 => simp only [List.getElem?_toArray, List.getElem?_cons_zero, List.getElem?_cons_succ]; rfl
                case we4 => rfl
                case ye4 => intro w hSw; (try dsimp only at hSw); go_simp; (try with_reducible rfl)
                simp only [Act.put, List.setIfInBounds_toArray, List.set_cons_zero, List.set_cons_succ]
                refine wpAnyH_take (i := 7) (v := ?ve7) (oi := ?oe7) ?he7 (by kernel_rfl) (by kernel_rfl) (by kernel_rfl) (fun _ _ _ h => h) (Or.inl ⟨?we7, ?ye7⟩) hHeld ?re7
                case he7 => simp only [List.getElem?_toArray, List.getElem?_cons_zero, List.getElem?_cons_succ]; rfl
                case we7 => rfl
                case ye7 => intro w hSw; (try dsimp only at hSw); go_simp; (try with_reducible rfl)
                simp only [Act.put, List.setIfInBounds_toArray, List.set_cons_zero, List.set_cons_succ]
                refine wpAnyH_take (i := 8) (v := ?ve8) (oi := ?oe8) ?he8 (by kernel_rfl) (by kernel_rfl) (by kernel_rfl) (fun _ _ _ h => h) (Or.inl ⟨?we8, ?ye8⟩) hHeld ?re8
                case he8 => simp only [List.getElem?_toArray, List.getElem?_cons_zero, List.getElem?_cons_succ]; rfl
                case we8 => rfl
                case ye8 => intro w hSw; (try dsimp only at hSw); go_simp; (try with_reducible rfl)
                simp only [Act.put, List.setIfInBounds_toArray, List.set_cons_zero, List.set_cons_succ]
                refine wpAnyH_ready (rs := [5]) (by kernel_rfl) (by simp) ?_
                refine AllReadyH.cons (o := ?oe5) ?he5 (fun K hK => ?se5) AllReadyH.nil
                case he5 => simp only [List.getElem?_toArray, List.getElem?_cons_zero, List.getElem?_cons_succ]; rfl
                go_simp
                refine (bytes_any (F := F') (g := w.heap.size) (bs := bs ++ numB d.n KK) hJ.wr_.drew (by rw [List.length_append] at hJl ⊢; omega)).mono ?_
                rintro e w5 ⟨A5, l5, c5, rfl, ho5, hk5⟩
                have h5 := conv_bts ho5.bts
                have h6 := conv_bts (hJ.own.bts.drew.no hk5)
                go_wp2_with fail
                refine hK.out _ _ (h6) (fun hHeld => ?_)
                clear hK K
                try simp only [Act.put, List.setIfInBounds_toArray, List.set_cons_zero, List.set_cons_succ]
                refine wpAnyH_ready (rs := [6]) (by kernel_rfl) (by simp) ?_
                refine AllReadyH.cons (o := ?oe6) ?he6 (fun K hK => ?se6) AllReadyH.nil
                case he6 => simp only [List.getElem?_toArray, List.getElem?_cons_zero, List.getElem?_cons_succ]; rfl
                go_simp
                refine hK.out _ _ (h6) (fun hHeld => ?_)
                clear hK K
                try simp only [Act.put, List.setIfInBounds_toArray, List.set_cons_zero, List.set_cons_succ]
                refine wpAnyH_take (i := 9) (v := ?ve9) (oi := ?oe9) ?he9 (by kernel_rfl) (by kernel_rfl) (by kernel_rfl) (fun _ _ _ h => h) (Or.inl ⟨?we9, ?ye9⟩) hHeld ?re9
                case he9 => simp only [List.getElem?_toArray, List.getElem?_cons_zero, List.getElem?_cons_succ]; rfl
                case we9 => rfl
                case ye9 => intro w hSw; (try dsimp only at hSw); go_simp; (try with_reducible rfl)
                simp only [Act.put, List.setIfInBounds_toArray, List.set_cons_zero, List.set_cons_succ]
                refine wpAnyH_take (i := 10) (v := ?ve10) (oi := ?oe10) ?he10 (by kernel_rfl) (by kernel_rfl) (by kernel_rfl) (fun _ _ _ h => h) (Or.inl ⟨?we10, ?ye10⟩) hHeld ?re10
                case he10 => simp only [List.getElem?_toArray, List.getElem?_cons_zero, List.getElem?_cons_succ]; rfl
                case we10 => rfl
                case ye10 => intro w hSw; (try dsimp only at hSw); go_simp; (try with_reducible rfl)
                simp only [Act.put, List.setIfInBounds_toArray, List.set_cons_zero, List.set_cons_succ]
                refine wpAnyH_done (by kernel_rfl) ?_ _
                refine NoPanic.normal ?_
                go_wp2
                go_round
                case rel => exact ⟨k + 1, A4, l4, c4, bs ++ numB d.n KK, F', by omega, by go_num, rfl, hJ.no5 hk5⟩
                case measure => simp [intOf]; omega
      · have hi : ¬ (k : Int) < n := by omega
        go_wp2_with fail
        refine (awake_any _).mono ?_
        rintro e w1 ⟨rfl, hk1⟩
        go_wp2
        go_ret
        exact ⟨rfl, (hI.kp.trans' hk1).below0⟩
end Go.Proofs.Ytnifafacoglkoaa
