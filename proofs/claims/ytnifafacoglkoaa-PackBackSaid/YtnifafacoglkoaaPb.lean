/- PackBack: what is put into a Writer is taken from a Reader of its bytes, and all that is left at once. -/
import Derived.Test.YtnifafacoglkoaaAc
import Derived.Test.YtnifafacoglkoaaRd2
import Derived.Lib.Builder
namespace Go.Proofs.Ytnifafacoglkoaa
open Go.RowKit
set_option linter.unusedVariables false
set_option linter.unusedSimpArgs false

/-- An act's bytes, as they are put. -/
def actB (d : ActD) : List UInt8 := numB d.n 8 ++ (textB d.b ++ (shardB d.o d.st d.sl d.gn ++ d.b))
/-- All acts' bytes. -/
def actsB (ds : List ActD) : List UInt8 := (ds.map actB).flatten
theorem actB_len (d : ActD) (h : d.b.length ≤ 4000) : (actB d).length ≤ 8022 := by
  simp only [actB, textB, shardB, List.length_append, numB_length]
  omega
theorem actsB_take (ds : List ActD) (k : Nat) (d : ActD) (h : ds[k]? = some d) : actsB (ds.take (k + 1)) = actsB (ds.take k) ++ actB d := by
  have hk := (List.getElem?_eq_some_iff.1 h).1
  unfold actsB
  rw [List.take_succ_eq_append_getElem hk, List.map_append, List.flatten_append, (List.getElem?_eq_some_iff.1 h).2]
  simp
theorem actsB_drop (ds : List ActD) (k : Nat) (d : ActD) (h : ds[k]? = some d) : actsB (ds.drop k) = actB d ++ actsB (ds.drop (k + 1)) := by
  have hk := (List.getElem?_eq_some_iff.1 h).1
  unfold actsB
  rw [List.drop_eq_getElem_cons hk, List.map_cons, List.flatten_cons, (List.getElem?_eq_some_iff.1 h).2]

theorem conv_bts {w : World} {v : Value} {bs : List UInt8} (h : Bts w v bs) : (convert 26 9 v).run Try.prog w = .ok (.string (strOf bs)) w := h.str 26 9 5 Try.underlying26 Try.underlying5 Try.underlying9

/-- The blocks that the call made. -/
def Yg (w : World) (q : Nat) : Prop := w.heap.size ≤ q

/-- What the first loop keeps. -/
structure Iw (w : World) (bs : List UInt8) (wr : World) : Prop where
  wr_ : WrAt wr (Yg w) w.heap.size bs
  kp : Kp No w wr
theorem Iw.kp1 {w wr w1 : World} {bs : List UInt8} (h : Iw w bs wr) (hk : Kp (Yg w) wr w1) : Kp No w w1 := h.kp.trans (hk.mono fun q hq => .inr hq)
theorem Iw.drew {w wr : World} {bs : List UInt8} (h : Iw w bs wr) : Iw w bs wr.drew := ⟨h.wr_, h.kp.drew⟩
/-- What the second loop keeps. -/
structure Ir (w : World) (Fw Fr : Nat → Prop) (gr : Nat) (bs rest : List UInt8) (wr : World) : Prop where
  rd : RdAt wr Fr gr rest
  wr_ : WrAt wr Fw w.heap.size bs
  kp : Kp No w wr
  ap : ∀ q, Fw q → ¬ Fr q
  old : ∀ q, Fr q → q < wr.heap.size
  yw : ∀ q, Fw q → w.heap.size ≤ q
  yr : ∀ q, Fr q → w.heap.size ≤ q
theorem RdAt.inF {w : World} {F : Nat → Prop} {g : Nat} {bs : List UInt8} (h : RdAt w F g bs) : F g := by
  obtain ⟨_, _, _, _, _, _, h4, _⟩ := h
  exact h4
theorem Ir.drew {w : World} {Fw Fr : Nat → Prop} {gr : Nat} {bs rest : List UInt8} {wr : World} (h : Ir w Fw Fr gr bs rest wr) : Ir w Fw Fr gr bs rest wr.drew :=
  ⟨h.rd, h.wr_, h.kp.drew, h.ap, h.old, h.yw, h.yr⟩
theorem Ir.next {w : World} {Fw Fr : Nat → Prop} {gr : Nat} {bs rest rest1 : List UInt8} {wr w1 : World} (h : Ir w Fw Fr gr bs rest wr) (hr : RdAt w1 Fr gr rest1) (hk : Kp (fun b => b = gr) wr w1) : Ir w Fw Fr gr bs rest1 w1 :=
  ⟨hr, h.wr_.keep hk (fun q _ hq e => h.ap q hq (e ▸ h.rd.inF)), h.kp.trans (hk.mono fun q hq => .inr (by subst hq; exact h.yr _ h.rd.inF)), h.ap, fun q hq => Nat.lt_of_lt_of_le (h.old q hq) hk.size, h.yw, h.yr⟩

theorem bts_new2 (w : World) : Bts (w.alloc (.cells #[.int .u8 5, .int .u8 6] 5)) (.slice (some ⟨w.heap.size, 0, none⟩) 2 2) [5, 6] := by
  refine ⟨_, 2, rfl, (fun h => by cases h), fun ad ha j x hx => ?_⟩
  injection ha with ha
  subst ha
  match j, hx with
  | 0, hx =>
    simp at hx
    subst hx
    simp [Addr.add, bv]
  | 1, hx =>
    simp at hx
    subst hx
    simp [Addr.add, bv]
  | j + 2, hx => simp at hx

theorem Iw.next {w wr w1 : World} {bs cs : List UInt8} {e : Ending} (h : Iw w bs wr) (hp : WrPost wr (Yg w) w.heap.size cs e w1) : Iw w cs w1 :=
  ⟨hp.again fun k hk => Nat.le_trans h.kp.size hk, h.kp1 hp.2.2⟩

set_option maxHeartbeats 4000000 in
set_option maxRecDepth 100000 in
theorem back_walk {w : World} {A : Option Addr} {n c : Nat} {ds : List ActD} (h : ActsAt w A n ds) : Calls Try.prog 4 #[.slice A n c] w fun e w1 => e = .returned (.bool true) ∧ Below w.heap.size w w1 := by
  go_enter Try.func4, Try.ntmps4
  go_wp2_with fail
  refine (light_any h).mono ?_
  rintro e w1 ⟨b, rfl, rfl, hb⟩
  have HB := hide hb
  clear hb
  rcases b with _ | _
  · go_wp2_with fail
    refine (awake_any _).mono ?_
    rintro e w1 ⟨rfl, hk⟩
    go_wp2
    go_ret
    exact ⟨rfl, hk.below0⟩
  · obtain ⟨hn, hmax, hat⟩ := h
    have HN := hide hn
    have HA := hide hat
    have hn40 : n ≤ 40 := by have := (HB.out rfl).1; omega
    have HL := hide (HB.out rfl).2
    clear hn hat
    go_wp2_with fail
    go_loopw [4] (fun i wr => ∃ k bs, k ≤ n ∧ i = .int .i64 ((k : Nat) : Int) ∧ Hid (bs = actsB (ds.take k)) ∧ bs.length ≤ 8022 * k ∧ Iw w bs wr) (fun i _ => n - (intOf i).toNat)
    case atStart => exact ⟨0, [], Nat.zero_le _, rfl, (by show [] = actsB (ds.take 0); simp [actsB]), by simp, ⟨(WrAt.new w).mono (fun k hk => by subst hk; exact Nat.le_refl _), Kp.alloc No w _⟩⟩
    case round =>
      obtain ⟨k, bs, hk, rfl, HBs, hbl, hI⟩ := hrel
      by_cases hlt : k < n
      · obtain ⟨d, hd⟩ : ∃ d, ds[k]? = some d := ⟨_, List.getElem?_eq_getElem (by have := HN.out; omega)⟩
        obtain ⟨B, off, A2, m, cc, hA, ha⟩ := HA.out k d hd
        have hdb : d.b.length ≤ 4000 := HL.out d (List.mem_of_getElem? hd)
        have hal := actB_len d hdb
        have HD := hide hd
        clear hd
        subst hA
        have hi : (k : Int) < n := by omega
        have c1 := hI.kp.cell ha.c1 fun f => f
        have c3 := hI.kp.cell ha.c3 fun f => f
        have c4 := hI.kp.cell ha.c4 fun f => f
        have c5 := hI.kp.cell ha.c5 fun f => f
        have c6 := hI.kp.cell ha.c6 fun f => f
        have c7 := hI.kp.cell ha.c7 fun f => f
        have CL : ∀ w', Kp No w w' → w'.cell? ⟨B, off + k * 8 + 1, none⟩ = some (.int .u64 d.n) ∧ w'.cell? ⟨B, off + k * 8 + 3, none⟩ = some (.slice A2 m cc) ∧ w'.cell? ⟨B, off + k * 8 + 4, none⟩ = some (.int .u32 d.o) ∧ w'.cell? ⟨B, off + k * 8 + 5, none⟩ = some (.int .u16 d.st) ∧ w'.cell? ⟨B, off + k * 8 + 6, none⟩ = some (.int .u16 d.sl) ∧ w'.cell? ⟨B, off + k * 8 + 7, none⟩ = some (.int .u32 d.gn) := fun w' hk' => ⟨hk'.cell ha.c1 fun f => f, hk'.cell ha.c3 fun f => f, hk'.cell ha.c4 fun f => f, hk'.cell ha.c5 fun f => f, hk'.cell ha.c6 fun f => f, hk'.cell ha.c7 fun f => f⟩
        have HCL := hide CL
        clear CL
        have hId := hI.drew
        have K8 : IsK 8 8 := ⟨by omega, by omega⟩
        go_wp2_with fail
        go_region_held3 (fun w' => w'.cell? ⟨B, off + k * 8 + 1, none⟩ = some (.int .u64 d.n) ∧ w'.cell? ⟨B, off + k * 8 + 3, none⟩ = some (.slice A2 m cc) ∧ w'.cell? ⟨B, off + k * 8 + 4, none⟩ = some (.int .u32 d.o) ∧ w'.cell? ⟨B, off + k * 8 + 5, none⟩ = some (.int .u16 d.st) ∧ w'.cell? ⟨B, off + k * 8 + 6, none⟩ = some (.int .u16 d.sl) ∧ w'.cell? ⟨B, off + k * 8 + 7, none⟩ = some (.int .u32 d.gn)) (first | exact HCL.out _ hId.kp | assumption)
          (first
            | (go_at_call 12; ((with_reducible refine (num_any (bs := bs) d.n 8 8 ha.hn K8 hId.wr_ ?_).mono ?_); omega; rintro e w1 hp; obtain rfl := hp.1; have i1 := hId.next hp; have s1 := HCL.out _ i1.kp))
            | (go_at_call 8; ((with_reducible refine (text_any (bs := bs ++ numB d.n 8) i1.wr_ (ha.bts.no i1.kp) (fun w' hk => ha.bts.no (i1.kp1 hk)) ?_).mono ?_); (rw [List.length_append, numB_length]; omega); rintro e w2 hp; obtain rfl := hp.1; have i2 := i1.next hp; have s2 := HCL.out _ i2.kp))
            | (go_at_call 10; ((with_reducible refine (shard_any (bs := bs ++ numB d.n 8 ++ textB d.b) d.o d.st d.sl d.gn ha.ho ha.hst ha.hsl ha.hgn i2.wr_ ?_).mono ?_); (simp only [textB, List.length_append, numB_length]; omega); rintro e w3 hp; obtain rfl := hp.1; have i3 := i2.next hp; have s3 := HCL.out _ i3.kp))
            | (go_at_call 7; ((with_reducible refine (raw_any (bs := bs ++ numB d.n 8 ++ textB d.b ++ shardB d.o d.st d.sl d.gn) i3.wr_ (ha.bts.no i3.kp) ?_).mono ?_); (simp only [textB, shardB, List.length_append, numB_length]; omega); rintro e w4 hp; obtain rfl := hp.1; have i4 := i3.next hp; have s4 := HCL.out _ i4.kp)))
        go_wp2
        go_round
        case rel => exact ⟨k + 1, bs ++ actB d, by omega, by go_num, (by show _ = _; rw [actsB_take ds k d HD.out, HBs.out]), (by rw [List.length_append]; omega), (by simpa [actB, List.append_assoc] using i4)⟩
        case measure => simp [intOf]; omega
      · have hi : ¬ (k : Int) < n := by omega
        have e : actsB (ds.take k) = actsB ds := by rw [List.take_of_length_le (by have := HN.out; omega)]
        rw [e] at HBs
        have hlen : bs.length ≤ 400000 := by omega
        clear e
        go_wp2_with fail
        refine (bytes_any hI.wr_ (by omega)).mono ?_
        rintro e w2 ⟨A2, n2, c2, rfl, ho2, hk2⟩
        go_wp2_with fail
        refine (read_any ho2.bts (by omega)).mono ?_
        rintro e w3 ⟨gr, rfl, hr3, hk3⟩
        have hJ : Ir w (fun q => Yg w q ∧ q < wr.heap.size) (fun q => w2.heap.size ≤ q ∧ q < w3.heap.size) gr bs (actsB (ds.drop 0)) w3 := by
          refine ⟨?_, (hI.wr_.lt.keep hk2 fun _ _ _ f => f).keep hk3 fun _ _ _ f => f, (hI.kp.trans' hk2).trans' hk3, ?_, fun q hq => hq.2, fun q hq => hq.1, fun q hq => ?_⟩
          · rw [List.drop_zero, ← HBs.out]
            exact hr3
          · intro q hq hr
            have := hk2.size
            omega
          · have := hk2.size
            have := hI.kp.size
            omega
        obtain ⟨Fw, hFw⟩ : ∃ Fw, Fw = (fun q => Yg w q ∧ q < wr.heap.size) := ⟨_, rfl⟩
        obtain ⟨Fr, hFr⟩ : ∃ Fr, Fr = (fun q => w2.heap.size ≤ q ∧ q < w3.heap.size) := ⟨_, rfl⟩
        rw [← hFw, ← hFr] at hJ
        clear hFw hFr hr3 ho2 hk2 hk3 HBs hI
        go_wp2_with fail
        go_loopw [6] (fun i wq => ∃ k' rest, k' ≤ n ∧ i = .int .i64 ((k' : Nat) : Int) ∧ Hid (rest = actsB (ds.drop k')) ∧ Ir w Fw Fr gr bs rest wq) (fun i _ => n - (intOf i).toNat)
        case atStart => exact ⟨0, _, Nat.zero_le _, rfl, rfl, hJ⟩
        case round =>
          clear hlt hi hk hbl
          clear hJ
          obtain ⟨k', rest, hk, rfl, HR, hJ⟩ := hrel
          by_cases hlt : k' < n
          · obtain ⟨d, hd⟩ : ∃ d, ds[k']? = some d := ⟨_, List.getElem?_eq_getElem (by have := HN.out; omega)⟩
            obtain ⟨B, off, A3, m, cc, hA, ha⟩ := HA.out k' d hd
            have hdb : d.b.length ≤ 4000 := HL.out d (List.mem_of_getElem? hd)
            have hrest := HR.out
            rw [actsB_drop ds k' d hd] at hrest
            obtain ⟨rs, hrs⟩ : ∃ rs, rs = actsB (ds.drop (k' + 1)) := ⟨_, rfl⟩
            rw [← hrs] at hrest
            have HRS := hide hrs
            clear hrs hd HR
            subst hA
            have hJd : Ir w Fw Fr gr bs (numB d.n 8 ++ (textB d.b ++ (shardB d.o d.st d.sl d.gn ++ (d.b ++ rs)))) wr.drew := by
              have := hJ.drew
              rw [hrest] at this
              simpa only [actB, List.append_assoc] using this
            clear hrest
            have hi : (k' : Int) < n := by omega
            have hml := ha.bts.len
            have HML := hide hml
            have hm4 : m ≤ 4000 := by omega
            clear hml
            have CL : ∀ w', Kp No w w' → w'.cell? ⟨B, off + k' * 8 + 1, none⟩ = some (.int .u64 d.n) ∧ w'.cell? ⟨B, off + k' * 8 + 3, none⟩ = some (.slice A3 m cc) ∧ w'.cell? ⟨B, off + k' * 8 + 4, none⟩ = some (.int .u32 d.o) ∧ w'.cell? ⟨B, off + k' * 8 + 5, none⟩ = some (.int .u16 d.st) ∧ w'.cell? ⟨B, off + k' * 8 + 6, none⟩ = some (.int .u16 d.sl) ∧ w'.cell? ⟨B, off + k' * 8 + 7, none⟩ = some (.int .u32 d.gn) ∧ (convert 26 9 (.slice A3 m cc)).run Try.prog w' = .ok (.string (strOf d.b)) w' := fun w' hk' => ⟨hk'.cell ha.c1 fun f => f, hk'.cell ha.c3 fun f => f, hk'.cell ha.c4 fun f => f, hk'.cell ha.c5 fun f => f, hk'.cell ha.c6 fun f => f, hk'.cell ha.c7 fun f => f, conv_bts (ha.bts.no hk')⟩
            have HCL := hide CL
            clear CL
            have n8 : ofB (numB d.n 8) = d.n := by rw [ofB_numB]; have := ha.hn; omega
            have N8 := hide n8
            clear n8
            go_wp2_with fail
            refine wp_region_noPanic ?_
            refine wp_region_held_drew (S := fun w' => w'.cell? ⟨B, off + k' * 8 + 1, none⟩ = some (.int .u64 d.n) ∧ w'.cell? ⟨B, off + k' * 8 + 3, none⟩ = some (.slice A3 m cc) ∧ w'.cell? ⟨B, off + k' * 8 + 4, none⟩ = some (.int .u32 d.o) ∧ w'.cell? ⟨B, off + k' * 8 + 5, none⟩ = some (.int .u16 d.st) ∧ w'.cell? ⟨B, off + k' * 8 + 6, none⟩ = some (.int .u16 d.sl) ∧ w'.cell? ⟨B, off + k' * 8 + 7, none⟩ = some (.int .u32 d.gn) ∧ (convert 26 9 (.slice A3 m cc)).run Try.prog w' = .ok (.string (strOf d.b)) w') (by kernel_rfl) (HCL.out _ hJd.kp) (fun hHeld => ?_)
            refine wpAnyH_take (i := 0) (v := ?vb0) (oi := ?ob0) ?hb0 (by kernel_rfl) (by kernel_rfl) (by kernel_rfl) (fun _ _ _ h => h) (Or.inl ⟨?wb0, ?yb0⟩) hHeld ?rb0
            case hb0 => simp only [List.getElem?_toArray, List.getElem?_cons_zero, List.getElem?_cons_succ]; rfl
            case wb0 => rfl
            case yb0 => intro w hSw; (try dsimp only at hSw); go_simp; (try with_reducible rfl)
            simp only [Act.put, List.setIfInBounds_toArray, List.set_cons_zero, List.set_cons_succ]
            refine wpAnyH_take (i := 2) (v := ?vb2) (oi := ?ob2) ?hb2 (by kernel_rfl) (by kernel_rfl) (by kernel_rfl) (fun _ _ _ h => h) (Or.inl ⟨?wb2, ?yb2⟩) hHeld ?rb2
            case hb2 => simp only [List.getElem?_toArray, List.getElem?_cons_zero, List.getElem?_cons_succ]; rfl
            case wb2 => rfl
            case yb2 => intro w hSw; (try dsimp only at hSw); go_simp; (try with_reducible rfl)
            simp only [Act.put, List.setIfInBounds_toArray, List.set_cons_zero, List.set_cons_succ]
            refine wpAnyH_take (i := 3) (v := ?vb3) (oi := ?ob3) ?hb3 (by kernel_rfl) (by kernel_rfl) (by kernel_rfl) (fun _ _ _ h => h) (Or.inl ⟨?wb3, ?yb3⟩) hHeld ?rb3
            case hb3 => simp only [List.getElem?_toArray, List.getElem?_cons_zero, List.getElem?_cons_succ]; rfl
            case wb3 => rfl
            case yb3 => intro w hSw; (try dsimp only at hSw); go_simp; (try with_reducible rfl)
            simp only [Act.put, List.setIfInBounds_toArray, List.set_cons_zero, List.set_cons_succ]
            refine wpAnyH_take (i := 4) (v := ?vb4) (oi := ?ob4) ?hb4 (by kernel_rfl) (by kernel_rfl) (by kernel_rfl) (fun _ _ _ h => h) (Or.inl ⟨?wb4, ?yb4⟩) hHeld ?rb4
            case hb4 => simp only [List.getElem?_toArray, List.getElem?_cons_zero, List.getElem?_cons_succ]; rfl
            case wb4 => rfl
            case yb4 => intro w hSw; (try dsimp only at hSw); go_simp; (try with_reducible rfl)
            simp only [Act.put, List.setIfInBounds_toArray, List.set_cons_zero, List.set_cons_succ]
            refine wpAnyH_take (i := 5) (v := ?vb5) (oi := ?ob5) ?hb5 (by kernel_rfl) (by kernel_rfl) (by kernel_rfl) (fun _ _ _ h => h) (Or.inl ⟨?wb5, ?yb5⟩) hHeld ?rb5
            case hb5 => simp only [List.getElem?_toArray, List.getElem?_cons_zero, List.getElem?_cons_succ]; rfl
            case wb5 => rfl
            case yb5 => intro w hSw; (try dsimp only at hSw); go_simp; (try with_reducible rfl)
            simp only [Act.put, List.setIfInBounds_toArray, List.set_cons_zero, List.set_cons_succ]
            refine wpAnyH_take (i := 6) (v := ?vb6) (oi := ?ob6) ?hb6 (by kernel_rfl) (by kernel_rfl) (by kernel_rfl) (fun _ _ _ h => h) (Or.inl ⟨?wb6, ?yb6⟩) hHeld ?rb6
            case hb6 => simp only [List.getElem?_toArray, List.getElem?_cons_zero, List.getElem?_cons_succ]; rfl
            case wb6 => rfl
            case yb6 => intro w hSw; (try dsimp only at hSw); go_simp; (try with_reducible rfl)
            simp only [Act.put, List.setIfInBounds_toArray, List.set_cons_zero, List.set_cons_succ]
            refine wpAnyH_ready (rs := [1]) (by kernel_rfl) (by simp) ?_
            refine AllReadyH.cons (o := ?ob1) ?hb1 (fun K hK => ?sb1) AllReadyH.nil
            case hb1 => simp only [List.getElem?_toArray, List.getElem?_cons_zero, List.getElem?_cons_succ]; rfl
            go_simp
            refine (rdnum_any 8 (by rw [numB_length]) (by omega) hJd.rd).mono ?_
            rw [N8.out]
            rintro e w1 ⟨rfl, hr1, hk1⟩
            have j1 := hJd.next hr1 hk1
            have s1 := HCL.out _ j1.kp
            go_wp2_with fail
            refine hK.out _ _ (s1) (fun hHeld => ?_)
            clear hK K
            try simp only [Act.put, List.setIfInBounds_toArray, List.set_cons_zero, List.set_cons_succ]
            refine wpAnyH_take (i := 7) (v := ?vb7) (oi := ?ob7) ?hb7 (by kernel_rfl) (by kernel_rfl) (by kernel_rfl) (fun _ _ _ h => h) (Or.inl ⟨?wb7, ?yb7⟩) hHeld ?rb7
            case hb7 => simp only [List.getElem?_toArray, List.getElem?_cons_zero, List.getElem?_cons_succ]; rfl
            case wb7 => rfl
            case yb7 => intro w hSw; (try dsimp only at hSw); go_simp; (try with_reducible rfl)
            simp only [Act.put, List.setIfInBounds_toArray, List.set_cons_zero, List.set_cons_succ]
            refine wpAnyH_take (i := 8) (v := ?vb8) (oi := ?ob8) ?hb8 (by kernel_rfl) (by kernel_rfl) (by kernel_rfl) (fun _ _ _ h => h) (Or.inl ⟨?wb8, ?yb8⟩) hHeld ?rb8
            case hb8 => simp only [List.getElem?_toArray, List.getElem?_cons_zero, List.getElem?_cons_succ]; rfl
            case wb8 => rfl
            case yb8 => intro w hSw; (try dsimp only at hSw); go_simp; (try with_reducible rfl)
            simp only [Act.put, List.setIfInBounds_toArray, List.set_cons_zero, List.set_cons_succ]
            refine wpAnyH_take (i := 9) (v := ?vb9) (oi := ?ob9) ?hb9 (by kernel_rfl) (by kernel_rfl) (by kernel_rfl) (fun _ _ _ h => h) (Or.inl ⟨?wb9, ?yb9⟩) hHeld ?rb9
            case hb9 => simp only [List.getElem?_toArray, List.getElem?_cons_zero, List.getElem?_cons_succ]; rfl
            case wb9 => rfl
            case yb9 => intro w hSw; (try dsimp only at hSw); go_simp; (try with_reducible rfl)
            simp only [Act.put, List.setIfInBounds_toArray, List.set_cons_zero, List.set_cons_succ]
            refine wpAnyH_take (i := 12) (v := ?vb12) (oi := ?ob12) ?hb12 (by kernel_rfl) (by kernel_rfl) (by kernel_rfl) (fun _ _ _ h => h) (Or.inl ⟨?wb12, ?yb12⟩) hHeld ?rb12
            case hb12 => simp only [List.getElem?_toArray, List.getElem?_cons_zero, List.getElem?_cons_succ]; rfl
            case wb12 => rfl
            case yb12 => intro w hSw; (try dsimp only at hSw); go_simp; (try with_reducible rfl)
            simp only [Act.put, List.setIfInBounds_toArray, List.set_cons_zero, List.set_cons_succ]
            refine wpAnyH_take (i := 13) (v := ?vb13) (oi := ?ob13) ?hb13 (by kernel_rfl) (by kernel_rfl) (by kernel_rfl) (fun _ _ _ h => h) (Or.inl ⟨?wb13, ?yb13⟩) hHeld ?rb13
            case hb13 => simp only [List.getElem?_toArray, List.getElem?_cons_zero, List.getElem?_cons_succ]; rfl
            case wb13 => rfl
            case yb13 => intro w hSw; (try dsimp only at hSw); go_simp; (try with_reducible rfl)
            simp only [Act.put, List.setIfInBounds_toArray, List.set_cons_zero, List.set_cons_succ]
            refine wpAnyH_take (i := 14) (v := ?vb14) (oi := ?ob14) ?hb14 (by kernel_rfl) (by kernel_rfl) (by kernel_rfl) (fun _ _ _ h => h) (Or.inl ⟨?wb14, ?yb14⟩) hHeld ?rb14
            case hb14 => simp only [List.getElem?_toArray, List.getElem?_cons_zero, List.getElem?_cons_succ]; rfl
            case wb14 => rfl
            case yb14 => intro w hSw; (try dsimp only at hSw); go_simp; (try with_reducible rfl)
            simp only [Act.put, List.setIfInBounds_toArray, List.set_cons_zero, List.set_cons_succ]
            refine wpAnyH_take (i := 15) (v := ?vb15) (oi := ?ob15) ?hb15 (by kernel_rfl) (by kernel_rfl) (by kernel_rfl) (fun _ _ _ h => h) (Or.inl ⟨?wb15, ?yb15⟩) hHeld ?rb15
            case hb15 => simp only [List.getElem?_toArray, List.getElem?_cons_zero, List.getElem?_cons_succ]; rfl
            case wb15 => rfl
            case yb15 => intro w hSw; (try dsimp only at hSw); go_simp; (try with_reducible rfl)
            simp only [Act.put, List.setIfInBounds_toArray, List.set_cons_zero, List.set_cons_succ]
            refine wpAnyH_take (i := 16) (v := ?vb16) (oi := ?ob16) ?hb16 (by kernel_rfl) (by kernel_rfl) (by kernel_rfl) (fun _ _ _ h => h) (Or.inl ⟨?wb16, ?yb16⟩) hHeld ?rb16
            case hb16 => simp only [List.getElem?_toArray, List.getElem?_cons_zero, List.getElem?_cons_succ]; rfl
            case wb16 => rfl
            case yb16 => intro w hSw; (try dsimp only at hSw); go_simp; (try with_reducible rfl)
            simp only [Act.put, List.setIfInBounds_toArray, List.set_cons_zero, List.set_cons_succ]
            refine wpAnyH_take (i := 17) (v := ?vb17) (oi := ?ob17) ?hb17 (by kernel_rfl) (by kernel_rfl) (by kernel_rfl) (fun _ _ _ h => h) (Or.inl ⟨?wb17, ?yb17⟩) hHeld ?rb17
            case hb17 => simp only [List.getElem?_toArray, List.getElem?_cons_zero, List.getElem?_cons_succ]; rfl
            case wb17 => rfl
            case yb17 => intro w hSw; (try dsimp only at hSw); go_simp; (try with_reducible rfl)
            simp only [Act.put, List.setIfInBounds_toArray, List.set_cons_zero, List.set_cons_succ]
            refine wpAnyH_ready (rs := [10]) (by kernel_rfl) (by simp) ?_
            refine AllReadyH.cons (o := ?ob10) ?hb10 (fun K hK => ?sb10) AllReadyH.nil
            case hb10 => simp only [List.getElem?_toArray, List.getElem?_cons_zero, List.getElem?_cons_succ]; rfl
            go_simp
            refine (rdtext_any j1.rd (by omega)).mono ?_
            rintro e w2' ⟨A4, m4, c4, rfl, ho4, hr2, hk2⟩
            have j2 := j1.next hr2 hk2
            have s2 := HCL.out _ j2.kp
            have cv2 := conv_bts ho4.bts
            go_wp2_with fail
            refine hK.out _ _ (s2) (fun hHeld => ?_)
            clear hK K
            try simp only [Act.put, List.setIfInBounds_toArray, List.set_cons_zero, List.set_cons_succ]
            refine wpAnyH_ready (rs := [11]) (by kernel_rfl) (by simp) ?_
            refine AllReadyH.cons (o := ?ob11) ?hb11 (fun K hK => ?sb11) AllReadyH.nil
            case hb11 => simp only [List.getElem?_toArray, List.getElem?_cons_zero, List.getElem?_cons_succ]; rfl
            go_simp
            refine hK.out _ _ (s2) (fun hHeld => ?_)
            clear hK K
            try simp only [Act.put, List.setIfInBounds_toArray, List.set_cons_zero, List.set_cons_succ]
            refine wpAnyH_take (i := 18) (v := ?vb18) (oi := ?ob18) ?hb18 (by kernel_rfl) (by kernel_rfl) (by kernel_rfl) (fun _ _ _ h => h) (Or.inl ⟨?wb18, ?yb18⟩) hHeld ?rb18
            case hb18 => simp only [List.getElem?_toArray, List.getElem?_cons_zero, List.getElem?_cons_succ]; rfl
            case wb18 => rfl
            case yb18 => intro w hSw; (try dsimp only at hSw); go_simp; (try with_reducible rfl)
            simp only [Act.put, List.setIfInBounds_toArray, List.set_cons_zero, List.set_cons_succ]
            refine wpAnyH_take (i := 19) (v := ?vb19) (oi := ?ob19) ?hb19 (by kernel_rfl) (by kernel_rfl) (by kernel_rfl) (fun _ _ _ h => h) (Or.inl ⟨?wb19, ?yb19⟩) hHeld ?rb19
            case hb19 => simp only [List.getElem?_toArray, List.getElem?_cons_zero, List.getElem?_cons_succ]; rfl
            case wb19 => rfl
            case yb19 => intro w hSw; (try dsimp only at hSw); go_simp; (try with_reducible rfl)
            simp only [Act.put, List.setIfInBounds_toArray, List.set_cons_zero, List.set_cons_succ]
            refine wpAnyH_take (i := 20) (v := ?vb20) (oi := ?ob20) ?hb20 (by kernel_rfl) (by kernel_rfl) (by kernel_rfl) (fun _ _ _ h => h) (Or.inl ⟨?wb20, ?yb20⟩) hHeld ?rb20
            case hb20 => simp only [List.getElem?_toArray, List.getElem?_cons_zero, List.getElem?_cons_succ]; rfl
            case wb20 => rfl
            case yb20 => intro w hSw; (try dsimp only at hSw); go_simp; (try with_reducible rfl)
            simp only [Act.put, List.setIfInBounds_toArray, List.set_cons_zero, List.set_cons_succ]
            refine wpAnyH_take (i := 21) (v := ?vb21) (oi := ?ob21) ?hb21 (by kernel_rfl) (by kernel_rfl) (by kernel_rfl) (fun _ _ _ h => h) (Or.inl ⟨?wb21, ?yb21⟩) hHeld ?rb21
            case hb21 => simp only [List.getElem?_toArray, List.getElem?_cons_zero, List.getElem?_cons_succ]; rfl
            case wb21 => rfl
            case yb21 => intro w hSw; (try dsimp only at hSw); go_simp; (try with_reducible rfl)
            simp only [Act.put, List.setIfInBounds_toArray, List.set_cons_zero, List.set_cons_succ]
            refine wpAnyH_take (i := 23) (v := ?vb23) (oi := ?ob23) ?hb23 (by kernel_rfl) (by kernel_rfl) (by kernel_rfl) (fun _ _ _ h => h) (Or.inl ⟨?wb23, ?yb23⟩) hHeld ?rb23
            case hb23 => simp only [List.getElem?_toArray, List.getElem?_cons_zero, List.getElem?_cons_succ]; rfl
            case wb23 => rfl
            case yb23 => intro w hSw; (try dsimp only at hSw); go_simp; (try with_reducible rfl)
            simp only [Act.put, List.setIfInBounds_toArray, List.set_cons_zero, List.set_cons_succ]
            refine wpAnyH_take (i := 24) (v := ?vb24) (oi := ?ob24) ?hb24 (by kernel_rfl) (by kernel_rfl) (by kernel_rfl) (fun _ _ _ h => h) (Or.inl ⟨?wb24, ?yb24⟩) hHeld ?rb24
            case hb24 => simp only [List.getElem?_toArray, List.getElem?_cons_zero, List.getElem?_cons_succ]; rfl
            case wb24 => rfl
            case yb24 => intro w hSw; (try dsimp only at hSw); go_simp; (try with_reducible rfl)
            simp only [Act.put, List.setIfInBounds_toArray, List.set_cons_zero, List.set_cons_succ]
            refine wpAnyH_take (i := 25) (v := ?vb25) (oi := ?ob25) ?hb25 (by kernel_rfl) (by kernel_rfl) (by kernel_rfl) (fun _ _ _ h => h) (Or.inl ⟨?wb25, ?yb25⟩) hHeld ?rb25
            case hb25 => simp only [List.getElem?_toArray, List.getElem?_cons_zero, List.getElem?_cons_succ]; rfl
            case wb25 => rfl
            case yb25 => intro w hSw; (try dsimp only at hSw); go_simp; (try with_reducible rfl)
            simp only [Act.put, List.setIfInBounds_toArray, List.set_cons_zero, List.set_cons_succ]
            refine wpAnyH_take (i := 26) (v := ?vb26) (oi := ?ob26) ?hb26 (by kernel_rfl) (by kernel_rfl) (by kernel_rfl) (fun _ _ _ h => h) (Or.inl ⟨?wb26, ?yb26⟩) hHeld ?rb26
            case hb26 => simp only [List.getElem?_toArray, List.getElem?_cons_zero, List.getElem?_cons_succ]; rfl
            case wb26 => rfl
            case yb26 => intro w hSw; (try dsimp only at hSw); go_simp; (try with_reducible rfl)
            simp only [Act.put, List.setIfInBounds_toArray, List.set_cons_zero, List.set_cons_succ]
            refine wpAnyH_take (i := 27) (v := ?vb27) (oi := ?ob27) ?hb27 (by kernel_rfl) (by kernel_rfl) (by kernel_rfl) (fun _ _ _ h => h) (Or.inl ⟨?wb27, ?yb27⟩) hHeld ?rb27
            case hb27 => simp only [List.getElem?_toArray, List.getElem?_cons_zero, List.getElem?_cons_succ]; rfl
            case wb27 => rfl
            case yb27 => intro w hSw; (try dsimp only at hSw); go_simp; (try with_reducible rfl)
            simp only [Act.put, List.setIfInBounds_toArray, List.set_cons_zero, List.set_cons_succ]
            refine wpAnyH_ready (rs := [22]) (by kernel_rfl) (by simp) ?_
            refine AllReadyH.cons (o := ?ob22) ?hb22 (fun K hK => ?sb22) AllReadyH.nil
            case hb22 => simp only [List.getElem?_toArray, List.getElem?_cons_zero, List.getElem?_cons_succ]; rfl
            go_simp
            refine (rdshard_any d.o d.st d.sl d.gn ha.ho ha.hst ha.hsl ha.hgn j2.rd j2.old).mono ?_
            rintro e w3' ⟨rfl, hr3, hk3⟩
            have j3 := j2.next hr3 hk3
            have s3 := HCL.out _ j3.kp
            go_wp2_with fail
            refine hK.out _ _ (s3) (fun hHeld => ?_)
            clear hK K
            try simp only [Act.put, List.setIfInBounds_toArray, List.set_cons_zero, List.set_cons_succ]
            refine wpAnyH_take (i := 28) (v := ?vb28) (oi := ?ob28) ?hb28 (by kernel_rfl) (by kernel_rfl) (by kernel_rfl) (fun _ _ _ h => h) (Or.inl ⟨?wb28, ?yb28⟩) hHeld ?rb28
            case hb28 => simp only [List.getElem?_toArray, List.getElem?_cons_zero, List.getElem?_cons_succ]; rfl
            case wb28 => rfl
            case yb28 => intro w hSw; (try dsimp only at hSw); go_simp; (try with_reducible rfl)
            simp only [Act.put, List.setIfInBounds_toArray, List.set_cons_zero, List.set_cons_succ]
            refine wpAnyH_take (i := 29) (v := ?vb29) (oi := ?ob29) ?hb29 (by kernel_rfl) (by kernel_rfl) (by kernel_rfl) (fun _ _ _ h => h) (Or.inl ⟨?wb29, ?yb29⟩) hHeld ?rb29
            case hb29 => simp only [List.getElem?_toArray, List.getElem?_cons_zero, List.getElem?_cons_succ]; rfl
            case wb29 => rfl
            case yb29 => intro w hSw; (try dsimp only at hSw); go_simp; (try with_reducible rfl)
            simp only [Act.put, List.setIfInBounds_toArray, List.set_cons_zero, List.set_cons_succ]
            refine wpAnyH_take (i := 30) (v := ?vb30) (oi := ?ob30) ?hb30 (by kernel_rfl) (by kernel_rfl) (by kernel_rfl) (fun _ _ _ h => h) (Or.inl ⟨?wb30, ?yb30⟩) hHeld ?rb30
            case hb30 => simp only [List.getElem?_toArray, List.getElem?_cons_zero, List.getElem?_cons_succ]; rfl
            case wb30 => rfl
            case yb30 => intro w hSw; (try dsimp only at hSw); go_simp; (try with_reducible rfl)
            simp only [Act.put, List.setIfInBounds_toArray, List.set_cons_zero, List.set_cons_succ]
            refine wpAnyH_take (i := 31) (v := ?vb31) (oi := ?ob31) ?hb31 (by kernel_rfl) (by kernel_rfl) (by kernel_rfl) (fun _ _ _ h => h) (Or.inl ⟨?wb31, ?yb31⟩) hHeld ?rb31
            case hb31 => simp only [List.getElem?_toArray, List.getElem?_cons_zero, List.getElem?_cons_succ]; rfl
            case wb31 => rfl
            case yb31 => intro w hSw; (try dsimp only at hSw); go_simp; (try with_reducible rfl)
            simp only [Act.put, List.setIfInBounds_toArray, List.set_cons_zero, List.set_cons_succ]
            refine wpAnyH_take (i := 32) (v := ?vb32) (oi := ?ob32) ?hb32 (by kernel_rfl) (by kernel_rfl) (by kernel_rfl) (fun _ _ _ h => h) (Or.inl ⟨?wb32, ?yb32⟩) hHeld ?rb32
            case hb32 => simp only [List.getElem?_toArray, List.getElem?_cons_zero, List.getElem?_cons_succ]; rfl
            case wb32 => rfl
            case yb32 => intro w hSw; (try dsimp only at hSw); go_simp; (try with_reducible rfl)
            simp only [Act.put, List.setIfInBounds_toArray, List.set_cons_zero, List.set_cons_succ]
            refine wpAnyH_take (i := 33) (v := ?vb33) (oi := ?ob33) ?hb33 (by kernel_rfl) (by kernel_rfl) (by kernel_rfl) (fun _ _ _ h => h) (Or.inl ⟨?wb33, ?yb33⟩) hHeld ?rb33
            case hb33 => simp only [List.getElem?_toArray, List.getElem?_cons_zero, List.getElem?_cons_succ]; rfl
            case wb33 => rfl
            case yb33 => intro w hSw; (try dsimp only at hSw); go_simp; (try with_reducible rfl)
            simp only [Act.put, List.setIfInBounds_toArray, List.set_cons_zero, List.set_cons_succ]
            refine wpAnyH_take (i := 34) (v := ?vb34) (oi := ?ob34) ?hb34 (by kernel_rfl) (by kernel_rfl) (by kernel_rfl) (fun _ _ _ h => h) (Or.inl ⟨?wb34, ?yb34⟩) hHeld ?rb34
            case hb34 => simp only [List.getElem?_toArray, List.getElem?_cons_zero, List.getElem?_cons_succ]; rfl
            case wb34 => rfl
            case yb34 => intro w hSw; (try dsimp only at hSw); go_simp; (try with_reducible rfl)
            simp only [Act.put, List.setIfInBounds_toArray, List.set_cons_zero, List.set_cons_succ]
            refine wpAnyH_take (i := 35) (v := ?vb35) (oi := ?ob35) ?hb35 (by kernel_rfl) (by kernel_rfl) (by kernel_rfl) (fun _ _ _ h => h) (Or.inl ⟨?wb35, ?yb35⟩) hHeld ?rb35
            case hb35 => simp only [List.getElem?_toArray, List.getElem?_cons_zero, List.getElem?_cons_succ]; rfl
            case wb35 => rfl
            case yb35 => intro w hSw; (try dsimp only at hSw); go_simp; (try with_reducible rfl)
            simp only [Act.put, List.setIfInBounds_toArray, List.set_cons_zero, List.set_cons_succ]
            refine wpAnyH_take (i := 36) (v := ?vb36) (oi := ?ob36) ?hb36 (by kernel_rfl) (by kernel_rfl) (by kernel_rfl) (fun _ _ _ h => h) (Or.inl ⟨?wb36, ?yb36⟩) hHeld ?rb36
            case hb36 => simp only [List.getElem?_toArray, List.getElem?_cons_zero, List.getElem?_cons_succ]; rfl
            case wb36 => rfl
            case yb36 => intro w hSw; (try dsimp only at hSw); go_simp; (try with_reducible rfl)
            simp only [Act.put, List.setIfInBounds_toArray, List.set_cons_zero, List.set_cons_succ]
            refine wpAnyH_take (i := 37) (v := ?vb37) (oi := ?ob37) ?hb37 (by kernel_rfl) (by kernel_rfl) (by kernel_rfl) (fun _ _ _ h => h) (Or.inl ⟨?wb37, ?yb37⟩) hHeld ?rb37
            case hb37 => simp only [List.getElem?_toArray, List.getElem?_cons_zero, List.getElem?_cons_succ]; rfl
            case wb37 => rfl
            case yb37 => intro w hSw; (try dsimp only at hSw); go_simp; (try with_reducible rfl)
            simp only [Act.put, List.setIfInBounds_toArray, List.set_cons_zero, List.set_cons_succ]
            refine wpAnyH_take (i := 40) (v := ?vb40) (oi := ?ob40) ?hb40 (by kernel_rfl) (by kernel_rfl) (by kernel_rfl) (fun _ _ _ h => h) (Or.inl ⟨?wb40, ?yb40⟩) hHeld ?rb40
            case hb40 => simp only [List.getElem?_toArray, List.getElem?_cons_zero, List.getElem?_cons_succ]; rfl
            case wb40 => rfl
            case yb40 => intro w hSw; (try dsimp only at hSw); go_simp; (try with_reducible rfl)
            simp only [Act.put, List.setIfInBounds_toArray, List.set_cons_zero, List.set_cons_succ]
            refine wpAnyH_take (i := 41) (v := ?vb41) (oi := ?ob41) ?hb41 (by kernel_rfl) (by kernel_rfl) (by kernel_rfl) (fun _ _ _ h => h) (Or.inl ⟨?wb41, ?yb41⟩) hHeld ?rb41
            case hb41 => simp only [List.getElem?_toArray, List.getElem?_cons_zero, List.getElem?_cons_succ]; rfl
            case wb41 => rfl
            case yb41 => intro w hSw; (try dsimp only at hSw); go_simp; (try with_reducible rfl)
            simp only [Act.put, List.setIfInBounds_toArray, List.set_cons_zero, List.set_cons_succ]
            refine wpAnyH_take (i := 42) (v := ?vb42) (oi := ?ob42) ?hb42 (by kernel_rfl) (by kernel_rfl) (by kernel_rfl) (fun _ _ _ h => h) (Or.inl ⟨?wb42, ?yb42⟩) hHeld ?rb42
            case hb42 => simp only [List.getElem?_toArray, List.getElem?_cons_zero, List.getElem?_cons_succ]; rfl
            case wb42 => rfl
            case yb42 => intro w hSw; (try dsimp only at hSw); go_simp; (try with_reducible rfl)
            simp only [Act.put, List.setIfInBounds_toArray, List.set_cons_zero, List.set_cons_succ]
            refine wpAnyH_take (i := 43) (v := ?vb43) (oi := ?ob43) ?hb43 (by kernel_rfl) (by kernel_rfl) (by kernel_rfl) (fun _ _ _ h => h) (Or.inl ⟨?wb43, ?yb43⟩) hHeld ?rb43
            case hb43 => simp only [List.getElem?_toArray, List.getElem?_cons_zero, List.getElem?_cons_succ]; rfl
            case wb43 => rfl
            case yb43 => intro w hSw; (try dsimp only at hSw); go_simp; (try with_reducible rfl)
            simp only [Act.put, List.setIfInBounds_toArray, List.set_cons_zero, List.set_cons_succ]
            refine wpAnyH_take (i := 44) (v := ?vb44) (oi := ?ob44) ?hb44 (by kernel_rfl) (by kernel_rfl) (by kernel_rfl) (fun _ _ _ h => h) (Or.inl ⟨?wb44, ?yb44⟩) hHeld ?rb44
            case hb44 => simp only [List.getElem?_toArray, List.getElem?_cons_zero, List.getElem?_cons_succ]; rfl
            case wb44 => rfl
            case yb44 => intro w hSw; (try dsimp only at hSw); go_simp; (try with_reducible rfl)
            simp only [Act.put, List.setIfInBounds_toArray, List.set_cons_zero, List.set_cons_succ]
            refine wpAnyH_take (i := 45) (v := ?vb45) (oi := ?ob45) ?hb45 (by kernel_rfl) (by kernel_rfl) (by kernel_rfl) (fun _ _ _ h => h) (Or.inl ⟨?wb45, ?yb45⟩) hHeld ?rb45
            case hb45 => simp only [List.getElem?_toArray, List.getElem?_cons_zero, List.getElem?_cons_succ]; rfl
            case wb45 => rfl
            case yb45 => intro w hSw; (try dsimp only at hSw); go_simp; (try with_reducible rfl)
            simp only [Act.put, List.setIfInBounds_toArray, List.set_cons_zero, List.set_cons_succ]
            refine wpAnyH_ready (rs := [38]) (by kernel_rfl) (by simp) ?_
            refine AllReadyH.cons (o := ?ob38) ?hb38 (fun K hK => ?sb38) AllReadyH.nil
            case hb38 => simp only [List.getElem?_toArray, List.getElem?_cons_zero, List.getElem?_cons_succ]; rfl
            go_simp
            refine (rdraw_any j3.rd HML.out (by omega)).mono ?_
            rintro e w4' ⟨A5, m5, c5, rfl, ho5, hr4, hk4⟩
            have j4 := j3.next hr4 hk4
            have s4 := HCL.out _ j4.kp
            have cv4 := conv_bts ho5.bts
            go_wp2_with fail
            refine hK.out _ _ (s4) (fun hHeld => ?_)
            clear hK K
            try simp only [Act.put, List.setIfInBounds_toArray, List.set_cons_zero, List.set_cons_succ]
            refine wpAnyH_ready (rs := [39]) (by kernel_rfl) (by simp) ?_
            refine AllReadyH.cons (o := ?ob39) ?hb39 (fun K hK => ?sb39) AllReadyH.nil
            case hb39 => simp only [List.getElem?_toArray, List.getElem?_cons_zero, List.getElem?_cons_succ]; rfl
            go_simp
            refine hK.out _ _ (s4) (fun hHeld => ?_)
            clear hK K
            try simp only [Act.put, List.setIfInBounds_toArray, List.set_cons_zero, List.set_cons_succ]
            refine wpAnyH_take (i := 46) (v := ?vb46) (oi := ?ob46) ?hb46 (by kernel_rfl) (by kernel_rfl) (by kernel_rfl) (fun _ _ _ h => h) (Or.inl ⟨?wb46, ?yb46⟩) hHeld ?rb46
            case hb46 => simp only [List.getElem?_toArray, List.getElem?_cons_zero, List.getElem?_cons_succ]; rfl
            case wb46 => rfl
            case yb46 => intro w hSw; (try dsimp only at hSw); go_simp; (try with_reducible rfl)
            simp only [Act.put, List.setIfInBounds_toArray, List.set_cons_zero, List.set_cons_succ]
            refine wpAnyH_take (i := 47) (v := ?vb47) (oi := ?ob47) ?hb47 (by kernel_rfl) (by kernel_rfl) (by kernel_rfl) (fun _ _ _ h => h) (Or.inl ⟨?wb47, ?yb47⟩) hHeld ?rb47
            case hb47 => simp only [List.getElem?_toArray, List.getElem?_cons_zero, List.getElem?_cons_succ]; rfl
            case wb47 => rfl
            case yb47 => intro w hSw; (try dsimp only at hSw); go_simp; (try with_reducible rfl)
            simp only [Act.put, List.setIfInBounds_toArray, List.set_cons_zero, List.set_cons_succ]
            refine wpAnyH_done (by kernel_rfl) ?_ _
            refine NoPanic.normal ?_
            go_wp2
            go_round
            case rel => exact ⟨k' + 1, rs, by omega, by go_num, HRS.out, j4⟩
            case measure => simp [intOf]; omega
          · have hi : ¬ (k' : Int) < n := by omega
            have e : actsB (ds.drop k') = [] := by rw [List.drop_eq_nil_of_le (by have := HN.out; omega)]; rfl
            have hrest := HR.out
            rw [e] at hrest
            subst hrest
            clear HR e
            go_wp2_with fail
            refine (raw_any ((hJ.wr_.keep (Kp.alloc No wr _) fun _ _ _ f => f)) (bts_new2 wr) (by simp; omega)).mono ?_
            rintro e w1 hp
            obtain rfl := hp.1
            have r1 : RdAt w1 Fr gr [] := (hJ.rd.no (Kp.alloc No wr _)).keep hp.2.2 fun q hq hn => hJ.ap q hn hq
            have k1 : Kp No w w1 := (hJ.kp.trans' (Kp.alloc No wr _)).trans (hp.2.2.mono fun q hq => .inr (hJ.yw q hq))
            have wl := hp.2.1.lt
            have hsz1 : wr.heap.size ≤ w1.heap.size := by have := hp.2.2.size; simp only [World.size_alloc] at this; omega
            obtain ⟨b2, hb2⟩ : ∃ b2, b2 = bs ++ [5, 6] := ⟨_, rfl⟩
            have hb2l : b2.length ≤ 500000 := by rw [hb2]; simp; omega
            rw [← hb2] at wl
            have hold := hJ.old
            have HO := hide hold
            clear hold hp hJ hb2
            go_wp2_with fail
            refine (bytes_any wl (by omega)).mono ?_
            rintro e w2' ⟨A4, m4, c4, rfl, ho4, hk4⟩
            go_wp2_with fail
            refine (read_any ho4.bts (by omega)).mono ?_
            rintro e w3' ⟨gx, rfl, hx, hk5⟩
            go_wp2_with fail
            refine (rdrest_any hx (by omega)).mono ?_
            rintro e w4' ⟨A6, m6, c6, rfl, ho6, hx6, hk6⟩
            have hgx := hx.inF
            have wl4 := ((wl.keep hk4 fun _ _ _ f => f).keep hk5 fun _ _ _ f => f).keep hk6 fun q _ hq e => by have := hq.2; have := hk4.size; omega
            have r4 : RdAt w4' Fr gr [] := ((r1.no hk4).no hk5).keep hk6 fun q hq e => by have := HO.out q hq; have := hk4.size; omega
            have k4 : Kp No w w4' := ((k1.trans' hk4).trans' hk5).trans (hk6.mono fun q hq => .inr (by have := k1.size; have := hk4.size; omega))
            have ca := conv_bts ho6.bts
            have cad := conv_bts ho6.bts.drew
            clear hx ho4 r1 wl
            go_wp2_with fail
            refine wp_region_noPanic ?_
            refine wp_region_held_drew (S := fun w' => (convert 26 9 (.slice A6 m6 c6)).run Try.prog w' = .ok (.string (strOf b2)) w') (by kernel_rfl) (cad) (fun hHeld => ?_)
            refine wpAnyH_take (i := 0) (v := ?vc0) (oi := ?oc0) ?hc0 (by kernel_rfl) (by kernel_rfl) (by kernel_rfl) (fun _ _ _ h => h) (Or.inl ⟨?wc0, ?yc0⟩) hHeld ?rc0
            case hc0 => simp only [List.getElem?_toArray, List.getElem?_cons_zero, List.getElem?_cons_succ]; rfl
            case wc0 => rfl
            case yc0 => intro w hSw; (try dsimp only at hSw); go_simp; (try with_reducible rfl)
            simp only [Act.put, List.setIfInBounds_toArray, List.set_cons_zero, List.set_cons_succ]
            refine wpAnyH_ready (rs := [1]) (by kernel_rfl) (by simp) ?_
            refine AllReadyH.cons (o := ?oc1) ?hc1 (fun K hK => ?sc1) AllReadyH.nil
            case hc1 => simp only [List.getElem?_toArray, List.getElem?_cons_zero, List.getElem?_cons_succ]; rfl
            go_simp
            refine (rddone_any r4.drew).mono ?_
            rintro e wz ⟨rfl, rfl⟩
            go_wp2_with fail
            refine hK.out _ _ (cad) (fun hHeld => ?_)
            clear hK K
            try simp only [Act.put, List.setIfInBounds_toArray, List.set_cons_zero, List.set_cons_succ]
            refine wpAnyH_take (i := 2) (v := ?vc2) (oi := ?oc2) ?hc2 (by kernel_rfl) (by kernel_rfl) (by kernel_rfl) (fun _ _ _ h => h) (Or.inl ⟨?wc2, ?yc2⟩) hHeld ?rc2
            case hc2 => simp only [List.getElem?_toArray, List.getElem?_cons_zero, List.getElem?_cons_succ]; rfl
            case wc2 => rfl
            case yc2 => intro w hSw; (try dsimp only at hSw); go_simp; (try with_reducible rfl)
            simp only [Act.put, List.setIfInBounds_toArray, List.set_cons_zero, List.set_cons_succ]
            refine wpAnyH_take (i := 3) (v := ?vc3) (oi := ?oc3) ?hc3 (by kernel_rfl) (by kernel_rfl) (by kernel_rfl) (fun _ _ _ h => h) (Or.inl ⟨?wc3, ?yc3⟩) hHeld ?rc3
            case hc3 => simp only [List.getElem?_toArray, List.getElem?_cons_zero, List.getElem?_cons_succ]; rfl
            case wc3 => rfl
            case yc3 => intro w hSw; (try dsimp only at hSw); go_simp; (try with_reducible rfl)
            simp only [Act.put, List.setIfInBounds_toArray, List.set_cons_zero, List.set_cons_succ]
            refine wpAnyH_ready (rs := [4]) (by kernel_rfl) (by simp) ?_
            refine AllReadyH.cons (o := ?oc4) ?hc4 (fun K hK => ?sc4) AllReadyH.nil
            case hc4 => simp only [List.getElem?_toArray, List.getElem?_cons_zero, List.getElem?_cons_succ]; rfl
            go_simp
            refine (rddone_any hx6.drew).mono ?_
            rintro e wz ⟨rfl, rfl⟩
            go_wp2_with fail
            refine hK.out _ _ (cad) (fun hHeld => ?_)
            clear hK K
            try simp only [Act.put, List.setIfInBounds_toArray, List.set_cons_zero, List.set_cons_succ]
            refine wpAnyH_take (i := 5) (v := ?vc5) (oi := ?oc5) ?hc5 (by kernel_rfl) (by kernel_rfl) (by kernel_rfl) (fun _ _ _ h => h) (Or.inl ⟨?wc5, ?yc5⟩) hHeld ?rc5
            case hc5 => simp only [List.getElem?_toArray, List.getElem?_cons_zero, List.getElem?_cons_succ]; rfl
            case wc5 => rfl
            case yc5 => intro w hSw; (try dsimp only at hSw); go_simp; (try with_reducible rfl)
            simp only [Act.put, List.setIfInBounds_toArray, List.set_cons_zero, List.set_cons_succ]
            refine wpAnyH_take (i := 6) (v := ?vc6) (oi := ?oc6) ?hc6 (by kernel_rfl) (by kernel_rfl) (by kernel_rfl) (fun _ _ _ h => h) (Or.inl ⟨?wc6, ?yc6⟩) hHeld ?rc6
            case hc6 => simp only [List.getElem?_toArray, List.getElem?_cons_zero, List.getElem?_cons_succ]; rfl
            case wc6 => rfl
            case yc6 => intro w hSw; (try dsimp only at hSw); go_simp; (try with_reducible rfl)
            simp only [Act.put, List.setIfInBounds_toArray, List.set_cons_zero, List.set_cons_succ]
            refine wpAnyH_take (i := 7) (v := ?vc7) (oi := ?oc7) ?hc7 (by kernel_rfl) (by kernel_rfl) (by kernel_rfl) (fun _ _ _ h => h) (Or.inl ⟨?wc7, ?yc7⟩) hHeld ?rc7
            case hc7 => simp only [List.getElem?_toArray, List.getElem?_cons_zero, List.getElem?_cons_succ]; rfl
            case wc7 => rfl
            case yc7 => intro w hSw; (try dsimp only at hSw); go_simp; (try with_reducible rfl)
            simp only [Act.put, List.setIfInBounds_toArray, List.set_cons_zero, List.set_cons_succ]
            refine wpAnyH_take (i := 8) (v := ?vc8) (oi := ?oc8) ?hc8 (by kernel_rfl) (by kernel_rfl) (by kernel_rfl) (fun _ _ _ h => h) (Or.inl ⟨?wc8, ?yc8⟩) hHeld ?rc8
            case hc8 => simp only [List.getElem?_toArray, List.getElem?_cons_zero, List.getElem?_cons_succ]; rfl
            case wc8 => rfl
            case yc8 => intro w hSw; (try dsimp only at hSw); go_simp; (try with_reducible rfl)
            simp only [Act.put, List.setIfInBounds_toArray, List.set_cons_zero, List.set_cons_succ]
            refine wpAnyH_take (i := 9) (v := ?vc9) (oi := ?oc9) ?hc9 (by kernel_rfl) (by kernel_rfl) (by kernel_rfl) (fun _ _ _ h => h) (Or.inl ⟨?wc9, ?yc9⟩) hHeld ?rc9
            case hc9 => simp only [List.getElem?_toArray, List.getElem?_cons_zero, List.getElem?_cons_succ]; rfl
            case wc9 => rfl
            case yc9 => intro w hSw; (try dsimp only at hSw); go_simp; (try with_reducible rfl)
            simp only [Act.put, List.setIfInBounds_toArray, List.set_cons_zero, List.set_cons_succ]
            refine wpAnyH_ready (rs := [10]) (by kernel_rfl) (by simp) ?_
            refine AllReadyH.cons (o := ?oc10) ?hc10 (fun K hK => ?sc10) AllReadyH.nil
            case hc10 => simp only [List.getElem?_toArray, List.getElem?_cons_zero, List.getElem?_cons_succ]; rfl
            go_simp
            refine (bytes_any wl4.drew (by omega)).mono ?_
            rintro e w7 ⟨A7, m7, c7, rfl, ho7, hk7⟩
            have cv7 := conv_bts ho7.bts
            have ca7 := conv_bts (ho6.bts.drew.no hk7)
            go_wp2_with fail
            refine hK.out _ _ (ca7) (fun hHeld => ?_)
            clear hK K
            try simp only [Act.put, List.setIfInBounds_toArray, List.set_cons_zero, List.set_cons_succ]
            refine wpAnyH_ready (rs := [11]) (by kernel_rfl) (by simp) ?_
            refine AllReadyH.cons (o := ?oc11) ?hc11 (fun K hK => ?sc11) AllReadyH.nil
            case hc11 => simp only [List.getElem?_toArray, List.getElem?_cons_zero, List.getElem?_cons_succ]; rfl
            go_simp
            refine hK.out _ _ (ca7) (fun hHeld => ?_)
            clear hK K
            try simp only [Act.put, List.setIfInBounds_toArray, List.set_cons_zero, List.set_cons_succ]
            refine wpAnyH_take (i := 12) (v := ?vc12) (oi := ?oc12) ?hc12 (by kernel_rfl) (by kernel_rfl) (by kernel_rfl) (fun _ _ _ h => h) (Or.inl ⟨?wc12, ?yc12⟩) hHeld ?rc12
            case hc12 => simp only [List.getElem?_toArray, List.getElem?_cons_zero, List.getElem?_cons_succ]; rfl
            case wc12 => rfl
            case yc12 => intro w hSw; (try dsimp only at hSw); go_simp; (try with_reducible rfl)
            simp only [Act.put, List.setIfInBounds_toArray, List.set_cons_zero, List.set_cons_succ]
            refine wpAnyH_take (i := 13) (v := ?vc13) (oi := ?oc13) ?hc13 (by kernel_rfl) (by kernel_rfl) (by kernel_rfl) (fun _ _ _ h => h) (Or.inl ⟨?wc13, ?yc13⟩) hHeld ?rc13
            case hc13 => simp only [List.getElem?_toArray, List.getElem?_cons_zero, List.getElem?_cons_succ]; rfl
            case wc13 => rfl
            case yc13 => intro w hSw; (try dsimp only at hSw); go_simp; (try with_reducible rfl)
            simp only [Act.put, List.setIfInBounds_toArray, List.set_cons_zero, List.set_cons_succ]
            refine wpAnyH_take (i := 14) (v := ?vc14) (oi := ?oc14) ?hc14 (by kernel_rfl) (by kernel_rfl) (by kernel_rfl) (fun _ _ _ h => h) (Or.inl ⟨?wc14, ?yc14⟩) hHeld ?rc14
            case hc14 => simp only [List.getElem?_toArray, List.getElem?_cons_zero, List.getElem?_cons_succ]; rfl
            case wc14 => rfl
            case yc14 => intro w hSw; (try dsimp only at hSw); go_simp; (try with_reducible rfl)
            simp only [Act.put, List.setIfInBounds_toArray, List.set_cons_zero, List.set_cons_succ]
            refine wpAnyH_ready (rs := [15]) (by kernel_rfl) (by simp) ?_
            refine AllReadyH.cons (o := ?oc15) ?hc15 (fun K hK => ?sc15) AllReadyH.nil
            case hc15 => simp only [List.getElem?_toArray, List.getElem?_cons_zero, List.getElem?_cons_succ]; rfl
            go_simp
            refine (awake_any _).mono ?_
            rintro e w8 ⟨rfl, hk8⟩
            have ca8 := conv_bts ((ho6.bts.drew.no hk7).no hk8)
            go_wp2_with fail
            refine hK.out _ _ (ca8) (fun hHeld => ?_)
            clear hK K
            try simp only [Act.put, List.setIfInBounds_toArray, List.set_cons_zero, List.set_cons_succ]
            refine wpAnyH_take (i := 16) (v := ?vc16) (oi := ?oc16) ?hc16 (by kernel_rfl) (by kernel_rfl) (by kernel_rfl) (fun _ _ _ h => h) (Or.inl ⟨?wc16, ?yc16⟩) hHeld ?rc16
            case hc16 => simp only [List.getElem?_toArray, List.getElem?_cons_zero, List.getElem?_cons_succ]; rfl
            case wc16 => rfl
            case yc16 => intro w hSw; (try dsimp only at hSw); go_simp; (try with_reducible rfl)
            simp only [Act.put, List.setIfInBounds_toArray, List.set_cons_zero, List.set_cons_succ]
            refine wpAnyH_take (i := 17) (v := ?vc17) (oi := ?oc17) ?hc17 (by kernel_rfl) (by kernel_rfl) (by kernel_rfl) (fun _ _ _ h => h) (Or.inl ⟨?wc17, ?yc17⟩) hHeld ?rc17
            case hc17 => simp only [List.getElem?_toArray, List.getElem?_cons_zero, List.getElem?_cons_succ]; rfl
            case wc17 => rfl
            case yc17 => intro w hSw; (try dsimp only at hSw); go_simp; (try with_reducible rfl)
            simp only [Act.put, List.setIfInBounds_toArray, List.set_cons_zero, List.set_cons_succ]
            refine wpAnyH_done (by kernel_rfl) ?_ _
            refine NoPanic.normal ?_
            go_wp2
            go_ret
            exact ⟨rfl, ((k4.drew.trans' hk7).trans' hk8).below0⟩
end Go.Proofs.Ytnifafacoglkoaa
