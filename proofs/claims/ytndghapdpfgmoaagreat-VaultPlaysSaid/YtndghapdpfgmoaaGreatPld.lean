/- Sync and Crash of package platter's disk, each as a contract over memory; no condition. -/
import Derived.Test.YtndghapdpfgmoaaGreatPlc
namespace Go.Proofs.YtndghapdpfgmoaaGreat
open Go.RowKit
set_option linter.unusedVariables false
set_option maxRecDepth 20000
set_option linter.unusedSimpArgs false

theorem Ap.rest {cv lv : List Value} {v : Value} (h : Ap cv (v :: lv)) : Ap cv lv :=
  ⟨h.cc, fun i j u u' b hi hj hu hu' => by
    have := h.ll (i + 1) (j + 1) u u' b (by simpa using hi) (by simpa using hj) hu hu'
    omega, fun u hu u' hu' => h.cl u hu u' (by simp [hu'])⟩
theorem ap_do {cv : List Value} {lv : List (Nat × Value)} (h : Ap cv (lv.map Prod.snd)) : Ap (doG cv lv) [] := by
  induction lv generalizing cv with
  | nil => exact h.cells
  | cons p t ih =>
    rw [doG_cons]
    exact ih (h.step p.1)
theorem Ap.take {cv lv : List Value} (h : Ap cv lv) (k : Nat) : Ap cv (lv.take k) := by
  have key : ∀ {i : Nat} {u : Value}, (lv.take k)[i]? = some u → lv[i]? = some u := fun {i u} hi => by
    rw [List.getElem?_take] at hi
    split at hi
    · exact hi
    · cases hi
  exact ⟨h.cc, fun i j u v b hi hj => h.ll i j u v b (key hi) (key hj), fun u hu v hv => h.cl u hu v (List.mem_of_mem_take hv)⟩

section
variable {w w1 w2 : World} {F : Nat → Prop} {g gc n c k m cl : Nat} {A : Option Addr} {D : Dk} {vc vl v : Value} {cs cs' : List (Value × List UInt8)} {ls : List (Nat × (Value × List UInt8))} {b : List UInt8}
/-- The rows behind so many loose writes that are done. -/
theorem DkR.dos (h : DkR w F g D (.slice (some ⟨gc, 0, none⟩) n c) vl cs ls) (hI : DoI w gc D.cells.length c (cs.map Prod.fst) ((mp Prod.fst ls).take k) ((mp Prod.fst ls).take k).length w1) :
    OwnT w1 0 47 1 (.slice (some ⟨gc, 0, none⟩) D.cells.length c) D.cells.length ((doG cs (ls.take k)).map Prod.fst) ∧ (∀ p ∈ doG cs (ls.take k), Own w 0 5 p.1 p.2 ∧ Own w1 0 5 p.1 p.2 ∧ ∀ q, p.1.ownBlock = some q → F q) ∧ Ap ((doG cs (ls.take k)).map Prod.fst) [] ∧ D.don k = (doG cs (ls.take k)).map Prod.snd := by
  have e1 : (doG cs (ls.take k)).map Prod.fst = doG (cs.map Prod.fst) ((mp Prod.fst ls).take k) := by rw [doG_map, mp_take]
  refine ⟨?_, fun p hp => ?_, ?_, ?_⟩
  · have := hI.own
    rw [List.take_of_length_le (Nat.le_refl _)] at this
    rw [e1]; exact this
  · have hw : Own w 0 5 p.1 p.2 ∧ ∀ q, p.1.ownBlock = some q → F q := by
      rcases doG_mem hp with hp | ⟨q, hq, rfl⟩
      · exact ⟨h.rc p hp, h.fr p hp⟩
      · exact ⟨h.rl q (List.mem_of_mem_take hq), h.fs q (List.mem_of_mem_take hq)⟩
    exact ⟨hw.1, hw.1.keep hI.kp fun q hq e => by subst e; exact h.oc.offB hw.1 (by decide) hq, hw.2⟩
  · rw [e1]
    refine ap_do ?_
    have : ((mp Prod.fst ls).take k).map Prod.snd = (ls.map fun p => p.2.1).take k := by unfold mp; rw [List.map_take, List.map_map]; rfl
    rw [this]
    exact h.ap.take k
  · unfold Dk.don
    rw [doG_map, mp_take, h.dc, h.dl]
/-- A disk without loose writes, behind a Sync or a Crash. -/
theorem DkR.fin (h : DkR w F g D (.slice (some ⟨gc, 0, none⟩) n c) vl cs ls) (hk : Kp (fun q => q = gc) w w1) (hoc : OwnT w1 0 47 1 (.slice (some ⟨gc, 0, none⟩) n c) cs'.length (cs'.map Prod.fst)) (hrc : ∀ p ∈ cs', Own w1 0 5 p.1 p.2) (hap : Ap (cs'.map Prod.fst) [])
    (hfr : ∀ p ∈ cs', ∀ q, p.1.ownBlock = some q → Up F w q) (hks : Kp (fun q => q = g) w1 w2) {s : Nat} (hblk : w2.heap[g]? = some (.cells #[.slice (some ⟨gc, 0, none⟩) n c, .int .i64 (D.size : Int), .slice none 0 0, .int .i64 (s : Int)] 63 (0, 0))) {l' : List (List UInt8)} (hl' : l' = cs'.map Prod.snd) (hok : (Dk.mk D.size l' [] s).Ok) :
    DkAt w2 (Up F w) g ⟨D.size, l', [], s⟩ ∧ Kp F w w2 := by
  have hb1 : w1.heap[g]? = some (.cells #[.slice (some ⟨gc, 0, none⟩) n c, .int .i64 (D.size : Int), vl, .int .i64 (D.syncs : Int)] 63 (0, 0)) := (hk.block g h.glt fun e => by subst e; exact h.oc.not_at h.blk (by decide) rfl).trans h.blk
  refine ⟨⟨_, .slice none 0 0, cs', [], ⟨hblk, hoc.keep hks fun q hq e => by subst e; exact hoc.not_at hb1 (by decide) hq, OwnT.nil _ _ _ _, fun p hp => (hrc p hp).keep hks fun q hq e => by subst e; exact own_ne_at (hrc p hp) hb1 (by decide) hq, (fun p hp => by simp at hp), hap, hl', rfl, .inl h.fg, fun q hq => .inl (h.fc q hq), (fun q hq => by cases hq), hfr, (fun p hp => by simp at hp), hok⟩⟩, ?_⟩
  exact (hk.mono fun q e => h.fc q (by rw [e]; rfl)).trans (hks.mono fun q e => .inl (by rw [e]; exact h.fg))
theorem DkR.pairs (h : DkR w F g D vc vl cs ls) : ∀ p ∈ mp Prod.fst ls, p.1 < D.cells.length ∧ ∃ A' m' c', p.2 = .slice A' m' c' := fun p hp => by
  obtain ⟨q, hq, rfl⟩ := List.mem_map.1 hp
  refine ⟨?_, (h.rl q hq).form⟩
  have := h.ok.ll (q.1, q.2.2) (by rw [h.dl]; exact List.mem_map.2 ⟨q, hq, rfl⟩)
  exact this.1
theorem DkR.lsr (h : DkR w F g D vc (.slice A m cl) cs ls) : LsR w A m (mp Prod.fst ls) := OwnT.lsR (c := cl) (e := 102) (base := 0) (by rw [mp_len]; exact h.ol)
theorem DkR.apart (h : DkR w F g D (.slice (some ⟨gc, 0, none⟩) n c) (.slice A m cl) cs ls) : ∀ a, A = some a → a.block ≠ gc := fun a ha e => by
  subst ha
  exact h.oc.off h.ol (by decide) (by rw [← e]; rfl)
end
theorem LsR.take {w : World} {A : Option Addr} {n k : Nat} {lv : List (Nat × Value)} (h : LsR w A n lv) (hk : k ≤ n) : LsR w A k (lv.take k) :=
  ⟨by rw [List.length_take, ← h.len]; omega, fun j p hj => by
    rw [List.getElem?_take] at hj
    split at hj
    · exact h.at_ j p hj
    · cases hj⟩

section
variable {w : World} {F : Nat → Prop} {g : Nat} {D : Dk}
theorem psync_nil (w : World) : Calls Tryz.prog 29 #[.pointer none] w fun e w1 => e = .returned (.int .i64 3) ∧ w = w1 := by
  go_enter Tryz.func29, Tryz.ntmps29
  go_wp2
  go_ret
  exact ⟨rfl, rfl⟩
set_option maxHeartbeats 2000000 in
theorem psync_any (h : DkAt w F g D) (hL : D.loose.length ≤ 1000000) (hs : D.syncs + 1 ≤ 1000000000) : Calls Tryz.prog 29 #[.pointer (some ⟨g, 0, none⟩)] w (DkPost w F g D.sync (.int .i64 0)) := by
  obtain ⟨vc, vl, cs, ls, h⟩ := h
  obtain ⟨gc, c, rfl, hc, hg⟩ := h.vc_
  obtain ⟨A, cl, rfl, hcl, hA⟩ := h.vl_
  clear hA
  have x0 := h.c0
  have x2 := h.c2
  have ho := h.oc
  rw [h.ncs] at ho
  have hdo := pdo_any (cl := cl) x0 (Ne.symm hg) ho h.lsr h.apart h.pairs hL
  have HH := hide h
  have HG := hide hg
  clear h hg
  go_enter Tryz.func29, Tryz.ntmps29
  go_wp2_with fail
  refine hdo.mono ?_
  rintro e w1 ⟨rfl, hI⟩
  have hb1 : w1.heap[g]? = some (.cells #[.slice (some ⟨gc, 0, none⟩) D.cells.length c, .int .i64 (D.size : Int), .slice A D.loose.length cl, .int .i64 (D.syncs : Int)] 63 (0, 0)) := (hI.kp.block g HH.out.glt fun e => HG.out e.symm).trans HH.out.blk
  have y2 : w1.cell? ⟨g, 2, none⟩ = some (.slice A D.loose.length cl) := by rw [cell_of_row w1 g 2 _ _ _ hb1]; rfl
  have y3 : w1.cell? ⟨g, 3, none⟩ = some (.int .i64 (D.syncs : Int)) := by rw [cell_of_row w1 g 3 _ _ _ hb1]; rfl
  have f2 : w1.frozen? ⟨g, 2, none⟩ = false := frozen_of_row w1 g 2 _ _ hb1
  have f3 : w1.frozen? ⟨g, 3, none⟩ = false := frozen_of_row w1 g 3 _ _ hb1
  have HB1 := hide hb1
  have HI := hide hI
  clear hb1 hI x0 x2 ho hdo
  go_wp2_with fail
  go_ret
  have hI2 : DoI w gc D.cells.length c (cs.map Prod.fst) ((mp Prod.fst ls).take D.loose.length) ((mp Prod.fst ls).take D.loose.length).length w1 := by
    have := HI.out
    rw [List.take_of_length_le (by rw [mp_len, HH.out.nls]; exact Nat.le_refl _)]
    exact this
  obtain ⟨h1, h2, h3, h4⟩ := HH.out.dos hI2
  have hlen : (doG cs (ls.take D.loose.length)).length = D.cells.length := by rw [doG_len, HH.out.ncs]
  have hs1 := heap_setCell_same w1 g 2 _ 63 (.slice none 0 0) HB1.out
  have hs2 := heap_setCell_same _ g 3 _ 63 (.int .i64 ((D.syncs : Int) + 1)) hs1
  have hfin := HH.out.fin (cs' := doG cs (ls.take D.loose.length)) (s := D.syncs + 1) HI.out.kp (by rw [hlen]; exact h1) (fun p hp => (h2 p hp).2.1) h3 (fun p hp q hq => .inl ((h2 p hp).2.2 q hq))
    ((Kp.setCell (p := ⟨g, 2, none⟩) (S := fun q => q = g) rfl (.slice none 0 0)).trans' (Kp.setCell (p := ⟨g, 3, none⟩) (S := fun q => q = g) rfl (.int .i64 ((D.syncs : Int) + 1)))) hs2 (l' := D.don D.loose.length) h4 HH.out.ok.sync
  exact ⟨rfl, hfin.1, hfin.2⟩

theorem size_writes (w : World) : (sizeOf (Tryz.prog.elem 61)).run Tryz.prog w = .ok 2 w := by
  obtain ⟨⟨i0, hi0, hz0, hz1, hz2⟩, _⟩ := ty_write
  have he : Tryz.prog.elem 61 = 102 := by kernel_rfl
  have hc : Tryz.prog.cellsOf 102 = 2 := by kernel_rfl
  rw [he]
  simp [run_sizeOf, hi0, hz1, hc]
theorem elem_writes : Tryz.prog.underlying 61 = some (.slice (Tryz.prog.elem 61)) := by
  have he : Tryz.prog.elem 61 = 102 := by kernel_rfl
  rw [he]; exact Tryz.underlying61
/-- l[k:] of loose writes. -/
theorem slice_wl (A : Option Addr) {L cl k r rc : Nat} (hk : k ≤ L) (hcl : L ≤ cl) (hr : r = L - k) (hrc : rc = cl - k) :
    ∃ A', (∀ w', (Instr.slice 61 (.slice A L cl) (some (.int .i64 (k : Int))) none none).run Tryz.prog w' = .ok (.slice A' r rc) w') ∧ ∀ gl, k < L → A = some ⟨gl, 0, none⟩ → A' = some ⟨gl, k * 2, none⟩ := by
  subst hr hrc
  refine ⟨if cl = k then A else A.map (·.add (k * 2)), fun w' => ?_, fun gl h e => ?_⟩
  · rw [run_slice_l w' _ _ _ _ elem_writes .i64 _ (by omega) (by omega), size_writes]
    simp only [Result.andThen, sliced, Int.toNat_natCast]
  · subst e
    rw [if_neg (by omega), Option.map_some, add_none, Nat.zero_add]
/-- l[:k] of loose writes. -/
theorem slice_wu (A : Option Addr) {L cl k : Nat} (hk : k ≤ L) (hcl : L ≤ cl) (w' : World) : (Instr.slice 61 (.slice A L cl) none (some (.int .i64 (k : Int))) none).run Tryz.prog w' = .ok (.slice A k cl) w' := by
  rw [run_slice_h w' _ _ _ _ elem_writes .i64 _ (by omega) (by omega), size_writes]
  simp only [Result.andThen, sliced, Int.toNat_natCast, Nat.zero_mul, Nat.sub_zero]
  congr 2
  split
  · rfl
  · rcases A with _ | a
    · rfl
    · simp [Addr.add]

theorem pcrash_nil (w : World) (z y : Int) : Calls Tryz.prog 31 #[.pointer none, .int .i64 z, .int .i64 y] w fun e w1 => e = .returned (.int .i64 0) ∧ w = w1 := by
  go_enter Tryz.func31, Tryz.ntmps31
  go_wp2
  go_ret
  exact ⟨rfl, rfl⟩
set_option maxHeartbeats 4000000 in
theorem pcrash_any (h : DkAt w F g D) (hL : D.loose.length ≤ 1000000) (z y : Int) : Calls Tryz.prog 31 #[.pointer (some ⟨g, 0, none⟩), .int .i64 z, .int .i64 y] w (DkPost w F g (D.crash z y) (.int .i64 (D.lost z : Int))) := by
  obtain ⟨k, hk⟩ : ∃ k, k = clm z D.loose.length := ⟨_, rfl⟩
  have hkL : k ≤ D.loose.length := hk ▸ clm_le _ _
  obtain ⟨r, hr⟩ : ∃ r, r = D.loose.length - k := ⟨_, rfl⟩
  have hC : D.crash z y = ⟨D.size, D.torn k y, [], D.syncs⟩ := by rw [hk]; rfl
  have hLo : D.lost z = r := by rw [hr, hk]; rfl
  have hokc := h.ok.crash z y
  rw [hC] at hokc
  rw [hC, hLo]
  have HK := hide hk
  have HOK := hide hokc
  have HR := hide hr
  clear hk hC hLo hokc
  obtain ⟨vc, vl, cs, ls, h⟩ := h
  obtain ⟨gc, c, rfl, hc, hg⟩ := h.vc_
  obtain ⟨A, cl, rfl, hcl, hA⟩ := h.vl_
  clear hA
  have x0 := h.c0
  have x2 := h.c2
  have ho := h.oc
  rw [h.ncs] at ho
  have hdo := pdo_any (cl := cl) x0 (Ne.symm hg) ho (h.lsr.take hkL) h.apart (fun p hp => h.pairs p (List.mem_of_mem_take hp)) (by omega)
  obtain ⟨rc, hrc⟩ : ∃ rc, rc = cl - k := ⟨_, rfl⟩
  obtain ⟨A2, sl, hA2⟩ := slice_wl A hkL hcl hr hrc
  have su := slice_wu A hkL hcl
  have HH := hide h
  have HG := hide hg
  clear hr hrc hg ho
  by_cases hlt : k < D.loose.length
  · obtain ⟨gl, q, A', m', c', bs, rfl, hp, hls, y0, y1, hob, hqn, hbl⟩ := h.lw rfl hlt
    obtain rfl := hA2 gl hlt rfl
    have hr0 : 0 < r := by have := HR.out; omega
    have HP := hide hp
    have HA := hide (h.apart _ rfl)
    clear hA2 h hp hls
    go_enter Tryz.func31, Tryz.ntmps31
    go_wp2_with fail
    refine (within_any _ z D.loose.length hL).mono ?_
    rintro e w0 ⟨rfl, rfl⟩
    rw [← HK.out]
    go_wp2_with fail
    refine hdo.mono ?_
    rintro e w1 ⟨rfl, hI⟩
    obtain ⟨h1, h2, h3, h4⟩ := HH.out.dos hI
    have hlen : (doG cs (ls.take k)).length = D.cells.length := by rw [doG_len, HH.out.ncs]
    obtain ⟨p3, hp3⟩ : ∃ p, (doG cs (ls.take k))[q]? = some p := ⟨_, List.getElem?_eq_getElem (by omega)⟩
    obtain ⟨hw3, hw31, _⟩ := h2 p3 (List.mem_of_getElem? hp3)
    obtain ⟨A3, m3, c3, e3⟩ := hw31.form
    have hhad : (D.don k).getD q [] = p3.2 := by rw [h4, List.getD_eq_getElem?_getD, List.getElem?_map, hp3]; rfl
    have hm3 : p3.2.length ≤ D.size := HH.out.ok.don k p3.2 (by rw [h4]; exact List.mem_map.2 ⟨p3, List.mem_of_getElem? hp3, rfl⟩)
    rw [e3] at hw31
    have hm3l := hw31.len
    have hml := hob.len
    have hs1 := HH.out.ok.s1
    have hob1 : Own w1 0 5 (.slice A' m' c') bs := hob.keep hI.kp fun b hb e => by subst e; exact HH.out.oc.offB hob (by decide) hb
    have htear := ptear_any (hI.kp.cell x0 fun e => HG.out e.symm) (fun e => HG.out e.symm) h1 hqn (by rw [List.getElem?_map, hp3, ← e3]; rfl) hw31.bts hw31.cap hob1.bts hob1.cap (by omega) (by omega) y
    have z0 := hI.kp.cell y0 HA.out
    have z1 := hI.kp.cell y1 HA.out
    have HI := hide hI
    have H1 := hide h1
    have H2 := hide h2
    have H3 := hide h3
    have H4 := hide h4
    have HHAD := hide hhad
    have HLEN := hide hlen
    have HML := hide hml
    have HTEAR := hide htear
    clear hI h1 h2 h3 h4 hhad hlen hml hp3 hw3 hw31 e3 hm3 hm3l hs1 hob hob1 htear y0 y1 x0 x2 hdo
    go_wp2_with fail
    refine HTEAR.out.mono ?_
    rintro e w2 ⟨rfl, v, g1, g2, g3, g4⟩
    have K2 : Kp (fun b => b = gc) w w2 := HI.out.kp.trans' g4
    have hb2 : w2.heap[g]? = some (.cells #[.slice (some ⟨gc, 0, none⟩) D.cells.length c, .int .i64 (D.size : Int), .slice (some ⟨gl, 0, none⟩) D.loose.length cl, .int .i64 (D.syncs : Int)] 63 (0, 0)) := (K2.block g HH.out.glt fun e => HG.out e.symm).trans HH.out.blk
    have f2 : w2.frozen? ⟨g, 2, none⟩ = false := frozen_of_row w2 g 2 _ _ hb2
    have x2 : w2.cell? ⟨g, 2, none⟩ = some (.slice (some ⟨gl, 0, none⟩) D.loose.length cl) := by rw [cell_of_row w2 g 2 _ _ _ hb2]; rfl
    have hs2 := hide (heap_setCell_same w2 g 2 _ 63 (.slice none 0 0) hb2)
    have hfin := HH.out.fin (w2 := w2.setCell ⟨g, 2, none⟩ (.slice none 0 0)) (cs' := (doG cs (ls.take k)).set q (v, tornB bs p3.2 (clm y m'))) (s := D.syncs) (l' := D.torn k y) K2
      (by rw [List.length_set, HLEN.out, List.map_set]; exact g1)
      (fun p hp => by
        rcases mem_set hp with hp | rfl
        · exact (H2.out p hp).2.1.keep g4 fun b hb e => by subst e; exact H1.out.offB (H2.out p hp).2.1 (by decide) hb
        · exact g2)
      (by
        rw [List.map_set]
        refine H3.out.set q (fun u hu b hb hb' => ?_) (fun u hu => by simp at hu)
        obtain ⟨p, hp, rfl⟩ := List.mem_map.1 hu
        have := (H2.out p hp).2.1.lt b hb
        have := g3 b hb'
        omega)
      (fun p hp b hb => by
        rcases mem_set hp with hp | rfl
        · exact .inl ((H2.out p hp).2.2 b hb)
        · exact .inr (Nat.le_trans HI.out.kp.size (g3 b hb)))
      (Kp.setCell (p := ⟨g, 2, none⟩) (S := fun b => b = g) rfl (.slice none 0 0)) hs2.out
      (by
        unfold Dk.torn
        rw [HP.out]
        simp only
        rw [HHAD.out, H4.out, List.map_set, HML.out]) HOK.out
    have HFIN := hide hfin
    clear hfin hb2 K2 g1 g2 g3 g4
    go_wp2_with fail
    go_ret
    exact ⟨rfl, HFIN.out.1, HFIN.out.2⟩
  · have hr0 : r = 0 := by have := HR.out; omega
    subst hr0
    have hpn : D.loose[k]? = none := List.getElem?_eq_none (by omega)
    have HP := hide hpn
    clear hA2 h hpn
    go_enter Tryz.func31, Tryz.ntmps31
    go_wp2_with fail
    refine (within_any _ z D.loose.length hL).mono ?_
    rintro e w0 ⟨rfl, rfl⟩
    rw [← HK.out]
    go_wp2_with fail
    refine hdo.mono ?_
    rintro e w1 ⟨rfl, hI⟩
    obtain ⟨h1, h2, h3, h4⟩ := HH.out.dos hI
    have hlen : (doG cs (ls.take k)).length = D.cells.length := by rw [doG_len, HH.out.ncs]
    have hb2 : w1.heap[g]? = some (.cells #[.slice (some ⟨gc, 0, none⟩) D.cells.length c, .int .i64 (D.size : Int), .slice A D.loose.length cl, .int .i64 (D.syncs : Int)] 63 (0, 0)) := (hI.kp.block g HH.out.glt fun e => HG.out e.symm).trans HH.out.blk
    have f2 : w1.frozen? ⟨g, 2, none⟩ = false := frozen_of_row w1 g 2 _ _ hb2
    have y2 : w1.cell? ⟨g, 2, none⟩ = some (.slice A D.loose.length cl) := by rw [cell_of_row w1 g 2 _ _ _ hb2]; rfl
    have hs2 := hide (heap_setCell_same w1 g 2 _ 63 (.slice none 0 0) hb2)
    have hfin := HH.out.fin (w2 := w1.setCell ⟨g, 2, none⟩ (.slice none 0 0)) (cs' := doG cs (ls.take k)) (s := D.syncs) (l' := D.torn k y) hI.kp
      (by rw [hlen]; exact h1) (fun p hp => (h2 p hp).2.1) h3 (fun p hp b hb => .inl ((h2 p hp).2.2 b hb))
      (Kp.setCell (p := ⟨g, 2, none⟩) (S := fun b => b = g) rfl (.slice none 0 0)) hs2.out
      (by
        unfold Dk.torn
        rw [HP.out]
        exact h4) HOK.out
    have HFIN := hide hfin
    clear hfin hb2 h1 h2 h3 h4 hI hlen x0 x2 hdo
    go_wp2_with fail
    go_ret
    exact ⟨rfl, HFIN.out.1, HFIN.out.2⟩
end
end Go.Proofs.YtndghapdpfgmoaaGreat
