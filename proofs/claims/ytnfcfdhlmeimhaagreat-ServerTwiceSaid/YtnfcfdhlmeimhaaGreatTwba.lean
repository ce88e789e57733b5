/- Sync and Crash of package platter's disk, each as a contract over memory; no condition. -/
import Derived.Test.YtnfcfdhlmeimhaaGreatTwaz
namespace Go.Proofs.YtnfcfdhlmeimhaaGreat
open Go.RowKit
set_option linter.unusedVariables false
set_option maxRecDepth 20000
set_option linter.unusedSimpArgs false

theorem ap_do {cv : List Value} {lv : List (Nat × Value)} (h : Ap cv (lv.map Prod.snd)) : Ap (doG cv lv) [] := by
  induction lv generalizing cv with
  | nil => exact h.cells
  | cons p t ih =>
    rw [doG_cons]
    exact ih (h.step p.1)
theorem Ap.take {cv lv : List Value} (h : Ap cv lv) (k : Nat) : Ap cv (lv.take k) := by
  have key : ∀ {i : Nat} {u : Value}, (lv.take k)[i]? = some u → lv[i]? = some u := fun {i u} hi => by
    rw [List.getElem?_take] at hi
    split at hi
    · exact hi
    · cases hi
  exact ⟨h.cc, fun i j u v b hi hj => h.ll i j u v b (key hi) (key hj), fun u hu v hv => h.cl u hu v (List.mem_of_mem_take hv)⟩

section
variable {w w1 w2 : World} {F : Nat → Prop} {g gc n c k m cl : Nat} {A : Option Addr} {D : Dk} {vc vl v : Value} {cs cs' : List (Value × List UInt8)} {ls : List (Nat × (Value × List UInt8))} {b : List UInt8}
/-- The rows behind so many loose writes that are done. -/
theorem DkR.dos (h : DkR w F g D (.slice (some ⟨gc, 0, none⟩) n c) vl cs ls) (hI : DoI w gc D.cells.length c (cs.map Prod.fst) ((mp Prod.fst ls).take k) ((mp Prod.fst ls).take k).length w1) :
    OwnT w1 0 54 1 (.slice (some ⟨gc, 0, none⟩) D.cells.length c) D.cells.length ((doG cs (ls.take k)).map Prod.fst) ∧ (∀ p ∈ doG cs (ls.take k), Own w 0 5 p.1 p.2 ∧ Own w1 0 5 p.1 p.2 ∧ ∀ q, p.1.ownBlock = some q → F q) ∧ Ap ((doG cs (ls.take k)).map Prod.fst) [] ∧ D.don k = (doG cs (ls.take k)).map Prod.snd := by
  have e1 : (doG cs (ls.take k)).map Prod.fst = doG (cs.map Prod.fst) ((mp Prod.fst ls).take k) := by rw [doG_map, mp_take]
  refine ⟨?_, fun p hp => ?_, ?_, ?_⟩
  · have := hI.own
    rw [List.take_of_length_le (Nat.le_refl _)] at this
    rw [e1]; exact this
  · have hw : Own w 0 5 p.1 p.2 ∧ ∀ q, p.1.ownBlock = some q → F q := by
      rcases doG_mem hp with hp | ⟨q, hq, rfl⟩
      · exact ⟨h.rc p hp, h.fr p hp⟩
      · exact ⟨h.rl q (List.mem_of_mem_take hq), h.fs q (List.mem_of_mem_take hq)⟩
    exact ⟨hw.1, hw.1.keep hI.kp fun q hq e => by subst e; exact h.oc.offB hw.1 (by decide) hq, hw.2⟩
  · rw [e1]
    refine ap_do ?_
    have : ((mp Prod.fst ls).take k).map Prod.snd = (ls.map fun p => p.2.1).take k := by unfold mp; rw [List.map_take, List.map_map]; rfl
    rw [this]
    exact h.ap.take k
  · unfold Dk.don
    rw [doG_map, mp_take, h.dc, h.dl]
/-- A disk without loose writes, behind a Sync or a Crash. -/
theorem DkR.fin (h : DkR w F g D (.slice (some ⟨gc, 0, none⟩) n c) vl cs ls) (hk : Kp (fun q => q = gc) w w1) (hoc : OwnT w1 0 54 1 (.slice (some ⟨gc, 0, none⟩) n c) cs'.length (cs'.map Prod.fst)) (hrc : ∀ p ∈ cs', Own w1 0 5 p.1 p.2) (hap : Ap (cs'.map Prod.fst) [])
    (hfr : ∀ p ∈ cs', ∀ q, p.1.ownBlock = some q → Up F w q) (hks : Kp (fun q => q = g) w1 w2) {s : Nat} (hblk : w2.heap[g]? = some (.cells #[.slice (some ⟨gc, 0, none⟩) n c, .int .i64 (D.size : Int), .slice none 0 0, .int .i64 (s : Int)] 92 (0, 0))) {l' : List (List UInt8)} (hl' : l' = cs'.map Prod.snd) (hok : (Dk.mk D.size l' [] s).Ok) :
    DkAt w2 (Up F w) g ⟨D.size, l', [], s⟩ ∧ Kp F w w2 := by
  have hb1 : w1.heap[g]? = some (.cells #[.slice (some ⟨gc, 0, none⟩) n c, .int .i64 (D.size : Int), vl, .int .i64 (D.syncs : Int)] 92 (0, 0)) := (hk.block g h.glt fun e => by subst e; exact h.oc.not_at h.blk (by decide) rfl).trans h.blk
  refine ⟨⟨_, .slice none 0 0, cs', [], ⟨hblk, hoc.keep hks fun q hq e => by subst e; exact hoc.not_at hb1 (by decide) hq, OwnT.nil _ _ _ _, fun p hp => (hrc p hp).keep hks fun q hq e => by subst e; exact own_ne_at (hrc p hp) hb1 (by decide) hq, (fun p hp => by simp at hp), hap, hl', rfl, .inl h.fg, fun q hq => .inl (h.fc q hq), (fun q hq => by cases hq), hfr, (fun p hp => by simp at hp), hok⟩⟩, ?_⟩
  exact (hk.mono fun q e => h.fc q (by rw [e]; rfl)).trans (hks.mono fun q e => .inl (by rw [e]; exact h.fg))
theorem DkR.pairs (h : DkR w F g D vc vl cs ls) : ∀ p ∈ mp Prod.fst ls, p.1 < D.cells.length ∧ ∃ A' m' c', p.2 = .slice A' m' c' := fun p hp => by
  obtain ⟨q, hq, rfl⟩ := List.mem_map.1 hp
  refine ⟨?_, (h.rl q hq).form⟩
  have := h.ok.ll (q.1, q.2.2) (by rw [h.dl]; exact List.mem_map.2 ⟨q, hq, rfl⟩)
  exact this.1
theorem DkR.lsr (h : DkR w F g D vc (.slice A m cl) cs ls) : LsR w A m (mp Prod.fst ls) := OwnT.lsR (c := cl) (e := 153) (base := 0) (by rw [mp_len]; exact h.ol)
theorem DkR.apart (h : DkR w F g D (.slice (some ⟨gc, 0, none⟩) n c) (.slice A m cl) cs ls) : ∀ a, A = some a → a.block ≠ gc := fun a ha e => by
  subst ha
  exact h.oc.off h.ol (by decide) (by rw [← e]; rfl)
end
section
variable {w : World} {F : Nat → Prop} {g : Nat} {D : Dk}
set_option maxHeartbeats 2000000 in
theorem psync_any (h : DkAt w F g D) (hL : D.loose.length ≤ 1000000) (hs : D.syncs + 1 ≤ 1000000000) : Calls Tryz.prog 143 #[.pointer (some ⟨g, 0, none⟩)] w (DkPost w F g D.sync (.int .i64 0)) := by
  obtain ⟨vc, vl, cs, ls, h⟩ := h
  obtain ⟨gc, c, rfl, hc, hg⟩ := h.vc_
  obtain ⟨A, cl, rfl, hcl, hA⟩ := h.vl_
  clear hA
  have x0 := h.c0
  have x2 := h.c2
  have ho := h.oc
  rw [h.ncs] at ho
  have hdo := pdo_any (cl := cl) x0 (Ne.symm hg) ho h.lsr h.apart h.pairs hL
  have HH := hide h
  have HG := hide hg
  clear h hg
  go_enter Tryz.func143, Tryz.ntmps143
  go_wp2_with fail
  refine hdo.mono ?_
  rintro e w1 ⟨rfl, hI⟩
  have hb1 : w1.heap[g]? = some (.cells #[.slice (some ⟨gc, 0, none⟩) D.cells.length c, .int .i64 (D.size : Int), .slice A D.loose.length cl, .int .i64 (D.syncs : Int)] 92 (0, 0)) := (hI.kp.block g HH.out.glt fun e => HG.out e.symm).trans HH.out.blk
  have y2 : w1.cell? ⟨g, 2, none⟩ = some (.slice A D.loose.length cl) := by rw [cell_of_row w1 g 2 _ _ _ hb1]; rfl
  have y3 : w1.cell? ⟨g, 3, none⟩ = some (.int .i64 (D.syncs : Int)) := by rw [cell_of_row w1 g 3 _ _ _ hb1]; rfl
  have f2 : w1.frozen? ⟨g, 2, none⟩ = false := frozen_of_row w1 g 2 _ _ hb1
  have f3 : w1.frozen? ⟨g, 3, none⟩ = false := frozen_of_row w1 g 3 _ _ hb1
  have HB1 := hide hb1
  have HI := hide hI
  clear hb1 hI x0 x2 ho hdo
  go_wp2_with fail
  go_ret
  have hI2 : DoI w gc D.cells.length c (cs.map Prod.fst) ((mp Prod.fst ls).take D.loose.length) ((mp Prod.fst ls).take D.loose.length).length w1 := by
    have := HI.out
    rw [List.take_of_length_le (by rw [mp_len, HH.out.nls]; exact Nat.le_refl _)]
    exact this
  obtain ⟨h1, h2, h3, h4⟩ := HH.out.dos hI2
  have hlen : (doG cs (ls.take D.loose.length)).length = D.cells.length := by rw [doG_len, HH.out.ncs]
  have hs1 := heap_setCell_same w1 g 2 _ 92 (.slice none 0 0) HB1.out
  have hs2 := heap_setCell_same _ g 3 _ 92 (.int .i64 ((D.syncs : Int) + 1)) hs1
  have hfin := HH.out.fin (cs' := doG cs (ls.take D.loose.length)) (s := D.syncs + 1) HI.out.kp (by rw [hlen]; exact h1) (fun p hp => (h2 p hp).2.1) h3 (fun p hp q hq => .inl ((h2 p hp).2.2 q hq))
    ((Kp.setCell (p := ⟨g, 2, none⟩) (S := fun q => q = g) rfl (.slice none 0 0)).trans' (Kp.setCell (p := ⟨g, 3, none⟩) (S := fun q => q = g) rfl (.int .i64 ((D.syncs : Int) + 1)))) hs2 (l' := D.don D.loose.length) h4 HH.out.ok.sync
  exact ⟨rfl, hfin.1, hfin.2⟩

end
end Go.Proofs.YtnfcfdhlmeimhaaGreat
