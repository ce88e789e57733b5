/- A disk of package platter in memory; New, has, Len, Loose, each as a contract. No condition. -/
import Derived.Test.YtnfcfdhlmeimhaaGreatTwag
import Derived.Test.YtnfcfdhlmeimhaaGreatTwaj
import Derived.Deep.QuietTactic
import Derived.BigQuiet
namespace Go.Proofs.YtnfcfdhlmeimhaaGreat
open Go.RowKit
set_option linter.unusedVariables false
set_option maxRecDepth 20000
set_option linter.unusedSimpArgs false

/-- A cell of what was just made. -/
theorem cell_new (w : World) (cs : Array Value) (t : TypeId) {j s : Nat} {v : Value} (h : cs[j]? = some v) (hs : s = w.heap.size) : (w.alloc (.cells cs t)).cell? ⟨s, j, none⟩ = some v := by
  subst hs
  rw [World.cell?_alloc_mark]
  exact h
/-- Numbers and slices side by side, as cells. -/
def lsC (lv : List (Nat × Value)) : List Value := lv.flatMap fun p => [.int .i64 (p.1 : Int), p.2]
theorem lsC_snoc (lv : List (Nat × Value)) (p : Nat × Value) : lsC (lv ++ [p]) = lsC lv ++ [.int .i64 (p.1 : Int), p.2] := by simp [lsC]
theorem lsC_get {lv : List (Nat × Value)} {j : Nat} {p : Nat × Value} (h : lv[j]? = some p) : (lsC lv)[j * 2]? = some (.int .i64 (p.1 : Int)) ∧ (lsC lv)[j * 2 + 1]? = some p.2 := by
  induction lv generalizing j with
  | nil => simp at h
  | cons q t ih =>
    have e : lsC (q :: t) = [.int .i64 (q.1 : Int), q.2] ++ lsC t := rfl
    rw [e]
    match j, h with
    | 0, h =>
      simp at h
      subst h
      exact ⟨rfl, rfl⟩
    | j + 1, h =>
      have h' := ih (j := j) (by simpa using h)
      have l2 : ([.int .i64 (q.1 : Int), q.2] : List Value).length = 2 := rfl
      refine ⟨?_, ?_⟩
      · rw [List.getElem?_append_right (by rw [l2]; omega), l2, show (j + 1) * 2 - 2 = j * 2 by omega]; exact h'.1
      · rw [List.getElem?_append_right (by rw [l2]; omega), l2, show (j + 1) * 2 + 1 - 2 = j * 2 + 1 by omega]; exact h'.2
/-- A slice that reads as numbers and slices side by side. -/
structure LsR (w : World) (A : Option Addr) (n : Nat) (lv : List (Nat × Value)) : Prop where
  len : n = lv.length
  at_ : ∀ (j : Nat) p, lv[j]? = some p → ∃ B off, A = some ⟨B, off, none⟩ ∧ w.cell? ⟨B, off + j * 2, none⟩ = some (.int .i64 (p.1 : Int)) ∧ w.cell? ⟨B, off + j * 2 + 1, none⟩ = some p.2
theorem OwnT.lsR {w : World} {base c m : Nat} {e : TypeId} {A : Option Addr} {lv : List (Nat × Value)} (h : OwnT w base e 2 (.slice A m c) lv.length (lsC lv)) : LsR w A m lv :=
  ⟨h.len, fun j p hp => by
    obtain ⟨h1, h2⟩ := lsC_get hp
    obtain ⟨g, rfl, _, _, _, c1⟩ := h.cell h1
    obtain ⟨g', e', _, _, _, c2⟩ := h.cell h2
    injection e' with e'
    injection e' with e'
    subst e'
    exact ⟨g, 0, rfl, by rw [Nat.zero_add]; exact c1, by rw [Nat.zero_add]; exact c2⟩⟩
theorem LsR.keep {w w1 : World} {S : Nat → Prop} {A : Option Addr} {n : Nat} {lv : List (Nat × Value)} (h : LsR w A n lv) (hk : Kp S w w1) (hS : ∀ a, A = some a → ¬ S a.block) : LsR w1 A n lv :=
  ⟨h.len, fun j p hp => by
    obtain ⟨B, off, rfl, c1, c2⟩ := h.at_ j p hp
    exact ⟨B, off, rfl, hk.cell c1 (hS ⟨B, off, none⟩ rfl), hk.cell c2 (hS ⟨B, off, none⟩ rfl)⟩⟩
/-- The slices cv, and those of lv, lie each in a block of its own. -/
structure Ap (cv lv : List Value) : Prop where
  cc : ∀ (i j : Nat) u v b, cv[i]? = some u → cv[j]? = some v → u.ownBlock = some b → v.ownBlock = some b → i = j
  ll : ∀ (i j : Nat) u v b, lv[i]? = some u → lv[j]? = some v → u.ownBlock = some b → v.ownBlock = some b → i = j
  cl : ∀ u ∈ cv, ∀ v ∈ lv, ∀ b, u.ownBlock = some b → v.ownBlock ≠ some b
section
variable {cv lv : List Value} {v : Value}
theorem Ap.cells (h : Ap cv lv) : Ap cv [] := ⟨h.cc, (fun i j u v b hi => by simp at hi), (fun u _ v hv => by simp at hv)⟩
theorem Ap.set (h : Ap cv lv) (i : Nat) (hc : ∀ u ∈ cv, ∀ b, u.ownBlock = some b → v.ownBlock ≠ some b) (hl : ∀ u ∈ lv, ∀ b, u.ownBlock = some b → v.ownBlock ≠ some b) : Ap (cv.set i v) lv := by
  refine ⟨fun p q u u' b hp hq hu hu' => ?_, h.ll, fun u hu u' hu' b e e' => ?_⟩
  · rw [List.getElem?_set] at hp hq
    split at hp <;> split at hq
    · omega
    · split at hp
      · injection hp with hp
        subst hp
        exact absurd hu (hc u' (List.mem_of_getElem? hq) b hu')
      · cases hp
    · split at hq
      · injection hq with hq
        subst hq
        exact absurd hu' (hc u (List.mem_of_getElem? hp) b hu)
      · cases hq
    · exact h.cc p q u u' b hp hq hu hu'
  · rcases mem_set hu with hu | rfl
    · exact h.cl u hu u' hu' b e e'
    · exact hl u' hu' b e' e
/-- The first of lv is put to a place. -/
theorem Ap.step (h : Ap cv (v :: lv)) (i : Nat) : Ap (cv.set i v) lv := by
  have h' : Ap cv lv := ⟨h.cc, fun i j u u' b hi hj hu hu' => by
    have := h.ll (i + 1) (j + 1) u u' b (by simpa using hi) (by simpa using hj) hu hu'
    omega, fun u hu u' hu' => h.cl u hu u' (by simp [hu'])⟩
  refine h'.set i (fun u hu b e => h.cl u hu v (by simp) b e) fun u hu b e e' => ?_
  obtain ⟨j, hj⟩ := List.getElem?_of_mem hu
  have := h.ll 0 (j + 1) v u b rfl (by simpa using hj) e' e
  omega
theorem Ap.snoc (h : Ap cv lv) (hc : ∀ u ∈ cv, ∀ b, u.ownBlock = some b → v.ownBlock ≠ some b) (hl : ∀ u ∈ lv, ∀ b, u.ownBlock = some b → v.ownBlock ≠ some b) : Ap cv (lv ++ [v]) := by
  refine ⟨h.cc, fun p q u u' b hp hq hu hu' => ?_, fun u hu u' hu' b e => ?_⟩
  · rw [List.getElem?_append] at hp hq
    split at hp <;> split at hq
    · exact h.ll p q u u' b hp hq hu hu'
    · have := List.mem_of_getElem? hq
      rw [List.mem_singleton] at this
      subst this
      exact absurd hu' (hl u (List.mem_of_getElem? hp) b hu)
    · have := List.mem_of_getElem? hp
      rw [List.mem_singleton] at this
      subst this
      exact absurd hu (hl u' (List.mem_of_getElem? hq) b hu')
    · have h1 := (List.getElem?_eq_some_iff.1 hp).1
      have h2 := (List.getElem?_eq_some_iff.1 hq).1
      simp only [List.length_cons, List.length_nil] at h1 h2
      omega
  · rcases List.mem_append.1 hu' with hu' | hu'
    · exact h.cl u hu u' hu' b e
    · rw [List.mem_singleton] at hu'
      subst hu'
      exact hc u hu b e
end
theorem ap_nils (n : Nat) : Ap (List.replicate n (.slice none 0 0)) [] :=
  ⟨(fun i j u v b hi hj hu => by
    have := List.eq_of_mem_replicate (List.mem_of_getElem? hi)
    subst this
    cases hu), (fun i j u v b hi => by simp at hi), (fun u _ v hv => by simp at hv)⟩

/-- At block g lies a disk D: its cells' row and its loose writes' row, and the slices that they hold; all that is its own lies in F. -/
structure DkR (w : World) (F : Nat → Prop) (g : Nat) (D : Dk) (vc vl : Value) (cs : List (Value × List UInt8)) (ls : List (Nat × (Value × List UInt8))) : Prop where
  blk : w.heap[g]? = some (.cells #[vc, .int .i64 (D.size : Int), vl, .int .i64 (D.syncs : Int)] 92 (0, 0))
  oc : OwnT w 0 54 1 vc cs.length (cs.map Prod.fst)
  ol : OwnT w 0 153 2 vl ls.length (lsC (mp Prod.fst ls))
  rc : ∀ p ∈ cs, Own w 0 5 p.1 p.2
  rl : ∀ p ∈ ls, Own w 0 5 p.2.1 p.2.2
  ap : Ap (cs.map Prod.fst) (ls.map fun p => p.2.1)
  dc : D.cells = cs.map Prod.snd
  dl : D.loose = mp Prod.snd ls
  fg : F g
  fc : ∀ k, vc.ownBlock = some k → F k
  fl : ∀ k, vl.ownBlock = some k → F k
  fr : ∀ p ∈ cs, ∀ k, p.1.ownBlock = some k → F k
  fs : ∀ p ∈ ls, ∀ k, p.2.1.ownBlock = some k → F k
  ok : D.Ok
def DkAt (w : World) (F : Nat → Prop) (g : Nat) (D : Dk) : Prop := ∃ vc vl cs ls, DkR w F g D vc vl cs ls

section
variable {w w1 : World} {F S T : Nat → Prop} {g : Nat} {D : Dk} {vc vl : Value} {cs : List (Value × List UInt8)} {ls : List (Nat × (Value × List UInt8))}
theorem DkR.mono (h : DkR w F g D vc vl cs ls) (hF : ∀ k, F k → T k) : DkR w T g D vc vl cs ls :=
  ⟨h.blk, h.oc, h.ol, h.rc, h.rl, h.ap, h.dc, h.dl, hF _ h.fg, fun k hk => hF _ (h.fc k hk), fun k hk => hF _ (h.fl k hk), fun p hp k hk => hF _ (h.fr p hp k hk), fun p hp k hk => hF _ (h.fs p hp k hk), h.ok⟩
theorem DkR.glt (h : DkR w F g D vc vl cs ls) : g < w.heap.size := (Array.getElem?_eq_some_iff.1 h.blk).1
theorem DkR.lt (h : DkR w F g D vc vl cs ls) : DkR w (fun k => F k ∧ k < w.heap.size) g D vc vl cs ls :=
  ⟨h.blk, h.oc, h.ol, h.rc, h.rl, h.ap, h.dc, h.dl, ⟨h.fg, h.glt⟩, fun k hk => ⟨h.fc k hk, h.oc.lt k hk⟩, fun k hk => ⟨h.fl k hk, h.ol.lt k hk⟩, fun p hp k hk => ⟨h.fr p hp k hk, (h.rc p hp).lt k hk⟩, fun p hp k hk => ⟨h.fs p hp k hk, (h.rl p hp).lt k hk⟩, h.ok⟩
theorem DkR.keep (h : DkR w F g D vc vl cs ls) (hk : Kp S w w1) (hS : ∀ k, k < w.heap.size → F k → ¬ S k) : DkR w1 F g D vc vl cs ls := by
  have hl := h.lt
  have key : ∀ k, (F k ∧ k < w.heap.size) → ¬ S k := fun k hk => hS k hk.2 hk.1
  exact ⟨(hk.block g hl.fg.2 (key _ hl.fg)).trans h.blk, h.oc.keep hk fun k hk => key k (hl.fc k hk), h.ol.keep hk fun k hk => key k (hl.fl k hk), fun p hp => (h.rc p hp).keep hk fun k hk => key k (hl.fr p hp k hk), fun p hp => (h.rl p hp).keep hk fun k hk => key k (hl.fs p hp k hk), h.ap, h.dc, h.dl, h.fg, h.fc, h.fl, h.fr, h.fs, h.ok⟩
theorem DkR.no (h : DkR w F g D vc vl cs ls) (hk : Kp No w w1) : DkR w1 F g D vc vl cs ls := h.keep hk fun _ _ _ f => f
theorem DkAt.mono (h : DkAt w F g D) (hF : ∀ k, F k → T k) : DkAt w T g D := by
  obtain ⟨vc, vl, cs, ls, h⟩ := h
  exact ⟨vc, vl, cs, ls, h.mono hF⟩
theorem DkAt.lt (h : DkAt w F g D) : DkAt w (fun k => F k ∧ k < w.heap.size) g D := by
  obtain ⟨vc, vl, cs, ls, h⟩ := h
  exact ⟨vc, vl, cs, ls, h.lt⟩
theorem DkAt.keep (h : DkAt w F g D) (hk : Kp S w w1) (hS : ∀ k, k < w.heap.size → F k → ¬ S k) : DkAt w1 F g D := by
  obtain ⟨vc, vl, cs, ls, h⟩ := h
  exact ⟨vc, vl, cs, ls, h.keep hk hS⟩
theorem DkAt.no (h : DkAt w F g D) (hk : Kp No w w1) : DkAt w1 F g D := h.keep hk fun _ _ _ f => f
theorem DkAt.ok (h : DkAt w F g D) : D.Ok := by
  obtain ⟨vc, vl, cs, ls, h⟩ := h
  exact h.ok
theorem DkR.ncs (h : DkR w F g D vc vl cs ls) : cs.length = D.cells.length := by rw [h.dc, List.length_map]
theorem DkR.nls (h : DkR w F g D vc vl cs ls) : ls.length = D.loose.length := by rw [h.dl, mp_len]
/-- The disk's four cells, and where its cells' row lies. -/
theorem DkR.c0 (h : DkR w F g D vc vl cs ls) : w.cell? ⟨g, 0, none⟩ = some vc := by rw [cell_of_row w g 0 _ _ _ h.blk]; rfl
theorem DkR.c1 (h : DkR w F g D vc vl cs ls) : w.cell? ⟨g, 1, none⟩ = some (.int .i64 (D.size : Int)) := by rw [cell_of_row w g 1 _ _ _ h.blk]; rfl
theorem DkR.c2 (h : DkR w F g D vc vl cs ls) : w.cell? ⟨g, 2, none⟩ = some vl := by rw [cell_of_row w g 2 _ _ _ h.blk]; rfl
theorem DkR.vc_ (h : DkR w F g D vc vl cs ls) : ∃ gc c, vc = .slice (some ⟨gc, 0, none⟩) D.cells.length c ∧ D.cells.length ≤ c ∧ gc ≠ g := by
  have hn := h.ok.n0
  have hcs := h.ncs
  obtain ⟨A, c, e⟩ := h.oc.form
  have ho := h.oc
  rw [e] at ho
  obtain ⟨gc, e1, _⟩ := ho.some_ (by omega)
  subst e1
  have := ho.cap
  refine ⟨gc, c, by rw [e, hcs], by omega, fun e2 => ?_⟩
  subst e2
  exact ho.not_at h.blk (by decide) rfl
theorem DkR.vl_ (h : DkR w F g D vc vl cs ls) : ∃ A c, vl = .slice A D.loose.length c ∧ D.loose.length ≤ c ∧ ∀ a, A = some a → a.block ≠ g ∧ a.off = 0 := by
  obtain ⟨A, c, e⟩ := h.ol.form
  have ho := h.ol
  rw [e] at ho
  refine ⟨A, c, by rw [e, h.nls], ?_, fun a ha => ?_⟩
  · rw [← h.nls]
    rcases ho.2 with ⟨e1, e2⟩ | ⟨g', cap, cur, e1, _, _, h1, _⟩
    · omega
    · injection e1 with _ _ e3
      omega
  · subst ha
    refine ⟨fun e2 => ?_, ?_⟩
    · exact ho.not_at h.blk (by decide) (by rw [← e2]; rfl)
    · rcases ho.2 with ⟨e1, e2⟩ | ⟨g', cap, cur, e1, _⟩
      · cases e1
      · injection e1 with e1
        injection e1 with e1
        rw [e1]
/-- One of the cells. -/
theorem DkR.cell (h : DkR w F g D vc vl cs ls) {gc c n : Nat} (hv : vc = .slice (some ⟨gc, 0, none⟩) n c) {k : Nat} (hk : k < D.cells.length) : ∃ A' m c' , cs[k]? = some (.slice A' m c', D.cell k) ∧ w.cell? ⟨gc, k, none⟩ = some (.slice A' m c') ∧ Own w 0 5 (.slice A' m c') (D.cell k) ∧ m = (D.cell k).length := by
  subst hv
  have hcs := h.ncs
  have hp : cs[k]? = some cs[k] := List.getElem?_eq_getElem (by omega)
  have ho := h.rc _ (List.mem_of_getElem? hp)
  obtain ⟨A', m, c', e⟩ := ho.form
  have hd : D.cell k = cs[k].2 := by
    unfold Dk.cell
    rw [h.dc, List.getD_eq_getElem?_getD, List.getElem?_map, hp]
    rfl
  have hc : w.cell? ⟨gc, k, none⟩ = some cs[k].1 := h.oc.cellAt (by rw [List.getElem?_map, hp]; rfl)
  rw [e] at ho hc
  rw [hd]
  exact ⟨A', m, c', by rw [hp, ← e], hc, ho, ho.len⟩
end

/-- What New returns. -/
def PnPost (w : World) (n s : Nat) (e : Ending) (w1 : World) : Prop := ∃ g, e = .returned (.tuple #[.pointer (some ⟨g, 0, none⟩), .int .i64 0]) ∧ w.heap.size ≤ g ∧ DkAt w1 (fun k => w.heap.size ≤ k) g (Dk.new n s) ∧ Kp No w w1
theorem pnew_yes (w : World) (n s : Nat) (h1 : 1 ≤ n) (h2 : n ≤ 1024) (h3 : 1 ≤ s) (h4 : s ≤ 4096) : Calls Tryz.prog 9 #[.int .i64 (n : Int), .int .i64 (s : Int)] w (PnPost w n s) := by
  have hmk := make_slcs w n (n : Int) rfl (by omega)
  have ho := ownT_slcs w 0 n (Nat.zero_le _) (by omega)
  have HO := hide ho
  clear ho
  go_enter Tryz.func9, Tryz.ntmps9
  go_wp2
  go_ret2
  refine ⟨w.heap.size + 1, rfl, by omega, ⟨.slice (some ⟨w.heap.size, 0, none⟩) n n, .slice none 0 0, List.replicate n (.slice none 0 0, []), [], ⟨?_, ?_, OwnT.nil _ _ _ _, (fun p hp => ?_), (fun p hp => by simp at hp), ?_, ?_, rfl, by omega, (fun k hk => ?_), (fun k hk => by cases hk), (fun p hp k hk => ?_), (fun p hp => by simp at hp), Dk.new_ok h1 h2 h3 h4⟩⟩, ((Kp.refl No w).al _).al _⟩
  · have e : (w.alloc (.cells (zsl n) 54)).heap.size = w.heap.size + 1 := by simp
    rw [← e]
    exact heap_alloc_new _ _
  · have := HO.out.no (Kp.alloc No _ (.cells #[.slice (some ⟨w.heap.size, 0, none⟩) n n, .int .i64 (s : Int), .slice none 0 0, .int .i64 0] 92))
    simpa using this
  · obtain rfl := List.eq_of_mem_replicate hp
    exact Own.nil _ _ _
  · simpa using ap_nils n
  · simp [Dk.new]
  · have hk2 : w.heap.size = k := Option.some.inj hk
    show w.heap.size ≤ k
    omega
  · obtain rfl := List.eq_of_mem_replicate hp
    cases hk

section
variable {w : World} {F : Nat → Prop} {g : Nat} {D : Dk}
theorem has_in (h : DkAt w F g D) (z : Int) (hz : D.In z) : Calls Tryz.prog 36 #[.pointer (some ⟨g, 0, none⟩), .int .i64 z] w fun e w1 => e = .returned (.bool true) ∧ w = w1 := by
  obtain ⟨vc, vl, cs, ls, h⟩ := h
  obtain ⟨gc, c, rfl, hc, hg⟩ := h.vc_
  have x0 := h.c0
  obtain ⟨z0, z1⟩ := hz
  go_enter Tryz.func36, Tryz.ntmps36
  go_wp2
  go_ret
  exact ⟨rfl, rfl⟩
theorem has_out (h : DkAt w F g D) (z : Int) (hz : ¬ D.In z) : Calls Tryz.prog 36 #[.pointer (some ⟨g, 0, none⟩), .int .i64 z] w fun e w1 => e = .returned (.bool false) ∧ w = w1 := by
  obtain ⟨vc, vl, cs, ls, h⟩ := h
  obtain ⟨gc, c, rfl, hc, hg⟩ := h.vc_
  have x0 := h.c0
  by_cases z0 : 0 ≤ z
  · have z1 : ¬ z < D.cells.length := fun g => hz ⟨z0, g⟩
    clear hz
    go_enter Tryz.func36, Tryz.ntmps36
    go_wp2
    go_ret
    exact ⟨rfl, rfl⟩
  · clear hz
    go_enter Tryz.func36, Tryz.ntmps36
    go_wp2
    go_ret
    exact ⟨rfl, rfl⟩
theorem plen_any (h : DkAt w F g D) : Calls Tryz.prog 79 #[.pointer (some ⟨g, 0, none⟩)] w fun e w1 => e = .returned (.tuple #[.int .i64 (D.cells.length : Int), .int .i64 (D.size : Int)]) ∧ Kp No w w1 := by
  obtain ⟨vc, vl, cs, ls, h⟩ := h
  obtain ⟨gc, c, rfl, hc, hg⟩ := h.vc_
  have x0 := h.c0
  have x1 := h.c1
  go_enter Tryz.func79, Tryz.ntmps79
  go_wp2
  go_quiet (fail)
  go_wp2
  go_ret2
  exact ⟨rfl, (Kp.refl No w).drewN _⟩
end
end Go.Proofs.YtnfcfdhlmeimhaaGreat
