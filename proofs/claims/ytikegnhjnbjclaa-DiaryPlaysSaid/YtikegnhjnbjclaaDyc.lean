/- A diary of package diary in memory; made, Len, Get, Sync, Back and Open, each as a contract. No condition. -/
import Derived.Test.YtikegnhjnbjclaaDyb
import Derived.Test.YtikegnhjnbjclaaTpb
import Derived.Lib.SliceRun
namespace Go.Proofs.Ytikegnhjnbjclaa
open Go.RowKit
set_option linter.unusedVariables false
set_option maxRecDepth 20000
set_option linter.unusedSimpArgs false

/-- At block g lies a diary whose first sf records are safe, over the tape at block tp; its rows' slices and what they bear are ps; all that is its own lies in F. -/
structure DyR (w : World) (F : Nat → Prop) (g tp sf : Nat) (vl : Value) (ps : List (Value × List UInt8)) : Prop where
  blk : w.heap[g]? = some (.cells #[.pointer (some ⟨tp, 0, none⟩), vl, .int .i64 (sf : Int)] 83 (0, 0))
  rw_ : RwO w 0 vl ps
  fg : F g
  fv : ∀ k, vl.ownBlock = some k → F k
  fp : ∀ p ∈ ps, ∀ k, p.1.ownBlock = some k → F k
  le : sf ≤ ps.length
section
variable {w w1 : World} {F S G : Nat → Prop} {g tp sf : Nat} {vl v : Value} {ps : List (Value × List UInt8)} {p : Value × List UInt8}
theorem DyR.mono (h : DyR w F g tp sf vl ps) (hF : ∀ k, F k → G k) : DyR w G g tp sf vl ps := ⟨h.blk, h.rw_, hF _ h.fg, fun k hk => hF _ (h.fv k hk), fun p hp k hk => hF _ (h.fp p hp k hk), h.le⟩
theorem DyR.glt (h : DyR w F g tp sf vl ps) : g < w.heap.size := (Array.getElem?_eq_some_iff.1 h.blk).1
theorem DyR.lt (h : DyR w F g tp sf vl ps) : DyR w (fun k => F k ∧ k < w.heap.size) g tp sf vl ps := ⟨h.blk, h.rw_, ⟨h.fg, h.glt⟩, fun k hk => ⟨h.fv k hk, h.rw_.own.lt k hk⟩, fun p hp k hk => ⟨h.fp p hp k hk, (h.rw_.ld p hp).lt k hk⟩, h.le⟩
theorem RwO.keep {base : Nat} (h : RwO w base v ps) (hk : Kp S w w1) (h1 : ∀ k, v.ownBlock = some k → ¬ S k) (h2 : ∀ p ∈ ps, ∀ k, p.1.ownBlock = some k → ¬ S k) : RwO w1 base v ps := ⟨h.own.keep hk h1, fun p hp => (h.ld p hp).keep hk (h2 p hp)⟩
theorem DyR.keep (h : DyR w F g tp sf vl ps) (hk : Kp S w w1) (hS : ∀ k, k < w.heap.size → F k → ¬ S k) : DyR w1 F g tp sf vl ps :=
  ⟨(hk.block g h.glt (hS g h.glt h.fg)).trans h.blk, h.rw_.keep hk (fun k hk' => hS k (h.rw_.own.lt k hk') (h.fv k hk')) (fun p hp k hk' => hS k ((h.rw_.ld p hp).lt k hk') (h.fp p hp k hk')), h.fg, h.fv, h.fp, h.le⟩
theorem DyR.no (h : DyR w F g tp sf vl ps) (hk : Kp No w w1) : DyR w1 F g tp sf vl ps := h.keep hk fun _ _ _ f => f
theorem DyR.c0 (h : DyR w F g tp sf vl ps) : w.cell? ⟨g, 0, none⟩ = some (.pointer (some ⟨tp, 0, none⟩)) := by rw [cell_of_row w g 0 _ _ _ h.blk]; rfl
theorem DyR.c1 (h : DyR w F g tp sf vl ps) : w.cell? ⟨g, 1, none⟩ = some vl := by rw [cell_of_row w g 1 _ _ _ h.blk]; rfl
theorem DyR.c2 (h : DyR w F g tp sf vl ps) : w.cell? ⟨g, 2, none⟩ = some (.int .i64 (sf : Int)) := by rw [cell_of_row w g 2 _ _ _ h.blk]; rfl
theorem DyR.fz (h : DyR w F g tp sf vl ps) (j : Nat) : w.frozen? ⟨g, j, none⟩ = false := frozen_of_row w g j _ _ h.blk
theorem DyR.vl_ (h : DyR w F g tp sf vl ps) : ∃ A c, vl = .slice A ps.length c ∧ ps.length ≤ c := by
  obtain ⟨A, c, e⟩ := h.rw_.own.form
  refine ⟨A, c, e, ?_⟩
  have ho := h.rw_.own
  rw [e] at ho
  rcases ho.2 with ⟨e1, hn⟩ | ⟨g', cap, cur, e1, _, _, hc, _⟩
  · omega
  · injection e1 with _ _ e2
    omega
theorem DyR.gne (h : DyR w F g tp sf vl ps) : vl.ownBlock ≠ some g := h.rw_.own.not_at h.blk (by decide)
theorem DyR.gnp (h : DyR w F g tp sf vl ps) (hp : p ∈ ps) : p.1.ownBlock ≠ some g := own_ne_at (h.rw_.ld p hp) h.blk (by decide)
/-- The diary's own cells are other ones. -/
theorem DyR.set (h : DyR w F g tp sf vl ps) (hk : Kp (fun k => k = g) w w1) {vl' : Value} {sf' : Nat} (hb : w1.heap[g]? = some (.cells #[.pointer (some ⟨tp, 0, none⟩), vl', .int .i64 (sf' : Int)] 83 (0, 0))) (he : vl' = vl) (hle : sf' ≤ ps.length) : DyR w1 F g tp sf' vl' ps := by
  subst he
  exact ⟨hb, h.rw_.keep hk (fun k hk' e => by subst e; exact h.gne hk') (fun p hp k hk' e => by subst e; exact h.gnp hp hk'), h.fg, h.fv, h.fp, hle⟩
end

/-- A tape T at block tp, and a diary over it at block g: its records, and how many of them are safe. -/
structure DyAt (w : World) (F : Nat → Prop) (g tp : Nat) (T : Tp) (rs : List (List UInt8)) (sf : Nat) : Prop where
  ex : ∃ (Ft Fd : Nat → Prop) (vl : Value) (ps : List (Value × List UInt8)), rws ps = rs ∧ TpAt w Ft tp T ∧ DyR w Fd g tp sf vl ps ∧ (∀ k, Ft k → Fd k → False) ∧ (∀ k, Ft k → F k ∧ k < w.heap.size) ∧ (∀ k, Fd k → F k ∧ k < w.heap.size)
/-- What a call on a diary comes to. -/
def DyPost (w : World) (F : Nat → Prop) (g tp : Nat) (T : Tp) (rs : List (List UInt8)) (sf : Nat) (v : Value) (e : Ending) (w1 : World) : Prop := e = .returned v ∧ DyAt w1 (Up F w) g tp T rs sf ∧ Kp F w w1
section
variable {w w1 : World} {F S G Ft Fd : Nat → Prop} {g tp sf : Nat} {vl v : Value} {ps : List (Value × List UInt8)} {T T' : Tp} {rs : List (List UInt8)}
theorem DyAt.mk' (hr : rws ps = rs) (ht : TpAt w Ft tp T) (hd : DyR w Fd g tp sf vl ps) (hx : ∀ k, k < w.heap.size → Ft k → Fd k → False) (h1 : ∀ k, Ft k → F k) (h2 : ∀ k, Fd k → F k) : DyAt w F g tp T rs sf :=
  ⟨_, _, vl, ps, hr, ht.lt, hd.lt, fun k a b => hx k a.2 a.1 b.1, fun k a => ⟨h1 k a.1, a.2⟩, fun k a => ⟨h2 k a.1, a.2⟩⟩
theorem DyAt.mono (h : DyAt w F g tp T rs sf) (hF : ∀ k, F k → G k) : DyAt w G g tp T rs sf := by
  obtain ⟨Ft, Fd, vl, ps, h1, h2, h3, h4, h5, h6⟩ := h.ex
  exact ⟨Ft, Fd, vl, ps, h1, h2, h3, h4, fun k a => ⟨hF k (h5 k a).1, (h5 k a).2⟩, fun k a => ⟨hF k (h6 k a).1, (h6 k a).2⟩⟩
theorem DyAt.lt (h : DyAt w F g tp T rs sf) : DyAt w (fun k => F k ∧ k < w.heap.size) g tp T rs sf := by
  obtain ⟨Ft, Fd, vl, ps, h1, h2, h3, h4, h5, h6⟩ := h.ex
  exact ⟨Ft, Fd, vl, ps, h1, h2, h3, h4, fun k a => ⟨h5 k a, (h5 k a).2⟩, fun k a => ⟨h6 k a, (h6 k a).2⟩⟩
theorem DyAt.keep (h : DyAt w F g tp T rs sf) (hk : Kp S w w1) (hS : ∀ k, k < w.heap.size → F k → ¬ S k) : DyAt w1 F g tp T rs sf := by
  obtain ⟨Ft, Fd, vl, ps, h1, h2, h3, h4, h5, h6⟩ := h.ex
  exact ⟨Ft, Fd, vl, ps, h1, h2.keep hk fun k a b => hS k a (h5 k b).1, h3.keep hk fun k a b => hS k a (h6 k b).1, h4, fun k a => ⟨(h5 k a).1, Nat.lt_of_lt_of_le (h5 k a).2 hk.size⟩, fun k a => ⟨(h6 k a).1, Nat.lt_of_lt_of_le (h6 k a).2 hk.size⟩⟩
theorem DyAt.no (h : DyAt w F g tp T rs sf) (hk : Kp No w w1) : DyAt w1 F g tp T rs sf := h.keep hk fun _ _ _ f => f
theorem DyAt.tape (h : DyAt w F g tp T rs sf) : TpAt w F tp T := by
  obtain ⟨Ft, Fd, vl, ps, h1, h2, h3, h4, h5, h6⟩ := h.ex
  exact h2.mono fun k a => (h5 k a).1
theorem DyAt.le (h : DyAt w F g tp T rs sf) : sf ≤ rs.length := by
  obtain ⟨Ft, Fd, vl, ps, h1, h2, h3, h4, h5, h6⟩ := h.ex
  rw [← h1, rws_len]
  exact h3.le
/-- A call on the tape: the diary's own is as it was. -/
theorem dy_turn (hr : rws ps = rs) (hd : DyR w Fd g tp sf vl ps) (hx : ∀ k, Ft k → Fd k → False) (h1 : ∀ k, Ft k → F k ∧ k < w.heap.size) (h2 : ∀ k, Fd k → F k ∧ k < w.heap.size) {e : Ending} (hp : TpPost w Ft tp T' v e w1) : DyPost w F g tp T' rs sf v e w1 :=
  ⟨hp.1, DyAt.mk' hr hp.2.1 (hd.keep hp.2.2 fun k _ a b => hx k b a) (fun k _ a b => by
    rcases a with a | a
    · exact hx k a b
    · have := (h2 k b).2
      omega) (fun k a => a.imp (fun a => (h1 k a).1) id) fun k a => .inl (h2 k a).1, hp.2.2.mono fun k a => (h1 k a).1⟩
theorem DyAt.turn (h : DyAt w F g tp T rs sf) {f : Nat} {args : Array Value} (hc : ∀ Ft, TpAt w Ft tp T → Calls Try.prog f args w (TpPost w Ft tp T' v)) : Calls Try.prog f args w (DyPost w F g tp T' rs sf v) := by
  obtain ⟨Ft, Fd, vl, ps, h1, h2, h3, h4, h5, h6⟩ := h.ex
  exact (hc Ft h2).mono fun e w1 hp => dy_turn h1 h3 h4 h5 h6 hp

theorem dmade_any (h : DyR w Fd g tp sf vl ps) : Calls Try.prog 38 #[.pointer (some ⟨g, 0, none⟩)] w fun e w1 => e = .returned (.bool true) ∧ w = w1 := by
  have x0 := h.c0
  clear h
  go_enter Try.func38, Try.ntmps38
  go_wp2
  go_ret
  exact ⟨rfl, rfl⟩
theorem dlen_any (h : DyAt w F g tp T rs sf) : Calls Try.prog 23 #[.pointer (some ⟨g, 0, none⟩)] w fun e w1 => e = .returned (.tuple #[.int .i64 (rs.length : Int), .int .i64 (sf : Int)]) ∧ Kp No w w1 := by
  obtain ⟨Ft, Fd, vl, ps, rfl, h2, h3, h4, h5, h6⟩ := h.ex
  obtain ⟨A, c, rfl, hc⟩ := h3.vl_
  rw [rws_len]
  have HM := hide (dmade_any h3)
  have x1 : w.drew.cell? ⟨g, 1, none⟩ = some (.slice A ps.length c) := h3.c1
  have x2 : w.drew.cell? ⟨g, 2, none⟩ = some (.int .i64 (sf : Int)) := h3.c2
  generalize ps.length = N at x1 ⊢
  clear h h2 h3 h4 h5 h6 hc
  go_enter Try.func23, Try.ntmps23
  go_wp2_with fail
  refine HM.out.mono ?_
  rintro e w1 ⟨rfl, rfl⟩
  go_wp2_with fail
  go_region
  go_wp2
  go_ret2
  exact ⟨rfl, (Kp.refl No w).drew⟩
theorem dget_no (h : DyAt w F g tp T rs sf) {z : Int} (hz : z < 1 ∨ (rs.length : Int) < z) : Calls Try.prog 26 #[.pointer (some ⟨g, 0, none⟩), .int .i64 z] w fun e w1 => e = .returned (.tuple #[.slice none 0 0, .bool false]) ∧ Kp No w w1 := by
  obtain ⟨Ft, Fd, vl, ps, rfl, h2, h3, h4, h5, h6⟩ := h.ex
  obtain ⟨A, c, rfl, hc⟩ := h3.vl_
  rw [rws_len] at hz
  have HM := hide (dmade_any h3)
  have x1 := h3.c1
  generalize ps.length = N at x1 hz
  clear h h2 h3 h4 h5 h6 hc
  by_cases h1 : z < 1
  · go_enter Try.func26, Try.ntmps26
    go_wp2_with fail
    refine HM.out.mono ?_
    rintro e w1 ⟨rfl, rfl⟩
    go_wp2_with fail
    go_ret2
    exact ⟨rfl, Kp.refl No w⟩
  · have hz2 : (N : Int) < z := by omega
    go_enter Try.func26, Try.ntmps26
    go_wp2_with fail
    refine HM.out.mono ?_
    rintro e w1 ⟨rfl, rfl⟩
    go_wp2_with fail
    go_ret2
    exact ⟨rfl, Kp.refl No w⟩
theorem dget_any (h : DyAt w F g tp T rs sf) {j : Nat} {b : List UInt8} (hj : rs[j]? = some b) (hl : b.length ≤ 900000000) (hjs : j ≤ 1000000) : Calls Try.prog 26 #[.pointer (some ⟨g, 0, none⟩), .int .i64 ((j : Int) + 1)] w fun e w1 => ∃ A n c, e = .returned (.tuple #[.slice A n c, .bool true]) ∧ Own w1 w.heap.size 5 (.slice A n c) b ∧ Kp No w w1 := by
  obtain ⟨Ft, Fd, vl, ps, rfl, h2, h3, h4, h5, h6⟩ := h.ex
  obtain ⟨A, c, rfl, hc⟩ := h3.vl_
  have hjl : j < ps.length := by have := (List.getElem?_eq_some_iff.1 hj).1; rwa [rws_len] at this
  obtain ⟨⟨vp, b'⟩, hp⟩ : ∃ p, ps[j]? = some p := ⟨_, List.getElem?_eq_getElem hjl⟩
  obtain rfl : b = b' := by have := rws_get hp; rw [hj] at this; exact Option.some.inj this
  have HO := hide (h3.rw_.ld _ (List.mem_of_getElem? hp)).bts
  obtain ⟨gl, e1, _, hgl, _, _⟩ := h3.rw_.own.cell (sls_get hp)
  subst e1
  have hcell := h3.rw_.own.cellAt (sls_get hp)
  obtain ⟨A2, n2, c2, rfl⟩ := (h3.rw_.ld _ (List.mem_of_getElem? hp)).form
  simp only at hcell
  have HM := hide (dmade_any h3)
  have x1 := h3.c1
  generalize ps.length = N at x1 hc hjl
  have e2 : (j : Int) + 1 - 1 = j := by omega
  have hlt : ¬ (N : Int) < (j : Int) + 1 := by omega
  have hlt1 : ¬ (j : Int) + 1 < 1 := by omega
  clear h h2 h3 h4 h5 h6 hp hj
  go_enter Try.func26, Try.ntmps26
  go_wp2_with fail
  refine HM.out.mono ?_
  rintro e w1 ⟨rfl, rfl⟩
  go_wp2_with fail
  refine (sclone_any HO.out hl).mono ?_
  rintro e w1 ⟨A3, n3, c3, rfl, ho3, k3⟩
  go_wp2_with fail
  go_ret2
  exact ⟨A3, n3, c3, rfl, ho3, k3⟩
theorem dsync_any (h : DyAt w F g tp T rs sf) (hL : T.len ≤ 900000000) : Calls Try.prog 14 #[.pointer (some ⟨g, 0, none⟩)] w (DyPost w F g tp T.sync rs rs.length (.int .i64 0)) := by
  obtain ⟨Ft, Fd, vl, ps, rfl, h2, h3, h4, h5, h6⟩ := h.ex
  obtain ⟨A, c, rfl, hc⟩ := h3.vl_
  rw [rws_len]
  have HM := hide (dmade_any h3)
  have x0 := h3.c0
  have x1 := h3.c1
  have f2 := h3.fz 2
  obtain ⟨N, hN⟩ : ∃ N, N = ps.length := ⟨_, rfl⟩
  have hks : Kp (fun k => k = g) w (w.setCell ⟨g, 2, none⟩ (.int .i64 (N : Int))) := Kp.setCell (p := ⟨g, 2, none⟩) (S := fun k => k = g) rfl _
  have hD := h3.set hks (heap_setCell_same w g 2 _ _ (.int .i64 (N : Int)) h3.blk) rfl (by omega)
  have hT := h2.keep hks fun k _ a e => h4 g (by rw [← e]; exact a) h3.fg
  have x2 := h3.c2
  rw [← hN] at x1 ⊢
  have HS := hide (tsync_any hT hL)
  have HP := hide (show ∀ e w1, TpPost (w.setCell ⟨g, 2, none⟩ (.int .i64 (N : Int))) Ft tp T.sync (.int .i64 0) e w1 → DyPost w F g tp T.sync (rws ps) N (.int .i64 0) e w1 from fun e w1 hp => by
    have h7 := dy_turn (F := F) rfl hD h4 (fun k a => ⟨(h5 k a).1, by have := (h5 k a).2; have := hks.size; omega⟩) (fun k a => ⟨(h6 k a).1, by have := (h6 k a).2; have := hks.size; omega⟩) hp
    exact ⟨h7.1, h7.2.1.mono fun k a => a.le hks.size, (hks.mono fun k e => by rw [e]; exact (h6 g h3.fg).1).trans' h7.2.2⟩)
  clear h h2 h3 h4 h5 h6 hc hN hks hD hT
  go_enter Try.func14, Try.ntmps14
  go_wp2_with fail
  refine HM.out.mono ?_
  rintro e w1 ⟨rfl, rfl⟩
  go_wp2_with fail
  refine HS.out.mono ?_
  intro e w1 hp
  have hp' := HP.out e w1 hp
  obtain rfl := hp'.1
  go_wp2_with fail
  go_ret
  exact hp'
end

theorem rsl_size (w : World) : (sizeOf (Try.prog.elem 25)).run Try.prog w = .ok 1 w := by
  have he : Try.prog.elem 25 = 22 := by unfold Program.elem; rw [Try.underlying25]
  obtain ⟨⟨i, hi, _, hs, _⟩, _⟩ := ty_slc
  rw [he]
  simp [sizeOf, typeInfo, hi, hs]
theorem rsl_under : Try.prog.underlying 25 = some (.slice (Try.prog.elem 25)) := by
  have he : Try.prog.elem 25 = 22 := by unfold Program.elem; rw [Try.underlying25]
  rw [he]; exact Try.underlying25
/-- l[:k] of slices of slices. -/
theorem rsl_u (A : Option Addr) {L cl k : Nat} (hk : k ≤ L) (hcl : L ≤ cl) (w' : World) : (Instr.slice 25 (.slice A L cl) none (some (.int .i64 (k : Int))) none).run Try.prog w' = .ok (.slice A k cl) w' := by
  rw [run_slice_h w' _ _ _ _ rsl_under .i64 _ (by omega) (by omega), rsl_size]
  simp only [Result.andThen, sliced, Int.toNat_natCast, Nat.zero_mul, Nat.sub_zero]
  congr 2
  split
  · rfl
  · rcases A with _ | a
    · rfl
    · simp [Addr.add]
/-- l[k:] of slices of slices. -/
theorem rsl_l (A : Option Addr) {L cl k r rc : Nat} (hk : k ≤ L) (hcl : L ≤ cl) (hr : r = L - k) (hrc : rc = cl - k) :
    ∃ A', (∀ w', (Instr.slice 25 (.slice A L cl) (some (.int .i64 (k : Int))) none none).run Try.prog w' = .ok (.slice A' r rc) w') ∧ ∀ gl, k < L → A = some ⟨gl, 0, none⟩ → A' = some ⟨gl, k, none⟩ := by
  subst hr hrc
  refine ⟨if cl = k then A else A.map (·.add (k * 1)), fun w' => ?_, fun gl h e => ?_⟩
  · rw [run_slice_l w' _ _ _ _ rsl_under .i64 _ (by omega) (by omega), rsl_size]
    simp only [Result.andThen, sliced, Int.toNat_natCast]
  · subst e
    rw [if_neg (by omega), Option.map_some, add_none, Nat.zero_add, Nat.mul_one]
theorem kp_setCells (b : Nat) (vs : List Value) (o : Nat) (w : World) : Kp (fun k => k = b) w (w.setCells b o vs) := by
  induction vs generalizing o w with
  | nil => exact Kp.refl _ _
  | cons v r ih => exact (Kp.setCell (p := ⟨b, o, none⟩) (S := fun k => k = b) rfl v).trans' (ih (o + 1) _)
section
variable {w : World} {base g n c k : Nat} {e : TypeId} {xs : List Value} {A : Option Addr}
theorem OwnT.upto (h : OwnT w base e 1 (.slice A n c) n xs) (hk : k ≤ n) : OwnT w base e 1 (.slice A k c) k (xs.take k) := by
  have hl := h.1
  rcases h.2 with ⟨e1, hn⟩ | ⟨g, cap, cur, e1, hb, hg, h1, h2, h3, ht⟩
  · injection e1 with e1 e2 e3
    obtain rfl : k = 0 := by omega
    subst e1 e3
    exact OwnT.nil _ _ _ _
  · injection e1 with e1 e2 e3
    subst e1 e3
    refine ⟨by rw [List.length_take]; omega, .inr ⟨g, c, cur, rfl, hb, hg, by omega, h2, h3, ?_⟩⟩
    rw [← ht, List.take_take]
    congr 1
    omega
theorem OwnT.setOut (h : OwnT w base e 1 (.slice (some ⟨g, 0, none⟩) n c) n xs) (hk : n ≤ k) (v : Value) : OwnT (w.setCell ⟨g, k, none⟩ v) base e 1 (.slice (some ⟨g, 0, none⟩) n c) n xs := by
  obtain ⟨cur, hg, hb, hn, hc, hs, ht, _⟩ := h.row
  refine ⟨h.1, .inr ⟨g, c, _, rfl, hb, heap_setCell_same w g k _ _ v hg, hn, hc, by simpa using hs, ?_⟩⟩
  rw [Array.toList_setIfInBounds, List.take_set_of_le (by omega)]
  exact ht
theorem OwnT.setsOut (vs : List Value) (h : OwnT w base e 1 (.slice (some ⟨g, 0, none⟩) n c) n xs) (hk : n ≤ k) : OwnT (w.setCells g k vs) base e 1 (.slice (some ⟨g, 0, none⟩) n c) n xs := by
  induction vs generalizing k w with
  | nil => exact h
  | cons v r ih => exact ih (h.setOut hk v) (by omega)
end
end Go.Proofs.Ytikegnhjnbjclaa
