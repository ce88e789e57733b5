/- What VaultKeeps knows of memory: its vault, and the rows of names and of data that it keeps. -/
import Derived.Test.YtndghapdpfgmoaaVkm
import Derived.Test.YtndghapdpfgmoaaVlg
import Derived.Test.YtndghapdpfgmoaaVvn
import Derived.Test.YtndghapdpfgmoaaOwt
namespace Go.Proofs.Ytndghapdpfgmoaa
open Go.RowKit
set_option linter.unusedVariables false
set_option linter.unusedSimpArgs false
set_option maxRecDepth 20000

/-- The cells of these names. -/
def nmC (ns : List Nat) : List Value := ns.flatMap fun s => [.int .u32 (cO s : Int), .int .u16 (cS s : Int), .int .u16 (cL s : Int), .int .u32 (cG s : Int)]
theorem nmC_snoc (ns : List Nat) (s : Nat) : nmC (ns ++ [s]) = nmC ns ++ [.int .u32 (cO s : Int), .int .u16 (cS s : Int), .int .u16 (cL s : Int), .int .u32 (cG s : Int)] := by simp [nmC]
theorem nmC_get : ∀ {ns : List Nat} {j s : Nat}, ns[j]? = some s → (nmC ns)[j * 4]? = some (.int .u32 (cO s : Int)) ∧ (nmC ns)[j * 4 + 1]? = some (.int .u16 (cS s : Int)) ∧ (nmC ns)[j * 4 + 2]? = some (.int .u16 (cL s : Int)) ∧ (nmC ns)[j * 4 + 3]? = some (.int .u32 (cG s : Int))
  | [], j, s, h => by simp at h
  | x :: ns, 0, s, h => by
    simp at h
    subst h
    exact ⟨rfl, rfl, rfl, rfl⟩
  | x :: ns, j + 1, s, h => by
    rw [List.getElem?_cons_succ] at h
    have ih := nmC_get h
    have e : nmC (x :: ns) = [.int .u32 (cO x : Int), .int .u16 (cS x : Int), .int .u16 (cL x : Int), .int .u32 (cG x : Int)] ++ nmC ns := rfl
    have key : ∀ i, (nmC (x :: ns))[(j + 1) * 4 + i]? = (nmC ns)[j * 4 + i]? := fun i => by
      rw [e, List.getElem?_append_right (by simp; omega)]
      congr 1
      simp
      omega
    exact ⟨(key 0).trans ih.1, (key 1).trans ih.2.1, (key 2).trans ih.2.2.1, (key 3).trans ih.2.2.2⟩
theorem ty_sh : Ty 26 (.agg #[.int .u32 0, .int .u16 0, .int .u16 0, .int .u32 0]) 4 12 := ty_of (by kernel_rfl) rfl (by omega) (by omega)
theorem nws_box {w : World} {m : Nat} {u0 u1 u2 u3 : Value} (h : Box4 w m u0 u1 u2 u3) (o0 : u0.oneCell' = true) (o1 : u1.oneCell' = true) (o2 : u2.oneCell' = true) (o3 : u3.oneCell' = true) : Nws w ⟨m, 0, none⟩ 1 4 [u0, u1, u2, u3] := by
  obtain ⟨h0, h1, h2, h3⟩ := h.cell
  refine ⟨rfl, fun j x hx => ?_, fun x hx => ?_⟩
  · match j, hx with
    | 0, hx => simp at hx; subst hx; rw [add_none]; exact h0
    | 1, hx => simp at hx; subst hx; rw [add_none]; exact h1
    | 2, hx => simp at hx; subst hx; rw [add_none]; exact h2
    | 3, hx => simp at hx; subst hx; rw [add_none]; exact h3
    | j + 4, hx => simp at hx
  · simp at hx
    rcases hx with rfl | rfl | rfl | rfl
    · exact o0
    · exact o1
    · exact o2
    · exact o3
/-- The vault, and the rows of names and of data: all that is the vault's own is the call's own, and lies outside the rows. -/
structure KvM (W : World) (F : Nat → Prop) (g gd b : Nat) (V : Vt) (vn vd : Value) (ns : List Nat) (vs : List Value) (wr : World) : Prop where
  vt : VtR wr F g gd b V
  nv : OwnT wr W.heap.size 26 4 vn ns.length (nmC ns)
  dv : OwnT wr W.heap.size 27 1 vd vs.length vs
  fo : ∀ q, F q → W.heap.size ≤ q ∧ q < wr.heap.size ∧ vn.ownBlock ≠ some q ∧ vd.ownBlock ≠ some q
  kp : Kp No W wr
section
variable {W wr w1 w2 w3 w4 w5 : World} {F : Nat → Prop} {g gd b b1 : Nat} {V V' : Vt} {vn vd v3 v5 u : Value} {ns : List Nat} {vs cs : List Value} {s : Nat}
theorem KvM.no (h : KvM W F g gd b V vn vd ns vs wr) (hk : Kp No wr w1) : KvM W F g gd b V vn vd ns vs w1 :=
  ⟨h.vt.no hk, h.nv.no hk, h.dv.no hk, fun q hq => ⟨(h.fo q hq).1, Nat.lt_of_lt_of_le (h.fo q hq).2.1 hk.size, (h.fo q hq).2.2⟩, h.kp.trans' hk⟩
/-- A call on the vault. -/
theorem KvM.vault (h : KvM W F g gd b V vn vd ns vs wr) (h1 : VtR w1 (Up F wr) g gd b1 V') (hk : Kp F wr w1) : KvM W (fun q => Up F wr q ∧ q < w1.heap.size) g gd b1 V' vn vd ns vs w1 := by
  refine ⟨h1.lt, h.nv.keep hk fun q hq hF => (h.fo q hF).2.2.1 hq, h.dv.keep hk fun q hq hF => (h.fo q hF).2.2.2 hq, fun q hq => ⟨?_, hq.2, fun e => ?_, fun e => ?_⟩, h.kp.trans (hk.mono fun q hF => .inr (h.fo q hF).1)⟩
  · rcases hq.1 with f | f
    · exact (h.fo q f).1
    · exact Nat.le_trans h.kp.size f
  · rcases hq.1 with f | f
    · exact (h.fo q f).2.2.1 e
    · have := h.nv.lt q e
      omega
  · rcases hq.1 with f | f
    · exact (h.fo q f).2.2.2 e
    · have := h.dv.lt q e
      omega
/-- The row of data while that of names has grown. -/
theorem KvM.mid (h : KvM W F g gd b V vn vd ns vs wr) (k : Kp No wr w2) (a : AppT w2 W.heap.size 26 4 vn ns.length (nmC ns) 1 cs v3 w3) (k2 : Kp No w3 w4) : OwnT w4 W.heap.size 27 1 vd vs.length vs :=
  ((h.dv.no k).keep a.kp fun q hq hq' => ownT_far (h.dv.no k) (h.nv.no k) (by decide) hq hq').no k2
/-- Both rows have grown. -/
theorem KvM.fin (h : KvM W F g gd b V vn vd ns vs wr) (k : Kp No wr w2) (a : AppT w2 W.heap.size 26 4 vn ns.length (nmC ns) 1 [.int .u32 (cO s : Int), .int .u16 (cS s : Int), .int .u16 (cL s : Int), .int .u32 (cG s : Int)] v3 w3) (k2 : Kp No w3 w4) (a2 : AppT w4 W.heap.size 27 1 vd vs.length vs 1 [u] v5 w5) :
    KvM W F g gd b V v3 v5 (ns ++ [s]) (vs ++ [u]) w5 := by
  have hn := h.nv.no k
  have hm := h.mid k a k2
  have h3 := a.own.no k2
  have vt := (((h.vt.no k).keep a.kp (fun q _ hF e => (h.fo q hF).2.2.1 e)).no k2).keep a2.kp (fun q _ hF e => (h.fo q hF).2.2.2 e)
  have s1 := a.kp.size
  have s2 := k2.size
  have s3 := a2.kp.size
  have s0 := k.size
  refine ⟨vt, ?_, ?_, fun q hq => ⟨(h.fo q hq).1, by have := (h.fo q hq).2.1; omega, fun e => ?_, fun e => ?_⟩, ((h.kp.trans' k).trans (a.kp.mono fun q e => .inr (hn.ge q e))).trans' k2 |>.trans (a2.kp.mono fun q e => .inr (hm.ge q e))⟩
  · rw [List.length_append, nmC_snoc]
    exact h3.keep a2.kp fun q hq hq' => ownT_far h3 hm (by decide) hq hq'
  · rw [List.length_append]
    exact a2.own
  · have hl := (h.fo q hq).2.1
    rcases a.at_ with e1 | e1
    · rw [e1] at e
      exact (h.fo q hq).2.2.1 e
    · rw [e1] at e
      have := Option.some.inj e
      omega
  · have hl := (h.fo q hq).2.1
    rcases a2.at_ with e1 | e1
    · rw [e1] at e
      exact (h.fo q hq).2.2.2 e
    · rw [e1] at e
      have := Option.some.inj e
      omega
end
theorem zero_beq (n : Nat) : ((n : Int) == 0) = (n == 0) := by
  by_cases h : n = 0
  · subst h
    rfl
  · have h1 : (n : Int) ≠ 0 := by omega
    rw [beq_eq_false_iff_ne.2 h1, beq_eq_false_iff_ne.2 h]
/-- What the first loop keeps. -/
structure KvL (W : World) (g gd k : Nat) (vn vd : Value) (wr : World) : Prop where
  ex : ∃ F b V ns dt vs, KvM W F g gd b V vn vd ns vs wr ∧ VkP V ns dt ∧ vs.length = dt.length ∧ (∀ (j : Nat) u, vs[j]? = some u → Bts W u (dt.getD j [])) ∧ ns.length ≤ k ∧ V.D.syncs ≤ k
theorem vt_pt_syncs {V : Vt} {s : Nat} {b : List UInt8} : (V.pt s b).D.syncs ≤ V.D.syncs + 1 := by
  by_cases h : V.bgE s b = 0
  · rw [Vt.pt_yes h, Vt.bg_yes h]
    show (Dk.put _ _ _).syncs + 1 ≤ _
    rw [put_syncs]
    omega
  · rw [Vt.pt_no h]
    omega
theorem vb_snoc {W : World} {vs : List Value} {dt : List (List UInt8)} {u : Value} {b : List UInt8} (hl : vs.length = dt.length) (h : ∀ (j : Nat) u, vs[j]? = some u → Bts W u (dt.getD j [])) (hb : Bts W u b) : ∀ (j : Nat) v, (vs ++ [u])[j]? = some v → Bts W v ((dt ++ [b]).getD j []) := fun j v hj => by
  rcases Nat.lt_or_ge j vs.length with g | g
  · rw [List.getElem?_append_left g] at hj
    rw [List.getD_eq_getElem?_getD, List.getElem?_append_left (by omega), ← List.getD_eq_getElem?_getD]
    exact h j v hj
  · rw [List.getElem?_append_right g] at hj
    have hj0 : j - vs.length = 0 := by
      have := (List.getElem?_eq_some_iff.1 hj).1
      simp at this
      omega
    rw [hj0] at hj
    simp at hj
    subst hj
    obtain rfl : j = dt.length := by omega
    simpa [List.getD_eq_getElem?_getD] using hb
/-- What stands there behind the crash: what was put, and what was begun, or not. -/
def Fin (ns : List Nat) (dt : List (List UInt8)) (s : Nat) (b : List UInt8) (f : Bool) (ns2 : List Nat) (dt2 : List (List UInt8)) : Prop :=
  (ns2 = ns ∧ dt2 = dt ∧ (f = true → s ∉ ns)) ∨ (f = true ∧ s ∉ ns ∧ ns2 = ns ++ [s] ∧ dt2 = dt ++ [b])
theorem VkP.crashed {V : Vt} {ns : List Nat} {dt : List (List UInt8)} {s : Nat} {b : List UInt8} (h : VkP V ns dt) (hn : ns.length < 40) (hb : b.length ≤ 200) (hs : s < N96) (z y : Int) :
    ∃ ns2 dt2, OpD ((V.bg s b).D.crash z y) ns2 dt2 ∧ Fin ns dt s b (V.bgE s b == 0) ns2 dt2 := by
  have hE := h.bgE (s := s) hn hb
  by_cases hm : s ∈ ns
  · rw [if_pos hm] at hE
    refine ⟨ns, dt, ?_, .inl ⟨rfl, rfl, fun e => by rw [hE] at e; simp at e⟩⟩
    rw [Vt.bg_no (by omega)]
    exact h.crash_no z y
  · rw [if_neg hm] at hE
    have hD : (V.bg s b).D = V.D.put (ns.length : Int) (frV s b) := by rw [Vt.bg_yes hE, h.free hn]
    rw [hD, hE]
    rcases h.crash_one hn hb hs hm z y with g | g
    · exact ⟨_, _, g, .inr ⟨rfl, hm, rfl, rfl⟩⟩
    · exact ⟨_, _, g, .inl ⟨rfl, rfl, fun _ => hm⟩⟩
section
variable {ns ns2 : List Nat} {dt dt2 : List (List UInt8)} {s : Nat} {b : List UInt8} {f : Bool}
theorem Fin.at_ (h : Fin ns dt s b f ns2 dt2) (hl : dt.length = ns.length) {j : Nat} (hj : j < ns.length) : j < ns2.length ∧ ns2.getD j 0 = ns.getD j 0 ∧ dt2.getD j [] = dt.getD j [] := by
  rcases h with ⟨rfl, rfl, _⟩ | ⟨_, _, rfl, rfl⟩
  · exact ⟨hj, rfl, rfl⟩
  · refine ⟨by simp; omega, ?_, ?_⟩
    · rw [List.getD_eq_getElem?_getD, List.getD_eq_getElem?_getD, List.getElem?_append_left hj]
    · rw [List.getD_eq_getElem?_getD, List.getD_eq_getElem?_getD, List.getElem?_append_left (by omega)]
/-- Nothing was begun, or it isn't there. -/
theorem Fin.no (h : Fin ns dt s b f ns2 dt2) (hf : f = false ∨ kn (mkL ns2) s = false) : ns2.length = ns.length := by
  rcases h with ⟨rfl, _⟩ | ⟨rfl, _, rfl, _⟩
  · rfl
  · rcases hf with e | e
    · cases e
    · have : kn (mkL (ns ++ [s])) s = true := kn_mkL.2 (by simp)
      rw [this] at e
      cases e
/-- It is there. -/
theorem Fin.yes (h : Fin ns dt s b true ns2 dt2) (hl : dt.length = ns.length) (hk : kn (mkL ns2) s = true) : ns2.length = ns.length + 1 ∧ ns2.getD ns.length 0 = s ∧ dt2.getD ns.length [] = b := by
  rcases h with ⟨rfl, _, h3⟩ | ⟨_, _, rfl, rfl⟩
  · exact absurd (kn_mkL.1 hk) (h3 rfl)
  · refine ⟨by simp, ?_, ?_⟩
    · simp [List.getD_eq_getElem?_getD]
    · simp [List.getD_eq_getElem?_getD, ← hl]
theorem Fin.len (h : Fin ns dt s b f ns2 dt2) : ns2.length ≤ ns.length + 1 := by
  rcases h with ⟨rfl, _⟩ | ⟨_, _, rfl, _⟩
  · omega
  · simp
end
/-- What the law knows behind the crash: two vaults over one disk, and the rows. -/
structure KvE (W : World) (gd g1 b1 g2 b2 : Nat) (V : Vt) (vn vd : Value) (ns : List Nat) (vs : List Value) (wr : World) : Prop where
  v1 : ∃ F, VtR wr F g1 gd b1 V
  v2 : ∃ F, VtR wr F g2 gd b2 V
  nv : OwnT wr W.heap.size 26 4 vn ns.length (nmC ns)
  dv : OwnT wr W.heap.size 27 1 vd vs.length vs
  kp : Kp No W wr
theorem KvE.no {W wr w1 : World} {gd g1 b1 g2 b2 : Nat} {V : Vt} {vn vd : Value} {ns : List Nat} {vs : List Value} (h : KvE W gd g1 b1 g2 b2 V vn vd ns vs wr) (hk : Kp No wr w1) : KvE W gd g1 b1 g2 b2 V vn vd ns vs w1 :=
  ⟨h.v1.imp fun _ a => a.no hk, h.v2.imp fun _ a => a.no hk, h.nv.no hk, h.dv.no hk, h.kp.trans' hk⟩
end Go.Proofs.Ytndghapdpfgmoaa
