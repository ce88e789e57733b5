/- Slots picked one by one, and those that are left: words for MsrBack and HealBack. No condition. -/
import Derived.Test.YthmplbklphobaaaMsc
namespace Go.Proofs.Ythmplbklphobaaa
open Go.RowKit
set_option linter.unusedVariables false
set_option linter.unusedSimpArgs false
set_option maxRecDepth 100000

/-- The message's own equations. -/
theorem msg_back {n k a d q L : Nat} (hD : Dim n k a d q) {x : Nat → UInt8} {ss : Nat → Nat} {bs : List UInt8} {ds : Nat → List UInt8} (hm : bs.length = q * L) (hL : 1 ≤ L) (hds : ∀ j, j < k → ds j = rowL (a * L) (shE a d L bs (x (ss j)))) (hU : Uq k fun j => upw (x (ss j)) a)
    {X : Nat → Nat → UInt8} (hX : EqF q L (mulF q (eqM a (plcF a) fun j => x (ss j)) X) (knF a L ds)) : (rowL (q * L) fun t => X (t / L) (t % L)) = bs := by
  have ha := hD.a1
  have hP := plc_ok (a := a) (by have := hD.a7; omega) ha
  rw [← hD.q_] at hP
  have hM : EqF q L (mulF q (eqM a (plcF a) fun j => x (ss j)) fun p i => lg bs (p * L + i)) (knF a L ds) := fun t i ht hi => by
    show ud (eqM a (plcF a) (fun j => x (ss j)) t) (fun p => lg bs (p * L + i)) q = _
    rw [eqM_sh hP ha]
    unfold knF
    have htk : t / a < k := by
      rw [hD.q_, ← hD.k_, Nat.mul_comm] at ht
      exact Nat.div_lt_of_lt_mul ht
    rw [hds _ htk, lg_rowL _ (idx_lt (Nat.mod_lt _ ha) hi), shE_at bs _ hi, hD.d_]
  have hw : (redS q (eqM a (plcF a) fun j => x (ss j)) q).rk = q := eqM_whole hP ha hD.q_ (x := fun j => x (ss j)) (by rw [← hD.k_]; exact hU)
  have he := solve_only hw (hX.trans hM.symm)
  have h1 := rowL_lg bs
  rw [hm] at h1
  refine Eq.trans (rowL_congr fun t ht => ?_) h1
  have htq : t / L < q := Nat.div_lt_of_lt_mul (by rw [Nat.mul_comm]; exact ht)
  rw [he _ _ htq (Nat.mod_lt _ hL)]
  show lg bs (t / L * L + t % L) = lg bs t
  rw [Nat.mul_comm, Nat.div_add_mod]
theorem ty_part : Ty 37 (.agg #[.int .i64 0, .slice none 0 0]) 2 32 := ty_of (by kernel_rfl) rfl (by omega) (by omega)
theorem nws_two {w : World} {m : Nat} {u0 u1 : Value} (h0 : w.cell? ⟨m, 0, none⟩ = some u0) (h1 : w.cell? ⟨m, 1, none⟩ = some u1) (o0 : u0.oneCell' = true) (o1 : u1.oneCell' = true) : Nws w ⟨m, 0, none⟩ 1 2 [u0, u1] := by
  refine ⟨rfl, fun j x hx => ?_, fun x hx => ?_⟩
  · match j, hx with
    | 0, hx => simp at hx; subst hx; rw [add_none]; exact h0
    | 1, hx => simp at hx; subst hx; rw [add_none]; exact h1
    | j + 2, hx => simp at hx
  · simp at hx
    rcases hx with rfl | rfl
    · exact o0
    · exact o1
theorem nws_none {w : World} (ad : Addr) (sz : Nat) : Nws w ad 0 sz [] := ⟨by simp, fun j u hj => by simp at hj, fun u hu => by simp at hu⟩
theorem ownT_far {w : World} {b b' : Nat} {e e' : TypeId} {sz sz' n n' : Nat} {v v' : Value} {xs xs' : List Value} (h : OwnT w b e sz v n xs) (h' : OwnT w b' e' sz' v' n' xs') (hne : e ≠ e') {k : Nat} (hk : v.ownBlock = some k) : v'.ownBlock ≠ some k := fun hk' => by
  obtain ⟨c1, h1⟩ := h.kind hk
  obtain ⟨c2, h2⟩ := h'.kind hk'
  rw [h1] at h2
  injection h2 with h2
  injection h2 with h3 h4
  exact hne h4
theorem ownT_empty (w : World) : OwnT (w.alloc (.cells #[] 3)) w.heap.size 3 1 (.slice (some ⟨w.heap.size, 0, none⟩) 0 0) 0 [] := World.ownsRow_made w #[] 0 (Nat.le_refl _) (Nat.zero_le _) rfl
section
variable {w : World} {base g c r : Nat} {e : TypeId} {lf : List Nat} {v : Value} {A : Option Addr}
theorem OwnT.cap {xs : List Value} {sz n : Nat} (h : OwnT w base e sz (.slice (some ⟨g, 0, none⟩) r c) n xs) : n ≤ c := by
  rcases h.2 with ⟨e, _⟩ | ⟨g', cap, cur, e, _, _, h1, _⟩
  · cases e
  · injection e with _ _ e3
    omega
theorem OwnT.some_ {xs : List Value} {sz n : Nat} (h : OwnT w base e sz (.slice A r c) n xs) (hn : 0 < n) : ∃ g, A = some ⟨g, 0, none⟩ ∧ n = r := by
  rcases h.2 with ⟨_, e⟩ | ⟨g', cap, cur, e, _⟩
  · omega
  · injection e with e1 e2 e3
    exact ⟨g', e1, e2.symm⟩
theorem OwnT.num {n s : Nat} (h : OwnT w base 3 1 (.slice (some ⟨g, 0, none⟩) r c) n (lf.map fun s : Nat => Value.int .i64 (s : Int))) {p : Nat} (hp : lf[p]? = some s) : w.cell? ⟨g, p, none⟩ = some (.int .i64 (s : Int)) := by
  obtain ⟨g', e, _, _, _, hc⟩ := h.cell (j := p) (u := .int .i64 (s : Int)) (by rw [List.getElem?_map, hp]; rfl)
  injection e with e
  injection e with e
  subst e
  exact hc
theorem OwnT.nws_upto {p n : Nat} (h : OwnT w base 3 1 (.slice (some ⟨g, 0, none⟩) r c) n (lf.map fun s : Nat => Value.int .i64 (s : Int))) (hp : p ≤ lf.length) : Nws w ⟨g, 0, none⟩ p 1 ((lf.map fun s : Nat => Value.int .i64 (s : Int)).take p) := by
  refine ⟨by rw [List.length_take, List.length_map]; omega, fun j u hj => ?_, fun u hu => ?_⟩
  · rw [List.getElem?_take] at hj
    split at hj
    · obtain ⟨g', e, _, _, _, hc⟩ := h.cell hj
      injection e with e
      injection e with e
      subst e
      rw [add_none, Nat.zero_add]
      exact hc
    · cases hj
  · obtain ⟨s, _, rfl⟩ := List.mem_map.1 (List.mem_of_mem_take hu)
    rfl
theorem OwnT.nws_from {p n : Nat} (h : OwnT w base 3 1 (.slice (some ⟨g, 0, none⟩) r c) n (lf.map fun s : Nat => Value.int .i64 (s : Int))) (hp : p + 1 ≤ lf.length) : Nws w ⟨g, p + 1, none⟩ (lf.length - (p + 1)) 1 ((lf.map fun s : Nat => Value.int .i64 (s : Int)).drop (p + 1)) := by
  refine ⟨by rw [List.length_drop, List.length_map]; omega, fun j u hj => ?_, fun u hu => ?_⟩
  · rw [List.getElem?_drop] at hj
    obtain ⟨g', e, _, _, _, hc⟩ := h.cell hj
    injection e with e
    injection e with e
    subst e
    rw [add_none]
    exact hc
  · obtain ⟨s, _, rfl⟩ := List.mem_map.1 (List.mem_of_mem_drop hu)
    rfl
end
theorem flat_get (u v : Nat → Value) : ∀ (pk : List Nat) (j s : Nat), pk[j]? = some s → (pk.flatMap fun s => [u s, v s])[j * 2]? = some (u s) ∧ (pk.flatMap fun s => [u s, v s])[j * 2 + 1]? = some (v s)
  | [], j, s, h => by simp at h
  | t :: pk, 0, s, h => by simp at h; subst h; exact ⟨rfl, rfl⟩
  | t :: pk, j + 1, s, h => by
    have := flat_get u v pk j s (by simpa using h)
    rw [show (j + 1) * 2 = j * 2 + 2 by omega]
    exact this
/-- So many slots were picked, with their shards; the others are left. -/
structure BkI (w : World) (n i : Nat) (hdr : Nat → Value) (pk lf : List Nat) (vP vL : Value) (wr : World) : Prop where
  ownP : OwnT wr w.heap.size 37 2 vP i (pk.flatMap fun s : Nat => [Value.int .i64 (s : Int), hdr s])
  ownL : OwnT wr w.heap.size 3 1 vL lf.length (lf.map fun s : Nat => Value.int .i64 (s : Int))
  lenP : pk.length = i
  lenL : lf.length + i = n
  nd : (pk ++ lf).Nodup
  lt : ∀ s, s ∈ pk ++ lf → s < n
  kp : Kp No w wr
/-- One slot more was picked, and is still left. -/
structure BkM (w : World) (n i : Nat) (hdr : Nat → Value) (pk lf : List Nat) (s : Nat) (vP vL : Value) (wr : World) : Prop where
  ownP : OwnT wr w.heap.size 37 2 vP (i + 1) ((pk ++ [s]).flatMap fun s : Nat => [Value.int .i64 (s : Int), hdr s])
  ownL : OwnT wr w.heap.size 3 1 vL lf.length (lf.map fun s : Nat => Value.int .i64 (s : Int))
  lenP : pk.length = i
  lenL : lf.length + i = n
  nd : (pk ++ lf).Nodup
  lt : ∀ s, s ∈ pk ++ lf → s < n
  kp : Kp No w wr
section
variable {w wr w3 w6 : World} {n i p s : Nat} {hdr : Nat → Value} {pk lf : List Nat} {vP vL vP' vL' : Value} {o : Obj}
theorem BkI.no (h : BkI w n i hdr pk lf vP vL wr) (hk : Kp No wr w3) : BkI w n i hdr pk lf vP vL w3 := ⟨h.ownP.no hk, h.ownL.no hk, h.lenP, h.lenL, h.nd, h.lt, h.kp.trans' hk⟩
theorem BkI.mid {hs : Value} (h : BkI w n i hdr pk lf vP vL wr) (hsp : lf[p]? = some s) (hhs : hdr s = hs) (ha : AppT (wr.alloc o) w.heap.size 37 2 vP i (pk.flatMap fun s : Nat => [Value.int .i64 (s : Int), hdr s]) 1 [.int .i64 (s : Int), hs] vP' w3) : BkM w n i hdr pk lf s vP' vL w3 := by
  have o1 := h.ownP.no (Kp.alloc No wr o)
  have o2 := h.ownL.no (Kp.alloc No wr o)
  subst hhs
  refine ⟨?_, o2.keep ha.kp fun k hk e => ownT_far o2 o1 (by decide) hk e, h.lenP, h.lenL, h.nd, h.lt, ha.keeps o1 (h.kp.trans' (Kp.alloc No _ _))⟩
  rw [List.flatMap_append]
  exact ha.own
theorem BkM.at_ {r c gl : Nat} (h : BkM w n i hdr pk lf s vP (.slice (some ⟨gl, 0, none⟩) r c) wr) (hp : p < lf.length) (hsp : lf[p]? = some s) : wr.cell? ⟨gl, p, none⟩ = some (.int .i64 (s : Int)) := h.ownL.num hsp
theorem BkM.next {b : Nat} (h : BkM w n i hdr pk lf s vP vL wr) (hsp : lf[p]? = some s) (hp : p < lf.length) (hk : Kp No wr.drew w6) (ho : OwnT w6 b 3 1 vL' (List.take p lf ++ List.drop (p + 1) lf).length ((List.take p lf ++ List.drop (p + 1) lf).map fun s : Nat => Value.int .i64 (s : Int))) (hb : b = wr.drew.heap.size) : BkI w n (i + 1) hdr (pk ++ [s]) (List.take p lf ++ List.drop (p + 1) lf) vP vL' w6 := by
  have hkk : Kp No wr w6 := (Sm.drew wr).kp.trans' hk
  have hsplit : lf = List.take p lf ++ s :: List.drop (p + 1) lf := by
    have h1 := List.take_append_drop p lf
    have h2 : List.drop p lf = s :: List.drop (p + 1) lf := by
      rw [List.drop_eq_getElem_cons hp]
      rw [List.getElem?_eq_getElem hp] at hsp
      injection hsp with hsp
      rw [hsp]
    rw [h2] at h1
    exact h1.symm
  have hperm : List.Perm (pk ++ lf) (pk ++ [s] ++ (List.take p lf ++ List.drop (p + 1) lf)) := by
    rw [List.append_assoc]
    refine List.Perm.append_left pk ?_
    have h3 : List.Perm (List.take p lf ++ s :: List.drop (p + 1) lf) (s :: (List.take p lf ++ List.drop (p + 1) lf)) := List.perm_middle
    rw [← hsplit] at h3
    exact h3
  refine ⟨h.ownP.no hkk, ?_, by rw [List.length_append, h.lenP]; rfl, ?_, hperm.nodup_iff.1 h.nd, fun t ht => h.lt t (hperm.mem_iff.2 ht), h.kp.trans' hkk⟩
  · refine ⟨ho.1, ?_⟩
    rcases ho.2 with hn | ⟨g, cap, cur, e, hg, r⟩
    · exact .inl hn
    · exact .inr ⟨g, cap, cur, e, Nat.le_trans (by rw [hb]; exact (h.kp.trans' (Sm.drew wr).kp).size) hg, r⟩
  · have := h.lenL
    rw [List.length_append, List.length_take, List.length_drop]
    omega
end
end Go.Proofs.Ythmplbklphobaaa
