/- MsrBack: any so many shards of every message, in any order, decode to it. -/
import Derived.Test.YtbkelijmdpoanaaEw
import Derived.Test.YtbkelijmdpoanaaDe
import Derived.Test.YtbkelijmdpoanaaOq
import Derived.Deep.DeepCutAuto
import Derived.Deep.RegionHeld3
namespace Go.Proofs.Ytbkelijmdpoanaa
open Go.RowKit
set_option linter.unusedVariables false
set_option linter.unusedSimpArgs false
set_option maxRecDepth 100000

/-- The message's own equations. -/
theorem msg_back {n k a d q L : Nat} (hD : Dim n k a d q) {x : Nat → UInt8} {ss : Nat → Nat} {bs : List UInt8} {ds : Nat → List UInt8} (hm : bs.length = q * L) (hL : 1 ≤ L) (hds : ∀ j, j < k → ds j = rowL (a * L) (shE a d L bs (x (ss j)))) (hU : Uq k fun j => upw (x (ss j)) a)
    {X : Nat → Nat → UInt8} (hX : EqF q L (mulF q (eqM a (plcF a) fun j => x (ss j)) X) (knF a L ds)) : (rowL (q * L) fun t => X (t / L) (t % L)) = bs := by
  have ha := hD.a1
  have hP := plc_ok (a := a) (by have := hD.a7; omega) ha
  rw [← hD.q_] at hP
  have hM : EqF q L (mulF q (eqM a (plcF a) fun j => x (ss j)) fun p i => lg bs (p * L + i)) (knF a L ds) := fun t i ht hi => by
    show ud (eqM a (plcF a) (fun j => x (ss j)) t) (fun p => lg bs (p * L + i)) q = _
    rw [eqM_sh hP ha]
    unfold knF
    have htk : t / a < k := by
      rw [hD.q_, ← hD.k_, Nat.mul_comm] at ht
      exact Nat.div_lt_of_lt_mul ht
    rw [hds _ htk, lg_rowL _ (idx_lt (Nat.mod_lt _ ha) hi), shE_at bs _ hi, hD.d_]
  have hw : (redS q (eqM a (plcF a) fun j => x (ss j)) q).rk = q := eqM_whole hP ha hD.q_ (x := fun j => x (ss j)) (by rw [← hD.k_]; exact hU)
  have he := solve_only hw (hX.trans hM.symm)
  have h1 := rowL_lg bs
  rw [hm] at h1
  refine Eq.trans (rowL_congr fun t ht => ?_) h1
  have htq : t / L < q := Nat.div_lt_of_lt_mul (by rw [Nat.mul_comm]; exact ht)
  rw [he _ _ htq (Nat.mod_lt _ hL)]
  show lg bs (t / L * L + t % L) = lg bs t
  rw [Nat.mul_comm, Nat.div_add_mod]
theorem ty_part : Ty 45 (.agg #[.int .i64 0, .slice none 0 0]) 2 32 := ty_of (by kernel_rfl) rfl (by omega) (by omega)
theorem nws_two {w : World} {m : Nat} {u0 u1 : Value} (h0 : w.cell? ⟨m, 0, none⟩ = some u0) (h1 : w.cell? ⟨m, 1, none⟩ = some u1) (o0 : u0.oneCell' = true) (o1 : u1.oneCell' = true) : Nws w ⟨m, 0, none⟩ 1 2 [u0, u1] := by
  refine ⟨rfl, fun j x hx => ?_, fun x hx => ?_⟩
  · match j, hx with
    | 0, hx => simp at hx; subst hx; rw [add_none]; exact h0
    | 1, hx => simp at hx; subst hx; rw [add_none]; exact h1
    | j + 2, hx => simp at hx
  · simp at hx
    rcases hx with rfl | rfl
    · exact o0
    · exact o1
theorem nws_none {w : World} (ad : Addr) (sz : Nat) : Nws w ad 0 sz [] := ⟨by simp, fun j u hj => by simp at hj, fun u hu => by simp at hu⟩
theorem ownT_far {w : World} {b b' : Nat} {e e' : TypeId} {sz sz' n n' : Nat} {v v' : Value} {xs xs' : List Value} (h : OwnT w b e sz v n xs) (h' : OwnT w b' e' sz' v' n' xs') (hne : e ≠ e') {k : Nat} (hk : v.ownBlock = some k) : v'.ownBlock ≠ some k := fun hk' => by
  obtain ⟨c1, h1⟩ := h.kind hk
  obtain ⟨c2, h2⟩ := h'.kind hk'
  rw [h1] at h2
  injection h2 with h2
  injection h2 with h3 h4
  exact hne h4
theorem ownT_empty (w : World) : OwnT (w.alloc (.cells #[] 3)) w.heap.size 3 1 (.slice (some ⟨w.heap.size, 0, none⟩) 0 0) 0 [] := World.ownsRow_made w #[] 0 (Nat.le_refl _) (Nat.zero_le _) rfl
section
variable {w : World} {base g c r : Nat} {e : TypeId} {lf : List Nat} {v : Value} {A : Option Addr}
theorem OwnT.cap {xs : List Value} {sz n : Nat} (h : OwnT w base e sz (.slice (some ⟨g, 0, none⟩) r c) n xs) : n ≤ c := by
  rcases h.2 with ⟨e, _⟩ | ⟨g', cap, cur, e, _, _, h1, _⟩
  · cases e
  · injection e with _ _ e3
    omega
theorem OwnT.some_ {xs : List Value} {sz n : Nat} (h : OwnT w base e sz (.slice A r c) n xs) (hn : 0 < n) : ∃ g, A = some ⟨g, 0, none⟩ ∧ n = r := by
  rcases h.2 with ⟨_, e⟩ | ⟨g', cap, cur, e, _⟩
  · omega
  · injection e with e1 e2 e3
    exact ⟨g', e1, e2.symm⟩
theorem OwnT.num {n s : Nat} (h : OwnT w base 3 1 (.slice (some ⟨g, 0, none⟩) r c) n (lf.map fun s : Nat => Value.int .i64 (s : Int))) {p : Nat} (hp : lf[p]? = some s) : w.cell? ⟨g, p, none⟩ = some (.int .i64 (s : Int)) := by
  obtain ⟨g', e, _, _, _, hc⟩ := h.cell (j := p) (u := .int .i64 (s : Int)) (by rw [List.getElem?_map, hp]; rfl)
  injection e with e
  injection e with e
  subst e
  exact hc
theorem OwnT.nws_upto {p n : Nat} (h : OwnT w base 3 1 (.slice (some ⟨g, 0, none⟩) r c) n (lf.map fun s : Nat => Value.int .i64 (s : Int))) (hp : p ≤ lf.length) : Nws w ⟨g, 0, none⟩ p 1 ((lf.map fun s : Nat => Value.int .i64 (s : Int)).take p) := by
  refine ⟨by rw [List.length_take, List.length_map]; omega, fun j u hj => ?_, fun u hu => ?_⟩
  · rw [List.getElem?_take] at hj
    split at hj
    · obtain ⟨g', e, _, _, _, hc⟩ := h.cell hj
      injection e with e
      injection e with e
      subst e
      rw [add_none, Nat.zero_add]
      exact hc
    · cases hj
  · obtain ⟨s, _, rfl⟩ := List.mem_map.1 (List.mem_of_mem_take hu)
    rfl
theorem OwnT.nws_from {p n : Nat} (h : OwnT w base 3 1 (.slice (some ⟨g, 0, none⟩) r c) n (lf.map fun s : Nat => Value.int .i64 (s : Int))) (hp : p + 1 ≤ lf.length) : Nws w ⟨g, p + 1, none⟩ (lf.length - (p + 1)) 1 ((lf.map fun s : Nat => Value.int .i64 (s : Int)).drop (p + 1)) := by
  refine ⟨by rw [List.length_drop, List.length_map]; omega, fun j u hj => ?_, fun u hu => ?_⟩
  · rw [List.getElem?_drop] at hj
    obtain ⟨g', e, _, _, _, hc⟩ := h.cell hj
    injection e with e
    injection e with e
    subst e
    rw [add_none]
    exact hc
  · obtain ⟨s, _, rfl⟩ := List.mem_map.1 (List.mem_of_mem_drop hu)
    rfl
end
theorem flat_get (u v : Nat → Value) : ∀ (pk : List Nat) (j s : Nat), pk[j]? = some s → (pk.flatMap fun s => [u s, v s])[j * 2]? = some (u s) ∧ (pk.flatMap fun s => [u s, v s])[j * 2 + 1]? = some (v s)
  | [], j, s, h => by simp at h
  | t :: pk, 0, s, h => by simp at h; subst h; exact ⟨rfl, rfl⟩
  | t :: pk, j + 1, s, h => by
    have := flat_get u v pk j s (by simpa using h)
    rw [show (j + 1) * 2 = j * 2 + 2 by omega]
    exact this
/-- So many slots were picked, with their shards; the others are left. -/
structure BkI (w : World) (n i : Nat) (hdr : Nat → Value) (pk lf : List Nat) (vP vL : Value) (wr : World) : Prop where
  ownP : OwnT wr w.heap.size 45 2 vP i (pk.flatMap fun s : Nat => [Value.int .i64 (s : Int), hdr s])
  ownL : OwnT wr w.heap.size 3 1 vL lf.length (lf.map fun s : Nat => Value.int .i64 (s : Int))
  lenP : pk.length = i
  lenL : lf.length + i = n
  nd : (pk ++ lf).Nodup
  lt : ∀ s, s ∈ pk ++ lf → s < n
  kp : Kp No w wr
/-- One slot more was picked, and is still left. -/
structure BkM (w : World) (n i : Nat) (hdr : Nat → Value) (pk lf : List Nat) (s : Nat) (vP vL : Value) (wr : World) : Prop where
  ownP : OwnT wr w.heap.size 45 2 vP (i + 1) ((pk ++ [s]).flatMap fun s : Nat => [Value.int .i64 (s : Int), hdr s])
  ownL : OwnT wr w.heap.size 3 1 vL lf.length (lf.map fun s : Nat => Value.int .i64 (s : Int))
  lenP : pk.length = i
  lenL : lf.length + i = n
  nd : (pk ++ lf).Nodup
  lt : ∀ s, s ∈ pk ++ lf → s < n
  kp : Kp No w wr
section
variable {w wr w3 w6 : World} {n i p s : Nat} {hdr : Nat → Value} {pk lf : List Nat} {vP vL vP' vL' : Value} {o : Obj}
theorem BkI.no (h : BkI w n i hdr pk lf vP vL wr) (hk : Kp No wr w3) : BkI w n i hdr pk lf vP vL w3 := ⟨h.ownP.no hk, h.ownL.no hk, h.lenP, h.lenL, h.nd, h.lt, h.kp.trans' hk⟩
theorem BkI.mid {hs : Value} (h : BkI w n i hdr pk lf vP vL wr) (hsp : lf[p]? = some s) (hhs : hdr s = hs) (ha : AppT (wr.alloc o) w.heap.size 45 2 vP i (pk.flatMap fun s : Nat => [Value.int .i64 (s : Int), hdr s]) 1 [.int .i64 (s : Int), hs] vP' w3) : BkM w n i hdr pk lf s vP' vL w3 := by
  have o1 := h.ownP.no (Kp.alloc No wr o)
  have o2 := h.ownL.no (Kp.alloc No wr o)
  subst hhs
  refine ⟨?_, o2.keep ha.kp fun k hk e => ownT_far o2 o1 (by decide) hk e, h.lenP, h.lenL, h.nd, h.lt, ha.keeps o1 (h.kp.trans' (Kp.alloc No _ _))⟩
  rw [List.flatMap_append]
  exact ha.own
theorem BkM.at_ {r c gl : Nat} (h : BkM w n i hdr pk lf s vP (.slice (some ⟨gl, 0, none⟩) r c) wr) (hp : p < lf.length) (hsp : lf[p]? = some s) : wr.cell? ⟨gl, p, none⟩ = some (.int .i64 (s : Int)) := h.ownL.num hsp
theorem BkM.next {b : Nat} (h : BkM w n i hdr pk lf s vP vL wr) (hsp : lf[p]? = some s) (hp : p < lf.length) (hk : Kp No wr.drew w6) (ho : OwnT w6 b 3 1 vL' (List.take p lf ++ List.drop (p + 1) lf).length ((List.take p lf ++ List.drop (p + 1) lf).map fun s : Nat => Value.int .i64 (s : Int))) (hb : b = wr.drew.heap.size) : BkI w n (i + 1) hdr (pk ++ [s]) (List.take p lf ++ List.drop (p + 1) lf) vP vL' w6 := by
  have hkk : Kp No wr w6 := (Sm.drew wr).kp.trans' hk
  have hsplit : lf = List.take p lf ++ s :: List.drop (p + 1) lf := by
    have h1 := List.take_append_drop p lf
    have h2 : List.drop p lf = s :: List.drop (p + 1) lf := by
      rw [List.drop_eq_getElem_cons hp]
      rw [List.getElem?_eq_getElem hp] at hsp
      injection hsp with hsp
      rw [hsp]
    rw [h2] at h1
    exact h1.symm
  have hperm : List.Perm (pk ++ lf) (pk ++ [s] ++ (List.take p lf ++ List.drop (p + 1) lf)) := by
    rw [List.append_assoc]
    refine List.Perm.append_left pk ?_
    have h3 : List.Perm (List.take p lf ++ s :: List.drop (p + 1) lf) (s :: (List.take p lf ++ List.drop (p + 1) lf)) := List.perm_middle
    rw [← hsplit] at h3
    exact h3
  refine ⟨h.ownP.no hkk, ?_, by rw [List.length_append, h.lenP]; rfl, ?_, hperm.nodup_iff.1 h.nd, fun t ht => h.lt t (hperm.mem_iff.2 ht), h.kp.trans' hkk⟩
  · refine ⟨ho.1, ?_⟩
    rcases ho.2 with hn | ⟨g, cap, cur, e, hg, r⟩
    · exact .inl hn
    · exact .inr ⟨g, cap, cur, e, Nat.le_trans (by rw [hb]; exact (h.kp.trans' (Sm.drew wr).kp).size) hg, r⟩
  · have := h.lenL
    rw [List.length_append, List.length_take, List.length_drop]
    omega
end
section
variable {w : World} {A Ap : Option Addr} {m c mp cpp : Nat} {bs ps : List UInt8}
theorem back_notsmall (n k : Int) (h : ¬ (Rgt n k ∧ n ≤ 12 ∧ k ≤ 4)) : Calls Try.prog 6 #[.int .i64 n, .int .i64 k, .slice A m c, .slice Ap mp cpp] w (R6 w) := by
  have hs := small6_no n k w h
  clear h
  go_enter Try.func6, Try.ntmps6
  go_wp2_with fail
  refine hs.mono ?_
  rintro e w' ⟨rfl, rfl⟩
  go_wp2_with fail
  refine (awake6_any _).mono ?_
  rintro e w9 ⟨rfl, k9⟩
  go_wp2_with fail
  go_ret
  exact ⟨rfl, k9.below0⟩
theorem back_len (n k : Int) (h : Rgt n k) (h1 : n ≤ 12) (h2 : k ≤ 4) (hm : 200 < m ∨ m = 0) : Calls Try.prog 6 #[.int .i64 n, .int .i64 k, .slice A m c, .slice Ap mp cpp] w (R6 w) := by
  have hs := small6_yes n k w h h1 h2
  clear h
  rcases hm with hm | rfl
  · go_enter Try.func6, Try.ntmps6
    go_wp2_with fail
    refine hs.mono ?_
    rintro e w' ⟨rfl, rfl⟩
    go_wp2_with fail
    refine (awake6_any _).mono ?_
    rintro e w9 ⟨rfl, k9⟩
    go_wp2_with fail
    go_ret
    exact ⟨rfl, k9.below0⟩
  · go_enter Try.func6, Try.ntmps6
    go_wp2_with fail
    refine hs.mono ?_
    rintro e w' ⟨rfl, rfl⟩
    go_wp2_with fail
    refine (awake6_any _).mono ?_
    rintro e w9 ⟨rfl, k9⟩
    go_wp2_with fail
    go_ret
    exact ⟨rfl, k9.below0⟩
theorem back_unfit {n k a d q : Nat} (hD : Dim n k a d q) (h1 : n ≤ 12) (h2 : k ≤ 4) (hm : m ≤ 200) (hm0 : 0 < m) (hf : m % q ≠ 0) : Calls Try.prog 6 #[.int .i64 (n : Int), .int .i64 (k : Int), .slice A m c, .slice Ap mp cpp] w (R6 w) := by
  have hR : Rgt (n : Int) (k : Int) := by have := hD.k_; have := hD.d_; have := hD.n1; have := hD.a1; unfold Rgt; omega
  have hs := small6_yes (n : Int) (k : Int) w hR (by omega) (by omega)
  obtain ⟨hq1, hq2, _⟩ := hD.q56
  have hka : (k : Int) - 1 = (a : Int) := by have := hD.k_; omega
  have hkq : (k : Int) * (a : Int) = (q : Int) := by rw [hD.k_, hD.q_, Int.natCast_mul]
  have hk1 : 1 ≤ k := by have := hD.k_; omega
  obtain ⟨r, hr⟩ : ∃ r, r = m % q := ⟨_, rfl⟩
  have hrm : (m : Int) % (q : Int) = (r : Int) := by rw [hr, Int.natCast_emod]
  have hr0 : ((r : Int) != 0) = true := by simp; omega
  have hmz : ((m : Int) == 0) = false := by simp; omega
  clear hD hR hf hr
  go_enter Try.func6, Try.ntmps6
  go_wp2_with fail
  refine hs.mono ?_
  rintro e w' ⟨rfl, rfl⟩
  go_wp2_with fail
  refine (awake6_any _).mono ?_
  rintro e w9 ⟨rfl, k9⟩
  go_wp2_with fail
  go_ret
  exact ⟨rfl, k9.below0⟩
set_option maxHeartbeats 40000000 in
theorem back_fit {n k a d q L : Nat} {x : Nat → UInt8} (hB : Bts w (.slice A m c) bs) (hPk : Bts w (.slice Ap mp cpp) ps) (hD : Dim n k a d q) (hX : Pts n a x) (h1 : n ≤ 12) (h2 : k ≤ 4) (hm : m ≤ 200) (hm0 : 0 < m) (hf : m = q * L) (hL : 1 ≤ L) : Calls Try.prog 6 #[.int .i64 (n : Int), .int .i64 (k : Int), .slice A m c, .slice Ap mp cpp] w (R6 w) := by
  have hR : Rgt (n : Int) (k : Int) := by have := hD.k_; have := hD.d_; have := hD.n1; have := hD.a1; unfold Rgt; omega
  have hs := small6_yes (n : Int) (k : Int) w hR (by omega) (by omega)
  obtain ⟨hq1, hq2, hq3⟩ := hD.q56
  have hka : (k : Int) - 1 = (a : Int) := by have := hD.k_; omega
  have hkq : (k : Int) * (a : Int) = (q : Int) := by rw [hD.k_, hD.q_, Int.natCast_mul]
  have hk1 : 1 ≤ k := by have := hD.k_; omega
  have hkn : k < n + 1 := by have := hD.k_; have := hD.d_; have := hD.n1; have := hD.a1; omega
  have hn1 : 1 ≤ n := by omega
  have hrm : (m : Int) % (q : Int) = 0 := by rw [hf, Int.natCast_mul, Int.mul_emod_right]
  have hmz : ((m : Int) == 0) = false := by simp; omega
  have HN := hide (mnew_yes w hD hX)
  have HE := hide (fun w' g (hk : Kp No w w') (hC : CodeAt w' g n k x) => enc_yes (L := L) hC hD (hB.no hk) hf (by omega) hL)
  have HD := hide hD
  have HX := hide hX
  have HF := hide hf
  obtain ⟨tt, htt⟩ : ∃ tt, tt = strOf bs := ⟨_, rfl⟩
  have HT := hide htt
  have HBL := hide hB.len
  clear hD hX hR hf htt
  go_enter Try.func6, Try.ntmps6
  go_wp2_with fail
  refine hs.mono ?_
  rintro e w' ⟨rfl, rfl⟩
  go_wp2_with fail
  refine HN.out.mono ?_
  clear hka hkq hrm hmz hs
  rintro e w1 ⟨g, rfl, hC, hk⟩
  go_wp2_with fail
  refine (HE.out w1 g hk hC).mono ?_
  rintro e w2 ⟨A2, c2, rfl, hR2, hk2⟩
  have hk2' := hk.trans' hk2
  have hC2 := hC.no hk2
  obtain ⟨B2, o2, _, _, _, _, rfl, _, _, _⟩ := hR2.get (j := 0) (by omega)
  obtain ⟨hdr, hhdr⟩ : ∃ hdr : Nat → Value, ∀ j, j < n → ∃ A' r cc, w2.cell? ⟨B2, o2 + j, none⟩ = some (.slice A' r cc) ∧ hdr j = .slice A' r cc ∧ Bts w2 (.slice A' r cc) (rowL (a * L) (shE a d L bs (x j))) := by
    have hch : ∀ j, ∃ v : Value, j < n → ∃ A' r cc, w2.cell? ⟨B2, o2 + j, none⟩ = some (.slice A' r cc) ∧ v = .slice A' r cc ∧ Bts w2 (.slice A' r cc) (rowL (a * L) (shE a d L bs (x j))) := fun j => by
      by_cases hj : j < n
      · obtain ⟨B', o', A', r, cc, b', e, hc, hb', hbt⟩ := hR2.get hj
        injection e with e
        injection e with e1 e2
        subst e1 e2
        rw [matL_get _ hj] at hb'
        injection hb' with hb'
        subst hb'
        exact ⟨_, fun _ => ⟨A', r, cc, hc, rfl, hbt⟩⟩
      · exact ⟨.slice none 0 0, fun h => absurd h hj⟩
    exact Classical.axiomOfChoice hch
  have HH := hide hhdr
  clear hhdr hR2 hk2 hk hC HE HN
  go_wp2_with fail
  go_loopw [13, 14] (fun v iv wr => ∃ (i : Nat) (A' : Option Addr) (r cc : Nat), i ≤ n ∧ iv = .int .i64 (i : Int) ∧ v = .slice A' r cc ∧ OwnT wr w2.heap.size 3 1 (.slice A' r cc) i ((List.range i).map fun s : Nat => Value.int .i64 (s : Int)) ∧ Kp No w2 wr) (fun _ iv _ => n - (intOf iv).toNat)
  case atStart => exact ⟨0, none, 0, 0, Nat.zero_le _, rfl, rfl, OwnT.nil _ _ _ _, Kp.refl _ _⟩
  case round =>
    obtain ⟨i, A', r, cc, hi, rfl, rfl, ho, hkw⟩ := hrel
    by_cases hlt : i < n
    · have hsz := hkw.size
      have ho2 := ho.no (Kp.alloc No wr (.cells #[.int .i64 (i : Int)] 3))
      go_wp2_with (first
        | (at_builtin
           refine wpList_appT ty_int rfl (.tmp 70) (.tmp 72) _ rfl Try.underlying43 rfl ho2 _ _ rfl (nws_one (fresh_cell _ _ _) rfl) (by omega) ?hs ?_
           case hs => simp; omega
           intro A3 n3 c3 w3 hn3 ha
           have HN3 := hide hn3
           clear hn3))
      go_round
      case rel => exact ⟨i + 1, A3, n3, c3, by omega, by go_num, rfl, by rw [List.range_succ, List.map_append]; exact ha.own, ha.keeps ho2 (hkw.trans' (Kp.alloc No _ _))⟩
      case measure => simp [intOf]; omega
    · obtain rfl : i = n := by omega
      have hI0 : BkI w2 i 0 hdr [] (List.range i) (.slice none 0 0) (.slice A' r cc) wr := ⟨OwnT.nil _ _ _ _, by rw [List.length_range]; exact ho, rfl, by rw [List.length_range, Nat.add_zero], by rw [List.nil_append]; exact List.nodup_range, fun s hs => List.mem_range.1 (by simpa using hs), hkw⟩
      clear ho hkw
      go_wp2_with fail
      go_loopw [13, 15, 16] (fun vL vP iv wr => ∃ (j : Nat) (pk lf : List Nat) (A1 : Option Addr) (n1 c1 : Nat) (A2 : Option Addr) (n2 c2 : Nat), j ≤ k ∧ iv = .int .i64 (j : Int) ∧ vP = .slice A1 n1 c1 ∧ vL = .slice A2 n2 c2 ∧ BkI w2 i j hdr pk lf (.slice A1 n1 c1) (.slice A2 n2 c2) wr) (fun _ _ iv _ => k - (intOf iv).toNat)
      case atStart => exact ⟨0, [], List.range i, none, 0, 0, A', r, cc, Nat.zero_le _, rfl, rfl, rfl, hI0⟩
      case round =>
        clear hI0
        obtain ⟨j, pk, lf, A1, n1, c1, A2, r, cl, hj, rfl, rfl, rfl, hI⟩ := hrel
        by_cases hltj : j < k
        · have hlf : 0 < lf.length := by have := hI.lenL; omega
          obtain ⟨gl, rfl, hrl⟩ := hI.ownL.some_ hlf
          have HRL : Hid (r = lf.length) := hrl.symm
          have hr1 : 1 ≤ r := by omega
          have hr24 : r ≤ 24 := by have := hI.lenL; omega
          clear hrl hlf
          go_upto_if 82 with fail
          go_cut [17] (fun v wx => ∃ p : Nat, v = .int .i64 (p : Int) ∧ p < r ∧ BkI w2 i j hdr pk lf (.slice A1 n1 c1) (.slice (some ⟨gl, 0, none⟩) r cl) wx)
          case first =>
            by_cases hpk : j < mp
            · obtain ⟨B3, o3, u, rfl, hu, z3⟩ := (hPk.no (hk2'.trans' hI.kp)).at_ hpk
              obtain ⟨p, hp⟩ : ∃ p, p = u.toNat % r := ⟨_, rfl⟩
              have hpr : p < r := by rw [hp]; exact Nat.mod_lt _ (by omega)
              have hpm : (u.toNat : Int) % (r : Int) = (p : Int) := by rw [hp, Int.natCast_emod]
              have hu8 := u8_lt u
              clear hp hu
              go_wp2_with fail
              go_meet
              exact ⟨p, (by simp; exact hpm), hpr, hI⟩
            · have hpk' : mp ≤ j := by omega
              clear hpk
              go_wp2_with fail
              go_meet
              exact ⟨0, by simp, by omega, hI⟩
          case rest =>
            clear hI
            obtain ⟨p, rfl, hpr, hI⟩ := hcut
            have hplt : p < lf.length := by have := HRL.out; omega
            obtain ⟨s, hsp⟩ : ∃ s, lf[p]? = some s := ⟨_, List.getElem?_eq_getElem hplt⟩
            have hsi : s < i := hI.lt s (List.mem_append_right _ (List.mem_of_getElem? hsp))
            obtain ⟨Ah, rh, ch, z2, hhs, _⟩ := HH.out s hsi
            have HHS := hide hhs
            have HZ2 := hide z2
            have hsii : (s : Int) < (i : Int) := by omega
            have hpri : (p : Int) < (r : Int) := by omega
            clear hhs
            have hS0 : wc.drew.cell? ⟨gl, p, none⟩ = some (.int .i64 (s : Int)) ∧ wc.drew.cell? ⟨B2, o2 + s, none⟩ = some (.slice Ah rh ch) := ⟨by rw [(Sm.drew wc).cell]; exact hI.ownL.num hsp, by rw [(Sm.drew wc).cell]; exact hI.kp.cell z2 fun f => f⟩
            have HI := hide (hI.no (Sm.drew wc).kp)
            clear hI z2
            go_wp2_with fail
            refine wp_region_noPanic ?_
            refine wp_region_held_drew (S := fun w' => w'.cell? ⟨gl, p, none⟩ = some (.int .i64 (s : Int)) ∧ w'.cell? ⟨B2, o2 + s, none⟩ = some (.slice Ah rh ch)) (by kernel_rfl) (hS0) (fun hHeld => ?_)
            refine wpAnyH_take (i := 0) (v := ?vax1) (oi := ?oax1) ?hax1 (by kernel_rfl) (by kernel_rfl) (by kernel_rfl) (fun _ _ _ h => h) (Or.inl ⟨?wax1, ?yax1⟩) hHeld ?rax1
            case hax1 => simp only [List.getElem?_toArray, List.getElem?_cons_zero, List.getElem?_cons_succ]; rfl
            case wax1 => rfl
            case yax1 => intro w hSw; (try dsimp only at hSw); go_simp; (try with_reducible rfl)
            simp only [Act.put, List.setIfInBounds_toArray, List.set_cons_zero, List.set_cons_succ]
            refine wpAnyH_take (i := 1) (v := ?vax2) (oi := ?oax2) ?hax2 (by kernel_rfl) (by kernel_rfl) (by kernel_rfl) (fun _ _ _ h => h) (Or.inl ⟨?wax2, ?yax2⟩) hHeld ?rax2
            case hax2 => simp only [List.getElem?_toArray, List.getElem?_cons_zero, List.getElem?_cons_succ]; rfl
            case wax2 => rfl
            case yax2 => intro w hSw; (try dsimp only at hSw); go_simp; (try with_reducible rfl)
            simp only [Act.put, List.setIfInBounds_toArray, List.set_cons_zero, List.set_cons_succ]
            refine wpAnyH_take (i := 2) (v := ?vax3) (oi := ?oax3) ?hax3 (by kernel_rfl) (by kernel_rfl) (by kernel_rfl) (fun _ _ _ h => h) (Or.inl ⟨?wax3, ?yax3⟩) hHeld ?rax3
            case hax3 => simp only [List.getElem?_toArray, List.getElem?_cons_zero, List.getElem?_cons_succ]; rfl
            case wax3 => rfl
            case yax3 => intro w hSw; (try dsimp only at hSw); go_simp; (try with_reducible rfl)
            simp only [Act.put, List.setIfInBounds_toArray, List.set_cons_zero, List.set_cons_succ]
            refine wpAnyH_take (i := 3) (v := ?vax4) (oi := ?oax4) ?hax4 (by kernel_rfl) (by kernel_rfl) (by kernel_rfl) (fun _ _ _ h => h) (Or.inl ⟨?wax4, ?yax4⟩) hHeld ?rax4
            case hax4 => simp only [List.getElem?_toArray, List.getElem?_cons_zero, List.getElem?_cons_succ]; rfl
            case wax4 => rfl
            case yax4 => intro w hSw; (try dsimp only at hSw); go_simp; (try with_reducible rfl)
            simp only [Act.put, List.setIfInBounds_toArray, List.set_cons_zero, List.set_cons_succ]
            refine wpAnyH_take (i := 4) (v := ?vax5) (oi := ?oax5) ?hax5 (by kernel_rfl) (by kernel_rfl) (by kernel_rfl) (fun _ _ _ h => h) (Or.inl ⟨?wax5, ?yax5⟩) hHeld ?rax5
            case hax5 => simp only [List.getElem?_toArray, List.getElem?_cons_zero, List.getElem?_cons_succ]; rfl
            case wax5 => rfl
            case yax5 => intro w hSw; (try dsimp only at hSw); go_simp; (try with_reducible rfl)
            simp only [Act.put, List.setIfInBounds_toArray, List.set_cons_zero, List.set_cons_succ]
            refine wpAnyH_take (i := 5) (v := ?vax6) (oi := ?oax6) ?hax6 (by kernel_rfl) (by kernel_rfl) (by kernel_rfl) (fun _ _ _ h => h) (Or.inl ⟨?wax6, ?yax6⟩) hHeld ?rax6
            case hax6 => simp only [List.getElem?_toArray, List.getElem?_cons_zero, List.getElem?_cons_succ]; rfl
            case wax6 => rfl
            case yax6 => intro w hSw; (try dsimp only at hSw); go_simp; (try with_reducible rfl)
            simp only [Act.put, List.setIfInBounds_toArray, List.set_cons_zero, List.set_cons_succ]
            refine wpAnyH_take (i := 6) (v := ?vax7) (oi := ?oax7) ?hax7 (by kernel_rfl) (by kernel_rfl) (by kernel_rfl) (fun _ _ _ h => h) (Or.inl ⟨?wax7, ?yax7⟩) hHeld ?rax7
            case hax7 => simp only [List.getElem?_toArray, List.getElem?_cons_zero, List.getElem?_cons_succ]; rfl
            case wax7 => rfl
            case yax7 => intro w hSw; (try dsimp only at hSw); go_simp; (try with_reducible rfl)
            simp only [Act.put, List.setIfInBounds_toArray, List.set_cons_zero, List.set_cons_succ]
            refine wpAnyH_take (i := 7) (v := ?vax8) (oi := ?oax8) ?hax8 (by kernel_rfl) (by kernel_rfl) (by kernel_rfl) (fun _ _ _ h => h) (Or.inl ⟨?wax8, ?yax8⟩) hHeld ?rax8
            case hax8 => simp only [List.getElem?_toArray, List.getElem?_cons_zero, List.getElem?_cons_succ]; rfl
            case wax8 => rfl
            case yax8 => intro w hSw; (try dsimp only at hSw); go_simp; (try with_reducible rfl)
            simp only [Act.put, List.setIfInBounds_toArray, List.set_cons_zero, List.set_cons_succ]
            refine wpAnyH_take (i := 8) (v := ?vax9) (oi := ?oax9) ?hax9 (by kernel_rfl) (by kernel_rfl) (by kernel_rfl) (fun _ _ _ h => h) (Or.inl ⟨?wax9, ?yax9⟩) hHeld ?rax9
            case hax9 => simp only [List.getElem?_toArray, List.getElem?_cons_zero, List.getElem?_cons_succ]; rfl
            case wax9 => rfl
            case yax9 => intro w hSw; (try dsimp only at hSw); go_simp; (try with_reducible rfl)
            simp only [Act.put, List.setIfInBounds_toArray, List.set_cons_zero, List.set_cons_succ]
            refine wpAnyH_take (i := 9) (v := ?vax10) (oi := ?oax10) ?hax10 (by kernel_rfl) (by kernel_rfl) (by kernel_rfl) (fun _ _ _ h => h) (Or.inl ⟨?wax10, ?yax10⟩) hHeld ?rax10
            case hax10 => simp only [List.getElem?_toArray, List.getElem?_cons_zero, List.getElem?_cons_succ]; rfl
            case wax10 => rfl
            case yax10 => intro w hSw; (try dsimp only at hSw); go_simp; (try with_reducible rfl)
            simp only [Act.put, List.setIfInBounds_toArray, List.set_cons_zero, List.set_cons_succ]
            refine wpAnyH_take (i := 10) (v := ?vax11) (oi := ?oax11) ?hax11 (by kernel_rfl) (by kernel_rfl) (by kernel_rfl) (fun _ _ _ h => h) (Or.inl ⟨?wax11, ?yax11⟩) hHeld ?rax11
            case hax11 => simp only [List.getElem?_toArray, List.getElem?_cons_zero, List.getElem?_cons_succ]; rfl
            case wax11 => rfl
            case yax11 => intro w hSw; (try dsimp only at hSw); go_simp; (try with_reducible rfl)
            simp only [Act.put, List.setIfInBounds_toArray, List.set_cons_zero, List.set_cons_succ]
            refine wpAnyH_take (i := 11) (v := ?vax12) (oi := ?oax12) ?hax12 (by kernel_rfl) (by kernel_rfl) (by kernel_rfl) (fun _ _ _ h => h) (Or.inl ⟨?wax12, ?yax12⟩) hHeld ?rax12
            case hax12 => simp only [List.getElem?_toArray, List.getElem?_cons_zero, List.getElem?_cons_succ]; rfl
            case wax12 => rfl
            case yax12 => intro w hSw; (try dsimp only at hSw); go_simp; (try with_reducible rfl)
            simp only [Act.put, List.setIfInBounds_toArray, List.set_cons_zero, List.set_cons_succ]
            refine wpAnyH_take (i := 12) (v := ?vax13) (oi := ?oax13) ?hax13 (by kernel_rfl) (by kernel_rfl) (by kernel_rfl) (fun _ _ _ h => h) (Or.inl ⟨?wax13, ?yax13⟩) hHeld ?rax13
            case hax13 => simp only [List.getElem?_toArray, List.getElem?_cons_zero, List.getElem?_cons_succ]; rfl
            case wax13 => rfl
            case yax13 => intro w hSw; (try dsimp only at hSw); go_simp; (try with_reducible rfl)
            simp only [Act.put, List.setIfInBounds_toArray, List.set_cons_zero, List.set_cons_succ]
            refine wpAnyH_ready (rs := [13]) (by kernel_rfl) (by simp) ?_
            refine AllReadyH.cons (o := ?oax14) ?hax14 (fun K hK => ?sax14) AllReadyH.nil
            case hax14 => simp only [List.getElem?_toArray, List.getElem?_cons_zero, List.getElem?_cons_succ]; rfl
            go_simp
            refine hK.out _ _ (⟨(Kp.alloc No _ _).cell hHeld.1 fun f => f, (Kp.alloc No _ _).cell hHeld.2 fun f => f⟩) (fun hHeld => ?_)
            clear hK K
            try simp only [Act.put, List.setIfInBounds_toArray, List.set_cons_zero, List.set_cons_succ]
            refine wpAnyH_ready (rs := [14]) (by kernel_rfl) (by simp) ?_
            refine AllReadyH.cons (o := ?oax15) ?hax15 (fun K hK => ?sax15) AllReadyH.nil
            case hax15 => simp only [List.getElem?_toArray, List.getElem?_cons_zero, List.getElem?_cons_succ]; rfl
            have o14 := (HI.out.ownP.no (Kp.alloc No _ (.cells #[.int .i64 (s : Int), .slice Ah rh ch] 45)))
            refine step_appT ty_part rfl (.tmp 91) (.tmp 104) _ rfl Try.underlying42 rfl o14 _ _ rfl (nws_two (u0 := .int .i64 (s : Int)) (u1 := .slice Ah rh ch) (by simp) (by simp) rfl rfl) (by omega) ?hb14 ?_
            case hb14 => exact Nat.le_trans HI.out.kp.size (Kp.alloc No _ _).size
            intro A3 n3 c3 w3 hn3 ha1
            have HN3 := hide hn3
            clear hn3
            have hM := HI.out.mid hsp HHS.out ha1
            have x1 := hM.at_ hplt hsp
            have x2 := hM.kp.cell HZ2.out fun f => f
            refine hK.out _ _ (⟨x1, x2⟩) (fun hHeld => ?_)
            clear hK K
            try simp only [Act.put, List.setIfInBounds_toArray, List.set_cons_zero, List.set_cons_succ]
            refine wpAnyH_ready (rs := [15]) (by kernel_rfl) (by simp) ?_
            refine AllReadyH.cons (o := ?oax16) ?hax16 (fun K hK => ?sax16) AllReadyH.nil
            case hax16 => simp only [List.getElem?_toArray, List.getElem?_cons_zero, List.getElem?_cons_succ]; rfl
            go_simp
            refine hK.out _ _ (⟨x1, x2⟩) (fun hHeld => ?_)
            clear hK K
            try simp only [Act.put, List.setIfInBounds_toArray, List.set_cons_zero, List.set_cons_succ]
            refine wpAnyH_done (by kernel_rfl) ?_ _
            refine NoPanic.normal ?_
            have HM3 := hide hM
            have HSP := hide hsp
            have HPLT := hide hplt
            have HX1 : Hid (∀ w', Kp No w3.drew w' → Nws w' ⟨gl, 0, none⟩ p 1 ((lf.map fun s : Nat => Value.int .i64 (s : Int)).take p)) := fun w' hk => (hM.ownL.no ((Sm.drew w3).kp.trans' hk)).nws_upto (by omega)
            have hr : r = lf.length := HRL.out
            have HPR : Hid (p < r ∧ r ≤ 24 ∧ p + (r - (p + 1)) ≤ 24) := ⟨by omega, by omega, by omega⟩
            have HLE : Hid ((List.take p lf ++ List.drop (p + 1) lf).length = 0 + p + (r - (p + 1)) ∧ ((List.take p lf ++ List.drop (p + 1) lf).map fun s : Nat => Value.int .i64 (s : Int)) = [] ++ (lf.map fun s : Nat => Value.int .i64 (s : Int)).take p ++ (lf.map fun s : Nat => Value.int .i64 (s : Int)).drop (p + 1)) := by
              refine ⟨?_, ?_⟩
              · rw [List.length_append, List.length_take, List.length_drop]; omega
              · rw [List.map_append, List.map_take, List.map_drop, List.nil_append]
            have hcl : r ≤ cl := by rw [hr]; exact hM.ownL.cap
            have wk : IntKind.i64.wrap ((p : Int) + 1) = (p : Int) + 1 := IntWalk.i64_in _ (by omega)
            have q1 : (0 : Int) ≤ (p : Int) + 1 := by omega
            have q2 : ((p : Int) + 1).toNat = p + 1 := by omega
            have q3 : (p : Int) + 1 ≤ (r : Int) := by omega
            have q4 : (p : Int) ≤ (cl : Int) := by omega
            have q5 : (p : Int) ≤ (p : Int) + 1 := by omega
            have HX2a : cl = p + 1 → Hid (∀ w', Kp No w3.drew w' → Nws w' ⟨gl, 0, none⟩ (r - (p + 1)) 1 ((lf.map fun s : Nat => Value.int .i64 (s : Int)).drop (p + 1))) := fun hcap w' hk => by
              have e : r - (p + 1) = 0 := by omega
              rw [e, List.drop_eq_nil_of_le (by rw [List.length_map]; omega)]
              exact nws_none _ _
            have HX2b : Hid (∀ w', Kp No w3.drew w' → Nws w' ⟨gl, p + 1, none⟩ (r - (p + 1)) 1 ((lf.map fun s : Nat => Value.int .i64 (s : Int)).drop (p + 1))) := fun w' hk => by
              rw [hr]
              exact (hM.ownL.no ((Sm.drew w3).kp.trans' hk)).nws_from (by omega)
            clear hr hM hplt hsp
            go_wp2_with fail
            by_cases hcap : cl = p + 1
            · have HX2 := HX2a hcap
              clear HX2a HX2b
              refine wp_region_noPanic ?_
              refine wp_region_held_drew (S := fun _ => True) (by kernel_rfl) (trivial) (fun hHeld => ?_)
              refine wpAnyH_take (i := 1) (v := ?vbx1) (oi := ?obx1) ?hbx1 (by kernel_rfl) (by kernel_rfl) (by kernel_rfl) (fun _ _ _ h => h) (Or.inl ⟨?wbx1, ?ybx1⟩) hHeld ?rbx1
              case hbx1 => simp only [List.getElem?_toArray, List.getElem?_cons_zero, List.getElem?_cons_succ]; rfl
              case wbx1 => rfl
              case ybx1 => intro w hSw; (try dsimp only at hSw); go_simp; (try with_reducible rfl)
              simp only [Act.put, List.setIfInBounds_toArray, List.set_cons_zero, List.set_cons_succ]
              refine wpAnyH_take (i := 2) (v := ?vbx2) (oi := ?obx2) ?hbx2 (by kernel_rfl) (by kernel_rfl) (by kernel_rfl) (fun _ _ _ h => h) (Or.inl ⟨?wbx2, ?ybx2⟩) hHeld ?rbx2
              case hbx2 => simp only [List.getElem?_toArray, List.getElem?_cons_zero, List.getElem?_cons_succ]; rfl
              case wbx2 => rfl
              case ybx2 => intro w hSw; (try dsimp only at hSw); go_simp; (try with_reducible rfl)
              simp only [Act.put, List.setIfInBounds_toArray, List.set_cons_zero, List.set_cons_succ]
              refine wpAnyH_take (i := 3) (v := ?vbx3) (oi := ?obx3) ?hbx3 (by kernel_rfl) (by kernel_rfl) (by kernel_rfl) (fun _ _ _ h => h) (Or.inl ⟨?wbx3, ?ybx3⟩) hHeld ?rbx3
              case hbx3 => simp only [List.getElem?_toArray, List.getElem?_cons_zero, List.getElem?_cons_succ]; rfl
              case wbx3 => rfl
              case ybx3 => intro w hSw; (try dsimp only at hSw); go_simp; (try with_reducible rfl)
              simp only [Act.put, List.setIfInBounds_toArray, List.set_cons_zero, List.set_cons_succ]
              refine wpAnyH_take (i := 5) (v := ?vbx4) (oi := ?obx4) ?hbx4 (by kernel_rfl) (by kernel_rfl) (by kernel_rfl) (fun _ _ _ h => h) (Or.inl ⟨?wbx4, ?ybx4⟩) hHeld ?rbx4
              case hbx4 => simp only [List.getElem?_toArray, List.getElem?_cons_zero, List.getElem?_cons_succ]; rfl
              case wbx4 => rfl
              case ybx4 => intro w hSw; (try dsimp only at hSw); go_simp; (try with_reducible rfl)
              simp only [Act.put, List.setIfInBounds_toArray, List.set_cons_zero, List.set_cons_succ]
              refine wpAnyH_take (i := 6) (v := ?vbx5) (oi := ?obx5) ?hbx5 (by kernel_rfl) (by kernel_rfl) (by kernel_rfl) (fun _ _ _ h => h) (Or.inl ⟨?wbx5, ?ybx5⟩) hHeld ?rbx5
              case hbx5 => simp only [List.getElem?_toArray, List.getElem?_cons_zero, List.getElem?_cons_succ]; rfl
              case wbx5 => rfl
              case ybx5 => intro w hSw; (try dsimp only at hSw); go_simp; (try with_reducible rfl)
              simp only [Act.put, List.setIfInBounds_toArray, List.set_cons_zero, List.set_cons_succ]
              refine wpAnyH_take (i := 7) (v := ?vbx6) (oi := ?obx6) ?hbx6 (by kernel_rfl) (by kernel_rfl) (by kernel_rfl) (fun _ _ _ h => h) (Or.inl ⟨?wbx6, ?ybx6⟩) hHeld ?rbx6
              case hbx6 => simp only [List.getElem?_toArray, List.getElem?_cons_zero, List.getElem?_cons_succ]; rfl
              case wbx6 => rfl
              case ybx6 => intro w hSw; (try dsimp only at hSw); go_simp; (try with_reducible rfl)
              simp only [Act.put, List.setIfInBounds_toArray, List.set_cons_zero, List.set_cons_succ]
              refine wpAnyH_take (i := 8) (v := ?vbx7) (oi := ?obx7) ?hbx7 (by kernel_rfl) (by kernel_rfl) (by kernel_rfl) (fun _ _ _ h => h) (Or.inl ⟨?wbx7, ?ybx7⟩) hHeld ?rbx7
              case hbx7 => simp only [List.getElem?_toArray, List.getElem?_cons_zero, List.getElem?_cons_succ]; rfl
              case wbx7 => rfl
              case ybx7 => intro w hSw; (try dsimp only at hSw); go_simp; (try with_reducible rfl)
              simp only [Act.put, List.setIfInBounds_toArray, List.set_cons_zero, List.set_cons_succ]
              refine wpAnyH_ready (rs := [0]) (by kernel_rfl) (by simp) ?_
              refine AllReadyH.cons (o := ?obx8) ?hbx8 (fun K hK => ?sbx8) AllReadyH.nil
              case hbx8 => simp only [List.getElem?_toArray, List.getElem?_cons_zero, List.getElem?_cons_succ]; rfl
              go_simp
              refine hK.out _ _ (trivial) (fun hHeld => ?_)
              clear hK K
              try simp only [Act.put, List.setIfInBounds_toArray, List.set_cons_zero, List.set_cons_succ]
              refine wpAnyH_ready (rs := [4]) (by kernel_rfl) (by simp) ?_
              refine AllReadyH.cons (o := ?obx9) ?hbx9 (fun K hK => ?sbx9) AllReadyH.nil
              case hbx9 => simp only [List.getElem?_toArray, List.getElem?_cons_zero, List.getElem?_cons_succ]; rfl
              refine step_appT ty_int rfl (.tmp 106) (.tmp 109) _ rfl Try.underlying43 rfl (ownT_empty w3.drew) _ _ rfl (HX1.out _ (Kp.alloc No _ _)) (by have := HPR.out; omega) ?hb4b ?_
              case hb4b => simp
              intro A4 n4 c4 w4 hn4 ha4
              have HN4 := hide hn4
              clear hn4
              have k4 : Kp No w3.drew w4 := ha4.keeps (ownT_empty w3.drew) (Kp.alloc No _ _)
              refine hK.out _ _ (trivial) (fun hHeld => ?_)
              clear hK K
              try simp only [Act.put, List.setIfInBounds_toArray, List.set_cons_zero, List.set_cons_succ]
              refine wpAnyH_ready (rs := [9]) (by kernel_rfl) (by simp) ?_
              refine AllReadyH.cons (o := ?obx10) ?hbx10 (fun K hK => ?sbx10) AllReadyH.nil
              case hbx10 => simp only [List.getElem?_toArray, List.getElem?_cons_zero, List.getElem?_cons_succ]; rfl
              refine step_appT ty_int rfl (.tmp 110) (.tmp 114) _ rfl Try.underlying43 rfl ha4.own _ _ rfl (HX2.out _ k4) (by have := HPR.out; omega) k4.size ?_
              intro A5 n5 c5 w5 hn5 ha5
              have HN5 := hide hn5
              clear hn5
              have k5 : Kp No w3.drew w5 := ha5.keeps ha4.own k4
              refine hK.out _ _ (trivial) (fun hHeld => ?_)
              clear hK K
              try simp only [Act.put, List.setIfInBounds_toArray, List.set_cons_zero, List.set_cons_succ]
              refine wpAnyH_ready (rs := [10]) (by kernel_rfl) (by simp) ?_
              refine AllReadyH.cons (o := ?obx11) ?hbx11 (fun K hK => ?sbx11) AllReadyH.nil
              case hbx11 => simp only [List.getElem?_toArray, List.getElem?_cons_zero, List.getElem?_cons_succ]; rfl
              go_simp
              refine hK.out _ _ (trivial) (fun hHeld => ?_)
              clear hK K
              try simp only [Act.put, List.setIfInBounds_toArray, List.set_cons_zero, List.set_cons_succ]
              refine wpAnyH_done (by kernel_rfl) ?_ _
              refine NoPanic.normal ?_
              go_wp2_with fail
              go_round
              case rel => exact ⟨j + 1, _, _, A3, n3, c3, A5, n5, c5, by omega, by go_num, rfl, rfl, HM3.out.next HSP.out HPLT.out k5 (by rw [HLE.out.1, HLE.out.2]; exact ha5.own) rfl⟩
              case measure => simp [intOf]; omega
            · have HX2 := HX2b
              clear HX2a HX2b
              refine wp_region_noPanic ?_
              refine wp_region_held_drew (S := fun _ => True) (by kernel_rfl) (trivial) (fun hHeld => ?_)
              refine wpAnyH_take (i := 1) (v := ?vcx1) (oi := ?ocx1) ?hcx1 (by kernel_rfl) (by kernel_rfl) (by kernel_rfl) (fun _ _ _ h => h) (Or.inl ⟨?wcx1, ?ycx1⟩) hHeld ?rcx1
              case hcx1 => simp only [List.getElem?_toArray, List.getElem?_cons_zero, List.getElem?_cons_succ]; rfl
              case wcx1 => rfl
              case ycx1 => intro w hSw; (try dsimp only at hSw); go_simp; (try with_reducible rfl)
              simp only [Act.put, List.setIfInBounds_toArray, List.set_cons_zero, List.set_cons_succ]
              refine wpAnyH_take (i := 2) (v := ?vcx2) (oi := ?ocx2) ?hcx2 (by kernel_rfl) (by kernel_rfl) (by kernel_rfl) (fun _ _ _ h => h) (Or.inl ⟨?wcx2, ?ycx2⟩) hHeld ?rcx2
              case hcx2 => simp only [List.getElem?_toArray, List.getElem?_cons_zero, List.getElem?_cons_succ]; rfl
              case wcx2 => rfl
              case ycx2 => intro w hSw; (try dsimp only at hSw); go_simp; (try with_reducible rfl)
              simp only [Act.put, List.setIfInBounds_toArray, List.set_cons_zero, List.set_cons_succ]
              refine wpAnyH_take (i := 3) (v := ?vcx3) (oi := ?ocx3) ?hcx3 (by kernel_rfl) (by kernel_rfl) (by kernel_rfl) (fun _ _ _ h => h) (Or.inl ⟨?wcx3, ?ycx3⟩) hHeld ?rcx3
              case hcx3 => simp only [List.getElem?_toArray, List.getElem?_cons_zero, List.getElem?_cons_succ]; rfl
              case wcx3 => rfl
              case ycx3 => intro w hSw; (try dsimp only at hSw); go_simp; (try with_reducible rfl)
              simp only [Act.put, List.setIfInBounds_toArray, List.set_cons_zero, List.set_cons_succ]
              refine wpAnyH_take (i := 5) (v := ?vcx4) (oi := ?ocx4) ?hcx4 (by kernel_rfl) (by kernel_rfl) (by kernel_rfl) (fun _ _ _ h => h) (Or.inl ⟨?wcx4, ?ycx4⟩) hHeld ?rcx4
              case hcx4 => simp only [List.getElem?_toArray, List.getElem?_cons_zero, List.getElem?_cons_succ]; rfl
              case wcx4 => rfl
              case ycx4 => intro w hSw; (try dsimp only at hSw); go_simp; (try with_reducible rfl)
              simp only [Act.put, List.setIfInBounds_toArray, List.set_cons_zero, List.set_cons_succ]
              refine wpAnyH_take (i := 6) (v := ?vcx5) (oi := ?ocx5) ?hcx5 (by kernel_rfl) (by kernel_rfl) (by kernel_rfl) (fun _ _ _ h => h) (Or.inl ⟨?wcx5, ?ycx5⟩) hHeld ?rcx5
              case hcx5 => simp only [List.getElem?_toArray, List.getElem?_cons_zero, List.getElem?_cons_succ]; rfl
              case wcx5 => rfl
              case ycx5 => intro w hSw; (try dsimp only at hSw); go_simp; (try with_reducible rfl)
              simp only [Act.put, List.setIfInBounds_toArray, List.set_cons_zero, List.set_cons_succ]
              refine wpAnyH_take (i := 7) (v := ?vcx6) (oi := ?ocx6) ?hcx6 (by kernel_rfl) (by kernel_rfl) (by kernel_rfl) (fun _ _ _ h => h) (Or.inl ⟨?wcx6, ?ycx6⟩) hHeld ?rcx6
              case hcx6 => simp only [List.getElem?_toArray, List.getElem?_cons_zero, List.getElem?_cons_succ]; rfl
              case wcx6 => rfl
              case ycx6 => intro w hSw; (try dsimp only at hSw); go_simp; (try with_reducible rfl)
              simp only [Act.put, List.setIfInBounds_toArray, List.set_cons_zero, List.set_cons_succ]
              refine wpAnyH_take (i := 8) (v := ?vcx7) (oi := ?ocx7) ?hcx7 (by kernel_rfl) (by kernel_rfl) (by kernel_rfl) (fun _ _ _ h => h) (Or.inl ⟨?wcx7, ?ycx7⟩) hHeld ?rcx7
              case hcx7 => simp only [List.getElem?_toArray, List.getElem?_cons_zero, List.getElem?_cons_succ]; rfl
              case wcx7 => rfl
              case ycx7 => intro w hSw; (try dsimp only at hSw); go_simp; (try with_reducible rfl)
              simp only [Act.put, List.setIfInBounds_toArray, List.set_cons_zero, List.set_cons_succ]
              refine wpAnyH_ready (rs := [0]) (by kernel_rfl) (by simp) ?_
              refine AllReadyH.cons (o := ?ocx8) ?hcx8 (fun K hK => ?scx8) AllReadyH.nil
              case hcx8 => simp only [List.getElem?_toArray, List.getElem?_cons_zero, List.getElem?_cons_succ]; rfl
              go_simp
              refine hK.out _ _ (trivial) (fun hHeld => ?_)
              clear hK K
              try simp only [Act.put, List.setIfInBounds_toArray, List.set_cons_zero, List.set_cons_succ]
              refine wpAnyH_ready (rs := [4]) (by kernel_rfl) (by simp) ?_
              refine AllReadyH.cons (o := ?ocx9) ?hcx9 (fun K hK => ?scx9) AllReadyH.nil
              case hcx9 => simp only [List.getElem?_toArray, List.getElem?_cons_zero, List.getElem?_cons_succ]; rfl
              refine step_appT ty_int rfl (.tmp 106) (.tmp 109) _ rfl Try.underlying43 rfl (ownT_empty w3.drew) _ _ rfl (HX1.out _ (Kp.alloc No _ _)) (by have := HPR.out; omega) ?hb4c ?_
              case hb4c => simp
              intro A4 n4 c4 w4 hn4 ha4
              have HN4 := hide hn4
              clear hn4
              have k4 : Kp No w3.drew w4 := ha4.keeps (ownT_empty w3.drew) (Kp.alloc No _ _)
              refine hK.out _ _ (trivial) (fun hHeld => ?_)
              clear hK K
              try simp only [Act.put, List.setIfInBounds_toArray, List.set_cons_zero, List.set_cons_succ]
              refine wpAnyH_ready (rs := [9]) (by kernel_rfl) (by simp) ?_
              refine AllReadyH.cons (o := ?ocx10) ?hcx10 (fun K hK => ?scx10) AllReadyH.nil
              case hcx10 => simp only [List.getElem?_toArray, List.getElem?_cons_zero, List.getElem?_cons_succ]; rfl
              refine step_appT ty_int rfl (.tmp 110) (.tmp 114) _ rfl Try.underlying43 rfl ha4.own _ _ rfl (HX2.out _ k4) (by have := HPR.out; omega) k4.size ?_
              intro A5 n5 c5 w5 hn5 ha5
              have HN5 := hide hn5
              clear hn5
              have k5 : Kp No w3.drew w5 := ha5.keeps ha4.own k4
              refine hK.out _ _ (trivial) (fun hHeld => ?_)
              clear hK K
              try simp only [Act.put, List.setIfInBounds_toArray, List.set_cons_zero, List.set_cons_succ]
              refine wpAnyH_ready (rs := [10]) (by kernel_rfl) (by simp) ?_
              refine AllReadyH.cons (o := ?ocx11) ?hcx11 (fun K hK => ?scx11) AllReadyH.nil
              case hcx11 => simp only [List.getElem?_toArray, List.getElem?_cons_zero, List.getElem?_cons_succ]; rfl
              go_simp
              refine hK.out _ _ (trivial) (fun hHeld => ?_)
              clear hK K
              try simp only [Act.put, List.setIfInBounds_toArray, List.set_cons_zero, List.set_cons_succ]
              refine wpAnyH_done (by kernel_rfl) ?_ _
              refine NoPanic.normal ?_
              go_wp2_with fail
              go_round
              case rel => exact ⟨j + 1, _, _, A3, n3, c3, A5, n5, c5, by omega, by go_num, rfl, rfl, HM3.out.next HSP.out HPLT.out k5 (by rw [HLE.out.1, HLE.out.2]; exact ha5.own) rfl⟩
              case measure => simp [intOf]; omega
        · obtain rfl : j = k := by omega
          obtain ⟨gp, rfl, hn1e⟩ := hI.ownP.some_ (by omega)
          obtain rfl : j = n1 := hn1e
          have hpkl := hI.lenP
          have hget : ∀ u, u < j → pk[u]? = some (pk.getD u 0) := fun u hu => by rw [List.getD_eq_getElem?_getD, List.getElem?_eq_getElem (by omega)]; rfl
          have hin : ∀ u, u < j → pk.getD u 0 < i := fun u hu => hI.lt _ (List.mem_append_left _ (List.mem_of_getElem? (hget u hu)))
          have hne : ∀ u v, u < v → v < j → pk.getD u 0 ≠ pk.getD v 0 := fun u v hu hv e => by
            have h5 := (List.nodup_append.1 hI.nd).1
            have h6 := hget u (by omega)
            have h7 := hget v hv
            rw [e] at h6
            have := (List.getElem?_inj (i := u) (j := v) (by omega) h5).1 (h6.trans h7.symm)
            omega
          have hPr : Prts wr (some ⟨gp, 0, none⟩) j (fun u => ((pk.getD u 0 : Nat) : Int)) fun u => rowL (a * L) (shE a d L bs (x (pk.getD u 0))) := ⟨fun u hu => by
            obtain ⟨Ah, rh, ch, z2, hhs, hb⟩ := HH.out _ (hin u hu)
            obtain ⟨f1, f2⟩ := flat_get (fun s : Nat => Value.int .i64 (s : Int)) hdr pk u _ (hget u hu)
            obtain ⟨g1, e1, _, _, _, x1⟩ := hI.ownP.cell f1
            obtain ⟨g2, e2, _, _, _, x2⟩ := hI.ownP.cell f2
            injection e1 with e1
            injection e1 with e1
            subst e1
            injection e2 with e2
            injection e2 with e2
            subst e2
            rw [hhs] at x2
            exact ⟨gp, 0, Ah, rh, ch, rfl, by rw [Nat.zero_add]; exact x1, by rw [Nat.zero_add]; exact x2, hb.no hI.kp⟩⟩
          have hcapP := hI.ownP.cap
          have hU := uq_slots HX.out.uq hin hne
          have hLpos : a * L ≠ 0 := by
            have := Nat.mul_pos HD.out.a1 hL
            omega
          have hgood : ∀ u, u < j → PGood i (fun u => ((pk.getD u 0 : Nat) : Int)) (fun u => rowL (a * L) (shE a d L bs (x (pk.getD u 0)))) u := fun u hu => ⟨⟨Int.natCast_nonneg _, Int.ofNat_lt.2 (hin u hu)⟩, fun v hv e => hne v u hv hu (Int.ofNat_inj.1 (show ((pk.getD v 0 : Nat) : Int) = ((pk.getD u 0 : Nat) : Int) from e)), by rw [rowL_len]; exact hLpos, by rw [rowL_len, rowL_len]⟩
          have hdec := dec_ok (cp := c1) (ss := fun u => pk.getD u 0) (L := L) (W := m) (hC2.no hI.kp) HD.out HX.out hPr (by omega) hcapP (Nat.le_refl _) hgood (fun u _ => rfl) (rowL_len _ _) HF.out (by omega)
          have HMB : Hid (∀ X, EqF q L (mulF q (eqM a (plcF a) fun u => x ((fun u => pk.getD u 0) u)) X) (knF a L fun u => rowL (a * L) (shE a d L bs (x (pk.getD u 0)))) → (rowL m fun t => X (t / L) (t % L)) = bs) := fun X hXX => by
            rw [HF.out]
            exact msg_back HD.out (ss := fun u => pk.getD u 0) (by rw [← HBL.out]; exact HF.out) hL (fun _ _ => rfl) hU hXX
          have hkr := hk2'.trans' hI.kp
          clear hI hpkl hget hin hne hPr hcapP hU hgood hLpos
          go_wp2_with fail
          refine hdec.mono ?_
          rintro e w4 ⟨X, A5, n5, c5, rfl, ho5, hE5, hk5⟩
          have HL5 := hide (HMB.out X hE5)
          have v1 := conv_bts ho5.bts
          rw [HL5.out, ← HT.out] at v1
          have v2 := conv_bts (hB.no (hkr.trans' hk5))
          rw [← HT.out] at v2
          clear hdec hE5 HMB
          go_wp2_with fail
          refine (awake6_any _).mono ?_
          rintro e w9 ⟨rfl, k9⟩
          go_wp2_with fail
          go_ret
          exact ⟨rfl, ((hkr.trans' hk5).trans' k9).below0⟩
end
theorem msrback_walk {w : World} {A Ap : Option Addr} {m c mp cpp : Nat} {bs ps : List UInt8} (n k : Int) (hB : Bts w (.slice A m c) bs) (hPk : Bts w (.slice Ap mp cpp) ps) : Calls Try.prog 6 #[.int .i64 n, .int .i64 k, .slice A m c, .slice Ap mp cpp] w fun e w' => e = .returned (.bool true) ∧ Below w.heap.size w w' := by
  show Calls _ _ _ _ (R6 w)
  by_cases h : Rgt n k ∧ n ≤ 12 ∧ k ≤ 4
  · obtain ⟨hR, h1, h2⟩ := h
    by_cases hm : m ≤ 200 ∧ 0 < m
    · obtain ⟨r1, r2, r3, r4⟩ := hR
      obtain ⟨n', rfl⟩ : ∃ n' : Nat, n = n' := ⟨n.toNat, by omega⟩
      obtain ⟨k', rfl⟩ : ∃ k' : Nat, k = k' := ⟨k.toNat, by omega⟩
      obtain ⟨a, d, q, hD⟩ := dim_of (n := n') (k := k') (by omega) (by omega) (by omega) (by omega)
      obtain ⟨x, hX⟩ := pts_ex (n := n') hD.a1 hD.a7 hD.n2
      have hq := hD.q56
      by_cases hf : m % q ≠ 0
      · exact back_unfit hD (by omega) (by omega) hm.1 hm.2 hf
      · have hf1 : m % q = 0 := by omega
        have hdv : m = q * (m / q) := by have := Nat.div_add_mod m q; omega
        refine back_fit hB hPk hD hX (by omega) (by omega) hm.1 hm.2 hdv ?_
        rcases Nat.eq_zero_or_pos (m / q) with e | e
        · rw [e, Nat.mul_zero] at hdv; omega
        · exact e
    · exact back_len n k hR h1 h2 (by omega)
  · exact back_notsmall n k h
end Go.Proofs.Ytbkelijmdpoanaa
