/- Helpers picked one by one, with their fragments and their shards, and those that are left: words for HealBack; and that what fragments make is the lost shard. No condition. -/
import Derived.Test.YthmplbklphobaaaBz
import Derived.Test.YthmplbklphobaaaHRw
namespace Go.Proofs.Ythmplbklphobaaa
open Go.RowKit
set_option linter.unusedVariables false
set_option linter.unusedSimpArgs false
set_option maxRecDepth 100000

/-- A shard's bytes. -/
def shB (a d L : Nat) (bs : List UInt8) (y : UInt8) : List UInt8 := rowL (a * L) (shE a d L bs y)
/-- A fragment's bytes. -/
def fbB (a d L : Nat) (bs : List UInt8) (y z : UInt8) : List UInt8 := rowL L (frE a L (shB a d L bs y) z)
theorem frag_at {a d L : Nat} (bs : List UInt8) (y z : UInt8) {t : Nat} (ht : t < L) : lg (fbB a d L bs y z) t = ud (upw y) (colF a (fun r j => lg bs (plcF a r j * L + t)) z) d := by
  unfold fbB
  rw [lg_rowL _ ht]
  show ud (upw z) (fun j => lg (shB a d L bs y) (j * L + t)) a = _
  rw [← frag_col]
  refine ud_congr (fun _ _ => rfl) fun j hj => ?_
  unfold shB
  rw [lg_rowL _ (idx_lt hj ht), shE_at bs y ht]
/-- What the helpers' fragments make is the lost shard. -/
theorem heal_back {n k a d q L W : Nat} (hD : Dim n k a d q) {p : Nat → UInt8} {z : UInt8} {bs : List UInt8} {ds : Nat → List UInt8} {G : Nat → Nat → UInt8} (hL : 1 ≤ L) (hW : W = a * L) (hU : Uq d p) (hds : ∀ j, j < d → ds j = fbB a d L bs (p j) z) (hG : EqF d d (mulF d (vF p) G) oneF) : rowL W (rgE G a d L z ds) = shB a d L bs z := by
  have hX : EqF d L (mulF d (vF p) fun r t => colF a (fun r j => lg bs (plcF a r j * L + t)) z r) (frB ds) := fun j t hj ht => by
    show ud (upw (p j)) (fun r => colF a (fun r j => lg bs (plcF a r j * L + t)) z r) d = lg (ds j) t
    rw [hds j hj, frag_at bs _ _ ht]
  rw [← reg_same (y := z) hD.d_ hL hW hU hG hX]
  unfold shB
  rw [← hW]
  refine rowL_congr fun t ht => ?_
  have htq : t / L < a := Nat.div_lt_of_lt_mul (by rw [Nat.mul_comm, ← hW]; exact ht)
  unfold rxE shE
  have hs := plc_sym (a := a) (by have := hD.a7; omega) hD.a1 (fun v => lg bs (v * L + t % L))
  have h1 := heal_part (a := a) (M := fun r j => lg bs (plcF a r j * L + t % L)) hs.1 hs.2 z htq
  rw [hD.d_, ← h1, Nat.add_comm (t / L) a]
  rfl
theorem flat_getP {α : Type} (u v : α → Value) : ∀ (ps : List α) (j : Nat) (s : α), ps[j]? = some s → (ps.flatMap fun s => [u s, v s])[j * 2]? = some (u s) ∧ (ps.flatMap fun s => [u s, v s])[j * 2 + 1]? = some (v s)
  | [], j, s, h => by simp at h
  | t :: ps, 0, s, h => by simp at h; subst h; exact ⟨rfl, rfl⟩
  | t :: ps, j + 1, s, h => by
    have := flat_getP u v ps j s (by simpa using h)
    rw [show (j + 1) * 2 = j * 2 + 2 by omega]
    exact this
/-- The slots but one. -/
def lfF (z i : Nat) : List Nat := (List.range i).filter fun s => decide (s ≠ z)
theorem lfF_in {z i : Nat} (h : i = z) : lfF z (i + 1) = lfF z i := by
  unfold lfF
  rw [List.range_succ, List.filter_append]
  simp [h]
theorem lfF_new {z i : Nat} (h : i ≠ z) : lfF z (i + 1) = lfF z i ++ [i] := by
  unfold lfF
  rw [List.range_succ, List.filter_append]
  simp [h]
theorem lfF_le (z : Nat) : ∀ i, (lfF z i).length ≤ i
  | i => Nat.le_trans (List.length_filter_le _ _) (by rw [List.length_range]; exact Nat.le_refl _)
theorem lfF_len (z : Nat) : ∀ i, (lfF z i).length = if z < i then i - 1 else i
  | 0 => rfl
  | i + 1 => by
    by_cases h : i = z
    · rw [lfF_in h, lfF_len z i, if_neg (by omega), if_pos (by omega)]
      omega
    · rw [lfF_new h, List.length_append, lfF_len z i]
      by_cases h2 : z < i
      · rw [if_pos h2, if_pos (by omega)]
        simp
        omega
      · rw [if_neg h2, if_neg (by omega)]
        rfl
theorem lfF_nd (z i : Nat) : (lfF z i).Nodup := List.Nodup.sublist List.filter_sublist List.nodup_range
theorem lfF_mem {z i s : Nat} (h : s ∈ lfF z i) : s < i ∧ s ≠ z := by
  unfold lfF at h
  rw [List.mem_filter] at h
  exact ⟨List.mem_range.1 h.1, of_decide_eq_true h.2⟩
/-- So many helpers were picked, with their fragments and their shards; the others are left. -/
structure BhI (w : World) (N i : Nat) (hdr : Nat → Value) (fb : Nat → List UInt8) (P : Nat → Prop) (ps : List (Nat × Value)) (lf : List Nat) (vF vW vL : Value) (wr : World) : Prop where
  ownF : OwnT wr w.heap.size 37 2 vF i (ps.flatMap fun p => [Value.int .i64 (p.1 : Int), p.2])
  ownW : OwnT wr w.heap.size 37 2 vW i (ps.flatMap fun p => [Value.int .i64 (p.1 : Int), hdr p.1])
  ownL : OwnT wr w.heap.size 3 1 vL lf.length (lf.map fun s : Nat => Value.int .i64 (s : Int))
  apart : ∀ k, vF.ownBlock = some k → vW.ownBlock ≠ some k
  frag : ∀ p, p ∈ ps → Own wr w.heap.size 5 p.2 (fb p.1)
  lenP : ps.length = i
  lenL : lf.length + i = N
  nd : (ps.map (fun p => p.1) ++ lf).Nodup
  lt : ∀ s, s ∈ ps.map (fun p => p.1) ++ lf → P s
  kp : Kp No w wr
/-- One helper more was picked, and is still left. -/
structure BhM (w : World) (N i : Nat) (hdr : Nat → Value) (fb : Nat → List UInt8) (P : Nat → Prop) (ps : List (Nat × Value)) (lf : List Nat) (s : Nat) (vf : Value) (vF vW vL : Value) (wr : World) : Prop where
  ownF : OwnT wr w.heap.size 37 2 vF (i + 1) ((ps ++ [(s, vf)]).flatMap fun p => [Value.int .i64 (p.1 : Int), p.2])
  ownW : OwnT wr w.heap.size 37 2 vW (i + 1) ((ps ++ [(s, vf)]).flatMap fun p => [Value.int .i64 (p.1 : Int), hdr p.1])
  ownL : OwnT wr w.heap.size 3 1 vL lf.length (lf.map fun s : Nat => Value.int .i64 (s : Int))
  apart : ∀ k, vF.ownBlock = some k → vW.ownBlock ≠ some k
  frag : ∀ p, p ∈ ps ++ [(s, vf)] → Own wr w.heap.size 5 p.2 (fb p.1)
  lenP : ps.length = i
  lenL : lf.length + i = N
  nd : (ps.map (fun p => p.1) ++ lf).Nodup
  lt : ∀ s, s ∈ ps.map (fun p => p.1) ++ lf → P s
  kp : Kp No w wr
section
variable {w wr W1 w6 W2 w7 w9 : World} {N i p s : Nat} {hdr : Nat → Value} {fb : Nat → List UInt8} {P : Nat → Prop} {ps : List (Nat × Value)} {lf : List Nat} {vF vW vL vF' vW' vL' vf hs : Value}
theorem BhI.no (h : BhI w N i hdr fb P ps lf vF vW vL wr) (hk : Kp No wr W1) : BhI w N i hdr fb P ps lf vF vW vL W1 := ⟨h.ownF.no hk, h.ownW.no hk, h.ownL.no hk, h.apart, fun p hp => (h.frag p hp).no hk, h.lenP, h.lenL, h.nd, h.lt, h.kp.trans' hk⟩
theorem BhM.no (h : BhM w N i hdr fb P ps lf s vf vF vW vL wr) (hk : Kp No wr W1) : BhM w N i hdr fb P ps lf s vf vF vW vL W1 := ⟨h.ownF.no hk, h.ownW.no hk, h.ownL.no hk, h.apart, fun p hp => (h.frag p hp).no hk, h.lenP, h.lenL, h.nd, h.lt, h.kp.trans' hk⟩
theorem BhI.midW (h : BhI w N i hdr fb P ps lf vF vW vL wr) (k1 : Kp No wr W1) (ha1 : AppT W1 w.heap.size 37 2 vF i (ps.flatMap fun p => [Value.int .i64 (p.1 : Int), p.2]) 1 [.int .i64 (s : Int), vf] vF' w6) (k2 : Kp No w6 W2) : OwnT W2 w.heap.size 37 2 vW i (ps.flatMap fun p => [Value.int .i64 (p.1 : Int), hdr p.1]) :=
  ((h.ownW.no k1).keep ha1.kp fun k hk e => h.apart k e hk).no k2
theorem BhI.mid (h : BhI w N i hdr fb P ps lf vF vW vL wr) (k1 : Kp No wr W1) (ha1 : AppT W1 w.heap.size 37 2 vF i (ps.flatMap fun p => [Value.int .i64 (p.1 : Int), p.2]) 1 [.int .i64 (s : Int), vf] vF' w6) (k2 : Kp No w6 W2)
    (ha2 : AppT W2 w.heap.size 37 2 vW i (ps.flatMap fun p => [Value.int .i64 (p.1 : Int), hdr p.1]) 1 [.int .i64 (s : Int), hs] vW' w7) (hhs : hdr s = hs) (hf : Own wr w.heap.size 5 vf (fb s)) : BhM w N i hdr fb P ps lf s vf vF' vW' vL w7 := by
  subst hhs
  have oW := h.midW k1 ha1 k2
  have oF := ha1.own.no k2
  have apF : ∀ k, vF'.ownBlock = some k → vW.ownBlock ≠ some k := fun k hk e => by
    rcases ha1.at_ with e1 | e1
    · exact h.apart k (by rw [← e1]; exact hk) e
    · rw [hk] at e1
      injection e1 with e1
      have := (h.ownW.no k1).lt k e
      omega
  have far : ∀ {u : Value} {bs : List UInt8}, Own wr w.heap.size 5 u bs → Own w7 w.heap.size 5 u bs := fun {u bs} hu => by
    have u1 : Own W1 w.heap.size 5 u bs := hu.no k1
    have u2 : Own w6 w.heap.size 5 u bs := u1.keep ha1.kp fun k hk e => ownT_far (show OwnT W1 w.heap.size 5 1 u bs.length (bs.map bv) from u1) (h.ownF.no k1) (by decide) hk e
    have u3 : Own W2 w.heap.size 5 u bs := u2.no k2
    exact u3.keep ha2.kp fun k hk e => ownT_far (show OwnT W2 w.heap.size 5 1 u bs.length (bs.map bv) from u3) oW (by decide) hk e
  have oL := (((h.ownL.no k1).keep ha1.kp fun k hk e => ownT_far (h.ownL.no k1) (h.ownF.no k1) (by decide) hk e).no k2)
  refine ⟨?_, ?_, oL.keep ha2.kp fun k hk e => ownT_far oL oW (by decide) hk e, ?_, ?_, h.lenP, h.lenL, h.nd, h.lt, ?_⟩
  · rw [List.flatMap_append]
    exact oF.keep ha2.kp fun k hk e => apF k hk e
  · rw [List.flatMap_append]
    exact ha2.own
  · intro k hk e
    rcases ha2.at_ with e1 | e1
    · exact apF k hk (by rw [← e1]; exact e)
    · rw [e] at e1
      injection e1 with e1
      have := oF.lt k hk
      omega
  · intro p hp
    rcases List.mem_append.1 hp with hp | hp
    · exact far (h.frag p hp)
    · rw [List.mem_singleton] at hp
      subst hp
      exact far hf
  · exact ha2.keeps oW ((ha1.keeps (h.ownF.no k1) (h.kp.trans' k1)).trans' k2)
theorem BhM.next {b : Nat} (h : BhM w N i hdr fb P ps lf s vf vF vW vL wr) (hsp : lf[p]? = some s) (hp : p < lf.length) (hk : Kp No wr.drew w9) (ho : OwnT w9 b 3 1 vL' (List.take p lf ++ List.drop (p + 1) lf).length ((List.take p lf ++ List.drop (p + 1) lf).map fun s : Nat => Value.int .i64 (s : Int))) (hb : b = wr.drew.heap.size) : BhI w N (i + 1) hdr fb P (ps ++ [(s, vf)]) (List.take p lf ++ List.drop (p + 1) lf) vF vW vL' w9 := by
  have hkk : Kp No wr w9 := (Sm.drew wr).kp.trans' hk
  have hsplit : lf = List.take p lf ++ s :: List.drop (p + 1) lf := by
    have h1 := List.take_append_drop p lf
    have h2 : List.drop p lf = s :: List.drop (p + 1) lf := by
      rw [List.drop_eq_getElem_cons hp]
      rw [List.getElem?_eq_getElem hp] at hsp
      injection hsp with hsp
      rw [hsp]
    rw [h2] at h1
    exact h1.symm
  have hperm : List.Perm (ps.map (fun p => p.1) ++ lf) ((ps ++ [(s, vf)]).map (fun p => p.1) ++ (List.take p lf ++ List.drop (p + 1) lf)) := by
    rw [List.map_append, List.append_assoc]
    refine List.Perm.append_left _ ?_
    have h3 : List.Perm (List.take p lf ++ s :: List.drop (p + 1) lf) (s :: (List.take p lf ++ List.drop (p + 1) lf)) := List.perm_middle
    rw [← hsplit] at h3
    exact h3
  refine ⟨h.ownF.no hkk, h.ownW.no hkk, ?_, h.apart, fun p hp => (h.frag p hp).no hkk, by rw [List.length_append, h.lenP]; rfl, ?_, hperm.nodup_iff.1 h.nd, fun t ht => h.lt t (hperm.mem_iff.2 ht), h.kp.trans' hkk⟩
  · refine ⟨ho.1, ?_⟩
    rcases ho.2 with hn | ⟨g, cap, cur, e, hg, r⟩
    · exact .inl hn
    · exact .inr ⟨g, cap, cur, e, Nat.le_trans (by rw [hb]; exact (h.kp.trans' (Sm.drew wr).kp).size) hg, r⟩
  · have := h.lenL
    rw [List.length_append, List.length_take, List.length_drop]
    omega
end
end Go.Proofs.Ythmplbklphobaaa
