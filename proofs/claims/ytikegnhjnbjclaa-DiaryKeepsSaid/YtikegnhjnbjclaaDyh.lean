/- Slices of slices that lie outside a set of blocks; what DiaryKeeps knows of its diary. No condition. -/
import Derived.Test.YtikegnhjnbjclaaDyg
import Derived.Test.YtikegnhjnbjclaaBtf
import Derived.Test.YtikegnhjnbjclaaOrc
namespace Go.Proofs.Ytikegnhjnbjclaa
open Go.RowKit
set_option linter.unusedVariables false
set_option maxRecDepth 20000
set_option linter.unusedSimpArgs false

/-- Slices of slices: a row of whoever's, and what its slices bear; all of it lies outside F. -/
structure AlF (w : World) (F : Nat → Prop) (v : Value) (ps : List (Value × List UInt8)) : Prop where
  own : OwnT w 0 22 1 v ps.length (sls ps)
  far : ∀ k, v.ownBlock = some k → ¬ F k
  el : ∀ p ∈ ps, BtF w F p.1 p.2
section
variable {w w1 w2 : World} {F F1 S : Nat → Prop} {v u v0 : Value} {ps : List (Value × List UInt8)} {p : Value × List UInt8} {bs : List UInt8} {k L c j base : Nat} {A : Option Addr}
theorem AlF.nil (w : World) (F : Nat → Prop) : AlF w F (.slice none 0 0) [] := ⟨OwnT.nil _ _ _ _, (fun k hk => by cases hk), fun p hp => by simp at hp⟩
theorem AlF.keep (h : AlF w F v ps) (hk : Kp S w w1) (hS : ∀ k, k < w.heap.size → ¬ F k → ¬ S k) : AlF w1 F v ps := ⟨h.own.keep hk fun k hk' => hS k (h.own.lt k hk') (h.far k hk'), h.far, fun p hp => (h.el p hp).keep hk hS⟩
theorem AlF.no (h : AlF w F v ps) (hk : Kp No w w1) : AlF w1 F v ps := h.keep hk fun _ _ _ f => f
theorem AlF.up (h : AlF w F v ps) (hF : ∀ k, k < w.heap.size → F1 k → F k) : AlF w F1 v ps := ⟨h.own, fun k hk f => h.far k hk (hF k (h.own.lt k hk) f), fun p hp => (h.el p hp).up hF⟩
theorem AlF.step (h : AlF w F v ps) (hk : Kp F w w1) (hF : ∀ k, F1 k → Up F w k) : AlF w1 F1 v ps := by
  have h1 := h.keep hk fun k _ g => g
  refine ⟨h1.own, fun k hk' f => ?_, fun p hp => (h.el p hp).step hk hF⟩
  rcases hF k f with f | f
  · exact h.far k hk' f
  · have := h.own.lt k hk'; omega
theorem AlF.upto (h : AlF w F (.slice A L c) ps) (hL : ps.length = L) (hk : k ≤ L) : AlF w F (.slice A k c) (ps.take k) := by
  have ho := h.own
  rw [hL] at ho
  have h1 := ho.upto hk
  have hlt : (ps.take k).length = k := by rw [List.length_take]; omega
  refine ⟨by rw [hlt, sls_take]; exact h1, fun q hq => h.far q (by rw [← hq]; exact slice_blk _ _ _ _ _), fun p hp => h.el p (List.mem_of_mem_take hp)⟩
theorem AlF.rws (h : AlF w F (.slice A L c) ps) : Rws w A L (rws ps) := by
  refine ⟨by rw [rws_len]; exact h.own.len, fun j bs hj => ?_⟩
  have hl : j < ps.length := by have := (List.getElem?_eq_some_iff.1 hj).1; rwa [rws_len] at this
  obtain ⟨p, hp⟩ : ∃ p, ps[j]? = some p := ⟨_, List.getElem?_eq_getElem hl⟩
  obtain rfl : bs = p.2 := by have := rws_get hp; rw [hj] at this; exact Option.some.inj this
  obtain ⟨g, e, _, hg, _, hc⟩ := h.own.cell (sls_get hp)
  subst e
  exact ⟨g, 0, p.1, rfl, by rw [Nat.zero_add]; exact hc, (h.el p (List.mem_of_getElem? hp)).bts⟩
theorem AlF.one (h : AlF w F v ps) : ∀ u ∈ sls ps, u.oneCell' = true := fun u hu => by
  obtain ⟨p, hp, rfl⟩ := List.mem_map.1 hu
  obtain ⟨A, n, c, e⟩ := (h.el p hp).bts.form
  rw [e]
  rfl
theorem AlF.at_ (h : AlF w F (.slice A L c) ps) (hj : ps[j]? = some p) : ∃ g A' m' c', A = some ⟨g, 0, none⟩ ∧ p.1 = .slice A' m' c' ∧ w.cell? ⟨g, j, none⟩ = some (.slice A' m' c') ∧ m' = p.2.length := by
  obtain ⟨g, e, _, hg, _, hc⟩ := h.own.cell (sls_get hj)
  have hb := (h.el p (List.mem_of_getElem? hj)).bts
  obtain ⟨A', m', c', e'⟩ := hb.form
  rw [e'] at hb hc
  exact ⟨g, A', m', c', e, e', hc, hb.len⟩
/-- A slice that reads as something in each world in which another one does lies in that one's block. -/
theorem far_of_all {cs : List UInt8} (hall : ∀ w1, Bts w1 v0 bs → Bts w1 u cs) (hb : Bts w v0 bs) (hne : cs ≠ []) (hk : u.ownBlock = some k) : v0.ownBlock = some k := by
  refine Classical.byContradiction fun hn => ?_
  let w1 : World := { w with heap := w.heap.setIfInBounds k (.cells #[] 5 (0, 0)) }
  have hkp : Kp (fun j => j = k) w w1 := ⟨rfl, rfl, rfl, by simp [w1], fun j hj hne => by
    show (w.heap.setIfInBounds k _)[j]? = _
    rw [Array.getElem?_setIfInBounds, if_neg (fun e => hne e.symm)]⟩
  have h1 := hall w1 (hb.keep hkp fun j hj e => hn (by rw [← e]; exact hj))
  obtain ⟨A, c, rfl, hz, hc⟩ := h1
  rcases A with _ | a
  · cases hk
  · have e : a.block = k := Option.some.inj hk
    have h0 := hc a rfl 0 _ (List.getElem?_eq_getElem (List.length_pos_iff.2 hne))
    have hlt := World.block_lt_of_cell? w1 _ h0
    rw [blk_add] at hlt
    have hsz : w1.heap.size = w.heap.size := by simp [w1]
    have hblk : w1.heap[(a.add 0).block]? = some (.cells #[] 5 (0, 0)) := by
      rw [blk_add, e]
      show (w.heap.setIfInBounds k _)[k]? = _
      rw [Array.getElem?_setIfInBounds, if_pos rfl, if_pos (by omega)]
    unfold World.cell? at h0
    rw [hblk] at h0
    simp at h0
theorem RwD.alF (h : RwD v0 bs w base v ps) (hb : Bts w v0 bs) (hF : ∀ k, v0.ownBlock = some k → ¬ F k) (hv : ∀ k, v.ownBlock = some k → ¬ F k) : AlF w F v ps :=
  ⟨ownT_base0 h.own, hv, fun p hp => BtF.mk_ (h.all p hp w hb) (fun hne k hk => hF k (far_of_all (h.all p hp) hb hne hk)) (h.cap p hp)⟩
/-- Rows that came in. -/
theorem rwc_pairs {A : Option Addr} {n : Nat} {bss : List (List UInt8)} (h : Rwc w A n bss) : ∃ ps, rws ps = bss ∧ ps.length = n ∧ (∀ ad, A = some ad → Nws w ad n 1 (sls ps)) ∧ (A = none → n = 0) ∧ ∀ p ∈ ps, BtF w (fun k => w.heap.size ≤ k) p.1 p.2 := by
  have hlist : ∀ k, k ≤ n → ∃ ps : List (Value × List UInt8), rws ps = bss.take k ∧ ps.length = k ∧ (∀ (j : Nat) p, ps[j]? = some p → ∃ B off, A = some ⟨B, off, none⟩ ∧ w.cell? ⟨B, off + j, none⟩ = some p.1) ∧ ∀ p ∈ ps, BtF w (fun k => w.heap.size ≤ k) p.1 p.2 := by
    intro k
    induction k with
    | zero => exact fun _ => ⟨[], rfl, rfl, (fun j p hj => by simp at hj), fun p hp => by simp at hp⟩
    | succ k ih =>
      intro hk
      obtain ⟨ps, h1, h2, h3, h4⟩ := ih (by omega)
      obtain ⟨B, off, A', m, c, bs, e, hc, hbs, hb⟩ := h.rws.get (j := k) (by omega)
      have hf : BtF w No (.slice A' m c) bs := BtF.mk_ hb (fun _ _ _ f => f) fun A'' n'' c'' e' => by
        injection e' with e1 e2 e3
        subst e1 e2 e3
        exact h.cap k (by omega) B off _ _ _ e hc
      refine ⟨ps ++ [(.slice A' m c, bs)], ?_, by simp [h2], fun j p hj => ?_, fun p hp => ?_⟩
      · rw [rws_snoc, h1, List.take_add_one, hbs]; rfl
      · rcases Nat.lt_or_ge j k with g | g
        · rw [List.getElem?_append_left (by omega)] at hj
          exact h3 j p hj
        · rw [List.getElem?_append_right (by omega)] at hj
          have hj0 : j - ps.length = 0 := by
            have := (List.getElem?_eq_some_iff.1 hj).1
            simp at this
            omega
          rw [hj0] at hj
          simp at hj
          subst hj
          obtain rfl : j = k := by omega
          exact ⟨B, off, e, hc⟩
      · rcases List.mem_append.1 hp with hp | hp
        · exact h4 p hp
        · rw [List.mem_singleton] at hp
          subst hp
          exact ⟨hf.bts, (fun hb k hk => ⟨fun g => by have := (hf.far hb k hk).2; omega, (hf.far hb k hk).2⟩), hf.room⟩
  obtain ⟨ps, h1, h2, h3, h4⟩ := hlist n (Nat.le_refl _)
  have hl := h.rws.len
  refine ⟨ps, by rw [h1]; exact List.take_of_length_le (by omega), h2, fun ad e => ⟨by rw [sls_len]; omega, fun j u hj => ?_, fun u hu => ?_⟩, fun e => ?_, h4⟩
  · have hjl : j < ps.length := by have := (List.getElem?_eq_some_iff.1 hj).1; rwa [sls_len] at this
    obtain ⟨p, hp⟩ : ∃ p, ps[j]? = some p := ⟨_, List.getElem?_eq_getElem hjl⟩
    obtain ⟨B, off, e', hc⟩ := h3 j p hp
    have : u = p.1 := by have := sls_get hp; rw [hj] at this; exact Option.some.inj this
    rw [e] at e'
    injection e' with e'
    subst e' this
    rw [add_none]
    exact hc
  · obtain ⟨p, hp, rfl⟩ := List.mem_map.1 hu
    obtain ⟨A', n', c', e'⟩ := (h4 p hp).bts.form
    rw [e']
    rfl
  · refine Classical.byContradiction fun hn => ?_
    obtain ⟨p, hp⟩ : ∃ p, ps[0]? = some p := ⟨_, List.getElem?_eq_getElem (by omega)⟩
    obtain ⟨B, off, e', _⟩ := h3 0 p hp
    rw [e] at e'
    cases e'
end
theorem run_append_none_c {P : Program} (w : World) (base : Nat) (t ty e : TypeId) (i : TypeInfo) (size : Nat) (ht : P.underlying t = some (.slice e)) (hi : P.info? e = some i)
    (v : Value) (n : Nat) (xs : List Value) (hown : w.ownsRow base e size v n xs) (c : Nat) :
    (Builtin.append_ #[t, t] ty #[v, .slice none 0 c]).run P w = .ok v w := by
  rcases hown.2 with ⟨rfl, rfl⟩ | ⟨g, cap, cur, rfl, _, _, hnc, _⟩
  · simp [Builtin.append_, run_underlying ht, sizeOf, typeInfo, hi, Builtin.lenOf, Builtin.firstCells]
  · simp [Builtin.append_, run_underlying ht, sizeOf, typeInfo, hi, Builtin.lenOf, Builtin.firstCells, hnc, storeCells]
/-- append of any slice, a nil one among them. -/
theorem wpList_appN {w : World} {base : Nat} {e : TypeId} {sz n m c : Nat} {v z : Value} {xs cs : List Value} {ops : Array Oper} {rest : List Oper} {o : Oper} {a : Act} {Q : Exit → Act → World → Prop} {bt : Nat} (hT : Ty e z sz bt) (hgd : o.guard = none) (s x : Operand) (t : TypeId)
    (ho : o.op = .call { callee := .builtin .append, args := #[s, x], argTypes := #[t, t] })
    (ht : Try.prog.underlying t = some (.slice e)) (hs : a.eval s = v) (h : OwnT w base e sz v n xs) (A : Option Addr) (hx : a.eval x = .slice A m c) (h0 : A = none → m = 0 ∧ cs = []) (hN : ∀ ad, A = some ad → Nws w ad m sz cs) (hlen : n + m ≤ 1000000) (hb : base ≤ w.heap.size)
    (hQ : ∀ A1 n1 c1 w1, n1 = n + m → AppT w base e sz v n xs m cs (.slice A1 n1 c1) w1 → wpList Try.prog ops Q rest (a.put o.dst (.slice A1 n1 c1)) w1) : wpList Try.prog ops Q (o :: rest) a w := by
  rcases A with _ | ad
  · obtain ⟨rfl, rfl⟩ := h0 rfl
    refine wpList_plain hgd fun K hK => ?_
    obtain ⟨⟨i0, hi0, hz0, hz1, hz2⟩, _⟩ := hT
    have hr := fun ty => run_append_none_c (P := Try.prog) w base t ty e i0 sz ht hi0 v n _ h c
    obtain ⟨A1, c1, rfl⟩ := h.form
    unfold Oper.wp execOp
    simp only [ho, resolve, invoke, builtin, Sem.run_bind, Sem.run_pure, Result.andThen_ok, List.map_toArray, List.map_cons, List.map_nil, hs, hx, hr]
    exact hK _ _ (hQ A1 n c1 w (by omega) ⟨by simpa using h, Kp.refl _ _, .inl rfl⟩)
  · exact wpList_appT hT hgd s x t ho ht hs h ad c hx (hN ad rfl) hlen hb hQ

/-! What the tape holds as DiaryKeeps goes through its rows. -/
theorem fr_len (n : Nat) (rs : List (List UInt8)) (h : ∀ c ∈ rs, c.length ≤ 300) : (fr n rs).length ≤ 320 * rs.length := by
  induction rs generalizing n with
  | nil => simp [fr]
  | cons b t ih =>
    have hb := h b List.mem_cons_self
    have := ih (n + 1) fun c hc => h c (List.mem_cons_of_mem _ hc)
    simp only [fr, List.length_append, List.length_cons, rcF_len]
    omega
/-- At the beginning of a round, and behind its Sync. -/
def shK (a b : List (List UInt8)) (i : Nat) (T : Tp) : Prop := (i ≤ a.length ∧ T = ⟨[], fr 0 ((a ++ b).take i), 100000⟩) ∨ (a.length < i ∧ T = ⟨fr 0 a, fr a.length (b.take (i - a.length)), 100000⟩)
def shW (a b : List (List UInt8)) (i : Nat) (T : Tp) : Prop := (i < a.length ∧ T = ⟨[], fr 0 ((a ++ b).take i), 100000⟩) ∨ (a.length ≤ i ∧ T = ⟨fr 0 a, fr a.length (b.take (i - a.length)), 100000⟩)
theorem shK.wr {a b : List (List UInt8)} {i : Nat} {T : Tp} (h : shK a b i T) (hi : i ≠ a.length) : shW a b i T := by
  rcases h with ⟨h1, h2⟩ | ⟨h1, h2⟩
  · exact .inl ⟨by omega, h2⟩
  · exact .inr ⟨by omega, h2⟩
theorem shK.sync {a b : List (List UInt8)} {T : Tp} (h : shK a b a.length T) : T.sync = ⟨fr 0 a, fr a.length (b.take (a.length - a.length)), 100000⟩ := by
  rcases h with ⟨h1, rfl⟩ | ⟨h1, h2⟩
  · unfold Tp.sync
    simp [fr]
  · omega
theorem small_take {a b : List (List UInt8)} {i : Nat} (h : ∀ c ∈ (a ++ b).take i, c.length ≤ 300) (hi : a.length ≤ i) : (∀ c ∈ a, c.length ≤ 300) ∧ ∀ c ∈ b.take (i - a.length), c.length ≤ 300 := by
  rw [List.take_append, List.take_of_length_le hi] at h
  exact ⟨fun c hc => h c (List.mem_append_left _ hc), fun c hc => h c (List.mem_append_right _ hc)⟩
theorem shK.len {a b : List (List UInt8)} {i : Nat} {T : Tp} (h : shK a b i T) (hs : ∀ c ∈ (a ++ b).take i, c.length ≤ 300) (ha : a.length ≤ 10) (hb : b.length ≤ 10) : T.len ≤ 6400 := by
  rcases h with ⟨h1, rfl⟩ | ⟨h1, rfl⟩
  · have := fr_len 0 _ hs
    rw [List.length_take, List.length_append] at this
    unfold Tp.len
    simp only [List.length_nil]
    omega
  · obtain ⟨h2, h3⟩ := small_take hs (by omega)
    have e1 := fr_len 0 _ h2
    have e2 := fr_len a.length _ h3
    rw [List.length_take] at e2
    unfold Tp.len
    simp only
    omega
theorem shW.len {a b : List (List UInt8)} {i : Nat} {T : Tp} (h : shW a b i T) (hs : ∀ c ∈ (a ++ b).take i, c.length ≤ 300) (ha : a.length ≤ 10) (hb : b.length ≤ 10) : T.len ≤ 6400 := by
  rcases h with ⟨h1, h2⟩ | ⟨h1, rfl⟩
  · exact shK.len (.inl ⟨by omega, h2⟩) hs ha hb
  · obtain ⟨h2, h3⟩ := small_take hs (by omega)
    have e1 := fr_len 0 _ h2
    have e2 := fr_len a.length _ h3
    rw [List.length_take] at e2
    unfold Tp.len
    simp only
    omega
theorem shW.most {a b : List (List UInt8)} {i : Nat} {T : Tp} (h : shW a b i T) : T.most = 100000 := by
  rcases h with ⟨h1, rfl⟩ | ⟨h1, rfl⟩ <;> rfl
theorem shW.put {a b : List (List UInt8)} {i : Nat} {T : Tp} {c : List UInt8} (h : shW a b i T) (hs : ∀ c ∈ (a ++ b).take i, c.length ≤ 300) (ha : a.length ≤ 10) (hb : b.length ≤ 10) (hc : (a ++ b)[i]? = some c) (hcl : c.length ≤ 300) :
    T.putE (rcF (i + 1) c) = 0 ∧ shK a b (i + 1) (T.put (rcF (i + 1) c)) := by
  have hl := h.len hs ha hb
  have hm := h.most
  obtain ⟨h1, h2⟩ := T.put_ok (rcF (i + 1) c) (by rw [rcF_len, hm]; omega)
  refine ⟨h1, ?_⟩
  rw [h2]
  have hil := (List.getElem?_eq_some_iff.1 hc).1
  rcases h with ⟨h3, rfl⟩ | ⟨h3, rfl⟩
  · refine .inl ⟨h3, ?_⟩
    rw [List.take_add_one, hc]
    simp only [Option.toList_some]
    rw [fr_snoc, List.length_take, Nat.min_eq_left (by omega), Nat.zero_add]
  · refine .inr ⟨by omega, ?_⟩
    rw [List.getElem?_append_right h3] at hc
    have hjl := (List.getElem?_eq_some_iff.1 hc).1
    rw [show i + 1 - a.length = i - a.length + 1 by omega, List.take_add_one, hc]
    simp only [Option.toList_some]
    rw [fr_snoc, List.length_take, Nat.min_eq_left (by omega), show a.length + (i - a.length) + 1 = i + 1 by omega]
/-- Behind the loop. -/
theorem shK.fin {a b : List (List UInt8)} {T : Tp} (h : shK a b (a.length + b.length) T) : (b.length = 0 → T.sync = ⟨fr 0 a, fr a.length b, 100000⟩) ∧ (b.length ≠ 0 → T = ⟨fr 0 a, fr a.length b, 100000⟩) := by
  refine ⟨fun hb => ?_, fun hb => ?_⟩
  · obtain rfl := List.eq_nil_of_length_eq_zero hb
    rw [show a.length + ([] : List (List UInt8)).length = a.length from rfl] at h
    rw [h.sync]
    simp [fr]
  · rcases h with ⟨h1, _⟩ | ⟨h1, rfl⟩
    · omega
    · rw [List.take_of_length_le (by omega)]

/-- What the law knows: the diary, and all rows in a row of its own. -/
structure DkS (W : World) (g tp : Nat) (T : Tp) (rs : List (List UInt8)) (sf : Nat) (va : Value) (pa : List (Value × List UInt8)) (wr : World) : Prop where
  ex : ∃ F : Nat → Prop, DyAt wr F g tp T rs sf ∧ AlF wr F va pa ∧ ∀ k, F k → W.heap.size ≤ k ∧ k < wr.heap.size
  kp : Kp No W wr
theorem DkS.no {W wr w1 : World} {g tp sf : Nat} {T : Tp} {rs : List (List UInt8)} {va : Value} {pa : List (Value × List UInt8)} (h : DkS W g tp T rs sf va pa wr) (hk : Kp No wr w1) : DkS W g tp T rs sf va pa w1 := by
  obtain ⟨F, h1, h2, h3⟩ := h.ex
  exact ⟨⟨F, h1.no hk, h2.no hk, fun k f => ⟨(h3 k f).1, Nat.lt_of_lt_of_le (h3 k f).2 hk.size⟩⟩, h.kp.trans' hk⟩
theorem DkS.call {W wr w1 : World} {F : Nat → Prop} {g tp sf sf' : Nat} {T T' : Tp} {rs rs' : List (List UInt8)} {va v : Value} {pa : List (Value × List UInt8)} {e : Ending} (h : DkS W g tp T rs sf va pa wr) (h2 : AlF wr F va pa) (h3 : ∀ k, F k → W.heap.size ≤ k ∧ k < wr.heap.size) (hp : DyPost wr F g tp T' rs' sf' v e w1) : DkS W g tp T' rs' sf' va pa w1 := by
  refine ⟨⟨_, hp.2.1.lt, h2.step hp.2.2 fun k f => f.1, fun k f => ⟨?_, f.2⟩⟩, h.kp.fr hp.2.2 fun k f => (h3 k f).1⟩
  rcases f.1 with f | f
  · exact (h3 k f).1
  · exact Nat.le_trans h.kp.size f
/-- Which records are there behind the crash. -/
theorem keeps_rcs {a b : List (List UInt8)} {z : Int} {x : UInt8} {rs : List (List UInt8)} {sz : Nat} (ha : ∀ c ∈ a, c.length ≤ 300) (hb : ∀ c ∈ b, c.length ≤ 300) (hn : a.length ≤ 10) (hm : b.length ≤ 10)
    (h : Rcs (((Tp.mk (fr 0 a) (fr a.length b) 100000).crash z x).sf ++ ((Tp.mk (fr 0 a) (fr a.length b) 100000).crash z x).ls) rs sz) : ∃ j, j ≤ b.length ∧ rs = a ++ b.take j := by
  obtain ⟨j, hj, hr⟩ := crash_rcs a b (fun c hc => by have := ha c hc; omega) (fun c hc => by have := hb c hc; omega) (by omega) 100000 z x
  unfold Tp.crash at h
  simp only [List.append_nil] at h
  exact ⟨j, hj, (h.one hr).1⟩
end Go.Proofs.Ytikegnhjnbjclaa
