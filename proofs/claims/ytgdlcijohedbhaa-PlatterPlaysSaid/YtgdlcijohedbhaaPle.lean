/- The document's disk of layer 11 in memory; its Has, New and Read, each as a contract. No condition. -/
import Derived.Test.YtgdlcijohedbhaaPlb
namespace Go.Proofs.Ytgdlcijohedbhaa
open Go.RowKit
set_option linter.unusedVariables false
set_option maxRecDepth 20000
set_option linter.unusedSimpArgs false

theorem rwrite_info : (Try.prog.info? 62).map (fun i => (i.zero, i.size, i.bytes)) = some (some (.agg #[.int .i64 0, .slice none 0 0]), 2, 32) := by kernel_rfl
theorem ty_rwrite : Ty 62 (.agg #[.int .i64 0, .slice none 0 0]) 2 32 := ty_of rwrite_info rfl (by omega) (by omega)

/-- The slice v reads as bs, is within its room, and, if there are bytes, lies outside F. -/
structure BtF (w : World) (F : Nat → Prop) (v : Value) (bs : List UInt8) : Prop where
  bts : Bts w v bs
  far : bs ≠ [] → ∀ k, v.ownBlock = some k → ¬ F k ∧ k < w.heap.size
  room : ∀ A n c, v = .slice A n c → n ≤ c
section
variable {w w1 w2 : World} {F F1 S : Nat → Prop} {v : Value} {bs : List UInt8}
theorem BtF.mk_ (h : Bts w v bs) (hF : bs ≠ [] → ∀ k, v.ownBlock = some k → ¬ F k) (hr : ∀ A n c, v = .slice A n c → n ≤ c) : BtF w F v bs := by
  refine ⟨h, fun hb k hk => ⟨hF hb k hk, ?_⟩, hr⟩
  obtain ⟨A, c, rfl, hn, hc⟩ := h
  rcases A with _ | a
  · cases hk
  · have h0 := hc a rfl 0 _ (List.getElem?_eq_getElem (List.length_pos_iff.2 hb))
    have hl := World.block_lt_of_cell? w _ h0
    rw [blk_add] at hl
    have e : a.block = k := Option.some.inj hk
    omega
theorem BtF.keep (h : BtF w F v bs) (hk : Kp S w w1) (hS : ∀ k, k < w.heap.size → ¬ F k → ¬ S k) : BtF w1 F v bs := by
  by_cases hb : bs = []
  · subst hb
    obtain ⟨⟨A, c, rfl, hn, hc⟩, _, hr⟩ := h
    exact ⟨⟨A, c, rfl, hn, fun ad ha j u hu => by simp at hu⟩, fun g => absurd rfl g, hr⟩
  · refine ⟨h.1.keep hk fun k hk' => hS k (h.2 hb k hk').2 (h.2 hb k hk').1, fun _ k hk' => ⟨(h.2 hb k hk').1, ?_⟩, h.3⟩
    have := (h.2 hb k hk').2
    have := hk.size
    omega
theorem BtF.no (h : BtF w F v bs) (hk : Kp No w w1) : BtF w1 F v bs := h.keep hk fun _ _ _ f => f
theorem BtF.up (h : BtF w F v bs) (hF : ∀ k, k < w.heap.size → F1 k → F k) : BtF w F1 v bs :=
  ⟨h.1, fun hb k hk => ⟨fun g => (h.2 hb k hk).1 (hF k (h.2 hb k hk).2 g), (h.2 hb k hk).2⟩, h.3⟩
theorem BtF.new {e : TypeId} (h : Own w1 w.heap.size e v bs) (hF : ∀ k, F k → k < w.heap.size) : BtF w1 F v bs :=
  ⟨h.bts, fun _ k hk => ⟨fun g => by have := hF k g; have := h.ge k hk; omega, h.lt k hk⟩, fun A n c e => by rw [e] at h; exact h.cap⟩
theorem BtF.step (h : BtF w F v bs) (hk : Kp F w w1) (hF : ∀ k, F1 k → Up F w k) : BtF w1 F1 v bs := by
  have h1 := h.keep hk fun k _ g => g
  exact ⟨h1.1, (fun hb k hk' => ⟨fun g => by
    rcases hF k g with f | f
    · exact (h.2 hb k hk').1 f
    · have := (h.2 hb k hk').2
      omega, (h1.2 hb k hk').2⟩), h.3⟩
end

/-- The document's disk D, in the value of its four fields; what it holds lies outside F. -/
structure RfR (w : World) (F : Nat → Prop) (D : Dk) (vc vl : Value) (cs : List (Value × List UInt8)) (ls : List (Nat × (Value × List UInt8))) : Prop where
  oc : OwnT w 0 33 1 vc cs.length (cs.map Prod.fst)
  ol : OwnT w 0 62 2 vl ls.length (lsC (mp Prod.fst ls))
  rc : ∀ p ∈ cs, BtF w F p.1 p.2
  rl : ∀ p ∈ ls, BtF w F p.2.1 p.2.2
  dc : D.cells = cs.map Prod.snd
  dl : D.loose = mp Prod.snd ls
  fc : ∀ k, vc.ownBlock = some k → ¬ F k
  fl : ∀ k, vl.ownBlock = some k → ¬ F k
  bd : ∀ k, F k → k < w.heap.size
  ok : D.Ok
def rfV (D : Dk) (vc vl : Value) : Value := .agg #[.int .i64 (D.size : Int), vc, vl, .int .i64 (D.syncs : Int)]
def RfAt (w : World) (F : Nat → Prop) (D : Dk) (v : Value) : Prop := ∃ vc vl cs ls, v = rfV D vc vl ∧ RfR w F D vc vl cs ls
section
variable {w w1 : World} {F F1 S : Nat → Prop} {D : Dk} {vc vl v : Value} {cs : List (Value × List UInt8)} {ls : List (Nat × (Value × List UInt8))} {gc n c k q : Nat}
theorem RfR.keep (h : RfR w F D vc vl cs ls) (hk : Kp S w w1) (hS : ∀ k, k < w.heap.size → ¬ F k → ¬ S k) : RfR w1 F D vc vl cs ls :=
  ⟨h.oc.keep hk fun k hk => hS k (h.oc.lt k hk) (h.fc k hk), h.ol.keep hk fun k hk => hS k (h.ol.lt k hk) (h.fl k hk), fun p hp => (h.rc p hp).keep hk hS, fun p hp => (h.rl p hp).keep hk hS, h.dc, h.dl, h.fc, h.fl, fun k hF => Nat.lt_of_lt_of_le (h.bd k hF) hk.size, h.ok⟩
theorem RfR.no (h : RfR w F D vc vl cs ls) (hk : Kp No w w1) : RfR w1 F D vc vl cs ls := h.keep hk fun _ _ _ f => f
theorem RfAt.keep (h : RfAt w F D v) (hk : Kp S w w1) (hS : ∀ k, k < w.heap.size → ¬ F k → ¬ S k) : RfAt w1 F D v := by
  obtain ⟨vc, vl, cs, ls, e, h⟩ := h
  exact ⟨vc, vl, cs, ls, e, h.keep hk hS⟩
theorem RfAt.no (h : RfAt w F D v) (hk : Kp No w w1) : RfAt w1 F D v := h.keep hk fun _ _ _ f => f
/-- The other blocks have grown. -/
theorem RfR.step (h : RfR w F D vc vl cs ls) (hk : Kp F w w1) (hF : ∀ k, F1 k → Up F w k ∧ k < w1.heap.size) : RfR w1 F1 D vc vl cs ls := by
  have h1 := h.keep hk fun k _ g => g
  have key : ∀ k, k < w.heap.size → ¬ F k → ¬ F1 k := fun k hk hn g => by
    rcases (hF k g).1 with f | f
    · exact hn f
    · omega
  exact ⟨h1.oc, h1.ol, fun p hp => (h.rc p hp).step hk fun k g => (hF k g).1, fun p hp => (h.rl p hp).step hk fun k g => (hF k g).1, h1.dc, h1.dl, fun k hk => key k (h.oc.lt k hk) (h.fc k hk), fun k hk => key k (h.ol.lt k hk) (h.fl k hk), fun k g => (hF k g).2, h1.ok⟩
theorem RfAt.step (h : RfAt w F D v) (hk : Kp F w w1) (hF : ∀ k, F1 k → Up F w k ∧ k < w1.heap.size) : RfAt w1 F1 D v := by
  obtain ⟨vc, vl, cs, ls, e, h⟩ := h
  exact ⟨vc, vl, cs, ls, e, h.step hk hF⟩
theorem RfR.less (h : RfR w F D vc vl cs ls) (hF : ∀ k, F1 k → F k) : RfR w F1 D vc vl cs ls :=
  ⟨h.oc, h.ol, fun p hp => (h.rc p hp).up fun k _ g => hF k g, fun p hp => (h.rl p hp).up fun k _ g => hF k g, h.dc, h.dl, fun k hk g => h.fc k hk (hF k g), fun k hk g => h.fl k hk (hF k g), fun k g => h.bd k (hF k g), h.ok⟩
theorem RfR.ncs (h : RfR w F D vc vl cs ls) : cs.length = D.cells.length := by rw [h.dc, List.length_map]
theorem RfR.nls (h : RfR w F D vc vl cs ls) : ls.length = D.loose.length := by rw [h.dl, mp_len]
theorem RfR.vc_ (h : RfR w F D vc vl cs ls) : ∃ gc c, vc = .slice (some ⟨gc, 0, none⟩) D.cells.length c ∧ D.cells.length ≤ c := by
  have hn := h.ok.n0
  have hcs := h.ncs
  obtain ⟨A, c, e⟩ := h.oc.form
  have ho := h.oc
  rw [e] at ho
  obtain ⟨gc, e1, _⟩ := ho.some_ (by omega)
  subst e1
  have := ho.cap
  exact ⟨gc, c, by rw [e, hcs], by omega⟩
theorem RfR.vl_ (h : RfR w F D vc vl cs ls) : ∃ A c, vl = .slice A D.loose.length c ∧ D.loose.length ≤ c ∧ D.loose.length ≤ maxLen := by
  obtain ⟨A, c, e⟩ := h.ol.form
  have ho := h.ol
  rw [e] at ho
  refine ⟨A, c, by rw [e, h.nls], ?_, ?_⟩
  all_goals
    rw [← h.nls]
    rcases ho.2 with ⟨e1, e2⟩ | ⟨g', cap, cur, e1, _, _, h1, h2, _⟩
    · omega
    · injection e1 with _ _ e3
      omega
/-- One of the cells. -/
theorem RfR.cell (h : RfR w F D vc vl cs ls) (hv : vc = .slice (some ⟨gc, 0, none⟩) n c) (hk : k < D.cells.length) : ∃ A' m c', cs[k]? = some (.slice A' m c', D.cell k) ∧ w.cell? ⟨gc, k, none⟩ = some (.slice A' m c') ∧ BtF w F (.slice A' m c') (D.cell k) ∧ m = (D.cell k).length := by
  subst hv
  have hcs := h.ncs
  have hp : cs[k]? = some cs[k] := List.getElem?_eq_getElem (by omega)
  have ho := h.rc _ (List.mem_of_getElem? hp)
  obtain ⟨A', m, c', e⟩ := ho.1.form
  have hd : D.cell k = cs[k].2 := by
    unfold Dk.cell
    rw [h.dc, List.getD_eq_getElem?_getD, List.getElem?_map, hp]
    rfl
  have hc : w.cell? ⟨gc, k, none⟩ = some cs[k].1 := h.oc.cellAt (by rw [List.getElem?_map, hp]; rfl)
  rw [e] at ho hc
  rw [hd]
  exact ⟨A', m, c', by rw [hp, ← e], hc, ho, ho.1.len⟩
/-- One of the loose writes. -/
theorem RfR.lw (h : RfR w F D vc vl cs ls) {A : Option Addr} {m cl : Nat} (hv : vl = .slice A m cl) {j : Nat} (hj : j < D.loose.length) : ∃ gl q A' m' c' bs, A = some ⟨gl, 0, none⟩ ∧ D.loose[j]? = some (q, bs) ∧ ls[j]? = some (q, (.slice A' m' c', bs)) ∧ w.cell? ⟨gl, j * 2, none⟩ = some (.int .i64 (q : Int)) ∧ w.cell? ⟨gl, j * 2 + 1, none⟩ = some (.slice A' m' c') ∧ BtF w F (.slice A' m' c') bs ∧ q < D.cells.length ∧ bs.length ≤ D.size := by
  subst hv
  have hn := h.nls
  obtain ⟨p, hp⟩ : ∃ p, ls[j]? = some p := ⟨_, List.getElem?_eq_getElem (by omega)⟩
  have ho := h.rl p (List.mem_of_getElem? hp)
  obtain ⟨q, v, bs⟩ := p
  obtain ⟨A', m', c', e⟩ := ho.1.form
  obtain ⟨h1, h2⟩ := lsC_get (lv := mp Prod.fst ls) (j := j) (p := (q, v)) (by rw [mp_get, hp]; rfl)
  obtain ⟨gl, e1, _, _, _, x1⟩ := h.ol.cell h1
  have x2 := OwnT.cellAt (by rw [e1] at h; exact h.ol) h2
  have hd : D.loose[j]? = some (q, bs) := by rw [h.dl, mp_get, hp]; rfl
  have hll := h.ok.ll _ (List.mem_of_getElem? hd)
  simp only at e
  subst e
  exact ⟨gl, q, A', m', c', bs, e1, hd, hp, x1, x2, ho, hll.1, hll.2⟩
end

section
variable {w : World} {F : Nat → Prop} {D : Dk} {vc vl v : Value} {cs : List (Value × List UInt8)} {ls : List (Nat × (Value × List UInt8))}
theorem rhas_in (h : RfR w F D vc vl cs ls) (z : Int) (hz : D.In z) : Calls Try.prog 30 #[rfV D vc vl, .int .i64 z] w fun e w1 => e = .returned (.bool true) ∧ Kp No w w1 := by
  obtain ⟨gc, c, rfl, hc⟩ := h.vc_
  obtain ⟨z0, z1⟩ := hz
  unfold rfV
  go_enter Try.func30, Try.ntmps30
  go_wp2
  go_ret
  exact ⟨rfl, Kp.alloc No _ _⟩
theorem rhas_out (h : RfR w F D vc vl cs ls) (z : Int) (hz : ¬ D.In z) : Calls Try.prog 30 #[rfV D vc vl, .int .i64 z] w fun e w1 => e = .returned (.bool false) ∧ Kp No w w1 := by
  obtain ⟨gc, c, rfl, hc⟩ := h.vc_
  unfold rfV
  by_cases z0 : 0 ≤ z
  · have z1 : ¬ z < D.cells.length := fun g => hz ⟨z0, g⟩
    clear hz
    go_enter Try.func30, Try.ntmps30
    go_wp2
    go_ret
    exact ⟨rfl, Kp.alloc No _ _⟩
  · clear hz
    go_enter Try.func30, Try.ntmps30
    go_wp2
    go_ret
    exact ⟨rfl, Kp.alloc No _ _⟩

/-- What the document's New returns. -/
def RnewPost (w : World) (F : Nat → Prop) (n s : Nat) (e : Ending) (w1 : World) : Prop := ∃ v, e = .returned v ∧ RfAt w1 F (Dk.new n s) v ∧ Kp No w w1
theorem rnew_any (w : World) (F : Nat → Prop) (hF : ∀ k, F k → k < w.heap.size) (n s : Nat) (h1 : 1 ≤ n) (h2 : n ≤ 1024) (h3 : 1 ≤ s) (h4 : s ≤ 4096) : Calls Try.prog 8 #[.int .i64 (n : Int), .int .i64 (s : Int)] w (RnewPost w F n s) := by
  have hmk := fun w => make_slcs w n (n : Int) rfl (by omega)
  go_enter Try.func8, Try.ntmps8
  go_wp2
  have e1 : (w.alloc (.cells #[.int .i64 (s : Int), .slice (some ⟨w.heap.size + 1, 0, none⟩) n n, .slice none 0 0, .int .i64 0] 31)).heap.size = w.heap.size + 1 := by simp
  have ho := ownT_slcs (w.alloc (.cells #[.int .i64 (s : Int), .slice (some ⟨w.heap.size + 1, 0, none⟩) n n, .slice none 0 0, .int .i64 0] 31)) 0 n (Nat.zero_le _) (by omega)
  rw [e1] at ho
  have K := (Kp.alloc No w (.cells #[.int .i64 (s : Int), .slice (some ⟨w.heap.size + 1, 0, none⟩) n n, .slice none 0 0, .int .i64 0] 31)).al (.cells (zsl n) 33)
  have k1 := Kp.alloc No (w.alloc (.cells #[.int .i64 (s : Int), .slice (some ⟨w.heap.size + 1, 0, none⟩) n n, .slice none 0 0, .int .i64 0] 31)) (.cells (zsl n) 33)
  have c0 := k1.box (j := 0) rfl
  have c1 := k1.box (j := 1) rfl
  have c2 := k1.box (j := 2) rfl
  have c3 := k1.box (j := 3) rfl
  have HO := hide ho
  have HK := hide K
  clear ho K k1 e1 hmk
  generalize (w.alloc (.cells #[.int .i64 (s : Int), .slice (some ⟨w.heap.size + 1, 0, none⟩) n n, .slice none 0 0, .int .i64 0] 31)).alloc (.cells (zsl n) 33) = w2 at HO HK c0 c1 c2 c3 ⊢
  refine bodyPost_ret (v := .agg #[.int .i64 (s : Int), .slice (some ⟨w.heap.size + 1, 0, none⟩) n n, .slice none 0 0, .int .i64 0]) (by simp [results, Try.results8, go_sem, c0, c1, c2, c3]) rfl ?_
  refine ⟨_, rfl, ⟨.slice (some ⟨w.heap.size + 1, 0, none⟩) n n, .slice none 0 0, List.replicate n (.slice none 0 0, []), [], rfl, ⟨?_, OwnT.nil _ _ _ _, (fun p hp => ?_), (fun p hp => by simp at hp), ?_, rfl, (fun k hk g => ?_), (fun k hk => by cases hk), (fun k g => Nat.lt_of_lt_of_le (hF k g) HK.out.size), Dk.new_ok h1 h2 h3 h4⟩⟩, HK.out⟩
  · have := HO.out
    simpa using this
  · obtain rfl := List.eq_of_mem_replicate hp
    exact ⟨Bts.nil _, fun g => absurd rfl g, fun A n c e => by injection e with _ e1 e2; omega⟩
  · simp [Dk.new]
  · have hk2 : w.heap.size + 1 = k := Option.some.inj hk
    have := hF k g
    omega

/-- What the document's Read returns. -/
def RrdPost (w : World) (bs : List UInt8) (e : Ending) (w1 : World) : Prop := ∃ A n c, e = .returned (.slice A n c) ∧ Bts w1 (.slice A n c) bs ∧ Kp No w w1
set_option maxHeartbeats 2000000 in
theorem rread_any (h : RfAt w F D v) (z : Int) : Calls Try.prog 21 #[v, .int .i64 z] w (RrdPost w (D.rd z)) := by
  obtain ⟨vc, vl, cs, ls, rfl, h⟩ := h
  by_cases hz : D.In z
  · have hhas := fun w1 (hk : Kp No w w1) => rhas_in (h.no hk) z hz
    obtain ⟨q, rfl⟩ : ∃ q : Nat, z = q := ⟨z.toNat, by have := hz.1; omega⟩
    have hq : q < D.cells.length := by have := hz.2; omega
    have hrd : D.rd (q : Int) = rdL D.loose q (D.cell q) := by unfold Dk.rd; rw [if_pos hz, Int.toNat_natCast]
    rw [hrd]
    clear hrd hz
    obtain ⟨gc, c, rfl, hc⟩ := h.vc_
    obtain ⟨A, cl, rfl, hcl, hL⟩ := h.vl_
    unfold maxLen at hL
    unfold rfV at *
    have HHAS := hide hhas
    have HH := hide h
    clear hhas h
    go_enter Try.func21, Try.ntmps21
    go_wp2_with fail
    refine (HHAS.out _ (Kp.alloc No _ _)).mono ?_
    rintro e w1 ⟨rfl, k1⟩
    have c1 := k1.box (j := 1) rfl
    have c2 := k1.box (j := 2) rfl
    have K1 : Kp No w w1 := (Kp.alloc No _ _).trans' k1
    have h1 := HH.out.no K1
    obtain ⟨A', m, c', _, xk, hok, hm⟩ := h1.cell rfl hq
    clear hm
    have HK1 := hide K1
    clear K1 k1
    generalize w.heap.size = s at c1 c2 ⊢
    go_wp2_with fail
    go_loop [5, 6] (fun b i => ∃ (k : Nat) (A1 : Option Addr) (n1 cc1 : Nat), k ≤ D.loose.length ∧ i = .int .i64 (k : Int) ∧ b = .slice A1 n1 cc1 ∧ Bts w1 (.slice A1 n1 cc1) (rdL (D.loose.take k) q (D.cell q))) (fun _ i => D.loose.length - (intOf i).toNat)
    case atStart => exact ⟨0, A', m, c', Nat.zero_le _, rfl, rfl, hok.1⟩
    case round =>
      obtain ⟨k, A1, n1, cc1, hk, rfl, rfl, hB⟩ := hrel
      by_cases hlt : k < D.loose.length
      · obtain ⟨gl, p, A2, m2, c2', bs, rfl, hp, _, y0, y1, hob, _, hbl⟩ := h1.lw rfl hlt
        have hN := rdL_next hp q (D.cell q)
        by_cases hpq : p = q
        · rw [if_pos hpq] at hN
          have HN : Hid (Bts w1 (.slice A2 m2 c2') (rdL (D.loose.take (k + 1)) q (D.cell q))) := by show Bts _ _ _; rw [hN]; exact hob.1
          have hne : ((p : Int) == (q : Int)) = true := by simp; omega
          clear hN hp hob hB hpq
          go_wp2_with fail
          go_round
          case rel => exact ⟨k + 1, A2, m2, c2', by omega, by go_num, rfl, HN.out⟩
          case measure => simp [intOf]; omega
        · rw [if_neg hpq] at hN
          have HN : Hid (Bts w1 (.slice A1 n1 cc1) (rdL (D.loose.take (k + 1)) q (D.cell q))) := by show Bts _ _ _; rw [hN]; exact hB
          have hne : ((p : Int) == (q : Int)) = false := by simp; omega
          clear hN hp hob hB hpq
          go_wp2_with fail
          go_round
          case rel => exact ⟨k + 1, A1, n1, cc1, by omega, by go_num, rfl, HN.out⟩
          case measure => simp [intOf]; omega
      · obtain rfl : k = D.loose.length := by omega
        rw [List.take_of_length_le (Nat.le_refl _)] at hB
        have HB := hide hB
        clear hB
        go_wp2_with fail
        go_ret
        exact ⟨A1, n1, cc1, rfl, HB.out, HK1.out⟩
  · have hhas := fun w1 (hk : Kp No w w1) => rhas_out (h.no hk) z hz
    have hrd : D.rd z = [] := by unfold Dk.rd; rw [if_neg hz]
    rw [hrd]
    clear hz
    unfold rfV at *
    have HHAS := hide hhas
    clear hhas h
    go_enter Try.func21, Try.ntmps21
    go_wp2_with fail
    refine (HHAS.out _ (Kp.alloc No _ _)).mono ?_
    rintro e w1 ⟨rfl, k1⟩
    go_wp2_with fail
    go_ret
    exact ⟨none, 0, 0, rfl, Bts.nil _, (Kp.alloc No _ _).trans' k1⟩
end
end Go.Proofs.Ytgdlcijohedbhaa
