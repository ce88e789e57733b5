/- The document's disk of layer 11 in memory; its Has, New and Read, each as a contract. No condition; The document's Take of layer 1 at a shard's name, and its Read of layer 12, as contracts over memory. -/
import Derived.Test.YtndghapdpfgmoaaGreatPlb
import Derived.Test.YtndghapdpfgmoaaGreatVgc
import Derived.Test.YtndghapdpfgmoaaGreatVvb
namespace Go.Proofs.YtndghapdpfgmoaaGreat
open Go.RowKit
set_option linter.unusedVariables false
set_option maxRecDepth 20000
set_option linter.unusedSimpArgs false

theorem rwrite_info : (Tryz.prog.info? 111).map (fun i => (i.zero, i.size, i.bytes)) = some (some (.agg #[.int .i64 0, .slice none 0 0]), 2, 32) := by kernel_rfl
theorem ty_rwrite : Ty 111 (.agg #[.int .i64 0, .slice none 0 0]) 2 32 := ty_of rwrite_info rfl (by omega) (by omega)

/-- The slice v reads as bs, is within its room, and, if there are bytes, lies outside F. -/
structure BtF (w : World) (F : Nat → Prop) (v : Value) (bs : List UInt8) : Prop where
  bts : Bts w v bs
  far : bs ≠ [] → ∀ k, v.ownBlock = some k → ¬ F k ∧ k < w.heap.size
  room : ∀ A n c, v = .slice A n c → n ≤ c
section
variable {w w1 w2 : World} {F F1 S : Nat → Prop} {v : Value} {bs : List UInt8}
theorem BtF.mk_ (h : Bts w v bs) (hF : bs ≠ [] → ∀ k, v.ownBlock = some k → ¬ F k) (hr : ∀ A n c, v = .slice A n c → n ≤ c) : BtF w F v bs := by
  refine ⟨h, fun hb k hk => ⟨hF hb k hk, ?_⟩, hr⟩
  obtain ⟨A, c, rfl, hn, hc⟩ := h
  rcases A with _ | a
  · cases hk
  · have h0 := hc a rfl 0 _ (List.getElem?_eq_getElem (List.length_pos_iff.2 hb))
    have hl := World.block_lt_of_cell? w _ h0
    rw [blk_add] at hl
    have e : a.block = k := Option.some.inj hk
    omega
theorem BtF.keep (h : BtF w F v bs) (hk : Kp S w w1) (hS : ∀ k, k < w.heap.size → ¬ F k → ¬ S k) : BtF w1 F v bs := by
  by_cases hb : bs = []
  · subst hb
    obtain ⟨⟨A, c, rfl, hn, hc⟩, _, hr⟩ := h
    exact ⟨⟨A, c, rfl, hn, fun ad ha j u hu => by simp at hu⟩, fun g => absurd rfl g, hr⟩
  · refine ⟨h.1.keep hk fun k hk' => hS k (h.2 hb k hk').2 (h.2 hb k hk').1, fun _ k hk' => ⟨(h.2 hb k hk').1, ?_⟩, h.3⟩
    have := (h.2 hb k hk').2
    have := hk.size
    omega
theorem BtF.no (h : BtF w F v bs) (hk : Kp No w w1) : BtF w1 F v bs := h.keep hk fun _ _ _ f => f
theorem BtF.up (h : BtF w F v bs) (hF : ∀ k, k < w.heap.size → F1 k → F k) : BtF w F1 v bs :=
  ⟨h.1, fun hb k hk => ⟨fun g => (h.2 hb k hk).1 (hF k (h.2 hb k hk).2 g), (h.2 hb k hk).2⟩, h.3⟩
theorem BtF.new {e : TypeId} (h : Own w1 w.heap.size e v bs) (hF : ∀ k, F k → k < w.heap.size) : BtF w1 F v bs :=
  ⟨h.bts, fun _ k hk => ⟨fun g => by have := hF k g; have := h.ge k hk; omega, h.lt k hk⟩, fun A n c e => by rw [e] at h; exact h.cap⟩
theorem BtF.step (h : BtF w F v bs) (hk : Kp F w w1) (hF : ∀ k, F1 k → Up F w k) : BtF w1 F1 v bs := by
  have h1 := h.keep hk fun k _ g => g
  exact ⟨h1.1, (fun hb k hk' => ⟨fun g => by
    rcases hF k g with f | f
    · exact (h.2 hb k hk').1 f
    · have := (h.2 hb k hk').2
      omega, (h1.2 hb k hk').2⟩), h.3⟩
end

/-- The document's disk D, in the value of its four fields; what it holds lies outside F. -/
structure RfR (w : World) (F : Nat → Prop) (D : Dk) (vc vl : Value) (cs : List (Value × List UInt8)) (ls : List (Nat × (Value × List UInt8))) : Prop where
  oc : OwnT w 0 47 1 vc cs.length (cs.map Prod.fst)
  ol : OwnT w 0 111 2 vl ls.length (lsC (mp Prod.fst ls))
  rc : ∀ p ∈ cs, BtF w F p.1 p.2
  rl : ∀ p ∈ ls, BtF w F p.2.1 p.2.2
  dc : D.cells = cs.map Prod.snd
  dl : D.loose = mp Prod.snd ls
  fc : ∀ k, vc.ownBlock = some k → ¬ F k
  fl : ∀ k, vl.ownBlock = some k → ¬ F k
  bd : ∀ k, F k → k < w.heap.size
  ok : D.Ok
def rfV (D : Dk) (vc vl : Value) : Value := .agg #[.int .i64 (D.size : Int), vc, vl, .int .i64 (D.syncs : Int)]
def RfAt (w : World) (F : Nat → Prop) (D : Dk) (v : Value) : Prop := ∃ vc vl cs ls, v = rfV D vc vl ∧ RfR w F D vc vl cs ls
section
variable {w w1 : World} {F F1 S : Nat → Prop} {D : Dk} {vc vl v : Value} {cs : List (Value × List UInt8)} {ls : List (Nat × (Value × List UInt8))} {gc n c k q : Nat}
theorem RfR.keep (h : RfR w F D vc vl cs ls) (hk : Kp S w w1) (hS : ∀ k, k < w.heap.size → ¬ F k → ¬ S k) : RfR w1 F D vc vl cs ls :=
  ⟨h.oc.keep hk fun k hk => hS k (h.oc.lt k hk) (h.fc k hk), h.ol.keep hk fun k hk => hS k (h.ol.lt k hk) (h.fl k hk), fun p hp => (h.rc p hp).keep hk hS, fun p hp => (h.rl p hp).keep hk hS, h.dc, h.dl, h.fc, h.fl, fun k hF => Nat.lt_of_lt_of_le (h.bd k hF) hk.size, h.ok⟩
theorem RfR.no (h : RfR w F D vc vl cs ls) (hk : Kp No w w1) : RfR w1 F D vc vl cs ls := h.keep hk fun _ _ _ f => f
theorem RfAt.keep (h : RfAt w F D v) (hk : Kp S w w1) (hS : ∀ k, k < w.heap.size → ¬ F k → ¬ S k) : RfAt w1 F D v := by
  obtain ⟨vc, vl, cs, ls, e, h⟩ := h
  exact ⟨vc, vl, cs, ls, e, h.keep hk hS⟩
theorem RfAt.no (h : RfAt w F D v) (hk : Kp No w w1) : RfAt w1 F D v := h.keep hk fun _ _ _ f => f
/-- The other blocks have grown. -/
theorem RfR.step (h : RfR w F D vc vl cs ls) (hk : Kp F w w1) (hF : ∀ k, F1 k → Up F w k ∧ k < w1.heap.size) : RfR w1 F1 D vc vl cs ls := by
  have h1 := h.keep hk fun k _ g => g
  have key : ∀ k, k < w.heap.size → ¬ F k → ¬ F1 k := fun k hk hn g => by
    rcases (hF k g).1 with f | f
    · exact hn f
    · omega
  exact ⟨h1.oc, h1.ol, fun p hp => (h.rc p hp).step hk fun k g => (hF k g).1, fun p hp => (h.rl p hp).step hk fun k g => (hF k g).1, h1.dc, h1.dl, fun k hk => key k (h.oc.lt k hk) (h.fc k hk), fun k hk => key k (h.ol.lt k hk) (h.fl k hk), fun k g => (hF k g).2, h1.ok⟩
theorem RfAt.step (h : RfAt w F D v) (hk : Kp F w w1) (hF : ∀ k, F1 k → Up F w k ∧ k < w1.heap.size) : RfAt w1 F1 D v := by
  obtain ⟨vc, vl, cs, ls, e, h⟩ := h
  exact ⟨vc, vl, cs, ls, e, h.step hk hF⟩
theorem RfR.less (h : RfR w F D vc vl cs ls) (hF : ∀ k, F1 k → F k) : RfR w F1 D vc vl cs ls :=
  ⟨h.oc, h.ol, fun p hp => (h.rc p hp).up fun k _ g => hF k g, fun p hp => (h.rl p hp).up fun k _ g => hF k g, h.dc, h.dl, fun k hk g => h.fc k hk (hF k g), fun k hk g => h.fl k hk (hF k g), fun k g => h.bd k (hF k g), h.ok⟩
theorem RfR.ncs (h : RfR w F D vc vl cs ls) : cs.length = D.cells.length := by rw [h.dc, List.length_map]
theorem RfR.nls (h : RfR w F D vc vl cs ls) : ls.length = D.loose.length := by rw [h.dl, mp_len]
theorem RfR.vc_ (h : RfR w F D vc vl cs ls) : ∃ gc c, vc = .slice (some ⟨gc, 0, none⟩) D.cells.length c ∧ D.cells.length ≤ c := by
  have hn := h.ok.n0
  have hcs := h.ncs
  obtain ⟨A, c, e⟩ := h.oc.form
  have ho := h.oc
  rw [e] at ho
  obtain ⟨gc, e1, _⟩ := ho.some_ (by omega)
  subst e1
  have := ho.cap
  exact ⟨gc, c, by rw [e, hcs], by omega⟩
theorem RfR.vl_ (h : RfR w F D vc vl cs ls) : ∃ A c, vl = .slice A D.loose.length c ∧ D.loose.length ≤ c ∧ D.loose.length ≤ maxLen := by
  obtain ⟨A, c, e⟩ := h.ol.form
  have ho := h.ol
  rw [e] at ho
  refine ⟨A, c, by rw [e, h.nls], ?_, ?_⟩
  all_goals
    rw [← h.nls]
    rcases ho.2 with ⟨e1, e2⟩ | ⟨g', cap, cur, e1, _, _, h1, h2, _⟩
    · omega
    · injection e1 with _ _ e3
      omega
/-- One of the cells. -/
theorem RfR.cell (h : RfR w F D vc vl cs ls) (hv : vc = .slice (some ⟨gc, 0, none⟩) n c) (hk : k < D.cells.length) : ∃ A' m c', cs[k]? = some (.slice A' m c', D.cell k) ∧ w.cell? ⟨gc, k, none⟩ = some (.slice A' m c') ∧ BtF w F (.slice A' m c') (D.cell k) ∧ m = (D.cell k).length := by
  subst hv
  have hcs := h.ncs
  have hp : cs[k]? = some cs[k] := List.getElem?_eq_getElem (by omega)
  have ho := h.rc _ (List.mem_of_getElem? hp)
  obtain ⟨A', m, c', e⟩ := ho.1.form
  have hd : D.cell k = cs[k].2 := by
    unfold Dk.cell
    rw [h.dc, List.getD_eq_getElem?_getD, List.getElem?_map, hp]
    rfl
  have hc : w.cell? ⟨gc, k, none⟩ = some cs[k].1 := h.oc.cellAt (by rw [List.getElem?_map, hp]; rfl)
  rw [e] at ho hc
  rw [hd]
  exact ⟨A', m, c', by rw [hp, ← e], hc, ho, ho.1.len⟩
/-- One of the loose writes. -/
theorem RfR.lw (h : RfR w F D vc vl cs ls) {A : Option Addr} {m cl : Nat} (hv : vl = .slice A m cl) {j : Nat} (hj : j < D.loose.length) : ∃ gl q A' m' c' bs, A = some ⟨gl, 0, none⟩ ∧ D.loose[j]? = some (q, bs) ∧ ls[j]? = some (q, (.slice A' m' c', bs)) ∧ w.cell? ⟨gl, j * 2, none⟩ = some (.int .i64 (q : Int)) ∧ w.cell? ⟨gl, j * 2 + 1, none⟩ = some (.slice A' m' c') ∧ BtF w F (.slice A' m' c') bs ∧ q < D.cells.length ∧ bs.length ≤ D.size := by
  subst hv
  have hn := h.nls
  obtain ⟨p, hp⟩ : ∃ p, ls[j]? = some p := ⟨_, List.getElem?_eq_getElem (by omega)⟩
  have ho := h.rl p (List.mem_of_getElem? hp)
  obtain ⟨q, v, bs⟩ := p
  obtain ⟨A', m', c', e⟩ := ho.1.form
  obtain ⟨h1, h2⟩ := lsC_get (lv := mp Prod.fst ls) (j := j) (p := (q, v)) (by rw [mp_get, hp]; rfl)
  obtain ⟨gl, e1, _, _, _, x1⟩ := h.ol.cell h1
  have x2 := OwnT.cellAt (by rw [e1] at h; exact h.ol) h2
  have hd : D.loose[j]? = some (q, bs) := by rw [h.dl, mp_get, hp]; rfl
  have hll := h.ok.ll _ (List.mem_of_getElem? hd)
  simp only at e
  subst e
  exact ⟨gl, q, A', m', c', bs, e1, hd, hp, x1, x2, ho, hll.1, hll.2⟩
end

section
variable {w : World} {F : Nat → Prop} {D : Dk} {vc vl v : Value} {cs : List (Value × List UInt8)} {ls : List (Nat × (Value × List UInt8))}
theorem rhas_in (h : RfR w F D vc vl cs ls) (z : Int) (hz : D.In z) : Calls Tryz.prog 48 #[rfV D vc vl, .int .i64 z] w fun e w1 => e = .returned (.bool true) ∧ Kp No w w1 := by
  obtain ⟨gc, c, rfl, hc⟩ := h.vc_
  obtain ⟨z0, z1⟩ := hz
  unfold rfV
  go_enter Tryz.func48, Tryz.ntmps48
  go_wp2
  go_ret
  exact ⟨rfl, Kp.alloc No _ _⟩
theorem rhas_out (h : RfR w F D vc vl cs ls) (z : Int) (hz : ¬ D.In z) : Calls Tryz.prog 48 #[rfV D vc vl, .int .i64 z] w fun e w1 => e = .returned (.bool false) ∧ Kp No w w1 := by
  obtain ⟨gc, c, rfl, hc⟩ := h.vc_
  unfold rfV
  by_cases z0 : 0 ≤ z
  · have z1 : ¬ z < D.cells.length := fun g => hz ⟨z0, g⟩
    clear hz
    go_enter Tryz.func48, Tryz.ntmps48
    go_wp2
    go_ret
    exact ⟨rfl, Kp.alloc No _ _⟩
  · clear hz
    go_enter Tryz.func48, Tryz.ntmps48
    go_wp2
    go_ret
    exact ⟨rfl, Kp.alloc No _ _⟩

/-- What the document's New returns. -/
def RnewPost (w : World) (F : Nat → Prop) (n s : Nat) (e : Ending) (w1 : World) : Prop := ∃ v, e = .returned v ∧ RfAt w1 F (Dk.new n s) v ∧ Kp No w w1
theorem rnew_any (w : World) (F : Nat → Prop) (hF : ∀ k, F k → k < w.heap.size) (n s : Nat) (h1 : 1 ≤ n) (h2 : n ≤ 1024) (h3 : 1 ≤ s) (h4 : s ≤ 4096) : Calls Tryz.prog 9 #[.int .i64 (n : Int), .int .i64 (s : Int)] w (RnewPost w F n s) := by
  have hmk := fun w => make_slcs w n (n : Int) rfl (by omega)
  go_enter Tryz.func9, Tryz.ntmps9
  go_wp2
  have e1 : (w.alloc (.cells #[.int .i64 (s : Int), .slice (some ⟨w.heap.size + 1, 0, none⟩) n n, .slice none 0 0, .int .i64 0] 35)).heap.size = w.heap.size + 1 := by simp
  have ho := ownT_slcs (w.alloc (.cells #[.int .i64 (s : Int), .slice (some ⟨w.heap.size + 1, 0, none⟩) n n, .slice none 0 0, .int .i64 0] 35)) 0 n (Nat.zero_le _) (by omega)
  rw [e1] at ho
  have K := (Kp.alloc No w (.cells #[.int .i64 (s : Int), .slice (some ⟨w.heap.size + 1, 0, none⟩) n n, .slice none 0 0, .int .i64 0] 35)).al (.cells (zsl n) 47)
  have k1 := Kp.alloc No (w.alloc (.cells #[.int .i64 (s : Int), .slice (some ⟨w.heap.size + 1, 0, none⟩) n n, .slice none 0 0, .int .i64 0] 35)) (.cells (zsl n) 47)
  have c0 := k1.box (j := 0) rfl
  have c1 := k1.box (j := 1) rfl
  have c2 := k1.box (j := 2) rfl
  have c3 := k1.box (j := 3) rfl
  have HO := hide ho
  have HK := hide K
  clear ho K k1 e1 hmk
  generalize (w.alloc (.cells #[.int .i64 (s : Int), .slice (some ⟨w.heap.size + 1, 0, none⟩) n n, .slice none 0 0, .int .i64 0] 35)).alloc (.cells (zsl n) 47) = w2 at HO HK c0 c1 c2 c3 ⊢
  refine bodyPost_ret (v := .agg #[.int .i64 (s : Int), .slice (some ⟨w.heap.size + 1, 0, none⟩) n n, .slice none 0 0, .int .i64 0]) (by simp [results, Tryz.results9, go_sem, c0, c1, c2, c3]) rfl ?_
  refine ⟨_, rfl, ⟨.slice (some ⟨w.heap.size + 1, 0, none⟩) n n, .slice none 0 0, List.replicate n (.slice none 0 0, []), [], rfl, ⟨?_, OwnT.nil _ _ _ _, (fun p hp => ?_), (fun p hp => by simp at hp), ?_, rfl, (fun k hk g => ?_), (fun k hk => by cases hk), (fun k g => Nat.lt_of_lt_of_le (hF k g) HK.out.size), Dk.new_ok h1 h2 h3 h4⟩⟩, HK.out⟩
  · have := HO.out
    simpa using this
  · obtain rfl := List.eq_of_mem_replicate hp
    exact ⟨Bts.nil _, fun g => absurd rfl g, fun A n c e => by injection e with _ e1 e2; omega⟩
  · simp [Dk.new]
  · have hk2 : w.heap.size + 1 = k := Option.some.inj hk
    have := hF k g
    omega

/-- What the document's Read returns. -/
def RrdPost (w : World) (bs : List UInt8) (e : Ending) (w1 : World) : Prop := ∃ A n c, e = .returned (.slice A n c) ∧ n ≤ c ∧ Bts w1 (.slice A n c) bs ∧ Kp No w w1
set_option maxHeartbeats 2000000 in
theorem rread_any (h : RfAt w F D v) (z : Int) : Calls Tryz.prog 24 #[v, .int .i64 z] w (RrdPost w (D.rd z)) := by
  obtain ⟨vc, vl, cs, ls, rfl, h⟩ := h
  by_cases hz : D.In z
  · have hhas := fun w1 (hk : Kp No w w1) => rhas_in (h.no hk) z hz
    obtain ⟨q, rfl⟩ : ∃ q : Nat, z = q := ⟨z.toNat, by have := hz.1; omega⟩
    have hq : q < D.cells.length := by have := hz.2; omega
    have hrd : D.rd (q : Int) = rdL D.loose q (D.cell q) := by unfold Dk.rd; rw [if_pos hz, Int.toNat_natCast]
    rw [hrd]
    clear hrd hz
    obtain ⟨gc, c, rfl, hc⟩ := h.vc_
    obtain ⟨A, cl, rfl, hcl, hL⟩ := h.vl_
    unfold maxLen at hL
    unfold rfV at *
    have HHAS := hide hhas
    have HH := hide h
    clear hhas h
    go_enter Tryz.func24, Tryz.ntmps24
    go_wp2_with fail
    refine (HHAS.out _ (Kp.alloc No _ _)).mono ?_
    rintro e w1 ⟨rfl, k1⟩
    have c1 := k1.box (j := 1) rfl
    have c2 := k1.box (j := 2) rfl
    have K1 : Kp No w w1 := (Kp.alloc No _ _).trans' k1
    have h1 := HH.out.no K1
    obtain ⟨A', m, c', _, xk, hok, hm⟩ := h1.cell rfl hq
    have hmc := hok.room _ _ _ rfl
    clear hm
    have HK1 := hide K1
    clear K1 k1
    generalize w.heap.size = s at c1 c2 ⊢
    go_wp2_with fail
    go_loop [5, 6] (fun b i => ∃ (k : Nat) (A1 : Option Addr) (n1 cc1 : Nat), k ≤ D.loose.length ∧ i = .int .i64 (k : Int) ∧ b = .slice A1 n1 cc1 ∧ n1 ≤ cc1 ∧ Bts w1 (.slice A1 n1 cc1) (rdL (D.loose.take k) q (D.cell q))) (fun _ i => D.loose.length - (intOf i).toNat)
    case atStart => exact ⟨0, A', m, c', Nat.zero_le _, rfl, rfl, hmc, hok.1⟩
    case round =>
      obtain ⟨k, A1, n1, cc1, hk, rfl, rfl, hroom, hB⟩ := hrel
      clear hmc
      by_cases hlt : k < D.loose.length
      · obtain ⟨gl, p, A2, m2, c2', bs, rfl, hp, _, y0, y1, hob, _, hbl⟩ := h1.lw rfl hlt
        have hN := rdL_next hp q (D.cell q)
        by_cases hpq : p = q
        · rw [if_pos hpq] at hN
          have HN : Hid (Bts w1 (.slice A2 m2 c2') (rdL (D.loose.take (k + 1)) q (D.cell q))) := by show Bts _ _ _; rw [hN]; exact hob.1
          have HRM : Hid (m2 ≤ c2') := hob.room _ _ _ rfl
          have hne : ((p : Int) == (q : Int)) = true := by simp; omega
          clear hN hp hob hB hpq
          go_wp2_with fail
          go_round
          case rel => exact ⟨k + 1, A2, m2, c2', by omega, by go_num, rfl, HRM.out, HN.out⟩
          case measure => simp [intOf]; omega
        · rw [if_neg hpq] at hN
          have HN : Hid (Bts w1 (.slice A1 n1 cc1) (rdL (D.loose.take (k + 1)) q (D.cell q))) := by show Bts _ _ _; rw [hN]; exact hB
          have hne : ((p : Int) == (q : Int)) = false := by simp; omega
          clear hN hp hob hB hpq
          go_wp2_with fail
          go_round
          case rel => exact ⟨k + 1, A1, n1, cc1, by omega, by go_num, rfl, hroom, HN.out⟩
          case measure => simp [intOf]; omega
      · obtain rfl : k = D.loose.length := by omega
        rw [List.take_of_length_le (Nat.le_refl _)] at hB
        have HB := hide hB
        clear hB
        go_wp2_with fail
        go_ret
        exact ⟨A1, n1, cc1, rfl, hroom, HB.out, HK1.out⟩
  · have hhas := fun w1 (hk : Kp No w w1) => rhas_out (h.no hk) z hz
    have hrd : D.rd z = [] := by unfold Dk.rd; rw [if_neg hz]
    rw [hrd]
    clear hz
    unfold rfV at *
    have HHAS := hide hhas
    clear hhas h
    go_enter Tryz.func24, Tryz.ntmps24
    go_wp2_with fail
    refine (HHAS.out _ (Kp.alloc No _ _)).mono ?_
    rintro e w1 ⟨rfl, k1⟩
    go_wp2_with fail
    go_ret
    exact ⟨none, 0, 0, rfl, Nat.le_refl _, Bts.nil _, (Kp.alloc No _ _).trans' k1⟩
end
end Go.Proofs.YtndghapdpfgmoaaGreat
namespace Go.Proofs.YtndghapdpfgmoaaGreat
open Go.RowKit
set_option linter.unusedVariables false
set_option linter.unusedSimpArgs false
set_option maxRecDepth 20000

/-- A box of the document's Take. -/
def TkB (w : World) (g : Nat) (v : Value) : Prop := w.heap[g]? = some (.cells #[v, .bool false] 108 (0, 0))
def TkAt (w : World) (g : Nat) (bs : List UInt8) : Prop := ∃ A n c, TkB w g (.slice A n c) ∧ Bts w (.slice A n c) bs ∧ n ≤ c
section
variable {w w1 : World} {g : Nat} {v u : Value} {bs : List UInt8}
theorem TkB.lt (h : TkB w g v) : g < w.heap.size := (Array.getElem?_eq_some_iff.1 h).1
theorem TkB.c0 (h : TkB w g v) : w.cell? ⟨g, 0, none⟩ = some v := by rw [cell_of_row w g 0 _ _ _ h]; rfl
theorem TkB.fz (h : TkB w g v) (j : Nat) : w.frozen? ⟨g, j, none⟩ = false := frozen_of_row w g j _ _ h
theorem TkB.set0 (h : TkB w g v) (u : Value) : TkB (w.setCell ⟨g, 0, none⟩ u) g u := heap_setCell_same w g 0 _ 108 u h
theorem TkB.no (h : TkB w g v) (hk : Kp No w w1) : TkB w1 g v := (hk.block g h.lt fun f => f).trans h
theorem TkB.new (w : World) (v : Value) : TkB (w.alloc (.cells #[v, .bool false] 108)) w.heap.size v := heap_alloc_new w _
/-- Bytes lie elsewhere. -/
theorem TkB.off {A : Option Addr} {n c : Nat} (h : TkB w g (.slice A n c)) (hb : Bts w u bs) (hne : bs ≠ []) : u.ownBlock ≠ some g := fun e => by
  obtain ⟨A', c', rfl, hn, hc⟩ := hb
  rcases A' with _ | ad
  · cases e
  · have h0 := hc ad rfl 0 _ (List.getElem?_eq_getElem (List.length_pos_iff.2 hne))
    obtain ⟨B, off, sp⟩ := ad
    have eB : B = g := Option.some.inj e
    subst eB
    have hs : sp = none := by simpa [Addr.add] using World.cell?_spot h0
    subst hs
    rw [add_none, cell_of_row w B _ _ _ _ h] at h0
    match off, h0 with
    | 0, h0 => simp [bv] at h0
    | 1, h0 => simp [bv] at h0
    | k + 2, h0 => simp at h0
theorem TkB.stay {A : Option Addr} {n c : Nat} (h : TkB w g (.slice A n c)) (hb : Bts w u bs) (hk : Kp (fun k => k = g) w w1) : Bts w1 u bs := by
  by_cases e : bs = []
  · subst e
    obtain ⟨A', c', rfl, hn, hc⟩ := hb
    exact ⟨A', c', rfl, hn, fun ad ha j u hu => by simp at hu⟩
  · exact hb.keep hk fun k hk' e' => h.off hb e (by rw [hk', e'])
theorem TkAt.no (h : TkAt w g bs) (hk : Kp No w w1) : TkAt w1 g bs := by
  obtain ⟨A, n, c, h1, h2, h3⟩ := h
  exact ⟨A, n, c, h1.no hk, h2.no hk, h3⟩
theorem TkAt.lt (h : TkAt w g bs) : g < w.heap.size := by
  obtain ⟨A, n, c, h1, h2, h3⟩ := h
  exact h1.lt
theorem TkAt.set {b j : Nat} (h : TkAt w g bs) (hb : g ≠ b) (hB : ∀ x : List UInt8, ∀ u, Bts w u x → Bts (w.setCell ⟨b, j, none⟩ v) u x) : TkAt (w.setCell ⟨b, j, none⟩ v) g bs := by
  obtain ⟨A, n, c, h1, h2, h3⟩ := h
  exact ⟨A, n, c, ((Kp.setCell (S := fun k => k = b) (p := ⟨b, j, none⟩) rfl v).block g h1.lt hb).trans h1, hB _ _ h2, h3⟩
end
def TawPost (w : World) (g : Nat) (xs ys : List UInt8) (e : Ending) (w1 : World) : Prop := ∃ A m c, e = .returned (.slice A m c) ∧ Bts w1 (.slice A m c) xs ∧ TkAt w1 g ys ∧ Kp (fun b => b = g) w w1
theorem traw_any {w : World} {g k : Nat} {bs : List UInt8} (h : TkAt w g bs) (hk : k ≤ bs.length) (hbig : k ≤ 100000000) : Calls Tryz.prog 85 #[.pointer (some ⟨g, 0, none⟩), .int .i64 (k : Int)] w (TawPost w g (bs.take k) (bs.drop k)) := by
  obtain ⟨A, n, c, hg, hb, hnc⟩ := h
  have hl := hb.len
  obtain ⟨s1, b1, r1⟩ := slice_u hb hnc k (k : Int) rfl (by omega)
  obtain ⟨A2, s2, b2, r2⟩ := slice_l hb hnc k (n - k) (c - k) (k : Int) rfl (by omega) rfl rfl
  have c0 := hg.c0
  have f0 := hg.fz 0
  have z1 : ¬ (k : Int) < 0 := by omega
  have z2 : ¬ (n : Int) < (k : Int) := by omega
  have HB1 := hide b1
  have HB2 := hide b2
  have HG := hide hg
  obtain ⟨m, hm⟩ : ∃ m, m = n - k := ⟨_, rfl⟩
  obtain ⟨d, hd⟩ : ∃ m, m = c - k := ⟨_, rfl⟩
  rw [← hm, ← hd] at s2 HB2 r2
  have HR := hide r2
  clear b1 b2 hg hb hl hk hm hd r1 r2
  go_enter Tryz.func85, Tryz.ntmps85
  go_wp2
  go_ret
  have K := Kp.setCell (S := fun b => b = g) (p := ⟨g, 0, none⟩) (w := w) rfl (.slice A2 m d)
  exact ⟨A, k, c, rfl, HG.out.stay HB1.out K, ⟨A2, m, d, HG.out.set0 _, HG.out.stay HB2.out K, HR.out⟩, K⟩
def TnPost (w : World) (g z : Nat) (ys : List UInt8) (e : Ending) (w1 : World) : Prop := e = .returned (.int .u64 (z : Int)) ∧ TkAt w1 g ys ∧ Kp (fun b => b = g) w w1
theorem tnum_any {w : World} {g k : Nat} {bs : List UInt8} (h : TkAt w g bs) (hk : k ≤ bs.length) (h8 : k ≤ 8) : Calls Tryz.prog 68 #[.pointer (some ⟨g, 0, none⟩), .int .i64 (k : Int)] w (TnPost w g (ofB (bs.take k)) (bs.drop k)) := by
  have hr := traw_any h hk (by omega)
  have HR := hide hr
  have HL : Hid ((bs.take k).length ≤ 8) := by show _ ≤ _; rw [List.length_take]; omega
  clear hr h hk
  have z1 : ¬ (k : Int) < 0 := by omega
  have z2 : ¬ (8 : Int) < (k : Int) := by omega
  go_enter Tryz.func68, Tryz.ntmps68
  go_wp2_with fail
  refine HR.out.mono ?_
  rintro e w1 ⟨A, m, c, rfl, hb, ht, hk1⟩
  go_wp2_with fail
  refine (rof_any hb HL.out).mono ?_
  rintro e w' ⟨rfl, rfl⟩
  go_wp2_with fail
  go_ret
  exact ⟨rfl, ht, hk1⟩
section
variable {w w1 : World} {b g : Nat} {o0 o1 o2 o3 : Int} {u : Value} {bs : List UInt8}
theorem Box4.stay (h : Box4 w b (.int .u32 o0) (.int .u16 o1) (.int .u16 o2) (.int .u32 o3)) (hb : Bts w u bs) (hk : Kp (fun k => k = b) w w1) : Bts w1 u bs := by
  by_cases e : bs = []
  · subst e
    obtain ⟨A', c', rfl, hn, hc⟩ := hb
    exact ⟨A', c', rfl, hn, fun ad ha j u hu => by simp at hu⟩
  · refine hb.keep hk fun k hk' e' => ?_
    subst e'
    obtain ⟨A', c', rfl, hn, hc⟩ := hb
    rcases A' with _ | ad
    · cases hk'
    · have h0 := hc ad rfl 0 _ (List.getElem?_eq_getElem (List.length_pos_iff.2 e))
      obtain ⟨B, off, sp⟩ := ad
      have eB : B = k := Option.some.inj hk'
      subst eB
      have hs : sp = none := by simpa [Addr.add] using World.cell?_spot h0
      subst hs
      rw [add_none, cell_of_row w B _ _ _ _ h] at h0
      match off, h0 with
      | 0, h0 => simp [bv] at h0
      | 1, h0 => simp [bv] at h0
      | 2, h0 => simp [bv] at h0
      | 3, h0 => simp [bv] at h0
      | k + 4, h0 => simp at h0
theorem TkAt.sh (h : TkAt w g bs) (hB : Box4 w b (.int .u32 o0) (.int .u16 o1) (.int .u16 o2) (.int .u32 o3)) (hne : g ≠ b) (j : Nat) (v : Value) : TkAt (w.setCell ⟨b, j, none⟩ v) g bs := by
  obtain ⟨A, n, c, h1, h2, h3⟩ := h
  have K := Kp.setCell (S := fun k => k = b) (p := ⟨b, j, none⟩) (w := w) rfl v
  exact ⟨A, n, c, (K.block g h1.lt hne).trans h1, hB.stay h2 K, h3⟩
end
def TsPost (w : World) (g s : Nat) (ys : List UInt8) (e : Ending) (w1 : World) : Prop := e = .returned (shV s) ∧ TkAt w1 g ys ∧ Kp (fun b => b = g) w w1
theorem u32_of {x : Nat} (h : x < 4294967296) : IntKind.u32.wrap (x : Int) = (x : Int) := by rw [IntKind.wrap_u32]; omega
theorem u16_of {x : Nat} (h : x < 65536) : IntKind.u16.wrap (x : Int) = (x : Int) := by rw [IntKind.wrap_u16]; omega
set_option maxHeartbeats 2000000 in
theorem tshard_parts {w : World} {g : Nat} {y0 y1 y2 y3 y4 : List UInt8} {x0 x1 x2 x3 : Nat} (hx0 : x0 < 4294967296) (hx1 : x1 < 65536) (hx2 : x2 < 65536) (hx3 : x3 < 4294967296) (h : TkAt w g y0)
    (T0 : ∀ w', TkAt w' g y0 → Calls Tryz.prog 68 #[.pointer (some ⟨g, 0, none⟩), .int .i64 4] w' (TnPost w' g x0 y1)) (T1 : ∀ w', TkAt w' g y1 → Calls Tryz.prog 68 #[.pointer (some ⟨g, 0, none⟩), .int .i64 2] w' (TnPost w' g x1 y2))
    (T2 : ∀ w', TkAt w' g y2 → Calls Tryz.prog 68 #[.pointer (some ⟨g, 0, none⟩), .int .i64 2] w' (TnPost w' g x2 y3)) (T3 : ∀ w', TkAt w' g y3 → Calls Tryz.prog 68 #[.pointer (some ⟨g, 0, none⟩), .int .i64 4] w' (TnPost w' g x3 y4)) :
    Calls Tryz.prog 47 #[.pointer (some ⟨g, 0, none⟩)] w fun e w1 => e = .returned (.agg #[.int .u32 (x0 : Int), .int .u16 (x1 : Int), .int .u16 (x2 : Int), .int .u32 (x3 : Int)]) ∧ TkAt w1 g y4 ∧ Kp (fun b => b = g) w w1 := by
  have H' : ∀ ob1 ob2 : Obj, TkAt ((w.alloc ob1).alloc ob2) g y0 := fun ob1 ob2 => (h.no (Kp.alloc No w ob1)).no (Kp.alloc No _ ob2)
  have hg := h.lt
  have HH := hide H'
  have HT0 := hide T0
  have HT1 := hide T1
  have HT2 := hide T2
  have HT3 := hide T3
  have e0 := u32_of hx0
  have e1 := u16_of hx1
  have e2 := u16_of hx2
  have e3 := u32_of hx3
  clear H' h T0 T1 T2 T3
  have ng : g ≠ w.heap.size + 1 := by omega
  have ng0 : g ≠ w.heap.size := by omega
  go_enter Tryz.func47, Tryz.ntmps47
  go_wp2_with fail
  refine (HT0.out _ (HH.out _ _)).mono ?_
  rintro e w1 ⟨rfl, hr, hk⟩
  have B1 : Box4 w1 (w.heap.size + 1) (.int .u32 0) (.int .u16 0) (.int .u16 0) (.int .u32 0) := (Box4.new2 w _ _ _ _ _).keep hk (fun e => ng e.symm)
  have R1 : Box4 w1 w.heap.size (.int .u32 0) (.int .u16 0) (.int .u16 0) (.int .u32 0) := (Box4.new1 w _ _ _ _ _).keep hk (fun e => ng0 e.symm)
  have K1 : Kp (fun b => b = g) w w1 := ((Kp.alloc _ w _).trans' (Kp.alloc _ _ _)).trans' hk
  obtain ⟨p0, p1, p2, p3⟩ := B1.cell
  have f0 := B1.frozen 0
  go_wp2_with fail
  clear p0 p1 p2 p3 f0
  have K1' := K1.trans (Kp.setCell (S := Up (fun b => b = g) w) (p := ⟨w.heap.size + 1, 0, none⟩) (w := w1) (.inr (Nat.le_succ _)) (.int .u32 (x0 : Int)))
  refine (HT1.out _ (hr.sh B1 ng 0 _)).mono ?_
  rintro e w2 ⟨rfl, hr2, hk2⟩
  have B2 := (B1.set0 (.int .u32 x0)).keep hk2 (fun e => ng e.symm)
  have R2 := (R1.keep (Kp.setCell (S := fun k => k = w.heap.size + 1) (p := ⟨w.heap.size + 1, 0, none⟩) rfl (.int .u32 x0)) (by omega)).keep hk2 (fun e => ng0 e.symm)
  have K2 := K1'.trans' hk2
  obtain ⟨p0, p1, p2, p3⟩ := B2.cell
  have f0 := B2.frozen 1
  go_wp2_with fail
  clear p0 p1 p2 p3 f0
  have K2' := K2.trans (Kp.setCell (S := Up (fun b => b = g) w) (p := ⟨w.heap.size + 1, 1, none⟩) (w := w2) (.inr (Nat.le_succ _)) (.int .u16 (x1 : Int)))
  refine (HT2.out _ (hr2.sh B2 ng 1 _)).mono ?_
  rintro e w3 ⟨rfl, hr3, hk3⟩
  have B3 := (B2.set1 (.int .u16 x1)).keep hk3 (fun e => ng e.symm)
  have R3 := (R2.keep (Kp.setCell (S := fun k => k = w.heap.size + 1) (p := ⟨w.heap.size + 1, 1, none⟩) rfl (.int .u16 x1)) (by omega)).keep hk3 (fun e => ng0 e.symm)
  have K3 := K2'.trans' hk3
  obtain ⟨p0, p1, p2, p3⟩ := B3.cell
  have f0 := B3.frozen 2
  go_wp2_with fail
  clear p0 p1 p2 p3 f0
  have K3' := K3.trans (Kp.setCell (S := Up (fun b => b = g) w) (p := ⟨w.heap.size + 1, 2, none⟩) (w := w3) (.inr (Nat.le_succ _)) (.int .u16 (x2 : Int)))
  refine (HT3.out _ (hr3.sh B3 ng 2 _)).mono ?_
  rintro e w4 ⟨rfl, hr4, hk4⟩
  have B4 := (B3.set2 (.int .u16 x2)).keep hk4 (fun e => ng e.symm)
  have R4 := (R3.keep (Kp.setCell (S := fun k => k = w.heap.size + 1) (p := ⟨w.heap.size + 1, 2, none⟩) rfl (.int .u16 x2)) (by omega)).keep hk4 (fun e => ng0 e.symm)
  have K4 := K3'.trans' hk4
  have B5 := B4.set3 (.int .u32 x3)
  obtain ⟨p0, p1, p2, p3⟩ := B4.cell
  obtain ⟨s0, s1, s2, s3⟩ := B5.cell
  have f3 := B4.frozen 3
  have R5 := R4.keep (Kp.setCell (S := fun k => k = w.heap.size + 1) (p := ⟨w.heap.size + 1, 3, none⟩) rfl (.int .u32 x3)) (by omega)
  have K4' := K4.trans (Kp.setCell (S := Up (fun b => b = g) w) (p := ⟨w.heap.size + 1, 3, none⟩) (w := w4) (.inr (Nat.le_succ _)) (.int .u32 (x3 : Int)))
  have q5 := hr4.sh B4 ng 3 (.int .u32 x3)
  have q6 := q5.sh R5 ng0 0 (.int .u32 x0)
  have R6 := R5.set0 (.int .u32 x0)
  have q7 := q6.sh R6 ng0 1 (.int .u16 x1)
  have R7 := R6.set1 (.int .u16 x1)
  have q8 := q7.sh R7 ng0 2 (.int .u16 x2)
  have R8 := R7.set2 (.int .u16 x2)
  have q9 := q8.sh R8 ng0 3 (.int .u32 x3)
  have R9 := R8.set3 (.int .u32 x3)
  have K9 := (((K4'.trans (Kp.setCell (S := Up (fun b => b = g) w) (p := ⟨w.heap.size, 0, none⟩) (.inr (Nat.le_refl _)) (.int .u32 (x0 : Int)))).trans (Kp.setCell (S := Up (fun b => b = g) w) (p := ⟨w.heap.size, 1, none⟩) (.inr (Nat.le_refl _)) (.int .u16 (x1 : Int)))).trans (Kp.setCell (S := Up (fun b => b = g) w) (p := ⟨w.heap.size, 2, none⟩) (.inr (Nat.le_refl _)) (.int .u16 (x2 : Int)))).trans (Kp.setCell (S := Up (fun b => b = g) w) (p := ⟨w.heap.size, 3, none⟩) (.inr (Nat.le_refl _)) (.int .u32 (x3 : Int)))
  obtain ⟨t0, t1, t2, t3⟩ := R5.cell
  have g0 := R5.frozen 0
  have g1 := R5.frozen 1
  have g2 := R5.frozen 2
  have g3 := R5.frozen 3
  obtain ⟨z0, z1, z2, z3⟩ := R9.cell
  have HQ := hide (And.intro q9 K9)
  clear q5 q6 q7 q8 q9 R6 R7 R8 R9 K1 K1' K2 K2' K3 K3' K4 K4' K9 hr hk hr2 hk2 hr3 hk3 hr4 hk4 B1 B2 B3 B4 B5 R1 R2 R3 R4 R5 HT0 HT1 HT2 HT3
  go_wp2
  refine bodyPost_ret (v := .agg #[.int .u32 (x0 : Int), .int .u16 (x1 : Int), .int .u16 (x2 : Int), .int .u32 (x3 : Int)]) (by simp [results, Tryz.results47, go_sem, z0, z1, z2, z3]) rfl ⟨rfl, HQ.out.1, HQ.out.2⟩
theorem tshard_any {w : World} {g : Nat} {bs : List UInt8} (h : TkAt w g bs) (hl : 12 ≤ bs.length) : Calls Tryz.prog 47 #[.pointer (some ⟨g, 0, none⟩)] w (TsPost w g (nmO bs) (bs.drop 12)) := by
  obtain ⟨p0, p1, p2, p3⟩ := nm_c bs
  have hN : shV (nmO bs) = .agg #[.int .u32 (ofB (bs.take 4) : Int), .int .u16 (ofB ((bs.drop 4).take 2) : Int), .int .u16 (ofB ((bs.drop 6).take 2) : Int), .int .u32 (ofB ((bs.drop 8).take 4) : Int)] := by unfold shV; rw [p0, p1, p2, p3]
  have T1 := fun w' (h : TkAt w' g (bs.drop 4)) => tnum_any h (show 2 ≤ (bs.drop 4).length by rw [List.length_drop]; omega) (by omega)
  have T2 := fun w' (h : TkAt w' g (bs.drop 6)) => tnum_any h (show 2 ≤ (bs.drop 6).length by rw [List.length_drop]; omega) (by omega)
  have T3 := fun w' (h : TkAt w' g (bs.drop 8)) => tnum_any h (show 4 ≤ (bs.drop 8).length by rw [List.length_drop]; omega) (by omega)
  rw [List.drop_drop] at T1 T2 T3
  unfold TsPost
  rw [hN]
  exact tshard_parts (ofB_take 4) (ofB_take 2) (ofB_take 2) (ofB_take 4) h (fun w' h' => tnum_any h' (Nat.le_trans (by decide) hl) (by decide)) T1 T2 T3
end Go.Proofs.YtndghapdpfgmoaaGreat
