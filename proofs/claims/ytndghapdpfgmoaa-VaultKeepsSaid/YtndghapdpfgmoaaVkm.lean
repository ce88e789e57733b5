/- What VaultKeeps knows of its disk, in plain words: the first cells hold frames, the others never held one; a crash amid the last write. No program is spoken of. -/
import Derived.Test.YtndghapdpfgmoaaVam
namespace Go.Proofs.Ytndghapdpfgmoaa
set_option linter.unusedVariables false
set_option linter.unusedSimpArgs false
set_option maxRecDepth 20000

/-- The names, each in the cell of its number. -/
def mkL (ns : List Nat) : List (Nat × Nat) := (List.range ns.length).map fun c => (c, ns.getD c 0)
theorem mkL_len (ns : List Nat) : (mkL ns).length = ns.length := by simp [mkL]
theorem mkL_snoc (ns : List Nat) (s : Nat) : mkL (ns ++ [s]) = mkL ns ++ [(ns.length, s)] := by
  unfold mkL
  rw [List.length_append, List.length_singleton, List.range_succ, List.map_append]
  congr 1
  · refine List.map_congr_left fun c hc => ?_
    have := List.mem_range.1 hc
    rw [List.getD_eq_getElem?_getD, List.getD_eq_getElem?_getD, List.getElem?_append_left this]
  · simp [List.getD_eq_getElem?_getD]
theorem mkL_names (ns : List Nat) : (mkL ns).map Prod.snd = ns := by
  refine List.ext_getElem (by simp [mkL]) fun i h1 h2 => ?_
  simp [mkL, List.getD_eq_getElem?_getD, List.getElem?_eq_getElem h2]
theorem mkL_cells (ns : List Nat) : (mkL ns).map Prod.fst = List.range ns.length := by
  refine List.ext_getElem (by simp [mkL]) fun i h1 h2 => ?_
  simp [mkL]
theorem kn_mkL {ns : List Nat} {s : Nat} : kn (mkL ns) s = true ↔ s ∈ ns := by
  rw [kn_iff]
  constructor
  · rintro ⟨p, hp, rfl⟩
    rw [← mkL_names ns]
    exact List.mem_map.2 ⟨p, hp, rfl⟩
  · intro h
    rw [← mkL_names ns] at h
    exact List.mem_map.1 h
theorem usd_mkL {ns : List Nat} {c : Nat} : usd (mkL ns) c = true ↔ c < ns.length := by
  rw [usd_iff]
  constructor
  · rintro ⟨p, hp, rfl⟩
    have : p.1 ∈ (mkL ns).map Prod.fst := List.mem_map.2 ⟨p, hp, rfl⟩
    rw [mkL_cells] at this
    exact List.mem_range.1 this
  · intro h
    have : c ∈ (mkL ns).map Prod.fst := by rw [mkL_cells]; exact List.mem_range.2 h
    exact List.mem_map.1 this
theorem fre_mkL {ns : List Nat} {n : Nat} (h : ns.length < n) : fre n (mkL ns) = ns.length := by
  have h1 : ¬ fre n (mkL ns) < ns.length := fun hl => by
    have := fre_lt (L := mkL ns) (n := n) (by omega)
    rw [usd_mkL.2 hl] at this
    cases this
  rcases Nat.lt_or_ge ns.length (fre n (mkL ns)) with g | g
  · have := usd_mkL.1 (fre_before (L := mkL ns) (n := n) g)
    omega
  · omega
/-- Cells that hold these names and data, and nothing else that reads as a shard. -/
structure OpD (D : Dk) (ns : List Nat) (dt : List (List UInt8)) : Prop where
  ok : D.Ok
  n : D.cells.length = 40
  len : dt.length = ns.length
  dn : ns.Nodup
  nm : ∀ s ∈ ns, s < N96
  dl : ∀ b ∈ dt, b.length ≤ 200
  is_ : ∀ c, c < ns.length → D.rd (c : Int) = frV (ns.getD c 0) (dt.getD c [])
  no_ : ∀ c, ns.length ≤ c → c < 40 → rdE (D.rd (c : Int)) ≠ 0
section
variable {D : Dk} {ns : List Nat} {dt : List (List UInt8)}
theorem getD_in {α : Type} {l : List α} {c : Nat} {d : α} (h : c < l.length) : l.getD c d ∈ l := by
  rw [List.getD_eq_getElem?_getD, List.getElem?_eq_getElem h]
  exact List.getElem_mem h
theorem OpD.rd (h : OpD D ns dt) {c : Nat} (hc : c < ns.length) : rdE (D.rd (c : Int)) = 0 ∧ rdS (D.rd (c : Int)) = ns.getD c 0 ∧ rdB (D.rd (c : Int)) = dt.getD c [] := by
  rw [h.is_ c hc]
  exact rd_frV (h.nm _ (getD_in hc)) (by have := h.dl _ (getD_in (d := []) (show c < dt.length by rw [h.len]; exact hc)); omega)
theorem OpD.opn (h : OpD D ns dt) : ∀ k, k ≤ 40 → Go.Proofs.Ytndghapdpfgmoaa.opn D k = mkL (ns.take k)
  | 0, _ => rfl
  | k + 1, hk => by
    have ih := h.opn k (by omega)
    rcases Nat.lt_or_ge k ns.length with hc | hc
    · obtain ⟨r0, r1, _⟩ := h.rd hc
      have et : ns.take (k + 1) = ns.take k ++ [ns.getD k 0] := by
        rw [List.take_add_one, List.getElem?_eq_getElem hc, List.getD_eq_getElem?_getD, List.getElem?_eq_getElem hc]
        rfl
      have hno : kn (Go.Proofs.Ytndghapdpfgmoaa.opn D k) (rdS (D.rd (k : Int))) = false := by
        rw [ih, r1]
        cases hx : kn (mkL (ns.take k)) (ns.getD k 0)
        · rfl
        · have hm := kn_mkL.1 hx
          obtain ⟨j, hj⟩ := List.getElem?_of_mem hm
          rw [List.getElem?_take] at hj
          split at hj
          · rename_i hjk
            have := nodup_ix h.dn (i := j) (j := k) hj (by rw [List.getD_eq_getElem?_getD, List.getElem?_eq_getElem hc]; rfl)
            omega
          · cases hj
      rw [opn_hit ⟨r0, hno⟩, ih, r1, et, mkL_snoc, List.length_take, Nat.min_eq_left (Nat.le_of_lt hc)]
    · rw [opn_miss (fun e => h.no_ k hc (by omega) e.1), ih, List.take_of_length_le (by omega), List.take_of_length_le (by omega)]
theorem OpD.opened (h : OpD D ns dt) (hl : ns.length ≤ 40) : Vt.opened D = ⟨D, mkL ns⟩ := by
  unfold Vt.opened
  rw [h.n, h.opn 40 (Nat.le_refl _), List.take_of_length_le hl]
theorem OpD.get (h : OpD D ns dt) {c : Nat} (hc : c < ns.length) (hk : KnOk 40 (mkL ns)) : kn (mkL ns) (ns.getD c 0) = true ∧ cel (mkL ns) (ns.getD c 0) = c ∧ (Vt.mk D (mkL ns)).gtE (ns.getD c 0) = 0 ∧ (Vt.mk D (mkL ns)).gtB (ns.getD c 0) = dt.getD c [] := by
  have hm : (c, ns.getD c 0) ∈ mkL ns := List.mem_map.2 ⟨c, List.mem_range.2 hc, rfl⟩
  have h1 := hk.one hm
  obtain ⟨r0, r1, r2⟩ := h.rd hc
  have hat : (Vt.mk D (mkL ns)).at_ (ns.getD c 0) = D.rd (c : Int) := by unfold Vt.at_; rw [h1.2]
  have h2 := Vt.gtE_rd (V := Vt.mk D (mkL ns)) (s := ns.getD c 0) h1.1 (by rw [hat]; exact r0) (by rw [hat]; exact r1)
  exact ⟨h1.1, h1.2, h2.1, by rw [h2.2, hat]; exact r2⟩
end
/-- What the law knows of its vault while it puts: nothing is loose. -/
structure VkP (V : Vt) (ns : List Nat) (dt : List (List UInt8)) : Prop where
  od : OpD V.D ns dt
  L : V.L = mkL ns
  size : V.D.size = 300
  lo : V.D.loose = []
  cells : ∀ c, ns.length ≤ c → V.D.cell c = []
section
variable {V : Vt} {ns : List Nat} {dt : List (List UInt8)} {s : Nat} {b : List UInt8}
theorem rd_bareD {D : Dk} (h : D.loose = []) {c : Nat} (hc : c < D.cells.length) : D.rd (c : Int) = D.cell c := by
  unfold Dk.rd
  rw [if_pos ⟨by omega, by omega⟩, h]
  rfl
theorem VkP.bgE (h : VkP V ns dt) (hn : ns.length < 40) (hb : b.length ≤ 200) : V.bgE s b = if s ∈ ns then 7 else 0 := by
  unfold Vt.bgE
  rw [h.L]
  by_cases hs : s ∈ ns
  · rw [if_pos (kn_mkL.2 hs), if_pos hs]
  · have hk : ¬ kn (mkL ns) s = true := fun e => hs (kn_mkL.1 e)
    have hf : V.free = ns.length := by unfold Vt.free Vt.n; rw [h.L, h.od.n]; exact fre_mkL hn
    rw [if_neg hk, if_neg (by have := h.size; omega), if_neg hs, if_pos (by rw [hf]; unfold Vt.n; rw [h.od.n]; exact hn)]
theorem VkP.free (h : VkP V ns dt) (hn : ns.length < 40) : V.free = ns.length := by unfold Vt.free Vt.n; rw [h.L, h.od.n]; exact fre_mkL hn
/-- One more cell is put, and nothing is loose. -/
theorem VkP.next (h : VkP V ns dt) (hn : ns.length < 40) (hb : b.length ≤ 200) (hs : s < N96) (hne : s ∉ ns) {D : Dk} (hok : D.Ok) (hsz : D.size = V.D.size) (hlo : D.loose = []) (hc : D.cells = V.D.cells.set ns.length (frV s b)) : VkP ⟨D, mkL (ns ++ [s])⟩ (ns ++ [s]) (dt ++ [b]) := by
  have hnl : D.cells.length = 40 := by rw [hc, List.length_set]; exact h.od.n
  have hcell : ∀ c, c ≠ ns.length → D.cell c = V.D.cell c := fun c hne => by
    unfold Dk.cell
    rw [List.getD_eq_getElem?_getD, List.getD_eq_getElem?_getD, hc, List.getElem?_set_ne (by omega)]
  have hhit : D.cell ns.length = frV s b := by
    unfold Dk.cell
    rw [List.getD_eq_getElem?_getD, hc, List.getElem?_set_self (by rw [h.od.n]; exact hn)]
    rfl
  have hlen := h.od.len
  refine ⟨⟨hok, hnl, by simp [hlen], nodup_snoc h.od.dn hne, fun t ht => ?_, fun x hx => ?_, fun c hcl => ?_, fun c h1 h2 => ?_⟩, rfl, by rw [← h.size]; exact hsz, hlo, fun c hcl => ?_⟩
  · rcases List.mem_append.1 ht with g | g
    · exact h.od.nm t g
    · simp at g; subst g; exact hs
  · rcases List.mem_append.1 hx with g | g
    · exact h.od.dl x g
    · simp at g; subst g; exact hb
  · rw [List.length_append, List.length_singleton] at hcl
    show D.rd (c : Int) = _
    rw [rd_bareD hlo (by omega)]
    rcases Nat.lt_or_ge c ns.length with g | g
    · rw [hcell c (by omega), ← rd_bareD h.lo (by rw [h.od.n]; omega), h.od.is_ c g]
      congr 1
      · rw [List.getD_eq_getElem?_getD, List.getD_eq_getElem?_getD, List.getElem?_append_left g]
      · rw [List.getD_eq_getElem?_getD, List.getD_eq_getElem?_getD, List.getElem?_append_left (by omega)]
    · obtain rfl : c = ns.length := by omega
      rw [hhit]
      congr 1
      · simp [List.getD_eq_getElem?_getD]
      · simp [List.getD_eq_getElem?_getD, ← hlen]
  · rw [List.length_append, List.length_singleton] at h1
    show rdE (D.rd (c : Int)) ≠ 0
    rw [rd_bareD hlo (by omega), hcell c (by omega), h.cells c (by omega), rd_nil]
    omega
  · rw [List.length_append, List.length_singleton] at hcl
    show D.cell c = []
    rw [hcell c (by omega)]
    exact h.cells c (by omega)
/-- One cell has turned to something that reads as none, and nothing is loose. -/
theorem VkP.torn (h : VkP V ns dt) (hn : ns.length < 40) {D : Dk} {x : List UInt8} (hok : D.Ok) (hlo : D.loose = []) (hx : rdE x ≠ 0) (hc : D.cells = V.D.cells.set ns.length x) : OpD D ns dt := by
  have hnl : D.cells.length = 40 := by rw [hc, List.length_set]; exact h.od.n
  have hcell : ∀ c, c ≠ ns.length → D.cell c = V.D.cell c := fun c hne => by
    unfold Dk.cell
    rw [List.getD_eq_getElem?_getD, List.getD_eq_getElem?_getD, hc, List.getElem?_set_ne (by omega)]
  have hhit : D.cell ns.length = x := by
    unfold Dk.cell
    rw [List.getD_eq_getElem?_getD, hc, List.getElem?_set_self (by rw [h.od.n]; exact hn)]
    rfl
  refine ⟨hok, hnl, h.od.len, h.od.dn, h.od.nm, h.od.dl, fun c hcl => ?_, fun c h1 h2 => ?_⟩
  · rw [rd_bareD hlo (by omega), hcell c (by omega), ← rd_bareD h.lo (by rw [h.od.n]; omega), h.od.is_ c hcl]
  · rw [rd_bareD hlo (by omega)]
    rcases Nat.lt_or_ge ns.length c with g | g
    · rw [hcell c (by omega), h.cells c (by omega), rd_nil]
      omega
    · obtain rfl : c = ns.length := by omega
      rw [hhit]
      exact hx
/-- A crash where nothing is loose. -/
theorem VkP.crash_no (h : VkP V ns dt) (z y : Int) : OpD (V.D.crash z y) ns dt := by
  have hc : (V.D.crash z y).cells = V.D.cells := by
    unfold Dk.crash Dk.torn Dk.don
    rw [h.lo]
    simp [doG]
  have hlo : (V.D.crash z y).loose = [] := rfl
  have hok := h.od.ok.crash z y
  generalize V.D.crash z y = D at hc hlo hok
  have hcell : ∀ c, D.cell c = V.D.cell c := fun c => by unfold Dk.cell; rw [hc]
  refine ⟨hok, by rw [hc]; exact h.od.n, h.od.len, h.od.dn, h.od.nm, h.od.dl, fun c hcl => ?_, fun c h1 h2 => ?_⟩
  · have h40 : c < 40 := by
      have := h.od.is_ c hcl
      rcases Nat.lt_or_ge c 40 with g | g
      · exact g
      · exfalso
        have hr : V.D.rd (c : Int) = [] := by unfold Dk.rd; rw [if_neg (fun e => by have := e.2; rw [h.od.n] at this; omega)]
        rw [hr] at this
        have := congrArg List.length this
        rw [frV_len] at this
        simp at this
        omega
    rw [rd_bareD hlo (by rw [hc, h.od.n]; exact h40), hcell c, ← rd_bareD h.lo (by rw [h.od.n]; exact h40), h.od.is_ c hcl]
  · rw [rd_bareD hlo (by rw [hc, h.od.n]; exact h2), hcell c, ← rd_bareD h.lo (by rw [h.od.n]; exact h2)]
    exact h.od.no_ c h1 h2
/-- A crash amid the last write: it is whole, or not there. -/
theorem VkP.crash_one (h : VkP V ns dt) (hn : ns.length < 40) (hb : b.length ≤ 200) (hs : s < N96) (hne : s ∉ ns) (z y : Int) :
    OpD ((V.D.put (ns.length : Int) (frV s b)).crash z y) (ns ++ [s]) (dt ++ [b]) ∨ OpD ((V.D.put (ns.length : Int) (frV s b)).crash z y) ns dt := by
  have hput : V.D.putE (ns.length : Int) (frV s b) = 0 := by
    unfold Dk.putE
    rw [if_pos ⟨by omega, by rw [h.od.n]; omega⟩, if_neg (by rw [frV_len, h.size]; omega)]
  have hD : V.D.put (ns.length : Int) (frV s b) = ⟨V.D.size, V.D.cells, [(ns.length, frV s b)], V.D.syncs⟩ := by
    unfold Dk.put
    rw [if_pos hput, h.lo]
    rfl
  have hok1 := h.od.ok.put (ns.length : Int) (frV s b)
  have hok := hok1.crash z y
  rw [hD] at hok ⊢
  have hempty : V.D.cells.getD ns.length [] = [] := h.cells ns.length (Nat.le_refl _)
  have hlo : (Dk.crash ⟨V.D.size, V.D.cells, [(ns.length, frV s b)], V.D.syncs⟩ z y).loose = [] := rfl
  have hsz : (Dk.crash ⟨V.D.size, V.D.cells, [(ns.length, frV s b)], V.D.syncs⟩ z y).size = V.D.size := rfl
  have hk : clm z 1 = 0 ∨ clm z 1 = 1 := by have := clm_le z 1; omega
  rcases hk with hk | hk
  · have hc : (Dk.crash ⟨V.D.size, V.D.cells, [(ns.length, frV s b)], V.D.syncs⟩ z y).cells = V.D.cells.set ns.length ((frV s b).take (clm y (frV s b).length)) := by
      show Dk.torn ⟨V.D.size, V.D.cells, [(ns.length, frV s b)], V.D.syncs⟩ (clm z 1) y = _
      rw [hk]
      show V.D.cells.set ns.length (tornB (frV s b) (V.D.cells.getD ns.length []) (clm y (frV s b).length)) = _
      rw [hempty]
      unfold tornB
      simp
    rcases Nat.lt_or_ge (clm y (frV s b).length) (frV s b).length with hl | hl
    · exact .inr (h.torn hn hok hlo (rd_torn (by omega) hl) hc)
    · rw [List.take_of_length_le hl] at hc
      exact .inl (h.next hn hb hs hne hok hsz hlo hc).od
  · have hc : (Dk.crash ⟨V.D.size, V.D.cells, [(ns.length, frV s b)], V.D.syncs⟩ z y).cells = V.D.cells.set ns.length (frV s b) := by
      show Dk.torn ⟨V.D.size, V.D.cells, [(ns.length, frV s b)], V.D.syncs⟩ (clm z 1) y = _
      rw [hk]
      rfl
    exact .inl (h.next hn hb hs hne hok hsz hlo hc).od
/-- What a Put comes to. -/
theorem VkP.put (h : VkP V ns dt) (hn : ns.length < 40) (hb : b.length ≤ 200) (hs : s < N96) : (s ∈ ns → V.pt s b = V) ∧ (s ∉ ns → VkP (V.pt s b) (ns ++ [s]) (dt ++ [b])) := by
  have hE := h.bgE (s := s) hn hb
  constructor
  · intro hm
    rw [if_pos hm] at hE
    exact Vt.pt_no (by omega)
  · intro hm
    rw [if_neg hm] at hE
    have hf := h.free hn
    have hput : V.D.putE (ns.length : Int) (frV s b) = 0 := by
      unfold Dk.putE
      rw [if_pos ⟨by omega, by rw [h.od.n]; omega⟩, if_neg (by rw [frV_len, h.size]; omega)]
    have hD : V.D.put (ns.length : Int) (frV s b) = ⟨V.D.size, V.D.cells, [(ns.length, frV s b)], V.D.syncs⟩ := by
      unfold Dk.put
      rw [if_pos hput, h.lo]
      rfl
    have hok := (h.od.ok.put (ns.length : Int) (frV s b)).sync
    rw [Vt.pt_yes hE, Vt.bg_yes hE, hf, h.L, ← mkL_snoc]
    show VkP ⟨(V.D.put (ns.length : Int) (frV s b)).sync, mkL (ns ++ [s])⟩ _ _
    exact h.next hn hb hs hm hok (by rw [hD]; rfl) rfl (by rw [hD]; rfl)
theorem VkP.new : VkP (Vt.opened (Dk.new 40 300)) [] [] := by
  have hok : (Dk.new 40 300).Ok := Dk.new_ok (by omega) (by omega) (by omega) (by omega)
  have hc : ∀ c, (Dk.new 40 300).cell c = [] := fun c => by
    show (List.replicate 40 ([] : List UInt8)).getD c [] = []
    rw [List.getD_eq_getElem?_getD, List.getElem?_replicate]
    split <;> rfl
  have od : OpD (Dk.new 40 300) [] [] := ⟨hok, by simp [Dk.new], rfl, by simp, by simp, by simp, fun c hcl => by simp at hcl, fun c _ h2 => by
    rw [rd_bareD rfl (by simp [Dk.new]; exact h2), hc c, rd_nil]
    omega⟩
  rw [od.opened (by simp)]
  exact ⟨od, rfl, rfl, rfl, fun c _ => hc c⟩
end
end Go.Proofs.Ytndghapdpfgmoaa
