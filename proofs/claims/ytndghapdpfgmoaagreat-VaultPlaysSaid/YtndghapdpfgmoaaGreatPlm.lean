/- A disk of cells in plain words: what a cell reads as, what Write, Sync, Crash, Spoil and Wipe come to. No program is spoken of. -/
import Derived.WalkKit
namespace Go.Proofs.YtndghapdpfgmoaaGreat
set_option linter.unusedVariables false
set_option linter.unusedSimpArgs false

section
variable {α β : Type}
/-- Things are put into places, one behind the other. -/
def doG (cs : List α) (ls : List (Nat × α)) : List α := ls.foldl (fun c p => c.set p.1 p.2) cs
/-- The second halves are turned. -/
def mp (f : α → β) (ls : List (Nat × α)) : List (Nat × β) := ls.map fun p => (p.1, f p.2)
theorem doG_snoc (cs : List α) (ls : List (Nat × α)) (p : Nat × α) : doG cs (ls ++ [p]) = (doG cs ls).set p.1 p.2 := by simp [doG]
theorem doG_cons (cs : List α) (p : Nat × α) (ls : List (Nat × α)) : doG cs (p :: ls) = doG (cs.set p.1 p.2) ls := rfl
theorem doG_len (cs : List α) (ls : List (Nat × α)) : (doG cs ls).length = cs.length := by
  induction ls generalizing cs with
  | nil => rfl
  | cons p t ih => rw [doG_cons, ih, List.length_set]
theorem mp_len (f : α → β) (ls : List (Nat × α)) : (mp f ls).length = ls.length := by simp [mp]
theorem mp_snoc (f : α → β) (ls : List (Nat × α)) (p : Nat × α) : mp f (ls ++ [p]) = mp f ls ++ [(p.1, f p.2)] := by simp [mp]
theorem mp_take (f : α → β) (ls : List (Nat × α)) (k : Nat) : mp f (ls.take k) = (mp f ls).take k := by simp [mp]
theorem mp_get (f : α → β) (ls : List (Nat × α)) (k : Nat) : (mp f ls)[k]? = ls[k]?.map fun p => (p.1, f p.2) := by simp [mp]
theorem doG_map (f : α → β) (cs : List α) (ls : List (Nat × α)) : (doG cs ls).map f = doG (cs.map f) (mp f ls) := by
  induction ls generalizing cs with
  | nil => rfl
  | cons p t ih =>
    show (doG (cs.set p.1 p.2) t).map f = doG ((cs.map f).set p.1 (f p.2)) (mp f t)
    rw [ih, List.map_set]
theorem mem_set {cs : List α} {i : Nat} {x y : α} (h : y ∈ cs.set i x) : y ∈ cs ∨ y = x := List.mem_or_eq_of_mem_set h
theorem doG_mem {cs : List α} {ls : List (Nat × α)} {x : α} (h : x ∈ doG cs ls) : x ∈ cs ∨ ∃ p ∈ ls, p.2 = x := by
  induction ls generalizing cs with
  | nil => exact .inl h
  | cons p t ih =>
    rcases ih (cs := cs.set p.1 p.2) h with h | ⟨q, hq, e⟩
    · rcases mem_set h with h | h
      · exact .inl h
      · exact .inr ⟨p, by simp, h.symm⟩
    · exact .inr ⟨q, by simp [hq], e⟩
theorem doG_far {cs : List α} {ls : List (Nat × α)} {i : Nat} (h : ∀ p ∈ ls, p.1 ≠ i) : (doG cs ls)[i]? = cs[i]? := by
  induction ls generalizing cs with
  | nil => rfl
  | cons p t ih =>
    rw [doG_cons, ih fun q hq => h q (by simp [hq]), List.getElem?_set_ne (h p (by simp))]
theorem take_more {ls : List α} {k : Nat} {p : α} (h : ls[k]? = some p) : ls.take (k + 1) = ls.take k ++ [p] := by
  rw [List.take_add_one, h]; rfl
/-- The last one put to a place, or else b. -/
def rdL (l : List (Nat × α)) (c : Nat) (b : α) : α := l.foldl (fun b p => if p.1 = c then p.2 else b) b
theorem rdL_snoc (l : List (Nat × α)) (p : Nat × α) (c : Nat) (b : α) : rdL (l ++ [p]) c b = if p.1 = c then p.2 else rdL l c b := by simp [rdL]
theorem rdL_next {l : List (Nat × α)} {k : Nat} {p : Nat × α} (h : l[k]? = some p) (c : Nat) (b : α) : rdL (l.take (k + 1)) c b = if p.1 = c then p.2 else rdL (l.take k) c b := by rw [take_more h, rdL_snoc]
theorem rdL_map (f : α → β) (l : List (Nat × α)) (c : Nat) (b : α) : rdL (mp f l) c (f b) = f (rdL l c b) := by
  induction l generalizing b with
  | nil => rfl
  | cons p t ih =>
    show rdL (mp f t) c (if p.1 = c then f p.2 else f b) = f (rdL t c (if p.1 = c then p.2 else b))
    rw [← ih]
    congr 1
    split <;> rfl
theorem rdL_mem (l : List (Nat × α)) (c : Nat) (b : α) : rdL l c b = b ∨ ∃ p ∈ l, p.2 = rdL l c b := by
  induction l generalizing b with
  | nil => exact .inl rfl
  | cons p t ih =>
    show rdL t c (if p.1 = c then p.2 else b) = b ∨ ∃ q ∈ p :: t, q.2 = rdL t c (if p.1 = c then p.2 else b)
    rcases ih (if p.1 = c then p.2 else b) with h | ⟨q, hq, e⟩
    · by_cases e : p.1 = c
      · rw [if_pos e] at h ⊢
        exact .inr ⟨p, by simp, h.symm⟩
      · rw [if_neg e] at h ⊢
        exact .inl h
    · exact .inr ⟨q, by simp [hq], e⟩
end

/-- A disk: how many bytes a cell has at most, what its cells have without loose writes, the loose writes, and how many Syncs there were. -/
structure Dk where
  size : Nat
  cells : List (List UInt8)
  loose : List (Nat × List UInt8)
  syncs : Nat
/-- A number counts as nought below that, and as n above n. -/
def clm (z : Int) (n : Nat) : Nat := min z.toNat n
theorem clm_le (z : Int) (n : Nat) : clm z n ≤ n := Nat.min_le_right _ _
theorem clm_lo {z : Int} {n : Nat} (h : z ≤ 0) : clm z n = 0 := by unfold clm; omega
theorem clm_hi {z : Int} {n : Nat} (h : (n : Int) ≤ z) : clm z n = n := by unfold clm; omega
theorem clm_in {z : Nat} {n : Nat} (h : z ≤ n) : clm (z : Int) n = z := by unfold clm; omega
/-- Is there such a cell? -/
def Dk.In (d : Dk) (z : Int) : Prop := 0 ≤ z ∧ z < d.cells.length
instance (d : Dk) (z : Int) : Decidable (d.In z) := by unfold Dk.In; exact inferInstance
/-- What a cell has without loose writes. -/
def Dk.cell (d : Dk) (c : Nat) : List UInt8 := d.cells.getD c []
/-- What a cell reads as. -/
def Dk.rd (d : Dk) (z : Int) : List UInt8 := if d.In z then rdL d.loose z.toNat (d.cell z.toNat) else []
def Dk.new (n s : Nat) : Dk := ⟨s, List.replicate n [], [], 0⟩
def Dk.putE (d : Dk) (z : Int) (b : List UInt8) : Nat := if d.In z then (if d.size < b.length then 29 else 0) else 1
def Dk.put (d : Dk) (z : Int) (b : List UInt8) : Dk := if d.putE z b = 0 then ⟨d.size, d.cells, d.loose ++ [(z.toNat, b)], d.syncs⟩ else d
/-- The first so many loose writes are done. -/
def Dk.don (d : Dk) (k : Nat) : List (List UInt8) := doG d.cells (d.loose.take k)
def Dk.sync (d : Dk) : Dk := ⟨d.size, d.don d.loose.length, [], d.syncs + 1⟩
/-- The first n bytes of b, over what was there. -/
def tornB (b had : List UInt8) (n : Nat) : List UInt8 := b.take n ++ had.drop n
def Dk.torn (d : Dk) (k : Nat) (y : Int) : List (List UInt8) :=
  match d.loose[k]? with
  | none => d.don k
  | some p => (d.don k).set p.1 (tornB p.2 ((d.don k).getD p.1 []) (clm y p.2.length))
def Dk.crash (d : Dk) (z y : Int) : Dk := ⟨d.size, d.torn (clm z d.loose.length) y, [], d.syncs⟩
def Dk.lost (d : Dk) (z : Int) : Nat := d.loose.length - clm z d.loose.length
def Dk.spoilE (d : Dk) (z a : Int) : Nat := if d.In z ∧ 0 ≤ a ∧ a < (d.cell z.toNat).length then 0 else 1
def Dk.spoil (d : Dk) (z a : Int) (x : UInt8) : Dk :=
  if d.spoilE z a = 0 then ⟨d.size, d.cells.set z.toNat ((d.cell z.toNat).set a.toNat ((d.cell z.toNat).getD a.toNat 0 ^^^ x)), d.loose, d.syncs⟩ else d
def Dk.wipeE (d : Dk) (z : Int) : Nat := if d.In z then 0 else 1
def Dk.wipe (d : Dk) (z : Int) : Dk := if d.wipeE z = 0 then ⟨d.size, d.cells.set z.toNat [], d.loose, d.syncs⟩ else d

/-- A disk that there may be. -/
structure Dk.Ok (d : Dk) : Prop where
  n0 : 0 < d.cells.length
  n1 : d.cells.length ≤ 1024
  s0 : 0 < d.size
  s1 : d.size ≤ 4096
  cl : ∀ b ∈ d.cells, b.length ≤ d.size
  ll : ∀ p ∈ d.loose, p.1 < d.cells.length ∧ p.2.length ≤ d.size

section
variable {d : Dk}
theorem getD_mem {b : List UInt8} {l : List (List UInt8)} {c : Nat} (h : b = l.getD c []) : b ∈ l ∨ b = [] := by
  rw [List.getD_eq_getElem?_getD] at h
  rcases e : l[c]? with _ | x
  · rw [e] at h; exact .inr h
  · rw [e] at h
    obtain rfl : b = x := h
    exact .inl (List.mem_of_getElem? e)
theorem Dk.Ok.cell_le (h : d.Ok) (c : Nat) : (d.cell c).length ≤ d.size := by
  rcases getD_mem (b := d.cell c) rfl with e | e
  · exact h.cl _ e
  · rw [e]; exact Nat.zero_le _
theorem Dk.new_ok {n s : Nat} (h0 : 1 ≤ n) (h1 : n ≤ 1024) (h2 : 1 ≤ s) (h3 : s ≤ 4096) : (Dk.new n s).Ok :=
  ⟨by simp [Dk.new]; omega, by simp [Dk.new]; omega, by simp [Dk.new]; omega, by simp [Dk.new]; omega, fun b hb => by
    have := List.eq_of_mem_replicate hb
    rw [this]; exact Nat.zero_le _, fun p hp => by simp [Dk.new] at hp⟩
theorem Dk.putE_ok {z : Int} {b : List UInt8} (h : d.putE z b = 0) : d.In z ∧ b.length ≤ d.size := by
  unfold Dk.putE at h
  split at h
  · rename_i hz
    split at h
    · omega
    · exact ⟨hz, by omega⟩
  · omega
theorem Dk.Ok.put (h : d.Ok) (z : Int) (b : List UInt8) : (d.put z b).Ok := by
  unfold Dk.put
  by_cases e : d.putE z b = 0
  · rw [if_pos e]
    obtain ⟨hz, hb⟩ := Dk.putE_ok e
    refine ⟨h.n0, h.n1, h.s0, h.s1, h.cl, fun p hp => ?_⟩
    rcases List.mem_append.1 hp with hp | hp
    · exact h.ll p hp
    · rw [List.mem_singleton] at hp
      subst hp
      refine ⟨?_, hb⟩
      have h1 := hz.1
      have h2 := hz.2
      show z.toNat < d.cells.length
      omega
  · rw [if_neg e]; exact h
theorem Dk.don_len (d : Dk) (k : Nat) : (d.don k).length = d.cells.length := doG_len _ _
theorem Dk.Ok.don (h : d.Ok) (k : Nat) : ∀ b ∈ d.don k, b.length ≤ d.size := fun b hb => by
  rcases doG_mem hb with hb | ⟨p, hp, rfl⟩
  · exact h.cl b hb
  · exact (h.ll p (List.mem_of_mem_take hp)).2
theorem Dk.Ok.sync (h : d.Ok) : d.sync.Ok :=
  ⟨by show 0 < (d.don _).length; rw [Dk.don_len]; exact h.n0, by show (d.don _).length ≤ 1024; rw [Dk.don_len]; exact h.n1, h.s0, h.s1, h.don _, fun p hp => by simp [Dk.sync] at hp⟩
theorem Dk.torn_len (d : Dk) (k : Nat) (y : Int) : (d.torn k y).length = d.cells.length := by
  unfold Dk.torn
  split
  · exact Dk.don_len _ _
  · rw [List.length_set, Dk.don_len]
theorem tornB_len {b had : List UInt8} {n s : Nat} (h1 : b.length ≤ s) (h2 : had.length ≤ s) (hn : n ≤ b.length) : (tornB b had n).length ≤ s := by
  unfold tornB
  rw [List.length_append, List.length_take, List.length_drop]
  omega
theorem Dk.Ok.torn (h : d.Ok) (k : Nat) (y : Int) : ∀ b ∈ d.torn k y, b.length ≤ d.size := fun b hb => by
  unfold Dk.torn at hb
  split at hb
  · exact h.don k b hb
  · rename_i p hp
    rcases mem_set hb with hb | rfl
    · exact h.don k b hb
    · refine tornB_len (h.ll p (List.mem_of_getElem? hp)).2 ?_ (clm_le _ _)
      rcases getD_mem (b := (d.don k).getD p.1 []) rfl with e | e
      · exact h.don k _ e
      · rw [e]; exact Nat.zero_le _
theorem Dk.Ok.crash (h : d.Ok) (z y : Int) : (d.crash z y).Ok :=
  ⟨by show 0 < (d.torn _ _).length; rw [Dk.torn_len]; exact h.n0, by show (d.torn _ _).length ≤ 1024; rw [Dk.torn_len]; exact h.n1, h.s0, h.s1, h.torn _ _, fun p hp => by simp [Dk.crash] at hp⟩
theorem Dk.Ok.setc (h : d.Ok) (c : Nat) {b : List UInt8} (hb : b.length ≤ d.size) (n : Nat) : (Dk.mk d.size (d.cells.set c b) d.loose n).Ok :=
  ⟨by simp only [List.length_set]; exact h.n0, by simp only [List.length_set]; exact h.n1, h.s0, h.s1, fun x hx => by
    rcases mem_set hx with hx | rfl
    · exact h.cl x hx
    · exact hb, fun p hp => by simp only [List.length_set]; exact h.ll p hp⟩
theorem Dk.Ok.spoil (h : d.Ok) (z a : Int) (x : UInt8) : (d.spoil z a x).Ok := by
  unfold Dk.spoil
  split
  · exact h.setc _ (by rw [List.length_set]; exact h.cell_le _) _
  · exact h
theorem Dk.Ok.wipe (h : d.Ok) (z : Int) : (d.wipe z).Ok := by
  unfold Dk.wipe
  split
  · exact h.setc _ (Nat.zero_le _) _
  · exact h
theorem Dk.Ok.rd_le (h : d.Ok) (z : Int) : (d.rd z).length ≤ d.size := by
  unfold Dk.rd
  split
  · rcases rdL_mem d.loose z.toNat (d.cell z.toNat) with e | ⟨p, hp, e⟩
    · rw [e]; exact h.cell_le _
    · rw [← e]; exact (h.ll p hp).2
  · exact Nat.zero_le _

theorem rdL_far {α : Type} {l : List (Nat × α)} {i : Nat} {b : α} (h : ∀ p ∈ l, p.1 ≠ i) : rdL l i b = b := by
  induction l generalizing b with
  | nil => rfl
  | cons p t ih =>
    show rdL t i (if p.1 = i then p.2 else b) = b
    rw [if_neg (h p (by simp)), ih fun q hq => h q (by simp [hq])]
/-- What no loose write goes to is behind a crash what it was. -/
theorem Dk.crash_far {z y : Int} {i : Nat} (h : ∀ p ∈ d.loose, p.1 ≠ i) : (d.crash z y).rd (i : Int) = d.rd (i : Int) := by
  have hl : (d.crash z y).cells.length = d.cells.length := Dk.torn_len _ _ _
  have hc : (d.crash z y).cells[i]? = d.cells[i]? := by
    show (d.torn (clm z d.loose.length) y)[i]? = _
    have hd : ∀ k, (d.don k)[i]? = d.cells[i]? := fun k => doG_far fun p hp => h p (List.mem_of_mem_take hp)
    unfold Dk.torn
    split
    · exact hd _
    · rename_i p hp
      rw [List.getElem?_set_ne (h p (List.mem_of_getElem? hp)), hd]
  have hr : ∀ (l : List (Nat × List UInt8)) b, (∀ p ∈ l, p.1 ≠ i) → rdL l i b = b := fun l => by
    induction l with
    | nil => exact fun _ _ => rfl
    | cons p t ih =>
      intro b hb
      show rdL t i (if p.1 = i then p.2 else b) = b
      rw [if_neg (hb p (by simp)), ih _ fun q hq => hb q (by simp [hq])]
  unfold Dk.rd
  by_cases e : d.In (i : Int)
  · have e' : (d.crash z y).In (i : Int) := ⟨e.1, by rw [hl]; exact e.2⟩
    rw [if_pos e, if_pos e']
    rw [Int.toNat_natCast, hr _ _ h]
    show rdL [] i _ = _
    unfold Dk.cell
    rw [List.getD_eq_getElem?_getD, List.getD_eq_getElem?_getD, hc]
    rfl
  · have e' : ¬ (d.crash z y).In (i : Int) := fun g => e ⟨g.1, by rw [← hl]; exact g.2⟩
    rw [if_neg e, if_neg e']
theorem Dk.rd_bare {D2 D1 : Dk} (hc : D2.cells = D1.cells) (h1 : D1.loose = []) {i : Nat} (hf : ∀ p ∈ D2.loose, p.1 ≠ i) : D2.rd (i : Int) = D1.rd (i : Int) := by
  have e : D2.In (i : Int) ↔ D1.In (i : Int) := by unfold Dk.In; rw [hc]
  unfold Dk.rd
  by_cases h : D1.In (i : Int)
  · rw [if_pos (e.2 h), if_pos h, Int.toNat_natCast, rdL_far hf, h1]
    unfold Dk.cell
    rw [hc]
    rfl
  · rw [if_neg fun g => h (e.1 g), if_neg h]
end
end Go.Proofs.YtndghapdpfgmoaaGreat
