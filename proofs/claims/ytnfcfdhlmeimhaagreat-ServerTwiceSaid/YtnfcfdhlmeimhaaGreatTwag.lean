/- A disk of cells in plain words: what a cell reads as, what Write, Sync, Crash, Spoil and Wipe come to. No program is spoken of. -/
import Derived.WalkKit
namespace Go.Proofs.YtnfcfdhlmeimhaaGreat
set_option linter.unusedVariables false
set_option linter.unusedSimpArgs false

section
variable {α β : Type}
/-- Things are put into places, one behind the other. -/
def doG (cs : List α) (ls : List (Nat × α)) : List α := ls.foldl (fun c p => c.set p.1 p.2) cs
/-- The second halves are turned. -/
def mp (f : α → β) (ls : List (Nat × α)) : List (Nat × β) := ls.map fun p => (p.1, f p.2)
theorem doG_snoc (cs : List α) (ls : List (Nat × α)) (p : Nat × α) : doG cs (ls ++ [p]) = (doG cs ls).set p.1 p.2 := by simp [doG]
theorem doG_cons (cs : List α) (p : Nat × α) (ls : List (Nat × α)) : doG cs (p :: ls) = doG (cs.set p.1 p.2) ls := rfl
theorem doG_len (cs : List α) (ls : List (Nat × α)) : (doG cs ls).length = cs.length := by
  induction ls generalizing cs with
  | nil => rfl
  | cons p t ih => rw [doG_cons, ih, List.length_set]
theorem mp_len (f : α → β) (ls : List (Nat × α)) : (mp f ls).length = ls.length := by simp [mp]
theorem mp_snoc (f : α → β) (ls : List (Nat × α)) (p : Nat × α) : mp f (ls ++ [p]) = mp f ls ++ [(p.1, f p.2)] := by simp [mp]
theorem mp_take (f : α → β) (ls : List (Nat × α)) (k : Nat) : mp f (ls.take k) = (mp f ls).take k := by simp [mp]
theorem mp_get (f : α → β) (ls : List (Nat × α)) (k : Nat) : (mp f ls)[k]? = ls[k]?.map fun p => (p.1, f p.2) := by simp [mp]
theorem doG_map (f : α → β) (cs : List α) (ls : List (Nat × α)) : (doG cs ls).map f = doG (cs.map f) (mp f ls) := by
  induction ls generalizing cs with
  | nil => rfl
  | cons p t ih =>
    show (doG (cs.set p.1 p.2) t).map f = doG ((cs.map f).set p.1 (f p.2)) (mp f t)
    rw [ih, List.map_set]
theorem mem_set {cs : List α} {i : Nat} {x y : α} (h : y ∈ cs.set i x) : y ∈ cs ∨ y = x := List.mem_or_eq_of_mem_set h
theorem doG_mem {cs : List α} {ls : List (Nat × α)} {x : α} (h : x ∈ doG cs ls) : x ∈ cs ∨ ∃ p ∈ ls, p.2 = x := by
  induction ls generalizing cs with
  | nil => exact .inl h
  | cons p t ih =>
    rcases ih (cs := cs.set p.1 p.2) h with h | ⟨q, hq, e⟩
    · rcases mem_set h with h | h
      · exact .inl h
      · exact .inr ⟨p, by simp, h.symm⟩
    · exact .inr ⟨q, by simp [hq], e⟩
theorem take_more {ls : List α} {k : Nat} {p : α} (h : ls[k]? = some p) : ls.take (k + 1) = ls.take k ++ [p] := by
  rw [List.take_add_one, h]; rfl
/-- The last one put to a place, or else b. -/
def rdL (l : List (Nat × α)) (c : Nat) (b : α) : α := l.foldl (fun b p => if p.1 = c then p.2 else b) b
theorem rdL_snoc (l : List (Nat × α)) (p : Nat × α) (c : Nat) (b : α) : rdL (l ++ [p]) c b = if p.1 = c then p.2 else rdL l c b := by simp [rdL]
theorem rdL_next {l : List (Nat × α)} {k : Nat} {p : Nat × α} (h : l[k]? = some p) (c : Nat) (b : α) : rdL (l.take (k + 1)) c b = if p.1 = c then p.2 else rdL (l.take k) c b := by rw [take_more h, rdL_snoc]
theorem rdL_mem (l : List (Nat × α)) (c : Nat) (b : α) : rdL l c b = b ∨ ∃ p ∈ l, p.2 = rdL l c b := by
  induction l generalizing b with
  | nil => exact .inl rfl
  | cons p t ih =>
    show rdL t c (if p.1 = c then p.2 else b) = b ∨ ∃ q ∈ p :: t, q.2 = rdL t c (if p.1 = c then p.2 else b)
    rcases ih (if p.1 = c then p.2 else b) with h | ⟨q, hq, e⟩
    · by_cases e : p.1 = c
      · rw [if_pos e] at h ⊢
        exact .inr ⟨p, by simp, h.symm⟩
      · rw [if_neg e] at h ⊢
        exact .inl h
    · exact .inr ⟨q, by simp [hq], e⟩
end

/-- A disk: how many bytes a cell has at most, what its cells have without loose writes, the loose writes, and how many Syncs there were. -/
structure Dk where
  size : Nat
  cells : List (List UInt8)
  loose : List (Nat × List UInt8)
  syncs : Nat
/-- Is there such a cell? -/
def Dk.In (d : Dk) (z : Int) : Prop := 0 ≤ z ∧ z < d.cells.length
instance (d : Dk) (z : Int) : Decidable (d.In z) := by unfold Dk.In; exact inferInstance
/-- What a cell has without loose writes. -/
def Dk.cell (d : Dk) (c : Nat) : List UInt8 := d.cells.getD c []
/-- What a cell reads as. -/
def Dk.rd (d : Dk) (z : Int) : List UInt8 := if d.In z then rdL d.loose z.toNat (d.cell z.toNat) else []
def Dk.new (n s : Nat) : Dk := ⟨s, List.replicate n [], [], 0⟩
def Dk.putE (d : Dk) (z : Int) (b : List UInt8) : Nat := if d.In z then (if d.size < b.length then 29 else 0) else 1
def Dk.put (d : Dk) (z : Int) (b : List UInt8) : Dk := if d.putE z b = 0 then ⟨d.size, d.cells, d.loose ++ [(z.toNat, b)], d.syncs⟩ else d
/-- The first so many loose writes are done. -/
def Dk.don (d : Dk) (k : Nat) : List (List UInt8) := doG d.cells (d.loose.take k)
def Dk.sync (d : Dk) : Dk := ⟨d.size, d.don d.loose.length, [], d.syncs + 1⟩
/-- A disk that there may be. -/
structure Dk.Ok (d : Dk) : Prop where
  n0 : 0 < d.cells.length
  n1 : d.cells.length ≤ 1024
  s0 : 0 < d.size
  s1 : d.size ≤ 4096
  cl : ∀ b ∈ d.cells, b.length ≤ d.size
  ll : ∀ p ∈ d.loose, p.1 < d.cells.length ∧ p.2.length ≤ d.size

section
variable {d : Dk}
theorem getD_mem {b : List UInt8} {l : List (List UInt8)} {c : Nat} (h : b = l.getD c []) : b ∈ l ∨ b = [] := by
  rw [List.getD_eq_getElem?_getD] at h
  rcases e : l[c]? with _ | x
  · rw [e] at h; exact .inr h
  · rw [e] at h
    obtain rfl : b = x := h
    exact .inl (List.mem_of_getElem? e)
theorem Dk.Ok.cell_le (h : d.Ok) (c : Nat) : (d.cell c).length ≤ d.size := by
  rcases getD_mem (b := d.cell c) rfl with e | e
  · exact h.cl _ e
  · rw [e]; exact Nat.zero_le _
theorem Dk.new_ok {n s : Nat} (h0 : 1 ≤ n) (h1 : n ≤ 1024) (h2 : 1 ≤ s) (h3 : s ≤ 4096) : (Dk.new n s).Ok :=
  ⟨by simp [Dk.new]; omega, by simp [Dk.new]; omega, by simp [Dk.new]; omega, by simp [Dk.new]; omega, fun b hb => by
    have := List.eq_of_mem_replicate hb
    rw [this]; exact Nat.zero_le _, fun p hp => by simp [Dk.new] at hp⟩
theorem Dk.putE_ok {z : Int} {b : List UInt8} (h : d.putE z b = 0) : d.In z ∧ b.length ≤ d.size := by
  unfold Dk.putE at h
  split at h
  · rename_i hz
    split at h
    · omega
    · exact ⟨hz, by omega⟩
  · omega
theorem Dk.Ok.put (h : d.Ok) (z : Int) (b : List UInt8) : (d.put z b).Ok := by
  unfold Dk.put
  by_cases e : d.putE z b = 0
  · rw [if_pos e]
    obtain ⟨hz, hb⟩ := Dk.putE_ok e
    refine ⟨h.n0, h.n1, h.s0, h.s1, h.cl, fun p hp => ?_⟩
    rcases List.mem_append.1 hp with hp | hp
    · exact h.ll p hp
    · rw [List.mem_singleton] at hp
      subst hp
      refine ⟨?_, hb⟩
      have h1 := hz.1
      have h2 := hz.2
      show z.toNat < d.cells.length
      omega
  · rw [if_neg e]; exact h
theorem Dk.don_len (d : Dk) (k : Nat) : (d.don k).length = d.cells.length := doG_len _ _
theorem Dk.Ok.don (h : d.Ok) (k : Nat) : ∀ b ∈ d.don k, b.length ≤ d.size := fun b hb => by
  rcases doG_mem hb with hb | ⟨p, hp, rfl⟩
  · exact h.cl b hb
  · exact (h.ll p (List.mem_of_mem_take hp)).2
theorem Dk.Ok.sync (h : d.Ok) : d.sync.Ok :=
  ⟨by show 0 < (d.don _).length; rw [Dk.don_len]; exact h.n0, by show (d.don _).length ≤ 1024; rw [Dk.don_len]; exact h.n1, h.s0, h.s1, h.don _, fun p hp => by simp [Dk.sync] at hp⟩
theorem Dk.Ok.rd_le (h : d.Ok) (z : Int) : (d.rd z).length ≤ d.size := by
  unfold Dk.rd
  split
  · rcases rdL_mem d.loose z.toNat (d.cell z.toNat) with e | ⟨p, hp, e⟩
    · rw [e]; exact h.cell_le _
    · rw [← e]; exact (h.ll p hp).2
  · exact Nat.zero_le _

end
end Go.Proofs.YtnfcfdhlmeimhaaGreat
