/- A watch in plain words: when each node was heard last, what is thought of it, and what each call makes of both. No condition. -/

namespace Go.Proofs.Ytjmahbmlocfbhaa
set_option linter.unusedVariables false

/-- A watch: from how many ticks on a node is late, and gone; when each was heard; the tick, the epoch. -/
structure Wt where
  late : Nat
  gone : Nat
  hs : List Nat
  now : Nat
  ep : Nat
def Wt.Right (n a b : Int) : Prop := 1 ≤ n ∧ n ≤ 32 ∧ 1 ≤ a ∧ a < b ∧ b ≤ 1099511627776
def Wt.new (n a b : Nat) : Wt := ⟨a, b, List.replicate n 0, 0, 0⟩
/-- What holds of each watch. -/
structure Wt.Ok (T : Wt) : Prop where
  l1 : 1 ≤ T.late
  lg : T.late < T.gone
  g1 : T.gone ≤ 1099511627776
  n1 : 1 ≤ T.hs.length
  n2 : T.hs.length ≤ 32
  hh : ∀ h ∈ T.hs, h ≤ T.now
  tk : T.now ≤ 1099511627776
/-- What is thought of a node that was heard so long ago. -/
def Wt.by_ (T : Wt) (d : Nat) : Nat := if T.gone ≤ d then 2 else if T.late ≤ d then 1 else 0
def Wt.stN (T : Wt) (k : Nat) : Nat := match T.hs[k]? with
  | none => 2
  | some h => T.by_ (T.now - h)
def Wt.st (T : Wt) (z : Int) : Nat := if z < 0 then 2 else T.stN z.toNat
def Wt.In (T : Wt) (z : Int) : Prop := 0 ≤ z ∧ z < T.hs.length
instance (T : Wt) (z : Int) : Decidable (T.In z) := inferInstanceAs (Decidable (_ ∧ _))
/-- Is any of the first k nodes another one than it was? -/
def tnd (T T' : Wt) (k : Nat) : Bool := (List.range k).any fun i => T.stN i != T'.stN i
/-- The epoch is one more if any is. -/
def Wt.next (T T' : Wt) : Wt := ⟨T'.late, T'.gone, T'.hs, T'.now, T'.ep + (tnd T T' 32).toNat⟩
def Wt.hrd0 (T : Wt) (k : Nat) : Wt := ⟨T.late, T.gone, T.hs.set k T.now, T.now, T.ep⟩
def Wt.hrd (T : Wt) (z : Int) : Wt := if T.In z then T.next (T.hrd0 z.toNat) else T
def Wt.TkOk (T : Wt) (z : Int) : Prop := 1 ≤ z ∧ z ≤ 1099511627776 - T.now
instance (T : Wt) (z : Int) : Decidable (T.TkOk z) := inferInstanceAs (Decidable (_ ∧ _))
def Wt.tck0 (T : Wt) (k : Nat) : Wt := ⟨T.late, T.gone, T.hs, T.now + k, T.ep⟩
def Wt.tck (T : Wt) (z : Int) : Wt := if T.TkOk z then T.next (T.tck0 z.toNat) else T
/-- How many of the first k nodes have that state. -/
def Wt.cnt (T : Wt) (s k : Nat) : Nat := (List.range k).countP fun i => T.stN i == s
theorem tnd_succ (T T' : Wt) (k : Nat) : tnd T T' (k + 1) = (tnd T T' k || T.stN k != T'.stN k) := by
  unfold tnd
  rw [List.range_succ, List.any_append]
  simp
theorem Wt.cnt_succ (T : Wt) (s k : Nat) : T.cnt s (k + 1) = T.cnt s k + (T.stN k == s).toNat := by
  unfold Wt.cnt
  rw [List.range_succ, List.countP_append]
  cases h : T.stN k == s <;> simp [h]
theorem Wt.cnt_zero (T : Wt) (s : Nat) : T.cnt s 0 = 0 := rfl
theorem Wt.cnt_le (T : Wt) (s k : Nat) : T.cnt s k ≤ k := by
  have := List.countP_le_length (p := fun i => T.stN i == s) (l := List.range k)
  rw [List.length_range] at this
  exact this
theorem Wt.stN_out (T : Wt) {k : Nat} (h : T.hs.length ≤ k) : T.stN k = 2 := by
  unfold Wt.stN
  rw [List.getElem?_eq_none h]
theorem Wt.stN_in (T : Wt) {k h : Nat} (hk : T.hs[k]? = some h) : T.stN k = T.by_ (T.now - h) := by
  unfold Wt.stN
  rw [hk]
theorem Wt.st_nat (T : Wt) (k : Nat) : T.st (k : Int) = T.stN k := by
  unfold Wt.st
  rw [if_neg (by omega), Int.toNat_natCast]
theorem Wt.st_out (T : Wt) {z : Int} (h : ¬ T.In z) : T.st z = 2 := by
  unfold Wt.st
  by_cases h0 : z < 0
  · rw [if_pos h0]
  · rw [if_neg h0]
    exact T.stN_out (by unfold Wt.In at h; omega)
theorem Wt.by_le (T : Wt) (d : Nat) : T.by_ d ≤ 2 := by
  unfold Wt.by_
  split
  · omega
  · split <;> omega
theorem Wt.stN_le (T : Wt) (k : Nat) : T.stN k ≤ 2 := by
  unfold Wt.stN
  split
  · omega
  · exact T.by_le _
/-- No node beyond the last one turns. -/
theorem tnd_far (T T' : Wt) (h : T.hs.length = T'.hs.length) (d : Nat) : tnd T T' (T.hs.length + d) = tnd T T' T.hs.length := by
  induction d with
  | zero => rfl
  | succ d ih =>
    rw [← Nat.add_assoc, tnd_succ, ih, T.stN_out (by omega), T'.stN_out (by omega)]
    simp
theorem tnd_all (T T' : Wt) (h : T.hs.length = T'.hs.length) (hn : T.hs.length ≤ 32) : tnd T T' T.hs.length = tnd T T' 32 := by
  have := tnd_far T T' h (32 - T.hs.length)
  rw [Nat.add_sub_cancel' hn] at this
  exact this.symm
/-- Nothing turned just if all are as they were. -/
theorem tnd_false (T T' : Wt) (k : Nat) : tnd T T' k = false ↔ ∀ i, i < k → T.stN i = T'.stN i := by
  unfold tnd
  simp [List.any_eq_false]
theorem Wt.hrd0_len (T : Wt) (k : Nat) : (T.hrd0 k).hs.length = T.hs.length := List.length_set
theorem Wt.new_ok {n a b : Nat} (h : Wt.Right (n : Int) (a : Int) (b : Int)) : (Wt.new n a b).Ok := by
  obtain ⟨h1, h2, h3, h4, h5⟩ := h
  refine ⟨?_, ?_, ?_, ?_, ?_, fun h hm => ?_, ?_⟩
  · show 1 ≤ a; omega
  · show a < b; omega
  · show b ≤ _; omega
  · show 1 ≤ (List.replicate n 0).length; rw [List.length_replicate]; omega
  · show (List.replicate n 0).length ≤ 32; rw [List.length_replicate]; omega
  · rw [List.eq_of_mem_replicate hm]; exact Nat.zero_le _
  · show 0 ≤ _; omega
theorem Wt.next_ok {T T' : Wt} (h : T'.Ok) : (T.next T').Ok := ⟨h.l1, h.lg, h.g1, h.n1, h.n2, h.hh, h.tk⟩
theorem Wt.hrd0_ok {T : Wt} (h : T.Ok) (k : Nat) : (T.hrd0 k).Ok :=
  ⟨h.l1, h.lg, h.g1, by rw [T.hrd0_len]; exact h.n1, by rw [T.hrd0_len]; exact h.n2, fun x hx => by
    rcases List.mem_or_eq_of_mem_set hx with hx | rfl
    · exact h.hh x hx
    · exact Nat.le_refl _, h.tk⟩
theorem Wt.tck0_ok {T : Wt} (h : T.Ok) {k : Nat} (hk : T.now + k ≤ 1099511627776) : (T.tck0 k).Ok :=
  ⟨h.l1, h.lg, h.g1, h.n1, h.n2, fun x hx => Nat.le_trans (h.hh x hx) (Nat.le_add_right _ _), hk⟩
theorem Wt.hrd_ok {T : Wt} (h : T.Ok) (z : Int) : (T.hrd z).Ok := by
  unfold Wt.hrd
  split
  · exact Wt.next_ok (Wt.hrd0_ok h _)
  · exact h
theorem Wt.tck_ok {T : Wt} (h : T.Ok) (z : Int) : (T.tck z).Ok := by
  unfold Wt.tck
  split
  · rename_i hz
    exact Wt.next_ok (Wt.tck0_ok h (by obtain ⟨h1, h2⟩ := hz; omega))
  · exact h
theorem Wt.next_ep (T T' : Wt) : (T.next T').ep ≤ T'.ep + 1 := by
  show T'.ep + (tnd T T' 32).toNat ≤ _
  have := Bool.toNat_le (tnd T T' 32)
  omega
theorem Wt.hrd_ep (T : Wt) (z : Int) : (T.hrd z).ep ≤ T.ep + 1 := by
  unfold Wt.hrd
  split
  · exact Wt.next_ep _ _
  · omega
theorem Wt.tck_ep (T : Wt) (z : Int) : (T.tck z).ep ≤ T.ep + 1 := by
  unfold Wt.tck
  split
  · exact Wt.next_ep _ _
  · omega
theorem Wt.hrd_len (T : Wt) (z : Int) : (T.hrd z).hs.length = T.hs.length := by
  unfold Wt.hrd
  split
  · exact T.hrd0_len _
  · rfl
theorem Wt.tck_len (T : Wt) (z : Int) : (T.tck z).hs.length = T.hs.length := by
  unfold Wt.tck
  split <;> rfl
theorem Wt.Ok.heard {T : Wt} (h : T.Ok) {k x : Nat} (hk : T.hs[k]? = some x) : x ≤ T.now := h.hh x (List.mem_of_getElem? hk)
/-- What P17.3 keeps: node 1 was heard at this tick. -/
structure Wt.Fresh (T : Wt) (n : Nat) : Prop where
  hl : T.late = n
  at_ : T.hs[1]? = some T.now
theorem Wt.Fresh.there {T : Wt} {n : Nat} (h : T.Fresh n) (ok : T.Ok) : T.st 1 = 0 := by
  rw [show (1 : Int) = ((1 : Nat) : Int) from rfl, T.st_nat, T.stN_in h.at_, Nat.sub_self]
  have := ok.l1
  have := ok.lg
  unfold Wt.by_
  rw [if_neg (by omega), if_neg (by omega)]
/-- Behind less than late ticks it is there, and heard again. -/
theorem Wt.Fresh.tick {T : Wt} {n : Nat} (h : T.Fresh n) (ok : T.Ok) {d : Nat} (h1 : 1 ≤ d) (h2 : d < n) (h3 : T.now + d ≤ 1099511627776) : (T.tck (d : Int)).st 1 = 0 ∧ ((T.tck (d : Int)).hrd 1).Fresh n ∧ ((T.tck (d : Int)).hrd 1).now = T.now + d := by
  have hz : T.TkOk (d : Int) := ⟨by omega, by omega⟩
  have e : T.tck (d : Int) = T.next (T.tck0 d) := by unfold Wt.tck; rw [if_pos hz, Int.toNat_natCast]
  have hlg := ok.lg
  have hl := h.hl
  rw [e]
  have hl1 : 1 < T.hs.length := (List.getElem?_eq_some_iff.1 h.at_).1
  have eh : (T.next (T.tck0 d)).hrd 1 = (T.next (T.tck0 d)).next ((T.next (T.tck0 d)).hrd0 1) := by
    have hin : (T.next (T.tck0 d)).In 1 := ⟨by omega, by show (1 : Int) < T.hs.length; omega⟩
    unfold Wt.hrd
    rw [if_pos hin]
    rfl
  rw [eh]
  refine ⟨?_, ⟨hl, ?_⟩, rfl⟩
  · rw [show (1 : Int) = ((1 : Nat) : Int) from rfl, Wt.st_nat, Wt.stN_in (h := T.now) (T.next (T.tck0 d)) h.at_]
    show (if T.gone ≤ T.now + d - T.now then 2 else if T.late ≤ T.now + d - T.now then 1 else 0) = 0
    rw [Nat.add_sub_cancel_left, if_neg (by omega), if_neg (by omega)]
  · show (T.hs.set 1 (T.now + d))[1]? = some (T.now + d)
    rw [List.getElem?_set, if_pos rfl, if_pos hl1]
/-- The chapter's example. -/
def awk17a : Wt := (Wt.new 1 2 4).tck 2
def awk17b : Wt := awk17a.tck 2
def awk17c : Wt := awk17b.hrd 0
theorem awk17_all : awk17a.st 0 = 1 ∧ awk17b.st 0 = 2 ∧ awk17c.st 0 = 0 ∧ awk17c.ep = 3 := by decide
end Go.Proofs.Ytjmahbmlocfbhaa
