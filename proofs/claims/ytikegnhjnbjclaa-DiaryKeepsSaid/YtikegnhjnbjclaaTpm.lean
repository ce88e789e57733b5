/- A tape in plain words: its safe bytes, its loose ones, and what each call makes of them. No condition. -/
namespace Go.Proofs.Ytikegnhjnbjclaa
set_option linter.unusedVariables false

/-- A tape: its safe bytes, its loose ones, how many there may be. -/
structure Tp where
  sf : List UInt8
  ls : List UInt8
  most : Nat
def Tp.new (z : Int) : Tp := ⟨[], [], z.toNat⟩
def Tp.len (t : Tp) : Nat := t.sf.length + t.ls.length
def Tp.putE (t : Tp) (b : List UInt8) : Nat := if t.most < t.len + b.length then 20 else 0
def Tp.put (t : Tp) (b : List UInt8) : Tp := if t.putE b = 0 then ⟨t.sf, t.ls ++ b, t.most⟩ else t
def Tp.sync (t : Tp) : Tp := ⟨t.sf ++ t.ls, [], t.most⟩
def Tp.cutE (t : Tp) (z : Int) : Nat := if z < 0 ∨ (t.len : Int) < z then 1 else 0
def Tp.cut (t : Tp) (z : Int) : Tp := if t.cutE z = 0 then ⟨(t.sf ++ t.ls).take z.toNat, [], t.most⟩ else t
/-- How many of the loose bytes stay behind a crash, and how many are gone. -/
def Tp.stay (t : Tp) (z : Int) : Nat := min z.toNat t.ls.length
def Tp.gone (t : Tp) (z : Int) : Nat := t.ls.length - t.stay z
/-- The last byte is turned. -/
def turnl (bs : List UInt8) (x : UInt8) : List UInt8 := bs.set (bs.length - 1) (bs.getD (bs.length - 1) 0 ^^^ x)
def Tp.left (t : Tp) (z : Int) (x : UInt8) : List UInt8 := if t.stay z = 0 then t.sf else turnl (t.sf ++ t.ls.take (t.stay z)) x
def Tp.crash (t : Tp) (z : Int) (x : UInt8) : Tp := ⟨t.left z x, [], t.most⟩
theorem Tp.stay_le (t : Tp) (z : Int) : t.stay z ≤ t.ls.length := Nat.min_le_right _ _
theorem Tp.gone_le (t : Tp) (z : Int) : t.gone z ≤ t.ls.length := Nat.sub_le _ _
theorem turnl_len (bs : List UInt8) (x : UInt8) : (turnl bs x).length = bs.length := List.length_set
theorem Tp.left_len (t : Tp) (z : Int) (x : UInt8) : (t.left z x).length = t.sf.length + t.stay z := by
  unfold Tp.left
  have := t.stay_le z
  split
  · omega
  · rw [turnl_len, List.length_append, List.length_take]; omega
theorem Tp.crash_len (t : Tp) (z : Int) (x : UInt8) : (t.crash z x).len = t.sf.length + t.stay z := by
  unfold Tp.len Tp.crash
  rw [Tp.left_len]
  rfl
/-- What a crash leaves of all bytes: the byte is turned, and the rest cut off. -/
theorem Tp.left_eq (t : Tp) (z : Int) (x : UInt8) (k : Nat) (hk : k = t.stay z) (h0 : 0 < k) (y : UInt8) (hy : (t.sf ++ t.ls)[t.sf.length + k - 1]? = some y) :
    ((t.sf ++ t.ls).set (t.sf.length + k - 1) (y ^^^ x)).take (t.sf.length + k) = t.left z x := by
  have hs := t.stay_le z
  have e1 : (t.sf ++ t.ls).take (t.sf.length + k) = t.sf ++ t.ls.take k := by
    rw [List.take_append, List.take_of_length_le (by omega)]
    congr 2
    omega
  have e2 : (t.sf ++ t.ls.take k)[t.sf.length + k - 1]? = some y := by
    rw [← e1, List.getElem?_take, if_pos (by omega)]
    exact hy
  have e3 : (t.sf ++ t.ls.take k).length = t.sf.length + k := by rw [List.length_append, List.length_take]; omega
  unfold Tp.left
  rw [← hk, if_neg (by omega), List.take_set, e1]
  unfold turnl
  rw [e3, List.getD_eq_getElem?_getD, e2]
  rfl
theorem Tp.left_zero (t : Tp) (z : Int) (x : UInt8) (h0 : t.stay z = 0) : t.left z x = t.sf := by
  unfold Tp.left
  rw [if_pos h0]
theorem Tp.put_len (t : Tp) (b : List UInt8) : (t.put b).len ≤ t.len + b.length := by
  unfold Tp.put Tp.len
  split
  · simp; omega
  · omega
theorem Tp.sync_len (t : Tp) : t.sync.len = t.len := by unfold Tp.sync Tp.len; simp
theorem Tp.cut_len (t : Tp) (z : Int) : (t.cut z).len ≤ t.len := by
  unfold Tp.cut Tp.len
  split
  · simp; omega
  · omega
theorem Tp.put_most (t : Tp) (b : List UInt8) : (t.put b).most = t.most := by unfold Tp.put; split <;> rfl
theorem Tp.cut_most (t : Tp) (z : Int) : (t.cut z).most = t.most := by unfold Tp.cut; split <;> rfl
/-- What is safe is there behind a crash. -/
theorem Tp.left_safe (t : Tp) (z : Int) (x : UInt8) : (t.left z x).take t.sf.length = t.sf := by
  unfold Tp.left
  split
  · exact List.take_length
  · rename_i h
    have hs := t.stay_le z
    unfold turnl
    rw [List.take_set_of_le (by rw [List.length_append, List.length_take]; omega), List.take_append, List.take_length]
    simp
end Go.Proofs.Ytikegnhjnbjclaa
