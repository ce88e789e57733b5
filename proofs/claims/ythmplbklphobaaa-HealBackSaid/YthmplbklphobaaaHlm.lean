/- A lost shard comes of the fragments of others, in plain words: what helpers send are the rows of powers of their points with one column; the column tells the lost shard, as both halves of the message's matrix are symmetric. No condition. -/
import Derived.Test.YthmplbklphobaaaMsa
namespace Go.Proofs.Ythmplbklphobaaa
set_option linter.unusedVariables false
set_option maxRecDepth 20000

/-- The column of the lost slot's point: the message's matrix by the first half of that slot's row. -/
def colF (a : Nat) (M : Nat → Nat → UInt8) (z : UInt8) (r : Nat) : UInt8 := ud (M r) (upw z) a
/-- What a helper sends of its shard is its row by the column. -/
theorem frag_col (a d : Nat) (M : Nat → Nat → UInt8) (y z : UInt8) : ud (upw z) (fun j => ud (upw y) (fun r => M r j) d) a = ud (upw y) (colF a M z) d := by
  rw [ud_comm]
  exact ud_assoc (upw y) M (upw z) a d
/-- The column tells the lost shard. -/
theorem heal_part {a : Nat} {M : Nat → Nat → UInt8} (hS : ∀ r j, r < a → j < a → M r j = M j r) (hT : ∀ r j, r < a → j < a → M (a + r) j = M (a + j) r) (z : UInt8) {j : Nat} (hj : j < a) :
    colF a M z j ^^^ um (colF a M z (a + j)) (upw z a) = ud (upw z) (fun r => M r j) (a + a) := by
  rw [row_sh]
  unfold shF colF
  rw [um_comm, ud_comm (M j), ud_comm (M (a + j))]
  congr 1
  · exact ud_congr (fun _ _ => rfl) fun r hr => (hS r j hr hj).symm
  · congr 1
    exact ud_congr (fun _ _ => rfl) fun r hr => (hT r j hr hj).symm
/-- A column that comes to the same with so many rows of powers of unlike points is one. -/
theorem col_only {d : Nat} {p : Nat → UInt8} (h : Uq d p) {u v : Nat → UInt8} (he : ∀ i, i < d → ud (upw (p i)) u d = ud (upw (p i)) v d) (r : Nat) (hr : r < d) : u r = v r :=
  pv_only h (fun i hi => by
    show ud u (upw (p i)) d = ud v (upw (p i)) d
    rw [ud_comm u, ud_comm v]
    exact he i hi) r hr
/-- The message's matrix, as its parts are placed, is symmetric in both halves. -/
theorem plc_sym {a : Nat} (h : a < 8) (ha : 0 < a) (v : Nat → UInt8) : (∀ r j, r < a → j < a → v (plcF a r j) = v (plcF a j r)) ∧ ∀ r j, r < a → j < a → v (plcF a (a + r) j) = v (plcF a (a + j) r) :=
  ⟨fun r j hr hj => by rw [(plc_ok h ha).up r j hr hj], fun r j hr hj => by rw [(plc_ok h ha).low r j hr hj]⟩
/-- The steps of the helpers' rows beside what they sent end in the columns. -/
theorem steps_cols {d m : Nat} {p : Nat → UInt8} {f b x : Nat → Nat → UInt8} (h : Uq d p) (hf : EqF d (d + m) f (catF d (vF p) b)) (hx : EqF d m (mulF d (vF p) x) b) : ∀ r v, r < d → v < m → (redS d f (d + m)).f r (d + v) = x r v :=
  steps_solve (vF_whole h) hf hx
end Go.Proofs.Ythmplbklphobaaa
