/- What UrgentPlays knows as it goes: its queue, the document's jobs, its own boxes. No condition. -/
import Derived.Test.YtjbnbbblafmldaaUbba
import Derived.Test.YtjbnbbblafmldaaUbbb
namespace Go.Proofs.Ytjbnbbblafmldaa
open Go.RowKit
set_option linter.unusedVariables false
set_option linter.unusedSimpArgs false
set_option maxRecDepth 20000

/-- The box s, and the block in which A lies. -/
def Xs (s : Nat) (A : Option Addr) (k : Nat) : Prop := k = s ∨ A.map (·.block) = some k
abbrev BxR (w : World) (s x : Nat) : Prop := Bx3 26 w s (.int .u32 (jO x : Int)) (.int .u16 (jS x : Int)) (.int .i64 (jG x))
/-- Between two acts: the queue at g has the jobs r, and so has the document's slice at A; j's box is s. -/
structure UpS (W : World) (g s j : Nat) (A : Option Addr) (n c : Nat) (r : List Nat) (wr : World) : Prop where
  q : QxS W g (Xs s A) r wr
  rd : RdJ wr A n r
  cap : n ≤ c
  bx : BxR wr s j
/-- An act under way: its box b, of kind k and with the job x; the queue has rq, the document's slice rr. -/
structure UaS (W : World) (g s b j : Nat) (A : Option Addr) (n c : Nat) (rq rr : List Nat) (k : Int) (x : Nat) (wr : World) : Prop where
  q : QxS W g (fun y => Xs s A y ∨ y = b) rq wr
  rd : RdJ wr A n rr
  cap : n ≤ c
  bx : BxR wr s j
  ba : wr.heap[b]? = some (.cells #[.int .i64 k, .int .u32 (jO x : Int), .int .u16 (jS x : Int), .int .i64 (jG x)] 32 (0, 0))
section
variable {W wr w1 : World} {g s b j n c x : Nat} {A : Option Addr} {r rq rr r' : List Nat} {k : Int} {v : Value}
theorem UpS.no (h : UpS W g s j A n c r wr) (hk : Kp No wr w1) : UpS W g s j A n c r w1 := ⟨h.q.no hk, h.rd.no hk, h.cap, h.bx.no hk⟩
theorem UaS.no (h : UaS W g s b j A n c rq rr k x wr) (hk : Kp No wr w1) : UaS W g s b j A n c rq rr k x w1 :=
  ⟨h.q.no hk, h.rd.no hk, h.cap, h.bx.no hk, (hk.block b (Array.getElem?_eq_some_iff.1 h.ba).1 fun f => f).trans h.ba⟩
/-- An act's box is made. -/
theorem UpS.act (h : UpS W g s j A n c r wr) (k : Int) (x : Nat) : UaS W g s wr.heap.size j A n c r r k x (wr.alloc (.cells #[.int .i64 k, .int .u32 (jO x : Int), .int .u16 (jS x : Int), .int .i64 (jG x)] 32)) :=
  ⟨h.q.add (Kp.alloc No wr _) (Nat.le_refl _) (by simp), h.rd.no (Kp.alloc No wr _), h.cap, h.bx.no (Kp.alloc No wr _), heap_alloc_new wr _⟩
theorem UaS.done (h : UaS W g s b j A n c r r k x wr) : UpS W g s j A n c r wr := ⟨h.q.less fun y hy => .inl hy, h.rd, h.cap, h.bx⟩
/-- A call on the queue. -/
theorem UaS.call (h : UaS W g s b j A n c rq rr k x wr) (hq : QxS W g (fun y => Xs s A y ∨ y = b) r' w1) (hk : Kp (Fre W fun y => Xs s A y ∨ y = b) wr w1) : UaS W g s b j A n c r' rr k x w1 :=
  ⟨hq, h.rd.keep hk fun B off e f => f.2 (.inl (.inr (by rw [e]; rfl))), h.cap, h.bx.keep hk fun f => f.2 (.inl (.inl rfl)), (hk.block b (Array.getElem?_eq_some_iff.1 h.ba).1 fun f => f.2 (.inr rfl)).trans h.ba⟩
/-- The document's slice is another one now. -/
theorem UaS.ref {A' : Option Addr} {n' c' : Nat} (h : UaS W g s b j A n c rq rr k x wr) (hk : Kp No wr w1) (ho : JbR w1 wr.heap.size 26 (.slice A' n' c') r') : UaS W g s b j A' n' c' rq r' k x w1 := by
  have h1 := h.no hk
  refine ⟨?_, RdJ.of_row ho, JbR.capR ho, h1.bx, h1.ba⟩
  rcases A' with _ | a
  · exact h1.q.less fun y hy => by
      rcases hy with (hy | hy) | hy
      · exact .inl (.inl hy)
      · cases hy
      · exact .inr hy
  · have hge := OwnT.ge ho a.block rfl
    have hlt := OwnT.lt ho a.block rfl
    exact (h.q.add hk hge hlt).less fun y hy => by
      rcases hy with (hy | hy) | hy
      · exact .inl (.inl (.inl hy))
      · exact .inr (Option.some.inj hy).symm
      · exact .inl (.inr hy)
/-- The first of the document's jobs is left out. -/
theorem UaS.tail {y : Nat} {t : List Nat} (h : UaS W g s b j A n c rq (y :: t) k x wr) : UaS W g s b j (if c = 1 then A else A.map (·.add (1 * 3))) (n - 1) (c - 1) rq t k x wr := by
  have hc := h.cap
  refine ⟨h.q.less fun z hz => ?_, h.rd.tail fun B off hn e => ?_, by omega, h.bx, h.ba⟩
  · rcases hz with (hz | hz) | hz
    · exact .inl (.inl hz)
    · refine .inl (.inr ?_)
      split at hz
      · exact hz
      · rcases A with _ | a
        · cases hz
        · have := blk_add a (1 * 3)
          rw [← hz]
          exact congrArg some this.symm
    · exact .inr hz
  · rw [if_neg (by omega), e, Option.map_some, add_none]
theorem UpS.same (h : UpS W g s j A n c r wr) (hl : r.length ≤ 900000) : Calls Try.prog 14 #[.pointer (some ⟨g, 0, none⟩), .slice A n c] wr (TruePost wr) := by
  obtain ⟨F, hq, _⟩ := h.q.ex
  exact same19_any hq h.rd hl
theorem UaS.lts (h : UaS W g s b j A n c rq rr k x wr) : ∀ y ∈ rq, y < NJ := by
  obtain ⟨F, hq, _⟩ := h.q.ex
  exact hq.lts
theorem UaS.cells (h : UaS W g s b j A n c rq rr k x wr) : wr.cell? ⟨b, 0, none⟩ = some (.int .i64 k) ∧ wr.cell? ⟨b, 1, none⟩ = some (.int .u32 (jO x : Int)) ∧ wr.cell? ⟨b, 2, none⟩ = some (.int .u16 (jS x : Int)) ∧ wr.cell? ⟨b, 3, none⟩ = some (.int .i64 (jG x)) := by
  refine ⟨?_, ?_, ?_, ?_⟩ <;> (rw [cell_of_row wr b _ _ _ _ h.ba]; rfl)
end
theorem rIxZ_sign (r : List Nat) (k : Nat) : decide (0 ≤ rIxZ r k) = rHas r k := by
  unfold rIxZ
  cases hh : rHas r k
  · rw [if_neg (by simp)]
    rfl
  · rw [if_pos rfl]
    exact decide_eq_true (by omega)
end Go.Proofs.Ytjbnbbblafmldaa
