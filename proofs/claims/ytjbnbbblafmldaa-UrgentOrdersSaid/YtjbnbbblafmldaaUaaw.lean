/- The document's Index and Drop of jobs, each as a contract; rows of jobs that are read. No condition. -/
import Derived.Test.YtjbnbbblafmldaaUaav
namespace Go.Proofs.Ytjbnbbblafmldaa
open Go.RowKit
set_option linter.unusedVariables false
set_option linter.unusedSimpArgs false
set_option maxRecDepth 20000

/-- The slice at A, n long, reads as the document's jobs r. -/
structure RdJ (w : World) (A : Option Addr) (n : Nat) (r : List Nat) : Prop where
  len : n = r.length
  at_ : ∀ j x, r[j]? = some x → ∃ B off, A = some ⟨B, off, none⟩ ∧ w.cell? ⟨B, off + j * 3, none⟩ = some (.int .u32 (jO x : Int)) ∧ w.cell? ⟨B, off + j * 3 + 1, none⟩ = some (.int .u16 (jS x : Int)) ∧ w.cell? ⟨B, off + j * 3 + 2, none⟩ = some (.int .i64 (jG x))
section
variable {w w1 : World} {S : Nat → Prop} {A : Option Addr} {n c base k i x : Nat} {r : List Nat} {t : TypeId}
theorem RdJ.keep (h : RdJ w A n r) (hk : Kp S w w1) (hS : ∀ B off, A = some ⟨B, off, none⟩ → ¬ S B) : RdJ w1 A n r :=
  ⟨h.len, fun j x hx => by
    obtain ⟨B, off, e, h0, h1, h2⟩ := h.at_ j x hx
    exact ⟨B, off, e, hk.cell h0 (hS B off e), hk.cell h1 (hS B off e), hk.cell h2 (hS B off e)⟩⟩
theorem RdJ.no (h : RdJ w A n r) (hk : Kp No w w1) : RdJ w1 A n r := h.keep hk fun _ _ _ f => f
end
end Go.Proofs.Ytjbnbbblafmldaa
