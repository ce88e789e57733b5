/-
  No cell of these rows narrows 'for every input' (looked for: loops, veiled, ifaces, maps, wideKeys, modest, calm, conditions, laid).
  DERIVED. THE GIVEN ROWS OF THIS SEAT. 3 by the template 'for every input the law returns true; each argument reads behind the call as it read before'; 0 by the template 'total and deterministic' (their statements: YthbnomemknnmeaaTotals.lean).
  GIVEN WITH THE SEED: the statements are not yours to turn. If you find one false, say at which input.
  Laid BY PROGRAM, IN A SANDBOX (cutbox-rows.mjs): the forced cells as the released guide's own fill.sh prints them over the translation b6df00719b57ff8b… (all of the seat's roots in one cut). By AI agents, Wed Nov 11 2026. No macro, syntax, notation, axiom, sorry.
-/
import Derived.Test.YthbnomemknnmeaaChecked
import GoSem.Claim
import GoSem.ClaimJoined
import GoSem.ClaimMapViews
import Derived.JoinedTies
import Derived.KernelRfl
namespace Go.Proofs.Ythbnomemknnmeaa
/- THE CELL 'sum', in the pinned program and in every row, IS THE sha256 OF THE DUMP (.gsa) THAT YthbnomemknnmeaaProg.lean LOADS. Nothing in Lean hashes anything: it is a label: what it is worth is what the hold of that sum in a sandbox is worth. -/
noncomputable def Try.pinned : Pinned := { name := "ythbnomemknnmeaa", sum := "b6df00719b57ff8b77d036830a05574f66dca8302921df5eb069de05c122bde5", checked := Try.checked }
namespace Rows
def none {H : Type} : Left H := { results := [], args := [] }

/-- 'coldframelaw09.SitePoints': WHATEVER THE INPUT: true; the input reads as it did. -/
def sitePointsSpec : ChangeSpec := { name := "sitePoints", fn := fun _ => fun
  | [d1, d2, d3] => { results := [.lit (.bool true)], args := [d1, d2, d3] }
  | _ => none }
def sitePointsRow : OpenClaim := { program := "ythbnomemknnmeaa", sum := "b6df00719b57ff8b77d036830a05574f66dca8302921df5eb069de05c122bde5", func := "coldframe/coldframelaw09.SitePoints", spec := "sitePoints", apart := false }
def SitePointsSaid : Prop := sitePointsRow.holds Try.pinned (OpenSpec.ofChange sitePointsSpec)

/-- ITS FALSE NEIGHBOUR: 'it returns false'. Refute it at one input. -/
def sitePointsWrong : ChangeSpec := { name := "sitePoints", fn := fun _ => fun
  | [d1, d2, d3] => { results := [.lit (.bool false)], args := [d1, d2, d3] }
  | _ => none }
def SitePointsWrongFalsely : Prop := sitePointsRow.holds Try.pinned (OpenSpec.ofChange sitePointsWrong)

/-- 'coldframelaw09.SiteNears': WHATEVER THE INPUT: true; the input reads as it did. -/
def siteNearsSpec : ChangeSpec := { name := "siteNears", fn := fun _ => fun
  | [d1, d2] => { results := [.lit (.bool true)], args := [d1, d2] }
  | _ => none }
def siteNearsRow : OpenClaim := { program := "ythbnomemknnmeaa", sum := "b6df00719b57ff8b77d036830a05574f66dca8302921df5eb069de05c122bde5", func := "coldframe/coldframelaw09.SiteNears", spec := "siteNears", unfollowed := true, recurses := true, apart := false }
def SiteNearsSaid : Prop := siteNearsRow.holds Try.pinned (OpenSpec.ofChange siteNearsSpec)

/-- ITS FALSE NEIGHBOUR: 'it returns false'. Refute it at one input. -/
def siteNearsWrong : ChangeSpec := { name := "siteNears", fn := fun _ => fun
  | [d1, d2] => { results := [.lit (.bool false)], args := [d1, d2] }
  | _ => none }
def SiteNearsWrongFalsely : Prop := siteNearsRow.holds Try.pinned (OpenSpec.ofChange siteNearsWrong)

/-- 'coldframelaw09.SiteTurns': WHATEVER THE INPUT: true; the input reads as it did. -/
def siteTurnsSpec : ChangeSpec := { name := "siteTurns", fn := fun _ => fun
  | [d1, d2, d3] => { results := [.lit (.bool true)], args := [d1, d2, d3] }
  | _ => none }
def siteTurnsRow : OpenClaim := { program := "ythbnomemknnmeaa", sum := "b6df00719b57ff8b77d036830a05574f66dca8302921df5eb069de05c122bde5", func := "coldframe/coldframelaw09.SiteTurns", spec := "siteTurns", apart := false }
def SiteTurnsSaid : Prop := siteTurnsRow.holds Try.pinned (OpenSpec.ofChange siteTurnsSpec)

/-- ITS FALSE NEIGHBOUR: 'it returns false'. Refute it at one input. -/
def siteTurnsWrong : ChangeSpec := { name := "siteTurns", fn := fun _ => fun
  | [d1, d2, d3] => { results := [.lit (.bool false)], args := [d1, d2, d3] }
  | _ => none }
def SiteTurnsWrongFalsely : Prop := siteTurnsRow.holds Try.pinned (OpenSpec.ofChange siteTurnsWrong)

/- THE SECOND FORM. 'bulk': how many values and letters a reading holds, each counted each time it is reached (what is shared counts as often as it is met; a slice's spare places count too). A statement '..UptoSaid' is the law's where the arguments, and the package variables that the reading takes, are together of bulk at most 1048576: NARROWER than '..Said'. Prove '..Said' where nothing that the law and all that it calls make is longer than what came in: it says more and counts as full. Else prove '..UptoSaid'. A law counts once. -/
mutual
def uptoBulk {H : Type} : DataW H → Nat
  | .lit (.string bytes) => bytes.length + 1
  | .lit _ => 1
  | .nil => 1
  | .ptr d => uptoBulk d + 1
  | .slice elems spare => uptoBulkAll elems + uptoBulkAll spare + 1
  | .agg parts => uptoBulkAll parts + 1
  | .iface _ d => uptoBulk d + 1
  | .map entries => uptoBulkEntries entries + 1
  | .held _ => 1
def uptoBulkAll {H : Type} : List (DataW H) → Nat
  | [] => 0
  | d :: r => uptoBulk d + uptoBulkAll r
def uptoBulkEntries {H : Type} : List (Lit × DataW H) → Nat
  | [] => 0
  | x :: r => uptoBulkEntry x + uptoBulkEntries r
def uptoBulkEntry {H : Type} : Lit × DataW H → Nat
  | (.string bytes, d) => bytes.length + uptoBulk d + 1
  | (_, d) => uptoBulk d + 1
 end
def uptoSmall : (H : Type) → List (DataW H) → Bool := fun _ ds => decide (uptoBulkAll ds ≤ 1048576)
def OpenSpec.upto (s : _root_.Go.ChangeSpec) : _root_.Go.OpenSpec := { _root_.Go.OpenSpec.ofChange s with cond := some uptoSmall }

/-- 'coldframelaw09.SitePoints', WHERE WHAT IT READS IS OF BULK AT MOST 1048576: true; the input reads as it did. -/
def sitePointsUptoRow : OpenClaim := { program := "ythbnomemknnmeaa", sum := "b6df00719b57ff8b77d036830a05574f66dca8302921df5eb069de05c122bde5", func := "coldframe/coldframelaw09.SitePoints", spec := "sitePoints", apart := false, narrowed := true }
def SitePointsUptoSaid : Prop := sitePointsUptoRow.holds Try.pinned (OpenSpec.upto sitePointsSpec)

/-- 'coldframelaw09.SiteNears', WHERE WHAT IT READS IS OF BULK AT MOST 1048576: true; the input reads as it did. -/
def siteNearsUptoRow : OpenClaim := { program := "ythbnomemknnmeaa", sum := "b6df00719b57ff8b77d036830a05574f66dca8302921df5eb069de05c122bde5", func := "coldframe/coldframelaw09.SiteNears", spec := "siteNears", unfollowed := true, recurses := true, apart := false, narrowed := true }
def SiteNearsUptoSaid : Prop := siteNearsUptoRow.holds Try.pinned (OpenSpec.upto siteNearsSpec)

/-- 'coldframelaw09.SiteTurns', WHERE WHAT IT READS IS OF BULK AT MOST 1048576: true; the input reads as it did. -/
def siteTurnsUptoRow : OpenClaim := { program := "ythbnomemknnmeaa", sum := "b6df00719b57ff8b77d036830a05574f66dca8302921df5eb069de05c122bde5", func := "coldframe/coldframelaw09.SiteTurns", spec := "siteTurns", apart := false, narrowed := true }
def SiteTurnsUptoSaid : Prop := siteTurnsUptoRow.holds Try.pinned (OpenSpec.upto siteTurnsSpec)

end Rows
end Go.Proofs.Ythbnomemknnmeaa
