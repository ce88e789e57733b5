/-
  No cell of these rows narrows 'for every input' (looked for: loops, veiled, ifaces, maps, wideKeys, modest, calm, conditions, laid).
  DERIVED. THE GIVEN ROWS OF THIS SEAT. 3 by the template 'for every input the law returns true; each argument reads behind the call as it read before'; 0 by the template 'total and deterministic' (their statements: YtjjdkkncdnipcaaTotals.lean).
  GIVEN WITH THE SEED: the statements are not yours to turn. If you find one false, say at which input.
  Laid BY PROGRAM, IN A SANDBOX (cutbox-rows.mjs): the forced cells as the released guide's own fill.sh prints them over the translation 4bde3f823b40fcf0… (all of the seat's roots in one cut). By AI agents, Wed Nov 11 2026. No macro, syntax, notation, axiom, sorry.
-/
import Derived.Test.YtjjdkkncdnipcaaChecked
import GoSem.Claim
import GoSem.ClaimJoined
import GoSem.ClaimMapViews
import Derived.JoinedTies
import Derived.KernelRfl
namespace Go.Proofs.Ytjjdkkncdnipcaa
/- THE CELL 'sum', in the pinned program and in every row, IS THE sha256 OF THE DUMP (.gsa) THAT YtjjdkkncdnipcaaProg.lean LOADS. Nothing in Lean hashes anything: it is a label: what it is worth is what the hold of that sum in a sandbox is worth. -/
noncomputable def Try.pinned : Pinned := { name := "ytjjdkkncdnipcaa", sum := "4bde3f823b40fcf06376696ae75df0dc164c02ca2b35ca05b348744421df2767", checked := Try.checked }
namespace Rows
def none {H : Type} : Left H := { results := [], args := [] }

/-- 'coldframelaw18.PursePlays': WHATEVER THE INPUT: true; the input reads as it did. -/
def pursePlaysSpec : ChangeSpec := { name := "pursePlays", fn := fun _ => fun
  | [d1, d2, d3, d4] => { results := [.lit (.bool true)], args := [d1, d2, d3, d4] }
  | _ => none }
def pursePlaysRow : OpenClaim := { program := "ytjjdkkncdnipcaa", sum := "4bde3f823b40fcf06376696ae75df0dc164c02ca2b35ca05b348744421df2767", func := "coldframe/coldframelaw18.PursePlays", spec := "pursePlays", inPlace := ["math/bits.Add64"], apart := false }
def PursePlaysSaid : Prop := pursePlaysRow.holds Try.pinned (OpenSpec.ofChange pursePlaysSpec)

/-- ITS FALSE NEIGHBOUR: 'it returns false'. Refute it at one input. -/
def pursePlaysWrong : ChangeSpec := { name := "pursePlays", fn := fun _ => fun
  | [d1, d2, d3, d4] => { results := [.lit (.bool false)], args := [d1, d2, d3, d4] }
  | _ => none }
def PursePlaysWrongFalsely : Prop := pursePlaysRow.holds Try.pinned (OpenSpec.ofChange pursePlaysWrong)

/-- 'coldframelaw18.PurseWaits': WHATEVER THE INPUT: true; the input reads as it did. -/
def purseWaitsSpec : ChangeSpec := { name := "purseWaits", fn := fun _ => fun
  | [d1, d2, d3, d4] => { results := [.lit (.bool true)], args := [d1, d2, d3, d4] }
  | _ => none }
def purseWaitsRow : OpenClaim := { program := "ytjjdkkncdnipcaa", sum := "4bde3f823b40fcf06376696ae75df0dc164c02ca2b35ca05b348744421df2767", func := "coldframe/coldframelaw18.PurseWaits", spec := "purseWaits", inPlace := ["math/bits.Add64"], apart := false }
def PurseWaitsSaid : Prop := purseWaitsRow.holds Try.pinned (OpenSpec.ofChange purseWaitsSpec)

/-- ITS FALSE NEIGHBOUR: 'it returns false'. Refute it at one input. -/
def purseWaitsWrong : ChangeSpec := { name := "purseWaits", fn := fun _ => fun
  | [d1, d2, d3, d4] => { results := [.lit (.bool false)], args := [d1, d2, d3, d4] }
  | _ => none }
def PurseWaitsWrongFalsely : Prop := purseWaitsRow.holds Try.pinned (OpenSpec.ofChange purseWaitsWrong)

/-- 'coldframelaw18.PurseBounds': WHATEVER THE INPUT: true; the input reads as it did. -/
def purseBoundsSpec : ChangeSpec := { name := "purseBounds", fn := fun _ => fun
  | [d1, d2, d3] => { results := [.lit (.bool true)], args := [d1, d2, d3] }
  | _ => none }
def purseBoundsRow : OpenClaim := { program := "ytjjdkkncdnipcaa", sum := "4bde3f823b40fcf06376696ae75df0dc164c02ca2b35ca05b348744421df2767", func := "coldframe/coldframelaw18.PurseBounds", spec := "purseBounds", inPlace := ["math/bits.Add64"], apart := false }
def PurseBoundsSaid : Prop := purseBoundsRow.holds Try.pinned (OpenSpec.ofChange purseBoundsSpec)

/-- ITS FALSE NEIGHBOUR: 'it returns false'. Refute it at one input. -/
def purseBoundsWrong : ChangeSpec := { name := "purseBounds", fn := fun _ => fun
  | [d1, d2, d3] => { results := [.lit (.bool false)], args := [d1, d2, d3] }
  | _ => none }
def PurseBoundsWrongFalsely : Prop := purseBoundsRow.holds Try.pinned (OpenSpec.ofChange purseBoundsWrong)

/- THE SECOND FORM. 'bulk': how many values and letters a reading holds, each counted each time it is reached (what is shared counts as often as it is met; a slice's spare places count too). A statement '..UptoSaid' is the law's where the arguments, and the package variables that the reading takes, are together of bulk at most 1048576: NARROWER than '..Said'. Prove '..Said' where nothing that the law and all that it calls make is longer than what came in: it says more and counts as full. Else prove '..UptoSaid'. A law counts once. -/
mutual
def uptoBulk {H : Type} : DataW H → Nat
  | .lit (.string bytes) => bytes.length + 1
  | .lit _ => 1
  | .nil => 1
  | .ptr d => uptoBulk d + 1
  | .slice elems spare => uptoBulkAll elems + uptoBulkAll spare + 1
  | .agg parts => uptoBulkAll parts + 1
  | .iface _ d => uptoBulk d + 1
  | .map entries => uptoBulkEntries entries + 1
  | .held _ => 1
def uptoBulkAll {H : Type} : List (DataW H) → Nat
  | [] => 0
  | d :: r => uptoBulk d + uptoBulkAll r
def uptoBulkEntries {H : Type} : List (Lit × DataW H) → Nat
  | [] => 0
  | x :: r => uptoBulkEntry x + uptoBulkEntries r
def uptoBulkEntry {H : Type} : Lit × DataW H → Nat
  | (.string bytes, d) => bytes.length + uptoBulk d + 1
  | (_, d) => uptoBulk d + 1
 end
def uptoSmall : (H : Type) → List (DataW H) → Bool := fun _ ds => decide (uptoBulkAll ds ≤ 1048576)
def OpenSpec.upto (s : _root_.Go.ChangeSpec) : _root_.Go.OpenSpec := { _root_.Go.OpenSpec.ofChange s with cond := some uptoSmall }

/-- 'coldframelaw18.PursePlays', WHERE WHAT IT READS IS OF BULK AT MOST 1048576: true; the input reads as it did. -/
def pursePlaysUptoRow : OpenClaim := { program := "ytjjdkkncdnipcaa", sum := "4bde3f823b40fcf06376696ae75df0dc164c02ca2b35ca05b348744421df2767", func := "coldframe/coldframelaw18.PursePlays", spec := "pursePlays", inPlace := ["math/bits.Add64"], apart := false, narrowed := true }
def PursePlaysUptoSaid : Prop := pursePlaysUptoRow.holds Try.pinned (OpenSpec.upto pursePlaysSpec)

/-- 'coldframelaw18.PurseWaits', WHERE WHAT IT READS IS OF BULK AT MOST 1048576: true; the input reads as it did. -/
def purseWaitsUptoRow : OpenClaim := { program := "ytjjdkkncdnipcaa", sum := "4bde3f823b40fcf06376696ae75df0dc164c02ca2b35ca05b348744421df2767", func := "coldframe/coldframelaw18.PurseWaits", spec := "purseWaits", inPlace := ["math/bits.Add64"], apart := false, narrowed := true }
def PurseWaitsUptoSaid : Prop := purseWaitsUptoRow.holds Try.pinned (OpenSpec.upto purseWaitsSpec)

/-- 'coldframelaw18.PurseBounds', WHERE WHAT IT READS IS OF BULK AT MOST 1048576: true; the input reads as it did. -/
def purseBoundsUptoRow : OpenClaim := { program := "ytjjdkkncdnipcaa", sum := "4bde3f823b40fcf06376696ae75df0dc164c02ca2b35ca05b348744421df2767", func := "coldframe/coldframelaw18.PurseBounds", spec := "purseBounds", inPlace := ["math/bits.Add64"], apart := false, narrowed := true }
def PurseBoundsUptoSaid : Prop := purseBoundsUptoRow.holds Try.pinned (OpenSpec.upto purseBoundsSpec)

end Rows
end Go.Proofs.Ytjjdkkncdnipcaa
