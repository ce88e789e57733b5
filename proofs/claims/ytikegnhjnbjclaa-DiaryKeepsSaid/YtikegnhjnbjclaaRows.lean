/-
  No cell of these rows narrows 'for every input' (looked for: loops, veiled, ifaces, maps, wideKeys, modest, calm, conditions, laid).
  DERIVED. THE GIVEN ROWS OF THIS SEAT. 3 by the template 'for every input the law returns true; each argument reads behind the call as it read before'; 0 by the template 'total and deterministic' (their statements: YtikegnhjnbjclaaTotals.lean).
  GIVEN WITH THE SEED: the statements are not yours to turn. If you find one false, say at which input.
  Laid BY PROGRAM, IN A SANDBOX (cutbox-rows.mjs): the forced cells as the released guide's own fill.sh prints them over the translation 20c55e9c22d26949… (all of the seat's roots in one cut). By AI agents, Wed Nov 11 2026. No macro, syntax, notation, axiom, sorry.
-/
import Derived.Test.YtikegnhjnbjclaaChecked
import GoSem.Claim
import GoSem.ClaimJoined
import GoSem.ClaimMapViews
import Derived.JoinedTies
import Derived.KernelRfl
namespace Go.Proofs.Ytikegnhjnbjclaa
/- THE CELL 'sum', in the pinned program and in every row, IS THE sha256 OF THE DUMP (.gsa) THAT YtikegnhjnbjclaaProg.lean LOADS. Nothing in Lean hashes anything: it is a label: what it is worth is what the hold of that sum in a sandbox is worth. -/
noncomputable def Try.pinned : Pinned := { name := "ytikegnhjnbjclaa", sum := "20c55e9c22d26949b47b0667714ef6ba018c76c41cd0387f354b8aa6d82c68e4", checked := Try.checked }
namespace Rows
def none {H : Type} : Left H := { results := [], args := [] }

/-- 'coldframelaw14.DiaryRecords': WHATEVER THE INPUT: true; the input reads as it did. -/
def diaryRecordsSpec : ChangeSpec := { name := "diaryRecords", fn := fun _ => fun
  | [d1, d2, d3] => { results := [.lit (.bool true)], args := [d1, d2, d3] }
  | _ => none }
def diaryRecordsRow : OpenClaim := { program := "ytikegnhjnbjclaa", sum := "20c55e9c22d26949b47b0667714ef6ba018c76c41cd0387f354b8aa6d82c68e4", func := "coldframe/coldframelaw14.DiaryRecords", spec := "diaryRecords", apart := false }
def DiaryRecordsSaid : Prop := diaryRecordsRow.holds Try.pinned (OpenSpec.ofChange diaryRecordsSpec)

/-- ITS FALSE NEIGHBOUR: 'it returns false'. Refute it at one input. -/
def diaryRecordsWrong : ChangeSpec := { name := "diaryRecords", fn := fun _ => fun
  | [d1, d2, d3] => { results := [.lit (.bool false)], args := [d1, d2, d3] }
  | _ => none }
def DiaryRecordsWrongFalsely : Prop := diaryRecordsRow.holds Try.pinned (OpenSpec.ofChange diaryRecordsWrong)

/-- 'coldframelaw14.DiaryPlays': WHATEVER THE INPUT: true; the input reads as it did. -/
def diaryPlaysSpec : ChangeSpec := { name := "diaryPlays", fn := fun _ => fun
  | [d1, d2] => { results := [.lit (.bool true)], args := [d1, d2] }
  | _ => none }
def diaryPlaysRow : OpenClaim := { program := "ytikegnhjnbjclaa", sum := "20c55e9c22d26949b47b0667714ef6ba018c76c41cd0387f354b8aa6d82c68e4", func := "coldframe/coldframelaw14.DiaryPlays", spec := "diaryPlays", apart := false }
def DiaryPlaysSaid : Prop := diaryPlaysRow.holds Try.pinned (OpenSpec.ofChange diaryPlaysSpec)

/-- ITS FALSE NEIGHBOUR: 'it returns false'. Refute it at one input. -/
def diaryPlaysWrong : ChangeSpec := { name := "diaryPlays", fn := fun _ => fun
  | [d1, d2] => { results := [.lit (.bool false)], args := [d1, d2] }
  | _ => none }
def DiaryPlaysWrongFalsely : Prop := diaryPlaysRow.holds Try.pinned (OpenSpec.ofChange diaryPlaysWrong)

/-- 'coldframelaw14.DiaryKeeps': WHATEVER THE INPUT: true; the input reads as it did. -/
def diaryKeepsSpec : ChangeSpec := { name := "diaryKeeps", fn := fun _ => fun
  | [d1, d2, d3, d4] => { results := [.lit (.bool true)], args := [d1, d2, d3, d4] }
  | _ => none }
def diaryKeepsRow : OpenClaim := { program := "ytikegnhjnbjclaa", sum := "20c55e9c22d26949b47b0667714ef6ba018c76c41cd0387f354b8aa6d82c68e4", func := "coldframe/coldframelaw14.DiaryKeeps", spec := "diaryKeeps", apart := false }
def DiaryKeepsSaid : Prop := diaryKeepsRow.holds Try.pinned (OpenSpec.ofChange diaryKeepsSpec)

/-- ITS FALSE NEIGHBOUR: 'it returns false'. Refute it at one input. -/
def diaryKeepsWrong : ChangeSpec := { name := "diaryKeeps", fn := fun _ => fun
  | [d1, d2, d3, d4] => { results := [.lit (.bool false)], args := [d1, d2, d3, d4] }
  | _ => none }
def DiaryKeepsWrongFalsely : Prop := diaryKeepsRow.holds Try.pinned (OpenSpec.ofChange diaryKeepsWrong)

/- THE SECOND FORM. 'bulk': how many values and letters a reading holds, each counted each time it is reached (what is shared counts as often as it is met; a slice's spare places count too). A statement '..UptoSaid' is the law's where the arguments, and the package variables that the reading takes, are together of bulk at most 1048576: NARROWER than '..Said'. Prove '..Said' where nothing that the law and all that it calls make is longer than what came in: it says more and counts as full. Else prove '..UptoSaid'. A law counts once. -/
mutual
def uptoBulk {H : Type} : DataW H → Nat
  | .lit (.string bytes) => bytes.length + 1
  | .lit _ => 1
  | .nil => 1
  | .ptr d => uptoBulk d + 1
  | .slice elems spare => uptoBulkAll elems + uptoBulkAll spare + 1
  | .agg parts => uptoBulkAll parts + 1
  | .iface _ d => uptoBulk d + 1
  | .map entries => uptoBulkEntries entries + 1
  | .held _ => 1
def uptoBulkAll {H : Type} : List (DataW H) → Nat
  | [] => 0
  | d :: r => uptoBulk d + uptoBulkAll r
def uptoBulkEntries {H : Type} : List (Lit × DataW H) → Nat
  | [] => 0
  | x :: r => uptoBulkEntry x + uptoBulkEntries r
def uptoBulkEntry {H : Type} : Lit × DataW H → Nat
  | (.string bytes, d) => bytes.length + uptoBulk d + 1
  | (_, d) => uptoBulk d + 1
 end
def uptoSmall : (H : Type) → List (DataW H) → Bool := fun _ ds => decide (uptoBulkAll ds ≤ 1048576)
def OpenSpec.upto (s : _root_.Go.ChangeSpec) : _root_.Go.OpenSpec := { _root_.Go.OpenSpec.ofChange s with cond := some uptoSmall }

/-- 'coldframelaw14.DiaryRecords', WHERE WHAT IT READS IS OF BULK AT MOST 1048576: true; the input reads as it did. -/
def diaryRecordsUptoRow : OpenClaim := { program := "ytikegnhjnbjclaa", sum := "20c55e9c22d26949b47b0667714ef6ba018c76c41cd0387f354b8aa6d82c68e4", func := "coldframe/coldframelaw14.DiaryRecords", spec := "diaryRecords", apart := false, narrowed := true }
def DiaryRecordsUptoSaid : Prop := diaryRecordsUptoRow.holds Try.pinned (OpenSpec.upto diaryRecordsSpec)

/-- 'coldframelaw14.DiaryPlays', WHERE WHAT IT READS IS OF BULK AT MOST 1048576: true; the input reads as it did. -/
def diaryPlaysUptoRow : OpenClaim := { program := "ytikegnhjnbjclaa", sum := "20c55e9c22d26949b47b0667714ef6ba018c76c41cd0387f354b8aa6d82c68e4", func := "coldframe/coldframelaw14.DiaryPlays", spec := "diaryPlays", apart := false, narrowed := true }
def DiaryPlaysUptoSaid : Prop := diaryPlaysUptoRow.holds Try.pinned (OpenSpec.upto diaryPlaysSpec)

/-- 'coldframelaw14.DiaryKeeps', WHERE WHAT IT READS IS OF BULK AT MOST 1048576: true; the input reads as it did. -/
def diaryKeepsUptoRow : OpenClaim := { program := "ytikegnhjnbjclaa", sum := "20c55e9c22d26949b47b0667714ef6ba018c76c41cd0387f354b8aa6d82c68e4", func := "coldframe/coldframelaw14.DiaryKeeps", spec := "diaryKeeps", apart := false, narrowed := true }
def DiaryKeepsUptoSaid : Prop := diaryKeepsUptoRow.holds Try.pinned (OpenSpec.upto diaryKeepsSpec)

end Rows
end Go.Proofs.Ytikegnhjnbjclaa
