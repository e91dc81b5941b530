/-
  No cell of these rows narrows 'for every input' (looked for: loops, veiled, ifaces, maps, wideKeys, modest, calm, conditions, laid).
  DERIVED. THE GIVEN ROWS OF THIS SEAT. 4 by the template 'for every input the law returns true; each argument reads behind the call as it read before'; 0 by the template 'total and deterministic' (their statements: YtkclmgibeaojcaaTotals.lean).
  GIVEN WITH THE SEED: the statements are not yours to turn. If you find one false, say at which input.
  Laid BY PROGRAM, IN A SANDBOX (cutbox-rows.mjs): the forced cells as the released guide's own fill.sh prints them over the translation f6e4b1ed4d9e6335… (all of the seat's roots in one cut). By AI agents, Wed Nov 11 2026. No macro, syntax, notation, axiom, sorry.
-/
import Derived.Test.YtkclmgibeaojcaaChecked
import GoSem.Claim
import GoSem.ClaimJoined
import GoSem.ClaimMapViews
import Derived.JoinedTies
import Derived.KernelRfl
namespace Go.Proofs.Ytkclmgibeaojcaa
/- THE CELL 'sum', in the pinned program and in every row, IS THE sha256 OF THE DUMP (.gsa) THAT YtkclmgibeaojcaaProg.lean LOADS. Nothing in Lean hashes anything: it is a label: what it is worth is what the hold of that sum in a sandbox is worth. -/
noncomputable def Try.pinned : Pinned := { name := "ytkclmgibeaojcaa", sum := "f6e4b1ed4d9e6335fb22df8cd1444e0b1ca9e666f51df247f80095daf4a215b6", checked := Try.checked }
namespace Rows
def none {H : Type} : Left H := { results := [], args := [] }

/-- 'tenancylaw02.FletchSums': WHATEVER THE INPUT: true; the input reads as it did. -/
def fletchSumsSpec : ChangeSpec := { name := "fletchSums", fn := fun _ => fun
  | [d1, d2] => { results := [.lit (.bool true)], args := [d1, d2] }
  | _ => none }
def fletchSumsRow : OpenClaim := { program := "ytkclmgibeaojcaa", sum := "f6e4b1ed4d9e6335fb22df8cd1444e0b1ca9e666f51df247f80095daf4a215b6", func := "tenancy/tenancylaw02.FletchSums", spec := "fletchSums", apart := false }
def FletchSumsSaid : Prop := fletchSumsRow.holds Try.pinned (OpenSpec.ofChange fletchSumsSpec)

/-- ITS FALSE NEIGHBOUR: 'it returns false'. Refute it at one input. -/
def fletchSumsWrong : ChangeSpec := { name := "fletchSums", fn := fun _ => fun
  | [d1, d2] => { results := [.lit (.bool false)], args := [d1, d2] }
  | _ => none }
def FletchSumsWrongFalsely : Prop := fletchSumsRow.holds Try.pinned (OpenSpec.ofChange fletchSumsWrong)

/-- 'tenancylaw02.FletchPieces': WHATEVER THE INPUT: true; the input reads as it did. -/
def fletchPiecesSpec : ChangeSpec := { name := "fletchPieces", fn := fun _ => fun
  | [d1, d2, d3] => { results := [.lit (.bool true)], args := [d1, d2, d3] }
  | _ => none }
def fletchPiecesRow : OpenClaim := { program := "ytkclmgibeaojcaa", sum := "f6e4b1ed4d9e6335fb22df8cd1444e0b1ca9e666f51df247f80095daf4a215b6", func := "tenancy/tenancylaw02.FletchPieces", spec := "fletchPieces", apart := false }
def FletchPiecesSaid : Prop := fletchPiecesRow.holds Try.pinned (OpenSpec.ofChange fletchPiecesSpec)

/-- ITS FALSE NEIGHBOUR: 'it returns false'. Refute it at one input. -/
def fletchPiecesWrong : ChangeSpec := { name := "fletchPieces", fn := fun _ => fun
  | [d1, d2, d3] => { results := [.lit (.bool false)], args := [d1, d2, d3] }
  | _ => none }
def FletchPiecesWrongFalsely : Prop := fletchPiecesRow.holds Try.pinned (OpenSpec.ofChange fletchPiecesWrong)

/-- 'tenancylaw02.FletchTurns': WHATEVER THE INPUT: true; the input reads as it did. -/
def fletchTurnsSpec : ChangeSpec := { name := "fletchTurns", fn := fun _ => fun
  | [d1, d2, d3] => { results := [.lit (.bool true)], args := [d1, d2, d3] }
  | _ => none }
def fletchTurnsRow : OpenClaim := { program := "ytkclmgibeaojcaa", sum := "f6e4b1ed4d9e6335fb22df8cd1444e0b1ca9e666f51df247f80095daf4a215b6", func := "tenancy/tenancylaw02.FletchTurns", spec := "fletchTurns", apart := false }
def FletchTurnsSaid : Prop := fletchTurnsRow.holds Try.pinned (OpenSpec.ofChange fletchTurnsSpec)

/-- ITS FALSE NEIGHBOUR: 'it returns false'. Refute it at one input. -/
def fletchTurnsWrong : ChangeSpec := { name := "fletchTurns", fn := fun _ => fun
  | [d1, d2, d3] => { results := [.lit (.bool false)], args := [d1, d2, d3] }
  | _ => none }
def FletchTurnsWrongFalsely : Prop := fletchTurnsRow.holds Try.pinned (OpenSpec.ofChange fletchTurnsWrong)

/-- 'tenancylaw02.FletchSwaps': WHATEVER THE INPUT: true; the input reads as it did. -/
def fletchSwapsSpec : ChangeSpec := { name := "fletchSwaps", fn := fun _ => fun
  | [d1, d2] => { results := [.lit (.bool true)], args := [d1, d2] }
  | _ => none }
def fletchSwapsRow : OpenClaim := { program := "ytkclmgibeaojcaa", sum := "f6e4b1ed4d9e6335fb22df8cd1444e0b1ca9e666f51df247f80095daf4a215b6", func := "tenancy/tenancylaw02.FletchSwaps", spec := "fletchSwaps", apart := false }
def FletchSwapsSaid : Prop := fletchSwapsRow.holds Try.pinned (OpenSpec.ofChange fletchSwapsSpec)

/-- ITS FALSE NEIGHBOUR: 'it returns false'. Refute it at one input. -/
def fletchSwapsWrong : ChangeSpec := { name := "fletchSwaps", fn := fun _ => fun
  | [d1, d2] => { results := [.lit (.bool false)], args := [d1, d2] }
  | _ => none }
def FletchSwapsWrongFalsely : Prop := fletchSwapsRow.holds Try.pinned (OpenSpec.ofChange fletchSwapsWrong)

/- THE SECOND FORM. 'bulk': how many values and letters a reading holds, each counted each time it is reached (what is shared counts as often as it is met; a slice's spare places count too). A statement '..UptoSaid' is the law's where the arguments, and the package variables that the reading takes, are together of bulk at most 1048576: NARROWER than '..Said'. Prove '..Said' where nothing that the law and all that it calls make is longer than what came in: it says more and counts as full. Else prove '..UptoSaid'. A law counts once. -/
mutual
def uptoBulk {H : Type} : DataW H → Nat
  | .lit (.string bytes) => bytes.length + 1
  | .lit _ => 1
  | .nil => 1
  | .ptr d => uptoBulk d + 1
  | .slice elems spare => uptoBulkAll elems + uptoBulkAll spare + 1
  | .agg parts => uptoBulkAll parts + 1
  | .iface _ d => uptoBulk d + 1
  | .map entries => uptoBulkEntries entries + 1
  | .held _ => 1
def uptoBulkAll {H : Type} : List (DataW H) → Nat
  | [] => 0
  | d :: r => uptoBulk d + uptoBulkAll r
def uptoBulkEntries {H : Type} : List (Lit × DataW H) → Nat
  | [] => 0
  | x :: r => uptoBulkEntry x + uptoBulkEntries r
def uptoBulkEntry {H : Type} : Lit × DataW H → Nat
  | (.string bytes, d) => bytes.length + uptoBulk d + 1
  | (_, d) => uptoBulk d + 1
 end
def uptoSmall : (H : Type) → List (DataW H) → Bool := fun _ ds => decide (uptoBulkAll ds ≤ 1048576)
def OpenSpec.upto (s : _root_.Go.ChangeSpec) : _root_.Go.OpenSpec := { _root_.Go.OpenSpec.ofChange s with cond := some uptoSmall }

/-- 'tenancylaw02.FletchSums', WHERE WHAT IT READS IS OF BULK AT MOST 1048576: true; the input reads as it did. -/
def fletchSumsUptoRow : OpenClaim := { program := "ytkclmgibeaojcaa", sum := "f6e4b1ed4d9e6335fb22df8cd1444e0b1ca9e666f51df247f80095daf4a215b6", func := "tenancy/tenancylaw02.FletchSums", spec := "fletchSums", apart := false, narrowed := true }
def FletchSumsUptoSaid : Prop := fletchSumsUptoRow.holds Try.pinned (OpenSpec.upto fletchSumsSpec)

/-- 'tenancylaw02.FletchPieces', WHERE WHAT IT READS IS OF BULK AT MOST 1048576: true; the input reads as it did. -/
def fletchPiecesUptoRow : OpenClaim := { program := "ytkclmgibeaojcaa", sum := "f6e4b1ed4d9e6335fb22df8cd1444e0b1ca9e666f51df247f80095daf4a215b6", func := "tenancy/tenancylaw02.FletchPieces", spec := "fletchPieces", apart := false, narrowed := true }
def FletchPiecesUptoSaid : Prop := fletchPiecesUptoRow.holds Try.pinned (OpenSpec.upto fletchPiecesSpec)

/-- 'tenancylaw02.FletchTurns', WHERE WHAT IT READS IS OF BULK AT MOST 1048576: true; the input reads as it did. -/
def fletchTurnsUptoRow : OpenClaim := { program := "ytkclmgibeaojcaa", sum := "f6e4b1ed4d9e6335fb22df8cd1444e0b1ca9e666f51df247f80095daf4a215b6", func := "tenancy/tenancylaw02.FletchTurns", spec := "fletchTurns", apart := false, narrowed := true }
def FletchTurnsUptoSaid : Prop := fletchTurnsUptoRow.holds Try.pinned (OpenSpec.upto fletchTurnsSpec)

/-- 'tenancylaw02.FletchSwaps', WHERE WHAT IT READS IS OF BULK AT MOST 1048576: true; the input reads as it did. -/
def fletchSwapsUptoRow : OpenClaim := { program := "ytkclmgibeaojcaa", sum := "f6e4b1ed4d9e6335fb22df8cd1444e0b1ca9e666f51df247f80095daf4a215b6", func := "tenancy/tenancylaw02.FletchSwaps", spec := "fletchSwaps", apart := false, narrowed := true }
def FletchSwapsUptoSaid : Prop := fletchSwapsUptoRow.holds Try.pinned (OpenSpec.upto fletchSwapsSpec)

end Rows
end Go.Proofs.Ytkclmgibeaojcaa
