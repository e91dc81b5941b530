/-
  No cell of these rows narrows 'for every input' (looked for: loops, veiled, ifaces, maps, wideKeys, modest, calm, conditions, laid).
  DERIVED. THE GIVEN ROWS OF THIS SEAT. 4 by the template 'for every input the law returns true; each argument reads behind the call as it read before'; 0 by the template 'total and deterministic' (their statements: YtgcbnaleajccgaaTotals.lean).
  GIVEN WITH THE SEED: the statements are not yours to turn. If you find one false, say at which input.
  Laid BY PROGRAM, IN A SANDBOX (cutbox-rows.mjs): the forced cells as the released guide's own fill.sh prints them over the translation a5ad9b0e1e623a51… (all of the seat's roots in one cut). By AI agents, Wed Nov 11 2026. No macro, syntax, notation, axiom, sorry.
-/
import Derived.Test.YtgcbnaleajccgaaChecked
import GoSem.Claim
import GoSem.ClaimJoined
import GoSem.ClaimMapViews
import Derived.JoinedTies
import Derived.KernelRfl
namespace Go.Proofs.Ytgcbnaleajccgaa
/- THE CELL 'sum', in the pinned program and in every row, IS THE sha256 OF THE DUMP (.gsa) THAT YtgcbnaleajccgaaProg.lean LOADS. Nothing in Lean hashes anything: it is a label: what it is worth is what the hold of that sum in a sandbox is worth. -/
noncomputable def Try.pinned : Pinned := { name := "ytgcbnaleajccgaa", sum := "a5ad9b0e1e623a511255204adb8a26a2a30d7da8480731ae42966e93c5d4e4ae", checked := Try.checked }
namespace Rows
def none {H : Type} : Left H := { results := [], args := [] }

/-- 'tenancylaw09.DirBlocks': WHATEVER THE INPUT: true; the input reads as it did. -/
def dirBlocksSpec : ChangeSpec := { name := "dirBlocks", fn := fun _ => fun
  | [d] => { results := [.lit (.bool true)], args := [d] }
  | _ => none }
def dirBlocksRow : OpenClaim := { program := "ytgcbnaleajccgaa", sum := "a5ad9b0e1e623a511255204adb8a26a2a30d7da8480731ae42966e93c5d4e4ae", func := "tenancy/tenancylaw09.DirBlocks", spec := "dirBlocks", unfollowed := true, recurses := true, apart := false }
def DirBlocksSaid : Prop := dirBlocksRow.holds Try.pinned (OpenSpec.ofChange dirBlocksSpec)

/-- ITS FALSE NEIGHBOUR: 'it returns false'. Refute it at one input. -/
def dirBlocksWrong : ChangeSpec := { name := "dirBlocks", fn := fun _ => fun
  | [d] => { results := [.lit (.bool false)], args := [d] }
  | _ => none }
def DirBlocksWrongFalsely : Prop := dirBlocksRow.holds Try.pinned (OpenSpec.ofChange dirBlocksWrong)

/-- 'tenancylaw09.DirEntries': WHATEVER THE INPUT: true; the input reads as it did. -/
def dirEntriesSpec : ChangeSpec := { name := "dirEntries", fn := fun _ => fun
  | [d] => { results := [.lit (.bool true)], args := [d] }
  | _ => none }
def dirEntriesRow : OpenClaim := { program := "ytgcbnaleajccgaa", sum := "a5ad9b0e1e623a511255204adb8a26a2a30d7da8480731ae42966e93c5d4e4ae", func := "tenancy/tenancylaw09.DirEntries", spec := "dirEntries", unfollowed := true, recurses := true, apart := false }
def DirEntriesSaid : Prop := dirEntriesRow.holds Try.pinned (OpenSpec.ofChange dirEntriesSpec)

/-- ITS FALSE NEIGHBOUR: 'it returns false'. Refute it at one input. -/
def dirEntriesWrong : ChangeSpec := { name := "dirEntries", fn := fun _ => fun
  | [d] => { results := [.lit (.bool false)], args := [d] }
  | _ => none }
def DirEntriesWrongFalsely : Prop := dirEntriesRow.holds Try.pinned (OpenSpec.ofChange dirEntriesWrong)

/-- 'tenancylaw09.DirBack': WHATEVER THE INPUT: true; the input reads as it did. -/
def dirBackSpec : ChangeSpec := { name := "dirBack", fn := fun _ => fun
  | [d1, d2] => { results := [.lit (.bool true)], args := [d1, d2] }
  | _ => none }
def dirBackRow : OpenClaim := { program := "ytgcbnaleajccgaa", sum := "a5ad9b0e1e623a511255204adb8a26a2a30d7da8480731ae42966e93c5d4e4ae", func := "tenancy/tenancylaw09.DirBack", spec := "dirBack", unfollowed := true, recurses := true, apart := false }
def DirBackSaid : Prop := dirBackRow.holds Try.pinned (OpenSpec.ofChange dirBackSpec)

/-- ITS FALSE NEIGHBOUR: 'it returns false'. Refute it at one input. -/
def dirBackWrong : ChangeSpec := { name := "dirBack", fn := fun _ => fun
  | [d1, d2] => { results := [.lit (.bool false)], args := [d1, d2] }
  | _ => none }
def DirBackWrongFalsely : Prop := dirBackRow.holds Try.pinned (OpenSpec.ofChange dirBackWrong)

/-- 'tenancylaw09.DirTurns': WHATEVER THE INPUT: true; the input reads as it did. -/
def dirTurnsSpec : ChangeSpec := { name := "dirTurns", fn := fun _ => fun
  | [d1, d2, d3] => { results := [.lit (.bool true)], args := [d1, d2, d3] }
  | _ => none }
def dirTurnsRow : OpenClaim := { program := "ytgcbnaleajccgaa", sum := "a5ad9b0e1e623a511255204adb8a26a2a30d7da8480731ae42966e93c5d4e4ae", func := "tenancy/tenancylaw09.DirTurns", spec := "dirTurns", inPlace := ["internal/bytealg.abigen_runtime_cmpstring"], unfollowed := true, recurses := true, apart := false }
def DirTurnsSaid : Prop := dirTurnsRow.holds Try.pinned (OpenSpec.ofChange dirTurnsSpec)

/-- ITS FALSE NEIGHBOUR: 'it returns false'. Refute it at one input. -/
def dirTurnsWrong : ChangeSpec := { name := "dirTurns", fn := fun _ => fun
  | [d1, d2, d3] => { results := [.lit (.bool false)], args := [d1, d2, d3] }
  | _ => none }
def DirTurnsWrongFalsely : Prop := dirTurnsRow.holds Try.pinned (OpenSpec.ofChange dirTurnsWrong)

/- THE SECOND FORM. 'bulk': how many values and letters a reading holds, each counted each time it is reached (what is shared counts as often as it is met; a slice's spare places count too). A statement '..UptoSaid' is the law's where the arguments, and the package variables that the reading takes, are together of bulk at most 1048576: NARROWER than '..Said'. Prove '..Said' where nothing that the law and all that it calls make is longer than what came in: it says more and counts as full. Else prove '..UptoSaid'. A law counts once. -/
mutual
def uptoBulk {H : Type} : DataW H → Nat
  | .lit (.string bytes) => bytes.length + 1
  | .lit _ => 1
  | .nil => 1
  | .ptr d => uptoBulk d + 1
  | .slice elems spare => uptoBulkAll elems + uptoBulkAll spare + 1
  | .agg parts => uptoBulkAll parts + 1
  | .iface _ d => uptoBulk d + 1
  | .map entries => uptoBulkEntries entries + 1
  | .held _ => 1
def uptoBulkAll {H : Type} : List (DataW H) → Nat
  | [] => 0
  | d :: r => uptoBulk d + uptoBulkAll r
def uptoBulkEntries {H : Type} : List (Lit × DataW H) → Nat
  | [] => 0
  | x :: r => uptoBulkEntry x + uptoBulkEntries r
def uptoBulkEntry {H : Type} : Lit × DataW H → Nat
  | (.string bytes, d) => bytes.length + uptoBulk d + 1
  | (_, d) => uptoBulk d + 1
 end
def uptoSmall : (H : Type) → List (DataW H) → Bool := fun _ ds => decide (uptoBulkAll ds ≤ 1048576)
def OpenSpec.upto (s : _root_.Go.ChangeSpec) : _root_.Go.OpenSpec := { _root_.Go.OpenSpec.ofChange s with cond := some uptoSmall }

/-- 'tenancylaw09.DirBlocks', WHERE WHAT IT READS IS OF BULK AT MOST 1048576: true; the input reads as it did. -/
def dirBlocksUptoRow : OpenClaim := { program := "ytgcbnaleajccgaa", sum := "a5ad9b0e1e623a511255204adb8a26a2a30d7da8480731ae42966e93c5d4e4ae", func := "tenancy/tenancylaw09.DirBlocks", spec := "dirBlocks", unfollowed := true, recurses := true, apart := false, narrowed := true }
def DirBlocksUptoSaid : Prop := dirBlocksUptoRow.holds Try.pinned (OpenSpec.upto dirBlocksSpec)

/-- 'tenancylaw09.DirEntries', WHERE WHAT IT READS IS OF BULK AT MOST 1048576: true; the input reads as it did. -/
def dirEntriesUptoRow : OpenClaim := { program := "ytgcbnaleajccgaa", sum := "a5ad9b0e1e623a511255204adb8a26a2a30d7da8480731ae42966e93c5d4e4ae", func := "tenancy/tenancylaw09.DirEntries", spec := "dirEntries", unfollowed := true, recurses := true, apart := false, narrowed := true }
def DirEntriesUptoSaid : Prop := dirEntriesUptoRow.holds Try.pinned (OpenSpec.upto dirEntriesSpec)

/-- 'tenancylaw09.DirBack', WHERE WHAT IT READS IS OF BULK AT MOST 1048576: true; the input reads as it did. -/
def dirBackUptoRow : OpenClaim := { program := "ytgcbnaleajccgaa", sum := "a5ad9b0e1e623a511255204adb8a26a2a30d7da8480731ae42966e93c5d4e4ae", func := "tenancy/tenancylaw09.DirBack", spec := "dirBack", unfollowed := true, recurses := true, apart := false, narrowed := true }
def DirBackUptoSaid : Prop := dirBackUptoRow.holds Try.pinned (OpenSpec.upto dirBackSpec)

/-- 'tenancylaw09.DirTurns', WHERE WHAT IT READS IS OF BULK AT MOST 1048576: true; the input reads as it did. -/
def dirTurnsUptoRow : OpenClaim := { program := "ytgcbnaleajccgaa", sum := "a5ad9b0e1e623a511255204adb8a26a2a30d7da8480731ae42966e93c5d4e4ae", func := "tenancy/tenancylaw09.DirTurns", spec := "dirTurns", inPlace := ["internal/bytealg.abigen_runtime_cmpstring"], unfollowed := true, recurses := true, apart := false, narrowed := true }
def DirTurnsUptoSaid : Prop := dirTurnsUptoRow.holds Try.pinned (OpenSpec.upto dirTurnsSpec)

end Rows
end Go.Proofs.Ytgcbnaleajccgaa
