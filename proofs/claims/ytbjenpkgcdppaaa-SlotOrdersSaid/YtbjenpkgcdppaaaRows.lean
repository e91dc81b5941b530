/-
  No cell of these rows narrows 'for every input' (looked for: loops, veiled, ifaces, maps, wideKeys, modest, calm, conditions, laid).
  DERIVED. THE GIVEN ROWS OF THIS SEAT. 4 by the template 'for every input the law returns true; each argument reads behind the call as it read before'; 0 by the template 'total and deterministic' (their statements: YtbjenpkgcdppaaaTotals.lean).
  GIVEN WITH THE SEED: the statements are not yours to turn. If you find one false, say at which input.
  Laid BY PROGRAM, IN A SANDBOX (cutbox-rows.mjs): the forced cells as the released guide's own fill.sh prints them over the translation 8fdbdfade368b047… (all of the seat's roots in one cut). By AI agents, Wed Nov 11 2026. No macro, syntax, notation, axiom, sorry.
-/
import Derived.Test.YtbjenpkgcdppaaaChecked
import GoSem.Claim
import GoSem.ClaimJoined
import GoSem.ClaimMapViews
import Derived.JoinedTies
import Derived.KernelRfl
namespace Go.Proofs.Ytbjenpkgcdppaaa
/- THE CELL 'sum', in the pinned program and in every row, IS THE sha256 OF THE DUMP (.gsa) THAT YtbjenpkgcdppaaaProg.lean LOADS. Nothing in Lean hashes anything: it is a label: what it is worth is what the hold of that sum in a sandbox is worth. -/
noncomputable def Try.pinned : Pinned := { name := "ytbjenpkgcdppaaa", sum := "8fdbdfade368b047001812499846b6af86e7e6ee7ce899f5b24382a4ce92dd16", checked := Try.checked }
namespace Rows
def none {H : Type} : Left H := { results := [], args := [] }

/-- 'tenancylaw14.SlotEncodes': WHATEVER THE INPUT: true; the input reads as it did. -/
def slotEncodesSpec : ChangeSpec := { name := "slotEncodes", fn := fun _ => fun
  | [d] => { results := [.lit (.bool true)], args := [d] }
  | _ => none }
def slotEncodesRow : OpenClaim := { program := "ytbjenpkgcdppaaa", sum := "8fdbdfade368b047001812499846b6af86e7e6ee7ce899f5b24382a4ce92dd16", func := "tenancy/tenancylaw14.SlotEncodes", spec := "slotEncodes", apart := false }
def SlotEncodesSaid : Prop := slotEncodesRow.holds Try.pinned (OpenSpec.ofChange slotEncodesSpec)

/-- ITS FALSE NEIGHBOUR: 'it returns false'. Refute it at one input. -/
def slotEncodesWrong : ChangeSpec := { name := "slotEncodes", fn := fun _ => fun
  | [d] => { results := [.lit (.bool false)], args := [d] }
  | _ => none }
def SlotEncodesWrongFalsely : Prop := slotEncodesRow.holds Try.pinned (OpenSpec.ofChange slotEncodesWrong)

/-- 'tenancylaw14.SlotDecodes': WHATEVER THE INPUT: true; the input reads as it did. -/
def slotDecodesSpec : ChangeSpec := { name := "slotDecodes", fn := fun _ => fun
  | [d] => { results := [.lit (.bool true)], args := [d] }
  | _ => none }
def slotDecodesRow : OpenClaim := { program := "ytbjenpkgcdppaaa", sum := "8fdbdfade368b047001812499846b6af86e7e6ee7ce899f5b24382a4ce92dd16", func := "tenancy/tenancylaw14.SlotDecodes", spec := "slotDecodes", apart := false }
def SlotDecodesSaid : Prop := slotDecodesRow.holds Try.pinned (OpenSpec.ofChange slotDecodesSpec)

/-- ITS FALSE NEIGHBOUR: 'it returns false'. Refute it at one input. -/
def slotDecodesWrong : ChangeSpec := { name := "slotDecodes", fn := fun _ => fun
  | [d] => { results := [.lit (.bool false)], args := [d] }
  | _ => none }
def SlotDecodesWrongFalsely : Prop := slotDecodesRow.holds Try.pinned (OpenSpec.ofChange slotDecodesWrong)

/-- 'tenancylaw14.SlotBack': WHATEVER THE INPUT: true; the input reads as it did. -/
def slotBackSpec : ChangeSpec := { name := "slotBack", fn := fun _ => fun
  | [d1, d2] => { results := [.lit (.bool true)], args := [d1, d2] }
  | _ => none }
def slotBackRow : OpenClaim := { program := "ytbjenpkgcdppaaa", sum := "8fdbdfade368b047001812499846b6af86e7e6ee7ce899f5b24382a4ce92dd16", func := "tenancy/tenancylaw14.SlotBack", spec := "slotBack", apart := false }
def SlotBackSaid : Prop := slotBackRow.holds Try.pinned (OpenSpec.ofChange slotBackSpec)

/-- ITS FALSE NEIGHBOUR: 'it returns false'. Refute it at one input. -/
def slotBackWrong : ChangeSpec := { name := "slotBack", fn := fun _ => fun
  | [d1, d2] => { results := [.lit (.bool false)], args := [d1, d2] }
  | _ => none }
def SlotBackWrongFalsely : Prop := slotBackRow.holds Try.pinned (OpenSpec.ofChange slotBackWrong)

/-- 'tenancylaw14.SlotOrders': WHATEVER THE INPUT: true; the input reads as it did. -/
def slotOrdersSpec : ChangeSpec := { name := "slotOrders", fn := fun _ => fun
  | [d1, d2, d3] => { results := [.lit (.bool true)], args := [d1, d2, d3] }
  | _ => none }
def slotOrdersRow : OpenClaim := { program := "ytbjenpkgcdppaaa", sum := "8fdbdfade368b047001812499846b6af86e7e6ee7ce899f5b24382a4ce92dd16", func := "tenancy/tenancylaw14.SlotOrders", spec := "slotOrders", apart := false }
def SlotOrdersSaid : Prop := slotOrdersRow.holds Try.pinned (OpenSpec.ofChange slotOrdersSpec)

/-- ITS FALSE NEIGHBOUR: 'it returns false'. Refute it at one input. -/
def slotOrdersWrong : ChangeSpec := { name := "slotOrders", fn := fun _ => fun
  | [d1, d2, d3] => { results := [.lit (.bool false)], args := [d1, d2, d3] }
  | _ => none }
def SlotOrdersWrongFalsely : Prop := slotOrdersRow.holds Try.pinned (OpenSpec.ofChange slotOrdersWrong)

/- THE SECOND FORM. 'bulk': how many values and letters a reading holds, each counted each time it is reached (what is shared counts as often as it is met; a slice's spare places count too). A statement '..UptoSaid' is the law's where the arguments, and the package variables that the reading takes, are together of bulk at most 1048576: NARROWER than '..Said'. Prove '..Said' where nothing that the law and all that it calls make is longer than what came in: it says more and counts as full. Else prove '..UptoSaid'. A law counts once. -/
mutual
def uptoBulk {H : Type} : DataW H → Nat
  | .lit (.string bytes) => bytes.length + 1
  | .lit _ => 1
  | .nil => 1
  | .ptr d => uptoBulk d + 1
  | .slice elems spare => uptoBulkAll elems + uptoBulkAll spare + 1
  | .agg parts => uptoBulkAll parts + 1
  | .iface _ d => uptoBulk d + 1
  | .map entries => uptoBulkEntries entries + 1
  | .held _ => 1
def uptoBulkAll {H : Type} : List (DataW H) → Nat
  | [] => 0
  | d :: r => uptoBulk d + uptoBulkAll r
def uptoBulkEntries {H : Type} : List (Lit × DataW H) → Nat
  | [] => 0
  | x :: r => uptoBulkEntry x + uptoBulkEntries r
def uptoBulkEntry {H : Type} : Lit × DataW H → Nat
  | (.string bytes, d) => bytes.length + uptoBulk d + 1
  | (_, d) => uptoBulk d + 1
 end
def uptoSmall : (H : Type) → List (DataW H) → Bool := fun _ ds => decide (uptoBulkAll ds ≤ 1048576)
def OpenSpec.upto (s : _root_.Go.ChangeSpec) : _root_.Go.OpenSpec := { _root_.Go.OpenSpec.ofChange s with cond := some uptoSmall }

/-- 'tenancylaw14.SlotEncodes', WHERE WHAT IT READS IS OF BULK AT MOST 1048576: true; the input reads as it did. -/
def slotEncodesUptoRow : OpenClaim := { program := "ytbjenpkgcdppaaa", sum := "8fdbdfade368b047001812499846b6af86e7e6ee7ce899f5b24382a4ce92dd16", func := "tenancy/tenancylaw14.SlotEncodes", spec := "slotEncodes", apart := false, narrowed := true }
def SlotEncodesUptoSaid : Prop := slotEncodesUptoRow.holds Try.pinned (OpenSpec.upto slotEncodesSpec)

/-- 'tenancylaw14.SlotDecodes', WHERE WHAT IT READS IS OF BULK AT MOST 1048576: true; the input reads as it did. -/
def slotDecodesUptoRow : OpenClaim := { program := "ytbjenpkgcdppaaa", sum := "8fdbdfade368b047001812499846b6af86e7e6ee7ce899f5b24382a4ce92dd16", func := "tenancy/tenancylaw14.SlotDecodes", spec := "slotDecodes", apart := false, narrowed := true }
def SlotDecodesUptoSaid : Prop := slotDecodesUptoRow.holds Try.pinned (OpenSpec.upto slotDecodesSpec)

/-- 'tenancylaw14.SlotBack', WHERE WHAT IT READS IS OF BULK AT MOST 1048576: true; the input reads as it did. -/
def slotBackUptoRow : OpenClaim := { program := "ytbjenpkgcdppaaa", sum := "8fdbdfade368b047001812499846b6af86e7e6ee7ce899f5b24382a4ce92dd16", func := "tenancy/tenancylaw14.SlotBack", spec := "slotBack", apart := false, narrowed := true }
def SlotBackUptoSaid : Prop := slotBackUptoRow.holds Try.pinned (OpenSpec.upto slotBackSpec)

/-- 'tenancylaw14.SlotOrders', WHERE WHAT IT READS IS OF BULK AT MOST 1048576: true; the input reads as it did. -/
def slotOrdersUptoRow : OpenClaim := { program := "ytbjenpkgcdppaaa", sum := "8fdbdfade368b047001812499846b6af86e7e6ee7ce899f5b24382a4ce92dd16", func := "tenancy/tenancylaw14.SlotOrders", spec := "slotOrders", apart := false, narrowed := true }
def SlotOrdersUptoSaid : Prop := slotOrdersUptoRow.holds Try.pinned (OpenSpec.upto slotOrdersSpec)

end Rows
end Go.Proofs.Ytbjenpkgcdppaaa
