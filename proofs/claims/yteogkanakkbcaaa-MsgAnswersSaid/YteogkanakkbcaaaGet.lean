/- The reader's calls. -/
import Derived.Test.YteogkanakkbcaaaRead
namespace Go.Proofs.Yteogkanakkbcaaa
open Go.RowKit

/-- A reader that no call made: nil, or a zero one. -/
def RNo (w : World) (v : Value) : Prop := v = .pointer none ∨ ∃ b, v = .pointer (some ⟨b, 0, none⟩) ∧ w.cell? ⟨b, 0, none⟩ = some (.bool false)

theorem bitsAt_all (q V a : Nat) : bitsAt q V a (8 * q - a) = V % 2 ^ (8 * q - a) := by
  unfold bitsAt
  rw [Nat.sub_self, Nat.pow_zero, Nat.div_one]

/-- what End says of a reader without an error -/
def endOf (q V a : Nat) : Int := if 8 * q - a < 8 ∧ V % 2 ^ (8 * q - a) = 0 then 0 else 6
end Go.Proofs.Yteogkanakkbcaaa
