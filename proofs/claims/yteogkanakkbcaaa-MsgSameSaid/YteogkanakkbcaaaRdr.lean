/- The document's own reader: Of, Number, Left, End, Get. -/
import Derived.Test.YteogkanakkbcaaaRdrM
import Derived.Test.YteogkanakkbcaaaR01
import Derived.Laws.IdiomStrings
import Derived.Laws.BytesArg
namespace Go.Proofs.Yteogkanakkbcaaa
open Go.RowKit

def NumRelB (l : List Nat) (m : Nat) (t3 t4 : Value) : Prop :=
  ∃ k x : Nat, k ≤ m ∧ t4 = .int .i64 (k : Int) ∧ t3 = .int .u64 (x : Int) ∧ nval (l.take k) = x

theorem u64_dbl (x b : Nat) (h : x * 2 + b < 18446744073709551616) : IntKind.u64.wrap (IntKind.u64.wrap ((x : Int) * 2) + (b : Int)) = ((x * 2 + b : Nat) : Int) := by
  rw [IntKind.wrap_u64, IntKind.wrap_u64]; omega

def OfRel (w : World) (l : List Nat) (t3 t4 : Value) (wr : World) : Prop :=
  ∃ k bl F, t4 = .int .i64 ((k : Nat) : Int) ∧ k ≤ l.length ∧ Bl bl (byN (l.take k)) (8 * k) ∧ Sl wr F 5 1 t3 (8 * k) (bl.map u8) ∧ Adv Nul w F wr
end Go.Proofs.Yteogkanakkbcaaa
