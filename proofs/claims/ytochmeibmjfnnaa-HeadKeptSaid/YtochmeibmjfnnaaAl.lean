/- Whether a disk's sectors, and what waits, are the document's. -/
import Derived.Test.YtochmeibmjfnnaaRkE
namespace Go.Proofs.Ytochmeibmjfnnaa
open Go.RowKit

def AlA (w : World) (N : Nat) (t4 t : Value) (wr : World) : Prop := ∃ k j : Nat, t4 = .bool false ∧ t = .int .i64 (k : Int) ∧ k ≤ N ∧ wr = w.drewN j
def AlB (w : World) (n : Nat) (t4 t : Value) (wr : World) : Prop := ∃ k : Nat, t4 = .bool false ∧ t = .int .i64 (k : Int) ∧ k ≤ n ∧ Adv Nul w Nul wr
end Go.Proofs.Ytochmeibmjfnnaa
