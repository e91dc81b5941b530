/- The disk: forget, Crash. -/
import Derived.Test.YtlpdpbhnfhihjaaDkC
namespace Go.Proofs.Ytlpdpbhnfhihjaa
open Go.RowKit

theorem new_range (w : World) (q : Nat × List Nat) : (w.alloc (.cells (wcells q).toArray 72)).rangeAt w.heap.size 0 (wcells q) := fun j v hv => by
  rw [Nat.zero_add, (Blk.new w 72 (wcells q).toArray).cell j, List.getElem?_toArray]
  exact hv

def FoRel (w : World) (F : Nat → Prop) (d gl gr n : Nat) (vQ : Value) (R : List (List Nat)) (s : DS) (t : Value) (wr : World) : Prop :=
  ∃ k, t = .int .i64 ((k : Nat) : Int) ∧ k ≤ s.Q.length ∧ DkR wr F d gl gr vQ n (readTo s.L s.Q R k) s ∧ Adv F w F wr
end Go.Proofs.Ytlpdpbhnfhihjaa
