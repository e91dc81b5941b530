/- The statements' disks: played, sectors. -/
import Derived.Test.YtochmeibmjfnnaaDkY
import Derived.Test.YtochmeibmjfnnaaDkA
namespace Go.Proofs.Ytochmeibmjfnnaa
open Go.RowKit

theorem writeS_free {s : DS} (hf : s.fuse = none) (i : Int) (b : List Nat) : (writeS s i b).1.fuse = none ∧ (writeS s i b).1.dead = s.dead ∧ (writeS s i b).1.Q.length ≤ s.Q.length + 1 := by
  have hs : stepS s = (s, true) := by unfold stepS; rw [hf]
  unfold writeS
  split
  · exact ⟨hf, rfl, Nat.le_succ _⟩
  · rw [hs]
    simp only [if_true]
    exact ⟨hf, trivial, by simp⟩

structure Free (s : DS) (k : Nat) : Prop where
  fuse : s.fuse = none
  dead : s.dead = false
  few : s.Q.length ≤ k
theorem Free.write {s : DS} {k : Nat} (h : Free s k) (i : Int) (b : List Nat) : Free (writeS s i b).1 (k + 1) := by
  obtain ⟨h1, h2, h3⟩ := writeS_free h.fuse i b
  exact ⟨h1, h2.trans h.dead, by have := h.few; omega⟩
theorem Free.flush {s : DS} {k : Nat} (h : Free s k) : Free (flushS s).1 (k + 1) := by
  rw [flushS_plain h.fuse]
  exact ⟨h.fuse, h.dead, by simp⟩
theorem Free.crash {s : DS} {k : Nat} (ks : List Int) (torn : Int) : Free (crashS s ks torn) (k + 1) := ⟨rfl, rfl, by simp [crashS]⟩
theorem Free.next {s : DS} {k : Nat} (h : Free s k) : Free s (k + 1) := ⟨h.fuse, h.dead, by have := h.few; omega⟩
theorem Free.new (n : Nat) : Free (newS n) 0 := ⟨rfl, rfl, by simp [newS]⟩

def PlRel (w : World) (d : Nat) (t : Value) (wr : World) : Prop :=
  ∃ k F s, t = .int .i64 ((k : Nat) : Int) ∧ k ≤ 30 ∧ Dk wr F d 6 s ∧ Free s k ∧ Adv Nul w F wr

theorem Adv.sep_old {F : Nat → Prop} {w wr : World} (h : Adv Nul w F wr) {b : Nat} (hb : b < w.heap.size) : ¬ F b := fun hF => by have := h.new_at hF; omega
end Go.Proofs.Ytochmeibmjfnnaa
