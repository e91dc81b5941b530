/- A block of bytes as a slice. How many writes wait. -/
import Derived.Test.YtolcnbiaiolcoaaGreatBase
import Derived.Test.YtolcnbiaiolcoaaGreatDkM
namespace Go.Proofs.YtolcnbiaiolcoaaGreat
open Go.RowKit

theorem Blk.sl8 {w : World} {z : Nat} {t : TypeId} {l : List Nat} (h : Blk w z t (l.map u8).toArray) (hl : l.length = 128) : Sl w (fun k => k = z) t 1 (.slice (some ⟨z, 0, none⟩) 128 128) 128 (l.map u8) :=
  ⟨⟨by simp [hl], .inr ⟨z, 128, _, rfl, Nat.zero_le _, h, Nat.le_refl _, by decide, by simp [hl], by simp; rw [← hl, ← List.map_take, List.take_length]⟩⟩, fun k hk => by
    have : z = k := by simpa [Value.ownBlock] using hk
    exact this.symm, fun k hk => by rw [hk]; exact h.lt⟩
end Go.Proofs.YtolcnbiaiolcoaaGreat
namespace Go.Proofs.YtolcnbiaiolcoaaGreat
open Go.RowKit

theorem few_write (s : DS) (i : Int) (b : List Nat) : (writeS s i b).1.Q.length ≤ s.Q.length + 1 := by
  unfold writeS
  split
  · exact Nat.le_succ _
  · split
    · simp
    · simp [stepS_Q]
theorem few_flush (s : DS) : (flushS s).1.Q.length ≤ s.Q.length := by
  unfold flushS
  split
  · simp
  · simp [stepS_Q]
theorem few_fuse (s : DS) (k : Int) : (fuseS s k).1.Q.length ≤ s.Q.length := by
  unfold fuseS
  split
  · simp
  · split <;> simp
theorem few_crash (s : DS) (ks : List Int) (torn : Int) : (crashS s ks torn).Q.length ≤ s.Q.length := by simp [crashS]
end Go.Proofs.YtolcnbiaiolcoaaGreat
