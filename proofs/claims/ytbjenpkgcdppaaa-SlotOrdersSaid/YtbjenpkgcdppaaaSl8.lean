/- A block of bytes as a slice. -/
import Derived.Test.YtbjenpkgcdppaaaBase
namespace Go.Proofs.Ytbjenpkgcdppaaa
open Go.RowKit

theorem Blk.sl8 {w : World} {z : Nat} {t : TypeId} {l : List Nat} (h : Blk w z t (l.map u8).toArray) (hl : l.length = 128) : Sl w (fun k => k = z) t 1 (.slice (some ⟨z, 0, none⟩) 128 128) 128 (l.map u8) :=
  ⟨⟨by simp [hl], .inr ⟨z, 128, _, rfl, Nat.zero_le _, h, Nat.le_refl _, by decide, by simp [hl], by simp; rw [← hl, ← List.map_take, List.take_length]⟩⟩, fun k hk => by
    have : z = k := by simpa [Value.ownBlock] using hk
    exact this.symm, fun k hk => by rw [hk]; exact h.lt⟩
end Go.Proofs.Ytbjenpkgcdppaaa
