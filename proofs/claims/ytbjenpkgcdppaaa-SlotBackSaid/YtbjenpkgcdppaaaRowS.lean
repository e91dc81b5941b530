/- So many bits in a slice of their own. -/
import Derived.Test.YtbjenpkgcdppaaaRefC
namespace Go.Proofs.Ytbjenpkgcdppaaa
open Go.ChangeShapes Go.WideShapes Go.ChangeAt Go.RowKit

/-- so many bits in a slice of its own -/
def RowS (V : World) (N m : Nat) (v : Value) (w : World) : Prop := ∃ F l, Sl w F 5 1 v m (l.map u8) ∧ Bl l N m ∧ Adv Nul V F w
theorem RowS.form {V w : World} {N m : Nat} {v : Value} (h : RowS V N m v w) : ∃ A c, v = .slice A m c := by
  obtain ⟨F, l, h1, _, _⟩ := h
  obtain ⟨A, c, e, _⟩ := h1.form0
  exact ⟨A, c, e⟩
theorem RowS.adv {V w : World} {N m : Nat} {v : Value} (h : RowS V N m v w) : Adv Nul V Nul w := by
  obtain ⟨F, l, _, _, h3⟩ := h
  exact h3.sub (fun _ h => h.elim)
/-- behind such bits come others -/
theorem RowS.more {V w w2 : World} {N m x n : Nat} {v v2 : Value} {F2 : Nat → Prop} {l2 : List Nat} (h : RowS V N m v w) (_s2 : Sl w2 F2 5 1 v2 n (l2.map u8)) (b2 : Bl l2 x n) (a2 : Adv Nul w F2 w2) :
    ∃ F l, Sl w2 F 5 1 v m (l.map u8) ∧ Bl l N m ∧ Adv Nul V F w2 ∧ ∀ v' w3, w3.ownsRow 0 5 1 v' (m + n) (l.map u8 ++ l2.map u8) → w2.grownBy w3 v.ownBlock → (v'.ownBlock = v.ownBlock ∨ v'.ownBlock = some w2.heap.size) → RowS V (N * 2 ^ n + x) (m + n) v' w3 := by
  obtain ⟨F, l, h1, h2, h3⟩ := h
  have h1' := h1.far a2 (fun _ h _ => h)
  have h3' := h3.over a2
  refine ⟨F, l, h1', h2, h3', fun v' w3 hown hg hat => ?_⟩
  obtain ⟨s3, _, a3⟩ := own_grown h1' h3' hown hg hat (Nat.le_refl _)
  rw [← List.map_append] at s3
  exact ⟨_, l ++ l2, s3, h2.append b2, a3⟩
theorem RowS.over {V w w' : World} {F' : Nat → Prop} {N m : Nat} {v : Value} (h : RowS V N m v w) (ha : Adv Nul w F' w') : RowS V N m v w' := by
  obtain ⟨F, l, h1, h2, h3⟩ := h
  exact ⟨F, l, h1.far ha (fun _ h _ => h), h2, h3.over ha⟩
theorem RowS.nil (V : World) : RowS V 0 0 (.slice none 0 0) V := ⟨Nul, [], Sl.nil _ _ _, Bl.nil, Adv.refl _ _⟩
end Go.Proofs.Ytbjenpkgcdppaaa
