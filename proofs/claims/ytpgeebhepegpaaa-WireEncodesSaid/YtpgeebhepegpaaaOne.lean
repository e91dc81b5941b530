/- The footprint of one block. -/
import Derived.Test.YtpgeebhepegpaaaBase
namespace Go.Proofs.Ytpgeebhepegpaaa
open Go.RowKit

def One (d : Nat) : Nat → Prop := fun k => k = d
def Two2 (x g : Nat) : Nat → Prop := fun k => k = x ∨ k = g
theorem adv_set (w : World) (d o k : Nat) (u : Value) : Adv (One d) w (One d) ((w.drewN k).setCell ⟨d, o, none⟩ u) :=
  (((Adv.refl (One d) w).drewN k)).setCell (p := ⟨d, o, none⟩) (.inl rfl) u
theorem Adv.set_one {w w' : World} {F : Nat → Prop} {d : Nat} (h : Adv F w (One d) w') (k o : Nat) (u : Value) : Adv F w (One d) ((w'.drewN k).setCell ⟨d, o, none⟩ u) := h.trans (adv_set w' d o k u)
theorem bd_one {w : World} {d : Nat} (h : d < w.heap.size) : Bd (One d) w := fun k hk => by rw [show k = d from hk]; exact h
theorem Adv.beside {F F' G : Nat → Prop} {w w' : World} (h : Adv F w F' w') : Adv (fun k => F k ∨ G k) w (fun k => F' k ∨ G k) w' :=
  ⟨h.os, h.tape, h.output, h.size, fun k hk hn => h.block k hk (fun e => hn (.inl e)), fun k hk => by
    rcases hk with e | e
    · rcases h.into k e with e | e
      · exact .inl (.inl e)
      · exact .inr e
    · exact .inl (.inr e)⟩
end Go.Proofs.Ytpgeebhepegpaaa
