/- A row of answers in a block of its own. -/
import Derived.Test.YtmefpafjcafgnaaDoorR01
import Derived.Test.YtmefpafjcafgnaaDoorGetD
import Derived.Deep.DeepCutAuto
namespace Go.Proofs.YtmefpafjcafgnaaDoor
open Go.RowKit

/-- a row of answers in a block of its own -/
def Bo (w : World) (g : Nat) (T : List Bool) : Prop := Blk w g 4 (T.map Value.bool).toArray
section
variable {w : World} {g k : Nat} {T : List Bool}
theorem Bo.at_ (h : Bo w g T) (hk : k < T.length) : w.cell? ⟨g, k, none⟩ = some (.bool (T.getD k false)) ∧ w.frozen? ⟨g, k, none⟩ = false := by
  refine ⟨?_, Blk.frozen h k⟩
  rw [Blk.cell h, List.getElem?_toArray, List.getElem?_map, List.getElem?_eq_getElem hk, getD_at7 hk]; rfl
theorem Bo.put (h : Bo w g T) (k : Nat) (b : Bool) : Bo (w.setCell ⟨g, k, none⟩ (.bool b)) g (T.set k b) := by
  have := Blk.set_ h k (.bool b)
  unfold Bo
  rw [List.map_set]
  rw [List.setIfInBounds_toArray] at this
  exact this
end
theorem infoBool : (Tryd.prog.info? 4).map (fun i => (i.zero, i.size, i.bytes)) = some (some (.bool false), 1, 1) := by kernel_rfl
theorem madeCells_rep (n : Nat) : madeCells #[Value.bool false] (n * 1) = ((List.replicate n false).map Value.bool).toArray := by
  unfold madeCells
  apply Array.ext_getElem?
  intro k
  rw [Array.getElem?_map]
  by_cases h : k < n
  · rw [show (Array.range (n * 1))[k]? = some k from by rw [Array.getElem?_eq_getElem (by simpa using h)]; simp]
    simp [h, Nat.mod_one]
  · rw [Array.getElem?_eq_none (by simp; omega)]
    simp [h]
theorem made_bools (n : Nat) (hn : n ≤ 1024) (w : World) : (Instr.makeSlice 50 (.int .i64 (n : Int)) (.int .i64 (n : Int))).run Tryd.prog w = .ok (.slice (some ⟨w.heap.size, 0, none⟩) n n) (w.alloc (.cells ((List.replicate n false).map Value.bool).toArray 4)) := by
  obtain ⟨ie, hie, hz, hs, hb⟩ := info_parts infoBool
  have h := run_make (P := Tryd.prog) w 50 4 ie _ Tryd.underlying50 hie hz .i64 .i64 n n (by omega) (Int.le_refl _) (by rw [hb]; omega) (by omega)
  rw [hs] at h
  simp only [Value.cells, Int.toNat_natCast, madeCells_rep] at h
  exact h

end Go.Proofs.YtmefpafjcafgnaaDoor
