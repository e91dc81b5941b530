/- The list that few has made. -/
import Derived.Test.YtplibkdnfjofdaaFew
namespace Go.Proofs.Ytplibkdnfjofdaa
open Go.RowKit

/-- The list that few has made, with blocks F0. -/
structure Made (w : World) (F0 : Nat → Prop) (v : Value) (es : List Do) : Prop where
  sl : Sl w F0 34 4 v es.length (cellsOf es)
  sz : ∀ d ∈ es, d.s.size ≤ 40
  x : ∀ d ∈ es, d.x < 18446744073709551616
  le : es.length ≤ 40

theorem Made.cells {w : World} {F0 : Nat → Prop} {es : List Do} {g c n : Nat} (h : Made w F0 (.slice (some ⟨g, 0, none⟩) n c) es) {j : Nat} (hj : j < es.length) :
    w.cell? ⟨g, j * 4, none⟩ = some (.int .i64 es[j].kind) ∧ w.cell? ⟨g, j * 4 + 1, none⟩ = some (.int .u64 (es[j].x : Int)) ∧ w.cell? ⟨g, j * 4 + 2, none⟩ = some (.int .i64 es[j].n) ∧ w.cell? ⟨g, j * 4 + 3, none⟩ = some (.string es[j].s) := by
  obtain ⟨g', cap, e, _, _⟩ := h.sl.form (by omega)
  injection e with e1 e2 e3
  have ho := h.sl.own
  rw [e2] at ho
  have H : ∀ i, i < 4 → w.cell? ⟨g, j * 4 + i, none⟩ = es[j].cells[i]? := fun i hi => by
    rw [ho.cellAt (j * 4 + i) (by omega), cellsOf_at es j i hi hj]
  exact ⟨H 0 (by decide), H 1 (by decide), H 2 (by decide), H 3 (by decide)⟩

theorem Made.far {w w' : World} {F0 F F' : Nat → Prop} {v : Value} {es : List Do} (h : Made w F0 v es) (ha : Adv F w F' w') (hs : Sep F F0) : Made w' F0 v es := ⟨h.sl.far ha hs, h.sz, h.x, h.le⟩

/-- What is known of a list of calls that came in. -/
def DosArg (W : World) (v : Value) : Prop := ∃ ds, DosIn W v ds ∧ ∀ d ∈ ds, d.x < 18446744073709551616

theorem fewOf_made {w : World} {F : Nat → Prop} {v : Value} {ds : List Do} (hx : ∀ d ∈ ds, d.x < 18446744073709551616) (h : Sl w F 34 4 v (fewOf ds).length (cellsOf (fewOf ds))) : Made w F v (fewOf ds) := by
  refine ⟨h, fun d hd => ?_, fun d hd => ?_, by simp [fewOf]; omega⟩
  · obtain ⟨d', _, rfl⟩ := List.mem_map.1 (List.mem_of_mem_take hd)
    exact shortS_size _
  · obtain ⟨d', hd', rfl⟩ := List.mem_map.1 (List.mem_of_mem_take hd)
    exact hx d' hd'
end Go.Proofs.Ytplibkdnfjofdaa
