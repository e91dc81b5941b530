/- The program's parts: the entries that stand in a block. -/
import Derived.Test.YteogkanakkbcaaaDrJ
namespace Go.Proofs.Yteogkanakkbcaaa
open Go.ChangeShapes Go.WideShapes Go.ChangeAt Go.RowKit

set_option maxRecDepth 3000 in
theorem Adv.newF {W w w' : World} {F F' : Nat → Prop} (h : Adv Nul W Nul w) (ha : Adv F w F' w') (fn : ∀ q, F q → W.heap.size ≤ q) : Adv Nul W Nul w' :=
  ⟨ha.os.trans h.os, ha.tape.trans h.tape, ha.output.trans h.output, Nat.le_trans h.size ha.size, fun k hk _ => (ha.block k (Nat.lt_of_lt_of_le hk h.size) (fun hf => absurd (fn k hf) (by omega))).trans (h.block k hk (fun x => x)), fun k hk => hk.elim⟩
section
variable {W w w' : World} {b V j : Nat} {F : Nat → Prop} {l : List En} {v : Value}
end
set_option maxRecDepth 3000 in
theorem rd_one2 (w : World) (o : Obj) (e : En) : Rd ((w.alloc o).alloc (.cells (ea e) 40)) 4 (.slice (some ⟨w.heap.size + 1, 0, none⟩) 1 1) 1 (ec e) := by
  have := rd_one (w.alloc o) e
  rwa [World.size_alloc] at this
set_option maxRecDepth 3000 in
theorem rdE_size (V k : Nat) : (rdE V k (min (rdN V k) 16)).s.size = min (rdN V k) 16 := by
  show (bytesAt 128 V (172 * k + 44) (min (rdN V k) 16)).toArray.size = _
  rw [List.size_toArray, bytesAt_length]
set_option maxRecDepth 3000 in
theorem size0 {s : ByteArray} (h : s.size = 0) : s = ⟨#[]⟩ := by
  apply data_ext
  rw [List.eq_nil_of_length_eq_zero (show s.data.toList.length = 0 from h)]
set_option maxRecDepth 3000 in
theorem ne_nil {s : ByteArray} (h : s.size ≠ 0) : (s.toList == []) = false := by
  rw [beq_eq_false_iff_ne, ByteArray.toList_eq]
  intro e
  exact h (by show s.data.size = 0; rw [← Array.length_toList, e]; rfl)
end Go.Proofs.Yteogkanakkbcaaa
