/- Operations on sectors and writes: many cells at once. -/
import Derived.Test.YtlpdpbhnfhihjaaDkL
import Derived.Deep.WholeRow
import Derived.Great.BuildSlice
import Derived.Great.FillDense
namespace Go.Proofs.Ytlpdpbhnfhihjaa
open Go.RowKit

def zS : Array Value := (List.replicate 128 (u8 0)).toArray
def zW : Array Value := (.int .i64 0 :: List.replicate 128 (u8 0)).toArray
theorem zS_size : zS.size = 128 := by simp [zS]
theorem zW_size : zW.size = 129 := by simp [zW]
theorem infoSector : (Try.prog.info? 70).map (fun i => (i.zero, i.size, i.bytes)) = some (some (.agg zS), 128, 128) := by kernel_rfl
theorem infoWrite : (Try.prog.info? 72).map (fun i => (i.zero, i.size, i.bytes)) = some (some (.agg zW), 129, 136) := by kernel_rfl
theorem sizeSector : (Try.prog.info? 70).map (·.size) = some 128 := by kernel_rfl
theorem sizeWrite : (Try.prog.info? 72).map (·.size) = some 129 := by kernel_rfl

section
variable {ops : Array Oper} {rest : List Oper} {o : Oper} {a : Act} {w : World} {Q : Exit → Act → World → Prop}
theorem zero_run {t : TypeId} {C : Array Value} {s b : Nat} (h : (Try.prog.info? t).map (fun i => (i.zero, i.size, i.bytes)) = some (some (.agg C), s, b)) : (zeroValue t).run Try.prog w = .ok (.agg C) w := by
  obtain ⟨i, hi, hz, _⟩ := info_parts h
  simp [zeroValue, typeInfo, hi, hz]
theorem op_alloc {t : TypeId} {C : Array Value} {s b : Nat} (hgd : o.guard = none) (ho : o.op = .alloc t) (hz : (Try.prog.info? t).map (fun i => (i.zero, i.size, i.bytes)) = some (some (.agg C), s, b))
    (h : wpList Try.prog ops Q rest (a.put o.dst (.pointer (some ⟨w.heap.size, 0, none⟩))) (w.alloc (.cells C t))) : wpList Try.prog ops Q (o :: rest) a w := by
  refine wpList_plain hgd fun K hK => ?_
  unfold Oper.wp execOp
  simp [ho, Instr.alloc, zero_run hz, newVar, newRow, Value.cells, Result.andThen]
  exact hK _ _ h
theorem op_alloc_sector (hgd : o.guard = none) (ho : o.op = .alloc 70) (h : wpList Try.prog ops Q rest (a.put o.dst (.pointer (some ⟨w.heap.size, 0, none⟩))) (w.alloc (.cells zS 70))) : wpList Try.prog ops Q (o :: rest) a w :=
  op_alloc hgd ho infoSector h
theorem op_alloc_write (hgd : o.guard = none) (ho : o.op = .alloc 72) (h : wpList Try.prog ops Q rest (a.put o.dst (.pointer (some ⟨w.heap.size, 0, none⟩))) (w.alloc (.cells zW 72))) : wpList Try.prog ops Q (o :: rest) a w :=
  op_alloc hgd ho infoWrite h
theorem op_store_new {t : TypeId} {C D : Array Value} {s : Nat} (hgd : o.guard = none) (x y : Operand) (ho : o.op = .store t x y) (g : Nat) (hg : g = w.heap.size) (hx : a.eval x = .pointer (some ⟨g, 0, none⟩)) (hy : a.eval y = .agg D)
    (hs : (Try.prog.info? t).map (·.size) = some s) (hD : D.size = s) (hC : C.size = s) (h1 : D.all (·.oneCell') = true)
    (h : wpList Try.prog ops Q rest (a.put o.dst undef) (w.alloc (.cells D t))) : wpList Try.prog ops Q (o :: rest) a (w.alloc (.cells C t)) := by
  subst hg
  refine wpList_store_row hgd t x y ho w.heap.size D hx hy t C (Go.heap_alloc_new w _) (by rw [hs, hD]) (by rw [hC, hD]) h1 ?_
  rw [World.setRow_alloc_new]
  exact h
theorem one_u8 (l : List Nat) : ((l.map u8).toArray).all (·.oneCell') = true := all_oneCell_toArray (u8_one l)
theorem one_wcells (q : Nat × List Nat) : ((wcells q).toArray).all (·.oneCell') = true := all_oneCell_toArray (by
  intro v hv
  rcases List.mem_cons.1 hv with rfl | hv
  · rfl
  · exact u8_one _ v hv)
theorem op_store_sector (hgd : o.guard = none) (x y : Operand) (ho : o.op = .store 70 x y) (g : Nat) (hg : g = w.heap.size) (l : List Nat) (hl : l.length = 128) (hx : a.eval x = .pointer (some ⟨g, 0, none⟩)) (hy : a.eval y = .agg (l.map u8).toArray)
    (h : wpList Try.prog ops Q rest (a.put o.dst undef) (w.alloc (.cells (l.map u8).toArray 70))) : wpList Try.prog ops Q (o :: rest) a (w.alloc (.cells zS 70)) :=
  op_store_new hgd x y ho g hg hx hy sizeSector (by simpa using hl) zS_size (one_u8 l) h
theorem op_store_write (hgd : o.guard = none) (x y : Operand) (ho : o.op = .store 72 x y) (g : Nat) (hg : g = w.heap.size) (q : Nat × List Nat) (hl : q.2.length = 128) (hx : a.eval x = .pointer (some ⟨g, 0, none⟩)) (hy : a.eval y = .agg (wcells q).toArray)
    (h : wpList Try.prog ops Q rest (a.put o.dst undef) (w.alloc (.cells (wcells q).toArray 72))) : wpList Try.prog ops Q (o :: rest) a (w.alloc (.cells zW 72)) :=
  op_store_new hgd x y ho g hg hx hy sizeWrite (by simpa using wcells_length hl) zW_size (one_wcells q) h
theorem op_load_sector (hgd : o.guard = none) (x : Operand) (ho : o.op = .load 70 x) (b off : Nat) (l : List Nat) (hl : l.length = 128) (hc : w.rangeAt b off (l.map u8)) (hx : a.eval x = .pointer (some ⟨b, off, none⟩))
    (h : wpList Try.prog ops Q rest (a.put o.dst (.agg (l.map u8).toArray)) w) : wpList Try.prog ops Q (o :: rest) a w :=
  wpList_load_mid hgd 70 x ho b off hx (l.map u8) _ hc Try.underlying70 rfl (by rw [sizeSector, List.length_map, hl]) h
theorem op_load_write (hgd : o.guard = none) (x : Operand) (ho : o.op = .load 72 x) (b off : Nat) (q : Nat × List Nat) (hl : q.2.length = 128) (hc : w.rangeAt b off (wcells q)) (hx : a.eval x = .pointer (some ⟨b, off, none⟩))
    (h : wpList Try.prog ops Q rest (a.put o.dst (.agg (wcells q).toArray)) w) : wpList Try.prog ops Q (o :: rest) a w :=
  wpList_load_mid hgd 72 x ho b off hx (wcells q) _ hc Try.underlying72 rfl (by rw [sizeWrite, wcells_length hl]) h
theorem op_s2a (hgd : o.guard = none) (x : Operand) (ho : o.op = .sliceToArrayPointer 70 x) (A : Option Addr) (c : Nat) (hx : a.eval x = .slice A 128 c)
    (h : wpList Try.prog ops Q rest (a.put o.dst (.pointer A)) w) : wpList Try.prog ops Q (o :: rest) a w := by
  refine wpList_plain hgd fun K hK => ?_
  unfold Oper.wp execOp
  simp [ho, hx, Instr.arrayAt, run_underlying Try.underlying70, Result.andThen]
  exact hK _ _ h
set_option maxRecDepth 10000 in
theorem built_write (i : Nat) (l : List Nat) (hl : l.length = 128) : Try.prog.built 72 [(0, .int .i64 (i : Int)), (1, .agg (l.map u8).toArray)] = some (wcells (i, l)).toArray := by
  have h0 : Try.prog.built 72 [(0, .int .i64 (i : Int)), (1, .agg (l.map u8).toArray)] = Instr.fill ((#[(0, 1), (1, 128)] : Array (Nat × Nat))[·]?) zW [(0, .int .i64 (i : Int)), (1, .agg (l.map u8).toArray)] := by
    unfold Program.built
    have h1 : (Try.prog.info? 72).map (·.zero) = some (some (.agg zW)) := by kernel_rfl
    obtain ⟨it, hi, hz⟩ := Option.map_eq_some_iff.1 h1
    rw [hi, Try.underlying72]
    simp only [hz]
    rfl
  rw [h0]
  have e2 : (l.map u8).toArray.size = 128 := by simpa using hl
  have hzw := zW_size
  clear h0
  generalize zW = ZW at hzw ⊢
  have hZ1 : ∀ k, (ZW.setIfInBounds 0 (.int .i64 (i : Int)))[k]? = if k = 0 then some (.int .i64 (i : Int)) else ZW[k]? := fun k => by
    rw [Array.getElem?_setIfInBounds]
    by_cases hk : 0 = k
    · rw [if_pos hk, if_pos (by omega), if_pos hk.symm]
    · rw [if_neg hk, if_neg (fun h => hk h.symm)]
  have e4 : Instr.fill ((#[(0, 1), (1, 128)] : Array (Nat × Nat))[·]?) ZW [(0, .int .i64 (i : Int)), (1, .agg (l.map u8).toArray)] = some ((l.map u8).toArray.zipIdx.foldl (fun cs (x : Value × Nat) => cs.setIfInBounds (1 + x.2) x.1) (ZW.setIfInBounds 0 (.int .i64 (i : Int)))) := by
    simp [Instr.fill, Value.cells, hzw, hl]
  rw [e4]
  congr 1
  rw [← Array.foldl_toList, Array.toList_zipIdx]
  obtain ⟨h3, h4⟩ := Great.foldl_set 1 ((l.map u8).toArray).toList 0 (ZW.setIfInBounds 0 (.int .i64 (i : Int)))
  apply Array.ext_getElem?
  intro k
  rw [h4 k, hZ1 k, Array.size_setIfInBounds, hzw]
  simp only [List.length_map, hl, List.getElem?_toArray, wcells]
  rcases k with _ | k
  · rw [if_neg (by omega), if_pos rfl]; rfl
  · by_cases hk : k < 128
    · rw [if_pos (by omega), List.getElem?_cons_succ, show k + 1 - (1 + 0) = k by omega]
    · rw [if_neg (by omega), if_neg (by omega), List.getElem?_cons_succ, List.getElem?_eq_none (by simp; omega), Array.getElem?_eq_none (by rw [hzw]; omega)]
theorem op_build_write (hgd : o.guard = none) (x y : Operand) (ho : o.op = .build 72 #[(0, x), (1, y)]) (i : Nat) (l : List Nat) (hl : l.length = 128) (hx : a.eval x = .int .i64 (i : Int)) (hy : a.eval y = .agg (l.map u8).toArray)
    (h : wpList Try.prog ops Q rest (a.put o.dst (.agg (wcells (i, l)).toArray)) w) : wpList Try.prog ops Q (o :: rest) a w := by
  have e : ((#[(0, x), (1, y)] : Array (Nat × Operand)).map fun (i, x) => (i, a.eval x)).toList = [(0, .int .i64 (i : Int)), (1, .agg (l.map u8).toArray)] := by simp [hx, hy]
  refine wpList_build hgd 72 _ ho (by rw [e, built_write i l hl]; rfl) ?_
  rw [e, built_write i l hl]
  exact h
theorem run_buildSlice_write (q : Nat × List Nat) (hl : q.2.length = 128) : (Instr.buildSlice 47 1 #[(0, .agg (wcells q).toArray)]).run Try.prog w = .ok (.slice (some ⟨w.heap.size, 0, none⟩) 1 1) (w.alloc (.cells (wcells q).toArray 72)) := by
  obtain ⟨ie, hie, hz, hs, _⟩ := info_parts infoWrite
  refine run_buildSlice w 47 72 1 _ _ ie _ Try.underlying47 hie hz (by rw [hs]; decide) (by rw [hs]; decide) ?_
  rw [hs]
  have h := Great.fill_whole (s := 129) (by decide) [Value.agg (wcells q).toArray] ((Array.range (1 * 129)).map ((Value.agg zW).cells[· % (Value.agg zW).cells.size]!)) (fun v hv => by
    rw [List.mem_singleton] at hv
    subst hv
    simpa [Value.cells] using wcells_length hl) (by simp)
  simpa [Value.cells] using h
end
end Go.Proofs.Ytlpdpbhnfhihjaa
