/- Operations on sectors and writes: many cells at once. The disk: New, Read, Write, Fuse. The disk: Write. The disk: Flush, Waits, forget, Crash. The disk: forget, Crash. The disk: Crash, where nothing tears (torn is 0 or less). The disk: Crash, where nothing tears (torn is 128 or more). The disk: Crash, where a write tears. The disk: Waits. The document's Sector; bytes compared; the sectors' lives. The disk's calls on its state; lives. A block of bytes as a slice. -/
import Derived.Test.YtcglfknkkeaegaaGreatDoorMq07
import Derived.Deep.WholeRow
import Derived.Great.BuildSlice
import Derived.Great.FillDense
import Derived.Deep.QuietTactic
import Derived.BigQuiet
import Derived.Test.YtcglfknkkeaegaaGreatDoorMq00
namespace Go.Proofs.YtcglfknkkeaegaaGreatDoor
open Go.RowKit

def zS : Array Value := (List.replicate 128 (u8 0)).toArray
def zW : Array Value := (.int .i64 0 :: List.replicate 128 (u8 0)).toArray
theorem zS_size : zS.size = 128 := by simp [zS]
theorem zW_size : zW.size = 129 := by simp [zW]
theorem infoSector : (Tryz.prog.info? 113).map (fun i => (i.zero, i.size, i.bytes)) = some (some (.agg zS), 128, 128) := by kernel_rfl
theorem infoWrite : (Tryz.prog.info? 115).map (fun i => (i.zero, i.size, i.bytes)) = some (some (.agg zW), 129, 136) := by kernel_rfl
theorem sizeSector : (Tryz.prog.info? 113).map (·.size) = some 128 := by kernel_rfl
theorem sizeWrite : (Tryz.prog.info? 115).map (·.size) = some 129 := by kernel_rfl

section
variable {ops : Array Oper} {rest : List Oper} {o : Oper} {a : Act} {w : World} {Q : Exit → Act → World → Prop}
theorem zero_run {t : TypeId} {C : Array Value} {s b : Nat} (h : (Tryz.prog.info? t).map (fun i => (i.zero, i.size, i.bytes)) = some (some (.agg C), s, b)) : (zeroValue t).run Tryz.prog w = .ok (.agg C) w := by
  obtain ⟨i, hi, hz, _⟩ := info_parts h
  simp [zeroValue, typeInfo, hi, hz]
theorem op_alloc {t : TypeId} {C : Array Value} {s b : Nat} (hgd : o.guard = none) (ho : o.op = .alloc t) (hz : (Tryz.prog.info? t).map (fun i => (i.zero, i.size, i.bytes)) = some (some (.agg C), s, b))
    (h : wpList Tryz.prog ops Q rest (a.put o.dst (.pointer (some ⟨w.heap.size, 0, none⟩))) (w.alloc (.cells C t))) : wpList Tryz.prog ops Q (o :: rest) a w := by
  refine wpList_plain hgd fun K hK => ?_
  unfold Oper.wp execOp
  simp [ho, Instr.alloc, zero_run hz, newVar, newRow, Value.cells, Result.andThen]
  exact hK _ _ h
theorem op_alloc_sector (hgd : o.guard = none) (ho : o.op = .alloc 113) (h : wpList Tryz.prog ops Q rest (a.put o.dst (.pointer (some ⟨w.heap.size, 0, none⟩))) (w.alloc (.cells zS 113))) : wpList Tryz.prog ops Q (o :: rest) a w :=
  op_alloc hgd ho infoSector h
theorem op_alloc_write (hgd : o.guard = none) (ho : o.op = .alloc 115) (h : wpList Tryz.prog ops Q rest (a.put o.dst (.pointer (some ⟨w.heap.size, 0, none⟩))) (w.alloc (.cells zW 115))) : wpList Tryz.prog ops Q (o :: rest) a w :=
  op_alloc hgd ho infoWrite h
theorem op_store_new {t : TypeId} {C D : Array Value} {s : Nat} (hgd : o.guard = none) (x y : Operand) (ho : o.op = .store t x y) (g : Nat) (hg : g = w.heap.size) (hx : a.eval x = .pointer (some ⟨g, 0, none⟩)) (hy : a.eval y = .agg D)
    (hs : (Tryz.prog.info? t).map (·.size) = some s) (hD : D.size = s) (hC : C.size = s) (h1 : D.all (·.oneCell') = true)
    (h : wpList Tryz.prog ops Q rest (a.put o.dst undef) (w.alloc (.cells D t))) : wpList Tryz.prog ops Q (o :: rest) a (w.alloc (.cells C t)) := by
  subst hg
  refine wpList_store_row hgd t x y ho w.heap.size D hx hy t C (Go.heap_alloc_new w _) (by rw [hs, hD]) (by rw [hC, hD]) h1 ?_
  rw [World.setRow_alloc_new]
  exact h
theorem one_u8 (l : List Nat) : ((l.map u8).toArray).all (·.oneCell') = true := all_oneCell_toArray (u8_one l)
theorem one_wcells (q : Nat × List Nat) : ((wcells q).toArray).all (·.oneCell') = true := all_oneCell_toArray (by
  intro v hv
  rcases List.mem_cons.1 hv with rfl | hv
  · rfl
  · exact u8_one _ v hv)
theorem op_store_sector (hgd : o.guard = none) (x y : Operand) (ho : o.op = .store 113 x y) (g : Nat) (hg : g = w.heap.size) (l : List Nat) (hl : l.length = 128) (hx : a.eval x = .pointer (some ⟨g, 0, none⟩)) (hy : a.eval y = .agg (l.map u8).toArray)
    (h : wpList Tryz.prog ops Q rest (a.put o.dst undef) (w.alloc (.cells (l.map u8).toArray 113))) : wpList Tryz.prog ops Q (o :: rest) a (w.alloc (.cells zS 113)) :=
  op_store_new hgd x y ho g hg hx hy sizeSector (by simpa using hl) zS_size (one_u8 l) h
theorem op_store_write (hgd : o.guard = none) (x y : Operand) (ho : o.op = .store 115 x y) (g : Nat) (hg : g = w.heap.size) (q : Nat × List Nat) (hl : q.2.length = 128) (hx : a.eval x = .pointer (some ⟨g, 0, none⟩)) (hy : a.eval y = .agg (wcells q).toArray)
    (h : wpList Tryz.prog ops Q rest (a.put o.dst undef) (w.alloc (.cells (wcells q).toArray 115))) : wpList Tryz.prog ops Q (o :: rest) a (w.alloc (.cells zW 115)) :=
  op_store_new hgd x y ho g hg hx hy sizeWrite (by simpa using wcells_length hl) zW_size (one_wcells q) h
theorem op_load_sector (hgd : o.guard = none) (x : Operand) (ho : o.op = .load 113 x) (b off : Nat) (l : List Nat) (hl : l.length = 128) (hc : w.rangeAt b off (l.map u8)) (hx : a.eval x = .pointer (some ⟨b, off, none⟩))
    (h : wpList Tryz.prog ops Q rest (a.put o.dst (.agg (l.map u8).toArray)) w) : wpList Tryz.prog ops Q (o :: rest) a w :=
  wpList_load_mid hgd 113 x ho b off hx (l.map u8) _ hc Tryz.underlying113 rfl (by rw [sizeSector, List.length_map, hl]) h
theorem op_load_write (hgd : o.guard = none) (x : Operand) (ho : o.op = .load 115 x) (b off : Nat) (q : Nat × List Nat) (hl : q.2.length = 128) (hc : w.rangeAt b off (wcells q)) (hx : a.eval x = .pointer (some ⟨b, off, none⟩))
    (h : wpList Tryz.prog ops Q rest (a.put o.dst (.agg (wcells q).toArray)) w) : wpList Tryz.prog ops Q (o :: rest) a w :=
  wpList_load_mid hgd 115 x ho b off hx (wcells q) _ hc Tryz.underlying115 rfl (by rw [sizeWrite, wcells_length hl]) h
theorem op_s2a (hgd : o.guard = none) (x : Operand) (ho : o.op = .sliceToArrayPointer 113 x) (A : Option Addr) (c : Nat) (hx : a.eval x = .slice A 128 c)
    (h : wpList Tryz.prog ops Q rest (a.put o.dst (.pointer A)) w) : wpList Tryz.prog ops Q (o :: rest) a w := by
  refine wpList_plain hgd fun K hK => ?_
  unfold Oper.wp execOp
  simp [ho, hx, Instr.arrayAt, run_underlying Tryz.underlying113, Result.andThen]
  exact hK _ _ h
set_option maxRecDepth 10000 in
theorem built_write (i : Nat) (l : List Nat) (hl : l.length = 128) : Tryz.prog.built 115 [(0, .int .i64 (i : Int)), (1, .agg (l.map u8).toArray)] = some (wcells (i, l)).toArray := by
  have h0 : Tryz.prog.built 115 [(0, .int .i64 (i : Int)), (1, .agg (l.map u8).toArray)] = Instr.fill ((#[(0, 1), (1, 128)] : Array (Nat × Nat))[·]?) zW [(0, .int .i64 (i : Int)), (1, .agg (l.map u8).toArray)] := by
    unfold Program.built
    have h1 : (Tryz.prog.info? 115).map (·.zero) = some (some (.agg zW)) := by kernel_rfl
    obtain ⟨it, hi, hz⟩ := Option.map_eq_some_iff.1 h1
    rw [hi, Tryz.underlying115]
    simp only [hz]
    rfl
  rw [h0]
  have e2 : (l.map u8).toArray.size = 128 := by simpa using hl
  have hzw := zW_size
  clear h0
  generalize zW = ZW at hzw ⊢
  have hZ1 : ∀ k, (ZW.setIfInBounds 0 (.int .i64 (i : Int)))[k]? = if k = 0 then some (.int .i64 (i : Int)) else ZW[k]? := fun k => by
    rw [Array.getElem?_setIfInBounds]
    by_cases hk : 0 = k
    · rw [if_pos hk, if_pos (by omega), if_pos hk.symm]
    · rw [if_neg hk, if_neg (fun h => hk h.symm)]
  have e4 : Instr.fill ((#[(0, 1), (1, 128)] : Array (Nat × Nat))[·]?) ZW [(0, .int .i64 (i : Int)), (1, .agg (l.map u8).toArray)] = some ((l.map u8).toArray.zipIdx.foldl (fun cs (x : Value × Nat) => cs.setIfInBounds (1 + x.2) x.1) (ZW.setIfInBounds 0 (.int .i64 (i : Int)))) := by
    simp [Instr.fill, Value.cells, hzw, hl]
  rw [e4]
  congr 1
  rw [← Array.foldl_toList, Array.toList_zipIdx]
  obtain ⟨h3, h4⟩ := Great.foldl_set 1 ((l.map u8).toArray).toList 0 (ZW.setIfInBounds 0 (.int .i64 (i : Int)))
  apply Array.ext_getElem?
  intro k
  rw [h4 k, hZ1 k, Array.size_setIfInBounds, hzw]
  simp only [List.length_map, hl, List.getElem?_toArray, wcells]
  rcases k with _ | k
  · rw [if_neg (by omega), if_pos rfl]; rfl
  · by_cases hk : k < 128
    · rw [if_pos (by omega), List.getElem?_cons_succ, show k + 1 - (1 + 0) = k by omega]
    · rw [if_neg (by omega), if_neg (by omega), List.getElem?_cons_succ, List.getElem?_eq_none (by simp; omega), Array.getElem?_eq_none (by rw [hzw]; omega)]
theorem op_build_write (hgd : o.guard = none) (x y : Operand) (ho : o.op = .build 115 #[(0, x), (1, y)]) (i : Nat) (l : List Nat) (hl : l.length = 128) (hx : a.eval x = .int .i64 (i : Int)) (hy : a.eval y = .agg (l.map u8).toArray)
    (h : wpList Tryz.prog ops Q rest (a.put o.dst (.agg (wcells (i, l)).toArray)) w) : wpList Tryz.prog ops Q (o :: rest) a w := by
  have e : ((#[(0, x), (1, y)] : Array (Nat × Operand)).map fun (i, x) => (i, a.eval x)).toList = [(0, .int .i64 (i : Int)), (1, .agg (l.map u8).toArray)] := by simp [hx, hy]
  refine wpList_build hgd 115 _ ho (by rw [e, built_write i l hl]; rfl) ?_
  rw [e, built_write i l hl]
  exact h
theorem run_buildSlice_write (q : Nat × List Nat) (hl : q.2.length = 128) : (Instr.buildSlice 87 1 #[(0, .agg (wcells q).toArray)]).run Tryz.prog w = .ok (.slice (some ⟨w.heap.size, 0, none⟩) 1 1) (w.alloc (.cells (wcells q).toArray 115)) := by
  obtain ⟨ie, hie, hz, hs, _⟩ := info_parts infoWrite
  refine run_buildSlice w 87 115 1 _ _ ie _ Tryz.underlying87 hie hz (by rw [hs]; decide) (by rw [hs]; decide) ?_
  rw [hs]
  have h := Great.fill_whole (s := 129) (by decide) [Value.agg (wcells q).toArray] ((Array.range (1 * 129)).map ((Value.agg zW).cells[· % (Value.agg zW).cells.size]!)) (fun v hv => by
    rw [List.mem_singleton] at hv
    subst hv
    simpa [Value.cells] using wcells_length hl) (by simp)
  simpa [Value.cells] using h
end
end Go.Proofs.YtcglfknkkeaegaaGreatDoor
namespace Go.Proofs.YtcglfknkkeaegaaGreatDoor
open Go.RowKit

theorem step_append_own {w : World} {ops : Array Oper} {o : Oper} {a : Act} {K : Act → World → Prop} {Q : Exit → Act → World → Prop} {E : Prop} (hgd : o.guard = none) (s x : Operand) (t e : TypeId)
    (ho : o.op = .call { callee := .builtin .append, args := #[s, x], argTypes := #[t, t] }) (ht : Tryz.prog.underlying t = some (.slice e)) {z : Value} {size bytes : Nat} (hi : (Tryz.prog.info? e).map (fun i => (i.zero, i.size, i.bytes)) = some (some z, size, bytes)) (hzs : z.cells.size = size) (hsz : 0 < size)
    {v : Value} {n : Nat} {xs : List Value} (hs : a.eval s = v) (hown : w.ownsRow 0 e size v n xs) (ad : Addr) (m c : Nat) (hx : a.eval x = .slice (some ad) m c) (news : List Value) (hl : news.length = m * size) (hnews : ∀ j u, news[j]? = some u → w.cell? (ad.add j) = some u) (h1 : ∀ u ∈ news, u.oneCell' = true)
    (h63 : n + m ≤ maxLen) (hb : (n + m) * bytes ≤ 140737488355328)
    (h : ∀ v' w', w'.ownsRow 0 e size v' (n + m) (xs ++ news) → w.grownBy w' v.ownBlock → (v'.ownBlock = v.ownBlock ∨ v'.ownBlock = some w.heap.size) → K (a.put o.dst v') w') :
    if Region.wanted o (yielded ops a.tmps) = true then Oper.wp Tryz.prog o a w K Q else E := by
  rw [if_pos (by simp [Region.wanted, hgd])]
  obtain ⟨i0, hi0, hz0, hz1, hz2⟩ := info_parts hi
  obtain ⟨v', w', hrun, h2, h3, _, h5⟩ := run_append_own_at (P := Tryz.prog) w 0 t o.type e i0 z size bytes ht hi0 hz0 hz1 hz2 hzs hsz v n xs hown ad m c news hl hnews h1 h63 hb (Nat.zero_le _)
  unfold Oper.wp execOp
  simp only [ho, resolve, invoke, builtin, Sem.run_bind, Sem.run_pure, Result.andThen_ok, List.map_toArray, List.map_cons, List.map_nil, hs, hx, hrun]
  exact h v' w' h2 h3 h5
section
variable {ops : Array Oper} {o : Oper} {a : Act} {w : World} {Q : Exit → Act → World → Prop} {K : Act → World → Prop} {E : Prop}
theorem st_load_sector (hgd : o.guard = none) (x : Operand) (ho : o.op = .load 113 x) (b off : Nat) (l : List Nat) (hl : l.length = 128) (hc : w.rangeAt b off (l.map u8)) (hx : a.eval x = .pointer (some ⟨b, off, none⟩))
    (h : K (a.put o.dst (.agg (l.map u8).toArray)) w) : if Region.wanted o (yielded ops a.tmps) = true then Oper.wp Tryz.prog o a w K Q else E := by
  rw [if_pos (by simp [Region.wanted, hgd])]
  exact wp_load_mid 113 x ho b off hx (l.map u8) _ hc Tryz.underlying113 rfl (by rw [sizeSector, List.length_map, hl]) h
theorem st_store_sector (hgd : o.guard = none) (x y : Operand) (ho : o.op = .store 113 x y) (b off : Nat) (l : List Nat) (hl : l.length = 128) (ht : w.there b off 128) (hx : a.eval x = .pointer (some ⟨b, off, none⟩)) (hy : a.eval y = .agg (l.map u8).toArray)
    (h : K (a.put o.dst undef) (w.setCells b off (l.map u8))) : if Region.wanted o (yielded ops a.tmps) = true then Oper.wp Tryz.prog o a w K Q else E := by
  rw [if_pos (by simp [Region.wanted, hgd])]
  exact wp_store_mid 113 x y ho b off _ hx hy (by simpa [hl] using ht) (by rw [sizeSector]; simp [hl]) (one_u8 l) (by simpa using h)
theorem st_buildSlice_write (hgd : o.guard = none) (x : Operand) (ho : o.op = .buildSlice 87 1 #[(0, x)]) (q : Nat × List Nat) (hl : q.2.length = 128) (hx : a.eval x = .agg (wcells q).toArray)
    (h : K (a.put o.dst (.slice (some ⟨w.heap.size, 0, none⟩) 1 1)) (w.alloc (.cells (wcells q).toArray 115))) : if Region.wanted o (yielded ops a.tmps) = true then Oper.wp Tryz.prog o a w K Q else E := by
  rw [if_pos (by simp [Region.wanted, hgd])]
  unfold Oper.wp execOp
  simp only [ho, List.map_toArray, List.map_cons, List.map_nil, hx, Sem.run_bind, run_buildSlice_write q hl, Result.andThen_ok]
  exact h
end

theorem made_sectors (n : Nat) (hn : n ≤ 4096) (w : World) : (Instr.makeSlice 86 (.int .i64 (n : Int)) (.int .i64 (n : Int))).run Tryz.prog w = .ok (.slice (some ⟨w.heap.size, 0, none⟩) n n) (w.alloc (.cells (madeCells zS (n * 128)) 113)) := by
  obtain ⟨ie, hie, hz, hs, hb⟩ := info_parts infoSector
  have h := run_make (P := Tryz.prog) w 86 113 ie _ Tryz.underlying86 hie hz .i64 .i64 n n (by omega) (Int.le_refl _) (by rw [hb]; omega) (by omega)
  simpa [hs, Value.cells] using h
theorem zS_at (k : Nat) (hk : k < 128) : zS[k]! = u8 0 := by
  have h : zS[k]? = some (u8 0) := by
    simp only [zS, List.getElem?_toArray, List.getElem?_replicate, if_pos hk]
  rw [getElem!_def, h]
theorem made_at (m k : Nat) (hk : k < m) : (madeCells zS m)[k]? = some (u8 0) := by
  have h1 : (Array.range m)[k]? = some k := by rw [Array.getElem?_eq_getElem (by simpa using hk)]; simp
  simp only [madeCells, Array.getElem?_map, h1, Option.map_some]
  rw [zS_size, zS_at _ (Nat.mod_lt _ (by decide))]
theorem made_rows {w : World} {g n : Nat} (h : Blk w g 113 (madeCells zS (n * 128))) : Rows w g 113 (List.replicate n (List.replicate 128 0)) := by
  refine ⟨⟨_, h, by rw [size_madeCells]; simp⟩, fun i r hr => ?_⟩
  have hi : i < n := by
    have := (List.getElem?_eq_some_iff.1 hr).1
    simpa using this
  rw [List.getElem?_replicate, if_pos hi] at hr
  injection hr with hr
  subst hr
  refine ⟨by simp, fun j v hv => ?_⟩
  rw [List.map_replicate, List.getElem?_replicate] at hv
  split at hv
  · injection hv with hv
    subst hv
    rw [h.cell]
    refine made_at _ _ ?_
    have : (i + 1) * 128 ≤ n * 128 := Nat.mul_le_mul_right _ hi
    rw [Nat.succ_mul] at this
    omega
  · cases hv

/-- New, where there may be so many -/
theorem new_dk (n : Nat) (hn : 1 ≤ n) (hn2 : n ≤ 4096) (w : World) (z gl gr : Nat) (hz : z = w.heap.size) (hg : (gl = z ∧ gr = z + 1) ∨ (gl = z + 1 ∧ gr = z)) :
    Dk (((w.alloc (.cells (madeCells zS (n * 128)) 113)).alloc (.cells (madeCells zS (n * 128)) 113)).alloc (.cells #[.slice (some ⟨gl, 0, none⟩) n n, .slice (some ⟨gr, 0, none⟩) n n, .slice none 0 0, .bool false, .bool false, .int .i64 0] 89))
      (fun k => z ≤ k ∧ k < z + 3) (z + 2) n (newS n) ∧
    Adv Nul w (fun k => z ≤ k ∧ k < z + 3) (((w.alloc (.cells (madeCells zS (n * 128)) 113)).alloc (.cells (madeCells zS (n * 128)) 113)).alloc (.cells #[.slice (some ⟨gl, 0, none⟩) n n, .slice (some ⟨gr, 0, none⟩) n n, .slice none 0 0, .bool false, .bool false, .int .i64 0] 89)) := by
  subst hz
  obtain ⟨C, hC⟩ : ∃ C, C = madeCells zS (n * 128) := ⟨_, rfl⟩
  have hb0 : Blk (w.alloc (.cells C 113)) w.heap.size 113 C := Blk.new _ _ _
  have hb1 : Blk ((w.alloc (.cells C 113)).alloc (.cells C 113)) (w.heap.size + 1) 113 C := by
    have := Blk.new (w.alloc (.cells C 113)) 113 C
    simpa using this
  have hb2 : ∀ D, Blk (((w.alloc (.cells C 113)).alloc (.cells C 113)).alloc (.cells D 89)) (w.heap.size + 2) 89 D := fun D => by
    have := Blk.new ((w.alloc (.cells C 113)).alloc (.cells C 113)) 89 D
    simpa using this
  rw [← hC]
  refine ⟨⟨newS_ok n, gl, gr, .slice none 0 0, hb2 _, hn, hn2, by simp [newS], by simp [newS, lays], fun q hq => by simp [newS] at hq, ?_, ?_, ?_, by omega, by omega, by omega, by omega, ⟨_, hb2 _⟩⟩, ?_⟩
  · have h0 := made_rows (hC ▸ (hb0.alloc (.cells C 113)).alloc (.cells #[.slice (some ⟨gl, 0, none⟩) n n, .slice (some ⟨gr, 0, none⟩) n n, .slice none 0 0, .bool false, .bool false, .int .i64 0] 89))
    have h1 := made_rows (hC ▸ hb1.alloc (.cells #[.slice (some ⟨gl, 0, none⟩) n n, .slice (some ⟨gr, 0, none⟩) n n, .slice none 0 0, .bool false, .bool false, .int .i64 0] 89))
    rw [← hC] at h0 h1
    rcases hg with ⟨rfl, rfl⟩ | ⟨rfl, rfl⟩
    · exact h0
    · exact h1
  · have h0 := made_rows (hC ▸ (hb0.alloc (.cells C 113)).alloc (.cells #[.slice (some ⟨gl, 0, none⟩) n n, .slice (some ⟨gr, 0, none⟩) n n, .slice none 0 0, .bool false, .bool false, .int .i64 0] 89))
    have h1 := made_rows (hC ▸ hb1.alloc (.cells #[.slice (some ⟨gl, 0, none⟩) n n, .slice (some ⟨gr, 0, none⟩) n n, .slice none 0 0, .bool false, .bool false, .int .i64 0] 89))
    rw [← hC] at h0 h1
    rcases hg with ⟨rfl, rfl⟩ | ⟨rfl, rfl⟩
    · exact h1
    · exact h0
  · exact Sl.nilF _ _ (fun k hk => by simp; omega) _ _
  · exact ⟨rfl, rfl, rfl, by simp; omega, fun k hk _ => by rw [Below.heap_alloc _ _ _ (by simp; omega), Below.heap_alloc _ _ _ (by simp; omega), Below.heap_alloc _ _ _ hk], fun k hk => .inr hk.1⟩

set_option maxRecDepth 3000 in
set_option maxHeartbeats 400000 in
theorem new_r (n : Nat) (hn : 1 ≤ n) (hn2 : n ≤ 4096) (w : World) :
    Calls Tryz.prog 9 #[.int .i64 (n : Int)] w fun e w' => ∃ d F, e = .returned (.tuple #[.pointer (some ⟨d, 0, none⟩), .int .i64 0]) ∧ Dk w' F d n (newS n) ∧ Adv Nul w F w' := by
  have h1 : (1 : Int) ≤ (n : Int) := by omega
  have h2 : (n : Int) ≤ 4096 := by omega
  obtain ⟨C, hC⟩ : ∃ C, C = madeCells zS (n * 128) := ⟨_, rfl⟩
  have hmk := made_sectors n hn2
  rw [← hC] at hmk
  have hfin : ∀ w : World, ∀ z gl gr : Nat, z = w.heap.size → ((gl = z ∧ gr = z + 1) ∨ (gl = z + 1 ∧ gr = z)) → _ := fun w z gl gr => new_dk n hn hn2 w z gl gr
  rw [← hC] at hfin
  have HF := Lib.hid hfin
  clear hfin hC
  go_enter Tryz.func9, Tryz.ntmps9
  go_wp2_with fail
  go_region
  · go_wp2
    go_ret2
    obtain ⟨k1, k2⟩ := HF.out w _ _ _ rfl (.inl ⟨rfl, rfl⟩)
    exact ⟨_, _, rfl, k1.drewN 1, k2.drew⟩
  · go_wp2
    go_ret2
    obtain ⟨k1, k2⟩ := HF.out w _ _ _ rfl (.inr ⟨rfl, rfl⟩)
    exact ⟨_, _, rfl, k1.drewN 1, k2.drew⟩

set_option maxRecDepth 3000 in
set_option maxHeartbeats 800000 in
theorem read_r (d gl gr n : Nat) (vQ : Value) (F : Nat → Prop) (R : List (List Nat)) (s : DS) (i : Nat) (w : World) (h : DkR w F d gl gr vQ n R s) (hi : i < n) :
    Calls Tryz.prog 105 #[.pointer (some ⟨d, 0, none⟩), .int .i64 (i : Int)] w fun e w' => ∃ z, e = .returned (.tuple #[.slice (some ⟨z, 0, none⟩) 128 128, .int .i64 0]) ∧ Blk w' z 113 ((R.getD i []).map u8).toArray ∧ (R.getD i []).length = 128 ∧ Adv Nul w (fun k => k = z) w' := by
  have c0 := h.c0
  have c1 := h.c1
  have hi0 : (0 : Int) ≤ (i : Int) := by omega
  have hin : (i : Int) < (n : Int) := by omega
  have hiR : i < R.length := by rw [h.b.lenR]; exact hi
  have hr := h.b.reads.at_ hiR
  have hl : (R.getD i []).length = 128 := by
    rw [List.getD_eq_getElem?_getD, List.getElem?_eq_getElem hiR]
    exact (h.b.reads.row i _ (List.getElem?_eq_getElem hiR)).1
  obtain ⟨r, hre⟩ : ∃ r, r = R.getD i [] := ⟨_, rfl⟩
  rw [← hre] at hr hl ⊢
  have HR := Lib.hid hr
  have HL := Lib.hid hl
  have hz : Blk (w.alloc (.cells (r.map u8).toArray 113)) w.heap.size 113 (r.map u8).toArray := Blk.new _ _ _
  have ha : Adv Nul w (fun k => k = w.heap.size) (w.alloc (.cells (r.map u8).toArray 113)) :=
    ⟨rfl, rfl, rfl, by simp, fun k hk _ => Below.heap_alloc _ _ _ hk, fun k hk => .inr (by omega)⟩
  have HZ := Lib.hid hz
  have HA := Lib.hid ha
  clear h hr hl hre hiR hz ha
  go_enter Tryz.func105, Tryz.ntmps105
  go_wp2_with (first
    | (go_at_call 58; refine (made_r _ _ _ _ c0).mono ?_; rintro e w1 ⟨rfl, rfl⟩)
    | (go_at_call 138; refine (has_r _ _ _ _ _ c0).mono ?_; rintro e w1 ⟨rfl, rfl⟩; rw [decide_eq_true (show 0 ≤ (i : Int) ∧ (i : Int) < (n : Int) from ⟨hi0, hin⟩)])
    | (refine op_load_sector rfl _ rfl gr (i * 128) r HL.out HR.out rfl ?_)
    | (refine op_alloc_sector rfl rfl ?_)
    | (refine op_store_sector rfl _ _ rfl _ rfl r HL.out rfl rfl ?_)
    | fail)
  go_ret2
  exact ⟨_, rfl, HZ.out, HL.out, HA.out⟩

set_option maxRecDepth 3000 in
theorem read_bad (d gl n : Nat) (i : Int) (w : World) (c0 : w.cell? ⟨d, 0, none⟩ = some (.slice (some ⟨gl, 0, none⟩) n n)) (hi : ¬ (0 ≤ i ∧ i < (n : Int))) :
    Calls Tryz.prog 105 #[.pointer (some ⟨d, 0, none⟩), .int .i64 i] w fun e w' => e = .returned (.tuple #[.slice none 0 0, .int .i64 2]) ∧ w = w' := by
  have HI := Lib.hid hi
  clear hi
  go_enter Tryz.func105, Tryz.ntmps105
  go_wp2_with (first
    | (go_at_call 58; refine (made_r _ _ _ _ c0).mono ?_; rintro e w1 ⟨rfl, rfl⟩)
    | (go_at_call 138; refine (has_r _ _ _ _ _ c0).mono ?_; rintro e w1 ⟨rfl, rfl⟩; rw [decide_eq_false HI.out])
    | fail)
  go_ret2
  exact ⟨rfl, rfl⟩
end Go.Proofs.YtcglfknkkeaegaaGreatDoor
namespace Go.Proofs.YtcglfknkkeaegaaGreatDoor
open Go.RowKit

/-- what waits has grown by one -/
theorem DkB.grown {w w2 w3 : World} {F : Nat → Prop} {d gl gr n : Nat} {vQ v' : Value} {L R : List (List Nat)} {Q : List (Nat × List Nat)} {q : Nat × List Nat} (h : DkB w F d gl gr vQ n L R Q) (ha : Adv F w F w2) (hk : ∀ k, F k → w2.heap[k]? = w.heap[k]?)
    (hq : q.1 < n ∧ q.2.length = 128) (hown : w3.ownsRow 0 115 129 v' (Q.length + 1) (Q.flatMap wcells ++ wcells q)) (hg : w2.grownBy w3 vQ.ownBlock) (hat : v'.ownBlock = vQ.ownBlock ∨ v'.ownBlock = some w2.heap.size) :
    DkB w3 (fun k => F k ∨ v'.ownBlock = some k) d gl gr v' n L R (Q ++ [q]) ∧ Adv F w (fun k => F k ∨ v'.ownBlock = some k) w3 ∧ w3.heap[d]? = w.heap[d]? := by
  obtain ⟨cs, hc⟩ := h.head
  obtain ⟨cl, hcl, _⟩ := h.lasts.blk
  obtain ⟨cr, hcr, _⟩ := h.reads.blk
  have hA : Adv F w (fun k => F k ∨ v'.ownBlock = some k) w3 := by
    have h1 := ha.grown hg (fun j hj => .inl (h.waits.inF j hj))
    refine ⟨h1.os, h1.tape, h1.output, h1.size, h1.block, ?_⟩
    rintro k (h2 | h2)
    · exact .inl h2
    · rcases hat with e | e
      · exact .inl (h.waits.inF k (by rw [← e]; exact h2))
      · rw [e] at h2; injection h2 with h2; have := ha.size; right; omega
  have far : ∀ g, g < w.heap.size → F g → vQ.ownBlock ≠ some g → w3.heap[g]? = w.heap[g]? := fun g hg0 hF hn => by
    rw [hg.block g (Nat.lt_of_lt_of_le hg0 ha.size) (fun e => hn e.symm), hk g hF]
  have f1 := far gl hcl.lt h.inL (own_blk_ne h.waits.own hcl (by decide))
  have f2 := far gr hcr.lt h.inR (own_blk_ne h.waits.own hcr (by decide))
  have f3 := far d hc.lt h.inD (own_blk_ne h.waits.own hc (by decide))
  refine ⟨⟨h.lo, h.hi, h.lenL, h.lenR, fun x hx => ?_, h.lasts.keep f1, h.reads.keep f2, ⟨?_, fun k hk => .inr hk, ?_⟩, h.ne, .inl h.inD, .inl h.inL, .inl h.inR, ⟨cs, hc.keep f3⟩⟩, hA, f3⟩
  · rcases List.mem_append.1 hx with hx | hx
    · exact h.qs x hx
    · rw [List.mem_singleton] at hx; rw [hx]; exact hq
  · rw [List.length_append, List.length_singleton, List.flatMap_append]
    simpa using hown
  · rintro k (h2 | h2)
    · exact Nat.lt_of_lt_of_le (h.bd k h2) hA.size
    · exact (hown.lt k h2).2

theorem wcells_one (q : Nat × List Nat) : ∀ u ∈ wcells q, u.oneCell' = true := by
  intro v hv
  rcases List.mem_cons.1 hv with rfl | hv
  · rfl
  · exact u8_one _ v hv

set_option maxRecDepth 3000 in
set_option maxHeartbeats 1600000 in
/-- Write, where it may be and the power is on -/
theorem write_ok (d gl gr n i : Nat) (vQ vb : Value) (F : Nat → Prop) (s : DS) (b : List Nat) (w : World) (h : DkR w F d gl gr vQ n (lays s.L s.Q) s) (ho : s.ok n) (hi : i < n) (hb : Rd w 1 vb 128 (b.map u8)) (hbl : b.length = 128)
    (hsep : ∀ k, vb.ownBlock = some k → ¬ F k) (hs : (stepS s).2 = true) (hql : s.Q.length ≤ 1000000) :
    Calls Tryz.prog 165 #[.pointer (some ⟨d, 0, none⟩), .int .i64 (i : Int), vb] w fun e w' => e = .returned (.int .i64 0) ∧ ∃ F' vQ', DkR w' F' d gl gr vQ' n (lays s.L (s.Q ++ [(i, b)])) { (stepS s).1 with Q := s.Q ++ [(i, b)] } ∧ Adv F w F' w' := by
  obtain ⟨A, c, rfl, h128, hcm⟩ := hb.form
  obtain ⟨bb, oo, rfl, hbb, hcell⟩ := hb.cells (by decide) (by decide)
  have hrb : w.rangeAt bb oo (b.map u8) := hcell
  have c0 := h.c0
  have hi0 : (0 : Int) ≤ (i : Int) := by omega
  have hin : (i : Int) < (n : Int) := by omega
  have H := Lib.hid h
  have HO := Lib.hid ho
  have HS := Lib.hid hs
  have HSEP := Lib.hid hsep
  have HRB := Lib.hid hrb
  have HBL := Lib.hid hbl
  have HIN := Lib.hid hi
  clear h ho hs hsep hrb hcell hbl hi hb
  go_enter Tryz.func165, Tryz.ntmps165
  go_wp2_with (first
    | (go_at_call 58; refine (made_r _ _ _ _ c0).mono ?_; rintro e w1 ⟨rfl, rfl⟩)
    | (go_at_call 138; refine (has_r _ _ _ _ _ c0).mono ?_; rintro e w1 ⟨rfl, rfl⟩; rw [decide_eq_true (show 0 ≤ (i : Int) ∧ (i : Int) < (n : Int) from ⟨hi0, hin⟩)])
    | (go_at_call 137; refine (step_r _ _ _ _ _ _ _ _ _ H.out HO.out).mono ?_; rintro e w1 ⟨rfl, h1, a1⟩; rw [HS.out]; obtain ⟨H1, A1, RB1⟩ : Hid (DkR w1 F d gl gr vQ n (lays s.L s.Q) (stepS s).1) ∧ Hid (Adv F w F w1) ∧ Hid (w1.rangeAt bb oo (b.map u8)) := ⟨h1, a1, fun j v hv => (World.cell?_of_block (a1.block bb hbb (fun hf => HSEP.out bb rfl hf))).trans (HRB.out j v hv)⟩; clear h1 a1; simp only [if_true])
    | (refine op_s2a rfl _ rfl _ _ rfl ?_)
    | (refine op_load_sector rfl _ rfl bb oo b HBL.out RB1.out rfl ?_)
    | (refine op_build_write rfl _ _ rfl i b HBL.out rfl rfl ?_)
    | (refine op_alloc_write rfl rfl ?_)
    | (refine op_store_write rfl _ _ rfl _ rfl (i, b) HBL.out rfl rfl ?_)
    | fail)
  simp only [Act.put]
  obtain ⟨z, hz⟩ : ∃ z, z = w1.heap.size := ⟨_, rfl⟩
  obtain ⟨W2, hW2⟩ : ∃ W2, W2 = w1.alloc (.cells (wcells (i, b)).toArray 115) := ⟨_, rfl⟩
  rw [← hz, ← hW2]
  have hzb : Blk W2.drew z 115 (wcells (i, b)).toArray := by rw [hW2, hz]; exact Blk.new _ _ _
  have a2 : Adv F w F W2.drew := by rw [hW2]; exact (A1.out.alloc _).drew
  have h2 : DkR W2.drew F d gl gr vQ n (lays s.L s.Q) (stepS s).1 := H1.out.keep (fun k hk => by rw [hW2]; exact Below.heap_alloc _ _ _ (H1.out.b.bd k hk)) (by rw [hW2]; simp)
  have hzr : z ≠ gr := by rw [hz]; have := H1.out.b.bd gr H1.out.b.inR; omega
  have hgz : ∀ k, F k → k ≠ z := by intro k hk; have := H1.out.b.bd k hk; omega
  have c1 := h2.c1
  have hir : i < (lays s.L s.Q).length := by rw [h2.b.lenR]; exact HIN.out
  have ht : W2.drew.there gr (i * 128) 128 := h2.b.reads.there hir (Nat.le_refl _)
  have hr2 : W2.drew.rangeAt z 1 (b.map u8) := by
    intro j v hv
    rw [hzb.cell]
    simp only [wcells, List.getElem?_toArray]
    rw [show 1 + j = j + 1 by omega, List.getElem?_cons_succ]
    exact hv
  obtain ⟨W3, hW3⟩ : ∃ W3, W3 = W2.drew.setCells gr (i * 128) (b.map u8) := ⟨_, rfl⟩
  have hz3 : Blk W3 z 115 (wcells (i, b)).toArray := by rw [hW3]; exact hzb.keep (setCells_heap _ hzr _ _ _)
  have h3 : DkR W3 F d gl gr vQ n (lays s.L (s.Q ++ [(i, b)])) (stepS s).1 := by
    have hR := h2.b.reads.putAll hir b HBL.out
    rw [lays_snoc, hW3]
    exact ⟨h2.blk.keep (setCells_heap _ h2.b.gr_ne.symm _ _ _), h2.b.setR _ _ (by rw [List.length_set]; exact h2.b.lenR) hR⟩
  have a3 : Adv F w F W3 := by rw [hW3]; exact Adv.setCells _ _ _ a2 (.inl h2.b.inR)
  have c13 := h3.c1
  have HT := Lib.hid ht
  have HR2 := Lib.hid hr2
  have HZ3 := Lib.hid hz3
  have H3 := Lib.hid h3
  have A3 := Lib.hid a3
  have C13 := Lib.hid c13
  have HW3 := Lib.hid hW3
  have HGZ := Lib.hid hgz
  clear hz hW2 hzb a2 h2 hzr hir ht hr2 hz3 h3 a3 c13 H1 A1 RB1 H HRB hW3 hgz
  refine rstart (S := (fun w' => w'.cell? ⟨d, 1, none⟩ = some (.slice (some ⟨gr, 0, none⟩) n n))) (by first | exact c1 | exact C13.out) (fun hH => ?_)
  refine tk (i := 0) (oi := ⟨some 31, .move (.tmp 0), 25, "disk.go:65", #[], none⟩) hH.out (by rintro w s0; go_simp <;> with_reducible rfl) ?_
  simp only [Act.put, sA, sB, sC]
  refine tk (i := 1) (oi := ⟨some 32, .nilCheck (.tmp 31), 0, "disk.go:65", #[⟨0, .data⟩], none⟩) hH.out (by rintro w s0; go_simp <;> with_reducible rfl) ?_
  simp only [Act.put, sA, sB, sC]
  refine tk (i := 2) (oi := ⟨some 33, .fieldAddr 89 (.tmp 32) 1, 0, "disk.go:65", #[⟨1, .data⟩], none⟩) hH.out (by rintro w s0; go_simp <;> with_reducible rfl) ?_
  simp only [Act.put, sA, sB, sC]
  refine tk (i := 3) (oi := ⟨some 34, .load 86 (.tmp 33), 86, "disk.go:65", #[⟨2, .data⟩], none⟩) hH.out (by rintro w s0; go_simp <;> with_reducible rfl) ?_
  simp only [Act.put, sA, sB, sC]
  refine tk (i := 4) (oi := ⟨some 35, .move (.tmp 1), 3, "disk.go:65", #[], none⟩) hH.out (by rintro w s0; go_simp <;> with_reducible rfl) ?_
  simp only [Act.put, sA, sB, sC]
  refine tk (i := 5) (oi := ⟨some 36, .fieldAddr 115 (.tmp 8) 1, 0, "disk.go:65", #[], none⟩) hH.out (by rintro w s0; go_simp <;> with_reducible rfl) ?_
  simp only [Act.put, sA, sB, sC]
  refine rdy (i := 6) (oi := ⟨some 37, .load 113 (.tmp 36), 113, "disk.go:65", #[⟨5, .data⟩], none⟩) (fun K hK => ?_)
  refine st_load_sector rfl _ rfl z 1 b HBL.out HR2.out rfl ?_
  refine hK.out _ _ (by first | exact c1 | exact C13.out) (fun hHeld => ?_)
  replace hH := Lib.hid hHeld
  clear hK K hHeld
  try simp only [Act.put, sA, sB, sC]
  refine tk (i := 7) (oi := ⟨some 38, .indexAddr 86 (.tmp 34) (.tmp 35), 0, "disk.go:65", #[⟨3, .data⟩, ⟨4, .data⟩, ⟨0, .phase⟩, ⟨1, .phase⟩, ⟨2, .phase⟩, ⟨3, .phase⟩, ⟨4, .phase⟩, ⟨5, .phase⟩, ⟨6, .phase⟩], none⟩) hH.out (by rintro w s0; go_simp <;> with_reducible rfl) ?_
  simp only [Act.put, sA, sB, sC]
  refine rdy (i := 8) (oi := ⟨none, .store 113 (.tmp 38) (.tmp 37), 0, "disk.go:65", #[⟨7, .data⟩, ⟨6, .data⟩, ⟨0, .phase⟩, ⟨1, .phase⟩, ⟨2, .phase⟩, ⟨3, .phase⟩, ⟨4, .phase⟩, ⟨5, .phase⟩, ⟨6, .phase⟩], none⟩) (fun K hK => ?_)
  refine st_store_sector rfl _ _ rfl gr (i * 128) b HBL.out HT.out rfl rfl ?_
  rw [← HW3.out]
  refine hK.out _ _ (by first | exact c1 | exact C13.out) (fun hHeld => ?_)
  replace hH := Lib.hid hHeld
  clear hK K hHeld
  try simp only [Act.put]
  refine wpAnyH_done (by kernel_rfl) ?_ _
  go_wp2_with fail
  obtain ⟨W4, hW4⟩ : ∃ W4, W4 = W3.drew.alloc (.cells (wcells (i, b)).toArray 115) := ⟨_, rfl⟩
  have k3 : W3.drew.rangeAt z 0 (wcells (i, b)) := fun j v hv => by
    have := HZ3.out.cell j
    rw [List.getElem?_toArray] at this
    rw [Nat.zero_add]
    exact this.trans hv
  have k4 : W4.rangeAt z 0 (wcells (i, b)) := by rw [hW4]; exact World.rangeAt_alloc k3 _
  have c2 : W3.drew.cell? ⟨d, 2, none⟩ = some vQ := H3.out.c2
  have c24 : W4.cell? ⟨d, 2, none⟩ = some vQ := by rw [hW4]; exact (H3.out.blk.drew.alloc _).cell 2
  have own4 : W4.ownsRow 0 115 129 vQ s.Q.length (s.Q.flatMap wcells) := by
    have h := own_keep (w' := W4) H3.out.b.waits.own (fun k hk => by rw [hW4]; exact Below.heap_alloc W3.drew _ _ (H3.out.b.bd k (H3.out.b.waits.inF k hk)))
    rw [stepS_Q] at h
    exact h
  have hn4 : ∀ j u, (wcells (i, b))[j]? = some u → W4.cell? ((⟨W3.heap.size, 0, none⟩ : Addr).add j) = some u := fun j u hu => by
    rw [add_none, hW4, Nat.zero_add]
    have := (Blk.new W3.drew 115 (wcells (i, b)).toArray).cell j
    rw [List.getElem?_toArray] at this
    exact this.trans hu
  have hfin : ∀ v' w5, w5.ownsRow 0 115 129 v' (s.Q.length + 1) (s.Q.flatMap wcells ++ wcells (i, b)) → W4.grownBy w5 vQ.ownBlock → (v'.ownBlock = vQ.ownBlock ∨ v'.ownBlock = some W4.heap.size) →
      w5.rangeAt z 0 (wcells (i, b)) ∧ w5.cell? ⟨d, 2, none⟩ = some vQ ∧ w5.frozen? ⟨d, 2, none⟩ = false ∧ (w5.setCell ⟨d, 2, none⟩ v').rangeAt z 0 (wcells (i, b)) ∧ (∃ A n c, v' = .slice A n c) ∧
      DkR (w5.setCell ⟨d, 2, none⟩ v') (fun k => F k ∨ v'.ownBlock = some k) d gl gr v' n (lays s.L (s.Q ++ [(i, b)])) { (stepS s).1 with Q := s.Q ++ [(i, b)] } ∧ Adv F w (fun k => F k ∨ v'.ownBlock = some k) (w5.setCell ⟨d, 2, none⟩ v') := by
    intro v' w5 hown hg hat
    have hb3 := H3.out.b
    rw [stepS_Q] at hb3
    obtain ⟨g1, g2, g3⟩ := hb3.grown (w2 := W4) (by rw [hW4]; exact ((Adv.refl F W3).drew).alloc _) (fun k hk => by rw [hW4]; exact Below.heap_alloc W3.drew _ _ (hb3.bd k hk)) (q := (i, b)) ⟨HIN.out, HBL.out⟩ hown hg hat
    have hbl5 := H3.out.blk.keep g3
    have hz5 : w5.heap[z]? = W4.heap[z]? := hg.block z (by
      have := HZ3.out.lt
      rw [hW4]; simp; omega) (fun e => HGZ.out z (hb3.waits.inF z e.symm) rfl)
    have hdz : z ≠ d := fun e => HGZ.out d hb3.inD e.symm
    have r5 : w5.rangeAt z 0 (wcells (i, b)) := fun j v hv => (World.cell?_of_block hz5).trans (k4 j v hv)
    have r6 : (w5.setCell ⟨d, 2, none⟩ v').rangeAt z 0 (wcells (i, b)) := fun j v hv => (World.cell?_of_block (heap_setCell_other w5 _ z _ hdz)).trans (r5 j v hv)
    have hb6 := g1.set_ 2 v'
    refine ⟨r5, hbl5.cell 2, hbl5.frozen 2, r6, ?_, ⟨?_, ?_⟩, ?_⟩
    · rcases hown.2 with ⟨rfl, _⟩ | ⟨_, _, _, rfl, _⟩ <;> exact ⟨_, _, _, rfl⟩
    · exact hbl5.set_ 2 v'
    · rw [stepS_L] at hb6 ⊢
      exact hb6
    · exact (A3.out.trans g2).setCell (p := ⟨d, 2, none⟩) (.inl hb3.inD) v'
  have K4 := Lib.hid k4
  have C24 := Lib.hid c24
  have OWN4 := Lib.hid own4
  have HN4 := Lib.hid hn4
  have HFIN := Lib.hid hfin
  have HW4 := Lib.hid hW4
  clear k4 own4 hn4 hfin hW4 c1
  refine rstart (S := (fun w' => w'.rangeAt z 0 (wcells (i, b)))) (by first | exact k3 | exact K4.out | exact k5 | exact k6) (fun hH => ?_)
  refine tk (i := 0) (oi := ⟨some 39, .move (.tmp 0), 25, "disk.go:66", #[], none⟩) hH.out (by rintro w s0; go_simp <;> with_reducible rfl) ?_
  simp only [Act.put, sA, sB, sC]
  refine tk (i := 1) (oi := ⟨some 40, .move (.tmp 0), 25, "disk.go:66", #[], none⟩) hH.out (by rintro w s0; go_simp <;> with_reducible rfl) ?_
  simp only [Act.put, sA, sB, sC]
  refine tk (i := 2) (oi := ⟨some 41, .nilCheck (.tmp 40), 0, "disk.go:66", #[⟨1, .data⟩], none⟩) hH.out (by rintro w s0; go_simp <;> with_reducible rfl) ?_
  simp only [Act.put, sA, sB, sC]
  refine tk (i := 3) (oi := ⟨some 42, .fieldAddr 89 (.tmp 41) 2, 0, "disk.go:66", #[⟨2, .data⟩], none⟩) hH.out (by rintro w s0; go_simp <;> with_reducible rfl) ?_
  simp only [Act.put, sA, sB, sC]
  refine wpAnyH_take (i := 5) (oi := ⟨some 44, .load 115 (.tmp 8), 115, "disk.go:66", #[], none⟩) (v := .agg (wcells (i, b)).toArray) rfl (by kernel_rfl) (by kernel_rfl) (by kernel_rfl) (fun _ _ _ h => h) (yieldsIf_load_mid (by rfl) 115 (.tmp 8) rfl z 0 rfl (wcells (i, b)) _ (fun w' hw' => hw') Tryz.underlying115 rfl (by rw [sizeWrite, wcells_length HBL.out])) hH.out ?_
  simp only [Act.put, sA, sB, sC]
  refine wpAnyH_ready (rs := [4, 6]) (by kernel_rfl) (by simp) ?_
  refine AllReadyH.cons (o := ⟨some 43, .load 87 (.tmp 42), 87, "disk.go:66", #[⟨3, .data⟩], none⟩) rfl (fun K hK => ?_) (AllReadyH.cons (o := ⟨some 45, .buildSlice 87 1 #[(0, .tmp 44)], 87, "disk.go:66", #[⟨5, .data⟩], none⟩) rfl (fun K hK => ?_) AllReadyH.nil)
  · go_simp
    refine hK.out _ _ (by first | exact k3 | exact K4.out | exact k5 | exact k6) (fun hHeld => ?_)
    replace hH := Lib.hid hHeld
    clear hK K hHeld
    try simp only [Act.put, sA, sB, sC]
    refine rdy (i := 6) (oi := ⟨some 45, .buildSlice 87 1 #[(0, .tmp 44)], 87, "disk.go:66", #[⟨5, .data⟩], none⟩) (fun K hK => ?_)
    refine st_buildSlice_write rfl _ rfl (i, b) HBL.out rfl ?_
    rw [← HW4.out]
    refine hK.out _ _ (by first | exact k3 | exact K4.out | exact k5 | exact k6) (fun hHeld => ?_)
    replace hH := Lib.hid hHeld
    clear hK K hHeld
    try simp only [Act.put, sA, sB, sC]
    refine rdy (i := 7) (oi := ⟨some 46, .call ⟨.builtin .append, #[.tmp 43, .tmp 45], #[87, 87]⟩, 87, "disk.go:66", #[⟨4, .data⟩, ⟨6, .data⟩], none⟩) (fun K hK => ?_)
    refine step_append_own rfl (.tmp 43) (.tmp 45) 87 115 rfl Tryz.underlying87 infoWrite zW_size (by decide) rfl OWN4.out ⟨W3.heap.size, 0, none⟩ 1 1 rfl (wcells (i, b)) (by rw [wcells_length HBL.out]) HN4.out (wcells_one _) (by unfold maxLen; omega) (by omega) ?_
    intro v' w5 hown hg hat
    obtain ⟨k5, e2, e2f, k6, ⟨A2, n2, cc2, rfl⟩, hx⟩ := HFIN.out v' w5 hown hg hat
    have HX := Lib.hid hx
    clear hx hown hg hat
    refine hK.out _ _ (by first | exact k3 | exact K4.out | exact k5 | exact k6) (fun hHeld => ?_)
    replace hH := Lib.hid hHeld
    clear hK K hHeld
    try simp only [Act.put, sA, sB, sC]
    refine tk (i := 8) (oi := ⟨some 47, .nilCheck (.tmp 39), 0, "disk.go:66", #[⟨0, .data⟩, ⟨0, .phase⟩, ⟨1, .phase⟩, ⟨2, .phase⟩, ⟨3, .phase⟩, ⟨4, .phase⟩, ⟨5, .phase⟩, ⟨6, .phase⟩, ⟨7, .phase⟩], none⟩) hH.out (by rintro w s0; go_simp <;> with_reducible rfl) ?_
    simp only [Act.put, sA, sB, sC]
    refine tk (i := 9) (oi := ⟨some 48, .fieldAddr 89 (.tmp 47) 2, 0, "disk.go:66", #[⟨8, .data⟩, ⟨0, .phase⟩, ⟨1, .phase⟩, ⟨2, .phase⟩, ⟨3, .phase⟩, ⟨4, .phase⟩, ⟨5, .phase⟩, ⟨6, .phase⟩, ⟨7, .phase⟩], none⟩) hH.out (by rintro w s0; go_simp <;> with_reducible rfl) ?_
    simp only [Act.put, sA, sB, sC]
    refine rdy (i := 10) (oi := ⟨none, .store 87 (.tmp 48) (.tmp 46), 0, "disk.go:66", #[⟨9, .data⟩, ⟨7, .data⟩, ⟨7, .chain⟩, ⟨0, .phase⟩, ⟨1, .phase⟩, ⟨2, .phase⟩, ⟨3, .phase⟩, ⟨4, .phase⟩, ⟨5, .phase⟩, ⟨6, .phase⟩, ⟨7, .phase⟩], none⟩) (fun K hK => ?_)
    go_simp
    refine hK.out _ _ (by first | exact k3 | exact K4.out | exact k5 | exact k6) (fun hHeld => ?_)
    replace hH := Lib.hid hHeld
    clear hK K hHeld
    try simp only [Act.put]
    refine wpAnyH_done (by kernel_rfl) ?_ _
    go_wp2
    go_ret
    exact ⟨rfl, _, ⟨_, HX.out.1⟩, HX.out.2⟩
  · refine st_buildSlice_write rfl _ rfl (i, b) HBL.out rfl ?_
    rw [← HW4.out]
    have c24 := C24.out
    refine hK.out _ _ (by first | exact k3 | exact K4.out | exact k5 | exact k6) (fun hHeld => ?_)
    replace hH := Lib.hid hHeld
    clear hK K hHeld
    try simp only [Act.put, sA, sB, sC]
    refine rdy (i := 4) (oi := ⟨some 43, .load 87 (.tmp 42), 87, "disk.go:66", #[⟨3, .data⟩], none⟩) (fun K hK => ?_)
    go_simp
    refine hK.out _ _ (by first | exact k3 | exact K4.out | exact k5 | exact k6) (fun hHeld => ?_)
    replace hH := Lib.hid hHeld
    clear hK K hHeld
    try simp only [Act.put, sA, sB, sC]
    refine rdy (i := 7) (oi := ⟨some 46, .call ⟨.builtin .append, #[.tmp 43, .tmp 45], #[87, 87]⟩, 87, "disk.go:66", #[⟨4, .data⟩, ⟨6, .data⟩], none⟩) (fun K hK => ?_)
    refine step_append_own rfl (.tmp 43) (.tmp 45) 87 115 rfl Tryz.underlying87 infoWrite zW_size (by decide) rfl OWN4.out ⟨W3.heap.size, 0, none⟩ 1 1 rfl (wcells (i, b)) (by rw [wcells_length HBL.out]) HN4.out (wcells_one _) (by unfold maxLen; omega) (by omega) ?_
    intro v' w5 hown hg hat
    obtain ⟨k5, e2, e2f, k6, ⟨A2, n2, cc2, rfl⟩, hx⟩ := HFIN.out v' w5 hown hg hat
    have HX := Lib.hid hx
    clear hx hown hg hat
    refine hK.out _ _ (by first | exact k3 | exact K4.out | exact k5 | exact k6) (fun hHeld => ?_)
    replace hH := Lib.hid hHeld
    clear hK K hHeld
    try simp only [Act.put, sA, sB, sC]
    refine tk (i := 8) (oi := ⟨some 47, .nilCheck (.tmp 39), 0, "disk.go:66", #[⟨0, .data⟩, ⟨0, .phase⟩, ⟨1, .phase⟩, ⟨2, .phase⟩, ⟨3, .phase⟩, ⟨4, .phase⟩, ⟨5, .phase⟩, ⟨6, .phase⟩, ⟨7, .phase⟩], none⟩) hH.out (by rintro w s0; go_simp <;> with_reducible rfl) ?_
    simp only [Act.put, sA, sB, sC]
    refine tk (i := 9) (oi := ⟨some 48, .fieldAddr 89 (.tmp 47) 2, 0, "disk.go:66", #[⟨8, .data⟩, ⟨0, .phase⟩, ⟨1, .phase⟩, ⟨2, .phase⟩, ⟨3, .phase⟩, ⟨4, .phase⟩, ⟨5, .phase⟩, ⟨6, .phase⟩, ⟨7, .phase⟩], none⟩) hH.out (by rintro w s0; go_simp <;> with_reducible rfl) ?_
    simp only [Act.put, sA, sB, sC]
    refine rdy (i := 10) (oi := ⟨none, .store 87 (.tmp 48) (.tmp 46), 0, "disk.go:66", #[⟨9, .data⟩, ⟨7, .data⟩, ⟨7, .chain⟩, ⟨0, .phase⟩, ⟨1, .phase⟩, ⟨2, .phase⟩, ⟨3, .phase⟩, ⟨4, .phase⟩, ⟨5, .phase⟩, ⟨6, .phase⟩, ⟨7, .phase⟩], none⟩) (fun K hK => ?_)
    go_simp
    refine hK.out _ _ (by first | exact k3 | exact K4.out | exact k5 | exact k6) (fun hHeld => ?_)
    replace hH := Lib.hid hHeld
    clear hK K hHeld
    try simp only [Act.put]
    refine wpAnyH_done (by kernel_rfl) ?_ _
    go_wp2
    go_ret
    exact ⟨rfl, _, ⟨_, HX.out.1⟩, HX.out.2⟩

set_option maxRecDepth 3000 in
theorem write_bad (d gl n m : Nat) (i : Int) (vb : Value) (w : World) (c0 : w.cell? ⟨d, 0, none⟩ = some (.slice (some ⟨gl, 0, none⟩) n n)) (A : Option Addr) (c : Nat) (hv : vb = .slice A m c) (hi : ¬ (0 ≤ i ∧ i < (n : Int)) ∨ m ≠ 128) :
    Calls Tryz.prog 165 #[.pointer (some ⟨d, 0, none⟩), .int .i64 i, vb] w fun e w' => e = .returned (.int .i64 2) ∧ w = w' := by
  subst hv
  by_cases h1 : 0 ≤ i ∧ i < (n : Int)
  · have hm : ((m : Int) != 128) = true := by
      rw [bne_iff_ne]
      rcases hi with h | h
      · exact absurd h1 h
      · omega
    have HI := Lib.hid h1
    clear hi h1
    go_enter Tryz.func165, Tryz.ntmps165
    go_wp2_with (first
      | (go_at_call 58; refine (made_r _ _ _ _ c0).mono ?_; rintro e w1 ⟨rfl, rfl⟩)
      | (go_at_call 138; refine (has_r _ _ _ _ _ c0).mono ?_; rintro e w1 ⟨rfl, rfl⟩; rw [decide_eq_true HI.out])
      | fail)
    go_ret
    exact ⟨rfl, rfl⟩
  · have HI := Lib.hid h1
    clear hi h1
    go_enter Tryz.func165, Tryz.ntmps165
    go_wp2_with (first
      | (go_at_call 58; refine (made_r _ _ _ _ c0).mono ?_; rintro e w1 ⟨rfl, rfl⟩)
      | (go_at_call 138; refine (has_r _ _ _ _ _ c0).mono ?_; rintro e w1 ⟨rfl, rfl⟩; rw [decide_eq_false HI.out])
      | fail)
    go_ret
    exact ⟨rfl, rfl⟩

set_option maxRecDepth 3000 in
theorem write_dead (d gl gr n i : Nat) (vQ vb : Value) (F : Nat → Prop) (R : List (List Nat)) (s : DS) (w : World) (h : DkR w F d gl gr vQ n R s) (ho : s.ok n) (hi : i < n) (A : Option Addr) (c : Nat) (hv : vb = .slice A 128 c) (hs : (stepS s).2 = false) :
    Calls Tryz.prog 165 #[.pointer (some ⟨d, 0, none⟩), .int .i64 (i : Int), vb] w fun e w' => e = .returned (.int .i64 7) ∧ DkR w' F d gl gr vQ n R (stepS s).1 ∧ Adv F w F w' := by
  subst hv
  have c0 := h.c0
  have hi0 : (0 : Int) ≤ (i : Int) := by omega
  have hin : (i : Int) < (n : Int) := by omega
  have H := Lib.hid h
  have HO := Lib.hid ho
  have HS := Lib.hid hs
  clear h ho hs
  go_enter Tryz.func165, Tryz.ntmps165
  go_wp2_with (first
    | (go_at_call 58; refine (made_r _ _ _ _ c0).mono ?_; rintro e w1 ⟨rfl, rfl⟩)
    | (go_at_call 138; refine (has_r _ _ _ _ _ c0).mono ?_; rintro e w1 ⟨rfl, rfl⟩; rw [decide_eq_true (show 0 ≤ (i : Int) ∧ (i : Int) < (n : Int) from ⟨hi0, hin⟩)])
    | (go_at_call 137; refine (step_r _ _ _ _ _ _ _ _ _ H.out HO.out).mono ?_; rintro e w1 ⟨rfl, h1, a1⟩; rw [HS.out]; have H1 := Lib.hid h1; have A1 := Lib.hid a1; clear h1 a1; simp only [Bool.false_eq_true, if_false])
    | fail)
  go_ret
  exact ⟨rfl, H1.out, A1.out⟩

theorem Dk.len {w : World} {F : Nat → Prop} {d n : Nat} {s : DS} (h : Dk w F d n s) : s.L.length = n := h.1.len

/-- Write -/
theorem write_dk (d n m : Nat) (i : Int) (vb : Value) (F : Nat → Prop) (s : DS) (b : List Nat) (w : World) (h : Dk w F d n s) (hb : Rd w 1 vb m (b.map u8)) (hsep : ∀ k, vb.ownBlock = some k → ¬ F k) (hql : s.Q.length ≤ 1000000) :
    Calls Tryz.prog 165 #[.pointer (some ⟨d, 0, none⟩), .int .i64 i, vb] w fun e w' => e = .returned (.int .i64 (writeS s i b).2) ∧ ∃ F', Dk w' F' d n (writeS s i b).1 ∧ Adv F w F' w' := by
  have hn := h.len
  have hok := writeS_ok h.1 i b
  obtain ⟨ho, gl, gr, vQ, hr⟩ := h
  obtain ⟨A, c, hv, _, _⟩ := hb.form
  have hbl : b.length = m := by obtain ⟨_, _, _, _, _, h, _⟩ := hb; simpa using h
  by_cases hc : i < 0 ∨ (s.L.length : Int) ≤ i ∨ b.length ≠ 128
  · refine (write_bad d gl n m i vb w hr.c0 A c hv (by
      rw [hbl, hn] at hc
      rcases hc with h | h | h
      · left; omega
      · left; omega
      · exact .inr h)).mono ?_
    rintro e w' ⟨rfl, rfl⟩
    unfold writeS
    rw [if_pos hc]
    exact ⟨rfl, F, ⟨ho, gl, gr, vQ, hr⟩, Adv.refl _ _⟩
  · have hi0 : 0 ≤ i := by omega
    have hin : i < (n : Int) := by omega
    obtain ⟨j, rfl⟩ := Int.eq_ofNat_of_zero_le hi0
    have h128 : b.length = 128 := by omega
    have hm : m = 128 := by omega
    subst hm
    unfold writeS at hok ⊢
    rw [if_neg hc] at hok ⊢
    cases hs : (stepS s).2 with
    | true =>
      rw [hs] at hok
      simp only [if_true, Int.toNat_natCast] at hok ⊢
      refine (write_ok d gl gr n j vQ vb F s b w hr ho (by omega) hb h128 hsep hs hql).mono ?_
      rintro e w' ⟨rfl, F', vQ', h1, h2⟩
      refine ⟨rfl, F', ⟨hok, gl, gr, vQ', ?_⟩, h2⟩
      have e : lays (stepS s).1.L (s.Q ++ [(j, b)]) = lays s.L (s.Q ++ [(j, b)]) := by rw [stepS_L]
      show DkR w' F' d gl gr vQ' n (lays (stepS s).1.L (s.Q ++ [(j, b)])) _
      rw [e]
      exact h1
    | false =>
      simp only [Bool.false_eq_true, if_false]
      refine (write_dead d gl gr n j vQ vb F _ s w hr ho (by omega) A c hv hs).mono ?_
      rintro e w' ⟨rfl, h1, h2⟩
      refine ⟨rfl, F, ⟨stepS_ok ho, gl, gr, vQ, ?_⟩, h2⟩
      rw [stepS_L, stepS_Q]
      exact h1
end Go.Proofs.YtcglfknkkeaegaaGreatDoor
namespace Go.Proofs.YtcglfknkkeaegaaGreatDoor
open Go.RowKit

theorem DkB.wait_at {w : World} {F : Nat → Prop} {d gl gr n : Nat} {vQ : Value} {L R : List (List Nat)} {Q : List (Nat × List Nat)} (h : DkB w F d gl gr vQ n L R Q) {k : Nat} (hk : k < Q.length) :
    ∃ g c, vQ = .slice (some ⟨g, 0, none⟩) Q.length c ∧ F g ∧ w.rangeAt g (k * 129) (wcells (Q.getD k (0, []))) ∧ (Q.getD k (0, [])).1 < n ∧ (Q.getD k (0, [])).2.length = 128 := by
  obtain ⟨g, c, rfl, hF, _⟩ := h.waits.form (by omega)
  have hm := h.qs _ (getD_mem hk)
  refine ⟨g, c, rfl, hF, fun j v hv => ?_, hm.1, hm.2⟩
  have hj : j < 129 := by
    have := (List.getElem?_eq_some_iff.1 hv).1
    rw [wcells_length hm.2] at this
    exact this
  have hlt : k * 129 + j < Q.length * 129 := by
    have : (k + 1) * 129 ≤ Q.length * 129 := Nat.mul_le_mul_right _ hk
    rw [Nat.succ_mul] at this
    omega
  rw [h.waits.own.cellAt (k * 129 + j) hlt, flat_at wcells 129 Q (fun x hx => wcells_length (h.qs x hx).2) k j hk hj]
  rw [List.getD_eq_getElem?_getD, List.getElem?_eq_getElem hk] at hv
  exact hv

/-- nothing waits any more -/
theorem DkB.clear {w : World} {F : Nat → Prop} {d gl gr n : Nat} {vQ : Value} {L R : List (List Nat)} {Q : List (Nat × List Nat)} (h : DkB w F d gl gr vQ n L R Q) : DkB w F d gl gr (.slice none 0 0) n L R [] :=
  ⟨h.lo, h.hi, h.lenL, h.lenR, fun q hq => by simp at hq, h.lasts, h.reads, Sl.nilF _ _ h.bd _ _, h.ne, h.inD, h.inL, h.inR, h.head⟩

theorem DkR.alloc {w : World} {F : Nat → Prop} {d gl gr n : Nat} {vQ : Value} {R : List (List Nat)} {s : DS} (h : DkR w F d gl gr vQ n R s) (ob : Obj) : DkR (w.alloc ob) F d gl gr vQ n R s :=
  h.keep (fun k hk => Below.heap_alloc _ _ _ (h.b.bd k hk)) (by simp)

def FlRel (w : World) (F : Nat → Prop) (d gl gr n : Nat) (vQ : Value) (R L0 : List (List Nat)) (s : DS) (c : Nat → Nat) (t : Value) (wr : World) : Prop :=
  ∃ k, t = .int .i64 ((k : Nat) : Int) ∧ k ≤ s.Q.length ∧ DkR wr F d gl gr vQ n R { s with L := laysBy c s.Q L0 k } ∧ Adv F w F wr

set_option maxRecDepth 3000 in
set_option maxHeartbeats 1600000 in
theorem flush_ok (d gl gr n : Nat) (vQ : Value) (F : Nat → Prop) (s : DS) (w : World) (h : DkR w F d gl gr vQ n (lays s.L s.Q) s) (ho : s.ok n) (hs : (stepS s).2 = true) :
    Calls Tryz.prog 104 #[.pointer (some ⟨d, 0, none⟩)] w fun e w' => e = .returned (.int .i64 0) ∧ DkR w' F d gl gr (.slice none 0 0) n (lays s.L s.Q) { (stepS s).1 with L := lays s.L s.Q, Q := [] } ∧ Adv F w F w' := by
  have c0 := h.c0
  have H := Lib.hid h
  have HO := Lib.hid ho
  have HS := Lib.hid hs
  clear h ho hs
  go_enter Tryz.func104, Tryz.ntmps104
  go_wp2_with (first
    | (go_at_call 58; refine (made_r _ _ _ _ c0).mono ?_; rintro e w1 ⟨rfl, rfl⟩)
    | (go_at_call 137; refine (step_r _ _ _ _ _ _ _ _ _ H.out HO.out).mono ?_; rintro e w1 ⟨rfl, h1, a1⟩; rw [HS.out]; have c12 := h1.c2; obtain ⟨aq, cq, rfl, hqc, hqm⟩ := h1.b.waits.form0; unfold maxLen at hqm; have H1 := Lib.hid h1; have A1 := Lib.hid a1; clear h1 a1; simp only [if_true])
    | fail)
  obtain ⟨s1, hs1⟩ : ∃ s1, s1 = (stepS s).1 := ⟨_, rfl⟩
  have hL1 : s1.L = s.L := by rw [hs1, stepS_L]
  have hQ1 : s1.Q = s.Q := by rw [hs1, stepS_Q]
  rw [← hs1] at H1 ⊢
  rw [← hs1] at hqc
  have HS1 := Lib.hid hs1
  have HL1 := Lib.hid hL1
  have HQ1 := Lib.hid hQ1
  obtain ⟨M, hM⟩ : ∃ M, M = s1.Q.length := ⟨_, rfl⟩
  rw [← hM] at hqc
  have HM := Lib.hid hM
  clear hs1 hL1 hQ1 c12 H hM
  go_loopw [19] (FlRel w F d gl gr n (.slice aq s1.Q.length cq) (lays s.L s.Q) s1.L s1 (fun _ => 128)) (fun t _ => s1.Q.length - (intOf t).toNat)
  case atStart => exact ⟨0, rfl, Nat.zero_le _, H1.out, A1.out⟩
  case round =>
    obtain ⟨k, rfl, hk, hr, ha⟩ := hrel
    by_cases hlt : k < s1.Q.length
    · have hkM : k + 1 ≤ 9223372036854775807 := by have := HM.out; omega
      obtain ⟨g, c, e, hFg, hrg, hq1, hq2⟩ := hr.b.wait_at hlt
      injection e with e1 e2 e3
      subst e1
      clear e2 e3
      have hstep : laysBy (fun _ => 128) s1.Q s1.L (k + 1) = layN (laysBy (fun _ => 128) s1.Q s1.L k) (s1.Q.getD k (0, [])) 128 := rfl
      obtain ⟨q, hq⟩ : ∃ q, q = s1.Q.getD k (0, []) := ⟨_, rfl⟩
      rw [← hq] at hrg hq1 hq2 hstep
      have hnew : (wr.alloc (.cells (wcells q).toArray 115)).rangeAt wr.heap.size 0 (wcells q) := fun j v hv => by
        rw [Nat.zero_add, (Blk.new wr 115 (wcells q).toArray).cell j, List.getElem?_toArray]
        exact hv
      have hr2 := hr.alloc (.cells (wcells q).toArray 115)
      have ha2 := ha.alloc (.cells (wcells q).toArray 115)
      have HR2 := Lib.hid hr2
      have HA2 := Lib.hid ha2
      have HRG := Lib.hid hrg
      have HQ1b := Lib.hid hq1
      have HQ2 := Lib.hid hq2
      have HNEW := Lib.hid hnew
      have HST := Lib.hid hstep
      clear hr ha hrg hq1 hq2 hnew hq hr2 ha2 hstep
      go_wp2_with (first
        | (go_at_call 59; refine (lay_r _ _ _ _ _ _ _ _ q 128 _ HR2.out HQ1b.out HQ2.out (Nat.le_refl _)).mono ?_; rintro e w2 ⟨rfl, h2, a2⟩; have H2 := Lib.hid h2; have A2 := Lib.hid a2; clear h2 a2)
        | (refine op_load_write rfl _ rfl g (k * 129) q HQ2.out HRG.out rfl ?_)
        | (refine op_load_write rfl _ rfl wr.heap.size 0 q HQ2.out HNEW.out rfl ?_)
        | (refine op_alloc_write rfl rfl ?_)
        | (refine op_store_write rfl _ _ rfl _ rfl q HQ2.out rfl rfl ?_)
        | fail)
      refine ⟨⟨k + 1, by simp, by omega, ?_, HA2.out.trans A2.out⟩, by simp [intOf]; omega⟩
      rw [HST.out]
      exact H2.out
    · obtain rfl : k = s1.Q.length := by omega
      have c2 := hr.c2
      have f2 := hr.blk.frozen 2
      have hr3 : DkR (wr.setCell ⟨d, 2, none⟩ (.slice none 0 0)) F d gl gr (.slice none 0 0) n (lays s.L s.Q) { s1 with L := laysBy (fun _ => 128) s1.Q s1.L s1.Q.length, Q := [] } :=
        ⟨hr.blk.set_ 2 _, (hr.b.set_ 2 _).clear⟩
      have ha3 := ha.setCell (p := ⟨d, 2, none⟩) (.inl hr.b.inD) (.slice none 0 0)
      have HR3 := Lib.hid hr3
      have HA3 := Lib.hid ha3
      clear hr ha hr3 ha3
      go_wp2_with fail
      go_ret
      refine ⟨rfl, ?_, HA3.out⟩
      have hall := laysBy_all s.Q s.L HO.out.row (fun q hq => by rw [HO.out.len]; exact HO.out.at_ q hq) s.Q.length (Nat.le_refl _)
      rw [List.take_length] at hall
      have h := HR3.out
      rw [HQ1.out, HL1.out, hall] at h
      rw [← HS1.out]
      exact h

set_option maxRecDepth 3000 in
theorem flush_dead (d gl gr n : Nat) (vQ : Value) (F : Nat → Prop) (R : List (List Nat)) (s : DS) (w : World) (h : DkR w F d gl gr vQ n R s) (ho : s.ok n) (hs : (stepS s).2 = false) :
    Calls Tryz.prog 104 #[.pointer (some ⟨d, 0, none⟩)] w fun e w' => e = .returned (.int .i64 7) ∧ DkR w' F d gl gr vQ n R (stepS s).1 ∧ Adv F w F w' := by
  have c0 := h.c0
  have H := Lib.hid h
  have HO := Lib.hid ho
  have HS := Lib.hid hs
  clear h ho hs
  go_enter Tryz.func104, Tryz.ntmps104
  go_wp2_with (first
    | (go_at_call 58; refine (made_r _ _ _ _ c0).mono ?_; rintro e w1 ⟨rfl, rfl⟩)
    | (go_at_call 137; refine (step_r _ _ _ _ _ _ _ _ _ H.out HO.out).mono ?_; rintro e w1 ⟨rfl, h1, a1⟩; rw [HS.out]; have H1 := Lib.hid h1; have A1 := Lib.hid a1; clear h1 a1; simp only [Bool.false_eq_true, if_false])
    | fail)
  go_ret
  exact ⟨rfl, H1.out, A1.out⟩

/-- Flush -/
theorem flush_dk (d n : Nat) (F : Nat → Prop) (s : DS) (w : World) (h : Dk w F d n s) :
    Calls Tryz.prog 104 #[.pointer (some ⟨d, 0, none⟩)] w fun e w' => e = .returned (.int .i64 (flushS s).2) ∧ Dk w' F d n (flushS s).1 ∧ Adv F w F w' := by
  have hok := flushS_ok h.1
  obtain ⟨ho, gl, gr, vQ, hr⟩ := h
  unfold flushS at hok ⊢
  cases hs : (stepS s).2 with
  | true =>
    rw [hs] at hok
    simp only [if_true] at hok ⊢
    refine (flush_ok d gl gr n vQ F s w hr ho hs).mono ?_
    rintro e w' ⟨rfl, h1, h2⟩
    exact ⟨rfl, ⟨hok, gl, gr, _, h1⟩, h2⟩
  | false =>
    simp only [Bool.false_eq_true, if_false]
    refine (flush_dead d gl gr n vQ F _ s w hr ho hs).mono ?_
    rintro e w' ⟨rfl, h1, h2⟩
    refine ⟨rfl, ⟨stepS_ok ho, gl, gr, vQ, ?_⟩, h2⟩
    rw [stepS_L, stepS_Q]
    exact h1
end Go.Proofs.YtcglfknkkeaegaaGreatDoor
namespace Go.Proofs.YtcglfknkkeaegaaGreatDoor
open Go.RowKit
end Go.Proofs.YtcglfknkkeaegaaGreatDoor
namespace Go.Proofs.YtcglfknkkeaegaaGreatDoor
open Go.RowKit
end Go.Proofs.YtcglfknkkeaegaaGreatDoor
namespace Go.Proofs.YtcglfknkkeaegaaGreatDoor
open Go.RowKit
end Go.Proofs.YtcglfknkkeaegaaGreatDoor
namespace Go.Proofs.YtcglfknkkeaegaaGreatDoor
open Go.RowKit
end Go.Proofs.YtcglfknkkeaegaaGreatDoor
namespace Go.Proofs.YtcglfknkkeaegaaGreatDoor
open Go.RowKit
end Go.Proofs.YtcglfknkkeaegaaGreatDoor
namespace Go.Proofs.YtcglfknkkeaegaaGreatDoor
open Go.RowKit
end Go.Proofs.YtcglfknkkeaegaaGreatDoor
namespace Go.Proofs.YtcglfknkkeaegaaGreatDoor
open Go.RowKit

/-- Read -/
theorem read_dk (d n : Nat) (F : Nat → Prop) (s : DS) (i : Nat) (w : World) (h : Dk w F d n s) (hi : i < n) :
    Calls Tryz.prog 105 #[.pointer (some ⟨d, 0, none⟩), .int .i64 (i : Int)] w fun e w' => ∃ z, e = .returned (.tuple #[.slice (some ⟨z, 0, none⟩) 128 128, .int .i64 0]) ∧ Blk w' z 113 ((isS s i).map u8).toArray ∧ (isS s i).length = 128 ∧ Adv Nul w (fun k => k = z) w' := by
  obtain ⟨ho, gl, gr, vQ, hr⟩ := h
  exact read_r d gl gr n vQ F _ s i w hr hi
theorem read_none (d n : Nat) (F : Nat → Prop) (s : DS) (i : Int) (w : World) (h : Dk w F d n s) (hi : ¬ (0 ≤ i ∧ i < (n : Int))) :
    Calls Tryz.prog 105 #[.pointer (some ⟨d, 0, none⟩), .int .i64 i] w fun e w' => e = .returned (.tuple #[.slice none 0 0, .int .i64 2]) ∧ w = w' := by
  obtain ⟨ho, gl, gr, vQ, hr⟩ := h
  exact read_bad d gl n i w hr.c0 hi
theorem size_dk (d n : Nat) (F : Nat → Prop) (s : DS) (w : World) (h : Dk w F d n s) :
    Calls Tryz.prog 41 #[.pointer (some ⟨d, 0, none⟩)] w fun e w' => e = .returned (.int .i64 (n : Int)) ∧ w = w' := by
  obtain ⟨ho, gl, gr, vQ, hr⟩ := h
  exact size_r d gl n w hr.c0
end Go.Proofs.YtcglfknkkeaegaaGreatDoor
namespace Go.Proofs.YtcglfknkkeaegaaGreatDoor
open Go.RowKit

theorem Blk.sl8 {w : World} {z : Nat} {t : TypeId} {l : List Nat} (h : Blk w z t (l.map u8).toArray) (hl : l.length = 128) : Sl w (fun k => k = z) t 1 (.slice (some ⟨z, 0, none⟩) 128 128) 128 (l.map u8) :=
  ⟨⟨by simp [hl], .inr ⟨z, 128, _, rfl, Nat.zero_le _, h, Nat.le_refl _, by decide, by simp [hl], by simp; rw [← hl, ← List.map_take, List.take_length]⟩⟩, fun k hk => by
    have : z = k := by simpa [Value.ownBlock] using hk
    exact this.symm, fun k hk => by rw [hk]; exact h.lt⟩
end Go.Proofs.YtcglfknkkeaegaaGreatDoor
