/- Variables of many cells: made, stored, loaded, handed back as one; the world that is left has a name. -/
import Derived.Test.YtpgeebhepegpaaaOne
import Derived.Deep.MidRow
namespace Go.Proofs.Ytpgeebhepegpaaa
open Go.ChangeShapes Go.WideShapes Go.ChangeAt Go.RowKit

set_option maxRecDepth 3000 in
theorem isetCells_heap (b : Nat) {k : Nat} (hk : k ≠ b) : ∀ (vs : List Value) (o : Nat) (w : World), (w.setCells b o vs).heap[k]? = w.heap[k]?
  | [], _, _ => rfl
  | v :: r, o, w => by
    rw [World.setCells, isetCells_heap b hk r]
    exact heap_setCell_other w ⟨b, o, none⟩ k v hk
set_option maxRecDepth 3000 in
theorem Adv.isetCells {F F' : Nat → Prop} {w : World} {g : Nat} : ∀ (vs : List Value) (o : Nat) (w' : World), Adv F w F' w' → (F g ∨ w.heap.size ≤ g) → Adv F w F' (w'.setCells g o vs)
  | [], _, _, h, _ => h
  | v :: r, o, w', h, hg => by
    rw [World.setCells]
    exact Adv.isetCells r (o + 1) _ (h.setCell (p := ⟨g, o, none⟩) hg v) hg
set_option maxRecDepth 3000 in
theorem Blk.isetCells {g : Nat} {t : TypeId} : ∀ (vs : List Value) (o : Nat) (w : World) (cs : Array Value), Blk w g t cs → ∃ cs', Blk (w.setCells g o vs) g t cs' ∧ cs'.size = cs.size
  | [], _, _, cs, h => ⟨cs, h, rfl⟩
  | v :: r, o, w, cs, h => by
    rw [World.setCells]
    obtain ⟨cs', h1, h2⟩ := Blk.isetCells r (o + 1) _ _ (h.set_ o v)
    exact ⟨cs', h1, by rw [h2]; simp⟩


set_option maxRecDepth 3000 in
theorem Blk.iputAll {w : World} {g : Nat} {t : TypeId} {C D : Array Value} (h : Blk w g t C) (hs : D.size = C.size) : Blk (w.setCells g 0 D.toList) g t D := by
  obtain ⟨C', h1, h2⟩ := Blk.isetCells D.toList 0 w C h
  have e : C' = D := by
    apply Array.ext (by omega)
    intro k hk1 hk2
    have hin := World.cell?_setCells_in g D.toList 0 w (fun j hj => by
      rw [h.cell (0 + j), Nat.zero_add, Array.getElem?_eq_getElem (by simp at hj; omega)]; rfl) k (by simpa using hk2)
    rw [Nat.zero_add, h1.cell k, Array.getElem?_eq_getElem hk1] at hin
    simpa using hin
  rw [← e]; rw [e] at h1 ⊢; exact h1
set_option maxRecDepth 3000 in
theorem Blk.ithere {w : World} {g : Nat} {t : TypeId} {C : Array Value} (h : Blk w g t C) : w.there g 0 C.size := fun j hj =>
  ⟨by rw [h.cell (0 + j), Nat.zero_add, Array.getElem?_eq_getElem hj]; rfl, h.frozen (0 + j)⟩
set_option maxRecDepth 3000 in
theorem Blk.range {w : World} {z : Nat} {t : TypeId} {C : Array Value} (h : Blk w z t C) : w.rangeAt z 0 C.toList := fun j v hv => by
  rw [Nat.zero_add, h.cell]
  simpa using hv
section
variable {ops : Array Oper} {rest : List Oper} {o : Oper} {a : Act} {w : World} {Q : Exit → Act → World → Prop}
set_option maxRecDepth 3000 in
theorem aop_alloc {t : TypeId} {C : Array Value} {s b : Nat} (hgd : o.guard = none) (ho : o.op = .alloc t) (hz : (Try.prog.info? t).map (fun i => (i.zero, i.size, i.bytes)) = some (some (.agg C), s, b))
    (h : wpList Try.prog ops Q rest (a.put o.dst (.pointer (some ⟨w.heap.size, 0, none⟩))) (w.alloc (.cells C t))) : wpList Try.prog ops Q (o :: rest) a w := by
  refine wpList_plain hgd fun K hK => ?_
  obtain ⟨i, hi, hz, _⟩ := info_parts hz
  have hr : (zeroValue t).run Try.prog w = .ok (.agg C) w := by simp [zeroValue, typeInfo, hi, hz]
  unfold Oper.wp execOp
  simp [ho, Instr.alloc, hr, newVar, newRow, Value.cells, Result.andThen]
  exact hK _ _ h
end
set_option maxRecDepth 3000 in
theorem Adv.fresh {F' : Nat → Prop} {w w1 w2 : World} {z : Nat} (h : Adv Nul w Nul w1) (hz : w.heap.size ≤ z) (k : Adv (One z) w1 F' w2) : Adv Nul w Nul w2 :=
  ⟨k.os.trans h.os, k.tape.trans h.tape, k.output.trans h.output, Nat.le_trans h.size k.size, fun i hi hn => (k.block i (Nat.lt_of_lt_of_le hi h.size) (fun e => by unfold One at e; omega)).trans (h.block i hi hn), fun _ x => x.elim⟩
set_option maxRecDepth 3000 in
theorem Adv.nul {F' : Nat → Prop} {w w1 : World} (h : Adv Nul w F' w1) : Adv Nul w Nul w1 := h.sub (fun _ x => x.elim)
set_option maxRecDepth 3000 in
theorem Blk.far1 {w w' : World} {y z : Nat} {F' : Nat → Prop} {t : TypeId} {C : Array Value} (h : Blk w y t C) (k : Adv (One z) w F' w') (hne : y ≠ z) : Blk w' y t C := h.keep (k.block y h.lt hne)
set_option maxRecDepth 3000 in
theorem Blk.over {w w' : World} {y : Nat} {F' : Nat → Prop} {t : TypeId} {C : Array Value} (h : Blk w y t C) (k : Adv Nul w F' w') : Blk w' y t C := h.keep (k.block y h.lt (fun x => x))
section
variable {ops : Array Oper} {rest : List Oper} {o : Oper} {a : Act} {w : World} {Q : Exit → Act → World → Prop}
set_option maxRecDepth 3000 in
theorem kop_alloc {t : TypeId} {C : Array Value} {s b : Nat} (hgd : o.guard = none) (ho : o.op = .alloc t) (hz : (Try.prog.info? t).map (fun i => (i.zero, i.size, i.bytes)) = some (some (.agg C), s, b))
    (h : ∀ z w', w.heap.size ≤ z → Blk w' z t C → Adv Nul w Nul w' → wpList Try.prog ops Q rest (a.put o.dst (.pointer (some ⟨z, 0, none⟩))) w') : wpList Try.prog ops Q (o :: rest) a w :=
  aop_alloc hgd ho hz (h _ _ (Nat.le_refl _) (Blk.new _ _ _) ((Adv.refl _ _).alloc _))
set_option maxRecDepth 3000 in
theorem kop_store {t t' : TypeId} {C D : Array Value} {s : Nat} (hgd : o.guard = none) (x y : Operand) (ho : o.op = .store t x y) (z : Nat) (hB : Blk w z t' C) (hx : a.eval x = .pointer (some ⟨z, 0, none⟩)) (hy : a.eval y = .agg D)
    (hs : (Try.prog.info? t).map (·.size) = some s) (hD : D.size = s) (hC : C.size = s) (h1 : D.all (·.oneCell') = true)
    (h : ∀ w', Blk w' z t' D → Adv (One z) w (One z) w' → wpList Try.prog ops Q rest (a.put o.dst undef) w') : wpList Try.prog ops Q (o :: rest) a w :=
  wpList_store_mid hgd t x y ho z 0 D hx hy (by rw [hD, ← hC]; exact hB.ithere) (by rw [hs, hD]) h1 (h _ (hB.iputAll (by rw [hC, hD])) (Adv.isetCells D.toList 0 _ (Adv.refl _ _) (.inl rfl)))
set_option maxRecDepth 3000 in
theorem kop_box {t : TypeId} {C : Array Value} (hgd : o.guard = none) (x : Operand) (ho : o.op = .box t x) (hx : a.eval x = .agg C)
    (h : ∀ z w', w.heap.size ≤ z → Blk w' z t C → Adv Nul w Nul w' → wpList Try.prog ops Q rest (a.put o.dst (.pointer (some ⟨z, 0, none⟩))) w') : wpList Try.prog ops Q (o :: rest) a w := by
  refine wpList_plain hgd fun K hK => ?_
  unfold Oper.wp execOp
  simp [ho, hx, Result.andThen]
  exact hK _ _ (h _ _ (Nat.le_refl _) (Blk.new _ _ _) ((Adv.refl _ _).alloc _))
set_option maxRecDepth 3000 in
theorem kop_load {t t' : TypeId} {C : Array Value} {s : Nat} {d : TypeDesc} (hgd : o.guard = none) (x : Operand) (ho : o.op = .load t x) (z : Nat) (hB : Blk w z t' C) (hx : a.eval x = .pointer (some ⟨z, 0, none⟩))
    (hu : Try.prog.underlying t = some d) (hd : d.isRow = true) (hs : (Try.prog.info? t).map (·.size) = some s) (hC : C.size = s)
    (h : wpList Try.prog ops Q rest (a.put o.dst (.agg C)) w) : wpList Try.prog ops Q (o :: rest) a w := by
  refine wpList_load_mid hgd t x ho z 0 hx C.toList d (Blk.range hB) hu hd (by rw [hs, Array.length_toList, hC]) ?_
  rw [Array.toArray_toList]
  exact h
end
section
variable {ops : Array Oper} {o : Oper} {a : Act} {w : World} {K : Act → World → Prop} {Q : Exit → Act → World → Prop} {E : Prop}
set_option maxRecDepth 3000 in
theorem kst_alloc {t : TypeId} {C : Array Value} {s b : Nat} (hgd : o.guard = none) (ho : o.op = .alloc t) (hz : (Try.prog.info? t).map (fun i => (i.zero, i.size, i.bytes)) = some (some (.agg C), s, b))
    (h : ∀ z w', w.heap.size ≤ z → Blk w' z t C → Adv Nul w Nul w' → K (a.put o.dst (.pointer (some ⟨z, 0, none⟩))) w') : if Region.wanted o (yielded ops a.tmps) = true then Oper.wp Try.prog o a w K Q else E := by
  rw [if_pos (by simp [Region.wanted, hgd])]
  obtain ⟨i, hi, hz, _⟩ := info_parts hz
  have hr : (zeroValue t).run Try.prog w = .ok (.agg C) w := by simp [zeroValue, typeInfo, hi, hz]
  unfold Oper.wp execOp
  simp [ho, Instr.alloc, hr, newVar, newRow, Value.cells, Result.andThen]
  exact h _ _ (Nat.le_refl _) (Blk.new _ _ _) ((Adv.refl _ _).alloc _)
set_option maxRecDepth 3000 in
theorem kst_box {t : TypeId} {C : Array Value} (hgd : o.guard = none) (x : Operand) (ho : o.op = .box t x) (hx : a.eval x = .agg C)
    (h : ∀ z w', w.heap.size ≤ z → Blk w' z t C → Adv Nul w Nul w' → K (a.put o.dst (.pointer (some ⟨z, 0, none⟩))) w') : if Region.wanted o (yielded ops a.tmps) = true then Oper.wp Try.prog o a w K Q else E := by
  rw [if_pos (by simp [Region.wanted, hgd])]
  unfold Oper.wp execOp
  simp [ho, hx, Result.andThen]
  exact h _ _ (Nat.le_refl _) (Blk.new _ _ _) ((Adv.refl _ _).alloc _)
set_option maxRecDepth 3000 in
theorem kst_store {t t' : TypeId} {C D : Array Value} {s : Nat} (hgd : o.guard = none) (x y : Operand) (ho : o.op = .store t x y) (z : Nat) (hB : Blk w z t' C) (hx : a.eval x = .pointer (some ⟨z, 0, none⟩)) (hy : a.eval y = .agg D)
    (hs : (Try.prog.info? t).map (·.size) = some s) (hD : D.size = s) (hC : C.size = s) (h1 : D.all (·.oneCell') = true)
    (h : ∀ w', Blk w' z t' D → Adv (One z) w (One z) w' → K (a.put o.dst undef) w') : if Region.wanted o (yielded ops a.tmps) = true then Oper.wp Try.prog o a w K Q else E := by
  rw [if_pos (by simp [Region.wanted, hgd])]
  exact wp_store_mid t x y ho z 0 D hx hy (by rw [hD, ← hC]; exact hB.ithere) (by rw [hs, hD]) h1 (h _ (hB.iputAll (by rw [hC, hD])) (Adv.isetCells D.toList 0 _ (Adv.refl _ _) (.inl rfl)))
end
set_option maxRecDepth 3000 in
theorem kyl_load {ops : Array Oper} {S : World → Prop} {op : Oper} {a : Act} {t t' : TypeId} {C : Array Value} {n : Nat} {d : TypeDesc} (hw : Region.wanted op (yielded ops a.tmps) = true) (x : Operand) (ho : op.op = .load t x) (z : Nat) (hx : a.eval x = .pointer (some ⟨z, 0, none⟩)) (hS : ∀ w, S w → Blk w z t' C)
    (hu : Try.prog.underlying t = some d) (hd : d.isRow = true) (hs : (Try.prog.info? t).map (·.size) = some n) (hC : C.size = n) : YieldsIf Try.prog ops S op (.agg C) a := by
  have := yieldsIf_load_mid (P := Try.prog) (S := S) hw t x ho z 0 hx C.toList d (fun w h => Blk.range (hS w h)) hu hd (by rw [hs, Array.length_toList, hC])
  rwa [Array.toArray_toList] at this
set_option maxRecDepth 3000 in
theorem kres2 {fn : Func} {p q : Tmp} {ty : TypeId} (h : fn.results = #[.cell p ty, .tmp q]) (tmps : Array Value) (w : World) {z : Nat} {t : TypeId} {C : Array Value} {d : TypeDesc} {v : Value} (hp : tmps.getD p undef = .pointer (some ⟨z, 0, none⟩)) (hq : tmps.getD q undef = v) (hB : Blk w z t C)
    (hu : Try.prog.underlying ty = some d) (hd : d.isRow = true) (hi : (Try.prog.info? ty).map (·.size) = some C.size) : (results fn tmps).run Try.prog w = .ok (.tuple #[.agg C, v]) w := by
  have hp' : tmps[p]?.getD undef = .pointer (some ⟨z, 0, none⟩) := by simpa using hp
  have hq' : tmps[q]?.getD undef = v := by simpa using hq
  have hl := run_loadVar_mid (P := Try.prog) w z 0 ty C.toList d (Blk.range hB) hu hd (by rw [hi, Array.length_toList])
  rw [Array.toArray_toList] at hl
  simp only [results, h]
  simp [hp', hq', asAddr, hl]
end Go.Proofs.Ytpgeebhepegpaaa
