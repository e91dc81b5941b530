/- Operations behind '&&' and '||' of a region, their guards left as letters. -/
import Derived.Test.YtpgeebhepegpaaaKop
import Derived.Great.BuildSlice
import Derived.Great.FillDense
namespace Go.Proofs.Ytpgeebhepegpaaa
open Go.ChangeShapes Go.WideShapes Go.ChangeAt Go.RowKit

set_option maxRecDepth 3000 in
theorem bst (B : Bool) : (some B == some true) = B := by cases B <;> rfl
set_option maxRecDepth 3000 in
theorem bsf (B : Bool) : (some B == some false) = !B := by cases B <;> rfl
section
variable {P : Program} {ops : Array Oper} {Q : Exit → Act → World → Prop} {md : Region.Mode} {S : World → Prop} {i : Nat} {fuel : Nat} {listed : Array Bool} {a : Act} {w : World} {oi : Oper}
set_option maxRecDepth 3000 in
/-- a guarded operation whose guard is a letter: its value is what it is where the guard holds -/
theorem tkg {B : Bool} {v1 : Value} (hS : S w) (hB : Region.wanted oi (yielded ops a.tmps) = B) (hy : B = true → ∀ w, S w → (execOp a.eval oi).run P w = .ok (.value v1) w)
    (h : ∀ v, Hid (B = true → v = v1) → wpAnyH P md ops Q S fuel (listed.setIfInBounds i true) (a.put oi.dst v) w) (hi : ops[i]? = some oi := by exact rfl)
    (hs : Region.noSelect ops = true := by kernel_rfl) (hf : Region.free md ops listed i = true := by kernel_rfl) (hr : (Region.ready md ops listed).contains i = true := by kernel_rfl) (hQ : ∀ v c a w, Q (.panic c) (a.put oi.dst v) w → Q (.panic c) a w := by exact fun _ _ _ _ h => h) : wpAnyH P md ops Q S (fuel + 1) listed a w := by
  cases B with
  | true => exact wpAnyH_take hi hs hf hr (hQ v1) (.inl ⟨hB, hy rfl⟩) hS (h v1 (Lib.hid fun _ => rfl))
  | false => exact wpAnyH_take hi hs hf hr (hQ undef) (.inr ⟨hB, rfl⟩) hS (h undef (Lib.hid fun x => by cases x))
/-! the same steps in a great region: each fact of the order a theorem of its own -/
set_option maxRecDepth 3000 in
theorem tkA {v : Value} (hS : S w) (hy : ∀ w, S w → (execOp a.eval oi).run P w = .ok (.value v) w) (h : wpAnyH P md ops Q S fuel (listed.setIfInBounds i true) (a.put oi.dst v) w) (hi : ops[i]? = some oi := by exact rfl)
    (hs : Region.noSelect ops = true := by as_aux_lemma => kernel_rfl) (hf : Region.free md ops listed i = true := by as_aux_lemma => kernel_rfl) (hr : (Region.ready md ops listed).contains i = true := by as_aux_lemma => kernel_rfl) (hQ : ∀ c a w, Q (.panic c) (a.put oi.dst v) w → Q (.panic c) a w := by exact fun _ _ _ h => h)
    (hg : Region.wanted oi (yielded ops a.tmps) = true := by rfl) : wpAnyH P md ops Q S (fuel + 1) listed a w := wpAnyH_take hi hs hf hr hQ (.inl ⟨hg, hy⟩) hS h
set_option maxRecDepth 3000 in
theorem tkmA {v : Value} (hS : S w) (hy : YieldsIf P ops S oi v a) (h : wpAnyH P md ops Q S fuel (listed.setIfInBounds i true) (a.put oi.dst v) w) (hi : ops[i]? = some oi := by exact rfl)
    (hs : Region.noSelect ops = true := by as_aux_lemma => kernel_rfl) (hf : Region.free md ops listed i = true := by as_aux_lemma => kernel_rfl) (hr : (Region.ready md ops listed).contains i = true := by as_aux_lemma => kernel_rfl) (hQ : ∀ c a w, Q (.panic c) (a.put oi.dst v) w → Q (.panic c) a w := by exact fun _ _ _ h => h) : wpAnyH P md ops Q S (fuel + 1) listed a w := wpAnyH_take hi hs hf hr hQ hy hS h
set_option maxRecDepth 3000 in
theorem tkgA {B : Bool} {v1 : Value} (hS : S w) (hB : Region.wanted oi (yielded ops a.tmps) = B) (hy : B = true → ∀ w, S w → (execOp a.eval oi).run P w = .ok (.value v1) w)
    (h : ∀ v, Hid (B = true → v = v1) → wpAnyH P md ops Q S fuel (listed.setIfInBounds i true) (a.put oi.dst v) w) (hi : ops[i]? = some oi := by exact rfl)
    (hs : Region.noSelect ops = true := by as_aux_lemma => kernel_rfl) (hf : Region.free md ops listed i = true := by as_aux_lemma => kernel_rfl) (hr : (Region.ready md ops listed).contains i = true := by as_aux_lemma => kernel_rfl) (hQ : ∀ v c a w, Q (.panic c) (a.put oi.dst v) w → Q (.panic c) a w := by exact fun _ _ _ _ h => h) : wpAnyH P md ops Q S (fuel + 1) listed a w := tkg hS hB hy h hi hs hf hr hQ
set_option maxRecDepth 3000 in
theorem rdyA (h : ∀ K' : Act → World → Prop, Shut (∀ a w, S w → (S w → wpAnyH P md ops Q S fuel (listed.setIfInBounds i true) a w) → K' a w) → if Region.wanted oi (yielded ops a.tmps) = true then Oper.wp P oi a w K' Q else K' (a.put oi.dst undef) w)
    (ho : ops[i]? = some oi := by exact rfl) (hr : Region.ready md ops listed = [i] := by as_aux_lemma => kernel_rfl) : wpAnyH P md ops Q S (fuel + 1) listed a w := rdy h ho hr
set_option maxRecDepth 3000 in
theorem yl_and {B R : Bool} {v : Value} {o : Oper} (hw : Region.wanted o (yielded ops a.tmps) = true) (x y : Operand) (ho : o.op = .pick x y (.const (.bool false))) (hx : a.eval x = .bool B) (hy : a.eval y = v) (hv : B = true → v = .bool R) : YieldsIf P ops S o (.bool (B && R)) a := .inl ⟨hw, fun w _ => by
  unfold execOp
  rw [ho]
  cases B with
  | true =>
    simp [hx, hy, hv rfl, Result.andThen]
    rfl
  | false =>
    simp [hx, Result.andThen]
    rfl⟩
set_option maxRecDepth 3000 in
theorem yl_feq {S : World → Prop} {ty : TypeId} {i g i' g' : Int} {o : Oper} (hw : Region.wanted o (yielded ops a.tmps) = true) (x y : Operand) (ho : o.op = .binOp .eql 25 x y ty) (hx : a.eval x = .agg #[.int .i64 i, .int .i64 g]) (hy : a.eval y = .agg #[.int .i64 i', .int .i64 g']) : YieldsIf Try.prog ops S o (.bool (decide (i = i' ∧ g = g'))) a := .inl ⟨hw, fun w _ => by
  unfold execOp
  simp only [ho, hx, hy]
  by_cases h1 : i = i'
  · by_cases h2 : g = g'
    · subst h1; subst h2
      go_simp
    · subst h1
      go_simp
  · go_simp⟩
end
section
variable {ops : Array Oper} {o : Oper} {a : Act} {w : World} {K : Act → World → Prop} {Q : Exit → Act → World → Prop} {E : Prop}
set_option maxRecDepth 3000 in
theorem kst_bcells {T e : TypeId} {n s by_ : Nat} {z : Value} {parts : Array (Nat × Operand)} {C : Array Value} (hgd : o.guard = none) (ho : o.op = .buildSlice T n parts) (hu : Try.prog.underlying T = some (.slice e)) (hi : (Try.prog.info? e).map (fun i => (i.zero, i.size, i.bytes)) = some (some z, s, by_)) (h1 : ¬ n * s > 2 ^ 24) (h2 : ¬ n * s = 0)
    (hf : Instr.fill (fun i => some (i * s, s)) ((Array.range (n * s)).map (z.cells[· % z.cells.size]!)) (parts.map fun (i, x) => (i, a.eval x)).toList = some C)
    (h : ∀ b w', w.heap.size ≤ b → Blk w' b e C → Adv Nul w Nul w' → K (a.put o.dst (.slice (some ⟨b, 0, none⟩) n n)) w') : if Region.wanted o (yielded ops a.tmps) = true then Oper.wp Try.prog o a w K Q else E := by
  rw [if_pos (by simp [Region.wanted, hgd])]
  obtain ⟨ie, hie, hz, hsz, _⟩ := info_parts hi
  exact wp_buildSlice T e n parts ho C ie z hu hie hz (by rw [hsz]; exact h1) (by rw [hsz]; exact h2) (by rw [hsz]; exact hf) (h _ _ (Nat.le_refl _) (Blk.new _ _ _) ((Adv.refl _ _).alloc _))
set_option maxRecDepth 3000 in
theorem kst_brows {T e : TypeId} {n s by_ : Nat} {z : Value} {parts : Array (Nat × Operand)} {vs : List Value} (hgd : o.guard = none) (ho : o.op = .buildSlice T n parts) (hu : Try.prog.underlying T = some (.slice e)) (hi : (Try.prog.info? e).map (fun i => (i.zero, i.size, i.bytes)) = some (some z, s, by_)) (h1 : ¬ n * s > 2 ^ 24) (h2 : ¬ n * s = 0) (hs : 0 < s)
    (hp : (parts.map fun (i, x) => (i, a.eval x)).toList = (vs.zipIdx 0).map fun x => (x.2, x.1)) (hv : ∀ v ∈ vs, v.cells.size = s) (hn : vs.length = n)
    (h : ∀ b w', w.heap.size ≤ b → Blk w' b e (vs.flatMap fun v => v.cells.toList).toArray → Adv Nul w Nul w' → K (a.put o.dst (.slice (some ⟨b, 0, none⟩) n n)) w') : if Region.wanted o (yielded ops a.tmps) = true then Oper.wp Try.prog o a w K Q else E :=
  kst_bcells hgd ho hu hi h1 h2 (by rw [hp]; exact Great.fill_whole hs vs _ hv (by simp [hn])) h
end
end Go.Proofs.Ytpgeebhepegpaaa
