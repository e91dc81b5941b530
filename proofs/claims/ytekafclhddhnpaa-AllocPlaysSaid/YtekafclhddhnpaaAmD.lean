/- The program's map: New, Copy, Bytes. -/
import Derived.Test.YtekafclhddhnpaaAmC
import Derived.Test.YtekafclhddhnpaaSl8
import Derived.Deep.WholeRow
import Derived.Deep.MidRow
namespace Go.Proofs.Ytekafclhddhnpaa
open Go.RowKit

def zR : Array Value := ((List.replicate 128 0).map u8).toArray
def zM : Array Value := mcells 0 (List.replicate 128 0)
theorem infoRow : (Try.prog.info? 55).map (fun i => (i.zero, i.size, i.bytes)) = some (some (.agg zR), 128, 128) := by kernel_rfl
theorem infoMap : (Try.prog.info? 57).map (fun i => (i.zero, i.size, i.bytes)) = some (some (.agg zM), 129, 136) := by kernel_rfl
theorem sizeRow : (Try.prog.info? 55).map (·.size) = some 128 := by kernel_rfl
theorem sizeMap : (Try.prog.info? 57).map (·.size) = some 129 := by kernel_rfl
theorem mcells_size {n : Nat} {r : List Nat} (h : r.length = 128) : (mcells n r).size = 129 := by simp [mcells, h]
theorem one_row (l : List Nat) : ((l.map u8).toArray).all (·.oneCell') = true := all_oneCell_toArray (u8_one l)
theorem one_mcells (n : Nat) (l : List Nat) : (mcells n l).all (·.oneCell') = true := all_oneCell_toArray (by
  intro v hv
  rcases List.mem_cons.1 hv with rfl | hv
  · rfl
  · exact u8_one _ v hv)

section
variable {ops : Array Oper} {rest : List Oper} {o : Oper} {a : Act} {w : World} {Q : Exit → Act → World → Prop}
theorem aop_alloc {t : TypeId} {C : Array Value} {s b : Nat} (hgd : o.guard = none) (ho : o.op = .alloc t) (hz : (Try.prog.info? t).map (fun i => (i.zero, i.size, i.bytes)) = some (some (.agg C), s, b))
    (h : wpList Try.prog ops Q rest (a.put o.dst (.pointer (some ⟨w.heap.size, 0, none⟩))) (w.alloc (.cells C t))) : wpList Try.prog ops Q (o :: rest) a w := by
  refine wpList_plain hgd fun K hK => ?_
  obtain ⟨i, hi, hz, _⟩ := info_parts hz
  have hr : (zeroValue t).run Try.prog w = .ok (.agg C) w := by simp [zeroValue, typeInfo, hi, hz]
  unfold Oper.wp execOp
  simp [ho, Instr.alloc, hr, newVar, newRow, Value.cells, Result.andThen]
  exact hK _ _ h
theorem aop_store_new {t : TypeId} {C D : Array Value} {s : Nat} (hgd : o.guard = none) (x y : Operand) (ho : o.op = .store t x y) (g : Nat) (hg : g = w.heap.size) (hx : a.eval x = .pointer (some ⟨g, 0, none⟩)) (hy : a.eval y = .agg D)
    (hs : (Try.prog.info? t).map (·.size) = some s) (hD : D.size = s) (hC : C.size = s) (h1 : D.all (·.oneCell') = true)
    (h : wpList Try.prog ops Q rest (a.put o.dst undef) (w.alloc (.cells D t))) : wpList Try.prog ops Q (o :: rest) a (w.alloc (.cells C t)) := by
  subst hg
  refine wpList_store_row hgd t x y ho w.heap.size D hx hy t C (Go.heap_alloc_new w _) (by rw [hs, hD]) (by rw [hC, hD]) h1 ?_
  rw [World.setRow_alloc_new]
  exact h
theorem built_map (n : Nat) : Try.prog.built 57 [(0, .int .i64 (n : Int))] = some (mcells n (List.replicate 128 0)) := by kernel_rfl
theorem aop_build_map (hgd : o.guard = none) (x : Operand) (ho : o.op = .build 57 #[(0, x)]) (n : Nat) (hx : a.eval x = .int .i64 (n : Int))
    (h : wpList Try.prog ops Q rest (a.put o.dst (.agg (mcells n (List.replicate 128 0)))) w) : wpList Try.prog ops Q (o :: rest) a w := by
  have e : ((#[(0, x)] : Array (Nat × Operand)).map fun (i, x) => (i, a.eval x)).toList = [(0, .int .i64 (n : Int))] := by simp [hx]
  refine wpList_build hgd 57 _ ho (by rw [e, built_map n]; rfl) ?_
  rw [e, built_map n]
  exact h
end

set_option maxRecDepth 3000 in
theorem new_yes (n : Nat) (h1 : 1 ≤ n) (h2 : n ≤ 1024) (w : World) : Calls Try.prog 7 #[.int .i64 (n : Int)] w fun e w' => ∃ d, e = .returned (.tuple #[.pointer (some ⟨d, 0, none⟩), .int .i64 0]) ∧ Am w' d (List.replicate n false) ∧ Adv Nul w (One d) w' := by
  have h1' : (1 : Int) ≤ (n : Int) := by omega
  have h2' : (n : Int) ≤ 1024 := by omega
  have HF := Lib.hid (show ∀ w : World, Am (w.alloc (.cells (mcells n (List.replicate 128 0)) 57)) w.heap.size (List.replicate n false) from fun w =>
    ⟨_, Rep.zero n, by simpa using h1, by simpa using h2, by rw [List.length_replicate]; exact Blk.new _ _ _⟩)
  have HAd := Lib.hid (show ∀ (w : World) (o : Obj), Adv Nul w (One w.heap.size) (w.alloc o) from fun w o => ⟨rfl, rfl, rfl, by simp, fun k hk _ => Below.heap_alloc _ _ _ hk, fun k hk => .inr (by rw [show k = w.heap.size from hk]; exact Nat.le_refl _)⟩)
  obtain ⟨C, hC⟩ : ∃ C, C = mcells n (List.replicate 128 0) := ⟨_, rfl⟩
  have HC := Lib.hid hC
  rw [← hC] at HF
  clear hC
  go_enter Try.func7, Try.ntmps7
  go_wp2_with (first
    | (refine aop_build_map rfl (.tmp 10) rfl n rfl ?_; rw [← HC.out])
    | fail)
  go_ret2
  exact ⟨_, rfl, HF.out _, HAd.out _ _⟩
set_option maxRecDepth 3000 in
theorem new_no (n : Int) (h : n < 1 ∨ 1024 < n) (w : World) : Calls Try.prog 7 #[.int .i64 n] w fun e w' => e = .returned (.tuple #[.pointer none, .int .i64 2]) ∧ w = w' := by
  by_cases h1 : n < 1
  · clear h
    go_enter Try.func7, Try.ntmps7
    go_wp2
    go_ret2
    exact ⟨rfl, rfl⟩
  · have h2 : 1024 < n := by omega
    have h3 : 1 ≤ n := by omega
    clear h h1
    go_enter Try.func7, Try.ntmps7
    go_wp2
    go_ret2
    exact ⟨rfl, rfl⟩
end Go.Proofs.Ytekafclhddhnpaa
