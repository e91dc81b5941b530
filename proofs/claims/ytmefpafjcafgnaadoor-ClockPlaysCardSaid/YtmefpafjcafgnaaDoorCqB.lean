/- The document's ring: New. -/
import Derived.Test.YtmefpafjcafgnaaDoorCqA
namespace Go.Proofs.YtmefpafjcafgnaaDoor
open Go.RowKit

set_option maxRecDepth 3000 in
theorem infoPlace : (Tryd.prog.info? 59).map (fun i => (i.zero, i.size, i.bytes)) = some (some (.agg #[.bool false, .bool false, .bool false]), 3, 3) := by kernel_rfl
set_option maxRecDepth 3000 in
theorem made_places (n : Nat) (hn : n ≤ 64) (w : World) : (Instr.makeSlice 44 (.int .i64 (n : Int)) (.int .i64 (n : Int))).run Tryd.prog w = .ok (.slice (some ⟨w.heap.size, 0, none⟩) n n) (w.alloc (.cells (madeCells #[.bool false, .bool false, .bool false] (n * 3)) 59)) := by
  obtain ⟨ie, hie, hz, hs, hb⟩ := info_parts infoPlace
  have h := run_make (P := Tryd.prog) w 44 59 ie _ Tryd.underlying44 hie hz .i64 .i64 n n (by omega) (Int.le_refl _) (by rw [hb]; omega) (by omega)
  rw [hs] at h
  simp only [Value.cells, Int.toNat_natCast] at h
  exact h
set_option maxRecDepth 3000 in
theorem made_at (n i c : Nat) (hi : i < n) (hc : c < 3) : (madeCells #[Value.bool false, .bool false, .bool false] (n * 3))[i * 3 + c]? = some (.bool false) := by
  unfold madeCells
  rw [Array.getElem?_map, show (Array.range (n * 3))[i * 3 + c]? = some (i * 3 + c) from by rw [Array.getElem?_eq_getElem (by simp; omega)]; simp]
  have e : (i * 3 + c) % 3 = c := by omega
  match c, hc with
  | 0, _ | 1, _ | 2, _ => simp
set_option maxRecDepth 3000 in
theorem qnew_q {w : World} {n : Nat} (h1 : 1 ≤ n) (h2 : n ≤ 64) : Qr ((w.alloc (.cells (madeCells #[.bool false, .bool false, .bool false] (n * 3)) 59)).alloc (.cells #[.slice (some ⟨w.heap.size, 0, none⟩) n n, .int .i64 0] 46)) (w.heap.size + 1) w.heap.size (cNew n) := by
  have e : w.heap.size + 1 = (w.alloc (.cells (madeCells #[.bool false, .bool false, .bool false] (n * 3)) 59)).heap.size := by simp
  refine ⟨COk.new h1 h2, ?_, ⟨_, (Blk.new w _ _).alloc _, fun i hi => ?_⟩, by omega⟩
  · rw [e]; exact Blk.new _ _ _
  · have z : (0 : Nat).testBit i = false := Nat.zero_testBit i
    show PlAt _ i ((0 : Nat).testBit i) ((0 : Nat).testBit i) ((0 : Nat).testBit i)
    rw [z]
    exact ⟨made_at n i 0 hi (by decide), made_at n i 1 hi (by decide), made_at n i 2 hi (by decide)⟩
set_option maxRecDepth 3000 in
theorem qnew_yes (n : Nat) (h1 : 1 ≤ n) (h2 : n ≤ 64) (w : World) : Calls Tryd.prog 7 #[.int .i64 (n : Int)] w fun e w' => ∃ x g, e = .returned (.tuple #[.pointer (some ⟨x, 0, none⟩), .int .i64 0]) ∧ Qr w' x g (cNew n) ∧ Adv Nul w (Two2 x g) w' := by
  have h1' : (1 : Int) ≤ (n : Int) := by omega
  have h2' : (n : Int) ≤ 64 := by omega
  have hmk := fun w => made_places n h2 w
  have HQ := Lib.hid (fun w => qnew_q (w := w) h1 h2)
  have HAd := Lib.hid (show ∀ (w : World) (o o' : Obj), Adv Nul w (Two2 (w.heap.size + 1) w.heap.size) ((w.alloc o).alloc o') from fun w o o' => ⟨rfl, rfl, rfl, by simp; omega, fun k hk _ => (Below.heap_alloc _ _ _ (by simp; omega)).trans (Below.heap_alloc _ _ _ hk), fun k hk => .inr (by rcases hk with h | h <;> omega)⟩)
  generalize madeCells #[Value.bool false, .bool false, .bool false] (n * 3) = C at hmk HQ
  clear h1 h2
  go_enter Tryd.func7, Tryd.ntmps7
  go_wp2
  go_ret2
  exact ⟨_, _, rfl, HQ.out _, HAd.out _ _ _⟩
set_option maxRecDepth 3000 in
theorem qnew_no (n : Int) (h : n < 1 ∨ 64 < n) (w : World) : Calls Tryd.prog 7 #[.int .i64 n] w fun e w' => e = .returned (.tuple #[.pointer none, .int .i64 2]) ∧ w = w' := by
  by_cases h1 : n < 1
  · clear h
    go_enter Tryd.func7, Tryd.ntmps7
    go_wp2
    go_ret2
    exact ⟨rfl, rfl⟩
  · have h2 : 64 < n := by omega
    have h3 : 1 ≤ n := by omega
    clear h h1
    go_enter Tryd.func7, Tryd.ntmps7
    go_wp2
    go_ret2
    exact ⟨rfl, rfl⟩
end Go.Proofs.YtmefpafjcafgnaaDoor
