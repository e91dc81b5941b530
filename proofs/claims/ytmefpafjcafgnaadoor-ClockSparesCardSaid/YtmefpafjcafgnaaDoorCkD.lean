/- The program's ring: New, Used, Pinned, Hand. -/
import Derived.Test.YtmefpafjcafgnaaDoorCkB
import Derived.Test.YtmefpafjcafgnaaDoorCkC
namespace Go.Proofs.YtmefpafjcafgnaaDoor
open Go.RowKit

set_option maxRecDepth 3000 in
theorem cnew_yes (n : Nat) (h1 : 1 ≤ n) (h2 : n ≤ 64) (w : World) : Calls Tryd.prog 6 #[.int .i64 (n : Int)] w fun e w' => ∃ d, e = .returned (.tuple #[.pointer (some ⟨d, 0, none⟩), .int .i64 0]) ∧ Cl w' d (cNew n) ∧ Adv Nul w (One d) w' := by
  have h1' : (1 : Int) ≤ (n : Int) := by omega
  have h2' : (n : Int) ≤ 64 := by omega
  have HF := Lib.hid (show ∀ w : World, Cl (w.alloc (.cells (ccells (cNew n)) 55)) w.heap.size (cNew n) from fun w => ⟨COk.new h1 h2, Blk.new _ _ _⟩)
  have HAd := Lib.hid (show ∀ (w : World) (o : Obj), Adv Nul w (One w.heap.size) (w.alloc o) from fun w o => ⟨rfl, rfl, rfl, by simp, fun k hk _ => Below.heap_alloc _ _ _ hk, fun k hk => .inr (by rw [show k = w.heap.size from hk]; exact Nat.le_refl _)⟩)
  clear h1 h2
  go_enter Tryd.func6, Tryd.ntmps6
  go_wp2
  go_ret2
  exact ⟨_, rfl, HF.out _, HAd.out _ _⟩
set_option maxRecDepth 3000 in
theorem cnew_no (n : Int) (h : n < 1 ∨ 64 < n) (w : World) : Calls Tryd.prog 6 #[.int .i64 n] w fun e w' => e = .returned (.tuple #[.pointer none, .int .i64 2]) ∧ w = w' := by
  by_cases h1 : n < 1
  · clear h
    go_enter Tryd.func6, Tryd.ntmps6
    go_wp2
    go_ret2
    exact ⟨rfl, rfl⟩
  · have h2 : 64 < n := by omega
    have h3 : 1 ≤ n := by omega
    clear h h1
    go_enter Tryd.func6, Tryd.ntmps6
    go_wp2
    go_ret2
    exact ⟨rfl, rfl⟩
def LiR (x : Nat) (w : World) (e : Ending) (w' : World) : Prop := ∃ v F, e = .returned v ∧ Sl w' F 3 1 v (bitsL x).length (ints (bitsL x)) ∧ Adv Nul w F w'
set_option maxRecDepth 3000 in
theorem cused_any (w : World) (d : Nat) (s : CS) (h : Cl w d s) (hT : Tz w) : Calls Tryd.prog 14 #[.pointer (some ⟨d, 0, none⟩)] w (LiR s.u w) := by
  have HM := Lib.hid (cmade_any w d s h)
  have HL := Lib.hid (list_any s.u h.ok.u64 w hT)
  have c := h.c1
  unfold LiR
  generalize s.u = x at HL c ⊢
  clear h hT
  go_enter Tryd.func14, Tryd.ntmps14
  go_wp2_with (first
    | (go_at_call 25; refine HM.out.mono ?_; rintro e w1 ⟨rfl, rfl⟩)
    | (go_at_call 29; refine HL.out.mono ?_; rintro e w1 ⟨v, F, rfl, a1, b1⟩; obtain ⟨A3, c3, rfl, _, _⟩ := a1.form0; have HA1 := Lib.hid a1; have HB1 := Lib.hid b1; clear a1 b1)
    | fail)
  go_ret
  exact ⟨_, F, rfl, HA1.out, HB1.out⟩
set_option maxRecDepth 3000 in
theorem cpinned_any (w : World) (d : Nat) (s : CS) (h : Cl w d s) (hT : Tz w) : Calls Tryd.prog 15 #[.pointer (some ⟨d, 0, none⟩)] w (LiR s.p w) := by
  have HM := Lib.hid (cmade_any w d s h)
  have HL := Lib.hid (list_any s.p h.ok.p64 w hT)
  have c := h.c2
  unfold LiR
  generalize s.p = x at HL c ⊢
  clear h hT
  go_enter Tryd.func15, Tryd.ntmps15
  go_wp2_with (first
    | (go_at_call 25; refine HM.out.mono ?_; rintro e w1 ⟨rfl, rfl⟩)
    | (go_at_call 29; refine HL.out.mono ?_; rintro e w1 ⟨v, F, rfl, a1, b1⟩; obtain ⟨A3, c3, rfl, _, _⟩ := a1.form0; have HA1 := Lib.hid a1; have HB1 := Lib.hid b1; clear a1 b1)
    | fail)
  go_ret
  exact ⟨_, F, rfl, HA1.out, HB1.out⟩
set_option maxRecDepth 3000 in
theorem chand_any (w : World) (d : Nat) (s : CS) (h : Cl w d s) : Calls Tryd.prog 16 #[.pointer (some ⟨d, 0, none⟩)] w fun e w' => e = .returned (.int .i64 (s.h : Int)) ∧ w = w' := by
  have HM := Lib.hid (cmade_any w d s h)
  have c := h.c4
  generalize s.h = x at c ⊢
  clear h
  go_enter Tryd.func16, Tryd.ntmps16
  go_wp2_with (first
    | (go_at_call 25; refine HM.out.mono ?_; rintro e w1 ⟨rfl, rfl⟩)
    | fail)
  go_ret
  exact ⟨rfl, rfl⟩
end Go.Proofs.YtmefpafjcafgnaaDoor
