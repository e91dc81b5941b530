/- Messages: the small functions. -/
import Derived.Test.YtpgeebhepegpaaaMsM
import Derived.Test.YtpgeebhepegpaaaKop
namespace Go.Proofs.Ytpgeebhepegpaaa
open Go.ChangeShapes Go.WideShapes Go.ChangeAt Go.RowKit

set_option maxRecDepth 3000 in
theorem mcount_any (n : Nat) (w : World) : Calls Try.prog 31 #[.int .u64 (n : Int)] w fun e w' => e = .returned (.bool (decide (ctP n))) ∧ w = w' := by
  obtain ⟨B, hB⟩ : ∃ B, B = decide (ctP n) := ⟨_, rfl⟩
  rw [← hB]
  have HB := Lib.hid hB
  clear hB
  go_enter Try.func31, Try.ntmps31
  go_wp2_with fail
  all_goals
    go_ret
    refine ⟨congrArg (fun b => Ending.returned (Value.bool b)) ?_, rfl⟩
    rw [HB.out, Bool.eq_iff_iff, decide_eq_true_iff (p := ctP n)]
    unfold ctP
    first | omega | (simp; done) | (simp; omega)
set_option maxRecDepth 3000 in
theorem q16count_any (n : Nat) (w : World) : Calls Try.prog 33 #[.int .u64 (n : Int)] w fun e w' => e = .returned (.bool (decide (ctP n))) ∧ w = w' := by
  obtain ⟨B, hB⟩ : ∃ B, B = decide (ctP n) := ⟨_, rfl⟩
  rw [← hB]
  have HB := Lib.hid hB
  clear hB
  go_enter Try.func33, Try.ntmps33
  go_wp2_with fail
  all_goals
    go_ret
    refine ⟨congrArg (fun b => Ending.returned (Value.bool b)) ?_, rfl⟩
    rw [HB.out, Bool.eq_iff_iff, decide_eq_true_iff (p := ctP n)]
    unfold ctP
    first | omega | (simp; done) | (simp; omega)
set_option maxRecDepth 3000 in
theorem mmode_any (x : Int) (w : World) : Calls Try.prog 61 #[.int .i64 x] w fun e w' => e = .returned (.bool (decide (moP x))) ∧ w = w' := by
  obtain ⟨B, hB⟩ : ∃ B, B = decide (moP x) := ⟨_, rfl⟩
  rw [← hB]
  have HB := Lib.hid hB
  clear hB
  go_enter Try.func61, Try.ntmps61
  go_wp2_with fail
  all_goals
    go_ret
    refine ⟨congrArg (fun b => Ending.returned (Value.bool b)) ?_, rfl⟩
    rw [HB.out, Bool.eq_iff_iff, decide_eq_true_iff (p := moP x)]
    unfold moP
    first | omega | (simp; done) | (simp; omega)
set_option maxRecDepth 3000 in
theorem mfile_any (i g : Int) (w : World) : Calls Try.prog 59 #[.agg #[.int .i64 i, .int .i64 g]] w fun e w' => e = .returned (.bool (decide (flP i g))) ∧ Adv Nul w Nul w' := by
  obtain ⟨B, hB⟩ : ∃ B, B = decide (flP i g) := ⟨_, rfl⟩
  rw [← hB]
  have HB := Lib.hid hB
  clear hB
  have HA := Lib.hid ((Adv.refl Nul w).alloc (.cells #[.int .i64 i, .int .i64 g] 25))
  go_enter Try.func59, Try.ntmps59
  go_wp2_with fail
  all_goals
    go_ret
    refine ⟨congrArg (fun b => Ending.returned (Value.bool b)) ?_, HA.out⟩
    rw [HB.out, Bool.eq_iff_iff, decide_eq_true_iff (p := flP i g)]
    unfold flP
    first | omega | (simp; done) | (simp; omega)
set_option maxRecDepth 3000 in
theorem q16file_any (i g : Int) (w : World) : Calls Try.prog 65 #[.agg #[.int .i64 i, .int .i64 g]] w fun e w' => e = .returned (.bool (decide (flP i g))) ∧ Adv Nul w Nul w' := by
  obtain ⟨B, hB⟩ : ∃ B, B = decide (flP i g) := ⟨_, rfl⟩
  rw [← hB]
  have HB := Lib.hid hB
  clear hB
  have HA := Lib.hid ((Adv.refl Nul w).alloc (.cells #[.int .i64 i, .int .i64 g] 25))
  go_enter Try.func65, Try.ntmps65
  go_wp2_with fail
  all_goals
    go_ret
    refine ⟨congrArg (fun b => Ending.returned (Value.bool b)) ?_, HA.out⟩
    rw [HB.out, Bool.eq_iff_iff, decide_eq_true_iff (p := flP i g)]
    unfold flP
    first | omega | (simp; done) | (simp; omega)
set_option maxRecDepth 3000 in
theorem kind_eqs {k : Int} (h : ¬ (1 ≤ k ∧ k ≤ 14)) : (k == 1) = false ∧ (k == 2) = false ∧ (k == 3) = false ∧ (k == 4) = false ∧ (k == 5) = false ∧ (k == 6) = false ∧ (k == 7) = false ∧ (k == 8) = false ∧ (k == 9) = false ∧ (k == 10) = false ∧ (k == 11) = false ∧ (k == 12) = false ∧ (k == 13) = false ∧ (k == 14) = false := by
  simp only [beq_eq_false_iff_ne]
  omega
set_option maxRecDepth 3000 in
theorem kinds14 {k : Int} (h : 1 ≤ k ∧ k ≤ 14) : k = 1 ∨ k = 2 ∨ k = 3 ∨ k = 4 ∨ k = 5 ∨ k = 6 ∨ k = 7 ∨ k = 8 ∨ k = 9 ∨ k = 10 ∨ k = 11 ∨ k = 12 ∨ k = 13 ∨ k = 14 := by omega
set_option maxRecDepth 3000 in
theorem askM_no {k : Int} (h : ¬ (1 ≤ k ∧ k ≤ 14)) : askM k = 0 := by
  unfold askM
  rw [if_neg (by omega), if_neg (by omega), if_neg (by omega), if_neg (by omega), if_neg (by omega), if_neg (by omega), if_neg (by omega), if_neg (by omega)]
set_option maxRecDepth 3000 in
theorem tolM_no {k : Int} (h : ¬ (1 ≤ k ∧ k ≤ 14)) : tolM k = 0 := by
  unfold tolM
  rw [if_neg (by omega), if_neg (by omega), if_neg (by omega), if_neg (by omega), if_neg (by omega)]
set_option maxRecDepth 3000 in
theorem asked_any (k : Int) (w : World) : Calls Try.prog 57 #[.int .i64 k] w fun e w' => e = .returned (.int .i64 (askM k : Int)) ∧ w = w' := by
  by_cases h : 1 ≤ k ∧ k ≤ 14
  · rcases kinds14 h with rfl | rfl | rfl | rfl | rfl | rfl | rfl | rfl | rfl | rfl | rfl | rfl | rfl | rfl <;>
    · clear h
      go_enter Try.func57, Try.ntmps57
      go_wp2_with fail
      go_ret
      exact ⟨rfl, rfl⟩
  · rw [askM_no h]
    obtain ⟨b1, b2, b3, b4, b5, b6, b7, b8, b9, b10, b11, b12, b13, b14⟩ := kind_eqs h
    clear h
    go_enter Try.func57, Try.ntmps57
    go_wp2_with fail
    go_ret
    exact ⟨rfl, rfl⟩
set_option maxRecDepth 3000 in
theorem told_any (k : Int) (w : World) : Calls Try.prog 58 #[.int .i64 k] w fun e w' => e = .returned (.int .i64 (tolM k : Int)) ∧ w = w' := by
  by_cases h : 1 ≤ k ∧ k ≤ 14
  · rcases kinds14 h with rfl | rfl | rfl | rfl | rfl | rfl | rfl | rfl | rfl | rfl | rfl | rfl | rfl | rfl <;>
    · clear h
      go_enter Try.func58, Try.ntmps58
      go_wp2_with fail
      go_ret
      exact ⟨rfl, rfl⟩
  · rw [tolM_no h]
    obtain ⟨b1, b2, b3, b4, b5, b6, b7, b8, b9, b10, b11, b12, b13, b14⟩ := kind_eqs h
    clear h
    go_enter Try.func58, Try.ntmps58
    go_wp2_with fail
    go_ret
    exact ⟨rfl, rfl⟩
def idleP (k : Int) : Prop := 1 ≤ k ∧ k ≤ 14 ∧ k ≠ 4 ∧ k ≠ 5 ∧ k ≠ 6 ∧ k ≠ 11
instance (k : Int) : Decidable (idleP k) := by unfold idleP; infer_instance
set_option maxRecDepth 3000 in
theorem idle_any (k : Int) (w : World) : Calls Try.prog 20 #[.int .i64 k] w fun e w' => e = .returned (.bool (decide (idleP k))) ∧ w = w' := by
  by_cases h : 1 ≤ k ∧ k ≤ 14
  · rcases kinds14 h with rfl | rfl | rfl | rfl | rfl | rfl | rfl | rfl | rfl | rfl | rfl | rfl | rfl | rfl <;>
    · clear h
      go_enter Try.func20, Try.ntmps20
      go_wp2_with fail
      go_ret
      exact ⟨rfl, rfl⟩
  · rw [decide_eq_false (fun x : idleP k => h ⟨x.1, x.2.1⟩)]
    obtain ⟨b1, b2, b3, b4, b5, b6, b7, b8, b9, b10, b11, b12, b13, b14⟩ := kind_eqs h
    clear h
    go_enter Try.func20, Try.ntmps20
    go_wp2_with fail
    go_ret
    exact ⟨rfl, rfl⟩
set_option maxRecDepth 3000 in
theorem entries_ok (l : List En) (v : Value) (w : World) (h : EnR7 w v l) : Calls Try.prog 62 #[v] w fun e w' => e = .returned (.bool (enB l)) ∧ Adv Nul w Nul w' := by
  have HD := Lib.hid (dblocks_any v l w h)
  have he : enB l = (bE l == 0) := by
    unfold enB
    rw [Bool.eq_iff_iff, decide_eq_true_iff, beq_iff_eq]
    exact ⟨fun h => bE_of h.1 h.2, fun h => bE_ok h⟩
  rw [he]
  obtain ⟨E, hE⟩ : ∃ E, E = bE l := ⟨_, rfl⟩
  have HD2 := Lib.hid (show Calls Try.prog 83 #[v] w fun x w' => ∃ A n c, x = .returned (.tuple #[.slice A n c, .int .i64 E]) ∧ Adv Nul w Nul w' from HD.out.mono fun x w' ⟨A, n, c, h1, _, h3⟩ => ⟨A, n, c, by rw [hE]; exact h1, h3⟩)
  rw [← hE]
  clear he hE h HD
  go_enter Try.func62, Try.ntmps62
  go_wp2_with (first
    | (go_at_call 83; refine HD2.out.mono ?_; rintro x w1 ⟨A, n, c, rfl, ha⟩; have HA := Lib.hid ha; clear ha)
    | fail)
  go_ret
  exact ⟨by first | rfl | simp, HA.out⟩
end Go.Proofs.Ytpgeebhepegpaaa
