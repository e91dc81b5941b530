/- Where there is no disk: Save, Load; HeadNobody. -/
import Derived.Test.YtochmeibmjfnnaaMgG
import Derived.Test.YtochmeibmjfnnaaDkN
namespace Go.Proofs.Ytochmeibmjfnnaa
open Go.RowKit

set_option maxRecDepth 3000 in
theorem hsave_no (at_ : Int) (w : World) : Calls Try.prog 8 #[.pointer none, .int .i64 at_, .int .u64 1, .agg #[.int .u64 0, .int .u64 0, .int .u64 0]] w fun e w' => e = .returned (.int .i64 1) ∧ Adv Nul w Nul w' := by
  go_enter Try.func8, Try.ntmps8
  go_wp2_with (first
    | (go_at_call 22; refine (size_no _ _ (.inl rfl)).mono ?_; rintro e w1 ⟨rfl, rfl⟩)
    | fail)
  go_ret
  exact ⟨rfl, (Adv.refl _ _).alloc _⟩
set_option maxRecDepth 3000 in
set_option maxHeartbeats 1600000 in
theorem hload_no (at_ : Int) (w : World) : Calls Try.prog 18 #[.pointer none, .int .i64 at_] w fun e w' => e = .returned (.tuple #[.agg #[.int .u64 0, .int .u64 0, .int .u64 0], .bool false, .int .i64 1]) ∧ Adv Nul w Nul w' := by
  obtain ⟨z, hz⟩ : ∃ z, z = w.heap.size := ⟨_, rfl⟩
  obtain ⟨V0, hV0⟩ : ∃ V, V = w.alloc (.cells #[.int .u64 0, .int .u64 0, .int .u64 0] 38) := ⟨_, rfl⟩
  obtain ⟨V, hV⟩ : ∃ V, V = V0.alloc (.cells #[.int .u64 0, .int .u64 0, .int .u64 0] 38) := ⟨_, rfl⟩
  have HZ := Lib.hid (show Blk V z 38 (h3 0 0 0) by rw [hV, hV0, hz]; exact (Blk.new _ _ _).alloc _)
  have HA := Lib.hid (show Adv Nul w Nul V by rw [hV, hV0]; exact ((Adv.refl _ _).alloc _).alloc _)
  have HWZ := Lib.hid (show w.heap.size ≤ z by rw [hz]; exact Nat.le_refl _)
  have HV := Lib.hid (show V = (w.alloc (.cells #[.int .u64 0, .int .u64 0, .int .u64 0] 38)).alloc (.cells #[.int .u64 0, .int .u64 0, .int .u64 0] 38) by rw [hV, hV0])
  have HZZ := Lib.hid hz
  clear hV hV0 hz
  go_enter Try.func18, Try.ntmps18
  go_upto_region 2 with (fail)
  rw [← HV.out, ← HZZ.out]
  obtain ⟨z0, z1, z2⟩ := HZ.out.three
  go_wp2_with fail
  go_loopw [15] (fun t wr => t = .int .i64 0 ∧ wr = V) (fun _ _ => 0)
  case atStart => exact ⟨rfl, rfl⟩
  case round =>
    obtain ⟨rfl, rfl⟩ := hrel
    go_wp2_with (first
      | (go_at_call 36; refine (read_no _ _ _ (.inl rfl)).mono ?_; rintro e w1 ⟨rfl, rfl⟩)
      | (refine op_store3 sizeHead rfl (.tmp 4) (.tmp 28) rfl z _ (h3 0 0 0) HZ.out rfl rfl (h3_one _ _ _) rfl rfl ?_)
      | fail)
    obtain ⟨hz0, hz1, hz2⟩ := (HZ.out.putAll (D := h3 0 0 0) rfl).three
    exact bodyPost_ret (v := .tuple #[.agg #[.int .u64 0, .int .u64 0, .int .u64 0], .bool false, .int .i64 1]) (by simp [results, Try.results18, go_sem, hz0, hz1, hz2]) rfl ⟨rfl, Adv.lsetCells _ 0 _ HA.out (.inr HWZ.out)⟩
set_option maxRecDepth 3000 in
set_option maxHeartbeats 1600000 in
theorem hnobody_walk (w : World) (i : Int) (_ : (Lit.int .i64 i).wf = true) :
    Calls Try.prog 5 #[.int .i64 i] w fun e w' => e = .returned (.bool true) ∧ Below w.heap.size w w' := by
  go_enter Try.func5, Try.ntmps5
  go_wp2_with fail
  refine (hload_no i _).mono ?_
  rintro e w1 ⟨rfl, a1⟩
  have A1 := Lib.hid a1
  clear a1
  obtain ⟨V, hV⟩ : ∃ V, V = w1.alloc (.cells #[.int .u64 0, .int .u64 0, .int .u64 0] 38) := ⟨_, rfl⟩
  obtain ⟨z, hz⟩ : ∃ z, z = w1.heap.size := ⟨_, rfl⟩
  have HZ := Lib.hid (show Blk V z 38 (h3 0 0 0) by rw [hV, hz]; exact Blk.new _ _ _)
  have HV := Lib.hid hV
  have HZZ := Lib.hid hz
  have HA := Lib.hid (show Adv Nul w Nul V by rw [hV]; exact A1.out.alloc _)
  clear hV hz
  go_upto_region 2 with (fail)
  rw [← HV.out, ← HZZ.out]
  obtain ⟨z0, z1, z2⟩ := HZ.out.three
  go_wp2_with (first
    | (go_at_call 8; refine (hsave_no _ _).mono ?_; rintro e w2 ⟨rfl, a2⟩)
    | (go_at_call 20; refine (hlives_any _).mono ?_; rintro e w3 ⟨rfl, a3⟩)
    | fail)
  go_ret
  exact ⟨rfl, (HA.out.trans (a2.trans a3)).toBelow⟩
end Go.Proofs.Ytochmeibmjfnnaa
