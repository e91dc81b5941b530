/- A ring that no call made; ClockNobody. -/
import Derived.Test.YtmefpafjcafgnaaDoorCkF
namespace Go.Proofs.YtmefpafjcafgnaaDoor
open Go.RowKit

def zC : Array Value := #[.int .i64 0, .int .u64 0, .int .u64 0, .int .u64 0, .int .i64 0]
def CNo (w : World) (v : Value) : Prop := v = .pointer none ∨ ∃ d, v = .pointer (some ⟨d, 0, none⟩) ∧ Blk w d 55 zC
set_option maxRecDepth 3000 in
theorem kmade_no (v : Value) (w : World) (h : CNo w v) : Calls Tryd.prog 25 #[v] w fun e w' => e = .returned (.bool false) ∧ w = w' := by
  rcases h with rfl | ⟨d, rfl, hb⟩
  · go_enter Tryd.func25, Tryd.ntmps25
    go_wp2
    go_ret
    exact ⟨rfl, rfl⟩
  · have c0 : w.cell? ⟨d, 0, none⟩ = some (.int .i64 0) := hb.cell 0
    clear hb
    go_enter Tryd.func25, Tryd.ntmps25
    go_wp2
    go_ret
    exact ⟨rfl, rfl⟩
set_option maxRecDepth 3000 in
theorem kcheck_no (v i : Value) (w : World) (h : CNo w v) : Calls Tryd.prog 30 #[v, i] w fun e w' => e = .returned (.int .i64 1) ∧ w = w' := by
  have H := Lib.hid h
  clear h
  go_enter Tryd.func30, Tryd.ntmps30
  go_wp2_with (first
    | (go_at_call 25; refine (kmade_no _ _ H.out).mono ?_; rintro e w1 ⟨rfl, rfl⟩)
    | fail)
  go_ret
  exact ⟨rfl, rfl⟩
set_option maxRecDepth 3000 in
theorem kcheckUsed_no (v i : Value) (w : World) (h : CNo w v) : Calls Tryd.prog 33 #[v, i] w fun e w' => e = .returned (.int .i64 1) ∧ w = w' := by
  have H := Lib.hid h
  clear h
  go_enter Tryd.func33, Tryd.ntmps33
  go_wp2_with (first
    | (go_at_call 30; refine (kcheck_no _ _ _ H.out).mono ?_; rintro e w1 ⟨rfl, rfl⟩)
    | fail)
  go_ret
  exact ⟨rfl, rfl⟩
set_option maxRecDepth 3000 in
theorem kuse_no (v i : Value) (w : World) (h : CNo w v) : Calls Tryd.prog 20 #[v, i] w fun e w' => e = .returned (.int .i64 1) ∧ w = w' := by
  have H := Lib.hid h
  clear h
  go_enter Tryd.func20, Tryd.ntmps20
  go_wp2_with (first
    | (go_at_call 30; refine (kcheck_no _ _ _ H.out).mono ?_; rintro e w1 ⟨rfl, rfl⟩)
    | fail)
  go_ret
  exact ⟨rfl, rfl⟩
set_option maxRecDepth 3000 in
theorem kdrop_no (v i : Value) (w : World) (h : CNo w v) : Calls Tryd.prog 21 #[v, i] w fun e w' => e = .returned (.int .i64 1) ∧ w = w' := by
  have H := Lib.hid h
  clear h
  go_enter Tryd.func21, Tryd.ntmps21
  go_wp2_with (first
    | (go_at_call 30; refine (kcheck_no _ _ _ H.out).mono ?_; rintro e w1 ⟨rfl, rfl⟩)
    | fail)
  go_ret
  exact ⟨rfl, rfl⟩
set_option maxRecDepth 3000 in
theorem kunpin_no (v i : Value) (w : World) (h : CNo w v) : Calls Tryd.prog 24 #[v, i] w fun e w' => e = .returned (.int .i64 1) ∧ w = w' := by
  have H := Lib.hid h
  clear h
  go_enter Tryd.func24, Tryd.ntmps24
  go_wp2_with (first
    | (go_at_call 30; refine (kcheck_no _ _ _ H.out).mono ?_; rintro e w1 ⟨rfl, rfl⟩)
    | fail)
  go_ret
  exact ⟨rfl, rfl⟩
set_option maxRecDepth 3000 in
theorem ktouch_no (v i : Value) (w : World) (h : CNo w v) : Calls Tryd.prog 22 #[v, i] w fun e w' => e = .returned (.int .i64 1) ∧ w = w' := by
  have H := Lib.hid h
  clear h
  go_enter Tryd.func22, Tryd.ntmps22
  go_wp2_with (first
    | (go_at_call 33; refine (kcheckUsed_no _ _ _ H.out).mono ?_; rintro e w1 ⟨rfl, rfl⟩)
    | fail)
  go_ret
  exact ⟨rfl, rfl⟩
set_option maxRecDepth 3000 in
theorem kpin_no (v i : Value) (w : World) (h : CNo w v) : Calls Tryd.prog 23 #[v, i] w fun e w' => e = .returned (.int .i64 1) ∧ w = w' := by
  have H := Lib.hid h
  clear h
  go_enter Tryd.func23, Tryd.ntmps23
  go_wp2_with (first
    | (go_at_call 33; refine (kcheckUsed_no _ _ _ H.out).mono ?_; rintro e w1 ⟨rfl, rfl⟩)
    | fail)
  go_ret
  exact ⟨rfl, rfl⟩
set_option maxRecDepth 3000 in
theorem kused_no (v : Value) (w : World) (h : CNo w v) : Calls Tryd.prog 14 #[v] w fun e w' => e = .returned (.slice none 0 0) ∧ w = w' := by
  have H := Lib.hid h
  clear h
  go_enter Tryd.func14, Tryd.ntmps14
  go_wp2_with (first
    | (go_at_call 25; refine (kmade_no _ _ H.out).mono ?_; rintro e w1 ⟨rfl, rfl⟩)
    | fail)
  go_ret
  exact ⟨rfl, rfl⟩
set_option maxRecDepth 3000 in
theorem kpinned_no (v : Value) (w : World) (h : CNo w v) : Calls Tryd.prog 15 #[v] w fun e w' => e = .returned (.slice none 0 0) ∧ w = w' := by
  have H := Lib.hid h
  clear h
  go_enter Tryd.func15, Tryd.ntmps15
  go_wp2_with (first
    | (go_at_call 25; refine (kmade_no _ _ H.out).mono ?_; rintro e w1 ⟨rfl, rfl⟩)
    | fail)
  go_ret
  exact ⟨rfl, rfl⟩
set_option maxRecDepth 3000 in
theorem khand_no (v : Value) (w : World) (h : CNo w v) : Calls Tryd.prog 16 #[v] w fun e w' => e = .returned (.int .i64 0) ∧ w = w' := by
  have H := Lib.hid h
  clear h
  go_enter Tryd.func16, Tryd.ntmps16
  go_wp2_with (first
    | (go_at_call 25; refine (kmade_no _ _ H.out).mono ?_; rintro e w1 ⟨rfl, rfl⟩)
    | fail)
  go_ret
  exact ⟨rfl, rfl⟩
set_option maxRecDepth 3000 in
theorem knext_no (v : Value) (w : World) (h : CNo w v) : Calls Tryd.prog 10 #[v] w fun e w' => e = .returned (.tuple #[.int .i64 (-1), .int .i64 1]) ∧ w = w' := by
  have H := Lib.hid h
  clear h
  go_enter Tryd.func10, Tryd.ntmps10
  go_wp2_with (first
    | (go_at_call 25; refine (kmade_no _ _ H.out).mono ?_; rintro e w1 ⟨rfl, rfl⟩)
    | fail)
  go_ret2
  exact ⟨rfl, rfl⟩

set_option maxRecDepth 3000 in
set_option maxHeartbeats 3200000 in
theorem cnobody_walk (w : World) (hT : Tz w) (i : Int) (_ : (Lit.int .i64 i).wf = true) :
    Calls Tryd.prog 5 #[.int .i64 i] w fun e w' => e = .returned (.bool true) ∧ Below w.heap.size w w' := by
  have HT := Lib.hid hT
  clear hT
  go_enter Tryd.func5, Tryd.ntmps5
  go_wp2_with fail
  go_loopw [3] (fun t wr => ∃ k : Nat, k ≤ 2 ∧ t = .int .i64 ((k : Nat) : Int) ∧ Below w.heap.size w wr) (fun t _ => 2 - (intOf t).toNat)
  case atStart => exact ⟨0, by omega, rfl, Below.refl _ _⟩
  case round =>
    obtain ⟨k, hk, rfl, hbe⟩ := hrel
    have HB := Lib.hid hbe
    clear hbe
    by_cases hk2 : k < 2
    · rcases Nat.lt_or_ge k 1 with hk1 | hk1
      · obtain rfl : k = 0 := by omega
        have hno : ∀ w, CNo w (.pointer none) := fun w => .inl rfl
        go_wp2_with (first
          | (go_at_call 20; refine (kuse_no _ _ _ (hno _)).mono ?_; rintro e w1 ⟨rfl, rfl⟩)
          | (go_at_call 21; refine (kdrop_no _ _ _ (hno _)).mono ?_; rintro e w1 ⟨rfl, rfl⟩)
          | (go_at_call 22; refine (ktouch_no _ _ _ (hno _)).mono ?_; rintro e w1 ⟨rfl, rfl⟩)
          | (go_at_call 23; refine (kpin_no _ _ _ (hno _)).mono ?_; rintro e w1 ⟨rfl, rfl⟩)
          | (go_at_call 24; refine (kunpin_no _ _ _ (hno _)).mono ?_; rintro e w1 ⟨rfl, rfl⟩)
          | (go_at_call 14; refine (kused_no _ _ (hno _)).mono ?_; rintro e w1 ⟨rfl, rfl⟩)
          | (go_at_call 15; refine (kpinned_no _ _ (hno _)).mono ?_; rintro e w1 ⟨rfl, rfl⟩)
          | (go_at_call 16; refine (khand_no _ _ (hno _)).mono ?_; rintro e w1 ⟨rfl, rfl⟩)
          | (go_at_call 10; refine (knext_no _ _ (hno _)).mono ?_; rintro e w1 ⟨rfl, rfl⟩)
          | fail)
        refine ⟨⟨1, by omega, rfl, HB.out⟩, by simp [intOf]⟩
      · obtain rfl : k = 1 := by omega
        have HNO := Lib.hid (show CNo (wr.alloc (.cells zC 55)) (.pointer (some ⟨wr.heap.size, 0, none⟩)) from .inr ⟨_, rfl, Blk.new wr _ _⟩)
        go_wp2_with (first
          | (go_at_call 20; refine (kuse_no _ _ _ HNO.out).mono ?_; rintro e w1 ⟨rfl, rfl⟩)
          | (go_at_call 21; refine (kdrop_no _ _ _ HNO.out).mono ?_; rintro e w1 ⟨rfl, rfl⟩)
          | (go_at_call 22; refine (ktouch_no _ _ _ HNO.out).mono ?_; rintro e w1 ⟨rfl, rfl⟩)
          | (go_at_call 23; refine (kpin_no _ _ _ HNO.out).mono ?_; rintro e w1 ⟨rfl, rfl⟩)
          | (go_at_call 24; refine (kunpin_no _ _ _ HNO.out).mono ?_; rintro e w1 ⟨rfl, rfl⟩)
          | (go_at_call 14; refine (kused_no _ _ HNO.out).mono ?_; rintro e w1 ⟨rfl, rfl⟩)
          | (go_at_call 15; refine (kpinned_no _ _ HNO.out).mono ?_; rintro e w1 ⟨rfl, rfl⟩)
          | (go_at_call 16; refine (khand_no _ _ HNO.out).mono ?_; rintro e w1 ⟨rfl, rfl⟩)
          | (go_at_call 10; refine (knext_no _ _ HNO.out).mono ?_; rintro e w1 ⟨rfl, rfl⟩)
          | fail)
        refine ⟨⟨2, by omega, rfl, (HB.out.alloc HB.out.size _)⟩, by simp [intOf]⟩
    · obtain rfl : k = 2 := by omega
      have HTw := Lib.hid (HT.out.below HB.out)
      go_wp2_with (first
        | (go_at_call 17; refine (clives_any _ HTw.out).mono ?_; rintro e w7 ⟨rfl, hb7⟩)
        | fail)
      go_ret
      exact ⟨rfl, HB.out.trans (hb7.mono HB.out.size)⟩
end Go.Proofs.YtmefpafjcafgnaaDoor
