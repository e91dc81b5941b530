/- A disk that no call made; DiskNobody. -/
import Derived.Test.YtlpdpbhnfhihjaaGreatMgDl
namespace Go.Proofs.YtlpdpbhnfhihjaaGreat
open Go.RowKit

def zD : Array Value := #[.slice none 0 0, .slice none 0 0, .slice none 0 0, .bool false, .bool false, .int .i64 0]
def DNo (w : World) (v : Value) : Prop := v = .pointer none ∨ ∃ d, v = .pointer (some ⟨d, 0, none⟩) ∧ Blk w d 75 zD

set_option maxRecDepth 3000 in
theorem made_no (v : Value) (w : World) (h : DNo w v) : Calls Tryz.prog 65 #[v] w fun e w' => e = .returned (.bool false) ∧ w = w' := by
  rcases h with rfl | ⟨d, rfl, hb⟩
  · go_enter Tryz.func65, Tryz.ntmps65
    go_wp2
    go_ret
    exact ⟨rfl, rfl⟩
  · have c0 : w.cell? ⟨d, 0, none⟩ = some (.slice none 0 0) := hb.cell 0
    clear hb
    go_enter Tryz.func65, Tryz.ntmps65
    go_wp2
    go_ret
    exact ⟨rfl, rfl⟩
set_option maxRecDepth 3000 in
theorem crash_no (v k t : Value) (w : World) (h : DNo w v) : Calls Tryz.prog 21 #[v, k, t] w fun e w' => e = .returned (.tuple #[]) ∧ w = w' := by
  have H := Lib.hid h
  clear h
  go_enter Tryz.func21, Tryz.ntmps21
  go_wp2_with (first
    | (go_at_call 65; refine (made_no _ _ H.out).mono ?_; rintro e w1 ⟨rfl, rfl⟩)
    | fail)
  refine bodyPost_ret (results_none rfl _ _ _) rfl ?_
  exact ⟨rfl, rfl⟩
set_option maxRecDepth 3000 in
theorem read_no (v i : Value) (w : World) (h : DNo w v) : Calls Tryz.prog 26 #[v, i] w fun e w' => e = .returned (.tuple #[.slice none 0 0, .int .i64 1]) ∧ w = w' := by
  have H := Lib.hid h
  clear h
  go_enter Tryz.func26, Tryz.ntmps26
  go_wp2_with (first
    | (go_at_call 65; refine (made_no _ _ H.out).mono ?_; rintro e w1 ⟨rfl, rfl⟩)
    | fail)
  go_ret2
  exact ⟨rfl, rfl⟩
set_option maxRecDepth 3000 in
theorem write_no (v i b : Value) (w : World) (h : DNo w v) : Calls Tryz.prog 87 #[v, i, b] w fun e w' => e = .returned (.int .i64 1) ∧ w = w' := by
  have H := Lib.hid h
  clear h
  go_enter Tryz.func87, Tryz.ntmps87
  go_wp2_with (first
    | (go_at_call 65; refine (made_no _ _ H.out).mono ?_; rintro e w1 ⟨rfl, rfl⟩)
    | fail)
  go_ret
  exact ⟨rfl, rfl⟩
set_option maxRecDepth 3000 in
theorem flush_no (v : Value) (w : World) (h : DNo w v) : Calls Tryz.prog 60 #[v] w fun e w' => e = .returned (.int .i64 1) ∧ w = w' := by
  have H := Lib.hid h
  clear h
  go_enter Tryz.func60, Tryz.ntmps60
  go_wp2_with (first
    | (go_at_call 65; refine (made_no _ _ H.out).mono ?_; rintro e w1 ⟨rfl, rfl⟩)
    | fail)
  go_ret
  exact ⟨rfl, rfl⟩
set_option maxRecDepth 3000 in
theorem fuse_no (v i : Value) (w : World) (h : DNo w v) : Calls Tryz.prog 19 #[v, i] w fun e w' => e = .returned (.int .i64 1) ∧ w = w' := by
  have H := Lib.hid h
  clear h
  go_enter Tryz.func19, Tryz.ntmps19
  go_wp2_with (first
    | (go_at_call 65; refine (made_no _ _ H.out).mono ?_; rintro e w1 ⟨rfl, rfl⟩)
    | fail)
  go_ret
  exact ⟨rfl, rfl⟩
set_option maxRecDepth 3000 in
theorem size_no (v : Value) (w : World) (h : DNo w v) : Calls Tryz.prog 37 #[v] w fun e w' => e = .returned (.int .i64 0) ∧ w = w' := by
  have H := Lib.hid h
  clear h
  go_enter Tryz.func37, Tryz.ntmps37
  go_wp2_with (first
    | (go_at_call 65; refine (made_no _ _ H.out).mono ?_; rintro e w1 ⟨rfl, rfl⟩)
    | fail)
  go_ret
  exact ⟨rfl, rfl⟩
set_option maxRecDepth 3000 in
theorem live_no (v : Value) (w : World) (h : DNo w v) : Calls Tryz.prog 33 #[v] w fun e w' => e = .returned (.bool false) ∧ w = w' := by
  have H := Lib.hid h
  clear h
  go_enter Tryz.func33, Tryz.ntmps33
  go_wp2_with (first
    | (go_at_call 65; refine (made_no _ _ H.out).mono ?_; rintro e w1 ⟨rfl, rfl⟩)
    | fail)
  go_ret
  exact ⟨rfl, rfl⟩
end Go.Proofs.YtlpdpbhnfhihjaaGreat
