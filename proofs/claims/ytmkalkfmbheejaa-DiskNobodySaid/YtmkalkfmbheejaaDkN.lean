/- A disk that no call made; DiskNobody. -/
import Derived.Test.YtmkalkfmbheejaaDkY
namespace Go.Proofs.Ytmkalkfmbheejaa
open Go.RowKit

def zD : Array Value := #[.slice none 0 0, .slice none 0 0, .slice none 0 0, .bool false, .bool false, .int .i64 0]
def DNo (w : World) (v : Value) : Prop := v = .pointer none ∨ ∃ d, v = .pointer (some ⟨d, 0, none⟩) ∧ Blk w d 65 zD

theorem made_no (v : Value) (w : World) (h : DNo w v) : Calls Try.prog 32 #[v] w fun e w' => e = .returned (.bool false) ∧ w = w' := by
  rcases h with rfl | ⟨d, rfl, hb⟩
  · go_enter Try.func32, Try.ntmps32
    go_wp2
    go_ret
    exact ⟨rfl, rfl⟩
  · have c0 : w.cell? ⟨d, 0, none⟩ = some (.slice none 0 0) := hb.cell 0
    clear hb
    go_enter Try.func32, Try.ntmps32
    go_wp2
    go_ret
    exact ⟨rfl, rfl⟩
theorem crash_no (v k t : Value) (w : World) (h : DNo w v) : Calls Try.prog 21 #[v, k, t] w fun e w' => e = .returned (.tuple #[]) ∧ w = w' := by
  have H := Lib.hid h
  clear h
  go_enter Try.func21, Try.ntmps21
  go_wp2_with (first
    | (go_at_call 32; refine (made_no _ _ H.out).mono ?_; rintro e w1 ⟨rfl, rfl⟩)
    | fail)
  refine bodyPost_ret (results_none rfl _ _ _) rfl ?_
  exact ⟨rfl, rfl⟩
theorem read_no (v i : Value) (w : World) (h : DNo w v) : Calls Try.prog 16 #[v, i] w fun e w' => e = .returned (.tuple #[.slice none 0 0, .int .i64 1]) ∧ w = w' := by
  have H := Lib.hid h
  clear h
  go_enter Try.func16, Try.ntmps16
  go_wp2_with (first
    | (go_at_call 32; refine (made_no _ _ H.out).mono ?_; rintro e w1 ⟨rfl, rfl⟩)
    | fail)
  go_ret2
  exact ⟨rfl, rfl⟩
theorem write_no (v i b : Value) (w : World) (h : DNo w v) : Calls Try.prog 12 #[v, i, b] w fun e w' => e = .returned (.int .i64 1) ∧ w = w' := by
  have H := Lib.hid h
  clear h
  go_enter Try.func12, Try.ntmps12
  go_wp2_with (first
    | (go_at_call 32; refine (made_no _ _ H.out).mono ?_; rintro e w1 ⟨rfl, rfl⟩)
    | fail)
  go_ret
  exact ⟨rfl, rfl⟩
theorem flush_no (v : Value) (w : World) (h : DNo w v) : Calls Try.prog 14 #[v] w fun e w' => e = .returned (.int .i64 1) ∧ w = w' := by
  have H := Lib.hid h
  clear h
  go_enter Try.func14, Try.ntmps14
  go_wp2_with (first
    | (go_at_call 32; refine (made_no _ _ H.out).mono ?_; rintro e w1 ⟨rfl, rfl⟩)
    | fail)
  go_ret
  exact ⟨rfl, rfl⟩
theorem fuse_no (v i : Value) (w : World) (h : DNo w v) : Calls Try.prog 19 #[v, i] w fun e w' => e = .returned (.int .i64 1) ∧ w = w' := by
  have H := Lib.hid h
  clear h
  go_enter Try.func19, Try.ntmps19
  go_wp2_with (first
    | (go_at_call 32; refine (made_no _ _ H.out).mono ?_; rintro e w1 ⟨rfl, rfl⟩)
    | fail)
  go_ret
  exact ⟨rfl, rfl⟩
theorem size_no (v : Value) (w : World) (h : DNo w v) : Calls Try.prog 23 #[v] w fun e w' => e = .returned (.int .i64 0) ∧ w = w' := by
  have H := Lib.hid h
  clear h
  go_enter Try.func23, Try.ntmps23
  go_wp2_with (first
    | (go_at_call 32; refine (made_no _ _ H.out).mono ?_; rintro e w1 ⟨rfl, rfl⟩)
    | fail)
  go_ret
  exact ⟨rfl, rfl⟩
theorem waits_no (v : Value) (w : World) (h : DNo w v) : Calls Try.prog 31 #[v] w fun e w' => e = .returned (.slice none 0 0) ∧ w = w' := by
  have H := Lib.hid h
  clear h
  go_enter Try.func31, Try.ntmps31
  go_wp2_with (first
    | (go_at_call 32; refine (made_no _ _ H.out).mono ?_; rintro e w1 ⟨rfl, rfl⟩)
    | fail)
  go_ret
  exact ⟨rfl, rfl⟩
theorem live_no (v : Value) (w : World) (h : DNo w v) : Calls Try.prog 24 #[v] w fun e w' => e = .returned (.bool false) ∧ w = w' := by
  have H := Lib.hid h
  clear h
  go_enter Try.func24, Try.ntmps24
  go_wp2_with (first
    | (go_at_call 32; refine (made_no _ _ H.out).mono ?_; rintro e w1 ⟨rfl, rfl⟩)
    | fail)
  go_ret
  exact ⟨rfl, rfl⟩

set_option maxHeartbeats 1600000 in
theorem dnobody_walk (w : World) (i : Int) (_ : (Lit.int .i64 i).wf = true) (vb : Value) (hb : ∃ l, In w vb l) :
    Calls Try.prog 6 #[.int .i64 i, vb] w fun e w' => e = .returned (.bool true) ∧ Below w.heap.size w w' := by
  obtain ⟨l, hb⟩ := hb
  have HI := Lib.hid hb
  clear hb
  go_enter Try.func6, Try.ntmps6
  go_wp2_with (first
    | (go_at_call 11; refine (cut_form vb l 200 _ HI.out (by decide)).mono ?_; rintro e w1 ⟨k1, A, c, m, rfl, _, _, rfl⟩)
    | fail)
  go_loopw [5] (fun t wr => ∃ k : Nat, k ≤ 2 ∧ t = .int .i64 ((k : Nat) : Int) ∧ Below w.heap.size w wr) (fun t _ => 2 - (intOf t).toNat)
  case atStart => exact ⟨0, by omega, rfl, Below.refl _ _⟩
  case round =>
    obtain ⟨k, hk, rfl, hbe⟩ := hrel
    have HB := Lib.hid hbe
    clear hbe
    by_cases hk2 : k < 2
    · rcases Nat.lt_or_ge k 1 with hk1 | hk1
      · obtain rfl : k = 0 := by omega
        have hno : ∀ w, DNo w (.pointer none) := fun w => .inl rfl
        go_wp2_with (first
          | (go_at_call 21; refine (crash_no _ _ _ _ (hno _)).mono ?_; rintro e w1 ⟨rfl, rfl⟩)
          | (go_at_call 16; refine (read_no _ _ _ (hno _)).mono ?_; rintro e w1 ⟨rfl, rfl⟩)
          | (go_at_call 12; refine (write_no _ _ _ _ (hno _)).mono ?_; rintro e w1 ⟨rfl, rfl⟩)
          | (go_at_call 14; refine (flush_no _ _ (hno _)).mono ?_; rintro e w1 ⟨rfl, rfl⟩)
          | (go_at_call 19; refine (fuse_no _ _ _ (hno _)).mono ?_; rintro e w1 ⟨rfl, rfl⟩)
          | (go_at_call 23; refine (size_no _ _ (hno _)).mono ?_; rintro e w1 ⟨rfl, rfl⟩)
          | (go_at_call 31; refine (waits_no _ _ (hno _)).mono ?_; rintro e w1 ⟨rfl, rfl⟩)
          | (go_at_call 24; refine (live_no _ _ (hno _)).mono ?_; rintro e w1 ⟨rfl, rfl⟩)
          | fail)
        refine ⟨⟨1, by omega, rfl, HB.out.alloc HB.out.size _⟩, by simp [intOf]⟩
      · obtain rfl : k = 1 := by omega
        have hno : ∀ o, DNo ((wr.alloc (.cells zD 65)).alloc o) (.pointer (some ⟨wr.heap.size, 0, none⟩)) := fun o => .inr ⟨_, rfl, (Blk.new wr _ _).alloc _⟩
        have HNO := Lib.hid hno
        clear hno
        go_wp2_with (first
          | (go_at_call 21; refine (crash_no _ _ _ _ (HNO.out _)).mono ?_; rintro e w1 ⟨rfl, rfl⟩)
          | (go_at_call 16; refine (read_no _ _ _ (HNO.out _)).mono ?_; rintro e w1 ⟨rfl, rfl⟩)
          | (go_at_call 12; refine (write_no _ _ _ _ (HNO.out _)).mono ?_; rintro e w1 ⟨rfl, rfl⟩)
          | (go_at_call 14; refine (flush_no _ _ (HNO.out _)).mono ?_; rintro e w1 ⟨rfl, rfl⟩)
          | (go_at_call 19; refine (fuse_no _ _ _ (HNO.out _)).mono ?_; rintro e w1 ⟨rfl, rfl⟩)
          | (go_at_call 23; refine (size_no _ _ (HNO.out _)).mono ?_; rintro e w1 ⟨rfl, rfl⟩)
          | (go_at_call 31; refine (waits_no _ _ (HNO.out _)).mono ?_; rintro e w1 ⟨rfl, rfl⟩)
          | (go_at_call 24; refine (live_no _ _ (HNO.out _)).mono ?_; rintro e w1 ⟨rfl, rfl⟩)
          | fail)
        refine ⟨⟨2, by omega, rfl, (HB.out.alloc HB.out.size _).alloc (HB.out.alloc HB.out.size _).size _⟩, by simp [intOf]⟩
    · obtain rfl : k = 2 := by omega
      go_wp2_with (first
        | (go_at_call 26; refine (lives_any _).mono ?_; rintro e w7 ⟨rfl, hb7⟩)
        | fail)
      go_ret
      exact ⟨rfl, HB.out.trans (hb7.mono HB.out.size)⟩
end Go.Proofs.Ytmkalkfmbheejaa
