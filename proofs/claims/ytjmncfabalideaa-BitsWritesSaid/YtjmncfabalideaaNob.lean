/- Texts cut short; BitsNobody. -/
import Derived.Test.YtjmncfabalideaaLives
import Derived.Test.YtjmncfabalideaaText
namespace Go.Proofs.Ytjmncfabalideaa
open Go.RowKit

theorem short_any (s : ByteArray) (n : Nat) (w : World) (hn : n ≤ 1000000000) (_hs : s.size ≤ maxLen) :
    Calls Try.prog 34 #[.string s, .int .i64 n] w fun e w' => e = .returned (.string (if n < s.size then s.extract 0 n else s)) ∧ w = w' := by
  by_cases h : n < s.size
  · rw [if_pos h]
    have h1 : (n : Int) < (s.size : Int) := by omega
    go_enter Try.func34, Try.ntmps34
    go_wp2
    go_ret
    exact ⟨rfl, rfl⟩
  · rw [if_neg h]
    have h1 : (s.size : Int) ≤ (n : Int) := by omega
    go_enter Try.func34, Try.ntmps34
    go_wp2
    go_ret
    exact ⟨rfl, rfl⟩

theorem short40 (s : ByteArray) (w : World) (hs : s.size ≤ maxLen) :
    Calls Try.prog 34 #[.string s, .int .i64 40] w fun e w' => ∃ t : ByteArray, e = .returned (.string t) ∧ t.size ≤ 40 ∧ (s.size ≤ 40 → t = s) ∧ w = w' := by
  refine (short_any s 40 w (by decide) hs).mono ?_
  rintro e w' ⟨rfl, rfl⟩
  refine ⟨_, rfl, ?_, ?_, rfl⟩
  · split
    · simp only [ByteArray.size_extract]; omega
    · omega
  · intro h
    rw [if_neg (by omega)]

theorem rend_no (v : Value) (w : World) (hw : RNo w v) :
    Calls Try.prog 31 #[v] w fun e w' => e = .returned (.int .i64 1) ∧ w = w' := by
  have H := Lib.hid hw
  clear hw
  go_enter Try.func31, Try.ntmps31
  go_wp2_with (first
    | (go_at_call 28; refine (rerr_no _ _ H.out).mono ?_; rintro e w1 ⟨rfl, rfl⟩))
  go_ret
  exact ⟨rfl, rfl⟩

theorem rtext_no (v : Value) (w : World) (hw : RNo w v) :
    Calls Try.prog 26 #[v] w fun e w' => e = .returned (.string ⟨#[]⟩) ∧ w = w' := by
  have H := Lib.hid hw
  clear hw
  go_enter Try.func26, Try.ntmps26
  go_wp2_with (first
    | (go_at_call 24; refine (get_no _ _ _ H.out).mono ?_; rintro e w1 ⟨rfl, rfl⟩)
    | (go_at_call 28; refine (rerr_no _ _ H.out).mono ?_; rintro e w1 ⟨rfl, rfl⟩))
  go_ret
  exact ⟨rfl, rfl⟩

set_option maxHeartbeats 1000000 in
theorem nobody_walk (w : World) (x : Int) (_ : (Lit.int .u64 x).wf = true) (n : Int) (_ : (Lit.int .i64 n).wf = true) (s : ByteArray) (hs : s.size ≤ maxLen) :
    Calls Try.prog 7 #[.int .u64 x, .int .i64 n, .string s] w fun e w' => e = .returned (.bool true) ∧ Below w.heap.size w w' := by
  go_enter Try.func7, Try.ntmps7
  go_wp2_with fail
  refine (short40 s _ hs).mono ?_
  rintro e w1 ⟨t, rfl, _, _, rfl⟩
  go_wp2_with fail
  go_loopw [7] (fun t7 wr => ∃ k : Nat, k ≤ 2 ∧ t7 = .int .i64 ((k : Nat) : Int) ∧ Below w.heap.size w wr) (fun t7 _ => 2 - (intOf t7).toNat)
  case atStart => exact ⟨0, by omega, rfl, Below.refl _ _⟩
  case round =>
    obtain ⟨k, hk, rfl, hb⟩ := hrel
    have HB := Lib.hid hb
    clear hb
    by_cases hk2 : k < 2
    · rcases Nat.lt_or_ge k 1 with hk1 | hk1
      · have hk' : ((k : Int) == 1) = false := by simp; omega
        go_wp2_with (first
          | (go_at_call 11; refine (put_none _ _ _).mono ?_; rintro e w1 ⟨rfl, rfl⟩)
          | (go_at_call 14; refine (text_none _ _).mono ?_; rintro e w1 ⟨rfl, rfl⟩)
          | (go_at_call 16; refine (done_none _).mono ?_; rintro e w1 ⟨rfl, rfl⟩)
          | (go_at_call 24; refine (get_no _ _ _ (.inl rfl)).mono ?_; rintro e w1 ⟨rfl, rfl⟩)
          | (go_at_call 26; refine (rtext_no _ _ (.inl rfl)).mono ?_; rintro e w1 ⟨rfl, rfl⟩)
          | (go_at_call 28; refine (rerr_no _ _ (.inl rfl)).mono ?_; rintro e w1 ⟨rfl, rfl⟩)
          | (go_at_call 31; refine (rend_no _ _ (.inl rfl)).mono ?_; rintro e w1 ⟨rfl, rfl⟩)
          | (go_at_call 29; refine (left_no _ _ (.inl rfl)).mono ?_; rintro e w1 ⟨rfl, rfl⟩))
        refine ⟨⟨k + 1, by omega, by simp, HB.out⟩, by simp [intOf]; omega⟩
      · obtain rfl : k = 1 := by omega
        go_wp2_with fail
        have hz : ((wr.alloc (.cells #[.bool false, .int .i64 0, .slice none 0 0, .int .i64 0] 57)).alloc (.cells #[.bool false, .int .i64 0, .slice none 0 0, .int .i64 0] 59)).cell? ⟨wr.heap.size, 0, none⟩ = some (.bool false) :=
          ((Blk.new wr _ _).alloc _).cell 0
        have hz2 : ((wr.alloc (.cells #[.bool false, .int .i64 0, .slice none 0 0, .int .i64 0] 57)).alloc (.cells #[.bool false, .int .i64 0, .slice none 0 0, .int .i64 0] 59)).cell? ⟨wr.heap.size + 1, 0, none⟩ = some (.bool false) := by
          simp
        have hr : RNo ((wr.alloc (.cells #[.bool false, .int .i64 0, .slice none 0 0, .int .i64 0] 57)).alloc (.cells #[.bool false, .int .i64 0, .slice none 0 0, .int .i64 0] 59)) (.pointer (some ⟨wr.heap.size + 1, 0, none⟩)) := .inr ⟨_, rfl, hz2⟩
        have HR := Lib.hid hr
        have HZ := Lib.hid hz
        clear hz hz2 hr
        go_wp2_with (first
          | (go_at_call 11; refine (put_zero _ _ _ _ HZ.out).mono ?_; rintro e w1 ⟨rfl, rfl⟩)
          | (go_at_call 14; refine (text_none _ _).mono ?_; rintro e w1 ⟨rfl, rfl⟩)
          | (go_at_call 16; refine (done_none _).mono ?_; rintro e w1 ⟨rfl, rfl⟩)
          | (go_at_call 24; refine (get_no _ _ _ HR.out).mono ?_; rintro e w1 ⟨rfl, rfl⟩)
          | (go_at_call 26; refine (rtext_no _ _ HR.out).mono ?_; rintro e w1 ⟨rfl, rfl⟩)
          | (go_at_call 28; refine (rerr_no _ _ HR.out).mono ?_; rintro e w1 ⟨rfl, rfl⟩)
          | (go_at_call 31; refine (rend_no _ _ HR.out).mono ?_; rintro e w1 ⟨rfl, rfl⟩)
          | (go_at_call 29; refine (left_no _ _ HR.out).mono ?_; rintro e w1 ⟨rfl, rfl⟩))
        refine ⟨⟨2, by omega, by simp, (HB.out.alloc HB.out.size _).alloc (by simp; have := HB.out.size; omega) _⟩, by simp [intOf]⟩
    · obtain rfl : k = 2 := by omega
      go_wp2_with (first
        | (go_at_call 17; refine (lives_any _).mono ?_; rintro e w1 ⟨rfl, hb1⟩))
      go_ret
      exact ⟨rfl, HB.out.trans (hb1.mono HB.out.size)⟩
end Go.Proofs.Ytjmncfabalideaa
