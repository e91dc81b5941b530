/- Texts cut short. -/
import Derived.Test.YtpgeebhepegpaaaBase
namespace Go.Proofs.Ytpgeebhepegpaaa
open Go.RowKit

set_option maxRecDepth 3000 in
theorem short_any (s : ByteArray) (n : Nat) (w : World) (hn : n ≤ 1000000000) (_hs : s.size ≤ maxLen) :
    Calls Try.prog 29 #[.string s, .int .i64 n] w fun e w' => e = .returned (.string (if n < s.size then s.extract 0 n else s)) ∧ w = w' := by
  by_cases h : n < s.size
  · rw [if_pos h]
    have h1 : (n : Int) < (s.size : Int) := by omega
    go_enter Try.func29, Try.ntmps29
    go_wp2
    go_ret
    exact ⟨rfl, rfl⟩
  · rw [if_neg h]
    have h1 : (s.size : Int) ≤ (n : Int) := by omega
    go_enter Try.func29, Try.ntmps29
    go_wp2
    go_ret
    exact ⟨rfl, rfl⟩

theorem short40 (s : ByteArray) (w : World) (hs : s.size ≤ maxLen) :
    Calls Try.prog 29 #[.string s, .int .i64 40] w fun e w' => ∃ t : ByteArray, e = .returned (.string t) ∧ t.size ≤ 40 ∧ (s.size ≤ 40 → t = s) ∧ w = w' := by
  refine (short_any s 40 w (by decide) hs).mono ?_
  rintro e w' ⟨rfl, rfl⟩
  refine ⟨_, rfl, ?_, ?_, rfl⟩
  · split
    · simp only [ByteArray.size_extract]; omega
    · omega
  · intro h
    rw [if_neg (by omega)]
end Go.Proofs.Ytpgeebhepegpaaa
