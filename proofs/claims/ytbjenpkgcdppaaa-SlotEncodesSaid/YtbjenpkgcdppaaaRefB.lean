/- The document's own answers: Same, Bytes. -/
import Derived.Test.YtbjenpkgcdppaaaRef
import Derived.Test.YtbjenpkgcdppaaaR01
namespace Go.Proofs.Ytbjenpkgcdppaaa
open Go.RowKit

/-- the bytes behind k bits, the last one's bits moved up by j -/
def part (N k j : Nat) : List Nat := if k = 0 then [] else be ((k - 1) / 8) (N / 2 ^ (k - 8 * ((k - 1) / 8))) ++ [(N % 2 ^ (k - 8 * ((k - 1) / 8))) * 2 ^ j]
theorem part_at (N a r j : Nat) (hr : 0 < r) (hr8 : r ≤ 8) : part N (8 * a + r) j = be a (N / 2 ^ r) ++ [(N % 2 ^ r) * 2 ^ j] := by
  unfold part
  rw [if_neg (by omega), show (8 * a + r - 1) / 8 = a from by omega, show 8 * a + r - 8 * a = r from by omega]
theorem part_whole (N a : Nat) : part N (8 * a) 0 = be a N := by
  cases a with
  | zero => rfl
  | succ a =>
    rw [show 8 * (a + 1) = 8 * a + 8 from by omega, part_at N a 8 0 (by omega) (by omega)]
    simp [be]
theorem part_first (N a b : Nat) (hb : b < 2) : be a N ++ [0 * 2 + b] = part (N * 2 + b) (8 * a + 1) 0 := by
  rw [part_at _ a 1 0 (by omega) (by omega)]
  rw [show (N * 2 + b) / 2 ^ 1 = N from by omega, show (N * 2 + b) % 2 ^ 1 = b from by omega]
  simp
theorem part_next (N a r b : Nat) (hb : b < 2) (hr : 0 < r) (hr8 : r < 8) : be a (N / 2 ^ r) ++ [N % 2 ^ r * 2 + b] = part (N * 2 + b) (8 * a + r + 1) 0 := by
  rw [show 8 * a + r + 1 = 8 * a + (r + 1) from by omega, part_at _ a (r + 1) 0 (by omega) (by omega)]
  have h1 : (N * 2 + b) / 2 ^ (r + 1) = N / 2 ^ r := by
    rw [Nat.pow_succ, Nat.mul_comm (2 ^ r) 2, ← Nat.div_div_eq_div_mul, show (N * 2 + b) / 2 = N from by omega]
  have h2 : (N * 2 + b) % 2 ^ (r + 1) = N % 2 ^ r * 2 + b := by
    rw [Nat.pow_succ, Nat.mul_comm (2 ^ r) 2, Nat.mod_mul, show (N * 2 + b) % 2 = b from by omega, show (N * 2 + b) / 2 = N from by omega]
    omega
  rw [h1, h2]
  simp
theorem part_end (N m : Nat) : part N m (pad m) = rowOf N m := by
  unfold rowOf
  by_cases h0 : m = 0
  · subst h0; rfl
  · obtain ⟨a, r, hm, hr, hr8⟩ : ∃ a r, m = 8 * a + r ∧ 0 < r ∧ r ≤ 8 := ⟨(m - 1) / 8, m - 8 * ((m - 1) / 8), by omega, by omega, by omega⟩
    have hp : r + pad m = 8 := by unfold pad; omega
    have hq : qn m = a + 1 := by unfold qn; omega
    rw [hq, hm, part_at N a r _ hr hr8, ← hm]
    have h256 : (256 : Nat) = 2 ^ r * 2 ^ pad m := by rw [← Nat.pow_add, hp]
    simp only [be]
    rw [h256, Nat.mul_div_mul_right _ _ (Nat.two_pow_pos _), Nat.mul_mod_mul_right]
theorem part_length (N k j : Nat) : (part N k j).length = qn k := by
  unfold part qn
  split
  · subst_vars; rfl
  · simp [be_length]; omega
end Go.Proofs.Ytbjenpkgcdppaaa
