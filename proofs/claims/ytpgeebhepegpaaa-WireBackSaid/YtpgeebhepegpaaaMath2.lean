/- Plain arithmetic for the reader. -/
import Derived.Test.YtpgeebhepegpaaaMath
namespace Go.Proofs.Ytpgeebhepegpaaa

theorem be_get : ∀ q V i, i < q → (be q V)[i]? = some (V / 256 ^ (q - 1 - i) % 256)
  | 0, _, _, h => absurd h (by omega)
  | q + 1, V, i, h => by
    simp only [be]
    rcases Nat.lt_or_ge i q with hi | hi
    · rw [List.getElem?_append_left (by rw [be_length]; exact hi), be_get q _ i hi]
      congr 2
      rw [Nat.div_div_eq_div_mul, Nat.mul_comm, ← Nat.pow_succ]
      congr 2
      omega
    · rw [List.getElem?_append_right (by rw [be_length]; exact hi), be_length]
      obtain rfl : i = q := by omega
      simp

/-- n bits of the 8q bits of V, from the bit at on -/
def bitsAt (q V at' n : Nat) : Nat := V / 2 ^ (8 * q - at' - n) % 2 ^ n

theorem bitsAt_lt (q V a n : Nat) : bitsAt q V a n < 2 ^ n := Nat.mod_lt _ (Nat.two_pow_pos _)
theorem bitsAt_zero (q V a : Nat) : bitsAt q V a 0 = 0 := by simp [bitsAt, Nat.mod_one]

theorem div_mod_split (W c k : Nat) : W % 2 ^ (c + k) = (W / 2 ^ k % 2 ^ c) * 2 ^ k + W % 2 ^ k := by
  rw [Nat.add_comm c k, Nat.pow_add, Nat.mod_mul, Nat.add_comm, Nat.mul_comm]

theorem bitsAt_split (q V a c k : Nat) (h : a + c + k ≤ 8 * q) : bitsAt q V a (c + k) = bitsAt q V a c * 2 ^ k + bitsAt q V (a + c) k := by
  unfold bitsAt
  rw [div_mod_split, Nat.div_div_eq_div_mul, ← Nat.pow_add, show 8 * q - a - (c + k) + k = 8 * q - a - c from by omega, show 8 * q - (a + c) - k = 8 * q - a - (c + k) from by omega]

theorem bitsAt_byte (q V a k : Nat) (hk : k ≤ 8 - a % 8) (h : a / 8 < q) : V / 256 ^ (q - 1 - a / 8) % 256 / 2 ^ (8 - a % 8 - k) % 2 ^ k = bitsAt q V a k := by
  have e256 : ∀ j, (256 : Nat) ^ j = 2 ^ (8 * j) := fun j => by rw [Nat.pow_mul]
  unfold bitsAt
  rw [e256, show (256 : Nat) = 2 ^ (8 - a % 8 - k) * 2 ^ (a % 8 + k) from by rw [← Nat.pow_add, show 8 - a % 8 - k + (a % 8 + k) = 8 from by omega]]
  rw [Nat.mod_mul_right_div_self, Nat.div_div_eq_div_mul, ← Nat.pow_add, Nat.pow_add 2 (a % 8) k, Nat.mod_mul_left_mod]
  congr 3
  omega

theorem or_sum (X p c k : Nat) (hX : X < 2 ^ c) (hp : p < 2 ^ k) (h : c + k ≤ 64) : (X * 2 ^ k % 18446744073709551616) ||| p = X * 2 ^ k + p := by
  have h1 : X * 2 ^ k < 2 ^ (c + k) := by rw [Nat.pow_add]; exact Nat.mul_lt_mul_of_pos_right hX (Nat.two_pow_pos _)
  have h2 : (2 : Nat) ^ (c + k) ≤ 2 ^ 64 := Nat.pow_le_pow_right (by decide) h
  rw [Nat.mod_eq_of_lt (by omega), Nat.mul_comm X, ← Nat.two_pow_add_eq_or_of_lt hp]
end Go.Proofs.Ytpgeebhepegpaaa
