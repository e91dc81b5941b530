/- Plain arithmetic on rows of bits: a row of m bits is a number below 2^m; its bytes are the digits to the base 256 of that number with noughts behind. -/
namespace Go.Proofs.Ytpgeebhepegpaaa

/-- q digits to the base 256, the highest first. -/
def be : Nat → Nat → List Nat
  | 0, _ => []
  | q + 1, V => be q (V / 256) ++ [V % 256]

theorem be_length : ∀ q V, (be q V).length = q
  | 0, _ => rfl
  | q + 1, V => by simp [be, be_length q]

theorem be_lt : ∀ q V x, x ∈ be q V → x < 256
  | 0, _, _, h => by simp [be] at h
  | q + 1, V, x, h => by
    simp only [be, List.mem_append, List.mem_singleton] at h
    rcases h with h | h
    · exact be_lt q _ x h
    · subst h; exact Nat.mod_lt _ (by decide)

theorem be_last (q V : Nat) : (be (q + 1) V)[q]? = some (V % 256) := by
  simp only [be]
  rw [List.getElem?_append_right (by rw [be_length]; exact Nat.le_refl _), be_length]
  simp

theorem be_last' (q V : Nat) (hq : 0 < q) : (be q V)[q - 1]? = some (V % 256) := by
  obtain ⟨p, rfl⟩ : ∃ p, q = p + 1 := ⟨q - 1, by omega⟩
  exact be_last p V

theorem be_set_last (q V V' : Nat) (hq : 0 < q) (h : V' / 256 = V / 256) : (be q V).set (q - 1) (V' % 256) = be q V' := by
  obtain ⟨p, rfl⟩ : ∃ p, q = p + 1 := ⟨q - 1, by omega⟩
  simp only [be, h, Nat.add_sub_cancel]
  rw [List.set_append_right _ _ (by rw [be_length]; exact Nat.le_refl _), be_length]
  simp

theorem be_snoc (q V : Nat) : be (q + 1) (V * 256) = be q V ++ [0] := by
  simp only [be]
  rw [Nat.mul_div_cancel _ (by decide), Nat.mul_mod_left]

/-- how many bytes m bits are, and how many bits of the last one are not put -/
def qn (m : Nat) : Nat := (m + 7) / 8
def pad (m : Nat) : Nat := (8 - m % 8) % 8
theorem qn_pad (m : Nat) : 8 * qn m = m + pad m := by unfold qn pad; omega
theorem pad_lt (m : Nat) : pad m < 8 := by unfold pad; omega

/-- The row of the number N of m bits. -/
def rowOf (N m : Nat) : List Nat := be (qn m) (N * 2 ^ pad m)

theorem or_low (V c s r : Nat) (hr : r ≤ 8) (hc : c * 2 ^ s < 2 ^ r) (hV : ∃ N, V = N * 2 ^ r) : (V % 256) ||| (c * 2 ^ s) = (V + c * 2 ^ s) % 256 := by
  obtain ⟨N, rfl⟩ := hV
  have h256 : (256 : Nat) = 2 ^ r * 2 ^ (8 - r) := by rw [← Nat.pow_add, show r + (8 - r) = 8 from by omega]
  have h1 : N * 2 ^ r % 256 = 2 ^ r * (N % 2 ^ (8 - r)) := by
    rw [h256, Nat.mul_comm N, Nat.mul_mod_mul_left]
  rw [h1, ← Nat.two_pow_add_eq_or_of_lt hc]
  have h2 : N % 2 ^ (8 - r) < 2 ^ (8 - r) := Nat.mod_lt _ (Nat.two_pow_pos _)
  have h3 : 2 ^ r * (N % 2 ^ (8 - r)) + c * 2 ^ s < 256 := by
    rw [h256]
    calc 2 ^ r * (N % 2 ^ (8 - r)) + c * 2 ^ s < 2 ^ r * (N % 2 ^ (8 - r)) + 2 ^ r := by omega
      _ = 2 ^ r * (N % 2 ^ (8 - r) + 1) := by rw [Nat.mul_add, Nat.mul_one]
      _ ≤ 2 ^ r * 2 ^ (8 - r) := Nat.mul_le_mul_left _ h2
  rw [Nat.add_mod, h1]
  rw [Nat.mod_eq_of_lt (a := c * 2 ^ s) (by
    have : 2 ^ r * 1 ≤ 2 ^ r * 2 ^ (8 - r) := Nat.mul_le_mul_left _ (Nat.two_pow_pos _)
    omega), Nat.mod_eq_of_lt h3]

/-- One round of lay: of the n bits of y the first k are put into the last byte, of which r bits are free. -/
theorem lay_round (q N r n y k : Nat) (hr0 : 0 < r) (hr : r ≤ 8) (hq : 0 < q) (hk : k = min n r) (hy : y < 2 ^ n) :
    (N * 2 ^ r % 256) ||| (y / 2 ^ (n - k) % 256 * 2 ^ (r - k) % 256) = ((N * 2 ^ k + y / 2 ^ (n - k)) * 2 ^ (r - k)) % 256 ∧
    (be q (N * 2 ^ r)).set (q - 1) (((N * 2 ^ k + y / 2 ^ (n - k)) * 2 ^ (r - k)) % 256) = be q ((N * 2 ^ k + y / 2 ^ (n - k)) * 2 ^ (r - k)) := by
  have hkr : k ≤ r := by omega
  have hkn : k ≤ n := by omega
  have hc : y / 2 ^ (n - k) < 2 ^ k := by
    rw [Nat.div_lt_iff_lt_mul (Nat.two_pow_pos _), ← Nat.pow_add, show k + (n - k) = n from by omega]
    exact hy
  have hk8 : 2 ^ k ≤ 256 := by
    have := Nat.pow_le_pow_right (n := 2) (by decide) (show k ≤ 8 by omega)
    simpa using this
  have hcs : y / 2 ^ (n - k) * 2 ^ (r - k) < 2 ^ r := by
    have : y / 2 ^ (n - k) * 2 ^ (r - k) < 2 ^ k * 2 ^ (r - k) := Nat.mul_lt_mul_of_pos_right hc (Nat.two_pow_pos _)
    rwa [← Nat.pow_add, show k + (r - k) = r from by omega] at this
  have hr8 : 2 ^ r ≤ 256 := by
    have := Nat.pow_le_pow_right (n := 2) (by decide) hr
    simpa using this
  have hsum : (N * 2 ^ k + y / 2 ^ (n - k)) * 2 ^ (r - k) = N * 2 ^ r + y / 2 ^ (n - k) * 2 ^ (r - k) := by
    rw [Nat.add_mul, Nat.mul_assoc, ← Nat.pow_add, show k + (r - k) = r from by omega]
  constructor
  · rw [Nat.mod_eq_of_lt (a := y / 2 ^ (n - k)) (by omega), Nat.mod_eq_of_lt (a := y / 2 ^ (n - k) * 2 ^ (r - k)) (by omega), hsum]
    exact or_low _ _ _ r hr hcs ⟨N, rfl⟩
  · apply be_set_last _ _ _ hq
    rw [hsum]
    have h256 : (256 : Nat) = 2 ^ r * 2 ^ (8 - r) := by rw [← Nat.pow_add, show r + (8 - r) = 8 from by omega]
    rw [h256, ← Nat.div_div_eq_div_mul, ← Nat.div_div_eq_div_mul, Nat.mul_div_cancel _ (Nat.two_pow_pos _), Nat.add_comm, Nat.mul_comm N, Nat.add_mul_div_left _ _ (Nat.two_pow_pos _), Nat.div_eq_of_lt hcs, Nat.zero_add]

/-- what is put after it: the rest of y -/
theorem lay_rest (N n y k : Nat) (hk : k ≤ n) : (N * 2 ^ k + y / 2 ^ (n - k)) * 2 ^ (n - k) + y % 2 ^ (n - k) = N * 2 ^ n + y := by
  rw [Nat.add_mul, Nat.mul_assoc, ← Nat.pow_add, show k + (n - k) = n from by omega, Nat.add_assoc]
  congr 1
  exact Nat.div_add_mod' _ _

theorem put_lt (N m n x : Nat) (hN : N < 2 ^ m) (hx : x < 2 ^ n) : N * 2 ^ n + x < 2 ^ (m + n) := by
  rw [Nat.pow_add]
  calc N * 2 ^ n + x < N * 2 ^ n + 2 ^ n := by omega
    _ = (N + 1) * 2 ^ n := by rw [Nat.add_mul, Nat.one_mul]
    _ ≤ 2 ^ m * 2 ^ n := Nat.mul_le_mul_right _ hN
theorem cast_c (y s : Nat) : (((y % 256 * 2 ^ s % 256 : Nat)) : Int) = (y : Int) % 256 * 2 ^ s % 256 := by
  rw [Int.natCast_emod, Int.natCast_mul, Int.natCast_emod, Int.natCast_pow]; rfl
theorem cast_c0 (y k s : Nat) : (y : Int) % 256 * 2 ^ s % 256 = (((y / 2 ^ (k - k) % 256 * 2 ^ s % 256 : Nat)) : Int) := by
  rw [Nat.sub_self, Nat.pow_zero, Nat.div_one, cast_c]
theorem be_snoc8 (q N : Nat) : be (q + 1) (N * 2 ^ 8) = be q (N * 2 ^ 0) ++ [0] := by
  rw [Nat.pow_zero, Nat.mul_one]; exact be_snoc q N
end Go.Proofs.Ytpgeebhepegpaaa
