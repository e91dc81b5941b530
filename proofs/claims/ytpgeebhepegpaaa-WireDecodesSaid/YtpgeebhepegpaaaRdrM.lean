/- Rows of bits: parts, what a list of bytes is as a number. -/
import Derived.Test.YtpgeebhepegpaaaRef
namespace Go.Proofs.Ytpgeebhepegpaaa
open Go.RowKit

theorem nval_append (l m : List Nat) : nval (l ++ m) = nval l * 2 ^ m.length + nval m := by
  have H : ∀ (m : List Nat) (s : Nat), m.foldl (fun a b => a * 2 + b) s = s * 2 ^ m.length + nval m := by
    intro m
    induction m with
    | nil => intro s; simp [nval]
    | cons c m ih =>
      intro s
      have e : nval (c :: m) = c * 2 ^ m.length + nval m := by
        show m.foldl _ (0 * 2 + c) = _
        rw [ih]; simp
      rw [e, List.foldl_cons, ih, List.length_cons, Nat.pow_succ, Nat.add_mul, Nat.mul_assoc, Nat.mul_comm 2, Nat.add_assoc]
  unfold nval
  rw [List.foldl_append, H]
  rfl
theorem nval_lt (l : List Nat) (h : ∀ b ∈ l, b < 2) : nval l < 2 ^ l.length := by
  induction l with
  | nil => simp [nval]
  | cons c l ih =>
    have e : nval (c :: l) = c * 2 ^ l.length + nval l := by
      have := nval_append [c] l
      simpa [nval] using this
    have h1 := ih (fun b hb => h b (by simp [hb]))
    have h2 := h c (by simp)
    rw [e, List.length_cons, Nat.pow_succ]
    have : c = 0 ∨ c = 1 := by omega
    rcases this with rfl | rfl <;> omega
theorem Bl.lt {l : List Nat} {N m : Nat} (h : Bl l N m) : N < 2 ^ m := by
  rw [← h.val, ← h.len]; exact nval_lt l h.bit
/-- a front of it, and what is left -/
theorem Bl.parts {l : List Nat} {N m n : Nat} (h : Bl l N m) (hn : n ≤ m) : Bl (l.take n) (N / 2 ^ (m - n)) n ∧ Bl (l.drop n) (N % 2 ^ (m - n)) (m - n) := by
  have hl := h.len
  have e := nval_append (l.take n) (l.drop n)
  rw [List.take_append_drop, h.val, show (l.drop n).length = m - n from by simp; omega] at e
  have hd := nval_lt (l.drop n) (fun b hb => h.bit b (List.mem_of_mem_drop hb))
  rw [show (l.drop n).length = m - n from by simp; omega] at hd
  refine ⟨⟨by simp; omega, fun b hb => h.bit b (List.mem_of_mem_take hb), ?_⟩, ⟨by simp; omega, fun b hb => h.bit b (List.mem_of_mem_drop hb), ?_⟩⟩
  · rw [e, Nat.mul_comm, Nat.mul_add_div (Nat.two_pow_pos _), Nat.div_eq_of_lt hd, Nat.add_zero]
  · rw [e, Nat.mul_comm, Nat.mul_add_mod, Nat.mod_eq_of_lt hd]
theorem Bl.zero {l : List Nat} {N : Nat} (h : Bl l N 0) : l = [] ∧ N = 0 := by
  have := h.len
  obtain rfl := List.eq_nil_of_length_eq_zero this
  exact ⟨rfl, by rw [← h.val]; rfl⟩

/-- bytes as a number -/
def byN (l : List Nat) : Nat := l.foldl (fun a x => a * 256 + x) 0
theorem byN_snoc (l : List Nat) (x : Nat) : byN (l ++ [x]) = byN l * 256 + x := by simp [byN]
theorem be_byN (l : List Nat) (h : ∀ x ∈ l, x < 256) : be l.length (byN l) = l := by
  have H : ∀ n (l : List Nat), l.length = n → (∀ x ∈ l, x < 256) → be n (byN l) = l := by
    intro n
    induction n with
    | zero => intro l hl _; rw [List.eq_nil_of_length_eq_zero hl]; rfl
    | succ n ih =>
      intro l hl h
      have hne : l ≠ [] := by intro e; simp [e] at hl
      have e := List.dropLast_concat_getLast hne
      have hx := h (l.getLast hne) (List.getLast_mem hne)
      have ih' := ih l.dropLast (by simp; omega) (fun x hx => h x ((List.dropLast_sublist l).subset hx))
      rw [← e, byN_snoc]
      show be n ((byN l.dropLast * 256 + l.getLast hne) / 256) ++ [(byN l.dropLast * 256 + l.getLast hne) % 256] = _
      rw [show (byN l.dropLast * 256 + l.getLast hne) / 256 = byN l.dropLast from by omega, show (byN l.dropLast * 256 + l.getLast hne) % 256 = l.getLast hne from by omega, ih']
  exact H _ l rfl h

/-- what is left of V's 8 q bits behind the first a -/
def rest (q V a : Nat) : Nat := V % 2 ^ (8 * q - a)
theorem rest_bits (q V a n : Nat) (h : a + n ≤ 8 * q) : rest q V a / 2 ^ (8 * q - a - n) = bitsAt q V a n := by
  unfold rest bitsAt
  rw [show 8 * q - a = n + (8 * q - a - n) from by omega, Nat.pow_add, show n + (8 * q - a - n) - n = 8 * q - a - n from by omega, Nat.mul_comm, Nat.mod_mul_right_div_self]
theorem rest_rest (q V a n : Nat) (h : a + n ≤ 8 * q) : rest q V a % 2 ^ (8 * q - a - n) = rest q V (a + n) := by
  unfold rest
  rw [show 8 * q - (a + n) = 8 * q - a - n from by omega]
  exact Nat.mod_mod_of_dvd _ (Nat.pow_dvd_pow 2 (by omega))
end Go.Proofs.Ytpgeebhepegpaaa
