/- The document's own answers: Fits, Bits. -/
import Derived.Test.YteogkanakkbcaaaRText
namespace Go.Proofs.Yteogkanakkbcaaa
open Go.RowKit

def nval (l : List Nat) : Nat := l.foldl (fun a b => a * 2 + b) 0
theorem nval_snoc (l : List Nat) (b : Nat) : nval (l ++ [b]) = nval l * 2 + b := by simp [nval]

/-- A row of noughts and ones: the number N of m bits. -/
structure Bl (l : List Nat) (N m : Nat) : Prop where
  len : l.length = m
  bit : ∀ b ∈ l, b < 2
  val : nval l = N

theorem Bl.nil : Bl [] 0 0 := ⟨rfl, by simp, rfl⟩
theorem Bl.snoc {l : List Nat} {N m b : Nat} (h : Bl l N m) (hb : b < 2) : Bl (l ++ [b]) (N * 2 + b) (m + 1) :=
  ⟨by simp [h.len], fun c hc => by
    rcases List.mem_append.1 hc with h1 | h1
    · exact h.bit c h1
    · simp at h1; omega, by rw [nval_snoc, h.val]⟩
theorem Bl.append {l m : List Nat} {N a M b : Nat} (h : Bl l N a) (k : Bl m M b) : Bl (l ++ m) (N * 2 ^ b + M) (a + b) := by
  refine ⟨by simp [h.len, k.len], fun c hc => by
    rcases List.mem_append.1 hc with h1 | h1
    · exact h.bit c h1
    · exact k.bit c h1, ?_⟩
  have H : ∀ (m : List Nat) (s : Nat), m.foldl (fun a b => a * 2 + b) s = s * 2 ^ m.length + nval m := by
    intro m
    induction m with
    | nil => intro s; simp [nval]
    | cons c m ih =>
      intro s
      have e : nval (c :: m) = c * 2 ^ m.length + nval m := by
        show m.foldl _ (0 * 2 + c) = _
        rw [ih]; simp
      rw [e, List.foldl_cons, ih, List.length_cons, Nat.pow_succ, Nat.add_mul, Nat.mul_assoc, Nat.mul_comm 2, Nat.add_assoc]
  unfold nval
  rw [List.foldl_append, H, ← k.len, ← k.val, ← h.val]
  rfl

def BitsRel (w : World) (x n : Nat) (t5 t6 : Value) (wr : World) : Prop :=
  ∃ k l F, t6 = .int .i64 ((n : Int) - 1 - ((k : Nat) : Int)) ∧ k ≤ n ∧ Bl l (x / 2 ^ (n - k)) k ∧ Sl wr F 5 1 t5 k (l.map u8) ∧ Adv Nul w F wr
end Go.Proofs.Yteogkanakkbcaaa
