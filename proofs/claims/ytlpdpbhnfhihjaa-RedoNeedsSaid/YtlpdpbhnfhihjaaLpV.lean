/- Which piece bytes are: the document's Unseal. -/
import Derived.Test.YtlpdpbhnfhihjaaLpU
import Derived.Deep.DeepCutAuto
namespace Go.Proofs.Ytlpdpbhnfhihjaa
open Go.RowKit

theorem run_quo64 (w : World) (s d : Nat) (hd : 0 < d) (hs : s < 18446744073709551616) : (binOp .quo 50 (.int .u64 s) (.int .u64 d)).run Try.prog w = .ok (.int .u64 ((s / d : Nat) : Int)) w := by
  have h0 : ¬ d = 0 := by omega
  have h1 : s / d ≤ s := Nat.div_le_self s d
  have h2 : (s : Int) / (d : Int) = ((s / d : Nat) : Int) := (Int.natCast_ediv s d).symm
  simp only [go_sem]
  simp [h0]
  rw [h2]
  obtain ⟨q, hq⟩ : ∃ q, q = s / d := ⟨_, rfl⟩
  rw [← hq] at h1 ⊢
  rw [IntKind.wrap_u64]
  omega
theorem run_rem64 (w : World) (s d : Nat) (hd : 0 < d) : (binOp .rem 50 (.int .u64 s) (.int .u64 d)).run Try.prog w = .ok (.int .u64 ((s % d : Nat) : Int)) w := by
  have h0 : ¬ d = 0 := by omega
  simp [go_sem, h0]
  exact Int.tmod_eq_emod_of_nonneg (by omega)
theorem y_quo {ops : Array Oper} {S : World → Prop} {op : Oper} {a : Act} {t : TypeId} (hw : Region.wanted op (yielded ops a.tmps) = true) (x y : Operand) (ho : op.op = .binOp .quo 50 x y t) (s d q : Nat) (hd : 0 < d) (hs : s < 18446744073709551616) (hx : a.eval x = .int .u64 (s : Int)) (hy : a.eval y = .int .u64 (d : Int)) (hq : q = s / d) :
    YieldsIf Try.prog ops S op (.int .u64 (q : Int)) a := .inl ⟨hw, fun w _ => by
  subst hq
  unfold execOp
  simp only [ho, hx, hy, Sem.run_bind, Sem.run_pure, eqGuard, ite_self, run_quo64 w s d hd hs, Result.andThen_ok]⟩
theorem y_rem {ops : Array Oper} {S : World → Prop} {op : Oper} {a : Act} {t : TypeId} (hw : Region.wanted op (yielded ops a.tmps) = true) (x y : Operand) (ho : op.op = .binOp .rem 50 x y t) (s d q : Nat) (hd : 0 < d) (_hs : s < 18446744073709551616) (hx : a.eval x = .int .u64 (s : Int)) (hy : a.eval y = .int .u64 (d : Int)) (hq : q = s % d) :
    YieldsIf Try.prog ops S op (.int .u64 (q : Int)) a := .inl ⟨hw, fun w _ => by
  subst hq
  unfold execOp
  simp only [ho, hx, hy, Sem.run_bind, Sem.run_pure, eqGuard, ite_self, run_rem64 w s d hd, Result.andThen_ok]⟩
theorem Blk.drewN {w : World} {g : Nat} {t : TypeId} {cs : Array Value} (h : Blk w g t cs) (n : Nat) : Blk (w.drewN n) g t cs := h
theorem u8_odd (x : Nat) : ((x : Int).tmod 2 == 1) = (x % 2 == 1) := by
  rw [Int.tmod_eq_emod_of_nonneg (by omega), Bool.eq_iff_iff, beq_iff_eq, beq_iff_eq]; omega
theorem u8_big (x : Nat) (h : x ≤ 3) : decide (1 < (x : Int)) = (x / 2 % 2 == 1) := by
  rw [Bool.eq_iff_iff, beq_iff_eq, decide_eq_true_iff]; omega
end Go.Proofs.Ytlpdpbhnfhihjaa
