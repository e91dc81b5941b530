/- The disk: Waits. -/
import Derived.Test.YtochmeibmjfnnaaDkD
namespace Go.Proofs.Ytochmeibmjfnnaa
open Go.RowKit

theorem infoInt : (Try.prog.info? 3).map (fun i => (i.zero, i.size, i.bytes)) = some (some (.int .i64 0), 1, 8) := by kernel_rfl
theorem made_one (z : Value) (hz : z.cells = #[z]) (n : Nat) : (madeCells z.cells (n * 1)).toList = List.replicate n z := by
  rw [hz, Nat.mul_one]
  apply List.ext_getElem?
  intro k
  rw [List.getElem?_replicate]
  by_cases hk : k < n
  · rw [if_pos hk, Array.getElem?_toList]
    have h1 : (Array.range n)[k]? = some k := by rw [Array.getElem?_eq_getElem (by simpa using hk)]; simp
    simp only [madeCells, Array.getElem?_map, h1, Option.map_some]
    have : k % (#[z] : Array Value).size = 0 := by simp [Nat.mod_one]
    rw [this]; rfl
  · rw [if_neg hk, Array.getElem?_toList, Array.getElem?_eq_none (by rw [size_madeCells]; omega)]

def atOf (q : Nat × List Nat) : Value := .int .i64 (q.1 : Int)
def waOf (Q : List (Nat × List Nat)) (k : Nat) : List Value := (Q.take k).map atOf ++ List.replicate (Q.length - k) (.int .i64 0)
theorem waOf_set (Q : List (Nat × List Nat)) (k : Nat) (hk : k < Q.length) : (waOf Q k).set k (.int .i64 ((Q.getD k (0, [])).1 : Int)) = waOf Q (k + 1) := by
  unfold waOf
  have e : Q.length - k = Q.length - (k + 1) + 1 := by omega
  have hl : ((Q.take k).map atOf).length = k := by simp; omega
  rw [e, List.replicate_succ, List.set_append_right _ _ (by omega), hl, Nat.sub_self, List.set_cons_zero, List.take_succ_eq_append_getElem hk, List.map_append, List.append_assoc]
  have e2 : Q.getD k (0, []) = Q[k] := by rw [List.getD_eq_getElem?_getD, List.getElem?_eq_getElem hk]; rfl
  rw [e2]; rfl
theorem waOf_all (Q : List (Nat × List Nat)) : waOf Q Q.length = Q.map atOf := by simp [waOf]

def WaRel (w : World) (z : Nat) (Q : List (Nat × List Nat)) (t : Value) (wr : World) : Prop :=
  ∃ k, t = .int .i64 ((k : Nat) : Int) ∧ k ≤ Q.length ∧ Sl wr (fun j => j = z) 3 1 (.slice (some ⟨z, 0, none⟩) Q.length Q.length) Q.length (waOf Q k) ∧ Adv Nul w (fun j => j = z) wr
end Go.Proofs.Ytochmeibmjfnnaa
