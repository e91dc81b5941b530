/- How many homes are free, as numbers. -/
import Derived.Test.YtekafclhddhnpaaAmM
namespace Go.Proofs.Ytekafclhddhnpaa

/-! How many are free. -/
theorem least_free {T : List Bool} (h : leastT T < T.length) : T.getD (leastT T) false = false := by
  rw [getD_at h]
  have := List.findIdx_getElem (p := fun b : Bool => !b) (xs := T) (w := h)
  unfold leastT
  simpa using this
theorem free_pos {T : List Bool} (h : 0 < freeT T) : leastT T < T.length := by
  unfold leastT
  rw [List.findIdx_lt_length]
  exact ⟨false, List.count_pos_iff.1 h, rfl⟩
theorem free_zero {T : List Bool} (h : freeT T = 0) : leastT T = T.length := by
  unfold leastT
  rw [List.findIdx_eq_length]
  intro x hx
  cases x
  · exact absurd hx (List.count_eq_zero.1 h)
  · rfl
theorem count_set {T : List Bool} {k : Nat} (hk : k < T.length) (h : T.getD k false = false) : freeT (T.set k true) + 1 = freeT T := by
  rw [getD_at hk] at h
  have e1 : T = T.take k ++ T[k] :: T.drop (k + 1) := by rw [List.getElem_cons_drop, List.take_append_drop]
  have e2 : T.set k true = T.take k ++ true :: T.drop (k + 1) := by rw [List.set_eq_take_append_cons_drop, if_pos hk]
  rw [e2]
  conv => rhs; rw [e1, h]
  simp [freeT, List.count_append]
  omega
theorem take_one {T : List Bool} (h : 0 < freeT T) : ∃ k, k < T.length ∧ T.getD k false = false ∧ takeT T = T.set k true ∧ takeI T = (k : Int) ∧ takeE T = 0 ∧ freeT (T.set k true) + 1 = freeT T :=
  ⟨leastT T, free_pos h, least_free (free_pos h), rfl, by unfold takeI; rw [if_pos (free_pos h)], by unfold takeE; rw [if_pos (free_pos h)], count_set (free_pos h) (least_free (free_pos h))⟩
theorem take_no {T : List Bool} (h : freeT T = 0) : takeT T = T ∧ takeI T = -1 ∧ takeE T = 8 := by
  have e := free_zero h
  exact ⟨set_none e, by unfold takeI; rw [if_neg (by omega)], by unfold takeE; rw [if_neg (by omega)]⟩
theorem hold_ways (T : List Bool) (x : Int) : (holdE T x = 0 ∧ ∃ k : Nat, x = (k : Int) ∧ k < T.length ∧ T.getD k false = false ∧ holdT T x = T.set k true) ∨ ((holdE T x = 2 ∨ holdE T x = 10) ∧ holdT T x = T) := by
  by_cases h : hereT T x
  · obtain ⟨k, rfl, hk⟩ : ∃ k : Nat, x = (k : Int) ∧ k < T.length := by
      unfold hereT at h
      exact ⟨x.toNat, by omega, by omega⟩
    unfold holdE holdT
    rw [if_pos h, if_pos h, Int.toNat_natCast]
    cases hb : T.getD k false
    · exact .inl ⟨rfl, k, rfl, hk, hb, rfl⟩
    · exact .inr ⟨.inr rfl, set_same hb hk⟩
  · unfold holdE holdT
    rw [if_neg h, if_neg h]
    exact .inr ⟨.inl rfl, rfl⟩
end Go.Proofs.Ytekafclhddhnpaa
