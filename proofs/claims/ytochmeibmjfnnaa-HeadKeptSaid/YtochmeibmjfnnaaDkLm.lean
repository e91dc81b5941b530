/- What a crash leaves of a sector, as numbers. -/
import Derived.Test.YtochmeibmjfnnaaDkM
namespace Go.Proofs.Ytochmeibmjfnnaa

/-- as it lasted, or as one of the first k writes -/
def Plain (L : List (List Nat)) (Q : List (Nat × List Nat)) (i k : Nat) (r : List Nat) : Prop := r = L.getD i [] ∨ ∃ j, j < k ∧ (Q.getD j (0, [])).1 = i ∧ r = (Q.getD j (0, [])).2
theorem Plain.mono {L : List (List Nat)} {Q : List (Nat × List Nat)} {i k m : Nat} {r : List Nat} (h : Plain L Q i k r) (hk : k ≤ m) : Plain L Q i m r := by
  rcases h with h | ⟨j, h1, h2, h3⟩
  · exact .inl h
  · exact .inr ⟨j, by omega, h2, h3⟩

theorem layN_ne {L : List (List Nat)} {q : Nat × List Nat} {m i : Nat} (h : q.1 ≠ i) : (layN L q m).getD i [] = L.getD i [] := by
  rw [layN, List.getD_eq_getElem?_getD, List.getElem?_set_ne h, ← List.getD_eq_getElem?_getD]
theorem layN_eq {L : List (List Nat)} {q : Nat × List Nat} {m : Nat} (h : q.1 < L.length) : (layN L q m).getD q.1 [] = q.2.take m ++ (L.getD q.1 []).drop m := by
  rw [layN, List.getD_eq_getElem?_getD, List.getElem?_set_self h]; rfl

theorem plain_laysBy (c : Nat → Nat) (Q : List (Nat × List Nat)) (L : List (List Nat)) (hL : ∀ r ∈ L, r.length = 128) (hQ : ∀ q ∈ Q, q.1 < L.length ∧ q.2.length = 128) (i : Nat) : ∀ k, k ≤ Q.length → (∀ j, j < k → c j = 0 ∨ c j = 128) → Plain L Q i k ((laysBy c Q L k).getD i [])
  | 0, _, _ => .inl rfl
  | k + 1, hk, hc => by
    have ih := plain_laysBy c Q L hL hQ i k (by omega) (fun j hj => hc j (by omega))
    have hm := hQ _ (getD_mem (show k < Q.length by omega))
    obtain ⟨q, hq⟩ : ∃ q, q = Q.getD k (0, []) := ⟨_, rfl⟩
    rw [laysBy, ← hq]
    rw [← hq] at hm
    have hlen : q.1 < (laysBy c Q L k).length := by rw [laysBy_length]; exact hm.1
    by_cases hi : q.1 = i
    · subst hi
      rw [layN_eq hlen]
      rcases hc k (by omega) with h0 | h0
      · rw [h0, List.take_zero, List.nil_append, List.drop_zero]
        exact ih.mono (by omega)
      · have hr := row_at (laysBy_row c Q L hL hQ k (by omega)) hlen
        rw [h0, List.take_of_length_le (by omega), List.drop_of_length_le (by omega), List.append_nil]
        exact .inr ⟨k, by omega, by rw [← hq], by rw [← hq]⟩
    · rw [layN_ne hi]
      exact ih.mono (by omega)

/-- what became of sector i -/
theorem crash_cases (ks : List Int) (torn : Int) (Q : List (Nat × List Nat)) (L : List (List Nat)) (hL : ∀ r ∈ L, r.length = 128) (hQ : ∀ q ∈ Q, q.1 < L.length ∧ q.2.length = 128) (i : Nat) (r : List Nat) (hr : r = (laysBy (kept ks torn Q.length) Q L Q.length).getD i []) :
    Plain L Q i Q.length r ∨ (0 < Q.length ∧ (Q.getD (Q.length - 1) (0, [])).1 = i ∧ 0 < torn ∧ torn < 128 ∧ r.take torn.toNat = ((Q.getD (Q.length - 1) (0, [])).2).take torn.toNat ∧ ∃ p, Plain L Q i Q.length p ∧ r.drop torn.toNat = p.drop torn.toNat) := by
  have hkept : ∀ j, ¬ (0 < torn ∧ torn < 128 ∧ j + 1 = Q.length) → kept ks torn Q.length j = 0 ∨ kept ks torn Q.length j = 128 := fun j hj => by
    unfold kept
    rw [if_neg hj]
    split
    · exact .inr rfl
    · exact .inl rfl
  by_cases ht : 0 < torn ∧ torn < 128 ∧ 0 < Q.length
  · obtain ⟨t0, t1, hq⟩ := ht
    obtain ⟨k, hk⟩ : ∃ k, Q.length = k + 1 := ⟨Q.length - 1, by omega⟩
    have hp := plain_laysBy (kept ks torn Q.length) Q L hL hQ i k (by omega) (fun j hj => hkept j (by omega))
    have hm := hQ _ (getD_mem (show k < Q.length by omega))
    have e : laysBy (kept ks torn Q.length) Q L Q.length = layN (laysBy (kept ks torn Q.length) Q L k) (Q.getD k (0, [])) torn.toNat := by
      have hkt : kept ks torn Q.length k = torn.toNat := by unfold kept; rw [if_pos ⟨t0, t1, hk.symm⟩]
      conv => lhs; arg 4; rw [hk]
      rw [laysBy, hkt]
    rw [e] at hr
    have hlen : (Q.getD k (0, [])).1 < (laysBy (kept ks torn Q.length) Q L k).length := by rw [laysBy_length]; exact hm.1
    have hk1 : Q.length - 1 = k := by omega
    rw [hk1]
    by_cases hi : (Q.getD k (0, [])).1 = i
    · right
      rw [← hi, layN_eq hlen] at hr
      have hl : (((Q.getD k (0, [])).2).take torn.toNat).length = torn.toNat := by rw [List.length_take, hm.2]; omega
      refine ⟨by omega, hi, t0, t1, ?_, _, hp.mono (by omega), ?_⟩
      · rw [hr, List.take_append_of_le_length (by omega), List.take_of_length_le (by omega)]
      · rw [hr, ← hi]
        have h2 := List.drop_left (l₁ := ((Q.getD k (0, [])).2).take torn.toNat) (l₂ := ((laysBy (kept ks torn Q.length) Q L k).getD (Q.getD k (0, [])).1 []).drop torn.toNat)
        rw [hl] at h2
        exact h2
    · left
      rw [hr, layN_ne hi]
      exact hp.mono (by omega)
  · left
    rw [hr]
    exact plain_laysBy _ Q L hL hQ i _ (Nat.le_refl _) (fun j hj => hkept j (by omega))

/-- what the statement reckons -/
def fitsB (L : List (List Nat)) (Q : List (Nat × List Nat)) (i : Nat) (r : List Nat) : Nat → Bool
  | 0 => decide (r = L.getD i [])
  | k + 1 => fitsB L Q i r k || (decide ((Q.getD k (0, [])).1 = i) && decide (r = (Q.getD k (0, [])).2))
theorem fitsB_plain (L : List (List Nat)) (Q : List (Nat × List Nat)) (i : Nat) (r : List Nat) : ∀ k, Plain L Q i k r → fitsB L Q i r k = true
  | 0, h => by
    rcases h with h | ⟨j, h, _⟩
    · simpa [fitsB] using h
    · omega
  | k + 1, h => by
    rw [fitsB, Bool.or_eq_true]
    rcases h with h | ⟨j, h1, h2, h3⟩
    · exact .inl (fitsB_plain L Q i r k (.inl h))
    · by_cases hj : j = k
      · subst hj
        right
        rw [decide_eq_true h2, decide_eq_true h3]; rfl
      · exact .inl (fitsB_plain L Q i r k (.inr ⟨j, by omega, h2, h3⟩))
end Go.Proofs.Ytochmeibmjfnnaa
