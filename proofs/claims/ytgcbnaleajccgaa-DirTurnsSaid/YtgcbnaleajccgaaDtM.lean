/- Entries whose names rise: where a name stands, one more, one less. -/
import Derived.Test.YtgcbnaleajccgaaDrM
namespace Go.Proofs.Ytgcbnaleajccgaa

def Ris (l : List En) : Prop := l.Pairwise (fun a b => ltS a.s b.s)
def lo (s : ByteArray) (l : List En) : List En := l.filter (fun x => decide (ltS x.s s))
def hi (s : ByteArray) (l : List En) : List En := l.filter (fun x => decide (ltS s x.s))
structure FindP (l : List En) (s : ByteArray) (p : Nat) (F : Bool) : Prop where
  le : p ≤ l.length
  lt : ∀ (k : Nat) (x : En), l[k]? = some x → k < p → ltS x.s s
  ge : ∀ (k : Nat) (x : En), l[k]? = some x → p ≤ k → ¬ ltS x.s s
  at_ : F = true ↔ ∃ x, l[p]? = some x ∧ x.s = s
theorem Ris.lt {l : List En} (h : Ris l) {i j : Nat} {x y : En} (hi : l[i]? = some x) (hj : l[j]? = some y) (hij : i < j) : ltS x.s y.s := by
  obtain ⟨h1, rfl⟩ := List.getElem?_eq_some_iff.1 hi
  obtain ⟨h2, rfl⟩ := List.getElem?_eq_some_iff.1 hj
  exact List.pairwise_iff_getElem.1 h i j h1 h2 hij
theorem FindP.lo_eq {l : List En} {s : ByteArray} {p : Nat} {F : Bool} (h : FindP l s p F) : l.take p = lo s l := by
  unfold lo
  conv => rhs; rw [← List.take_append_drop p l, List.filter_append]
  rw [List.filter_eq_self.2, List.filter_eq_nil_iff.2, List.append_nil]
  · intro x hx
    obtain ⟨k, hk, rfl⟩ := List.mem_iff_getElem.1 hx
    have h1 : l[p + k]? = some (l.drop p)[k] := by rw [← List.getElem?_drop]; exact List.getElem?_eq_getElem hk
    simpa using h.ge _ _ h1 (by omega)
  · intro x hx
    obtain ⟨k, hk, rfl⟩ := List.mem_iff_getElem.1 hx
    have hkp : k < p := by rw [List.length_take] at hk; omega
    have h1 : l[k]? = some (l.take p)[k] := by
      rw [← List.getElem?_eq_getElem hk, List.getElem?_take, if_pos hkp]
    simpa using h.lt _ _ h1 hkp
theorem FindP.hi_eq {l : List En} {s : ByteArray} {p : Nat} {F : Bool} (h : FindP l s p F) (hr : Ris l) : l.drop (if F then p + 1 else p) = hi s l := by
  have key : ∀ q, p ≤ q → q ≤ p + 1 → q ≤ l.length → (∀ k x, l[k]? = some x → k < q → ¬ ltS s x.s) → (∀ k x, l[k]? = some x → q ≤ k → ltS s x.s) → l.drop q = hi s l := by
    intro q _ _ _ h1 h2
    unfold hi
    conv => rhs; rw [← List.take_append_drop q l, List.filter_append]
    rw [List.filter_eq_nil_iff.2, List.nil_append, List.filter_eq_self.2]
    · intro x hx
      obtain ⟨k, hk, rfl⟩ := List.mem_iff_getElem.1 hx
      have h3 : l[q + k]? = some (l.drop q)[k] := by rw [← List.getElem?_drop]; exact List.getElem?_eq_getElem hk
      simpa using h2 _ _ h3 (by omega)
    · intro x hx
      obtain ⟨k, hk, rfl⟩ := List.mem_iff_getElem.1 hx
      have hkp : k < q := by rw [List.length_take] at hk; omega
      have h3 : l[k]? = some (l.take q)[k] := by rw [← List.getElem?_eq_getElem hk, List.getElem?_take, if_pos hkp]
      simpa using h1 _ _ h3 hkp
  cases hF : F with
  | true =>
    obtain ⟨y, hy, hs⟩ := h.at_.1 hF
    have hpl := (List.getElem?_eq_some_iff.1 hy).1
    rw [if_pos rfl]
    refine key (p + 1) (by omega) (by omega) (by omega) (fun k x hx hk => ?_) (fun k x hx hk => ?_)
    · by_cases e : k = p
      · subst e; rw [hy] at hx; obtain rfl := Option.some.inj hx; rw [hs]; exact ltS_irr s
      · exact ltS_asymm (h.lt k x hx (by omega))
    · rw [← hs]; exact hr.lt hy hx (by omega)
  | false =>
    rw [if_neg (by decide)]
    refine key p (by omega) (by omega) h.le (fun k x hx hk => ltS_asymm (h.lt k x hx hk)) (fun k x hx hk => ?_)
    have hne : ∀ y, l[p]? = some y → ltS s y.s := fun y hy => by
      rcases ltS_tri y.s s with h1 | h1 | h1
      · exact absurd h1 (h.ge p y hy (Nat.le_refl _))
      · exact absurd (h.at_.2 ⟨y, hy, h1⟩) (by rw [hF]; decide)
      · exact h1
    by_cases e : k = p
    · subst e; exact hne x hx
    · have hkl := (List.getElem?_eq_some_iff.1 hx).1
      have hpl : p < l.length := by omega
      exact ltS_trans (hne _ (List.getElem?_eq_getElem hpl)) (hr.lt (List.getElem?_eq_getElem hpl) hx (by omega))
/-- at most one bears the name -/
theorem FindP.eq_at {l : List En} {s : ByteArray} {p : Nat} {F : Bool} (h : FindP l s p F) (hr : Ris l) {k : Nat} {x : En} (hx : l[k]? = some x) : decide (x.s = s) = (decide (k = p) && F) := by
  by_cases e : k = p
  · subst e
    rw [decide_eq_true (rfl : k = k), Bool.true_and]
    cases hF : F with
    | true =>
      obtain ⟨y, hy, hs⟩ := h.at_.1 hF
      rw [hx] at hy; obtain rfl := Option.some.inj hy
      exact decide_eq_true hs
    | false => exact decide_eq_false fun e => by have := h.at_.2 ⟨x, hx, e⟩; rw [hF] at this; exact absurd this (by decide)
  · rw [decide_eq_false e, Bool.false_and]
    refine decide_eq_false fun e1 => ?_
    by_cases hk : k < p
    · have := h.lt k x hx hk; rw [e1] at this; exact ltS_irr s this
    · have hkl := (List.getElem?_eq_some_iff.1 hx).1
      have hpl : p < l.length := by omega
      have h1 := hr.lt (List.getElem?_eq_getElem hpl) hx (by omega)
      rw [e1] at h1
      exact h.ge p _ (List.getElem?_eq_getElem hpl) (Nat.le_refl _) h1

theorem Ris.tail {x : En} {l : List En} (h : Ris (x :: l)) : Ris l := (List.pairwise_cons.1 h).2
theorem above {s : ByteArray} {l : List En} (h : ∀ y ∈ l, ltS s y.s) : lo s l = [] ∧ hi s l = l ∧ l.filter (fun x => !decide (x.s = s)) = l := by
  unfold lo hi
  refine ⟨List.filter_eq_nil_iff.2 fun y hy => by simpa using ltS_asymm (h y hy), List.filter_eq_self.2 fun y hy => by simpa using h y hy, List.filter_eq_self.2 fun y hy => ?_⟩
  have := h y hy
  simp only [Bool.not_eq_true', decide_eq_false_iff_not]
  intro e; rw [e] at this; exact ltS_irr s this
theorem drop_eq (s : ByteArray) : ∀ {l : List En}, Ris l → l.filter (fun x => !decide (x.s = s)) = lo s l ++ hi s l
  | [], _ => rfl
  | x :: l, h => by
    have h1 := (List.pairwise_cons.1 h).1
    rcases ltS_tri x.s s with c | c | c
    · have ih := drop_eq s h.tail
      have e1 : ¬ x.s = s := fun e => by rw [e] at c; exact ltS_irr s c
      have e2 : ¬ ltS s x.s := ltS_asymm c
      unfold lo hi at ih ⊢
      simp only [List.filter_cons, decide_eq_true c, decide_eq_false e1, decide_eq_false e2, Bool.not_false, if_true, ih, List.cons_append, Bool.false_eq_true, if_false]
    · obtain ⟨a1, a2, a3⟩ := above (s := s) (l := l) (fun y hy => by rw [← c]; exact h1 y hy)
      have e1 : ¬ ltS x.s s := by rw [c]; exact ltS_irr s
      have e2 : ¬ ltS s x.s := by rw [c]; exact ltS_irr s
      unfold lo at a1 ⊢
      unfold hi at a2 ⊢
      simp only [List.filter_cons, decide_eq_true c, decide_eq_false e1, decide_eq_false e2, Bool.not_true, Bool.false_eq_true, if_false, a1, a2, a3, List.nil_append]
    · obtain ⟨a1, a2, a3⟩ := above (s := s) (l := x :: l) (fun y hy => by
        rcases List.mem_cons.1 hy with rfl | hy
        · exact c
        · exact ltS_trans c (h1 y hy))
      rw [a1, a2, a3, List.nil_append]
theorem Ris.lo {l : List En} (h : Ris l) (s : ByteArray) : Ris (lo s l) := List.Pairwise.filter _ h
theorem Ris.hi {l : List En} (h : Ris l) (s : ByteArray) : Ris (hi s l) := List.Pairwise.filter _ h
def putL (l : List En) (e : En) : List En := lo e.s l ++ e :: hi e.s l
def dropL (l : List En) (s : ByteArray) : List En := lo s l ++ hi s l
theorem mem_lo {s : ByteArray} {l : List En} {x : En} (h : x ∈ lo s l) : x ∈ l ∧ ltS x.s s := by
  unfold lo at h; rw [List.mem_filter] at h; exact ⟨h.1, by simpa using h.2⟩
theorem mem_hi {s : ByteArray} {l : List En} {x : En} (h : x ∈ hi s l) : x ∈ l ∧ ltS s x.s := by
  unfold hi at h; rw [List.mem_filter] at h; exact ⟨h.1, by simpa using h.2⟩
theorem Ris.put {l : List En} (h : Ris l) (e : En) : Ris (putL l e) := by
  unfold putL Ris
  rw [List.pairwise_append, List.pairwise_cons]
  refine ⟨h.lo _, ⟨fun y hy => (mem_hi hy).2, h.hi _⟩, fun x hx y hy => ?_⟩
  rcases List.mem_cons.1 hy with rfl | hy
  · exact (mem_lo hx).2
  · exact ltS_trans (mem_lo hx).2 (mem_hi hy).2
theorem lo_hi_length (s : ByteArray) (l : List En) : (lo s l).length + (hi s l).length ≤ l.length := by
  induction l with
  | nil => exact Nat.le_refl _
  | cons x l ih =>
    unfold lo hi at ih ⊢
    simp only [List.filter_cons]
    by_cases c : ltS x.s s
    · rw [decide_eq_true c, decide_eq_false (ltS_asymm c)]
      simp only [if_true, Bool.false_eq_true, if_false, List.length_cons]
      omega
    · rw [decide_eq_false c]
      by_cases d : ltS s x.s
      · rw [decide_eq_true d]; simp only [if_true, Bool.false_eq_true, if_false, List.length_cons]; omega
      · rw [decide_eq_false d]; simp only [Bool.false_eq_true, if_false, List.length_cons]; omega
theorem putL_length (l : List En) (e : En) : (putL l e).length ≤ l.length + 1 := by
  have := lo_hi_length e.s l
  unfold putL; simp only [List.length_append, List.length_cons]; omega
theorem dropL_length (l : List En) (s : ByteArray) : (dropL l s).length ≤ l.length := by
  have := lo_hi_length s l
  unfold dropL; simp only [List.length_append]; omega
theorem mem_put {l : List En} {e x : En} (h : x ∈ putL l e) : x ∈ l ∨ x = e := by
  rcases List.mem_append.1 h with h | h
  · exact .inl (mem_lo h).1
  · rcases List.mem_cons.1 h with rfl | h
    · exact .inr rfl
    · exact .inl (mem_hi h).1
theorem mem_drop' {l : List En} {s : ByteArray} {x : En} (h : x ∈ dropL l s) : x ∈ l := by
  rcases List.mem_append.1 h with h | h
  · exact (mem_lo h).1
  · exact (mem_hi h).1
/-- the document's way: put it ahead of the first above it -/
def stp (e : En) (a : Bool × List En) (x : En) : Bool × List En := if a.1 = false ∧ ltS e.s x.s then (true, a.2 ++ [e] ++ [x]) else (a.1, a.2 ++ [x])
def insK (e : En) (d : List En) (k : Nat) : Bool × List En := (d.take k).foldl (stp e) (false, [])
theorem insK_succ (e : En) (d : List En) (k : Nat) (h : k < d.length) : insK e d (k + 1) = stp e (insK e d k) d[k] := by
  unfold insK; rw [List.take_succ_eq_append_getElem h, List.foldl_append]; rfl
theorem stp_lo (e : En) : ∀ (A acc : List En), (∀ x ∈ A, ¬ ltS e.s x.s) → A.foldl (stp e) (false, acc) = (false, acc ++ A)
  | [], acc, _ => by simp
  | x :: A, acc, h => by
    rw [List.foldl_cons, stp, if_neg (fun c => h x (by simp) c.2), stp_lo e A _ (fun y hy => h y (by simp [hy]))]
    simp
theorem stp_hi (e : En) : ∀ (A acc : List En), A.foldl (stp e) (true, acc) = (true, acc ++ A)
  | [], acc => by simp
  | x :: A, acc => by
    rw [List.foldl_cons, stp, if_neg (fun c => by cases c.1), stp_hi e A]
    simp
theorem ins_put (l : List En) (e : En) : (if (insK e (dropL l e.s) (dropL l e.s).length).1 then (insK e (dropL l e.s) (dropL l e.s).length).2 else (insK e (dropL l e.s) (dropL l e.s).length).2 ++ [e]) = putL l e := by
  unfold insK
  rw [List.take_length]
  unfold dropL
  rw [List.foldl_append, stp_lo e _ _ (fun x hx => ltS_asymm (mem_lo hx).2), List.nil_append]
  unfold putL
  have hh : ∀ x ∈ hi e.s l, ltS e.s x.s := fun x hx => (mem_hi hx).2
  cases hB : hi e.s l with
  | nil => simp
  | cons x B =>
    have h1 : stp e (false, lo e.s l) x = (true, lo e.s l ++ [e] ++ [x]) := if_pos ⟨rfl, hh x (by rw [hB]; simp)⟩
    rw [List.foldl_cons, h1, stp_hi]
    simp
end Go.Proofs.Ytgcbnaleajccgaa
