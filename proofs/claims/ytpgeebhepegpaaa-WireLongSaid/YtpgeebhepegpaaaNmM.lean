/- Names and paths, over lists of bytes: which texts are paths, that names are had back, where a text is cut; the order. -/
import Derived.Lib.SplitLaws
import Derived.Lib.Split
namespace Go.Proofs.Ytpgeebhepegpaaa

/-- A byte that a name may have. -/
def okC (c : UInt8) : Bool := decide (32 < c.toNat) && decide (c.toNat < 127) && decide (c.toNat ≠ 47)
def NameL (n : List UInt8) : Prop := 0 < n.length ∧ n.length < 17 ∧ (∀ c ∈ n, okC c = true) ∧ n ≠ [46] ∧ n ≠ [46, 46]
instance (n : List UInt8) : Decidable (NameL n) := by unfold NameL; infer_instance
def Free (n : List UInt8) : Prop := ∀ c ∈ n, c ≠ 47
def joinL (l : List (List UInt8)) : List UInt8 := l.flatMap (fun n => 47 :: n)
def PathL (p : List UInt8) (l : List (List UInt8)) : Prop := (p = [47] ∧ l = []) ∨ (l ≠ [] ∧ l.length ≤ 8 ∧ (∀ n ∈ l, NameL n) ∧ p = joinL l)

theorem okC_ne {c : UInt8} (h : okC c = true) : c ≠ 47 := by
  rintro rfl
  revert h; decide
theorem NameL.free {n : List UInt8} (h : NameL n) : Free n := fun c hc => okC_ne (h.2.2.1 c hc)
theorem NameL.ne {n : List UInt8} (h : NameL n) : n ≠ [] := by rintro rfl; exact absurd h.1 (by decide)

theorem joinL_nil : joinL [] = [] := rfl
theorem joinL_cons (a : List UInt8) (l : List (List UInt8)) : joinL (a :: l) = 47 :: (a ++ joinL l) := rfl
theorem joinL_append (l m : List (List UInt8)) : joinL (l ++ m) = joinL l ++ joinL m := List.flatMap_append
theorem joinL_head : ∀ l : List (List UInt8), joinL l = [] ∨ ∃ u, joinL l = 47 :: u
  | [] => .inl rfl
  | a :: l => .inr ⟨_, joinL_cons a l⟩
theorem joinL_eq_nil {l : List (List UInt8)} (h : joinL l = []) : l = [] := by
  cases l with
  | nil => rfl
  | cons a l => rw [joinL_cons] at h; cases h
theorem joinL_length : ∀ l : List (List UInt8), l.length ≤ (joinL l).length
  | [] => Nat.le_refl _
  | a :: l => by
    have := joinL_length l
    rw [joinL_cons]
    simp only [List.length_cons, List.length_append]
    omega

theorem free_head : ∀ (a b x y : List UInt8), Free a → Free b → (x = [] ∨ ∃ u, x = 47 :: u) → (y = [] ∨ ∃ u, y = 47 :: u) → a ++ x = b ++ y → a = b ∧ x = y
  | [], [], _, _, _, _, _, _, h => ⟨rfl, h⟩
  | [], c :: b, x, y, _, hb, hx, _, h => by
    rcases hx with rfl | ⟨u, rfl⟩
    · cases h
    · simp only [List.nil_append, List.cons_append] at h
      injection h with h1 _
      exact absurd h1.symm (hb c (by simp))
  | c :: a, [], x, y, ha, _, _, hy, h => by
    rcases hy with rfl | ⟨u, rfl⟩
    · cases h
    · simp only [List.nil_append, List.cons_append] at h
      injection h with h1 _
      exact absurd h1 (ha c (by simp))
  | c :: a, d :: b, x, y, ha, hb, hx, hy, h => by
    simp only [List.cons_append] at h
    injection h with h1 h2
    obtain ⟨e1, e2⟩ := free_head a b x y (fun z hz => ha z (by simp [hz])) (fun z hz => hb z (by simp [hz])) hx hy h2
    exact ⟨by rw [h1, e1], e2⟩

theorem join_split : ∀ (out l : List (List UInt8)) (s t : List UInt8), (∀ n ∈ out, Free n) → (∀ n ∈ l, Free n) → Free s → (t = [] ∨ ∃ u, t = 47 :: u) →
    joinL l = joinL out ++ (47 :: (s ++ t)) → ∃ l', l = out ++ s :: l' ∧ joinL l' = t
  | [], l, s, t, _, hl, hs, ht, h => by
    cases l with
    | nil => cases h
    | cons a l =>
      rw [joinL_cons, joinL_nil, List.nil_append] at h
      injection h with _ h
      obtain ⟨rfl, e⟩ := free_head a s _ t (hl a (by simp)) hs (joinL_head l) ht h
      exact ⟨l, rfl, e⟩
  | o :: out, l, s, t, ho, hl, hs, ht, h => by
    cases l with
    | nil => cases h
    | cons a l =>
      rw [joinL_cons, joinL_cons, List.cons_append, List.append_assoc] at h
      injection h with _ h
      obtain ⟨rfl, e⟩ := free_head a o _ (joinL out ++ (47 :: (s ++ t))) (hl a (by simp)) (ho o (by simp)) (joinL_head l) (by
        rcases joinL_head out with e | ⟨u, e⟩
        · rw [e]; exact .inr ⟨_, rfl⟩
        · rw [e]; exact .inr ⟨_, rfl⟩) h
      obtain ⟨l', rfl, e2⟩ := join_split out l s t (fun n hn => ho n (by simp [hn])) (fun n hn => hl n (by simp [hn])) hs ht e
      exact ⟨l', rfl, e2⟩

theorem joinL_inj : ∀ (l m : List (List UInt8)), (∀ n ∈ l, Free n) → (∀ n ∈ m, Free n) → joinL l = joinL m → l = m
  | [], m, _, _, h => (joinL_eq_nil h.symm).symm
  | a :: l, [], _, _, h => by cases h
  | a :: l, b :: m, hl, hm, h => by
    rw [joinL_cons, joinL_cons] at h
    injection h with _ h
    obtain ⟨rfl, e⟩ := free_head a b _ _ (hl a (by simp)) (hm b (by simp)) (joinL_head l) (joinL_head m) h
    rw [joinL_inj l m (fun n hn => hl n (by simp [hn])) (fun n hn => hm n (by simp [hn])) e]

theorem PathL.one {p : List UInt8} {l m : List (List UInt8)} (h : PathL p l) (k : PathL p m) : l = m := by
  have slash : ∀ l : List (List UInt8), l ≠ [] → (∀ n ∈ l, NameL n) → [47] ≠ joinL l := by
    intro l hl hn e
    cases l with
    | nil => exact hl rfl
    | cons a l =>
      rw [joinL_cons] at e
      injection e with _ e
      have := (List.append_eq_nil_iff.1 e.symm).1
      exact (hn a (by simp)).ne this
  rcases h with ⟨rfl, rfl⟩ | ⟨h1, h2, h3, rfl⟩
  · rcases k with ⟨_, rfl⟩ | ⟨k1, _, k3, k4⟩
    · rfl
    · exact absurd k4 (slash m k1 k3)
  · rcases k with ⟨e, rfl⟩ | ⟨_, _, k3, k4⟩
    · exact absurd e.symm (slash l h1 h3)
    · exact joinL_inj l m (fun n hn => (h3 n hn).free) (fun n hn => (k3 n hn).free) k4

/-- names' path -/
def Good (l : List (List UInt8)) : Prop := l.length ≤ 8 ∧ ∀ n ∈ l, NameL n
instance (l : List (List UInt8)) : Decidable (Good l) := by unfold Good; infer_instance
def jnL (l : List (List UInt8)) : List UInt8 := if l = [] then [47] else if Good l then joinL l else []
theorem PathL.of_jn {p : List UInt8} {l : List (List UInt8)} (h : Good l) (e : jnL l = p) : PathL p l := by
  unfold jnL at e
  split at e
  · next hl => exact .inl ⟨e.symm, hl⟩
  · next hl => exact .inr ⟨hl, h.1, h.2, by first | exact e.symm | (rw [if_pos h] at e; exact e.symm)⟩
theorem PathL.jn {p : List UInt8} {l : List (List UInt8)} (h : PathL p l) : Good l ∧ jnL l = p ∧ p ≠ [] := by
  rcases h with ⟨rfl, rfl⟩ | ⟨h1, h2, h3, rfl⟩
  · exact ⟨⟨by decide, by simp⟩, rfl, by simp⟩
  · refine ⟨⟨h2, h3⟩, ?_, fun e => h1 (joinL_eq_nil e)⟩
    unfold jnL; rw [if_neg h1, if_pos ⟨h2, h3⟩]
theorem jnL_bad {l : List (List UInt8)} (h : ¬ Good l) : jnL l = [] := by
  unfold jnL
  rw [if_neg (by rintro rfl; exact h ⟨by decide, by simp⟩), if_neg h]

/-- where a slash stands -/
theorem index_free : ∀ a : List UInt8, Free a → Lib.index a [47] = -1
  | [], _ => by decide
  | c :: a, h => by
    have hc : c ≠ 47 := h c (by simp)
    have ih := index_free a (fun z hz => h z (by simp [hz]))
    have hp : ([47] : List UInt8).isPrefixOf (c :: a) = false := by simp [List.isPrefixOf, Ne.symm hc]
    rw [Lib.index, hp]; simp [ih]
theorem index_slash : ∀ a x : List UInt8, Free a → Lib.index (a ++ 47 :: x) [47] = (a.length : Int)
  | [], x, _ => by rw [List.nil_append, Lib.index]; simp [List.isPrefixOf]
  | c :: a, x, h => by
    have hc : c ≠ 47 := h c (by simp)
    have ih := index_slash a x (fun z hz => h z (by simp [hz]))
    have hp : ([47] : List UInt8).isPrefixOf (c :: (a ++ 47 :: x)) = false := by simp [List.isPrefixOf, Ne.symm hc]
    rw [List.cons_append, Lib.index, hp, ih]
    have : ¬ ((a.length : Int) == -1) = true := fun e => by have := beq_iff_eq.1 e; omega
    simp only [Bool.false_eq_true, if_false, if_neg this, List.length_cons]
    omega

theorem splitK_join : ∀ (l : List (List UInt8)) (a : List UInt8) (k : Nat), Free a → (∀ n ∈ l, Free n) → l.length ≤ k → Lib.splitK [47] 0 k (a ++ joinL l) = a :: l
  | [], a, k, ha, _, _ => by
    rw [joinL_nil, List.append_nil]
    cases k with
    | zero => rfl
    | succ k => rw [Lib.splitK, index_free a ha]; rfl
  | b :: l, a, k, ha, hl, hk => by
    cases k with
    | zero => simp at hk
    | succ k =>
      have ih := splitK_join l b k (hl b (by simp)) (fun n hn => hl n (by simp [hn])) (by simp at hk; omega)
      have hn : ¬ ((a.length : Int) == -1) = true := fun e => by have := beq_iff_eq.1 e; omega
      rw [joinL_cons, Lib.splitK, index_slash a _ ha, if_neg hn]
      simp only [Int.toNat_natCast, Nat.add_zero, List.length_cons, List.length_nil]
      rw [List.take_left' rfl, List.drop_append, List.drop_eq_nil_of_le (by omega)]
      simp only [Nat.zero_add, Nat.add_sub_cancel_left, List.nil_append, List.drop_succ_cons, List.drop_zero]
      rw [ih]

theorem splitK_ne (k : Nat) (s : List UInt8) : ∃ a l, Lib.splitK [47] 0 k s = a :: l ∧ l.length ≤ k := by
  induction k generalizing s with
  | zero => exact ⟨_, _, rfl, Nat.le_refl _⟩
  | succ k ih =>
    rw [Lib.splitK]
    split
    · exact ⟨_, _, rfl, by simp⟩
    · obtain ⟨a, l, e, hl⟩ := ih (s.drop ((Lib.index s [47]).toNat + ([47] : List UInt8).length))
      exact ⟨_, _, rfl, by rw [e]; simp; omega⟩

/-- What the program cuts a text into, but for the first piece: a path's names, and the text is their path; else they have another path. -/
theorem split_says (p : List UInt8) (hp : p ≠ [47]) {a : List UInt8} {l : List (List UInt8)} (h : Lib.splitK [47] 0 (min 9 (p.length + 1) - 1) p = a :: l) :
    (jnL l = p → PathL p l) ∧ (∀ m, PathL p m → jnL l = p) := by
  refine ⟨fun e => ?_, fun m hm => ?_⟩
  · by_cases hg : Good l
    · exact .of_jn hg e
    · rw [jnL_bad hg] at e
      subst e
      have : Lib.splitK [47] 0 (min 9 (([] : List UInt8).length + 1) - 1) [] = [[]] := rfl
      rw [this] at h
      injection h with _ h
      subst h
      exact absurd ⟨by decide, by simp⟩ hg
  · rcases hm with ⟨e, _⟩ | ⟨h1, h2, h3, rfl⟩
    · exact absurd e hp
    · have := joinL_length m
      have e := splitK_join m [] (min 9 ((joinL m).length + 1) - 1) (by simp [Free]) (fun n hn => (h3 n hn).free) (by omega)
      rw [List.nil_append] at e
      rw [e] at h
      injection h with _ h
      subst h
      exact (PathL.jn (.inr ⟨h1, h2, h3, rfl⟩)).2.1

/-- a path below another one -/
def UnderL (l m : List (List UInt8)) : Prop := m.length < l.length ∧ l.take m.length = m
instance (l m : List (List UInt8)) : Decidable (UnderL l m) := by unfold UnderL; infer_instance
theorem UnderL.irr (l : List (List UInt8)) : ¬ UnderL l l := fun h => Nat.lt_irrefl _ h.1
theorem UnderL.asymm {l m : List (List UInt8)} (h : UnderL l m) : ¬ UnderL m l := fun k => by have := h.1; have := k.1; omega
theorem UnderL.trans {l m n : List (List UInt8)} (h : UnderL l m) (k : UnderL m n) : UnderL l n := by
  refine ⟨Nat.lt_trans k.1 h.1, ?_⟩
  have h2 := h.2; have k2 := k.2
  rw [← h2, List.take_take, Nat.min_eq_left (by have := k.1; omega)] at k2
  exact k2
end Go.Proofs.Ytpgeebhepegpaaa
