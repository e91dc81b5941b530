/- Plain arithmetic of the sum in two halves. -/
namespace Go.Proofs.YtolcnbiaiolcoaaGreat

/-- one byte more -/
def fstep (p : Nat × Nat) (x : Nat) : Nat × Nat := ((p.1 + x) % 65535, (p.2 + (p.1 + x) % 65535) % 65535)
/-- the halves behind a list of bytes -/
def fsum (p : Nat × Nat) (l : List Nat) : Nat × Nat := l.foldl fstep p
/-- the halves as one number -/
def fnum (p : Nat × Nat) : Nat := p.2 * 65536 + p.1
/-- what a number's halves leave -/
def fof (s : Nat) : Nat × Nat := (s % 65536 % 65535, s / 65536 % 65535)
def FOk (p : Nat × Nat) : Prop := p.1 < 65535 ∧ p.2 < 65535

theorem fof_ok (s : Nat) : FOk (fof s) := ⟨Nat.mod_lt _ (by decide), Nat.mod_lt _ (by decide)⟩
theorem fstep_ok (p : Nat × Nat) (x : Nat) : FOk (fstep p x) := ⟨Nat.mod_lt _ (by decide), Nat.mod_lt _ (by decide)⟩
theorem fsum_ok (l : List Nat) : ∀ p, FOk p → FOk (fsum p l) := by
  induction l with
  | nil => exact fun p h => h
  | cons x l ih => exact fun p _ => ih _ (fstep_ok p x)
theorem fnum_lt (p : Nat × Nat) (h : FOk p) : fnum p < 4294967296 := by
  obtain ⟨h1, h2⟩ := h
  unfold fnum; omega
theorem fof_fnum (p : Nat × Nat) (h : FOk p) : fof (fnum p) = p := by
  obtain ⟨h1, h2⟩ := h
  unfold fof fnum
  obtain ⟨a, b⟩ := p
  simp only at h1 h2 ⊢
  congr 1 <;> omega
theorem fnum_inj (p q : Nat × Nat) (hp : FOk p) (hq : FOk q) (h : fnum p = fnum q) : p = q := by
  rw [← fof_fnum p hp, h, fof_fnum q hq]
theorem fsum_append (p : Nat × Nat) (a b : List Nat) : fsum p (a ++ b) = fsum (fsum p a) b := by simp [fsum]
theorem fsum_snoc (p : Nat × Nat) (a : List Nat) (x : Nat) : fsum p (a ++ [x]) = fstep (fsum p a) x := by simp [fsum]
theorem fsum_cons (p : Nat × Nat) (x : Nat) (b : List Nat) : fsum p (x :: b) = fsum (fstep p x) b := rfl
theorem fof_zero : fof 0 = (0, 0) := rfl

/-- the first half is the sum of all -/
theorem fsum_fst (l : List Nat) : ∀ p, (fsum p l).1 % 65535 = (p.1 + l.sum) % 65535 := by
  induction l with
  | nil => intro p; simp [fsum]
  | cons x l ih =>
    intro p
    rw [fsum_cons, ih]
    simp only [fstep, List.sum_cons]
    omega
/-- the second half is what it was, and something that the first half and the bytes give -/
theorem fsum_snd (l : List Nat) : ∀ a, ∃ g, ∀ b, (fsum (a, b) l).2 % 65535 = (b + g) % 65535 := by
  induction l with
  | nil => exact fun a => ⟨0, fun b => rfl⟩
  | cons x l ih =>
    intro a
    obtain ⟨g, hg⟩ := ih ((a + x) % 65535)
    refine ⟨(a + x) % 65535 + g, fun b => ?_⟩
    rw [fsum_cons]
    show (fsum ((a + x) % 65535, (b + (a + x) % 65535) % 65535) l).2 % 65535 = _
    rw [hg]
    omega

theorem turn_ne (p : Nat × Nat) (a b : List Nat) (x y : Nat) (hx : x < 256) (hy : y < 256) (h : x ≠ y) : fsum p (a ++ x :: b) ≠ fsum p (a ++ y :: b) := by
  intro e
  have h1 := fsum_fst (a ++ x :: b) p
  have h2 := fsum_fst (a ++ y :: b) p
  rw [e, h2] at h1
  simp only [List.sum_append, List.sum_cons] at h1
  omega

theorem swap_eq (p : Nat × Nat) (a b : List Nat) (x y : Nat) (hx : x < 256) (hy : y < 256) : fsum p (a ++ x :: y :: b) = fsum p (a ++ y :: x :: b) ↔ x = y := by
  constructor
  · intro e
    rw [fsum_append, fsum_append, fsum_cons, fsum_cons, fsum_cons, fsum_cons] at e
    generalize fsum p a = q at e
    obtain ⟨s, t⟩ := q
    simp only [fstep] at e
    have e1 : ((s + x) % 65535 + y) % 65535 = ((s + y) % 65535 + x) % 65535 := by omega
    rw [e1] at e
    obtain ⟨g, hg⟩ := fsum_snd b (((s + y) % 65535 + x) % 65535)
    have h2 := hg ((t + (s + x) % 65535) % 65535 + ((s + y) % 65535 + x) % 65535)
    have h3 := congrArg (fun q => q.2 % 65535) e
    simp only [hg] at h3
    omega
  · rintro rfl; rfl

theorem set_mid {l : List Nat} {i : Nat} (h : i < l.length) (y : Nat) : l = l.take i ++ l[i] :: l.drop (i + 1) ∧ l.set i y = l.take i ++ y :: l.drop (i + 1) := by
  refine ⟨?_, List.set_eq_take_append_cons_drop .. |>.trans (by rw [if_pos h])⟩
  rw [List.getElem_cons_drop, List.take_append_drop]

/-- a byte turned -/
theorem fsum_set_ne (p : Nat × Nat) (l : List Nat) (i y : Nat) (h : i < l.length) (hx : l[i] < 256) (hy : y < 256) (hne : l[i] ≠ y) : fsum p l ≠ fsum p (l.set i y) := by
  obtain ⟨h1, h2⟩ := set_mid h y
  rw [h2]
  exact fun e => turn_ne p _ _ _ _ hx hy hne (by rw [← h1]; exact e)

/-- two neighbours that change places -/
theorem fsum_swap (p : Nat × Nat) (l : List Nat) (i : Nat) (h : i + 1 < l.length) (hl : ∀ x ∈ l, x < 256) : fsum p l = fsum p ((l.set i l[i + 1]).set (i + 1) l[i]) ↔ l[i] = l[i + 1] := by
  have e1 : l = l.take i ++ l[i] :: l[i + 1] :: l.drop (i + 2) := by
    rw [List.getElem_cons_drop, List.getElem_cons_drop, List.take_append_drop]
  have e2 : (l.set i l[i + 1]).set (i + 1) l[i] = l.take i ++ l[i + 1] :: l[i] :: l.drop (i + 2) := by
    rw [(set_mid (show i < l.length by omega) l[i + 1]).2, List.set_append_right _ _ (by simp; omega)]
    congr 1
    have : i + 1 - (l.take i).length = 1 := by simp; omega
    rw [this, show l.drop (i + 1) = l[i + 1] :: l.drop (i + 2) from (List.getElem_cons_drop ..).symm]
    rfl
  rw [e2]
  constructor
  · intro e
    exact (swap_eq p _ _ _ _ (hl _ (List.getElem_mem _)) (hl _ (List.getElem_mem _))).1 (by rw [← e1]; exact e)
  · intro e
    conv => lhs; rw [e1]
    exact (swap_eq p _ _ _ _ (hl _ (List.getElem_mem _)) (hl _ (List.getElem_mem _))).2 e
end Go.Proofs.YtolcnbiaiolcoaaGreat
