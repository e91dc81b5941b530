/- The disk, as numbers. -/
import Derived.Test.YtolcnbiaiolcoaaGreatBase
namespace Go.Proofs.YtolcnbiaiolcoaaGreat

/-- What lasts, what waits, whether the power is off, how many steps the fuse still lets be. -/
structure DS where
  L : List (List Nat)
  Q : List (Nat × List Nat)
  dead : Bool
  fuse : Option Nat

/-- a write's first m bytes are laid -/
def layN (L : List (List Nat)) (q : Nat × List Nat) (m : Nat) : List (List Nat) := L.set q.1 (q.2.take m ++ (L.getD q.1 []).drop m)
/-- all that waits is written over what lasts -/
def lays (L : List (List Nat)) (Q : List (Nat × List Nat)) : List (List Nat) := Q.foldl (fun l q => l.set q.1 q.2) L
/-- the first k writes are laid, each by as many bytes as c says -/
def laysBy (c : Nat → Nat) (Q : List (Nat × List Nat)) (L : List (List Nat)) : Nat → List (List Nat)
  | 0 => L
  | k + 1 => layN (laysBy c Q L k) (Q.getD k (0, [])) (c k)

structure DS.ok (s : DS) (n : Nat) : Prop where
  len : s.L.length = n
  row : ∀ r ∈ s.L, r.length = 128
  at_ : ∀ q ∈ s.Q, q.1 < n ∧ q.2.length = 128
  dd : s.dead = true → s.fuse = some 0
  fz : ∀ f, s.fuse = some f → f < 9223372036854775808

def newS (n : Nat) : DS := ⟨List.replicate n (List.replicate 128 0), [], false, none⟩
def stepS (s : DS) : DS × Bool :=
  match s.fuse with
  | none => (s, true)
  | some 0 => ({ s with dead := true }, false)
  | some (k + 1) => ({ s with fuse := some k }, true)
def writeS (s : DS) (i : Int) (b : List Nat) : DS × Int :=
  if i < 0 ∨ (s.L.length : Int) ≤ i ∨ b.length ≠ 128 then (s, 2) else if (stepS s).2 then ({ (stepS s).1 with Q := s.Q ++ [(i.toNat, b)] }, 0) else ((stepS s).1, 7)
def flushS (s : DS) : DS × Int := if (stepS s).2 then ({ (stepS s).1 with L := lays s.L s.Q, Q := [] }, 0) else ((stepS s).1, 7)
def fuseS (s : DS) (k : Int) : DS × Int := if k < 0 then (s, 2) else if s.dead then (s, 7) else ({ s with fuse := some k.toNat }, 0)
/-- how many bytes of write i last -/
def kept (keep : List Int) (torn : Int) (q i : Nat) : Nat := if 0 < torn ∧ torn < 128 ∧ i + 1 = q then torn.toNat else if keep.getD i 0 ≠ 0 then 128 else 0
def crashS (s : DS) (keep : List Int) (torn : Int) : DS := ⟨laysBy (kept keep torn s.Q.length) s.Q s.L s.Q.length, [], false, none⟩
def isS (s : DS) (i : Nat) : List Nat := (lays s.L s.Q).getD i []

theorem stepS_L (s : DS) : (stepS s).1.L = s.L := by unfold stepS; split <;> rfl
theorem stepS_Q (s : DS) : (stepS s).1.Q = s.Q := by unfold stepS; split <;> rfl
theorem stepS_ok {s : DS} {n : Nat} (h : s.ok n) : (stepS s).1.ok n := by
  obtain ⟨L, Q, dead, fuse⟩ := s
  obtain ⟨h1, h2, h3, h4, h5⟩ := h
  match fuse, h4, h5 with
  | none, h4, h5 => exact ⟨h1, h2, h3, h4, h5⟩
  | some 0, h4, h5 => exact ⟨h1, h2, h3, fun _ => rfl, h5⟩
  | some (k + 1), h4, h5 =>
    refine ⟨h1, h2, h3, fun hd => ?_, fun f hf => ?_⟩
    · have := h4 hd; simp at this
    · have := h5 (k + 1) rfl
      simp [stepS] at hf
      omega

theorem layN_length (L : List (List Nat)) (q : Nat × List Nat) (m : Nat) : (layN L q m).length = L.length := by simp [layN]
theorem laysBy_length (c : Nat → Nat) (Q : List (Nat × List Nat)) (L : List (List Nat)) : ∀ k, (laysBy c Q L k).length = L.length
  | 0 => rfl
  | k + 1 => by rw [laysBy, layN_length, laysBy_length c Q L k]
theorem lays_length : ∀ (Q : List (Nat × List Nat)) (L : List (List Nat)), (lays L Q).length = L.length
  | [], _ => rfl
  | q :: Q, L => by
    show (lays (L.set q.1 q.2) Q).length = _
    rw [lays_length Q]; simp
theorem lays_snoc (L : List (List Nat)) (Q : List (Nat × List Nat)) (q : Nat × List Nat) : lays L (Q ++ [q]) = (lays L Q).set q.1 q.2 := by simp [lays]
theorem row_set {L : List (List Nat)} (h : ∀ r ∈ L, r.length = 128) (i : Nat) {x : List Nat} (hx : x.length = 128) : ∀ r ∈ L.set i x, r.length = 128 := fun r hr => by
  rcases List.mem_or_eq_of_mem_set hr with h1 | h1
  · exact h r h1
  · rw [h1]; exact hx
theorem row_at {L : List (List Nat)} (h : ∀ r ∈ L, r.length = 128) {i : Nat} (hi : i < L.length) : (L.getD i []).length = 128 := by
  rw [List.getD_eq_getElem?_getD, List.getElem?_eq_getElem hi]
  exact h _ (List.getElem_mem hi)
theorem layN_row {L : List (List Nat)} (h : ∀ r ∈ L, r.length = 128) {q : Nat × List Nat} (hq : q.1 < L.length) (hl : q.2.length = 128) (m : Nat) : ∀ r ∈ layN L q m, r.length = 128 := by
  refine row_set h _ ?_
  have := row_at h hq
  rw [List.length_append, List.length_take, List.length_drop, this, hl]; omega
theorem lays_row : ∀ (Q : List (Nat × List Nat)) (L : List (List Nat)), (∀ r ∈ L, r.length = 128) → (∀ q ∈ Q, q.2.length = 128) → ∀ r ∈ lays L Q, r.length = 128
  | [], _, h, _ => h
  | q :: Q, L, h, hq => lays_row Q (L.set q.1 q.2) (row_set h _ (hq q (by simp))) (fun x hx => hq x (by simp [hx]))
theorem getD_mem {Q : List (Nat × List Nat)} {k : Nat} (hk : k < Q.length) : Q.getD k (0, []) ∈ Q := by
  rw [List.getD_eq_getElem?_getD, List.getElem?_eq_getElem hk]
  exact List.getElem_mem hk
theorem laysBy_row (c : Nat → Nat) (Q : List (Nat × List Nat)) (L : List (List Nat)) (h : ∀ r ∈ L, r.length = 128) (hq : ∀ q ∈ Q, q.1 < L.length ∧ q.2.length = 128) : ∀ k, k ≤ Q.length → ∀ r ∈ laysBy c Q L k, r.length = 128
  | 0, _ => h
  | k + 1, hk => by
    rw [laysBy]
    have hm := hq _ (getD_mem (show k < Q.length by omega))
    exact layN_row (laysBy_row c Q L h hq k (by omega)) (by rw [laysBy_length]; exact hm.1) hm.2 _
/-- laid by 128 bytes each: as a whole -/
theorem laysBy_all (Q : List (Nat × List Nat)) (L : List (List Nat)) (h : ∀ r ∈ L, r.length = 128) (hq : ∀ q ∈ Q, q.1 < L.length ∧ q.2.length = 128) : ∀ k, k ≤ Q.length → laysBy (fun _ => 128) Q L k = lays L (Q.take k)
  | 0, _ => by simp [laysBy, lays]
  | k + 1, hk => by
    have hlt : k < Q.length := by omega
    have hm := hq _ (getD_mem hlt)
    have hr := row_at (laysBy_row (fun _ => 128) Q L h hq k (by omega)) (i := (Q.getD k (0, [])).1) (by rw [laysBy_length]; exact hm.1)
    rw [laysBy, List.take_succ_eq_append_getElem hlt, lays_snoc, ← laysBy_all Q L h hq k (by omega), layN, List.take_of_length_le (by omega), List.drop_of_length_le (by omega), List.append_nil]
    rw [List.getD_eq_getElem?_getD, List.getElem?_eq_getElem hlt]; rfl
theorem writeS_ok {s : DS} {n : Nat} (h : s.ok n) (i : Int) (b : List Nat) : (writeS s i b).1.ok n := by
  unfold writeS
  split
  · exact h
  · rename_i hc
    split
    · have h1 := stepS_ok h
      refine ⟨h1.len, h1.row, fun q hq => ?_, h1.dd, h1.fz⟩
      rcases List.mem_append.1 hq with hq | hq
      · exact h.at_ q hq
      · rw [List.mem_singleton] at hq
        subst hq
        have := h.len
        exact ⟨by show i.toNat < n; omega, by show b.length = 128; omega⟩
    · exact stepS_ok h
theorem flushS_ok {s : DS} {n : Nat} (h : s.ok n) : (flushS s).1.ok n := by
  unfold flushS
  split
  · have h1 := stepS_ok h
    exact ⟨by show (lays s.L s.Q).length = n; rw [lays_length, h.len], lays_row _ _ h.row (fun q hq => (h.at_ q hq).2), fun q hq => by simp at hq, h1.dd, h1.fz⟩
  · exact stepS_ok h
theorem crashS_ok {s : DS} {n : Nat} (h : s.ok n) (keep : List Int) (torn : Int) : (crashS s keep torn).ok n :=
  ⟨by show (laysBy _ _ _ _).length = n; rw [laysBy_length, h.len], laysBy_row _ _ _ h.row (fun q hq => by rw [h.len]; exact h.at_ q hq) _ (Nat.le_refl _), fun q hq => by simp [crashS] at hq, fun hd => by simp [crashS] at hd, fun f hf => by simp [crashS] at hf⟩
theorem fuseS_ok {s : DS} {n : Nat} (h : s.ok n) (k : Int) (hk : k < 9223372036854775808) : (fuseS s k).1.ok n := by
  unfold fuseS
  split
  · exact h
  · split
    · exact h
    · rename_i h1 h2
      refine ⟨h.len, h.row, h.at_, fun hd => absurd hd h2, fun f hf => ?_⟩
      injection hf with hf
      omega
theorem newS_ok (n : Nat) : (newS n).ok n := ⟨by simp [newS], fun r hr => by rw [List.eq_of_mem_replicate hr]; simp, fun q hq => by simp [newS] at hq, fun h => by simp [newS] at h, fun f hf => by simp [newS] at hf⟩

/-- the writes that wait, as cells -/
def wcells (q : Nat × List Nat) : List Value := .int .i64 (q.1 : Int) :: q.2.map u8
theorem wcells_length {q : Nat × List Nat} (h : q.2.length = 128) : (wcells q).length = 129 := by simp [wcells, h]
theorem flat_at {α β : Type} (f : α → List β) (c : Nat) : ∀ (l : List α), (∀ x ∈ l, (f x).length = c) → ∀ (i j : Nat) (hi : i < l.length), j < c → (l.flatMap f)[i * c + j]? = (f l[i])[j]?
  | x :: l, h, 0, j, _, hj => by
    rw [List.flatMap_cons, List.getElem?_append_left (by rw [h x (by simp)]; omega)]; simp
  | x :: l, h, i + 1, j, hi, hj => by
    have h1 := h x (by simp)
    have e : (i + 1) * c + j = c + (i * c + j) := by rw [Nat.succ_mul]; omega
    rw [List.flatMap_cons, List.getElem?_append_right (by rw [h1]; omega), e, h1, show c + (i * c + j) - c = i * c + j by omega]
    exact flat_at f c l (fun y hy => h y (by simp [hy])) i j (by simpa using hi) hj
theorem flat_length {α β : Type} (f : α → List β) (c : Nat) : ∀ (l : List α), (∀ x ∈ l, (f x).length = c) → (l.flatMap f).length = l.length * c
  | [], _ => by simp
  | x :: l, h => by
    rw [List.flatMap_cons, List.length_append, h x (by simp), flat_length f c l (fun y hy => h y (by simp [hy])), List.length_cons, Nat.succ_mul]; omega
/-- behind a crash all reads are what lasts: where nothing waits they are the same already -/
theorem lays_other (L : List (List Nat)) : ∀ (Q : List (Nat × List Nat)) (i : Nat), (∀ q ∈ Q, q.1 ≠ i) → (lays L Q)[i]? = L[i]?
  | [], _, _ => rfl
  | q :: Q, i, h => by
    show (lays (L.set q.1 q.2) Q)[i]? = _
    rw [lays_other (L.set q.1 q.2) Q i (fun x hx => h x (by simp [hx])), List.getElem?_set_ne (h q (by simp))]
theorem laysBy_other (c : Nat → Nat) (Q : List (Nat × List Nat)) (L : List (List Nat)) (i : Nat) : ∀ k, k ≤ Q.length → (∀ q ∈ Q, q.1 ≠ i) → (laysBy c Q L k)[i]? = L[i]?
  | 0, _, _ => rfl
  | k + 1, hk, h => by
    rw [laysBy, layN, List.getElem?_set_ne (h _ (getD_mem (show k < Q.length by omega))), laysBy_other c Q L i k (by omega) h]
/-- the first k places that wait are read anew -/
def readTo (L' : List (List Nat)) (Q : List (Nat × List Nat)) (R : List (List Nat)) : Nat → List (List Nat)
  | 0 => R
  | k + 1 => (readTo L' Q R k).set (Q.getD k (0, [])).1 (L'.getD (Q.getD k (0, [])).1 [])
theorem readTo_length (L' : List (List Nat)) (Q : List (Nat × List Nat)) (R : List (List Nat)) : ∀ k, (readTo L' Q R k).length = R.length
  | 0 => rfl
  | k + 1 => by rw [readTo]; simp [readTo_length L' Q R k]
theorem readTo_at (L' : List (List Nat)) (Q : List (Nat × List Nat)) (R : List (List Nat)) (hl : R.length = L'.length) (i : Nat) (hi : i < L'.length) : ∀ k, k ≤ Q.length → ((∀ q ∈ Q.take k, q.1 ≠ i) → R[i]? = L'[i]?) → (readTo L' Q R k)[i]? = L'[i]?
  | 0, _, h => by simpa [readTo] using h (fun q hq => by simp at hq)
  | k + 1, hk, h => by
    have hlt : k < Q.length := by omega
    have e : Q.getD k (0, []) = Q[k] := by rw [List.getD_eq_getElem?_getD, List.getElem?_eq_getElem hlt]; rfl
    rw [readTo, e]
    by_cases hq : Q[k].1 = i
    · rw [hq, List.getElem?_set_self (by rw [readTo_length]; omega), List.getD_eq_getElem?_getD, List.getElem?_eq_getElem hi]; rfl
    · rw [List.getElem?_set_ne hq]
      refine readTo_at L' Q R hl i hi k (by omega) (fun h1 => h fun q hqm => ?_)
      rw [List.take_succ_eq_append_getElem hlt] at hqm
      rcases List.mem_append.1 hqm with h2 | h2
      · exact h1 q h2
      · rw [List.mem_singleton] at h2; rw [h2]; exact hq
theorem readTo_all (c : Nat → Nat) (L : List (List Nat)) (Q : List (Nat × List Nat)) : readTo (laysBy c Q L Q.length) Q (lays L Q) Q.length = laysBy c Q L Q.length := by
  apply List.ext_getElem?
  intro i
  by_cases hi : i < L.length
  · refine readTo_at _ _ _ (by rw [lays_length, laysBy_length]) i (by rw [laysBy_length]; exact hi) _ (Nat.le_refl _) (fun h => ?_)
    rw [List.take_length] at h
    rw [lays_other L Q i h, laysBy_other c Q L i _ (Nat.le_refl _) h]
  · rw [List.getElem?_eq_none (by rw [readTo_length, lays_length]; omega), List.getElem?_eq_none (by rw [laysBy_length]; omega)]
theorem readTo_row (L' : List (List Nat)) (Q : List (Nat × List Nat)) (R : List (List Nat)) (hL : ∀ r ∈ L', r.length = 128) (hR : ∀ r ∈ R, r.length = 128) (hq : ∀ q ∈ Q, q.1 < L'.length) : ∀ k, k ≤ Q.length → ∀ r ∈ readTo L' Q R k, r.length = 128
  | 0, _ => hR
  | k + 1, hk => by
    rw [readTo]
    exact row_set (readTo_row L' Q R hL hR hq k (by omega)) _ (row_at hL (hq _ (getD_mem (show k < Q.length by omega))))
end Go.Proofs.YtolcnbiaiolcoaaGreat
