/- Which homes are taken: a row of bits in a sector, as numbers; and what the calls make of a row of answers. -/
namespace Go.Proofs.Ytekafclhddhnpaa

def bitN (i : Nat) : Nat := 2 ^ (7 - i % 8)
/-- home i's bit -/
def hasB (r : List Nat) (i : Nat) : Bool := (r.getD (i / 8) 0).testBit (7 - i % 8)
def putB (r : List Nat) (i : Nat) : List Nat := r.set (i / 8) (r.getD (i / 8) 0 ||| bitN i)
def dropB (r : List Nat) (i : Nat) : List Nat := r.set (i / 8) (r.getD (i / 8) 0 &&& (255 - bitN i))
/-- a sector whose bits are f -/
structure Bt (r : List Nat) (f : Nat → Bool) : Prop where
  len : r.length = 128
  lt : ∀ x ∈ r, x < 256
  bit : ∀ i, i < 1024 → hasB r i = f i

theorem bitN_lt (i : Nat) : bitN i < 256 := by
  have : 7 - i % 8 < 8 := by omega
  unfold bitN
  generalize 7 - i % 8 = k at this
  match k, this with
  | 0, _ | 1, _ | 2, _ | 3, _ | 4, _ | 5, _ | 6, _ | 7, _ => decide
theorem and_bit (x i : Nat) : (x &&& bitN i = 0) ↔ x.testBit (7 - i % 8) = false := by
  unfold bitN
  generalize 7 - i % 8 = k
  constructor
  · intro h
    have h1 : (x &&& 2 ^ k).testBit k = false := by rw [h]; exact Nat.zero_testBit k
    rw [Nat.testBit_and, Nat.testBit_two_pow] at h1
    simpa using h1
  · intro h
    apply Nat.eq_of_testBit_eq
    intro j
    rw [Nat.testBit_and, Nat.testBit_two_pow, Nat.zero_testBit]
    by_cases e : k = j
    · rw [← e, h]; rfl
    · rw [decide_eq_false e, Bool.and_false]
theorem drop_bits : ∀ k < 8, ∀ j < 8, (255 - 2 ^ k).testBit j = !decide (j = k) := by decide
theorem add_or : ∀ x < 256, ∀ k < 8, x.testBit k = false → x + 2 ^ k = x ||| 2 ^ k := by decide +kernel
theorem getD_lt {r : List Nat} (h : ∀ x ∈ r, x < 256) (k : Nat) : r.getD k 0 < 256 := by
  rw [List.getD_eq_getElem?_getD]
  rcases Nat.lt_or_ge k r.length with hk | hk
  · rw [List.getElem?_eq_getElem hk]; exact h _ (List.getElem_mem hk)
  · rw [List.getElem?_eq_none hk]; decide
theorem getD_set8 (r : List Nat) (a b y : Nat) (ha : a < r.length) : (r.set a y).getD b 0 = if a = b then y else r.getD b 0 := by
  rw [List.getD_eq_getElem?_getD, List.getD_eq_getElem?_getD, List.getElem?_set]
  by_cases h : a = b
  · rw [if_pos h, if_pos h, if_pos (by omega)]; rfl
  · rw [if_neg h, if_neg h]
theorem lt_set8 {r : List Nat} (h : ∀ x ∈ r, x < 256) (a y : Nat) (hy : y < 256) : ∀ x ∈ r.set a y, x < 256 := fun x hx => by
  rcases List.mem_or_eq_of_mem_set hx with h1 | h1
  · exact h x h1
  · rw [h1]; exact hy

section
variable {r r' : List Nat} {f g : Nat → Bool} {T : List Bool}
theorem Bt.congr (h : Bt r f) (e : ∀ i, i < 1024 → f i = g i) : Bt r g := ⟨h.len, h.lt, fun i hi => (h.bit i hi).trans (e i hi)⟩
theorem Bt.put (h : Bt r f) {i : Nat} (hi : i < 1024) : Bt (putB r i) (fun j => decide (j = i) || f j) := by
  have hb := bitN_lt i
  refine ⟨by unfold putB; rw [List.length_set, h.len], lt_set8 h.lt _ _ (Nat.or_lt_two_pow (n := 8) (getD_lt h.lt _) hb), fun j hj => ?_⟩
  unfold hasB putB
  rw [getD_set8 _ _ _ _ (by rw [h.len]; omega), ← h.bit j hj]
  by_cases e : i / 8 = j / 8
  · rw [if_pos e, Nat.testBit_or]
    unfold bitN hasB
    rw [Nat.testBit_two_pow, e, Bool.or_comm]
    congr 1
    by_cases hji : j = i
    · simp [hji]
    · rw [decide_eq_false hji, decide_eq_false (by omega)]
  · rw [if_neg e, decide_eq_false (by rintro rfl; exact e rfl)]; rfl
theorem Bt.drop (h : Bt r f) {i : Nat} (hi : i < 1024) : Bt (dropB r i) (fun j => !decide (j = i) && f j) := by
  refine ⟨by unfold dropB; rw [List.length_set, h.len], lt_set8 h.lt _ _ (Nat.lt_of_le_of_lt Nat.and_le_left (getD_lt h.lt _)), fun j hj => ?_⟩
  unfold hasB dropB
  rw [getD_set8 _ _ _ _ (by rw [h.len]; omega), ← h.bit j hj]
  by_cases e : i / 8 = j / 8
  · rw [if_pos e, Nat.testBit_and]
    unfold bitN hasB
    rw [drop_bits _ (by omega) _ (by omega), e, Bool.and_comm]
    congr 2
    by_cases hji : j = i
    · simp [hji]
    · rw [decide_eq_false hji, decide_eq_false (by omega)]
  · rw [if_neg e, decide_eq_false (by rintro rfl; exact e rfl)]; rfl
theorem Bt.inj (h : Bt r f) (k : Bt r' f) : r = r' := by
  apply List.ext_getElem (by rw [h.len, k.len])
  intro n h1 h2
  have hn : n < 128 := by rw [← h.len]; exact h1
  apply Nat.eq_of_testBit_eq
  intro t
  rcases Nat.lt_or_ge t 8 with ht | ht
  · have hb := (h.bit (8 * n + (7 - t)) (by omega)).trans (k.bit (8 * n + (7 - t)) (by omega)).symm
    unfold hasB at hb
    rw [show (8 * n + (7 - t)) / 8 = n by omega, show 7 - (8 * n + (7 - t)) % 8 = t by omega] at hb
    rw [List.getD_eq_getElem?_getD, List.getD_eq_getElem?_getD, List.getElem?_eq_getElem h1, List.getElem?_eq_getElem h2] at hb
    exact hb
  · have hp : 2 ^ 8 ≤ 2 ^ t := Nat.pow_le_pow_right (by decide) ht
    rw [Nat.testBit_lt_two_pow (Nat.lt_of_lt_of_le (h.lt _ (List.getElem_mem h1)) hp), Nat.testBit_lt_two_pow (Nat.lt_of_lt_of_le (k.lt _ (List.getElem_mem h2)) hp)]
theorem Bt.zero : Bt (List.replicate 128 0) (fun _ => false) := ⟨by simp, fun x hx => by rw [List.eq_of_mem_replicate hx]; decide, fun i hi => by
  unfold hasB
  rw [List.getD_eq_getElem?_getD, List.getElem?_replicate, if_pos (by omega)]
  simp⟩
theorem Bt.self (h1 : r.length = 128) (h2 : ∀ x ∈ r, x < 256) : Bt r (hasB r) := ⟨h1, h2, fun _ _ => rfl⟩
end

/-- of T's homes just those are taken in r -/
def Rep (r : List Nat) (T : List Bool) : Prop := Bt r (fun i => T.getD i false)
section
variable {r r' : List Nat} {T : List Bool}
theorem getD_setT (T : List Bool) (i j : Nat) (b : Bool) (hi : i < T.length) : (T.set i b).getD j false = if j = i then b else T.getD j false := by
  rw [List.getD_eq_getElem?_getD, List.getD_eq_getElem?_getD, List.getElem?_set]
  by_cases h : i = j
  · rw [if_pos h, if_pos h.symm, if_pos (by omega)]; rfl
  · rw [if_neg h, if_neg (Ne.symm h)]
theorem Rep.put (h : Rep r T) {i : Nat} (hi : i < T.length) (hT : T.length ≤ 1024) : Rep (putB r i) (T.set i true) :=
  (Bt.put h (show i < 1024 by omega)).congr fun j _ => by
    show _ = (T.set i true).getD j false
    rw [getD_setT _ _ _ _ hi]
    by_cases e : j = i <;> simp [e]
theorem Rep.drop (h : Rep r T) {i : Nat} (hi : i < T.length) (hT : T.length ≤ 1024) : Rep (dropB r i) (T.set i false) :=
  (Bt.drop h (show i < 1024 by omega)).congr fun j _ => by
    show _ = (T.set i false).getD j false
    rw [getD_setT _ _ _ _ hi]
    by_cases e : j = i <;> simp [e]
theorem Rep.inj (h : Rep r T) (k : Rep r' T) : r = r' := Bt.inj h k
theorem getD_rep (n i : Nat) : (List.replicate n false).getD i false = false := by
  rw [List.getD_eq_getElem?_getD, List.getElem?_replicate]
  split <;> rfl
theorem Rep.zero (n : Nat) : Rep (List.replicate 128 0) (List.replicate n false) := Bt.zero.congr fun i _ => (getD_rep n i).symm
theorem getD_at {T : List Bool} {i : Nat} (h : i < T.length) : T.getD i false = T[i] := by
  rw [List.getD_eq_getElem?_getD, List.getElem?_eq_getElem h]; rfl
theorem Rep.has (h : Rep r T) {i : Nat} (hi : i < T.length) (hT : T.length ≤ 1024) : hasB r i = T.getD i false := Bt.bit h i (by omega)
end

/-! The calls. -/
def leastT (T : List Bool) : Nat := T.findIdx (! ·)
def takeT (T : List Bool) : List Bool := T.set (leastT T) true
def takeI (T : List Bool) : Int := if leastT T < T.length then (leastT T : Int) else -1
def takeE (T : List Bool) : Int := if leastT T < T.length then 0 else 8
def hereT (T : List Bool) (i : Int) : Prop := 0 ≤ i ∧ i < (T.length : Int)
instance (T : List Bool) (i : Int) : Decidable (hereT T i) := by unfold hereT; infer_instance
def hasT (T : List Bool) (i : Int) : Bool := decide (hereT T i) && T.getD i.toNat false
def holdE (T : List Bool) (i : Int) : Int := if hereT T i then (if T.getD i.toNat false then 10 else 0) else 2
def holdT (T : List Bool) (i : Int) : List Bool := if hereT T i then T.set i.toNat true else T
def giveE (T : List Bool) (i : Int) : Int := if hereT T i then (if T.getD i.toNat false then 0 else 11) else 2
def giveT (T : List Bool) (i : Int) : List Bool := if hereT T i then T.set i.toNat false else T
def freeT (T : List Bool) : Nat := T.count false

theorem takeT_length (T : List Bool) : (takeT T).length = T.length := by simp [takeT]
theorem holdT_length (T : List Bool) (i : Int) : (holdT T i).length = T.length := by unfold holdT; split <;> simp
theorem giveT_length (T : List Bool) (i : Int) : (giveT T i).length = T.length := by unfold giveT; split <;> simp
theorem least_at {T : List Bool} {k : Nat} (hk : k < T.length) (h : T.getD k false = false) (hl : ∀ j, j < k → T.getD j false = true) : leastT T = k := by
  unfold leastT
  rw [List.findIdx_eq hk]
  rw [getD_at hk] at h
  refine ⟨by rw [h]; rfl, fun j hj => ?_⟩
  have := hl j hj
  rw [getD_at (by omega)] at this
  rw [this]; rfl
theorem least_none {T : List Bool} (h : ∀ j, j < T.length → T.getD j false = true) : leastT T = T.length := by
  unfold leastT
  rw [List.findIdx_eq_length]
  intro x hx
  obtain ⟨j, hj, rfl⟩ := List.getElem_of_mem hx
  have := h j hj
  rw [getD_at hj] at this
  rw [this]; rfl
theorem set_none {T : List Bool} (h : leastT T = T.length) : takeT T = T := by
  unfold takeT
  rw [h, List.set_eq_of_length_le (Nat.le_refl _)]
theorem set_same {T : List Bool} {i : Nat} {b : Bool} (h : T.getD i false = b) (hi : i < T.length) : T.set i b = T := by
  apply List.ext_getElem (by simp)
  intro j h1 h2
  rw [List.getElem_set]
  split
  · rename_i e
    subst e
    rw [← h, getD_at hi]
  · rfl
theorem count_step {T : List Bool} {k : Nat} (hk : k < T.length) : (T.take (k + 1)).count false = (T.take k).count false + if T.getD k false = false then 1 else 0 := by
  rw [List.take_succ_eq_append_getElem hk, List.count_append, getD_at hk]
  cases T[k] <;> simp
theorem free_le (T : List Bool) : freeT T ≤ T.length := List.count_le_length

/-! What bytes are. -/
def noneB (l : List Nat) (n : Nat) : Prop := ∀ j, n ≤ j → j < 1024 → hasB l j = false
def loadT (l : List Nat) (n : Nat) : List Bool := (List.range n).map (hasB l)
def loadOk (l : List Nat) (n : Int) : Prop := 1 ≤ n ∧ n ≤ 1024 ∧ l.length = 128 ∧ noneB l n.toNat
theorem loadT_length (l : List Nat) (n : Nat) : (loadT l n).length = n := by simp [loadT]
theorem loadT_at (l : List Nat) (n j : Nat) (h : j < n) : (loadT l n).getD j false = hasB l j := by
  rw [List.getD_eq_getElem?_getD]
  unfold loadT
  rw [List.getElem?_map, List.getElem?_range h]
  rfl
theorem loadT_out (l : List Nat) (n j : Nat) (h : n ≤ j) : (loadT l n).getD j false = false := by
  rw [List.getD_eq_getElem?_getD, List.getElem?_eq_none (by rw [loadT_length]; exact h)]
  rfl
theorem rep_loadT {l : List Nat} {n : Nat} (h1 : l.length = 128) (h2 : ∀ x ∈ l, x < 256) (h : noneB l n) : Rep l (loadT l n) :=
  (Bt.self h1 h2).congr fun j hj => by
    show hasB l j = (loadT l n).getD j false
    rcases Nat.lt_or_ge j n with h3 | h3
    · rw [loadT_at l n j h3]
    · rw [loadT_out l n j h3]; exact h j h3 hj
/-- behind the homes' bits are dropped nothing is left, just where no bit stands behind them -/
theorem behind_zero {l r : List Nat} {n : Nat} (hr : Bt r (fun j => decide (n ≤ j) && hasB l j)) : r = List.replicate 128 0 ↔ noneB l n := by
  constructor
  · intro e j h1 h2
    have h := hr.bit j h2
    rw [e, Bt.zero.bit j h2, decide_eq_true h1] at h
    exact h.symm
  · intro h
    refine hr.inj (Bt.zero.congr fun j hj => ?_)
    by_cases h1 : n ≤ j
    · rw [decide_eq_true h1, h j h1 hj]; rfl
    · rw [decide_eq_false h1]; rfl
end Go.Proofs.Ytekafclhddhnpaa
