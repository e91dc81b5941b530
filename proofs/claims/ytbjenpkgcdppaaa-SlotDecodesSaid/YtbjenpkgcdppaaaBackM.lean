/- Plain facts: what was put is got. -/
import Derived.Test.YtbjenpkgcdppaaaFew
import Derived.Test.YtbjenpkgcdppaaaText
import Derived.Test.YtbjenpkgcdppaaaRText
namespace Go.Proofs.Ytbjenpkgcdppaaa

theorem snocInd {α : Type} {motive : List α → Prop} (nil : motive []) (append_singleton : ∀ l a, motive l → motive (l ++ [a])) (l : List α) : motive l := by
  have h : ∀ m : List α, motive m.reverse := by
    intro m
    induction m with
    | nil => exact nil
    | cons a m ih => rw [List.reverse_cons]; exact append_singleton _ _ ih
  have := h l.reverse
  rwa [List.reverse_reverse] at this

def Do.fits (d : Do) : Prop := d.kind = 0 → 0 ≤ d.n ∧ d.n ≤ 64 ∧ d.x < 2 ^ d.n.toNat
def Do.bits (d : Do) : Nat := if d.kind = 0 then d.n.toNat else 16 + 8 * d.s.size
def Do.num (d : Do) : Nat := if d.kind = 0 then d.x else tx d.s.size d.s.data.toList
def numOf (l : List Do) : Nat := l.foldl (fun a d => a * 2 ^ d.bits + d.num) 0
def lenOf (l : List Do) : Nat := l.foldl (fun a d => a + d.bits) 0

theorem numOf_snoc (l : List Do) (d : Do) : numOf (l ++ [d]) = numOf l * 2 ^ d.bits + d.num := by simp [numOf]
theorem lenOf_snoc (l : List Do) (d : Do) : lenOf (l ++ [d]) = lenOf l + d.bits := by simp [lenOf]

theorem tx_eq (N : Nat) (l : List UInt8) : tx N l = N * 2 ^ (8 * l.length) + tx 0 l := by
  induction l using snocInd generalizing N with
  | nil => simp [tx]
  | append_singleton l c ih =>
    rw [tx_snoc, tx_snoc, ih, List.length_append, List.length_singleton, Nat.mul_add, Nat.pow_add, Nat.add_mul, Nat.mul_assoc, Nat.add_assoc]
theorem tx_lt (l : List UInt8) : tx 0 l < 2 ^ (8 * l.length) := by
  induction l using snocInd with
  | nil => simp [tx]
  | append_singleton l c ih =>
    rw [tx_snoc, List.length_append, List.length_singleton, Nat.mul_add, Nat.pow_add]
    have := c.toNat_lt
    omega
theorem tx_put (N : Nat) (s : ByteArray) : tx (N * 65536 + s.size) s.data.toList = N * 2 ^ (16 + 8 * s.size) + tx s.size s.data.toList := by
  have hl : s.data.toList.length = s.size := by simp
  rw [tx_eq, tx_eq s.size, hl, Nat.pow_add, Nat.add_mul, Nat.mul_assoc, Nat.add_assoc]
theorem tx_size_lt (s : ByteArray) (h : s.size ≤ 65535) : tx s.size s.data.toList < 2 ^ (16 + 8 * s.size) := by
  have hl : s.data.toList.length = s.size := by simp
  have h1 := tx_lt s.data.toList
  rw [tx_eq, hl, Nat.pow_add]
  rw [hl] at h1
  calc s.size * 2 ^ (8 * s.size) + tx 0 s.data.toList < s.size * 2 ^ (8 * s.size) + 2 ^ (8 * s.size) := by omega
    _ = (s.size + 1) * 2 ^ (8 * s.size) := by rw [Nat.add_mul, Nat.one_mul]
    _ ≤ 2 ^ 16 * 2 ^ (8 * s.size) := Nat.mul_le_mul_right _ (by omega)

theorem num_lt (d : Do) (hf : d.fits) (hs : d.s.size ≤ 65535) : d.num < 2 ^ d.bits := by
  unfold Do.num Do.bits
  split
  · exact (hf ‹_›).2.2
  · exact tx_size_lt _ hs

/-- All behind l1: so many bits, a number below. -/
theorem numOf_append (l1 l2 : List Do) (h : ∀ d ∈ l2, d.fits ∧ d.s.size ≤ 65535) : ∃ r m, r < 2 ^ m ∧ numOf (l1 ++ l2) = numOf l1 * 2 ^ m + r ∧ lenOf (l1 ++ l2) = lenOf l1 + m := by
  induction l2 using snocInd with
  | nil => exact ⟨0, 0, by simp, by simp, by simp⟩
  | append_singleton l2 d ih =>
    obtain ⟨r, m, hr, h1, h2⟩ := ih (fun x hx => h x (by simp [hx]))
    have hd := h d (by simp)
    refine ⟨r * 2 ^ d.bits + d.num, m + d.bits, put_lt _ _ _ _ hr (num_lt d hd.1 hd.2), ?_, ?_⟩
    · rw [← List.append_assoc, numOf_snoc, h1, Nat.add_mul, Nat.pow_add, Nat.mul_assoc, Nat.add_assoc]
    · rw [← List.append_assoc, lenOf_snoc, h2, Nat.add_assoc]

theorem bitsAt_mid (N v k r m pd q V a T : Nat) (hr : r < 2 ^ m) (hv : v < 2 ^ k) (hT : 8 * q = T + pd) (ha : T = a + k + m) (hV : V = ((N * 2 ^ k + v) * 2 ^ m + r) * 2 ^ pd) : bitsAt q V a k = v := by
  unfold bitsAt
  rw [show 8 * q - a - k = m + pd from by omega, hV, Nat.pow_add, Nat.mul_comm (2 ^ m) (2 ^ pd), ← Nat.div_div_eq_div_mul, Nat.mul_div_cancel _ (Nat.two_pow_pos _), Nat.add_comm, Nat.add_mul_div_right _ _ (Nat.two_pow_pos _), Nat.div_eq_of_lt hr, Nat.zero_add, Nat.add_comm, Nat.add_mul_mod_self_right, Nat.mod_eq_of_lt hv]

/-- What stands at an item's place is its number. -/
theorem item_at (l : List Do) (j : Nat) (hj : j < l.length) (h : ∀ d ∈ l, d.fits ∧ d.s.size ≤ 65535) :
    bitsAt (qn (lenOf l)) (numOf l * 2 ^ pad (lenOf l)) (lenOf (l.take j)) (l[j].bits) = l[j].num ∧ lenOf (l.take j) + l[j].bits ≤ 8 * qn (lenOf l) := by
  have hsp : l = l.take j ++ [l[j]] ++ l.drop (j + 1) := by
    rw [List.append_assoc, List.singleton_append, List.getElem_cons_drop, List.take_append_drop]
  obtain ⟨r, m, hr, h1, h2⟩ := numOf_append (l.take j ++ [l[j]]) (l.drop (j + 1)) (fun d hd => h d (List.mem_of_mem_drop hd))
  rw [← hsp, numOf_snoc] at h1
  rw [← hsp, lenOf_snoc] at h2
  have hd := h l[j] (List.getElem_mem _)
  have hq := qn_pad (lenOf l)
  exact ⟨bitsAt_mid (numOf (l.take j)) l[j].num l[j].bits r m (pad (lenOf l)) _ _ _ (lenOf l) hr (num_lt _ hd.1 hd.2) hq h2 (by rw [h1]), by omega⟩

/-- of a text's bits the first 16 are its length, the others its bytes -/
theorem text_at (q V a : Nat) (s : ByteArray) (hb : bitsAt q V a (16 + 8 * s.size) = tx s.size s.data.toList) (hle : a + (16 + 8 * s.size) ≤ 8 * q) :
    bitsAt q V a 16 = s.size ∧ bitsAt q V (a + 16) (8 * s.size) = tx 0 s.data.toList := by
  have hl : s.data.toList.length = s.size := by simp
  have h1 := bitsAt_split q V a 16 (8 * s.size) (by omega)
  rw [hb, tx_eq, hl] at h1
  have h2 := tx_lt s.data.toList
  rw [hl] at h2
  have h3 := bitsAt_lt q V (a + 16) (8 * s.size)
  generalize 2 ^ (8 * s.size) = P at *
  generalize bitsAt q V a 16 = A at *
  generalize bitsAt q V (a + 16) (8 * s.size) = B at *
  generalize tx 0 s.data.toList = C at *
  have e1 : (s.size * P + C) / P = s.size := by rw [Nat.add_comm, Nat.add_mul_div_right _ _ (by omega), Nat.div_eq_of_lt h2, Nat.zero_add]
  have e2 : (A * P + B) / P = A := by rw [Nat.add_comm, Nat.add_mul_div_right _ _ (by omega), Nat.div_eq_of_lt h3, Nat.zero_add]
  have e3 : A = s.size := by rw [← e1, ← e2, h1]
  subst e3
  exact ⟨rfl, by omega⟩

theorem bytes_at (q V p : Nat) (l : List UInt8) (hb : bitsAt q V p (8 * l.length) = tx 0 l) (hle : p + 8 * l.length ≤ 8 * q) : bytesAt q V p l.length = l := by
  induction l using snocInd with
  | nil => simp [bytesAt]
  | append_singleton l c ih =>
    rw [List.length_append, List.length_singleton] at hb hle ⊢
    rw [Nat.mul_add, Nat.mul_one, bitsAt_split q V p (8 * l.length) 8 (by omega), tx_snoc] at hb
    have h1 := bitsAt_lt q V (p + 8 * l.length) 8
    have h2 := c.toNat_lt
    have e1 : bitsAt q V p (8 * l.length) = tx 0 l := by omega
    have e2 : bitsAt q V (p + 8 * l.length) 8 = c.toNat := by omega
    have e3 : bytesAt q V p (l.length + 1) = bytesAt q V p l.length ++ [byteAt q V (p + 8 * l.length)] := by simp [bytesAt, List.range_succ]
    rw [e3, ih e1 (by omega)]
    congr 2
    exact UInt8.toNat_inj.1 (by rw [byteAt_toNat, e2])
theorem text_back (q V a : Nat) (s : ByteArray) (hb : bitsAt q V a (16 + 8 * s.size) = tx s.size s.data.toList) (hle : a + (16 + 8 * s.size) ≤ 8 * q) :
    bitsAt q V a 16 = s.size ∧ (⟨(bytesAt q V (a + 16) s.size).toArray⟩ : ByteArray) = s := by
  have hl : s.data.toList.length = s.size := by simp
  obtain ⟨h1, h2⟩ := text_at q V a s hb hle
  refine ⟨h1, ?_⟩
  have h3 := bytes_at q V (a + 16) s.data.toList (by rw [hl]; exact h2) (by rw [hl]; omega)
  rw [hl] at h3
  rw [h3]
theorem all_read (l : List Do) : endOf (qn (lenOf l)) (numOf l * 2 ^ pad (lenOf l)) (lenOf l) = 0 := by
  have h := qn_pad (lenOf l)
  have hp := pad_lt (lenOf l)
  unfold endOf
  rw [show 8 * qn (lenOf l) - lenOf l = pad (lenOf l) from by omega, if_pos ⟨hp, Nat.mul_mod_left _ _⟩]
end Go.Proofs.Ytbjenpkgcdppaaa
