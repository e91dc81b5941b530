/- Slots: their parts, the sector that one has, the one that bytes are. -/
import Derived.Test.YtbjenpkgcdppaaaInM
import Derived.Test.YtbjenpkgcdppaaaBackM
namespace Go.Proofs.Ytbjenpkgcdppaaa
open Go.ChangeShapes Go.WideShapes Go.ChangeAt Go.RowKit

structure Slt where
  u : Bool
  i : Int
  g : Int
  a : Int
  v : Nat
  d : Bool
  s : ByteArray
instance : DecidableEq Slt := fun x y => decidable_of_iff (x.u = y.u ∧ x.i = y.i ∧ x.g = y.g ∧ x.a = y.a ∧ x.v = y.v ∧ x.d = y.d ∧ x.s = y.s) ⟨fun h => by cases x; cases y; simp_all, fun h => by subst h; exact ⟨rfl, rfl, rfl, rfl, rfl, rfl, rfl⟩⟩
/-- a slot's cells -/
def tc (x : Slt) : Array Value := #[.bool x.u, .int .i64 x.i, .int .i64 x.g, .int .i64 x.a, .int .u64 (x.v : Int), .bool x.d, .string x.s]
def zeroT : Slt := ⟨false, 0, 0, 0, 0, false, ⟨#[]⟩⟩
def okT (x : Slt) : Prop := x.u = true ∧ (0 < x.i ∧ x.i < 41) ∧ (0 ≤ x.g ∧ x.g ≤ 2147483647) ∧ (0 ≤ x.a ∧ x.a < 8) ∧ x.v ≤ 1099511627775 ∧ x.s.size ≤ 64
instance (x : Slt) : Decidable (okT x) := by unfold okT; exact inferInstance
def isT (x : Slt) : Prop := x = zeroT ∨ okT x
instance (x : Slt) : Decidable (isT x) := by unfold isT; exact inferInstance
/-- the number of a slot's first 82 bits -/
def hdT (x : Slt) : Nat := (((((0 * 2 ^ 1 + 1) * 2 ^ 1 + x.d.toNat) * 2 ^ 6 + u64n x.i) * 2 ^ 31 + u64n x.g) * 2 ^ 3 + u64n x.a) * 2 ^ 40 + x.v
def nmT (x : Slt) : Nat := tx (hdT x * 65536 + x.s.size) x.s.data.toList
def secT (x : Slt) : List Nat := if x = zeroT then List.replicate 128 0 else be 128 (nmT x * 2 ^ (926 - 8 * x.s.size))
/-- numbers as wide as they are -/
structure WfT (x : Slt) : Prop where
  i : -9223372036854775808 ≤ x.i ∧ x.i < 9223372036854775808
  g : -9223372036854775808 ≤ x.g ∧ x.g < 9223372036854775808
  a : -9223372036854775808 ≤ x.a ∧ x.a < 9223372036854775808
  v : x.v < 18446744073709551616
  s : x.s.size ≤ 1000
theorem okT_ne {x : Slt} (h : okT x) : x ≠ zeroT := fun e => by rw [e] at h; exact absurd h.1 (by decide)
theorem okT_bits {x : Slt} (h : okT x) : u64n x.i < 64 ∧ u64n x.g < 2147483648 ∧ u64n x.a < 8 ∧ x.v < 1099511627776 ∧ ((u64n x.i : Nat) : Int) = x.i ∧ ((u64n x.g : Nat) : Int) = x.g ∧ ((u64n x.a : Nat) : Int) = x.a := by
  obtain ⟨_, h1, h2, h3, h4, _⟩ := h
  unfold u64n
  refine ⟨?_, ?_, ?_, ?_, ?_, ?_, ?_⟩ <;> omega
/-- what the program asks, in a writer's words -/
theorem okT_iff {x : Slt} (hw : WfT x) (hu : x.u = true) (hi : 0 < x.i ∧ x.i < 41) (hs : x.s.size ≤ 64) :
    okT x ↔ (((((True ∧ 1 < 2 ^ 1) ∧ x.d.toNat < 2 ^ 1) ∧ u64n x.i < 2 ^ 6) ∧ u64n x.g < 2 ^ 31) ∧ u64n x.a < 2 ^ 3) ∧ x.v < 2 ^ 40 := by
  have hg := hw.g
  have ha := hw.a
  have hd : x.d.toNat < 2 := by cases x.d <;> decide
  have e1 : u64n x.g < 2 ^ 31 ↔ 0 ≤ x.g ∧ x.g ≤ 2147483647 := by unfold u64n; omega
  have e2 : u64n x.a < 2 ^ 3 ↔ 0 ≤ x.a ∧ x.a < 8 := by unfold u64n; omega
  have e3 : u64n x.i < 2 ^ 6 := by unfold u64n; omega
  unfold okT
  constructor
  · rintro ⟨_, _, h2, h3, h4, _⟩
    exact ⟨⟨⟨⟨⟨⟨trivial, by decide⟩, hd⟩, e3⟩, e1.mpr h2⟩, e2.mpr h3⟩, by omega⟩
  · rintro ⟨⟨⟨⟨_, _⟩, h2⟩, h3⟩, h4⟩
    exact ⟨hu, hi, e1.mp h2, e2.mp h3, by omega, hs⟩
theorem secT_length (x : Slt) : (secT x).length = 128 := by
  unfold secT
  split
  · simp
  · exact be_length _ _
theorem secT_lt (x : Slt) : ∀ y ∈ secT x, y < 256 := by
  unfold secT
  split
  · intro y hy; rw [List.mem_replicate] at hy; omega
  · exact be_lt _ _
theorem secT_ne {x : Slt} (h : x ≠ zeroT) : secT x = be 128 (nmT x * 2 ^ (926 - 8 * x.s.size)) := if_neg h
theorem secT_zero : secT zeroT = List.replicate 128 0 := if_pos rfl
theorem qnT (n : Nat) : qn (82 + 16 + 8 * n) = 13 + n := by unfold qn; omega
theorem padT (n : Nat) : pad (82 + 16 + 8 * n) = 6 := by unfold pad; omega
theorem row_secT {x : Slt} (h : x ≠ zeroT) (hs : x.s.size ≤ 64) : rowOf (nmT x) (82 + 16 + 8 * x.s.size) ++ List.replicate (115 - x.s.size) 0 = secT x := by
  obtain ⟨k, hk⟩ : ∃ k, 115 = x.s.size + k := ⟨115 - x.s.size, by omega⟩
  have e1 : (2 : Nat) ^ 6 * 256 ^ k = 2 ^ (926 - 8 * x.s.size) := pw256 6 k _ (by omega)
  have e2 := be_noughts (13 + x.s.size) (nmT x * 2 ^ 6) k
  rw [Nat.mul_assoc, e1] at e2
  unfold rowOf
  rw [secT_ne h, qnT, padT, show 115 - x.s.size = k by omega, ← e2, show 13 + x.s.size + k = 128 by omega]
/-- the first 82 bits, and the text behind them -/
theorem nmT_eq (x : Slt) : nmT x = hdT x * 2 ^ (16 + 8 * x.s.size) + tx x.s.size x.s.data.toList := tx_put _ _
theorem head_bits {x : Slt} (hs : x.s.size ≤ 64) (a n t : Nat) (ht : a + n + t = 82) : bitsAt 128 (nmT x * 2 ^ (926 - 8 * x.s.size)) a n = hdT x / 2 ^ t % 2 ^ n := by
  have hlt := tx_size_lt x.s (by omega)
  unfold bitsAt
  rw [show 8 * 128 - a - n = (926 - 8 * x.s.size) + ((16 + 8 * x.s.size) + t) by omega, shift_any, Nat.pow_add, ← Nat.div_div_eq_div_mul, nmT_eq, Nat.mul_comm (hdT x), Nat.mul_add_div (Nat.two_pow_pos _), Nat.div_eq_of_lt hlt, Nat.add_zero]
theorem text_bits {x : Slt} (hs : x.s.size ≤ 64) : bitsAt 128 (nmT x * 2 ^ (926 - 8 * x.s.size)) 82 16 = x.s.size ∧ (⟨(bytesAt 128 (nmT x * 2 ^ (926 - 8 * x.s.size)) 98 x.s.size).toArray⟩ : ByteArray) = x.s := by
  have hlt := tx_size_lt x.s (by omega)
  refine text_back 128 _ 82 x.s (bitsAt_mid (hdT x) _ (16 + 8 * x.s.size) 0 0 (926 - 8 * x.s.size) 128 _ 82 (98 + 8 * x.s.size) (by decide) hlt (by omega) (by omega) ?_) (by omega)
  rw [nmT_eq, Nat.pow_zero, Nat.mul_one, Nat.add_zero]
/-- what stands where a slot's parts do -/
def prT (V : Nat) : Slt := ⟨((bitsAt 128 V 0 1 : Nat) : Int) != 0, (bitsAt 128 V 2 6 : Nat), (bitsAt 128 V 8 31 : Nat), (bitsAt 128 V 39 3 : Nat), bitsAt 128 V 42 40, ((bitsAt 128 V 1 1 : Nat) : Int) != 0, if 98 + 8 * bitsAt 128 V 82 16 ≤ 1024 then ⟨(bytesAt 128 V 98 (bitsAt 128 V 82 16)).toArray⟩ else ⟨#[]⟩⟩
theorem prT_wf (V : Nat) : WfT (prT V) := by
  have h1 := bitsAt_lt 128 V 2 6
  have h2 := bitsAt_lt 128 V 8 31
  have h3 := bitsAt_lt 128 V 39 3
  have h4 := bitsAt_lt 128 V 42 40
  refine ⟨?_, ?_, ?_, ?_, ?_⟩
  · show _ ≤ ((bitsAt 128 V 2 6 : Nat) : Int) ∧ ((bitsAt 128 V 2 6 : Nat) : Int) < _; omega
  · show _ ≤ ((bitsAt 128 V 8 31 : Nat) : Int) ∧ ((bitsAt 128 V 8 31 : Nat) : Int) < _; omega
  · show _ ≤ ((bitsAt 128 V 39 3 : Nat) : Int) ∧ ((bitsAt 128 V 39 3 : Nat) : Int) < _; omega
  · show bitsAt 128 V 42 40 < _; omega
  · show (if 98 + 8 * bitsAt 128 V 82 16 ≤ 1024 then (⟨(bytesAt 128 V 98 (bitsAt 128 V 82 16)).toArray⟩ : ByteArray) else ⟨#[]⟩).size ≤ 1000
    split
    · show (bytesAt 128 V 98 (bitsAt 128 V 82 16)).toArray.size ≤ 1000
      rw [List.size_toArray, bytesAt_length]
      omega
    · exact Nat.zero_le _
theorem bits_nought (q a n : Nat) : bitsAt q 0 a n = 0 := by unfold bitsAt; rw [Nat.zero_div, Nat.zero_mod]
theorem prT_zero : prT 0 = zeroT := by
  unfold prT
  simp only [bits_nought]
  rfl
theorem byN_noughts : ∀ n, byN (List.replicate n 0) = 0
  | 0 => rfl
  | n + 1 => by rw [List.replicate_succ', byN_snoc, byN_noughts n]
theorem hdT_parts {x : Slt} (h : okT x) : hdT x / 2 ^ 81 % 2 ^ 1 = 1 ∧ hdT x / 2 ^ 80 % 2 ^ 1 = x.d.toNat ∧ hdT x / 2 ^ 74 % 2 ^ 6 = u64n x.i ∧ hdT x / 2 ^ 43 % 2 ^ 31 = u64n x.g ∧ hdT x / 2 ^ 40 % 2 ^ 3 = u64n x.a ∧ hdT x / 2 ^ 0 % 2 ^ 40 = x.v ∧ hdT x < 2 ^ 82 := by
  obtain ⟨h1, h2, h3, h4, _⟩ := okT_bits h
  have h5 : x.d.toNat < 2 := by cases x.d <;> decide
  unfold hdT
  obtain ⟨d, hd⟩ : ∃ d, d = x.d.toNat := ⟨_, rfl⟩
  obtain ⟨i, hi⟩ : ∃ d, d = u64n x.i := ⟨_, rfl⟩
  obtain ⟨g, hg⟩ : ∃ d, d = u64n x.g := ⟨_, rfl⟩
  obtain ⟨a, ha⟩ : ∃ d, d = u64n x.a := ⟨_, rfl⟩
  obtain ⟨v, hv⟩ : ∃ d, d = x.v := ⟨_, rfl⟩
  rw [← hd] at h5 ⊢
  rw [← hi] at h1 ⊢
  rw [← hg] at h2 ⊢
  rw [← ha] at h3 ⊢
  rw [← hv] at h4 ⊢
  clear hd hi hg ha hv h
  refine ⟨?_, ?_, ?_, ?_, ?_, ?_, ?_⟩ <;> omega
theorem nmT_lt {x : Slt} (h : okT x) : nmT x * 2 ^ (926 - 8 * x.s.size) < 256 ^ 128 := by
  have hs : x.s.size ≤ 64 := h.2.2.2.2.2
  have hlt := tx_size_lt x.s (by omega)
  have hh := (hdT_parts h).2.2.2.2.2.2
  have e := nmT_eq x
  obtain ⟨M, hM⟩ : ∃ M, M = 16 + 8 * x.s.size := ⟨_, rfl⟩
  rw [← hM] at hlt e
  have : nmT x < 2 ^ (82 + M) := by
    rw [e, Nat.pow_add 2 82 M]
    have h1 := Nat.mul_le_mul_right (2 ^ M) hh
    rw [Nat.succ_mul] at h1
    omega
  refine Nat.lt_of_lt_of_eq ?_ (pw256' (82 + M) 128 (926 - 8 * x.s.size) (by omega)).symm
  exact Nat.mul_lt_mul_of_pos_right this (Nat.two_pow_pos _)
theorem byN_secT {x : Slt} (h : okT x) : byN (secT x) = nmT x * 2 ^ (926 - 8 * x.s.size) := by
  rw [secT_ne (okT_ne h)]
  exact byN_be _ _ (nmT_lt h)
theorem size_bits {x : Slt} (h : isT x) : bitsAt 128 (byN (secT x)) 82 16 = x.s.size := by
  rcases h with rfl | h
  · rw [secT_zero, byN_noughts, bits_nought]; rfl
  · rw [byN_secT h]
    exact (text_bits h.2.2.2.2.2).1
theorem prT_back {x : Slt} (h : isT x) : prT (byN (secT x)) = x := by
  rcases h with rfl | h
  · rw [secT_zero, byN_noughts, prT_zero]
  · have hs : x.s.size ≤ 64 := h.2.2.2.2.2
    have hu : x.u = true := h.1
    have hb := okT_bits h
    obtain ⟨p1, p2, p3, p4, p5, p6, _⟩ := hdT_parts h
    obtain ⟨t1, t2⟩ := text_bits hs
    rw [byN_secT h]
    unfold prT
    rw [t1, head_bits hs 0 1 81 rfl, head_bits hs 1 1 80 rfl, head_bits hs 2 6 74 rfl, head_bits hs 8 31 43 rfl, head_bits hs 39 3 40 rfl, head_bits hs 42 40 0 rfl, p1, p2, p3, p4, p5, p6, if_pos (by omega), t2, hb.2.2.2.2.1, hb.2.2.2.2.2.1, hb.2.2.2.2.2.2]
    clear p1 p2 p3 p4 p5 p6 t1 t2 hs hb h
    obtain ⟨u, i, g, a, v, d, s⟩ := x
    simp only at hu
    subst hu
    cases d <;> rfl
def decT (l : List Nat) : Option Slt := if l.length = 128 ∧ isT (prT (byN l)) ∧ secT (prT (byN l)) = l then some (prT (byN l)) else none
theorem decT_back {x : Slt} (h : isT x) : decT (secT x) = some x := by
  unfold decT
  rw [prT_back h, if_pos ⟨secT_length x, h, rfl⟩]
theorem decT_some {l : List Nat} {y : Slt} (h : decT l = some y) : isT y ∧ secT y = l := by
  unfold decT at h
  split at h
  · next hc =>
    obtain rfl := Option.some.inj h
    exact ⟨hc.2.1, hc.2.2⟩
  · cases h
theorem decT_len {l : List Nat} (h : l.length ≠ 128) : decT l = none := if_neg (fun k => h k.1)
/-- a text that is too long for a sector is no slot's -/
theorem decT_long {l : List Nat} (h : 1024 < 98 + 8 * bitsAt 128 (byN l) 82 16) : decT l = none := by
  refine if_neg fun k => ?_
  have e := size_bits k.2.1
  rw [k.2.2] at e
  have h2 : (prT (byN l)).s.size = 0 := by
    show (if 98 + 8 * bitsAt 128 (byN l) 82 16 ≤ 1024 then (⟨(bytesAt 128 (byN l) 98 (bitsAt 128 (byN l) 82 16)).toArray⟩ : ByteArray) else ⟨#[]⟩).size = 0
    rw [if_neg (by omega)]
    rfl
  omega
/-- the slot that bytes are, or the zero one; and the error -/
def dT (l : List Nat) : Slt := (decT l).getD zeroT
def eT (l : List Nat) : Int := if (decT l).isSome = true then 0 else 4
theorem dT_no {l : List Nat} (h : decT l = none) : dT l = zeroT ∧ eT l = 4 := by unfold dT eT; rw [h]; exact ⟨rfl, rfl⟩
theorem dT_yes {l : List Nat} {x : Slt} (h : decT l = some x) : dT l = x ∧ eT l = 0 := by unfold dT eT; rw [h]; exact ⟨rfl, rfl⟩
theorem zeroT_wf : WfT zeroT := ⟨by decide, by decide, by decide, by decide, by decide⟩
theorem dT_wf (l : List Nat) : WfT (dT l) := by
  unfold dT decT
  split
  · exact prT_wf _
  · exact zeroT_wf
end Go.Proofs.Ytbjenpkgcdppaaa
