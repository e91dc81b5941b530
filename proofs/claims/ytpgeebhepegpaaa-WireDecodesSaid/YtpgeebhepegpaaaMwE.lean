/- Slots: their parts, the sector that one has, the one that bytes are. Slots: cells, two of them held against each other; the program's Free, mayKeep, flag. A block of bytes as a slice. A slot's sector: the program's. The program's bytes of a message: what it lays. The program's bytes of a message: entries, fields. What stands where a slot's parts do: the program's parts, Decode. -/
import Derived.Test.YtpgeebhepegpaaaInM
import Derived.Test.YtpgeebhepegpaaaMwA
import Derived.Test.YtpgeebhepegpaaaDone
import Derived.Test.YtpgeebhepegpaaaKop
import Derived.DeepKeys
import Derived.Test.YtpgeebhepegpaaaBase
import Derived.Test.YtpgeebhepegpaaaInP
import Derived.Deep.QuietTactic
import Derived.BigQuiet
import Derived.Deep.RegionHeld3
import Derived.Deep.RegionWith
import Derived.Deep.DeepCutAuto
import Derived.Test.YtpgeebhepegpaaaMwC
import Derived.Test.YtpgeebhepegpaaaMwB
import Derived.Test.YtpgeebhepegpaaaDrE
import Derived.Test.YtpgeebhepegpaaaMsC
import Derived.Test.YtpgeebhepegpaaaRText
import Derived.Test.YtpgeebhepegpaaaItx
namespace Go.Proofs.Ytpgeebhepegpaaa
open Go.ChangeShapes Go.WideShapes Go.ChangeAt Go.RowKit

structure Slt where
  u : Bool
  i : Int
  g : Int
  a : Int
  v : Nat
  d : Bool
  s : ByteArray
instance : DecidableEq Slt := fun x y => decidable_of_iff (x.u = y.u ∧ x.i = y.i ∧ x.g = y.g ∧ x.a = y.a ∧ x.v = y.v ∧ x.d = y.d ∧ x.s = y.s) ⟨fun h => by cases x; cases y; simp_all, fun h => by subst h; exact ⟨rfl, rfl, rfl, rfl, rfl, rfl, rfl⟩⟩
/-- a slot's cells -/
def tc (x : Slt) : Array Value := #[.bool x.u, .int .i64 x.i, .int .i64 x.g, .int .i64 x.a, .int .u64 (x.v : Int), .bool x.d, .string x.s]
def zeroT : Slt := ⟨false, 0, 0, 0, 0, false, ⟨#[]⟩⟩
def okT (x : Slt) : Prop := x.u = true ∧ (0 < x.i ∧ x.i < 41) ∧ (0 ≤ x.g ∧ x.g ≤ 2147483647) ∧ (0 ≤ x.a ∧ x.a < 8) ∧ x.v ≤ 1099511627775 ∧ x.s.size ≤ 64
instance (x : Slt) : Decidable (okT x) := by unfold okT; exact inferInstance
def isT (x : Slt) : Prop := x = zeroT ∨ okT x
instance (x : Slt) : Decidable (isT x) := by unfold isT; exact inferInstance
/-- the number of a slot's first 82 bits -/
def hdT (x : Slt) : Nat := (((((0 * 2 ^ 1 + 1) * 2 ^ 1 + x.d.toNat) * 2 ^ 6 + u64n x.i) * 2 ^ 31 + u64n x.g) * 2 ^ 3 + u64n x.a) * 2 ^ 40 + x.v
def nmT (x : Slt) : Nat := tx (hdT x * 65536 + x.s.size) x.s.data.toList
def secT (x : Slt) : List Nat := if x = zeroT then List.replicate 128 0 else be 128 (nmT x * 2 ^ (926 - 8 * x.s.size))
/-- numbers as wide as they are -/
structure WfT (x : Slt) : Prop where
  i : -9223372036854775808 ≤ x.i ∧ x.i < 9223372036854775808
  g : -9223372036854775808 ≤ x.g ∧ x.g < 9223372036854775808
  a : -9223372036854775808 ≤ x.a ∧ x.a < 9223372036854775808
  v : x.v < 18446744073709551616
  s : x.s.size ≤ 1000
theorem okT_ne {x : Slt} (h : okT x) : x ≠ zeroT := fun e => by rw [e] at h; exact absurd h.1 (by decide)
theorem okT_bits {x : Slt} (h : okT x) : u64n x.i < 64 ∧ u64n x.g < 2147483648 ∧ u64n x.a < 8 ∧ x.v < 1099511627776 ∧ ((u64n x.i : Nat) : Int) = x.i ∧ ((u64n x.g : Nat) : Int) = x.g ∧ ((u64n x.a : Nat) : Int) = x.a := by
  obtain ⟨_, h1, h2, h3, h4, _⟩ := h
  unfold u64n
  refine ⟨?_, ?_, ?_, ?_, ?_, ?_, ?_⟩ <;> omega
/-- what the program asks, in a writer's words -/
theorem okT_iff {x : Slt} (hw : WfT x) (hu : x.u = true) (hi : 0 < x.i ∧ x.i < 41) (hs : x.s.size ≤ 64) :
    okT x ↔ (((((True ∧ 1 < 2 ^ 1) ∧ x.d.toNat < 2 ^ 1) ∧ u64n x.i < 2 ^ 6) ∧ u64n x.g < 2 ^ 31) ∧ u64n x.a < 2 ^ 3) ∧ x.v < 2 ^ 40 := by
  have hg := hw.g
  have ha := hw.a
  have hd : x.d.toNat < 2 := by cases x.d <;> decide
  have e1 : u64n x.g < 2 ^ 31 ↔ 0 ≤ x.g ∧ x.g ≤ 2147483647 := by unfold u64n; omega
  have e2 : u64n x.a < 2 ^ 3 ↔ 0 ≤ x.a ∧ x.a < 8 := by unfold u64n; omega
  have e3 : u64n x.i < 2 ^ 6 := by unfold u64n; omega
  unfold okT
  constructor
  · rintro ⟨_, _, h2, h3, h4, _⟩
    exact ⟨⟨⟨⟨⟨⟨trivial, by decide⟩, hd⟩, e3⟩, e1.mpr h2⟩, e2.mpr h3⟩, by omega⟩
  · rintro ⟨⟨⟨⟨_, _⟩, h2⟩, h3⟩, h4⟩
    exact ⟨hu, hi, e1.mp h2, e2.mp h3, by omega, hs⟩
theorem secT_length (x : Slt) : (secT x).length = 128 := by
  unfold secT
  split
  · simp
  · exact be_length _ _
theorem secT_lt (x : Slt) : ∀ y ∈ secT x, y < 256 := by
  unfold secT
  split
  · intro y hy; rw [List.mem_replicate] at hy; omega
  · exact be_lt _ _
theorem secT_ne {x : Slt} (h : x ≠ zeroT) : secT x = be 128 (nmT x * 2 ^ (926 - 8 * x.s.size)) := if_neg h
theorem secT_zero : secT zeroT = List.replicate 128 0 := if_pos rfl
theorem qnT (n : Nat) : qn (82 + 16 + 8 * n) = 13 + n := by unfold qn; omega
theorem padT (n : Nat) : pad (82 + 16 + 8 * n) = 6 := by unfold pad; omega
theorem row_secT {x : Slt} (h : x ≠ zeroT) (hs : x.s.size ≤ 64) : rowOf (nmT x) (82 + 16 + 8 * x.s.size) ++ List.replicate (115 - x.s.size) 0 = secT x := by
  obtain ⟨k, hk⟩ : ∃ k, 115 = x.s.size + k := ⟨115 - x.s.size, by omega⟩
  have e1 : (2 : Nat) ^ 6 * 256 ^ k = 2 ^ (926 - 8 * x.s.size) := pw256 6 k _ (by omega)
  have e2 := be_noughts (13 + x.s.size) (nmT x * 2 ^ 6) k
  rw [Nat.mul_assoc, e1] at e2
  unfold rowOf
  rw [secT_ne h, qnT, padT, show 115 - x.s.size = k by omega, ← e2, show 13 + x.s.size + k = 128 by omega]
/-- the first 82 bits, and the text behind them -/
theorem nmT_eq (x : Slt) : nmT x = hdT x * 2 ^ (16 + 8 * x.s.size) + tx x.s.size x.s.data.toList := tx_put _ _
theorem head_bits {x : Slt} (hs : x.s.size ≤ 64) (a n t : Nat) (ht : a + n + t = 82) : bitsAt 128 (nmT x * 2 ^ (926 - 8 * x.s.size)) a n = hdT x / 2 ^ t % 2 ^ n := by
  have hlt := tx_size_lt x.s (by omega)
  unfold bitsAt
  rw [show 8 * 128 - a - n = (926 - 8 * x.s.size) + ((16 + 8 * x.s.size) + t) by omega, shift_any, Nat.pow_add, ← Nat.div_div_eq_div_mul, nmT_eq, Nat.mul_comm (hdT x), Nat.mul_add_div (Nat.two_pow_pos _), Nat.div_eq_of_lt hlt, Nat.add_zero]
theorem text_bits {x : Slt} (hs : x.s.size ≤ 64) : bitsAt 128 (nmT x * 2 ^ (926 - 8 * x.s.size)) 82 16 = x.s.size ∧ (⟨(bytesAt 128 (nmT x * 2 ^ (926 - 8 * x.s.size)) 98 x.s.size).toArray⟩ : ByteArray) = x.s := by
  have hlt := tx_size_lt x.s (by omega)
  refine text_back 128 _ 82 x.s (bitsAt_mid (hdT x) _ (16 + 8 * x.s.size) 0 0 (926 - 8 * x.s.size) 128 _ 82 (98 + 8 * x.s.size) (by decide) hlt (by omega) (by omega) ?_) (by omega)
  rw [nmT_eq, Nat.pow_zero, Nat.mul_one, Nat.add_zero]
/-- what stands where a slot's parts do -/
def prT (V : Nat) : Slt := ⟨((bitsAt 128 V 0 1 : Nat) : Int) != 0, (bitsAt 128 V 2 6 : Nat), (bitsAt 128 V 8 31 : Nat), (bitsAt 128 V 39 3 : Nat), bitsAt 128 V 42 40, ((bitsAt 128 V 1 1 : Nat) : Int) != 0, if 98 + 8 * bitsAt 128 V 82 16 ≤ 1024 then ⟨(bytesAt 128 V 98 (bitsAt 128 V 82 16)).toArray⟩ else ⟨#[]⟩⟩
theorem prT_wf (V : Nat) : WfT (prT V) := by
  have h1 := bitsAt_lt 128 V 2 6
  have h2 := bitsAt_lt 128 V 8 31
  have h3 := bitsAt_lt 128 V 39 3
  have h4 := bitsAt_lt 128 V 42 40
  refine ⟨?_, ?_, ?_, ?_, ?_⟩
  · show _ ≤ ((bitsAt 128 V 2 6 : Nat) : Int) ∧ ((bitsAt 128 V 2 6 : Nat) : Int) < _; omega
  · show _ ≤ ((bitsAt 128 V 8 31 : Nat) : Int) ∧ ((bitsAt 128 V 8 31 : Nat) : Int) < _; omega
  · show _ ≤ ((bitsAt 128 V 39 3 : Nat) : Int) ∧ ((bitsAt 128 V 39 3 : Nat) : Int) < _; omega
  · show bitsAt 128 V 42 40 < _; omega
  · show (if 98 + 8 * bitsAt 128 V 82 16 ≤ 1024 then (⟨(bytesAt 128 V 98 (bitsAt 128 V 82 16)).toArray⟩ : ByteArray) else ⟨#[]⟩).size ≤ 1000
    split
    · show (bytesAt 128 V 98 (bitsAt 128 V 82 16)).toArray.size ≤ 1000
      rw [List.size_toArray, bytesAt_length]
      omega
    · exact Nat.zero_le _
theorem bits_nought (q a n : Nat) : bitsAt q 0 a n = 0 := by unfold bitsAt; rw [Nat.zero_div, Nat.zero_mod]
theorem prT_zero : prT 0 = zeroT := by
  unfold prT
  simp only [bits_nought]
  rfl
theorem byN_noughts : ∀ n, byN (List.replicate n 0) = 0
  | 0 => rfl
  | n + 1 => by rw [List.replicate_succ', byN_snoc, byN_noughts n]
theorem hdT_parts {x : Slt} (h : okT x) : hdT x / 2 ^ 81 % 2 ^ 1 = 1 ∧ hdT x / 2 ^ 80 % 2 ^ 1 = x.d.toNat ∧ hdT x / 2 ^ 74 % 2 ^ 6 = u64n x.i ∧ hdT x / 2 ^ 43 % 2 ^ 31 = u64n x.g ∧ hdT x / 2 ^ 40 % 2 ^ 3 = u64n x.a ∧ hdT x / 2 ^ 0 % 2 ^ 40 = x.v ∧ hdT x < 2 ^ 82 := by
  obtain ⟨h1, h2, h3, h4, _⟩ := okT_bits h
  have h5 : x.d.toNat < 2 := by cases x.d <;> decide
  unfold hdT
  obtain ⟨d, hd⟩ : ∃ d, d = x.d.toNat := ⟨_, rfl⟩
  obtain ⟨i, hi⟩ : ∃ d, d = u64n x.i := ⟨_, rfl⟩
  obtain ⟨g, hg⟩ : ∃ d, d = u64n x.g := ⟨_, rfl⟩
  obtain ⟨a, ha⟩ : ∃ d, d = u64n x.a := ⟨_, rfl⟩
  obtain ⟨v, hv⟩ : ∃ d, d = x.v := ⟨_, rfl⟩
  rw [← hd] at h5 ⊢
  rw [← hi] at h1 ⊢
  rw [← hg] at h2 ⊢
  rw [← ha] at h3 ⊢
  rw [← hv] at h4 ⊢
  clear hd hi hg ha hv h
  refine ⟨?_, ?_, ?_, ?_, ?_, ?_, ?_⟩ <;> omega
theorem nmT_lt {x : Slt} (h : okT x) : nmT x * 2 ^ (926 - 8 * x.s.size) < 256 ^ 128 := by
  have hs : x.s.size ≤ 64 := h.2.2.2.2.2
  have hlt := tx_size_lt x.s (by omega)
  have hh := (hdT_parts h).2.2.2.2.2.2
  have e := nmT_eq x
  obtain ⟨M, hM⟩ : ∃ M, M = 16 + 8 * x.s.size := ⟨_, rfl⟩
  rw [← hM] at hlt e
  have : nmT x < 2 ^ (82 + M) := by
    rw [e, Nat.pow_add 2 82 M]
    have h1 := Nat.mul_le_mul_right (2 ^ M) hh
    rw [Nat.succ_mul] at h1
    omega
  refine Nat.lt_of_lt_of_eq ?_ (pw256' (82 + M) 128 (926 - 8 * x.s.size) (by omega)).symm
  exact Nat.mul_lt_mul_of_pos_right this (Nat.two_pow_pos _)
theorem byN_secT {x : Slt} (h : okT x) : byN (secT x) = nmT x * 2 ^ (926 - 8 * x.s.size) := by
  rw [secT_ne (okT_ne h)]
  exact byN_be _ _ (nmT_lt h)
theorem size_bits {x : Slt} (h : isT x) : bitsAt 128 (byN (secT x)) 82 16 = x.s.size := by
  rcases h with rfl | h
  · rw [secT_zero, byN_noughts, bits_nought]; rfl
  · rw [byN_secT h]
    exact (text_bits h.2.2.2.2.2).1
theorem prT_back {x : Slt} (h : isT x) : prT (byN (secT x)) = x := by
  rcases h with rfl | h
  · rw [secT_zero, byN_noughts, prT_zero]
  · have hs : x.s.size ≤ 64 := h.2.2.2.2.2
    have hu : x.u = true := h.1
    have hb := okT_bits h
    obtain ⟨p1, p2, p3, p4, p5, p6, _⟩ := hdT_parts h
    obtain ⟨t1, t2⟩ := text_bits hs
    rw [byN_secT h]
    unfold prT
    rw [t1, head_bits hs 0 1 81 rfl, head_bits hs 1 1 80 rfl, head_bits hs 2 6 74 rfl, head_bits hs 8 31 43 rfl, head_bits hs 39 3 40 rfl, head_bits hs 42 40 0 rfl, p1, p2, p3, p4, p5, p6, if_pos (by omega), t2, hb.2.2.2.2.1, hb.2.2.2.2.2.1, hb.2.2.2.2.2.2]
    clear p1 p2 p3 p4 p5 p6 t1 t2 hs hb h
    obtain ⟨u, i, g, a, v, d, s⟩ := x
    simp only at hu
    subst hu
    cases d <;> rfl
def decSl (l : List Nat) : Option Slt := if l.length = 128 ∧ isT (prT (byN l)) ∧ secT (prT (byN l)) = l then some (prT (byN l)) else none
theorem decSl_back {x : Slt} (h : isT x) : decSl (secT x) = some x := by
  unfold decSl
  rw [prT_back h, if_pos ⟨secT_length x, h, rfl⟩]
theorem decSl_some {l : List Nat} {y : Slt} (h : decSl l = some y) : isT y ∧ secT y = l := by
  unfold decSl at h
  split at h
  · next hc =>
    obtain rfl := Option.some.inj h
    exact ⟨hc.2.1, hc.2.2⟩
  · cases h
theorem decSl_len {l : List Nat} (h : l.length ≠ 128) : decSl l = none := if_neg (fun k => h k.1)
/-- a text that is too long for a sector is no slot's -/
theorem decSl_long {l : List Nat} (h : 1024 < 98 + 8 * bitsAt 128 (byN l) 82 16) : decSl l = none := by
  refine if_neg fun k => ?_
  have e := size_bits k.2.1
  rw [k.2.2] at e
  have h2 : (prT (byN l)).s.size = 0 := by
    show (if 98 + 8 * bitsAt 128 (byN l) 82 16 ≤ 1024 then (⟨(bytesAt 128 (byN l) 98 (bitsAt 128 (byN l) 82 16)).toArray⟩ : ByteArray) else ⟨#[]⟩).size = 0
    rw [if_neg (by omega)]
    rfl
  omega
/-- the slot that bytes are, or the zero one; and the error -/
def dT (l : List Nat) : Slt := (decSl l).getD zeroT
def eT (l : List Nat) : Int := if (decSl l).isSome = true then 0 else 4
theorem dT_no {l : List Nat} (h : decSl l = none) : dT l = zeroT ∧ eT l = 4 := by unfold dT eT; rw [h]; exact ⟨rfl, rfl⟩
theorem dT_yes {l : List Nat} {x : Slt} (h : decSl l = some x) : dT l = x ∧ eT l = 0 := by unfold dT eT; rw [h]; exact ⟨rfl, rfl⟩
theorem zeroT_wf : WfT zeroT := ⟨by decide, by decide, by decide, by decide, by decide⟩
theorem dT_wf (l : List Nat) : WfT (dT l) := by
  unfold dT decSl
  split
  · exact prT_wf _
  · exact zeroT_wf
end Go.Proofs.Ytpgeebhepegpaaa
namespace Go.Proofs.Ytpgeebhepegpaaa
open Go.ChangeShapes Go.WideShapes Go.ChangeAt Go.RowKit

/-- the cells of a slot in a block -/
structure C7 (w : World) (y : Nat) (x : Slt) : Prop where
  all : w.cell? ⟨y, 0, none⟩ = some (.bool x.u) ∧ w.cell? ⟨y, 1, none⟩ = some (.int .i64 x.i) ∧ w.cell? ⟨y, 2, none⟩ = some (.int .i64 x.g) ∧ w.cell? ⟨y, 3, none⟩ = some (.int .i64 x.a) ∧ w.cell? ⟨y, 4, none⟩ = some (.int .u64 (x.v : Int)) ∧ w.cell? ⟨y, 5, none⟩ = some (.bool x.d) ∧ w.cell? ⟨y, 6, none⟩ = some (.string x.s)
set_option maxRecDepth 3000 in
theorem Blk.c7 {w : World} {y : Nat} {t : TypeId} {x : Slt} (h : Blk w y t (tc x)) : C7 w y x :=
  ⟨h.cell 0, h.cell 1, h.cell 2, h.cell 3, h.cell 4, h.cell 5, h.cell 6⟩
set_option maxRecDepth 3000 in
theorem tc_one (x : Slt) : (tc x).all (·.oneCell') = true := by simp [tc, Value.oneCell']
set_option maxRecDepth 3000 in
theorem tc_size (x : Slt) : (tc x).size = 7 := rfl
set_option maxRecDepth 3000 in
theorem tc_inj {x y : Slt} (h : tc x = tc y) : x = y := by
  obtain ⟨u, i, g, a, v, d, s⟩ := x
  obtain ⟨u', i', g', a', v', d', s'⟩ := y
  simp [tc] at h
  obtain ⟨rfl, rfl, rfl, rfl, h, rfl, rfl⟩ := h
  obtain rfl : v = v' := by omega
  rfl
/-- a slot's parts as plain letters -/
def lits (x : Slt) : List Lit := [.bool x.u, .int .i64 x.i, .int .i64 x.g, .int .i64 x.a, .int .u64 (x.v : Int), .bool x.d, .string x.s.data.toList]
set_option maxRecDepth 3000 in
theorem lits_inj {x y : Slt} (h : lits x = lits y) : x = y := by
  obtain ⟨u, i, g, a, v, d, s⟩ := x
  obtain ⟨u', i', g', a', v', d', s'⟩ := y
  simp [lits] at h
  obtain ⟨rfl, rfl, rfl, rfl, h, rfl, h2⟩ := h
  obtain rfl : v = v' := by omega
  obtain rfl : s = s' := ByteArray.ext h2
  rfl
set_option maxRecDepth 3000 in
theorem cellsF_ : Try.prog.cellsOf 25 = 2 := by kernel_rfl
set_option maxRecDepth 3000 in
theorem cellsI_ : Try.prog.cellsOf 3 = 1 := by kernel_rfl
set_option maxRecDepth 3000 in
theorem cellsO_ : Try.prog.cellsOf 4 = 1 := by kernel_rfl
set_option maxRecDepth 3000 in
theorem cellsU_ : Try.prog.cellsOf 22 = 1 := by kernel_rfl
set_option maxRecDepth 3000 in
theorem cellsS_ : Try.prog.cellsOf 9 = 1 := by kernel_rfl
set_option maxRecDepth 3000 in
theorem tkey_bool (d : Nat) (b : Bool) : Try.prog.keyLits (d + 1) 4 [.bool b] = some [.bool b] := by
  unfold Program.keyLits
  rw [Try.underlying4]
set_option maxRecDepth 3000 in
theorem tkey_int (d : Nat) (z : Int) (h : (Lit.int .i64 z).wf = true) : Try.prog.keyLits (d + 1) 3 [.int .i64 z] = some [.int .i64 z] := by
  unfold Program.keyLits
  rw [Try.underlying3]
  simp [h]
set_option maxRecDepth 3000 in
theorem tkey_u64 (d : Nat) (z : Int) (h : (Lit.int .u64 z).wf = true) : Try.prog.keyLits (d + 1) 22 [.int .u64 z] = some [.int .u64 z] := by
  unfold Program.keyLits
  rw [Try.underlying22]
  simp [h]
set_option maxRecDepth 3000 in
theorem tkey_str (d : Nat) (s : ByteArray) (h : s.size ≤ maxLen) : Try.prog.keyLits (d + 1) 9 [.string s] = some [.string s.data.toList] := by
  unfold Program.keyLits
  rw [Try.underlying9]
  simp [h]
set_option maxRecDepth 3000 in
theorem twf_i64 {z : Int} (h : -9223372036854775808 ≤ z ∧ z < 9223372036854775808) : (Lit.int .i64 z).wf = true := by
  simp [Lit.wf, IntKind.min, IntKind.max, IntKind.signed, IntKind.bits]; omega
set_option maxRecDepth 3000 in
theorem twf_u64 {z : Nat} (h : z < 18446744073709551616) : (Lit.int .u64 (z : Int)).wf = true := by
  simp [Lit.wf, IntKind.min, IntKind.max, IntKind.signed, IntKind.bits]; omega
set_option maxRecDepth 3000 in
theorem tkey_file (d : Nat) (i g : Int) (h1 : (Lit.int .i64 i).wf = true) (h2 : (Lit.int .i64 g).wf = true) : Try.prog.keyLits (d + 2) 25 [.int .i64 i, .int .i64 g] = some [.int .i64 i, .int .i64 g] := by
  unfold Program.keyLits
  rw [Try.underlying25]
  simp [cellsF_, cellsI_, tkey_int d _ h1, tkey_int d _ h2]
set_option maxRecDepth 3000 in
theorem eq_slots {t : TypeId} (hk : Try.prog.keyTypeAt 4 t = true) (x y : Slt) (fx : (Value.agg (tc x)).formed Try.prog t = true) (fy : (Value.agg (tc y)).formed Try.prog t = true) (kx : Try.prog.keyLits 5 t (tc x).toList = some (lits x)) (ky : Try.prog.keyLits 5 t (tc y).toList = some (lits y)) :
    ∀ w, (Op.equalIn 10000 t (.agg (tc x)) (.agg (tc y))).run Try.prog w = .ok (decide (x = y)) w := by
  intro w
  obtain ⟨c, h1, h2⟩ := run_equalIn_deep (P := Try.prog) 9996 4 t hk w 5 5 (.agg (tc x)) (.agg (tc y)) _ _ fx fy kx ky
  rw [h1]
  congr 1
  by_cases e : x = y
  · rw [decide_eq_true e, h2.2 (by rw [e])]
  · rw [decide_eq_false e]
    cases c
    · rfl
    · exact absurd (lits_inj (h2.1 rfl)) e
set_option maxRecDepth 3000 in
theorem kop_zero {t : TypeId} {C : Array Value} {ops : Array Oper} {rest : List Oper} {o : Oper} {a : Act} {w : World} {Q : Exit → Act → World → Prop} (hb : Try.prog.built t [] = some C) (hgd : o.guard = none) (ho : o.op = .build t #[])
    (h : wpList Try.prog ops Q rest (a.put o.dst (.agg C)) w) : wpList Try.prog ops Q (o :: rest) a w := by
  refine wpList_build hgd t #[] ho (by simp [hb]) ?_
  simpa [hb] using h
set_option maxRecDepth 3000 in
theorem kop_eqs {t ty : TypeId} {C D : Array Value} {c : Bool} {ops : Array Oper} {rest : List Oper} {o : Oper} {a : Act} {w : World} {Q : Exit → Act → World → Prop} (hE : ∀ w, (Op.equalIn 10000 t (.agg C) (.agg D)).run Try.prog w = .ok c w) (hg : Try.prog.eqGuardType Try.prog.depth t = false) (hgd : o.guard = none) (x y : Operand) (ho : o.op = .binOp .eql t x y ty) (hx : a.eval x = .agg C) (hy : a.eval y = .agg D)
    (h : wpList Try.prog ops Q rest (a.put o.dst (.bool c)) w) : wpList Try.prog ops Q (o :: rest) a w := by
  refine wpList_plain hgd fun K hK => ?_
  have h1 := run_eqGuard_agg (P := Try.prog) w .eql t x y C D hg
  have h2 := run_eql_struct (P := Try.prog) w t C D
  rw [hE] at h2
  unfold Oper.wp execOp
  simp only [ho, hx, hy, Sem.run_bind, Sem.run_pure, Result.andThen_ok, h1, h2]
  exact hK _ _ h
set_option maxRecDepth 3000 in
theorem kop_neqs {t ty : TypeId} {C D : Array Value} {c : Bool} {ops : Array Oper} {rest : List Oper} {o : Oper} {a : Act} {w : World} {Q : Exit → Act → World → Prop} (hE : ∀ w, (Op.equalIn 10000 t (.agg C) (.agg D)).run Try.prog w = .ok c w) (hg : Try.prog.eqGuardType Try.prog.depth t = false) (hgd : o.guard = none) (x y : Operand) (ho : o.op = .binOp .neq t x y ty) (hx : a.eval x = .agg C) (hy : a.eval y = .agg D)
    (h : wpList Try.prog ops Q rest (a.put o.dst (.bool (!c))) w) : wpList Try.prog ops Q (o :: rest) a w := by
  refine wpList_plain hgd fun K hK => ?_
  have h1 := run_eqGuard_agg (P := Try.prog) w .neq t x y C D hg
  have h2 := run_neq_struct (P := Try.prog) w t C D
  rw [hE] at h2
  unfold Oper.wp execOp
  simp only [ho, hx, hy, Sem.run_bind, Sem.run_pure, Result.andThen_ok, h1, h2]
  exact hK _ _ h
set_option maxRecDepth 3000 in
theorem kyl_eqs {t ty : TypeId} {C D : Array Value} {c : Bool} {ops : Array Oper} {S : World → Prop} {o : Oper} {a : Act} (hE : ∀ w, (Op.equalIn 10000 t (.agg C) (.agg D)).run Try.prog w = .ok c w) (hg : Try.prog.eqGuardType Try.prog.depth t = false) (hw : Region.wanted o (yielded ops a.tmps) = true) (x y : Operand) (ho : o.op = .binOp .eql t x y ty) (hx : a.eval x = .agg C) (hy : a.eval y = .agg D) : YieldsIf Try.prog ops S o (.bool c) a := .inl ⟨hw, fun w _ => by
  have h1 := run_eqGuard_agg (P := Try.prog) w .eql t x y C D hg
  have h2 := run_eql_struct (P := Try.prog) w t C D
  rw [hE] at h2
  unfold execOp
  simp only [ho, hx, hy, Sem.run_bind, Sem.run_pure, Result.andThen_ok, h1, h2]⟩
set_option maxRecDepth 3000 in
theorem kyl_neqs {t ty : TypeId} {C D : Array Value} {c : Bool} {ops : Array Oper} {S : World → Prop} {o : Oper} {a : Act} (hE : ∀ w, (Op.equalIn 10000 t (.agg C) (.agg D)).run Try.prog w = .ok c w) (hg : Try.prog.eqGuardType Try.prog.depth t = false) (hw : Region.wanted o (yielded ops a.tmps) = true) (x y : Operand) (ho : o.op = .binOp .neq t x y ty) (hx : a.eval x = .agg C) (hy : a.eval y = .agg D) : YieldsIf Try.prog ops S o (.bool (!c)) a := .inl ⟨hw, fun w _ => by
  have h1 := run_eqGuard_agg (P := Try.prog) w .neq t x y C D hg
  have h2 := run_neq_struct (P := Try.prog) w t C D
  rw [hE] at h2
  unfold execOp
  simp only [ho, hx, hy, Sem.run_bind, Sem.run_pure, Result.andThen_ok, h1, h2]⟩
set_option maxRecDepth 3000 in
theorem kyl_zero {t : TypeId} {C : Array Value} {ops : Array Oper} {S : World → Prop} {o : Oper} {a : Act} (hb : Try.prog.built t [] = some C) (hw : Region.wanted o (yielded ops a.tmps) = true) (ho : o.op = .build t #[]) : YieldsIf Try.prog ops S o (.agg C) a := .inl ⟨hw, fun w _ => by
  unfold execOp
  rw [ho]
  simp [run_build, hb, Result.andThen]⟩
def kpT (x : Slt) : Prop := x.u = true ∧ (0 < x.i ∧ x.i < 41) ∧ x.s.size ≤ 64
instance (x : Slt) : Decidable (kpT x) := by unfold kpT; exact inferInstance
end Go.Proofs.Ytpgeebhepegpaaa
namespace Go.Proofs.Ytpgeebhepegpaaa
open Go.RowKit

theorem Blk.sl8 {w : World} {z : Nat} {t : TypeId} {l : List Nat} (h : Blk w z t (l.map u8).toArray) (hl : l.length = 128) : Sl w (fun k => k = z) t 1 (.slice (some ⟨z, 0, none⟩) 128 128) 128 (l.map u8) :=
  ⟨⟨by simp [hl], .inr ⟨z, 128, _, rfl, Nat.zero_le _, h, Nat.le_refl _, by decide, by simp [hl], by simp; rw [← hl, ← List.map_take, List.take_length]⟩⟩, fun k hk => by
    have : z = k := by simpa [Value.ownBlock] using hk
    exact this.symm, fun k hk => by rw [hk]; exact h.lt⟩
end Go.Proofs.Ytpgeebhepegpaaa
namespace Go.Proofs.Ytpgeebhepegpaaa
open Go.ChangeShapes Go.WideShapes Go.ChangeAt Go.RowKit

set_option maxRecDepth 3000 in
theorem WP.text {V w : World} {F : Nat → Prop} {b N m : Nat} {ok : Prop} (h : WP V F b ok N m w) (s : ByteArray) (hs : s.size ≤ 65535) (hm : m + 16 + 8 * s.size ≤ 1000000000) :
    Calls Try.prog 70 #[.pointer (some ⟨b, 0, none⟩), .string s] w fun e w' => ∃ F', e = .returned (.pointer (some ⟨b, 0, none⟩)) ∧ WP V F' b ok (tx (N * 65536 + s.size) s.data.toList) (m + 16 + 8 * s.size) w' := by
  rcases h.ws with ⟨h1, h2, h3⟩ | ⟨h1, h2⟩
  · refine (text_ok b N m s F w h2 h3 hs hm).mono ?_
    rintro e w' ⟨rfl, F', k1, k2, k3⟩
    exact ⟨F', rfl, .inl ⟨h1, k1, k3⟩, h.ad.trans k2⟩
  · refine (text_err b s F w h2).mono ?_
    rintro e w' ⟨rfl, rfl⟩
    exact ⟨F, rfl, .inr ⟨h1, h2⟩, h.ad⟩
set_option maxRecDepth 3000 in
theorem tmade_128 (w : World) : (Instr.makeSlice 38 (.int .i64 128) (.int .i64 128)).run Try.prog w = .ok (.slice (some ⟨w.heap.size, 0, none⟩) 128 128) (w.alloc (.cells ((List.replicate 128 0).map u8).toArray 5)) := by
  obtain ⟨ie, hie, hz, hs, hb⟩ := info_parts Try.infoU8
  have h := run_make (P := Try.prog) w 38 5 ie _ Try.underlying38 hie hz .i64 .i64 128 128 (by omega) (Int.le_refl _) (by rw [hb]; omega) (by omega)
  rw [hs] at h
  rw [show madeCells (Value.int .u8 0).cells (Int.toNat 128 * 1) = ((List.replicate 128 0).map u8).toArray from by kernel_rfl] at h
  exact h
/-- a slot's sector in new memory, or none -/
def EncT (w : World) (x : Slt) (e : Ending) (w' : World) : Prop :=
  ∃ A m k F, e = .returned (.tuple #[.slice A m k, .int .i64 (if isT x then 0 else 2)]) ∧ Adv Nul w F w' ∧ (isT x → m = 128 ∧ Sl w' F 5 1 (.slice A 128 k) 128 ((secT x).map u8)) ∧ (¬ isT x → A = none ∧ m = 0 ∧ k = 0)
set_option maxRecDepth 3000 in
theorem EncT.no {w w' : World} {x : Slt} (h : ¬ isT x) (ha : Adv Nul w Nul w') : EncT w x (.returned (.tuple #[.slice none 0 0, .int .i64 2])) w' :=
  ⟨none, 0, 0, Nul, by rw [if_neg h], ha, fun o => absurd o h, fun _ => ⟨rfl, rfl, rfl⟩⟩
set_option maxRecDepth 3000 in
theorem EncT.yes {w w' : World} {x : Slt} {F : Nat → Prop} {A : Option Addr} {k : Nat} (h : isT x) (hs : Sl w' F 5 1 (.slice A 128 k) 128 ((secT x).map u8)) (ha : Adv Nul w F w') : EncT w x (.returned (.tuple #[.slice A 128 k, .int .i64 0])) w' :=
  ⟨A, 128, k, F, by rw [if_pos h], ha, fun _ => ⟨rfl, hs⟩, fun o => absurd h o⟩
set_option maxRecDepth 3000 in
theorem grown_nt {w w2 w3 : World} {F : Nat → Prop} {g cap n m : Nat} {v' : Value} {xs ys : List Value} (hS : Sl w2 F 5 1 (.slice (some ⟨g, 0, none⟩) n cap) n xs) (ha : Adv Nul w F w2) (hown : w3.ownsRow 0 5 1 v' m ys) (hg : w2.grownBy w3 (some g)) (hat : v'.ownBlock = some g ∨ v'.ownBlock = some w2.heap.size) :
    Sl w3 (fun j => F j ∨ v'.ownBlock = some j) 5 1 v' m ys ∧ Adv Nul w (fun j => F j ∨ v'.ownBlock = some j) w3 := by
  obtain ⟨h1, _, h3⟩ := own_grown (v := .slice (some ⟨g, 0, none⟩) n cap) hS ha hown hg hat (Nat.le_refl _)
  exact ⟨h1, h3⟩
end Go.Proofs.Ytpgeebhepegpaaa
namespace Go.Proofs.Ytpgeebhepegpaaa
open Go.ChangeShapes Go.WideShapes Go.ChangeAt Go.RowKit

/-- a writer since W: these items -/
def WJ (W : World) (F0 F : Nat → Prop) (b : Nat) (A : List Do) (w : World) : Prop := WL W F0 F b (numOf A) (lenOf A) w
section
variable {W w w' : World} {F0 F F' : Nat → Prop} {b : Nat} {A B : List Do}
set_option maxRecDepth 3000 in
theorem WJ.over (h : WJ W F0 F b A w) (ha : Adv Nul w F' w') : WJ W F0 F b A w' := WL.over h ha
set_option maxRecDepth 3000 in
theorem WJ.self (h : WJ W F0 F b A w) : WJ w F F b A w := ⟨h.ws, Adv.refl _ _, h.bd⟩
set_option maxRecDepth 3000 in
theorem WJ.trans (h : WJ W F0 F b A w) (k : WJ w F F' b B w') : WJ W F0 F' b B w' := ⟨k.ws, h.ad.trans k.ad, k.bd⟩
set_option maxRecDepth 3000 in
theorem WJ.it (h : WJ W F0 F b A w) (x n : Nat) (hn : n ≤ 64) (hx : x < 2 ^ n) (hm : lenOf A ≤ 1000000) :
    Calls Try.prog 68 #[.pointer (some ⟨b, 0, none⟩), .int .u64 (x : Int), .int .i64 (n : Int)] w fun e w' => ∃ F', e = .returned (.pointer (some ⟨b, 0, none⟩)) ∧ WJ W F0 F' b (A ++ [itD n x]) w' := by
  refine (WL.put h x n hn hx (by omega) _ rfl).mono ?_
  rintro e w' ⟨F', rfl, k⟩
  refine ⟨F', rfl, ?_⟩
  unfold WJ
  rw [(wit_items _ _ _).1, (wit_items _ _ _).2]
  exact k
set_option maxRecDepth 3000 in
theorem WJ.tx (h : WJ W F0 F b A w) (s : ByteArray) (hs : s.size ≤ 65535) (hm : lenOf A ≤ 1000000) :
    Calls Try.prog 70 #[.pointer (some ⟨b, 0, none⟩), .string s] w fun e w' => ∃ F', e = .returned (.pointer (some ⟨b, 0, none⟩)) ∧ WJ W F0 F' b (A ++ [txD s]) w' := by
  refine (text_ok b _ _ s F w h.ws h.bd hs (by omega)).mono ?_
  rintro e w' ⟨rfl, F', k1, k2, k3⟩
  refine ⟨F', rfl, ?_⟩
  unfold WJ
  rw [(wtx_items _ _).1, (wtx_items _ _).2, ← tx_put, ← Nat.add_assoc]
  exact ⟨k1, h.ad.trans k2, k3⟩
end
set_option maxRecDepth 3000 in
set_option maxHeartbeats 1600000 in
theorem wlayfile_any (i g : Int) (h : flP i g) (b : Nat) (A : List Do) (F : Nat → Prop) (w : World) (hw : WJ w F F b A w) (hl : lenOf A ≤ 100000) :
    Calls Try.prog 69 #[.pointer (some ⟨b, 0, none⟩), .agg #[.int .i64 i, .int .i64 g]] w fun e w' => e = .returned (.tuple #[]) ∧ ∃ F', WJ w F F' b (A ++ wiF i g) w' := by
  unfold flP at h
  obtain ⟨x, hx⟩ : ∃ x, x = u64n i := ⟨_, rfl⟩
  obtain ⟨y, hy⟩ : ∃ y, y = u64n g := ⟨_, rfl⟩
  have hci : IntKind.u64.wrap i = (x : Int) := by rw [hx, wrap_u64n]
  have hcg : IntKind.u64.wrap g = (y : Int) := by rw [hy, wrap_u64n]
  have HX := Lib.hid (show x < 2 ^ 6 by rw [hx]; exact u64n_lt_of (n := 64) (by omega) (by omega) (by decide))
  have HY := Lib.hid (show y < 2 ^ 31 by rw [hy]; exact u64n_lt_of (n := 2147483648) (by omega) (by omega) (by decide))
  have HW := Lib.hid (show A ++ [itD 6 x] ++ [itD 31 y] = A ++ wiF i g by unfold wiF; rw [hx, hy]; simp)
  have HL := Lib.hid hl
  clear hx hy h hl
  obtain ⟨z, hz⟩ : ∃ z, z = w.heap.size := ⟨_, rfl⟩
  obtain ⟨U, hU⟩ : ∃ U, U = w.alloc (.cells #[.int .i64 i, .int .i64 g] 25) := ⟨_, rfl⟩
  have HB := Lib.hid (show Blk U z 25 #[.int .i64 i, .int .i64 g] by rw [hU, hz]; exact Blk.new _ _ _)
  have hzF : ¬ F z := fun h => by have := hw.bd z h; omega
  have HJ := Lib.hid (hw.over (show Adv Nul w Nul U by rw [hU]; exact (Adv.refl _ _).alloc _))
  have HJU := Lib.hid (HJ.out.self.over (Adv.refl Nul U).drew)
  have HK := Lib.hid (fun (F' : Nat → Prop) (B : List Do) (w' : World) (h : WJ U F F' b B w') => show w'.cell? ⟨z, 0, none⟩ = some (.int .i64 i) ∧ w'.cell? ⟨z, 1, none⟩ = some (.int .i64 g) from
    have e := HB.out.keep (h.ad.block z HB.out.lt hzF)
    ⟨e.cell 0, e.cell 1⟩)
  have HU := Lib.hid hU
  have HZ := Lib.hid hz
  clear hU hz hzF hw
  go_enter Try.func69, Try.ntmps69
  go_upto_region 1 with (fail)
  rw [← HU.out, ← HZ.out]
  have K0 := Lib.hid (HK.out _ _ _ HJU.out)
  refine rstart (S := (fun w' => w'.cell? ⟨z, 0, none⟩ = some (.int .i64 i) ∧ w'.cell? ⟨z, 1, none⟩ = some (.int .i64 g))) (by first | with_reducible exact K2.out | with_reducible exact K1.out | with_reducible exact K0.out) (fun hH => ?_)
  refine tk (i := 0) (oi := ⟨some 4, .move (.tmp 0), 63, "wire.go:77", #[], none⟩) hH.out (by rintro w ⟨s0, s1⟩; go_simp <;> with_reducible rfl) ?_
  simp only [Act.put, sA, sB, sC]
  refine tk (i := 1) (oi := ⟨some 5, .fieldAddr 25 (.tmp 3) 0, 0, "wire.go:77", #[], none⟩) hH.out (by rintro w ⟨s0, s1⟩; go_simp <;> with_reducible rfl) ?_
  simp only [Act.put, sA, sB, sC]
  refine tk (i := 2) (oi := ⟨some 6, .load 3 (.tmp 5), 3, "wire.go:77", #[⟨1, .data⟩], none⟩) hH.out (by rintro w ⟨s0, s1⟩; go_simp <;> with_reducible rfl) ?_
  simp only [Act.put, sA, sB, sC]
  refine tk (i := 3) (oi := ⟨some 7, .convert 3 22 (.tmp 6), 22, "wire.go:77", #[⟨2, .data⟩], none⟩) hH.out (by rintro w ⟨s0, s1⟩; go_simp <;> with_reducible rfl) ?_
  simp only [Act.put, sA, sB, sC]
  refine tk (i := 5) (oi := ⟨some 9, .fieldAddr 25 (.tmp 3) 1, 0, "wire.go:77", #[], none⟩) hH.out (by rintro w ⟨s0, s1⟩; go_simp <;> with_reducible rfl) ?_
  simp only [Act.put, sA, sB, sC]
  refine tk (i := 6) (oi := ⟨some 10, .load 3 (.tmp 9), 3, "wire.go:77", #[⟨5, .data⟩], none⟩) hH.out (by rintro w ⟨s0, s1⟩; go_simp <;> with_reducible rfl) ?_
  simp only [Act.put, sA, sB, sC]
  refine tk (i := 7) (oi := ⟨some 11, .convert 3 22 (.tmp 10), 22, "wire.go:77", #[⟨6, .data⟩], none⟩) hH.out (by rintro w ⟨s0, s1⟩; go_simp <;> with_reducible rfl) ?_
  simp only [Act.put, sA, sB, sC]
  refine rdy (i := 4) (oi := ⟨some 8, .call ⟨.value (.func 68), #[.tmp 4, .tmp 7, .const (Go.Value.int Go.IntKind.i64 6)], #[63, 22, 3]⟩, 63, "wire.go:77", #[⟨0, .data⟩, ⟨3, .data⟩], none⟩) (fun K hK => ?_)
  go_simp
  refine (HJU.out.it x 6 (by decide) HX.out (by have := HL.out; omega)).mono ?_
  rintro e w1 ⟨F1, rfl, r1⟩
  have R1 := Lib.hid r1
  have K1 := Lib.hid (HK.out _ _ _ r1)
  clear r1
  go_wp2_with fail
  refine hK.out _ _ (by first | with_reducible exact K2.out | with_reducible exact K1.out | with_reducible exact K0.out) (fun hHeld => ?_)
  replace hH := Lib.hid hHeld
  clear hK K hHeld
  try simp only [Act.put, sA, sB, sC]
  refine rdy (i := 8) (oi := ⟨some 12, .call ⟨.value (.func 68), #[.tmp 8, .tmp 11, .const (Go.Value.int Go.IntKind.i64 31)], #[63, 22, 3]⟩, 63, "wire.go:77", #[⟨4, .data⟩, ⟨7, .data⟩, ⟨4, .chain⟩], none⟩) (fun K hK => ?_)
  go_simp
  refine (R1.out.it y 31 (by decide) HY.out (by have := HL.out; rw [lenOf_app, len_it]; omega)).mono ?_
  rintro e w2 ⟨F2, rfl, r2⟩
  have R2 := Lib.hid r2
  have K2 := Lib.hid (HK.out _ _ _ r2)
  clear r2
  go_wp2_with fail
  refine hK.out _ _ (by first | with_reducible exact K2.out | with_reducible exact K1.out | with_reducible exact K0.out) (fun hHeld => ?_)
  replace hH := Lib.hid hHeld
  clear hK K hHeld
  try simp only [Act.put, sA, sB, sC]
  refine wpAnyH_done (by kernel_rfl) ?_ _
  go_wp2_with fail
  go_end0
  rw [← HW.out]
  exact ⟨rfl, F2, HJ.out.trans R2.out⟩
set_option maxRecDepth 3000 in
set_option maxHeartbeats 3200000 in
theorem wlayhead_any (m : Ms) (v : Value) (hok : OkW m) (b : Nat) (A : List Do) (F : Nat → Prop) (w : World) (hw : WJ w F F b A w) (hl : lenOf A ≤ 100000) :
    Calls Try.prog 39 #[.pointer (some ⟨b, 0, none⟩), .agg (mc m v)] w fun e w' => e = .returned (.tuple #[]) ∧ ∃ F', WJ w F F' b (A ++ wiH m) w' := by
  obtain ⟨x0, hx0⟩ : ∃ x, x = u64n m.ty := ⟨_, rfl⟩
  obtain ⟨x1, hx1⟩ : ∃ x, x = u64n m.cl := ⟨_, rfl⟩
  obtain ⟨x5, hx5⟩ : ∃ x, x = u64n m.kd := ⟨_, rfl⟩
  obtain ⟨x6, hx6⟩ : ∃ x, x = u64n m.er := ⟨_, rfl⟩
  have hc0 : IntKind.u64.wrap m.ty = (x0 : Int) := by rw [hx0, wrap_u64n]
  have hc1 : IntKind.u64.wrap m.cl = (x1 : Int) := by rw [hx1, wrap_u64n]
  have hc5 : IntKind.u64.wrap m.kd = (x5 : Int) := by rw [hx5, wrap_u64n]
  have hc6 : IntKind.u64.wrap m.er = (x6 : Int) := by rw [hx6, wrap_u64n]
  have HX := Lib.hid (show x0 < 2 ^ 2 ∧ x1 < 2 ^ 3 ∧ m.ss < 2 ^ 40 ∧ m.sq < 2 ^ 40 ∧ m.bo < 2 ^ 40 ∧ x5 < 2 ^ 4 ∧ x6 < 2 ^ 5 by rw [hx0, hx1, hx5, hx6]; exact hok.h)
  have HWH := Lib.hid (show A ++ [itD 2 x0] ++ [itD 3 x1] ++ [itD 40 m.ss] ++ [itD 40 m.sq] ++ [itD 40 m.bo] ++ [itD 4 x5] ++ [itD 5 x6] = A ++ wiH m by rw [hx0, hx1, hx5, hx6]; simp [wiH])
  clear hx0 hx1 hx5 hx6 hok
  obtain ⟨C, hC⟩ : ∃ C, C = mc m v := ⟨_, rfl⟩
  obtain ⟨z, hz⟩ : ∃ z, z = w.heap.size := ⟨_, rfl⟩
  obtain ⟨U, hU⟩ : ∃ U, U = w.alloc (.cells C 28) := ⟨_, rfl⟩
  have HB := Lib.hid (show Blk U z 28 C by rw [hU, hz]; exact Blk.new _ _ _)
  have hzF : ¬ F z := fun h => by have := hw.bd z h; omega
  have HJ := Lib.hid (hw.over (show Adv Nul w Nul U by rw [hU]; exact (Adv.refl _ _).alloc _))
  have HK := Lib.hid (fun (F' : Nat → Prop) (B : List Do) (w' : World) (h : WJ U F F' b B w') => show (w'.cell? ⟨z, 0, none⟩ = some (.int .i64 m.ty) ∧ w'.cell? ⟨z, 1, none⟩ = some (.int .i64 m.cl) ∧ w'.cell? ⟨z, 2, none⟩ = some (.int .u64 (m.ss : Int)) ∧ w'.cell? ⟨z, 3, none⟩ = some (.int .u64 (m.sq : Int)) ∧ w'.cell? ⟨z, 4, none⟩ = some (.int .u64 (m.bo : Int)) ∧ w'.cell? ⟨z, 5, none⟩ = some (.int .i64 m.kd) ∧ w'.cell? ⟨z, 6, none⟩ = some (.int .i64 m.er)) from
    (show Blk w' z 28 (mc m v) by rw [← hC]; exact HB.out.keep (h.ad.block z HB.out.lt hzF)).c18.a)
  have HL := Lib.hid (show lenOf A ≤ 100000 from hl)
  have HU := Lib.hid hU
  have HZ := Lib.hid hz
  rw [← hC]
  clear hU hz hzF hw hC hl
  go_enter Try.func39, Try.ntmps39
  go_upto_region 1 with (fail)
  rw [← HU.out, ← HZ.out]
  have J0 := Lib.hid (HJ.out.self.over (Adv.refl Nul U).drew)
  have K0 := Lib.hid (HK.out _ _ _ J0.out)
  refine rstart (S := (fun w' => w'.cell? ⟨z, 0, none⟩ = some (.int .i64 m.ty) ∧ w'.cell? ⟨z, 1, none⟩ = some (.int .i64 m.cl) ∧ w'.cell? ⟨z, 2, none⟩ = some (.int .u64 (m.ss : Int)) ∧ w'.cell? ⟨z, 3, none⟩ = some (.int .u64 (m.sq : Int)) ∧ w'.cell? ⟨z, 4, none⟩ = some (.int .u64 (m.bo : Int)) ∧ w'.cell? ⟨z, 5, none⟩ = some (.int .i64 m.kd) ∧ w'.cell? ⟨z, 6, none⟩ = some (.int .i64 m.er))) (by first | with_reducible exact K7.out | with_reducible exact K6.out | with_reducible exact K5.out | with_reducible exact K4.out | with_reducible exact K3.out | with_reducible exact K2.out | with_reducible exact K1.out | with_reducible exact K0.out) (fun hH => ?_)
  refine tk (i := 0) (oi := ⟨some 4, .move (.tmp 0), 63, "wire.go:39", #[], none⟩) hH.out (by rintro w ⟨s0, s1, s2, s3, s4, s5, s6⟩; go_simp <;> with_reducible rfl) ?_
  simp only [Act.put, sA, sB, sC]
  refine tk (i := 1) (oi := ⟨some 5, .fieldAddr 28 (.tmp 3) 0, 0, "wire.go:39", #[], none⟩) hH.out (by rintro w ⟨s0, s1, s2, s3, s4, s5, s6⟩; go_simp <;> with_reducible rfl) ?_
  simp only [Act.put, sA, sB, sC]
  refine tk (i := 2) (oi := ⟨some 6, .load 3 (.tmp 5), 3, "wire.go:39", #[⟨1, .data⟩], none⟩) hH.out (by rintro w ⟨s0, s1, s2, s3, s4, s5, s6⟩; go_simp <;> with_reducible rfl) ?_
  simp only [Act.put, sA, sB, sC]
  refine tk (i := 3) (oi := ⟨some 7, .convert 3 22 (.tmp 6), 22, "wire.go:39", #[⟨2, .data⟩], none⟩) hH.out (by rintro w ⟨s0, s1, s2, s3, s4, s5, s6⟩; go_simp <;> with_reducible rfl) ?_
  simp only [Act.put, sA, sB, sC]
  refine tk (i := 5) (oi := ⟨some 9, .fieldAddr 28 (.tmp 3) 1, 0, "wire.go:39", #[], none⟩) hH.out (by rintro w ⟨s0, s1, s2, s3, s4, s5, s6⟩; go_simp <;> with_reducible rfl) ?_
  simp only [Act.put, sA, sB, sC]
  refine tk (i := 6) (oi := ⟨some 10, .load 3 (.tmp 9), 3, "wire.go:39", #[⟨5, .data⟩], none⟩) hH.out (by rintro w ⟨s0, s1, s2, s3, s4, s5, s6⟩; go_simp <;> with_reducible rfl) ?_
  simp only [Act.put, sA, sB, sC]
  refine tk (i := 7) (oi := ⟨some 11, .convert 3 22 (.tmp 10), 22, "wire.go:39", #[⟨6, .data⟩], none⟩) hH.out (by rintro w ⟨s0, s1, s2, s3, s4, s5, s6⟩; go_simp <;> with_reducible rfl) ?_
  simp only [Act.put, sA, sB, sC]
  refine rdy (i := 4) (oi := ⟨some 8, .call ⟨.value (.func 68), #[.tmp 4, .tmp 7, .const (Go.Value.int Go.IntKind.i64 2)], #[63, 22, 3]⟩, 63, "wire.go:39", #[⟨0, .data⟩, ⟨3, .data⟩], none⟩) (fun K hK => ?_)
  go_simp
  refine (J0.out.it x0 2 (by decide) HX.out.1 (by have := HL.out; (try simp only [lenOf_app, len_it]); omega)).mono ?_
  rintro e w1 ⟨F1, rfl, r⟩
  have R1 := Lib.hid r
  have K1 := Lib.hid (HK.out _ _ _ r)
  clear r
  go_wp2_with fail
  refine hK.out _ _ (by first | with_reducible exact K7.out | with_reducible exact K6.out | with_reducible exact K5.out | with_reducible exact K4.out | with_reducible exact K3.out | with_reducible exact K2.out | with_reducible exact K1.out | with_reducible exact K0.out) (fun hHeld => ?_)
  replace hH := Lib.hid hHeld
  clear hK K hHeld
  try simp only [Act.put, sA, sB, sC]
  refine rdy (i := 8) (oi := ⟨some 12, .call ⟨.value (.func 68), #[.tmp 8, .tmp 11, .const (Go.Value.int Go.IntKind.i64 3)], #[63, 22, 3]⟩, 63, "wire.go:39", #[⟨4, .data⟩, ⟨7, .data⟩, ⟨4, .chain⟩], none⟩) (fun K hK => ?_)
  go_simp
  refine (R1.out.it x1 3 (by decide) HX.out.2.1 (by have := HL.out; (try simp only [lenOf_app, len_it]); omega)).mono ?_
  rintro e w2 ⟨F2, rfl, r⟩
  have R2 := Lib.hid r
  have K2 := Lib.hid (HK.out _ _ _ r)
  clear r
  go_wp2_with fail
  refine hK.out _ _ (by first | with_reducible exact K7.out | with_reducible exact K6.out | with_reducible exact K5.out | with_reducible exact K4.out | with_reducible exact K3.out | with_reducible exact K2.out | with_reducible exact K1.out | with_reducible exact K0.out) (fun hHeld => ?_)
  replace hH := Lib.hid hHeld
  clear hK K hHeld
  try simp only [Act.put, sA, sB, sC]
  refine wpAnyH_done (by kernel_rfl) ?_ _
  go_upto_region 2 with (fail)
  have J0 := Lib.hid (R2.out.over (Adv.refl Nul w2).drew)
  replace K0 := Lib.hid (HK.out _ _ _ J0.out)
  refine rstart (S := (fun w' => w'.cell? ⟨z, 0, none⟩ = some (.int .i64 m.ty) ∧ w'.cell? ⟨z, 1, none⟩ = some (.int .i64 m.cl) ∧ w'.cell? ⟨z, 2, none⟩ = some (.int .u64 (m.ss : Int)) ∧ w'.cell? ⟨z, 3, none⟩ = some (.int .u64 (m.sq : Int)) ∧ w'.cell? ⟨z, 4, none⟩ = some (.int .u64 (m.bo : Int)) ∧ w'.cell? ⟨z, 5, none⟩ = some (.int .i64 m.kd) ∧ w'.cell? ⟨z, 6, none⟩ = some (.int .i64 m.er))) (by first | with_reducible exact K7.out | with_reducible exact K6.out | with_reducible exact K5.out | with_reducible exact K4.out | with_reducible exact K3.out | with_reducible exact K2.out | with_reducible exact K1.out | with_reducible exact K0.out) (fun hH => ?_)
  refine tk (i := 0) (oi := ⟨some 13, .move (.tmp 0), 63, "wire.go:40", #[], none⟩) hH.out (by rintro w ⟨s0, s1, s2, s3, s4, s5, s6⟩; go_simp <;> with_reducible rfl) ?_
  simp only [Act.put, sA, sB, sC]
  refine tk (i := 1) (oi := ⟨some 14, .fieldAddr 28 (.tmp 3) 2, 0, "wire.go:40", #[], none⟩) hH.out (by rintro w ⟨s0, s1, s2, s3, s4, s5, s6⟩; go_simp <;> with_reducible rfl) ?_
  simp only [Act.put, sA, sB, sC]
  refine tk (i := 2) (oi := ⟨some 15, .load 22 (.tmp 14), 22, "wire.go:40", #[⟨1, .data⟩], none⟩) hH.out (by rintro w ⟨s0, s1, s2, s3, s4, s5, s6⟩; go_simp <;> with_reducible rfl) ?_
  simp only [Act.put, sA, sB, sC]
  refine tk (i := 4) (oi := ⟨some 17, .fieldAddr 28 (.tmp 3) 3, 0, "wire.go:40", #[], none⟩) hH.out (by rintro w ⟨s0, s1, s2, s3, s4, s5, s6⟩; go_simp <;> with_reducible rfl) ?_
  simp only [Act.put, sA, sB, sC]
  refine tk (i := 5) (oi := ⟨some 18, .load 22 (.tmp 17), 22, "wire.go:40", #[⟨4, .data⟩], none⟩) hH.out (by rintro w ⟨s0, s1, s2, s3, s4, s5, s6⟩; go_simp <;> with_reducible rfl) ?_
  simp only [Act.put, sA, sB, sC]
  refine tk (i := 7) (oi := ⟨some 20, .fieldAddr 28 (.tmp 3) 4, 0, "wire.go:40", #[], none⟩) hH.out (by rintro w ⟨s0, s1, s2, s3, s4, s5, s6⟩; go_simp <;> with_reducible rfl) ?_
  simp only [Act.put, sA, sB, sC]
  refine tk (i := 8) (oi := ⟨some 21, .load 22 (.tmp 20), 22, "wire.go:40", #[⟨7, .data⟩], none⟩) hH.out (by rintro w ⟨s0, s1, s2, s3, s4, s5, s6⟩; go_simp <;> with_reducible rfl) ?_
  simp only [Act.put, sA, sB, sC]
  refine rdy (i := 3) (oi := ⟨some 16, .call ⟨.value (.func 68), #[.tmp 13, .tmp 15, .const (Go.Value.int Go.IntKind.i64 40)], #[63, 22, 3]⟩, 63, "wire.go:40", #[⟨0, .data⟩, ⟨2, .data⟩], none⟩) (fun K hK => ?_)
  go_simp
  refine (J0.out.it m.ss 40 (by decide) HX.out.2.2.1 (by have := HL.out; (try simp only [lenOf_app, len_it]); omega)).mono ?_
  rintro e w3 ⟨F3, rfl, r⟩
  have R3 := Lib.hid r
  have K3 := Lib.hid (HK.out _ _ _ r)
  clear r
  go_wp2_with fail
  refine hK.out _ _ (by first | with_reducible exact K7.out | with_reducible exact K6.out | with_reducible exact K5.out | with_reducible exact K4.out | with_reducible exact K3.out | with_reducible exact K2.out | with_reducible exact K1.out | with_reducible exact K0.out) (fun hHeld => ?_)
  replace hH := Lib.hid hHeld
  clear hK K hHeld
  try simp only [Act.put, sA, sB, sC]
  refine rdy (i := 6) (oi := ⟨some 19, .call ⟨.value (.func 68), #[.tmp 16, .tmp 18, .const (Go.Value.int Go.IntKind.i64 40)], #[63, 22, 3]⟩, 63, "wire.go:40", #[⟨3, .data⟩, ⟨5, .data⟩, ⟨3, .chain⟩], none⟩) (fun K hK => ?_)
  go_simp
  refine (R3.out.it m.sq 40 (by decide) HX.out.2.2.2.1 (by have := HL.out; (try simp only [lenOf_app, len_it]); omega)).mono ?_
  rintro e w4 ⟨F4, rfl, r⟩
  have R4 := Lib.hid r
  have K4 := Lib.hid (HK.out _ _ _ r)
  clear r
  go_wp2_with fail
  refine hK.out _ _ (by first | with_reducible exact K7.out | with_reducible exact K6.out | with_reducible exact K5.out | with_reducible exact K4.out | with_reducible exact K3.out | with_reducible exact K2.out | with_reducible exact K1.out | with_reducible exact K0.out) (fun hHeld => ?_)
  replace hH := Lib.hid hHeld
  clear hK K hHeld
  try simp only [Act.put, sA, sB, sC]
  refine rdy (i := 9) (oi := ⟨some 22, .call ⟨.value (.func 68), #[.tmp 19, .tmp 21, .const (Go.Value.int Go.IntKind.i64 40)], #[63, 22, 3]⟩, 63, "wire.go:40", #[⟨6, .data⟩, ⟨8, .data⟩, ⟨6, .chain⟩], none⟩) (fun K hK => ?_)
  go_simp
  refine (R4.out.it m.bo 40 (by decide) HX.out.2.2.2.2.1 (by have := HL.out; (try simp only [lenOf_app, len_it]); omega)).mono ?_
  rintro e w5 ⟨F5, rfl, r⟩
  have R5 := Lib.hid r
  have K5 := Lib.hid (HK.out _ _ _ r)
  clear r
  go_wp2_with fail
  refine hK.out _ _ (by first | with_reducible exact K7.out | with_reducible exact K6.out | with_reducible exact K5.out | with_reducible exact K4.out | with_reducible exact K3.out | with_reducible exact K2.out | with_reducible exact K1.out | with_reducible exact K0.out) (fun hHeld => ?_)
  replace hH := Lib.hid hHeld
  clear hK K hHeld
  try simp only [Act.put, sA, sB, sC]
  refine wpAnyH_done (by kernel_rfl) ?_ _
  go_upto_region 3 with (fail)
  have J0 := Lib.hid (R5.out.over (Adv.refl Nul w5).drew)
  replace K0 := Lib.hid (HK.out _ _ _ J0.out)
  refine rstart (S := (fun w' => w'.cell? ⟨z, 0, none⟩ = some (.int .i64 m.ty) ∧ w'.cell? ⟨z, 1, none⟩ = some (.int .i64 m.cl) ∧ w'.cell? ⟨z, 2, none⟩ = some (.int .u64 (m.ss : Int)) ∧ w'.cell? ⟨z, 3, none⟩ = some (.int .u64 (m.sq : Int)) ∧ w'.cell? ⟨z, 4, none⟩ = some (.int .u64 (m.bo : Int)) ∧ w'.cell? ⟨z, 5, none⟩ = some (.int .i64 m.kd) ∧ w'.cell? ⟨z, 6, none⟩ = some (.int .i64 m.er))) (by first | with_reducible exact K7.out | with_reducible exact K6.out | with_reducible exact K5.out | with_reducible exact K4.out | with_reducible exact K3.out | with_reducible exact K2.out | with_reducible exact K1.out | with_reducible exact K0.out) (fun hH => ?_)
  refine tk (i := 0) (oi := ⟨some 23, .move (.tmp 0), 63, "wire.go:41", #[], none⟩) hH.out (by rintro w ⟨s0, s1, s2, s3, s4, s5, s6⟩; go_simp <;> with_reducible rfl) ?_
  simp only [Act.put, sA, sB, sC]
  refine tk (i := 1) (oi := ⟨some 24, .fieldAddr 28 (.tmp 3) 5, 0, "wire.go:41", #[], none⟩) hH.out (by rintro w ⟨s0, s1, s2, s3, s4, s5, s6⟩; go_simp <;> with_reducible rfl) ?_
  simp only [Act.put, sA, sB, sC]
  refine tk (i := 2) (oi := ⟨some 25, .load 3 (.tmp 24), 3, "wire.go:41", #[⟨1, .data⟩], none⟩) hH.out (by rintro w ⟨s0, s1, s2, s3, s4, s5, s6⟩; go_simp <;> with_reducible rfl) ?_
  simp only [Act.put, sA, sB, sC]
  refine tk (i := 3) (oi := ⟨some 26, .convert 3 22 (.tmp 25), 22, "wire.go:41", #[⟨2, .data⟩], none⟩) hH.out (by rintro w ⟨s0, s1, s2, s3, s4, s5, s6⟩; go_simp <;> with_reducible rfl) ?_
  simp only [Act.put, sA, sB, sC]
  refine tk (i := 5) (oi := ⟨some 28, .fieldAddr 28 (.tmp 3) 6, 0, "wire.go:41", #[], none⟩) hH.out (by rintro w ⟨s0, s1, s2, s3, s4, s5, s6⟩; go_simp <;> with_reducible rfl) ?_
  simp only [Act.put, sA, sB, sC]
  refine tk (i := 6) (oi := ⟨some 29, .load 23 (.tmp 28), 23, "wire.go:41", #[⟨5, .data⟩], none⟩) hH.out (by rintro w ⟨s0, s1, s2, s3, s4, s5, s6⟩; go_simp <;> with_reducible rfl) ?_
  simp only [Act.put, sA, sB, sC]
  refine tk (i := 7) (oi := ⟨some 30, .convert 23 22 (.tmp 29), 22, "wire.go:41", #[⟨6, .data⟩], none⟩) hH.out (by rintro w ⟨s0, s1, s2, s3, s4, s5, s6⟩; go_simp <;> with_reducible rfl) ?_
  simp only [Act.put, sA, sB, sC]
  refine rdy (i := 4) (oi := ⟨some 27, .call ⟨.value (.func 68), #[.tmp 23, .tmp 26, .const (Go.Value.int Go.IntKind.i64 4)], #[63, 22, 3]⟩, 63, "wire.go:41", #[⟨0, .data⟩, ⟨3, .data⟩], none⟩) (fun K hK => ?_)
  go_simp
  refine (J0.out.it x5 4 (by decide) HX.out.2.2.2.2.2.1 (by have := HL.out; (try simp only [lenOf_app, len_it]); omega)).mono ?_
  rintro e w6 ⟨F6, rfl, r⟩
  have R6 := Lib.hid r
  have K6 := Lib.hid (HK.out _ _ _ r)
  clear r
  go_wp2_with fail
  refine hK.out _ _ (by first | with_reducible exact K7.out | with_reducible exact K6.out | with_reducible exact K5.out | with_reducible exact K4.out | with_reducible exact K3.out | with_reducible exact K2.out | with_reducible exact K1.out | with_reducible exact K0.out) (fun hHeld => ?_)
  replace hH := Lib.hid hHeld
  clear hK K hHeld
  try simp only [Act.put, sA, sB, sC]
  refine rdy (i := 8) (oi := ⟨some 31, .call ⟨.value (.func 68), #[.tmp 27, .tmp 30, .const (Go.Value.int Go.IntKind.i64 5)], #[63, 22, 3]⟩, 63, "wire.go:41", #[⟨4, .data⟩, ⟨7, .data⟩, ⟨4, .chain⟩], none⟩) (fun K hK => ?_)
  go_simp
  refine (R6.out.it x6 5 (by decide) HX.out.2.2.2.2.2.2 (by have := HL.out; (try simp only [lenOf_app, len_it]); omega)).mono ?_
  rintro e w7 ⟨F7, rfl, r⟩
  have R7 := Lib.hid r
  have K7 := Lib.hid (HK.out _ _ _ r)
  clear r
  go_wp2_with fail
  refine hK.out _ _ (by first | with_reducible exact K7.out | with_reducible exact K6.out | with_reducible exact K5.out | with_reducible exact K4.out | with_reducible exact K3.out | with_reducible exact K2.out | with_reducible exact K1.out | with_reducible exact K0.out) (fun hHeld => ?_)
  replace hH := Lib.hid hHeld
  clear hK K hHeld
  try simp only [Act.put, sA, sB, sC]
  refine wpAnyH_done (by kernel_rfl) ?_ _
  go_wp2_with fail
  go_end0
  rw [← HWH.out]
  exact ⟨rfl, F7, HJ.out.trans R7.out⟩
end Go.Proofs.Ytpgeebhepegpaaa
namespace Go.Proofs.Ytpgeebhepegpaaa
open Go.ChangeShapes Go.WideShapes Go.ChangeAt Go.RowKit

def WeL (W : World) (b : Nat) (A : List Do) (l : List En) (t : Value) (wr : World) : Prop := ∃ (k : Nat) (F : Nat → Prop), t = .int .i64 (k : Int) ∧ k ≤ l.length ∧ WJ W Nul F b (A ++ (l.take k).flatMap wiE) wr
set_option maxRecDepth 3000 in
set_option maxHeartbeats 3200000 in
theorem wlayens_any (l : List En) (v : Value) (W : World) (hE : EnR7 W v l) (hok : ∀ e ∈ l, okE e) (hn : l.length ≤ 24) (b : Nat) (A : List Do) (F : Nat → Prop) (w : World) (hw : WJ W Nul F b A w) (hl : lenOf A ≤ 10000) :
    Calls Try.prog 71 #[.pointer (some ⟨b, 0, none⟩), v] w fun e w' => e = .returned (.tuple #[]) ∧ ∃ F', WJ W Nul F' b (A ++ itD 5 l.length :: l.flatMap wiE) w' := by
  obtain ⟨a, c, rfl, _⟩ := hE.form
  obtain ⟨N, hN⟩ : ∃ N, N = l.length := ⟨_, rfl⟩
  rw [← hN] at hE hn ⊢
  obtain ⟨AA, hAA⟩ : ∃ AA, AA = A ++ [itD 5 N] := ⟨_, rfl⟩
  have HAA := Lib.hid hAA
  have HFIN := Lib.hid (show AA ++ (l.take N).flatMap wiE = A ++ itD 5 N :: l.flatMap wiE by rw [hAA, hN, List.take_length]; simp)
  have HLN := Lib.hid (show ∀ k, lenOf (AA ++ (l.take k).flatMap wiE) ≤ 20000 from fun k => by
    have h1 := len_ens (l.take k) (fun e he => hok e (List.mem_of_mem_take he))
    have h2 : (l.take k).length ≤ 24 := by rw [List.length_take]; omega
    rw [hAA, lenOf_app, lenOf_app, len_it]
    omega)
  have HE := Lib.hid hE
  have HN := Lib.hid hN
  have HOK := Lib.hid hok
  have HW := Lib.hid hw
  have HL := Lib.hid hl
  have HN24 := Lib.hid hn
  have hc5 : IntKind.u64.wrap (N : Int) = (N : Int) := by rw [IntKind.wrap_u64]; omega
  clear hE hN hok hw hl hAA
  go_enter Try.func71, Try.ntmps71
  go_wp2_with (first
    | (go_at_call 68; refine (HW.out.it N 5 (by decide) (by have := HN24.out; omega) (by have := HL.out; omega)).mono ?_; rintro e w1 ⟨F1, rfl, r⟩; rw [← HAA.out] at r; have R := Lib.hid r; clear r)
    | fail)
  clear HAA HW hc5
  go_loopw [13] (WeL W b AA l) (fun t _ => N - (intOf t).toNat)
  case atStart => exact ⟨0, F1, rfl, Nat.zero_le _, by rw [List.take_zero, List.flatMap_nil, List.append_nil]; exact R.out⟩
  case round =>
    obtain ⟨k, F2, rfl, hk, hr⟩ := hrel
    clear R
    rw [← HN.out] at hk
    by_cases hlt : k < N
    · have hkl : k < l.length := by rw [← HN.out]; exact hlt
      obtain ⟨b1, o1, rfl, hb1, g0, g1, g2, g3⟩ := (HE.out.step hr.ad).at_ HN.out hkl
      have HNX := Lib.hid (wiE_next hkl)
      obtain ⟨e, he⟩ : ∃ e, e = l[k] := ⟨_, rfl⟩
      have HEK := Lib.hid (show okE e by rw [he]; exact HOK.out _ (List.getElem_mem _))
      rw [← he] at g0 g1 g2 g3 HNX
      have HLK := Lib.hid (HLN.out k)
      have HLT := Lib.hid hlt
      obtain ⟨AK, hAK⟩ : ∃ AK, AK = AA ++ (l.take k).flatMap wiE := ⟨_, rfl⟩
      have HAK := Lib.hid hAK
      rw [← hAK] at hr HLK
      obtain ⟨y, hy⟩ : ∃ y, y = wr.heap.size := ⟨_, rfl⟩
      obtain ⟨V, hV⟩ : ∃ V, V = wr.alloc (.cells (ea e) 54) := ⟨_, rfl⟩
      have hyF : ¬ F2 y := fun h => by have := hr.bd y h; omega
      have HYB := Lib.hid (show Blk V y 54 (ea e) by rw [hV, hy]; exact Blk.new _ _ _)
      have HJ := Lib.hid (hr.over (show Adv Nul wr Nul V by rw [hV]; exact (Adv.refl _ _).alloc _))
      have HK := Lib.hid (fun (F' : Nat → Prop) (B : List Do) (w' : World) (h : WJ V F2 F' b B w') => (HYB.out.keep (h.ad.block y HYB.out.lt hyF)).e4.all)
      have HV := Lib.hid hV
      have HYY := Lib.hid hy
      clear hV hy hAK he hkl hb1 hyF hr
      obtain ⟨sz, i, g, kd⟩ := e
      simp only at g0 g1 g2 g3 HK
      have HF := Lib.hid (show flP i g by obtain ⟨_, o1, o2, o3, o4, o5, o6⟩ := HEK.out; simp only at o1 o2 o3 o4; exact ⟨by omega, by omega, by omega, by omega⟩)
      have HSZ := Lib.hid (show sz.size ≤ 16 by have := (okE_size HEK.out).2; simp only at this; omega)
      obtain ⟨x, hx⟩ : ∃ x, x = u64n kd := ⟨_, rfl⟩
      have hcv : IntKind.u64.wrap kd = (x : Int) := by rw [hx, wrap_u64n]
      have HXB := Lib.hid (show x < 2 ^ 2 by rw [hx]; obtain ⟨_, o1, o2, o3, o4, o5, o6⟩ := HEK.out; simp only at o5 o6; exact u64n_lt_of (n := 4) (by omega) (by omega) (by decide))
      have HWE := Lib.hid (show AK ++ [txD sz] ++ wiF i g ++ [itD 2 x] = AA ++ (l.take (k + 1)).flatMap wiE from by rw [HNX.out, HAK.out, hx]; simp [wiE, wiF])
      simp only [ea] at HV
      clear hx HEK hlt HNX HAK
      go_upto_region 4 with (fail)
      rw [← HV.out, ← HYY.out]
      clear g0 g1 g2 g3
      have J0 := Lib.hid (HJ.out.self.over (Adv.refl Nul V).drew)
      have K0 := Lib.hid (HK.out _ _ _ J0.out)
      refine rstart (S := (fun w' => w'.cell? ⟨y, 0, none⟩ = some (.string sz) ∧ w'.cell? ⟨y, 1, none⟩ = some (.int .i64 i) ∧ w'.cell? ⟨y, 2, none⟩ = some (.int .i64 g) ∧ w'.cell? ⟨y, 3, none⟩ = some (.int .i64 kd))) (by first | with_reducible exact K2.out | with_reducible exact K1.out | with_reducible exact K0.out) (fun hH => ?_)
      refine tk (i := 0) (oi := ⟨some 17, .move (.tmp 0), 63, "wire.go:84", #[], none⟩) hH.out (by rintro w ⟨s0, s1, s2, s3⟩; go_simp <;> with_reducible rfl) ?_
      simp only [Act.put, sA, sB, sC]
      refine tk (i := 1) (oi := ⟨some 18, .fieldAddr 54 (.tmp 5) 0, 0, "wire.go:84", #[], none⟩) hH.out (by rintro w ⟨s0, s1, s2, s3⟩; go_simp <;> with_reducible rfl) ?_
      simp only [Act.put, sA, sB, sC]
      refine tk (i := 2) (oi := ⟨some 19, .load 9 (.tmp 18), 9, "wire.go:84", #[⟨1, .data⟩], none⟩) hH.out (by rintro w ⟨s0, s1, s2, s3⟩; go_simp <;> with_reducible rfl) ?_
      simp only [Act.put, sA, sB, sC]
      refine tk (i := 4) (oi := ⟨some 21, .fieldAddr 54 (.tmp 5) 1, 0, "wire.go:84", #[], none⟩) hH.out (by rintro w ⟨s0, s1, s2, s3⟩; go_simp <;> with_reducible rfl) ?_
      simp only [Act.put, sA, sB, sC]
      refine tk (i := 5) (oi := ⟨some 22, .load 25 (.tmp 21), 25, "wire.go:84", #[⟨4, .data⟩], none⟩) hH.out (by rintro w ⟨s0, s1, s2, s3⟩; go_simp <;> with_reducible rfl) ?_
      simp only [Act.put, sA, sB, sC]
      refine rdy (i := 3) (oi := ⟨some 20, .call ⟨.value (.func 70), #[.tmp 17, .tmp 19], #[63, 9]⟩, 63, "wire.go:84", #[⟨0, .data⟩, ⟨2, .data⟩], none⟩) (fun K hK => ?_)
      go_simp
      refine (J0.out.tx sz (by have := HSZ.out; omega) (by have := HLK.out; omega)).mono ?_
      rintro e w3 ⟨F3, rfl, r⟩
      have R3 := Lib.hid r
      have K1 := Lib.hid (HK.out _ _ _ r)
      clear r
      go_wp2_with fail
      refine hK.out _ _ (by first | with_reducible exact K2.out | with_reducible exact K1.out | with_reducible exact K0.out) (fun hHeld => ?_)
      replace hH := Lib.hid hHeld
      clear hK K hHeld
      try simp only [Act.put, sA, sB, sC]
      refine rdy (i := 6) (oi := ⟨some 23, .call ⟨.value (.func 69), #[.tmp 20, .tmp 22], #[63, 25]⟩, 0, "wire.go:84", #[⟨3, .data⟩, ⟨5, .data⟩, ⟨3, .chain⟩], none⟩) (fun K hK => ?_)
      go_simp
      refine (wlayfile_any i g HF.out b _ _ _ R3.out.self (by have := HLK.out; have := HSZ.out; rw [lenOf_app, len_tx]; omega)).mono ?_
      rintro e w4 ⟨rfl, F4, r⟩
      have R4 := Lib.hid (R3.out.trans r)
      have K2 := Lib.hid (HK.out _ _ _ R4.out)
      clear r
      go_wp2_with fail
      refine hK.out _ _ (by first | with_reducible exact K2.out | with_reducible exact K1.out | with_reducible exact K0.out) (fun hHeld => ?_)
      replace hH := Lib.hid hHeld
      clear hK K hHeld
      try simp only [Act.put, sA, sB, sC]
      refine wpAnyH_done (by kernel_rfl) ?_ _
      obtain ⟨s0, s1, s2, s3⟩ := K2.out
      go_wp2_with (first
        | (go_at_call 68; refine (R4.out.it x 2 (by decide) HXB.out (by have := HLK.out; have := HSZ.out; rw [lenOf_app, lenOf_app, len_tx, len_wiF]; omega)).mono ?_; rintro e w5 ⟨F5, rfl, r⟩; rw [HWE.out] at r; have R5 := Lib.hid (HJ.out.trans r); clear r)
        | fail)
      exact ⟨⟨k + 1, F5, by go_num, by rw [← HN.out]; exact HLT.out, R5.out⟩, by have := HLT.out; simp [intOf] <;> omega⟩
    · obtain rfl : k = N := by omega
      have HR := Lib.hid hr
      clear hr hlt hk
      go_wp2_with fail
      go_end0
      rw [← HFIN.out]
      exact ⟨rfl, F2, HR.out⟩
set_option maxRecDepth 3000 in
set_option maxHeartbeats 6400000 in
theorem wlayfields_any (m : Ms) (v : Value) (h : Nat) (s : List Nat) (hlk : likeT h s) (hh : h < 8192) (hj : JuW m s) (W : World) (hE : EnR7 W v m.en) (b : Nat) (F : Nat → Prop) (w : World) (hw : WJ W Nul F b (wiH m) w) (hl : lenOf (wi8 m s) ≤ 5600) :
    Calls Try.prog 40 #[.pointer (some ⟨b, 0, none⟩), .agg (mc m v), .int .i64 (h : Int)] w fun e w' => e = .returned (.tuple #[]) ∧ ∃ F', WJ W Nul F' b (wi8 m s ++ wf9 m s) w' := by
  have J := Lib.hid hj
  have HL8 := Lib.hid (wq_les hl)
  have HWL := Lib.hid (show wi8 m s ++ wf9 m s = wq8 m s ++ wf9 m s by rw [wq_all])
  have HH102 := Lib.hid (fun w => show Calls Try.prog 63 #[.int .i64 (h : Int), .int .i64 16] w fun e w' => e = .returned (.bool (decide (102 ∈ s))) ∧ w = w' by have := fhas_any h 4 hh (by decide) w; rw [hlk.1] at this; exact this)
  have HH100 := Lib.hid (fun w => show Calls Try.prog 63 #[.int .i64 (h : Int), .int .i64 32] w fun e w' => e = .returned (.bool (decide (100 ∈ s))) ∧ w = w' by have := fhas_any h 5 hh (by decide) w; rw [hlk.2.1] at this; exact this)
  have HH110 := Lib.hid (fun w => show Calls Try.prog 63 #[.int .i64 (h : Int), .int .i64 64] w fun e w' => e = .returned (.bool (decide (110 ∈ s))) ∧ w = w' by have := fhas_any h 6 hh (by decide) w; rw [hlk.2.2.1] at this; exact this)
  have HH111 := Lib.hid (fun w => show Calls Try.prog 63 #[.int .i64 (h : Int), .int .i64 128] w fun e w' => e = .returned (.bool (decide (111 ∈ s))) ∧ w = w' by have := fhas_any h 7 hh (by decide) w; rw [hlk.2.2.2.1] at this; exact this)
  have HH107 := Lib.hid (fun w => show Calls Try.prog 63 #[.int .i64 (h : Int), .int .i64 256] w fun e w' => e = .returned (.bool (decide (107 ∈ s))) ∧ w = w' by have := fhas_any h 8 hh (by decide) w; rw [hlk.2.2.2.2.1] at this; exact this)
  have HH97 := Lib.hid (fun w => show Calls Try.prog 63 #[.int .i64 (h : Int), .int .i64 512] w fun e w' => e = .returned (.bool (decide (97 ∈ s))) ∧ w = w' by have := fhas_any h 9 hh (by decide) w; rw [hlk.2.2.2.2.2.1] at this; exact this)
  have HH116 := Lib.hid (fun w => show Calls Try.prog 63 #[.int .i64 (h : Int), .int .i64 1024] w fun e w' => e = .returned (.bool (decide (116 ∈ s))) ∧ w = w' by have := fhas_any h 10 hh (by decide) w; rw [hlk.2.2.2.2.2.2.1] at this; exact this)
  have HH118 := Lib.hid (fun w => show Calls Try.prog 63 #[.int .i64 (h : Int), .int .i64 2048] w fun e w' => e = .returned (.bool (decide (118 ∈ s))) ∧ w = w' by have := fhas_any h 11 hh (by decide) w; rw [hlk.2.2.2.2.2.2.2.1] at this; exact this)
  have HH101 := Lib.hid (fun w => show Calls Try.prog 63 #[.int .i64 (h : Int), .int .i64 4096] w fun e w' => e = .returned (.bool (decide (101 ∈ s))) ∧ w = w' by have := fhas_any h 12 hh (by decide) w; rw [hlk.2.2.2.2.2.2.2.2] at this; exact this)
  have HE := Lib.hid hE
  obtain ⟨C, hC⟩ : ∃ C, C = mc m v := ⟨_, rfl⟩
  obtain ⟨z, hz⟩ : ∃ z, z = w.heap.size := ⟨_, rfl⟩
  obtain ⟨U, hU⟩ : ∃ U, U = w.alloc (.cells C 28) := ⟨_, rfl⟩
  have HB := Lib.hid (show Blk U z 28 C by rw [hU, hz]; exact Blk.new _ _ _)
  have hzF : ¬ F z := fun h => by have := hw.bd z h; omega
  have HJ := Lib.hid (hw.over (show Adv Nul w Nul U by rw [hU]; exact (Adv.refl _ _).alloc _))
  have HK := Lib.hid (fun (F' : Nat → Prop) (B : List Do) (w' : World) (h : WJ U F F' b B w') => show C18 w' z m v from (show Blk w' z 28 (mc m v) by rw [← hC]; exact HB.out.keep (h.ad.block z HB.out.lt hzF)).c18)
  have HU := Lib.hid hU
  have HZ := Lib.hid hz
  obtain ⟨g, hg⟩ : ∃ g : Int, g = (h : Int) := ⟨_, rfl⟩
  rw [← hg]
  rw [← hg] at HH102
  rw [← hg] at HH100
  rw [← hg] at HH110
  rw [← hg] at HH111
  rw [← hg] at HH107
  rw [← hg] at HH97
  rw [← hg] at HH116
  rw [← hg] at HH118
  rw [← hg] at HH101
  rw [← hC]
  clear hU hz hzF hw hC hl hj hE hlk hh hg
  obtain ⟨a, n, c, rfl⟩ : ∃ a n c, v = .slice a n c := by obtain ⟨a, c, e, _⟩ := HE.out.form; exact ⟨a, _, c, e⟩
  go_enter Try.func40, Try.ntmps40
  go_upto_region 1 with (fail)
  rw [← HU.out, ← HZ.out]
  have R := Lib.hid (show ∃ F', WJ U F F' b (wiH m) U from ⟨F, HJ.out.self⟩)
  obtain ⟨t, ht⟩ : ∃ t, t = decide (102 ∈ s) := ⟨_, rfl⟩
  rw [← ht] at HH102
  have HB := Lib.hid ht
  clear ht
  go_upto_if 7 with (first
    | (go_at_call 63; refine (HH102.out _).mono ?_; rintro e w3 ⟨rfl, rfl⟩)
    | fail)
  clear HH102
  go_cut [] (fun w9 => ∃ F', WJ U F F' b (wq1 m s) w9)
  case first =>
    have hb := HB.out
    obtain ⟨F1, r1⟩ := R.out
    have R1 := Lib.hid r1
    clear R
    by_cases hc : 102 ∈ s
    · obtain rfl : t = true := by rw [hb, decide_eq_true hc]
      have HJ := Lib.hid J.out.f
      rw [if_pos hc] at HJ
      have HW := Lib.hid (show wiH m ++ wiF m.fi m.fg = wq1 m s from by unfold wq1 wf1; rw [if_pos hc] <;> rfl)
      have c := HK.out _ _ _ r1
      have s0 := c.b.1
      have s1 := c.b.2.1
      clear c hb hc HB r1
      go_wp2_with (first
        | (go_at_call 69; refine (wlayfile_any m.fi m.fg HJ.out b _ _ _ R1.out.self (Nat.le_trans HL8.out.1 (by decide))).mono ?_; rintro e w4 ⟨rfl, F2, r2⟩; have R2 := Lib.hid (R1.out.trans r2); clear r2)
        | fail)
      go_meet
      rw [← HW.out]
      exact ⟨F2, R2.out⟩
    · obtain rfl : t = false := by rw [hb, decide_eq_false hc]
      have HW := Lib.hid (show wiH m = wq1 m s from by unfold wq1 wf1; rw [if_neg hc, List.append_nil])
      clear hb hc HB r1
      go_wp2_with fail
      go_meet
      rw [← HW.out]
      exact ⟨F1, R1.out⟩
  case rest =>
  have R2 := Lib.hid hcut
  clear hcut R HB
  have R := R2
  clear R2
  obtain ⟨t, ht⟩ : ∃ t, t = decide (100 ∈ s) := ⟨_, rfl⟩
  rw [← ht] at HH100
  have HB := Lib.hid ht
  clear ht
  go_upto_if 13 with (first
    | (go_at_call 63; refine (HH100.out _).mono ?_; rintro e w3 ⟨rfl, rfl⟩)
    | fail)
  clear HH100
  go_cut [] (fun w9 => ∃ F', WJ U F F' b (wq2 m s) w9)
  case first =>
    have hb := HB.out
    obtain ⟨F1, r1⟩ := R.out
    have R1 := Lib.hid r1
    clear R
    by_cases hc : 100 ∈ s
    · obtain rfl : t = true := by rw [hb, decide_eq_true hc]
      have HJ := Lib.hid J.out.d
      rw [if_pos hc] at HJ
      have HW := Lib.hid (show wq1 m s ++ wiF m.di m.dg = wq2 m s from by unfold wq2 wf2; rw [if_pos hc] <;> rfl)
      have c := HK.out _ _ _ r1
      have s0 := c.b.2.2.1
      have s1 := c.b.2.2.2
      clear c hb hc HB r1
      go_wp2_with (first
        | (go_at_call 69; refine (wlayfile_any m.di m.dg HJ.out b _ _ _ R1.out.self (Nat.le_trans HL8.out.2.1 (by decide))).mono ?_; rintro e w4 ⟨rfl, F2, r2⟩; have R2 := Lib.hid (R1.out.trans r2); clear r2)
        | fail)
      go_meet
      rw [← HW.out]
      exact ⟨F2, R2.out⟩
    · obtain rfl : t = false := by rw [hb, decide_eq_false hc]
      have HW := Lib.hid (show wq1 m s = wq2 m s from by unfold wq2 wf2; rw [if_neg hc, List.append_nil])
      clear hb hc HB r1
      go_wp2_with fail
      go_meet
      rw [← HW.out]
      exact ⟨F1, R1.out⟩
  case rest =>
  have R2 := Lib.hid hcut
  clear hcut R HB
  have R := R2
  clear R2
  obtain ⟨t, ht⟩ : ∃ t, t = decide (110 ∈ s) := ⟨_, rfl⟩
  rw [← ht] at HH110
  have HB := Lib.hid ht
  clear ht
  go_upto_if 19 with (first
    | (go_at_call 63; refine (HH110.out _).mono ?_; rintro e w3 ⟨rfl, rfl⟩)
    | fail)
  clear HH110
  go_cut [] (fun w9 => ∃ F', WJ U F F' b (wq3 m s) w9)
  case first =>
    have hb := HB.out
    obtain ⟨F1, r1⟩ := R.out
    have R1 := Lib.hid r1
    clear R
    by_cases hc : 110 ∈ s
    · obtain rfl : t = true := by rw [hb, decide_eq_true hc]
      have HJ := Lib.hid J.out.n
      rw [if_pos hc] at HJ
      have HW := Lib.hid (show wq2 m s ++ [txD m.nm] = wq3 m s from by unfold wq3 wf3; rw [if_pos hc] <;> rfl)
      have c := HK.out _ _ _ r1
      have s0 := c.c.1
      clear c hb hc HB r1
      go_wp2_with (first
        | (go_at_call 70; refine (R1.out.tx m.nm (by have := HJ.out; omega) (Nat.le_trans HL8.out.2.2.1 (by decide))).mono ?_; rintro e w4 ⟨F2, rfl, r2⟩; have R2 := Lib.hid r2; clear r2)
        | fail)
      go_meet
      rw [← HW.out]
      exact ⟨F2, R2.out⟩
    · obtain rfl : t = false := by rw [hb, decide_eq_false hc]
      have HW := Lib.hid (show wq2 m s = wq3 m s from by unfold wq3 wf3; rw [if_neg hc, List.append_nil])
      clear hb hc HB r1
      go_wp2_with fail
      go_meet
      rw [← HW.out]
      exact ⟨F1, R1.out⟩
  case rest =>
  have R2 := Lib.hid hcut
  clear hcut R HB
  have R := R2
  clear R2
  obtain ⟨t, ht⟩ : ∃ t, t = decide (111 ∈ s) := ⟨_, rfl⟩
  rw [← ht] at HH111
  have HB := Lib.hid ht
  clear ht
  go_upto_if 25 with (first
    | (go_at_call 63; refine (HH111.out _).mono ?_; rintro e w3 ⟨rfl, rfl⟩)
    | fail)
  clear HH111
  go_cut [] (fun w9 => ∃ F', WJ U F F' b (wq4 m s) w9)
  case first =>
    have hb := HB.out
    obtain ⟨F1, r1⟩ := R.out
    have R1 := Lib.hid r1
    clear R
    by_cases hc : 111 ∈ s
    · obtain rfl : t = true := by rw [hb, decide_eq_true hc]
      have HJ := Lib.hid J.out.o
      rw [if_pos hc] at HJ
      have HW := Lib.hid (show wq3 m s ++ [txD m.ot] = wq4 m s from by unfold wq4 wf4; rw [if_pos hc] <;> rfl)
      have c := HK.out _ _ _ r1
      have s0 := c.c.2.1
      clear c hb hc HB r1
      go_wp2_with (first
        | (go_at_call 70; refine (R1.out.tx m.ot (by have := HJ.out; omega) (Nat.le_trans HL8.out.2.2.2.1 (by decide))).mono ?_; rintro e w4 ⟨F2, rfl, r2⟩; have R2 := Lib.hid r2; clear r2)
        | fail)
      go_meet
      rw [← HW.out]
      exact ⟨F2, R2.out⟩
    · obtain rfl : t = false := by rw [hb, decide_eq_false hc]
      have HW := Lib.hid (show wq3 m s = wq4 m s from by unfold wq4 wf4; rw [if_neg hc, List.append_nil])
      clear hb hc HB r1
      go_wp2_with fail
      go_meet
      rw [← HW.out]
      exact ⟨F1, R1.out⟩
  case rest =>
  have R2 := Lib.hid hcut
  clear hcut R HB
  have R := R2
  clear R2
  obtain ⟨t, ht⟩ : ∃ t, t = decide (107 ∈ s) := ⟨_, rfl⟩
  rw [← ht] at HH107
  have HB := Lib.hid ht
  clear ht
  go_upto_if 31 with (first
    | (go_at_call 63; refine (HH107.out _).mono ?_; rintro e w3 ⟨rfl, rfl⟩)
    | fail)
  clear HH107
  go_cut [] (fun w9 => ∃ F', WJ U F F' b (wq5 m s) w9)
  case first =>
    have hb := HB.out
    obtain ⟨F1, r1⟩ := R.out
    have R1 := Lib.hid r1
    clear R
    by_cases hc : 107 ∈ s
    · obtain rfl : t = true := by rw [hb, decide_eq_true hc]
      have HJ := Lib.hid J.out.k
      rw [if_pos hc] at HJ
      have HW := Lib.hid (show wq4 m s ++ [itD 2 (u64n m.mo)] = wq5 m s from by unfold wq5 wf5; rw [if_pos hc] <;> rfl)
      have c := HK.out _ _ _ r1
      have s0 := c.c.2.2.1
      clear c hb hc HB r1
      obtain ⟨x, hx⟩ : ∃ x, x = u64n m.mo := ⟨_, rfl⟩
      have hcv : IntKind.u64.wrap m.mo = (x : Int) := by rw [hx, wrap_u64n]
      have HXB := Lib.hid (show x < 2 ^ 2 by rw [hx]; have := HJ.out; unfold moP at this; exact u64n_lt_of (n := 4) (by omega) (by omega) (by decide))
      rw [← hx] at HW
      clear hx
      go_wp2_with (first
        | (go_at_call 68; refine (R1.out.it x 2 (by decide) HXB.out (Nat.le_trans HL8.out.2.2.2.2.1 (by decide))).mono ?_; rintro e w4 ⟨F2, rfl, r2⟩; have R2 := Lib.hid r2; clear r2)
        | fail)
      go_meet
      rw [← HW.out]
      exact ⟨F2, R2.out⟩
    · obtain rfl : t = false := by rw [hb, decide_eq_false hc]
      have HW := Lib.hid (show wq4 m s = wq5 m s from by unfold wq5 wf5; rw [if_neg hc, List.append_nil])
      clear hb hc HB r1
      go_wp2_with fail
      go_meet
      rw [← HW.out]
      exact ⟨F1, R1.out⟩
  case rest =>
  have R2 := Lib.hid hcut
  clear hcut R HB
  have R := R2
  clear R2
  obtain ⟨t, ht⟩ : ∃ t, t = decide (97 ∈ s) := ⟨_, rfl⟩
  rw [← ht] at HH97
  have HB := Lib.hid ht
  clear ht
  go_upto_if 38 with (first
    | (go_at_call 63; refine (HH97.out _).mono ?_; rintro e w3 ⟨rfl, rfl⟩)
    | fail)
  clear HH97
  go_cut [] (fun w9 => ∃ F', WJ U F F' b (wq6 m s) w9)
  case first =>
    have hb := HB.out
    obtain ⟨F1, r1⟩ := R.out
    have R1 := Lib.hid r1
    clear R
    by_cases hc : 97 ∈ s
    · obtain rfl : t = true := by rw [hb, decide_eq_true hc]
      have HJ := Lib.hid J.out.a
      rw [if_pos hc] at HJ
      have HW := Lib.hid (show wq5 m s ++ [itD 3 (u64n m.at_)] = wq6 m s from by unfold wq6 wf6; rw [if_pos hc] <;> rfl)
      have c := HK.out _ _ _ r1
      have s0 := c.c.2.2.2.1
      clear c hb hc HB r1
      obtain ⟨x, hx⟩ : ∃ x, x = u64n m.at_ := ⟨_, rfl⟩
      have hcv : IntKind.u64.wrap m.at_ = (x : Int) := by rw [hx, wrap_u64n]
      have HXB := Lib.hid (show x < 2 ^ 3 by rw [hx]; have := HJ.out; exact u64n_lt_of (n := 8) (by omega) (by omega) (by decide))
      rw [← hx] at HW
      clear hx
      go_wp2_with (first
        | (go_at_call 68; refine (R1.out.it x 3 (by decide) HXB.out (Nat.le_trans HL8.out.2.2.2.2.2.1 (by decide))).mono ?_; rintro e w4 ⟨F2, rfl, r2⟩; have R2 := Lib.hid r2; clear r2)
        | fail)
      go_meet
      rw [← HW.out]
      exact ⟨F2, R2.out⟩
    · obtain rfl : t = false := by rw [hb, decide_eq_false hc]
      have HW := Lib.hid (show wq5 m s = wq6 m s from by unfold wq6 wf6; rw [if_neg hc, List.append_nil])
      clear hb hc HB r1
      go_wp2_with fail
      go_meet
      rw [← HW.out]
      exact ⟨F1, R1.out⟩
  case rest =>
  have R2 := Lib.hid hcut
  clear hcut R HB
  have R := R2
  clear R2
  obtain ⟨t, ht⟩ : ∃ t, t = decide (116 ∈ s) := ⟨_, rfl⟩
  rw [← ht] at HH116
  have HB := Lib.hid ht
  clear ht
  go_upto_if 45 with (first
    | (go_at_call 63; refine (HH116.out _).mono ?_; rintro e w3 ⟨rfl, rfl⟩)
    | fail)
  clear HH116
  go_cut [] (fun w9 => ∃ F', WJ U F F' b (wq7 m s) w9)
  case first =>
    have hb := HB.out
    obtain ⟨F1, r1⟩ := R.out
    have R1 := Lib.hid r1
    clear R
    by_cases hc : 116 ∈ s
    · obtain rfl : t = true := by rw [hb, decide_eq_true hc]
      have HJ := Lib.hid J.out.t
      rw [if_pos hc] at HJ
      have HW := Lib.hid (show wq6 m s ++ [txD m.da] = wq7 m s from by unfold wq7 wf7; rw [if_pos hc] <;> rfl)
      have c := HK.out _ _ _ r1
      have s0 := c.c.2.2.2.2.1
      clear c hb hc HB r1
      go_wp2_with (first
        | (go_at_call 70; refine (R1.out.tx m.da (by have := HJ.out; omega) (Nat.le_trans HL8.out.2.2.2.2.2.2.1 (by decide))).mono ?_; rintro e w4 ⟨F2, rfl, r2⟩; have R2 := Lib.hid r2; clear r2)
        | fail)
      go_meet
      rw [← HW.out]
      exact ⟨F2, R2.out⟩
    · obtain rfl : t = false := by rw [hb, decide_eq_false hc]
      have HW := Lib.hid (show wq6 m s = wq7 m s from by unfold wq7 wf7; rw [if_neg hc, List.append_nil])
      clear hb hc HB r1
      go_wp2_with fail
      go_meet
      rw [← HW.out]
      exact ⟨F1, R1.out⟩
  case rest =>
  have R2 := Lib.hid hcut
  clear hcut R HB
  have R := R2
  clear R2
  obtain ⟨t, ht⟩ : ∃ t, t = decide (118 ∈ s) := ⟨_, rfl⟩
  rw [← ht] at HH118
  have HB := Lib.hid ht
  clear ht
  go_upto_if 51 with (first
    | (go_at_call 63; refine (HH118.out _).mono ?_; rintro e w3 ⟨rfl, rfl⟩)
    | fail)
  clear HH118
  go_cut [] (fun w9 => ∃ F', WJ U F F' b (wq8 m s) w9)
  case first =>
    have hb := HB.out
    obtain ⟨F1, r1⟩ := R.out
    have R1 := Lib.hid r1
    clear R
    by_cases hc : 118 ∈ s
    · obtain rfl : t = true := by rw [hb, decide_eq_true hc]
      have HJ := Lib.hid J.out.v
      rw [if_pos hc] at HJ
      have HW := Lib.hid (show wq7 m s ++ [itD 40 m.ve] = wq8 m s from by unfold wq8 wf8; rw [if_pos hc] <;> rfl)
      have c := HK.out _ _ _ r1
      have s0 := c.c.2.2.2.2.2.1
      clear c hb hc HB r1
      go_wp2_with (first
        | (go_at_call 68; refine (R1.out.it m.ve 40 (by decide) (by have := HJ.out; omega) (Nat.le_trans HL8.out.2.2.2.2.2.2.2.1 (by decide))).mono ?_; rintro e w4 ⟨F2, rfl, r2⟩; have R2 := Lib.hid r2; clear r2)
        | fail)
      go_meet
      rw [← HW.out]
      exact ⟨F2, R2.out⟩
    · obtain rfl : t = false := by rw [hb, decide_eq_false hc]
      have HW := Lib.hid (show wq7 m s = wq8 m s from by unfold wq8 wf8; rw [if_neg hc, List.append_nil])
      clear hb hc HB r1
      go_wp2_with fail
      go_meet
      rw [← HW.out]
      exact ⟨F1, R1.out⟩
  case rest =>
  have R2 := Lib.hid hcut
  clear hcut R HB
  have R := R2
  clear R2
  obtain ⟨F1, r1⟩ := R.out
  have R1 := Lib.hid r1
  have s0 := (HK.out _ _ _ r1).c.2.2.2.2.2.2
  clear R r1
  by_cases hc : 101 ∈ s
  · rw [decide_eq_true hc] at HH101
    have HJE := Lib.hid J.out.e
    rw [if_pos hc] at HJE
    have HW := Lib.hid (show wq8 m s ++ itD 5 m.en.length :: m.en.flatMap wiE = wi8 m s ++ wf9 m s from by rw [HWL.out]; unfold wf9; rw [if_pos hc])
    clear hc
    go_wp2_with (first
      | (go_at_call 63; refine (HH101.out _).mono ?_; rintro e w3 ⟨rfl, rfl⟩)
      | (go_at_call 71; refine (wlayens_any m.en _ W HE.out HJE.out.1 HJE.out.2 b _ _ _ (HJ.out.trans R1.out) (Nat.le_trans HL8.out.2.2.2.2.2.2.2.2 (by decide))).mono ?_; rintro e w4 ⟨rfl, F2, r2⟩; have R2 := Lib.hid r2; clear r2)
      | fail)
    go_end0
    rw [← HW.out]
    exact ⟨rfl, F2, R2.out⟩
  · rw [decide_eq_false hc] at HH101
    have HW := Lib.hid (show wq8 m s = wi8 m s ++ wf9 m s from by rw [HWL.out]; unfold wf9; rw [if_neg hc, List.append_nil])
    clear hc
    go_wp2_with (first
      | (go_at_call 63; refine (HH101.out _).mono ?_; rintro e w3 ⟨rfl, rfl⟩)
      | fail)
    go_end0
    rw [← HW.out]
    exact ⟨rfl, F1, HJ.out.trans R1.out⟩
end Go.Proofs.Ytpgeebhepegpaaa
namespace Go.Proofs.Ytpgeebhepegpaaa
open Go.ChangeShapes Go.WideShapes Go.ChangeAt Go.RowKit

set_option maxRecDepth 3000 in
theorem kres1 {fn : Func} {p : Tmp} {ty : TypeId} (h : fn.results = #[.cell p ty]) (tmps : Array Value) (w : World) {z : Nat} {t : TypeId} {C : Array Value} {d : TypeDesc} (hp : tmps.getD p undef = .pointer (some ⟨z, 0, none⟩)) (hB : Blk w z t C)
    (hu : Try.prog.underlying ty = some d) (hd : d.isRow = true) (hi : (Try.prog.info? ty).map (·.size) = some C.size) : (results fn tmps).run Try.prog w = .ok (.agg C) w := by
  have hp' : tmps[p]?.getD undef = .pointer (some ⟨z, 0, none⟩) := by simpa using hp
  have hl := run_loadVar_mid (P := Try.prog) w z 0 ty C.toList d (Blk.range hB) hu hd (by rw [hi, Array.length_toList])
  rw [Array.toArray_toList] at hl
  simp only [results, h]
  simp [hp', asAddr, hl]
set_option maxRecDepth 3000 in
theorem trst_far {w w' : World} {F : Nat → Prop} {b q V a : Nat} (h : RSt w F b q V a) (hb : Bd F w) (hk : ∀ k, F k → w'.heap[k]? = w.heap[k]?) (hs : w.heap.size ≤ w'.heap.size) : RSt w' F b q V a ∧ Bd F w' := by
  obtain ⟨rv, hB, hS⟩ := h.ex
  exact ⟨⟨⟨rv, hB.keep (hk b h.inF), ⟨own_keep hS.own fun k e => hk k (hS.inF k e), hS.inF, fun k e => Nat.lt_of_lt_of_le (hb k e) hs⟩⟩, h.inF, h.le, h.sm⟩, fun k e => Nat.lt_of_lt_of_le (hb k e) hs⟩
set_option maxRecDepth 3000 in
theorem wrap_bitsT (q V a n : Nat) (hn : n ≤ 62) : wrap64 ((bitsAt q V a n : Nat) : Int) = ((bitsAt q V a n : Nat) : Int) := by
  have h := bitsAt_lt q V a n
  have h2 : 2 ^ n ≤ 2 ^ 62 := Nat.pow_le_pow_right (by decide) hn
  unfold wrap64; omega
section
variable {W w w' : World} {z u b V at' at2 : Nat} {F : Nat → Prop} {C : Array Value}
end
end Go.Proofs.Ytpgeebhepegpaaa
