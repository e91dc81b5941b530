/- Inodes: their numbers, the sector that one has, the one that bytes are. -/
import Derived.Test.YtpgeebhepegpaaaRdrM
import Derived.Test.YtpgeebhepegpaaaRdr
import Derived.Test.YtpgeebhepegpaaaMath2
namespace Go.Proofs.Ytpgeebhepegpaaa
open Go.ChangeShapes Go.WideShapes Go.ChangeAt Go.RowKit

structure Ino where
  k : Int
  g : Int
  v : Nat
  a : Nat → Int
/-- an inode's cells -/
def ic (x : Ino) : Array Value := #[.int .i64 x.k, .int .i64 x.g, .int .u64 (x.v : Int), .int .i64 (x.a 0), .int .i64 (x.a 1), .int .i64 (x.a 2), .int .i64 (x.a 3), .int .i64 (x.a 4), .int .i64 (x.a 5), .int .i64 (x.a 6), .int .i64 (x.a 7)]
/-- a number as one of 64 bits -/
def u64n (z : Int) : Nat := (z % 18446744073709551616).toNat
theorem u64n_lt (z : Int) : u64n z < 18446744073709551616 := by unfold u64n; omega
theorem wrap_u64n (z : Int) : IntKind.u64.wrap z = ((u64n z : Nat) : Int) := by rw [IntKind.wrap_u64]; unfold u64n; omega
def nJ (x : Ino) : Nat → Nat
  | 0 => ((0 * 2 ^ 2 + u64n x.k) * 2 ^ 31 + u64n x.g) * 2 ^ 40 + x.v
  | j + 1 => nJ x j * 2 ^ 12 + u64n (x.a j)
def okJ (x : Ino) : Nat → Prop
  | 0 => ((True ∧ u64n x.k < 2 ^ 2) ∧ u64n x.g < 2 ^ 31) ∧ x.v < 2 ^ 40
  | j + 1 => okJ x j ∧ u64n (x.a j) < 2 ^ 12
def mJ (j : Nat) : Nat := 73 + 12 * j
instance okJ_dec (x : Ino) : ∀ j, Decidable (okJ x j)
  | 0 => by unfold okJ; exact inferInstance
  | j + 1 => by unfold okJ; exact @instDecidableAnd _ _ (okJ_dec x j) _
def bareI (x : Ino) : Prop := x.v = 0 ∧ ∀ j, j < 8 → x.a j = 0
instance (x : Ino) : Decidable (bareI x) := by unfold bareI; exact inferInstance
def kindI (x : Ino) : Prop := if x.k = 0 then bareI x else x.k = 1 ∨ x.k = 2
instance (x : Ino) : Decidable (kindI x) := by unfold kindI; exact inferInstance
def okI (x : Ino) : Prop := kindI x ∧ okJ x 8
instance (x : Ino) : Decidable (okI x) := by unfold okI; exact inferInstance
/-- how many bits lie behind the parts -/
def sh : Nat := 855
theorem sh_eq : sh = 855 := rfl
theorem pw256 (a b c : Nat) (h : a + 8 * b = c) : 2 ^ a * 256 ^ b = 2 ^ c := by
  rw [show (256 : Nat) ^ b = 2 ^ (8 * b) from (Nat.pow_mul 2 8 b).symm, ← Nat.pow_add, h]
theorem pw256' (a b c : Nat) (h : 8 * b = a + c) : 256 ^ b = 2 ^ a * 2 ^ c := by
  rw [show (256 : Nat) ^ b = 2 ^ (8 * b) from (Nat.pow_mul 2 8 b).symm, h, Nat.pow_add]
def secI (x : Ino) : List Nat := be 128 (nJ x 8 * 2 ^ sh)
/-- what stands where an inode's parts do -/
def prt (V : Nat) : Ino := ⟨(bitsAt 128 V 0 2 : Nat), (bitsAt 128 V 2 31 : Nat), bitsAt 128 V 33 40, fun j => ((bitsAt 128 V (73 + 12 * j) 12 : Nat) : Int)⟩
def decI (l : List Nat) : Option Ino := if l.length = 128 ∧ okI (prt (byN l)) ∧ secI (prt (byN l)) = l then some (prt (byN l)) else none
/-- the two are the same -/
structure EqI (x y : Ino) : Prop where
  k : x.k = y.k
  g : x.g = y.g
  v : x.v = y.v
  a : ∀ j, j < 8 → x.a j = y.a j
/-- numbers as wide as they are -/
structure WfI (x : Ino) : Prop where
  k : -9223372036854775808 ≤ x.k ∧ x.k < 9223372036854775808
  g : -9223372036854775808 ≤ x.g ∧ x.g < 9223372036854775808
  v : x.v < 18446744073709551616
  a : ∀ j, j < 8 → -9223372036854775808 ≤ x.a j ∧ x.a j < 9223372036854775808
theorem EqI.ic {x y : Ino} (h : EqI x y) : ic x = ic y := by
  unfold Proofs.Ytpgeebhepegpaaa.ic
  rw [h.k, h.g, h.v, h.a 0 (by decide), h.a 1 (by decide), h.a 2 (by decide), h.a 3 (by decide), h.a 4 (by decide), h.a 5 (by decide), h.a 6 (by decide), h.a 7 (by decide)]
theorem EqI.nJ {x y : Ino} (h : EqI x y) : ∀ j, j ≤ 8 → nJ x j = nJ y j
  | 0, _ => by simp only [Proofs.Ytpgeebhepegpaaa.nJ, h.k, h.g, h.v]
  | j + 1, hj => by simp only [Proofs.Ytpgeebhepegpaaa.nJ, h.nJ j (by omega), h.a j (by omega)]
theorem EqI.okJ {x y : Ino} (h : EqI x y) : ∀ j, j ≤ 8 → (okJ x j ↔ okJ y j)
  | 0, _ => by simp only [Proofs.Ytpgeebhepegpaaa.okJ, h.k, h.g, h.v]
  | j + 1, hj => by simp only [Proofs.Ytpgeebhepegpaaa.okJ, h.okJ j (by omega), h.a j (by omega)]
theorem EqI.okI {x y : Ino} (h : EqI x y) : okI x ↔ okI y := by
  have e : (∀ j, j < 8 → x.a j = 0) ↔ (∀ j, j < 8 → y.a j = 0) := ⟨fun k j hj => by rw [← h.a j hj]; exact k j hj, fun k j hj => by rw [h.a j hj]; exact k j hj⟩
  simp only [Proofs.Ytpgeebhepegpaaa.okI, kindI, bareI, h.k, h.v, h.okJ 8 (by decide), e]
theorem EqI.secI {x y : Ino} (h : EqI x y) : secI x = secI y := by unfold Proofs.Ytpgeebhepegpaaa.secI; rw [h.nJ 8 (by decide)]
theorem secI_length (x : Ino) : (secI x).length = 128 := be_length _ _
theorem secI_lt (x : Ino) : ∀ y ∈ secI x, y < 256 := be_lt _ _
theorem be_noughts (q V : Nat) : ∀ k, be (q + k) (V * 256 ^ k) = be q V ++ List.replicate k 0
  | 0 => by simp
  | k + 1 => by
    rw [show q + (k + 1) = (q + k) + 1 from rfl, Nat.pow_succ, ← Nat.mul_assoc, be_snoc, be_noughts q V k, List.append_assoc, List.replicate_succ']
theorem row_secI (x : Ino) : rowOf (nJ x 8) 169 ++ List.replicate 106 0 = secI x := by
  have h := be_noughts 22 (nJ x 8 * 2 ^ 7) 106
  unfold rowOf secI
  have e : (2 : Nat) ^ 7 * 256 ^ 106 = 2 ^ sh := pw256 7 106 sh rfl
  rw [Nat.mul_assoc, e] at h
  rw [show qn 169 = 22 from rfl, show pad 169 = 7 from rfl, ← h]
theorem nJ_lt0 {x : Ino} (h : okJ x 0) : u64n x.k < 4 ∧ u64n x.g < 2147483648 ∧ x.v < 1099511627776 := ⟨h.1.1.2, h.1.2, h.2⟩
theorem okJ_le {x : Ino} : ∀ {j i : Nat}, okJ x (i + j) → okJ x i
  | 0, _, h => h
  | j + 1, i, h => okJ_le (j := j) (i := i) h.1
theorem nJ_div {x : Ino} : ∀ (j i : Nat), okJ x (i + j) → nJ x (i + j) / 2 ^ (12 * j) = nJ x i
  | 0, i, _ => by simp
  | j + 1, i, h => by
    have e : nJ x (i + (j + 1)) = nJ x (i + j) * 2 ^ 12 + u64n (x.a (i + j)) := rfl
    have hlt : u64n (x.a (i + j)) < 2 ^ 12 := h.2
    rw [show 12 * (j + 1) = 12 + 12 * j by omega, Nat.pow_add, ← Nat.div_div_eq_div_mul, e, Nat.mul_comm, Nat.mul_add_div (by decide), Nat.div_eq_of_lt hlt, Nat.add_zero]
    exact nJ_div j i h.1
theorem shift_any (N s t : Nat) : N * 2 ^ s / 2 ^ (s + t) = N / 2 ^ t := by
  rw [Nat.pow_add, ← Nat.div_div_eq_div_mul, Nat.mul_div_cancel _ (Nat.two_pow_pos _)]
theorem shift_bits (N a n t : Nat) (h : 8 * 128 - a - n = sh + t) : bitsAt 128 (N * 2 ^ sh) a n = N / 2 ^ t % 2 ^ n := by
  unfold bitsAt
  rw [h, shift_any]
theorem prt_a {x : Ino} (h : okJ x 8) {j : Nat} (hj : j < 8) : bitsAt 128 (nJ x 8 * 2 ^ sh) (73 + 12 * j) 12 = u64n (x.a j) := by
  obtain ⟨i, hi⟩ : ∃ i, 8 = (j + 1) + i := ⟨7 - j, by omega⟩
  have h' := h
  rw [hi] at h'
  have hd := nJ_div i (j + 1) h'
  have hlt : u64n (x.a j) < 2 ^ 12 := (okJ_le (i := j + 1) (j := i) h').2
  rw [shift_bits _ _ _ (12 * i) (by rw [sh_eq]; omega), show nJ x 8 = nJ x (j + 1 + i) by rw [← hi], hd]
  show (nJ x j * 2 ^ 12 + u64n (x.a j)) % 2 ^ 12 = _
  rw [Nat.mul_comm, Nat.mul_add_mod, Nat.mod_eq_of_lt hlt]
theorem prt_0 {x : Ino} (h : okJ x 8) : nJ x 8 / 2 ^ 96 = ((u64n x.k) * 2147483648 + u64n x.g) * 1099511627776 + x.v := by
  have := nJ_div (x := x) 8 0 (by simpa using h)
  rw [show 12 * 8 = 96 from rfl, Nat.zero_add] at this
  rw [this, nJ]
  simp only [Nat.zero_mul, Nat.zero_add]
theorem prt_parts {x : Ino} (h : okJ x 8) : bitsAt 128 (nJ x 8 * 2 ^ sh) 0 2 = u64n x.k ∧ bitsAt 128 (nJ x 8 * 2 ^ sh) 2 31 = u64n x.g ∧ bitsAt 128 (nJ x 8 * 2 ^ sh) 33 40 = x.v := by
  have h0 := nJ_lt0 (okJ_le (i := 0) (j := 8) (by simpa using h))
  have e := prt_0 h
  refine ⟨?_, ?_, ?_⟩
  · rw [shift_bits _ _ _ (96 + 71) rfl, Nat.pow_add, ← Nat.div_div_eq_div_mul, e]; omega
  · rw [shift_bits _ _ _ (96 + 40) rfl, Nat.pow_add, ← Nat.div_div_eq_div_mul, e]; omega
  · rw [shift_bits _ _ _ 96 rfl, e]; omega
theorem u64n_small {z : Int} (h1 : -9223372036854775808 ≤ z ∧ z < 9223372036854775808) (h2 : u64n z < 9223372036854775808) : ((u64n z : Nat) : Int) = z := by unfold u64n at *; omega
theorem byN_be : ∀ (q V : Nat), V < 256 ^ q → byN (be q V) = V
  | 0, V, h => by simp at h; subst h; rfl
  | q + 1, V, h => by
    rw [be, byN_snoc, byN_be q (V / 256) (by rw [Nat.pow_succ] at h; exact Nat.div_lt_of_lt_mul (by rwa [Nat.mul_comm] at h)), Nat.div_add_mod']
theorem nJ_lt {x : Ino} (h : okJ x 8) : nJ x 8 * 2 ^ sh < 256 ^ 128 := by
  have h0 := nJ_lt0 (okJ_le (i := 0) (j := 8) (by simpa using h))
  have e := prt_0 h
  have : nJ x 8 < 2 ^ 169 := by
    have h1 : nJ x 8 / 2 ^ 96 < 2 ^ 73 := by rw [e]; omega
    rw [show 169 = 96 + 73 from rfl, Nat.pow_add]
    have h2 := (Nat.div_lt_iff_lt_mul (Nat.two_pow_pos _)).mp h1
    rwa [Nat.mul_comm] at h2
  refine Nat.lt_of_lt_of_eq ?_ (pw256' 169 128 sh rfl).symm
  exact Nat.mul_lt_mul_of_pos_right this (Nat.two_pow_pos _)
theorem byN_secI {x : Ino} (h : okI x) : byN (secI x) = nJ x 8 * 2 ^ sh := byN_be _ _ (nJ_lt h.2)
theorem prt_back {x : Ino} (hw : WfI x) (h : okI x) : EqI (prt (byN (secI x))) x := by
  rw [byN_secI h]
  obtain ⟨p1, p2, p3⟩ := prt_parts h.2
  have h0 := nJ_lt0 (okJ_le (i := 0) (j := 8) (by simpa using h.2))
  refine ⟨?_, ?_, p3, fun j hj => ?_⟩
  · show ((bitsAt 128 _ 0 2 : Nat) : Int) = _
    rw [p1, u64n_small hw.k (by omega)]
  · show ((bitsAt 128 _ 2 31 : Nat) : Int) = _
    rw [p2, u64n_small hw.g (by omega)]
  · show ((bitsAt 128 _ (73 + 12 * j) 12 : Nat) : Int) = _
    obtain ⟨i, hi⟩ : ∃ i, 8 = (j + 1) + i := ⟨7 - j, by omega⟩
    have h' := h.2
    rw [hi] at h'
    have hlt : u64n (x.a j) < 2 ^ 12 := (okJ_le (i := j + 1) (j := i) h').2
    rw [prt_a h.2 hj, u64n_small (hw.a j hj) (by omega)]
theorem decI_back {x : Ino} (hw : WfI x) (h : okI x) : ∃ y, decI (secI x) = some y ∧ EqI y x := by
  have e := prt_back hw h
  exact ⟨_, if_pos ⟨secI_length x, e.okI.mpr h, e.secI⟩, e⟩
theorem decI_some {l : List Nat} {y : Ino} (h : decI l = some y) : okI y ∧ secI y = l := by
  unfold decI at h
  split at h
  · next hc =>
    obtain rfl := Option.some.inj h
    exact ⟨hc.2.1, hc.2.2⟩
  · cases h
theorem prt_wf (V : Nat) : WfI (prt V) := by
  have h1 := bitsAt_lt 128 V 0 2
  have h2 := bitsAt_lt 128 V 2 31
  have h3 := bitsAt_lt 128 V 33 40
  refine ⟨?_, ?_, ?_, fun j _ => ?_⟩
  · show _ ≤ ((bitsAt 128 V 0 2 : Nat) : Int) ∧ ((bitsAt 128 V 0 2 : Nat) : Int) < _; omega
  · show _ ≤ ((bitsAt 128 V 2 31 : Nat) : Int) ∧ ((bitsAt 128 V 2 31 : Nat) : Int) < _; omega
  · show bitsAt 128 V 33 40 < _; omega
  · have h4 := bitsAt_lt 128 V (73 + 12 * j) 12
    show _ ≤ ((bitsAt 128 V (73 + 12 * j) 12 : Nat) : Int) ∧ ((bitsAt 128 V (73 + 12 * j) 12 : Nat) : Int) < _; omega
/-- what Is asks, in whole numbers -/
def isI (x : Ino) : Prop := (∀ j, j < 8 → 0 ≤ x.a j ∧ x.a j ≤ 4095) ∧ 0 ≤ x.k ∧ x.k ≤ 2 ∧ 0 ≤ x.g ∧ x.g ≤ 2147483647 ∧ x.v ≤ 1099511627775 ∧ (0 < x.k ∨ bareI x)
theorem okJ_iff {x : Ino} : ∀ j, okJ x j ↔ okJ x 0 ∧ ∀ i, i < j → u64n (x.a i) < 2 ^ 12
  | 0 => ⟨fun h => ⟨h, fun _ h => absurd h (Nat.not_lt_zero _)⟩, fun h => h.1⟩
  | j + 1 => by
    show (okJ x j ∧ u64n (x.a j) < 2 ^ 12) ↔ _
    rw [okJ_iff j]
    constructor
    · rintro ⟨⟨h1, h2⟩, h3⟩
      exact ⟨h1, fun i hi => by by_cases e : i = j; subst e; exact h3; exact h2 i (by omega)⟩
    · rintro ⟨h1, h2⟩
      exact ⟨⟨h1, fun i hi => h2 i (by omega)⟩, h2 j (by omega)⟩
theorem isI_iff {x : Ino} (hw : WfI x) : isI x ↔ okI x := by
  unfold isI okI
  rw [okJ_iff 8]
  have hk := hw.k
  have hg := hw.g
  have ha : ∀ j, j < 8 → ((0 ≤ x.a j ∧ x.a j ≤ 4095) ↔ u64n (x.a j) < 2 ^ 12) := fun j hj => by
    have := hw.a j hj
    unfold u64n; omega
  have hg' : u64n x.g < 2 ^ 31 ↔ 0 ≤ x.g ∧ x.g ≤ 2147483647 := by unfold u64n; omega
  have hk' : u64n x.k < 2 ^ 2 ↔ 0 ≤ x.k ∧ x.k ≤ 3 := by unfold u64n; omega
  unfold okJ kindI
  constructor
  · rintro ⟨h1, h2, h3, h4, h5, h6, h7⟩
    refine ⟨?_, ⟨⟨⟨trivial, hk'.mpr ⟨h2, by omega⟩⟩, hg'.mpr ⟨h4, h5⟩⟩, by omega⟩, fun j hj => (ha j hj).mp (h1 j hj)⟩
    split
    · rcases h7 with h7 | h7
      · omega
      · exact h7
    · omega
  · rintro ⟨h1, ⟨⟨⟨_, h2⟩, h3⟩, h4⟩, h5⟩
    have h2 := hk'.mp h2
    have h3 := hg'.mp h3
    split at h1
    · exact ⟨fun j hj => (ha j hj).mpr (h5 j hj), by omega, by omega, h3.1, h3.2, by omega, .inr h1⟩
    · exact ⟨fun j hj => (ha j hj).mpr (h5 j hj), by omega, by omega, h3.1, h3.2, by omega, .inl (by omega)⟩
/-- those that lie somewhere, of the first j -/
def nzI (x : Ino) : Nat → List Int
  | 0 => []
  | j + 1 => if x.a j ≠ 0 then nzI x j ++ [x.a j] else nzI x j
theorem nzI_le (x : Ino) : ∀ j, (nzI x j).length ≤ j
  | 0 => Nat.le_refl _
  | j + 1 => by
    have := nzI_le x j
    unfold nzI
    split
    · simp; omega
    · omega
end Go.Proofs.Ytpgeebhepegpaaa
