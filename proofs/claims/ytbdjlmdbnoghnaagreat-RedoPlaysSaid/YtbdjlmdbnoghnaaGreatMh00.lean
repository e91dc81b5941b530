/-   Plain arithmetic of pieces: numbers as bytes, a piece's sector. Footprints: which blocks an object has, and that a call changes no others. Over any program. What every text stands on: bytes, slices that came in, append of whatever can be read. -/
import Derived.Below
import Derived.OwnWalk
import Derived.Laws.OwnMore
import Derived.Laws.Rows
import Derived.Deep.Draws
import Derived.Maps.AppendAt
import Derived.Deep.AppendLies
import Derived.Deep.RegionHeld
import Derived.Lib.Hide
import Derived.Test.YtbdjlmdbnoghnaaGreatChecked
import Derived.WalkKit
import Derived.WalkLawsBesides
import Derived.WalkSpells
import Derived.BigRegion
import Derived.Laws.BitsAllLaws
import Derived.ProofKit
import Derived.OpenShut
/- Plain arithmetic of the sum in two halves. -/
namespace Go.Proofs.YtbdjlmdbnoghnaaGreat

/-- one byte more -/
def fstep (p : Nat × Nat) (x : Nat) : Nat × Nat := ((p.1 + x) % 65535, (p.2 + (p.1 + x) % 65535) % 65535)
/-- the halves behind a list of bytes -/
def fsum (p : Nat × Nat) (l : List Nat) : Nat × Nat := l.foldl fstep p
/-- the halves as one number -/
def fnum (p : Nat × Nat) : Nat := p.2 * 65536 + p.1
/-- what a number's halves leave -/
def fof (s : Nat) : Nat × Nat := (s % 65536 % 65535, s / 65536 % 65535)
def FOk (p : Nat × Nat) : Prop := p.1 < 65535 ∧ p.2 < 65535

theorem fof_ok (s : Nat) : FOk (fof s) := ⟨Nat.mod_lt _ (by decide), Nat.mod_lt _ (by decide)⟩
theorem fstep_ok (p : Nat × Nat) (x : Nat) : FOk (fstep p x) := ⟨Nat.mod_lt _ (by decide), Nat.mod_lt _ (by decide)⟩
theorem fsum_ok (l : List Nat) : ∀ p, FOk p → FOk (fsum p l) := by
  induction l with
  | nil => exact fun p h => h
  | cons x l ih => exact fun p _ => ih _ (fstep_ok p x)
theorem fnum_lt (p : Nat × Nat) (h : FOk p) : fnum p < 4294967296 := by
  obtain ⟨h1, h2⟩ := h
  unfold fnum; omega
theorem fsum_snoc (p : Nat × Nat) (a : List Nat) (x : Nat) : fsum p (a ++ [x]) = fstep (fsum p a) x := by simp [fsum]
theorem fof_zero : fof 0 = (0, 0) := rfl
end Go.Proofs.YtbdjlmdbnoghnaaGreat
/- Plain arithmetic on rows of bits: a row of m bits is a number below 2^m; its bytes are the digits to the base 256 of that number with noughts behind. -/
namespace Go.Proofs.YtbdjlmdbnoghnaaGreat

/-- q digits to the base 256, the highest first. -/
def be : Nat → Nat → List Nat
  | 0, _ => []
  | q + 1, V => be q (V / 256) ++ [V % 256]

theorem be_length : ∀ q V, (be q V).length = q
  | 0, _ => rfl
  | q + 1, V => by simp [be, be_length q]

theorem be_lt : ∀ q V x, x ∈ be q V → x < 256
  | 0, _, _, h => by simp [be] at h
  | q + 1, V, x, h => by
    simp only [be, List.mem_append, List.mem_singleton] at h
    rcases h with h | h
    · exact be_lt q _ x h
    · subst h; exact Nat.mod_lt _ (by decide)

theorem be_last (q V : Nat) : (be (q + 1) V)[q]? = some (V % 256) := by
  simp only [be]
  rw [List.getElem?_append_right (by rw [be_length]; exact Nat.le_refl _), be_length]
  simp

theorem be_last' (q V : Nat) (hq : 0 < q) : (be q V)[q - 1]? = some (V % 256) := by
  obtain ⟨p, rfl⟩ : ∃ p, q = p + 1 := ⟨q - 1, by omega⟩
  exact be_last p V

theorem be_set_last (q V V' : Nat) (hq : 0 < q) (h : V' / 256 = V / 256) : (be q V).set (q - 1) (V' % 256) = be q V' := by
  obtain ⟨p, rfl⟩ : ∃ p, q = p + 1 := ⟨q - 1, by omega⟩
  simp only [be, h, Nat.add_sub_cancel]
  rw [List.set_append_right _ _ (by rw [be_length]; exact Nat.le_refl _), be_length]
  simp

theorem be_snoc (q V : Nat) : be (q + 1) (V * 256) = be q V ++ [0] := by
  simp only [be]
  rw [Nat.mul_div_cancel _ (by decide), Nat.mul_mod_left]

/-- how many bytes m bits are, and how many bits of the last one are not put -/
def qn (m : Nat) : Nat := (m + 7) / 8
def pad (m : Nat) : Nat := (8 - m % 8) % 8
theorem qn_pad (m : Nat) : 8 * qn m = m + pad m := by unfold qn pad; omega
theorem pad_lt (m : Nat) : pad m < 8 := by unfold pad; omega

/-- The row of the number N of m bits. -/
def rowOf (N m : Nat) : List Nat := be (qn m) (N * 2 ^ pad m)

theorem or_low (V c s r : Nat) (hr : r ≤ 8) (hc : c * 2 ^ s < 2 ^ r) (hV : ∃ N, V = N * 2 ^ r) : (V % 256) ||| (c * 2 ^ s) = (V + c * 2 ^ s) % 256 := by
  obtain ⟨N, rfl⟩ := hV
  have h256 : (256 : Nat) = 2 ^ r * 2 ^ (8 - r) := by rw [← Nat.pow_add, show r + (8 - r) = 8 from by omega]
  have h1 : N * 2 ^ r % 256 = 2 ^ r * (N % 2 ^ (8 - r)) := by
    rw [h256, Nat.mul_comm N, Nat.mul_mod_mul_left]
  rw [h1, ← Nat.two_pow_add_eq_or_of_lt hc]
  have h2 : N % 2 ^ (8 - r) < 2 ^ (8 - r) := Nat.mod_lt _ (Nat.two_pow_pos _)
  have h3 : 2 ^ r * (N % 2 ^ (8 - r)) + c * 2 ^ s < 256 := by
    rw [h256]
    calc 2 ^ r * (N % 2 ^ (8 - r)) + c * 2 ^ s < 2 ^ r * (N % 2 ^ (8 - r)) + 2 ^ r := by omega
      _ = 2 ^ r * (N % 2 ^ (8 - r) + 1) := by rw [Nat.mul_add, Nat.mul_one]
      _ ≤ 2 ^ r * 2 ^ (8 - r) := Nat.mul_le_mul_left _ h2
  rw [Nat.add_mod, h1]
  rw [Nat.mod_eq_of_lt (a := c * 2 ^ s) (by
    have : 2 ^ r * 1 ≤ 2 ^ r * 2 ^ (8 - r) := Nat.mul_le_mul_left _ (Nat.two_pow_pos _)
    omega), Nat.mod_eq_of_lt h3]

/-- One round of lay: of the n bits of y the first k are put into the last byte, of which r bits are free. -/
theorem lay_round (q N r n y k : Nat) (hr0 : 0 < r) (hr : r ≤ 8) (hq : 0 < q) (hk : k = min n r) (hy : y < 2 ^ n) :
    (N * 2 ^ r % 256) ||| (y / 2 ^ (n - k) % 256 * 2 ^ (r - k) % 256) = ((N * 2 ^ k + y / 2 ^ (n - k)) * 2 ^ (r - k)) % 256 ∧
    (be q (N * 2 ^ r)).set (q - 1) (((N * 2 ^ k + y / 2 ^ (n - k)) * 2 ^ (r - k)) % 256) = be q ((N * 2 ^ k + y / 2 ^ (n - k)) * 2 ^ (r - k)) := by
  have hkr : k ≤ r := by omega
  have hkn : k ≤ n := by omega
  have hc : y / 2 ^ (n - k) < 2 ^ k := by
    rw [Nat.div_lt_iff_lt_mul (Nat.two_pow_pos _), ← Nat.pow_add, show k + (n - k) = n from by omega]
    exact hy
  have hk8 : 2 ^ k ≤ 256 := by
    have := Nat.pow_le_pow_right (n := 2) (by decide) (show k ≤ 8 by omega)
    simpa using this
  have hcs : y / 2 ^ (n - k) * 2 ^ (r - k) < 2 ^ r := by
    have : y / 2 ^ (n - k) * 2 ^ (r - k) < 2 ^ k * 2 ^ (r - k) := Nat.mul_lt_mul_of_pos_right hc (Nat.two_pow_pos _)
    rwa [← Nat.pow_add, show k + (r - k) = r from by omega] at this
  have hr8 : 2 ^ r ≤ 256 := by
    have := Nat.pow_le_pow_right (n := 2) (by decide) hr
    simpa using this
  have hsum : (N * 2 ^ k + y / 2 ^ (n - k)) * 2 ^ (r - k) = N * 2 ^ r + y / 2 ^ (n - k) * 2 ^ (r - k) := by
    rw [Nat.add_mul, Nat.mul_assoc, ← Nat.pow_add, show k + (r - k) = r from by omega]
  constructor
  · rw [Nat.mod_eq_of_lt (a := y / 2 ^ (n - k)) (by omega), Nat.mod_eq_of_lt (a := y / 2 ^ (n - k) * 2 ^ (r - k)) (by omega), hsum]
    exact or_low _ _ _ r hr hcs ⟨N, rfl⟩
  · apply be_set_last _ _ _ hq
    rw [hsum]
    have h256 : (256 : Nat) = 2 ^ r * 2 ^ (8 - r) := by rw [← Nat.pow_add, show r + (8 - r) = 8 from by omega]
    rw [h256, ← Nat.div_div_eq_div_mul, ← Nat.div_div_eq_div_mul, Nat.mul_div_cancel _ (Nat.two_pow_pos _), Nat.add_comm, Nat.mul_comm N, Nat.add_mul_div_left _ _ (Nat.two_pow_pos _), Nat.div_eq_of_lt hcs, Nat.zero_add]

/-- what is put after it: the rest of y -/
theorem lay_rest (N n y k : Nat) (hk : k ≤ n) : (N * 2 ^ k + y / 2 ^ (n - k)) * 2 ^ (n - k) + y % 2 ^ (n - k) = N * 2 ^ n + y := by
  rw [Nat.add_mul, Nat.mul_assoc, ← Nat.pow_add, show k + (n - k) = n from by omega, Nat.add_assoc]
  congr 1
  exact Nat.div_add_mod' _ _

theorem put_lt (N m n x : Nat) (hN : N < 2 ^ m) (hx : x < 2 ^ n) : N * 2 ^ n + x < 2 ^ (m + n) := by
  rw [Nat.pow_add]
  calc N * 2 ^ n + x < N * 2 ^ n + 2 ^ n := by omega
    _ = (N + 1) * 2 ^ n := by rw [Nat.add_mul, Nat.one_mul]
    _ ≤ 2 ^ m * 2 ^ n := Nat.mul_le_mul_right _ hN
theorem cast_c (y s : Nat) : (((y % 256 * 2 ^ s % 256 : Nat)) : Int) = (y : Int) % 256 * 2 ^ s % 256 := by
  rw [Int.natCast_emod, Int.natCast_mul, Int.natCast_emod, Int.natCast_pow]; rfl
theorem cast_c0 (y k s : Nat) : (y : Int) % 256 * 2 ^ s % 256 = (((y / 2 ^ (k - k) % 256 * 2 ^ s % 256 : Nat)) : Int) := by
  rw [Nat.sub_self, Nat.pow_zero, Nat.div_one, cast_c]
theorem be_snoc8 (q N : Nat) : be (q + 1) (N * 2 ^ 8) = be q (N * 2 ^ 0) ++ [0] := by
  rw [Nat.pow_zero, Nat.mul_one]; exact be_snoc q N
end Go.Proofs.YtbdjlmdbnoghnaaGreat
namespace Go.Proofs.YtbdjlmdbnoghnaaGreat

/-- bytes as a number -/
def val (l : List Nat) : Nat := l.foldl (fun x b => x * 256 + b) 0

theorem val_snoc (l : List Nat) (b : Nat) : val (l ++ [b]) = val l * 256 + b := by simp [val]
theorem val_lt : ∀ n (l : List Nat), l.length = n → (∀ b ∈ l, b < 256) → val l < 256 ^ n
  | 0, l, h, _ => by
    obtain rfl := List.eq_nil_of_length_eq_zero h
    decide
  | n + 1, l, h, hb => by
    have hne : l ≠ [] := fun e => by simp [e] at h
    rw [← List.dropLast_concat_getLast hne] at hb ⊢
    have h1 := val_lt n l.dropLast (by simp [h]) (fun b hm => hb b (by simp [hm]))
    have h2 := hb (l.getLast hne) (by simp)
    rw [val_snoc, Nat.pow_succ]
    omega
theorem be_val : ∀ n (l : List Nat), l.length = n → (∀ b ∈ l, b < 256) → be n (val l) = l
  | 0, l, h, _ => by
    obtain rfl := List.eq_nil_of_length_eq_zero h
    rfl
  | n + 1, l, h, hb => by
    have hne : l ≠ [] := fun e => by simp [e] at h
    have e := List.dropLast_concat_getLast hne
    rw [← e] at hb
    have h2 := hb (l.getLast hne) (by simp)
    have h1 := be_val n l.dropLast (by simp [h]) (fun b hm => hb b (by simp [hm]))
    have hv : val l = val l.dropLast * 256 + l.getLast hne := by rw [← val_snoc, e]
    rw [be, hv, show (val l.dropLast * 256 + l.getLast hne) / 256 = val l.dropLast by omega, show (val l.dropLast * 256 + l.getLast hne) % 256 = l.getLast hne by omega, h1, e]
theorem val_append (a : List Nat) : ∀ n (b : List Nat), b.length = n → val (a ++ b) = val a * 256 ^ n + val b
  | 0, b, h => by
    obtain rfl := List.eq_nil_of_length_eq_zero h
    simp [val]
  | n + 1, b, h => by
    have hne : b ≠ [] := fun e => by simp [e] at h
    have e := List.dropLast_concat_getLast hne
    have h1 := val_append a n b.dropLast (by simp [h])
    have h2 : val b = val b.dropLast * 256 + b.getLast hne := by rw [← val_snoc, e]
    have h3 : val (a ++ b) = val (a ++ b.dropLast) * 256 + b.getLast hne := by rw [← val_snoc, List.append_assoc, e]
    rw [h3, h1, h2, Nat.pow_succ, Nat.add_mul, Nat.mul_assoc]
    omega

def stamp (e c : Nat) : Nat := e * 1099511627776 + c
theorem stamp_lt {e c : Nat} (he : e ≤ 16777215) (hc : c ≤ 1099511627775) : stamp e c < 18446744073709551616 := by unfold stamp; omega
theorem pow8 : 256 ^ 8 = 18446744073709551616 := by decide
/-- A piece. -/
structure Pc where
  e : Nat
  c : Nat
  f : Bool
  g : Bool
  d : List Nat
def Pc.ok (p : Pc) : Prop := p.e ≤ 16777215 ∧ p.c ≤ 1099511627775 ∧ p.d.length ≤ 106
instance (p : Pc) : Decidable p.ok := by unfold Pc.ok; exact inferInstance
def zeroP : Pc := ⟨0, 0, false, false, []⟩
def flg (f g : Bool) : Nat := (if f then 1 else 0) + (if g then 2 else 0)
theorem flg_lt (f g : Bool) : flg f g < 4 := by cases f <;> cases g <;> decide
theorem flg_inj {f g f' g' : Bool} (h : flg f g = flg f' g') : f = f' ∧ g = g' := by
  revert h; cases f <;> cases g <;> cases f' <;> cases g' <;> decide
def front (p : Pc) : List Nat := be 8 (stamp p.e p.c) ++ (flg p.f p.g :: p.d.length :: (p.d ++ List.replicate (106 - p.d.length) 0))
def sealL (p : Pc) : List Nat := front p ++ (be 4 (fnum (fsum (0, 0) (front p))) ++ be 8 (stamp p.e p.c))
theorem front_length {p : Pc} (h : p.d.length ≤ 106) : (front p).length = 116 := by
  simp only [front, List.length_append, be_length, List.length_cons, List.length_replicate]; omega
theorem sealL_length {p : Pc} (h : p.d.length ≤ 106) : (sealL p).length = 128 := by
  simp only [sealL, List.length_append, be_length, front_length h]
theorem front_lt {p : Pc} (h : p.d.length ≤ 106) (hd : ∀ x ∈ p.d, x < 256) : ∀ x ∈ front p, x < 256 := by
  intro x hx
  rw [front, List.mem_append] at hx
  rcases hx with hx | hx
  · exact be_lt _ _ x hx
  · rw [List.mem_cons, List.mem_cons, List.mem_append] at hx
    rcases hx with rfl | rfl | hx | hx
    · have := flg_lt p.f p.g; omega
    · omega
    · exact hd x hx
    · rw [List.eq_of_mem_replicate hx]; decide
theorem sealL_lt {p : Pc} (h : p.d.length ≤ 106) (hd : ∀ x ∈ p.d, x < 256) : ∀ x ∈ sealL p, x < 256 := by
  intro x hx
  rw [sealL, List.mem_append, List.mem_append] at hx
  rcases hx with hx | hx | hx
  · exact front_lt h hd x hx
  · exact be_lt _ _ x hx
  · exact be_lt _ _ x hx

/-- which piece bytes would be -/
def dec (l : List Nat) : Pc := ⟨val (l.take 8) / 1099511627776, val (l.take 8) % 1099511627776, l.getD 8 0 % 2 == 1, l.getD 8 0 / 2 % 2 == 1, (l.drop 10).take (l.getD 9 0)⟩
/-- whether bytes are a piece's sector -/
def Whole (l : List Nat) : Prop := l.length = 128 ∧ l.getD 9 0 ≤ 106 ∧ sealL (dec l) = l
instance (l : List Nat) : Decidable (Whole l) := by unfold Whole; exact inferInstance
def unsealP (l : List Nat) : Pc := if Whole l then dec l else zeroP
def unsealE (l : List Nat) : Int := if Whole l then 0 else 4
theorem dec_ok {l : List Nat} (h : l.length = 128) (h9 : l.getD 9 0 ≤ 106) (hl : ∀ x ∈ l, x < 256) : (dec l).ok := by
  have h1 := val_lt 8 (l.take 8) (by simp [h]) (fun x hx => hl x (List.mem_of_mem_take hx))
  rw [pow8] at h1
  refine ⟨?_, ?_, ?_⟩
  · show val (l.take 8) / 1099511627776 ≤ 16777215; omega
  · show val (l.take 8) % 1099511627776 ≤ 1099511627775; omega
  · show ((l.drop 10).take (l.getD 9 0)).length ≤ 106; rw [List.length_take]; omega
theorem sealL_take8 (p : Pc) : (sealL p).take 8 = be 8 (stamp p.e p.c) := by
  rw [sealL, front, List.append_assoc, List.take_left' (be_length 8 _)]
theorem sealL_drop120 {p : Pc} (h : p.d.length ≤ 106) : (sealL p).drop 120 = be 8 (stamp p.e p.c) := by
  rw [sealL, ← List.append_assoc, List.drop_left' (by rw [List.length_append, front_length h, be_length])]
theorem sealL_8 (p : Pc) : (sealL p).getD 8 0 = flg p.f p.g := by
  rw [sealL, front, List.append_assoc, List.getD_eq_getElem?_getD, List.getElem?_append_right (by rw [be_length]; decide), be_length]; rfl
/-- the epochs at both ends: the first three of eight bytes -/
theorem val3 {l : List Nat} (h : l.length = 8) (hl : ∀ x ∈ l, x < 256) : val l / 1099511627776 = val (l.take 3) := by
  have h1 := val_append (l.take 3) 5 (l.drop 3) (by simp [h])
  have h2 := val_lt 5 (l.drop 3) (by simp [h]) (fun x hx => hl x (List.mem_of_mem_drop hx))
  rw [List.take_append_drop] at h1
  rw [h1]
  have e : 256 ^ 5 = 1099511627776 := by decide
  rw [e] at h2 ⊢
  omega
end Go.Proofs.YtbdjlmdbnoghnaaGreat
namespace Go.Proofs.YtbdjlmdbnoghnaaGreat
open Go.RowKit

/-! A region that draws its order, step by step: what is given by program each time stands in the laws. -/
section
variable {P : Program} {ops : Array Oper} {Q : Exit → Act → World → Prop} {md : Region.Mode} {S : World → Prop} {i : Nat} {fuel : Nat} {listed : Array Bool} {a : Act} {w : World} {oi : Oper}
theorem sA {α : Type _} (l : List α) (i : Nat) (x : α) : l.toArray.setIfInBounds i x = (l.set i x).toArray := List.setIfInBounds_toArray l i x
theorem sB {α : Type _} (x y : α) (l : List α) : (x :: l).set 0 y = y :: l := rfl
theorem sC {α : Type _} (x y : α) (l : List α) (n : Nat) : (x :: l).set (n + 1) y = x :: l.set n y := rfl
theorem rstart {id : Nat} (hS : S w.drew) (h : Hid (S w.drew) → wpAnyH P .any ops Q S ops.size (Array.replicate ops.size false) a w.drew) (hm : P.follows .mixedOrders = true := by kernel_rfl) : (Code.region id ops true).wp P Q a w := wp_region_held_drew hm hS (fun x => h (Lib.hid x))
theorem tk {v : Value} (hS : S w) (hy : ∀ w, S w → (execOp a.eval oi).run P w = .ok (.value v) w) (h : wpAnyH P md ops Q S fuel (listed.setIfInBounds i true) (a.put oi.dst v) w) (hi : ops[i]? = some oi := by exact rfl)
    (hs : Region.noSelect ops = true := by kernel_rfl) (hf : Region.free md ops listed i = true := by kernel_rfl) (hr : (Region.ready md ops listed).contains i = true := by kernel_rfl) (hQ : ∀ c a w, Q (.panic c) (a.put oi.dst v) w → Q (.panic c) a w := by exact fun _ _ _ h => h)
    (hg : Region.wanted oi (yielded ops a.tmps) = true := by rfl) : wpAnyH P md ops Q S (fuel + 1) listed a w := wpAnyH_take hi hs hf hr hQ (.inl ⟨hg, hy⟩) hS h
theorem tks (hS : S w) (h : wpAnyH P md ops Q S fuel (listed.setIfInBounds i true) (a.put oi.dst undef) w) (hi : ops[i]? = some oi := by exact rfl)
    (hs : Region.noSelect ops = true := by kernel_rfl) (hf : Region.free md ops listed i = true := by kernel_rfl) (hr : (Region.ready md ops listed).contains i = true := by kernel_rfl) (hQ : ∀ c a w, Q (.panic c) (a.put oi.dst undef) w → Q (.panic c) a w := by exact fun _ _ _ h => h)
    (hg : Region.wanted oi (yielded ops a.tmps) = false := by rfl) : wpAnyH P md ops Q S (fuel + 1) listed a w := wpAnyH_take hi hs hf hr hQ (.inr ⟨hg, rfl⟩) hS h
theorem rdy (h : ∀ K' : Act → World → Prop, Shut (∀ a w, S w → (S w → wpAnyH P md ops Q S fuel (listed.setIfInBounds i true) a w) → K' a w) → if Region.wanted oi (yielded ops a.tmps) = true then Oper.wp P oi a w K' Q else K' (a.put oi.dst undef) w)
    (ho : ops[i]? = some oi := by exact rfl) (hr : Region.ready md ops listed = [i] := by kernel_rfl) : wpAnyH P md ops Q S (fuel + 1) listed a w := wpAnyH_ready hr (by simp) (AllReadyH.cons ho h AllReadyH.nil)
end

/-- The block g is just the cells cs of type t, none frozen. -/
def Blk (w : World) (g : Nat) (t : TypeId) (cs : Array Value) : Prop := w.heap[g]? = some (.cells cs t (0, 0))

section
variable {w w' : World} {g : Nat} {t : TypeId} {cs : Array Value}
theorem Blk.lt (h : Blk w g t cs) : g < w.heap.size := by
  rcases Nat.lt_or_ge g w.heap.size with hlt | hge
  · exact hlt
  · unfold Blk at h; rw [Array.getElem?_eq_none hge] at h; cases h
theorem Blk.cell (h : Blk w g t cs) (i : Nat) : w.cell? ⟨g, i, none⟩ = cs[i]? := cell_of_row w g i cs t (0, 0) h
theorem Blk.frozen (h : Blk w g t cs) (i : Nat) : w.frozen? ⟨g, i, none⟩ = false := by
  unfold Blk at h
  simp [World.frozen?, h]
theorem Blk.new (w : World) (t : TypeId) (cs : Array Value) : Blk (w.alloc (.cells cs t)) w.heap.size t cs := heap_alloc_new w _
theorem Blk.set_ (h : Blk w g t cs) (i : Nat) (u : Value) : Blk (w.setCell ⟨g, i, none⟩ u) g t (cs.setIfInBounds i u) := by
  unfold Blk at h ⊢
  simp [World.setCell, Array.getElem?_modify, h]
theorem Blk.far (h : Blk w g t cs) {p : Addr} (hp : g ≠ p.block) (u : Value) : Blk (w.setCell p u) g t cs := (Below.heap_setCell w p u g hp).trans h
theorem Blk.alloc (h : Blk w g t cs) (o : Obj) : Blk (w.alloc o) g t cs := (Below.heap_alloc w o g h.lt).trans h
theorem Blk.keep (h : Blk w g t cs) (hb : w'.heap[g]? = w.heap[g]?) : Blk w' g t cs := hb.trans h
theorem Blk.drew (h : Blk w g t cs) : Blk w.drew g t cs := h
theorem Blk.ne_ {g' : Nat} {t' : TypeId} {cs' : Array Value} (h : Blk w g t cs) (h' : Blk w g' t' cs') (hne : t ≠ t') : g ≠ g' := by
  rintro rfl
  unfold Blk at h h'
  rw [h] at h'
  injection h' with h'
  injection h' with _ ht
  exact hne ht
theorem own_blk_ne {base : Nat} {e : TypeId} {size n : Nat} {v : Value} {xs : List Value} (h : w.ownsRow base e size v n xs) (hg : Blk w g t cs) (hne : e ≠ t) : v.ownBlock ≠ some g := by
  rcases h.2 with ⟨rfl, _⟩ | ⟨g', cap, cur, rfl, _, hh, _⟩
  · simp [Value.ownBlock]
  · intro he
    have : g' = g := by simpa [Value.ownBlock] using he
    subst this
    exact Blk.ne_ (t := e) hh hg hne rfl
end

/-- From w to w' nothing but the blocks of F has changed; F' are the blocks that the object has behind it: such as it had, or new ones. -/
structure Adv (F : Nat → Prop) (w : World) (F' : Nat → Prop) (w' : World) : Prop where
  os : w'.os = w.os
  tape : w'.tape = w.tape
  output : w'.output = w.output
  size : w.heap.size ≤ w'.heap.size
  block : ∀ k, k < w.heap.size → ¬ F k → w'.heap[k]? = w.heap[k]?
  into : ∀ k, F' k → F k ∨ w.heap.size ≤ k

/-- Two objects share no block. -/
def Sep (F G : Nat → Prop) : Prop := ∀ k, F k → G k → False
/-- The blocks of an object are there. -/
def Bd (F : Nat → Prop) (w : World) : Prop := ∀ k, F k → k < w.heap.size
def Nul : Nat → Prop := fun _ => False

section
variable {F F' F'' G : Nat → Prop} {w w' w'' : World}
theorem Adv.refl (F : Nat → Prop) (w : World) : Adv F w F w := ⟨rfl, rfl, rfl, Nat.le_refl _, fun _ _ _ => rfl, fun _ h => .inl h⟩
theorem Adv.trans (h : Adv F w F' w') (k : Adv F' w' F'' w'') : Adv F w F'' w'' :=
  ⟨k.os.trans h.os, k.tape.trans h.tape, k.output.trans h.output, Nat.le_trans h.size k.size,
   fun i hi hn => (k.block i (Nat.lt_of_lt_of_le hi h.size) (fun hf => by rcases h.into i hf with h1 | h1; exact hn h1; omega)).trans (h.block i hi hn),
   fun i hi => by
     rcases k.into i hi with h1 | h1
     · exact h.into i h1
     · exact .inr (Nat.le_trans h.size h1)⟩
theorem Adv.sep (h : Adv F w F' w') (hs : Sep F G) (hb : Bd G w) : Sep F' G := fun k h1 h2 => by
  rcases h.into k h1 with h3 | h3
  · exact hs k h3 h2
  · exact absurd (hb k h2) (by omega)
theorem Sep.symm (h : Sep F G) : Sep G F := fun k a b => h k b a
theorem Adv.bd (h : Adv F w F' w') (hb : Bd G w) : Bd G w' := fun k hk => Nat.lt_of_lt_of_le (hb k hk) h.size
theorem Adv.far (h : Adv F w F' w') (hs : Sep F G) (hb : Bd G w) : ∀ k, G k → w'.heap[k]? = w.heap[k]? := fun k hk => h.block k (hb k hk) (fun hf => hs k hf hk)
theorem Adv.below {B : Nat} {w0 : World} (hb : Below B w0 w) (h : Adv F w F' w') (hf : ∀ k, F k → B ≤ k) (hB : B ≤ w.heap.size) : Below B w0 w' :=
  hb.trans ⟨h.os, h.tape, h.output, h.size, fun k hk => h.block k (by omega) (fun hF => by have := hf k hF; omega)⟩
theorem Adv.of_below (h : Below w.heap.size w w') : Adv F w F w' := ⟨h.os, h.tape, h.output, h.size, fun k hk _ => h.block k hk, fun _ hk => .inl hk⟩
/-- new blocks alone -/
theorem Adv.new_ (h : Below w.heap.size w w') (hn : ∀ k, F' k → w.heap.size ≤ k) : Adv Nul w F' w' := ⟨h.os, h.tape, h.output, h.size, fun k hk _ => h.block k hk, fun k hk => .inr (hn k hk)⟩
theorem Adv.toBelow (h : Adv Nul w F' w') : Below w.heap.size w w' := ⟨h.os, h.tape, h.output, h.size, fun k hk => h.block k hk (fun x => x)⟩
theorem Adv.weak (h : Adv F w F' w') (hG : ∀ k, F k → G k) : Adv G w F' w' := ⟨h.os, h.tape, h.output, h.size, fun k hk hn => h.block k hk (fun hf => hn (hG k hf)), fun k hk => (h.into k hk).imp (hG k) id⟩
theorem Adv.sub (h : Adv F w F' w') (hG : ∀ k, G k → F' k) : Adv F w G w' := ⟨h.os, h.tape, h.output, h.size, h.block, fun k hk => h.into k (hG k hk)⟩
theorem Adv.drew (h : Adv F w F' w') : Adv F w F' w'.drew := ⟨h.os, h.tape, h.output, h.size, h.block, h.into⟩
theorem Adv.drewN (h : Adv F w F' w') (n : Nat) : Adv F w F' (w'.drewN n) := ⟨h.os, h.tape, h.output, h.size, h.block, h.into⟩
theorem Adv.alloc (h : Adv F w F' w') (o : Obj) : Adv F w F' (w'.alloc o) :=
  h.trans ⟨rfl, rfl, rfl, by simp, fun k hk _ => Below.heap_alloc _ _ _ hk, fun _ hk => .inl hk⟩
theorem Adv.setCell (h : Adv F w F' w') {p : Addr} (hp : F p.block ∨ w.heap.size ≤ p.block) (u : Value) : Adv F w F' (w'.setCell p u) :=
  ⟨h.os, h.tape, h.output, by simpa [World.setCell] using h.size, fun k hk hn => (Below.heap_setCell _ _ _ _ (by
    rintro rfl
    rcases hp with hp | hp
    · exact hn hp
    · omega)).trans (h.block k hk hn), h.into⟩
theorem Adv.grown {row : Option Nat} (h : Adv F w F' w') (hg : w'.grownBy w'' row) (hr : ∀ k, row = some k → F k ∨ w.heap.size ≤ k) : Adv F w F' w'' :=
  ⟨hg.os.trans h.os, hg.tape.trans h.tape, hg.output.trans h.output, Nat.le_trans h.size hg.size, fun k hk hn => (hg.block k (Nat.lt_of_lt_of_le hk h.size) (fun e => by
    rcases hr k e.symm with h1 | h1
    · exact hn h1
    · omega)).trans (h.block k hk hn), h.into⟩
end

/-- A slice value over a row of the object's own: n elements of type e, their cells xs. -/
structure Sl (w : World) (F : Nat → Prop) (e : TypeId) (size : Nat) (v : Value) (n : Nat) (xs : List Value) : Prop where
  own : w.ownsRow 0 e size v n xs
  inF : ∀ k, v.ownBlock = some k → F k
  bd : Bd F w

section
variable {F F' G : Nat → Prop} {w w' : World} {e : TypeId} {size n : Nat} {v : Value} {xs : List Value}
theorem own_keep {base : Nat} (h : w.ownsRow base e size v n xs) (hk : ∀ k, v.ownBlock = some k → w'.heap[k]? = w.heap[k]?) : w'.ownsRow base e size v n xs := by
  refine ⟨h.1, ?_⟩
  rcases h.2 with hn | ⟨g, cap, cur, rfl, hb, hgg, rest⟩
  · exact .inl hn
  · exact .inr ⟨g, cap, cur, rfl, hb, (hk g rfl).trans hgg, rest⟩
theorem own_base {base : Nat} (h : w.ownsRow base e size v n xs) : w.ownsRow 0 e size v n xs := by
  refine ⟨h.1, ?_⟩
  rcases h.2 with hn | ⟨g, cap, cur, rfl, hb, rest⟩
  · exact .inl hn
  · exact .inr ⟨g, cap, cur, rfl, Nat.zero_le _, rest⟩
theorem Sl.far (h : Sl w F e size v n xs) (ha : Adv G w F' w') (hs : Sep G F) : Sl w' F e size v n xs :=
  ⟨own_keep h.own fun k hk => ha.far hs h.bd k (h.inF k hk), h.inF, ha.bd h.bd⟩
theorem Sl.drew (h : Sl w F e size v n xs) : Sl w.drew F e size v n xs := ⟨h.own, h.inF, h.bd⟩
theorem Sl.nil (w : World) (e : TypeId) (size : Nat) : Sl w Nul e size (.slice none 0 0) 0 [] :=
  ⟨World.ownsRow_nil _ _ _ _, by simp [Value.ownBlock], fun _ h => h.elim⟩
theorem Sl.nilF (w : World) (F : Nat → Prop) (hb : Bd F w) (e : TypeId) (size : Nat) : Sl w F e size (.slice none 0 0) 0 [] :=
  ⟨World.ownsRow_nil _ _ _ _, by simp [Value.ownBlock], hb⟩
/-- what an owned slice that is not empty looks like -/
theorem Sl.form (h : Sl w F e size v n xs) (hn : 0 < n) : ∃ g cap, v = .slice (some ⟨g, 0, none⟩) n cap ∧ F g ∧ n ≤ cap := by
  obtain ⟨g, cap, hv, _, _⟩ := h.own.form hn
  subst hv
  refine ⟨g, cap, rfl, h.inF g rfl, ?_⟩
  rcases h.own.2 with ⟨hv, _⟩ | ⟨g', cap', cur, hv, _, _, hc, _⟩
  · cases hv
  · injection hv with _ _ h3; omega
theorem Sl.form0 (h : Sl w F e size v n xs) : ∃ a cap, v = .slice a n cap ∧ n ≤ cap ∧ cap ≤ maxLen := by
  rcases h.own.2 with ⟨rfl, rfl⟩ | ⟨g', cap', cur, rfl, _, _, hc, hc2, _⟩
  · exact ⟨_, _, rfl, Nat.le_refl _, Nat.zero_le _⟩
  · exact ⟨_, _, rfl, hc, hc2⟩
end

/-- A slice value that can be read: n elements, their cells xs. -/
def Rd (w : World) (size : Nat) (v : Value) (n : Nat) (xs : List Value) : Prop :=
  ∃ A c, v = .slice A n c ∧ n ≤ c ∧ c ≤ maxLen ∧ xs.length = n * size ∧ (A = none → c = 0) ∧ (0 < n → ∃ ad, A = some ad ∧ ad.block < w.heap.size ∧ ∀ j u, xs[j]? = some u → w.cell? (ad.add j) = some u)

section
variable {F F' G : Nat → Prop} {w w' : World} {e : TypeId} {size n : Nat} {v : Value} {xs : List Value}
theorem add_block (a : Addr) (j : Nat) : (a.add j).block = a.block := by unfold Addr.add; split <;> rfl
theorem Sl.rd (h : Sl w F e size v n xs) : Rd w size v n xs := by
  rcases h.own.2 with ⟨rfl, rfl⟩ | ⟨g, cap, cur, rfl, _, hg, hnc, hcm, _, _⟩
  · exact ⟨none, 0, rfl, Nat.le_refl _, Nat.zero_le _, h.own.1, fun _ => rfl, fun hn => absurd hn (by omega)⟩
  · exact ⟨_, _, rfl, hnc, hcm, h.own.1, fun hn => by (cases hn), fun _ => ⟨_, rfl, h.bd g (h.inF g rfl), h.own.cells (g := g) rfl⟩⟩
/-- The block of a slice that can be read, if it has elements. -/
theorem Rd.far (h : Rd w size v n xs) (hk : ∀ k, v.ownBlock = some k → 0 < n → k < w.heap.size → w'.heap[k]? = w.heap[k]?) (hs : w.heap.size ≤ w'.heap.size) : Rd w' size v n xs := by
  obtain ⟨A, c, rfl, h1, h2, h3, h4, h5⟩ := h
  refine ⟨A, c, rfl, h1, h2, h3, h4, fun hn => ?_⟩
  obtain ⟨ad, rfl, hb, hc⟩ := h5 hn
  refine ⟨ad, rfl, Nat.lt_of_lt_of_le hb hs, fun j u hu => ?_⟩
  rw [← hc j u hu]
  exact World.cell?_of_block (by rw [add_block]; exact hk _ rfl hn hb)
theorem Rd.below {B : Nat} (h : Rd w size v n xs) (hb : Below B w w') (hB : ∀ k, v.ownBlock = some k → 0 < n → k < w.heap.size → k < B) : Rd w' size v n xs :=
  h.far (fun k hk hn hl => hb.block k (hB k hk hn hl)) hb.size
end

theorem Adv.of_drewN {F F' : Nat → Prop} {w w' : World} {n : Nat} (h : Adv F (w.drewN n) F' w') : Adv F w F' w' := ⟨h.os, h.tape, h.output, h.size, h.block, h.into⟩
theorem Adv.same {F F' G : Nat → Prop} {w w' : World} (h : Adv F w F' w') (hG : ∀ k, F k → G k) : Adv G w G w' := ⟨h.os, h.tape, h.output, h.size, fun k hk hn => h.block k hk (fun hf => hn (hG k hf)), fun _ hk => .inl hk⟩
theorem Adv.of_drew {F F' : Nat → Prop} {w w' : World} (h : Adv F w.drew F' w') : Adv F w F' w' := ⟨h.os, h.tape, h.output, h.size, h.block, h.into⟩

theorem Adv.over {F F' G : Nat → Prop} {w w1 w2 : World} (h : Adv F w G w1) (k : Adv Nul w1 F' w2) : Adv F w G w2 := h.trans (k.same (fun _ x => x.elim))
end Go.Proofs.YtbdjlmdbnoghnaaGreat
namespace Go.Proofs.YtbdjlmdbnoghnaaGreat
open Go.ChangeShapes Go.WideShapes Go.ChangeAt Go.RowKit

theorem Tryz.infoU8 : (Tryz.prog.info? 5).map (fun i => (i.zero, i.size, i.bytes)) = some (some (.int .u8 0), 1, 1) := by kernel_rfl

/-- A byte as a value. -/
def u8 (x : Nat) : Value := .int .u8 (x : Int)

theorem u8_one (l : List Nat) : ∀ u ∈ l.map u8, u.oneCell' = true := by
  intro u hu
  obtain ⟨x, _, rfl⟩ := List.mem_map.1 hu
  rfl

theorem getD_map_int (k : IntKind) (zs : List Int) (n j : Nat) (u : Value) (h : ((zs.take n).map (Value.int k))[j]? = some u) : j < n ∧ j < zs.length ∧ u = .int k (zs.getD j 0) := by
  have hj := (List.getElem?_eq_some_iff.1 h).1
  simp only [List.length_map, List.length_take] at hj
  refine ⟨by omega, by omega, ?_⟩
  rw [List.getElem?_map, List.getElem?_take, if_pos (by omega), List.getElem?_eq_getElem (by omega)] at h
  simp only [Option.map_some, Option.some.injEq] at h
  rw [← h, List.getD_eq_getElem?_getD, List.getElem?_eq_getElem (by omega)]
  rfl

theorem add_none (b o j : Nat) : (⟨b, o, none⟩ : Addr).add j = ⟨b, o + j, none⟩ := by unfold Addr.add; split <;> simp_all
/-- its cells, in the walk's spelling -/
theorem Rd.cells {w : World} {size n c : Nat} {A : Option Addr} {xs : List Value} (h : Rd w size (.slice A n c) n xs) (hn : 0 < n) (hs : 0 < size) : ∃ b o, A = some ⟨b, o, none⟩ ∧ b < w.heap.size ∧ ∀ j u, xs[j]? = some u → w.cell? ⟨b, o + j, none⟩ = some u := by
  obtain ⟨A', c', e, _, _, hl, _, hr⟩ := h
  injection e with e1 e2 e3
  subst e1
  obtain ⟨ad, rfl, hb, hc⟩ := hr hn
  have hpos : 0 < xs.length := by rw [hl]; exact Nat.mul_pos hn hs
  have h0 := hc 0 _ (List.getElem?_eq_getElem hpos)
  obtain ⟨b, o, spot⟩ := ad
  have hspot : spot = none := by simpa [Addr.add] using World.cell?_spot h0
  subst hspot
  exact ⟨b, o, rfl, hb, fun j u hu => by rw [← add_none]; exact hc j u hu⟩
theorem Rd.form {w : World} {size n : Nat} {v : Value} {xs : List Value} (h : Rd w size v n xs) : ∃ A c, v = .slice A n c ∧ n ≤ c ∧ c ≤ maxLen := by
  obtain ⟨A, c, rfl, h1, h2, _⟩ := h
  exact ⟨A, c, rfl, h1, h2⟩

theorem one_grown {w wr w1 : World} {F : Nat → Prop} {v v' : Value} {k m : Nat} {xs ys : List Value} {o : Obj} (hS : Sl wr F 5 1 v k xs) (ha : Adv Nul w F wr) (hown : w1.ownsRow 0 5 1 v' (k + 1) ys) (hg : (wr.alloc o).grownBy w1 v.ownBlock)
    (hat : v'.ownBlock = v.ownBlock ∨ v'.ownBlock = some m) (hm : wr.heap.size ≤ m) : Sl w1 (fun j => F j ∨ v'.ownBlock = some j) 5 1 v' (k + 1) ys ∧ Adv Nul w (fun j => F j ∨ v'.ownBlock = some j) w1 := by
  have hF' : ∀ j, (F j ∨ v'.ownBlock = some j) → F j ∨ wr.heap.size ≤ j := by
    rintro j (h | h)
    · exact .inl h
    · rcases hat with e | e
      · exact .inl (hS.inF j (by rw [← e]; exact h))
      · rw [e] at h; injection h with h; right; omega
  have hA : Adv F wr (fun j => F j ∨ v'.ownBlock = some j) w1 := by
    have h1 := ((Adv.refl F wr).alloc o).grown hg (fun j hj => .inl (hS.inF j hj))
    exact ⟨h1.os, h1.tape, h1.output, h1.size, h1.block, hF'⟩
  refine ⟨⟨hown, fun j hj => .inr hj, ?_⟩, ha.trans hA⟩
  rintro j (h | h)
  · exact Nat.lt_of_lt_of_le (hS.bd j h) hA.size
  · exact (hown.lt j h).2

theorem own_grown {w w2 w3 : World} {F : Nat → Prop} {v v' : Value} {k n m : Nat} {xs ys : List Value} (hS : Sl w2 F 5 1 v k xs) (ha : Adv Nul w F w2) (hown : w3.ownsRow 0 5 1 v' n ys) (hg : w2.grownBy w3 v.ownBlock)
    (hat : v'.ownBlock = v.ownBlock ∨ v'.ownBlock = some m) (hm : w2.heap.size ≤ m) : Sl w3 (fun j => F j ∨ v'.ownBlock = some j) 5 1 v' n ys ∧ Adv F w2 (fun j => F j ∨ v'.ownBlock = some j) w3 ∧ Adv Nul w (fun j => F j ∨ v'.ownBlock = some j) w3 := by
  have hF' : ∀ j, (F j ∨ v'.ownBlock = some j) → F j ∨ w2.heap.size ≤ j := by
    rintro j (h | h)
    · exact .inl h
    · rcases hat with e | e
      · exact .inl (hS.inF j (by rw [← e]; exact h))
      · rw [e] at h; injection h with h; right; omega
  have hA : Adv F w2 (fun j => F j ∨ v'.ownBlock = some j) w3 := by
    have h1 := (Adv.refl F w2).grown hg (fun j hj => .inl (hS.inF j hj))
    exact ⟨h1.os, h1.tape, h1.output, h1.size, h1.block, hF'⟩
  refine ⟨⟨hown, fun j hj => .inr hj, ?_⟩, hA, ha.trans hA⟩
  rintro j (h | h)
  · exact Nat.lt_of_lt_of_le (hS.bd j h) hA.size
  · exact (hown.lt j h).2

theorem run_append_rd {w : World} {ty : TypeId} {v src : Value} {n m : Nat} {xs news : List Value} (hown : w.ownsRow 0 5 1 v n xs) (hr : Rd w 1 src m news) (h1 : ∀ u ∈ news, u.oneCell' = true) (hn : n + m ≤ 1000000000) :
    ∃ v' w', (Builtin.append_ #[53, 53] ty #[v, src]).run Tryz.prog w = .ok v' w' ∧ w'.ownsRow 0 5 1 v' (n + m) (xs ++ news) ∧ w.grownBy w' v.ownBlock ∧ (v'.ownBlock = v.ownBlock ∨ v'.ownBlock = some w.heap.size) := by
  obtain ⟨i0, hi, hz0, hz1, hz2⟩ := info_parts Tryz.infoU8
  obtain ⟨A, c, rfl, hmc, _, hxl, hA, hc⟩ := hr
  rcases A with _ | ad
  · obtain rfl : c = 0 := hA rfl
    obtain rfl : m = 0 := by omega
    obtain rfl : news = [] := List.eq_nil_of_length_eq_zero (by simpa using hxl)
    exact ⟨v, w, run_append_owned_none (P := Tryz.prog) w 0 53 ty 5 i0 1 Tryz.underlying53 hi v n xs hown, by simpa using hown, World.grownBy.refl _ _, .inl rfl⟩
  · have hcells : ∀ j u, news[j]? = some u → w.cell? (ad.add j) = some u := by
      intro j u hu
      have hj : j < news.length := (List.getElem?_eq_some_iff.1 hu).1
      obtain ⟨ad', e, _, h⟩ := hc (by omega)
      have e := Option.some.inj e
      subst e
      exact h j u hu
    obtain ⟨v', w', hrun, h2, h3, _, h5⟩ := run_append_own_at (P := Tryz.prog) w 0 53 ty 5 i0 (.int .u8 0) 1 1 Tryz.underlying53 hi hz0 hz1 hz2 rfl (by decide) v n xs hown ad m c news hxl hcells h1 (by unfold maxLen; omega) (by omega) (Nat.zero_le _)
    exact ⟨v', w', hrun, h2, h3, h5⟩

theorem step_append_rd {w : World} {ops : Array Oper} {o : Oper} {a : Act} {K : Act → World → Prop} {Q : Exit → Act → World → Prop} {E : Prop} (hgd : o.guard = none) (s x : Operand)
    (ho : o.op = .call { callee := .builtin .append, args := #[s, x], argTypes := #[53, 53] })
    {v src : Value} {n m : Nat} {xs news : List Value} (hs : a.eval s = v) (hx : a.eval x = src) (hown : w.ownsRow 0 5 1 v n xs) (hr : Rd w 1 src m news) (h1 : ∀ u ∈ news, u.oneCell' = true) (hn : n + m ≤ 1000000000)
    (h : ∀ v' w', w'.ownsRow 0 5 1 v' (n + m) (xs ++ news) → w.grownBy w' v.ownBlock → (v'.ownBlock = v.ownBlock ∨ v'.ownBlock = some w.heap.size) → K (a.put o.dst v') w') :
    if Region.wanted o (yielded ops a.tmps) = true then Oper.wp Tryz.prog o a w K Q else E := by
  have hw : Region.wanted o (yielded ops a.tmps) = true := by simp [Region.wanted, hgd]
  rw [if_pos hw]
  obtain ⟨v', w', hrun, h2, h3, h4⟩ := run_append_rd (ty := o.type) hown hr h1 hn
  unfold Oper.wp execOp
  simp only [ho, resolve, invoke, builtin, Sem.run_bind, Sem.run_pure, Result.andThen_ok, List.map_toArray, List.map_cons, List.map_nil, hs, hx, hrun]
  exact h v' w' h2 h3 h4

theorem wpList_append_rd {w : World} {ops : Array Oper} {rest : List Oper} {o : Oper} {a : Act} {Q : Exit → Act → World → Prop} (hgd : o.guard = none) (s x : Operand)
    (ho : o.op = .call { callee := .builtin .append, args := #[s, x], argTypes := #[53, 53] })
    {v src : Value} {n m : Nat} {xs news : List Value} (hs : a.eval s = v) (hx : a.eval x = src) (hown : w.ownsRow 0 5 1 v n xs) (hr : Rd w 1 src m news) (h1 : ∀ u ∈ news, u.oneCell' = true) (hn : n + m ≤ 1000000000)
    (h : ∀ v' w', w'.ownsRow 0 5 1 v' (n + m) (xs ++ news) → w.grownBy w' v.ownBlock → (v'.ownBlock = v.ownBlock ∨ v'.ownBlock = some w.heap.size) → wpList Tryz.prog ops Q rest (a.put o.dst v') w') : wpList Tryz.prog ops Q (o :: rest) a w := by
  refine wpList_plain hgd fun K hK => ?_
  obtain ⟨v', w', hrun, h2, h3, h4⟩ := run_append_rd (ty := o.type) hown hr h1 hn
  unfold Oper.wp execOp
  simp only [ho, resolve, invoke, builtin, Sem.run_bind, Sem.run_pure, Result.andThen_ok, List.map_toArray, List.map_cons, List.map_nil, hs, hx, hrun]
  exact hK _ _ (h v' w' h2 h3 h4)
end Go.Proofs.YtbdjlmdbnoghnaaGreat
