/-  Plain arithmetic for the reader. Footprints: which blocks an object has, and that a call changes no others. Over any program. What every text stands on: bytes, slices that came in, append of whatever can be read. The writer's state, and the walk of its lay. The walk of the writer's lay. The writer's calls. Clone, Done, Open. -/
import Derived.Below
import Derived.OwnWalk
import Derived.Laws.OwnMore
import Derived.Laws.Rows
import Derived.Deep.Draws
import Derived.Maps.AppendAt
import Derived.Deep.AppendLies
import Derived.Deep.RegionHeld
import Derived.Lib.Hide
import Derived.Test.YtcglfknkkeaegaaGreatDoorChecked
import Derived.WalkKit
import Derived.WalkLawsBesides
import Derived.WalkSpells
import Derived.BigRegion
import Derived.Laws.BitsAllLaws
import Derived.ProofKit
import Derived.OpenShut
import Derived.Deep.DeepCutAuto
import Derived.Deep.QuietTactic
import Derived.BigQuiet
import Derived.Laws.AppendOwnNone
/- Plain arithmetic on rows of bits: a row of m bits is a number below 2^m; its bytes are the digits to the base 256 of that number with noughts behind. -/
namespace Go.Proofs.YtcglfknkkeaegaaGreatDoor

/-- q digits to the base 256, the highest first. -/
def be : Nat → Nat → List Nat
  | 0, _ => []
  | q + 1, V => be q (V / 256) ++ [V % 256]

theorem be_length : ∀ q V, (be q V).length = q
  | 0, _ => rfl
  | q + 1, V => by simp [be, be_length q]

theorem be_lt : ∀ q V x, x ∈ be q V → x < 256
  | 0, _, _, h => by simp [be] at h
  | q + 1, V, x, h => by
    simp only [be, List.mem_append, List.mem_singleton] at h
    rcases h with h | h
    · exact be_lt q _ x h
    · subst h; exact Nat.mod_lt _ (by decide)

theorem be_last (q V : Nat) : (be (q + 1) V)[q]? = some (V % 256) := by
  simp only [be]
  rw [List.getElem?_append_right (by rw [be_length]; exact Nat.le_refl _), be_length]
  simp

theorem be_last' (q V : Nat) (hq : 0 < q) : (be q V)[q - 1]? = some (V % 256) := by
  obtain ⟨p, rfl⟩ : ∃ p, q = p + 1 := ⟨q - 1, by omega⟩
  exact be_last p V

theorem be_set_last (q V V' : Nat) (hq : 0 < q) (h : V' / 256 = V / 256) : (be q V).set (q - 1) (V' % 256) = be q V' := by
  obtain ⟨p, rfl⟩ : ∃ p, q = p + 1 := ⟨q - 1, by omega⟩
  simp only [be, h, Nat.add_sub_cancel]
  rw [List.set_append_right _ _ (by rw [be_length]; exact Nat.le_refl _), be_length]
  simp

theorem be_snoc (q V : Nat) : be (q + 1) (V * 256) = be q V ++ [0] := by
  simp only [be]
  rw [Nat.mul_div_cancel _ (by decide), Nat.mul_mod_left]

/-- how many bytes m bits are, and how many bits of the last one are not put -/
def qn (m : Nat) : Nat := (m + 7) / 8
def pad (m : Nat) : Nat := (8 - m % 8) % 8
theorem qn_pad (m : Nat) : 8 * qn m = m + pad m := by unfold qn pad; omega
theorem pad_lt (m : Nat) : pad m < 8 := by unfold pad; omega

/-- The row of the number N of m bits. -/
def rowOf (N m : Nat) : List Nat := be (qn m) (N * 2 ^ pad m)

theorem or_low (V c s r : Nat) (hr : r ≤ 8) (hc : c * 2 ^ s < 2 ^ r) (hV : ∃ N, V = N * 2 ^ r) : (V % 256) ||| (c * 2 ^ s) = (V + c * 2 ^ s) % 256 := by
  obtain ⟨N, rfl⟩ := hV
  have h256 : (256 : Nat) = 2 ^ r * 2 ^ (8 - r) := by rw [← Nat.pow_add, show r + (8 - r) = 8 from by omega]
  have h1 : N * 2 ^ r % 256 = 2 ^ r * (N % 2 ^ (8 - r)) := by
    rw [h256, Nat.mul_comm N, Nat.mul_mod_mul_left]
  rw [h1, ← Nat.two_pow_add_eq_or_of_lt hc]
  have h2 : N % 2 ^ (8 - r) < 2 ^ (8 - r) := Nat.mod_lt _ (Nat.two_pow_pos _)
  have h3 : 2 ^ r * (N % 2 ^ (8 - r)) + c * 2 ^ s < 256 := by
    rw [h256]
    calc 2 ^ r * (N % 2 ^ (8 - r)) + c * 2 ^ s < 2 ^ r * (N % 2 ^ (8 - r)) + 2 ^ r := by omega
      _ = 2 ^ r * (N % 2 ^ (8 - r) + 1) := by rw [Nat.mul_add, Nat.mul_one]
      _ ≤ 2 ^ r * 2 ^ (8 - r) := Nat.mul_le_mul_left _ h2
  rw [Nat.add_mod, h1]
  rw [Nat.mod_eq_of_lt (a := c * 2 ^ s) (by
    have : 2 ^ r * 1 ≤ 2 ^ r * 2 ^ (8 - r) := Nat.mul_le_mul_left _ (Nat.two_pow_pos _)
    omega), Nat.mod_eq_of_lt h3]

/-- One round of lay: of the n bits of y the first k are put into the last byte, of which r bits are free. -/
theorem lay_round (q N r n y k : Nat) (hr0 : 0 < r) (hr : r ≤ 8) (hq : 0 < q) (hk : k = min n r) (hy : y < 2 ^ n) :
    (N * 2 ^ r % 256) ||| (y / 2 ^ (n - k) % 256 * 2 ^ (r - k) % 256) = ((N * 2 ^ k + y / 2 ^ (n - k)) * 2 ^ (r - k)) % 256 ∧
    (be q (N * 2 ^ r)).set (q - 1) (((N * 2 ^ k + y / 2 ^ (n - k)) * 2 ^ (r - k)) % 256) = be q ((N * 2 ^ k + y / 2 ^ (n - k)) * 2 ^ (r - k)) := by
  have hkr : k ≤ r := by omega
  have hkn : k ≤ n := by omega
  have hc : y / 2 ^ (n - k) < 2 ^ k := by
    rw [Nat.div_lt_iff_lt_mul (Nat.two_pow_pos _), ← Nat.pow_add, show k + (n - k) = n from by omega]
    exact hy
  have hk8 : 2 ^ k ≤ 256 := by
    have := Nat.pow_le_pow_right (n := 2) (by decide) (show k ≤ 8 by omega)
    simpa using this
  have hcs : y / 2 ^ (n - k) * 2 ^ (r - k) < 2 ^ r := by
    have : y / 2 ^ (n - k) * 2 ^ (r - k) < 2 ^ k * 2 ^ (r - k) := Nat.mul_lt_mul_of_pos_right hc (Nat.two_pow_pos _)
    rwa [← Nat.pow_add, show k + (r - k) = r from by omega] at this
  have hr8 : 2 ^ r ≤ 256 := by
    have := Nat.pow_le_pow_right (n := 2) (by decide) hr
    simpa using this
  have hsum : (N * 2 ^ k + y / 2 ^ (n - k)) * 2 ^ (r - k) = N * 2 ^ r + y / 2 ^ (n - k) * 2 ^ (r - k) := by
    rw [Nat.add_mul, Nat.mul_assoc, ← Nat.pow_add, show k + (r - k) = r from by omega]
  constructor
  · rw [Nat.mod_eq_of_lt (a := y / 2 ^ (n - k)) (by omega), Nat.mod_eq_of_lt (a := y / 2 ^ (n - k) * 2 ^ (r - k)) (by omega), hsum]
    exact or_low _ _ _ r hr hcs ⟨N, rfl⟩
  · apply be_set_last _ _ _ hq
    rw [hsum]
    have h256 : (256 : Nat) = 2 ^ r * 2 ^ (8 - r) := by rw [← Nat.pow_add, show r + (8 - r) = 8 from by omega]
    rw [h256, ← Nat.div_div_eq_div_mul, ← Nat.div_div_eq_div_mul, Nat.mul_div_cancel _ (Nat.two_pow_pos _), Nat.add_comm, Nat.mul_comm N, Nat.add_mul_div_left _ _ (Nat.two_pow_pos _), Nat.div_eq_of_lt hcs, Nat.zero_add]

/-- what is put after it: the rest of y -/
theorem lay_rest (N n y k : Nat) (hk : k ≤ n) : (N * 2 ^ k + y / 2 ^ (n - k)) * 2 ^ (n - k) + y % 2 ^ (n - k) = N * 2 ^ n + y := by
  rw [Nat.add_mul, Nat.mul_assoc, ← Nat.pow_add, show k + (n - k) = n from by omega, Nat.add_assoc]
  congr 1
  exact Nat.div_add_mod' _ _

theorem put_lt (N m n x : Nat) (hN : N < 2 ^ m) (hx : x < 2 ^ n) : N * 2 ^ n + x < 2 ^ (m + n) := by
  rw [Nat.pow_add]
  calc N * 2 ^ n + x < N * 2 ^ n + 2 ^ n := by omega
    _ = (N + 1) * 2 ^ n := by rw [Nat.add_mul, Nat.one_mul]
    _ ≤ 2 ^ m * 2 ^ n := Nat.mul_le_mul_right _ hN
theorem cast_c (y s : Nat) : (((y % 256 * 2 ^ s % 256 : Nat)) : Int) = (y : Int) % 256 * 2 ^ s % 256 := by
  rw [Int.natCast_emod, Int.natCast_mul, Int.natCast_emod, Int.natCast_pow]; rfl
theorem cast_c0 (y k s : Nat) : (y : Int) % 256 * 2 ^ s % 256 = (((y / 2 ^ (k - k) % 256 * 2 ^ s % 256 : Nat)) : Int) := by
  rw [Nat.sub_self, Nat.pow_zero, Nat.div_one, cast_c]
theorem be_snoc8 (q N : Nat) : be (q + 1) (N * 2 ^ 8) = be q (N * 2 ^ 0) ++ [0] := by
  rw [Nat.pow_zero, Nat.mul_one]; exact be_snoc q N
end Go.Proofs.YtcglfknkkeaegaaGreatDoor
namespace Go.Proofs.YtcglfknkkeaegaaGreatDoor

theorem be_get : ∀ q V i, i < q → (be q V)[i]? = some (V / 256 ^ (q - 1 - i) % 256)
  | 0, _, _, h => absurd h (by omega)
  | q + 1, V, i, h => by
    simp only [be]
    rcases Nat.lt_or_ge i q with hi | hi
    · rw [List.getElem?_append_left (by rw [be_length]; exact hi), be_get q _ i hi]
      congr 2
      rw [Nat.div_div_eq_div_mul, Nat.mul_comm, ← Nat.pow_succ]
      congr 2
      omega
    · rw [List.getElem?_append_right (by rw [be_length]; exact hi), be_length]
      obtain rfl : i = q := by omega
      simp

/-- n bits of the 8q bits of V, from the bit at on -/
def bitsAt (q V at' n : Nat) : Nat := V / 2 ^ (8 * q - at' - n) % 2 ^ n

theorem bitsAt_lt (q V a n : Nat) : bitsAt q V a n < 2 ^ n := Nat.mod_lt _ (Nat.two_pow_pos _)
theorem bitsAt_zero (q V a : Nat) : bitsAt q V a 0 = 0 := by simp [bitsAt, Nat.mod_one]

theorem div_mod_split (W c k : Nat) : W % 2 ^ (c + k) = (W / 2 ^ k % 2 ^ c) * 2 ^ k + W % 2 ^ k := by
  rw [Nat.add_comm c k, Nat.pow_add, Nat.mod_mul, Nat.add_comm, Nat.mul_comm]

theorem bitsAt_split (q V a c k : Nat) (h : a + c + k ≤ 8 * q) : bitsAt q V a (c + k) = bitsAt q V a c * 2 ^ k + bitsAt q V (a + c) k := by
  unfold bitsAt
  rw [div_mod_split, Nat.div_div_eq_div_mul, ← Nat.pow_add, show 8 * q - a - (c + k) + k = 8 * q - a - c from by omega, show 8 * q - (a + c) - k = 8 * q - a - (c + k) from by omega]

theorem bitsAt_byte (q V a k : Nat) (hk : k ≤ 8 - a % 8) (h : a / 8 < q) : V / 256 ^ (q - 1 - a / 8) % 256 / 2 ^ (8 - a % 8 - k) % 2 ^ k = bitsAt q V a k := by
  have e256 : ∀ j, (256 : Nat) ^ j = 2 ^ (8 * j) := fun j => by rw [Nat.pow_mul]
  unfold bitsAt
  rw [e256, show (256 : Nat) = 2 ^ (8 - a % 8 - k) * 2 ^ (a % 8 + k) from by rw [← Nat.pow_add, show 8 - a % 8 - k + (a % 8 + k) = 8 from by omega]]
  rw [Nat.mod_mul_right_div_self, Nat.div_div_eq_div_mul, ← Nat.pow_add, Nat.pow_add 2 (a % 8) k, Nat.mod_mul_left_mod]
  congr 3
  omega

theorem or_sum (X p c k : Nat) (hX : X < 2 ^ c) (hp : p < 2 ^ k) (h : c + k ≤ 64) : (X * 2 ^ k % 18446744073709551616) ||| p = X * 2 ^ k + p := by
  have h1 : X * 2 ^ k < 2 ^ (c + k) := by rw [Nat.pow_add]; exact Nat.mul_lt_mul_of_pos_right hX (Nat.two_pow_pos _)
  have h2 : (2 : Nat) ^ (c + k) ≤ 2 ^ 64 := Nat.pow_le_pow_right (by decide) h
  rw [Nat.mod_eq_of_lt (by omega), Nat.mul_comm X, ← Nat.two_pow_add_eq_or_of_lt hp]
end Go.Proofs.YtcglfknkkeaegaaGreatDoor
namespace Go.Proofs.YtcglfknkkeaegaaGreatDoor
open Go.RowKit

/-! A region that draws its order, step by step: what is given by program each time stands in the laws. -/
section
variable {P : Program} {ops : Array Oper} {Q : Exit → Act → World → Prop} {md : Region.Mode} {S : World → Prop} {i : Nat} {fuel : Nat} {listed : Array Bool} {a : Act} {w : World} {oi : Oper}
theorem sA {α : Type _} (l : List α) (i : Nat) (x : α) : l.toArray.setIfInBounds i x = (l.set i x).toArray := List.setIfInBounds_toArray l i x
theorem sB {α : Type _} (x y : α) (l : List α) : (x :: l).set 0 y = y :: l := rfl
theorem sC {α : Type _} (x y : α) (l : List α) (n : Nat) : (x :: l).set (n + 1) y = x :: l.set n y := rfl
theorem rstart {id : Nat} (hS : S w.drew) (h : Hid (S w.drew) → wpAnyH P .any ops Q S ops.size (Array.replicate ops.size false) a w.drew) (hm : P.follows .mixedOrders = true := by kernel_rfl) : (Code.region id ops true).wp P Q a w := wp_region_held_drew hm hS (fun x => h (Lib.hid x))
theorem tk {v : Value} (hS : S w) (hy : ∀ w, S w → (execOp a.eval oi).run P w = .ok (.value v) w) (h : wpAnyH P md ops Q S fuel (listed.setIfInBounds i true) (a.put oi.dst v) w) (hi : ops[i]? = some oi := by exact rfl)
    (hs : Region.noSelect ops = true := by kernel_rfl) (hf : Region.free md ops listed i = true := by kernel_rfl) (hr : (Region.ready md ops listed).contains i = true := by kernel_rfl) (hQ : ∀ c a w, Q (.panic c) (a.put oi.dst v) w → Q (.panic c) a w := by exact fun _ _ _ h => h)
    (hg : Region.wanted oi (yielded ops a.tmps) = true := by rfl) : wpAnyH P md ops Q S (fuel + 1) listed a w := wpAnyH_take hi hs hf hr hQ (.inl ⟨hg, hy⟩) hS h
theorem tks (hS : S w) (h : wpAnyH P md ops Q S fuel (listed.setIfInBounds i true) (a.put oi.dst undef) w) (hi : ops[i]? = some oi := by exact rfl)
    (hs : Region.noSelect ops = true := by kernel_rfl) (hf : Region.free md ops listed i = true := by kernel_rfl) (hr : (Region.ready md ops listed).contains i = true := by kernel_rfl) (hQ : ∀ c a w, Q (.panic c) (a.put oi.dst undef) w → Q (.panic c) a w := by exact fun _ _ _ h => h)
    (hg : Region.wanted oi (yielded ops a.tmps) = false := by rfl) : wpAnyH P md ops Q S (fuel + 1) listed a w := wpAnyH_take hi hs hf hr hQ (.inr ⟨hg, rfl⟩) hS h
theorem rdy (h : ∀ K' : Act → World → Prop, Shut (∀ a w, S w → (S w → wpAnyH P md ops Q S fuel (listed.setIfInBounds i true) a w) → K' a w) → if Region.wanted oi (yielded ops a.tmps) = true then Oper.wp P oi a w K' Q else K' (a.put oi.dst undef) w)
    (ho : ops[i]? = some oi := by exact rfl) (hr : Region.ready md ops listed = [i] := by kernel_rfl) : wpAnyH P md ops Q S (fuel + 1) listed a w := wpAnyH_ready hr (by simp) (AllReadyH.cons ho h AllReadyH.nil)
end

/-- The block g is just the cells cs of type t, none frozen. -/
def Blk (w : World) (g : Nat) (t : TypeId) (cs : Array Value) : Prop := w.heap[g]? = some (.cells cs t (0, 0))

section
variable {w w' : World} {g : Nat} {t : TypeId} {cs : Array Value}
theorem Blk.lt (h : Blk w g t cs) : g < w.heap.size := by
  rcases Nat.lt_or_ge g w.heap.size with hlt | hge
  · exact hlt
  · unfold Blk at h; rw [Array.getElem?_eq_none hge] at h; cases h
theorem Blk.cell (h : Blk w g t cs) (i : Nat) : w.cell? ⟨g, i, none⟩ = cs[i]? := cell_of_row w g i cs t (0, 0) h
theorem Blk.frozen (h : Blk w g t cs) (i : Nat) : w.frozen? ⟨g, i, none⟩ = false := by
  unfold Blk at h
  simp [World.frozen?, h]
theorem Blk.new (w : World) (t : TypeId) (cs : Array Value) : Blk (w.alloc (.cells cs t)) w.heap.size t cs := heap_alloc_new w _
theorem Blk.set_ (h : Blk w g t cs) (i : Nat) (u : Value) : Blk (w.setCell ⟨g, i, none⟩ u) g t (cs.setIfInBounds i u) := by
  unfold Blk at h ⊢
  simp [World.setCell, Array.getElem?_modify, h]
theorem Blk.far (h : Blk w g t cs) {p : Addr} (hp : g ≠ p.block) (u : Value) : Blk (w.setCell p u) g t cs := (Below.heap_setCell w p u g hp).trans h
theorem Blk.alloc (h : Blk w g t cs) (o : Obj) : Blk (w.alloc o) g t cs := (Below.heap_alloc w o g h.lt).trans h
theorem Blk.keep (h : Blk w g t cs) (hb : w'.heap[g]? = w.heap[g]?) : Blk w' g t cs := hb.trans h
theorem Blk.drew (h : Blk w g t cs) : Blk w.drew g t cs := h
theorem Blk.ne_ {g' : Nat} {t' : TypeId} {cs' : Array Value} (h : Blk w g t cs) (h' : Blk w g' t' cs') (hne : t ≠ t') : g ≠ g' := by
  rintro rfl
  unfold Blk at h h'
  rw [h] at h'
  injection h' with h'
  injection h' with _ ht
  exact hne ht
theorem own_blk_ne {base : Nat} {e : TypeId} {size n : Nat} {v : Value} {xs : List Value} (h : w.ownsRow base e size v n xs) (hg : Blk w g t cs) (hne : e ≠ t) : v.ownBlock ≠ some g := by
  rcases h.2 with ⟨rfl, _⟩ | ⟨g', cap, cur, rfl, _, hh, _⟩
  · simp [Value.ownBlock]
  · intro he
    have : g' = g := by simpa [Value.ownBlock] using he
    subst this
    exact Blk.ne_ (t := e) hh hg hne rfl
end

/-- From w to w' nothing but the blocks of F has changed; F' are the blocks that the object has behind it: such as it had, or new ones. -/
structure Adv (F : Nat → Prop) (w : World) (F' : Nat → Prop) (w' : World) : Prop where
  os : w'.os = w.os
  tape : w'.tape = w.tape
  output : w'.output = w.output
  size : w.heap.size ≤ w'.heap.size
  block : ∀ k, k < w.heap.size → ¬ F k → w'.heap[k]? = w.heap[k]?
  into : ∀ k, F' k → F k ∨ w.heap.size ≤ k

/-- Two objects share no block. -/
def Sep (F G : Nat → Prop) : Prop := ∀ k, F k → G k → False
/-- The blocks of an object are there. -/
def Bd (F : Nat → Prop) (w : World) : Prop := ∀ k, F k → k < w.heap.size
def Nul : Nat → Prop := fun _ => False

section
variable {F F' F'' G : Nat → Prop} {w w' w'' : World}
theorem Adv.refl (F : Nat → Prop) (w : World) : Adv F w F w := ⟨rfl, rfl, rfl, Nat.le_refl _, fun _ _ _ => rfl, fun _ h => .inl h⟩
theorem Adv.trans (h : Adv F w F' w') (k : Adv F' w' F'' w'') : Adv F w F'' w'' :=
  ⟨k.os.trans h.os, k.tape.trans h.tape, k.output.trans h.output, Nat.le_trans h.size k.size,
   fun i hi hn => (k.block i (Nat.lt_of_lt_of_le hi h.size) (fun hf => by rcases h.into i hf with h1 | h1; exact hn h1; omega)).trans (h.block i hi hn),
   fun i hi => by
     rcases k.into i hi with h1 | h1
     · exact h.into i h1
     · exact .inr (Nat.le_trans h.size h1)⟩
theorem Adv.sep (h : Adv F w F' w') (hs : Sep F G) (hb : Bd G w) : Sep F' G := fun k h1 h2 => by
  rcases h.into k h1 with h3 | h3
  · exact hs k h3 h2
  · exact absurd (hb k h2) (by omega)
theorem Sep.symm (h : Sep F G) : Sep G F := fun k a b => h k b a
theorem Adv.bd (h : Adv F w F' w') (hb : Bd G w) : Bd G w' := fun k hk => Nat.lt_of_lt_of_le (hb k hk) h.size
theorem Adv.far (h : Adv F w F' w') (hs : Sep F G) (hb : Bd G w) : ∀ k, G k → w'.heap[k]? = w.heap[k]? := fun k hk => h.block k (hb k hk) (fun hf => hs k hf hk)
theorem Adv.below {B : Nat} {w0 : World} (hb : Below B w0 w) (h : Adv F w F' w') (hf : ∀ k, F k → B ≤ k) (hB : B ≤ w.heap.size) : Below B w0 w' :=
  hb.trans ⟨h.os, h.tape, h.output, h.size, fun k hk => h.block k (by omega) (fun hF => by have := hf k hF; omega)⟩
theorem Adv.of_below (h : Below w.heap.size w w') : Adv F w F w' := ⟨h.os, h.tape, h.output, h.size, fun k hk _ => h.block k hk, fun _ hk => .inl hk⟩
/-- new blocks alone -/
theorem Adv.new_ (h : Below w.heap.size w w') (hn : ∀ k, F' k → w.heap.size ≤ k) : Adv Nul w F' w' := ⟨h.os, h.tape, h.output, h.size, fun k hk _ => h.block k hk, fun k hk => .inr (hn k hk)⟩
theorem Adv.toBelow (h : Adv Nul w F' w') : Below w.heap.size w w' := ⟨h.os, h.tape, h.output, h.size, fun k hk => h.block k hk (fun x => x)⟩
theorem Adv.sub (h : Adv F w F' w') (hG : ∀ k, G k → F' k) : Adv F w G w' := ⟨h.os, h.tape, h.output, h.size, h.block, fun k hk => h.into k (hG k hk)⟩
theorem Adv.drew (h : Adv F w F' w') : Adv F w F' w'.drew := ⟨h.os, h.tape, h.output, h.size, h.block, h.into⟩
theorem Adv.drewN (h : Adv F w F' w') (n : Nat) : Adv F w F' (w'.drewN n) := ⟨h.os, h.tape, h.output, h.size, h.block, h.into⟩
theorem Adv.alloc (h : Adv F w F' w') (o : Obj) : Adv F w F' (w'.alloc o) :=
  h.trans ⟨rfl, rfl, rfl, by simp, fun k hk _ => Below.heap_alloc _ _ _ hk, fun _ hk => .inl hk⟩
theorem Adv.setCell (h : Adv F w F' w') {p : Addr} (hp : F p.block ∨ w.heap.size ≤ p.block) (u : Value) : Adv F w F' (w'.setCell p u) :=
  ⟨h.os, h.tape, h.output, by simpa [World.setCell] using h.size, fun k hk hn => (Below.heap_setCell _ _ _ _ (by
    rintro rfl
    rcases hp with hp | hp
    · exact hn hp
    · omega)).trans (h.block k hk hn), h.into⟩
theorem Adv.grown {row : Option Nat} (h : Adv F w F' w') (hg : w'.grownBy w'' row) (hr : ∀ k, row = some k → F k ∨ w.heap.size ≤ k) : Adv F w F' w'' :=
  ⟨hg.os.trans h.os, hg.tape.trans h.tape, hg.output.trans h.output, Nat.le_trans h.size hg.size, fun k hk hn => (hg.block k (Nat.lt_of_lt_of_le hk h.size) (fun e => by
    rcases hr k e.symm with h1 | h1
    · exact hn h1
    · omega)).trans (h.block k hk hn), h.into⟩
end

/-- A slice value over a row of the object's own: n elements of type e, their cells xs. -/
structure Sl (w : World) (F : Nat → Prop) (e : TypeId) (size : Nat) (v : Value) (n : Nat) (xs : List Value) : Prop where
  own : w.ownsRow 0 e size v n xs
  inF : ∀ k, v.ownBlock = some k → F k
  bd : Bd F w

section
variable {F F' G : Nat → Prop} {w w' : World} {e : TypeId} {size n : Nat} {v : Value} {xs : List Value}
theorem own_keep {base : Nat} (h : w.ownsRow base e size v n xs) (hk : ∀ k, v.ownBlock = some k → w'.heap[k]? = w.heap[k]?) : w'.ownsRow base e size v n xs := by
  refine ⟨h.1, ?_⟩
  rcases h.2 with hn | ⟨g, cap, cur, rfl, hb, hgg, rest⟩
  · exact .inl hn
  · exact .inr ⟨g, cap, cur, rfl, hb, (hk g rfl).trans hgg, rest⟩
theorem own_base {base : Nat} (h : w.ownsRow base e size v n xs) : w.ownsRow 0 e size v n xs := by
  refine ⟨h.1, ?_⟩
  rcases h.2 with hn | ⟨g, cap, cur, rfl, hb, rest⟩
  · exact .inl hn
  · exact .inr ⟨g, cap, cur, rfl, Nat.zero_le _, rest⟩
theorem Sl.far (h : Sl w F e size v n xs) (ha : Adv G w F' w') (hs : Sep G F) : Sl w' F e size v n xs :=
  ⟨own_keep h.own fun k hk => ha.far hs h.bd k (h.inF k hk), h.inF, ha.bd h.bd⟩
theorem Sl.drew (h : Sl w F e size v n xs) : Sl w.drew F e size v n xs := ⟨h.own, h.inF, h.bd⟩
theorem Sl.nil (w : World) (e : TypeId) (size : Nat) : Sl w Nul e size (.slice none 0 0) 0 [] :=
  ⟨World.ownsRow_nil _ _ _ _, by simp [Value.ownBlock], fun _ h => h.elim⟩
theorem Sl.nilF (w : World) (F : Nat → Prop) (hb : Bd F w) (e : TypeId) (size : Nat) : Sl w F e size (.slice none 0 0) 0 [] :=
  ⟨World.ownsRow_nil _ _ _ _, by simp [Value.ownBlock], hb⟩
/-- what an owned slice that is not empty looks like -/
theorem Sl.form (h : Sl w F e size v n xs) (hn : 0 < n) : ∃ g cap, v = .slice (some ⟨g, 0, none⟩) n cap ∧ F g ∧ n ≤ cap := by
  obtain ⟨g, cap, hv, _, _⟩ := h.own.form hn
  subst hv
  refine ⟨g, cap, rfl, h.inF g rfl, ?_⟩
  rcases h.own.2 with ⟨hv, _⟩ | ⟨g', cap', cur, hv, _, _, hc, _⟩
  · cases hv
  · injection hv with _ _ h3; omega
theorem Sl.form0 (h : Sl w F e size v n xs) : ∃ a cap, v = .slice a n cap ∧ n ≤ cap ∧ cap ≤ maxLen := by
  rcases h.own.2 with ⟨rfl, rfl⟩ | ⟨g', cap', cur, rfl, _, _, hc, hc2, _⟩
  · exact ⟨_, _, rfl, Nat.le_refl _, Nat.zero_le _⟩
  · exact ⟨_, _, rfl, hc, hc2⟩
end

/-- A slice value that can be read: n elements, their cells xs. -/
def Rd (w : World) (size : Nat) (v : Value) (n : Nat) (xs : List Value) : Prop :=
  ∃ A c, v = .slice A n c ∧ n ≤ c ∧ c ≤ maxLen ∧ xs.length = n * size ∧ (A = none → c = 0) ∧ (0 < n → ∃ ad, A = some ad ∧ ad.block < w.heap.size ∧ ∀ j u, xs[j]? = some u → w.cell? (ad.add j) = some u)

section
variable {F F' G : Nat → Prop} {w w' : World} {e : TypeId} {size n : Nat} {v : Value} {xs : List Value}
theorem add_block (a : Addr) (j : Nat) : (a.add j).block = a.block := by unfold Addr.add; split <;> rfl
theorem Sl.rd (h : Sl w F e size v n xs) : Rd w size v n xs := by
  rcases h.own.2 with ⟨rfl, rfl⟩ | ⟨g, cap, cur, rfl, _, hg, hnc, hcm, _, _⟩
  · exact ⟨none, 0, rfl, Nat.le_refl _, Nat.zero_le _, h.own.1, fun _ => rfl, fun hn => absurd hn (by omega)⟩
  · exact ⟨_, _, rfl, hnc, hcm, h.own.1, fun hn => by (cases hn), fun _ => ⟨_, rfl, h.bd g (h.inF g rfl), h.own.cells (g := g) rfl⟩⟩
/-- The block of a slice that can be read, if it has elements. -/
theorem Rd.far (h : Rd w size v n xs) (hk : ∀ k, v.ownBlock = some k → 0 < n → k < w.heap.size → w'.heap[k]? = w.heap[k]?) (hs : w.heap.size ≤ w'.heap.size) : Rd w' size v n xs := by
  obtain ⟨A, c, rfl, h1, h2, h3, h4, h5⟩ := h
  refine ⟨A, c, rfl, h1, h2, h3, h4, fun hn => ?_⟩
  obtain ⟨ad, rfl, hb, hc⟩ := h5 hn
  refine ⟨ad, rfl, Nat.lt_of_lt_of_le hb hs, fun j u hu => ?_⟩
  rw [← hc j u hu]
  exact World.cell?_of_block (by rw [add_block]; exact hk _ rfl hn hb)
end

theorem Adv.of_drewN {F F' : Nat → Prop} {w w' : World} {n : Nat} (h : Adv F (w.drewN n) F' w') : Adv F w F' w' := ⟨h.os, h.tape, h.output, h.size, h.block, h.into⟩
theorem Adv.same {F F' G : Nat → Prop} {w w' : World} (h : Adv F w F' w') (hG : ∀ k, F k → G k) : Adv G w G w' := ⟨h.os, h.tape, h.output, h.size, fun k hk hn => h.block k hk (fun hf => hn (hG k hf)), fun _ hk => .inl hk⟩
theorem Adv.of_drew {F F' : Nat → Prop} {w w' : World} (h : Adv F w.drew F' w') : Adv F w F' w' := ⟨h.os, h.tape, h.output, h.size, h.block, h.into⟩

theorem Adv.over {F F' G : Nat → Prop} {w w1 w2 : World} (h : Adv F w G w1) (k : Adv Nul w1 F' w2) : Adv F w G w2 := h.trans (k.same (fun _ x => x.elim))
end Go.Proofs.YtcglfknkkeaegaaGreatDoor
namespace Go.Proofs.YtcglfknkkeaegaaGreatDoor
open Go.ChangeShapes Go.WideShapes Go.ChangeAt Go.RowKit

theorem Tryz.infoU8 : (Tryz.prog.info? 5).map (fun i => (i.zero, i.size, i.bytes)) = some (some (.int .u8 0), 1, 1) := by kernel_rfl

/-- A byte as a value. -/
def u8 (x : Nat) : Value := .int .u8 (x : Int)

theorem u8_one (l : List Nat) : ∀ u ∈ l.map u8, u.oneCell' = true := by
  intro u hu
  obtain ⟨x, _, rfl⟩ := List.mem_map.1 hu
  rfl

theorem getD_map_int (k : IntKind) (zs : List Int) (n j : Nat) (u : Value) (h : ((zs.take n).map (Value.int k))[j]? = some u) : j < n ∧ j < zs.length ∧ u = .int k (zs.getD j 0) := by
  have hj := (List.getElem?_eq_some_iff.1 h).1
  simp only [List.length_map, List.length_take] at hj
  refine ⟨by omega, by omega, ?_⟩
  rw [List.getElem?_map, List.getElem?_take, if_pos (by omega), List.getElem?_eq_getElem (by omega)] at h
  simp only [Option.map_some, Option.some.injEq] at h
  rw [← h, List.getD_eq_getElem?_getD, List.getElem?_eq_getElem (by omega)]
  rfl

theorem add_none (b o j : Nat) : (⟨b, o, none⟩ : Addr).add j = ⟨b, o + j, none⟩ := by unfold Addr.add; split <;> simp_all
/-- its cells, in the walk's spelling -/
theorem Rd.cells {w : World} {size n c : Nat} {A : Option Addr} {xs : List Value} (h : Rd w size (.slice A n c) n xs) (hn : 0 < n) (hs : 0 < size) : ∃ b o, A = some ⟨b, o, none⟩ ∧ b < w.heap.size ∧ ∀ j u, xs[j]? = some u → w.cell? ⟨b, o + j, none⟩ = some u := by
  obtain ⟨A', c', e, _, _, hl, _, hr⟩ := h
  injection e with e1 e2 e3
  subst e1
  obtain ⟨ad, rfl, hb, hc⟩ := hr hn
  have hpos : 0 < xs.length := by rw [hl]; exact Nat.mul_pos hn hs
  have h0 := hc 0 _ (List.getElem?_eq_getElem hpos)
  obtain ⟨b, o, spot⟩ := ad
  have hspot : spot = none := by simpa [Addr.add] using World.cell?_spot h0
  subst hspot
  exact ⟨b, o, rfl, hb, fun j u hu => by rw [← add_none]; exact hc j u hu⟩
theorem Rd.form {w : World} {size n : Nat} {v : Value} {xs : List Value} (h : Rd w size v n xs) : ∃ A c, v = .slice A n c ∧ n ≤ c ∧ c ≤ maxLen := by
  obtain ⟨A, c, rfl, h1, h2, _⟩ := h
  exact ⟨A, c, rfl, h1, h2⟩

theorem one_grown {w wr w1 : World} {F : Nat → Prop} {v v' : Value} {k m : Nat} {xs ys : List Value} {o : Obj} (hS : Sl wr F 5 1 v k xs) (ha : Adv Nul w F wr) (hown : w1.ownsRow 0 5 1 v' (k + 1) ys) (hg : (wr.alloc o).grownBy w1 v.ownBlock)
    (hat : v'.ownBlock = v.ownBlock ∨ v'.ownBlock = some m) (hm : wr.heap.size ≤ m) : Sl w1 (fun j => F j ∨ v'.ownBlock = some j) 5 1 v' (k + 1) ys ∧ Adv Nul w (fun j => F j ∨ v'.ownBlock = some j) w1 := by
  have hF' : ∀ j, (F j ∨ v'.ownBlock = some j) → F j ∨ wr.heap.size ≤ j := by
    rintro j (h | h)
    · exact .inl h
    · rcases hat with e | e
      · exact .inl (hS.inF j (by rw [← e]; exact h))
      · rw [e] at h; injection h with h; right; omega
  have hA : Adv F wr (fun j => F j ∨ v'.ownBlock = some j) w1 := by
    have h1 := ((Adv.refl F wr).alloc o).grown hg (fun j hj => .inl (hS.inF j hj))
    exact ⟨h1.os, h1.tape, h1.output, h1.size, h1.block, hF'⟩
  refine ⟨⟨hown, fun j hj => .inr hj, ?_⟩, ha.trans hA⟩
  rintro j (h | h)
  · exact Nat.lt_of_lt_of_le (hS.bd j h) hA.size
  · exact (hown.lt j h).2

theorem own_grown {w w2 w3 : World} {F : Nat → Prop} {v v' : Value} {k n m : Nat} {xs ys : List Value} (hS : Sl w2 F 5 1 v k xs) (ha : Adv Nul w F w2) (hown : w3.ownsRow 0 5 1 v' n ys) (hg : w2.grownBy w3 v.ownBlock)
    (hat : v'.ownBlock = v.ownBlock ∨ v'.ownBlock = some m) (hm : w2.heap.size ≤ m) : Sl w3 (fun j => F j ∨ v'.ownBlock = some j) 5 1 v' n ys ∧ Adv F w2 (fun j => F j ∨ v'.ownBlock = some j) w3 ∧ Adv Nul w (fun j => F j ∨ v'.ownBlock = some j) w3 := by
  have hF' : ∀ j, (F j ∨ v'.ownBlock = some j) → F j ∨ w2.heap.size ≤ j := by
    rintro j (h | h)
    · exact .inl h
    · rcases hat with e | e
      · exact .inl (hS.inF j (by rw [← e]; exact h))
      · rw [e] at h; injection h with h; right; omega
  have hA : Adv F w2 (fun j => F j ∨ v'.ownBlock = some j) w3 := by
    have h1 := (Adv.refl F w2).grown hg (fun j hj => .inl (hS.inF j hj))
    exact ⟨h1.os, h1.tape, h1.output, h1.size, h1.block, hF'⟩
  refine ⟨⟨hown, fun j hj => .inr hj, ?_⟩, hA, ha.trans hA⟩
  rintro j (h | h)
  · exact Nat.lt_of_lt_of_le (hS.bd j h) hA.size
  · exact (hown.lt j h).2

theorem run_append_rd {w : World} {ty : TypeId} {v src : Value} {n m : Nat} {xs news : List Value} (hown : w.ownsRow 0 5 1 v n xs) (hr : Rd w 1 src m news) (h1 : ∀ u ∈ news, u.oneCell' = true) (hn : n + m ≤ 1000000000) :
    ∃ v' w', (Builtin.append_ #[118, 118] ty #[v, src]).run Tryz.prog w = .ok v' w' ∧ w'.ownsRow 0 5 1 v' (n + m) (xs ++ news) ∧ w.grownBy w' v.ownBlock ∧ (v'.ownBlock = v.ownBlock ∨ v'.ownBlock = some w.heap.size) := by
  obtain ⟨i0, hi, hz0, hz1, hz2⟩ := info_parts Tryz.infoU8
  obtain ⟨A, c, rfl, hmc, _, hxl, hA, hc⟩ := hr
  rcases A with _ | ad
  · obtain rfl : c = 0 := hA rfl
    obtain rfl : m = 0 := by omega
    obtain rfl : news = [] := List.eq_nil_of_length_eq_zero (by simpa using hxl)
    exact ⟨v, w, run_append_owned_none (P := Tryz.prog) w 0 118 ty 5 i0 1 Tryz.underlying118 hi v n xs hown, by simpa using hown, World.grownBy.refl _ _, .inl rfl⟩
  · have hcells : ∀ j u, news[j]? = some u → w.cell? (ad.add j) = some u := by
      intro j u hu
      have hj : j < news.length := (List.getElem?_eq_some_iff.1 hu).1
      obtain ⟨ad', e, _, h⟩ := hc (by omega)
      have e := Option.some.inj e
      subst e
      exact h j u hu
    obtain ⟨v', w', hrun, h2, h3, _, h5⟩ := run_append_own_at (P := Tryz.prog) w 0 118 ty 5 i0 (.int .u8 0) 1 1 Tryz.underlying118 hi hz0 hz1 hz2 rfl (by decide) v n xs hown ad m c news hxl hcells h1 (by unfold maxLen; omega) (by omega) (Nat.zero_le _)
    exact ⟨v', w', hrun, h2, h3, h5⟩

theorem wpList_append_rd {w : World} {ops : Array Oper} {rest : List Oper} {o : Oper} {a : Act} {Q : Exit → Act → World → Prop} (hgd : o.guard = none) (s x : Operand)
    (ho : o.op = .call { callee := .builtin .append, args := #[s, x], argTypes := #[118, 118] })
    {v src : Value} {n m : Nat} {xs news : List Value} (hs : a.eval s = v) (hx : a.eval x = src) (hown : w.ownsRow 0 5 1 v n xs) (hr : Rd w 1 src m news) (h1 : ∀ u ∈ news, u.oneCell' = true) (hn : n + m ≤ 1000000000)
    (h : ∀ v' w', w'.ownsRow 0 5 1 v' (n + m) (xs ++ news) → w.grownBy w' v.ownBlock → (v'.ownBlock = v.ownBlock ∨ v'.ownBlock = some w.heap.size) → wpList Tryz.prog ops Q rest (a.put o.dst v') w') : wpList Tryz.prog ops Q (o :: rest) a w := by
  refine wpList_plain hgd fun K hK => ?_
  obtain ⟨v', w', hrun, h2, h3, h4⟩ := run_append_rd (ty := o.type) hown hr h1 hn
  unfold Oper.wp execOp
  simp only [ho, resolve, invoke, builtin, Sem.run_bind, Sem.run_pure, Result.andThen_ok, List.map_toArray, List.map_cons, List.map_nil, hs, hx, hrun]
  exact hK _ _ (h v' w' h2 h3 h4)
end Go.Proofs.YtcglfknkkeaegaaGreatDoor
namespace Go.Proofs.YtcglfknkkeaegaaGreatDoor
open Go.RowKit

/-- The writer at block b, with blocks F, has m bits: those of N. -/
structure WSt (w : World) (F : Nat → Prop) (b N m : Nat) : Prop where
  ex : ∃ rowv, Blk w b 191 #[.bool true, .int .i64 0, rowv, .int .i64 (pad m)] ∧ Sl w F 5 1 rowv (qn m) ((rowOf N m).map u8)
  inF : F b
  lt : N < 2 ^ m

theorem WSt.drew {w : World} {F : Nat → Prop} {b N m : Nat} (h : WSt w F b N m) : WSt w.drew F b N m :=
  ⟨let ⟨r, h1, h2⟩ := h.ex; ⟨r, h1, h2.drew⟩, h.inF, h.lt⟩

/-- The middle of lay: r bits of the last byte are free. -/
structure Mid (w : World) (F : Nat → Prop) (b g q cap N r : Nat) : Prop where
  blk : Blk w b 191 #[.bool true, .int .i64 0, .slice (some ⟨g, 0, none⟩) q cap, .int .i64 r]
  sl : Sl w F 5 1 (.slice (some ⟨g, 0, none⟩) q cap) q ((be q (N * 2 ^ r)).map u8)
  inF : F b
  ne : g ≠ b

/-- a nought byte is put behind -/
theorem Mid.grown {w1 : World} {F : Nat → Prop} {b g q cap N : Nat} {v : Value} (hB : Blk w1 b 191 #[.bool true, .int .i64 0, v, .int .i64 0]) (hown : w1.ownsRow 0 5 1 (.slice (some ⟨g, 0, none⟩) (q + 1) cap) (q + 1) ((be q N).map u8 ++ [.int .u8 0]))
    (hF : F b) (hgb : g ≠ b) (hgl : g < w1.heap.size) (hb : Bd F w1) :
    Mid ((w1.setCell ⟨b, 2, none⟩ (.slice (some ⟨g, 0, none⟩) (q + 1) cap)).setCell ⟨b, 3, none⟩ (.int .i64 8)) (fun j => F j ∨ j = g) b g (q + 1) cap N 8 := by
  refine ⟨(hB.set_ 2 _).set_ 3 _, ⟨?_, fun j hj => ?_, fun j hj => ?_⟩, .inl hF, hgb⟩
  · rw [be_snoc8, List.map_append, Nat.pow_zero, Nat.mul_one]
    exact own_keep (own_keep hown fun j hj => Below.heap_setCell _ _ _ _ (by
        have : g = j := by simpa [Value.ownBlock] using hj
        subst this; exact hgb)) fun j hj => Below.heap_setCell _ _ _ _ (by
        have : g = j := by simpa [Value.ownBlock] using hj
        subst this; exact hgb)
  · have : g = j := by simpa [Value.ownBlock] using hj
    exact .inr this.symm
  · simp only [World.setCell, Array.size_modify]
    rcases hj with h | h
    · exact hb j h
    · omega

theorem grown_adv {w wr w1 : World} {F F' : Nat → Prop} {b g q cap n : Nat} {v : Value} {o : Obj} {xs : List Value} (ha : Adv F w F' wr) (hS : Sl wr F' 5 1 v n xs) (hg1 : (wr.alloc o).grownBy w1 v.ownBlock)
    (hat : (Value.slice (some ⟨g, 0, none⟩) (q + 1) cap).ownBlock = v.ownBlock ∨ (Value.slice (some ⟨g, 0, none⟩) (q + 1) cap).ownBlock = some (wr.heap.size + 1)) (hF : F' b) (u1 u2 : Value) :
    Adv F w (fun j => F' j ∨ j = g) ((w1.setCell ⟨b, 2, none⟩ u1).setCell ⟨b, 3, none⟩ u2) := by
  have hgF : ∀ j, (fun j => F' j ∨ j = g) j → F' j ∨ wr.heap.size ≤ j := by
    rintro j (h | rfl)
    · exact .inl h
    · rcases hat with h | h
      · exact .inl (hS.inF _ (by rw [← h]; rfl))
      · right; simp [Value.ownBlock] at h; omega
  have h1 : Adv F' wr F' ((w1.setCell ⟨b, 2, none⟩ u1).setCell ⟨b, 3, none⟩ u2) :=
    ((((Adv.refl F' wr).alloc o).grown hg1 (fun k hk => .inl (hS.inF k hk))).setCell (p := ⟨b, 2, none⟩) (.inl hF) _).setCell (p := ⟨b, 3, none⟩) (.inl hF) _
  exact ha.trans ⟨h1.os, h1.tape, h1.output, h1.size, h1.block, hgF⟩

theorem Mid.last {w : World} {F : Nat → Prop} {b g q cap N r : Nat} (h : Mid w F b g q cap N r) (hq : 0 < q) : w.cell? ⟨g, q - 1, none⟩ = some (.int .u8 ((N * 2 ^ r % 256 : Nat) : Int)) := by
  rw [h.sl.own.cellAt (q - 1) (by omega), List.getElem?_map, be_last' _ _ hq]; rfl

/-- what the round leaves -/
theorem Mid.step {w : World} {F : Nat → Prop} {b g q cap N r m n y k : Nat} (h : Mid w F b g q cap N r) (hq : 0 < q) (hm : 8 * q = m + r) (hr0 : 0 < r) (hr : r ≤ 8) (hk : k = min n r) (hn : 0 < n) (hy : y < 2 ^ n) (hN : N < 2 ^ m)
    (v : Int) (hv : v = (((N * 2 ^ r % 256) ||| (y / 2 ^ (n - k) % 256 * 2 ^ (r - k) % 256) : Nat) : Int)) (t : Int) (ht : t = ((r - k : Nat) : Int)) :
    WSt ((w.setCell ⟨b, 3, none⟩ (.int .i64 t)).setCell ⟨g, q - 1, none⟩ (.int .u8 v)) F b (N * 2 ^ k + y / 2 ^ (n - k)) (m + k) := by
  have hR := lay_round q N r n y k hr0 hr hq hk hy
  have hqn : qn (m + k) = q := by unfold qn; omega
  have hpad : pad (m + k) = r - k := by unfold pad; omega
  subst hv; subst ht
  refine ⟨⟨.slice (some ⟨g, 0, none⟩) q cap, ?_, ?_⟩, h.inF, ?_⟩
  · rw [hpad]
    exact ((h.blk.set_ 3 _).far (p := ⟨g, q - 1, none⟩) (fun e => h.ne e.symm) _)
  · have h1 : Sl (w.setCell ⟨b, 3, none⟩ (.int .i64 ((r - k : Nat) : Int))) F 5 1 (.slice (some ⟨g, 0, none⟩) q cap) q ((be q (N * 2 ^ r)).map u8) :=
      ⟨own_keep h.sl.own fun j hj => Below.heap_setCell _ _ _ _ (by
        have : g = j := by simpa [Value.ownBlock] using hj
        subst this; exact h.ne), h.sl.inF, fun j hj => by have := h.sl.bd j hj; simpa [World.setCell] using this⟩
    refine ⟨?_, h1.inF, fun j hj => by have := h1.bd j hj; simpa [World.setCell] using this⟩
    have h2 := (h1.own.stored (q - 1) (.int .u8 (((N * 2 ^ r % 256) ||| (y / 2 ^ (n - k) % 256 * 2 ^ (r - k) % 256) : Nat) : Int))).1
    have h3 : ((be q (N * 2 ^ r)).map u8).set (q - 1) (.int .u8 (((N * 2 ^ r % 256) ||| (y / 2 ^ (n - k) % 256 * 2 ^ (r - k) % 256) : Nat) : Int)) = (rowOf (N * 2 ^ k + y / 2 ^ (n - k)) (m + k)).map u8 := by
      rw [hR.1]
      show _ = (be (qn (m + k)) _).map u8
      rw [hqn, hpad, ← hR.2, List.map_set]
      rfl
    rw [h3] at h2
    rw [hqn]
    exact h2
  · refine put_lt N m k _ hN ?_
    rw [Nat.div_lt_iff_lt_mul (Nat.two_pow_pos _), ← Nat.pow_add, show k + (n - k) = n from by omega]
    exact hy

theorem and_mask (y j : Nat) (hy : y < 18446744073709551616) (hj : j < 64) :
    bits .and .u64 (y : Int) (IntKind.u64.wrap (IntKind.u64.wrap (2 ^ j) - 1)) = ((y % 2 ^ j : Nat) : Int) := by
  have hp : 2 ^ j < 2 ^ 64 := Nat.pow_lt_pow_right (by decide) hj
  have hp0 : 0 < 2 ^ j := Nat.two_pow_pos j
  have e1 : IntKind.u64.wrap (2 ^ j) = ((2 ^ j : Nat) : Int) := by
    rw [IntKind.wrap_u64, show ((2 : Int) ^ j) = ((2 ^ j : Nat) : Int) from by simp]
    omega
  have e2 : IntKind.u64.wrap (((2 ^ j : Nat) : Int) - 1) = ((2 ^ j - 1 : Nat) : Int) := by
    rw [IntKind.wrap_u64]
    omega
  rw [e1, e2, u64_and_nat _ _ hy (by omega), Nat.and_two_pow_sub_one_eq_mod]

theorem and_zero (y : Nat) (hy : y < 18446744073709551616) : bits .and .u64 (y : Int) 0 = 0 := by
  have := u64_and_nat y 0 hy (by decide)
  simpa using this

theorem or_u8 (u c : Nat) (hu : u < 256) (hc : c < 256) (v : Int) (hv : v = (c : Int)) : bits .or .u8 (u : Int) v = ((u ||| c : Nat) : Int) := by
  rw [hv]; exact u8_or_nat u c hu hc

theorem pow_lt64 {y k : Nat} (hy : y < 2 ^ k) (hk : k ≤ 64) : y < 18446744073709551616 :=
  Nat.lt_of_lt_of_le hy (by have := Nat.pow_le_pow_right (n := 2) (by decide) hk; simpa using this)

def LayRel (w : World) (F : Nat → Prop) (b N m x n : Nat) (t1 t2 : Value) (wr : World) : Prop :=
  ∃ y k N' m' F', t1 = .int .u64 ((y : Nat) : Int) ∧ t2 = .int .i64 ((k : Nat) : Int) ∧ k ≤ n ∧ y < 2 ^ k ∧ m' + k = m + n ∧ N' * 2 ^ k + y = N * 2 ^ n + x ∧ WSt wr F' b N' m' ∧ Adv F w F' wr ∧ Bd F' wr

/-- the end of a round -/
theorem lay_close {w X : World} {F F' : Nat → Prop} {b g q cap N N' m m' r n k x y j : Nat} (hM : Mid X F' b g q cap N' r) (hq : 0 < q) (hm : 8 * q = m' + r) (hr0 : 0 < r) (hr : r ≤ 8) (hk : k = min j r) (hj : 0 < j) (hy : y < 2 ^ j)
    (hN : N' < 2 ^ m') (hjn : j ≤ n) (hmk : m' + j = m + n) (hNk : N' * 2 ^ j + y = N * 2 ^ n + x) (ha : Adv F w F' X) (hb : Bd F' X)
    (v1 v2 v t : Int) (h1 : v1 = ((y % 2 ^ (j - k) : Nat) : Int)) (h2 : v2 = ((j - k : Nat) : Int))
    (hv : v = (((N' * 2 ^ r % 256) ||| (y / 2 ^ (j - k) % 256 * 2 ^ (r - k) % 256) : Nat) : Int)) (ht : t = ((r - k : Nat) : Int)) :
    LayRel w F b N m x n (.int .u64 v1) (.int .i64 v2) (((X.setCell ⟨b, 3, none⟩ (.int .i64 t)).setCell ⟨g, q - 1, none⟩ (.int .u8 v)).drew) := by
  have hs := hM.step hq hm hr0 hr hk hj hy hN v hv t ht
  have hkj : k ≤ j := by omega
  have hF' : F' g := hM.sl.inF g rfl
  refine ⟨y % 2 ^ (j - k), j - k, N' * 2 ^ k + y / 2 ^ (j - k), m' + k, F', by rw [h1], by rw [h2], by omega, Nat.mod_lt _ (Nat.two_pow_pos _), by omega, ?_, hs.drew, ?_, fun i hi => by have := hb i hi; simpa [World.setCell] using this⟩
  · rw [lay_rest _ _ _ _ hkj]; exact hNk
  · exact (ha.trans (((Adv.refl F' X).setCell (p := ⟨b, 3, none⟩) (.inl hM.inF) _).setCell (p := ⟨g, q - 1, none⟩) (.inl hF') _)).drew
end Go.Proofs.YtcglfknkkeaegaaGreatDoor
namespace Go.Proofs.YtcglfknkkeaegaaGreatDoor
open Go.RowKit

set_option maxRecDepth 3000 in
set_option maxHeartbeats 2000000 in
theorem lay_any (b N m x n : Nat) (F : Nat → Prop) (w : World) (hw : WSt w F b N m) (hF : Bd F w) (hn : n ≤ 64) (hx : x < 2 ^ n) (hm : m + n ≤ 1000000000) :
    Calls Tryz.prog 125 #[.pointer (some ⟨b, 0, none⟩), .int .u64 x, .int .i64 n] w fun e w' => e = .returned (.tuple #[]) ∧
      ∃ F', WSt w' F' b (N * 2 ^ n + x) (m + n) ∧ Adv F w F' w' ∧ Bd F' w' := by
  go_enter Tryz.func125, Tryz.ntmps125
  go_wp2_with fail
  go_loopw [1, 2] (LayRel w F b N m x n) (fun _ t _ => (intOf t).toNat)
  case atStart => exact ⟨x, n, N, m, F, rfl, rfl, Nat.le_refl _, hx, rfl, rfl, hw, Adv.refl _ _, hF⟩
  case round =>
    obtain ⟨y, k, N', m', F', rfl, rfl, hkn, hy, hmk, hNk, hs, ha, hb⟩ := hrel
    have HM := Lib.hid hmk
    have HN := Lib.hid hNk
    clear hmk hNk
    obtain ⟨rowv, hB, hS⟩ := hs.ex
    have hq8 := qn_pad m'
    have hpl := pad_lt m'
    have hN' := hs.lt
    have hF' := hs.inF
    obtain ⟨r, hr⟩ : ∃ r, r = pad m' := ⟨_, rfl⟩
    obtain ⟨q, hq⟩ : ∃ q, q = qn m' := ⟨_, rfl⟩
    have hrow : rowOf N' m' = be q (N' * 2 ^ r) := by rw [hr, hq]; rfl
    rw [hrow] at hS
    rw [← hr] at hB hpl hq8
    rw [← hq] at hS hq8
    have HS := Lib.hid hs
    clear hrow hr hq hs
    have c3 : wr.cell? ⟨b, 3, none⟩ = some (.int .i64 r) := hB.cell 3
    have f3 := hB.frozen 3
    have c2 : wr.cell? ⟨b, 2, none⟩ = some rowv := hB.cell 2
    have f2 := hB.frozen 2
    have HQ := Lib.hid hq8
    have hqb : q ≤ 1000000000 := by have := HM.out; omega
    clear hq8
    by_cases hk0 : 0 < k
    · by_cases hp : 0 < r
      · have hq : 0 < q := by have := HQ.out; omega
        obtain ⟨g, cap, rfl, hFg, hqc⟩ := hS.form hq
        have hM : Mid wr F' b g q cap N' r := ⟨hB, hS, hF', fun e => own_blk_ne hS.own hB (by decide) (by rw [e]; rfl)⟩
        have hg := hM.last hq
        have fg := hS.own.frozenAt (q - 1)
        have hgb : g ≠ b := hM.ne
        have hbg : b ≠ g := hM.ne.symm
        have hr1 : ((r : Int) == 0) = false := by simp; omega
        obtain ⟨u, hu⟩ : ∃ u, u = N' * 2 ^ r % 256 := ⟨_, rfl⟩
        rw [← hu] at hg
        have HU := Lib.hid hu
        have HMid := Lib.hid hM
        have hy64 : y < 18446744073709551616 := Nat.lt_of_lt_of_le hy (by have := Nat.pow_le_pow_right (n := 2) (by decide) (show k ≤ 64 by omega); simpa using this)
        have hk64 : k ≤ 64 := by omega
        have HY := Lib.hid hy
        clear hu hM hB hS hy
        have hkk := and_zero y hy64
        have hu256 : u < 256 := by rw [HU.out]; exact Nat.mod_lt _ (by decide)
        rcases Nat.lt_trichotomy k r with hkr | hkr | hkr
        · go_wp2_with fail
          go_region
          go_wp2
          refine ⟨lay_close (k := k) HMid.out hq HQ.out hp (by omega) (by omega) hk0 HY.out hN' hkn HM.out HN.out ha hb _ _ _ _ ?_ ?_ ?_ ?_, ?_⟩
          · simp [Nat.mod_one]
          · simp
          · rw [← HU.out]
            exact or_u8 u _ hu256 (Nat.mod_lt _ (by decide)) _ (cast_c0 y k (r - k))
          · omega
          · simp [intOf] <;> omega
        · subst hkr
          go_wp2_with fail
          go_region
          go_wp2
          refine ⟨lay_close (k := k) HMid.out hq HQ.out hp (by omega) (by omega) hk0 HY.out hN' hkn HM.out HN.out ha hb _ _ _ _ ?_ ?_ ?_ ?_, ?_⟩
          · simp [Nat.mod_one]
          · simp
          · rw [← HU.out]
            exact or_u8 u _ hu256 (Nat.mod_lt _ (by decide)) _ (by simp)
          · omega
          · simp [intOf] <;> omega
        · have hmk := and_mask y (k - r) hy64 (by omega)
          go_wp2_with fail
          go_region
          go_wp2
          refine ⟨lay_close (k := r) HMid.out hq HQ.out hp (by omega) (by omega) hk0 HY.out hN' hkn HM.out HN.out ha hb _ _ _ _ ?_ ?_ ?_ ?_, ?_⟩
          · rfl
          · omega
          · rw [← HU.out]
            exact or_u8 u _ hu256 (Nat.mod_lt _ (by decide)) _ (by simp)
          · omega
          · simp [intOf] <;> omega
      · obtain rfl : r = 0 := by omega
        obtain ⟨a0, cap0, rfl, hqc0, _⟩ := hS.form0
        have HBl := Lib.hid hB
        have HSl := Lib.hid hS
        have hbn : (Value.slice a0 q cap0).ownBlock ≠ some b := own_blk_ne hS.own hB (by decide)
        have hown := hS.own
        have hblt := hB.lt
        have c3 : wr.cell? ⟨b, 3, none⟩ = some (.int .i64 0) := hB.cell 3
        have hy64 : y < 18446744073709551616 := pow_lt64 hy (by omega)
        have hk64 : k ≤ 64 := by omega
        have HY := Lib.hid hy
        clear hB hS hy
        obtain ⟨i0, hi, hz0, hz1, hz2⟩ := info_parts Tryz.infoU8
        go_upto_region 4 with ((first
          | (at_builtin; refine wpList_append_own_at _ rfl (.tmp 18) (.tmp 19) 118 rfl 0 5 i0 (.int .u8 0) 1 1 Tryz.underlying118 hi hz0 hz1 hz2 rfl (by decide) (.slice a0 q cap0) q _ rfl (hown.alloc _) ⟨wr.heap.size, 0, none⟩ 1 1 [.int .u8 0] rfl rfl (cell_one_new _ _ _) ?c2 ?c3 ?c4 (Nat.zero_le _) ?c5)
          | fail))
        case c2 => intro u hu; simp at hu; subst hu; rfl
        case c3 => unfold maxLen; omega
        case c4 => omega
        case c5 =>
          intro v' w1 hown1 hg1 _ hat1
          obtain ⟨g, cap, rfl, _, hgl⟩ := hown1.form (by omega)
          have hB1 : Blk w1 b 191 #[.bool true, .int .i64 0, .slice a0 q cap0, .int .i64 0] := (HBl.out.alloc _).keep (hg1.block b (by simp; omega) (fun e => hbn e.symm))
          have c2 : w1.cell? ⟨b, 2, none⟩ = some (.slice a0 q cap0) := hB1.cell 2
          have c3 : w1.cell? ⟨b, 3, none⟩ = some (.int .i64 0) := hB1.cell 3
          have f2 := hB1.frozen 2
          have f3 := hB1.frozen 3
          have hgb : g ≠ b := fun e => own_blk_ne hown1 hB1 (by decide) (by rw [e]; rfl)
          have hbg : b ≠ g := hgb.symm
          have HX := Lib.hid (Mid.grown hB1 hown1 hF' hgb hgl (by have := hg1.size; simp at this; exact fun j hj => Nat.lt_of_lt_of_le (hb j hj) (by omega)))
          have hA := grown_adv (b := b) ha HSl.out hg1 hat1 hF' (.slice (some ⟨g, 0, none⟩) (q + 1) cap) (.int .i64 8)
          clear hB1
          go_upto_region 4 with (fail)
          generalize (w1.setCell ⟨b, 2, none⟩ (.slice (some ⟨g, 0, none⟩) (q + 1) cap)).setCell ⟨b, 3, none⟩ (.int .i64 8) = X at *
          have hM := HX.out
          have hbX := hM.sl.bd
          have hg : X.cell? ⟨g, q, none⟩ = some (.int .u8 0) := by
            have h := hM.last (by omega)
            rwa [show N' * 2 ^ 8 % 256 = 0 from Nat.mul_mod_left _ _] at h
          have fg : X.frozen? ⟨g, q, none⟩ = false := hM.sl.own.frozenAt q
          have c2 : X.cell? ⟨b, 2, none⟩ = some (.slice (some ⟨g, 0, none⟩) (q + 1) cap) := hM.blk.cell 2
          have c3 : X.cell? ⟨b, 3, none⟩ = some (.int .i64 8) := hM.blk.cell 3
          have f2 := hM.blk.frozen 2
          have f3 := hM.blk.frozen 3
          have hkk := and_zero y hy64
          clear hM
          rcases Nat.lt_trichotomy k 8 with hkr | hkr | hkr
          · go_wp2_with fail
            go_region
            go_wp2
            refine ⟨lay_close (k := k) (q := q + 1) HX.out (by omega) (by have := HQ.out; omega) (by decide) (by decide) (by omega) (by omega) HY.out hN' hkn HM.out HN.out hA hbX _ _ _ _ ?_ ?_ ?_ ?_, ?_⟩
            · simp [Nat.mod_one]
            · simp
            · rw [show N' * 2 ^ 8 % 256 = 0 from Nat.mul_mod_left _ _]
              exact or_u8 0 _ (by decide) (Nat.mod_lt _ (by decide)) _ (cast_c0 y k (8 - k))
            · omega
            · simp [intOf] <;> omega
          · subst hkr
            go_wp2_with fail
            go_region
            go_wp2
            refine ⟨lay_close (k := 8) (q := q + 1) HX.out (by omega) (by have := HQ.out; omega) (by decide) (by decide) (by omega) (by omega) HY.out hN' hkn HM.out HN.out hA hbX _ _ _ _ ?_ ?_ ?_ ?_, ?_⟩
            · simp [Nat.mod_one]
            · simp
            · rw [show N' * 2 ^ 8 % 256 = 0 from Nat.mul_mod_left _ _]
              exact or_u8 0 _ (by decide) (Nat.mod_lt _ (by decide)) _ (by simp)
            · omega
            · simp [intOf] <;> omega
          · have hmk := and_mask y (k - 8) hy64 (by omega)
            go_wp2_with fail
            go_region
            go_wp2
            refine ⟨lay_close (k := 8) (q := q + 1) HX.out (by omega) (by have := HQ.out; omega) (by decide) (by decide) (by omega) (by omega) HY.out hN' hkn HM.out HN.out hA hbX _ _ _ _ ?_ ?_ ?_ ?_, ?_⟩
            · rfl
            · omega
            · rw [show N' * 2 ^ 8 % 256 = 0 from Nat.mul_mod_left _ _]
              exact or_u8 0 _ (by decide) (Nat.mod_lt _ (by decide)) _ (by simp)
            · omega
            · simp [intOf] <;> omega
    · go_wp2
      obtain rfl : k = 0 := by omega
      go_end0
      have h1 := HM.out
      have h2 := HN.out
      obtain rfl : y = 0 := by omega
      refine ⟨rfl, F', ?_, ha, hb⟩
      rw [← h2, ← h1]
      simpa using HS.out
end Go.Proofs.YtcglfknkkeaegaaGreatDoor
namespace Go.Proofs.YtcglfknkkeaegaaGreatDoor
open Go.RowKit

set_option maxRecDepth 3000 in
theorem isWidth_yes (n : Nat) (w : World) (h : n ≤ 64) : Calls Tryz.prog 123 #[.int .i64 n] w fun e w' => e = .returned (.bool true) ∧ w = w' := by
  have h0 : (0 : Int) ≤ n := by omega
  have h1 : (n : Int) ≤ 64 := by omega
  go_enter Tryz.func123, Tryz.ntmps123
  go_wp2
  go_ret
  exact ⟨rfl, rfl⟩

set_option maxRecDepth 3000 in
theorem isWidth_no (n : Int) (w : World) (h : n < 0 ∨ 64 < n) : Calls Tryz.prog 123 #[.int .i64 n] w fun e w' => e = .returned (.bool false) ∧ w = w' := by
  rcases h with h | h
  · have h0 : decide ((0 : Int) ≤ n) = false := by simp; omega
    go_enter Tryz.func123, Tryz.ntmps123
    go_wp2
    go_ret
    exact ⟨rfl, rfl⟩
  · have h0 : (0 : Int) ≤ n := by omega
    have h1 : decide (n ≤ (64 : Int)) = false := by simp; omega
    go_enter Tryz.func123, Tryz.ntmps123
    go_wp2
    go_ret
    exact ⟨rfl, rfl⟩

/-- The writer at block b has an error. -/
structure WErr (w : World) (F : Nat → Prop) (b : Nat) : Prop where
  ex : ∃ v r, Blk w b 191 #[.bool true, .int .i64 2, v, r]
  inF : F b
  bd : Bd F w

set_option maxRecDepth 3000 in
theorem fail_any (b : Nat) (F : Nat → Prop) (v r : Value) (w : World) (hB : Blk w b 191 #[.bool true, .int .i64 0, v, r]) (hF : F b) (hb : Bd F w) :
    Calls Tryz.prog 124 #[.pointer (some ⟨b, 0, none⟩)] w fun e w' => e = .returned (.pointer (some ⟨b, 0, none⟩)) ∧ WErr w' F b ∧ Adv F w F w' := by
  have c1 : w.cell? ⟨b, 1, none⟩ = some (.int .i64 0) := hB.cell 1
  have c2 : w.cell? ⟨b, 2, none⟩ = some v := hB.cell 2
  have c3 : w.cell? ⟨b, 3, none⟩ = some r := hB.cell 3
  have f1 := hB.frozen 1
  have f2 := hB.frozen 2
  have f3 := hB.frozen 3
  have H := Lib.hid hB
  clear hB
  go_enter Tryz.func124, Tryz.ntmps124
  go_wp2
  go_ret
  refine ⟨rfl, ⟨⟨_, _, (((H.out.set_ 1 _).set_ 2 _).set_ 3 _)⟩, hF, fun j hj => by have := hb j hj; simpa [World.setCell] using this⟩, ?_⟩
  exact (((Adv.refl F w).setCell (p := ⟨b, 1, none⟩) (.inl hF) _).setCell (p := ⟨b, 2, none⟩) (.inl hF) _).setCell (p := ⟨b, 3, none⟩) (.inl hF) _

theorem shr_no {x n : Nat} (h : x < 2 ^ n) : ((x : Int) / 2 ^ n != 0) = false := by
  have e : (x : Int) / 2 ^ n = ((x / 2 ^ n : Nat) : Int) := by rw [Int.natCast_ediv, Int.natCast_pow]; rfl
  rw [e, Nat.div_eq_of_lt h]; rfl
theorem shr_yes {x n : Nat} (h : 2 ^ n ≤ x) : ((x : Int) / 2 ^ n != 0) = true := by
  have e : (x : Int) / 2 ^ n = ((x / 2 ^ n : Nat) : Int) := by rw [Int.natCast_ediv, Int.natCast_pow]; rfl
  have : 0 < x / 2 ^ n := Nat.div_pos h (Nat.two_pow_pos n)
  rw [e, bne_iff_ne]; omega

set_option maxRecDepth 3000 in
set_option maxHeartbeats 400000 in
theorem put_ok (b N m x n : Nat) (F : Nat → Prop) (w : World) (hw : WSt w F b N m) (hF : Bd F w) (hn : n ≤ 64) (hx : x < 2 ^ n) (hm : m + n ≤ 1000000000) :
    Calls Tryz.prog 91 #[.pointer (some ⟨b, 0, none⟩), .int .u64 x, .int .i64 n] w fun e w' => e = .returned (.pointer (some ⟨b, 0, none⟩)) ∧
      ∃ F', WSt w' F' b (N * 2 ^ n + x) (m + n) ∧ Adv F w F' w' ∧ Bd F' w' := by
  obtain ⟨v, hB, hS⟩ := hw.ex
  have c0 : w.cell? ⟨b, 0, none⟩ = some (.bool true) := hB.cell 0
  have c1 : w.cell? ⟨b, 1, none⟩ = some (.int .i64 0) := hB.cell 1
  have hd := shr_no hx
  have HW := Lib.hid hw
  have HX := Lib.hid hx
  have hx64 := pow_lt64 hx hn
  clear hB hS hw hx
  go_enter Tryz.func91, Tryz.ntmps91
  go_wp2_with (first
    | (go_at_call 123; refine (isWidth_yes n _ hn).mono ?_; rintro e w' ⟨rfl, rfl⟩)
    | (go_at_call 125; refine (lay_any b N m x n F _ HW.out hF hn HX.out hm).mono ?_; rintro e w1 ⟨rfl, hpost⟩))
  go_ret
  exact ⟨rfl, hpost⟩

set_option maxRecDepth 3000 in
/-- A number that does not fit. -/
theorem put_bad (b N m x : Nat) (n : Int) (F : Nat → Prop) (w : World) (hw : WSt w F b N m) (hF : Bd F w) (_hx : x < 18446744073709551616) (hbad : n < 0 ∨ 64 < n ∨ ∃ k : Nat, n = k ∧ k ≤ 64 ∧ 2 ^ k ≤ x) :
    Calls Tryz.prog 91 #[.pointer (some ⟨b, 0, none⟩), .int .u64 x, .int .i64 n] w fun e w' => e = .returned (.pointer (some ⟨b, 0, none⟩)) ∧ WErr w' F b ∧ Adv F w F w' := by
  obtain ⟨v, hB, hS⟩ := hw.ex
  have c0 : w.cell? ⟨b, 0, none⟩ = some (.bool true) := hB.cell 0
  have c1 : w.cell? ⟨b, 1, none⟩ = some (.int .i64 0) := hB.cell 1
  have hFb := hw.inF
  have HB := Lib.hid hB
  clear hB hS hw
  by_cases hn : n < 0 ∨ 64 < n
  · clear hbad
    go_enter Tryz.func91, Tryz.ntmps91
    go_wp2_with (first
      | (go_at_call 123; refine (isWidth_no n _ hn).mono ?_; rintro e w' ⟨rfl, rfl⟩)
      | (go_at_call 124; refine (fail_any b F _ _ _ HB.out hFb hF).mono ?_; rintro e w1 ⟨rfl, hpost⟩))
    go_ret
    exact ⟨rfl, hpost⟩
  · obtain ⟨k, rfl, hk, hkx⟩ : ∃ k : Nat, n = k ∧ k ≤ 64 ∧ 2 ^ k ≤ x := by
      rcases hbad with h | h | h
      · exact absurd (.inl h) hn
      · exact absurd (.inr h) hn
      · exact h
    have hd := shr_yes hkx
    clear hbad hn hkx
    go_enter Tryz.func91, Tryz.ntmps91
    go_wp2_with (first
      | (go_at_call 123; refine (isWidth_yes k _ hk).mono ?_; rintro e w' ⟨rfl, rfl⟩)
      | (go_at_call 124; refine (fail_any b F _ _ _ HB.out hFb hF).mono ?_; rintro e w1 ⟨rfl, hpost⟩))
    go_ret
    exact ⟨rfl, hpost⟩

set_option maxRecDepth 3000 in
/-- A writer that has an error already. -/
theorem put_err (b : Nat) (x n : Int) (F : Nat → Prop) (w : World) (hw : WErr w F b) :
    Calls Tryz.prog 91 #[.pointer (some ⟨b, 0, none⟩), .int .u64 x, .int .i64 n] w fun e w' => e = .returned (.pointer (some ⟨b, 0, none⟩)) ∧ w = w' := by
  obtain ⟨v, r, hB⟩ := hw.ex
  have c0 : w.cell? ⟨b, 0, none⟩ = some (.bool true) := hB.cell 0
  have c1 : w.cell? ⟨b, 1, none⟩ = some (.int .i64 2) := hB.cell 1
  clear hB hw
  go_enter Tryz.func91, Tryz.ntmps91
  go_wp2
  go_ret
  exact ⟨rfl, rfl⟩

set_option maxRecDepth 3000 in
theorem new_any (w : World) : Calls Tryz.prog 90 #[] w fun e w' => ∃ b F, e = .returned (.pointer (some ⟨b, 0, none⟩)) ∧ WSt w' F b 0 0 ∧ Adv Nul w F w' ∧ Bd F w' := by
  go_enter Tryz.func90, Tryz.ntmps90
  go_wp2
  go_ret
  refine ⟨w.heap.size, (· = w.heap.size), rfl, ⟨⟨.slice none 0 0, Blk.new _ _ _, ?_⟩, rfl, by decide⟩, ?_, ?_⟩
  · refine Sl.nilF _ _ (fun k hk => ?_) _ _
    simp [hk]
  · exact Adv.new_ ((Below.refl _ _).alloc (Nat.le_refl _) _) (fun k hk => by simp [hk])
  · intro k hk
    simp [hk]
end Go.Proofs.YtcglfknkkeaegaaGreatDoor
namespace Go.Proofs.YtcglfknkkeaegaaGreatDoor
open Go.RowKit

set_option maxRecDepth 3000 in
theorem clone_any (v : Value) (n : Nat) (xs : List Value) (w : World) (hv : Rd w 1 v n xs) (h1 : ∀ u ∈ xs, u.oneCell' = true) (hl : n ≤ 1000000000) :
    Calls Tryz.prog 126 #[v] w fun e w' => ∃ v' F', e = .returned v' ∧ Sl w' F' 5 1 v' n xs ∧ Adv Nul w F' w' := by
  obtain ⟨A, c, rfl, hnc, hcm, hxl, hA, hr⟩ := hv
  obtain ⟨i0, hi, hz0, hz1, hz2⟩ := info_parts Tryz.infoU8
  rcases A with _ | a
  · obtain rfl : c = 0 := hA rfl
    obtain rfl : n = 0 := by omega
    obtain rfl : xs = [] := List.eq_nil_of_length_eq_zero (by simpa using hxl)
    have he := fun wx => Lib.run_eql_slice_nil (P := Tryz.prog) wx 118 5 none 0 0 0 0 Tryz.underlying118
    clear hnc hcm hxl hA hr h1
    go_enter Tryz.func126, Tryz.ntmps126
    go_wp2
    go_ret
    exact ⟨_, _, rfl, Sl.nil _ _ _, Adv.refl _ _⟩
  · have he := fun wx => Lib.run_eql_slice_nil (P := Tryz.prog) wx 118 5 (some a) n c 0 0 Tryz.underlying118
    have hcells : ∀ j u, xs[j]? = some u → (w.alloc (.cells #[] 5)).cell? (a.add j) = some u := by
      intro j u hu
      have hj : j < xs.length := (List.getElem?_eq_some_iff.1 hu).1
      obtain ⟨ad, e, hb, hc⟩ := hr (by omega)
      injection e with e
      subst e
      rw [World.cell?_of_block (w := w) (by rw [add_block]; exact Below.heap_alloc _ _ _ hb)]
      exact hc j u hu
    have hown : (w.alloc (.cells #[] 5)).ownsRow w.heap.size 5 1 (.slice (some ⟨w.heap.size, 0, none⟩) 0 0) 0 [] := World.ownsRow_made w #[] 0 (Nat.le_refl _) (Nat.zero_le _) rfl
    have HR := Lib.hid hr
    have HC := Lib.hid hcells
    have HL := Lib.hid hxl
    clear hr hcells hA hxl hnc hcm
    go_enter Tryz.func126, Tryz.ntmps126
    go_wp2_with (first
      | (at_builtin; refine wpList_append_own_at _ rfl (.tmp 5) (.tmp 6) 118 rfl w.heap.size 5 i0 (.int .u8 0) 1 1 Tryz.underlying118 hi hz0 hz1 hz2 rfl (by decide) (.slice (some ⟨w.heap.size, 0, none⟩) 0 0) 0 [] rfl hown a n c xs rfl HL.out HC.out h1 ?c3 ?c4 (by simp) ?c5)
      | fail)
    case c3 => unfold maxLen; omega
    case c4 => omega
    case c5 =>
      intro v' w1 hown1 hg1 _ hat1
      go_wp2
      go_ret
      have hb : Below w.heap.size w w1 := ((Below.refl w.heap.size w).alloc (Nat.le_refl _) _).grown hg1 (by simp) (fun k hk => by simp [Value.ownBlock] at hk; omega)
      have hlt := hown1.lt
      exact ⟨v', (fun k => v'.ownBlock = some k), rfl, ⟨own_base hown1, fun k hk => hk, fun k hk => (hlt k hk).2⟩, Adv.new_ hb (fun k hk => (hlt k hk).1)⟩

set_option maxRecDepth 3000 in
theorem done_ok (b N m : Nat) (F : Nat → Prop) (w : World) (hw : WSt w F b N m) (hm : m ≤ 1000000000) :
    Calls Tryz.prog 94 #[.pointer (some ⟨b, 0, none⟩)] w fun e w' => ∃ v F', e = .returned (.tuple #[v, .int .i64 0]) ∧ Sl w' F' 5 1 v (qn m) ((rowOf N m).map u8) ∧ Adv Nul w F' w' := by
  obtain ⟨v, hB, hS⟩ := hw.ex
  have c0 : w.cell? ⟨b, 0, none⟩ = some (.bool true) := hB.cell 0
  have c1 : w.cell? ⟨b, 1, none⟩ = some (.int .i64 0) := hB.cell 1
  have c2 : w.cell? ⟨b, 2, none⟩ = some v := hB.cell 2
  have HS := Lib.hid hS
  have hq : qn m ≤ 1000000000 := by unfold qn; omega
  clear hB hS hw
  go_enter Tryz.func94, Tryz.ntmps94
  go_wp2_with (first
    | (go_at_call 126; refine (clone_any v _ _ _ HS.out.rd (u8_one _) hq).mono ?_; rintro e w1 ⟨v1, F1, rfl, hpost⟩))
  go_ret2
  exact ⟨_, _, rfl, hpost⟩

set_option maxRecDepth 3000 in
theorem done_err (b : Nat) (F : Nat → Prop) (w : World) (hw : WErr w F b) :
    Calls Tryz.prog 94 #[.pointer (some ⟨b, 0, none⟩)] w fun e w' => e = .returned (.tuple #[.slice none 0 0, .int .i64 2]) ∧ Adv Nul w Nul w' := by
  obtain ⟨v, r, hB⟩ := hw.ex
  have c0 : w.cell? ⟨b, 0, none⟩ = some (.bool true) := hB.cell 0
  have c1 : w.cell? ⟨b, 1, none⟩ = some (.int .i64 2) := hB.cell 1
  clear hB hw
  go_enter Tryz.func94, Tryz.ntmps94
  go_wp2
  go_quiet (fail)
  go_wp2
  go_ret2
  exact ⟨rfl, (Adv.refl _ _).drewN _⟩
end Go.Proofs.YtcglfknkkeaegaaGreatDoor
