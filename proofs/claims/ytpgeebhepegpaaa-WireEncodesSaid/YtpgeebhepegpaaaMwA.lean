/- The statements' lists of calls, and few. The writer's Text. Plain facts: what was put is got. The document's own reader: its state; Left, End, Get. The document's own reader: Text. The document's reader, also where it has fallen short: one contract for bytes of any length. (Split off StG.) -/
import Derived.Test.YtpgeebhepegpaaaR01
import Derived.Test.YtpgeebhepegpaaaShort
import Derived.Test.YtpgeebhepegpaaaPut
import Derived.Test.YtpgeebhepegpaaaRText
import Derived.Test.YtpgeebhepegpaaaRdr
namespace Go.Proofs.Ytpgeebhepegpaaa
open Go.RowKit

structure Do where
  kind : Int
  x : Nat
  n : Int
  s : ByteArray

def Do.cells (d : Do) : List Value := [.int .i64 d.kind, .int .u64 (d.x : Int), .int .i64 d.n, .string d.s]
def cellsOf (l : List Do) : List Value := l.flatMap Do.cells

theorem cellsOf_length (l : List Do) : (cellsOf l).length = l.length * 4 := by
  induction l with
  | nil => rfl
  | cons d l ih => simp [cellsOf, List.flatMap_cons, Do.cells] at ih ⊢; omega
theorem cellsOf_append (l m : List Do) : cellsOf (l ++ m) = cellsOf l ++ cellsOf m := by simp [cellsOf]
theorem cellsOf_at (l : List Do) (k j : Nat) (hj : j < 4) (hk : k < l.length) : (cellsOf l)[k * 4 + j]? = (l[k].cells)[j]? := by
  induction l generalizing k with
  | nil => simp at hk
  | cons d l ih =>
    cases k with
    | zero =>
      simp only [cellsOf, List.flatMap_cons, Nat.zero_mul, Nat.zero_add, List.getElem_cons_zero]
      rw [List.getElem?_append_left (by simpa [Do.cells] using hj)]
    | succ k =>
      have h := ih k (by simpa using hk)
      simp only [cellsOf, List.flatMap_cons, List.getElem_cons_succ] at h ⊢
      rw [List.getElem?_append_right (by simp [Do.cells]; omega), ← h]
      congr 1
      simp [Do.cells]; omega

def shortS (s : ByteArray) : ByteArray := if 40 < s.size then s.extract 0 40 else s
theorem shortS_size (s : ByteArray) : (shortS s).size ≤ 40 := by
  unfold shortS
  split
  · simp only [ByteArray.size_extract]; omega
  · omega
def Do.short (d : Do) : Do := { d with s := shortS d.s }
def fewOf (ds : List Do) : List Do := (ds.map Do.short).take 40

theorem short_few (s : ByteArray) (w : World) (hs : s.size ≤ maxLen) :
    Calls Try.prog 29 #[.string s, .int .i64 40] w fun e w' => e = .returned (.string (shortS s)) ∧ w = w' := short_any s 40 w (by decide) hs

theorem do_one (d : Do) : ∀ u ∈ d.cells, u.oneCell' = true := by
  intro u hu
  simp only [Do.cells, List.mem_cons, List.not_mem_nil, or_false] at hu
  rcases hu with rfl | rfl | rfl | rfl <;> rfl

/-- What is known of a list of calls that came in. -/
def DosIn (w : World) (v : Value) (ds : List Do) : Prop := Rd w 4 v ds.length (cellsOf ds) ∧ (∀ d ∈ ds, d.s.size ≤ maxLen)
end Go.Proofs.Ytpgeebhepegpaaa
namespace Go.Proofs.Ytpgeebhepegpaaa
open Go.RowKit

theorem lay_int (b N m : Nat) (x n : Int) (F : Nat → Prop) (w : World) (hw : WSt w F b N m) (hF : Bd F w) (hn0 : 0 ≤ n) (hn : n ≤ 64) (hx0 : 0 ≤ x) (hx : x.toNat < 2 ^ n.toNat) (hm : m + n.toNat ≤ 1000000000) :
    Calls Try.prog 87 #[.pointer (some ⟨b, 0, none⟩), .int .u64 x, .int .i64 n] w fun e w' => e = .returned (.tuple #[]) ∧
      ∃ F', WSt w' F' b (N * 2 ^ n.toNat + x.toNat) (m + n.toNat) ∧ Adv F w F' w' ∧ Bd F' w' := by
  obtain ⟨k, rfl⟩ := Int.eq_ofNat_of_zero_le hn0
  obtain ⟨y, rfl⟩ := Int.eq_ofNat_of_zero_le hx0
  exact lay_any b N m y k F w hw hF (by omega) hx hm

/-- the bits of a text's bytes behind those of N -/
def tx (N : Nat) (l : List UInt8) : Nat := l.foldl (fun a c => a * 256 + c.toNat) N
theorem tx_snoc (N : Nat) (l : List UInt8) (c : UInt8) : tx N (l ++ [c]) = tx N l * 256 + c.toNat := by simp [tx]
theorem take_snoc (s : ByteArray) (k : Nat) (h : k < s.size) : s.data.toList.take (k + 1) = s.data.toList.take k ++ [s[k]] := by
  rw [List.take_succ_eq_append_getElem (by simpa using h)]; rfl

def TextRel (w : World) (F : Nat → Prop) (b N m : Nat) (s : ByteArray) (t : Value) (wr : World) : Prop :=
  ∃ k F', t = .int .i64 ((k : Nat) : Int) ∧ k ≤ s.size ∧ WSt wr F' b (tx (N * 65536 + s.size) (s.data.toList.take k)) (m + 16 + 8 * k) ∧ Adv F w F' wr ∧ Bd F' wr

set_option maxRecDepth 3000 in
set_option maxHeartbeats 400000 in
theorem text_ok (b N m : Nat) (s : ByteArray) (F : Nat → Prop) (w : World) (hw : WSt w F b N m) (hF : Bd F w) (hs : s.size ≤ 65535) (hm : m + 16 + 8 * s.size ≤ 1000000000) :
    Calls Try.prog 70 #[.pointer (some ⟨b, 0, none⟩), .string s] w fun e w' => e = .returned (.pointer (some ⟨b, 0, none⟩)) ∧
      ∃ F', WSt w' F' b (tx (N * 65536 + s.size) s.data.toList) (m + 16 + 8 * s.size) ∧ Adv F w F' w' ∧ Bd F' w' := by
  obtain ⟨v, hB, hS⟩ := hw.ex
  have c0 : w.cell? ⟨b, 0, none⟩ = some (.bool true) := hB.cell 0
  have c1 : w.cell? ⟨b, 1, none⟩ = some (.int .i64 0) := hB.cell 1
  have HW := Lib.hid hw
  clear hB hS hw
  go_enter Try.func70, Try.ntmps70
  go_wp2_with (first
    | (go_at_call 87; refine (lay_int b N m _ _ F _ HW.out hF (by omega) (by omega) (by omega) (by simp; omega) (by simp; omega)).mono ?_; rintro e w1 ⟨rfl, F1, hw1, ha1, hb1⟩))
  have h0 : WSt w1 F1 b (tx (N * 65536 + s.size) (s.data.toList.take 0)) (m + 16 + 8 * 0) := by simpa [tx] using hw1
  clear hw1
  have H0 := Lib.hid h0
  clear h0
  go_loopw [33] (TextRel w F b N m s) (fun t _ => s.size - (intOf t).toNat)
  case atStart => exact ⟨0, F1, rfl, by omega, H0.out, ha1, hb1⟩
  case round =>
    obtain ⟨k, F', rfl, hk, hwk, ha, hb⟩ := hrel
    have HK := Lib.hid hwk
    clear hwk
    by_cases hlt : k < s.size
    · have hu : s[k].toNat < 256 := s[k].toNat_lt
      go_wp2_with (first
        | (go_at_call 87; refine (lay_int b _ _ _ _ F' _ HK.out hb (by omega) (by omega) (by omega) (by simp; omega) (by simp; omega)).mono ?_; rintro e w2 ⟨rfl, F2, hw2, ha2, hb2⟩))
      have H2 := Lib.hid hw2
      clear hw2
      refine ⟨⟨k + 1, F2, by simp, by omega, ?_, ha.trans ha2, hb2⟩, by simp [intOf]; omega⟩
      rw [take_snoc s k hlt, tx_snoc]
      exact H2.out
    · obtain rfl : k = s.size := by omega
      go_wp2
      go_ret
      refine ⟨rfl, F', ?_, ha, hb⟩
      have h := HK.out
      rwa [List.take_of_length_le (by simp)] at h

set_option maxRecDepth 3000 in
theorem text_bad (b N m : Nat) (s : ByteArray) (F : Nat → Prop) (w : World) (hw : WSt w F b N m) (hF : Bd F w) (hs : 65535 < s.size) :
    Calls Try.prog 70 #[.pointer (some ⟨b, 0, none⟩), .string s] w fun e w' => e = .returned (.pointer (some ⟨b, 0, none⟩)) ∧ WErr w' F b ∧ Adv F w F w' := by
  obtain ⟨v, hB, hS⟩ := hw.ex
  have c0 : w.cell? ⟨b, 0, none⟩ = some (.bool true) := hB.cell 0
  have c1 : w.cell? ⟨b, 1, none⟩ = some (.int .i64 0) := hB.cell 1
  have hFb := hw.inF
  have HB := Lib.hid hB
  clear hB hS hw
  go_enter Try.func70, Try.ntmps70
  go_wp2_with (first
    | (go_at_call 86; refine (fail_any b F _ _ _ HB.out hFb hF).mono ?_; rintro e w1 ⟨rfl, hpost⟩))
  go_ret
  exact ⟨rfl, hpost⟩

set_option maxRecDepth 3000 in
theorem text_err (b : Nat) (s : ByteArray) (F : Nat → Prop) (w : World) (hw : WErr w F b) :
    Calls Try.prog 70 #[.pointer (some ⟨b, 0, none⟩), .string s] w fun e w' => e = .returned (.pointer (some ⟨b, 0, none⟩)) ∧ w = w' := by
  obtain ⟨v, r, hB⟩ := hw.ex
  have c0 : w.cell? ⟨b, 0, none⟩ = some (.bool true) := hB.cell 0
  have c1 : w.cell? ⟨b, 1, none⟩ = some (.int .i64 2) := hB.cell 1
  clear hB hw
  go_enter Try.func70, Try.ntmps70
  go_wp2
  go_ret
  exact ⟨rfl, rfl⟩

set_option maxRecDepth 3000 in
theorem text_none (s : ByteArray) (w : World) :
    Calls Try.prog 70 #[.pointer none, .string s] w fun e w' => e = .returned (.pointer none) ∧ w = w' := by
  go_enter Try.func70, Try.ntmps70
  go_wp2
  go_ret
  exact ⟨rfl, rfl⟩
end Go.Proofs.Ytpgeebhepegpaaa
namespace Go.Proofs.Ytpgeebhepegpaaa

theorem snocInd {α : Type} {motive : List α → Prop} (nil : motive []) (append_singleton : ∀ l a, motive l → motive (l ++ [a])) (l : List α) : motive l := by
  have h : ∀ m : List α, motive m.reverse := by
    intro m
    induction m with
    | nil => exact nil
    | cons a m ih => rw [List.reverse_cons]; exact append_singleton _ _ ih
  have := h l.reverse
  rwa [List.reverse_reverse] at this

def Do.fits (d : Do) : Prop := d.kind = 0 → 0 ≤ d.n ∧ d.n ≤ 64 ∧ d.x < 2 ^ d.n.toNat
def Do.bits (d : Do) : Nat := if d.kind = 0 then d.n.toNat else 16 + 8 * d.s.size
def Do.num (d : Do) : Nat := if d.kind = 0 then d.x else tx d.s.size d.s.data.toList
def numOf (l : List Do) : Nat := l.foldl (fun a d => a * 2 ^ d.bits + d.num) 0
def lenOf (l : List Do) : Nat := l.foldl (fun a d => a + d.bits) 0

theorem numOf_snoc (l : List Do) (d : Do) : numOf (l ++ [d]) = numOf l * 2 ^ d.bits + d.num := by simp [numOf]
theorem lenOf_snoc (l : List Do) (d : Do) : lenOf (l ++ [d]) = lenOf l + d.bits := by simp [lenOf]

theorem tx_eq (N : Nat) (l : List UInt8) : tx N l = N * 2 ^ (8 * l.length) + tx 0 l := by
  induction l using snocInd generalizing N with
  | nil => simp [tx]
  | append_singleton l c ih =>
    rw [tx_snoc, tx_snoc, ih, List.length_append, List.length_singleton, Nat.mul_add, Nat.pow_add, Nat.add_mul, Nat.mul_assoc, Nat.add_assoc]
theorem tx_lt (l : List UInt8) : tx 0 l < 2 ^ (8 * l.length) := by
  induction l using snocInd with
  | nil => simp [tx]
  | append_singleton l c ih =>
    rw [tx_snoc, List.length_append, List.length_singleton, Nat.mul_add, Nat.pow_add]
    have := c.toNat_lt
    omega
theorem tx_put (N : Nat) (s : ByteArray) : tx (N * 65536 + s.size) s.data.toList = N * 2 ^ (16 + 8 * s.size) + tx s.size s.data.toList := by
  have hl : s.data.toList.length = s.size := by simp
  rw [tx_eq, tx_eq s.size, hl, Nat.pow_add, Nat.add_mul, Nat.mul_assoc, Nat.add_assoc]
theorem tx_size_lt (s : ByteArray) (h : s.size ≤ 65535) : tx s.size s.data.toList < 2 ^ (16 + 8 * s.size) := by
  have hl : s.data.toList.length = s.size := by simp
  have h1 := tx_lt s.data.toList
  rw [tx_eq, hl, Nat.pow_add]
  rw [hl] at h1
  calc s.size * 2 ^ (8 * s.size) + tx 0 s.data.toList < s.size * 2 ^ (8 * s.size) + 2 ^ (8 * s.size) := by omega
    _ = (s.size + 1) * 2 ^ (8 * s.size) := by rw [Nat.add_mul, Nat.one_mul]
    _ ≤ 2 ^ 16 * 2 ^ (8 * s.size) := Nat.mul_le_mul_right _ (by omega)

theorem num_lt (d : Do) (hf : d.fits) (hs : d.s.size ≤ 65535) : d.num < 2 ^ d.bits := by
  unfold Do.num Do.bits
  split
  · exact (hf ‹_›).2.2
  · exact tx_size_lt _ hs

/-- All behind l1: so many bits, a number below. -/
theorem numOf_append (l1 l2 : List Do) (h : ∀ d ∈ l2, d.fits ∧ d.s.size ≤ 65535) : ∃ r m, r < 2 ^ m ∧ numOf (l1 ++ l2) = numOf l1 * 2 ^ m + r ∧ lenOf (l1 ++ l2) = lenOf l1 + m := by
  induction l2 using snocInd with
  | nil => exact ⟨0, 0, by simp, by simp, by simp⟩
  | append_singleton l2 d ih =>
    obtain ⟨r, m, hr, h1, h2⟩ := ih (fun x hx => h x (by simp [hx]))
    have hd := h d (by simp)
    refine ⟨r * 2 ^ d.bits + d.num, m + d.bits, put_lt _ _ _ _ hr (num_lt d hd.1 hd.2), ?_, ?_⟩
    · rw [← List.append_assoc, numOf_snoc, h1, Nat.add_mul, Nat.pow_add, Nat.mul_assoc, Nat.add_assoc]
    · rw [← List.append_assoc, lenOf_snoc, h2, Nat.add_assoc]

theorem bitsAt_mid (N v k r m pd q V a T : Nat) (hr : r < 2 ^ m) (hv : v < 2 ^ k) (hT : 8 * q = T + pd) (ha : T = a + k + m) (hV : V = ((N * 2 ^ k + v) * 2 ^ m + r) * 2 ^ pd) : bitsAt q V a k = v := by
  unfold bitsAt
  rw [show 8 * q - a - k = m + pd from by omega, hV, Nat.pow_add, Nat.mul_comm (2 ^ m) (2 ^ pd), ← Nat.div_div_eq_div_mul, Nat.mul_div_cancel _ (Nat.two_pow_pos _), Nat.add_comm, Nat.add_mul_div_right _ _ (Nat.two_pow_pos _), Nat.div_eq_of_lt hr, Nat.zero_add, Nat.add_comm, Nat.add_mul_mod_self_right, Nat.mod_eq_of_lt hv]

/-- What stands at an item's place is its number. -/
theorem item_at (l : List Do) (j : Nat) (hj : j < l.length) (h : ∀ d ∈ l, d.fits ∧ d.s.size ≤ 65535) :
    bitsAt (qn (lenOf l)) (numOf l * 2 ^ pad (lenOf l)) (lenOf (l.take j)) (l[j].bits) = l[j].num ∧ lenOf (l.take j) + l[j].bits ≤ 8 * qn (lenOf l) := by
  have hsp : l = l.take j ++ [l[j]] ++ l.drop (j + 1) := by
    rw [List.append_assoc, List.singleton_append, List.getElem_cons_drop, List.take_append_drop]
  obtain ⟨r, m, hr, h1, h2⟩ := numOf_append (l.take j ++ [l[j]]) (l.drop (j + 1)) (fun d hd => h d (List.mem_of_mem_drop hd))
  rw [← hsp, numOf_snoc] at h1
  rw [← hsp, lenOf_snoc] at h2
  have hd := h l[j] (List.getElem_mem _)
  have hq := qn_pad (lenOf l)
  exact ⟨bitsAt_mid (numOf (l.take j)) l[j].num l[j].bits r m (pad (lenOf l)) _ _ _ (lenOf l) hr (num_lt _ hd.1 hd.2) hq h2 (by rw [h1]), by omega⟩

/-- of a text's bits the first 16 are its length, the others its bytes -/
theorem text_at (q V a : Nat) (s : ByteArray) (hb : bitsAt q V a (16 + 8 * s.size) = tx s.size s.data.toList) (hle : a + (16 + 8 * s.size) ≤ 8 * q) :
    bitsAt q V a 16 = s.size ∧ bitsAt q V (a + 16) (8 * s.size) = tx 0 s.data.toList := by
  have hl : s.data.toList.length = s.size := by simp
  have h1 := bitsAt_split q V a 16 (8 * s.size) (by omega)
  rw [hb, tx_eq, hl] at h1
  have h2 := tx_lt s.data.toList
  rw [hl] at h2
  have h3 := bitsAt_lt q V (a + 16) (8 * s.size)
  generalize 2 ^ (8 * s.size) = P at *
  generalize bitsAt q V a 16 = A at *
  generalize bitsAt q V (a + 16) (8 * s.size) = B at *
  generalize tx 0 s.data.toList = C at *
  have e1 : (s.size * P + C) / P = s.size := by rw [Nat.add_comm, Nat.add_mul_div_right _ _ (by omega), Nat.div_eq_of_lt h2, Nat.zero_add]
  have e2 : (A * P + B) / P = A := by rw [Nat.add_comm, Nat.add_mul_div_right _ _ (by omega), Nat.div_eq_of_lt h3, Nat.zero_add]
  have e3 : A = s.size := by rw [← e1, ← e2, h1]
  subst e3
  exact ⟨rfl, by omega⟩

theorem bytesat_back (q V p : Nat) (l : List UInt8) (hb : bitsAt q V p (8 * l.length) = tx 0 l) (hle : p + 8 * l.length ≤ 8 * q) : bytesAt q V p l.length = l := by
  induction l using snocInd with
  | nil => simp [bytesAt]
  | append_singleton l c ih =>
    rw [List.length_append, List.length_singleton] at hb hle ⊢
    rw [Nat.mul_add, Nat.mul_one, bitsAt_split q V p (8 * l.length) 8 (by omega), tx_snoc] at hb
    have h1 := bitsAt_lt q V (p + 8 * l.length) 8
    have h2 := c.toNat_lt
    have e1 : bitsAt q V p (8 * l.length) = tx 0 l := by omega
    have e2 : bitsAt q V (p + 8 * l.length) 8 = c.toNat := by omega
    have e3 : bytesAt q V p (l.length + 1) = bytesAt q V p l.length ++ [byteAt q V (p + 8 * l.length)] := by simp [bytesAt, List.range_succ]
    rw [e3, ih e1 (by omega)]
    congr 2
    exact UInt8.toNat_inj.1 (by rw [byteAt_toNat, e2])
theorem text_back (q V a : Nat) (s : ByteArray) (hb : bitsAt q V a (16 + 8 * s.size) = tx s.size s.data.toList) (hle : a + (16 + 8 * s.size) ≤ 8 * q) :
    bitsAt q V a 16 = s.size ∧ (⟨(bytesAt q V (a + 16) s.size).toArray⟩ : ByteArray) = s := by
  have hl : s.data.toList.length = s.size := by simp
  obtain ⟨h1, h2⟩ := text_at q V a s hb hle
  refine ⟨h1, ?_⟩
  have h3 := bytesat_back q V (a + 16) s.data.toList (by rw [hl]; exact h2) (by rw [hl]; omega)
  rw [hl] at h3
  rw [h3]
theorem all_read (l : List Do) : endOf (qn (lenOf l)) (numOf l * 2 ^ pad (lenOf l)) (lenOf l) = 0 := by
  have h := qn_pad (lenOf l)
  have hp := pad_lt (lenOf l)
  unfold endOf
  rw [show 8 * qn (lenOf l) - lenOf l = pad (lenOf l) from by omega, if_pos ⟨hp, Nat.mul_mod_left _ _⟩]
end Go.Proofs.Ytpgeebhepegpaaa
namespace Go.Proofs.Ytpgeebhepegpaaa
open Go.RowKit

/-- The document's reader at block c: what is left of V's 8 q bits behind the first a. -/
structure XSt (w : World) (G : Nat → Prop) (c q V a : Nat) : Prop where
  ex : ∃ sv l, Blk w c 81 #[sv, .int .i64 0] ∧ Rd w 1 sv (8 * q - a) (l.map u8) ∧ Bl l (rest q V a) (8 * q - a) ∧ (∀ k, sv.ownBlock = some k → G k ∧ k ≠ c)
  inG : G c
  bd : Bd G w
  le : a ≤ 8 * q
/-- The document's reader at block c has the error e. -/
structure XErr (w : World) (G : Nat → Prop) (c : Nat) (e : Int) : Prop where
  ex : ∃ sv, Blk w c 81 #[sv, .int .i64 e]
  ne : (e != 0) = true
  inG : G c
  bd : Bd G w

theorem XSt.far {w w' : World} {F F' G : Nat → Prop} {c q V a : Nat} (h : XSt w G c q V a) (ha : Adv F w F' w') (hs : Sep F G) : XSt w' G c q V a := by
  obtain ⟨sv, l, h1, h2, h3, h4⟩ := h.ex
  exact ⟨⟨sv, l, h1.keep (ha.far hs h.bd c h.inG), h2.far (fun k hk _ _ => ha.far hs h.bd k (h4 k hk).1) ha.size, h3, h4⟩, h.inG, ha.bd h.bd, h.le⟩
theorem XErr.far {w w' : World} {F F' G : Nat → Prop} {c : Nat} {e : Int} (h : XErr w G c e) (ha : Adv F w F' w') (hs : Sep F G) : XErr w' G c e := by
  obtain ⟨sv, h1⟩ := h.ex
  exact ⟨⟨sv, h1.keep (ha.far hs h.bd c h.inG)⟩, h.ne, h.inG, ha.bd h.bd⟩

set_option maxRecDepth 3000 in
theorem xend_err (c : Nat) (x : Int) (G : Nat → Prop) (w : World) (h : XErr w G c x) :
    Calls Try.prog 56 #[.pointer (some ⟨c, 0, none⟩)] w fun e w' => e = .returned (.int .i64 x) ∧ w = w' := by
  obtain ⟨sv, hB⟩ := h.ex
  have c1 : w.cell? ⟨c, 1, none⟩ = some (.int .i64 x) := hB.cell 1
  have hx := h.ne
  clear hB h
  go_enter Try.func56, Try.ntmps56
  go_wp2
  go_ret
  exact ⟨rfl, rfl⟩

set_option maxRecDepth 3000 in
set_option maxHeartbeats 400000 in
theorem xend_ok (c q V a : Nat) (G : Nat → Prop) (w : World) (h : XSt w G c q V a) :
    Calls Try.prog 56 #[.pointer (some ⟨c, 0, none⟩)] w fun e w' => e = .returned (.int .i64 (endOf q V a)) ∧ w = w' := by
  obtain ⟨sv, l, hB, hR, hl, _⟩ := h.ex
  obtain ⟨A, cap, rfl, _, _⟩ := hR.form
  have c0 : w.cell? ⟨c, 0, none⟩ = some (.slice A (8 * q - a) cap) := hB.cell 0
  have c1 : w.cell? ⟨c, 1, none⟩ = some (.int .i64 0) := hB.cell 1
  have he : endOf q V a = if 8 * q - a < 8 ∧ rest q V a = 0 then 0 else 6 := rfl
  obtain ⟨m, hm⟩ : ∃ m, m = 8 * q - a := ⟨_, rfl⟩
  obtain ⟨X, hX⟩ : ∃ X, X = rest q V a := ⟨_, rfl⟩
  rw [← hm] at c0 hR hl he
  rw [← hX] at hl he
  have HR := Lib.hid hR
  have HL := Lib.hid hl
  clear hB hR hl hm h hX
  by_cases h8 : m < 8
  · have h8' : (m : Int) < 8 := by omega
    by_cases h0 : X = 0
    · rw [he, if_pos ⟨h8, h0⟩]
      subst h0
      clear he
      go_enter Try.func56, Try.ntmps56
      go_wp2_with (first
        | (go_at_call 81; refine (numberB_any _ _ _ m _ HR.out HL.out (by omega)).mono ?_; rintro e w1 ⟨rfl, rfl⟩)
        | fail)
      go_ret
      exact ⟨rfl, rfl⟩
    · rw [he, if_neg (fun h => h0 h.2)]
      have h0' : ((X : Int) != 0) = true := by rw [bne_iff_ne]; omega
      clear he h0
      go_enter Try.func56, Try.ntmps56
      go_wp2_with (first
        | (go_at_call 81; refine (numberB_any _ _ _ m _ HR.out HL.out (by omega)).mono ?_; rintro e w1 ⟨rfl, rfl⟩)
        | fail)
      go_ret
      exact ⟨rfl, rfl⟩
  · rw [he, if_neg (fun h => h8 h.1)]
    have h8' : (8 : Int) ≤ (m : Int) := by omega
    clear he
    go_enter Try.func56, Try.ntmps56
    go_wp2
    go_ret
    exact ⟨rfl, rfl⟩

set_option maxRecDepth 3000 in
theorem xget_err (c : Nat) (n x : Int) (G : Nat → Prop) (w : World) (h : XErr w G c x) :
    Calls Try.prog 53 #[.pointer (some ⟨c, 0, none⟩), .int .i64 n] w fun e w' => e = .returned (.int .u64 0) ∧ w = w' := by
  obtain ⟨sv, hB⟩ := h.ex
  have c1 : w.cell? ⟨c, 1, none⟩ = some (.int .i64 x) := hB.cell 1
  have hx := h.ne
  clear hB h
  go_enter Try.func53, Try.ntmps53
  go_wp2
  go_ret
  exact ⟨rfl, rfl⟩

theorem XErr.made {w : World} {G : Nat → Prop} {c : Nat} {sv : Value} {x : Int} (hB : Blk w c 81 #[sv, .int .i64 0]) (hG : G c) (hb : Bd G w) (hx : (x != 0) = true) :
    XErr (w.setCell ⟨c, 1, none⟩ (.int .i64 x)) G c x ∧ Adv G w G (w.setCell ⟨c, 1, none⟩ (.int .i64 x)) :=
  ⟨⟨⟨sv, hB.set_ 1 _⟩, hx, hG, fun k hk => by have := hb k hk; simpa [World.setCell] using this⟩, (Adv.refl G w).setCell (p := ⟨c, 1, none⟩) (.inl hG) _⟩

set_option maxRecDepth 3000 in
theorem xget_width (c q V a : Nat) (n : Int) (G : Nat → Prop) (w : World) (h : XSt w G c q V a) (hn : n < 0 ∨ 64 < n) :
    Calls Try.prog 53 #[.pointer (some ⟨c, 0, none⟩), .int .i64 n] w fun e w' => e = .returned (.int .u64 0) ∧ XErr w' G c 2 ∧ Adv G w G w' := by
  obtain ⟨sv, l, hB, hR, hl, _⟩ := h.ex
  have c1 : w.cell? ⟨c, 1, none⟩ = some (.int .i64 0) := hB.cell 1
  have f1 := hB.frozen 1
  have HM := Lib.hid (XErr.made (x := 2) hB h.inG h.bd (by decide))
  clear hB hR hl h
  rcases hn with hn | hn
  all_goals
    go_enter Try.func53, Try.ntmps53
    go_wp2
    go_ret
    exact ⟨rfl, HM.out.1, HM.out.2⟩

set_option maxRecDepth 3000 in
theorem xget_short (c q V a n : Nat) (G : Nat → Prop) (w : World) (h : XSt w G c q V a) (hn : n ≤ 64) (hx : 8 * q < a + n) :
    Calls Try.prog 53 #[.pointer (some ⟨c, 0, none⟩), .int .i64 n] w fun e w' => e = .returned (.int .u64 0) ∧ XErr w' G c 3 ∧ Adv G w G w' := by
  obtain ⟨sv, l, hB, hR, hl, _⟩ := h.ex
  obtain ⟨A, cap, rfl, _, _⟩ := hR.form
  have c0 : w.cell? ⟨c, 0, none⟩ = some (.slice A (8 * q - a) cap) := hB.cell 0
  have c1 : w.cell? ⟨c, 1, none⟩ = some (.int .i64 0) := hB.cell 1
  have f1 := hB.frozen 1
  have HM := Lib.hid (XErr.made (x := 3) hB h.inG h.bd (by decide))
  have hle := h.le
  obtain ⟨m, hm⟩ : ∃ m, m = 8 * q - a := ⟨_, rfl⟩
  rw [← hm] at c0
  have hmn : m < n := by omega
  clear hB hR hl h hm
  go_enter Try.func53, Try.ntmps53
  go_wp2
  go_ret
  exact ⟨rfl, HM.out.1, HM.out.2⟩

/-- the slice from n on -/
def xcutAt (A : Option Addr) (n c : Nat) : Option Addr := if c = n then A else A.map (·.add (n * 1))
theorem Rd.xfront {w : World} {A : Option Addr} {m n c : Nat} {l : List Nat} (h : Rd w 1 (.slice A m c) m (l.map u8)) (hn : n ≤ m) : Rd w 1 (.slice A n c) n ((l.take n).map u8) := by
  obtain ⟨A', c', e, h1, h2, h3, h4, h5⟩ := h
  injection e with e1 _ e3
  subst e1 e3
  simp at h3
  refine ⟨A, c, rfl, by omega, h2, by simp; omega, h4, fun h0 => ?_⟩
  obtain ⟨ad, rfl, hb, hc⟩ := h5 (by omega)
  refine ⟨ad, rfl, hb, fun j u hu => hc j u ?_⟩
  rw [List.map_take, List.getElem?_take] at hu
  split at hu
  · exact hu
  · cases hu
theorem Rd.xback {w : World} {A : Option Addr} {m n c : Nat} {l : List Nat} (h : Rd w 1 (.slice A m c) m (l.map u8)) (hn : n ≤ m) : Rd w 1 (.slice (xcutAt A n c) (m - n) (c - n)) (m - n) ((l.drop n).map u8) := by
  obtain ⟨A', c', e, h1, h2, h3, h4, h5⟩ := h
  injection e with e1 _ e3
  subst e1 e3
  simp at h3
  refine ⟨_, c - n, rfl, by omega, by omega, by simp; omega, fun e => ?_, fun h0 => ?_⟩
  · unfold xcutAt at e
    split at e
    · omega
    · have := h4 (by cases A with | none => rfl | some a => cases e)
      omega
  · obtain ⟨ad, rfl, hb, hc⟩ := h5 (by omega)
    have h0c := hc 0 _ (List.getElem?_eq_getElem (by simp; omega))
    obtain ⟨b, o, spot⟩ := ad
    have hspot : spot = none := by simpa [Addr.add] using World.cell?_spot h0c
    subst hspot
    refine ⟨⟨b, o + n * 1, none⟩, by unfold xcutAt; rw [if_neg (by omega)]; simp [addr_none], hb, fun j u hu => ?_⟩
    have h := hc (n + j) u (by rw [List.map_drop, List.getElem?_drop] at hu; exact hu)
    rw [addr_none] at h ⊢
    rw [Nat.mul_one, Nat.add_assoc]; exact h
theorem xcutAt_block {A : Option Addr} {n m c m' c' : Nat} {k : Nat} (h : (Value.slice (xcutAt A n c) m' c').ownBlock = some k) : (Value.slice A m c).ownBlock = some k := by
  unfold xcutAt at h
  split at h
  · cases A <;> simp [Value.ownBlock] at h ⊢ <;> exact h
  · cases A with
    | none => simp [Value.ownBlock] at h
    | some a => simpa [Value.ownBlock, add_block] using h

theorem XSt.next {w : World} {G : Nat → Prop} {c q V a n cap : Nat} {A : Option Addr} {l : List Nat} (hB : Blk w c 81 #[.slice A (8 * q - a) cap, .int .i64 0]) (hR : Rd w 1 (.slice A (8 * q - a) cap) (8 * q - a) (l.map u8)) (hl : Bl l (rest q V a) (8 * q - a))
    (hk : ∀ k, (Value.slice A (8 * q - a) cap).ownBlock = some k → G k ∧ k ≠ c) (hG : G c) (hb : Bd G w) (hn : a + n ≤ 8 * q) :
    XSt (w.setCell ⟨c, 0, none⟩ (.slice (xcutAt A n cap) (8 * q - a - n) (cap - n))) G c q V (a + n) ∧ Adv G w G (w.setCell ⟨c, 0, none⟩ (.slice (xcutAt A n cap) (8 * q - a - n) (cap - n))) := by
  have e : 8 * q - (a + n) = 8 * q - a - n := by omega
  refine ⟨⟨⟨_, l.drop n, hB.set_ 0 _, ?_, ?_, fun k hk' => hk k (xcutAt_block hk')⟩, hG, fun k hk => by have := hb k hk; simpa [World.setCell] using this, hn⟩, (Adv.refl G w).setCell (p := ⟨c, 0, none⟩) (.inl hG) _⟩
  · rw [e]
    exact (hR.xback (by omega)).far (fun k hk' _ _ => Below.heap_setCell _ _ _ _ (hk k (xcutAt_block hk')).2) (by simp [World.setCell])
  · rw [e, ← rest_rest q V a n hn]
    exact (hl.parts (by omega)).2

set_option maxRecDepth 3000 in
set_option maxHeartbeats 400000 in
theorem xget_ok (c q V a n : Nat) (G : Nat → Prop) (w : World) (h : XSt w G c q V a) (hn : n ≤ 64) (hx : a + n ≤ 8 * q) :
    Calls Try.prog 53 #[.pointer (some ⟨c, 0, none⟩), .int .i64 n] w fun e w' => e = .returned (.int .u64 ((bitsAt q V a n : Nat) : Int)) ∧ XSt w' G c q V (a + n) ∧ Adv G w G w' := by
  obtain ⟨sv, l, hB, hR, hl, hk⟩ := h.ex
  obtain ⟨A, cap, rfl, hmc, hcm⟩ := hR.form
  unfold maxLen at hcm
  have c0 : w.cell? ⟨c, 0, none⟩ = some (.slice A (8 * q - a) cap) := hB.cell 0
  have c1 : w.cell? ⟨c, 1, none⟩ = some (.int .i64 0) := hB.cell 1
  have f0 := hB.frozen 0
  have hnx := XSt.next (n := n) hB hR hl hk h.inG h.bd hx
  have hfr := hR.xfront (n := n) (by omega)
  have hbl := (hl.parts (n := n) (by omega)).1
  rw [rest_bits q V a n hx] at hbl
  obtain ⟨m, hm⟩ : ∃ m, m = 8 * q - a := ⟨_, rfl⟩
  rw [← hm] at c0 hnx hmc
  have hmn : n ≤ m := by omega
  have HNX := Lib.hid hnx
  have HFR := Lib.hid hfr
  have HBL := Lib.hid hbl
  clear hB hR hl h hm hk hnx hfr hbl hx
  go_enter Try.func53, Try.ntmps53
  go_wp2_with fail
  refine (numberB_any _ (l.take n) _ n _ HFR.out HBL.out (by omega)).mono ?_
  rintro e w1 ⟨rfl, rfl⟩
  go_wp2_with fail
  · go_ret
    have h := HNX.out
    simp only [xcutAt, if_pos (show cap = n from ‹_›), show cap - n = 0 from by omega] at h
    exact ⟨rfl, h.1, h.2⟩
  · go_ret
    have h := HNX.out
    simp only [xcutAt, if_neg (show ¬ cap = n from ‹_›), Nat.mul_one] at h
    exact ⟨rfl, h.1, h.2⟩
end Go.Proofs.Ytpgeebhepegpaaa
namespace Go.Proofs.Ytpgeebhepegpaaa
open Go.RowKit

theorem xget_int (c q V a : Nat) (n : Int) (G : Nat → Prop) (w : World) (h : XSt w G c q V a) (h0 : 0 ≤ n) (hn : n ≤ 64) (hx : a + n.toNat ≤ 8 * q) :
    Calls Try.prog 53 #[.pointer (some ⟨c, 0, none⟩), .int .i64 n] w fun e w' => e = .returned (.int .u64 ((bitsAt q V a n.toNat : Nat) : Int)) ∧ XSt w' G c q V (a + n.toNat) ∧ Adv G w G w' := by
  obtain ⟨k, rfl⟩ := Int.eq_ofNat_of_zero_le h0
  exact xget_ok c q V a k G w h (by omega) hx
theorem xget_short_int (c q V a : Nat) (n : Int) (G : Nat → Prop) (w : World) (h : XSt w G c q V a) (h0 : 0 ≤ n) (hn : n ≤ 64) (hx : 8 * q < a + n.toNat) :
    Calls Try.prog 53 #[.pointer (some ⟨c, 0, none⟩), .int .i64 n] w fun e w' => e = .returned (.int .u64 0) ∧ XErr w' G c 3 ∧ Adv G w G w' := by
  obtain ⟨k, rfl⟩ := Int.eq_ofNat_of_zero_le h0
  exact xget_short c q V a k G w h (by omega) hx

set_option maxRecDepth 3000 in
theorem xtext_err (c : Nat) (x : Int) (G : Nat → Prop) (w : World) (h : XErr w G c x) :
    Calls Try.prog 55 #[.pointer (some ⟨c, 0, none⟩)] w fun e w' => e = .returned (.string ⟨#[]⟩) ∧ w = w' := by
  obtain ⟨sv, hB⟩ := h.ex
  have c1 : w.cell? ⟨c, 1, none⟩ = some (.int .i64 x) := hB.cell 1
  have hx := h.ne
  have hx0 : (x == 0) = false := by simpa using hx
  have H := Lib.hid h
  clear hB h
  go_enter Try.func55, Try.ntmps55
  go_wp2_with (first
    | (go_at_call 53; refine (xget_err _ _ _ _ _ H.out).mono ?_; rintro e w1 ⟨rfl, rfl⟩)
    | fail)
  go_ret
  exact ⟨rfl, rfl⟩

theorem XErr.cells {w : World} {G : Nat → Prop} {c : Nat} {x : Int} (h : XErr w G c x) : w.cell? ⟨c, 1, none⟩ = some (.int .i64 x) := by
  obtain ⟨sv, hB⟩ := h.ex
  exact hB.cell 1
theorem XSt.cells {w : World} {G : Nat → Prop} {c q V a : Nat} (h : XSt w G c q V a) : ∃ A cap, w.cell? ⟨c, 0, none⟩ = some (.slice A (8 * q - a) cap) ∧ w.cell? ⟨c, 1, none⟩ = some (.int .i64 0) ∧ w.frozen? ⟨c, 1, none⟩ = false := by
  obtain ⟨sv, l, hB, hR, _, _⟩ := h.ex
  obtain ⟨A, cap, rfl, _, _⟩ := hR.form
  exact ⟨A, cap, hB.cell 0, hB.cell 1, hB.frozen 1⟩
theorem XSt.fail {w : World} {G : Nat → Prop} {c q V a : Nat} (h : XSt w G c q V a) : XErr (w.setCell ⟨c, 1, none⟩ (.int .i64 3)) G c 3 ∧ Adv G w G (w.setCell ⟨c, 1, none⟩ (.int .i64 3)) ∧ (w.setCell ⟨c, 1, none⟩ (.int .i64 3)).cell? ⟨c, 1, none⟩ = some (.int .i64 3) := by
  obtain ⟨sv, l, hB, _, _, _⟩ := h.ex
  obtain ⟨h1, h2⟩ := XErr.made (x := 3) hB h.inG h.bd (by decide)
  exact ⟨h1, h2, h1.cells⟩

set_option maxRecDepth 3000 in
set_option maxHeartbeats 400000 in
theorem xtext_short (c q V a : Nat) (G : Nat → Prop) (w : World) (h : XSt w G c q V a) (hx : 8 * q < a + 16 ∨ 8 * q < a + 16 + 8 * bitsAt q V a 16) :
    Calls Try.prog 55 #[.pointer (some ⟨c, 0, none⟩)] w fun e w' => e = .returned (.string ⟨#[]⟩) ∧ XErr w' G c 3 ∧ Adv G w G w' := by
  have H := Lib.hid h
  clear h
  by_cases h16 : 8 * q < a + 16
  · clear hx
    go_enter Try.func55, Try.ntmps55
    go_wp2_with (first
      | (go_at_call 53; refine (xget_short_int _ _ _ _ _ _ _ H.out (by decide) (by decide) (by simp; omega)).mono ?_; rintro e w1 ⟨rfl, h1, a1⟩; have hc1 := h1.cells)
      | fail)
    go_ret
    exact ⟨rfl, h1, a1⟩
  · obtain ⟨n, hn⟩ : ∃ n, n = bitsAt q V a 16 := ⟨_, rfl⟩
    have hn16 : n < 65536 := by rw [hn]; exact bitsAt_lt q V a 16
    rw [← hn] at hx
    have HN := Lib.hid hn
    have hle : 8 * q - (a + 16) < 8 * n := by omega
    clear hn hx
    go_enter Try.func55, Try.ntmps55
    go_wp2_with fail
    refine (xget_int _ _ _ _ _ _ _ H.out (by decide) (by decide) (by simp; omega)).mono ?_
    rintro e w1 ⟨rfl, h1, a1⟩
    rw [show bitsAt q V a (16 : Int).toNat = n from HN.out.symm]
    obtain ⟨A, cap, k0, k1, kf⟩ := h1.cells
    obtain ⟨f1, f2, f3⟩ := h1.fail
    rw [show a + (16 : Int).toNat = a + 16 from rfl] at k0
    obtain ⟨m, hm⟩ : ∃ m, m = 8 * q - (a + 16) := ⟨_, rfl⟩
    rw [← hm] at k0 hle
    have F1 := Lib.hid f1
    have F2 := Lib.hid f2
    have hmn : (m : Int) < 8 * (n : Int) := by omega
    clear hm f1 f2 h1
    go_wp2
    go_ret
    exact ⟨rfl, F1.out, a1.trans F2.out⟩

theorem rd_cell1 (w : World) (v : Value) (t : TypeId) : Rd (w.alloc (.cells #[v] t)) 1 (.slice (some ⟨w.heap.size, 0, none⟩) 1 1) 1 [v] := by
  refine ⟨_, 1, rfl, Nat.le_refl _, by unfold maxLen; decide, rfl, fun h => (by cases h), fun _ => ⟨_, rfl, by simp, fun j u hu => ?_⟩⟩
  rw [addr_none, Nat.zero_add, (Blk.new w t #[v]).cell j, List.getElem?_toArray]
  exact hu

def bytesN (q V p n : Nat) : List Nat := (bytesAt q V p n).map UInt8.toNat
theorem bytesN_next (q V p n : Nat) : bytesN q V p (n + 1) = bytesN q V p n ++ [bitsAt q V (p + 8 * n) 8] := by
  unfold bytesN bytesAt
  rw [List.range_succ]
  simp [byteAt_toNat]

def XTextRel (w : World) (G : Nat → Prop) (c q V p n : Nat) (t4 t5 : Value) (wr : World) : Prop :=
  ∃ k F, t5 = .int .i64 ((k : Nat) : Int) ∧ k ≤ n ∧ XSt wr G c q V (p + 8 * k) ∧ Sl wr F 5 1 t4 k ((bytesN q V p k).map u8) ∧ Sep F G ∧ (∀ j, F j → w.heap.size ≤ j) ∧ Adv G w G wr ∧ (k = 0 → t4 = .slice none 0 0)

theorem xtext_step {w wr w1 w2 : World} {F G : Nat → Prop} {c q V p n k : Nat} {v v' : Value} {o : Obj} (hS : Sl wr F 5 1 v k ((bytesN q V p k).map u8)) (hsep : Sep F G) (hF : ∀ j, F j → w.heap.size ≤ j) (hA : Adv G w G wr)
    (hX : XSt w1 G c q V (p + 8 * k + 8)) (a1 : Adv G wr G w1) (hown : w2.ownsRow 0 5 1 v' (k + 1) ((bytesN q V p k).map u8 ++ [.int .u8 ((bitsAt q V (p + 8 * k) 8 : Nat) : Int)])) (hg : (w1.alloc o).grownBy w2 v.ownBlock)
    (hat : v'.ownBlock = v.ownBlock ∨ v'.ownBlock = some (w1.alloc o).heap.size) (hk : k < n) : XTextRel w G c q V p n v' (.int .i64 ((k : Int) + 1)) w2 := by
  have hS1 := hS.far a1 hsep.symm
  have hin : ∀ j, (F j ∨ v'.ownBlock = some j) → F j ∨ w1.heap.size ≤ j := by
    rintro j (h | h)
    · exact .inl h
    · rcases hat with e | e
      · exact .inl (hS.inF j (by rw [← e]; exact h))
      · rw [e] at h; injection h with h; right; simp at h; omega
  have hA2 : Adv F w1 (fun j => F j ∨ v'.ownBlock = some j) w2 := by
    have h1 := ((Adv.refl F w1).alloc o).grown hg (fun j hj => .inl (hS.inF j hj))
    exact ⟨h1.os, h1.tape, h1.output, h1.size, h1.block, hin⟩
  have hX2 := hX.far hA2 hsep
  refine ⟨k + 1, (fun j => F j ∨ v'.ownBlock = some j), by simp, by omega, ?_, ⟨?_, fun j hj => .inr hj, ?_⟩, ?_, ?_, ?_, fun h => by omega⟩
  · rw [show p + 8 * (k + 1) = p + 8 * k + 8 from by omega]; exact hX2
  · rw [bytesN_next, List.map_append]; exact hown
  · rintro j (h | h)
    · exact Nat.lt_of_lt_of_le (hS1.bd j h) hA2.size
    · exact (hown.lt j h).2
  · intro j hj hG
    rcases hin j hj with h | h
    · exact hsep j h hG
    · have := hX.bd j hG; omega
  · intro j hj
    rcases hin j hj with h | h
    · exact hF j h
    · exact Nat.le_trans (Nat.le_trans hA.size a1.size) h
  · have hb := hA.trans a1
    exact ⟨hA2.os.trans hb.os, hA2.tape.trans hb.tape, hA2.output.trans hb.output, Nat.le_trans hb.size hA2.size, fun j hj hn => (hA2.block j (Nat.lt_of_lt_of_le hj hb.size) (fun hf => by have := hF j hf; omega)).trans (hb.block j hj hn), fun j hj => .inl hj⟩

set_option maxRecDepth 3000 in
set_option maxHeartbeats 1000000 in
theorem xtext_ok (c q V a n : Nat) (G : Nat → Prop) (w : World) (h : XSt w G c q V a) (hn : n = bitsAt q V a 16) (hx : a + 16 + 8 * n ≤ 8 * q) :
    Calls Try.prog 55 #[.pointer (some ⟨c, 0, none⟩)] w fun e w' => e = .returned (.string ⟨(bytesAt q V (a + 16) n).toArray⟩) ∧ XSt w' G c q V (a + 16 + 8 * n) ∧ Adv G w G w' := by
  have hn16 : n < 65536 := by rw [hn]; exact bitsAt_lt q V a 16
  have H := Lib.hid h
  have HN := Lib.hid hn
  clear h hn
  go_enter Try.func55, Try.ntmps55
  go_wp2_with fail
  refine (xget_int _ _ _ _ _ _ _ H.out (by decide) (by decide) (by simp; omega)).mono ?_
  rintro e w1 ⟨rfl, h1, a1⟩
  rw [show bitsAt q V a (16 : Int).toNat = n from HN.out.symm]
  rw [show a + (16 : Int).toNat = a + 16 from rfl] at h1
  obtain ⟨A, cap, k0, k1, kf⟩ := h1.cells
  obtain ⟨m, hm⟩ : ∃ m, m = 8 * q - (a + 16) := ⟨_, rfl⟩
  rw [← hm] at k0
  have hmn : 8 * (n : Int) ≤ (m : Int) := by omega
  have H1 := Lib.hid h1
  have A1 := Lib.hid a1
  clear hm h1 a1
  go_wp2_with fail
  have h0 : XTextRel w G c q V (a + 16) n (.slice none 0 0) (.int .i64 0) w1 :=
    ⟨0, Nul, rfl, Nat.zero_le _, H1.out, Sl.nil _ _ _, fun _ h _ => h, fun _ h => h.elim, A1.out, fun _ => rfl⟩
  have H0 := Lib.hid h0
  clear h0 k0 k1 kf hmn
  go_loopw [4, 5] (XTextRel w G c q V (a + 16) n) (fun _ t _ => n - (intOf t).toNat)
  case atStart => exact H0.out
  case round =>
    clear H0
    obtain ⟨k, F, rfl, hk, hX, hS, hsep, hF, hA, hz⟩ := hrel
    obtain ⟨a4, c4, rfl, _, _⟩ := hS.form0
    have HX := Lib.hid hX
    have HS := Lib.hid hS
    have HSP := Lib.hid hsep
    have HF := Lib.hid hF
    have HA := Lib.hid hA
    have HZ := Lib.hid hz
    clear hX hS hsep hF hA hz
    by_cases hlt : k < n
    · have hbit : ((bitsAt q V (a + 16 + 8 * k) 8 : Nat) : Int) < 256 := by have := bitsAt_lt q V (a + 16 + 8 * k) 8; omega
      obtain ⟨y, hy⟩ : ∃ y, y = bitsAt q V (a + 16 + 8 * k) 8 := ⟨_, rfl⟩
      rw [← hy] at hbit
      have HY := Lib.hid hy
      clear hy
      go_wp2_with fail
      refine (xget_int _ _ _ _ _ _ _ HX.out (by decide) (by decide) (by simp; omega)).mono ?_
      rintro e w2 ⟨rfl, h2, a2⟩
      rw [show bitsAt q V (a + 16 + 8 * k) (8 : Int).toNat = y from HY.out.symm]
      rw [show a + 16 + 8 * k + (8 : Int).toNat = a + 16 + 8 * k + 8 from rfl] at h2
      have hS2 := HS.out.far a2 HSP.out.symm
      have H2 := Lib.hid h2
      have A2 := Lib.hid a2
      have hown := hS2.own
      clear h2 a2
      go_wp2_with (first
        | (at_builtin; refine wpList_append_rd rfl (.tmp 37) (.tmp 41) rfl rfl rfl (hown.alloc _) (rd_cell1 w2 (.int .u8 (y : Int)) _) ?d1 ?d2 ?d3)
        | fail)
      case d1 => intro u hu; simp at hu; subst hu; rfl
      case d2 => omega
      case d3 =>
        intro v' w3 hown3 hg3 hat3
        have hnx := xtext_step (n := n) HS.out HSP.out HF.out HA.out H2.out A2.out (by rw [← HY.out]; exact hown3) hg3 (by simpa using hat3) hlt
        have HNX := Lib.hid hnx
        clear hnx hown3 hg3 hat3 hS2 hown
        go_wp2
        exact ⟨HNX.out, by simp [intOf]; omega⟩
    · obtain rfl : k = n := by omega
      by_cases hk0 : k = 0
      · have hv := HZ.out hk0
        injection hv with v1 v2 v3
        subst v1 v3
        have hcv := run_convert_bytes_nil (P := Try.prog) wr 38 5 Try.underlying38 Try.underlying5 k 0 9 Try.underlying9
        have hb : ByteArray.empty = ⟨(bytesAt q V (a + 16) k).toArray⟩ := by rw [hk0]; rfl
        have HB := Lib.hid hb
        clear hk0 hb v2
        go_wp2
        go_ret
        exact ⟨congrArg (fun s => Ending.returned (Value.string s)) HB.out, HX.out, HA.out⟩
      · obtain ⟨g, cap4, e4, hFg, _⟩ := HS.out.form (by omega)
        injection e4 with v1 v2 v3
        subst v1 v3
        have hcv := run_convert_bytes_back (P := Try.prog) wr 38 9 5 ⟨g, 0, none⟩ c4 (bytesAt q V (a + 16) k) Try.underlying38 Try.underlying5 Try.underlying9 (fun j hj => by
          have hl : j < k := by rwa [bytesAt_length] at hj
          rw [addr_none, Nat.zero_add, HS.out.own.cellAt j (by omega), List.getElem?_map]
          simp [bytesN, u8, List.getElem?_eq_getElem hj])
        rw [bytesAt_length] at hcv
        clear v2 hk0
        go_wp2
        go_ret
        exact ⟨rfl, HX.out, HA.out⟩
end Go.Proofs.Ytpgeebhepegpaaa
namespace Go.Proofs.Ytpgeebhepegpaaa
open Go.ChangeShapes Go.WideShapes Go.ChangeAt Go.RowKit

/-- the document's reader, also where it has fallen short -/
def XT (w : World) (G : Nat → Prop) (c q V a : Nat) : Prop := (a ≤ 8 * q ∧ XSt w G c q V a) ∨ (8 * q < a ∧ XErr w G c 3)
def getT (q V a n : Nat) : Nat := if a + n ≤ 8 * q then bitsAt q V a n else 0
set_option maxRecDepth 3000 in
theorem getT_lt (q V a n : Nat) : getT q V a n < 2 ^ n := by
  unfold getT
  split
  · exact bitsAt_lt _ _ _ _
  · exact Nat.two_pow_pos _
def fitT (q V a : Nat) : Prop := a + 16 + 8 * bitsAt q V a 16 ≤ 8 * q
instance (q V a : Nat) : Decidable (fitT q V a) := by unfold fitT; exact inferInstance
def txT (q V a : Nat) : ByteArray := if fitT q V a then ⟨(bytesAt q V (a + 16) (bitsAt q V a 16)).toArray⟩ else ⟨#[]⟩
def erT (q V a : Nat) : Int := if fitT q V a then 0 else 3
section
variable {w w' : World} {F F' G : Nat → Prop} {c q V a : Nat}
set_option maxRecDepth 3000 in
theorem XT.far (h : XT w G c q V a) (ha : Adv F w F' w') (hs : Sep F G) : XT w' G c q V a :=
  h.imp (fun h => ⟨h.1, h.2.far ha hs⟩) (fun h => ⟨h.1, h.2.far ha hs⟩)
set_option maxRecDepth 3000 in
theorem XT.bd (h : XT w G c q V a) : Bd G w := by
  rcases h with ⟨_, h⟩ | ⟨_, h⟩
  · exact h.bd
  · exact h.bd
set_option maxRecDepth 3000 in
theorem XT.getx (h : XT w G c q V a) (n : Nat) (hn : n ≤ 64) :
    Calls Try.prog 53 #[.pointer (some ⟨c, 0, none⟩), .int .i64 (n : Int)] w fun e w' => e = .returned (.int .u64 (getT q V a n : Int)) ∧ XT w' G c q V (a + n) ∧ Adv G w G w' := by
  rcases h with ⟨h1, h2⟩ | ⟨h1, h2⟩
  · by_cases hx : a + n ≤ 8 * q
    · refine (xget_ok c q V a n G w h2 hn hx).mono ?_
      rintro e w' ⟨rfl, k1, k2⟩
      exact ⟨by rw [getT, if_pos hx], .inl ⟨hx, k1⟩, k2⟩
    · refine (xget_short c q V a n G w h2 hn (by omega)).mono ?_
      rintro e w' ⟨rfl, k1, k2⟩
      exact ⟨by rw [getT, if_neg hx]; rfl, .inr ⟨by omega, k1⟩, k2⟩
  · refine (xget_err c n 3 G w h2).mono ?_
    rintro e w' ⟨rfl, rfl⟩
    exact ⟨by rw [getT, if_neg (by omega)]; rfl, .inr ⟨by omega, h2⟩, Adv.refl _ _⟩
set_option maxRecDepth 3000 in
theorem XT.textx (h : XT w G c q V a) :
    Calls Try.prog 55 #[.pointer (some ⟨c, 0, none⟩)] w fun e w' => e = .returned (.string (txT q V a)) ∧ (w'.cell? ⟨c, 1, none⟩ = some (.int .i64 (erT q V a)) ∧ Bd G w') ∧ Adv G w G w' := by
  rcases h with ⟨h1, h2⟩ | ⟨h1, h2⟩
  · by_cases hx : fitT q V a
    · refine (xtext_ok c q V a _ G w h2 rfl hx).mono ?_
      rintro e w' ⟨rfl, k1, k2⟩
      obtain ⟨_, _, _, hc, _⟩ := k1.cells
      exact ⟨by rw [txT, if_pos hx], ⟨by rw [erT, if_pos hx]; exact hc, k1.bd⟩, k2⟩
    · refine (xtext_short c q V a G w h2 (.inr (Nat.lt_of_not_le hx))).mono ?_
      rintro e w' ⟨rfl, k1, k2⟩
      exact ⟨by rw [txT, if_neg hx], ⟨by rw [erT, if_neg hx]; exact k1.cells, k1.bd⟩, k2⟩
  · have hx : ¬ fitT q V a := by unfold fitT; omega
    refine (xtext_err c 3 G w h2).mono ?_
    rintro e w' ⟨rfl, rfl⟩
    exact ⟨by rw [txT, if_neg hx], ⟨by rw [erT, if_neg hx]; exact h2.cells, h2.bd⟩, Adv.refl _ _⟩
end
set_option maxRecDepth 3000 in
theorem xt_new {w w1 w2 : World} {F : Nat → Prop} {v' : Value} {q V c : Nat} {bl : List Nat} (hS : Sl w1 F 5 1 v' (8 * q) (bl.map u8)) (hb : Bl bl V (8 * q)) (ha : Adv Nul w F w1) (hB : Blk w2 c 81 #[v', .int .i64 0]) (h2 : Adv Nul w1 Nul w2) (hc : w1.heap.size ≤ c) :
    XT w2 (fun j => F j ∨ j = c) c q V 0 ∧ Adv Nul w (fun j => F j ∨ j = c) w2 := by
  refine ⟨.inl ⟨Nat.zero_le _, ⟨v', bl, hB, ?_, ?_, fun k hk => ⟨.inl (hS.inF k hk), ?_⟩⟩, .inr rfl, ?_, Nat.zero_le _⟩, ?_⟩
  · exact (hS.rd).far (fun k _ _ hl => h2.block k hl (fun h => h)) h2.size
  · unfold rest
    rw [Nat.sub_zero, Nat.mod_eq_of_lt hb.lt]; exact hb
  · have := hS.bd k (hS.inF k hk); omega
  · rintro k (h | h)
    · have := hS.bd k h; have := h2.size; omega
    · rw [h]; exact hB.lt
  · have h3 := ha.over h2
    refine ⟨h3.os, h3.tape, h3.output, h3.size, h3.block, fun k hk => ?_⟩
    rcases hk with hk | hk
    · exact h3.into k hk
    · exact .inr (by rw [hk]; exact Nat.le_trans ha.size hc)
/-- where the reader stands behind a text -/
def ptT (q V a : Nat) : Nat := if fitT q V a then a + 16 + 8 * bitsAt q V a 16 else 8 * q + 1 + a
set_option maxRecDepth 3000 in
theorem XT.textp {w : World} {G : Nat → Prop} {c q V a : Nat} (h : XT w G c q V a) :
    Calls Try.prog 55 #[.pointer (some ⟨c, 0, none⟩)] w fun e w' => e = .returned (.string (txT q V a)) ∧ XT w' G c q V (ptT q V a) ∧ Adv G w G w' := by
  rcases h with ⟨h1, h2⟩ | ⟨h1, h2⟩
  · by_cases hx : fitT q V a
    · refine (xtext_ok c q V a _ G w h2 rfl hx).mono ?_
      rintro e w' ⟨rfl, k1, k2⟩
      exact ⟨by rw [txT, if_pos hx], by rw [ptT, if_pos hx]; exact .inl ⟨hx, k1⟩, k2⟩
    · refine (xtext_short c q V a G w h2 (.inr (Nat.lt_of_not_le hx))).mono ?_
      rintro e w' ⟨rfl, k1, k2⟩
      exact ⟨by rw [txT, if_neg hx], by rw [ptT, if_neg hx]; exact .inr ⟨by omega, k1⟩, k2⟩
  · have hx : ¬ fitT q V a := by unfold fitT; omega
    refine (xtext_err c 3 G w h2).mono ?_
    rintro e w' ⟨rfl, rfl⟩
    exact ⟨by rw [txT, if_neg hx], by rw [ptT, if_neg hx]; exact .inr ⟨by omega, h2⟩, Adv.refl _ _⟩
end Go.Proofs.Ytpgeebhepegpaaa
