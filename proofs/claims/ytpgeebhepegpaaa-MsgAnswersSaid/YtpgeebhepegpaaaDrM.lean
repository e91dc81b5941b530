/- Directories' entries and blocks, in plain words. -/
import Derived.Test.YtpgeebhepegpaaaNmM
import Derived.Test.YtpgeebhepegpaaaInM
import Derived.Test.YtpgeebhepegpaaaRText
import Derived.Sort.Walk0
import Derived.Laws.BytesArg
namespace Go.Proofs.Ytpgeebhepegpaaa
open Go.RowKit

structure En where
  s : ByteArray
  i : Int
  g : Int
  k : Int
def ec (e : En) : List Value := [.string e.s, .int .i64 e.i, .int .i64 e.g, .int .i64 e.k]
def ecs (l : List En) : List Value := l.flatMap ec
set_option maxRecDepth 3000 in
theorem ecs_length (l : List En) : (ecs l).length = l.length * 4 := by
  induction l with
  | nil => rfl
  | cons d l ih => simp [ecs, List.flatMap_cons, ec] at ih ⊢; omega
set_option maxRecDepth 3000 in
theorem ecs_append (l m : List En) : ecs (l ++ m) = ecs l ++ ecs m := by simp [ecs]
set_option maxRecDepth 3000 in
theorem ecs_at (l : List En) (k j : Nat) (hj : j < 4) (hk : k < l.length) : (ecs l)[k * 4 + j]? = (ec l[k])[j]? := by
  induction l generalizing k with
  | nil => simp at hk
  | cons d l ih =>
    cases k with
    | zero =>
      simp only [ecs, List.flatMap_cons, Nat.zero_mul, Nat.zero_add, List.getElem_cons_zero]
      rw [List.getElem?_append_left (by simpa [ec] using hj)]
    | succ k =>
      have h := ih k (by simpa using hk)
      simp only [ecs, List.flatMap_cons, List.getElem_cons_succ] at h ⊢
      rw [List.getElem?_append_right (by simp [ec]; omega), ← h]
      congr 1
      simp [ec]; omega
set_option maxRecDepth 3000 in
theorem ec_one (e : En) : ∀ u ∈ ec e, u.oneCell' = true := by
  intro u hu
  simp only [ec, List.mem_cons, List.not_mem_nil, or_false] at hu
  rcases hu with rfl | rfl | rfl | rfl <;> rfl
set_option maxRecDepth 3000 in
theorem ecs_one (l : List En) : ∀ u ∈ ecs l, u.oneCell' = true := by
  intro u hu
  obtain ⟨e, _, h⟩ := List.mem_flatMap.1 hu
  exact ec_one e u h
set_option maxRecDepth 3000 in
theorem ecs_take (l : List En) (n : Nat) : ecs (l.take n) = (ecs l).take (n * 4) := by
  induction l generalizing n with
  | nil => simp [ecs]
  | cons e l ih =>
    cases n with
    | zero => simp [ecs]
    | succ n =>
      have := ih n
      simp only [ecs, List.take_succ_cons, List.flatMap_cons] at this ⊢
      rw [this, show (n + 1) * 4 = (ec e).length + n * 4 by simp [ec]; omega, List.take_length_add_append]
set_option maxRecDepth 3000 in
theorem ecs_drop (l : List En) (n : Nat) : ecs (l.drop n) = (ecs l).drop (n * 4) := by
  induction l generalizing n with
  | nil => simp [ecs]
  | cons e l ih =>
    cases n with
    | zero => simp [ecs]
    | succ n =>
      have := ih n
      simp only [ecs, List.drop_succ_cons, List.flatMap_cons] at this ⊢
      rw [this, show (n + 1) * 4 = (ec e).length + n * 4 by simp [ec]; omega, ← List.drop_drop, List.drop_left]

/-- the order of names: byte by byte -/
def ltS (a b : ByteArray) : Prop := a.data.toList < b.data.toList
instance (a b : ByteArray) : Decidable (ltS a b) := by unfold ltS; infer_instance
set_option maxRecDepth 3000 in
theorem less_eq (a b : ByteArray) : Op.bytesLess a.toList b.toList = decide (ltS a b) := by
  rw [bytesLess_eq, ByteArray.toList_eq, ByteArray.toList_eq]; rfl
set_option maxRecDepth 3000 in
theorem data_ext {s t : ByteArray} (h : s.data.toList = t.data.toList) : s = t := ByteArray.ext (Array.ext' h)
set_option maxRecDepth 3000 in
theorem eqS_eq (a b : ByteArray) : (a.toList == b.toList) = decide (a = b) := by
  by_cases h : a = b
  · subst h; simp
  · rw [decide_eq_false h, beq_eq_false_iff_ne]
    intro h'
    rw [ByteArray.toList_eq, ByteArray.toList_eq] at h'
    exact h (data_ext h')
set_option maxRecDepth 3000 in
theorem ltS_irr (a : ByteArray) : ¬ ltS a a := List.lt_irrefl _
set_option maxRecDepth 3000 in
theorem ltS_trans {a b c : ByteArray} (h : ltS a b) (k : ltS b c) : ltS a c := List.lt_trans h k
set_option maxRecDepth 3000 in
theorem ltS_asymm {a b : ByteArray} (h : ltS a b) : ¬ ltS b a := List.lt_asymm h
set_option maxRecDepth 3000 in
theorem ltS_tri (a b : ByteArray) : ltS a b ∨ a = b ∨ ltS b a := by
  rcases Std.lt_trichotomy a.data.toList b.data.toList with h | h | h
  · exact .inl h
  · exact .inr (.inl (data_ext h))
  · exact .inr (.inr h)

def okE (e : En) : Prop := NameL e.s.data.toList ∧ 0 < e.i ∧ e.i < 41 ∧ 0 ≤ e.g ∧ e.g < 2147483648 ∧ 0 < e.k ∧ e.k < 3
instance (e : En) : Decidable (okE e) := by unfold okE; infer_instance
set_option maxRecDepth 3000 in
theorem okE_size {e : En} (h : okE e) : 0 < e.s.size ∧ e.s.size < 17 := ⟨h.1.1, h.1.2.1⟩
/-- the k-th of them is right, and its name above the one ahead -/
def okAt (l : List En) (k : Nat) : Prop := ∀ e, l[k]? = some e → okE e ∧ ∀ d, 0 < k → l[k - 1]? = some d → ltS d.s e.s
def RiseL (l : List En) : Prop := ∀ k, okAt l k
open Classical in
noncomputable instance (l : List En) : Decidable (RiseL l) := Classical.propDecidable _
set_option maxRecDepth 3000 in
theorem RiseL.all {l : List En} (h : RiseL l) : ∀ e ∈ l, okE e := by
  intro e he
  obtain ⟨k, hk, rfl⟩ := List.mem_iff_getElem.1 he
  exact (h k _ (List.getElem?_eq_getElem hk)).1

/-! An entry's bits. -/
def nmB (s : ByteArray) (j : Nat) : Nat := if h : j < s.size then (s[j]'h).toNat else 0
set_option maxRecDepth 3000 in
theorem nmB_lt (s : ByteArray) (j : Nat) : nmB s j < 256 := by
  unfold nmB
  split
  · exact UInt8.toNat_lt _
  · decide
def sN (N : Nat) (e : En) : Nat → Nat
  | 0 => (((N * 2 ^ 5 + e.s.size) * 2 ^ 6 + e.i.toNat) * 2 ^ 31 + e.g.toNat) * 2 ^ 2 + e.k.toNat
  | j + 1 => sN N e j * 2 ^ 8 + nmB e.s j
set_option maxRecDepth 3000 in
theorem sN_div (N : Nat) (e : En) : ∀ (j i : Nat), sN N e (i + j) / 2 ^ (8 * j) = sN N e i
  | 0, i => by simp
  | j + 1, i => by
    have h : sN N e (i + (j + 1)) = sN N e (i + j) * 2 ^ 8 + nmB e.s (i + j) := rfl
    rw [show 8 * (j + 1) = 8 + 8 * j by omega, Nat.pow_add, ← Nat.div_div_eq_div_mul, h, Nat.mul_comm, Nat.mul_add_div (by decide), Nat.div_eq_of_lt (nmB_lt _ _), Nat.add_zero]
    exact sN_div N e j i
set_option maxRecDepth 3000 in
theorem sN_zero_div (N : Nat) (e : En) (h : okE e) : sN N e 0 / 2 ^ 44 = N := by
  have hs := okE_size h
  obtain ⟨_, h1, h2, h3, h4, h5, h6⟩ := h
  simp only [sN]
  omega
set_option maxRecDepth 3000 in
theorem sN_up (N : Nat) (e : En) (h : okE e) : sN N e 16 / 2 ^ 172 = N := by
  rw [show 172 = 8 * 16 + 44 from rfl, Nat.pow_add, ← Nat.div_div_eq_div_mul]
  have := sN_div N e 16 0
  rw [Nat.zero_add] at this
  rw [this, sN_zero_div N e h]
/-- the number of the first k -/
def bN (l : List En) : Nat → Nat
  | 0 => 0
  | k + 1 => match l[k]? with | some e => sN (bN l k) e 16 | none => bN l k
set_option maxRecDepth 3000 in
theorem bN_some {l : List En} {k : Nat} {e : En} (h : l[k]? = some e) : bN l (k + 1) = sN (bN l k) e 16 := by rw [bN, h]
set_option maxRecDepth 3000 in
theorem bN_div (l : List En) (h : ∀ e ∈ l, okE e) : ∀ (j k : Nat), k + j ≤ l.length → bN l (k + j) / 2 ^ (172 * j) = bN l k
  | 0, k, _ => by simp
  | j + 1, k, hk => by
    have hlt : k + j < l.length := by omega
    have e := bN_some (List.getElem?_eq_getElem hlt)
    rw [show k + (j + 1) = k + j + 1 from rfl, e, show 172 * (j + 1) = 172 + 172 * j by omega, Nat.pow_add, ← Nat.div_div_eq_div_mul, sN_up _ _ (h _ (List.getElem_mem hlt))]
    exact bN_div l h j k (by omega)
set_option maxRecDepth 3000 in
theorem bN_lt (l : List En) (h : ∀ e ∈ l, okE e) (k : Nat) (hk : k ≤ l.length) : bN l k < 2 ^ (172 * k) := by
  have := bN_div l h k 0 (by omega)
  rw [Nat.zero_add] at this
  have h2 := (Nat.div_lt_iff_lt_mul (Nat.two_pow_pos (172 * k)) (y := 1) (x := bN l k)).mp (by rw [this]; exact Nat.one_pos)
  omega
def wN7 (l : List En) : Nat := bN l l.length * 2 ^ (1024 - 172 * l.length)
def blockL (l : List En) : List Nat := be 128 (wN7 l)
set_option maxRecDepth 3000 in
theorem blockL_length (l : List En) : (blockL l).length = 128 := be_length _ _
set_option maxRecDepth 3000 in
theorem blockL_lt (l : List En) : ∀ x ∈ blockL l, x < 256 := fun x hx => be_lt _ _ x hx
set_option maxRecDepth 3000 in
theorem row_blockL (l : List En) (hl : l.length ≤ 5) : rowOf (bN l l.length) (172 * l.length) ++ List.replicate (128 - qn (172 * l.length)) 0 = blockL l := by
  have hq := qn_pad (172 * l.length)
  have hp := pad_lt (172 * l.length)
  obtain ⟨r, hr⟩ : ∃ r, r = 128 - qn (172 * l.length) := ⟨_, rfl⟩
  have hq128 : qn (172 * l.length) + r = 128 := by unfold qn at hr ⊢; omega
  rw [← hr]
  have h := be_noughts (qn (172 * l.length)) (bN l l.length * 2 ^ pad (172 * l.length)) r
  unfold rowOf blockL wN7
  rw [hq128, Nat.mul_assoc, pw256 (pad (172 * l.length)) r (1024 - 172 * l.length) (by omega)] at h
  rw [h]
set_option maxRecDepth 3000 in
theorem wN_lt7 (l : List En) (hl : l.length ≤ 5) (h : ∀ e ∈ l, okE e) : wN7 l < 256 ^ 128 := by
  unfold wN7
  refine Nat.lt_of_lt_of_eq (Nat.mul_lt_mul_of_pos_right (bN_lt l h _ (Nat.le_refl _)) (Nat.two_pow_pos _)) ?_
  rw [← Nat.pow_add, show (256 : Nat) ^ 128 = 2 ^ (8 * 128) from (Nat.pow_mul 2 8 128).symm]
  congr 1
  omega
set_option maxRecDepth 3000 in
theorem byN_blockL (l : List En) (hl : l.length ≤ 5) (h : ∀ e ∈ l, okE e) : byN (blockL l) = wN7 l := byN_be _ _ (wN_lt7 l hl h)
set_option maxRecDepth 3000 in
/-- what lies behind k entries and more -/
theorem wN_top (l : List En) (h : ∀ e ∈ l, okE e) (hl : l.length ≤ 5) (k : Nat) (hk : k ≤ l.length) : wN7 l / 2 ^ (1024 - 172 * k) = bN l k := by
  unfold wN7
  obtain ⟨j, hj⟩ : ∃ j, l.length = k + j := ⟨l.length - k, by omega⟩
  rw [show 1024 - 172 * k = (1024 - 172 * l.length) + 172 * j by omega, shift_any, hj, bN_div l h j k (by omega)]
set_option maxRecDepth 3000 in
theorem wN_bits (l : List En) (h : ∀ e ∈ l, okE e) (hl : l.length ≤ 5) (k : Nat) (hk : k < l.length) (c n t : Nat) (hc : c + n + t = 172) : bitsAt 128 (wN7 l) (172 * k + c) n = sN (bN l k) l[k] 16 / 2 ^ t % 2 ^ n := by
  unfold bitsAt
  rw [← bN_some (List.getElem?_eq_getElem hk), ← wN_top l h hl (k + 1) hk, Nat.div_div_eq_div_mul, ← Nat.pow_add]
  congr 3
  omega
set_option maxRecDepth 3000 in
theorem wN_zero (l : List En) (hl : l.length ≤ 5) (k : Nat) (hk : l.length ≤ k) (hk5 : k < 5) : bitsAt 128 (wN7 l) (172 * k) 5 = 0 := by
  unfold bitsAt wN7
  obtain ⟨t, ht⟩ : ∃ t, 1024 - 172 * l.length = (8 * 128 - 172 * k - 5) + (5 + t) := ⟨172 * k - 172 * l.length, by omega⟩
  rw [ht, Nat.pow_add, ← Nat.mul_assoc, Nat.mul_comm (bN l l.length), Nat.mul_assoc, Nat.mul_div_cancel_left _ (Nat.two_pow_pos _), Nat.pow_add, ← Nat.mul_assoc, Nat.mul_comm _ (2 ^ t), ← Nat.mul_assoc, Nat.mul_mod_left]

/-! Reading. -/
def rdN (V k : Nat) : Nat := bitsAt 128 V (172 * k) 5
def rdS (V k n : Nat) : ByteArray := ⟨(bytesAt 128 V (172 * k + 44) n).toArray⟩
def rdE (V k n : Nat) : En := ⟨rdS V k n, (bitsAt 128 V (172 * k + 5) 6 : Nat), (bitsAt 128 V (172 * k + 11) 31 : Nat), (bitsAt 128 V (172 * k + 42) 2 : Nat)⟩
def prP (V k : Nat) : Option En := if rdN V k = 0 then none else some (rdE V k (min (rdN V k) 16))
def prR (V k : Nat) : Option En := if 0 < rdN V k ∧ rdN V k ≤ 16 then some (rdE V k (rdN V k)) else none
def ptP (V n : Nat) : List En := (List.range n).filterMap (prP V)
def ptR (V n : Nat) : List En := (List.range n).filterMap (prR V)
set_option maxRecDepth 3000 in
theorem ptP_succ (V n : Nat) : ptP V (n + 1) = ptP V n ++ (prP V n).toList := by
  unfold ptP; rw [List.range_succ, List.filterMap_append]; cases h : prP V n <;> simp [h]
set_option maxRecDepth 3000 in
theorem ptR_succ (V n : Nat) : ptR V (n + 1) = ptR V n ++ (prR V n).toList := by
  unfold ptR; rw [List.range_succ, List.filterMap_append]; cases h : prR V n <;> simp [h]
set_option maxRecDepth 3000 in
theorem rdS_back (l : List En) (h : ∀ e ∈ l, okE e) (hl : l.length ≤ 5) (k : Nat) (hk : k < l.length) : rdS (wN7 l) k (l[k].s.size) = l[k].s := by
  have hok := h _ (List.getElem_mem hk)
  have hs := okE_size hok
  obtain ⟨e, he⟩ : ∃ e, e = l[k] := ⟨_, rfl⟩
  rw [← he] at hok hs ⊢
  apply data_ext
  show bytesAt 128 (wN7 l) (172 * k + 44) e.s.size = _
  apply List.ext_getElem
  · rw [bytesAt_length]; rfl
  · intro j h1 h2
    rw [bytesAt_length] at h1
    simp only [bytesAt, List.getElem_map, List.getElem_range]
    unfold byteAt
    rw [show 172 * k + 44 + 8 * j = 172 * k + (44 + 8 * j) by omega, wN_bits l h hl k hk (44 + 8 * j) 8 (8 * (15 - j)) (by omega), ← he]
    have hd := sN_div (bN l k) e (15 - j) (j + 1)
    rw [show j + 1 + (15 - j) = 16 by omega] at hd
    rw [hd]
    show UInt8.ofNat ((sN (bN l k) e j * 2 ^ 8 + nmB e.s j) % 2 ^ 8) = _
    rw [Nat.mul_comm, Nat.mul_add_mod, Nat.mod_eq_of_lt (nmB_lt _ _), nmB, dif_pos h1]
    simp
    rfl
set_option maxRecDepth 3000 in
theorem rd_head (l : List En) (h : ∀ e ∈ l, okE e) (hl : l.length ≤ 5) (k : Nat) (hk : k < l.length) : rdN (wN7 l) k = l[k].s.size ∧ ((bitsAt 128 (wN7 l) (172 * k + 5) 6 : Nat) : Int) = l[k].i ∧ ((bitsAt 128 (wN7 l) (172 * k + 11) 31 : Nat) : Int) = l[k].g ∧ ((bitsAt 128 (wN7 l) (172 * k + 42) 2 : Nat) : Int) = l[k].k := by
  have hok := h _ (List.getElem_mem hk)
  have hs := okE_size hok
  obtain ⟨e, he⟩ : ∃ e, e = l[k] := ⟨_, rfl⟩
  have hd := sN_div (bN l k) e 16 0
  rw [Nat.zero_add] at hd
  have B : ∀ c n t, c + n + t = 44 → bitsAt 128 (wN7 l) (172 * k + c) n = sN (bN l k) e 0 / 2 ^ t % 2 ^ n := fun c n t hc => by
    rw [wN_bits l h hl k hk c n (8 * 16 + t) (by omega), ← he, Nat.pow_add, ← Nat.div_div_eq_div_mul, hd]
  have b0 := B 0 5 39 rfl
  have b1 := B 5 6 33 rfl
  have b2 := B 11 31 2 rfl
  have b3 := B 42 2 0 rfl
  rw [Nat.add_zero] at b0
  rw [← he] at hok hs ⊢
  obtain ⟨_, h1, h2, h3, h4, h5, h6⟩ := hok
  unfold rdN
  rw [b0, b1, b2, b3]
  simp only [sN]
  refine ⟨?_, ?_, ?_, ?_⟩ <;> omega
set_option maxRecDepth 3000 in
theorem prP_back (l : List En) (h : ∀ e ∈ l, okE e) (hl : l.length ≤ 5) (k : Nat) (hk : k < 5) : prP (wN7 l) k = l[k]? := by
  by_cases hlt : k < l.length
  · obtain ⟨h1, h2, h3, h4⟩ := rd_head l h hl k hlt
    have hs := okE_size (h _ (List.getElem_mem hlt))
    unfold prP rdE
    rw [h1, if_neg (by omega), Nat.min_eq_left (by omega), rdS_back l h hl k hlt, h2, h3, h4, List.getElem?_eq_getElem hlt]
  · rw [List.getElem?_eq_none (by omega)]
    unfold prP rdN
    rw [wN_zero l hl k (by omega) hk, if_pos rfl]
set_option maxRecDepth 3000 in
theorem prR_back (l : List En) (h : ∀ e ∈ l, okE e) (hl : l.length ≤ 5) (k : Nat) (hk : k < 5) : prR (wN7 l) k = l[k]? := by
  by_cases hlt : k < l.length
  · obtain ⟨h1, h2, h3, h4⟩ := rd_head l h hl k hlt
    have hs := okE_size (h _ (List.getElem_mem hlt))
    unfold prR rdE
    rw [h1, if_pos (by omega), rdS_back l h hl k hlt, h2, h3, h4, List.getElem?_eq_getElem hlt]
  · rw [List.getElem?_eq_none (by omega)]
    unfold prR rdN
    rw [wN_zero l hl k (by omega) hk, if_neg (by omega)]
set_option maxRecDepth 3000 in
theorem filter_five (l : List En) (hl : l.length ≤ 5) : (List.range 5).filterMap (fun k => l[k]?) = l := by
  match l, hl with
  | [], _ => rfl
  | [_], _ => rfl
  | [_, _], _ => rfl
  | [_, _, _], _ => rfl
  | [_, _, _, _], _ => rfl
  | [_, _, _, _, _], _ => rfl
set_option maxRecDepth 3000 in
theorem filter_same {f g : Nat → Option En} (h : ∀ k, k < 5 → f k = g k) : (List.range 5).filterMap f = (List.range 5).filterMap g := by
  simp only [show List.range 5 = [0, 1, 2, 3, 4] from rfl, List.filterMap_cons, List.filterMap_nil, h 0 (by decide), h 1 (by decide), h 2 (by decide), h 3 (by decide), h 4 (by decide)]
set_option maxRecDepth 3000 in
theorem ptP_back (l : List En) (h : ∀ e ∈ l, okE e) (hl : l.length ≤ 5) : ptP (byN (blockL l)) 5 = l := by
  rw [byN_blockL l hl h]
  exact (filter_same (prP_back l h hl)).trans (filter_five l hl)
set_option maxRecDepth 3000 in
theorem ptR_back (l : List En) (h : ∀ e ∈ l, okE e) (hl : l.length ≤ 5) : ptR (byN (blockL l)) 5 = l := by
  rw [byN_blockL l hl h]
  exact (filter_same (prR_back l h hl)).trans (filter_five l hl)

/-! Five by five. -/
def chk (l : List En) (i : Nat) : List En := (l.drop (5 * i)).take 5
def nCh (l : List En) : Nat := (l.length + 4) / 5
def blocksL (l : List En) : List (List Nat) := (List.range (nCh l)).map fun i => blockL (chk l i)
set_option maxRecDepth 3000 in
theorem chk_le (l : List En) (i : Nat) : (chk l i).length ≤ 5 := by unfold chk; rw [List.length_take]; omega
set_option maxRecDepth 3000 in
theorem chk_ok {l : List En} (h : ∀ e ∈ l, okE e) (i : Nat) : ∀ e ∈ chk l i, okE e := fun e he => h e (List.mem_of_mem_drop (List.mem_of_mem_take he))
set_option maxRecDepth 3000 in
theorem chks (l : List En) : ∀ n, (List.range n).flatMap (chk l) = l.take (5 * n)
  | 0 => by simp
  | n + 1 => by
    rw [List.range_succ, List.flatMap_append, chks l n, show 5 * (n + 1) = 5 * n + 5 by omega, List.take_add]
    simp [chk]
set_option maxRecDepth 3000 in
theorem blocksL_length (l : List En) : (blocksL l).length = nCh l := by simp [blocksL]
set_option maxRecDepth 3000 in
theorem blocksL_all (l : List En) : ∀ b ∈ blocksL l, b.length = 128 ∧ ∀ x ∈ b, x < 256 := by
  intro b hb
  obtain ⟨i, _, rfl⟩ := List.mem_map.1 hb
  exact ⟨blockL_length _, blockL_lt _⟩
set_option maxRecDepth 3000 in
theorem parts_back (f : Nat → List En) (l : List En) (h : ∀ e ∈ l, okE e) (hf : ∀ m : List En, (∀ e ∈ m, okE e) → m.length ≤ 5 → f (byN (blockL m)) = m) : (blocksL l).flatMap (fun b => f (byN b)) = l := by
  unfold blocksL
  rw [List.flatMap_map]
  have : (List.range (nCh l)).flatMap (fun i => f (byN (blockL (chk l i)))) = (List.range (nCh l)).flatMap (chk l) := by
    congr 1
    funext i
    exact hf _ (chk_ok h i) (chk_le l i)
  rw [this, chks, List.take_of_length_le (by unfold nCh; omega)]
/-- what Blocks answers -/
noncomputable def bE (l : List En) : Int := if RiseL l then (if l.length ≤ 24 then 0 else 8) else 2
noncomputable def bL (l : List En) : List (List Nat) := if bE l = 0 then blocksL l else []
set_option maxRecDepth 3000 in
theorem bE_ok {l : List En} (h : bE l = 0) : RiseL l ∧ l.length ≤ 24 := by
  unfold bE at h
  split at h
  · split at h
    · exact ⟨‹_›, ‹_›⟩
    · exact absurd h (by decide)
  · exact absurd h (by decide)
set_option maxRecDepth 3000 in
theorem bE_of {l : List En} (h : RiseL l) (k : l.length ≤ 24) : bE l = 0 := by unfold bE; rw [if_pos h, if_pos k]
set_option maxRecDepth 3000 in
theorem bE_full {l : List En} (h : RiseL l) (k : 24 < l.length) : bE l = 8 := by unfold bE; rw [if_pos h, if_neg (by omega)]
set_option maxRecDepth 3000 in
theorem bE_arg {l : List En} (h : ¬ RiseL l) : bE l = 2 := by unfold bE; rw [if_neg h]
set_option maxRecDepth 3000 in
theorem bL_of {l : List En} (h : bE l = 0) : bL l = blocksL l := by unfold bL; rw [if_pos h]
set_option maxRecDepth 3000 in
theorem bL_no {l : List En} (h : bE l ≠ 0) : bL l = [] := by unfold bL; rw [if_neg h]
set_option maxRecDepth 3000 in
theorem bL_all (l : List En) : ∀ b ∈ bL l, b.length = 128 ∧ ∀ x ∈ b, x < 256 := by
  unfold bL
  split
  · exact blocksL_all l
  · simp
def eP (r : List (List Nat)) : List En := r.flatMap fun b => ptP (byN b) 5
def eR (r : List (List Nat)) : List En := r.flatMap fun b => ptR (byN b) 5
set_option maxRecDepth 3000 in
theorem eP_back {l : List En} (h : RiseL l) : eP (blocksL l) = l := parts_back (fun V => ptP V 5) l h.all fun m hm h5 => ptP_back m hm h5
set_option maxRecDepth 3000 in
theorem eR_back {l : List En} (h : RiseL l) : eR (blocksL l) = l := parts_back (fun V => ptR V 5) l h.all fun m hm h5 => ptR_back m hm h5
def len128 (r : List (List Nat)) : Prop := ∀ b ∈ r, b.length = 128
/-- what Entries answers, the program's way and the document's -/
def okP (r : List (List Nat)) : Prop := r.length ≤ 5 ∧ len128 r ∧ bE (eP r) = 0 ∧ blocksL (eP r) = r
def okR (r : List (List Nat)) : Prop := len128 r ∧ bE (eR r) = 0 ∧ blocksL (eR r) = r
set_option maxRecDepth 3000 in
theorem ok_same (r : List (List Nat)) : (okP r ↔ okR r) ∧ (okP r → eP r = eR r) := by
  have A : okP r → eP r = eR r := fun h => by
    have := eR_back (bE_ok h.2.2.1).1
    rw [h.2.2.2] at this
    exact this.symm
  refine ⟨⟨fun h => ?_, fun h => ?_⟩, A⟩
  · have e := A h
    exact ⟨h.2.1, by rw [← e]; exact h.2.2.1, by rw [← e]; exact h.2.2.2⟩
  · have e := eP_back (bE_ok h.2.1).1
    rw [h.2.2] at e
    have hl := (bE_ok h.2.1).2
    have hn : r.length = nCh (eR r) := by rw [← blocksL_length, h.2.2]
    exact ⟨by rw [hn]; unfold nCh; omega, h.1, by rw [e]; exact h.2.1, by rw [e]; exact h.2.2⟩
set_option maxRecDepth 3000 in
theorem okP_blocks {l : List En} (h : bE l = 0) : okP (blocksL l) ∧ eP (blocksL l) = l := by
  have hb := bE_ok h
  have e := eP_back hb.1
  exact ⟨⟨by rw [blocksL_length]; unfold nCh; omega, fun b hb' => (blocksL_all l b hb').1, by rw [e]; exact h, by rw [e]⟩, e⟩
open Classical in
noncomputable def entL (r : List (List Nat)) : List En := if okP r then eP r else []
open Classical in
noncomputable def entE (r : List (List Nat)) : Int := if okP r then 0 else 4
set_option maxRecDepth 3000 in
theorem ent_yes {r : List (List Nat)} (h : okP r) : entL r = eP r ∧ entE r = 0 := by unfold entL entE; rw [if_pos h, if_pos h]; exact ⟨rfl, rfl⟩
set_option maxRecDepth 3000 in
theorem ent_no {r : List (List Nat)} (h : ¬ okP r) : entL r = [] ∧ entE r = 4 := by unfold entL entE; rw [if_neg h, if_neg h]; exact ⟨rfl, rfl⟩
set_option maxRecDepth 3000 in
theorem ent_yesR {r : List (List Nat)} (h : okR r) : entL r = eR r ∧ entE r = 0 := by
  have hp := (ok_same r).1.2 h
  rw [← (ok_same r).2 hp]; exact ent_yes hp
set_option maxRecDepth 3000 in
theorem ent_noR {r : List (List Nat)} (h : ¬ okR r) : entL r = [] ∧ entE r = 4 := ent_no fun hp => h ((ok_same r).1.1 hp)
end Go.Proofs.Ytpgeebhepegpaaa
