/- The little play that each statement asks for. The reader's Text. The document's own answers: Fits, Bits. The document's own answers: Same, Bytes. The document's own answers: Bytes. Rows of bits: parts, what a list of bytes is as a number. The document's own reader: Of, Number, Left, End, Get. -/
import Derived.Test.YtlpdpbhnfhihjaaMgB
import Derived.Laws.IdiomStrings
import Derived.Test.YtlpdpbhnfhihjaaR01
import Derived.Laws.BytesArg
namespace Go.Proofs.Ytlpdpbhnfhihjaa
open Go.RowKit

theorem put_int (b N m : Nat) (x n : Int) (F : Nat → Prop) (w : World) (hw : WSt w F b N m) (hF : Bd F w) (hn0 : 0 ≤ n) (hn : n ≤ 64) (hx0 : 0 ≤ x) (hx : x.toNat < 2 ^ n.toNat) (hm : m + n.toNat ≤ 1000000000) :
    Calls Try.prog 63 #[.pointer (some ⟨b, 0, none⟩), .int .u64 x, .int .i64 n] w fun e w' => e = .returned (.pointer (some ⟨b, 0, none⟩)) ∧
      ∃ F', WSt w' F' b (N * 2 ^ n.toNat + x.toNat) (m + n.toNat) ∧ Adv F w F' w' ∧ Bd F' w' := by
  obtain ⟨k, rfl⟩ := Int.eq_ofNat_of_zero_le hn0
  obtain ⟨y, rfl⟩ := Int.eq_ofNat_of_zero_le hx0
  exact put_ok b N m y k F w hw hF (by omega) hx hm

theorem get_int (b q V a : Nat) (n : Int) (F : Nat → Prop) (w : World) (hw : RSt w F b q V a) (hF : Bd F w) (hn0 : 0 ≤ n) (hn : n ≤ 64) (hx : a + n.toNat ≤ 8 * q) :
    Calls Try.prog 57 #[.pointer (some ⟨b, 0, none⟩), .int .i64 n] w fun e w' => e = .returned (.int .u64 ((bitsAt q V a n.toNat : Nat) : Int)) ∧ RSt w' F b q V (a + n.toNat) ∧ Adv F w F w' ∧ Bd F w' := by
  obtain ⟨k, rfl⟩ := Int.eq_ofNat_of_zero_le hn0
  exact get_ok b q V a k F w hw hF (by omega) hx
end Go.Proofs.Ytlpdpbhnfhihjaa
namespace Go.Proofs.Ytlpdpbhnfhihjaa
open Go.RowKit

theorem addr_none (b o j : Nat) : (⟨b, o, none⟩ : Addr).add j = ⟨b, o + j, none⟩ := by unfold Addr.add; split <;> simp_all

/-- the byte that stands at bit p -/
def byteAt (q V p : Nat) : UInt8 := UInt8.ofNat (bitsAt q V p 8)
theorem byteAt_toNat (q V p : Nat) : (byteAt q V p).toNat = bitsAt q V p 8 := by
  unfold byteAt
  rw [UInt8.toNat_ofNat']
  exact Nat.mod_eq_of_lt (bitsAt_lt q V p 8)
def bytesAt (q V p n : Nat) : List UInt8 := (List.range n).map fun i => byteAt q V (p + 8 * i)
def half (q V p n k : Nat) : List Value := (bytesAt q V p k).map (fun c => .int .u8 (c.toNat : Int)) ++ List.replicate (n - k) (.int .u8 0)
theorem bytesAt_length (q V p n : Nat) : (bytesAt q V p n).length = n := by simp [bytesAt]
theorem half_length (q V p n k : Nat) (hk : k ≤ n) : (half q V p n k).length = n := by simp [half, bytesAt]; omega
theorem half_zero (q V p n : Nat) : half q V p n 0 = List.replicate n (.int .u8 0) := by simp [half, bytesAt]
theorem half_at (q V p n k : Nat) (hk : k < n) : (half q V p n k)[k]? = some (.int .u8 0) := by
  unfold half
  rw [List.getElem?_append_right (by simp [bytesAt]), List.getElem?_replicate, if_pos (by simp [bytesAt]; omega)]
theorem half_set (q V p n k : Nat) (hk : k < n) : (half q V p n k).set k (.int .u8 ((bitsAt q V (p + 8 * k) 8 : Nat) : Int)) = half q V p n (k + 1) := by
  unfold half
  rw [List.set_append_right _ _ (by simp [bytesAt])]
  have e1 : bytesAt q V p (k + 1) = bytesAt q V p k ++ [byteAt q V (p + 8 * k)] := by simp [bytesAt, List.range_succ]
  have e2 : k - ((bytesAt q V p k).map (fun c => Value.int .u8 (c.toNat : Int))).length = 0 := by simp [bytesAt]
  rw [e2, e1, show n - k = (n - (k + 1)) + 1 from by omega, List.replicate_succ, List.set_cons_zero]
  simp [byteAt_toNat]

theorem make_bytes (n : Nat) (hn : n ≤ 1000000) (w : World) : (Instr.makeSlice 33 (.int .i64 (n : Int)) (.int .i64 (n : Int))).run Try.prog w = .ok (.slice (some ⟨w.heap.size, 0, none⟩) n n) (w.alloc (.cells (madeCells #[.int .u8 0] n) 5)) := by
  obtain ⟨i0, hi, hz0, hz1, hz2⟩ := info_parts Try.infoU8
  have hr := run_make (P := Try.prog) w 33 5 i0 (.int .u8 0) Try.underlying33 hi hz0 .i64 .i64 n n (by omega) (by omega) (by rw [hz2]; omega) (by omega)
  simp only [Int.toNat_natCast, hz1, Nat.mul_one] at hr
  exact hr

theorem half_made (q V p n : Nat) : (half q V p n 0).toArray = madeCells #[.int .u8 0] n := by
  rw [half_zero, ← toList_madeCells_one]

def rtextRel (w : World) (b q V p n g : Nat) (F : Nat → Prop) (t : Value) (wr : World) : Prop :=
  ∃ k, t = .int .i64 ((k : Nat) : Int) ∧ k ≤ n ∧ RSt wr F b q V (p + 8 * k) ∧ Bd F wr ∧ Blk wr g 5 (half q V p n k).toArray ∧ Adv F w F wr

theorem get_int' (b q V a : Nat) (n : Int) (F : Nat → Prop) (w : World) (hw : RSt w F b q V a) (hF : Bd F w) (hn0 : 0 ≤ n) (hn : n ≤ 64) (hx : a + n.toNat ≤ 8 * q) :
    Calls Try.prog 80 #[.pointer (some ⟨b, 0, none⟩), .int .i64 n] w fun e w' => e = .returned (.int .u64 ((bitsAt q V a n.toNat : Nat) : Int)) ∧ RSt w' F b q V (a + n.toNat) ∧ Adv (· = b) w (· = b) w' ∧ Bd F w' := by
  obtain ⟨k, rfl⟩ := Int.eq_ofNat_of_zero_le hn0
  exact take_any b q V a k F w hw hF (by omega) hx

theorem RSt.alloc {w : World} {F : Nat → Prop} {b q V a : Nat} (h : RSt w F b q V a) (hb : Bd F w) (o : Obj) : RSt (w.alloc o) F b q V a := by
  obtain ⟨v, h1, h2⟩ := h.ex
  exact ⟨⟨v, h1.alloc _, own_keep h2.own (fun k hk => Below.heap_alloc _ _ _ (hb k (h2.inF k hk))), h2.inF, fun k hk => by have := hb k hk; simp; omega⟩, h.inF, h.le, h.sm⟩

theorem RSt.setCell {w : World} {F : Nat → Prop} {b q V a : Nat} (h : RSt w F b q V a) (hb : Bd F w) {p : Addr} (hp : ¬ F p.block) (u : Value) : RSt (w.setCell p u) F b q V a := by
  obtain ⟨v, h1, h2⟩ := h.ex
  exact ⟨⟨v, h1.far (fun e => hp (by rw [← e]; exact h.inF)) _, own_keep h2.own (fun k hk => Below.heap_setCell _ _ _ _ (fun e => hp (by rw [← e]; exact h2.inF k hk))), h2.inF, fun k hk => by have := hb k hk; simpa [World.setCell] using this⟩, h.inF, h.le, h.sm⟩

theorem get_short_int (b q V a : Nat) (n : Int) (F : Nat → Prop) (w : World) (hw : RSt w F b q V a) (hF : Bd F w) (hn0 : 0 ≤ n) (hn : n ≤ 64) (hx : 8 * q < a + n.toNat) :
    Calls Try.prog 57 #[.pointer (some ⟨b, 0, none⟩), .int .i64 n] w fun e w' => e = .returned (.int .u64 0) ∧ RErr w' F b 3 ∧ Adv F w F w' := by
  obtain ⟨k, rfl⟩ := Int.eq_ofNat_of_zero_le hn0
  exact get_short b q V a k F w hw hF (by omega) hx
end Go.Proofs.Ytlpdpbhnfhihjaa
namespace Go.Proofs.Ytlpdpbhnfhihjaa
open Go.RowKit

def nval (l : List Nat) : Nat := l.foldl (fun a b => a * 2 + b) 0
theorem nval_snoc (l : List Nat) (b : Nat) : nval (l ++ [b]) = nval l * 2 + b := by simp [nval]

/-- A row of noughts and ones: the number N of m bits. -/
structure Bl (l : List Nat) (N m : Nat) : Prop where
  len : l.length = m
  bit : ∀ b ∈ l, b < 2
  val : nval l = N

theorem Bl.nil : Bl [] 0 0 := ⟨rfl, by simp, rfl⟩
theorem Bl.snoc {l : List Nat} {N m b : Nat} (h : Bl l N m) (hb : b < 2) : Bl (l ++ [b]) (N * 2 + b) (m + 1) :=
  ⟨by simp [h.len], fun c hc => by
    rcases List.mem_append.1 hc with h1 | h1
    · exact h.bit c h1
    · simp at h1; omega, by rw [nval_snoc, h.val]⟩
theorem Bl.append {l m : List Nat} {N a M b : Nat} (h : Bl l N a) (k : Bl m M b) : Bl (l ++ m) (N * 2 ^ b + M) (a + b) := by
  refine ⟨by simp [h.len, k.len], fun c hc => by
    rcases List.mem_append.1 hc with h1 | h1
    · exact h.bit c h1
    · exact k.bit c h1, ?_⟩
  have H : ∀ (m : List Nat) (s : Nat), m.foldl (fun a b => a * 2 + b) s = s * 2 ^ m.length + nval m := by
    intro m
    induction m with
    | nil => intro s; simp [nval]
    | cons c m ih =>
      intro s
      have e : nval (c :: m) = c * 2 ^ m.length + nval m := by
        show m.foldl _ (0 * 2 + c) = _
        rw [ih]; simp
      rw [e, List.foldl_cons, ih, List.length_cons, Nat.pow_succ, Nat.add_mul, Nat.mul_assoc, Nat.mul_comm 2, Nat.add_assoc]
  unfold nval
  rw [List.foldl_append, H, ← k.len, ← k.val, ← h.val]
  rfl

def BitsRel (w : World) (x n : Nat) (t5 t6 : Value) (wr : World) : Prop :=
  ∃ k l F, t6 = .int .i64 ((n : Int) - 1 - ((k : Nat) : Int)) ∧ k ≤ n ∧ Bl l (x / 2 ^ (n - k)) k ∧ Sl wr F 5 1 t5 k (l.map u8) ∧ Adv Nul w F wr

set_option maxRecDepth 3000 in
set_option maxHeartbeats 1000000 in
theorem bits_any (x n : Nat) (w : World) (hx : x < 2 ^ n) (hn : n ≤ 64) :
    Calls Try.prog 22 #[.int .u64 x, .int .i64 n] w fun e w' => ∃ v, e = .returned v ∧ ∃ F l, Sl w' F 5 1 v n (l.map u8) ∧ Bl l x n ∧ Adv Nul w F w' := by
  obtain ⟨i0, hi, hz0, hz1, hz2⟩ := info_parts Try.infoU8
  have hx64 := pow_lt64 hx hn
  have HX := Lib.hid hx
  clear hx
  go_enter Try.func22, Try.ntmps22
  go_wp2_with fail
  go_loopw [5, 6] (BitsRel w x n) (fun _ t _ => (intOf t + 1).toNat)
  case atStart => exact ⟨0, [], Nul, by simp, by omega, by rw [Nat.sub_zero, Nat.div_eq_of_lt HX.out]; exact Bl.nil, Sl.nil _ _ _, Adv.refl _ _⟩
  case round =>
    obtain ⟨k, l, F, rfl, hk, hl, hS, hA⟩ := hrel
    obtain ⟨a5, c5, rfl, _, _⟩ := hS.form0
    have HS := Lib.hid hS
    have HA := Lib.hid hA
    have HL := Lib.hid hl
    have hown := hS.own
    clear hS hA hl
    by_cases hlt : k < n
    · obtain ⟨j, hj⟩ : ∃ j, j = n - 1 - k := ⟨_, rfl⟩
      have hji : (n : Int) - 1 - k = j := by omega
      rw [hji]
      have HJ := Lib.hid hj
      have hj64 : j < 64 := by omega
      have hn64 : (n : Int) ≤ 64 := by omega
      have hb : bits BinOp.and IntKind.u64 ((x : Int) / 2 ^ j) 1 = ((x / 2 ^ j % 2 : Nat) : Int) := by
        have e : (x : Int) / 2 ^ j = ((x / 2 ^ j : Nat) : Int) := by rw [Int.natCast_ediv, Int.natCast_pow]; rfl
        have h : x / 2 ^ j ≤ x := Nat.div_le_self _ _
        rw [e, and_one_u64 _ (Int.natCast_nonneg _) (by omega)]
        rfl
      clear hji hj
      go_wp2_with (first
        | (at_builtin; refine wpList_append_own_at _ rfl (.tmp 17) (.tmp 24) 33 rfl 0 5 i0 (.int .u8 0) 1 1 Try.underlying33 hi hz0 hz1 hz2 rfl (by decide) (.slice a5 k c5) k _ rfl (hown.alloc _) ⟨wr.heap.size, 0, none⟩ 1 1 [_] rfl rfl (cell_one_new _ _ _) ?c2 ?c3 ?c4 (Nat.zero_le _) ?c5)
        | fail)
      case c2 => intro u hu; simp at hu; subst hu; rfl
      case c3 => unfold maxLen; omega
      case c4 => omega
      case c5 =>
        intro v' w1 hown1 hg1 _ hat1
        obtain ⟨h1, h2⟩ := one_grown HS.out HA.out hown1 hg1 hat1 (by omega)
        have H1 := Lib.hid h1
        have H2 := Lib.hid h2
        clear h1 h2 hown1 hg1 hat1 hown hb
        go_wp2
        refine ⟨⟨k + 1, l ++ [x / 2 ^ j % 2], _, ?_, by omega, ?_, ?_, H2.out⟩, by simp [intOf] <;> omega⟩
        · have := HJ.out
          rw [show ((j : Int) - 1) = (n : Int) - 1 - ((k + 1 : Nat) : Int) from by omega]
        · have h := HL.out.snoc (b := x / 2 ^ j % 2) (Nat.mod_lt _ (by decide))
          have hj := HJ.out
          rw [show n - k = j + 1 from by omega, Nat.pow_succ, ← Nat.div_div_eq_div_mul, Nat.div_add_mod'] at h
          rwa [show n - (k + 1) = j from by omega]
        · rw [List.map_append]
          exact H1.out
    · obtain rfl : k = n := by omega
      have hneg : decide ((0 : Int) ≤ (k : Int) - 1 - k) = false := by simp; omega
      go_wp2
      go_ret
      have h := HL.out
      rw [Nat.sub_self, Nat.pow_zero, Nat.div_one] at h
      exact ⟨_, rfl, F, l, HS.out, h, HA.out⟩
end Go.Proofs.Ytlpdpbhnfhihjaa
namespace Go.Proofs.Ytlpdpbhnfhihjaa
open Go.RowKit

/-- the bytes behind k bits, the last one's bits moved up by j -/
def part (N k j : Nat) : List Nat := if k = 0 then [] else be ((k - 1) / 8) (N / 2 ^ (k - 8 * ((k - 1) / 8))) ++ [(N % 2 ^ (k - 8 * ((k - 1) / 8))) * 2 ^ j]
theorem part_at (N a r j : Nat) (hr : 0 < r) (hr8 : r ≤ 8) : part N (8 * a + r) j = be a (N / 2 ^ r) ++ [(N % 2 ^ r) * 2 ^ j] := by
  unfold part
  rw [if_neg (by omega), show (8 * a + r - 1) / 8 = a from by omega, show 8 * a + r - 8 * a = r from by omega]
theorem part_whole (N a : Nat) : part N (8 * a) 0 = be a N := by
  cases a with
  | zero => rfl
  | succ a =>
    rw [show 8 * (a + 1) = 8 * a + 8 from by omega, part_at N a 8 0 (by omega) (by omega)]
    simp [be]
theorem part_first (N a b : Nat) (hb : b < 2) : be a N ++ [0 * 2 + b] = part (N * 2 + b) (8 * a + 1) 0 := by
  rw [part_at _ a 1 0 (by omega) (by omega)]
  rw [show (N * 2 + b) / 2 ^ 1 = N from by omega, show (N * 2 + b) % 2 ^ 1 = b from by omega]
  simp
theorem part_next (N a r b : Nat) (hb : b < 2) (hr : 0 < r) (hr8 : r < 8) : be a (N / 2 ^ r) ++ [N % 2 ^ r * 2 + b] = part (N * 2 + b) (8 * a + r + 1) 0 := by
  rw [show 8 * a + r + 1 = 8 * a + (r + 1) from by omega, part_at _ a (r + 1) 0 (by omega) (by omega)]
  have h1 : (N * 2 + b) / 2 ^ (r + 1) = N / 2 ^ r := by
    rw [Nat.pow_succ, Nat.mul_comm (2 ^ r) 2, ← Nat.div_div_eq_div_mul, show (N * 2 + b) / 2 = N from by omega]
  have h2 : (N * 2 + b) % 2 ^ (r + 1) = N % 2 ^ r * 2 + b := by
    rw [Nat.pow_succ, Nat.mul_comm (2 ^ r) 2, Nat.mod_mul, show (N * 2 + b) % 2 = b from by omega, show (N * 2 + b) / 2 = N from by omega]
    omega
  rw [h1, h2]
  simp
theorem part_end (N m : Nat) : part N m (pad m) = rowOf N m := by
  unfold rowOf
  by_cases h0 : m = 0
  · subst h0; rfl
  · obtain ⟨a, r, hm, hr, hr8⟩ : ∃ a r, m = 8 * a + r ∧ 0 < r ∧ r ≤ 8 := ⟨(m - 1) / 8, m - 8 * ((m - 1) / 8), by omega, by omega, by omega⟩
    have hp : r + pad m = 8 := by unfold pad; omega
    have hq : qn m = a + 1 := by unfold qn; omega
    rw [hq, hm, part_at N a r _ hr hr8, ← hm]
    have h256 : (256 : Nat) = 2 ^ r * 2 ^ pad m := by rw [← Nat.pow_add, hp]
    simp only [be]
    rw [h256, Nat.mul_div_mul_right _ _ (Nat.two_pow_pos _), Nat.mul_mod_mul_right]
theorem part_length (N k j : Nat) : (part N k j).length = qn k := by
  unfold part qn
  split
  · subst_vars; rfl
  · simp [be_length]; omega
end Go.Proofs.Ytlpdpbhnfhihjaa
namespace Go.Proofs.Ytlpdpbhnfhihjaa
open Go.RowKit

theorem Bl.take {l : List Nat} {N m : Nat} (h : Bl l N m) (k : Nat) (hk : k < m) : ∃ M b, Bl (l.take k) M k ∧ l[k]? = some b ∧ b < 2 ∧ Bl (l.take (k + 1)) (M * 2 + b) (k + 1) := by
  have hl := h.len
  have hkl : k < l.length := by omega
  have h1 : Bl (l.take k) (nval (l.take k)) k := ⟨by simp; omega, fun b hb => h.bit b (List.mem_of_mem_take hb), rfl⟩
  refine ⟨_, l[k], h1, List.getElem?_eq_getElem hkl, h.bit _ (List.getElem_mem _), ?_⟩
  rw [List.take_succ_eq_append_getElem hkl]
  exact h1.snoc (h.bit _ (List.getElem_mem _))

/-- the last byte stored anew -/
theorem Sl.put_last {w : World} {F : Nat → Prop} {g c a : Nat} {l : List Nat} {x y : Nat} (h : Sl w F 5 1 (.slice (some ⟨g, 0, none⟩) (a + 1) c) (a + 1) ((l ++ [x]).map u8)) (hl : l.length = a) (v : Int) (hv : v = (y : Int)) :
    Sl (w.setCell ⟨g, a, none⟩ (.int .u8 v)) F 5 1 (.slice (some ⟨g, 0, none⟩) (a + 1) c) (a + 1) ((l ++ [y]).map u8) := by
  have h1 := (h.own.stored a (.int .u8 v)).1
  refine ⟨?_, h.inF, fun j hj => by have := h.bd j hj; simpa [World.setCell] using this⟩
  have e : ((l ++ [x]).map u8).set a (.int .u8 v) = (l ++ [y]).map u8 := by
    rw [List.map_append, List.map_append, List.set_append_right _ _ (by simp; omega)]
    simp [hl, hv, u8]
  rwa [e] at h1

theorem cell_last {w : World} {F : Nat → Prop} {g c a : Nat} {l : List Nat} {x : Nat} (h : Sl w F 5 1 (.slice (some ⟨g, 0, none⟩) (a + 1) c) (a + 1) ((l ++ [x]).map u8)) (hl : l.length = a) : w.cell? ⟨g, a, none⟩ = some (.int .u8 (x : Int)) := by
  rw [h.own.cellAt a (by omega), List.getElem?_map, List.getElem?_append_right (by omega), hl]
  simp [u8]

def BytesRel (w : World) (G : Nat → Prop) (l : List Nat) (v0 : Value) (m : Nat) (t3 t4 : Value) (wr : World) : Prop :=
  ∃ k N F, t4 = .int .i64 ((k : Nat) : Int) ∧ k ≤ m ∧ Bl (l.take k) N k ∧ Sl wr F 5 1 t3 (qn k) ((part N k 0).map u8) ∧ Adv Nul w F wr ∧ Sl wr G 5 1 v0 m (l.map u8) ∧ Sep F G

theorem bytes_step {w X : World} {F G : Nat → Prop} {l l1 : List Nat} {v0 : Value} {m g c a x y k N' : Nat} (hS : Sl X F 5 1 (.slice (some ⟨g, 0, none⟩) (a + 1) c) (a + 1) ((l1 ++ [x]).map u8)) (hl1 : l1.length = a) (hA : Adv Nul w F X)
    (hV : Sl X G 5 1 v0 m (l.map u8)) (hsep : Sep F G) (hk : k < m) (hnx : Bl (l.take (k + 1)) N' (k + 1)) (hp : l1 ++ [y] = part N' (k + 1) 0) (v : Int) (hv : v = (y : Int)) :
    BytesRel w G l v0 m (.slice (some ⟨g, 0, none⟩) (a + 1) c) (.int .i64 ((k : Int) + 1)) (X.setCell ⟨g, a, none⟩ (.int .u8 v)).drew := by
  have h1 := hS.put_last hl1 v hv
  have hF : F g := hS.inF g rfl
  have hq : qn (k + 1) = a + 1 := by
    have h := congrArg List.length hp
    rw [part_length] at h
    simp [hl1] at h
    omega
  refine ⟨k + 1, N', F, by simp, by omega, hnx, ?_, (hA.trans ((Adv.refl F X).setCell (p := ⟨g, a, none⟩) (.inl hF) _)).drew, ?_, hsep⟩
  · rw [hq, ← hp]; exact ⟨h1.own, h1.inF, h1.bd⟩
  · have h2 := hV.far ((Adv.refl F X).setCell (p := ⟨g, a, none⟩) (.inl hF) (.int .u8 v)) hsep
    exact ⟨h2.own, h2.inF, h2.bd⟩

theorem vis_grown {wr w1 : World} {F G : Nat → Prop} {v v0 : Value} {n m : Nat} {xs ys : List Value} {o : Obj} (hV : Sl wr G 5 1 v0 m ys) (hS : Sl wr F 5 1 v n xs) (hsep : Sep F G) (hg : (wr.alloc o).grownBy w1 v.ownBlock) : Sl w1 G 5 1 v0 m ys :=
  hV.far (((Adv.refl F wr).alloc o).grown hg (fun j hj => .inl (hS.inF j hj))) hsep
theorem sep_grown {wr : World} {F G : Nat → Prop} {v v' v0 : Value} {n m x : Nat} {xs ys : List Value} (hV : Sl wr G 5 1 v0 m ys) (hS : Sl wr F 5 1 v n xs) (hsep : Sep F G) (hat : v'.ownBlock = v.ownBlock ∨ v'.ownBlock = some x) (hx : wr.heap.size ≤ x) : Sep (fun j => F j ∨ v'.ownBlock = some j) G := by
  rintro j (h | h) hj
  · exact hsep j h hj
  · rcases hat with e | e
    · exact hsep j (hS.inF j (by rw [← e]; exact h)) hj
    · rw [e] at h; injection h with h; have := hV.bd j hj; omega
theorem snoc_zero {w : World} {F : Nat → Prop} {v : Value} {n : Nat} {l : List Nat} (h : Sl w F 5 1 v n (l.map u8 ++ [.int .u8 0])) : Sl w F 5 1 v n ((l ++ [0]).map u8) := by
  rw [List.map_append]; exact h
theorem cell_of_bits {G : Nat → Prop} {g0 c m k b : Nat} {l : List Nat} (hb : l[k]? = some b) (hk : k < m) : ∀ w : World, Sl w G 5 1 (.slice (some ⟨g0, 0, none⟩) m c) m (l.map u8) → w.cell? ⟨g0, k, none⟩ = some (.int .u8 (b : Int)) := fun w hV => by
  rw [hV.own.cellAt k (by omega), List.getElem?_map, hb]; rfl

def BytesRel2 (w : World) (N m q : Nat) (v3 t6 : Value) (wr : World) : Prop :=
  ∃ j F, t6 = .int .i64 ((m : Int) + ((j : Nat) : Int)) ∧ j ≤ pad m ∧ Sl wr F 5 1 v3 q ((part N m j).map u8) ∧ Adv Nul w F wr

set_option maxRecDepth 3000 in
set_option maxHeartbeats 2000000 in
theorem bytes_any (v0 : Value) (N m : Nat) (l : List Nat) (G : Nat → Prop) (w : World) (hv : Sl w G 5 1 v0 m (l.map u8)) (hl : Bl l N m) (hm : m ≤ 1000000000) :
    Calls Try.prog 24 #[v0] w fun e w' => ∃ v, e = .returned v ∧ ∃ F, Sl w' F 5 1 v (qn m) ((rowOf N m).map u8) ∧ Adv Nul w F w' := by
  obtain ⟨A, c, rfl, _, hcm⟩ := hv.form0
  unfold maxLen at hcm
  obtain ⟨i0, hi, hz0, hz1, hz2⟩ := info_parts Try.infoU8
  have HV := Lib.hid hv
  have HL := Lib.hid hl
  clear hv hl
  go_enter Try.func24, Try.ntmps24
  go_wp2_with fail
  go_loopw [3, 4] (BytesRel w G l (.slice A m c) m) (fun _ t _ => m - (intOf t).toNat)
  case atStart => exact ⟨0, 0, Nul, rfl, Nat.zero_le _, by simpa using Bl.nil, Sl.nil _ _ _, Adv.refl _ _, HV.out, fun _ h _ => h⟩
  case round =>
    obtain ⟨k, N1, F, rfl, hk, hN1, hS, hA, hV, hsep⟩ := hrel
    have HS := Lib.hid hS
    have HA := Lib.hid hA
    have HVr := Lib.hid hV
    have HSP := Lib.hid hsep
    by_cases hlt : k < m
    · obtain ⟨M, b, hM, hb, hb2, hnx⟩ := HL.out.take k hlt
      obtain rfl : M = N1 := by rw [← hM.val, ← hN1.val]
      obtain ⟨g0, c0, e0, _, _⟩ := hV.form (by omega)
      injection e0 with e1 e2 e3
      subst e1
      subst e3
      have hcb : wr.cell? ⟨g0, k, none⟩ = some (.int .u8 (b : Int)) := by
        rw [hV.own.cellAt k (by omega), List.getElem?_map, hb]; rfl
      have HNX := Lib.hid hnx
      have HCB := Lib.hid (cell_of_bits (G := G) (g0 := g0) (c := c) hb hlt)
      by_cases hk8 : k % 8 = 0
      · obtain ⟨a, hr⟩ : ∃ a, k = 8 * a := ⟨k / 8, by omega⟩
        have hq : qn k = a := by unfold qn; omega
        rw [hq, hr, part_whole] at hS
        obtain ⟨a3, c3, rfl, _, _⟩ := hS.form0
        have HS2 := Lib.hid hS
        have HR := Lib.hid hr
        have hown := hS.own
        have hk8' : (((k : Int) % 8) == 0) = true := by simp; omega
        have ha : a ≤ 1000000000 := by omega
        clear hS hA hV hsep hnx hM hb hN1 hr hk8 hq HS e2
        go_wp2_with (first
          | (at_builtin; refine wpList_append_own_at _ rfl (.tmp 17) (.tmp 18) 33 rfl 0 5 i0 (.int .u8 0) 1 1 Try.underlying33 hi hz0 hz1 hz2 rfl (by decide) (.slice a3 a c3) a _ rfl (hown.alloc _) ⟨wr.heap.size, 0, none⟩ 1 1 [.int .u8 0] rfl rfl (cell_one_new _ _ _) ?c2 ?c3 ?c4 (Nat.zero_le _) ?c5)
          | fail)
        case c2 => intro u hu; simp at hu; subst hu; rfl
        case c3 => unfold maxLen; omega
        case c4 => omega
        case c5 =>
          intro v' w1 hown1 hg1 _ hat1
          obtain ⟨h3, a3'⟩ := one_grown HS2.out HA.out hown1 hg1 hat1 (by omega)
          obtain ⟨g, c1, rfl, _, hgl⟩ := hown1.form (by omega)
          have hV1 := vis_grown HVr.out HS2.out HSP.out hg1
          have hsep1 : Sep (fun j => (fun j => F j ∨ (Value.slice (some ⟨g, 0, none⟩) (a + 1) c1).ownBlock = some j) j) G := sep_grown HVr.out HS2.out HSP.out hat1 (by omega)
          have h4 := snoc_zero h3
          have hlast := cell_last h4 (be_length _ _)
          have hfl := h4.own.frozenAt a
          have hgg : g ≠ g0 := fun e => hsep1 g (.inr rfl) (by rw [e]; exact hV1.inF g0 rfl)
          have hcb : w1.cell? ⟨g0, k, none⟩ = some (.int .u8 (b : Int)) := HCB.out w1 hV1
          have H4 := Lib.hid h4
          have HV1 := Lib.hid hV1
          have HA1 := Lib.hid a3'
          have HSP1 := Lib.hid hsep1
          clear h3 h4 hown1 hg1 hat1 hV1 a3' hsep1
          go_wp2_with fail
          go_region
          all_goals go_wp2
          all_goals
            refine ⟨bytes_step (y := 0 * 2 + b) H4.out (be_length _ _) HA1.out HV1.out HSP1.out hlt HNX.out ?_ _ (by simp), by simp [intOf]; omega⟩
            rw [HR.out]
            exact part_first M a b hb2
      · obtain ⟨a, r, hr, hr0, hr8⟩ : ∃ a r, k = 8 * a + r ∧ 0 < r ∧ r < 8 := ⟨k / 8, k % 8, by omega, by omega, by omega⟩
        have hq : qn k = a + 1 := by unfold qn; omega
        rw [hq, hr, part_at _ a r 0 hr0 (by omega), Nat.pow_zero, Nat.mul_one] at hS
        obtain ⟨g, c1, rfl, hFg, hc1⟩ := hS.form (by omega)
        have hlast := cell_last hS (be_length _ _)
        have hfl := hS.own.frozenAt a
        have hgg : g ≠ g0 := fun e => hsep g hFg (by rw [e]; exact hV.inF g0 rfl)
        obtain ⟨t, ht⟩ : ∃ t, t = M % 2 ^ r := ⟨_, rfl⟩
        have ht128 : t < 128 := by
          have h1 : M % 2 ^ r < 2 ^ r := Nat.mod_lt _ (Nat.two_pow_pos _)
          have h2 : (2 : Nat) ^ r ≤ 2 ^ 7 := Nat.pow_le_pow_right (by decide) (by omega)
          omega
        rw [← ht] at hlast
        have HT := Lib.hid ht
        have HS2 := Lib.hid hS
        have HR := Lib.hid hr
        have hk8' : (((k : Int) % 8) == 0) = false := by simp; omega
        have ha : a ≤ 1000000000 := by omega
        clear hS hA hV hsep hnx hM hb hN1 ht hr hk8 hq HS e2
        go_wp2_with fail
        go_region
        all_goals go_wp2
        all_goals
          refine ⟨bytes_step (y := t * 2 + b) HS2.out (be_length _ _) HA.out HVr.out HSP.out hlt HNX.out ?_ _ (by simp), by simp [intOf]; omega⟩
          rw [HT.out, HR.out]
          exact part_next M a r b hb2 hr0 hr8
    · obtain rfl : k = m := by omega
      have hlm := HL.out.len
      have hNN : N1 = N := by
        rw [← hN1.val, ← HL.out.val, List.take_of_length_le (by omega)]
      rw [hNN] at hS
      have hq1000 : qn k ≤ 1000000000 := by unfold qn; omega
      obtain ⟨a3, c3, rfl, _, _⟩ := hS.form0
      have HS3 := Lib.hid hS
      clear hS hA hV hsep hN1 hNN HS hlm HVr HSP
      go_wp2_with fail
      obtain ⟨q, hqq⟩ : ∃ q, q = qn k := ⟨_, rfl⟩
      have HQQ := Lib.hid hqq
      rw [← hqq] at HS3 hq1000 ⊢
      clear hqq
      go_loopw [6] (BytesRel2 w N k q (.slice a3 q c3)) (fun t _ => ((k : Int) + (pad k : Int) - intOf t).toNat)
      case atStart => exact ⟨0, F, by simp, Nat.zero_le _, HS3.out, HA.out⟩
      case round =>
        clear HS3 HA
        obtain ⟨j, F2, rfl, hj, hS, hA⟩ := hrel
        have HA2 := Lib.hid hA
        by_cases hjp : j < pad k
        · obtain ⟨a, r, hm8, hr0, hr8⟩ : ∃ a r, k = 8 * a + r ∧ 0 < r ∧ r < 8 := ⟨k / 8, k % 8, by omega, by unfold pad at hjp; omega, by omega⟩
          have hpr : pad k = 8 - r := by unfold pad; omega
          have hq : qn k = a + 1 := by unfold qn; omega
          have hqa : q = a + 1 := by have := HQQ.out; omega
          subst hqa
          rw [hm8, part_at _ a r j hr0 (by omega)] at hS
          obtain ⟨g, c1, e, hFg, hc1⟩ := hS.form (by omega)
          injection e with e1 e2 e3
          subst e1
          subst e3
          have hlast := cell_last hS (be_length _ _)
          have hfl := hS.own.frozenAt a
          have hx128 : N % 2 ^ r * 2 ^ j < 128 := by
            have h1 : N % 2 ^ r * 2 ^ j < 2 ^ r * 2 ^ j := Nat.mul_lt_mul_of_pos_right (Nat.mod_lt _ (Nat.two_pow_pos _)) (Nat.two_pow_pos _)
            have h2 : (2 : Nat) ^ (r + j) ≤ 2 ^ 7 := Nat.pow_le_pow_right (by decide) (by omega)
            rw [Nat.pow_add] at h2
            omega
          obtain ⟨x, hx⟩ : ∃ x, x = N % 2 ^ r * 2 ^ j := ⟨_, rfl⟩
          rw [← hx] at hlast hx128
          have hne : ((((k : Int) + (j : Int)) % 8) != 0) = true := by rw [bne_iff_ne]; unfold pad at hjp; omega
          have ha : a ≤ 1000000000 := by omega
          have hj8 : j ≤ 8 := by omega
          have hnext : BytesRel2 w N k (a + 1) (.slice (some ⟨g, 0, none⟩) (a + 1) c3) (.int .i64 ((k : Int) + (j : Int) + 1)) (wr.setCell ⟨g, a, none⟩ (.int .u8 ((x : Int) * 2))) := by
            refine ⟨j + 1, F2, by rw [show (k : Int) + (j : Int) + 1 = (k : Int) + ((j + 1 : Nat) : Int) from by omega], by omega, ?_, hA.trans ((Adv.refl F2 wr).setCell (p := ⟨g, a, none⟩) (.inl hFg) _)⟩
            have h := hS.put_last (y := x * 2) (be_length _ _) ((x : Int) * 2) (by simp)
            rw [hm8, part_at _ a r (j + 1) hr0 (by omega), Nat.pow_succ, ← Nat.mul_assoc, ← hx]
            exact h
          have HN := Lib.hid hnext
          have hmeas : ((k : Int) + (pad k : Int) - ((k : Int) + (j : Int) + 1)).toNat < ((k : Int) + (pad k : Int) - ((k : Int) + (j : Int))).toNat := by omega
          have HME := Lib.hid hmeas
          clear hnext hS hA hx hm8 hpr hq e2 hmeas HA2
          go_wp2
          exact ⟨HN.out, by simpa [intOf] using HME.out⟩
        · have hjp2 : j = pad k := by omega
          have hne : ((((k : Int) + (j : Int)) % 8) != 0) = false := by rw [hjp2]; unfold pad; simp; omega
          rw [hjp2, part_end] at hS
          have HS4 := Lib.hid hS
          clear hS hA hjp2 hjp
          go_wp2
          go_ret
          have h := HS4.out
          rw [← HQQ.out]
          exact ⟨_, rfl, F2, h, HA2.out⟩
end Go.Proofs.Ytlpdpbhnfhihjaa
namespace Go.Proofs.Ytlpdpbhnfhihjaa
open Go.RowKit

theorem nval_append (l m : List Nat) : nval (l ++ m) = nval l * 2 ^ m.length + nval m := by
  have H : ∀ (m : List Nat) (s : Nat), m.foldl (fun a b => a * 2 + b) s = s * 2 ^ m.length + nval m := by
    intro m
    induction m with
    | nil => intro s; simp [nval]
    | cons c m ih =>
      intro s
      have e : nval (c :: m) = c * 2 ^ m.length + nval m := by
        show m.foldl _ (0 * 2 + c) = _
        rw [ih]; simp
      rw [e, List.foldl_cons, ih, List.length_cons, Nat.pow_succ, Nat.add_mul, Nat.mul_assoc, Nat.mul_comm 2, Nat.add_assoc]
  unfold nval
  rw [List.foldl_append, H]
  rfl
theorem nval_lt (l : List Nat) (h : ∀ b ∈ l, b < 2) : nval l < 2 ^ l.length := by
  induction l with
  | nil => simp [nval]
  | cons c l ih =>
    have e : nval (c :: l) = c * 2 ^ l.length + nval l := by
      have := nval_append [c] l
      simpa [nval] using this
    have h1 := ih (fun b hb => h b (by simp [hb]))
    have h2 := h c (by simp)
    rw [e, List.length_cons, Nat.pow_succ]
    have : c = 0 ∨ c = 1 := by omega
    rcases this with rfl | rfl <;> omega
theorem Bl.lt {l : List Nat} {N m : Nat} (h : Bl l N m) : N < 2 ^ m := by
  rw [← h.val, ← h.len]; exact nval_lt l h.bit
/-- a front of it, and what is left -/
theorem Bl.parts {l : List Nat} {N m n : Nat} (h : Bl l N m) (hn : n ≤ m) : Bl (l.take n) (N / 2 ^ (m - n)) n ∧ Bl (l.drop n) (N % 2 ^ (m - n)) (m - n) := by
  have hl := h.len
  have e := nval_append (l.take n) (l.drop n)
  rw [List.take_append_drop, h.val, show (l.drop n).length = m - n from by simp; omega] at e
  have hd := nval_lt (l.drop n) (fun b hb => h.bit b (List.mem_of_mem_drop hb))
  rw [show (l.drop n).length = m - n from by simp; omega] at hd
  refine ⟨⟨by simp; omega, fun b hb => h.bit b (List.mem_of_mem_take hb), ?_⟩, ⟨by simp; omega, fun b hb => h.bit b (List.mem_of_mem_drop hb), ?_⟩⟩
  · rw [e, Nat.mul_comm, Nat.mul_add_div (Nat.two_pow_pos _), Nat.div_eq_of_lt hd, Nat.add_zero]
  · rw [e, Nat.mul_comm, Nat.mul_add_mod, Nat.mod_eq_of_lt hd]
theorem Bl.zero {l : List Nat} {N : Nat} (h : Bl l N 0) : l = [] ∧ N = 0 := by
  have := h.len
  obtain rfl := List.eq_nil_of_length_eq_zero this
  exact ⟨rfl, by rw [← h.val]; rfl⟩

/-- bytes as a number -/
def byN (l : List Nat) : Nat := l.foldl (fun a x => a * 256 + x) 0
theorem byN_snoc (l : List Nat) (x : Nat) : byN (l ++ [x]) = byN l * 256 + x := by simp [byN]
theorem be_byN (l : List Nat) (h : ∀ x ∈ l, x < 256) : be l.length (byN l) = l := by
  have H : ∀ n (l : List Nat), l.length = n → (∀ x ∈ l, x < 256) → be n (byN l) = l := by
    intro n
    induction n with
    | zero => intro l hl _; rw [List.eq_nil_of_length_eq_zero hl]; rfl
    | succ n ih =>
      intro l hl h
      have hne : l ≠ [] := by intro e; simp [e] at hl
      have e := List.dropLast_concat_getLast hne
      have hx := h (l.getLast hne) (List.getLast_mem hne)
      have ih' := ih l.dropLast (by simp; omega) (fun x hx => h x ((List.dropLast_sublist l).subset hx))
      rw [← e, byN_snoc]
      show be n ((byN l.dropLast * 256 + l.getLast hne) / 256) ++ [(byN l.dropLast * 256 + l.getLast hne) % 256] = _
      rw [show (byN l.dropLast * 256 + l.getLast hne) / 256 = byN l.dropLast from by omega, show (byN l.dropLast * 256 + l.getLast hne) % 256 = l.getLast hne from by omega, ih']
  exact H _ l rfl h

/-- what is left of V's 8 q bits behind the first a -/
def rest (q V a : Nat) : Nat := V % 2 ^ (8 * q - a)
theorem rest_bits (q V a n : Nat) (h : a + n ≤ 8 * q) : rest q V a / 2 ^ (8 * q - a - n) = bitsAt q V a n := by
  unfold rest bitsAt
  rw [show 8 * q - a = n + (8 * q - a - n) from by omega, Nat.pow_add, show n + (8 * q - a - n) - n = 8 * q - a - n from by omega, Nat.mul_comm, Nat.mod_mul_right_div_self]
theorem rest_rest (q V a n : Nat) (h : a + n ≤ 8 * q) : rest q V a % 2 ^ (8 * q - a - n) = rest q V (a + n) := by
  unfold rest
  rw [show 8 * q - (a + n) = 8 * q - a - n from by omega]
  exact Nat.mod_mod_of_dvd _ (Nat.pow_dvd_pow 2 (by omega))
end Go.Proofs.Ytlpdpbhnfhihjaa
namespace Go.Proofs.Ytlpdpbhnfhihjaa
open Go.RowKit

def NumRelB (l : List Nat) (m : Nat) (t3 t4 : Value) : Prop :=
  ∃ k x : Nat, k ≤ m ∧ t4 = .int .i64 (k : Int) ∧ t3 = .int .u64 (x : Int) ∧ nval (l.take k) = x

theorem u64_dbl (x b : Nat) (h : x * 2 + b < 18446744073709551616) : IntKind.u64.wrap (IntKind.u64.wrap ((x : Int) * 2) + (b : Int)) = ((x * 2 + b : Nat) : Int) := by
  rw [IntKind.wrap_u64, IntKind.wrap_u64]; omega

def OfRel (w : World) (l : List Nat) (t3 t4 : Value) (wr : World) : Prop :=
  ∃ k bl F, t4 = .int .i64 ((k : Nat) : Int) ∧ k ≤ l.length ∧ Bl bl (byN (l.take k)) (8 * k) ∧ Sl wr F 5 1 t3 (8 * k) (bl.map u8) ∧ Adv Nul w F wr

set_option maxRecDepth 3000 in
set_option maxHeartbeats 1000000 in
theorem of_any (v : Value) (m : Nat) (l : List Nat) (w : World) (h : InN w v m l) (hm : m ≤ 1000) :
    Calls Try.prog 23 #[v] w fun e w' => ∃ v' F bl, e = .returned v' ∧ Sl w' F 5 1 v' (8 * m) (bl.map u8) ∧ Bl bl (byN l) (8 * m) ∧ Adv Nul w F w' := by
  obtain ⟨A, c, rfl, _, hcm⟩ := h.rd.form
  unfold maxLen at hcm
  have HH := Lib.hid h
  clear h
  go_enter Try.func23, Try.ntmps23
  go_wp2_with fail
  go_loopw [3, 4] (OfRel w l) (fun _ t _ => m - (intOf t).toNat)
  case atStart => exact ⟨0, [], Nul, rfl, Nat.zero_le _, Bl.nil, Sl.nil _ _ _, Adv.refl _ _⟩
  case round =>
    obtain ⟨k, bl, F, rfl, hk, hbl, hS, hA⟩ := hrel
    obtain ⟨a3, c3, rfl, _, _⟩ := hS.form0
    have HS := Lib.hid hS
    have HA := Lib.hid hA
    have HBL := Lib.hid hbl
    clear hS hA hbl
    have hml := HH.out.len
    by_cases hlt : k < m
    · have hkl : k < l.length := by omega
      obtain ⟨g, o, c', e, _, hc⟩ := (HH.out.far HA.out.toBelow).at8 hkl
      injection e with e1 e2 e3
      subst e1
      clear e2 e3
      have c1 := hc k hkl
      obtain ⟨x, hx⟩ : ∃ x, x = l[k] := ⟨_, rfl⟩
      have hx256 : x < 256 := by rw [hx]; exact HH.out.lt _ (List.getElem_mem _)
      have hnx : byN (l.take (k + 1)) = byN (l.take k) * 256 + x := by rw [List.take_succ_eq_append_getElem hkl, byN_snoc, hx]
      rw [← hx] at c1
      have HNX := Lib.hid hnx
      have HKL := Lib.hid hkl
      clear hc hx hnx hk hml hkl
      go_wp2_with (first
        | (go_at_call 22; refine (bits_any x 8 _ hx256 (by decide)).mono ?_; rintro e w2 ⟨v2, rfl, F2, l2, h2, hb2, a2⟩; obtain ⟨g2, c2, rfl, _, _⟩ := h2.form (by decide); have hS2 := HS.out.far a2 (fun _ h _ => h))
        | (at_builtin; refine wpList_append_rd rfl (.tmp 11) (.tmp 17) rfl rfl rfl hS2.own h2.rd (u8_one _) ?c3 ?c5)
        | fail)
      case c3 => omega
      case c5 =>
        intro v' w3 hown1 hg1 hat1
        obtain ⟨h3, _, a3⟩ := own_grown hS2 ((HA.out.trans (a2.same (F := Nul) (fun _ x => x.elim)))) hown1 hg1 hat1 (Nat.le_refl _)
        have H3 := Lib.hid h3
        have A3 := Lib.hid a3
        have HB2 := Lib.hid hb2
        clear h3 a3 hown1 hg1 hat1 hS2 h2 hb2 a2
        go_wp2
        refine ⟨⟨k + 1, bl ++ l2, _, by simp, HKL.out, ?_, ?_, A3.out⟩, by simp [intOf] <;> omega⟩
        · have h := HBL.out.append HB2.out
          rw [HNX.out]
          exact h
        · rw [List.map_append]
          exact H3.out
    · obtain rfl : k = m := by omega
      have HML := Lib.hid hml
      clear hk hml
      go_wp2
      go_ret
      have h := HBL.out
      rw [List.take_of_length_le (by rw [← HML.out]; omega)] at h
      exact ⟨_, F, bl, rfl, HS.out, h, HA.out⟩
end Go.Proofs.Ytlpdpbhnfhihjaa
