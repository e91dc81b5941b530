/- The reader's Text. -/
import Derived.Test.YtgcbnaleajccgaaLives
import Derived.Laws.IdiomStrings
namespace Go.Proofs.Ytgcbnaleajccgaa
open Go.RowKit

theorem addr_none (b o j : Nat) : (⟨b, o, none⟩ : Addr).add j = ⟨b, o + j, none⟩ := by unfold Addr.add; split <;> simp_all

/-- the byte that stands at bit p -/
def byteAt (q V p : Nat) : UInt8 := UInt8.ofNat (bitsAt q V p 8)
theorem byteAt_toNat (q V p : Nat) : (byteAt q V p).toNat = bitsAt q V p 8 := by
  unfold byteAt
  rw [UInt8.toNat_ofNat']
  exact Nat.mod_eq_of_lt (bitsAt_lt q V p 8)
def bytesAt (q V p n : Nat) : List UInt8 := (List.range n).map fun i => byteAt q V (p + 8 * i)
def half (q V p n k : Nat) : List Value := (bytesAt q V p k).map (fun c => .int .u8 (c.toNat : Int)) ++ List.replicate (n - k) (.int .u8 0)
theorem bytesAt_length (q V p n : Nat) : (bytesAt q V p n).length = n := by simp [bytesAt]
theorem half_length (q V p n k : Nat) (hk : k ≤ n) : (half q V p n k).length = n := by simp [half, bytesAt]; omega
theorem half_zero (q V p n : Nat) : half q V p n 0 = List.replicate n (.int .u8 0) := by simp [half, bytesAt]
theorem half_at (q V p n k : Nat) (hk : k < n) : (half q V p n k)[k]? = some (.int .u8 0) := by
  unfold half
  rw [List.getElem?_append_right (by simp [bytesAt]), List.getElem?_replicate, if_pos (by simp [bytesAt]; omega)]
theorem half_set (q V p n k : Nat) (hk : k < n) : (half q V p n k).set k (.int .u8 ((bitsAt q V (p + 8 * k) 8 : Nat) : Int)) = half q V p n (k + 1) := by
  unfold half
  rw [List.set_append_right _ _ (by simp [bytesAt])]
  have e1 : bytesAt q V p (k + 1) = bytesAt q V p k ++ [byteAt q V (p + 8 * k)] := by simp [bytesAt, List.range_succ]
  have e2 : k - ((bytesAt q V p k).map (fun c => Value.int .u8 (c.toNat : Int))).length = 0 := by simp [bytesAt]
  rw [e2, e1, show n - k = (n - (k + 1)) + 1 from by omega, List.replicate_succ, List.set_cons_zero]
  simp [byteAt_toNat]

theorem make_bytes (n : Nat) (hn : n ≤ 1000000) (w : World) : (Instr.makeSlice 31 (.int .i64 (n : Int)) (.int .i64 (n : Int))).run Try.prog w = .ok (.slice (some ⟨w.heap.size, 0, none⟩) n n) (w.alloc (.cells (madeCells #[.int .u8 0] n) 5)) := by
  obtain ⟨i0, hi, hz0, hz1, hz2⟩ := info_parts Try.infoU8
  have hr := run_make (P := Try.prog) w 31 5 i0 (.int .u8 0) Try.underlying31 hi hz0 .i64 .i64 n n (by omega) (by omega) (by rw [hz2]; omega) (by omega)
  simp only [Int.toNat_natCast, hz1, Nat.mul_one] at hr
  exact hr

theorem half_made (q V p n : Nat) : (half q V p n 0).toArray = madeCells #[.int .u8 0] n := by
  rw [half_zero, ← toList_madeCells_one]

def rtextRel (w : World) (b q V p n g : Nat) (F : Nat → Prop) (t : Value) (wr : World) : Prop :=
  ∃ k, t = .int .i64 ((k : Nat) : Int) ∧ k ≤ n ∧ RSt wr F b q V (p + 8 * k) ∧ Bd F wr ∧ Blk wr g 5 (half q V p n k).toArray ∧ Adv F w F wr

theorem get_int' (b q V a : Nat) (n : Int) (F : Nat → Prop) (w : World) (hw : RSt w F b q V a) (hF : Bd F w) (hn0 : 0 ≤ n) (hn : n ≤ 64) (hx : a + n.toNat ≤ 8 * q) :
    Calls Try.prog 67 #[.pointer (some ⟨b, 0, none⟩), .int .i64 n] w fun e w' => e = .returned (.int .u64 ((bitsAt q V a n.toNat : Nat) : Int)) ∧ RSt w' F b q V (a + n.toNat) ∧ Adv (· = b) w (· = b) w' ∧ Bd F w' := by
  obtain ⟨k, rfl⟩ := Int.eq_ofNat_of_zero_le hn0
  exact take_any b q V a k F w hw hF (by omega) hx

theorem RSt.alloc {w : World} {F : Nat → Prop} {b q V a : Nat} (h : RSt w F b q V a) (hb : Bd F w) (o : Obj) : RSt (w.alloc o) F b q V a := by
  obtain ⟨v, h1, h2⟩ := h.ex
  exact ⟨⟨v, h1.alloc _, own_keep h2.own (fun k hk => Below.heap_alloc _ _ _ (hb k (h2.inF k hk))), h2.inF, fun k hk => by have := hb k hk; simp; omega⟩, h.inF, h.le, h.sm⟩

theorem RSt.setCell {w : World} {F : Nat → Prop} {b q V a : Nat} (h : RSt w F b q V a) (hb : Bd F w) {p : Addr} (hp : ¬ F p.block) (u : Value) : RSt (w.setCell p u) F b q V a := by
  obtain ⟨v, h1, h2⟩ := h.ex
  exact ⟨⟨v, h1.far (fun e => hp (by rw [← e]; exact h.inF)) _, own_keep h2.own (fun k hk => Below.heap_setCell _ _ _ _ (fun e => hp (by rw [← e]; exact h2.inF k hk))), h2.inF, fun k hk => by have := hb k hk; simpa [World.setCell] using this⟩, h.inF, h.le, h.sm⟩

theorem get_short_int (b q V a : Nat) (n : Int) (F : Nat → Prop) (w : World) (hw : RSt w F b q V a) (hF : Bd F w) (hn0 : 0 ≤ n) (hn : n ≤ 64) (hx : 8 * q < a + n.toNat) :
    Calls Try.prog 58 #[.pointer (some ⟨b, 0, none⟩), .int .i64 n] w fun e w' => e = .returned (.int .u64 0) ∧ RErr w' F b 3 ∧ Adv F w F w' := by
  obtain ⟨k, rfl⟩ := Int.eq_ofNat_of_zero_le hn0
  exact get_short b q V a k F w hw hF (by omega) hx
end Go.Proofs.Ytgcbnaleajccgaa
