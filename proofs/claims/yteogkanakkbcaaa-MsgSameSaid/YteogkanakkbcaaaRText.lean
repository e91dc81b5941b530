/- The reader's Text. -/
import Derived.Test.YteogkanakkbcaaaLives
import Derived.Laws.IdiomStrings
namespace Go.Proofs.Yteogkanakkbcaaa
open Go.RowKit

theorem addr_none (b o j : Nat) : (⟨b, o, none⟩ : Addr).add j = ⟨b, o + j, none⟩ := by unfold Addr.add; split <;> simp_all

/-- the byte that stands at bit p -/
def byteAt (q V p : Nat) : UInt8 := UInt8.ofNat (bitsAt q V p 8)
theorem byteAt_toNat (q V p : Nat) : (byteAt q V p).toNat = bitsAt q V p 8 := by
  unfold byteAt
  rw [UInt8.toNat_ofNat']
  exact Nat.mod_eq_of_lt (bitsAt_lt q V p 8)
def bytesAt (q V p n : Nat) : List UInt8 := (List.range n).map fun i => byteAt q V (p + 8 * i)
def half (q V p n k : Nat) : List Value := (bytesAt q V p k).map (fun c => .int .u8 (c.toNat : Int)) ++ List.replicate (n - k) (.int .u8 0)
theorem bytesAt_length (q V p n : Nat) : (bytesAt q V p n).length = n := by simp [bytesAt]
theorem half_length (q V p n k : Nat) (hk : k ≤ n) : (half q V p n k).length = n := by simp [half, bytesAt]; omega
theorem half_zero (q V p n : Nat) : half q V p n 0 = List.replicate n (.int .u8 0) := by simp [half, bytesAt]
theorem half_at (q V p n k : Nat) (hk : k < n) : (half q V p n k)[k]? = some (.int .u8 0) := by
  unfold half
  rw [List.getElem?_append_right (by simp [bytesAt]), List.getElem?_replicate, if_pos (by simp [bytesAt]; omega)]
theorem half_set (q V p n k : Nat) (hk : k < n) : (half q V p n k).set k (.int .u8 ((bitsAt q V (p + 8 * k) 8 : Nat) : Int)) = half q V p n (k + 1) := by
  unfold half
  rw [List.set_append_right _ _ (by simp [bytesAt])]
  have e1 : bytesAt q V p (k + 1) = bytesAt q V p k ++ [byteAt q V (p + 8 * k)] := by simp [bytesAt, List.range_succ]
  have e2 : k - ((bytesAt q V p k).map (fun c => Value.int .u8 (c.toNat : Int))).length = 0 := by simp [bytesAt]
  rw [e2, e1, show n - k = (n - (k + 1)) + 1 from by omega, List.replicate_succ, List.set_cons_zero]
  simp [byteAt_toNat]

theorem make_bytes (n : Nat) (hn : n ≤ 1000000) (w : World) : (Instr.makeSlice 66 (.int .i64 (n : Int)) (.int .i64 (n : Int))).run Try.prog w = .ok (.slice (some ⟨w.heap.size, 0, none⟩) n n) (w.alloc (.cells (madeCells #[.int .u8 0] n) 5)) := by
  obtain ⟨i0, hi, hz0, hz1, hz2⟩ := info_parts Try.infoU8
  have hr := run_make (P := Try.prog) w 66 5 i0 (.int .u8 0) Try.underlying66 hi hz0 .i64 .i64 n n (by omega) (by omega) (by rw [hz2]; omega) (by omega)
  simp only [Int.toNat_natCast, hz1, Nat.mul_one] at hr
  exact hr

theorem half_made (q V p n : Nat) : (half q V p n 0).toArray = madeCells #[.int .u8 0] n := by
  rw [half_zero, ← toList_madeCells_one]
end Go.Proofs.Yteogkanakkbcaaa
