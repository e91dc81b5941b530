/- The reader's state, and its take. -/
import Derived.Test.YteogkanakkbcaaaMath2
import Derived.Test.YteogkanakkbcaaaDone
namespace Go.Proofs.Yteogkanakkbcaaa
open Go.RowKit

theorem take_val (X u k s q V a c p : Nat) (hX : X = bitsAt q V a c) (hu : u = V / 256 ^ (q - 1 - p / 8) % 256) (hp : p = a + c) (hs : s = 8 - p % 8 - k) (hk : k ≤ 8 - p % 8) (hc : c + k ≤ 64) (hpq : p + k ≤ 8 * q) (hp8 : p / 8 < q)
    (v : Int) (hv : v = ((u / 2 ^ s : Nat) : Int)) :
    bits .or .u64 (IntKind.u64.wrap ((X : Int) * 2 ^ k)) (bits .and .u64 v (IntKind.u64.wrap (IntKind.u64.wrap (2 ^ k) - 1))) = ((bitsAt q V a (c + k) : Nat) : Int) := by
  have hu256 : u < 256 := by rw [hu]; exact Nat.mod_lt _ (by decide)
  have hv256 : u / 2 ^ s ≤ u := Nat.div_le_self _ _
  have e2 : IntKind.u64.wrap ((X : Int) * 2 ^ k) = ((X * 2 ^ k % 18446744073709551616 : Nat) : Int) := by
    rw [IntKind.wrap_u64, Int.natCast_emod, Int.natCast_mul, Int.natCast_pow]; rfl
  rw [hv, e2, and_mask _ k (by omega) (by omega), u64_or_nat _ _ (Nat.mod_lt _ (by decide)) (Nat.lt_of_le_of_lt (Nat.mod_le _ _) (by omega))]
  have h1 : u / 2 ^ s % 2 ^ k = bitsAt q V p k := by rw [hu, hs]; exact bitsAt_byte q V p k hk hp8
  rw [h1, or_sum X _ c k (by rw [hX]; exact bitsAt_lt _ _ _ _) (bitsAt_lt _ _ _ _) hc, bitsAt_split q V a c k (by omega), hX, hp]

theorem wrap_div (u s : Nat) (hu : u < 256) : IntKind.u64.wrap ((u : Int) / 2 ^ s) = ((u / 2 ^ s : Nat) : Int) := by
  have h : u / 2 ^ s ≤ u := Nat.div_le_self _ _
  have e : (u : Int) / 2 ^ s = ((u / 2 ^ s : Nat) : Int) := by rw [Int.natCast_ediv, Int.natCast_pow]; rfl
  rw [e, IntKind.wrap_u64]
  have h2 : ((u / 2 ^ s : Nat) : Int) ≤ u := by exact_mod_cast h
  have h3 : (0 : Int) ≤ ((u / 2 ^ s : Nat) : Int) := Int.natCast_nonneg _
  exact Int.emod_eq_of_lt h3 (by omega)
end Go.Proofs.Yteogkanakkbcaaa
