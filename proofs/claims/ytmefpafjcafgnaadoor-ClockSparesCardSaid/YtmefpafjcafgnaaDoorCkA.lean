/- Sets of places as numbers: math/bits.TrailingZeros64, least, has, put, drop, first. -/
import Derived.Test.YtmefpafjcafgnaaDoorR01
import Derived.Test.YtmefpafjcafgnaaDoorCkM
import Derived.Deep.RegionWith
import Derived.Laws.Closers25
import Derived.Shelf.Spec.TrailingZeros
namespace Go.Proofs.YtmefpafjcafgnaaDoor
open Go.RowKit

/-- the library's table lies in its variable -/
def Tz (w : World) : Prop := ∀ j, j < 64 → w.cell? ⟨0, j, none⟩ = some (.int .u8 (Lib.deBruijn64tab.getD j 0 : Int))
theorem Tz.lt {w : World} (h : Tz w) : 0 < w.heap.size := World.block_lt_of_cell? _ _ (h 0 (by decide))
theorem Tz.far {w w' : World} {F F' : Nat → Prop} (h : Tz w) (a : Adv F w F' w') (hF : ¬ F 0) : Tz w' := fun j hj => by
  rw [World.cell?_of_block (w := w) (a.block 0 h.lt hF)]; exact h j hj
theorem Tz.below {w w' : World} (h : Tz w) (b : Below w.heap.size w w') : Tz w' := fun j hj => by
  rw [World.cell?_of_block (w := w) (b.block 0 h.lt)]; exact h j hj
theorem Tz.drewN {w : World} (h : Tz w) (k : Nat) : Tz (w.drewN k) := h

set_option maxRecDepth 3000 in
set_option maxHeartbeats 1000000 in
theorem tz_core (x k idx : Nat) (w : World) (hx0 : ((x : Int) == 0) = false)
    (key : IntKind.u64.wrap (bits BinOp.and IntKind.u64 (x : Int) (IntKind.u64.wrap (-(x : Int))) * 285870213051353865) / 288230376151711744 = (idx : Int))
    (hi : idx < 64) (hk : k < 64) (hcell : w.cell? ⟨0, idx, none⟩ = some (.int .u8 k)) :
    Calls Tryd.prog 34 #[.int .u64 x] w fun e w' => e = .returned (.int .i64 k) ∧ w = w' := by
  go_enter Tryd.func34, Tryd.ntmps34
  go_wp2_with (simp only [key])
  go_ret
  exact ⟨rfl, rfl⟩
/-- the least place, where there is one -/
theorem tz_any (x : Nat) (hx : x < 18446744073709551616) (hx0 : x ≠ 0) (w : World) (hT : Tz w) :
    Calls Tryd.prog 34 #[.int .u64 x] w fun e w' => e = .returned (.int .i64 (Lib.ctz 64 x : Int)) ∧ w = w' := by
  obtain ⟨hlow, hk⟩ := Lib.lowest_bit 64 x hx0 hx
  obtain ⟨hi, htab⟩ := Lib.deBruijn64_at _ hk
  have hcell := hT _ hi
  rw [htab] at hcell
  exact tz_core x _ _ w (by simp; omega) (tz64_key x _ hx hx0 hlow) hi hk hcell
set_option maxRecDepth 3000 in
theorem least_any (x : Nat) (hx : x < 18446744073709551616) (hx0 : x ≠ 0) (w : World) (hT : Tz w) :
    Calls Tryd.prog 27 #[.int .u64 x] w fun e w' => e = .returned (.int .i64 (Lib.ctz 64 x : Int)) ∧ w = w' := by
  have HA := Lib.hid (tz_any x hx hx0 w hT)
  clear hT hx0
  obtain ⟨c, hc⟩ : ∃ c, c = Lib.ctz 64 x := ⟨_, rfl⟩
  rw [← hc] at HA ⊢
  clear hc
  go_enter Tryd.func27, Tryd.ntmps27
  go_wp2_with (first
    | (go_at_call 34; refine HA.out.mono ?_; rintro e w1 ⟨rfl, rfl⟩)
    | fail)
  go_ret
  exact ⟨rfl, rfl⟩

theorem pow_cast (i : Nat) : ((2 : Int) ^ i) = ((2 ^ i : Nat) : Int) := by simp
theorem pow_lt64 {i : Nat} (hi : i < 64) : 2 ^ i < 18446744073709551616 := show 2 ^ i < 2 ^ 64 from Nat.pow_lt_pow_right (by decide) hi
theorem wrap_pow {i : Nat} (hi : i < 64) : IntKind.u64.wrap ((2 : Int) ^ i) = ((2 ^ i : Nat) : Int) := by
  have := pow_lt64 hi
  rw [pow_cast, IntKind.wrap_u64]
  generalize 2 ^ i = y at this ⊢
  omega
set_option maxRecDepth 3000 in
theorem has_any (x i : Nat) (hx : x < 18446744073709551616) (hi : i < 64) (w : World) :
    Calls Tryd.prog 35 #[.int .u64 x, .int .i64 (i : Int)] w fun e w' => e = .returned (.bool (x.testBit i)) ∧ w = w' := by
  have h1 : (0 : Int) ≤ (i : Int) := by omega
  have h2 : (i : Int) < 64 := by omega
  go_enter Tryd.func35, Tryd.ntmps35
  go_wp2
  go_ret
  refine ⟨?_, rfl⟩
  show Ending.returned (.bool (bits BinOp.and IntKind.u64 ((x : Int) / 2 ^ i) 1 != 0)) = _
  rw [pow_cast, ← Int.natCast_ediv, show (1 : Int) = ((1 : Nat) : Int) from rfl, u64_and_nat _ _ (Nat.lt_of_le_of_lt (Nat.div_le_self _ _) hx) (by decide), Nat.and_one_is_mod, Nat.testBit_eq_decide_div_mod_eq]
  generalize x / 2 ^ i = y
  have : y % 2 < 2 := Nat.mod_lt _ (by decide)
  generalize y % 2 = z at this
  match z, this with
  | 0, _ | 1, _ => rfl
set_option maxRecDepth 3000 in
theorem put_any (x i b o : Nat) (hx : x < 18446744073709551616) (hi : i < 64) (w : World) (hc : w.cell? ⟨b, o, none⟩ = some (.int .u64 x)) (hf : w.frozen? ⟨b, o, none⟩ = false) :
    Calls Tryd.prog 31 #[.pointer (some ⟨b, o, none⟩), .int .i64 (i : Int)] w fun e w' => e = .returned (.tuple #[]) ∧ ∃ k, w' = (w.drewN k).setCell ⟨b, o, none⟩ (.int .u64 (pput x i : Nat)) := by
  have h1 : (0 : Int) ≤ (i : Int) := by omega
  have h2 : (i : Int) < 64 := by omega
  go_enter Tryd.func31, Tryd.ntmps31
  go_wp2_with fail
  go_region
  go_wp2
  go_end0
  refine ⟨rfl, 1, ?_⟩
  rw [wrap_pow hi, u64_or_nat _ _ hx (pow_lt64 hi)]
  rfl
set_option maxRecDepth 3000 in
theorem drop_any (x i b o : Nat) (hx : x < 18446744073709551616) (hi : i < 64) (w : World) (hc : w.cell? ⟨b, o, none⟩ = some (.int .u64 x)) (hf : w.frozen? ⟨b, o, none⟩ = false) :
    Calls Tryd.prog 32 #[.pointer (some ⟨b, o, none⟩), .int .i64 (i : Int)] w fun e w' => e = .returned (.tuple #[]) ∧ ∃ k, w' = (w.drewN k).setCell ⟨b, o, none⟩ (.int .u64 (ddrop x i : Nat)) := by
  have h1 : (0 : Int) ≤ (i : Int) := by omega
  have h2 : (i : Int) < 64 := by omega
  go_enter Tryd.func32, Tryd.ntmps32
  go_wp2_with fail
  go_region
  go_wp2
  go_end0
  refine ⟨rfl, 1, ?_⟩
  rw [wrap_pow hi, u64_andNot_nat _ _ hx (pow_lt64 hi)]
  rfl
theorem first_num : ∀ n < 65, 1 ≤ n → 18446744073709551615 / 2 ^ (64 - n) = 2 ^ n - 1 := by decide +kernel
set_option maxRecDepth 3000 in
theorem first_any (n : Nat) (h1 : 1 ≤ n) (h2 : n ≤ 64) (w : World) :
    Calls Tryd.prog 26 #[.int .i64 (n : Int)] w fun e w' => e = .returned (.int .u64 ((2 ^ n - 1 : Nat) : Int)) ∧ w = w' := by
  have h1' : (1 : Int) ≤ (n : Int) := by omega
  have h2' : (n : Int) ≤ 64 := by omega
  go_enter Tryd.func26, Tryd.ntmps26
  go_wp2
  go_ret
  refine ⟨?_, rfl⟩
  show Ending.returned (.int .u64 ((18446744073709551615 : Int) / 2 ^ (64 - n))) = _
  rw [pow_cast, show (18446744073709551615 : Int) = ((18446744073709551615 : Nat) : Int) from rfl, ← Int.natCast_ediv, first_num n (by omega) h1]
end Go.Proofs.YtmefpafjcafgnaaDoor
