/- The little play that each statement asks for. -/
import Derived.Test.YtpgeebhepegpaaaGet
namespace Go.Proofs.Ytpgeebhepegpaaa
open Go.RowKit

theorem put_int (b N m : Nat) (x n : Int) (F : Nat → Prop) (w : World) (hw : WSt w F b N m) (hF : Bd F w) (hn0 : 0 ≤ n) (hn : n ≤ 64) (hx0 : 0 ≤ x) (hx : x.toNat < 2 ^ n.toNat) (hm : m + n.toNat ≤ 1000000000) :
    Calls Try.prog 68 #[.pointer (some ⟨b, 0, none⟩), .int .u64 x, .int .i64 n] w fun e w' => e = .returned (.pointer (some ⟨b, 0, none⟩)) ∧
      ∃ F', WSt w' F' b (N * 2 ^ n.toNat + x.toNat) (m + n.toNat) ∧ Adv F w F' w' ∧ Bd F' w' := by
  obtain ⟨k, rfl⟩ := Int.eq_ofNat_of_zero_le hn0
  obtain ⟨y, rfl⟩ := Int.eq_ofNat_of_zero_le hx0
  exact put_ok b N m y k F w hw hF (by omega) hx hm

theorem get_int (b q V a : Nat) (n : Int) (F : Nat → Prop) (w : World) (hw : RSt w F b q V a) (hF : Bd F w) (hn0 : 0 ≤ n) (hn : n ≤ 64) (hx : a + n.toNat ≤ 8 * q) :
    Calls Try.prog 74 #[.pointer (some ⟨b, 0, none⟩), .int .i64 n] w fun e w' => e = .returned (.int .u64 ((bitsAt q V a n.toNat : Nat) : Int)) ∧ RSt w' F b q V (a + n.toNat) ∧ Adv F w F w' ∧ Bd F w' := by
  obtain ⟨k, rfl⟩ := Int.eq_ofNat_of_zero_le hn0
  exact get_ok b q V a k F w hw hF (by omega) hx
end Go.Proofs.Ytpgeebhepegpaaa
