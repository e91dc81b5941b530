/- The little play that each statement asks for. -/
import Derived.Test.YtplibkdnfjofdaaGet
namespace Go.Proofs.Ytplibkdnfjofdaa
open Go.RowKit

theorem put_int (b N m : Nat) (x n : Int) (F : Nat → Prop) (w : World) (hw : WSt w F b N m) (hF : Bd F w) (hn0 : 0 ≤ n) (hn : n ≤ 64) (hx0 : 0 ≤ x) (hx : x.toNat < 2 ^ n.toNat) (hm : m + n.toNat ≤ 1000000000) :
    Calls Try.prog 27 #[.pointer (some ⟨b, 0, none⟩), .int .u64 x, .int .i64 n] w fun e w' => e = .returned (.pointer (some ⟨b, 0, none⟩)) ∧
      ∃ F', WSt w' F' b (N * 2 ^ n.toNat + x.toNat) (m + n.toNat) ∧ Adv F w F' w' ∧ Bd F' w' := by
  obtain ⟨k, rfl⟩ := Int.eq_ofNat_of_zero_le hn0
  obtain ⟨y, rfl⟩ := Int.eq_ofNat_of_zero_le hx0
  exact put_ok b N m y k F w hw hF (by omega) hx hm

theorem get_int (b q V a : Nat) (n : Int) (F : Nat → Prop) (w : World) (hw : RSt w F b q V a) (hF : Bd F w) (hn0 : 0 ≤ n) (hn : n ≤ 64) (hx : a + n.toNat ≤ 8 * q) :
    Calls Try.prog 9 #[.pointer (some ⟨b, 0, none⟩), .int .i64 n] w fun e w' => e = .returned (.int .u64 ((bitsAt q V a n.toNat : Nat) : Int)) ∧ RSt w' F b q V (a + n.toNat) ∧ Adv F w F w' ∧ Bd F w' := by
  obtain ⟨k, rfl⟩ := Int.eq_ofNat_of_zero_le hn0
  exact get_ok b q V a k F w hw hF (by omega) hx

set_option maxHeartbeats 400000 in
theorem lives_any (w : World) : Calls Try.prog 18 #[] w fun e w' => e = .returned (.bool true) ∧ Below w.heap.size w w' := by
  go_enter Try.func18, Try.ntmps18
  go_wp2_with fail
  refine (new_any _).mono ?_
  rintro e w1 ⟨b, F1, rfl, h1, a1, b1⟩
  go_wp2_with fail
  refine (put_int _ _ _ _ _ _ _ h1 b1 (by decide) (by decide) (by decide) (by decide) (by decide)).mono ?_
  rintro e w2 ⟨rfl, F2, h2, a2, b2⟩
  go_wp2_with fail
  refine (put_int _ _ _ _ _ _ _ h2 b2 (by decide) (by decide) (by decide) (by decide) (by decide)).mono ?_
  rintro e w3 ⟨rfl, F3, h3, a3, b3⟩
  go_wp2_with fail
  refine (done_ok _ _ _ _ _ h3 (by decide)).mono ?_
  rintro e w4 ⟨v, F4, rfl, h4, a4⟩
  have e1 : qn (0 + (3 : Int).toNat + (2 : Int).toNat) = 1 := by decide
  have e2 : rowOf ((0 * 2 ^ (3 : Int).toNat + (5 : Int).toNat) * 2 ^ (2 : Int).toNat + (1 : Int).toNat) (0 + (3 : Int).toNat + (2 : Int).toNat) = be 1 168 := by decide
  rw [e1, e2] at h4
  clear e1 e2
  obtain ⟨g, cap, rfl, hg, hc⟩ := h4.form (by decide)
  have c0 : w4.cell? ⟨g, 0, none⟩ = some (.int .u8 168) := by
    rw [h4.own.cellAt 0 (by decide)]; rfl
  go_wp2_with fail
  refine (open_any _ 1 168 _ h4.rd (by decide)).mono ?_
  rintro e w5 ⟨b5, F5, rfl, h5, a5, b5'⟩
  go_wp2_with fail
  refine (get_int _ _ _ _ _ _ _ h5 b5' (by decide) (by decide) (by decide)).mono ?_
  rintro e w6 ⟨rfl, h6, a6, b6⟩
  have e3 : ((bitsAt 1 168 0 (3 : Int).toNat : Nat) : Int) = 5 := by decide
  rw [e3]
  clear e3
  go_wp2
  go_ret
  refine ⟨rfl, ?_⟩
  have B1 := a1.below (Below.refl _ _) (fun k hk => hk.elim) (Nat.le_refl _)
  have hF1 := a1.from_ (B := w.heap.size) (fun k hk => hk.elim) (Nat.le_refl _)
  have B2 := a2.below B1 hF1 B1.size
  have hF2 := a2.from_ hF1 B1.size
  have B3 := a3.below B2 hF2 B2.size
  have B4 := a4.below B3 (fun k hk => hk.elim) B3.size
  have B5 := a5.below B4 (fun k hk => hk.elim) B4.size
  have hF5 := a5.from_ (B := w.heap.size) (fun k hk => hk.elim) B4.size
  exact a6.below B5 hF5 B5.size
end Go.Proofs.Ytplibkdnfjofdaa
