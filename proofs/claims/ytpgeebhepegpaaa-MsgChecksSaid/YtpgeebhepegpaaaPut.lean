/- The writer's calls. -/
import Derived.Test.YtpgeebhepegpaaaLayW
import Derived.Deep.QuietTactic
import Derived.BigQuiet
namespace Go.Proofs.Ytpgeebhepegpaaa
open Go.RowKit

set_option maxRecDepth 3000 in
theorem isWidth_yes (n : Nat) (w : World) (h : n ≤ 64) : Calls Try.prog 85 #[.int .i64 n] w fun e w' => e = .returned (.bool true) ∧ w = w' := by
  have h0 : (0 : Int) ≤ n := by omega
  have h1 : (n : Int) ≤ 64 := by omega
  go_enter Try.func85, Try.ntmps85
  go_wp2
  go_ret
  exact ⟨rfl, rfl⟩

set_option maxRecDepth 3000 in
theorem isWidth_no (n : Int) (w : World) (h : n < 0 ∨ 64 < n) : Calls Try.prog 85 #[.int .i64 n] w fun e w' => e = .returned (.bool false) ∧ w = w' := by
  rcases h with h | h
  · have h0 : decide ((0 : Int) ≤ n) = false := by simp; omega
    go_enter Try.func85, Try.ntmps85
    go_wp2
    go_ret
    exact ⟨rfl, rfl⟩
  · have h0 : (0 : Int) ≤ n := by omega
    have h1 : decide (n ≤ (64 : Int)) = false := by simp; omega
    go_enter Try.func85, Try.ntmps85
    go_wp2
    go_ret
    exact ⟨rfl, rfl⟩

/-- The writer at block b has an error. -/
structure WErr (w : World) (F : Nat → Prop) (b : Nat) : Prop where
  ex : ∃ v r, Blk w b 96 #[.bool true, .int .i64 2, v, r]
  inF : F b
  bd : Bd F w

set_option maxRecDepth 3000 in
theorem fail_any (b : Nat) (F : Nat → Prop) (v r : Value) (w : World) (hB : Blk w b 96 #[.bool true, .int .i64 0, v, r]) (hF : F b) (hb : Bd F w) :
    Calls Try.prog 86 #[.pointer (some ⟨b, 0, none⟩)] w fun e w' => e = .returned (.pointer (some ⟨b, 0, none⟩)) ∧ WErr w' F b ∧ Adv F w F w' := by
  have c1 : w.cell? ⟨b, 1, none⟩ = some (.int .i64 0) := hB.cell 1
  have c2 : w.cell? ⟨b, 2, none⟩ = some v := hB.cell 2
  have c3 : w.cell? ⟨b, 3, none⟩ = some r := hB.cell 3
  have f1 := hB.frozen 1
  have f2 := hB.frozen 2
  have f3 := hB.frozen 3
  have H := Lib.hid hB
  clear hB
  go_enter Try.func86, Try.ntmps86
  go_wp2
  go_ret
  refine ⟨rfl, ⟨⟨_, _, (((H.out.set_ 1 _).set_ 2 _).set_ 3 _)⟩, hF, fun j hj => by have := hb j hj; simpa [World.setCell] using this⟩, ?_⟩
  exact (((Adv.refl F w).setCell (p := ⟨b, 1, none⟩) (.inl hF) _).setCell (p := ⟨b, 2, none⟩) (.inl hF) _).setCell (p := ⟨b, 3, none⟩) (.inl hF) _

theorem shr_no {x n : Nat} (h : x < 2 ^ n) : ((x : Int) / 2 ^ n != 0) = false := by
  have e : (x : Int) / 2 ^ n = ((x / 2 ^ n : Nat) : Int) := by rw [Int.natCast_ediv, Int.natCast_pow]; rfl
  rw [e, Nat.div_eq_of_lt h]; rfl
theorem shr_yes {x n : Nat} (h : 2 ^ n ≤ x) : ((x : Int) / 2 ^ n != 0) = true := by
  have e : (x : Int) / 2 ^ n = ((x / 2 ^ n : Nat) : Int) := by rw [Int.natCast_ediv, Int.natCast_pow]; rfl
  have : 0 < x / 2 ^ n := Nat.div_pos h (Nat.two_pow_pos n)
  rw [e, bne_iff_ne]; omega

set_option maxRecDepth 3000 in
set_option maxHeartbeats 400000 in
theorem put_ok (b N m x n : Nat) (F : Nat → Prop) (w : World) (hw : WSt w F b N m) (hF : Bd F w) (hn : n ≤ 64) (hx : x < 2 ^ n) (hm : m + n ≤ 1000000000) :
    Calls Try.prog 68 #[.pointer (some ⟨b, 0, none⟩), .int .u64 x, .int .i64 n] w fun e w' => e = .returned (.pointer (some ⟨b, 0, none⟩)) ∧
      ∃ F', WSt w' F' b (N * 2 ^ n + x) (m + n) ∧ Adv F w F' w' ∧ Bd F' w' := by
  obtain ⟨v, hB, hS⟩ := hw.ex
  have c0 : w.cell? ⟨b, 0, none⟩ = some (.bool true) := hB.cell 0
  have c1 : w.cell? ⟨b, 1, none⟩ = some (.int .i64 0) := hB.cell 1
  have hd := shr_no hx
  have HW := Lib.hid hw
  have HX := Lib.hid hx
  have hx64 := pow_lt64 hx hn
  clear hB hS hw hx
  go_enter Try.func68, Try.ntmps68
  go_wp2_with (first
    | (go_at_call 85; refine (isWidth_yes n _ hn).mono ?_; rintro e w' ⟨rfl, rfl⟩)
    | (go_at_call 87; refine (lay_any b N m x n F _ HW.out hF hn HX.out hm).mono ?_; rintro e w1 ⟨rfl, hpost⟩))
  go_ret
  exact ⟨rfl, hpost⟩

set_option maxRecDepth 3000 in
/-- A number that does not fit. -/
theorem put_bad (b N m x : Nat) (n : Int) (F : Nat → Prop) (w : World) (hw : WSt w F b N m) (hF : Bd F w) (_hx : x < 18446744073709551616) (hbad : n < 0 ∨ 64 < n ∨ ∃ k : Nat, n = k ∧ k ≤ 64 ∧ 2 ^ k ≤ x) :
    Calls Try.prog 68 #[.pointer (some ⟨b, 0, none⟩), .int .u64 x, .int .i64 n] w fun e w' => e = .returned (.pointer (some ⟨b, 0, none⟩)) ∧ WErr w' F b ∧ Adv F w F w' := by
  obtain ⟨v, hB, hS⟩ := hw.ex
  have c0 : w.cell? ⟨b, 0, none⟩ = some (.bool true) := hB.cell 0
  have c1 : w.cell? ⟨b, 1, none⟩ = some (.int .i64 0) := hB.cell 1
  have hFb := hw.inF
  have HB := Lib.hid hB
  clear hB hS hw
  by_cases hn : n < 0 ∨ 64 < n
  · clear hbad
    go_enter Try.func68, Try.ntmps68
    go_wp2_with (first
      | (go_at_call 85; refine (isWidth_no n _ hn).mono ?_; rintro e w' ⟨rfl, rfl⟩)
      | (go_at_call 86; refine (fail_any b F _ _ _ HB.out hFb hF).mono ?_; rintro e w1 ⟨rfl, hpost⟩))
    go_ret
    exact ⟨rfl, hpost⟩
  · obtain ⟨k, rfl, hk, hkx⟩ : ∃ k : Nat, n = k ∧ k ≤ 64 ∧ 2 ^ k ≤ x := by
      rcases hbad with h | h | h
      · exact absurd (.inl h) hn
      · exact absurd (.inr h) hn
      · exact h
    have hd := shr_yes hkx
    clear hbad hn hkx
    go_enter Try.func68, Try.ntmps68
    go_wp2_with (first
      | (go_at_call 85; refine (isWidth_yes k _ hk).mono ?_; rintro e w' ⟨rfl, rfl⟩)
      | (go_at_call 86; refine (fail_any b F _ _ _ HB.out hFb hF).mono ?_; rintro e w1 ⟨rfl, hpost⟩))
    go_ret
    exact ⟨rfl, hpost⟩

set_option maxRecDepth 3000 in
/-- A writer that has an error already. -/
theorem put_err (b : Nat) (x n : Int) (F : Nat → Prop) (w : World) (hw : WErr w F b) :
    Calls Try.prog 68 #[.pointer (some ⟨b, 0, none⟩), .int .u64 x, .int .i64 n] w fun e w' => e = .returned (.pointer (some ⟨b, 0, none⟩)) ∧ w = w' := by
  obtain ⟨v, r, hB⟩ := hw.ex
  have c0 : w.cell? ⟨b, 0, none⟩ = some (.bool true) := hB.cell 0
  have c1 : w.cell? ⟨b, 1, none⟩ = some (.int .i64 2) := hB.cell 1
  clear hB hw
  go_enter Try.func68, Try.ntmps68
  go_wp2
  go_ret
  exact ⟨rfl, rfl⟩

set_option maxRecDepth 3000 in
theorem put_none (x n : Int) (w : World) :
    Calls Try.prog 68 #[.pointer none, .int .u64 x, .int .i64 n] w fun e w' => e = .returned (.pointer none) ∧ w = w' := by
  go_enter Try.func68, Try.ntmps68
  go_wp2
  go_ret
  exact ⟨rfl, rfl⟩

set_option maxRecDepth 3000 in
theorem put_zero (b : Nat) (x n : Int) (w : World) (c0 : w.cell? ⟨b, 0, none⟩ = some (.bool false)) :
    Calls Try.prog 68 #[.pointer (some ⟨b, 0, none⟩), .int .u64 x, .int .i64 n] w fun e w' => e = .returned (.pointer none) ∧ w = w' := by
  go_enter Try.func68, Try.ntmps68
  go_wp2
  go_ret
  exact ⟨rfl, rfl⟩

set_option maxRecDepth 3000 in
theorem new_any (w : World) : Calls Try.prog 38 #[] w fun e w' => ∃ b F, e = .returned (.pointer (some ⟨b, 0, none⟩)) ∧ WSt w' F b 0 0 ∧ Adv Nul w F w' ∧ Bd F w' := by
  go_enter Try.func38, Try.ntmps38
  go_wp2
  go_ret
  refine ⟨w.heap.size, (· = w.heap.size), rfl, ⟨⟨.slice none 0 0, Blk.new _ _ _, ?_⟩, rfl, by decide⟩, ?_, ?_⟩
  · refine Sl.nilF _ _ (fun k hk => ?_) _ _
    simp [hk]
  · exact Adv.new_ ((Below.refl _ _).alloc (Nat.le_refl _) _) (fun k hk => by simp [hk])
  · intro k hk
    simp [hk]
end Go.Proofs.Ytpgeebhepegpaaa
