/- The writer's Text. -/
import Derived.Test.YtbjenpkgcdppaaaPut
namespace Go.Proofs.Ytbjenpkgcdppaaa
open Go.RowKit

theorem lay_int (b N m : Nat) (x n : Int) (F : Nat → Prop) (w : World) (hw : WSt w F b N m) (hF : Bd F w) (hn0 : 0 ≤ n) (hn : n ≤ 64) (hx0 : 0 ≤ x) (hx : x.toNat < 2 ^ n.toNat) (hm : m + n.toNat ≤ 1000000000) :
    Calls Try.prog 38 #[.pointer (some ⟨b, 0, none⟩), .int .u64 x, .int .i64 n] w fun e w' => e = .returned (.tuple #[]) ∧
      ∃ F', WSt w' F' b (N * 2 ^ n.toNat + x.toNat) (m + n.toNat) ∧ Adv F w F' w' ∧ Bd F' w' := by
  obtain ⟨k, rfl⟩ := Int.eq_ofNat_of_zero_le hn0
  obtain ⟨y, rfl⟩ := Int.eq_ofNat_of_zero_le hx0
  exact lay_any b N m y k F w hw hF (by omega) hx hm

/-- the bits of a text's bytes behind those of N -/
def tx (N : Nat) (l : List UInt8) : Nat := l.foldl (fun a c => a * 256 + c.toNat) N
theorem tx_snoc (N : Nat) (l : List UInt8) (c : UInt8) : tx N (l ++ [c]) = tx N l * 256 + c.toNat := by simp [tx]
theorem take_snoc (s : ByteArray) (k : Nat) (h : k < s.size) : s.data.toList.take (k + 1) = s.data.toList.take k ++ [s[k]] := by
  rw [List.take_succ_eq_append_getElem (by simpa using h)]; rfl

def TextRel (w : World) (F : Nat → Prop) (b N m : Nat) (s : ByteArray) (t : Value) (wr : World) : Prop :=
  ∃ k F', t = .int .i64 ((k : Nat) : Int) ∧ k ≤ s.size ∧ WSt wr F' b (tx (N * 65536 + s.size) (s.data.toList.take k)) (m + 16 + 8 * k) ∧ Adv F w F' wr ∧ Bd F' wr

set_option maxRecDepth 3000 in
set_option maxHeartbeats 400000 in
theorem text_ok (b N m : Nat) (s : ByteArray) (F : Nat → Prop) (w : World) (hw : WSt w F b N m) (hF : Bd F w) (hs : s.size ≤ 65535) (hm : m + 16 + 8 * s.size ≤ 1000000000) :
    Calls Try.prog 23 #[.pointer (some ⟨b, 0, none⟩), .string s] w fun e w' => e = .returned (.pointer (some ⟨b, 0, none⟩)) ∧
      ∃ F', WSt w' F' b (tx (N * 65536 + s.size) s.data.toList) (m + 16 + 8 * s.size) ∧ Adv F w F' w' ∧ Bd F' w' := by
  obtain ⟨v, hB, hS⟩ := hw.ex
  have c0 : w.cell? ⟨b, 0, none⟩ = some (.bool true) := hB.cell 0
  have c1 : w.cell? ⟨b, 1, none⟩ = some (.int .i64 0) := hB.cell 1
  have HW := Lib.hid hw
  clear hB hS hw
  go_enter Try.func23, Try.ntmps23
  go_wp2_with (first
    | (go_at_call 38; refine (lay_int b N m _ _ F _ HW.out hF (by omega) (by omega) (by omega) (by simp; omega) (by simp; omega)).mono ?_; rintro e w1 ⟨rfl, F1, hw1, ha1, hb1⟩))
  have h0 : WSt w1 F1 b (tx (N * 65536 + s.size) (s.data.toList.take 0)) (m + 16 + 8 * 0) := by simpa [tx] using hw1
  clear hw1
  have H0 := Lib.hid h0
  clear h0
  go_loopw [33] (TextRel w F b N m s) (fun t _ => s.size - (intOf t).toNat)
  case atStart => exact ⟨0, F1, rfl, by omega, H0.out, ha1, hb1⟩
  case round =>
    obtain ⟨k, F', rfl, hk, hwk, ha, hb⟩ := hrel
    have HK := Lib.hid hwk
    clear hwk
    by_cases hlt : k < s.size
    · have hu : s[k].toNat < 256 := s[k].toNat_lt
      go_wp2_with (first
        | (go_at_call 38; refine (lay_int b _ _ _ _ F' _ HK.out hb (by omega) (by omega) (by omega) (by simp; omega) (by simp; omega)).mono ?_; rintro e w2 ⟨rfl, F2, hw2, ha2, hb2⟩))
      have H2 := Lib.hid hw2
      clear hw2
      refine ⟨⟨k + 1, F2, by simp, by omega, ?_, ha.trans ha2, hb2⟩, by simp [intOf]; omega⟩
      rw [take_snoc s k hlt, tx_snoc]
      exact H2.out
    · obtain rfl : k = s.size := by omega
      go_wp2
      go_ret
      refine ⟨rfl, F', ?_, ha, hb⟩
      have h := HK.out
      rwa [List.take_of_length_le (by simp)] at h

set_option maxRecDepth 3000 in
theorem text_bad (b N m : Nat) (s : ByteArray) (F : Nat → Prop) (w : World) (hw : WSt w F b N m) (hF : Bd F w) (hs : 65535 < s.size) :
    Calls Try.prog 23 #[.pointer (some ⟨b, 0, none⟩), .string s] w fun e w' => e = .returned (.pointer (some ⟨b, 0, none⟩)) ∧ WErr w' F b ∧ Adv F w F w' := by
  obtain ⟨v, hB, hS⟩ := hw.ex
  have c0 : w.cell? ⟨b, 0, none⟩ = some (.bool true) := hB.cell 0
  have c1 : w.cell? ⟨b, 1, none⟩ = some (.int .i64 0) := hB.cell 1
  have hFb := hw.inF
  have HB := Lib.hid hB
  clear hB hS hw
  go_enter Try.func23, Try.ntmps23
  go_wp2_with (first
    | (go_at_call 37; refine (fail_any b F _ _ _ HB.out hFb hF).mono ?_; rintro e w1 ⟨rfl, hpost⟩))
  go_ret
  exact ⟨rfl, hpost⟩

set_option maxRecDepth 3000 in
theorem text_err (b : Nat) (s : ByteArray) (F : Nat → Prop) (w : World) (hw : WErr w F b) :
    Calls Try.prog 23 #[.pointer (some ⟨b, 0, none⟩), .string s] w fun e w' => e = .returned (.pointer (some ⟨b, 0, none⟩)) ∧ w = w' := by
  obtain ⟨v, r, hB⟩ := hw.ex
  have c0 : w.cell? ⟨b, 0, none⟩ = some (.bool true) := hB.cell 0
  have c1 : w.cell? ⟨b, 1, none⟩ = some (.int .i64 2) := hB.cell 1
  clear hB hw
  go_enter Try.func23, Try.ntmps23
  go_wp2
  go_ret
  exact ⟨rfl, rfl⟩

set_option maxRecDepth 3000 in
theorem text_none (s : ByteArray) (w : World) :
    Calls Try.prog 23 #[.pointer none, .string s] w fun e w' => e = .returned (.pointer none) ∧ w = w' := by
  go_enter Try.func23, Try.ntmps23
  go_wp2
  go_ret
  exact ⟨rfl, rfl⟩
end Go.Proofs.Ytbjenpkgcdppaaa
