/- The disk's calls on its state; lives. -/
import Derived.Test.YtochmeibmjfnnaaDkF
import Derived.Test.YtochmeibmjfnnaaDkG
import Derived.Test.YtochmeibmjfnnaaDkV
import Derived.Test.YtochmeibmjfnnaaDkS
namespace Go.Proofs.Ytochmeibmjfnnaa
open Go.RowKit

/-- Crash -/
theorem crash_dk (d n m : Nat) (vk : Value) (F : Nat → Prop) (s : DS) (ks : List Int) (torn : Int) (w : World) (h : Dk w F d n s) (hk : Rd w 1 vk m (ks.map (Value.int .i64))) (hsep : ∀ k, vk.ownBlock = some k → 0 < m → ¬ F k) :
    Calls Try.prog 16 #[.pointer (some ⟨d, 0, none⟩), vk, .int .i64 torn] w fun e w' => e = .returned (.tuple #[]) ∧ Dk w' F d n (crashS s ks torn) ∧ Adv F w F w' := by
  have hok := crashS_ok h.1 ks torn
  obtain ⟨ho, gl, gr, vQ, hr⟩ := h
  by_cases h1 : torn ≤ 0
  · refine (crash_low d gl gr n m vQ vk F s ks torn w hr ho hk hsep h1).mono ?_
    rintro e w' ⟨rfl, h2, h3⟩
    exact ⟨rfl, ⟨hok, gl, gr, _, h2⟩, h3⟩
  · by_cases h4 : torn < 128
    · refine (crash_tears d gl gr n m vQ vk F s ks torn w hr ho hk hsep (by omega) h4).mono ?_
      rintro e w' ⟨rfl, h2, h3⟩
      exact ⟨rfl, ⟨hok, gl, gr, _, h2⟩, h3⟩
    · refine (crash_high d gl gr n m vQ vk F s ks torn w hr ho hk hsep (by omega)).mono ?_
      rintro e w' ⟨rfl, h2, h3⟩
      exact ⟨rfl, ⟨hok, gl, gr, _, h2⟩, h3⟩

/-- Read -/
theorem read_dk (d n : Nat) (F : Nat → Prop) (s : DS) (i : Nat) (w : World) (h : Dk w F d n s) (hi : i < n) :
    Calls Try.prog 36 #[.pointer (some ⟨d, 0, none⟩), .int .i64 (i : Int)] w fun e w' => ∃ z, e = .returned (.tuple #[.slice (some ⟨z, 0, none⟩) 128 128, .int .i64 0]) ∧ Blk w' z 71 ((isS s i).map u8).toArray ∧ (isS s i).length = 128 ∧ Adv Nul w (fun k => k = z) w' := by
  obtain ⟨ho, gl, gr, vQ, hr⟩ := h
  exact read_r d gl gr n vQ F _ s i w hr hi
theorem read_none (d n : Nat) (F : Nat → Prop) (s : DS) (i : Int) (w : World) (h : Dk w F d n s) (hi : ¬ (0 ≤ i ∧ i < (n : Int))) :
    Calls Try.prog 36 #[.pointer (some ⟨d, 0, none⟩), .int .i64 i] w fun e w' => e = .returned (.tuple #[.slice none 0 0, .int .i64 2]) ∧ w = w' := by
  obtain ⟨ho, gl, gr, vQ, hr⟩ := h
  exact read_bad d gl n i w hr.c0 hi
theorem size_dk (d n : Nat) (F : Nat → Prop) (s : DS) (w : World) (h : Dk w F d n s) :
    Calls Try.prog 22 #[.pointer (some ⟨d, 0, none⟩)] w fun e w' => e = .returned (.int .i64 (n : Int)) ∧ w = w' := by
  obtain ⟨ho, gl, gr, vQ, hr⟩ := h
  exact size_r d gl n w hr.c0
theorem live_dk (d n : Nat) (F : Nat → Prop) (s : DS) (w : World) (h : Dk w F d n s) :
    Calls Try.prog 21 #[.pointer (some ⟨d, 0, none⟩)] w fun e w' => e = .returned (.bool (!s.dead)) ∧ w = w' := by
  obtain ⟨ho, gl, gr, vQ, hr⟩ := h
  exact live_r d gl n s.dead w hr.c0 hr.c3
/-- what is new lies behind what there was -/
theorem Adv.new_at {G : Nat → Prop} {w w' : World} (h : Adv Nul w G w') {k : Nat} (hk : G k) : w.heap.size ≤ k := by
  rcases h.into k hk with h1 | h1
  · exact h1.elim
  · exact h1
theorem Sl.new_sep {F G : Nat → Prop} {w w' : World} {e : TypeId} {size n : Nat} {v : Value} {xs : List Value} (h : Sl w' G e size v n xs) (ha : Adv Nul w G w') (hb : Bd F w) : ∀ k, v.ownBlock = some k → ¬ F k := fun k hk hF => by
  have h1 := ha.new_at (h.inF k hk)
  have h2 := hb k hF
  omega
/-- a sector that was read can be read -/
theorem Blk.rd8 {w : World} {z : Nat} {t : TypeId} {l : List Nat} (h : Blk w z t (l.map u8).toArray) (hl : l.length = 128) : Rd w 1 (.slice (some ⟨z, 0, none⟩) 128 128) 128 (l.map u8) :=
  ⟨_, 128, rfl, Nat.le_refl _, by decide, by simpa using hl, fun h => (by cases h), fun _ => ⟨_, rfl, h.lt, fun j u hu => by rw [add_none, h.cell, Nat.zero_add, List.getElem?_toArray]; exact hu⟩⟩

theorem writeS_plain {s : DS} (hf : s.fuse = none) {i : Nat} (hi : i < s.L.length) {b : List Nat} (hb : b.length = 128) : writeS s (i : Int) b = ({ s with Q := s.Q ++ [(i, b)] }, 0) := by
  have hs : stepS s = (s, true) := by unfold stepS; rw [hf]
  unfold writeS
  rw [if_neg (by omega), hs]
  simp
theorem flushS_plain {s : DS} (hf : s.fuse = none) : flushS s = ({ s with L := lays s.L s.Q, Q := [] }, 0) := by
  have hs : stepS s = (s, true) := by unfold stepS; rw [hf]
  unfold flushS
  rw [hs]
  simp
end Go.Proofs.Ytochmeibmjfnnaa
