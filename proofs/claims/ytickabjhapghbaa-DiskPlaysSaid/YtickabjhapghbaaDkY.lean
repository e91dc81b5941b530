/- The disk's calls on its state; lives. -/
import Derived.Test.YtickabjhapghbaaDkF
import Derived.Test.YtickabjhapghbaaDkG
import Derived.Test.YtickabjhapghbaaDkV
import Derived.Test.YtickabjhapghbaaDkS
namespace Go.Proofs.Ytickabjhapghbaa
open Go.RowKit

/-- Crash -/
theorem crash_dk (d n m : Nat) (vk : Value) (F : Nat → Prop) (s : DS) (ks : List Int) (torn : Int) (w : World) (h : Dk w F d n s) (hk : Rd w 1 vk m (ks.map (Value.int .i64))) (hsep : ∀ k, vk.ownBlock = some k → 0 < m → ¬ F k) :
    Calls Try.prog 21 #[.pointer (some ⟨d, 0, none⟩), vk, .int .i64 torn] w fun e w' => e = .returned (.tuple #[]) ∧ Dk w' F d n (crashS s ks torn) ∧ Adv F w F w' := by
  have hok := crashS_ok h.1 ks torn
  obtain ⟨ho, gl, gr, vQ, hr⟩ := h
  by_cases h1 : torn ≤ 0
  · refine (crash_low d gl gr n m vQ vk F s ks torn w hr ho hk hsep h1).mono ?_
    rintro e w' ⟨rfl, h2, h3⟩
    exact ⟨rfl, ⟨hok, gl, gr, _, h2⟩, h3⟩
  · by_cases h4 : torn < 128
    · refine (crash_tears d gl gr n m vQ vk F s ks torn w hr ho hk hsep (by omega) h4).mono ?_
      rintro e w' ⟨rfl, h2, h3⟩
      exact ⟨rfl, ⟨hok, gl, gr, _, h2⟩, h3⟩
    · refine (crash_high d gl gr n m vQ vk F s ks torn w hr ho hk hsep (by omega)).mono ?_
      rintro e w' ⟨rfl, h2, h3⟩
      exact ⟨rfl, ⟨hok, gl, gr, _, h2⟩, h3⟩

/-- Read -/
theorem read_dk (d n : Nat) (F : Nat → Prop) (s : DS) (i : Nat) (w : World) (h : Dk w F d n s) (hi : i < n) :
    Calls Try.prog 16 #[.pointer (some ⟨d, 0, none⟩), .int .i64 (i : Int)] w fun e w' => ∃ z, e = .returned (.tuple #[.slice (some ⟨z, 0, none⟩) 128 128, .int .i64 0]) ∧ Blk w' z 92 ((isS s i).map u8).toArray ∧ (isS s i).length = 128 ∧ Adv Nul w (fun k => k = z) w' := by
  obtain ⟨ho, gl, gr, vQ, hr⟩ := h
  exact read_r d gl gr n vQ F _ s i w hr hi
theorem read_none (d n : Nat) (F : Nat → Prop) (s : DS) (i : Int) (w : World) (h : Dk w F d n s) (hi : ¬ (0 ≤ i ∧ i < (n : Int))) :
    Calls Try.prog 16 #[.pointer (some ⟨d, 0, none⟩), .int .i64 i] w fun e w' => e = .returned (.tuple #[.slice none 0 0, .int .i64 2]) ∧ w = w' := by
  obtain ⟨ho, gl, gr, vQ, hr⟩ := h
  exact read_bad d gl n i w hr.c0 hi
theorem size_dk (d n : Nat) (F : Nat → Prop) (s : DS) (w : World) (h : Dk w F d n s) :
    Calls Try.prog 23 #[.pointer (some ⟨d, 0, none⟩)] w fun e w' => e = .returned (.int .i64 (n : Int)) ∧ w = w' := by
  obtain ⟨ho, gl, gr, vQ, hr⟩ := h
  exact size_r d gl n w hr.c0
theorem live_dk (d n : Nat) (F : Nat → Prop) (s : DS) (w : World) (h : Dk w F d n s) :
    Calls Try.prog 24 #[.pointer (some ⟨d, 0, none⟩)] w fun e w' => e = .returned (.bool (!s.dead)) ∧ w = w' := by
  obtain ⟨ho, gl, gr, vQ, hr⟩ := h
  exact live_r d gl n s.dead w hr.c0 hr.c3
theorem waits_dk (d n : Nat) (F : Nat → Prop) (s : DS) (w : World) (h : Dk w F d n s) (hql : s.Q.length ≤ 1000000) :
    Calls Try.prog 48 #[.pointer (some ⟨d, 0, none⟩)] w fun e w' => ∃ z, e = .returned (.slice (some ⟨z, 0, none⟩) s.Q.length s.Q.length) ∧ Sl w' (fun j => j = z) 3 1 (.slice (some ⟨z, 0, none⟩) s.Q.length s.Q.length) s.Q.length (s.Q.map atOf) ∧ Adv Nul w (fun j => j = z) w' := by
  obtain ⟨ho, gl, gr, vQ, hr⟩ := h
  exact waits_r d gl gr n vQ F _ s w hr hql

/-- what is new lies behind what there was -/
theorem Adv.new_at {G : Nat → Prop} {w w' : World} (h : Adv Nul w G w') {k : Nat} (hk : G k) : w.heap.size ≤ k := by
  rcases h.into k hk with h1 | h1
  · exact h1.elim
  · exact h1
theorem Sl.new_sep {F G : Nat → Prop} {w w' : World} {e : TypeId} {size n : Nat} {v : Value} {xs : List Value} (h : Sl w' G e size v n xs) (ha : Adv Nul w G w') (hb : Bd F w) : ∀ k, v.ownBlock = some k → ¬ F k := fun k hk hF => by
  have h1 := ha.new_at (h.inF k hk)
  have h2 := hb k hF
  omega
/-- a sector that was read can be read -/
theorem Blk.rd8 {w : World} {z : Nat} {t : TypeId} {l : List Nat} (h : Blk w z t (l.map u8).toArray) (hl : l.length = 128) : Rd w 1 (.slice (some ⟨z, 0, none⟩) 128 128) 128 (l.map u8) :=
  ⟨_, 128, rfl, Nat.le_refl _, by decide, by simpa using hl, fun h => (by cases h), fun _ => ⟨_, rfl, h.lt, fun j u hu => by rw [add_none, h.cell, Nat.zero_add, List.getElem?_toArray]; exact hu⟩⟩

theorem writeS_plain {s : DS} (hf : s.fuse = none) {i : Nat} (hi : i < s.L.length) {b : List Nat} (hb : b.length = 128) : writeS s (i : Int) b = ({ s with Q := s.Q ++ [(i, b)] }, 0) := by
  have hs : stepS s = (s, true) := by unfold stepS; rw [hf]
  unfold writeS
  rw [if_neg (by omega), hs]
  simp
theorem flushS_plain {s : DS} (hf : s.fuse = none) : flushS s = ({ s with L := lays s.L s.Q, Q := [] }, 0) := by
  have hs : stepS s = (s, true) := by unfold stepS; rw [hf]
  unfold flushS
  rw [hs]
  simp

set_option maxRecDepth 3000 in
set_option maxHeartbeats 800000 in
theorem lives_any (w : World) : Calls Try.prog 26 #[] w fun e w' => e = .returned (.bool true) ∧ Below w.heap.size w w' := by
  obtain ⟨s0, hs0⟩ : ∃ s0, s0 = newS 2 := ⟨_, rfl⟩
  have hf0 : s0.fuse = none := by rw [hs0]; rfl
  have hl0 : s0.L.length = 2 := by rw [hs0]; rfl
  have hq0 : s0.Q = [] := by rw [hs0]; rfl
  obtain ⟨b, hb⟩ : ∃ b, b = sec [7] := ⟨_, rfl⟩
  have hbl : b.length = 128 := by rw [hb]; exact sec_length _
  have hb0 : b[0]? = some 7 := by rw [hb]; rfl
  have hw1 : writeS s0 1 b = ({ s0 with Q := [(1, b)] }, 0) := by
    have := writeS_plain hf0 (i := 1) (by rw [hl0]; decide) hbl
    rw [hq0] at this
    exact this
  obtain ⟨s1, hs1⟩ : ∃ s1, s1 = ({ s0 with Q := [(1, b)] } : DS) := ⟨_, rfl⟩
  have his : isS s1 1 = b := by
    rw [hs1]
    show ((s0.L.set 1 b).getD 1 []) = b
    rw [List.getD_eq_getElem?_getD, List.getElem?_set_self (by rw [hl0]; decide)]; rfl
  rw [← hs1] at hw1
  have hnew := fun w => new_r 2 (by decide) (by decide) w
  rw [← hs0] at hnew
  have HNEW := Lib.hid hnew
  have HB := Lib.hid hb
  have HW1 := Lib.hid hw1
  have HIS := Lib.hid his
  have HBL := Lib.hid hbl
  have HB0 := Lib.hid hb0
  have HQ0 := Lib.hid hq0
  clear hs0 hf0 hl0 hq0 hb hbl hb0 hw1 hs1 his hnew
  go_enter Try.func26, Try.ntmps26
  go_wp2_with (first
    | (go_at_call 7; refine (HNEW.out _).mono ?_; rintro e w1 ⟨d, F, rfl, h1, a1⟩; have H1 := Lib.hid h1; have A1 := Lib.hid a1; clear h1 a1)
    | (go_at_call 9; refine (sector_any _ [7] _ ⟨⟨_, 1, rfl, Nat.le_refl _, by decide, rfl, fun h => (by cases h), fun _ => ⟨_, rfl, by simp, cell_one_new _ _ _⟩⟩, fun k hk _ => by simp [Value.ownBlock] at hk; subst hk; simp, by simp⟩).mono ?_; rintro e w2 ⟨v2, F2, rfl, h2, a2⟩; rw [← HB.out] at h2; obtain ⟨g2, c2, rfl, _, _⟩ := h2.form (by decide); have H2 := Lib.hid h2; have A2 := Lib.hid a2; clear h2 a2)
    | (go_at_call 12; refine (write_dk _ 2 128 1 _ _ _ b _ (H1.out.far ((Adv.refl Nul w1).alloc _ |>.trans A2.out) (fun _ h _ => h)) H2.out.rd (H2.out.new_sep A2.out (((Adv.refl Nul w1).alloc _).bd H1.out.bd)) (by rw [HQ0.out]; decide)).mono ?_; rw [HW1.out]; rintro e w3 ⟨rfl, F3, h3, a3⟩; have H3 := Lib.hid h3; have A3 := Lib.hid a3; clear h3 a3)
    | (go_at_call 16; refine (read_dk _ 2 _ _ 1 _ H3.out (by decide)).mono ?_; rintro e w4 ⟨z, rfl, h4, _, a4⟩; rw [HIS.out] at h4; have hz0 := h4.cell 0; rw [List.getElem?_toArray, List.getElem?_map, HB0.out] at hz0; change w4.cell? ⟨z, 0, none⟩ = some (.int .u8 7) at hz0; have H4 := Lib.hid h4; have A4 := Lib.hid a4; clear h4 a4)
    | fail)
  go_ret
  exact ⟨rfl, ((((A1.out.alloc _).over A2.out).trans A3.out).over A4.out).toBelow⟩
end Go.Proofs.Ytickabjhapghbaa
