/- The reader's calls. -/
import Derived.Test.YtpgeebhepegpaaaRead
namespace Go.Proofs.Ytpgeebhepegpaaa
open Go.RowKit

set_option maxRecDepth 3000 in
theorem rerr_ok (b q V a : Nat) (F : Nat → Prop) (w : World) (hw : RSt w F b q V a) :
    Calls Try.prog 78 #[.pointer (some ⟨b, 0, none⟩)] w fun e w' => e = .returned (.int .i64 0) ∧ w = w' := by
  obtain ⟨v, hB, _⟩ := hw.ex
  have c0 : w.cell? ⟨b, 0, none⟩ = some (.bool true) := hB.cell 0
  have c1 : w.cell? ⟨b, 1, none⟩ = some (.int .i64 0) := hB.cell 1
  clear hB hw
  go_enter Try.func78, Try.ntmps78
  go_wp2
  go_ret
  exact ⟨rfl, rfl⟩

set_option maxRecDepth 3000 in
theorem rerr_err (b : Nat) (x : Int) (F : Nat → Prop) (w : World) (hw : RErr w F b x) :
    Calls Try.prog 78 #[.pointer (some ⟨b, 0, none⟩)] w fun e w' => e = .returned (.int .i64 x) ∧ w = w' := by
  obtain ⟨v, r, hB⟩ := hw.ex
  have c0 : w.cell? ⟨b, 0, none⟩ = some (.bool true) := hB.cell 0
  have c1 : w.cell? ⟨b, 1, none⟩ = some (.int .i64 x) := hB.cell 1
  clear hB hw
  go_enter Try.func78, Try.ntmps78
  go_wp2
  go_ret
  exact ⟨rfl, rfl⟩

/-- A reader that no call made: nil, or a zero one. -/
def RNo (w : World) (v : Value) : Prop := v = .pointer none ∨ ∃ b, v = .pointer (some ⟨b, 0, none⟩) ∧ w.cell? ⟨b, 0, none⟩ = some (.bool false)

set_option maxRecDepth 3000 in
theorem rerr_no (v : Value) (w : World) (hw : RNo w v) :
    Calls Try.prog 78 #[v] w fun e w' => e = .returned (.int .i64 1) ∧ w = w' := by
  rcases hw with rfl | ⟨b, rfl, c0⟩
  · go_enter Try.func78, Try.ntmps78
    go_wp2
    go_ret
    exact ⟨rfl, rfl⟩
  · go_enter Try.func78, Try.ntmps78
    go_wp2
    go_ret
    exact ⟨rfl, rfl⟩

set_option maxRecDepth 3000 in
theorem left_ok (b q V a : Nat) (F : Nat → Prop) (w : World) (hw : RSt w F b q V a) :
    Calls Try.prog 79 #[.pointer (some ⟨b, 0, none⟩)] w fun e w' => e = .returned (.int .i64 ((8 * q - a : Nat) : Int)) ∧ ∃ n, w' = w.drewN n := by
  obtain ⟨v, hB, hS⟩ := hw.ex
  obtain ⟨a0, cap, rfl, _, _⟩ := hS.form0
  have c2 : w.cell? ⟨b, 2, none⟩ = some (.slice a0 q cap) := hB.cell 2
  have c3 : w.cell? ⟨b, 3, none⟩ = some (.int .i64 a) := hB.cell 3
  have hle := hw.le
  have hsm := hw.sm
  have H := Lib.hid hw
  clear hB hw hS
  go_enter Try.func79, Try.ntmps79
  go_wp2_with (first
    | (go_at_call 78; refine (rerr_ok _ _ _ _ _ _ H.out).mono ?_; rintro e w1 ⟨rfl, rfl⟩))
  go_quiet (fail)
  go_wp2
  go_ret
  refine ⟨?_, _, rfl⟩
  rw [show ((8 * q - a : Nat) : Int) = (q : Int) * 8 - a from by omega]
  rfl

set_option maxRecDepth 3000 in
theorem left_err (b : Nat) (x : Int) (F : Nat → Prop) (w : World) (hw : RErr w F b x) :
    Calls Try.prog 79 #[.pointer (some ⟨b, 0, none⟩)] w fun e w' => e = .returned (.int .i64 0) ∧ w = w' := by
  have hx := hw.ne
  have H := Lib.hid hw
  clear hw
  go_enter Try.func79, Try.ntmps79
  go_wp2_with (first
    | (go_at_call 78; refine (rerr_err _ _ _ _ H.out).mono ?_; rintro e w1 ⟨rfl, rfl⟩))
  go_ret
  exact ⟨rfl, rfl⟩

set_option maxRecDepth 3000 in
theorem left_no (v : Value) (w : World) (hw : RNo w v) :
    Calls Try.prog 79 #[v] w fun e w' => e = .returned (.int .i64 0) ∧ w = w' := by
  have H := Lib.hid hw
  clear hw
  go_enter Try.func79, Try.ntmps79
  go_wp2_with (first
    | (go_at_call 78; refine (rerr_no _ _ H.out).mono ?_; rintro e w1 ⟨rfl, rfl⟩))
  go_ret
  exact ⟨rfl, rfl⟩

set_option maxRecDepth 3000 in
theorem rfail_any (b q V a : Nat) (x : Int) (hx : (x != 0) = true) (F : Nat → Prop) (w : World) (hw : RSt w F b q V a) (hb : Bd F w) :
    Calls Try.prog 88 #[.pointer (some ⟨b, 0, none⟩), .int .i64 x] w fun e w' => e = .returned (.tuple #[]) ∧ RErr w' F b x ∧ Adv F w F w' := by
  obtain ⟨v, hB, hS⟩ := hw.ex
  have hF := hw.inF
  have c1 : w.cell? ⟨b, 1, none⟩ = some (.int .i64 0) := hB.cell 1
  have c2 : w.cell? ⟨b, 2, none⟩ = some v := hB.cell 2
  have c3 : w.cell? ⟨b, 3, none⟩ = some (.int .i64 a) := hB.cell 3
  have f1 := hB.frozen 1
  have f2 := hB.frozen 2
  have f3 := hB.frozen 3
  have H := Lib.hid hB
  clear hB hS hw
  go_enter Try.func88, Try.ntmps88
  go_wp2
  go_end0
  refine ⟨rfl, ⟨⟨_, _, (((H.out.set_ 1 _).set_ 2 _).set_ 3 _)⟩, hx, hF, fun j hj => by have := hb j hj; simpa [World.setCell] using this⟩, ?_⟩
  exact (((Adv.refl F w).setCell (p := ⟨b, 1, none⟩) (.inl hF) _).setCell (p := ⟨b, 2, none⟩) (.inl hF) _).setCell (p := ⟨b, 3, none⟩) (.inl hF) _

theorem RSt.drewN {w : World} {F : Nat → Prop} {b q V a : Nat} (h : RSt w F b q V a) (n : Nat) : RSt (w.drewN n) F b q V a :=
  ⟨let ⟨r, h1, h2⟩ := h.ex; ⟨r, h1, ⟨h2.own, h2.inF, h2.bd⟩⟩, h.inF, h.le, h.sm⟩

set_option maxRecDepth 3000 in
set_option maxHeartbeats 400000 in
theorem get_ok (b q V a n : Nat) (F : Nat → Prop) (w : World) (hw : RSt w F b q V a) (hF : Bd F w) (hn : n ≤ 64) (hx : a + n ≤ 8 * q) :
    Calls Try.prog 74 #[.pointer (some ⟨b, 0, none⟩), .int .i64 n] w fun e w' => e = .returned (.int .u64 ((bitsAt q V a n : Nat) : Int)) ∧ RSt w' F b q V (a + n) ∧ Adv F w F w' ∧ Bd F w' := by
  have hn2 : (n : Int) ≤ ((8 * q - a : Nat) : Int) := by omega
  have H := Lib.hid hw
  clear hw
  go_enter Try.func74, Try.ntmps74
  go_wp2_with (first
    | (go_at_call 78; refine (rerr_ok _ _ _ _ _ _ H.out).mono ?_; rintro e w1 ⟨rfl, rfl⟩)
    | (go_at_call 85; refine (isWidth_yes n _ hn).mono ?_; rintro e w1 ⟨rfl, rfl⟩)
    | (go_at_call 79; refine (left_ok _ _ _ _ _ _ H.out).mono ?_; rintro e w1 ⟨rfl, nd, rfl⟩)
    | (go_at_call 80; refine (take_any _ _ _ _ n _ _ (H.out.drewN nd) hF hn hx).mono ?_; rintro e w2 ⟨rfl, h1, h2, h3⟩))
  go_ret
  exact ⟨rfl, h1, (Adv.of_drewN h2).same (fun k hk => by rw [hk]; exact H.out.inF), h3⟩

set_option maxRecDepth 3000 in
theorem get_width (b q V a : Nat) (n : Int) (F : Nat → Prop) (w : World) (hw : RSt w F b q V a) (hF : Bd F w) (hn : n < 0 ∨ 64 < n) :
    Calls Try.prog 74 #[.pointer (some ⟨b, 0, none⟩), .int .i64 n] w fun e w' => e = .returned (.int .u64 0) ∧ RErr w' F b 2 ∧ Adv F w F w' := by
  have H := Lib.hid hw
  have HN := Lib.hid hn
  clear hw hn
  go_enter Try.func74, Try.ntmps74
  go_wp2_with (first
    | (go_at_call 78; refine (rerr_ok _ _ _ _ _ _ H.out).mono ?_; rintro e w1 ⟨rfl, rfl⟩)
    | (go_at_call 85; refine (isWidth_no n _ HN.out).mono ?_; rintro e w1 ⟨rfl, rfl⟩)
    | (go_at_call 88; refine (rfail_any _ _ _ _ _ (by decide) _ _ H.out hF).mono ?_; rintro e w1 ⟨rfl, h1, h2⟩))
  go_ret
  exact ⟨rfl, h1, h2⟩

set_option maxRecDepth 3000 in
theorem get_short (b q V a n : Nat) (F : Nat → Prop) (w : World) (hw : RSt w F b q V a) (hF : Bd F w) (hn : n ≤ 64) (hx : 8 * q < a + n) :
    Calls Try.prog 74 #[.pointer (some ⟨b, 0, none⟩), .int .i64 n] w fun e w' => e = .returned (.int .u64 0) ∧ RErr w' F b 3 ∧ Adv F w F w' := by
  have hle := hw.le
  have hn2 : ((8 * q - a : Nat) : Int) < (n : Int) := by omega
  have H := Lib.hid hw
  clear hw
  go_enter Try.func74, Try.ntmps74
  go_wp2_with (first
    | (go_at_call 78; refine (rerr_ok _ _ _ _ _ _ H.out).mono ?_; rintro e w1 ⟨rfl, rfl⟩)
    | (go_at_call 85; refine (isWidth_yes n _ hn).mono ?_; rintro e w1 ⟨rfl, rfl⟩)
    | (go_at_call 79; refine (left_ok _ _ _ _ _ _ H.out).mono ?_; rintro e w1 ⟨rfl, nd, rfl⟩)
    | (go_at_call 88; refine (rfail_any _ _ _ _ _ (by decide) _ _ (H.out.drewN nd) hF).mono ?_; rintro e w1 ⟨rfl, h1, h2⟩))
  go_ret
  exact ⟨rfl, h1, ⟨h2.os, h2.tape, h2.output, h2.size, h2.block, h2.into⟩⟩

set_option maxRecDepth 3000 in
theorem get_err (b : Nat) (n x : Int) (F : Nat → Prop) (w : World) (hw : RErr w F b x) :
    Calls Try.prog 74 #[.pointer (some ⟨b, 0, none⟩), .int .i64 n] w fun e w' => e = .returned (.int .u64 0) ∧ w = w' := by
  have hx := hw.ne
  have H := Lib.hid hw
  clear hw
  go_enter Try.func74, Try.ntmps74
  go_wp2_with (first
    | (go_at_call 78; refine (rerr_err _ _ _ _ H.out).mono ?_; rintro e w1 ⟨rfl, rfl⟩))
  go_ret
  exact ⟨rfl, rfl⟩

set_option maxRecDepth 3000 in
theorem get_no (v : Value) (n : Int) (w : World) (hw : RNo w v) :
    Calls Try.prog 74 #[v, .int .i64 n] w fun e w' => e = .returned (.int .u64 0) ∧ w = w' := by
  have H := Lib.hid hw
  clear hw
  go_enter Try.func74, Try.ntmps74
  go_wp2_with (first
    | (go_at_call 78; refine (rerr_no _ _ H.out).mono ?_; rintro e w1 ⟨rfl, rfl⟩))
  go_ret
  exact ⟨rfl, rfl⟩

theorem bitsAt_all (q V a : Nat) : bitsAt q V a (8 * q - a) = V % 2 ^ (8 * q - a) := by
  unfold bitsAt
  rw [Nat.sub_self, Nat.pow_zero, Nat.div_one]

/-- what End says of a reader without an error -/
def endOf (q V a : Nat) : Int := if 8 * q - a < 8 ∧ V % 2 ^ (8 * q - a) = 0 then 0 else 6

set_option maxRecDepth 3000 in
set_option maxHeartbeats 400000 in
theorem rend_ok (b q V a : Nat) (F : Nat → Prop) (w : World) (hw : RSt w F b q V a) (hF : Bd F w) :
    Calls Try.prog 51 #[.pointer (some ⟨b, 0, none⟩)] w fun e w' => e = .returned (.int .i64 (endOf q V a)) ∧ Below w.heap.size w w' := by
  obtain ⟨v, hB, hS⟩ := hw.ex
  obtain ⟨a0, cap, rfl, _, _⟩ := hS.form0
  have c0 : w.cell? ⟨b, 0, none⟩ = some (.bool true) := hB.cell 0
  have c1 : w.cell? ⟨b, 1, none⟩ = some (.int .i64 0) := hB.cell 1
  have c2 : w.cell? ⟨b, 2, none⟩ = some (.slice a0 q cap) := hB.cell 2
  have c3 : w.cell? ⟨b, 3, none⟩ = some (.int .i64 a) := hB.cell 3
  have H := Lib.hid hw
  have HB := Lib.hid hB
  have HS := Lib.hid hS
  clear hB hw hS
  have hle := H.out.le
  have hc : RSt (w.alloc (.cells #[.bool true, .int .i64 0, .slice a0 q cap, .int .i64 (a : Nat)] 103)) F b q V a :=
    ⟨⟨_, HB.out.alloc _, own_keep HS.out.own (fun k hk => Below.heap_alloc _ _ _ (hF k (HS.out.inF k hk))), HS.out.inF, fun k hk => by have := hF k hk; simp; omega⟩, H.out.inF, H.out.le, H.out.sm⟩
  have hd : RSt (w.alloc (.cells #[.bool true, .int .i64 0, .slice a0 q cap, .int .i64 (a : Nat)] 103)) (fun k => F k ∨ k = w.heap.size) w.heap.size q V a :=
    ⟨⟨_, Blk.new _ _ _, own_keep HS.out.own (fun k hk => Below.heap_alloc _ _ _ (hF k (HS.out.inF k hk))), fun k hk => .inl (HS.out.inF k hk), fun k hk => by
      rcases hk with h | h
      · have := hF k h; simp; omega
      · simp [h]⟩, .inr rfl, H.out.le, H.out.sm⟩
  have HC := Lib.hid hc
  have HD := Lib.hid hd
  clear hc hd
  have hfin : ∀ (n : Nat) (w2 : World), Adv (· = w.heap.size) ((w.alloc (.cells #[.bool true, .int .i64 0, .slice a0 q cap, .int .i64 (a : Nat)] 103)).drewN n) (· = w.heap.size) w2 → Below w.heap.size w w2 := fun n w2 h =>
    (Adv.of_drewN h).below ((Below.refl _ _).alloc (Nat.le_refl _) _) (fun k hk => by rw [hk]; exact Nat.le_refl _) (by simp)
  have HF := Lib.hid hfin
  clear hfin
  by_cases h8 : 8 * q - a < 8
  · have h8' : ((8 * q - a : Nat) : Int) < 8 := by omega
    by_cases h0 : V % 2 ^ (8 * q - a) = 0
    · have e0 : endOf q V a = 0 := by unfold endOf; rw [if_pos ⟨h8, h0⟩]
      rw [e0]
      have eb : bitsAt q V a (8 * q - a) = 0 := by rw [bitsAt_all]; exact h0
      have EB := Lib.hid eb
      clear eb e0 h0
      go_enter Try.func51, Try.ntmps51
      go_wp2_with (first
        | (go_at_call 78; refine (rerr_ok _ _ _ _ _ _ H.out).mono ?_; rintro e w1 ⟨rfl, rfl⟩)
        | (go_at_call 79; refine (left_ok _ _ _ _ _ _ HC.out).mono ?_; rintro e w1 ⟨rfl, nd, rfl⟩)
        | (go_at_call 80; refine (take_any _ _ _ _ (8 * q - a) _ _ (HD.out.drewN nd) (HD.out.ex.choose_spec.2.bd) (by omega) (by omega)).mono ?_; rintro e w2 ⟨rfl, h1, h2, h3⟩; rw [EB.out]))
      go_ret
      exact ⟨rfl, HF.out nd w2 h2⟩
    · have e0 : endOf q V a = 6 := by unfold endOf; rw [if_neg (fun h => h0 h.2)]
      rw [e0]
      have eb : (((bitsAt q V a (8 * q - a) : Nat) : Int) != 0) = true := by rw [bitsAt_all, bne_iff_ne]; omega
      clear e0 h0
      go_enter Try.func51, Try.ntmps51
      go_wp2_with (first
        | (go_at_call 78; refine (rerr_ok _ _ _ _ _ _ H.out).mono ?_; rintro e w1 ⟨rfl, rfl⟩)
        | (go_at_call 79; refine (left_ok _ _ _ _ _ _ HC.out).mono ?_; rintro e w1 ⟨rfl, nd, rfl⟩)
        | (go_at_call 80; refine (take_any _ _ _ _ (8 * q - a) _ _ (HD.out.drewN nd) (HD.out.ex.choose_spec.2.bd) (by omega) (by omega)).mono ?_; rintro e w2 ⟨rfl, h1, h2, h3⟩))
      go_ret
      exact ⟨rfl, HF.out nd w2 h2⟩
  · have h8' : (8 : Int) ≤ ((8 * q - a : Nat) : Int) := by omega
    have e0 : endOf q V a = 6 := by unfold endOf; rw [if_neg (fun h => h8 h.1)]
    rw [e0]
    clear e0
    go_enter Try.func51, Try.ntmps51
    go_wp2_with (first
      | (go_at_call 78; refine (rerr_ok _ _ _ _ _ _ H.out).mono ?_; rintro e w1 ⟨rfl, rfl⟩)
      | (go_at_call 79; refine (left_ok _ _ _ _ _ _ HC.out).mono ?_; rintro e w1 ⟨rfl, nd, rfl⟩))
    go_ret
    exact ⟨rfl, HF.out nd _ (Adv.refl _ _)⟩

set_option maxRecDepth 3000 in
theorem rend_err (b : Nat) (x : Int) (F : Nat → Prop) (w : World) (hw : RErr w F b x) :
    Calls Try.prog 51 #[.pointer (some ⟨b, 0, none⟩)] w fun e w' => e = .returned (.int .i64 x) ∧ w = w' := by
  have hx := hw.ne
  have H := Lib.hid hw
  clear hw
  go_enter Try.func51, Try.ntmps51
  go_wp2_with (first
    | (go_at_call 78; refine (rerr_err _ _ _ _ H.out).mono ?_; rintro e w1 ⟨rfl, rfl⟩))
  go_ret
  exact ⟨rfl, rfl⟩
end Go.Proofs.Ytpgeebhepegpaaa
