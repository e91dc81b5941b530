/- Lives: one entry there and back. -/
import Derived.Test.YtgcbnaleajccgaaDrS
import Derived.Test.YtgcbnaleajccgaaDrO
namespace Go.Proofs.Ytgcbnaleajccgaa
open Go.ChangeShapes Go.WideShapes Go.ChangeAt Go.RowKit

def e0 : En := ⟨⟨#[97]⟩, 2, 1, 2⟩
theorem e0_rise : RiseL [e0] := by
  apply rise_of
  intro k hk
  obtain rfl : k = 0 := by simpa using hk
  refine (okAt_iff (by decide)).2 ⟨?_, ?_⟩
  · show ([] : List UInt8) < [97]
    exact List.nil_lt_cons _ _
  · show okE e0
    unfold okE e0 NameL
    decide
theorem e0_bE : bE [e0] = 0 := bE_of e0_rise (by decide)
theorem e0_bL : (bL [e0]).length = 1 := by rw [bL_of e0_bE, blocksL_length]; rfl
theorem e0_ent : entE (bL [e0]) = 0 ∧ entL (bL [e0]) = [e0] := by
  rw [bL_of e0_bE]
  obtain ⟨h1, h2⟩ := okP_blocks e0_bE
  obtain ⟨h3, h4⟩ := ent_yes h1
  exact ⟨h4, by rw [h3, h2]⟩
theorem e0_lit (w : World) : EnR (w.alloc (.cells #[.string ⟨#[97]⟩, .int .i64 2, .int .i64 1, .int .i64 2] 46)) (.slice (some ⟨w.heap.size, 0, none⟩) 1 1) [e0] := by
  refine ⟨own_rd (e := 46) ⟨rfl, .inr ⟨w.heap.size, 1, _, rfl, Nat.zero_le _, heap_alloc_new w _, Nat.le_refl _, by decide, rfl, rfl⟩⟩, fun e he => ?_⟩
  obtain rfl := List.mem_singleton.1 he
  decide
set_option maxRecDepth 3000 in
theorem lives9_any (w : World) : Calls Try.prog 11 #[] w fun e w' => e = .returned (.bool true) ∧ Adv Nul w Nul w' := by
  have HB := Lib.hid (fun v w (h : EnR w v [e0]) => show Calls Try.prog 8 #[v] w fun x w' => ∃ A c, x = .returned (.tuple #[.slice A 1 c, .int .i64 0]) ∧ RwD w' (.slice A 1 c) (bL [e0]) ∧ Adv Nul w Nul w' from
    (dblocks_any v [e0] w h).mono fun x w' ⟨A, n, c, h1, h2, h3⟩ => by
      have h4 := h2.len
      rw [e0_bL] at h4
      subst h4
      rw [e0_bE] at h1
      exact ⟨A, c, h1, h2, h3⟩)
  have HE := Lib.hid (fun v w (h : RwD w v (bL [e0])) => show Calls Try.prog 14 #[v] w fun x w' => ∃ A c, x = .returned (.tuple #[.slice A 1 c, .int .i64 0]) ∧ EnR w' (.slice A 1 c) [e0] ∧ Adv Nul w Nul w' from
    (dentries_any v _ w h (bL_8 _)).mono fun x w' ⟨A, c, h1, h2, h3⟩ => by
      rw [e0_ent.1, e0_ent.2] at h1
      rw [e0_ent.2] at h2
      exact ⟨A, c, h1, h2, h3⟩)
  have HL := Lib.hid (e0_lit w)
  have hal := (Adv.refl Nul w).alloc (.cells #[.string ⟨#[97]⟩, .int .i64 2, .int .i64 1, .int .i64 2] 46)
  have HA := Lib.hid hal
  clear hal
  go_enter Try.func11, Try.ntmps11
  go_wp2_with (first
    | (go_at_call 8; refine (HB.out _ _ HL.out).mono ?_; rintro x w1 ⟨A1, c1, rfl, h1, a1⟩; have HR := Lib.hid h1; have HA1 := Lib.hid (HA.out.trans a1); have HL1 := Lib.hid (HL.out.step a1); clear h1 a1)
    | (go_at_call 14; refine (HE.out _ _ HR.out).mono ?_; rintro x w2 ⟨A2, c2, rfl, h2, a2⟩; have HE2 := Lib.hid h2; have HA2 := Lib.hid (HA1.out.trans a2); have HL2 := Lib.hid (HL1.out.step a2); clear h2 a2)
    | (go_at_call 16; refine (same9_any _ _ _ _ _ HL2.out HE2.out).mono ?_; rintro x w3 ⟨rfl, j, rfl⟩; rw [decide_eq_true (rfl : [e0] = [e0])])
    | fail)
  go_ret
  exact ⟨rfl, HA2.out.drewN _⟩
end Go.Proofs.Ytgcbnaleajccgaa
