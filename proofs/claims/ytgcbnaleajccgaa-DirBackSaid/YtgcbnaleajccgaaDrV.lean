/- The statement DirBlocks, walked. -/
import Derived.Test.YtgcbnaleajccgaaDrU
import Derived.Test.YtgcbnaleajccgaaDrQ
import Derived.Test.YtgcbnaleajccgaaDrW
namespace Go.Proofs.Ytgcbnaleajccgaa
open Go.ChangeShapes Go.WideShapes Go.ChangeAt Go.RowKit

theorem BksR.form {w w' : World} {l : List En} {x : Ending} (h : BksR w l x w') : ∃ A c, x = .returned (.tuple #[.slice A (bL l).length c, .int .i64 (bE l)]) ∧ RwD w' (.slice A (bL l).length c) (bL l) ∧ Adv Nul w Nul w' := by
  obtain ⟨A, n, c, h1, h2, h3⟩ := h
  have h4 := h2.len
  subst h4
  exact ⟨A, c, h1, h2, h3⟩
def AtK (w : World) (N : Nat) (t : Value) (wr : World) : Prop := ∃ k : Nat, k ≤ N ∧ t = .int .i64 (k : Int) ∧ Adv Nul w Nul wr

set_option maxRecDepth 3000 in
set_option maxHeartbeats 3200000 in
theorem blocks_walk (w : World) (v0 : Value) (h0 : ∃ l, EnR w v0 l) : Calls Try.prog 3 #[v0] w fun e w' => e = .returned (.bool true) ∧ Below w.heap.size w w' := by
  obtain ⟨l, hl⟩ := h0
  have HF := Lib.hid (few9_any v0 l 30 (by decide) w hl)
  clear hl
  obtain ⟨m, hm⟩ : ∃ m, m = fewL 30 l := ⟨_, rfl⟩
  rw [← hm] at HF
  clear hm
  go_enter Try.func3, Try.ntmps3
  go_upto_region 2 with (first
    | (go_at_call 7; refine HF.out.mono ?_; rintro x w1 ⟨v1, rfl, h1⟩; have HE := Lib.hid h1; clear h1)
    | fail)
  have HB := Lib.hid (fun w' (a : Adv Nul w1 Nul w') => (dblocks_any v1 _ w' (HE.out.step a).rd).mono fun _ _ h => h.form)
  have HQ := Lib.hid (fun w' (a : Adv Nul w1 Nul w') => (q9blocks_any v1 _ w' (HE.out.step a).rd).mono fun _ _ h => h.form)
  obtain ⟨E, hE⟩ : ∃ E, E = bE m := ⟨_, rfl⟩
  obtain ⟨L, hL⟩ : ∃ L, L = bL m := ⟨_, rfl⟩
  obtain ⟨N, hN⟩ : ∃ N, N = L.length := ⟨_, rfl⟩
  rw [← hE, ← hL, ← hN] at HB HQ
  have HN := Lib.hid hN
  have HW := Lib.hid HE.out.adv
  clear hE hL hN
  go_upto_region 3 with (first
    | (go_at_call 8; refine (HB.out _ (Adv.refl _ _)).mono ?_; rintro x w2 ⟨A2, c2, rfl, h2, a2⟩; have HD2 := Lib.hid h2; have HA2 := Lib.hid a2; clear h2 a2)
    | fail)
  go_upto_region 4 with (first
    | (go_at_call 9; refine (HQ.out _ HA2.out).mono ?_; rintro x w3 ⟨A3, c3, rfl, h3, a3⟩; have HD3 := Lib.hid h3; replace HD2 := Lib.hid (HD2.out.step a3); have HA3 := Lib.hid (HW.out.trans (HA2.out.trans a3)); clear h3 a3)
    | fail)
  have hN9 : (N : Int) ≤ 9223372036854775807 := by
    obtain ⟨_, _, e, h1, h2⟩ := HD2.out.form
    have := HN.out
    unfold maxLen at h2
    omega
  go_wp2_with fail
  go_loopw [7] (AtK w3 N) (fun t _ => N - (intOf t).toNat)
  case atStart => exact ⟨0, Nat.zero_le _, rfl, Adv.refl _ _⟩
  case round =>
    obtain ⟨k, hk, rfl, ha⟩ := hrel
    have HA := Lib.hid ha
    clear ha
    by_cases hlt : k < N
    · have hkl : k < L.length := by rw [← HN.out]; exact hlt
      obtain ⟨b3, o3, a3, q3, rfl, hlb3, g3, r3⟩ := (HD2.out.step HA.out).at_ hkl
      obtain ⟨b1, o1, a1, q1, rfl, hlb1, g1, r1⟩ := (HD3.out.step HA.out).at_ hkl
      obtain ⟨p, hp⟩ : ∃ p, p = L[k] := ⟨_, rfl⟩
      rw [← hp] at g1 r1 g3 r3
      obtain ⟨n3, hn3⟩ : ∃ n, n = p.length := ⟨_, rfl⟩
      rw [← hn3] at g1 r1 g3 r3
      have HSM := Lib.hid (fun w' (a : Adv Nul wr Nul w') => show Calls Try.prog 10 #[.slice a3 n3 q3, .slice a1 n3 q1] w' fun x w'' => x = .returned (.bool true) ∧ ∃ k, w'' = w'.drewN k by rw [show true = decide (p = p) by simp]; exact isame_any _ _ _ _ p p w' (r3.far (fun _ _ _ hl => a.block _ hl (fun x => x)) a.size) (r1.far (fun _ _ _ hl => a.block _ hl (fun x => x)) a.size))
      have HCC := Lib.hid (fun w' (a : Adv Nul wr Nul w') => show w'.cell? ⟨b3, o3 + k, none⟩ = some (.slice a3 n3 q3) ∧ w'.cell? ⟨b1, o1 + k, none⟩ = some (.slice a1 n3 q1) from ⟨(World.cell?_of_block (a := ⟨b3, o3 + k, none⟩) (a.block b3 hlb3 (fun x => x))).trans g3, (World.cell?_of_block (a := ⟨b1, o1 + k, none⟩) (a.block b1 hlb1 (fun x => x))).trans g1⟩)
      have HC0 := Lib.hid (HCC.out wr.drew (Adv.refl Nul wr).drew)
      have HLT := Lib.hid hlt
      have hki : (k : Int) < (N : Int) := by omega
      clear hp hn3 r1 r3 hkl hlb1 hlb3 hlt hk g1 g3
      go_upto_region 9 with (fail)
      refine rstart (S := (fun w' => w'.cell? ⟨b3, o3 + k, none⟩ = some (.slice a3 n3 q3) ∧ w'.cell? ⟨b1, o1 + k, none⟩ = some (.slice a1 n3 q1))) (by first | exact HC9.out | exact HC0.out) (fun hH => ?_)
      refine tk (i := 0) (oi := ⟨some 36, .move (.tmp 3), 24, "law.go:39", #[], none⟩) hH.out (by rintro w ⟨s0, s1⟩; go_simp <;> with_reducible rfl) ?_
      simp only [Act.put, sA, sB, sC]
      refine tk (i := 1) (oi := ⟨some 37, .move (.tmp 7), 3, "law.go:39", #[], none⟩) hH.out (by rintro w ⟨s0, s1⟩; go_simp <;> with_reducible rfl) ?_
      simp only [Act.put, sA, sB, sC]
      refine tk (i := 2) (oi := ⟨some 38, .indexAddr 24 (.tmp 36) (.tmp 37), 0, "law.go:39", #[⟨0, .data⟩, ⟨1, .data⟩], none⟩) hH.out (by rintro w ⟨s0, s1⟩; go_simp <;> with_reducible rfl) ?_
      simp only [Act.put, sA, sB, sC]
      refine tk (i := 3) (oi := ⟨some 39, .load 31 (.tmp 38), 31, "law.go:39", #[⟨2, .data⟩], none⟩) hH.out (by rintro w ⟨s0, s1⟩; go_simp <;> with_reducible rfl) ?_
      simp only [Act.put, sA, sB, sC]
      refine tk (i := 4) (oi := ⟨some 40, .move (.tmp 5), 24, "law.go:39", #[], none⟩) hH.out (by rintro w ⟨s0, s1⟩; go_simp <;> with_reducible rfl) ?_
      simp only [Act.put, sA, sB, sC]
      refine tk (i := 5) (oi := ⟨some 41, .move (.tmp 7), 3, "law.go:39", #[], none⟩) hH.out (by rintro w ⟨s0, s1⟩; go_simp <;> with_reducible rfl) ?_
      simp only [Act.put, sA, sB, sC]
      refine tk (i := 6) (oi := ⟨some 42, .indexAddr 24 (.tmp 40) (.tmp 41), 0, "law.go:39", #[⟨4, .data⟩, ⟨5, .data⟩], none⟩) hH.out (by rintro w ⟨s0, s1⟩; go_simp <;> with_reducible rfl) ?_
      simp only [Act.put, sA, sB, sC]
      refine tk (i := 7) (oi := ⟨some 43, .load 31 (.tmp 42), 31, "law.go:39", #[⟨6, .data⟩], none⟩) hH.out (by rintro w ⟨s0, s1⟩; go_simp <;> with_reducible rfl) ?_
      simp only [Act.put, sA, sB, sC]
      refine rdy (i := 8) (oi := ⟨some 44, .call ⟨.value (.func 10), #[.tmp 39, .tmp 43], #[31, 31]⟩, 4, "law.go:39", #[⟨3, .data⟩, ⟨7, .data⟩], none⟩) (fun K hK => ?_)
      go_simp
      refine (HSM.out _ (Adv.refl Nul wr).drew).mono ?_
      rintro x w9 ⟨rfl, j9, hw9⟩
      have HA9 := Lib.hid (show Adv Nul wr Nul w9 by rw [hw9]; exact ((Adv.refl Nul wr).drew).drewN j9)
      have HC9 := Lib.hid (HCC.out w9 HA9.out)
      clear hw9
      go_wp2_with fail
      refine hK.out _ _ (by first | exact HC9.out | exact HC0.out) (fun hHeld => ?_)
      replace hH := Lib.hid hHeld
      clear hK K hHeld
      try simp only [Act.put, sA, sB, sC]
      refine tk (i := 9) (oi := ⟨some 45, .unOp .not 4 (.tmp 44), 4, "law.go:39", #[⟨8, .data⟩], none⟩) hH.out (by rintro w ⟨s0, s1⟩; go_simp <;> with_reducible rfl) ?_
      simp only [Act.put, sA, sB, sC]
      refine wpAnyH_done (by kernel_rfl) ?_ _
      go_wp2_with fail
      exact ⟨⟨k + 1, HLT.out, by go_num, HA.out.trans HA9.out⟩, by have := HLT.out; simp [intOf] <;> omega⟩
    · obtain rfl : k = N := by omega
      clear hlt hk
      go_wp2_with (first
        | (go_at_call 11; refine (lives9_any _).mono ?_; rintro x w4 ⟨rfl, a4⟩; have HA4 := Lib.hid (HA3.out.trans (HA.out.trans a4)); clear a4)
        | fail)
      go_ret
      exact ⟨rfl, HA4.out.toBelow⟩
end Go.Proofs.Ytgcbnaleajccgaa
