/- The statements of fletch. -/
import Derived.Test.YtkclmgibeaojcaaFl
import Derived.Deep.RegionWith
namespace Go.Proofs.Ytkclmgibeaojcaa
open Go.RowKit

theorem u32_wf {x : Int} (h : (Lit.int .u32 x).wf = true) : ∃ s : Nat, x = (s : Int) ∧ s < 4294967296 := by
  have hb := bounds_u32 h
  exact ⟨x.toNat, by omega, by omega⟩

set_option maxHeartbeats 400000 in
theorem sums_walk (W : World) (x : Int) (hx : (Lit.int .u32 x).wf = true) (v : Value) (hv : ∃ l, In W v l) :
    Calls Try.prog 3 #[.int .u32 x, v] W fun e w' => e = .returned (.bool true) ∧ Below W.heap.size W w' := by
  obtain ⟨s, rfl, hs⟩ := u32_wf hx
  obtain ⟨l, hl⟩ := hv
  have HL := Lib.hid hl
  clear hl hx
  go_enter Try.func3, Try.ntmps3
  go_wp2_with fail
  refine (cut_any v l 400 W HL.out (by decide)).mono ?_
  rintro e w0 ⟨v1, rfl, h1, rfl⟩
  obtain ⟨A1, c1, rfl, _, _⟩ := h1.rd.form
  have hn : (l.take 400).length ≤ 400 := by simp; omega
  have H1 := Lib.hid h1
  clear h1
  obtain ⟨n, hnn⟩ : ∃ n, n = (l.take 400).length := ⟨_, rfl⟩
  obtain ⟨k, hk⟩ : ∃ k, k = l.take 400 := ⟨_, rfl⟩
  rw [← hk] at hn hnn H1 ⊢
  rw [← hnn] at hn ⊢
  have HK := Lib.hid hnn
  clear hk hnn
  go_wp2_with fail
  refine (copy_any _ n k _ (by rw [HK.out]; exact H1.out.rd) (by omega)).mono ?_
  rintro e w1 ⟨v2, F, rfl, h2, a2⟩
  obtain ⟨A2, c2, rfl, _, _⟩ := h2.form0
  have B2 := a2.toBelow
  have hr1 : Rd w1 1 (.slice A1 n c1) k.length (k.map u8) := by
    have h := H1.out.below B2
    rwa [← HK.out] at h ⊢
  have hr2 : Rd w1 1 (.slice A2 n c2) k.length (k.map u8) := by
    have h := h2.rd
    rwa [← HK.out]
  have hr3 := hr1
  have hr4 := hr2
  rw [← HK.out] at hr3 hr4
  obtain ⟨X, hX⟩ : ∃ X, X = fnum (fsum (fof s) k) := ⟨_, rfl⟩
  obtain ⟨Y, hY⟩ : ∃ Y, Y = fnum (fsum (0, 0) k) := ⟨_, rfl⟩
  have R1 := Lib.hid hr1
  have R2 := Lib.hid hr2
  have R3 := Lib.hid hr3
  have R4 := Lib.hid hr4
  have HX := Lib.hid hX
  have HY := Lib.hid hY
  have HB := Lib.hid B2
  have HLT := Lib.hid H1.out.lt
  clear hr1 hr2 hr3 hr4 hX hY B2 h2 a2
  go_wp2_with fail
  refine (fadd_any s _ k _ hs R2.out HLT.out).mono ?_
  rintro e w2 ⟨rfl, rfl⟩
  rw [← HX.out]
  go_wp2_with fail
  refine (radd_any s _ k _ hs R1.out HLT.out).mono ?_
  rintro e w2 ⟨rfl, rfl⟩
  rw [← HX.out]
  go_wp2_with fail
  refine (fsum_any _ k _ R2.out HLT.out).mono ?_
  rintro e w2 ⟨rfl, rfl⟩
  rw [← HY.out]
  go_wp2_with fail
  refine (radd_any 0 _ k _ (by decide) R1.out HLT.out).mono ?_
  rintro e w2 ⟨rfl, rfl⟩
  rw [fof_zero, ← HY.out]
  go_wp2_with fail
  refine (same_eq _ _ n k _ R4.out R3.out).mono ?_
  rintro e w2 ⟨rfl, j, rfl⟩
  go_wp2_with fail
  refine (fl_lives_any _).mono ?_
  rintro e w3 ⟨rfl, hb⟩
  go_wp2
  go_ret
  exact ⟨rfl, (below_drewN HB.out j).trans (hb.mono HB.out.size)⟩
end Go.Proofs.Ytkclmgibeaojcaa
