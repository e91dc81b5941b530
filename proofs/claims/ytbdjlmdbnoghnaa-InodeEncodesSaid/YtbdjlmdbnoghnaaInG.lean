/- The document's Is of an inode. -/
import Derived.Test.YtbdjlmdbnoghnaaInF
namespace Go.Proofs.Ytbdjlmdbnoghnaa
open Go.ChangeShapes Go.WideShapes Go.ChangeAt Go.RowKit

instance (x : Ino) : Decidable (isI x) := by unfold isI; exact inferInstance
def IsL (V : World) (x : Ino) (t3 t4 : Value) (wr : World) : Prop :=
  ∃ j : Nat, t4 = .int .i64 (j : Int) ∧ j ≤ 8 ∧ t3 = .int .i64 ((nzI x j).length : Int) ∧ (∀ i, i < j → 0 ≤ x.a i ∧ x.a i ≤ 4095) ∧ wr = V
theorem c11_at {w : World} {y : Nat} {x : Ino} (h : C11 w y x) (j : Nat) (hj : j < 8) : w.cell? ⟨y, 3 + j, none⟩ = some (.int .i64 (x.a j)) := by
  obtain ⟨_, _, _, s3, s4, s5, s6, s7, s8, s9, s10⟩ := h.all
  have e : j = 0 ∨ j = 1 ∨ j = 2 ∨ j = 3 ∨ j = 4 ∨ j = 5 ∨ j = 6 ∨ j = 7 := by omega
  rcases e with rfl | rfl | rfl | rfl | rfl | rfl | rfl | rfl
  · exact s3
  · exact s4
  · exact s5
  · exact s6
  · exact s7
  · exact s8
  · exact s9
  · exact s10
theorem nzI_zero (x : Ino) : ∀ j, (nzI x j).length = 0 ↔ ∀ i, i < j → x.a i = 0
  | 0 => ⟨fun _ _ h => absurd h (Nat.not_lt_zero _), fun _ => rfl⟩
  | j + 1 => by
    by_cases h : x.a j = 0
    · rw [nz_no h, nzI_zero x j]
      exact ⟨fun k i hi => by by_cases e : i = j; rw [e]; exact h; exact k i (by omega), fun k i hi => k i (by omega)⟩
    · rw [nz_yes h, List.length_append]
      exact ⟨fun k => by simp at k, fun k => absurd (k j (by omega)) h⟩
theorem isI_nz {x : Ino} (h : ∀ i, i < 8 → 0 ≤ x.a i ∧ x.a i ≤ 4095) {n : Nat} (hn : n = (nzI x 8).length) : isI x ↔ 0 ≤ x.k ∧ x.k ≤ 2 ∧ 0 ≤ x.g ∧ x.g ≤ 2147483647 ∧ x.v ≤ 1099511627775 ∧ (0 < x.k ∨ (n = 0 ∧ x.v = 0)) := by
  unfold isI bareI
  rw [hn, nzI_zero x 8]
  exact ⟨fun k => ⟨k.2.1, k.2.2.1, k.2.2.2.1, k.2.2.2.2.1, k.2.2.2.2.2.1, k.2.2.2.2.2.2.imp id fun h => ⟨h.2, h.1⟩⟩, fun k => ⟨h, k.1, k.2.1, k.2.2.1, k.2.2.2.1, k.2.2.2.2.1, k.2.2.2.2.2.imp id fun h => ⟨h.2, h.1⟩⟩⟩

set_option maxRecDepth 3000 in
set_option maxHeartbeats 1600000 in
theorem is8_any (x : Ino) (w : World) : Calls Try.prog 21 #[.agg (ic x)] w fun e w' => e = .returned (.bool (decide (isI x))) ∧ Adv Nul w Nul w' := by
  obtain ⟨y, hy⟩ : ∃ y, y = w.heap.size := ⟨_, rfl⟩
  obtain ⟨V, hV⟩ : ∃ V, V = w.alloc (.cells (ic x) 25) := ⟨_, rfl⟩
  have HY := Lib.hid (show Blk V y 25 (ic x) by rw [hV, hy]; exact Blk.new _ _ _)
  have HA := Lib.hid (show Adv Nul w Nul V by rw [hV]; exact (Adv.refl _ _).alloc _)
  have HC := Lib.hid (c11_at HY.out.c11)
  obtain ⟨s0, s1, s2, s3, s4, s5, s6, s7, s8, s9, s10⟩ := HY.out.c11.all
  clear s3 s4 s5 s6 s7 s8 s9 s10
  have HV := Lib.hid hV
  have HYY := Lib.hid hy
  obtain ⟨B, hB⟩ : ∃ B, B = decide (isI x) := ⟨_, rfl⟩
  rw [← hB]
  have HB := Lib.hid hB
  clear hV hy hB
  obtain ⟨k, g, v, a⟩ := x
  simp only [ic] at HV ⊢
  simp only at s0 s1 s2 HC
  go_enter Try.func21, Try.ntmps21
  go_upto_region 1 with (fail)
  rw [← HV.out, ← HYY.out]
  go_wp2_with fail
  go_loopw [3, 4] (IsL V ⟨k, g, v, a⟩) (fun _ t _ => 8 - (intOf t).toNat)
  case atStart => exact ⟨0, rfl, Nat.zero_le _, rfl, fun _ h => absurd h (Nat.not_lt_zero _), rfl⟩
  case round =>
    obtain ⟨j, rfl, hj, rfl, hall, rfl⟩ := hrel
    have HALL := Lib.hid hall
    obtain ⟨n, hn⟩ : ∃ n, n = (nzI ⟨k, g, v, a⟩ j).length := ⟨_, rfl⟩
    have hle := nzI_le ⟨k, g, v, a⟩ j
    rw [← hn] at hle ⊢
    have HN := Lib.hid hn
    clear hall hn
    by_cases hlt : j < 8
    · have cj := HC.out j hlt
      have HLT := Lib.hid hlt
      obtain ⟨u, hu⟩ : ∃ u, u = a j := ⟨_, rfl⟩
      rw [← hu] at cj
      have HU := Lib.hid hu
      clear hu
      by_cases hr : 0 ≤ u ∧ u ≤ 4095
      · obtain ⟨hr1, hr2⟩ := hr
        have hr3 : ¬ u < 0 := by omega
        have hr4 : ¬ 4095 < u := by omega
        have HR := Lib.hid (show ∀ i, i < j + 1 → 0 ≤ a i ∧ a i ≤ 4095 from fun i hi => by by_cases e : i = j; rw [e, ← HU.out]; exact ⟨hr1, hr2⟩; exact HALL.out i (by omega))
        by_cases h0 : u = 0
        · have H0 := Lib.hid h0
          subst h0
          clear hr1 hr2 hr3 hr4 hle
          go_wp2_with fail
          exact ⟨⟨j + 1, by simp, HLT.out, by rw [nz_no (show (⟨k, g, v, a⟩ : Ino).a j = 0 from HU.out.symm), ← HN.out], HR.out, rfl⟩, by simp [intOf] <;> omega⟩
        · have H0 := Lib.hid h0
          have hn7 : n ≤ 8 := by omega
          clear hle
          go_wp2_with fail
          exact ⟨⟨j + 1, by simp, HLT.out, by rw [nz_yes (show (⟨k, g, v, a⟩ : Ino).a j ≠ 0 from fun h => H0.out (HU.out.trans h)), List.length_append, ← HN.out]; simp, HR.out, rfl⟩, by simp [intOf] <;> omega⟩
      · have hno : B = false := HB.out.trans (decide_eq_false fun o => hr (by rw [HU.out]; exact o.1 j HLT.out))
        subst hno
        clear hle
        by_cases h1 : u < 0
        · clear hr
          go_wp2_with fail
          go_ret
          exact ⟨rfl, HA.out⟩
        · have h2 : 4095 < u := by omega
          clear hr
          go_wp2_with fail
          go_ret
          exact ⟨rfl, HA.out⟩
    · obtain rfl : j = 8 := by omega
      have hiff := isI_nz HALL.out HN.out
      simp only at hiff
      clear hlt hj hle
      by_cases hP : 0 ≤ k ∧ k ≤ 2 ∧ 0 ≤ g ∧ g ≤ 2147483647 ∧ v ≤ 1099511627775 ∧ (0 < k ∨ (n = 0 ∧ v = 0))
      · have hyes : B = true := HB.out.trans (decide_eq_true (hiff.mpr hP))
        subst hyes
        obtain ⟨p1, p2, p3, p4, p5, p6⟩ := hP
        have p5' : (v : Int) ≤ 1099511627775 := by omega
        clear hiff
        rcases p6 with p6 | ⟨rfl, rfl⟩
        · go_wp2_with fail
          go_ret
          exact ⟨rfl, HA.out⟩
        · by_cases hk : 0 < k
          · go_wp2_with fail
            go_ret
            exact ⟨rfl, HA.out⟩
          · go_wp2_with fail
            go_ret
            exact ⟨rfl, HA.out⟩
      · have hno : B = false := HB.out.trans (decide_eq_false fun o => hP (hiff.mp o))
        subst hno
        have HP := Lib.hid hP
        clear hiff hP
        have fin : ∀ (b : Bool), (b = true → 0 ≤ k ∧ k ≤ 2 ∧ 0 ≤ g ∧ g ≤ 2147483647 ∧ v ≤ 1099511627775 ∧ (0 < k ∨ (n = 0 ∧ v = 0))) → Ending.returned (.bool b) = Ending.returned (.bool false) := fun b hb => by
          cases b
          · rfl
          · exact absurd (hb rfl) HP.out
        have FIN := Lib.hid fin
        clear fin
        go_wp2_with fail
        all_goals
          go_ret
          refine ⟨FIN.out _ fun h => ?_, HA.out⟩
          simp at h
          try omega
end Go.Proofs.Ytbdjlmdbnoghnaa
