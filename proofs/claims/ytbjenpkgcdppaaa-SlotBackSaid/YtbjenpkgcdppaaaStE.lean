/- The document's Is of a slot. -/
import Derived.Test.YtbjenpkgcdppaaaStB
namespace Go.Proofs.Ytbjenpkgcdppaaa
open Go.ChangeShapes Go.WideShapes Go.ChangeAt Go.RowKit

set_option maxRecDepth 3000 in
set_option maxHeartbeats 3200000 in
theorem qis_any (x : Slt) (hx : WfT x) (w : World) : Calls Try.prog 25 #[.agg (tc x)] w fun e w' => e = .returned (.bool (decide (isT x))) ∧ Adv Nul w Nul w' := by
  have hE := eq_qslot x zeroT hx zeroT_wf
  obtain ⟨B, hB⟩ : ∃ B, B = decide (isT x) := ⟨_, rfl⟩
  rw [← hB]
  have HB := Lib.hid hB
  obtain ⟨C, hC⟩ : ∃ C, C = tc x := ⟨_, rfl⟩
  obtain ⟨Z, hZ⟩ : ∃ C, C = tc zeroT := ⟨_, rfl⟩
  have HS := Lib.hid (show C.size = 7 by rw [hC]; rfl)
  have HB0 := Lib.hid builtQT
  have HC := Lib.hid (fun (z : Nat) (w' : World) (h : Blk w' z 28 C) => (show Blk w' z 28 (tc x) by rw [← hC]; exact h).c7.all)
  rw [← hC] at hE ⊢
  rw [← hZ] at hE HB0
  clear hB hx hC hZ
  by_cases h0 : x = zeroT
  · obtain rfl : B = true := HB.out.trans (decide_eq_true (.inl h0))
    rw [decide_eq_true h0] at hE
    have HE := Lib.hid hE
    clear h0 hE
    obtain ⟨u, i, g, a, v, d, s⟩ := x
    simp only at HC
    go_enter Try.func25, Try.ntmps25
    go_upto_region 2 with (first
      | (refine kop_box rfl _ rfl rfl ?_; intro z w1 hz hb ha; have HBZ := Lib.hid hb; have HA := Lib.hid ha; obtain ⟨s0, s1, s2, s3, s4, s5, s6⟩ := HC.out _ _ hb; clear hz hb ha)
      | fail)
    obtain ⟨f, hf⟩ : ∃ f, f = w1.heap.size := ⟨_, rfl⟩
    obtain ⟨W2, hW2⟩ : ∃ W, W = w1.alloc (.cells #[.int .i64 i, .int .i64 g] 23) := ⟨_, rfl⟩
    have HA2 := Lib.hid (show Adv Nul w Nul W2 by rw [hW2]; exact HA.out.alloc _)
    have HBZ2 := Lib.hid (show Blk W2 z 28 C by rw [hW2]; exact HBZ.out.alloc _)
    have hbf : Blk W2 f 23 #[.int .i64 i, .int .i64 g] := by rw [hW2, hf]; exact Blk.new _ _ _
    have f0 := hbf.cell 0
    have f1 := hbf.cell 1
    rw [← hf, ← hW2]
    clear s0 s1 s2 s3 s4 s5 s6 hbf hf hW2 HA HBZ
    obtain ⟨s0, s1, s2, s3, s4, s5, s6⟩ := HC.out _ _ HBZ2.out
    clear HC
    refine wp_region_lit ?_
    refine kop_load rfl _ rfl z HBZ2.out rfl Try.underlying28 rfl sizeQT HS.out ?_
    refine kop_zero HB0.out rfl rfl ?_
    refine kop_eqs HE.out guardQT rfl _ _ rfl rfl rfl ?_
    clear HE HB0 HBZ2
    go_wp2_with fail
    all_goals
      go_ret
      exact ⟨rfl, HA2.out⟩
  · rw [decide_eq_false h0] at hE
    have HE := Lib.hid hE
    by_cases ho : okT x
    · obtain rfl : B = true := HB.out.trans (decide_eq_true (.inr ho))
      clear h0 hE
      obtain ⟨u, i, g, a, v, d, s⟩ := x
      obtain ⟨hu, ⟨p1, p2⟩, ⟨p3, p4⟩, ⟨p5, p6⟩, p7, p8⟩ := ho
      simp only at hu p1 p2 p3 p4 p5 p6 p7 p8
      subst hu
      have p7' : (v : Int) ≤ 1099511627775 := by omega
      have p8' : (s.size : Int) ≤ 64 := by omega
      simp only at HC
      clear p7 p8
      go_enter Try.func25, Try.ntmps25
      go_upto_region 2 with (first
        | (refine kop_box rfl _ rfl rfl ?_; intro z w1 hz hb ha; have HBZ := Lib.hid hb; have HA := Lib.hid ha; obtain ⟨s0, s1, s2, s3, s4, s5, s6⟩ := HC.out _ _ hb; clear hz hb ha)
        | fail)
      obtain ⟨f, hf⟩ : ∃ f, f = w1.heap.size := ⟨_, rfl⟩
      obtain ⟨W2, hW2⟩ : ∃ W, W = w1.alloc (.cells #[.int .i64 i, .int .i64 g] 23) := ⟨_, rfl⟩
      have HA2 := Lib.hid (show Adv Nul w Nul W2 by rw [hW2]; exact HA.out.alloc _)
      have HBZ2 := Lib.hid (show Blk W2 z 28 C by rw [hW2]; exact HBZ.out.alloc _)
      have hbf : Blk W2 f 23 #[.int .i64 i, .int .i64 g] := by rw [hW2, hf]; exact Blk.new _ _ _
      have f0 := hbf.cell 0
      have f1 := hbf.cell 1
      rw [← hf, ← hW2]
      clear s0 s1 s2 s3 s4 s5 s6 hbf hf hW2 HA HBZ
      obtain ⟨s0, s1, s2, s3, s4, s5, s6⟩ := HC.out _ _ HBZ2.out
      clear HC
      refine wp_region_lit ?_
      refine kop_load rfl _ rfl z HBZ2.out rfl Try.underlying28 rfl sizeQT HS.out ?_
      refine kop_zero HB0.out rfl rfl ?_
      refine kop_eqs HE.out guardQT rfl _ _ rfl rfl rfl ?_
      clear HE HB0 HBZ2
      go_wp2_with fail
      all_goals
        go_ret
        exact ⟨by simp, HA2.out⟩
    · obtain rfl : B = false := HB.out.trans (decide_eq_false fun h => h.elim h0 ho)
      have HO := Lib.hid ho
      have FIN := Lib.hid (show ∀ b : Bool, (b = true → okT x) → Ending.returned (.bool b) = Ending.returned (.bool false) from fun b hb => by
        cases b
        · rfl
        · exact absurd (hb rfl) HO.out)
      clear h0 ho hE
      obtain ⟨u, i, g, a, v, d, s⟩ := x
      simp only [okT] at FIN
      simp only at HC
      go_enter Try.func25, Try.ntmps25
      go_upto_region 2 with (first
        | (refine kop_box rfl _ rfl rfl ?_; intro z w1 hz hb ha; have HBZ := Lib.hid hb; have HA := Lib.hid ha; obtain ⟨s0, s1, s2, s3, s4, s5, s6⟩ := HC.out _ _ hb; clear hz hb ha)
        | fail)
      obtain ⟨f, hf⟩ : ∃ f, f = w1.heap.size := ⟨_, rfl⟩
      obtain ⟨W2, hW2⟩ : ∃ W, W = w1.alloc (.cells #[.int .i64 i, .int .i64 g] 23) := ⟨_, rfl⟩
      have HA2 := Lib.hid (show Adv Nul w Nul W2 by rw [hW2]; exact HA.out.alloc _)
      have HBZ2 := Lib.hid (show Blk W2 z 28 C by rw [hW2]; exact HBZ.out.alloc _)
      have hbf : Blk W2 f 23 #[.int .i64 i, .int .i64 g] := by rw [hW2, hf]; exact Blk.new _ _ _
      have f0 := hbf.cell 0
      have f1 := hbf.cell 1
      rw [← hf, ← hW2]
      clear s0 s1 s2 s3 s4 s5 s6 hbf hf hW2 HA HBZ
      obtain ⟨s0, s1, s2, s3, s4, s5, s6⟩ := HC.out _ _ HBZ2.out
      clear HC
      refine wp_region_lit ?_
      refine kop_load rfl _ rfl z HBZ2.out rfl Try.underlying28 rfl sizeQT HS.out ?_
      refine kop_zero HB0.out rfl rfl ?_
      refine kop_eqs HE.out guardQT rfl _ _ rfl rfl rfl ?_
      clear HE HB0 HBZ2
      go_wp2_with fail
      all_goals
        go_ret
        refine ⟨FIN.out _ fun h => ?_, HA2.out⟩
        simp at h <;> exact ⟨by assumption, by omega, by omega, by omega, by omega, by omega⟩
end Go.Proofs.Ytbjenpkgcdppaaa
