/- Same of messages, the program's: a field that differs. (Made by mkmssame.py.) -/
import Derived.Test.YtpgeebhepegpaaaMsS
namespace Go.Proofs.Ytpgeebhepegpaaa
open Go.ChangeShapes Go.WideShapes Go.ChangeAt Go.RowKit

set_option maxRecDepth 3000 in
set_option maxHeartbeats 12800000 in
theorem msame_no3 (x y : Ms) (va vb : Value) (w : World) (hEa : EnR7 w va x.en) (hEb : EnR7 w vb y.en) (hp : x.ty = y.ty ∧ x.cl = y.cl ∧ x.ss = y.ss ∧ x.sq = y.sq ∧ x.bo = y.bo ∧ x.kd = y.kd ∧ x.er = y.er ∧ x.fi = y.fi ∧ x.fg = y.fg ∧ x.di = y.di ∧ x.dg = y.dg ∧ x.nm = y.nm) (hq : ¬ (x.ot = y.ot ∧ x.mo = y.mo ∧ x.at_ = y.at_ ∧ x.da = y.da ∧ x.ve = y.ve)) : Calls Try.prog 16 #[.agg (mc x va), .agg (mc y vb)] w fun e w' => e = .returned (.bool (sameB x y)) ∧ Adv Nul w Nul w' := by
  obtain ⟨B, hB⟩ : ∃ B, B = sameB x y := ⟨_, rfl⟩
  rw [← hB]
  have HB := Lib.hid hB
  obtain ⟨C, hC⟩ : ∃ C, C = mc x va := ⟨_, rfl⟩
  obtain ⟨D, hD⟩ : ∃ C, C = mc y vb := ⟨_, rfl⟩
  have HC := Lib.hid (fun (z : Nat) (w' : World) (h : Blk w' z 28 C) => (show C18 w' z x va from (show Blk w' z 28 (mc x va) by rw [← hC]; exact h).c18))
  have HD := Lib.hid (fun (z : Nat) (w' : World) (h : Blk w' z 28 D) => (show C18 w' z y vb from (show Blk w' z 28 (mc y vb) by rw [← hD]; exact h).c18))
  have HE := Lib.hid (fun w' (a : Adv Nul w Nul w') => sleqe_any va vb x.en y.en w' (hEa.step a) (hEb.step a))
  rw [← hC, ← hD]
  clear hC hD hB hEa hEb
  obtain ⟨a_ty, a_cl, a_ss, a_sq, a_bo, a_kd, a_er, a_fi, a_fg, a_di, a_dg, a_nm, a_ot, a_mo, a_at_, a_da, a_ve, la⟩ := x
  obtain ⟨b_ty, b_cl, b_ss, b_sq, b_bo, b_kd, b_er, b_fi, b_fg, b_di, b_dg, b_nm, b_ot, b_mo, b_at_, b_da, b_ve, lb⟩ := y
  simp only at HE
  simp only at hq hp
  obtain ⟨rfl, rfl, rfl, rfl, rfl, rfl, rfl, rfl, rfl, rfl, rfl, rfl⟩ := hp
  have HQ := Lib.hid hq
  clear hq
  go_enter Try.func16, Try.ntmps16
  go_upto_region 1 with (first
    | (refine kop_box rfl _ rfl rfl ?_; intro z w1 hz hb ha; have HA1 := Lib.hid ((Adv.refl Nul w).trans ha); have HB1 := Lib.hid hb; clear hz hb ha)
    | (refine kop_box rfl _ rfl rfl ?_; intro y w2 hz hb ha; have HA2 := Lib.hid (HA1.out.trans ha); have HY2 := Lib.hid hb; have HZ2 := Lib.hid (HB1.out.over ha); clear hz hb ha HB1)
    | fail)
  obtain ⟨⟨s0, s1, s2, s3, s4, s5, s6⟩, ⟨s7, s8, s9, s10⟩, ⟨s11, s12, s13, s14, s15, s16, s17⟩⟩ := HC.out _ _ HZ2.out
  obtain ⟨⟨q0, q1, q2, q3, q4, q5, q6⟩, ⟨q7, q8, q9, q10⟩, ⟨q11, q12, q13, q14, q15, q16, q17⟩⟩ := HD.out _ _ HY2.out
  simp only at s0 s1 s2 s3 s4 s5 s6 s7 s8 s9 s10 s11 s12 s13 s14 s15 s16 s17 q0 q1 q2 q3 q4 q5 q6 q7 q8 q9 q10 q11 q12 q13 q14 q15 q16 q17
  clear HC HD HZ2 HY2
  by_cases e : a_ot = b_ot
  · subst e
    by_cases e : a_mo = b_mo
    · subst e
      by_cases e : a_at_ = b_at_
      · subst e
        by_cases e : a_da = b_da
        · subst e
          by_cases e : a_ve = b_ve
          · subst e
            exact absurd (show a_ot = a_ot ∧ a_mo = a_mo ∧ a_at_ = a_at_ ∧ a_da = a_da ∧ a_ve = a_ve from ⟨rfl, rfl, rfl, rfl, rfl⟩) HQ.out
          · have HN := Lib.hid (show B = false from by rw [HB.out]; exact sameB_no (·.ve) e)
            have eb : ((a_ve : Int) == (b_ve : Int)) = false := by rw [beq_eq_false_iff_ne]; omega
            obtain rfl := HN.out
            clear e
            clear HQ
            refine wp_region_lit ?_
            show wpList _ _ _ (_ :: _ :: _ :: _ :: _ :: _ :: _ :: _ :: _ :: _ :: _ :: _ :: _ :: _ :: _ :: _ :: _ :: _ :: _ :: _ :: _ :: _ :: _ :: _ :: _ :: _ :: _ :: _ :: _ :: _ :: _ :: _ :: _ :: _ :: _ :: _ :: _ :: _ :: _ :: _ :: _ :: _ :: _ :: _ :: _ :: _ :: _ :: _ :: _ :: _ :: _ :: _ :: _ :: _ :: _ :: _ :: _ :: _ :: _ :: _ :: _ :: _ :: _ :: _ :: _ :: _ :: _ :: _ :: _ :: _ :: _ :: _ :: _ :: _ :: _ :: _ :: _ :: _ :: _ :: _ :: _ :: _ :: _ :: _ :: _ :: _ :: _ :: _ :: _ :: _ :: _ :: _ :: _ :: _ :: _ :: _ :: _ :: _ :: _ :: _ :: _ :: _ :: _ :: _ :: _ :: _ :: _ :: _ :: _ :: _ :: _ :: []) _ _
            go_wp2_with fail
            all_goals
              go_ret
              exact ⟨by first | rfl | simp, HA2.out⟩
        · have HN := Lib.hid (show B = false from by rw [HB.out]; exact sameB_no (·.da) e)
          have eb : (a_da.toList == b_da.toList) = false := by rw [eqS_eq]; exact decide_eq_false e
          obtain rfl := HN.out
          clear e
          clear HQ
          refine wp_region_lit ?_
          show wpList _ _ _ (_ :: _ :: _ :: _ :: _ :: _ :: _ :: _ :: _ :: _ :: _ :: _ :: _ :: _ :: _ :: _ :: _ :: _ :: _ :: _ :: _ :: _ :: _ :: _ :: _ :: _ :: _ :: _ :: _ :: _ :: _ :: _ :: _ :: _ :: _ :: _ :: _ :: _ :: _ :: _ :: _ :: _ :: _ :: _ :: _ :: _ :: _ :: _ :: _ :: _ :: _ :: _ :: _ :: _ :: _ :: _ :: _ :: _ :: _ :: _ :: _ :: _ :: _ :: _ :: _ :: _ :: _ :: _ :: _ :: _ :: _ :: _ :: _ :: _ :: _ :: _ :: _ :: _ :: _ :: _ :: _ :: _ :: _ :: _ :: _ :: _ :: _ :: _ :: _ :: _ :: _ :: _ :: _ :: _ :: _ :: _ :: _ :: _ :: _ :: _ :: _ :: _ :: _ :: _ :: _ :: _ :: _ :: _ :: _ :: _ :: _ :: []) _ _
          go_wp2_with fail
          all_goals
            go_ret
            exact ⟨by first | rfl | simp, HA2.out⟩
      · have HN := Lib.hid (show B = false from by rw [HB.out]; exact sameB_no (·.at_) e)
        have eb : (a_at_ == b_at_) = false := by rw [beq_eq_false_iff_ne]; exact e
        obtain rfl := HN.out
        clear e
        clear HQ
        refine wp_region_lit ?_
        show wpList _ _ _ (_ :: _ :: _ :: _ :: _ :: _ :: _ :: _ :: _ :: _ :: _ :: _ :: _ :: _ :: _ :: _ :: _ :: _ :: _ :: _ :: _ :: _ :: _ :: _ :: _ :: _ :: _ :: _ :: _ :: _ :: _ :: _ :: _ :: _ :: _ :: _ :: _ :: _ :: _ :: _ :: _ :: _ :: _ :: _ :: _ :: _ :: _ :: _ :: _ :: _ :: _ :: _ :: _ :: _ :: _ :: _ :: _ :: _ :: _ :: _ :: _ :: _ :: _ :: _ :: _ :: _ :: _ :: _ :: _ :: _ :: _ :: _ :: _ :: _ :: _ :: _ :: _ :: _ :: _ :: _ :: _ :: _ :: _ :: _ :: _ :: _ :: _ :: _ :: _ :: _ :: _ :: _ :: _ :: _ :: _ :: _ :: _ :: _ :: _ :: _ :: _ :: _ :: _ :: _ :: _ :: _ :: _ :: _ :: _ :: _ :: _ :: []) _ _
        go_wp2_with fail
        all_goals
          go_ret
          exact ⟨by first | rfl | simp, HA2.out⟩
    · have HN := Lib.hid (show B = false from by rw [HB.out]; exact sameB_no (·.mo) e)
      have eb : (a_mo == b_mo) = false := by rw [beq_eq_false_iff_ne]; exact e
      obtain rfl := HN.out
      clear e
      clear HQ
      refine wp_region_lit ?_
      show wpList _ _ _ (_ :: _ :: _ :: _ :: _ :: _ :: _ :: _ :: _ :: _ :: _ :: _ :: _ :: _ :: _ :: _ :: _ :: _ :: _ :: _ :: _ :: _ :: _ :: _ :: _ :: _ :: _ :: _ :: _ :: _ :: _ :: _ :: _ :: _ :: _ :: _ :: _ :: _ :: _ :: _ :: _ :: _ :: _ :: _ :: _ :: _ :: _ :: _ :: _ :: _ :: _ :: _ :: _ :: _ :: _ :: _ :: _ :: _ :: _ :: _ :: _ :: _ :: _ :: _ :: _ :: _ :: _ :: _ :: _ :: _ :: _ :: _ :: _ :: _ :: _ :: _ :: _ :: _ :: _ :: _ :: _ :: _ :: _ :: _ :: _ :: _ :: _ :: _ :: _ :: _ :: _ :: _ :: _ :: _ :: _ :: _ :: _ :: _ :: _ :: _ :: _ :: _ :: _ :: _ :: _ :: _ :: _ :: _ :: _ :: _ :: _ :: []) _ _
      go_wp2_with fail
      all_goals
        go_ret
        exact ⟨by first | rfl | simp, HA2.out⟩
  · have HN := Lib.hid (show B = false from by rw [HB.out]; exact sameB_no (·.ot) e)
    have eb : (a_ot.toList == b_ot.toList) = false := by rw [eqS_eq]; exact decide_eq_false e
    obtain rfl := HN.out
    clear e
    clear HQ
    refine wp_region_lit ?_
    show wpList _ _ _ (_ :: _ :: _ :: _ :: _ :: _ :: _ :: _ :: _ :: _ :: _ :: _ :: _ :: _ :: _ :: _ :: _ :: _ :: _ :: _ :: _ :: _ :: _ :: _ :: _ :: _ :: _ :: _ :: _ :: _ :: _ :: _ :: _ :: _ :: _ :: _ :: _ :: _ :: _ :: _ :: _ :: _ :: _ :: _ :: _ :: _ :: _ :: _ :: _ :: _ :: _ :: _ :: _ :: _ :: _ :: _ :: _ :: _ :: _ :: _ :: _ :: _ :: _ :: _ :: _ :: _ :: _ :: _ :: _ :: _ :: _ :: _ :: _ :: _ :: _ :: _ :: _ :: _ :: _ :: _ :: _ :: _ :: _ :: _ :: _ :: _ :: _ :: _ :: _ :: _ :: _ :: _ :: _ :: _ :: _ :: _ :: _ :: _ :: _ :: _ :: _ :: _ :: _ :: _ :: _ :: _ :: _ :: _ :: _ :: _ :: _ :: []) _ _
    go_wp2_with fail
    all_goals
      go_ret
      exact ⟨by first | rfl | simp, HA2.out⟩
end Go.Proofs.Ytpgeebhepegpaaa
