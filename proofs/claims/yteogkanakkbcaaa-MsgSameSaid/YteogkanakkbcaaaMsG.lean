/- Same of messages: the program's and the document's. (Made by mkmssame.py.) -/
import Derived.Test.YteogkanakkbcaaaMsB
import Derived.Test.YteogkanakkbcaaaDrS
namespace Go.Proofs.Yteogkanakkbcaaa
open Go.ChangeShapes Go.WideShapes Go.ChangeAt Go.RowKit

set_option maxRecDepth 3000 in
set_option maxHeartbeats 3200000 in
theorem sleqe_any (v1 v2 : Value) (l m : List En) (w : World) (h1 : EnR7 w v1 l) (h2 : EnR7 w v2 m) : Calls Try.prog 25 #[v1, v2] w fun x w' => x = .returned (.bool (decide (l = m))) ∧ ∃ j, w' = w.drewN j := by
  obtain ⟨A1, c1, rfl, hnc1, hcm1⟩ := h1.form
  obtain ⟨A2, c2, rfl, _, _⟩ := h2.form
  obtain ⟨N, hN⟩ : ∃ N, N = l.length := ⟨_, rfl⟩
  obtain ⟨M, hM⟩ : ∃ N, N = m.length := ⟨_, rfl⟩
  have hbig : (N : Int) ≤ 9223372036854775807 := by unfold maxLen at hcm1; omega
  rw [← hN] at h1 ⊢
  rw [← hM] at h2 ⊢
  have H1 := Lib.hid h1
  have H2 := Lib.hid h2
  have HN := Lib.hid hN
  have HM := Lib.hid hM
  clear h1 h2 hN hM hnc1 hcm1
  by_cases hne : N = M
  · subst hne
    go_enter Try.func25, Try.ntmps25
    go_wp2_with fail
    go_loopw [13] (SaL w N l m) (fun t _ => N - (intOf t).toNat)
    case atStart => exact ⟨0, 0, Nat.zero_le _, rfl, fun i hi => absurd hi (Nat.not_lt_zero _), rfl⟩
    case round =>
      obtain ⟨k, j, hk, rfl, hpre, rfl⟩ := hrel
      have HPRE := Lib.hid hpre
      clear hpre
      by_cases hlt : k < N
      · have hkl : k < l.length := by rw [← HN.out]; exact hlt
        have hkm : k < m.length := by rw [← HM.out]; exact hlt
        obtain ⟨b1, o1, rfl, hb1, f0, f1, f2, f3⟩ := H1.out.at_ HN.out hkl
        obtain ⟨b2, o2, rfl, hb2, g0, g1, g2, g3⟩ := H2.out.at_ HM.out hkm
        have HPQ := Lib.hid (show l[k]? = some l[k] ∧ m[k]? = some m[k] from ⟨List.getElem?_eq_getElem hkl, List.getElem?_eq_getElem hkm⟩)
        obtain ⟨p, hp⟩ : ∃ p, p = l[k] := ⟨_, rfl⟩
        obtain ⟨q, hq⟩ : ∃ q, q = m[k] := ⟨_, rfl⟩
        rw [← hp] at f0 f1 f2 f3 HPQ
        rw [← hq] at g0 g1 g2 g3 HPQ
        have HLT := Lib.hid hlt
        have hki : (k : Int) < (N : Int) := by omega
        clear hp hq hkl hkm hb1 hb2 hlt hk
        obtain ⟨s, i, g, d⟩ := p
        obtain ⟨s', i', g', d'⟩ := q
        simp only at f0 f1 f2 f3 g0 g1 g2 g3
        go_upto_region 6 with (fail)
        by_cases hall : s = s' ∧ i = i' ∧ g = g' ∧ d = d'
        · obtain ⟨rfl, rfl, rfl, rfl⟩ := hall
          go_quiet (fail)
          go_wp2_with fail
          refine ⟨⟨k + 1, _, HLT.out, by go_num, fun i hi => ?_, rfl⟩, by have := HLT.out; simp [intOf] <;> omega⟩
          by_cases e : i = k
          · rw [e, HPQ.out.1, HPQ.out.2]
          · exact HPRE.out i (by omega)
        · have HALL := Lib.hid hall
          have HDEC := Lib.hid (show decide (l = m) = false from decide_eq_false fun e => HALL.out (by have h := HPQ.out; rw [e, h.2] at h; have h := Option.some.inj h.1; injection h with h1 h2 h3 h4; exact ⟨h1.symm, h2.symm, h3.symm, h4.symm⟩))
          by_cases e1 : s = s'
          · subst e1
            by_cases e2 : i = i'
            · subst e2
              by_cases e3 : g = g'
              · subst e3
                have e4 : (d == d') = false := by rw [beq_eq_false_iff_ne]; exact fun e => HALL.out ⟨rfl, rfl, rfl, e⟩
                clear hall
                go_quiet (fail)
                go_wp2_with fail
                go_ret
                exact ⟨by rw [HDEC.out]; rfl, _, rfl⟩
              · have e4 : (g == g') = false := by rw [beq_eq_false_iff_ne]; exact e3
                clear hall e3
                go_quiet (fail)
                go_wp2_with fail
                go_ret
                exact ⟨by rw [HDEC.out]; rfl, _, rfl⟩
            · have e4 : (i == i') = false := by rw [beq_eq_false_iff_ne]; exact e2
              clear hall e2
              go_quiet (fail)
              go_wp2_with fail
              go_ret
              exact ⟨by rw [HDEC.out]; rfl, _, rfl⟩
          · have e4 : (s.toList == s'.toList) = false := by rw [eqS_eq]; exact decide_eq_false e1
            clear hall e1
            go_quiet (fail)
            go_wp2_with fail
            go_ret
            exact ⟨by rw [HDEC.out]; rfl, _, World.drewN_drewN _ _ _⟩
      · obtain rfl : k = N := by omega
        clear hlt hk
        go_wp2_with fail
        go_ret
        refine ⟨?_, j, rfl⟩
        rw [decide_eq_true]
        · rfl
        · apply List.ext_getElem?
          intro i
          by_cases hi : i < k
          · exact HPRE.out i hi
          · rw [List.getElem?_eq_none (by rw [← HN.out]; omega), List.getElem?_eq_none (by rw [← HM.out]; omega)]
  · have hni : ((N : Int) == (M : Int)) = false := by rw [beq_eq_false_iff_ne]; omega
    have HNE := Lib.hid hne
    clear hne
    go_enter Try.func25, Try.ntmps25
    go_wp2_with fail
    all_goals
      go_ret
      refine ⟨?_, 0, rfl⟩
      rw [decide_eq_false]
      · rfl
      · exact fun e => HNE.out (by rw [HN.out, HM.out, e])

open Classical in
noncomputable def sameB (a b : Ms) : Bool := decide (a = b)
open Classical in
set_option maxRecDepth 3000 in
theorem sameB_no {a b : Ms} {α : Type} (f : Ms → α) (h : ¬ f a = f b) : sameB a b = false := decide_eq_false fun e => h (by rw [e])
open Classical in
set_option maxRecDepth 3000 in
theorem sameB_self (a : Ms) : sameB a a = true := decide_eq_true rfl
open Classical in
set_option maxRecDepth 3000 in
theorem sameB_iff (a b : Ms) : sameB a b = true ↔ a = b := decide_eq_true_iff
open Classical in
set_option maxRecDepth 3000 in
theorem sameB_en (a b : Ms) (h : a = { b with en := a.en }) : sameB a b = decide (a.en = b.en) := by
  unfold sameB
  by_cases e : a.en = b.en
  · rw [decide_eq_true e, decide_eq_true]
    rw [h, e]
  · rw [decide_eq_false e, decide_eq_false]
    exact fun x => e (by rw [x])
set_option maxRecDepth 3000 in
set_option maxHeartbeats 12800000 in
theorem msame_any (x y : Ms) (va vb : Value) (w : World) (hEa : EnR7 w va x.en) (hEb : EnR7 w vb y.en) : Calls Try.prog 12 #[.agg (mc x va), .agg (mc y vb)] w fun e w' => e = .returned (.bool (sameB x y)) ∧ Adv Nul w Nul w' := by
  obtain ⟨B, hB⟩ : ∃ B, B = sameB x y := ⟨_, rfl⟩
  rw [← hB]
  have HB := Lib.hid hB
  obtain ⟨C, hC⟩ : ∃ C, C = mc x va := ⟨_, rfl⟩
  obtain ⟨D, hD⟩ : ∃ C, C = mc y vb := ⟨_, rfl⟩
  have HC := Lib.hid (fun (z : Nat) (w' : World) (h : Blk w' z 28 C) => (show C18 w' z x va from (show Blk w' z 28 (mc x va) by rw [← hC]; exact h).c18))
  have HD := Lib.hid (fun (z : Nat) (w' : World) (h : Blk w' z 28 D) => (show C18 w' z y vb from (show Blk w' z 28 (mc y vb) by rw [← hD]; exact h).c18))
  have HE := Lib.hid (fun w' (a : Adv Nul w Nul w') => sleqe_any va vb x.en y.en w' (hEa.step a) (hEb.step a))
  rw [← hC, ← hD]
  clear hC hD hB hEa hEb
  obtain ⟨a_ty, a_cl, a_ss, a_sq, a_bo, a_kd, a_er, a_fi, a_fg, a_di, a_dg, a_nm, a_ot, a_mo, a_at_, a_da, a_ve, la⟩ := x
  obtain ⟨b_ty, b_cl, b_ss, b_sq, b_bo, b_kd, b_er, b_fi, b_fg, b_di, b_dg, b_nm, b_ot, b_mo, b_at_, b_da, b_ve, lb⟩ := y
  simp only at HE
  go_enter Try.func12, Try.ntmps12
  go_upto_region 1 with (first
    | (refine kop_box rfl _ rfl rfl ?_; intro z w1 hz hb ha; have HA1 := Lib.hid ((Adv.refl Nul w).trans ha); have HB1 := Lib.hid hb; clear hz hb ha)
    | (refine kop_box rfl _ rfl rfl ?_; intro y w2 hz hb ha; have HA2 := Lib.hid (HA1.out.trans ha); have HY2 := Lib.hid hb; have HZ2 := Lib.hid (HB1.out.over ha); clear hz hb ha HB1)
    | fail)
  obtain ⟨⟨s0, s1, s2, s3, s4, s5, s6⟩, ⟨s7, s8, s9, s10⟩, ⟨s11, s12, s13, s14, s15, s16, s17⟩⟩ := HC.out _ _ HZ2.out
  obtain ⟨⟨q0, q1, q2, q3, q4, q5, q6⟩, ⟨q7, q8, q9, q10⟩, ⟨q11, q12, q13, q14, q15, q16, q17⟩⟩ := HD.out _ _ HY2.out
  simp only at s0 s1 s2 s3 s4 s5 s6 s7 s8 s9 s10 s11 s12 s13 s14 s15 s16 s17 q0 q1 q2 q3 q4 q5 q6 q7 q8 q9 q10 q11 q12 q13 q14 q15 q16 q17
  clear HC HD HZ2 HY2
  by_cases e : a_ty = b_ty
  · subst e
    by_cases e : a_cl = b_cl
    · subst e
      by_cases e : a_ss = b_ss
      · subst e
        by_cases e : a_sq = b_sq
        · subst e
          by_cases e : a_bo = b_bo
          · subst e
            by_cases e : a_kd = b_kd
            · subst e
              by_cases e : a_er = b_er
              · subst e
                by_cases e : a_fi = b_fi
                · subst e
                  by_cases e : a_fg = b_fg
                  · subst e
                    by_cases e : a_di = b_di
                    · subst e
                      by_cases e : a_dg = b_dg
                      · subst e
                        by_cases e : a_nm = b_nm
                        · subst e
                          by_cases e : a_ot = b_ot
                          · subst e
                            by_cases e : a_mo = b_mo
                            · subst e
                              by_cases e : a_at_ = b_at_
                              · subst e
                                by_cases e : a_da = b_da
                                · subst e
                                  by_cases e : a_ve = b_ve
                                  · subst e
                                    have HJ := Lib.hid (show B = decide (la = lb) from by rw [HB.out]; exact sameB_en _ _ rfl)
                                    obtain ⟨J, hJ⟩ : ∃ J, J = decide (la = lb) := ⟨_, rfl⟩
                                    rw [← hJ] at HJ HE
                                    obtain rfl := HJ.out
                                    clear hJ
                                    refine wp_region_lit ?_
                                    show wpList _ _ _ (_ :: _ :: _ :: _ :: _ :: _ :: _ :: _ :: _ :: _ :: _ :: _ :: _ :: _ :: _ :: _ :: _ :: _ :: _ :: _ :: _ :: _ :: _ :: _ :: _ :: _ :: _ :: _ :: _ :: _ :: _ :: _ :: _ :: _ :: _ :: _ :: _ :: _ :: _ :: _ :: _ :: _ :: _ :: _ :: _ :: _ :: _ :: _ :: _ :: _ :: _ :: _ :: _ :: _ :: _ :: _ :: _ :: _ :: _ :: _ :: _ :: _ :: _ :: _ :: _ :: _ :: _ :: _ :: _ :: _ :: _ :: _ :: _ :: _ :: _ :: _ :: _ :: _ :: _ :: _ :: _ :: _ :: _ :: _ :: _ :: _ :: _ :: _ :: _ :: _ :: _ :: _ :: _ :: _ :: _ :: _ :: _ :: _ :: _ :: _ :: _ :: _ :: _ :: _ :: _ :: _ :: _ :: _ :: _ :: _ :: _ :: []) _ _
                                    go_wp2_with (first
                                      | (go_at_call 25; refine (HE.out _ HA2.out).mono ?_; rintro r w3 ⟨rfl, j, rfl⟩)
                                      | fail)
                                    go_ret
                                    exact ⟨by first | rfl | simp, HA2.out.drewN _⟩
                                  · have HN := Lib.hid (show B = false from by rw [HB.out]; exact sameB_no (·.ve) e)
                                    have eb : ((a_ve : Int) == (b_ve : Int)) = false := by rw [beq_eq_false_iff_ne]; omega
                                    obtain rfl := HN.out
                                    clear e
                                    refine wp_region_lit ?_
                                    show wpList _ _ _ (_ :: _ :: _ :: _ :: _ :: _ :: _ :: _ :: _ :: _ :: _ :: _ :: _ :: _ :: _ :: _ :: _ :: _ :: _ :: _ :: _ :: _ :: _ :: _ :: _ :: _ :: _ :: _ :: _ :: _ :: _ :: _ :: _ :: _ :: _ :: _ :: _ :: _ :: _ :: _ :: _ :: _ :: _ :: _ :: _ :: _ :: _ :: _ :: _ :: _ :: _ :: _ :: _ :: _ :: _ :: _ :: _ :: _ :: _ :: _ :: _ :: _ :: _ :: _ :: _ :: _ :: _ :: _ :: _ :: _ :: _ :: _ :: _ :: _ :: _ :: _ :: _ :: _ :: _ :: _ :: _ :: _ :: _ :: _ :: _ :: _ :: _ :: _ :: _ :: _ :: _ :: _ :: _ :: _ :: _ :: _ :: _ :: _ :: _ :: _ :: _ :: _ :: _ :: _ :: _ :: _ :: _ :: _ :: _ :: _ :: _ :: []) _ _
                                    go_wp2_with fail
                                    all_goals
                                      go_ret
                                      exact ⟨by first | rfl | simp, HA2.out⟩
                                · have HN := Lib.hid (show B = false from by rw [HB.out]; exact sameB_no (·.da) e)
                                  have eb : (a_da.toList == b_da.toList) = false := by rw [eqS_eq]; exact decide_eq_false e
                                  obtain rfl := HN.out
                                  clear e
                                  refine wp_region_lit ?_
                                  show wpList _ _ _ (_ :: _ :: _ :: _ :: _ :: _ :: _ :: _ :: _ :: _ :: _ :: _ :: _ :: _ :: _ :: _ :: _ :: _ :: _ :: _ :: _ :: _ :: _ :: _ :: _ :: _ :: _ :: _ :: _ :: _ :: _ :: _ :: _ :: _ :: _ :: _ :: _ :: _ :: _ :: _ :: _ :: _ :: _ :: _ :: _ :: _ :: _ :: _ :: _ :: _ :: _ :: _ :: _ :: _ :: _ :: _ :: _ :: _ :: _ :: _ :: _ :: _ :: _ :: _ :: _ :: _ :: _ :: _ :: _ :: _ :: _ :: _ :: _ :: _ :: _ :: _ :: _ :: _ :: _ :: _ :: _ :: _ :: _ :: _ :: _ :: _ :: _ :: _ :: _ :: _ :: _ :: _ :: _ :: _ :: _ :: _ :: _ :: _ :: _ :: _ :: _ :: _ :: _ :: _ :: _ :: _ :: _ :: _ :: _ :: _ :: _ :: []) _ _
                                  go_wp2_with fail
                                  all_goals
                                    go_ret
                                    exact ⟨by first | rfl | simp, HA2.out⟩
                              · have HN := Lib.hid (show B = false from by rw [HB.out]; exact sameB_no (·.at_) e)
                                have eb : (a_at_ == b_at_) = false := by rw [beq_eq_false_iff_ne]; exact e
                                obtain rfl := HN.out
                                clear e
                                refine wp_region_lit ?_
                                show wpList _ _ _ (_ :: _ :: _ :: _ :: _ :: _ :: _ :: _ :: _ :: _ :: _ :: _ :: _ :: _ :: _ :: _ :: _ :: _ :: _ :: _ :: _ :: _ :: _ :: _ :: _ :: _ :: _ :: _ :: _ :: _ :: _ :: _ :: _ :: _ :: _ :: _ :: _ :: _ :: _ :: _ :: _ :: _ :: _ :: _ :: _ :: _ :: _ :: _ :: _ :: _ :: _ :: _ :: _ :: _ :: _ :: _ :: _ :: _ :: _ :: _ :: _ :: _ :: _ :: _ :: _ :: _ :: _ :: _ :: _ :: _ :: _ :: _ :: _ :: _ :: _ :: _ :: _ :: _ :: _ :: _ :: _ :: _ :: _ :: _ :: _ :: _ :: _ :: _ :: _ :: _ :: _ :: _ :: _ :: _ :: _ :: _ :: _ :: _ :: _ :: _ :: _ :: _ :: _ :: _ :: _ :: _ :: _ :: _ :: _ :: _ :: _ :: []) _ _
                                go_wp2_with fail
                                all_goals
                                  go_ret
                                  exact ⟨by first | rfl | simp, HA2.out⟩
                            · have HN := Lib.hid (show B = false from by rw [HB.out]; exact sameB_no (·.mo) e)
                              have eb : (a_mo == b_mo) = false := by rw [beq_eq_false_iff_ne]; exact e
                              obtain rfl := HN.out
                              clear e
                              refine wp_region_lit ?_
                              show wpList _ _ _ (_ :: _ :: _ :: _ :: _ :: _ :: _ :: _ :: _ :: _ :: _ :: _ :: _ :: _ :: _ :: _ :: _ :: _ :: _ :: _ :: _ :: _ :: _ :: _ :: _ :: _ :: _ :: _ :: _ :: _ :: _ :: _ :: _ :: _ :: _ :: _ :: _ :: _ :: _ :: _ :: _ :: _ :: _ :: _ :: _ :: _ :: _ :: _ :: _ :: _ :: _ :: _ :: _ :: _ :: _ :: _ :: _ :: _ :: _ :: _ :: _ :: _ :: _ :: _ :: _ :: _ :: _ :: _ :: _ :: _ :: _ :: _ :: _ :: _ :: _ :: _ :: _ :: _ :: _ :: _ :: _ :: _ :: _ :: _ :: _ :: _ :: _ :: _ :: _ :: _ :: _ :: _ :: _ :: _ :: _ :: _ :: _ :: _ :: _ :: _ :: _ :: _ :: _ :: _ :: _ :: _ :: _ :: _ :: _ :: _ :: _ :: []) _ _
                              go_wp2_with fail
                              all_goals
                                go_ret
                                exact ⟨by first | rfl | simp, HA2.out⟩
                          · have HN := Lib.hid (show B = false from by rw [HB.out]; exact sameB_no (·.ot) e)
                            have eb : (a_ot.toList == b_ot.toList) = false := by rw [eqS_eq]; exact decide_eq_false e
                            obtain rfl := HN.out
                            clear e
                            refine wp_region_lit ?_
                            show wpList _ _ _ (_ :: _ :: _ :: _ :: _ :: _ :: _ :: _ :: _ :: _ :: _ :: _ :: _ :: _ :: _ :: _ :: _ :: _ :: _ :: _ :: _ :: _ :: _ :: _ :: _ :: _ :: _ :: _ :: _ :: _ :: _ :: _ :: _ :: _ :: _ :: _ :: _ :: _ :: _ :: _ :: _ :: _ :: _ :: _ :: _ :: _ :: _ :: _ :: _ :: _ :: _ :: _ :: _ :: _ :: _ :: _ :: _ :: _ :: _ :: _ :: _ :: _ :: _ :: _ :: _ :: _ :: _ :: _ :: _ :: _ :: _ :: _ :: _ :: _ :: _ :: _ :: _ :: _ :: _ :: _ :: _ :: _ :: _ :: _ :: _ :: _ :: _ :: _ :: _ :: _ :: _ :: _ :: _ :: _ :: _ :: _ :: _ :: _ :: _ :: _ :: _ :: _ :: _ :: _ :: _ :: _ :: _ :: _ :: _ :: _ :: _ :: []) _ _
                            go_wp2_with fail
                            all_goals
                              go_ret
                              exact ⟨by first | rfl | simp, HA2.out⟩
                        · have HN := Lib.hid (show B = false from by rw [HB.out]; exact sameB_no (·.nm) e)
                          have eb : (a_nm.toList == b_nm.toList) = false := by rw [eqS_eq]; exact decide_eq_false e
                          obtain rfl := HN.out
                          clear e
                          refine wp_region_lit ?_
                          show wpList _ _ _ (_ :: _ :: _ :: _ :: _ :: _ :: _ :: _ :: _ :: _ :: _ :: _ :: _ :: _ :: _ :: _ :: _ :: _ :: _ :: _ :: _ :: _ :: _ :: _ :: _ :: _ :: _ :: _ :: _ :: _ :: _ :: _ :: _ :: _ :: _ :: _ :: _ :: _ :: _ :: _ :: _ :: _ :: _ :: _ :: _ :: _ :: _ :: _ :: _ :: _ :: _ :: _ :: _ :: _ :: _ :: _ :: _ :: _ :: _ :: _ :: _ :: _ :: _ :: _ :: _ :: _ :: _ :: _ :: _ :: _ :: _ :: _ :: _ :: _ :: _ :: _ :: _ :: _ :: _ :: _ :: _ :: _ :: _ :: _ :: _ :: _ :: _ :: _ :: _ :: _ :: _ :: _ :: _ :: _ :: _ :: _ :: _ :: _ :: _ :: _ :: _ :: _ :: _ :: _ :: _ :: _ :: _ :: _ :: _ :: _ :: _ :: []) _ _
                          go_wp2_with fail
                          all_goals
                            go_ret
                            exact ⟨by first | rfl | simp, HA2.out⟩
                      · have HN := Lib.hid (show B = false from by rw [HB.out]; exact sameB_no (·.dg) e)
                        have eb : (a_dg == b_dg) = false := by rw [beq_eq_false_iff_ne]; exact e
                        obtain rfl := HN.out
                        clear e
                        refine wp_region_lit ?_
                        show wpList _ _ _ (_ :: _ :: _ :: _ :: _ :: _ :: _ :: _ :: _ :: _ :: _ :: _ :: _ :: _ :: _ :: _ :: _ :: _ :: _ :: _ :: _ :: _ :: _ :: _ :: _ :: _ :: _ :: _ :: _ :: _ :: _ :: _ :: _ :: _ :: _ :: _ :: _ :: _ :: _ :: _ :: _ :: _ :: _ :: _ :: _ :: _ :: _ :: _ :: _ :: _ :: _ :: _ :: _ :: _ :: _ :: _ :: _ :: _ :: _ :: _ :: _ :: _ :: _ :: _ :: _ :: _ :: _ :: _ :: _ :: _ :: _ :: _ :: _ :: _ :: _ :: _ :: _ :: _ :: _ :: _ :: _ :: _ :: _ :: _ :: _ :: _ :: _ :: _ :: _ :: _ :: _ :: _ :: _ :: _ :: _ :: _ :: _ :: _ :: _ :: _ :: _ :: _ :: _ :: _ :: _ :: _ :: _ :: _ :: _ :: _ :: _ :: []) _ _
                        go_wp2_with fail
                        all_goals
                          go_ret
                          exact ⟨by first | rfl | simp, HA2.out⟩
                    · have HN := Lib.hid (show B = false from by rw [HB.out]; exact sameB_no (·.di) e)
                      have eb : (a_di == b_di) = false := by rw [beq_eq_false_iff_ne]; exact e
                      obtain rfl := HN.out
                      clear e
                      refine wp_region_lit ?_
                      show wpList _ _ _ (_ :: _ :: _ :: _ :: _ :: _ :: _ :: _ :: _ :: _ :: _ :: _ :: _ :: _ :: _ :: _ :: _ :: _ :: _ :: _ :: _ :: _ :: _ :: _ :: _ :: _ :: _ :: _ :: _ :: _ :: _ :: _ :: _ :: _ :: _ :: _ :: _ :: _ :: _ :: _ :: _ :: _ :: _ :: _ :: _ :: _ :: _ :: _ :: _ :: _ :: _ :: _ :: _ :: _ :: _ :: _ :: _ :: _ :: _ :: _ :: _ :: _ :: _ :: _ :: _ :: _ :: _ :: _ :: _ :: _ :: _ :: _ :: _ :: _ :: _ :: _ :: _ :: _ :: _ :: _ :: _ :: _ :: _ :: _ :: _ :: _ :: _ :: _ :: _ :: _ :: _ :: _ :: _ :: _ :: _ :: _ :: _ :: _ :: _ :: _ :: _ :: _ :: _ :: _ :: _ :: _ :: _ :: _ :: _ :: _ :: _ :: []) _ _
                      go_wp2_with fail
                      all_goals
                        go_ret
                        exact ⟨by first | rfl | simp, HA2.out⟩
                  · have HN := Lib.hid (show B = false from by rw [HB.out]; exact sameB_no (·.fg) e)
                    have eb : (a_fg == b_fg) = false := by rw [beq_eq_false_iff_ne]; exact e
                    obtain rfl := HN.out
                    clear e
                    refine wp_region_lit ?_
                    show wpList _ _ _ (_ :: _ :: _ :: _ :: _ :: _ :: _ :: _ :: _ :: _ :: _ :: _ :: _ :: _ :: _ :: _ :: _ :: _ :: _ :: _ :: _ :: _ :: _ :: _ :: _ :: _ :: _ :: _ :: _ :: _ :: _ :: _ :: _ :: _ :: _ :: _ :: _ :: _ :: _ :: _ :: _ :: _ :: _ :: _ :: _ :: _ :: _ :: _ :: _ :: _ :: _ :: _ :: _ :: _ :: _ :: _ :: _ :: _ :: _ :: _ :: _ :: _ :: _ :: _ :: _ :: _ :: _ :: _ :: _ :: _ :: _ :: _ :: _ :: _ :: _ :: _ :: _ :: _ :: _ :: _ :: _ :: _ :: _ :: _ :: _ :: _ :: _ :: _ :: _ :: _ :: _ :: _ :: _ :: _ :: _ :: _ :: _ :: _ :: _ :: _ :: _ :: _ :: _ :: _ :: _ :: _ :: _ :: _ :: _ :: _ :: _ :: []) _ _
                    go_wp2_with fail
                    all_goals
                      go_ret
                      exact ⟨by first | rfl | simp, HA2.out⟩
                · have HN := Lib.hid (show B = false from by rw [HB.out]; exact sameB_no (·.fi) e)
                  have eb : (a_fi == b_fi) = false := by rw [beq_eq_false_iff_ne]; exact e
                  obtain rfl := HN.out
                  clear e
                  refine wp_region_lit ?_
                  show wpList _ _ _ (_ :: _ :: _ :: _ :: _ :: _ :: _ :: _ :: _ :: _ :: _ :: _ :: _ :: _ :: _ :: _ :: _ :: _ :: _ :: _ :: _ :: _ :: _ :: _ :: _ :: _ :: _ :: _ :: _ :: _ :: _ :: _ :: _ :: _ :: _ :: _ :: _ :: _ :: _ :: _ :: _ :: _ :: _ :: _ :: _ :: _ :: _ :: _ :: _ :: _ :: _ :: _ :: _ :: _ :: _ :: _ :: _ :: _ :: _ :: _ :: _ :: _ :: _ :: _ :: _ :: _ :: _ :: _ :: _ :: _ :: _ :: _ :: _ :: _ :: _ :: _ :: _ :: _ :: _ :: _ :: _ :: _ :: _ :: _ :: _ :: _ :: _ :: _ :: _ :: _ :: _ :: _ :: _ :: _ :: _ :: _ :: _ :: _ :: _ :: _ :: _ :: _ :: _ :: _ :: _ :: _ :: _ :: _ :: _ :: _ :: _ :: []) _ _
                  go_wp2_with fail
                  all_goals
                    go_ret
                    exact ⟨by first | rfl | simp, HA2.out⟩
              · have HN := Lib.hid (show B = false from by rw [HB.out]; exact sameB_no (·.er) e)
                have eb : (a_er == b_er) = false := by rw [beq_eq_false_iff_ne]; exact e
                obtain rfl := HN.out
                clear e
                refine wp_region_lit ?_
                show wpList _ _ _ (_ :: _ :: _ :: _ :: _ :: _ :: _ :: _ :: _ :: _ :: _ :: _ :: _ :: _ :: _ :: _ :: _ :: _ :: _ :: _ :: _ :: _ :: _ :: _ :: _ :: _ :: _ :: _ :: _ :: _ :: _ :: _ :: _ :: _ :: _ :: _ :: _ :: _ :: _ :: _ :: _ :: _ :: _ :: _ :: _ :: _ :: _ :: _ :: _ :: _ :: _ :: _ :: _ :: _ :: _ :: _ :: _ :: _ :: _ :: _ :: _ :: _ :: _ :: _ :: _ :: _ :: _ :: _ :: _ :: _ :: _ :: _ :: _ :: _ :: _ :: _ :: _ :: _ :: _ :: _ :: _ :: _ :: _ :: _ :: _ :: _ :: _ :: _ :: _ :: _ :: _ :: _ :: _ :: _ :: _ :: _ :: _ :: _ :: _ :: _ :: _ :: _ :: _ :: _ :: _ :: _ :: _ :: _ :: _ :: _ :: _ :: []) _ _
                go_wp2_with fail
                all_goals
                  go_ret
                  exact ⟨by first | rfl | simp, HA2.out⟩
            · have HN := Lib.hid (show B = false from by rw [HB.out]; exact sameB_no (·.kd) e)
              have eb : (a_kd == b_kd) = false := by rw [beq_eq_false_iff_ne]; exact e
              obtain rfl := HN.out
              clear e
              refine wp_region_lit ?_
              show wpList _ _ _ (_ :: _ :: _ :: _ :: _ :: _ :: _ :: _ :: _ :: _ :: _ :: _ :: _ :: _ :: _ :: _ :: _ :: _ :: _ :: _ :: _ :: _ :: _ :: _ :: _ :: _ :: _ :: _ :: _ :: _ :: _ :: _ :: _ :: _ :: _ :: _ :: _ :: _ :: _ :: _ :: _ :: _ :: _ :: _ :: _ :: _ :: _ :: _ :: _ :: _ :: _ :: _ :: _ :: _ :: _ :: _ :: _ :: _ :: _ :: _ :: _ :: _ :: _ :: _ :: _ :: _ :: _ :: _ :: _ :: _ :: _ :: _ :: _ :: _ :: _ :: _ :: _ :: _ :: _ :: _ :: _ :: _ :: _ :: _ :: _ :: _ :: _ :: _ :: _ :: _ :: _ :: _ :: _ :: _ :: _ :: _ :: _ :: _ :: _ :: _ :: _ :: _ :: _ :: _ :: _ :: _ :: _ :: _ :: _ :: _ :: _ :: []) _ _
              go_wp2_with fail
              all_goals
                go_ret
                exact ⟨by first | rfl | simp, HA2.out⟩
          · have HN := Lib.hid (show B = false from by rw [HB.out]; exact sameB_no (·.bo) e)
            have eb : ((a_bo : Int) == (b_bo : Int)) = false := by rw [beq_eq_false_iff_ne]; omega
            obtain rfl := HN.out
            clear e
            refine wp_region_lit ?_
            show wpList _ _ _ (_ :: _ :: _ :: _ :: _ :: _ :: _ :: _ :: _ :: _ :: _ :: _ :: _ :: _ :: _ :: _ :: _ :: _ :: _ :: _ :: _ :: _ :: _ :: _ :: _ :: _ :: _ :: _ :: _ :: _ :: _ :: _ :: _ :: _ :: _ :: _ :: _ :: _ :: _ :: _ :: _ :: _ :: _ :: _ :: _ :: _ :: _ :: _ :: _ :: _ :: _ :: _ :: _ :: _ :: _ :: _ :: _ :: _ :: _ :: _ :: _ :: _ :: _ :: _ :: _ :: _ :: _ :: _ :: _ :: _ :: _ :: _ :: _ :: _ :: _ :: _ :: _ :: _ :: _ :: _ :: _ :: _ :: _ :: _ :: _ :: _ :: _ :: _ :: _ :: _ :: _ :: _ :: _ :: _ :: _ :: _ :: _ :: _ :: _ :: _ :: _ :: _ :: _ :: _ :: _ :: _ :: _ :: _ :: _ :: _ :: _ :: []) _ _
            go_wp2_with fail
            all_goals
              go_ret
              exact ⟨by first | rfl | simp, HA2.out⟩
        · have HN := Lib.hid (show B = false from by rw [HB.out]; exact sameB_no (·.sq) e)
          have eb : ((a_sq : Int) == (b_sq : Int)) = false := by rw [beq_eq_false_iff_ne]; omega
          obtain rfl := HN.out
          clear e
          refine wp_region_lit ?_
          show wpList _ _ _ (_ :: _ :: _ :: _ :: _ :: _ :: _ :: _ :: _ :: _ :: _ :: _ :: _ :: _ :: _ :: _ :: _ :: _ :: _ :: _ :: _ :: _ :: _ :: _ :: _ :: _ :: _ :: _ :: _ :: _ :: _ :: _ :: _ :: _ :: _ :: _ :: _ :: _ :: _ :: _ :: _ :: _ :: _ :: _ :: _ :: _ :: _ :: _ :: _ :: _ :: _ :: _ :: _ :: _ :: _ :: _ :: _ :: _ :: _ :: _ :: _ :: _ :: _ :: _ :: _ :: _ :: _ :: _ :: _ :: _ :: _ :: _ :: _ :: _ :: _ :: _ :: _ :: _ :: _ :: _ :: _ :: _ :: _ :: _ :: _ :: _ :: _ :: _ :: _ :: _ :: _ :: _ :: _ :: _ :: _ :: _ :: _ :: _ :: _ :: _ :: _ :: _ :: _ :: _ :: _ :: _ :: _ :: _ :: _ :: _ :: _ :: []) _ _
          go_wp2_with fail
          all_goals
            go_ret
            exact ⟨by first | rfl | simp, HA2.out⟩
      · have HN := Lib.hid (show B = false from by rw [HB.out]; exact sameB_no (·.ss) e)
        have eb : ((a_ss : Int) == (b_ss : Int)) = false := by rw [beq_eq_false_iff_ne]; omega
        obtain rfl := HN.out
        clear e
        refine wp_region_lit ?_
        show wpList _ _ _ (_ :: _ :: _ :: _ :: _ :: _ :: _ :: _ :: _ :: _ :: _ :: _ :: _ :: _ :: _ :: _ :: _ :: _ :: _ :: _ :: _ :: _ :: _ :: _ :: _ :: _ :: _ :: _ :: _ :: _ :: _ :: _ :: _ :: _ :: _ :: _ :: _ :: _ :: _ :: _ :: _ :: _ :: _ :: _ :: _ :: _ :: _ :: _ :: _ :: _ :: _ :: _ :: _ :: _ :: _ :: _ :: _ :: _ :: _ :: _ :: _ :: _ :: _ :: _ :: _ :: _ :: _ :: _ :: _ :: _ :: _ :: _ :: _ :: _ :: _ :: _ :: _ :: _ :: _ :: _ :: _ :: _ :: _ :: _ :: _ :: _ :: _ :: _ :: _ :: _ :: _ :: _ :: _ :: _ :: _ :: _ :: _ :: _ :: _ :: _ :: _ :: _ :: _ :: _ :: _ :: _ :: _ :: _ :: _ :: _ :: _ :: []) _ _
        go_wp2_with fail
        all_goals
          go_ret
          exact ⟨by first | rfl | simp, HA2.out⟩
    · have HN := Lib.hid (show B = false from by rw [HB.out]; exact sameB_no (·.cl) e)
      have eb : (a_cl == b_cl) = false := by rw [beq_eq_false_iff_ne]; exact e
      obtain rfl := HN.out
      clear e
      refine wp_region_lit ?_
      show wpList _ _ _ (_ :: _ :: _ :: _ :: _ :: _ :: _ :: _ :: _ :: _ :: _ :: _ :: _ :: _ :: _ :: _ :: _ :: _ :: _ :: _ :: _ :: _ :: _ :: _ :: _ :: _ :: _ :: _ :: _ :: _ :: _ :: _ :: _ :: _ :: _ :: _ :: _ :: _ :: _ :: _ :: _ :: _ :: _ :: _ :: _ :: _ :: _ :: _ :: _ :: _ :: _ :: _ :: _ :: _ :: _ :: _ :: _ :: _ :: _ :: _ :: _ :: _ :: _ :: _ :: _ :: _ :: _ :: _ :: _ :: _ :: _ :: _ :: _ :: _ :: _ :: _ :: _ :: _ :: _ :: _ :: _ :: _ :: _ :: _ :: _ :: _ :: _ :: _ :: _ :: _ :: _ :: _ :: _ :: _ :: _ :: _ :: _ :: _ :: _ :: _ :: _ :: _ :: _ :: _ :: _ :: _ :: _ :: _ :: _ :: _ :: _ :: []) _ _
      go_wp2_with fail
      all_goals
        go_ret
        exact ⟨by first | rfl | simp, HA2.out⟩
  · have HN := Lib.hid (show B = false from by rw [HB.out]; exact sameB_no (·.ty) e)
    have eb : (a_ty == b_ty) = false := by rw [beq_eq_false_iff_ne]; exact e
    obtain rfl := HN.out
    clear e
    refine wp_region_lit ?_
    show wpList _ _ _ (_ :: _ :: _ :: _ :: _ :: _ :: _ :: _ :: _ :: _ :: _ :: _ :: _ :: _ :: _ :: _ :: _ :: _ :: _ :: _ :: _ :: _ :: _ :: _ :: _ :: _ :: _ :: _ :: _ :: _ :: _ :: _ :: _ :: _ :: _ :: _ :: _ :: _ :: _ :: _ :: _ :: _ :: _ :: _ :: _ :: _ :: _ :: _ :: _ :: _ :: _ :: _ :: _ :: _ :: _ :: _ :: _ :: _ :: _ :: _ :: _ :: _ :: _ :: _ :: _ :: _ :: _ :: _ :: _ :: _ :: _ :: _ :: _ :: _ :: _ :: _ :: _ :: _ :: _ :: _ :: _ :: _ :: _ :: _ :: _ :: _ :: _ :: _ :: _ :: _ :: _ :: _ :: _ :: _ :: _ :: _ :: _ :: _ :: _ :: _ :: _ :: _ :: _ :: _ :: _ :: _ :: _ :: _ :: _ :: _ :: _ :: []) _ _
    go_wp2_with fail
    all_goals
      go_ret
      exact ⟨by first | rfl | simp, HA2.out⟩
end Go.Proofs.Yteogkanakkbcaaa
