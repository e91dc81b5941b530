/- The document's Same: whether entries are the same. -/
import Derived.Test.YtpgeebhepegpaaaDrQ
namespace Go.Proofs.Ytpgeebhepegpaaa
open Go.ChangeShapes Go.WideShapes Go.ChangeAt Go.RowKit

instance : DecidableEq En := fun a b => decidable_of_iff (a.s = b.s ∧ a.i = b.i ∧ a.g = b.g ∧ a.k = b.k) ⟨fun h => by cases a; cases b; simp_all, fun h => by subst h; exact ⟨rfl, rfl, rfl, rfl⟩⟩
def SaL (w : World) (N : Nat) (l m : List En) (t : Value) (wr : World) : Prop := ∃ k j : Nat, k ≤ N ∧ t = .int .i64 (k : Int) ∧ (∀ i, i < k → l[i]? = m[i]?) ∧ wr = w.drewN j

set_option maxRecDepth 3000 in
set_option maxHeartbeats 3200000 in
theorem same9_any (v1 v2 : Value) (l m : List En) (w : World) (h1 : EnR7 w v1 l) (h2 : EnR7 w v2 m) : Calls Try.prog 14 #[v1, v2] w fun x w' => x = .returned (.bool (decide (l = m))) ∧ ∃ j, w' = w.drewN j := by
  obtain ⟨A1, c1, rfl, hnc1, hcm1⟩ := h1.form
  obtain ⟨A2, c2, rfl, _, _⟩ := h2.form
  obtain ⟨N, hN⟩ : ∃ N, N = l.length := ⟨_, rfl⟩
  obtain ⟨M, hM⟩ : ∃ N, N = m.length := ⟨_, rfl⟩
  have hbig : (N : Int) ≤ 9223372036854775807 := by unfold maxLen at hcm1; omega
  rw [← hN] at h1 ⊢
  rw [← hM] at h2 ⊢
  have H1 := Lib.hid h1
  have H2 := Lib.hid h2
  have HN := Lib.hid hN
  have HM := Lib.hid hM
  clear h1 h2 hN hM hnc1 hcm1
  by_cases hne : N = M
  · subst hne
    go_enter Try.func14, Try.ntmps14
    go_wp2_with fail
    go_loopw [5] (SaL w N l m) (fun t _ => N - (intOf t).toNat)
    case atStart => exact ⟨0, 0, Nat.zero_le _, rfl, fun i hi => absurd hi (Nat.not_lt_zero _), rfl⟩
    case round =>
      obtain ⟨k, j, hk, rfl, hpre, rfl⟩ := hrel
      have HPRE := Lib.hid hpre
      clear hpre
      by_cases hlt : k < N
      · have hkl : k < l.length := by rw [← HN.out]; exact hlt
        have hkm : k < m.length := by rw [← HM.out]; exact hlt
        obtain ⟨b1, o1, rfl, hb1, f0, f1, f2, f3⟩ := H1.out.at_ HN.out hkl
        obtain ⟨b2, o2, rfl, hb2, g0, g1, g2, g3⟩ := H2.out.at_ HM.out hkm
        have HPQ := Lib.hid (show l[k]? = some l[k] ∧ m[k]? = some m[k] from ⟨List.getElem?_eq_getElem hkl, List.getElem?_eq_getElem hkm⟩)
        obtain ⟨p, hp⟩ : ∃ p, p = l[k] := ⟨_, rfl⟩
        obtain ⟨q, hq⟩ : ∃ q, q = m[k] := ⟨_, rfl⟩
        rw [← hp] at f0 f1 f2 f3 HPQ
        rw [← hq] at g0 g1 g2 g3 HPQ
        have HLT := Lib.hid hlt
        have hki : (k : Int) < (N : Int) := by omega
        clear hp hq hkl hkm hb1 hb2 hlt hk
        obtain ⟨s, i, g, d⟩ := p
        obtain ⟨s', i', g', d'⟩ := q
        simp only at f0 f1 f2 f3 g0 g1 g2 g3
        go_upto_region 6 with (fail)
        by_cases hall : s = s' ∧ i = i' ∧ g = g' ∧ d = d'
        · obtain ⟨rfl, rfl, rfl, rfl⟩ := hall
          go_quiet (fail)
          go_wp2_with fail
          refine ⟨⟨k + 1, _, HLT.out, by go_num, fun i hi => ?_, rfl⟩, by have := HLT.out; simp [intOf] <;> omega⟩
          by_cases e : i = k
          · rw [e, HPQ.out.1, HPQ.out.2]
          · exact HPRE.out i (by omega)
        · have HALL := Lib.hid hall
          have HDEC := Lib.hid (show decide (l = m) = false from decide_eq_false fun e => HALL.out (by have h := HPQ.out; rw [e, h.2] at h; have h := Option.some.inj h.1; injection h with h1 h2 h3 h4; exact ⟨h1.symm, h2.symm, h3.symm, h4.symm⟩))
          by_cases e1 : s = s'
          · subst e1
            by_cases e2 : i = i'
            · subst e2
              by_cases e3 : g = g'
              · subst e3
                have e4 : (d == d') = false := by rw [beq_eq_false_iff_ne]; exact fun e => HALL.out ⟨rfl, rfl, rfl, e⟩
                clear hall
                go_quiet (fail)
                go_wp2_with fail
                go_ret
                exact ⟨by rw [HDEC.out]; rfl, _, rfl⟩
              · have e4 : (g == g') = false := by rw [beq_eq_false_iff_ne]; exact e3
                clear hall e3
                go_quiet (fail)
                go_wp2_with fail
                go_ret
                exact ⟨by rw [HDEC.out]; rfl, _, rfl⟩
            · have e4 : (i == i') = false := by rw [beq_eq_false_iff_ne]; exact e2
              clear hall e2
              go_quiet (fail)
              go_wp2_with fail
              go_ret
              exact ⟨by rw [HDEC.out]; rfl, _, rfl⟩
          · have e4 : (s.toList == s'.toList) = false := by rw [eqS_eq]; exact decide_eq_false e1
            clear hall e1
            go_quiet (fail)
            go_wp2_with fail
            go_ret
            exact ⟨by rw [HDEC.out]; rfl, _, World.drewN_drewN _ _ _⟩
      · obtain rfl : k = N := by omega
        clear hlt hk
        go_wp2_with fail
        go_ret
        refine ⟨?_, j, rfl⟩
        rw [decide_eq_true]
        · rfl
        · apply List.ext_getElem?
          intro i
          by_cases hi : i < k
          · exact HPRE.out i hi
          · rw [List.getElem?_eq_none (by rw [← HN.out]; omega), List.getElem?_eq_none (by rw [← HM.out]; omega)]
  · have hni : ((N : Int) == (M : Int)) = false := by rw [beq_eq_false_iff_ne]; omega
    have HNE := Lib.hid hne
    clear hne
    go_enter Try.func14, Try.ntmps14
    go_wp2_with fail
    all_goals
      go_ret
      refine ⟨?_, 0, rfl⟩
      rw [decide_eq_false]
      · rfl
      · exact fun e => HNE.out (by rw [HN.out, HM.out, e])
end Go.Proofs.Ytpgeebhepegpaaa
