/- slices.EqualFunc over pieces. -/
import Derived.Test.YtlpdpbhnfhihjaaLjS
import Derived.Test.YtlpdpbhnfhihjaaLpJ
namespace Go.Proofs.Ytlpdpbhnfhihjaa
open Go.RowKit

def EqR (w : World) (ps qs : List Pc) (x : Ending) (w' : World) : Prop := ∃ B : Bool, x = .returned (.bool B) ∧ (B = true ↔ ps = qs) ∧ Adv Nul w Nul w'
def EqL (w : World) (N : Nat) (ps qs : List Pc) (t : Value) (wr : World) : Prop := ∃ k : Nat, k ≤ N ∧ t = .int .i64 (k : Int) ∧ (∀ i, i < k → ps[i]? = qs[i]?) ∧ Adv Nul w Nul wr
theorem eq_end {N : Nat} {ps qs : List Pc} (h1 : ps.length = N) (h2 : qs.length = N) (h : ∀ i, i < N → ps[i]? = qs[i]?) : ps = qs := by
  apply List.ext_getElem?
  intro i
  by_cases hi : i < N
  · exact h i hi
  · rw [List.getElem?_eq_none (by omega), List.getElem?_eq_none (by omega)]
theorem eq_one {p q : Pc} {B : Bool} (hB : B = decide (p.e = q.e ∧ p.c = q.c ∧ flg p.f p.g = flg q.f q.g ∧ p.d = q.d)) : B = true ↔ p = q := by
  subst hB
  rw [decide_eq_true_iff]
  constructor
  · rintro ⟨h1, h2, h3, h4⟩
    obtain ⟨h5, h6⟩ := flg_inj h3
    cases p; cases q
    simp only at h1 h2 h4 h5 h6
    subst h1 h2 h4 h5 h6
    rfl
  · rintro rfl
    exact ⟨rfl, rfl, rfl, rfl⟩
/-- pieces whose bytes are bytes -/
def B8 (ps : List Pc) : Prop := ∀ p ∈ ps, ∀ x ∈ p.d, x < 256

set_option maxRecDepth 3000 in
set_option maxHeartbeats 3200000 in
theorem equalfn_any (A1 A2 : Option Addr) (k1 k2 : Nat) (ps qs : List Pc) (w : World) (h1 : PRd w (.slice A1 ps.length k1) ps) (h2 : PRd w (.slice A2 qs.length k2) qs) (hb1 : B8 ps) (hb2 : B8 qs) :
    Calls Try.prog 59 #[.slice A1 ps.length k1, .slice A2 qs.length k2, .func (.func 60) #[] #[]] w (EqR w ps qs) := by
  obtain ⟨N, hN⟩ : ∃ N, N = ps.length := ⟨_, rfl⟩
  obtain ⟨M, hM⟩ : ∃ N, N = qs.length := ⟨_, rfl⟩
  rw [← hN] at h1 ⊢
  rw [← hM] at h2 ⊢
  have hmx : N ≤ maxLen := by
    obtain ⟨_, _, e, h3, h4, _⟩ := h1
    injection e with _ e2 e3
    omega
  have hNI : (N : Int) ≤ 9223372036854775807 := by unfold maxLen at hmx; omega
  clear hmx
  have HP := Lib.hid h1
  have HQ := Lib.hid h2
  have HN := Lib.hid hN
  have HM := Lib.hid hM
  have HB1 := Lib.hid hb1
  have HB2 := Lib.hid hb2
  clear h1 h2 hN hM hb1 hb2
  by_cases hne : N = M
  · subst hne
    go_enter Try.func59, Try.ntmps59
    go_wp2_with fail
    go_loopw [17] (EqL w N ps qs) (fun t _ => N - (intOf t).toNat)
    case atStart => exact ⟨0, Nat.zero_le _, rfl, fun i hi => absurd hi (Nat.not_lt_zero _), Adv.refl _ _⟩
    case round =>
      obtain ⟨k, hk, rfl, hpre, ha⟩ := hrel
      by_cases hlt : k < N
      · have hki : (k : Int) < (N : Int) := by omega
        have hkp : k < ps.length := by rw [← HN.out]; exact hlt
        have hkq : k < qs.length := by rw [← HM.out]; exact hlt
        obtain ⟨b1, o1, a1, q1, rfl, hlb1, hc1, hr1⟩ := (HP.out.step ha).row hkp
        obtain ⟨b2, o2, a2, q2, rfl, hlb2, hc2, hr2⟩ := (HQ.out.step ha).row hkq
        obtain ⟨p, hp⟩ : ∃ p, p = ps[k] := ⟨_, rfl⟩
        obtain ⟨q, hq⟩ : ∃ q, q = qs[k] := ⟨_, rfl⟩
        have hp8 : ∀ x ∈ p.d, x < 256 := by rw [hp]; exact HB1.out _ (List.getElem_mem _)
        have hq8 : ∀ x ∈ q.d, x < 256 := by rw [hq]; exact HB2.out _ (List.getElem_mem _)
        have HPQ := Lib.hid (show ps[k]? = some p ∧ qs[k]? = some q by rw [hp, hq]; exact ⟨List.getElem?_eq_getElem hkp, List.getElem?_eq_getElem hkq⟩)
        rw [← hp] at hc1 hr1
        rw [← hq] at hc2 hr2
        obtain ⟨pe, pn, pf, pg, D⟩ := p
        obtain ⟨qe, qn, qf, qg, D'⟩ := q
        obtain ⟨d, hd⟩ : ∃ d, d = D.length := ⟨_, rfl⟩
        obtain ⟨d', hd'⟩ : ∃ d, d = D'.length := ⟨_, rfl⟩
        simp only [← hd] at hc1 hr1
        simp only [← hd'] at hc2 hr2
        obtain ⟨B, hB⟩ : ∃ B, B = decide (pe = qe ∧ pn = qn ∧ flg pf pg = flg qf qg ∧ D = D') := ⟨_, rfl⟩
        have HE1 := Lib.hid (eq_one (p := ⟨pe, pn, pf, pg, D⟩) (q := ⟨qe, qn, qf, qg, D'⟩) hB)
        have hcall : ∀ v, Adv Nul wr Nul v → Calls Try.prog 60 #[.agg #[.int .u64 (pe : Int), .int .u64 (pn : Int), .bool pf, .bool pg, .slice a1 d q1], .agg #[.int .u64 (qe : Int), .int .u64 (qn : Int), .bool qf, .bool qg, .slice a2 d' q2]] v (SameR v B) := fun v hv => by
          rw [hB]
          exact psame_any pe pn qe qn pf pg qf qg a1 a2 d d' q1 q2 D D' v (hr1.far (fun _ _ _ h => hv.block _ h (fun h => h)) hv.size) (hr2.far (fun _ _ _ h => hv.block _ h (fun h => h)) hv.size) hp8 hq8
        have HCALL := Lib.hid hcall
        obtain ⟨z, hz⟩ : ∃ z, z = wr.heap.size := ⟨_, rfl⟩
        obtain ⟨V, hV⟩ : ∃ V, V = wr.alloc (.cells #[.int .u64 (pe : Int), .int .u64 (pn : Int), .bool pf, .bool pg, .slice a1 d q1] 65) := ⟨_, rfl⟩
        obtain ⟨U, hU⟩ : ∃ U, U = V.alloc (.cells #[.int .u64 (qe : Int), .int .u64 (qn : Int), .bool qf, .bool qg, .slice a2 d' q2] 65) := ⟨_, rfl⟩
        have hZ : Blk U z 65 #[.int .u64 (pe : Int), .int .u64 (pn : Int), .bool pf, .bool pg, .slice a1 d q1] := by rw [hU, hV, hz]; exact (Blk.new _ _ _).alloc _
        have hV1 : Adv Nul wr Nul V := by rw [hV]; exact (Adv.refl _ _).alloc _
        have hU1 : Adv Nul wr Nul U := by rw [hU]; exact hV1.alloc _
        obtain ⟨y, hy⟩ : ∃ y, y = V.heap.size := ⟨_, rfl⟩
        have hY : Blk U y 65 #[.int .u64 (qe : Int), .int .u64 (qn : Int), .bool qf, .bool qg, .slice a2 d' q2] := by rw [hU, hy]; exact Blk.new _ _ _
        have HC2 := Lib.hid (hc2.step hlb2 hV1)
        have HZY := Lib.hid (five2 hZ hY)
        have HV := Lib.hid hV
        have HU := Lib.hid hU
        have HZ := Lib.hid hz
        have HY := Lib.hid hy
        have HU1 := Lib.hid hU1
        have HA := Lib.hid ha
        have HPRE := Lib.hid hpre
        have HLT := Lib.hid hlt
        obtain ⟨c0, c1, c2, c3, c4⟩ := hc1
        clear hkp hkq hlb1 hr1 hlb2 hc2 hr2 hp hq hp8 hq8 hd hd' hcall hz hV hU hZ hV1 hU1 hY hy ha hpre hlt hk hB
        go_upto_region 6 with (fail)
        rw [← HV.out, ← HZ.out]
        obtain ⟨e0, e1, e2, e3, e4⟩ := HC2.out
        clear c0 c1 c2 c3 c4
        go_upto_region 7 with (fail)
        rw [← HU.out, ← HY.out]
        clear e0 e1 e2 e3 e4
        obtain ⟨s0, s1, s2, s3, s4, s5, s6, s7, s8, s9⟩ := HZY.out
        cases B with
        | true =>
          go_wp2_with fail
          refine (HCALL.out U HU1.out).mono ?_
          rintro x w8 ⟨rfl, t8⟩
          have HT8 := Lib.hid (HU1.out.trans t8)
          clear t8
          go_wp2_with fail
          have hlt := HLT.out
          refine ⟨⟨k + 1, by omega, by go_num, fun i hi => ?_, HA.out.trans HT8.out⟩, by simp [intOf]; omega⟩
          by_cases e : i = k
          · rw [e, HPQ.out.1, HPQ.out.2, HE1.out.mp (by trivial)]
          · exact HPRE.out i (by omega)
        | false =>
          go_wp2_with fail
          refine (HCALL.out U HU1.out).mono ?_
          rintro x w8 ⟨rfl, t8⟩
          have HT8 := Lib.hid (HU1.out.trans t8)
          clear t8
          go_wp2_with fail
          go_ret
          refine ⟨false, rfl, ⟨fun h => absurd h (by decide), fun h => ?_⟩, HA.out.trans HT8.out⟩
          have e := HPQ.out.1
          rw [h, HPQ.out.2] at e
          injection e with e
          exact HE1.out.mpr e.symm
      · obtain rfl : k = N := by omega
        have HA := Lib.hid ha
        have HPRE := Lib.hid hpre
        clear ha hpre hlt hk
        go_wp2_with fail
        go_ret
        exact ⟨true, rfl, ⟨fun _ => eq_end HN.out.symm HM.out.symm HPRE.out, fun _ => rfl⟩, HA.out⟩
  · have hni : ((N : Int) == (M : Int)) = false := by rw [beq_eq_false_iff_ne]; omega
    have HNE := Lib.hid hne
    clear hne
    go_enter Try.func59, Try.ntmps59
    go_wp2_with fail
    all_goals
      go_ret
      exact ⟨false, rfl, ⟨fun h => absurd h (by decide), fun h => absurd (by rw [HN.out, HM.out, h]) HNE.out⟩, Adv.refl _ _⟩
end Go.Proofs.Ytlpdpbhnfhihjaa
