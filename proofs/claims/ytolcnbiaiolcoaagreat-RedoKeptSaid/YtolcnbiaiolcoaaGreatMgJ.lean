/- slices.EqualFunc over pieces. Join: the program's. -/
import Derived.Test.YtolcnbiaiolcoaaGreatLjS
import Derived.Test.YtolcnbiaiolcoaaGreatMgKc
import Derived.Test.YtolcnbiaiolcoaaGreatLjM
namespace Go.Proofs.YtolcnbiaiolcoaaGreat
open Go.RowKit

def EqR (w : World) (ps qs : List Pc) (x : Ending) (w' : World) : Prop := ∃ B : Bool, x = .returned (.bool B) ∧ (B = true ↔ ps = qs) ∧ Adv Nul w Nul w'
def EqL (w : World) (N : Nat) (ps qs : List Pc) (t : Value) (wr : World) : Prop := ∃ k : Nat, k ≤ N ∧ t = .int .i64 (k : Int) ∧ (∀ i, i < k → ps[i]? = qs[i]?) ∧ Adv Nul w Nul wr
theorem eq_end {N : Nat} {ps qs : List Pc} (h1 : ps.length = N) (h2 : qs.length = N) (h : ∀ i, i < N → ps[i]? = qs[i]?) : ps = qs := by
  apply List.ext_getElem?
  intro i
  by_cases hi : i < N
  · exact h i hi
  · rw [List.getElem?_eq_none (by omega), List.getElem?_eq_none (by omega)]
theorem eq_one {p q : Pc} {B : Bool} (hB : B = decide (p.e = q.e ∧ p.c = q.c ∧ flg p.f p.g = flg q.f q.g ∧ p.d = q.d)) : B = true ↔ p = q := by
  subst hB
  rw [decide_eq_true_iff]
  constructor
  · rintro ⟨h1, h2, h3, h4⟩
    obtain ⟨h5, h6⟩ := flg_inj h3
    cases p; cases q
    simp only at h1 h2 h4 h5 h6
    subst h1 h2 h4 h5 h6
    rfl
  · rintro rfl
    exact ⟨rfl, rfl, rfl, rfl⟩
/-- pieces whose bytes are bytes -/
def B8 (ps : List Pc) : Prop := ∀ p ∈ ps, ∀ x ∈ p.d, x < 256

set_option maxRecDepth 3000 in
set_option maxHeartbeats 3200000 in
theorem equalfn_any (A1 A2 : Option Addr) (k1 k2 : Nat) (ps qs : List Pc) (w : World) (h1 : PRd w (.slice A1 ps.length k1) ps) (h2 : PRd w (.slice A2 qs.length k2) qs) (hb1 : B8 ps) (hb2 : B8 qs) :
    Calls Tryz.prog 103 #[.slice A1 ps.length k1, .slice A2 qs.length k2, .func (.func 104) #[] #[]] w (EqR w ps qs) := by
  obtain ⟨N, hN⟩ : ∃ N, N = ps.length := ⟨_, rfl⟩
  obtain ⟨M, hM⟩ : ∃ N, N = qs.length := ⟨_, rfl⟩
  rw [← hN] at h1 ⊢
  rw [← hM] at h2 ⊢
  have hmx : N ≤ maxLen := by
    obtain ⟨_, _, e, h3, h4, _⟩ := h1
    injection e with _ e2 e3
    omega
  have hNI : (N : Int) ≤ 9223372036854775807 := by unfold maxLen at hmx; omega
  clear hmx
  have HP := Lib.hid h1
  have HQ := Lib.hid h2
  have HN := Lib.hid hN
  have HM := Lib.hid hM
  have HB1 := Lib.hid hb1
  have HB2 := Lib.hid hb2
  clear h1 h2 hN hM hb1 hb2
  by_cases hne : N = M
  · subst hne
    go_enter Tryz.func103, Tryz.ntmps103
    go_wp2_with fail
    go_loopw [17] (EqL w N ps qs) (fun t _ => N - (intOf t).toNat)
    case atStart => exact ⟨0, Nat.zero_le _, rfl, fun i hi => absurd hi (Nat.not_lt_zero _), Adv.refl _ _⟩
    case round =>
      obtain ⟨k, hk, rfl, hpre, ha⟩ := hrel
      by_cases hlt : k < N
      · have hki : (k : Int) < (N : Int) := by omega
        have hkp : k < ps.length := by rw [← HN.out]; exact hlt
        have hkq : k < qs.length := by rw [← HM.out]; exact hlt
        obtain ⟨b1, o1, a1, q1, rfl, hlb1, hc1, hr1⟩ := (HP.out.step ha).row hkp
        obtain ⟨b2, o2, a2, q2, rfl, hlb2, hc2, hr2⟩ := (HQ.out.step ha).row hkq
        obtain ⟨p, hp⟩ : ∃ p, p = ps[k] := ⟨_, rfl⟩
        obtain ⟨q, hq⟩ : ∃ q, q = qs[k] := ⟨_, rfl⟩
        have hp8 : ∀ x ∈ p.d, x < 256 := by rw [hp]; exact HB1.out _ (List.getElem_mem _)
        have hq8 : ∀ x ∈ q.d, x < 256 := by rw [hq]; exact HB2.out _ (List.getElem_mem _)
        have HPQ := Lib.hid (show ps[k]? = some p ∧ qs[k]? = some q by rw [hp, hq]; exact ⟨List.getElem?_eq_getElem hkp, List.getElem?_eq_getElem hkq⟩)
        rw [← hp] at hc1 hr1
        rw [← hq] at hc2 hr2
        obtain ⟨pe, pn, pf, pg, D⟩ := p
        obtain ⟨qe, qn, qf, qg, D'⟩ := q
        obtain ⟨d, hd⟩ : ∃ d, d = D.length := ⟨_, rfl⟩
        obtain ⟨d', hd'⟩ : ∃ d, d = D'.length := ⟨_, rfl⟩
        simp only [← hd] at hc1 hr1
        simp only [← hd'] at hc2 hr2
        obtain ⟨B, hB⟩ : ∃ B, B = decide (pe = qe ∧ pn = qn ∧ flg pf pg = flg qf qg ∧ D = D') := ⟨_, rfl⟩
        have HE1 := Lib.hid (eq_one (p := ⟨pe, pn, pf, pg, D⟩) (q := ⟨qe, qn, qf, qg, D'⟩) hB)
        have hcall : ∀ v, Adv Nul wr Nul v → Calls Tryz.prog 104 #[.agg #[.int .u64 (pe : Int), .int .u64 (pn : Int), .bool pf, .bool pg, .slice a1 d q1], .agg #[.int .u64 (qe : Int), .int .u64 (qn : Int), .bool qf, .bool qg, .slice a2 d' q2]] v (SameR v B) := fun v hv => by
          rw [hB]
          exact psame_any pe pn qe qn pf pg qf qg a1 a2 d d' q1 q2 D D' v (hr1.far (fun _ _ _ h => hv.block _ h (fun h => h)) hv.size) (hr2.far (fun _ _ _ h => hv.block _ h (fun h => h)) hv.size) hp8 hq8
        have HCALL := Lib.hid hcall
        obtain ⟨z, hz⟩ : ∃ z, z = wr.heap.size := ⟨_, rfl⟩
        obtain ⟨V, hV⟩ : ∃ V, V = wr.alloc (.cells #[.int .u64 (pe : Int), .int .u64 (pn : Int), .bool pf, .bool pg, .slice a1 d q1] 100) := ⟨_, rfl⟩
        obtain ⟨U, hU⟩ : ∃ U, U = V.alloc (.cells #[.int .u64 (qe : Int), .int .u64 (qn : Int), .bool qf, .bool qg, .slice a2 d' q2] 100) := ⟨_, rfl⟩
        have hZ : Blk U z 100 #[.int .u64 (pe : Int), .int .u64 (pn : Int), .bool pf, .bool pg, .slice a1 d q1] := by rw [hU, hV, hz]; exact (Blk.new _ _ _).alloc _
        have hV1 : Adv Nul wr Nul V := by rw [hV]; exact (Adv.refl _ _).alloc _
        have hU1 : Adv Nul wr Nul U := by rw [hU]; exact hV1.alloc _
        obtain ⟨y, hy⟩ : ∃ y, y = V.heap.size := ⟨_, rfl⟩
        have hY : Blk U y 100 #[.int .u64 (qe : Int), .int .u64 (qn : Int), .bool qf, .bool qg, .slice a2 d' q2] := by rw [hU, hy]; exact Blk.new _ _ _
        have HC2 := Lib.hid (hc2.step hlb2 hV1)
        have HZY := Lib.hid (five2 hZ hY)
        have HV := Lib.hid hV
        have HU := Lib.hid hU
        have HZ := Lib.hid hz
        have HY := Lib.hid hy
        have HU1 := Lib.hid hU1
        have HA := Lib.hid ha
        have HPRE := Lib.hid hpre
        have HLT := Lib.hid hlt
        obtain ⟨c0, c1, c2, c3, c4⟩ := hc1
        clear hkp hkq hlb1 hr1 hlb2 hc2 hr2 hp hq hp8 hq8 hd hd' hcall hz hV hU hZ hV1 hU1 hY hy ha hpre hlt hk hB
        go_upto_region 6 with (fail)
        rw [← HV.out, ← HZ.out]
        obtain ⟨e0, e1, e2, e3, e4⟩ := HC2.out
        clear c0 c1 c2 c3 c4
        go_upto_region 7 with (fail)
        rw [← HU.out, ← HY.out]
        clear e0 e1 e2 e3 e4
        obtain ⟨s0, s1, s2, s3, s4, s5, s6, s7, s8, s9⟩ := HZY.out
        cases B with
        | true =>
          go_wp2_with fail
          refine (HCALL.out U HU1.out).mono ?_
          rintro x w8 ⟨rfl, t8⟩
          have HT8 := Lib.hid (HU1.out.trans t8)
          clear t8
          go_wp2_with fail
          have hlt := HLT.out
          refine ⟨⟨k + 1, by omega, by go_num, fun i hi => ?_, HA.out.trans HT8.out⟩, by simp [intOf]; omega⟩
          by_cases e : i = k
          · rw [e, HPQ.out.1, HPQ.out.2, HE1.out.mp (by trivial)]
          · exact HPRE.out i (by omega)
        | false =>
          go_wp2_with fail
          refine (HCALL.out U HU1.out).mono ?_
          rintro x w8 ⟨rfl, t8⟩
          have HT8 := Lib.hid (HU1.out.trans t8)
          clear t8
          go_wp2_with fail
          go_ret
          refine ⟨false, rfl, ⟨fun h => absurd h (by decide), fun h => ?_⟩, HA.out.trans HT8.out⟩
          have e := HPQ.out.1
          rw [h, HPQ.out.2] at e
          injection e with e
          exact HE1.out.mpr e.symm
      · obtain rfl : k = N := by omega
        have HA := Lib.hid ha
        have HPRE := Lib.hid hpre
        clear ha hpre hlt hk
        go_wp2_with fail
        go_ret
        exact ⟨true, rfl, ⟨fun _ => eq_end HN.out.symm HM.out.symm HPRE.out, fun _ => rfl⟩, HA.out⟩
  · have hni : ((N : Int) == (M : Int)) = false := by rw [beq_eq_false_iff_ne]; omega
    have HNE := Lib.hid hne
    clear hne
    go_enter Tryz.func103, Tryz.ntmps103
    go_wp2_with fail
    all_goals
      go_ret
      exact ⟨false, rfl, ⟨fun h => absurd h (by decide), fun h => absurd (by rw [HN.out, HM.out, h]) HNE.out⟩, Adv.refl _ _⟩
end Go.Proofs.YtolcnbiaiolcoaaGreat
namespace Go.Proofs.YtolcnbiaiolcoaaGreat
open Go.RowKit

def JoinR (w : World) (ps : List Pc) (x : Ending) (w' : World) : Prop := ∃ A k, x = .returned (.tuple #[.slice A (joinV ps).length k, .int .i64 (joinE ps)]) ∧ Rd w' 1 (.slice A (joinV ps).length k) (joinV ps).length ((joinV ps).map u8) ∧ Adv Nul w Nul w'
theorem JoinR.none {w w' : World} {ps : List Pc} (h : ¬ JoinOk ps) (ha : Adv Nul w Nul w') : JoinR w ps (.returned (.tuple #[.slice none 0 0, .int .i64 4])) w' := by
  have e : joinV ps = [] := by unfold joinV; rw [if_neg h]
  have e2 : joinE ps = 4 := by unfold joinE; rw [if_neg h]
  unfold JoinR
  rw [e, e2]
  exact ⟨Option.none, 0, rfl, (Sl.nil _ 5 1).rd, ha⟩
theorem JoinR.some {w w' : World} {ps : List Pc} {A : Option Addr} {m k : Nat} (h : JoinOk ps) (hm : m = (allD ps).length) (hr : Rd w' 1 (.slice A m k) m ((allD ps).map u8)) (ha : Adv Nul w Nul w') : JoinR w ps (.returned (.tuple #[.slice A m k, .int .i64 0])) w' := by
  have e : joinV ps = allD ps := by unfold joinV; rw [if_pos h]
  have e2 : joinE ps = 0 := by unfold joinE; rw [if_pos h]
  unfold JoinR
  rw [e, e2, ← hm]
  exact ⟨A, k, rfl, hr, ha⟩
/-- the loop that adds up -/
def JoinL (w : World) (ps : List Pc) (t15 t4 : Value) (wr : World) : Prop :=
  ∃ k m A q F, k ≤ ps.length ∧ t15 = .int .i64 ((k : Nat) : Int) ∧ t4 = .slice A m q ∧ m = (allD (ps.take k)).length ∧ m ≤ 8192 ∧ Sl wr F 5 1 (.slice A m q) m ((allD (ps.take k)).map u8) ∧ Adv Nul w F wr
theorem Cells5.step2 {w w' : World} {b o : Nat} {p : Pc} {v : Value} {F : Nat → Prop} (h : Cells5 w b o p v) (hb : b < w.heap.size) (ha : Adv Nul w F w') : w'.cell? ⟨b, o, none⟩ = some (.int .u64 (p.e : Int)) ∧ w'.cell? ⟨b, o + 1, none⟩ = some (.int .u64 (p.c : Int)) :=
  ⟨(h.step hb ha).1, (h.step hb ha).2.1⟩

set_option maxRecDepth 3000 in
set_option maxHeartbeats 3200000 in
theorem pjoin_any (A0 : Option Addr) (k0 : Nat) (ps : List Pc) (w : World) (h : PRd w (.slice A0 ps.length k0) ps) (hb : B8 ps) (hl : ps.length ≤ 1000) (hd : ∀ p ∈ ps, p.d.length ≤ 1000) :
    Calls Tryz.prog 73 #[.slice A0 ps.length k0] w (JoinR w ps) := by
  obtain ⟨N, hN⟩ : ∃ N, N = ps.length := ⟨_, rfl⟩
  rw [← hN] at h hl ⊢
  have hNI : (N : Int) ≤ 1000 := by omega
  have HP := Lib.hid h
  have HN := Lib.hid hN
  have HB := Lib.hid hb
  have HDL := Lib.hid hd
  clear h hb hl hd
  by_cases h0 : N = 0
  · have hz : ((N : Int) == 0) = true := by rw [beq_iff_eq]; omega
    have HNO := Lib.hid (show ¬ JoinOk ps from fun h => by have := h.1; omega)
    clear h0 hN hNI
    go_enter Tryz.func73, Tryz.ntmps73
    go_wp2_with fail
    all_goals
      exact bodyPost_ret (v := .tuple #[.slice none 0 0, .int .i64 4]) (by simp [results, Tryz.results73, go_sem]) rfl (JoinR.none HNO.out (Adv.refl _ _))
  · have hz : ((N : Int) == 0) = false := by rw [beq_eq_false_iff_ne]; omega
    have h0' : 0 < N := by omega
    have H0 := Lib.hid h0'
    obtain ⟨g, hg⟩ : ∃ g, g = w.heap.size := ⟨_, rfl⟩
    obtain ⟨V, hV⟩ : ∃ V, V = w.alloc (.cells #[] 5) := ⟨_, rfl⟩
    have hsl : Sl V (fun j => j = g) 5 1 (.slice (some ⟨g, 0, none⟩) 0 0) 0 [] := by
      rw [hV, hg]
      exact ⟨own_base (World.ownsRow_made w #[] 0 (Nat.le_refl _) (Nat.zero_le _) rfl), fun k hk => by simpa [Value.ownBlock] using hk.symm, fun k hk => by subst hk; simp⟩
    have hA : Adv Nul w (fun j => j = g) V := by
      rw [hV, hg]
      have := (Adv.refl Nul w).alloc (.cells #[] 5)
      exact ⟨this.os, this.tape, this.output, this.size, fun j hj h => this.block j hj h, fun j hj => .inr (by omega)⟩
    have HSL := Lib.hid hsl
    have HAV := Lib.hid hA
    have HV := Lib.hid hV
    have HG := Lib.hid hg
    clear h0 h0' hN hsl hA hV hg
    go_enter Tryz.func73, Tryz.ntmps73
    go_upto_region 4 with (fail)
    rw [← HV.out, ← HG.out]
    go_wp2_with fail
    go_loopw [15, 4] (JoinL w ps) (fun t _ _ => N - (intOf t).toNat)
    case atStart => exact ⟨0, 0, _, _, _, Nat.zero_le _, rfl, rfl, by simp [allD], Nat.zero_le _, by simpa [allD] using HSL.out, HAV.out⟩
    case round =>
      obtain ⟨k, m, A, q, F, hk, rfl, rfl, hm, hm8, hs, ha⟩ := hrel
      rw [← HN.out] at hk
      by_cases hlt : k < N
      · have hki : (k : Int) < (N : Int) := by omega
        have hkp : k < ps.length := by rw [← HN.out]; exact hlt
        obtain ⟨b1, o1, a1, q1, rfl, hlb1, hc1, hr1⟩ := (HP.out.step ha).row hkp
        obtain ⟨p, hp⟩ : ∃ p, p = ps[k] := ⟨_, rfl⟩
        have hpk : ps[k]? = some p := by rw [hp]; exact List.getElem?_eq_getElem hkp
        have hpd : p.d.length ≤ 1000 := by rw [hp]; exact HDL.out _ (List.getElem_mem _)
        rw [← hp] at hc1 hr1
        obtain ⟨pe, pn, pf, pg, D⟩ := p
        obtain ⟨d, hd⟩ : ∃ d, d = D.length := ⟨_, rfl⟩
        simp only [← hd] at hc1 hr1 hpd
        obtain ⟨z, hz'⟩ : ∃ z, z = wr.heap.size := ⟨_, rfl⟩
        obtain ⟨U, hU⟩ : ∃ U, U = wr.alloc (.cells #[.int .u64 (pe : Int), .int .u64 (pn : Int), .bool pf, .bool pg, .slice a1 d q1] 100) := ⟨_, rfl⟩
        have hZ : Blk U z 100 #[.int .u64 (pe : Int), .int .u64 (pn : Int), .bool pf, .bool pg, .slice a1 d q1] := by rw [hU, hz']; exact Blk.new _ _ _
        have hU1 : Adv Nul wr Nul U := by rw [hU]; exact (Adv.refl _ _).alloc _
        have HS := Lib.hid (hs.far hU1 (fun _ h _ => h))
        have HRD := Lib.hid (hr1.far (fun _ _ _ h => hU1.block _ h (fun h => h)) hU1.size)
        have HZB := Lib.hid hZ.five
        have HZ := Lib.hid hz'
        have HU := Lib.hid hU
        have HAU := Lib.hid (ha.over hU1)
        have HLT := Lib.hid hlt
        have HPK := Lib.hid hpk
        have HM := Lib.hid hm
        have HD := Lib.hid hd
        have hdm : (d : Int) ≤ 1000 := by omega
        have hmi : (m : Int) ≤ 8192 := by omega
        obtain ⟨c0, c1, c2, c3, c4⟩ := hc1
        clear hkp hlb1 hr1 hp hpd hd hz' hU hZ hU1 hpk hlt hk hm hm8 hs ha
        go_upto_region 7 with (fail)
        rw [← HU.out, ← HZ.out]
        obtain ⟨z0, z1, z2, z3, z4⟩ := HZB.out
        clear c0 c1 c2 c3 c4
        by_cases hbig : (8192 : Int) - (m : Int) < (d : Int)
        · have HBIG := Lib.hid hbig
          go_wp2_with fail
          refine bodyPost_ret (v := .tuple #[.slice none 0 0, .int .i64 4]) (by simp [results, Tryz.results73, go_sem]) rfl (JoinR.none (fun h => ?_) (HAU.out.sub (fun _ h => h.elim)))
          have h1 := allD_take_le ps (k + 1)
          rw [allD_take_succ HPK.out, List.length_append] at h1
          have h2 := h.2.2
          have h3 := HM.out
          have h4 := HD.out
          have h5 := HBIG.out
          simp only at h1
          omega
        · have hle : (d : Int) ≤ 8192 - (m : Int) := by omega
          have HLE := Lib.hid hle
          clear hbig
          go_wp2_with (first
            | (at_builtin; refine wpList_append_rd rfl (.tmp 26) (.tmp 28) rfl rfl rfl HS.out.own HRD.out (u8_one _) ?d1 ?d2)
            | fail)
          case d1 => omega
          case d2 =>
            intro v4 w4 hown4 hg4 hat4
            obtain ⟨h4, _, a4⟩ := own_grown HS.out HAU.out hown4 hg4 hat4 (Nat.le_refl _)
            rw [← List.map_append] at h4
            obtain ⟨A4, c4, rfl, _, _⟩ := h4.form0
            have H4 := Lib.hid h4
            have A4 := Lib.hid a4
            clear h4 a4 hown4 hg4 hat4
            go_wp2_with fail
            have hlt := HLT.out
            have e := allD_take_succ HPK.out
            simp only at e
            have e2 : m + d = (allD (ps.take (k + 1))).length := by rw [e, List.length_append, HM.out, HD.out]
            have h5 := HLE.out
            refine ⟨⟨k + 1, m + d, _, _, _, by rw [← HN.out]; omega, by go_num, rfl, e2, by omega, by rw [e]; exact H4.out, A4.out⟩, by simp [intOf]; omega⟩
      · obtain rfl : k = N := by omega
        have hs' : Sl wr F 5 1 (.slice A m q) m ((allD ps).map u8) := by
          rw [HN.out, List.take_length] at hs
          exact hs
        have hm' : m = (allD ps).length := by
          rw [HN.out, List.take_length] at hm
          exact hm
        obtain ⟨b1, o1, a1, q1, rfl, hlb1, hc1, hr1⟩ := (HP.out.step ha).row (i := 0) (by rw [← HN.out]; exact H0.out)
        rw [Nat.zero_mul, Nat.add_zero] at hc1
        obtain ⟨L, hL⟩ : ∃ L, L = allD ps := ⟨_, rfl⟩
        rw [← hL] at hs' hm'
        obtain ⟨pe, hpe⟩ : ∃ x, x = (hdP ps).e := ⟨_, rfl⟩
        obtain ⟨pn, hpn⟩ : ∃ x, x = (hdP ps).c := ⟨_, rfl⟩
        have h0e : ps[0]'(by rw [← HN.out]; exact H0.out) = hdP ps := by
          have h1 : ps ≠ [] := fun h => by have := H0.out; rw [HN.out, h] at this; exact absurd this (by decide)
          obtain ⟨p, t, rfl⟩ := List.exists_cons_of_ne_nil h1
          rfl
        rw [h0e] at hc1
        have hc01 : wr.cell? ⟨b1, o1, none⟩ = some (.int .u64 (pe : Int)) ∧ wr.cell? ⟨b1, o1 + 1, none⟩ = some (.int .u64 (pn : Int)) := by rw [hpe, hpn]; exact ⟨hc1.1, hc1.2.1⟩
        have hL8 : ∀ x ∈ L, x < 256 := by rw [hL]; exact allD_lt HB.out
        have hcut : ∀ v, Rd v 1 (.slice A m q) m (L.map u8) → Calls Tryz.prog 83 #[.int .u64 (pe : Int), .int .u64 (pn : Int), .slice A m q] v (CutR v pe pn L) := fun v hv => pcut_any pe pn _ L v (by rw [← hm']; exact hv) (by omega)
        obtain ⟨E, hE⟩ : ∃ E, E = cutE pe pn L.length := ⟨_, rfl⟩
        obtain ⟨NN, hNN⟩ : ∃ E, E = (cutV pe pn L).length := ⟨_, rfl⟩
        have KA := Lib.hid (show wr.drew.cell? ⟨b1, o1, none⟩ = some (.int .u64 (pe : Int)) ∧ wr.drew.cell? ⟨b1, o1 + 1, none⟩ = some (.int .u64 (pn : Int)) from hc01)
        have HRD := Lib.hid (show Rd wr.drew 1 (.slice A m q) m (L.map u8) from hs'.rd)
        have HCUT := Lib.hid hcut
        have HC01 := Lib.hid hc01
        have HE := Lib.hid hE
        have HNN := Lib.hid hNN
        have HL := Lib.hid hL
        have HL8 := Lib.hid hL8
        have HPE := Lib.hid hpe
        have HPN := Lib.hid hpn
        have HM := Lib.hid hm'
        have HM8 := Lib.hid hm8
        have HLB := Lib.hid hlb1
        have HAW := Lib.hid ((ha.sub (G := Nul) (fun _ h => h.elim)).drew)
        have hNp : 0 < k := H0.out
        clear hs hs' hm hm' hc1 hr1 hL hpe hpn h0e hL8 hcut hE hNN hc01 hlb1 ha hk hlt hm8
        go_wp2_with fail
        refine wp_region_held_drew (S := (fun w' => w'.cell? ⟨b1, o1, none⟩ = some (.int .u64 (pe : Int)) ∧ w'.cell? ⟨b1, o1 + 1, none⟩ = some (.int .u64 (pn : Int)))) (by kernel_rfl) (by first | with_reducible exact KB.out | with_reducible exact KA.out) (fun hHeld => ?_)
        clear hHeld
        refine wpAnyH_take (i := 0) (oi := ⟨some 32, .move (.tmp 0), 97, "lap.go:147", #[], none⟩) (v := ?_) rfl (by kernel_rfl) (by kernel_rfl) (by kernel_rfl) (fun _ _ _ h => h) (Or.inl ⟨by rfl, ?_⟩) (by first | with_reducible exact KB.out | with_reducible exact KA.out) ?_
        rotate_left
        · (intro w hSw; obtain ⟨s0, s1⟩ := hSw; go_simp <;> with_reducible rfl)
        simp only [Act.put, List.setIfInBounds_toArray, List.set_cons_zero, List.set_cons_succ]
        refine wpAnyH_take (i := 1) (oi := ⟨some 33, .indexAddr 97 (.tmp 32) (.const (Go.Value.int Go.IntKind.i64 0)), 0, "lap.go:147", #[⟨0, .data⟩], none⟩) (v := ?_) rfl (by kernel_rfl) (by kernel_rfl) (by kernel_rfl) (fun _ _ _ h => h) (Or.inl ⟨by rfl, ?_⟩) (by first | with_reducible exact KB.out | with_reducible exact KA.out) ?_
        rotate_left
        · (intro w hSw; obtain ⟨s0, s1⟩ := hSw; go_simp <;> with_reducible rfl)
        simp only [Act.put, List.setIfInBounds_toArray, List.set_cons_zero, List.set_cons_succ]
        refine wpAnyH_take (i := 2) (oi := ⟨some 34, .fieldAddr 100 (.tmp 33) 0, 0, "lap.go:147", #[⟨1, .data⟩], none⟩) (v := ?_) rfl (by kernel_rfl) (by kernel_rfl) (by kernel_rfl) (fun _ _ _ h => h) (Or.inl ⟨by rfl, ?_⟩) (by first | with_reducible exact KB.out | with_reducible exact KA.out) ?_
        rotate_left
        · (intro w hSw; obtain ⟨s0, s1⟩ := hSw; go_simp <;> with_reducible rfl)
        simp only [Act.put, List.setIfInBounds_toArray, List.set_cons_zero, List.set_cons_succ]
        refine wpAnyH_take (i := 3) (oi := ⟨some 35, .load 49 (.tmp 34), 49, "lap.go:147", #[⟨2, .data⟩], none⟩) (v := ?_) rfl (by kernel_rfl) (by kernel_rfl) (by kernel_rfl) (fun _ _ _ h => h) (Or.inl ⟨by rfl, ?_⟩) (by first | with_reducible exact KB.out | with_reducible exact KA.out) ?_
        rotate_left
        · (intro w hSw; obtain ⟨s0, s1⟩ := hSw; go_simp <;> with_reducible rfl)
        simp only [Act.put, List.setIfInBounds_toArray, List.set_cons_zero, List.set_cons_succ]
        refine wpAnyH_take (i := 4) (oi := ⟨some 36, .move (.tmp 0), 97, "lap.go:147", #[], none⟩) (v := ?_) rfl (by kernel_rfl) (by kernel_rfl) (by kernel_rfl) (fun _ _ _ h => h) (Or.inl ⟨by rfl, ?_⟩) (by first | with_reducible exact KB.out | with_reducible exact KA.out) ?_
        rotate_left
        · (intro w hSw; obtain ⟨s0, s1⟩ := hSw; go_simp <;> with_reducible rfl)
        simp only [Act.put, List.setIfInBounds_toArray, List.set_cons_zero, List.set_cons_succ]
        refine wpAnyH_take (i := 5) (oi := ⟨some 37, .indexAddr 97 (.tmp 36) (.const (Go.Value.int Go.IntKind.i64 0)), 0, "lap.go:147", #[⟨4, .data⟩], none⟩) (v := ?_) rfl (by kernel_rfl) (by kernel_rfl) (by kernel_rfl) (fun _ _ _ h => h) (Or.inl ⟨by rfl, ?_⟩) (by first | with_reducible exact KB.out | with_reducible exact KA.out) ?_
        rotate_left
        · (intro w hSw; obtain ⟨s0, s1⟩ := hSw; go_simp <;> with_reducible rfl)
        simp only [Act.put, List.setIfInBounds_toArray, List.set_cons_zero, List.set_cons_succ]
        refine wpAnyH_take (i := 6) (oi := ⟨some 38, .fieldAddr 100 (.tmp 37) 1, 0, "lap.go:147", #[⟨5, .data⟩], none⟩) (v := ?_) rfl (by kernel_rfl) (by kernel_rfl) (by kernel_rfl) (fun _ _ _ h => h) (Or.inl ⟨by rfl, ?_⟩) (by first | with_reducible exact KB.out | with_reducible exact KA.out) ?_
        rotate_left
        · (intro w hSw; obtain ⟨s0, s1⟩ := hSw; go_simp <;> with_reducible rfl)
        simp only [Act.put, List.setIfInBounds_toArray, List.set_cons_zero, List.set_cons_succ]
        refine wpAnyH_take (i := 7) (oi := ⟨some 39, .load 49 (.tmp 38), 49, "lap.go:147", #[⟨6, .data⟩], none⟩) (v := ?_) rfl (by kernel_rfl) (by kernel_rfl) (by kernel_rfl) (fun _ _ _ h => h) (Or.inl ⟨by rfl, ?_⟩) (by first | with_reducible exact KB.out | with_reducible exact KA.out) ?_
        rotate_left
        · (intro w hSw; obtain ⟨s0, s1⟩ := hSw; go_simp <;> with_reducible rfl)
        simp only [Act.put, List.setIfInBounds_toArray, List.set_cons_zero, List.set_cons_succ]
        refine wpAnyH_take (i := 8) (oi := ⟨some 40, .move (.tmp 4), 53, "lap.go:147", #[], none⟩) (v := ?_) rfl (by kernel_rfl) (by kernel_rfl) (by kernel_rfl) (fun _ _ _ h => h) (Or.inl ⟨by rfl, ?_⟩) (by first | with_reducible exact KB.out | with_reducible exact KA.out) ?_
        rotate_left
        · (intro w hSw; obtain ⟨s0, s1⟩ := hSw; go_simp <;> with_reducible rfl)
        simp only [Act.put, List.setIfInBounds_toArray, List.set_cons_zero, List.set_cons_succ]
        refine wpAnyH_ready (rs := [9]) (by kernel_rfl) (by simp) ?_
        refine AllReadyH.cons (o := ⟨some 41, .call { callee := Go.Callee.value (.func 83), args := #[Go.Operand.tmp 35, Go.Operand.tmp 39, Go.Operand.tmp 40], argTypes := #[49, 49, 53] }, 98, "lap.go:147", #[⟨3, .data⟩, ⟨7, .data⟩, ⟨8, .data⟩], none⟩) rfl (fun K hK => ?_) AllReadyH.nil
        go_simp
        refine (HCUT.out _ HRD.out).mono ?_
        intro x w8 h
        obtain ⟨A3, k3, rfl, p3, t3⟩ := h.opened
        rw [← HE.out, ← HNN.out]
        have HP3 := Lib.hid p3
        have HT3 := Lib.hid t3
        have KB := Lib.hid (show w8.cell? ⟨b1, o1, none⟩ = some (.int .u64 (pe : Int)) ∧ w8.cell? ⟨b1, o1 + 1, none⟩ = some (.int .u64 (pn : Int)) from ⟨(World.cell?_of_block (t3.block b1 HLB.out (fun h => h))).trans KA.out.1, (World.cell?_of_block (t3.block b1 HLB.out (fun h => h))).trans KA.out.2⟩)
        clear h p3 t3
        go_wp2_with fail
        refine hK.out _ _ (by first | with_reducible exact KB.out | with_reducible exact KA.out) (fun hHeld => ?_)
        clear hK K hHeld
        try simp only [Act.put, List.setIfInBounds_toArray, List.set_cons_zero, List.set_cons_succ]
        refine wpAnyH_take (i := 10) (oi := ⟨some 31, .move (.tmp 41), 98, "lap.go:147", #[⟨9, .data⟩], none⟩) (v := ?_) rfl (by kernel_rfl) (by kernel_rfl) (by kernel_rfl) (fun _ _ _ h => h) (Or.inl ⟨by rfl, ?_⟩) (by first | with_reducible exact KB.out | with_reducible exact KA.out) ?_
        rotate_left
        · (intro w hSw; obtain ⟨s0, s1⟩ := hSw; go_simp <;> with_reducible rfl)
        simp only [Act.put, List.setIfInBounds_toArray, List.set_cons_zero, List.set_cons_succ]
        refine wpAnyH_take (i := 11) (oi := ⟨some 42, .extract (.tmp 31) 0, 97, "lap.go:147", #[⟨10, .data⟩], none⟩) (v := ?_) rfl (by kernel_rfl) (by kernel_rfl) (by kernel_rfl) (fun _ _ _ h => h) (Or.inl ⟨by rfl, ?_⟩) (by first | with_reducible exact KB.out | with_reducible exact KA.out) ?_
        rotate_left
        · (intro w hSw; obtain ⟨s0, s1⟩ := hSw; go_simp <;> with_reducible rfl)
        simp only [Act.put, List.setIfInBounds_toArray, List.set_cons_zero, List.set_cons_succ]
        refine wpAnyH_take (i := 12) (oi := ⟨some 43, .extract (.tmp 31) 1, 25, "lap.go:147", #[⟨10, .data⟩, { on := 13, ground := Go.Ground.gcOnly Go.Departure.lateStores }], none⟩) (v := ?_) rfl (by kernel_rfl) (by kernel_rfl) (by kernel_rfl) (fun _ _ _ h => h) (Or.inl ⟨by rfl, ?_⟩) (by first | with_reducible exact KB.out | with_reducible exact KA.out) ?_
        rotate_left
        · (intro w hSw; obtain ⟨s0, s1⟩ := hSw; go_simp <;> with_reducible rfl)
        simp only [Act.put, List.setIfInBounds_toArray, List.set_cons_zero, List.set_cons_succ]
        refine wpAnyH_take (i := 13) (oi := ⟨some 7, .assign (.tmp 42), 97, "lap.go:147", #[⟨11, .data⟩, ⟨9, .chain⟩, ⟨0, .phase⟩, ⟨1, .phase⟩, ⟨2, .phase⟩, ⟨3, .phase⟩, ⟨4, .phase⟩, ⟨5, .phase⟩, ⟨6, .phase⟩, ⟨7, .phase⟩, ⟨8, .phase⟩, ⟨9, .phase⟩, ⟨10, .phase⟩, ⟨11, .phase⟩, { on := 12, ground := Go.Ground.textOnly Go.Departure.lateStores }], none⟩) (v := ?_) rfl (by kernel_rfl) (by kernel_rfl) (by kernel_rfl) (fun _ _ _ h => h) (Or.inl ⟨by rfl, ?_⟩) (by first | with_reducible exact KB.out | with_reducible exact KA.out) ?_
        rotate_left
        · (intro w hSw; obtain ⟨s0, s1⟩ := hSw; go_simp <;> with_reducible rfl)
        simp only [Act.put, List.setIfInBounds_toArray, List.set_cons_zero, List.set_cons_succ]
        refine wpAnyH_take (i := 14) (oi := ⟨some 8, .assign (.tmp 43), 25, "lap.go:147", #[⟨12, .data⟩, ⟨13, .chain⟩, ⟨0, .phase⟩, ⟨1, .phase⟩, ⟨2, .phase⟩, ⟨3, .phase⟩, ⟨4, .phase⟩, ⟨5, .phase⟩, ⟨6, .phase⟩, ⟨7, .phase⟩, ⟨8, .phase⟩, ⟨9, .phase⟩, ⟨10, .phase⟩, ⟨11, .phase⟩, ⟨12, .phase⟩, ⟨13, .phase⟩], none⟩) (v := ?_) rfl (by kernel_rfl) (by kernel_rfl) (by kernel_rfl) (fun _ _ _ h => h) (Or.inl ⟨by rfl, ?_⟩) (by first | with_reducible exact KB.out | with_reducible exact KA.out) ?_
        rotate_left
        · (intro w hSw; obtain ⟨s0, s1⟩ := hSw; go_simp <;> with_reducible rfl)
        simp only [Act.put, List.setIfInBounds_toArray, List.set_cons_zero, List.set_cons_succ]
        refine wpAnyH_done (by kernel_rfl) ?_ _
        have hax := HAW.out.trans HT3.out
        have heq : Calls Tryz.prog 103 #[.slice A3 NN k3, .slice (some ⟨b1, o1, none⟩) k k0, .func (.func 104) #[] #[]] w8 (EqR w8 (cutV pe pn L) ps) := by
          have h1 := HP.out.step hax
          rw [HN.out] at h1
          have h := equalfn_any A3 (some ⟨b1, o1, none⟩) k3 k0 (cutV pe pn L) ps w8 HP3.out h1 (cutV_lt HL8.out) HB.out
          rw [← HNN.out, ← HN.out] at h
          exact h
        have HEQ := Lib.hid heq
        have HRD8 := Lib.hid (HRD.out.far (fun _ _ _ h => HT3.out.block _ h (fun h => h)) HT3.out.size)
        have HAX := Lib.hid hax
        clear heq hax hNp
        by_cases hE0 : E = 0
        · subst hE0
          go_wp2_with fail
          refine HEQ.out.mono ?_
          rintro x w9 ⟨B, rfl, hB, t9⟩
          have HBB := Lib.hid hB
          have HT9 := Lib.hid t9
          clear hB t9
          cases B with
          | false =>
            go_wp2_with fail
            refine bodyPost_ret (v := .tuple #[.slice none 0 0, .int .i64 4]) (by simp [results, Tryz.results73, go_sem]) rfl (JoinR.none (fun h => ?_) (HAX.out.trans HT9.out))
            obtain ⟨_, _, h3, h4⟩ := (join_iff ps).mpr h
            rw [← HPE.out, ← HPN.out, ← HL.out] at h3 h4
            have e : cutV pe pn L = ps := by rw [cutV, if_pos h3]; exact h4
            exact absurd (HBB.out.mpr e) (by decide)
          | true =>
            go_wp2_with fail
            refine bodyPost_ret (v := .tuple #[.slice A m q, .int .i64 0]) (by simp [results, Tryz.results73, go_sem]) rfl (JoinR.some ((join_iff ps).mp ?_) ?_ ?_ (HAX.out.trans HT9.out))
            · have e := HBB.out.mp (by trivial)
              rw [cutV, if_pos HE.out.symm] at e
              refine ⟨by rw [← HN.out]; exact H0.out, ?_, ?_, ?_⟩
              · rw [← HL.out, ← HM.out]; exact HM8.out
              · rw [← HPE.out, ← HPN.out, ← HL.out]; exact HE.out.symm
              · rw [← HPE.out, ← HPN.out, ← HL.out]; exact e
            · rw [← HL.out]; exact HM.out
            · rw [← HL.out]; exact HRD8.out.far (fun _ _ _ h => HT9.out.block _ h (fun h => h)) HT9.out.size
        · have hEb : (E == 0) = false := by rw [beq_eq_false_iff_ne]; exact hE0
          have HNO := Lib.hid hE0
          clear hE0
          go_wp2_with fail
          refine bodyPost_ret (v := .tuple #[.slice none 0 0, .int .i64 4]) (by simp [results, Tryz.results73, go_sem]) rfl (JoinR.none (fun h => HNO.out ?_) HAX.out)
          obtain ⟨_, _, h3, _⟩ := (join_iff ps).mpr h
          rw [HE.out, HPE.out, HPN.out, HL.out]
          exact h3
end Go.Proofs.YtolcnbiaiolcoaaGreat
