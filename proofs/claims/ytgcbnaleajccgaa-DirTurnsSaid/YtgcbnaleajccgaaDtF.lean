/- The statement DirTurns, walked. -/
import Derived.Test.YtgcbnaleajccgaaDtE
import Derived.Test.YtgcbnaleajccgaaDrU
import Derived.Test.YtgcbnaleajccgaaDrW
namespace Go.Proofs.Ytgcbnaleajccgaa
open Go.ChangeShapes Go.WideShapes Go.ChangeAt Go.RowKit

theorem EnO.setRd {V w : World} {l : List En} {v u : Value} {y i : Nat} (h : EnO V l v w) (hy : y < V.heap.size) : EnR (w.setCell ⟨y, i, none⟩ u) v l := by
  obtain ⟨F, h1, h2⟩ := h.ex
  refine ⟨h1.rd.far (fun k hk _ hl => Below.heap_setCell w ⟨y, i, none⟩ u k (fun e => ?_)) (by simp [World.setCell]), h.sz⟩
  rcases h2.into k (h1.inF k hk) with h3 | h3
  · exact h3
  · have : k = y := e
    omega
theorem cut20_id {s : ByteArray} (h : s.size ≤ 20) : cut20 s = s := by unfold cut20; rw [if_neg (by omega)]
theorem fewL_id {l : List En} (h : l.length ≤ 20) (hs : ∀ e ∈ l, e.s.size ≤ 20) : fewL 20 l = l := by
  unfold fewL
  rw [List.take_of_length_le h]
  conv => rhs; rw [← List.map_id l]
  exact List.map_congr_left fun e he => by unfold cutE; rw [cut20_id (hs e he)]; rfl
def TuL (W : World) (M : Nat) (t7 t8 : Value) (wr : World) : Prop := ∃ (k : Nat) (q : List En), t8 = .int .i64 (k : Int) ∧ k ≤ M ∧ EnO W q t7 wr ∧ Ris q ∧ q.length ≤ k ∧ (∀ e ∈ q, e.s.size ≤ 20)
def TvL (W : World) (Q p : Nat) (F : Bool) (t12 t13 t14 : Value) (wr : World) : Prop := ∃ k : Nat, t14 = .int .i64 (k : Int) ∧ k ≤ Q ∧ t12 = .int .i64 ((min k p : Nat) : Int) ∧ t13 = .bool (decide (p < k) && F) ∧ wr = W

set_option maxRecDepth 3000 in
set_option maxHeartbeats 6400000 in
theorem turns_walk (w : World) (v0 : Value) (h0 : ∃ l, EnR w v0 l) (v1 : Value) (h1 : EnA v1) (a2 : ByteArray) (hz2 : a2.size ≤ maxLen) : Calls Try.prog 6 #[v0, v1, .string a2] w fun x w' => x = .returned (.bool true) ∧ Below w.heap.size w w' := by
  obtain ⟨l, hl⟩ := h0
  obtain ⟨e, rfl, hze⟩ := h1
  change Calls Try.prog 6 #[v0, .agg (ea e), .string a2] w _
  obtain ⟨y, hy⟩ : ∃ y, y = w.heap.size := ⟨_, rfl⟩
  obtain ⟨V, hV⟩ : ∃ V, V = w.alloc (.cells (ea e) 46) := ⟨_, rfl⟩
  have HY := Lib.hid (show Blk V y 46 (ea e) by rw [hV, hy]; exact Blk.new _ _ _)
  have hVA : Adv Nul w Nul V := by rw [hV]; exact (Adv.refl _ _).alloc _
  have HVA := Lib.hid hVA
  have HF := Lib.hid (few9_any v0 l 20 (by decide) V (hl.step hVA))
  have HSA := Lib.hid (fun w => short20 a2 w hz2)
  have HSE := Lib.hid (fun w => short20 e.s w hze)
  obtain ⟨s, hs⟩ : ∃ s, s = cut20 a2 := ⟨_, rfl⟩
  obtain ⟨m, hm⟩ : ∃ m, m = fewL 20 l := ⟨_, rfl⟩
  rw [← hs] at HSA
  have HML := Lib.hid (show m.length ≤ 20 ∧ ∀ x ∈ m, x.s.size ≤ 20 by rw [hm]; exact ⟨by rw [fewL_length]; omega, fewL_size 20 l⟩)
  rw [← hm] at HF
  have HV := Lib.hid hV
  have HYY := Lib.hid hy
  clear hV hy hVA hl hs hm hze hz2
  obtain ⟨s0, s1, s2, s3⟩ := HY.out.e4.all
  obtain ⟨es, i, g, q⟩ := e
  simp only at s0 s1 s2 s3 HSE
  go_enter Try.func6, Try.ntmps6
  go_upto_region 1 with (fail)
  rw [← HV.out, ← HYY.out]
  go_upto_region 2 with (first
    | (go_at_call 7; refine HF.out.mono ?_; rintro x w1 ⟨v1, rfl, h1⟩; have HE1 := Lib.hid h1; clear h1)
    | (go_at_call 17; refine (HSA.out _).mono ?_; rintro x w2 ⟨rfl, rfl⟩)
    | fail)
  have hY1 := HY.out.keep (HE1.out.adv.block y HY.out.lt (fun h => h))
  clear s0 s1 s2 s3
  obtain ⟨s0, s1, s2, s3⟩ := hY1.e4.all
  simp only at s0 s1 s2 s3
  have HY1 := Lib.hid hY1
  have hfz : w1.frozen? ⟨y, 0, none⟩ = false := hY1.frozen 0
  clear hY1
  go_upto_region 3 with (first
    | (go_at_call 17; refine (HSE.out _).mono ?_; rintro x w2 ⟨rfl, rfl⟩)
    | fail)
  have hw3 : Blk (w1.setCell ⟨y, 0, none⟩ (.string (cut20 es))) y 46 (ea ⟨cut20 es, i, g, q⟩) := HY1.out.set_ 0 _
  have hyV : y < V.heap.size := HY.out.lt
  have hx3 : Adv Nul w Nul (w1.setCell ⟨y, 0, none⟩ (.string (cut20 es))) := (HVA.out.trans HE1.out.adv).setCell (.inr (by rw [HYY.out]; exact Nat.le_refl _)) _
  have hm3 : EnR (w1.setCell ⟨y, 0, none⟩ (.string (cut20 es))) v1 m := HE1.out.setRd hyV
  obtain ⟨E, hE⟩ : ∃ E, E = cut20 es := ⟨_, rfl⟩
  have HEZ := Lib.hid (show E.size ≤ 20 by rw [hE]; exact cut20_size _)
  rw [← hE] at hw3 hx3 hm3
  rw [← hE]
  obtain ⟨w3, hw⟩ : ∃ w3, w3 = w1.setCell ⟨y, 0, none⟩ (.string E) := ⟨_, rfl⟩
  rw [← hw] at hw3 hx3 hm3
  rw [← hw]
  have HY3 := Lib.hid hw3
  have HX3' := Lib.hid hx3
  obtain ⟨A1, c1, rfl, _, _⟩ := hm3.form
  obtain ⟨M, hM⟩ : ∃ M, M = m.length := ⟨_, rfl⟩
  rw [← hM] at hm3
  rw [← hM]
  have HM3 := Lib.hid hm3
  have HMM := Lib.hid hM
  have hM20 : (M : Int) ≤ 20 := by have := HML.out.1; omega
  clear hw3 hx3 hm3 hE hw hyV hM s0 s1 s2 s3 HY1 HSE HSA HF HV HY
  go_wp2_with fail
  go_loopw [7, 8] (TuL w3 M) (fun _ t _ => M - (intOf t).toNat)
  case atStart => exact ⟨0, [], rfl, Nat.zero_le _, EnO.nil w3, List.Pairwise.nil, Nat.le_refl _, fun _ h => by simp at h⟩
  case round =>
    obtain ⟨k, P, rfl, hk, hE, hris, hpl, hps⟩ := hrel
    obtain ⟨A7, c7, rfl⟩ := hE.form
    have HE := Lib.hid hE
    have HRI := Lib.hid hris
    have HPS := Lib.hid hps
    have HPL := Lib.hid hpl
    clear hE hris hps hpl
    by_cases hlt : k < M
    · have hkl : k < m.length := by rw [← HMM.out]; exact hlt
      obtain ⟨b, o, rfl, hb, g0, g1, g2, g3⟩ := (HM3.out.step HE.out.adv).at_ HMM.out hkl
      obtain ⟨x, hx⟩ : ∃ x, x = m[k] := ⟨_, rfl⟩
      have hxz : x.s.size ≤ 20 := by rw [hx]; exact HML.out.2 _ (List.getElem_mem _)
      rw [← hx] at g0 g1 g2 g3
      have HXZ := Lib.hid hxz
      have HPUT := Lib.hid (q9put_any (.slice A7 P.length c7) P x wr HE.out.rd HRI.out (by have := HPL.out; omega) (by unfold maxLen; omega))
      have HLT := Lib.hid hlt
      have hki : (k : Int) < (M : Int) := by omega
      clear hkl hx hxz hb hlt hk
      obtain ⟨xs, xi, xg, xq⟩ := x
      simp only at g0 g1 g2 g3 HXZ
      go_wp2_with (first
        | (go_at_call 18; refine HPUT.out.mono ?_; rintro x w4 ⟨v4, rfl, h4⟩; have HE4 := Lib.hid (h4.since HE.out.adv); clear h4)
        | fail)
      exact ⟨⟨k + 1, putL P ⟨xs, xi, xg, xq⟩, by go_num, HLT.out, HE4.out, HRI.out.put _, by have := putL_length P ⟨xs, xi, xg, xq⟩; have := HPL.out; omega, fun e he => by
        rcases mem_put he with h | rfl
        · exact HPS.out e h
        · exact HXZ.out⟩, by have := HLT.out; simp [intOf] <;> omega⟩
    · obtain rfl : k = M := by omega
      have hP20 : P.length ≤ 20 := by have := HPL.out; omega
      have HFW := Lib.hid (few9_any (.slice A7 P.length c7) P 20 (by decide) wr HE.out.rd)
      rw [fewL_id hP20 HPS.out] at HFW
      have HPN := Lib.hid hP20
      obtain ⟨Q, hQ⟩ : ∃ Q, Q = P.length := ⟨_, rfl⟩
      have HIN0 := Lib.hid HE.out.rd
      rw [← hQ] at HFW HIN0
      rw [← hQ]
      have HQ := Lib.hid hQ
      have hQi : (Q : Int) ≤ 20 := by omega
      clear hlt hk hP20 hQ
      go_upto_region 9 with (first
        | (go_at_call 7; refine HFW.out.mono ?_; rintro x w5 ⟨v5, rfl, h5⟩; have HMI5 := Lib.hid h5.rd; have HA5 := Lib.hid h5.adv; clear h5)
        | fail)
      have HFI := Lib.hid (find_any v5 P s w5 HMI5.out HRI.out (by have := HPN.out; omega))
      go_upto_region 10 with (first
        | (go_at_call 19; refine HFI.out.mono ?_; rintro x w6 ⟨p, F, hf, rfl, a6⟩; have HFP := Lib.hid hf; have HMI := Lib.hid (HMI5.out.step a6); have HIN := Lib.hid (HIN0.out.step (HA5.out.trans a6)); have HA6 := Lib.hid (HE.out.adv.trans (HA5.out.trans a6)); clear hf a6)
        | fail)
      have hpQ : p ≤ Q := by rw [HQ.out]; exact HFP.out.le
      have HPQ9 := Lib.hid hpQ
      clear hpQ
      go_wp2_with fail
      go_loopw [12, 13, 14] (TvL w6 Q p F) (fun _ _ t _ => Q - (intOf t).toNat)
      case atStart => exact ⟨0, rfl, Nat.zero_le _, by simp, by simp, rfl⟩
      case round =>
        obtain ⟨k2, rfl, hk, rfl, rfl, rfl⟩ := hrel
        by_cases hlt : k2 < Q
        · have hkl : k2 < P.length := by rw [← HQ.out]; exact hlt
          obtain ⟨b, o, rfl, hb, g0, g1, g2, g3⟩ := HIN.out.at_ HQ.out hkl
          have hx' := List.getElem?_eq_getElem hkl
          obtain ⟨x, hx⟩ : ∃ x, x = P[k2] := ⟨_, rfl⟩
          rw [← hx] at g0 g1 g2 g3 hx'
          have heq : (x.s.toList == s.toList) = (decide (k2 = p) && F) := by rw [eqS_eq]; exact HFP.out.eq_at HRI.out hx'
          have hlo := HFP.out.lt k2 x hx'
          have hge := HFP.out.ge k2 x hx'
          have HLT := Lib.hid hlt
          have hki : (k2 : Int) < (Q : Int) := by omega
          clear hkl hx hx' hb hlt hk
          obtain ⟨xs, xi, xg, xq⟩ := x
          simp only at g0 g1 g2 g3 heq hlo hge
          rcases Nat.lt_trichotomy k2 p with c | c | c
          · rw [Nat.min_eq_left (Nat.le_of_lt c), show (decide (p < k2) && F) = false by rw [decide_eq_false (by omega)]; rfl]
            have hl : Op.bytesLess xs.toList s.toList = true := by rw [less_eq]; exact decide_eq_true (hlo c)
            have he : (xs.toList == s.toList) = false := by rw [heq, decide_eq_false (by omega)]; rfl
            have HC := Lib.hid c
            clear heq hlo hge c
            go_wp2_with fail
            refine ⟨⟨k2 + 1, by go_num, HLT.out, ?_, ?_, rfl⟩, by have := HLT.out; simp [intOf] <;> omega⟩
            · rw [Nat.min_eq_left (by have := HC.out; omega)]; go_num
            · rw [decide_eq_false (by have := HC.out; omega)]; rfl
          · rw [Nat.min_eq_right (by omega), show (decide (p < k2) && F) = false by rw [decide_eq_false (by omega)]; rfl]
            have hl : Op.bytesLess xs.toList s.toList = false := by rw [less_eq]; exact decide_eq_false (hge (by omega))
            have he : (xs.toList == s.toList) = F := by rw [heq, decide_eq_true c]; rfl
            have HC := Lib.hid c
            clear heq hlo hge c
            go_wp2_with fail
            refine ⟨⟨k2 + 1, by go_num, HLT.out, ?_, ?_, rfl⟩, by have := HLT.out; simp [intOf] <;> omega⟩
            · rw [Nat.min_eq_right (by have := HC.out; omega)]
            · rw [decide_eq_true (show p < k2 + 1 by have := HC.out; omega)]; rfl
          · rw [Nat.min_eq_right (by omega), show (decide (p < k2) && F) = F by rw [decide_eq_true c]; rfl]
            have hl : Op.bytesLess xs.toList s.toList = false := by rw [less_eq]; exact decide_eq_false (hge (by omega))
            have he : (xs.toList == s.toList) = false := by rw [heq, decide_eq_false (by omega)]; rfl
            have HC := Lib.hid c
            clear heq hlo hge c
            cases F with
            | true =>
              go_wp2_with fail
              refine ⟨⟨k2 + 1, by go_num, HLT.out, ?_, ?_, rfl⟩, by have := HLT.out; simp [intOf] <;> omega⟩
              · rw [Nat.min_eq_right (by have := HC.out; omega)]
              · rw [decide_eq_true (show p < k2 + 1 by have := HC.out; omega)]; rfl
            | false =>
              go_wp2_with fail
              refine ⟨⟨k2 + 1, by go_num, HLT.out, ?_, ?_, rfl⟩, by have := HLT.out; simp [intOf] <;> omega⟩
              · rw [Nat.min_eq_right (by have := HC.out; omega)]
              · simp
        · obtain rfl : k2 = Q := by omega
          have hF : (decide (p < k2) && F) = F := by
            cases hF : F with
            | false => simp
            | true =>
              obtain ⟨x, hx, _⟩ := HFP.out.at_.1 hF
              have := (List.getElem?_eq_some_iff.1 hx).1
              rw [decide_eq_true (by rw [HQ.out]; exact this)]; rfl
          rw [Nat.min_eq_right HPQ9.out, hF]
          have HK := Lib.hid (fun w' (a : Adv Nul wr Nul w') => show w'.cell? ⟨y, 0, none⟩ = some (.string E) ∧ w'.cell? ⟨y, 1, none⟩ = some (.int .i64 i) ∧ w'.cell? ⟨y, 2, none⟩ = some (.int .i64 g) ∧ w'.cell? ⟨y, 3, none⟩ = some (.int .i64 q) from (HY3.out.keep ((HA6.out.trans a).block y HY3.out.lt (fun h => h))).e4.all)
          have hez : E.size ≤ maxLen := by have := HEZ.out; unfold maxLen; omega
          have h1000 : P.length ≤ 1000 := by have := HPN.out; omega
          have HPP := Lib.hid (fun w' (a : Adv Nul wr Nul w') => dput_any v5 P ⟨E, i, g, q⟩ w' (HMI.out.step a) HRI.out h1000 hez)
          have HPQ := Lib.hid (fun w' (a : Adv Nul wr Nul w') => q9put_any (.slice A7 k2 c7) P ⟨E, i, g, q⟩ w' (HIN.out.step a) HRI.out h1000 hez)
          have HDP := Lib.hid (fun w' (a : Adv Nul wr Nul w') => ddrop_any v5 P s w' (HMI.out.step a) HRI.out h1000)
          have HDQ := Lib.hid (fun w' (a : Adv Nul wr Nul w') => show Calls Try.prog 22 #[.slice A7 k2 c7, .string s] w' fun x w'' => ∃ v', x = .returned v' ∧ EnO w' (dropL P s) v' w'' from by
            have h := q9drop_any (.slice A7 k2 c7) P s w' (HIN.out.step a) h1000
            rwa [show P.filter (fun x => !decide (x.s = s)) = dropL P s from drop_eq s HRI.out] at h)
          have HX0 := Lib.hid ((Adv.refl Nul wr).drew)
          have K0 := Lib.hid (HK.out _ HX0.out)
          clear hlt hk hF hez h1000
          go_upto_region 17 with (fail)
          refine rstart (S := (fun w' => w'.cell? ⟨y, 0, none⟩ = some (.string E) ∧ w'.cell? ⟨y, 1, none⟩ = some (.int .i64 i) ∧ w'.cell? ⟨y, 2, none⟩ = some (.int .i64 g) ∧ w'.cell? ⟨y, 3, none⟩ = some (.int .i64 q))) (by first | with_reducible exact K8.out | with_reducible exact K7.out | with_reducible exact K6.out | with_reducible exact K5.out | with_reducible exact K4.out | with_reducible exact K3.out | with_reducible exact K2.out | with_reducible exact K1.out | with_reducible exact K0.out) (fun hH => ?_)
          refine tk (i := 0) (oi := ⟨some 68, .move (.tmp 10), 3, "law.go:103", #[], none⟩) hH.out (by rintro w ⟨z0, z1, z2, z3⟩; go_simp <;> with_reducible rfl) ?_
          simp only [Act.put, sA, sB, sC]
          refine tk (i := 1) (oi := ⟨some 69, .move (.tmp 12), 3, "law.go:103", #[], none⟩) hH.out (by rintro w ⟨z0, z1, z2, z3⟩; go_simp <;> with_reducible rfl) ?_
          simp only [Act.put, sA, sB, sC]
          refine tk (i := 2) (oi := ⟨some 70, .binOp .eql 3 (.tmp 68) (.tmp 69) 3, 4, "law.go:103", #[⟨0, .data⟩, ⟨1, .data⟩], none⟩) hH.out (by rintro w ⟨z0, z1, z2, z3⟩; go_simp <;> with_reducible rfl) ?_
          simp only [Act.put, sA, sB, sC]
          refine tk (i := 3) (oi := ⟨some 71, .move (.tmp 70), 4, "law.go:103", #[⟨2, .data⟩], none⟩) hH.out (by rintro w ⟨z0, z1, z2, z3⟩; go_simp <;> with_reducible rfl) ?_
          simp only [Act.put, sA, sB, sC]
          refine tk (i := 4) (oi := { dst := some 72, op := .move (.tmp 11), type := 4, pos := "law.go:103", after := #[⟨3, .guard⟩], guard := some (3, true) }) hH.out (by rintro w ⟨z0, z1, z2, z3⟩; go_simp <;> with_reducible rfl) ?_
          simp only [Act.put, sA, sB, sC]
          refine tk (i := 5) (oi := { dst := some 73, op := .move (.tmp 13), type := 4, pos := "law.go:103", after := #[⟨3, .guard⟩], guard := some (3, true) }) hH.out (by rintro w ⟨z0, z1, z2, z3⟩; go_simp <;> with_reducible rfl) ?_
          simp only [Act.put, sA, sB, sC]
          refine tk (i := 6) (oi := { dst := some 74, op := .binOp .eql 4 (.tmp 72) (.tmp 73) 4, type := 4, pos := "law.go:103", after := #[⟨4, .data⟩, ⟨5, .data⟩, ⟨3, .guard⟩], guard := some (3, true) }) hH.out (by rintro w ⟨z0, z1, z2, z3⟩; go_simp <;> with_reducible rfl) ?_
          simp only [Act.put, sA, sB, sC]
          refine tk (i := 7) (oi := ⟨some 75, .pick (.tmp 71) (.tmp 74) (.const (Go.Value.bool false)), 4, "law.go:103", #[⟨3, .data⟩, ⟨6, .data⟩], none⟩) hH.out (by rintro w ⟨z0, z1, z2, z3⟩; go_simp <;> with_reducible rfl) ?_
          simp only [Act.put, sA, sB, sC]
          refine tk (i := 8) (oi := ⟨some 76, .move (.tmp 75), 4, "law.go:103", #[⟨7, .data⟩, ⟨3, .chain⟩], none⟩) hH.out (by rintro w ⟨z0, z1, z2, z3⟩; go_simp <;> with_reducible rfl) ?_
          simp only [Act.put, sA, sB, sC]
          refine tk (i := 9) (oi := { dst := some 77, op := .move (.tmp 9), type := 22, pos := "law.go:103", after := #[⟨8, .guard⟩], guard := some (8, true) }) hH.out (by rintro w ⟨z0, z1, z2, z3⟩; go_simp <;> with_reducible rfl) ?_
          simp only [Act.put, sA, sB, sC]
          refine tk (i := 10) (oi := { dst := some 78, op := .load 46 (.tmp 4), type := 46, pos := "law.go:103", after := #[⟨8, .guard⟩], guard := some (8, true) }) hH.out (by rintro w ⟨z0, z1, z2, z3⟩; go_simp <;> with_reducible rfl) ?_
          simp only [Act.put, sA, sB, sC]
          refine tk (i := 12) (oi := { dst := some 80, op := .move (.tmp 7), type := 22, pos := "law.go:103", after := #[⟨8, .guard⟩], guard := some (8, true) }) hH.out (by rintro w ⟨z0, z1, z2, z3⟩; go_simp <;> with_reducible rfl) ?_
          simp only [Act.put, sA, sB, sC]
          refine tk (i := 13) (oi := { dst := some 81, op := .load 46 (.tmp 4), type := 46, pos := "law.go:103", after := #[⟨8, .guard⟩], guard := some (8, true) }) hH.out (by rintro w ⟨z0, z1, z2, z3⟩; go_simp <;> with_reducible rfl) ?_
          simp only [Act.put, sA, sB, sC]
          refine rdy (i := 11) (oi := { dst := some 79, op := .call ⟨.value (.func 20), #[.tmp 77, .tmp 78], #[22, 46]⟩, type := 22, pos := "law.go:103", after := #[⟨9, .data⟩, ⟨10, .data⟩, ⟨8, .chain⟩, ⟨8, .guard⟩], guard := some (8, true) }) (fun K hK => ?_)
          go_simp
          refine (HPP.out _ HX0.out).mono ?_
          rintro x u1 ⟨v1', rfl, h1⟩
          have HX1 := Lib.hid (HX0.out.trans h1.adv)
          have HA1 := Lib.hid h1.rd
          have K1 := Lib.hid (HK.out u1 HX1.out)
          clear h1
          go_wp2_with fail
          refine hK.out _ _ (by first | with_reducible exact K8.out | with_reducible exact K7.out | with_reducible exact K6.out | with_reducible exact K5.out | with_reducible exact K4.out | with_reducible exact K3.out | with_reducible exact K2.out | with_reducible exact K1.out | with_reducible exact K0.out) (fun hHeld => ?_)
          replace hH := Lib.hid hHeld
          clear hK K hHeld
          try simp only [Act.put, sA, sB, sC]
          refine rdy (i := 14) (oi := { dst := some 82, op := .call ⟨.value (.func 18), #[.tmp 80, .tmp 81], #[22, 46]⟩, type := 22, pos := "law.go:103", after := #[⟨12, .data⟩, ⟨13, .data⟩, ⟨11, .chain⟩, ⟨8, .guard⟩], guard := some (8, true) }) (fun K hK => ?_)
          go_simp
          refine (HPQ.out _ HX1.out).mono ?_
          rintro x u2 ⟨v2', rfl, h2⟩
          have HX2 := Lib.hid (HX1.out.trans h2.adv)
          have HA2' := Lib.hid (HA1.out.step h2.adv)
          have HB2 := Lib.hid h2.rd
          have K2 := Lib.hid (HK.out u2 HX2.out)
          clear h2
          go_wp2_with fail
          refine hK.out _ _ (by first | with_reducible exact K8.out | with_reducible exact K7.out | with_reducible exact K6.out | with_reducible exact K5.out | with_reducible exact K4.out | with_reducible exact K3.out | with_reducible exact K2.out | with_reducible exact K1.out | with_reducible exact K0.out) (fun hHeld => ?_)
          replace hH := Lib.hid hHeld
          clear hK K hHeld
          try simp only [Act.put, sA, sB, sC]
          refine rdy (i := 15) (oi := { dst := some 83, op := .call ⟨.value (.func 16), #[.tmp 79, .tmp 82], #[22, 22]⟩, type := 4, pos := "law.go:103", after := #[⟨11, .data⟩, ⟨14, .data⟩, ⟨14, .chain⟩, ⟨8, .guard⟩], guard := some (8, true) }) (fun K hK => ?_)
          go_simp
          refine (same9_any _ _ _ _ _ HA2'.out HB2.out).mono ?_
          rintro x u3 ⟨rfl, j3, hu3⟩
          rw [decide_eq_true (Eq.refl (putL P ⟨E, i, g, q⟩))]
          have HX3 := Lib.hid (show Adv Nul wr Nul u3 by rw [hu3]; exact HX2.out.drewN j3)
          have K3 := Lib.hid (HK.out u3 HX3.out)
          clear hu3
          go_wp2_with fail
          refine hK.out _ _ (by first | with_reducible exact K8.out | with_reducible exact K7.out | with_reducible exact K6.out | with_reducible exact K5.out | with_reducible exact K4.out | with_reducible exact K3.out | with_reducible exact K2.out | with_reducible exact K1.out | with_reducible exact K0.out) (fun hHeld => ?_)
          replace hH := Lib.hid hHeld
          clear hK K hHeld
          try simp only [Act.put, sA, sB, sC]
          refine tk (i := 16) (oi := ⟨some 84, .pick (.tmp 76) (.tmp 83) (.const (Go.Value.bool false)), 4, "law.go:103", #[⟨8, .data⟩, ⟨15, .data⟩], none⟩) hH.out (by rintro w ⟨z0, z1, z2, z3⟩; go_simp <;> with_reducible rfl) ?_
          simp only [Act.put, sA, sB, sC]
          refine tk (i := 17) (oi := ⟨some 85, .move (.tmp 84), 4, "law.go:103", #[⟨16, .data⟩, ⟨15, .chain⟩], none⟩) hH.out (by rintro w ⟨z0, z1, z2, z3⟩; go_simp <;> with_reducible rfl) ?_
          simp only [Act.put, sA, sB, sC]
          refine tk (i := 18) (oi := { dst := some 86, op := .move (.tmp 9), type := 22, pos := "law.go:103", after := #[⟨17, .guard⟩], guard := some (17, true) }) hH.out (by rintro w ⟨z0, z1, z2, z3⟩; go_simp <;> with_reducible rfl) ?_
          simp only [Act.put, sA, sB, sC]
          refine tk (i := 19) (oi := { dst := some 87, op := .move (.tmp 2), type := 9, pos := "law.go:103", after := #[⟨17, .guard⟩], guard := some (17, true) }) hH.out (by rintro w ⟨z0, z1, z2, z3⟩; go_simp <;> with_reducible rfl) ?_
          simp only [Act.put, sA, sB, sC]
          refine tk (i := 21) (oi := { dst := some 89, op := .move (.tmp 7), type := 22, pos := "law.go:103", after := #[⟨17, .guard⟩], guard := some (17, true) }) hH.out (by rintro w ⟨z0, z1, z2, z3⟩; go_simp <;> with_reducible rfl) ?_
          simp only [Act.put, sA, sB, sC]
          refine tk (i := 22) (oi := { dst := some 90, op := .move (.tmp 2), type := 9, pos := "law.go:103", after := #[⟨17, .guard⟩], guard := some (17, true) }) hH.out (by rintro w ⟨z0, z1, z2, z3⟩; go_simp <;> with_reducible rfl) ?_
          simp only [Act.put, sA, sB, sC]
          refine rdy (i := 20) (oi := { dst := some 88, op := .call ⟨.value (.func 21), #[.tmp 86, .tmp 87], #[22, 9]⟩, type := 22, pos := "law.go:103", after := #[⟨18, .data⟩, ⟨19, .data⟩, ⟨17, .chain⟩, ⟨17, .guard⟩], guard := some (17, true) }) (fun K hK => ?_)
          go_simp
          refine (HDP.out _ HX3.out).mono ?_
          rintro x u4 ⟨v4', rfl, h4⟩
          have HX4 := Lib.hid (HX3.out.trans h4.adv)
          have HA4 := Lib.hid h4.rd
          have K4 := Lib.hid (HK.out u4 HX4.out)
          clear h4
          go_wp2_with fail
          refine hK.out _ _ (by first | with_reducible exact K8.out | with_reducible exact K7.out | with_reducible exact K6.out | with_reducible exact K5.out | with_reducible exact K4.out | with_reducible exact K3.out | with_reducible exact K2.out | with_reducible exact K1.out | with_reducible exact K0.out) (fun hHeld => ?_)
          replace hH := Lib.hid hHeld
          clear hK K hHeld
          try simp only [Act.put, sA, sB, sC]
          refine rdy (i := 23) (oi := { dst := some 91, op := .call ⟨.value (.func 22), #[.tmp 89, .tmp 90], #[22, 9]⟩, type := 22, pos := "law.go:103", after := #[⟨21, .data⟩, ⟨22, .data⟩, ⟨20, .chain⟩, ⟨17, .guard⟩], guard := some (17, true) }) (fun K hK => ?_)
          go_simp
          refine (HDQ.out _ HX4.out).mono ?_
          rintro x u5 ⟨v5', rfl, h5⟩
          have HX5 := Lib.hid (HX4.out.trans h5.adv)
          have HA5' := Lib.hid (HA4.out.step h5.adv)
          have HB5 := Lib.hid h5.rd
          have K5 := Lib.hid (HK.out u5 HX5.out)
          clear h5
          go_wp2_with fail
          refine hK.out _ _ (by first | with_reducible exact K8.out | with_reducible exact K7.out | with_reducible exact K6.out | with_reducible exact K5.out | with_reducible exact K4.out | with_reducible exact K3.out | with_reducible exact K2.out | with_reducible exact K1.out | with_reducible exact K0.out) (fun hHeld => ?_)
          replace hH := Lib.hid hHeld
          clear hK K hHeld
          try simp only [Act.put, sA, sB, sC]
          refine rdy (i := 24) (oi := { dst := some 92, op := .call ⟨.value (.func 16), #[.tmp 88, .tmp 91], #[22, 22]⟩, type := 4, pos := "law.go:103", after := #[⟨20, .data⟩, ⟨23, .data⟩, ⟨23, .chain⟩, ⟨17, .guard⟩], guard := some (17, true) }) (fun K hK => ?_)
          go_simp
          refine (same9_any _ _ _ _ _ HA5'.out HB5.out).mono ?_
          rintro x u6 ⟨rfl, j6, hu6⟩
          rw [decide_eq_true (Eq.refl (dropL P s))]
          have HX6 := Lib.hid (show Adv Nul wr Nul u6 by rw [hu6]; exact HX5.out.drewN j6)
          have K6 := Lib.hid (HK.out u6 HX6.out)
          clear hu6
          go_wp2_with fail
          refine hK.out _ _ (by first | with_reducible exact K8.out | with_reducible exact K7.out | with_reducible exact K6.out | with_reducible exact K5.out | with_reducible exact K4.out | with_reducible exact K3.out | with_reducible exact K2.out | with_reducible exact K1.out | with_reducible exact K0.out) (fun hHeld => ?_)
          replace hH := Lib.hid hHeld
          clear hK K hHeld
          try simp only [Act.put, sA, sB, sC]
          refine tk (i := 25) (oi := ⟨some 93, .pick (.tmp 85) (.tmp 92) (.const (Go.Value.bool false)), 4, "law.go:103", #[⟨17, .data⟩, ⟨24, .data⟩], none⟩) hH.out (by rintro w ⟨z0, z1, z2, z3⟩; go_simp <;> with_reducible rfl) ?_
          simp only [Act.put, sA, sB, sC]
          refine tk (i := 26) (oi := ⟨some 94, .move (.tmp 93), 4, "law.go:103", #[⟨25, .data⟩, ⟨24, .chain⟩], none⟩) hH.out (by rintro w ⟨z0, z1, z2, z3⟩; go_simp <;> with_reducible rfl) ?_
          simp only [Act.put, sA, sB, sC]
          refine tk (i := 27) (oi := { dst := some 95, op := .move (.tmp 9), type := 22, pos := "law.go:103", after := #[⟨26, .guard⟩], guard := some (26, true) }) hH.out (by rintro w ⟨z0, z1, z2, z3⟩; go_simp <;> with_reducible rfl) ?_
          simp only [Act.put, sA, sB, sC]
          refine tk (i := 28) (oi := { dst := some 96, op := .move (.tmp 7), type := 22, pos := "law.go:103", after := #[⟨26, .guard⟩], guard := some (26, true) }) hH.out (by rintro w ⟨z0, z1, z2, z3⟩; go_simp <;> with_reducible rfl) ?_
          simp only [Act.put, sA, sB, sC]
          refine rdy (i := 29) (oi := { dst := some 97, op := .call ⟨.value (.func 16), #[.tmp 95, .tmp 96], #[22, 22]⟩, type := 4, pos := "law.go:103", after := #[⟨27, .data⟩, ⟨28, .data⟩, ⟨26, .chain⟩, ⟨26, .guard⟩], guard := some (26, true) }) (fun K hK => ?_)
          go_simp
          refine (same9_any _ _ _ _ _ (HMI.out.step HX6.out) (HIN.out.step HX6.out)).mono ?_
          rintro x u7 ⟨rfl, j7, hu7⟩
          rw [decide_eq_true (Eq.refl P)]
          have HX7 := Lib.hid (show Adv Nul wr Nul u7 by rw [hu7]; exact HX6.out.drewN j7)
          have K7 := Lib.hid (HK.out u7 HX7.out)
          clear hu7
          go_wp2_with fail
          refine hK.out _ _ (by first | with_reducible exact K8.out | with_reducible exact K7.out | with_reducible exact K6.out | with_reducible exact K5.out | with_reducible exact K4.out | with_reducible exact K3.out | with_reducible exact K2.out | with_reducible exact K1.out | with_reducible exact K0.out) (fun hHeld => ?_)
          replace hH := Lib.hid hHeld
          clear hK K hHeld
          try simp only [Act.put, sA, sB, sC]
          refine tk (i := 30) (oi := ⟨some 98, .pick (.tmp 94) (.tmp 97) (.const (Go.Value.bool false)), 4, "law.go:103", #[⟨26, .data⟩, ⟨29, .data⟩], none⟩) hH.out (by rintro w ⟨z0, z1, z2, z3⟩; go_simp <;> with_reducible rfl) ?_
          simp only [Act.put, sA, sB, sC]
          refine tk (i := 31) (oi := ⟨some 99, .move (.tmp 98), 4, "law.go:103", #[⟨30, .data⟩, ⟨29, .chain⟩], none⟩) hH.out (by rintro w ⟨z0, z1, z2, z3⟩; go_simp <;> with_reducible rfl) ?_
          simp only [Act.put, sA, sB, sC]
          refine rdy (i := 32) (oi := { dst := some 100, op := .call ⟨.value (.func 11), #[], #[]⟩, type := 4, pos := "law.go:103", after := #[⟨31, .chain⟩, ⟨31, .guard⟩], guard := some (31, true) }) (fun K hK => ?_)
          go_simp
          refine (lives9_any _).mono ?_
          rintro x u8 ⟨rfl, a8⟩
          have HX8 := Lib.hid (HX7.out.trans a8)
          have K8 := Lib.hid (HK.out u8 HX8.out)
          clear a8
          go_wp2_with fail
          refine hK.out _ _ (by first | with_reducible exact K8.out | with_reducible exact K7.out | with_reducible exact K6.out | with_reducible exact K5.out | with_reducible exact K4.out | with_reducible exact K3.out | with_reducible exact K2.out | with_reducible exact K1.out | with_reducible exact K0.out) (fun hHeld => ?_)
          replace hH := Lib.hid hHeld
          clear hK K hHeld
          try simp only [Act.put, sA, sB, sC]
          refine tk (i := 33) (oi := ⟨some 101, .pick (.tmp 99) (.tmp 100) (.const (Go.Value.bool false)), 4, "law.go:103", #[⟨31, .data⟩, ⟨32, .data⟩], none⟩) hH.out (by rintro w ⟨z0, z1, z2, z3⟩; go_simp <;> with_reducible rfl) ?_
          simp only [Act.put, sA, sB, sC]
          refine tk (i := 34) (oi := ⟨some 6, .assign (.tmp 101), 4, "law.go:103", #[⟨33, .data⟩, ⟨32, .chain⟩, ⟨0, .phase⟩, ⟨1, .phase⟩, ⟨2, .phase⟩, ⟨3, .phase⟩, ⟨4, .phase⟩, ⟨5, .phase⟩, ⟨6, .phase⟩, ⟨7, .phase⟩, ⟨8, .phase⟩, ⟨9, .phase⟩, ⟨10, .phase⟩, ⟨11, .phase⟩, ⟨12, .phase⟩, ⟨13, .phase⟩, ⟨14, .phase⟩, ⟨15, .phase⟩, ⟨16, .phase⟩, ⟨17, .phase⟩, ⟨18, .phase⟩, ⟨19, .phase⟩, ⟨20, .phase⟩, ⟨21, .phase⟩, ⟨22, .phase⟩, ⟨23, .phase⟩, ⟨24, .phase⟩, ⟨25, .phase⟩, ⟨26, .phase⟩, ⟨27, .phase⟩, ⟨28, .phase⟩, ⟨29, .phase⟩, ⟨30, .phase⟩, ⟨31, .phase⟩, ⟨32, .phase⟩, ⟨33, .phase⟩], none⟩) hH.out (by rintro w ⟨z0, z1, z2, z3⟩; go_simp <;> with_reducible rfl) ?_
          simp only [Act.put, sA, sB, sC]
          refine wpAnyH_done (by kernel_rfl) ?_ _
          go_wp2_with fail
          go_ret
          exact ⟨rfl, (HX3'.out.trans (HA6.out.trans HX8.out)).toBelow⟩
end Go.Proofs.Ytgcbnaleajccgaa
