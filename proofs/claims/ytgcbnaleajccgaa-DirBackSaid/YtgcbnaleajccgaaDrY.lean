/- The statement DirBack, walked. -/
import Derived.Test.YtgcbnaleajccgaaDrX
namespace Go.Proofs.Ytgcbnaleajccgaa
open Go.ChangeShapes Go.WideShapes Go.ChangeAt Go.RowKit

theorem Rd.fro {w : World} {A : Option Addr} {m n c : Nat} {xs : List Value} (h : Rd w 1 (.slice A m c) m xs) (hn : n ≤ m) : Rd w 1 (.slice A n c) n (xs.take n) := by
  obtain ⟨A', c', e, h1, h2, h3, h4, h5⟩ := h
  injection e with e1 _ e3
  subst e1 e3
  refine ⟨A, c, rfl, by omega, h2, by simp; omega, h4, fun h0 => ?_⟩
  obtain ⟨ad, rfl, hb, hc⟩ := h5 (by omega)
  refine ⟨ad, rfl, hb, fun j u hu => hc j u ?_⟩
  rw [List.getElem?_take] at hu
  split at hu
  · exact hu
  · cases hu
theorem RwD.fro {w : World} {A : Option Addr} {n c j : Nat} {rs : List (List Nat)} (h : RwD w (.slice A n c) rs) (hj : j ≤ n) : RwD w (.slice A j c) (rs.take j) := by
  have hl := h.len
  obtain ⟨cs, h1, h2, h3⟩ := h.ex
  have h1' : Rd w 1 (.slice A n c) n cs := by rw [hl] at h1 ⊢; exact h1
  have e : (rs.take j).length = j := by rw [List.length_take]; omega
  refine ⟨cs.take j, by rw [e]; exact h1'.fro hj, by simp [h2], fun i x r hx hr => ?_⟩
  rw [List.getElem?_take] at hx hr
  split at hx
  · next hi => rw [if_pos hi] at hr; exact h3 i x r hx hr
  · cases hx
theorem cut7 {w : World} {A : Option Addr} {N c : Nat} {ls : List (List Nat)} (h : RwI w (.slice A N c) ls) (hN : N = ls.length) : ∃ (p : Nat) (B : List (List Nat)), B.length = p ∧ All8 B ∧ (∀ w', Adv Nul w Nul w' → RwD w' (.slice A p c) B) ∧ ((p = N ∧ ¬ (7 : Int) < (N : Int)) ∨ (p = 7 ∧ (7 : Int) < (N : Int) ∧ ∃ b o, A = some ⟨b, o, none⟩)) := by
  by_cases h7 : 7 < N
  · refine ⟨7, ls.take 7, by rw [List.length_take]; omega, fun r hr => h.all8 r (List.mem_of_mem_take hr), fun w' a => (h.rd.fro (by omega)).step a, .inr ⟨rfl, by omega, ?_⟩⟩
    obtain ⟨b, o, _, _, e, _⟩ := h.at_ (i := 0) (by omega)
    exact ⟨b, o, e⟩
  · exact ⟨N, ls, hN.symm, h.all8, fun w' a => h.rd.step a, .inl ⟨rfl, by omega⟩⟩
theorem ent_cases (B : List (List Nat)) : (entE B = 4 ∧ entL B = []) ∨ (entE B = 0 ∧ bE (entL B) = 0 ∧ bL (entL B) = B) := by
  by_cases h : okP B
  · obtain ⟨h1, h2⟩ := ent_yes h
    right
    rw [h1, h2]
    exact ⟨rfl, h.2.2.1, by rw [bL_of h.2.2.1]; exact h.2.2.2⟩
  · obtain ⟨h1, h2⟩ := ent_no h
    exact .inl ⟨h2, h1⟩
theorem bE_ent {m : List En} (h : bE m = 0) : entE (bL m) = 0 ∧ entL (bL m) = m := by
  rw [bL_of h]
  obtain ⟨h1, h2⟩ := okP_blocks h
  obtain ⟨h3, h4⟩ := ent_yes h1
  exact ⟨h4, by rw [h3, h2]⟩

set_option maxRecDepth 3000 in
set_option maxHeartbeats 6400000 in
theorem back9_walk (w : World) (v0 : Value) (h0 : ∃ l, EnR w v0 l) (v1 : Value) (h1 : ∃ l, RwI w v1 l) : Calls Try.prog 5 #[v0, v1] w fun e w' => e = .returned (.bool true) ∧ Below w.heap.size w w' := by
  obtain ⟨l, hl⟩ := h0
  obtain ⟨ls, hls⟩ := h1
  obtain ⟨A, c, rfl, hnc, hcm⟩ := hls.rd.form
  obtain ⟨N, hN⟩ : ∃ N, N = ls.length := ⟨_, rfl⟩
  have hN9 : (N : Int) ≤ 9223372036854775807 := by unfold maxLen at hcm; omega
  rw [← hN] at hls hnc ⊢
  have hnci : (N : Int) ≤ (c : Int) := by omega
  have hcmi : (c : Int) ≤ 9223372036854775807 := by unfold maxLen at hcm; omega
  have HF := Lib.hid (few9_any v0 l 30 (by decide) w hl)
  obtain ⟨p, B, hpl, h8, hbi, hpc⟩ := cut7 hls hN
  have HBI := Lib.hid hbi
  have HPL := Lib.hid hpl
  have HX := Lib.hid (fun w' (a : Adv Nul w Nul w') => dentries_any (.slice A p c) B w' (HBI.out w' a) h8)
  unfold EntR at HX
  have hgc := ent_cases B
  obtain ⟨M, hM⟩ : ∃ M, M = entL B := ⟨_, rfl⟩
  obtain ⟨g, hg⟩ : ∃ g, g = entE B := ⟨_, rfl⟩
  obtain ⟨n, hn⟩ : ∃ n, n = M.length := ⟨_, rfl⟩
  rw [← hM, ← hg] at hgc HX
  rw [← hn] at HX
  have HNN := Lib.hid hn
  have HY := Lib.hid (fun v w' (h : EnR w' v M) => (dblocks_any v M w' h).mono fun _ _ h => h.form)
  have HGC := Lib.hid hgc
  have hp9 : (p : Int) ≤ 9223372036854775807 := by rcases hpc with ⟨rfl, _⟩ | ⟨rfl, _⟩ <;> omega
  obtain ⟨m, hm⟩ : ∃ m, m = fewL 30 l := ⟨_, rfl⟩
  rw [← hm] at HF
  clear hl hls hnc hcm hN hbi hpl h8 hM hg hn hgc hm
  rcases hpc with ⟨rfl, hp7⟩ | ⟨rfl, hp7, b, o, rfl⟩
  · go_enter Try.func5, Try.ntmps5
    go_upto_region 2 with (first
      | (go_at_call 7; refine HF.out.mono ?_; rintro x w1 ⟨v1, rfl, h1⟩; have HE := Lib.hid h1; clear h1)
      | fail)
    have HB := Lib.hid ((dblocks_any v1 _ w1 HE.out.rd).mono fun _ _ h => h.form)
    have hec : bE m = 0 ∨ (bE m == 0) = false := by
      by_cases h : bE m = 0
      · exact .inl h
      · exact .inr (beq_eq_false_iff_ne.2 h)
    obtain ⟨E, hE⟩ : ∃ E, E = bE m := ⟨_, rfl⟩
    obtain ⟨K, hK⟩ : ∃ K, K = (bL m).length := ⟨_, rfl⟩
    rw [← hE, ← hK] at HB
    rw [← hE] at hec
    have HEQ := Lib.hid hE
    have HW := Lib.hid HE.out.adv
    clear hE hK
    have HEC := Lib.hid hec
    clear hec
    go_upto_region 3 with (first
      | (go_at_call 8; refine HB.out.mono ?_; rintro x w2 ⟨A2, c2, rfl, h2, a2⟩; have HD2 := Lib.hid h2; have HAB := Lib.hid a2; have HA2 := Lib.hid (HW.out.trans a2); clear h2 a2)
      | fail)
    rcases HEC.out with hE | hE
    · subst hE
      have HE9 := Lib.hid (show Calls Try.prog 14 #[.slice A2 K c2] w2 fun x w' => ∃ A c, x = .returned (.tuple #[.slice A m.length c, .int .i64 0]) ∧ EnR w' (.slice A m.length c) m ∧ Adv Nul w2 Nul w' from
        (dentries_any _ _ w2 HD2.out (bL_8 _)).mono fun x w' ⟨A, c, h1, h2, h3⟩ => by
          obtain ⟨e1, e2⟩ := bE_ent HEQ.out.symm
          rw [e1, e2] at h1
          rw [e2] at h2
          exact ⟨A, c, h1, h2, h3⟩)
      go_upto_region 7 with (first
        | (go_at_call 14; refine HE9.out.mono ?_; rintro x w6 ⟨A6, c6, rfl, h6, a6⟩; have HM6 := Lib.hid h6; have HA6 := Lib.hid (HA2.out.trans a6); have HE6 := Lib.hid ((HE.out.step HAB.out).step a6); clear h6 a6)
        | (go_at_call 16; refine (same9_any _ _ _ _ _ HE6.out.rd HM6.out).mono ?_; rintro x w3 ⟨rfl, j, hw3⟩; rw [decide_eq_true (rfl : m = m)]; have HA3 := Lib.hid (show Adv Nul w Nul w3 by rw [hw3]; exact HA6.out.drewN j); clear hw3)
        | fail)
      rcases HGC.out with ⟨hg, hM⟩ | ⟨hg, hE0, hLB⟩
      · subst hg
        obtain rfl : n = 0 := by rw [HNN.out, hM]; rfl
        clear hM
        go_wp2_with (first
          | (go_at_call 14; refine (HX.out _ HA3.out).mono ?_; rintro x w4 ⟨A4, c4, rfl, h4, a4⟩; have HA4 := Lib.hid (HA3.out.trans a4); clear h4 a4)
          | (go_at_call 11; refine (lives9_any _).mono ?_; rintro x w6 ⟨rfl, a6⟩; have HA6 := Lib.hid (HA4.out.trans a6); clear a6)
          | fail)
        go_ret
        exact ⟨rfl, HA6.out.toBelow⟩
      · subst hg
        have HEE := Lib.hid hE0
        have HLB := Lib.hid hLB
        have HBB := Lib.hid (show (bL M).length = p by rw [hLB, HPL.out])
        clear hE0 hLB
        go_wp2_with (first
          | (go_at_call 14; refine (HX.out _ HA3.out).mono ?_; rintro x w4 ⟨A4, c4, rfl, h4, a4⟩; have HM4 := Lib.hid h4; have HA4 := Lib.hid (HA3.out.trans a4); clear h4 a4)
          | (go_at_call 8; refine (HY.out _ _ HM4.out).mono ?_; rintro x w5 ⟨A5, c5, rfl, h5, a5⟩; rw [HBB.out, HLB.out] at h5; rw [HBB.out, HEE.out]; have HY5 := Lib.hid h5; have HA5 := Lib.hid (HA4.out.trans a5); clear h5 a5)
          | fail)
        go_loopw [13] (AtK w5 p) (fun t _ => p - (intOf t).toNat)
        case atStart => exact ⟨0, Nat.zero_le _, rfl, Adv.refl _ _⟩
        case round =>
          obtain ⟨k, hk, rfl, ha⟩ := hrel
          have HA := Lib.hid ha
          clear ha
          by_cases hlt : k < p
          · have hkl : k < B.length := by rw [HPL.out]; exact hlt
            obtain ⟨b3, o3, a3, q3, rfl, hlb3, g3, r3⟩ := (HY5.out.step HA.out).at_ hkl
            obtain ⟨b1, o1, a1, q1, hA1, hlb1, g1, r1⟩ := (HBI.out wr (HA5.out.trans HA.out)).at_ hkl
            subst hA1
            obtain ⟨r, hr⟩ : ∃ r, r = B[k] := ⟨_, rfl⟩
            rw [← hr] at g1 r1 g3 r3
            obtain ⟨n3, hn3⟩ : ∃ n, n = r.length := ⟨_, rfl⟩
            rw [← hn3] at g1 r1 g3 r3
            have HSM := Lib.hid (fun w' (a : Adv Nul wr Nul w') => show Calls Try.prog 10 #[.slice a3 n3 q3, .slice a1 n3 q1] w' fun x w'' => x = .returned (.bool true) ∧ ∃ k, w'' = w'.drewN k by rw [show true = decide (r = r) by simp]; exact isame_any _ _ _ _ r r w' (r3.far (fun _ _ _ hl => a.block _ hl (fun x => x)) a.size) (r1.far (fun _ _ _ hl => a.block _ hl (fun x => x)) a.size))
            have HCC := Lib.hid (fun w' (a : Adv Nul wr Nul w') => show w'.cell? ⟨b3, o3 + k, none⟩ = some (.slice a3 n3 q3) ∧ w'.cell? ⟨b1, o1 + k, none⟩ = some (.slice a1 n3 q1) from ⟨(World.cell?_of_block (a := ⟨b3, o3 + k, none⟩) (a.block b3 hlb3 (fun x => x))).trans g3, (World.cell?_of_block (a := ⟨b1, o1 + k, none⟩) (a.block b1 hlb1 (fun x => x))).trans g1⟩)
            have HC0 := Lib.hid (HCC.out wr.drew (Adv.refl Nul wr).drew)
            have HLT := Lib.hid hlt
            have hki : (k : Int) < (p : Int) := by omega
            clear hr hn3 r1 r3 hkl hlb1 hlb3 hlt hk g1 g3
            go_upto_region 18 with (fail)
            refine rstart (S := (fun w' => w'.cell? ⟨b3, o3 + k, none⟩ = some (.slice a3 n3 q3) ∧ w'.cell? ⟨b1, o1 + k, none⟩ = some (.slice a1 n3 q1))) (by first | exact HC9.out | exact HC0.out) (fun hH => ?_)
            refine tk (i := 0) (oi := ⟨some 74, .move (.tmp 11), 24, "law.go:79", #[], none⟩) hH.out (by rintro w ⟨s0, s1⟩; go_simp <;> with_reducible rfl) ?_
            simp only [Act.put, sA, sB, sC]
            refine tk (i := 1) (oi := ⟨some 75, .move (.tmp 13), 3, "law.go:79", #[], none⟩) hH.out (by rintro w ⟨s0, s1⟩; go_simp <;> with_reducible rfl) ?_
            simp only [Act.put, sA, sB, sC]
            refine tk (i := 2) (oi := ⟨some 76, .indexAddr 24 (.tmp 74) (.tmp 75), 0, "law.go:79", #[⟨0, .data⟩, ⟨1, .data⟩], none⟩) hH.out (by rintro w ⟨s0, s1⟩; go_simp <;> with_reducible rfl) ?_
            simp only [Act.put, sA, sB, sC]
            refine tk (i := 3) (oi := ⟨some 77, .load 31 (.tmp 76), 31, "law.go:79", #[⟨2, .data⟩], none⟩) hH.out (by rintro w ⟨s0, s1⟩; go_simp <;> with_reducible rfl) ?_
            simp only [Act.put, sA, sB, sC]
            refine tk (i := 4) (oi := ⟨some 78, .move (.tmp 1), 24, "law.go:79", #[], none⟩) hH.out (by rintro w ⟨s0, s1⟩; go_simp <;> with_reducible rfl) ?_
            simp only [Act.put, sA, sB, sC]
            refine tk (i := 5) (oi := ⟨some 79, .move (.tmp 13), 3, "law.go:79", #[], none⟩) hH.out (by rintro w ⟨s0, s1⟩; go_simp <;> with_reducible rfl) ?_
            simp only [Act.put, sA, sB, sC]
            refine tk (i := 6) (oi := ⟨some 80, .indexAddr 24 (.tmp 78) (.tmp 79), 0, "law.go:79", #[⟨4, .data⟩, ⟨5, .data⟩], none⟩) hH.out (by rintro w ⟨s0, s1⟩; go_simp <;> with_reducible rfl) ?_
            simp only [Act.put, sA, sB, sC]
            refine tk (i := 7) (oi := ⟨some 81, .load 31 (.tmp 80), 31, "law.go:79", #[⟨6, .data⟩], none⟩) hH.out (by rintro w ⟨s0, s1⟩; go_simp <;> with_reducible rfl) ?_
            simp only [Act.put, sA, sB, sC]
            refine rdy (i := 8) (oi := ⟨some 82, .call ⟨.value (.func 10), #[.tmp 77, .tmp 81], #[31, 31]⟩, 4, "law.go:79", #[⟨3, .data⟩, ⟨7, .data⟩], none⟩) (fun K hK => ?_)
            go_simp
            refine (HSM.out _ (Adv.refl Nul wr).drew).mono ?_
            rintro x w9 ⟨rfl, j9, hw9⟩
            have HA9 := Lib.hid (show Adv Nul wr Nul w9 by rw [hw9]; exact ((Adv.refl Nul wr).drew).drewN j9)
            have HC9 := Lib.hid (HCC.out w9 HA9.out)
            clear hw9
            go_wp2_with fail
            refine hK.out _ _ (by first | exact HC9.out | exact HC0.out) (fun hHeld => ?_)
            replace hH := Lib.hid hHeld
            clear hK K hHeld
            try simp only [Act.put, sA, sB, sC]
            refine tk (i := 9) (oi := ⟨some 83, .unOp .not 4 (.tmp 82), 4, "law.go:79", #[⟨8, .data⟩], none⟩) hH.out (by rintro w ⟨s0, s1⟩; go_simp <;> with_reducible rfl) ?_
            simp only [Act.put, sA, sB, sC]
            refine wpAnyH_done (by kernel_rfl) ?_ _
            go_wp2_with fail
            exact ⟨⟨k + 1, HLT.out, by go_num, HA.out.trans HA9.out⟩, by have := HLT.out; simp [intOf] <;> omega⟩
          · obtain rfl : k = p := by omega
            clear hlt hk
            go_wp2_with (first
              | (go_at_call 11; refine (lives9_any _).mono ?_; rintro x w6 ⟨rfl, a6⟩; have HA6 := Lib.hid (HA5.out.trans (HA.out.trans a6)); clear a6)
              | fail)
            go_ret
            exact ⟨rfl, HA6.out.toBelow⟩
    · have HA3 := Lib.hid HA2.out
      rcases HGC.out with ⟨hg, hM⟩ | ⟨hg, hE0, hLB⟩
      · subst hg
        obtain rfl : n = 0 := by rw [HNN.out, hM]; rfl
        clear hM
        go_wp2_with (first
          | (go_at_call 14; refine (HX.out _ HA3.out).mono ?_; rintro x w4 ⟨A4, c4, rfl, h4, a4⟩; have HA4 := Lib.hid (HA3.out.trans a4); clear h4 a4)
          | (go_at_call 11; refine (lives9_any _).mono ?_; rintro x w6 ⟨rfl, a6⟩; have HA6 := Lib.hid (HA4.out.trans a6); clear a6)
          | fail)
        go_ret
        exact ⟨rfl, HA6.out.toBelow⟩
      · subst hg
        have HEE := Lib.hid hE0
        have HLB := Lib.hid hLB
        have HBB := Lib.hid (show (bL M).length = p by rw [hLB, HPL.out])
        clear hE0 hLB
        go_wp2_with (first
          | (go_at_call 14; refine (HX.out _ HA3.out).mono ?_; rintro x w4 ⟨A4, c4, rfl, h4, a4⟩; have HM4 := Lib.hid h4; have HA4 := Lib.hid (HA3.out.trans a4); clear h4 a4)
          | (go_at_call 8; refine (HY.out _ _ HM4.out).mono ?_; rintro x w5 ⟨A5, c5, rfl, h5, a5⟩; rw [HBB.out, HLB.out] at h5; rw [HBB.out, HEE.out]; have HY5 := Lib.hid h5; have HA5 := Lib.hid (HA4.out.trans a5); clear h5 a5)
          | fail)
        go_loopw [13] (AtK w5 p) (fun t _ => p - (intOf t).toNat)
        case atStart => exact ⟨0, Nat.zero_le _, rfl, Adv.refl _ _⟩
        case round =>
          obtain ⟨k, hk, rfl, ha⟩ := hrel
          have HA := Lib.hid ha
          clear ha
          by_cases hlt : k < p
          · have hkl : k < B.length := by rw [HPL.out]; exact hlt
            obtain ⟨b3, o3, a3, q3, rfl, hlb3, g3, r3⟩ := (HY5.out.step HA.out).at_ hkl
            obtain ⟨b1, o1, a1, q1, hA1, hlb1, g1, r1⟩ := (HBI.out wr (HA5.out.trans HA.out)).at_ hkl
            subst hA1
            obtain ⟨r, hr⟩ : ∃ r, r = B[k] := ⟨_, rfl⟩
            rw [← hr] at g1 r1 g3 r3
            obtain ⟨n3, hn3⟩ : ∃ n, n = r.length := ⟨_, rfl⟩
            rw [← hn3] at g1 r1 g3 r3
            have HSM := Lib.hid (fun w' (a : Adv Nul wr Nul w') => show Calls Try.prog 10 #[.slice a3 n3 q3, .slice a1 n3 q1] w' fun x w'' => x = .returned (.bool true) ∧ ∃ k, w'' = w'.drewN k by rw [show true = decide (r = r) by simp]; exact isame_any _ _ _ _ r r w' (r3.far (fun _ _ _ hl => a.block _ hl (fun x => x)) a.size) (r1.far (fun _ _ _ hl => a.block _ hl (fun x => x)) a.size))
            have HCC := Lib.hid (fun w' (a : Adv Nul wr Nul w') => show w'.cell? ⟨b3, o3 + k, none⟩ = some (.slice a3 n3 q3) ∧ w'.cell? ⟨b1, o1 + k, none⟩ = some (.slice a1 n3 q1) from ⟨(World.cell?_of_block (a := ⟨b3, o3 + k, none⟩) (a.block b3 hlb3 (fun x => x))).trans g3, (World.cell?_of_block (a := ⟨b1, o1 + k, none⟩) (a.block b1 hlb1 (fun x => x))).trans g1⟩)
            have HC0 := Lib.hid (HCC.out wr.drew (Adv.refl Nul wr).drew)
            have HLT := Lib.hid hlt
            have hki : (k : Int) < (p : Int) := by omega
            clear hr hn3 r1 r3 hkl hlb1 hlb3 hlt hk g1 g3
            go_upto_region 18 with (fail)
            refine rstart (S := (fun w' => w'.cell? ⟨b3, o3 + k, none⟩ = some (.slice a3 n3 q3) ∧ w'.cell? ⟨b1, o1 + k, none⟩ = some (.slice a1 n3 q1))) (by first | exact HC9.out | exact HC0.out) (fun hH => ?_)
            refine tk (i := 0) (oi := ⟨some 74, .move (.tmp 11), 24, "law.go:79", #[], none⟩) hH.out (by rintro w ⟨s0, s1⟩; go_simp <;> with_reducible rfl) ?_
            simp only [Act.put, sA, sB, sC]
            refine tk (i := 1) (oi := ⟨some 75, .move (.tmp 13), 3, "law.go:79", #[], none⟩) hH.out (by rintro w ⟨s0, s1⟩; go_simp <;> with_reducible rfl) ?_
            simp only [Act.put, sA, sB, sC]
            refine tk (i := 2) (oi := ⟨some 76, .indexAddr 24 (.tmp 74) (.tmp 75), 0, "law.go:79", #[⟨0, .data⟩, ⟨1, .data⟩], none⟩) hH.out (by rintro w ⟨s0, s1⟩; go_simp <;> with_reducible rfl) ?_
            simp only [Act.put, sA, sB, sC]
            refine tk (i := 3) (oi := ⟨some 77, .load 31 (.tmp 76), 31, "law.go:79", #[⟨2, .data⟩], none⟩) hH.out (by rintro w ⟨s0, s1⟩; go_simp <;> with_reducible rfl) ?_
            simp only [Act.put, sA, sB, sC]
            refine tk (i := 4) (oi := ⟨some 78, .move (.tmp 1), 24, "law.go:79", #[], none⟩) hH.out (by rintro w ⟨s0, s1⟩; go_simp <;> with_reducible rfl) ?_
            simp only [Act.put, sA, sB, sC]
            refine tk (i := 5) (oi := ⟨some 79, .move (.tmp 13), 3, "law.go:79", #[], none⟩) hH.out (by rintro w ⟨s0, s1⟩; go_simp <;> with_reducible rfl) ?_
            simp only [Act.put, sA, sB, sC]
            refine tk (i := 6) (oi := ⟨some 80, .indexAddr 24 (.tmp 78) (.tmp 79), 0, "law.go:79", #[⟨4, .data⟩, ⟨5, .data⟩], none⟩) hH.out (by rintro w ⟨s0, s1⟩; go_simp <;> with_reducible rfl) ?_
            simp only [Act.put, sA, sB, sC]
            refine tk (i := 7) (oi := ⟨some 81, .load 31 (.tmp 80), 31, "law.go:79", #[⟨6, .data⟩], none⟩) hH.out (by rintro w ⟨s0, s1⟩; go_simp <;> with_reducible rfl) ?_
            simp only [Act.put, sA, sB, sC]
            refine rdy (i := 8) (oi := ⟨some 82, .call ⟨.value (.func 10), #[.tmp 77, .tmp 81], #[31, 31]⟩, 4, "law.go:79", #[⟨3, .data⟩, ⟨7, .data⟩], none⟩) (fun K hK => ?_)
            go_simp
            refine (HSM.out _ (Adv.refl Nul wr).drew).mono ?_
            rintro x w9 ⟨rfl, j9, hw9⟩
            have HA9 := Lib.hid (show Adv Nul wr Nul w9 by rw [hw9]; exact ((Adv.refl Nul wr).drew).drewN j9)
            have HC9 := Lib.hid (HCC.out w9 HA9.out)
            clear hw9
            go_wp2_with fail
            refine hK.out _ _ (by first | exact HC9.out | exact HC0.out) (fun hHeld => ?_)
            replace hH := Lib.hid hHeld
            clear hK K hHeld
            try simp only [Act.put, sA, sB, sC]
            refine tk (i := 9) (oi := ⟨some 83, .unOp .not 4 (.tmp 82), 4, "law.go:79", #[⟨8, .data⟩], none⟩) hH.out (by rintro w ⟨s0, s1⟩; go_simp <;> with_reducible rfl) ?_
            simp only [Act.put, sA, sB, sC]
            refine wpAnyH_done (by kernel_rfl) ?_ _
            go_wp2_with fail
            exact ⟨⟨k + 1, HLT.out, by go_num, HA.out.trans HA9.out⟩, by have := HLT.out; simp [intOf] <;> omega⟩
          · obtain rfl : k = p := by omega
            clear hlt hk
            go_wp2_with (first
              | (go_at_call 11; refine (lives9_any _).mono ?_; rintro x w6 ⟨rfl, a6⟩; have HA6 := Lib.hid (HA5.out.trans (HA.out.trans a6)); clear a6)
              | fail)
            go_ret
            exact ⟨rfl, HA6.out.toBelow⟩
  · go_enter Try.func5, Try.ntmps5
    go_upto_region 2 with (first
      | (go_at_call 7; refine HF.out.mono ?_; rintro x w1 ⟨v1, rfl, h1⟩; have HE := Lib.hid h1; clear h1)
      | fail)
    have HB := Lib.hid ((dblocks_any v1 _ w1 HE.out.rd).mono fun _ _ h => h.form)
    have hec : bE m = 0 ∨ (bE m == 0) = false := by
      by_cases h : bE m = 0
      · exact .inl h
      · exact .inr (beq_eq_false_iff_ne.2 h)
    obtain ⟨E, hE⟩ : ∃ E, E = bE m := ⟨_, rfl⟩
    obtain ⟨K, hK⟩ : ∃ K, K = (bL m).length := ⟨_, rfl⟩
    rw [← hE, ← hK] at HB
    rw [← hE] at hec
    have HEQ := Lib.hid hE
    have HW := Lib.hid HE.out.adv
    clear hE hK
    have HEC := Lib.hid hec
    clear hec
    go_upto_region 3 with (first
      | (go_at_call 8; refine HB.out.mono ?_; rintro x w2 ⟨A2, c2, rfl, h2, a2⟩; have HD2 := Lib.hid h2; have HAB := Lib.hid a2; have HA2 := Lib.hid (HW.out.trans a2); clear h2 a2)
      | fail)
    rcases HEC.out with hE | hE
    · subst hE
      have HE9 := Lib.hid (show Calls Try.prog 14 #[.slice A2 K c2] w2 fun x w' => ∃ A c, x = .returned (.tuple #[.slice A m.length c, .int .i64 0]) ∧ EnR w' (.slice A m.length c) m ∧ Adv Nul w2 Nul w' from
        (dentries_any _ _ w2 HD2.out (bL_8 _)).mono fun x w' ⟨A, c, h1, h2, h3⟩ => by
          obtain ⟨e1, e2⟩ := bE_ent HEQ.out.symm
          rw [e1, e2] at h1
          rw [e2] at h2
          exact ⟨A, c, h1, h2, h3⟩)
      go_upto_region 7 with (first
        | (go_at_call 14; refine HE9.out.mono ?_; rintro x w6 ⟨A6, c6, rfl, h6, a6⟩; have HM6 := Lib.hid h6; have HA6 := Lib.hid (HA2.out.trans a6); have HE6 := Lib.hid ((HE.out.step HAB.out).step a6); clear h6 a6)
        | (go_at_call 16; refine (same9_any _ _ _ _ _ HE6.out.rd HM6.out).mono ?_; rintro x w3 ⟨rfl, j, hw3⟩; rw [decide_eq_true (rfl : m = m)]; have HA3 := Lib.hid (show Adv Nul w Nul w3 by rw [hw3]; exact HA6.out.drewN j); clear hw3)
        | fail)
      rcases HGC.out with ⟨hg, hM⟩ | ⟨hg, hE0, hLB⟩
      · subst hg
        obtain rfl : n = 0 := by rw [HNN.out, hM]; rfl
        clear hM
        go_wp2_with (first
          | (go_at_call 14; refine (HX.out _ HA3.out).mono ?_; rintro x w4 ⟨A4, c4, rfl, h4, a4⟩; have HA4 := Lib.hid (HA3.out.trans a4); clear h4 a4)
          | (go_at_call 11; refine (lives9_any _).mono ?_; rintro x w6 ⟨rfl, a6⟩; have HA6 := Lib.hid (HA4.out.trans a6); clear a6)
          | fail)
        go_ret
        exact ⟨rfl, HA6.out.toBelow⟩
      · subst hg
        have HEE := Lib.hid hE0
        have HLB := Lib.hid hLB
        have HBB := Lib.hid (show (bL M).length = 7 by rw [hLB, HPL.out])
        clear hE0 hLB
        go_wp2_with (first
          | (go_at_call 14; refine (HX.out _ HA3.out).mono ?_; rintro x w4 ⟨A4, c4, rfl, h4, a4⟩; have HM4 := Lib.hid h4; have HA4 := Lib.hid (HA3.out.trans a4); clear h4 a4)
          | (go_at_call 8; refine (HY.out _ _ HM4.out).mono ?_; rintro x w5 ⟨A5, c5, rfl, h5, a5⟩; rw [HBB.out, HLB.out] at h5; rw [HBB.out, HEE.out]; have HY5 := Lib.hid h5; have HA5 := Lib.hid (HA4.out.trans a5); clear h5 a5)
          | fail)
        go_loopw [13] (AtK w5 7) (fun t _ => 7 - (intOf t).toNat)
        case atStart => exact ⟨0, Nat.zero_le _, rfl, Adv.refl _ _⟩
        case round =>
          obtain ⟨k, hk, rfl, ha⟩ := hrel
          have HA := Lib.hid ha
          clear ha
          by_cases hlt : k < 7
          · have hkl : k < B.length := by rw [HPL.out]; exact hlt
            obtain ⟨b3, o3, a3, q3, rfl, hlb3, g3, r3⟩ := (HY5.out.step HA.out).at_ hkl
            obtain ⟨b1, o1, a1, q1, hA1, hlb1, g1, r1⟩ := (HBI.out wr (HA5.out.trans HA.out)).at_ hkl
            injection hA1 with hA1; injection hA1 with hA1 hA2; subst hA1 hA2
            obtain ⟨r, hr⟩ : ∃ r, r = B[k] := ⟨_, rfl⟩
            rw [← hr] at g1 r1 g3 r3
            obtain ⟨n3, hn3⟩ : ∃ n, n = r.length := ⟨_, rfl⟩
            rw [← hn3] at g1 r1 g3 r3
            have HSM := Lib.hid (fun w' (a : Adv Nul wr Nul w') => show Calls Try.prog 10 #[.slice a3 n3 q3, .slice a1 n3 q1] w' fun x w'' => x = .returned (.bool true) ∧ ∃ k, w'' = w'.drewN k by rw [show true = decide (r = r) by simp]; exact isame_any _ _ _ _ r r w' (r3.far (fun _ _ _ hl => a.block _ hl (fun x => x)) a.size) (r1.far (fun _ _ _ hl => a.block _ hl (fun x => x)) a.size))
            have HCC := Lib.hid (fun w' (a : Adv Nul wr Nul w') => show w'.cell? ⟨b3, o3 + k, none⟩ = some (.slice a3 n3 q3) ∧ w'.cell? ⟨b, o + k, none⟩ = some (.slice a1 n3 q1) from ⟨(World.cell?_of_block (a := ⟨b3, o3 + k, none⟩) (a.block b3 hlb3 (fun x => x))).trans g3, (World.cell?_of_block (a := ⟨b, o + k, none⟩) (a.block b hlb1 (fun x => x))).trans g1⟩)
            have HC0 := Lib.hid (HCC.out wr.drew (Adv.refl Nul wr).drew)
            have HLT := Lib.hid hlt
            have hki : (k : Int) < (7 : Int) := by omega
            clear hr hn3 r1 r3 hkl hlb1 hlb3 hlt hk g1 g3
            go_upto_region 18 with (fail)
            refine rstart (S := (fun w' => w'.cell? ⟨b3, o3 + k, none⟩ = some (.slice a3 n3 q3) ∧ w'.cell? ⟨b, o + k, none⟩ = some (.slice a1 n3 q1))) (by first | exact HC9.out | exact HC0.out) (fun hH => ?_)
            refine tk (i := 0) (oi := ⟨some 74, .move (.tmp 11), 24, "law.go:79", #[], none⟩) hH.out (by rintro w ⟨s0, s1⟩; go_simp <;> with_reducible rfl) ?_
            simp only [Act.put, sA, sB, sC]
            refine tk (i := 1) (oi := ⟨some 75, .move (.tmp 13), 3, "law.go:79", #[], none⟩) hH.out (by rintro w ⟨s0, s1⟩; go_simp <;> with_reducible rfl) ?_
            simp only [Act.put, sA, sB, sC]
            refine tk (i := 2) (oi := ⟨some 76, .indexAddr 24 (.tmp 74) (.tmp 75), 0, "law.go:79", #[⟨0, .data⟩, ⟨1, .data⟩], none⟩) hH.out (by rintro w ⟨s0, s1⟩; go_simp <;> with_reducible rfl) ?_
            simp only [Act.put, sA, sB, sC]
            refine tk (i := 3) (oi := ⟨some 77, .load 31 (.tmp 76), 31, "law.go:79", #[⟨2, .data⟩], none⟩) hH.out (by rintro w ⟨s0, s1⟩; go_simp <;> with_reducible rfl) ?_
            simp only [Act.put, sA, sB, sC]
            refine tk (i := 4) (oi := ⟨some 78, .move (.tmp 1), 24, "law.go:79", #[], none⟩) hH.out (by rintro w ⟨s0, s1⟩; go_simp <;> with_reducible rfl) ?_
            simp only [Act.put, sA, sB, sC]
            refine tk (i := 5) (oi := ⟨some 79, .move (.tmp 13), 3, "law.go:79", #[], none⟩) hH.out (by rintro w ⟨s0, s1⟩; go_simp <;> with_reducible rfl) ?_
            simp only [Act.put, sA, sB, sC]
            refine tk (i := 6) (oi := ⟨some 80, .indexAddr 24 (.tmp 78) (.tmp 79), 0, "law.go:79", #[⟨4, .data⟩, ⟨5, .data⟩], none⟩) hH.out (by rintro w ⟨s0, s1⟩; go_simp <;> with_reducible rfl) ?_
            simp only [Act.put, sA, sB, sC]
            refine tk (i := 7) (oi := ⟨some 81, .load 31 (.tmp 80), 31, "law.go:79", #[⟨6, .data⟩], none⟩) hH.out (by rintro w ⟨s0, s1⟩; go_simp <;> with_reducible rfl) ?_
            simp only [Act.put, sA, sB, sC]
            refine rdy (i := 8) (oi := ⟨some 82, .call ⟨.value (.func 10), #[.tmp 77, .tmp 81], #[31, 31]⟩, 4, "law.go:79", #[⟨3, .data⟩, ⟨7, .data⟩], none⟩) (fun K hK => ?_)
            go_simp
            refine (HSM.out _ (Adv.refl Nul wr).drew).mono ?_
            rintro x w9 ⟨rfl, j9, hw9⟩
            have HA9 := Lib.hid (show Adv Nul wr Nul w9 by rw [hw9]; exact ((Adv.refl Nul wr).drew).drewN j9)
            have HC9 := Lib.hid (HCC.out w9 HA9.out)
            clear hw9
            go_wp2_with fail
            refine hK.out _ _ (by first | exact HC9.out | exact HC0.out) (fun hHeld => ?_)
            replace hH := Lib.hid hHeld
            clear hK K hHeld
            try simp only [Act.put, sA, sB, sC]
            refine tk (i := 9) (oi := ⟨some 83, .unOp .not 4 (.tmp 82), 4, "law.go:79", #[⟨8, .data⟩], none⟩) hH.out (by rintro w ⟨s0, s1⟩; go_simp <;> with_reducible rfl) ?_
            simp only [Act.put, sA, sB, sC]
            refine wpAnyH_done (by kernel_rfl) ?_ _
            go_wp2_with fail
            exact ⟨⟨k + 1, HLT.out, by go_num, HA.out.trans HA9.out⟩, by have := HLT.out; simp [intOf] <;> omega⟩
          · obtain rfl : k = 7 := by omega
            clear hlt hk
            go_wp2_with (first
              | (go_at_call 11; refine (lives9_any _).mono ?_; rintro x w6 ⟨rfl, a6⟩; have HA6 := Lib.hid (HA5.out.trans (HA.out.trans a6)); clear a6)
              | fail)
            go_ret
            exact ⟨rfl, HA6.out.toBelow⟩
    · have HA3 := Lib.hid HA2.out
      rcases HGC.out with ⟨hg, hM⟩ | ⟨hg, hE0, hLB⟩
      · subst hg
        obtain rfl : n = 0 := by rw [HNN.out, hM]; rfl
        clear hM
        go_wp2_with (first
          | (go_at_call 14; refine (HX.out _ HA3.out).mono ?_; rintro x w4 ⟨A4, c4, rfl, h4, a4⟩; have HA4 := Lib.hid (HA3.out.trans a4); clear h4 a4)
          | (go_at_call 11; refine (lives9_any _).mono ?_; rintro x w6 ⟨rfl, a6⟩; have HA6 := Lib.hid (HA4.out.trans a6); clear a6)
          | fail)
        go_ret
        exact ⟨rfl, HA6.out.toBelow⟩
      · subst hg
        have HEE := Lib.hid hE0
        have HLB := Lib.hid hLB
        have HBB := Lib.hid (show (bL M).length = 7 by rw [hLB, HPL.out])
        clear hE0 hLB
        go_wp2_with (first
          | (go_at_call 14; refine (HX.out _ HA3.out).mono ?_; rintro x w4 ⟨A4, c4, rfl, h4, a4⟩; have HM4 := Lib.hid h4; have HA4 := Lib.hid (HA3.out.trans a4); clear h4 a4)
          | (go_at_call 8; refine (HY.out _ _ HM4.out).mono ?_; rintro x w5 ⟨A5, c5, rfl, h5, a5⟩; rw [HBB.out, HLB.out] at h5; rw [HBB.out, HEE.out]; have HY5 := Lib.hid h5; have HA5 := Lib.hid (HA4.out.trans a5); clear h5 a5)
          | fail)
        go_loopw [13] (AtK w5 7) (fun t _ => 7 - (intOf t).toNat)
        case atStart => exact ⟨0, Nat.zero_le _, rfl, Adv.refl _ _⟩
        case round =>
          obtain ⟨k, hk, rfl, ha⟩ := hrel
          have HA := Lib.hid ha
          clear ha
          by_cases hlt : k < 7
          · have hkl : k < B.length := by rw [HPL.out]; exact hlt
            obtain ⟨b3, o3, a3, q3, rfl, hlb3, g3, r3⟩ := (HY5.out.step HA.out).at_ hkl
            obtain ⟨b1, o1, a1, q1, hA1, hlb1, g1, r1⟩ := (HBI.out wr (HA5.out.trans HA.out)).at_ hkl
            injection hA1 with hA1; injection hA1 with hA1 hA2; subst hA1 hA2
            obtain ⟨r, hr⟩ : ∃ r, r = B[k] := ⟨_, rfl⟩
            rw [← hr] at g1 r1 g3 r3
            obtain ⟨n3, hn3⟩ : ∃ n, n = r.length := ⟨_, rfl⟩
            rw [← hn3] at g1 r1 g3 r3
            have HSM := Lib.hid (fun w' (a : Adv Nul wr Nul w') => show Calls Try.prog 10 #[.slice a3 n3 q3, .slice a1 n3 q1] w' fun x w'' => x = .returned (.bool true) ∧ ∃ k, w'' = w'.drewN k by rw [show true = decide (r = r) by simp]; exact isame_any _ _ _ _ r r w' (r3.far (fun _ _ _ hl => a.block _ hl (fun x => x)) a.size) (r1.far (fun _ _ _ hl => a.block _ hl (fun x => x)) a.size))
            have HCC := Lib.hid (fun w' (a : Adv Nul wr Nul w') => show w'.cell? ⟨b3, o3 + k, none⟩ = some (.slice a3 n3 q3) ∧ w'.cell? ⟨b, o + k, none⟩ = some (.slice a1 n3 q1) from ⟨(World.cell?_of_block (a := ⟨b3, o3 + k, none⟩) (a.block b3 hlb3 (fun x => x))).trans g3, (World.cell?_of_block (a := ⟨b, o + k, none⟩) (a.block b hlb1 (fun x => x))).trans g1⟩)
            have HC0 := Lib.hid (HCC.out wr.drew (Adv.refl Nul wr).drew)
            have HLT := Lib.hid hlt
            have hki : (k : Int) < (7 : Int) := by omega
            clear hr hn3 r1 r3 hkl hlb1 hlb3 hlt hk g1 g3
            go_upto_region 18 with (fail)
            refine rstart (S := (fun w' => w'.cell? ⟨b3, o3 + k, none⟩ = some (.slice a3 n3 q3) ∧ w'.cell? ⟨b, o + k, none⟩ = some (.slice a1 n3 q1))) (by first | exact HC9.out | exact HC0.out) (fun hH => ?_)
            refine tk (i := 0) (oi := ⟨some 74, .move (.tmp 11), 24, "law.go:79", #[], none⟩) hH.out (by rintro w ⟨s0, s1⟩; go_simp <;> with_reducible rfl) ?_
            simp only [Act.put, sA, sB, sC]
            refine tk (i := 1) (oi := ⟨some 75, .move (.tmp 13), 3, "law.go:79", #[], none⟩) hH.out (by rintro w ⟨s0, s1⟩; go_simp <;> with_reducible rfl) ?_
            simp only [Act.put, sA, sB, sC]
            refine tk (i := 2) (oi := ⟨some 76, .indexAddr 24 (.tmp 74) (.tmp 75), 0, "law.go:79", #[⟨0, .data⟩, ⟨1, .data⟩], none⟩) hH.out (by rintro w ⟨s0, s1⟩; go_simp <;> with_reducible rfl) ?_
            simp only [Act.put, sA, sB, sC]
            refine tk (i := 3) (oi := ⟨some 77, .load 31 (.tmp 76), 31, "law.go:79", #[⟨2, .data⟩], none⟩) hH.out (by rintro w ⟨s0, s1⟩; go_simp <;> with_reducible rfl) ?_
            simp only [Act.put, sA, sB, sC]
            refine tk (i := 4) (oi := ⟨some 78, .move (.tmp 1), 24, "law.go:79", #[], none⟩) hH.out (by rintro w ⟨s0, s1⟩; go_simp <;> with_reducible rfl) ?_
            simp only [Act.put, sA, sB, sC]
            refine tk (i := 5) (oi := ⟨some 79, .move (.tmp 13), 3, "law.go:79", #[], none⟩) hH.out (by rintro w ⟨s0, s1⟩; go_simp <;> with_reducible rfl) ?_
            simp only [Act.put, sA, sB, sC]
            refine tk (i := 6) (oi := ⟨some 80, .indexAddr 24 (.tmp 78) (.tmp 79), 0, "law.go:79", #[⟨4, .data⟩, ⟨5, .data⟩], none⟩) hH.out (by rintro w ⟨s0, s1⟩; go_simp <;> with_reducible rfl) ?_
            simp only [Act.put, sA, sB, sC]
            refine tk (i := 7) (oi := ⟨some 81, .load 31 (.tmp 80), 31, "law.go:79", #[⟨6, .data⟩], none⟩) hH.out (by rintro w ⟨s0, s1⟩; go_simp <;> with_reducible rfl) ?_
            simp only [Act.put, sA, sB, sC]
            refine rdy (i := 8) (oi := ⟨some 82, .call ⟨.value (.func 10), #[.tmp 77, .tmp 81], #[31, 31]⟩, 4, "law.go:79", #[⟨3, .data⟩, ⟨7, .data⟩], none⟩) (fun K hK => ?_)
            go_simp
            refine (HSM.out _ (Adv.refl Nul wr).drew).mono ?_
            rintro x w9 ⟨rfl, j9, hw9⟩
            have HA9 := Lib.hid (show Adv Nul wr Nul w9 by rw [hw9]; exact ((Adv.refl Nul wr).drew).drewN j9)
            have HC9 := Lib.hid (HCC.out w9 HA9.out)
            clear hw9
            go_wp2_with fail
            refine hK.out _ _ (by first | exact HC9.out | exact HC0.out) (fun hHeld => ?_)
            replace hH := Lib.hid hHeld
            clear hK K hHeld
            try simp only [Act.put, sA, sB, sC]
            refine tk (i := 9) (oi := ⟨some 83, .unOp .not 4 (.tmp 82), 4, "law.go:79", #[⟨8, .data⟩], none⟩) hH.out (by rintro w ⟨s0, s1⟩; go_simp <;> with_reducible rfl) ?_
            simp only [Act.put, sA, sB, sC]
            refine wpAnyH_done (by kernel_rfl) ?_ _
            go_wp2_with fail
            exact ⟨⟨k + 1, HLT.out, by go_num, HA.out.trans HA9.out⟩, by have := HLT.out; simp [intOf] <;> omega⟩
          · obtain rfl : k = 7 := by omega
            clear hlt hk
            go_wp2_with (first
              | (go_at_call 11; refine (lives9_any _).mono ?_; rintro x w6 ⟨rfl, a6⟩; have HA6 := Lib.hid (HA5.out.trans (HA.out.trans a6)); clear a6)
              | fail)
            go_ret
            exact ⟨rfl, HA6.out.toBelow⟩
end Go.Proofs.Ytgcbnaleajccgaa
