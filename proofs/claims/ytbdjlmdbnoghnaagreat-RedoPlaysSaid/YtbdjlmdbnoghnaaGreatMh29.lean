/- The document's Sync and Write. -/
import Derived.Test.YtbdjlmdbnoghnaaGreatMh26
import Derived.Test.YtbdjlmdbnoghnaaGreatMh28
import Derived.Test.YtbdjlmdbnoghnaaGreatMh11
namespace Go.Proofs.YtbdjlmdbnoghnaaGreat
open Go.RowKit Go.Maps

variable {Z : Nat → Prop}

def YrR (Z : Nat → Prop) (w : World) (G : Nat → Prop) (x y b n N : Nat) (r : (DS × LS) × Int) (e : Ending) (w' : World) : Prop := e = .returned (.int .i64 r.2) ∧ ∃ G' b', Ys Z w' G' x y b' n N r.1.1 r.1.2 ∧ Adv (YF G y b) w (YF G' y b') w'
theorem LS.err_eta {g : LS} {E : Int} (h : g.err = E) : { g with err := E } = g := by subst h; rfl
theorem Ys.setErr {w : World} {G : Nat → Prop} {x y b n N : Nat} {s : DS} {g : LS} (h : Ys Z w G x y b n N s g) (E : Int) : Ys Z (w.setCell ⟨y, 7, none⟩ (.int .i64 E)) G x y b n N s { g with err := E } ∧ Adv (YF G y b) w (YF G y b) (w.setCell ⟨y, 7, none⟩ (.int .i64 E)) := by
  have ha : Adv (LF y b) w (LF y b) (w.setCell ⟨y, 7, none⟩ (.int .i64 E)) := (Adv.refl (LF y b) w).setCell (p := ⟨y, 7, none⟩) (.inl (.inl rfl)) _
  exact ⟨h.log ha (h.lg.setErr YK.iny E), yadv_log ha⟩

set_option maxRecDepth 3000 in
set_option maxHeartbeats 1600000 in
theorem ysync_lg (x y b n N : Nat) (g : LS) (G : Nat → Prop) (s : DS) (w : World) (h : Ys Z w G x y b n N s g) (hN : 0 < N) (hq : s.Q.length ≤ 1000000) :
    Calls Tryz.prog 13 #[.pointer (some ⟨y, 0, none⟩)] w (YrR Z w G x y b n N (syncG s g)) := by
  obtain ⟨c0, -, -, -, -, -, -, c7⟩ := h.lg.cells
  obtain ⟨R, hR⟩ : ∃ R, R = syncG s g := ⟨_, rfl⟩
  rw [← hR]
  have HS := Lib.hid h
  have HR := Lib.hid hR
  obtain ⟨E, hE⟩ : ∃ E, E = g.err := ⟨_, rfl⟩
  rw [← hE] at c7
  have HE := Lib.hid hE
  by_cases h0 : E = 0
  · subst h0
    obtain ⟨X, hX⟩ : ∃ x, x = flushS s := ⟨_, rfl⟩
    have HFL := Lib.hid (rflush_dk x N G s w h.dk hN hq)
    rw [← hX] at HFL
    have HX := Lib.hid hX
    obtain ⟨XE, hXE⟩ : ∃ x, x = X.2 := ⟨_, rfl⟩
    rw [← hXE] at HFL
    have HXE := Lib.hid hXE
    clear h hR hE hX hXE hN hq
    go_enter Tryz.func13, Tryz.ntmps13
    go_wp2_with fail
    refine HFL.out.mono ?_
    rintro e w2 ⟨rfl, k2, a2⟩
    have hs2 := HS.out.disk a2 k2
    obtain ⟨hs3, ha3⟩ := hs2.setErr XE
    have d7 := hs2.lg.blk.cell 7
    have f7 := hs2.lg.blk.frozen 7
    have d7' : w2.cell? ⟨y, 7, none⟩ = some (.int .i64 g.err) := d7
    have HF := Lib.hid (show YrR Z w G x y b n N R (.returned (.int .i64 XE)) (w2.setCell ⟨y, 7, none⟩ (.int .i64 XE)) by
      rw [HR.out]
      unfold syncG
      rw [if_pos HE.out.symm, ← HX.out, ← HXE.out]
      exact ⟨rfl, G, b, hs3, (yadv_disk a2).trans ha3⟩)
    clear k2 a2 hs2 hs3 ha3 d7 c0 c7
    go_wp2_with fail
    go_ret
    exact HF.out
  · have hb2 : ((E : Int) == 0) = false := by rw [beq_eq_false_iff_ne]; exact h0
    have HF := Lib.hid (show YrR Z w G x y b n N R (.returned (.int .i64 E)) w by
      rw [hR]
      unfold syncG
      rw [if_neg (by rw [← hE]; exact h0), ← hE]
      exact ⟨rfl, G, b, h, Adv.refl _ _⟩)
    clear h hR hE h0 hN hq
    go_enter Tryz.func13, Tryz.ntmps13
    go_wp2_with fail
    go_ret
    exact HF.out

theorem PRdG.row2 {w : World} {G : Nat → Prop} {A : Option Addr} {n k : Nat} {ps : List Pc} (h : PRdG w G (.slice A n k) ps) {i : Nat} (hi : i < ps.length) : ∃ b o a q, A = some ⟨b, o, none⟩ ∧ (b < w.heap.size ∧ ¬ G b) ∧ Cells5 w b (o + i * 5) ps[i] (.slice a ps[i].d.length q) ∧ Rd w 1 (.slice a ps[i].d.length q) ps[i].d.length (ps[i].d.map u8) := by
  obtain ⟨b, o, a, q, e, hc, hr⟩ := h.row hi
  obtain ⟨A', k', e1, -, -, hx⟩ := h
  obtain ⟨b', o', e', hb', -⟩ := hx (by omega)
  injection e1 with e1 _ _
  subst e1
  rw [e] at e'
  injection e' with e'
  injection e' with e1 _ _
  subst e1
  exact ⟨b, o, a, q, e, hb', hc, hr⟩
def YwC (w : World) (y ep nx : Nat) : Prop := w.cell? ⟨y, 2, none⟩ = some (.int .u64 (ep : Int)) ∧ w.cell? ⟨y, 5, none⟩ = some (.int .u64 (nx : Int))
def YlC (w : World) (y x n b5 o5 pc : Nat) : Prop := w.cell? ⟨y, 0, none⟩ = some (.pointer (some ⟨x, 0, none⟩)) ∧ w.cell? ⟨y, 1, none⟩ = some (.int .i64 (n : Int)) ∧ w.cell? ⟨b5, o5 + 1, none⟩ = some (.int .u64 (pc : Int))
theorem yw_cut {w : World} {F : Nat → Prop} {A : Option Addr} {q e c : Nat} {l : List Nat} (h : Sl w F 5 1 (.slice A l.length q) l.length (l.map u8)) (h8 : ∀ x ∈ l, x < 256) (hl : l.length ≤ 100000) : Calls Tryz.prog 49 #[.int .u64 (e : Int), .int .u64 (c : Int), .slice A l.length q] w (CutN w e c l) :=
  rcut_n e c _ l w h.rd h8 hl
def YwL (Z : Nat → Prop) (W : World) (G0 : Nat → Prop) (x y b n N : Nat) (s0 : DS) (g : LS) (P : List Pc) (t : Value) (wr : World) : Prop :=
  ∃ (k : Nat) (sk : DS) (Gk : Nat → Prop) (e : Int), k ≤ P.length ∧ t = .int .i64 (k : Int) ∧ sk.Q.length ≤ s0.Q.length + k ∧ Ys Z wr Gk x y b n N sk { g with err := e } ∧ Adv (YF G0 y b) W (YF Gk y b) wr ∧ ((e = 0 ∧ layAll s0 n P = layAll sk n (P.drop k)) ∨ (e ≠ 0 ∧ layAll s0 n P = (sk, e)))

set_option maxRecDepth 3000 in
set_option maxHeartbeats 12800000 in
theorem ywrite_lg (x y b n N : Nat) (g : LS) (G : Nat → Prop) (s : DS) (A0 : Option Addr) (M0 k0 : Nat) (ps : List Pt) (w : World) (h : Ys Z w G x y b n N s g) (ok : GOk n N s g) (hq : QRd w (YK Z G y b) (.slice A0 M0 k0) ps) (h8 : ∀ p ∈ ps, ∀ z ∈ p.d, z < 256) :
    Calls Tryz.prog 11 #[.pointer (some ⟨y, 0, none⟩), .slice A0 M0 k0] w (YrR Z w G x y b n N (writeG s n N g ps)) := by
  obtain ⟨-, -, -, -, -, -, c6, c7⟩ := h.lg.cells
  obtain ⟨R, hR⟩ : ∃ R, R = writeG s n N g ps := ⟨_, rfl⟩
  rw [← hR]
  have HR := Lib.hid hR
  have HS := Lib.hid h
  have HOK := Lib.hid ok
  have HQ := Lib.hid hq
  have H8 := Lib.hid h8
  obtain ⟨E, hE⟩ : ∃ E, E = g.err := ⟨_, rfl⟩
  rw [← hE] at c7
  have HE := Lib.hid hE
  by_cases h0 : E = 0
  · subst h0
    obtain ⟨Hm, hHm⟩ : ∃ x, x = N - 2 - n := ⟨_, rfl⟩
    rw [← hHm] at c6
    have hmi : (Hm : Int) ≤ 4096 := by have := ok.hn; omega
    have HHm := Lib.hid hHm
    have HTX := Lib.hid (ris_any A0 M0 k0 ps (Hm : Int) _ w hq)
    obtain ⟨B, hB⟩ : ∃ B, B = decide (isTx ps (Hm : Int)) := ⟨_, rfl⟩
    rw [← hB] at HTX
    have HB := Lib.hid hB
    clear h ok hq h8 hR hE hHm hB
    go_enter Tryz.func11, Tryz.ntmps11
    go_wp2_with fail
    refine HTX.out.mono ?_
    rintro e w2 ⟨rfl, a2⟩
    have HA2 := Lib.hid a2
    have HS2 := Lib.hid (HS.out.over a2)
    clear a2 c6 c7
    cases B with
    | false =>
      have HF := Lib.hid (show YrR Z w G x y b n N R (.returned (.int .i64 2)) w2 by
        rw [HR.out]
        unfold writeG
        rw [if_pos HE.out.symm, ← HHm.out, if_neg (of_decide_eq_false HB.out.symm)]
        exact ⟨rfl, G, b, HS2.out, yadv_nul HA2.out⟩)
      go_wp2_with fail
      go_ret
      exact HF.out
    | true =>
      have HT := Lib.hid (of_decide_eq_true HB.out.symm)
      have HT4 := Lib.hid (show isTx ps 4096 from HT.out.mono (by have := HHm.out; have := HOK.out.hn; omega))
      obtain ⟨ep, hep⟩ : ∃ x, x = g.ep := ⟨_, rfl⟩
      obtain ⟨nx, hnx⟩ : ∃ x, x = g.next := ⟨_, rfl⟩
      have HKEEP0 := Lib.hid (show ∀ (w' : World), Adv Nul w Nul w' → YwC w' y ep nx from fun w' a => by
        obtain ⟨-, -, k2, -, -, k5, -⟩ := (HS.out.over a).lg.cells
        rw [← hep] at k2
        rw [← hnx] at k5
        exact ⟨k2, k5⟩)
      have HKEEP := Lib.hid (show ∀ (w' : World) (F' : Nat → Prop), Adv Nul w2 F' w' → YwC w' y ep nx from fun w' F' a => HKEEP0.out w' (HA2.out.trans (a.sub (fun _ x => x.elim))))
      have HC2 := Lib.hid (HKEEP0.out w2 HA2.out)
      have HC2D := Lib.hid (HKEEP0.out w2.drew HA2.out.drew)
      have HREC := Lib.hid (record_any A0 M0 k0 ps _ w2.drew ((HQ.out.step HA2.out).step (Adv.refl Nul w2).drew) HT4.out H8.out)
      have HRL := Lib.hid (show (recB ps).length ≤ 100000 by have := recB_small HT.out; omega)
      have HEP := Lib.hid hep
      have HNX := Lib.hid hnx
      obtain ⟨c2, c5⟩ := HC2.out
      clear hep hnx
      go_wp2_with fail
      refine rstart (S := (fun w' => YwC w' y ep nx)) (by first | with_reducible exact HC4.out | with_reducible exact HC3.out | with_reducible exact HC2D.out | with_reducible exact HC2.out) (fun hH => ?_)
      refine tk (i := 0) (oi := ⟨some 28, .move (.tmp 0), 34, "ref.go:158", #[], none⟩) hH.out (by rintro w ⟨s0, s1⟩; go_simp <;> with_reducible rfl) ?_
      simp only [Act.put, sA, sB, sC]
      refine tk (i := 1) (oi := ⟨some 29, .nilCheck (.tmp 28), 0, "ref.go:158", #[⟨0, .data⟩], none⟩) hH.out (by rintro w ⟨s0, s1⟩; go_simp <;> with_reducible rfl) ?_
      simp only [Act.put, sA, sB, sC]
      refine tk (i := 2) (oi := ⟨some 30, .fieldAddr 52 (.tmp 29) 2, 0, "ref.go:158", #[⟨1, .data⟩], none⟩) hH.out (by rintro w ⟨s0, s1⟩; go_simp <;> with_reducible rfl) ?_
      simp only [Act.put, sA, sB, sC]
      refine tk (i := 3) (oi := ⟨some 31, .load 49 (.tmp 30), 49, "ref.go:158", #[⟨2, .data⟩], none⟩) hH.out (by rintro w ⟨s0, s1⟩; go_simp <;> with_reducible rfl) ?_
      simp only [Act.put, sA, sB, sC]
      refine tk (i := 4) (oi := ⟨some 32, .move (.tmp 0), 34, "ref.go:158", #[], none⟩) hH.out (by rintro w ⟨s0, s1⟩; go_simp <;> with_reducible rfl) ?_
      simp only [Act.put, sA, sB, sC]
      refine tk (i := 5) (oi := ⟨some 33, .nilCheck (.tmp 32), 0, "ref.go:158", #[⟨4, .data⟩], none⟩) hH.out (by rintro w ⟨s0, s1⟩; go_simp <;> with_reducible rfl) ?_
      simp only [Act.put, sA, sB, sC]
      refine tk (i := 6) (oi := ⟨some 34, .fieldAddr 52 (.tmp 33) 5, 0, "ref.go:158", #[⟨5, .data⟩], none⟩) hH.out (by rintro w ⟨s0, s1⟩; go_simp <;> with_reducible rfl) ?_
      simp only [Act.put, sA, sB, sC]
      refine tk (i := 7) (oi := ⟨some 35, .load 49 (.tmp 34), 49, "ref.go:158", #[⟨6, .data⟩], none⟩) hH.out (by rintro w ⟨s0, s1⟩; go_simp <;> with_reducible rfl) ?_
      simp only [Act.put, sA, sB, sC]
      refine tk (i := 8) (oi := ⟨some 36, .move (.tmp 1), 37, "ref.go:158", #[], none⟩) hH.out (by rintro w ⟨s0, s1⟩; go_simp <;> with_reducible rfl) ?_
      simp only [Act.put, sA, sB, sC]
      refine rdy (i := 9) (oi := ⟨some 37, .call ⟨.value (.func 50), #[.tmp 36], #[37]⟩, 53, "ref.go:158", #[⟨8, .data⟩], none⟩) (fun K hK => ?_)
      go_simp
      refine HREC.out.mono ?_
      rintro x w3 ⟨v3, F3, rfl, s3, a3⟩
      obtain ⟨A3, q3, rfl, -, -⟩ := s3.form0
      have HC3 := Lib.hid (HKEEP.out w3 F3 (Adv.of_drew a3))
      have HCUT := Lib.hid (yw_cut (e := ep) (c := nx) s3 (recB_lt ps) HRL.out)
      have HA3 := Lib.hid (HA2.out.trans ((Adv.of_drew a3).sub (G := Nul) (fun _ x => x.elim)))
      clear s3 a3
      go_wp2_with fail
      refine hK.out _ _ (by first | with_reducible exact HC4.out | with_reducible exact HC3.out | with_reducible exact HC2D.out | with_reducible exact HC2.out) (fun hHeld => ?_)
      replace hH := Lib.hid hHeld
      clear hK K hHeld
      try simp only [Act.put, sA, sB, sC]
      refine rdy (i := 10) (oi := ⟨some 38, .call ⟨.value (.func 49), #[.tmp 31, .tmp 35, .tmp 37], #[49, 49, 53]⟩, 100, "ref.go:158", #[⟨3, .data⟩, ⟨7, .data⟩, ⟨9, .data⟩, ⟨9, .chain⟩], none⟩) (fun K hK => ?_)
      go_simp
      refine HCUT.out.mono ?_
      intro x w4 h4
      obtain ⟨Ap, np, kp, rfl, hp4, a4⟩ := h4
      have HA4 := Lib.hid (HA3.out.trans a4)
      have HC4 := Lib.hid (HKEEP0.out w4 HA4.out)
      have HP4 := Lib.hid (hp4 (YF G y b) (HS.out.over HA3.out).bd)
      obtain ⟨CE, hCE⟩ : ∃ x, x = cutE ep nx (recB ps).length := ⟨_, rfl⟩
      rw [← hCE]
      have HCE := Lib.hid hCE
      clear hp4 a4 hCE
      go_wp2_with fail
      refine hK.out _ _ (by first | with_reducible exact HC4.out | with_reducible exact HC3.out | with_reducible exact HC2D.out | with_reducible exact HC2.out) (fun hHeld => ?_)
      replace hH := Lib.hid hHeld
      clear hK K hHeld
      try simp only [Act.put, sA, sB, sC]
      refine tk (i := 11) (oi := ⟨some 27, .move (.tmp 38), 100, "ref.go:158", #[⟨10, .data⟩], none⟩) hH.out (by rintro w ⟨s0, s1⟩; go_simp <;> with_reducible rfl) ?_
      simp only [Act.put, sA, sB, sC]
      refine tk (i := 12) (oi := ⟨some 39, .extract (.tmp 27) 0, 79, "ref.go:158", #[⟨11, .data⟩], none⟩) hH.out (by rintro w ⟨s0, s1⟩; go_simp <;> with_reducible rfl) ?_
      simp only [Act.put, sA, sB, sC]
      refine tk (i := 13) (oi := ⟨some 40, .extract (.tmp 27) 1, 3, "ref.go:158", #[⟨11, .data⟩, { on := 14, ground := Go.Ground.gcOnly Go.Departure.lateStores }], none⟩) hH.out (by rintro w ⟨s0, s1⟩; go_simp <;> with_reducible rfl) ?_
      simp only [Act.put, sA, sB, sC]
      refine tk (i := 14) (oi := ⟨some 5, .assign (.tmp 39), 79, "ref.go:158", #[⟨12, .data⟩, ⟨10, .chain⟩, ⟨0, .phase⟩, ⟨1, .phase⟩, ⟨2, .phase⟩, ⟨3, .phase⟩, ⟨4, .phase⟩, ⟨5, .phase⟩, ⟨6, .phase⟩, ⟨7, .phase⟩, ⟨8, .phase⟩, ⟨9, .phase⟩, ⟨10, .phase⟩, ⟨11, .phase⟩, ⟨12, .phase⟩, { on := 13, ground := Go.Ground.textOnly Go.Departure.lateStores }], none⟩) hH.out (by rintro w ⟨s0, s1⟩; go_simp <;> with_reducible rfl) ?_
      simp only [Act.put, sA, sB, sC]
      refine tk (i := 15) (oi := ⟨some 6, .assign (.tmp 40), 3, "ref.go:158", #[⟨13, .data⟩, ⟨14, .chain⟩, ⟨0, .phase⟩, ⟨1, .phase⟩, ⟨2, .phase⟩, ⟨3, .phase⟩, ⟨4, .phase⟩, ⟨5, .phase⟩, ⟨6, .phase⟩, ⟨7, .phase⟩, ⟨8, .phase⟩, ⟨9, .phase⟩, ⟨10, .phase⟩, ⟨11, .phase⟩, ⟨12, .phase⟩, ⟨13, .phase⟩, ⟨14, .phase⟩], none⟩) hH.out (by rintro w ⟨s0, s1⟩; go_simp <;> with_reducible rfl) ?_
      simp only [Act.put, sA, sB, sC]
      refine wpAnyH_done (by kernel_rfl) ?_ _
      have HS4 := Lib.hid (HS.out.over HA4.out)
      have HBAD := Lib.hid (show ¬ (CE = 0 ∧ needT ps ≤ freeG n g) → ∀ w', Adv Nul w Nul w' → YrR Z w G x y b n N R (.returned (.int .i64 8)) w' from fun k w' a => by
        rw [HR.out]
        unfold writeG
        rw [if_pos HE.out.symm, ← HHm.out, if_pos HT.out, ← HEP.out, ← HNX.out, ← HCE.out, if_neg k]
        exact ⟨rfl, G, b, HS.out.over a, yadv_nul a⟩)
      clear c2 c5
      by_cases hce : CE = 0
      · subst hce
        have hnp : np = needT ps := by
          rw [HP4.out.prd.len.1, cutV, if_pos HCE.out.symm, cutP_length]; rfl
        have HNP := Lib.hid hnp
        have HFREE := Lib.hid (yfree_lg HS4.out.lg (by have := HOK.out.hn; omega) HOK.out.tn HOK.out.fr)
        obtain ⟨fr, hfr⟩ : ∃ x, x = freeG n g := ⟨_, rfl⟩
        rw [show n - (g.next - g.h.t) = fr by rw [hfr]; rfl] at HFREE
        have HFR := Lib.hid hfr
        clear hnp hfr
        go_wp2_with fail
        refine HFREE.out.mono ?_
        rintro e w5 ⟨rfl, k4, rfl⟩
        have HA5 := Lib.hid (HA4.out.drewN k4)
        by_cases hgt : (fr : Int) < (np : Int)
        · have HF := Lib.hid (HBAD.out (fun k => by have := k.2; rw [← HFR.out, ← HNP.out] at this; omega) _ HA5.out)
          go_wp2_with fail
          go_ret
          exact HF.out
        · have hle : (np : Int) ≤ (fr : Int) := by omega
          clear hgt
          obtain ⟨P, hP⟩ : ∃ P, P = cutP ep nx (recB ps) := ⟨_, rfl⟩
          have hp5 : PRdG (w4.drewN k4) (YF G y b) (.slice Ap np kp) P := by
            have := HP4.out.adv ((Adv.refl Nul w4).drewN k4) (fun _ x => x.elim) (fun _ x => .inl x)
            rw [cutV, if_pos HCE.out.symm] at this
            rw [hP]; exact this
          have HP5 := Lib.hid hp5
          have hPl : np = P.length := hp5.prd.len.1
          have HPL := Lib.hid hPl
          have HPOK := Lib.hid (show ∀ p ∈ P, p.ok by rw [hP]; exact cutP_ok HCE.out.symm)
          have HP8 := Lib.hid (show ∀ p ∈ P, ∀ x ∈ p.d, x < 256 by rw [hP]; exact cutP_bytes (recB_lt ps))
          have hnpI : (np : Int) ≤ 4096 := by have := HOK.out.hn; have := HFR.out; unfold freeG at this; omega
          have HGOOD := Lib.hid (show writeG s n N g ps = (if (layAll s n P).2 = 0 then (((layAll s n P).1, g.putAll ps (needT ps)), 0) else (((layAll s n P).1, { g with err := (layAll s n P).2 }), (layAll s n P).2)) by
            unfold writeG
            rw [if_pos HE.out.symm, ← HHm.out, if_pos HT.out, ← HEP.out, ← HNX.out, if_pos ⟨HCE.out.symm, by rw [← HFR.out, ← HNP.out]; omega⟩, hP])
          have hnf : ((fr : Int) < (np : Int)) = False := eq_false (by omega)
          have HS5 := Lib.hid (show Ys Z (w4.drewN k4) G x y b n N s { g with err := 0 } by rw [LS.err_eta HE.out.symm]; exact HS4.out.over ((Adv.refl Nul w4).drewN k4))
          have hn0 : 0 < n := by have := HOK.out.hn; omega
          have HN0 := Lib.hid hn0
          have hnI : (n : Int) ≤ 4096 := by have := HOK.out.hn; omega
          have hwn : IntKind.u64.wrap (n : Int) = (n : Int) := wrapU (by omega)
          clear hp5 hPl hP hle hn0
          go_wp2_with fail
          go_loopw [7] (YwL Z (w4.drewN k4) G x y b n N s g P) (fun t _ => np - (intOf t).toNat)
          case atStart => exact ⟨0, s, G, 0, Nat.zero_le _, rfl, Nat.le_refl _, HS5.out, Adv.refl _ _, .inl ⟨rfl, by rw [List.drop_zero]⟩⟩
          case round =>
            obtain ⟨k, sk, Gk, e, hk, rfl, hqk, hys, had, hcase⟩ := hrel
            have c7 := hys.lg.cells.2.2.2.2.2.2.2
            have c7' : wr.cell? ⟨y, 7, none⟩ = some (.int .i64 e) := c7
            clear c7
            by_cases he : e = 0
            · subst he
              have hlay : layAll s n P = layAll sk n (P.drop k) := by
                rcases hcase with h | h
                · exact h.2
                · exact absurd rfl h.1
              by_cases hlt : k < np
              · have hki : (k : Int) < (np : Int) := by omega
                have hkp : k < P.length := by rw [← HPL.out]; exact hlt
                obtain ⟨b5, o5, a5, q5, rfl, hb5, c5s, hr5⟩ := (HP5.out.adv had (fun _ x => x) (fun _ x => had.into _ x)).row2 hkp
                have hok := HPOK.out _ (List.getElem_mem hkp)
                have hb8 := HP8.out _ (List.getElem_mem hkp)
                have hdr : P.drop k = P[k] :: P.drop (k + 1) := (List.getElem_cons_drop hkp).symm
                obtain ⟨p, hp⟩ : ∃ p, p = P[k] := ⟨_, rfl⟩
                rw [← hp] at c5s hr5 hok hb8 hdr
                clear hp
                rw [hdr] at hlay
                obtain ⟨Wr, hWr⟩ : ∃ x, x = writeS sk ((2 + p.c % n : Nat) : Int) (sealL p) := ⟨_, rfl⟩
                have hlay2 : layAll s n P = if Wr.2 = 0 then layAll Wr.1 n (P.drop (k + 1)) else Wr := by rw [hlay, hWr]; rfl
                have hqw : Wr.1.Q.length ≤ s.Q.length + (k + 1) := by rw [hWr]; exact Nat.le_trans (few_write sk _ _) (by omega)
                have HSEAL := Lib.hid (rseal_ok p (.slice a5 p.d.length q5) wr hok hr5 hb8)
                have HQK := Lib.hid (show sk.Q.length ≤ 1000000 by have := HOK.out.q; have := HPL.out; omega)
                obtain ⟨pe, hpe⟩ : ∃ x, x = p.e := ⟨_, rfl⟩
                obtain ⟨pc, hpc⟩ : ∃ x, x = p.c := ⟨_, rfl⟩
                obtain ⟨pf, hpf⟩ : ∃ x, x = p.f := ⟨_, rfl⟩
                obtain ⟨pg, hpg⟩ : ∃ x, x = p.g := ⟨_, rfl⟩
                obtain ⟨pm, hpm⟩ : ∃ x, x = p.d.length := ⟨_, rfl⟩
                have HPC := Lib.hid (show pc < 18446744073709551616 by rw [hpc]; have := hok.2.1; omega)
                obtain ⟨r, hr⟩ : ∃ r, r = pc % n := ⟨_, rfl⟩
                have HRR := Lib.hid hr
                rw [← hpc, ← hr] at hWr
                have hrI : (r : Int) ≤ 4096 := by have := Nat.mod_lt pc HN0.out; omega
                have hwr1 : IntKind.i64.wrap (r : Int) = (r : Int) := by rw [IntKind.wrap_i64]; omega
                have hwr2 : IntKind.i64.wrap ((2 : Int) + (r : Int)) = (2 : Int) + (r : Int) := by rw [IntKind.wrap_i64]; omega
                obtain ⟨i0, i1, i2, i3, i4⟩ := c5s
                rw [← hpe] at i0 HSEAL
                rw [← hpc] at i1 HSEAL
                rw [← hpf] at i2 HSEAL
                rw [← hpg] at i3 HSEAL
                rw [← hpm] at i4 HSEAL
                obtain ⟨WE, hWE⟩ : ∃ x, x = Wr.2 := ⟨_, rfl⟩
                have HWE := Lib.hid hWE
                have HWR0 := Lib.hid hWr
                have HLAY2 := Lib.hid hlay2
                have HQW := Lib.hid hqw
                have HYS := Lib.hid hys
                have HAD := Lib.hid had
                have HB5 := Lib.hid hb5
                have HI1 := Lib.hid i1
                have HLT := Lib.hid hlt
                clear hk hlay hqk hys had hcase hlt hkp hr5 hok hb8 hdr hlay2 hqw hpe hpc hpf hpg hpm hWE hWr hb5 hr
                go_wp2_with fail
                refine HSEAL.out.mono ?_
                rintro e w6 ⟨v6, F6, rfl, s6, a6⟩
                obtain ⟨A6, q6, rfl, -, -⟩ := s6.form0
                have hy6 := HYS.out.over a6
                have hk6 : Calls Tryz.prog 52 #[.pointer (some ⟨x, 0, none⟩), .int .i64 ((2 : Int) + (r : Int)), .slice A6 128 q6] w6.drew fun e w' => e = .returned (.int .i64 WE) ∧ ∃ G', Rk w' G' x N Wr.1 ∧ Adv Gk w6.drew G' w' := by
                  have := rwrite_dk x N 128 ((2 + r : Nat) : Int) (.slice A6 128 q6) Gk sk (sealL p) w6.drew (hy6.dk.drewN 1) s6.rd.drew (fun j hj hf => by
                    rcases a6.into j (s6.inF j hj) with h | h
                    · exact h
                    · have := HYS.out.dk.bd j hf; omega) HQK.out
                  rw [← HWR0.out, ← HWE.out] at this
                  rw [show ((2 + r : Nat) : Int) = (2 : Int) + (r : Int) by omega] at this
                  exact this
                have HWR := Lib.hid hk6
                have HY6 := Lib.hid hy6
                have HA6 := Lib.hid (HAD.out.over a6)
                have hi6 : w6.cell? ⟨b5, o5 + k * 5 + 1, none⟩ = some (.int .u64 (pc : Int)) := (show w6.cell? ⟨b5, o5 + k * 5 + 1, none⟩ = wr.cell? ⟨b5, o5 + k * 5 + 1, none⟩ from World.cell?_of_block (a6.block b5 HB5.out.1 (fun e => e))).trans HI1.out
                have HB6 := Lib.hid (show b5 < w6.heap.size ∧ ¬ YF Gk y b b5 from ⟨Nat.lt_of_lt_of_le HB5.out.1 a6.size, HB5.out.2⟩)
                have K0 := Lib.hid (show YlC w6 y x n b5 (o5 + k * 5) pc from ⟨hy6.lg.cells.1, hy6.lg.cells.2.1, hi6⟩)
                have K1 := Lib.hid (show YlC w6.drew y x n b5 (o5 + k * 5) pc from K0.out)
                have HFR := Lib.hid (show ∀ (G9 : Nat → Prop) (w9 : World), Rk w9 G9 x N Wr.1 → Adv Gk w6.drew G9 w9 → Ys Z w9 G9 x y b n N Wr.1 { g with err := 0 } ∧ YlC w9 y x n b5 (o5 + k * 5) pc ∧ w9.cell? ⟨y, 7, none⟩ = some (.int .i64 0) ∧ w9.frozen? ⟨y, 7, none⟩ = false ∧ ∀ u, YlC (w9.setCell ⟨y, 7, none⟩ u) y x n b5 (o5 + k * 5) pc from fun G9 w9 k9 a9 => by
                  have h9 := HY6.out.disk (Adv.of_drew a9) k9
                  have hc : w9.cell? ⟨b5, o5 + k * 5 + 1, none⟩ = some (.int .u64 (pc : Int)) := (show w9.cell? ⟨b5, o5 + k * 5 + 1, none⟩ = w6.cell? ⟨b5, o5 + k * 5 + 1, none⟩ from World.cell?_of_block ((Adv.of_drew a9).block b5 HB6.out.1 (fun e => HB6.out.2 (.inl e)))).trans K0.out.2.2
                  refine ⟨h9, ⟨h9.lg.cells.1, h9.lg.cells.2.1, hc⟩, h9.lg.cells.2.2.2.2.2.2.2, h9.lg.blk.frozen 7, fun u => ?_⟩
                  have hB := h9.lg.blk.set_ 7 u
                  refine ⟨(hB.cell 0).trans rfl, (hB.cell 1).trans rfl, ?_⟩
                  exact (show (w9.setCell ⟨y, 7, none⟩ u).cell? ⟨b5, o5 + k * 5 + 1, none⟩ = w9.cell? ⟨b5, o5 + k * 5 + 1, none⟩ from World.cell?_of_block (heap_setCell_other w9 _ b5 _ (fun e => HB6.out.2 (.inr (.inl e))))).trans hc)
                clear i0 i1 i2 i3 i4 s6 a6 hy6 hk6 hi6 c7'
                go_upto_region 12 with (fail)
                obtain ⟨d0, d1, d2⟩ := K0.out
                refine rstart (S := (fun w' => YlC w' y x n b5 (o5 + k * 5) pc)) (by first | with_reducible exact K9s.out | with_reducible exact K9.out | with_reducible exact K1.out | with_reducible exact K0.out) (fun hH => ?_)
                refine tk (i := 0) (oi := ⟨some 71, .move (.tmp 0), 34, "ref.go:164", #[], none⟩) hH.out (by rintro w ⟨s0, s1, s2⟩; go_simp <;> with_reducible rfl) ?_
                simp only [Act.put, sA, sB, sC]
                refine tk (i := 1) (oi := ⟨some 72, .move (.tmp 0), 34, "ref.go:164", #[], none⟩) hH.out (by rintro w ⟨s0, s1, s2⟩; go_simp <;> with_reducible rfl) ?_
                simp only [Act.put, sA, sB, sC]
                refine tk (i := 2) (oi := ⟨some 73, .nilCheck (.tmp 72), 0, "ref.go:164", #[⟨1, .data⟩], none⟩) hH.out (by rintro w ⟨s0, s1, s2⟩; go_simp <;> with_reducible rfl) ?_
                simp only [Act.put, sA, sB, sC]
                refine tk (i := 3) (oi := ⟨some 74, .fieldAddr 52 (.tmp 73) 0, 0, "ref.go:164", #[⟨2, .data⟩], none⟩) hH.out (by rintro w ⟨s0, s1, s2⟩; go_simp <;> with_reducible rfl) ?_
                simp only [Act.put, sA, sB, sC]
                refine tk (i := 4) (oi := ⟨some 75, .load 28 (.tmp 74), 28, "ref.go:164", #[⟨3, .data⟩], none⟩) hH.out (by rintro w ⟨s0, s1, s2⟩; go_simp <;> with_reducible rfl) ?_
                simp only [Act.put, sA, sB, sC]
                refine tk (i := 5) (oi := ⟨some 76, .move (.tmp 5), 79, "ref.go:164", #[], none⟩) hH.out (by rintro w ⟨s0, s1, s2⟩; go_simp <;> with_reducible rfl) ?_
                simp only [Act.put, sA, sB, sC]
                refine tk (i := 6) (oi := ⟨some 77, .move (.tmp 7), 3, "ref.go:164", #[], none⟩) hH.out (by rintro w ⟨s0, s1, s2⟩; go_simp <;> with_reducible rfl) ?_
                simp only [Act.put, sA, sB, sC]
                refine tk (i := 7) (oi := ⟨some 78, .indexAddr 79 (.tmp 76) (.tmp 77), 0, "ref.go:164", #[⟨5, .data⟩, ⟨6, .data⟩], none⟩) hH.out (by rintro w ⟨s0, s1, s2⟩; go_simp <;> with_reducible rfl) ?_
                simp only [Act.put, sA, sB, sC]
                refine tk (i := 8) (oi := ⟨some 79, .fieldAddr 87 (.tmp 78) 1, 0, "ref.go:164", #[⟨7, .data⟩], none⟩) hH.out (by rintro w ⟨s0, s1, s2⟩; go_simp <;> with_reducible rfl) ?_
                simp only [Act.put, sA, sB, sC]
                refine tk (i := 9) (oi := ⟨some 80, .load 49 (.tmp 79), 49, "ref.go:164", #[⟨8, .data⟩], none⟩) hH.out (by rintro w ⟨s0, s1, s2⟩; go_simp <;> with_reducible rfl) ?_
                simp only [Act.put, sA, sB, sC]
                refine tk (i := 10) (oi := ⟨some 81, .move (.tmp 0), 34, "ref.go:164", #[], none⟩) hH.out (by rintro w ⟨s0, s1, s2⟩; go_simp <;> with_reducible rfl) ?_
                simp only [Act.put, sA, sB, sC]
                refine tk (i := 11) (oi := ⟨some 82, .nilCheck (.tmp 81), 0, "ref.go:164", #[⟨10, .data⟩], none⟩) hH.out (by rintro w ⟨s0, s1, s2⟩; go_simp <;> with_reducible rfl) ?_
                simp only [Act.put, sA, sB, sC]
                refine tk (i := 12) (oi := ⟨some 83, .fieldAddr 52 (.tmp 82) 1, 0, "ref.go:164", #[⟨11, .data⟩], none⟩) hH.out (by rintro w ⟨s0, s1, s2⟩; go_simp <;> with_reducible rfl) ?_
                simp only [Act.put, sA, sB, sC]
                refine tk (i := 13) (oi := ⟨some 84, .load 3 (.tmp 83), 3, "ref.go:164", #[⟨12, .data⟩], none⟩) hH.out (by rintro w ⟨s0, s1, s2⟩; go_simp <;> with_reducible rfl) ?_
                simp only [Act.put, sA, sB, sC]
                refine tk (i := 14) (oi := ⟨some 85, .convert 3 49 (.tmp 84), 49, "ref.go:164", #[⟨13, .data⟩], none⟩) hH.out (by rintro w ⟨s0, s1, s2⟩; go_simp <;> with_reducible rfl) ?_
                simp only [Act.put, sA, sB, sC]
                refine wpAnyH_take (i := 15) (oi := ⟨some 86, .binOp .rem 49 (.tmp 80) (.tmp 85) 49, 49, "ref.go:164", #[⟨9, .data⟩, ⟨14, .data⟩], none⟩) (v := .int .u64 (r : Int)) rfl (by kernel_rfl) (by kernel_rfl) (by kernel_rfl) (fun _ _ _ h => h) (y_rem rfl (.tmp 80) (.tmp 85) rfl pc n r HN0.out HPC.out rfl rfl HRR.out) hH.out ?_
                simp only [Act.put, sA, sB, sC]
                refine tk (i := 16) (oi := ⟨some 87, .convert 49 3 (.tmp 86), 3, "ref.go:164", #[⟨15, .data⟩], none⟩) hH.out (by rintro w ⟨s0, s1, s2⟩; go_simp <;> with_reducible rfl) ?_
                simp only [Act.put, sA, sB, sC]
                refine tk (i := 17) (oi := ⟨some 88, .binOp .add 3 (.const (Go.Value.int Go.IntKind.i64 2)) (.tmp 87) 3, 3, "ref.go:164", #[⟨16, .data⟩], none⟩) hH.out (by rintro w ⟨s0, s1, s2⟩; go_simp <;> with_reducible rfl) ?_
                simp only [Act.put, sA, sB, sC]
                refine tk (i := 18) (oi := ⟨some 89, .move (.tmp 8), 53, "ref.go:164", #[], none⟩) hH.out (by rintro w ⟨s0, s1, s2⟩; go_simp <;> with_reducible rfl) ?_
                simp only [Act.put, sA, sB, sC]
                refine rdy (i := 19) (oi := ⟨some 90, .call ⟨.value (.func 52), #[.tmp 75, .tmp 88, .tmp 89], #[28, 3, 53]⟩, 3, "ref.go:164", #[⟨4, .data⟩, ⟨17, .data⟩, ⟨18, .data⟩], none⟩) (fun K hK => ?_)
                go_simp
                refine HWR.out.mono ?_
                rintro x w9 ⟨rfl, G9, k9, a9⟩
                obtain ⟨hs9, hc9, h7, hf7, hcs⟩ := HFR.out G9 w9 k9 a9
                have HS9 := Lib.hid hs9
                have K9 := Lib.hid hc9
                have K9s := Lib.hid (hcs (.int .i64 WE))
                have HA9 := Lib.hid a9
                clear k9 a9 hs9 hc9 hcs
                go_wp2_with fail
                refine hK.out _ _ (by first | with_reducible exact K9s.out | with_reducible exact K9.out | with_reducible exact K1.out | with_reducible exact K0.out) (fun hHeld => ?_)
                replace hH := Lib.hid hHeld
                clear hK K hHeld
                try simp only [Act.put, sA, sB, sC]
                refine tk (i := 20) (oi := ⟨some 91, .nilCheck (.tmp 71), 0, "ref.go:164", #[⟨0, .data⟩, ⟨0, .phase⟩, ⟨1, .phase⟩, ⟨2, .phase⟩, ⟨3, .phase⟩, ⟨4, .phase⟩, ⟨5, .phase⟩, ⟨6, .phase⟩, ⟨7, .phase⟩, ⟨8, .phase⟩, ⟨9, .phase⟩, ⟨10, .phase⟩, ⟨11, .phase⟩, ⟨12, .phase⟩, ⟨13, .phase⟩, ⟨14, .phase⟩, ⟨15, .phase⟩, ⟨16, .phase⟩, ⟨17, .phase⟩, ⟨18, .phase⟩, ⟨19, .phase⟩], none⟩) hH.out (by rintro w ⟨s0, s1, s2⟩; go_simp <;> with_reducible rfl) ?_
                simp only [Act.put, sA, sB, sC]
                refine tk (i := 21) (oi := ⟨some 92, .fieldAddr 52 (.tmp 91) 7, 0, "ref.go:164", #[⟨20, .data⟩, ⟨0, .phase⟩, ⟨1, .phase⟩, ⟨2, .phase⟩, ⟨3, .phase⟩, ⟨4, .phase⟩, ⟨5, .phase⟩, ⟨6, .phase⟩, ⟨7, .phase⟩, ⟨8, .phase⟩, ⟨9, .phase⟩, ⟨10, .phase⟩, ⟨11, .phase⟩, ⟨12, .phase⟩, ⟨13, .phase⟩, ⟨14, .phase⟩, ⟨15, .phase⟩, ⟨16, .phase⟩, ⟨17, .phase⟩, ⟨18, .phase⟩, ⟨19, .phase⟩], none⟩) hH.out (by rintro w ⟨s0, s1, s2⟩; go_simp <;> with_reducible rfl) ?_
                simp only [Act.put, sA, sB, sC]
                refine rdy (i := 22) (oi := ⟨none, .store 3 (.tmp 92) (.tmp 90), 0, "ref.go:164", #[⟨21, .data⟩, ⟨19, .data⟩, ⟨19, .chain⟩, ⟨0, .phase⟩, ⟨1, .phase⟩, ⟨2, .phase⟩, ⟨3, .phase⟩, ⟨4, .phase⟩, ⟨5, .phase⟩, ⟨6, .phase⟩, ⟨7, .phase⟩, ⟨8, .phase⟩, ⟨9, .phase⟩, ⟨10, .phase⟩, ⟨11, .phase⟩, ⟨12, .phase⟩, ⟨13, .phase⟩, ⟨14, .phase⟩, ⟨15, .phase⟩, ⟨16, .phase⟩, ⟨17, .phase⟩, ⟨18, .phase⟩, ⟨19, .phase⟩], none⟩) (fun K hK => ?_)
                go_simp
                refine hK.out _ _ (by first | with_reducible exact K9s.out | with_reducible exact K9.out | with_reducible exact K1.out | with_reducible exact K0.out) (fun hHeld => ?_)
                replace hH := Lib.hid hHeld
                clear hK K hHeld
                try simp only [Act.put]
                refine wpAnyH_done (by kernel_rfl) ?_ _
                go_wp2_with fail
                obtain ⟨hs9, ha9⟩ := HS9.out.setErr WE
                have hlt := HLT.out
                refine ⟨⟨k + 1, Wr.1, G9, WE, by have := HPL.out; omega, by go_num, HQW.out, hs9, HA6.out.trans ((yadv_disk (Adv.of_drew HA9.out)).trans ha9), ?_⟩, by simp [intOf] <;> omega⟩
                by_cases hw0 : WE = 0
                · exact .inl ⟨hw0, by rw [HLAY2.out, if_pos (by rw [← HWE.out]; exact hw0)]⟩
                · exact .inr ⟨hw0, by rw [HLAY2.out, if_neg (by rw [← HWE.out]; exact hw0), HWE.out]⟩
              · obtain rfl : k = np := by have := HPL.out; omega
                have e0 : P.drop k = [] := List.drop_eq_nil_of_le (by have := HPL.out; omega)
                rw [e0] at hlay
                have hlay2 : layAll s n P = (sk, 0) := hlay
                rw [LS.err_eta HE.out.symm] at hys
                have HLAY := Lib.hid hlay2
                have HYS := Lib.hid hys
                have HAD := Lib.hid ((yadv_nul (G := G) (y := y) (b := b) HA5.out).trans had)
                have d5 : wr.cell? ⟨y, 5, none⟩ = some (.int .u64 (nx : Int)) := by rw [HNX.out]; exact hys.lg.cells.2.2.2.2.2.1
                have f5 := hys.lg.blk.frozen 5
                have hwk : IntKind.u64.wrap (k : Int) = (k : Int) := wrapU (by omega)
                have hwx : IntKind.u64.wrap ((nx : Int) + (k : Int)) = (nx : Int) + (k : Int) := by
                  have := wrapU (x := nx + k) (by have := HOK.out.nx; have := HNX.out; omega)
                  rw [Int.natCast_add] at this
                  exact this
                obtain ⟨V, hV⟩ : ∃ V, V = wr.setCell ⟨y, 5, none⟩ (.int .u64 ((nx : Int) + (k : Int))) := ⟨_, rfl⟩
                have haV : Adv (LF y b) wr (LF y b) V := by rw [hV]; exact (Adv.refl (LF y b) wr).setCell (p := ⟨y, 5, none⟩) (.inl (.inl rfl)) _
                have hyV : Yg V y x b n (N - 2 - n) (YK Z Gk y b) { g with next := g.next + k } := by
                  have := hys.lg.setNext YK.iny (g.next + k)
                  rw [Int.natCast_add, ← HNX.out] at this
                  rw [hV, ← HNX.out]
                  exact this
                have hqV : QRd V (YK Z Gk y b) (.slice A0 M0 k0) ps := (HQ.out.adv HAD.out (fun _ e => .inl e) (fun j e => e.elim (fun e => (HAD.out.into j e).imp .inl id) (fun e => .inl (.inr e)))).adv haV (fun _ e => .inl (.inr e)) (fun _ e => .inl e)
                have HTK := Lib.hid (ytake_lg y x b n (N - 2 - n) (YK Z Gk y b) { g with next := g.next + k } A0 M0 k0 ps V hyV (fun j hj => by have := hys.bdk j hj; exact Nat.lt_of_lt_of_le this haV.size) YK.iny YK.inb hqV (by rw [← HHm.out]; exact HT.out) H8.out (by have := HOK.out.hn; omega))
                have HV := Lib.hid hV
                have HAV := Lib.hid haV
                clear hk hqk hys had hcase hlay hlay2 e0 hlt hV haV hyV hqV
                go_upto_region 16 with (fail)
                rw [← HV.out]
                clear d5 f5 c7'
                go_wp2_with fail
                refine HTK.out.mono ?_
                rintro e w7 ⟨rfl, l7, a7⟩
                have HF := Lib.hid (show YrR Z w G x y b n N R (.returned (.int .i64 0)) w7 by
                  rw [HR.out, HGOOD.out, HLAY.out, if_pos rfl, ← HNP.out]
                  exact ⟨rfl, Gk, b, HYS.out.log (HAV.out.trans a7) l7, HAD.out.trans (yadv_log (HAV.out.trans a7))⟩)
                clear l7 a7
                go_wp2_with fail
                go_ret
                exact HF.out
            · have hb2 : ((e : Int) == 0) = false := by rw [beq_eq_false_iff_ne]; exact he
              have hb3 : ((e : Int) != 0) = true := by rw [bne_iff_ne]; exact he
              have hlay : layAll s n P = (sk, e) := by
                rcases hcase with h | h
                · exact absurd h.1 he
                · exact h.2
              have HF := Lib.hid (show YrR Z w G x y b n N R (.returned (.int .i64 e)) wr by
                rw [HR.out, HGOOD.out, hlay, if_neg he]
                exact ⟨rfl, Gk, b, hys, (yadv_nul HA5.out).trans had⟩)
              have hkn : k ≤ np := by have := HPL.out; omega
              clear hk hqk hys had hcase hlay he
              by_cases hlt : k < np
              · have hki : (k : Int) < (np : Int) := by omega
                go_wp2_with fail
                go_ret
                exact HF.out
              · have hki : (np : Int) ≤ (k : Int) := by omega
                go_wp2_with fail
                go_ret
                exact HF.out
      · have hb : ((CE : Int) != 0) = true := by rw [bne_iff_ne]; exact hce
        have hb2 : ((CE : Int) == 0) = false := by rw [beq_eq_false_iff_ne]; exact hce
        have HF := Lib.hid (HBAD.out (fun k => hce k.1) _ HA4.out)
        clear hce
        go_wp2_with fail
        go_ret
        exact HF.out
  · have hb : ((E : Int) != 0) = true := by rw [bne_iff_ne]; exact h0
    have hb2 : ((E : Int) == 0) = false := by rw [beq_eq_false_iff_ne]; exact h0
    have HF := Lib.hid (show YrR Z w G x y b n N R (.returned (.int .i64 E)) w by
      rw [hR]
      unfold writeG
      rw [if_neg (by rw [← hE]; exact h0), ← hE]
      exact ⟨rfl, G, b, h, Adv.refl _ _⟩)
    clear h ok hq h8 hR hE h0
    go_enter Tryz.func11, Tryz.ntmps11
    go_wp2_with fail
    go_ret
    exact HF.out
end Go.Proofs.YtbdjlmdbnoghnaaGreat
