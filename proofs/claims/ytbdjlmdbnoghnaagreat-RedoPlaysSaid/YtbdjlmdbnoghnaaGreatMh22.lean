/- Join: the program's. Join: the document's. Two lists of pieces that grow side by side; pieces that came in. -/
import Derived.Test.YtbdjlmdbnoghnaaGreatMh09
import Derived.Test.YtbdjlmdbnoghnaaGreatMh21
import Derived.Test.YtbdjlmdbnoghnaaGreatMh05
import Derived.Deep.Slices
import Derived.Deep.Fields
import Derived.ChangeArms
namespace Go.Proofs.YtbdjlmdbnoghnaaGreat
open Go.RowKit

def JoinR (w : World) (ps : List Pc) (x : Ending) (w' : World) : Prop := ∃ A k, x = .returned (.tuple #[.slice A (joinV ps).length k, .int .i64 (joinE ps)]) ∧ Rd w' 1 (.slice A (joinV ps).length k) (joinV ps).length ((joinV ps).map u8) ∧ Adv Nul w Nul w'
theorem JoinR.none {w w' : World} {ps : List Pc} (h : ¬ JoinOk ps) (ha : Adv Nul w Nul w') : JoinR w ps (.returned (.tuple #[.slice none 0 0, .int .i64 4])) w' := by
  have e : joinV ps = [] := by unfold joinV; rw [if_neg h]
  have e2 : joinE ps = 4 := by unfold joinE; rw [if_neg h]
  unfold JoinR
  rw [e, e2]
  exact ⟨Option.none, 0, rfl, (Sl.nil _ 5 1).rd, ha⟩
theorem JoinR.some {w w' : World} {ps : List Pc} {A : Option Addr} {m k : Nat} (h : JoinOk ps) (hm : m = (allD ps).length) (hr : Rd w' 1 (.slice A m k) m ((allD ps).map u8)) (ha : Adv Nul w Nul w') : JoinR w ps (.returned (.tuple #[.slice A m k, .int .i64 0])) w' := by
  have e : joinV ps = allD ps := by unfold joinV; rw [if_pos h]
  have e2 : joinE ps = 0 := by unfold joinE; rw [if_pos h]
  unfold JoinR
  rw [e, e2, ← hm]
  exact ⟨A, k, rfl, hr, ha⟩
/-- the loop that adds up -/
def JoinL (w : World) (ps : List Pc) (t15 t4 : Value) (wr : World) : Prop :=
  ∃ k m A q F, k ≤ ps.length ∧ t15 = .int .i64 ((k : Nat) : Int) ∧ t4 = .slice A m q ∧ m = (allD (ps.take k)).length ∧ m ≤ 8192 ∧ Sl wr F 5 1 (.slice A m q) m ((allD (ps.take k)).map u8) ∧ Adv Nul w F wr
set_option maxRecDepth 3000 in
set_option maxHeartbeats 3200000 in
theorem pjoin_any (A0 : Option Addr) (k0 : Nat) (ps : List Pc) (w : World) (h : PRd w (.slice A0 ps.length k0) ps) (hb : B8 ps) (hl : ps.length ≤ 1000) (hd : ∀ p ∈ ps, p.d.length ≤ 1000) :
    Calls Tryz.prog 68 #[.slice A0 ps.length k0] w (JoinR w ps) := by
  obtain ⟨N, hN⟩ : ∃ N, N = ps.length := ⟨_, rfl⟩
  rw [← hN] at h hl ⊢
  have hNI : (N : Int) ≤ 1000 := by omega
  have HP := Lib.hid h
  have HN := Lib.hid hN
  have HB := Lib.hid hb
  have HDL := Lib.hid hd
  clear h hb hl hd
  by_cases h0 : N = 0
  · have hz : ((N : Int) == 0) = true := by rw [beq_iff_eq]; omega
    have HNO := Lib.hid (show ¬ JoinOk ps from fun h => by have := h.1; omega)
    clear h0 hN hNI
    go_enter Tryz.func68, Tryz.ntmps68
    go_wp2_with fail
    all_goals
      exact bodyPost_ret (v := .tuple #[.slice none 0 0, .int .i64 4]) (by simp [results, Tryz.results68, go_sem]) rfl (JoinR.none HNO.out (Adv.refl _ _))
  · have hz : ((N : Int) == 0) = false := by rw [beq_eq_false_iff_ne]; omega
    have h0' : 0 < N := by omega
    have H0 := Lib.hid h0'
    obtain ⟨g, hg⟩ : ∃ g, g = w.heap.size := ⟨_, rfl⟩
    obtain ⟨V, hV⟩ : ∃ V, V = w.alloc (.cells #[] 5) := ⟨_, rfl⟩
    have hsl : Sl V (fun j => j = g) 5 1 (.slice (some ⟨g, 0, none⟩) 0 0) 0 [] := by
      rw [hV, hg]
      exact ⟨own_base (World.ownsRow_made w #[] 0 (Nat.le_refl _) (Nat.zero_le _) rfl), fun k hk => by simpa [Value.ownBlock] using hk.symm, fun k hk => by subst hk; simp⟩
    have hA : Adv Nul w (fun j => j = g) V := by
      rw [hV, hg]
      have := (Adv.refl Nul w).alloc (.cells #[] 5)
      exact ⟨this.os, this.tape, this.output, this.size, fun j hj h => this.block j hj h, fun j hj => .inr (by omega)⟩
    have HSL := Lib.hid hsl
    have HAV := Lib.hid hA
    have HV := Lib.hid hV
    have HG := Lib.hid hg
    clear h0 h0' hN hsl hA hV hg
    go_enter Tryz.func68, Tryz.ntmps68
    go_upto_region 4 with (fail)
    rw [← HV.out, ← HG.out]
    go_wp2_with fail
    go_loopw [15, 4] (JoinL w ps) (fun t _ _ => N - (intOf t).toNat)
    case atStart => exact ⟨0, 0, _, _, _, Nat.zero_le _, rfl, rfl, by simp [allD], Nat.zero_le _, by simpa [allD] using HSL.out, HAV.out⟩
    case round =>
      obtain ⟨k, m, A, q, F, hk, rfl, rfl, hm, hm8, hs, ha⟩ := hrel
      rw [← HN.out] at hk
      by_cases hlt : k < N
      · have hki : (k : Int) < (N : Int) := by omega
        have hkp : k < ps.length := by rw [← HN.out]; exact hlt
        obtain ⟨b1, o1, a1, q1, rfl, hlb1, hc1, hr1⟩ := (HP.out.step ha).row hkp
        obtain ⟨p, hp⟩ : ∃ p, p = ps[k] := ⟨_, rfl⟩
        have hpk : ps[k]? = some p := by rw [hp]; exact List.getElem?_eq_getElem hkp
        have hpd : p.d.length ≤ 1000 := by rw [hp]; exact HDL.out _ (List.getElem_mem _)
        rw [← hp] at hc1 hr1
        obtain ⟨pe, pn, pf, pg, D⟩ := p
        obtain ⟨d, hd⟩ : ∃ d, d = D.length := ⟨_, rfl⟩
        simp only [← hd] at hc1 hr1 hpd
        obtain ⟨z, hz'⟩ : ∃ z, z = wr.heap.size := ⟨_, rfl⟩
        obtain ⟨U, hU⟩ : ∃ U, U = wr.alloc (.cells #[.int .u64 (pe : Int), .int .u64 (pn : Int), .bool pf, .bool pg, .slice a1 d q1] 96) := ⟨_, rfl⟩
        have hZ : Blk U z 96 #[.int .u64 (pe : Int), .int .u64 (pn : Int), .bool pf, .bool pg, .slice a1 d q1] := by rw [hU, hz']; exact Blk.new _ _ _
        have hU1 : Adv Nul wr Nul U := by rw [hU]; exact (Adv.refl _ _).alloc _
        have HS := Lib.hid (hs.far hU1 (fun _ h _ => h))
        have HRD := Lib.hid (hr1.far (fun _ _ _ h => hU1.block _ h (fun h => h)) hU1.size)
        have HZB := Lib.hid hZ.five
        have HZ := Lib.hid hz'
        have HU := Lib.hid hU
        have HAU := Lib.hid (ha.over hU1)
        have HLT := Lib.hid hlt
        have HPK := Lib.hid hpk
        have HM := Lib.hid hm
        have HD := Lib.hid hd
        have hdm : (d : Int) ≤ 1000 := by omega
        have hmi : (m : Int) ≤ 8192 := by omega
        obtain ⟨c0, c1, c2, c3, c4⟩ := hc1
        clear hkp hlb1 hr1 hp hpd hd hz' hU hZ hU1 hpk hlt hk hm hm8 hs ha
        go_upto_region 7 with (fail)
        rw [← HU.out, ← HZ.out]
        obtain ⟨z0, z1, z2, z3, z4⟩ := HZB.out
        clear c0 c1 c2 c3 c4
        by_cases hbig : (8192 : Int) - (m : Int) < (d : Int)
        · have HBIG := Lib.hid hbig
          go_wp2_with fail
          refine bodyPost_ret (v := .tuple #[.slice none 0 0, .int .i64 4]) (by simp [results, Tryz.results68, go_sem]) rfl (JoinR.none (fun h => ?_) (HAU.out.sub (fun _ h => h.elim)))
          have h1 := allD_take_le ps (k + 1)
          rw [allD_take_succ HPK.out, List.length_append] at h1
          have h2 := h.2.2
          have h3 := HM.out
          have h4 := HD.out
          have h5 := HBIG.out
          simp only at h1
          omega
        · have hle : (d : Int) ≤ 8192 - (m : Int) := by omega
          have HLE := Lib.hid hle
          clear hbig
          go_wp2_with (first
            | (at_builtin; refine wpList_append_rd rfl (.tmp 26) (.tmp 28) rfl rfl rfl HS.out.own HRD.out (u8_one _) ?d1 ?d2)
            | fail)
          case d1 => omega
          case d2 =>
            intro v4 w4 hown4 hg4 hat4
            obtain ⟨h4, _, a4⟩ := own_grown HS.out HAU.out hown4 hg4 hat4 (Nat.le_refl _)
            rw [← List.map_append] at h4
            obtain ⟨A4, c4, rfl, _, _⟩ := h4.form0
            have H4 := Lib.hid h4
            have A4 := Lib.hid a4
            clear h4 a4 hown4 hg4 hat4
            go_wp2_with fail
            have hlt := HLT.out
            have e := allD_take_succ HPK.out
            simp only at e
            have e2 : m + d = (allD (ps.take (k + 1))).length := by rw [e, List.length_append, HM.out, HD.out]
            have h5 := HLE.out
            refine ⟨⟨k + 1, m + d, _, _, _, by rw [← HN.out]; omega, by go_num, rfl, e2, by omega, by rw [e]; exact H4.out, A4.out⟩, by simp [intOf]; omega⟩
      · obtain rfl : k = N := by omega
        have hs' : Sl wr F 5 1 (.slice A m q) m ((allD ps).map u8) := by
          rw [HN.out, List.take_length] at hs
          exact hs
        have hm' : m = (allD ps).length := by
          rw [HN.out, List.take_length] at hm
          exact hm
        obtain ⟨b1, o1, a1, q1, rfl, hlb1, hc1, hr1⟩ := (HP.out.step ha).row (i := 0) (by rw [← HN.out]; exact H0.out)
        rw [Nat.zero_mul, Nat.add_zero] at hc1
        obtain ⟨L, hL⟩ : ∃ L, L = allD ps := ⟨_, rfl⟩
        rw [← hL] at hs' hm'
        obtain ⟨pe, hpe⟩ : ∃ x, x = (hdP ps).e := ⟨_, rfl⟩
        obtain ⟨pn, hpn⟩ : ∃ x, x = (hdP ps).c := ⟨_, rfl⟩
        have h0e : ps[0]'(by rw [← HN.out]; exact H0.out) = hdP ps := by
          have h1 : ps ≠ [] := fun h => by have := H0.out; rw [HN.out, h] at this; exact absurd this (by decide)
          obtain ⟨p, t, rfl⟩ := List.exists_cons_of_ne_nil h1
          rfl
        rw [h0e] at hc1
        have hc01 : wr.cell? ⟨b1, o1, none⟩ = some (.int .u64 (pe : Int)) ∧ wr.cell? ⟨b1, o1 + 1, none⟩ = some (.int .u64 (pn : Int)) := by rw [hpe, hpn]; exact ⟨hc1.1, hc1.2.1⟩
        have hL8 : ∀ x ∈ L, x < 256 := by rw [hL]; exact allD_lt HB.out
        have hcut : ∀ v, Rd v 1 (.slice A m q) m (L.map u8) → Calls Tryz.prog 78 #[.int .u64 (pe : Int), .int .u64 (pn : Int), .slice A m q] v (CutR v pe pn L) := fun v hv => pcut_any pe pn _ L v (by rw [← hm']; exact hv) (by omega)
        obtain ⟨E, hE⟩ : ∃ E, E = cutE pe pn L.length := ⟨_, rfl⟩
        obtain ⟨NN, hNN⟩ : ∃ E, E = (cutV pe pn L).length := ⟨_, rfl⟩
        have KA := Lib.hid (show wr.drew.cell? ⟨b1, o1, none⟩ = some (.int .u64 (pe : Int)) ∧ wr.drew.cell? ⟨b1, o1 + 1, none⟩ = some (.int .u64 (pn : Int)) from hc01)
        have HRD := Lib.hid (show Rd wr.drew 1 (.slice A m q) m (L.map u8) from hs'.rd)
        have HCUT := Lib.hid hcut
        have HC01 := Lib.hid hc01
        have HE := Lib.hid hE
        have HNN := Lib.hid hNN
        have HL := Lib.hid hL
        have HL8 := Lib.hid hL8
        have HPE := Lib.hid hpe
        have HPN := Lib.hid hpn
        have HM := Lib.hid hm'
        have HM8 := Lib.hid hm8
        have HLB := Lib.hid hlb1
        have HAW := Lib.hid ((ha.sub (G := Nul) (fun _ h => h.elim)).drew)
        have hNp : 0 < k := H0.out
        clear hs hs' hm hm' hc1 hr1 hL hpe hpn h0e hL8 hcut hE hNN hc01 hlb1 ha hk hlt hm8
        go_wp2_with fail
        refine rstart (S := (fun w' => w'.cell? ⟨b1, o1, none⟩ = some (.int .u64 (pe : Int)) ∧ w'.cell? ⟨b1, o1 + 1, none⟩ = some (.int .u64 (pn : Int)))) (by first | with_reducible exact KB.out | with_reducible exact KA.out) (fun hH => ?_)
        refine tk (i := 0) (oi := ⟨some 32, .move (.tmp 0), 93, "lap.go:147", #[], none⟩) hH.out (by rintro w ⟨s0, s1⟩; go_simp <;> with_reducible rfl) ?_
        simp only [Act.put, sA, sB, sC]
        refine tk (i := 1) (oi := ⟨some 33, .indexAddr 93 (.tmp 32) (.const (Go.Value.int Go.IntKind.i64 0)), 0, "lap.go:147", #[⟨0, .data⟩], none⟩) hH.out (by rintro w ⟨s0, s1⟩; go_simp <;> with_reducible rfl) ?_
        simp only [Act.put, sA, sB, sC]
        refine tk (i := 2) (oi := ⟨some 34, .fieldAddr 96 (.tmp 33) 0, 0, "lap.go:147", #[⟨1, .data⟩], none⟩) hH.out (by rintro w ⟨s0, s1⟩; go_simp <;> with_reducible rfl) ?_
        simp only [Act.put, sA, sB, sC]
        refine tk (i := 3) (oi := ⟨some 35, .load 49 (.tmp 34), 49, "lap.go:147", #[⟨2, .data⟩], none⟩) hH.out (by rintro w ⟨s0, s1⟩; go_simp <;> with_reducible rfl) ?_
        simp only [Act.put, sA, sB, sC]
        refine tk (i := 4) (oi := ⟨some 36, .move (.tmp 0), 93, "lap.go:147", #[], none⟩) hH.out (by rintro w ⟨s0, s1⟩; go_simp <;> with_reducible rfl) ?_
        simp only [Act.put, sA, sB, sC]
        refine tk (i := 5) (oi := ⟨some 37, .indexAddr 93 (.tmp 36) (.const (Go.Value.int Go.IntKind.i64 0)), 0, "lap.go:147", #[⟨4, .data⟩], none⟩) hH.out (by rintro w ⟨s0, s1⟩; go_simp <;> with_reducible rfl) ?_
        simp only [Act.put, sA, sB, sC]
        refine tk (i := 6) (oi := ⟨some 38, .fieldAddr 96 (.tmp 37) 1, 0, "lap.go:147", #[⟨5, .data⟩], none⟩) hH.out (by rintro w ⟨s0, s1⟩; go_simp <;> with_reducible rfl) ?_
        simp only [Act.put, sA, sB, sC]
        refine tk (i := 7) (oi := ⟨some 39, .load 49 (.tmp 38), 49, "lap.go:147", #[⟨6, .data⟩], none⟩) hH.out (by rintro w ⟨s0, s1⟩; go_simp <;> with_reducible rfl) ?_
        simp only [Act.put, sA, sB, sC]
        refine tk (i := 8) (oi := ⟨some 40, .move (.tmp 4), 53, "lap.go:147", #[], none⟩) hH.out (by rintro w ⟨s0, s1⟩; go_simp <;> with_reducible rfl) ?_
        simp only [Act.put, sA, sB, sC]
        refine rdy (i := 9) (oi := ⟨some 41, .call ⟨.value (.func 78), #[.tmp 35, .tmp 39, .tmp 40], #[49, 49, 53]⟩, 94, "lap.go:147", #[⟨3, .data⟩, ⟨7, .data⟩, ⟨8, .data⟩], none⟩) (fun K hK => ?_)
        go_simp
        refine (HCUT.out _ HRD.out).mono ?_
        intro x w8 h
        obtain ⟨A3, k3, rfl, p3, t3⟩ := h.opened
        rw [← HE.out, ← HNN.out]
        have HP3 := Lib.hid p3
        have HT3 := Lib.hid t3
        have KB := Lib.hid (show w8.cell? ⟨b1, o1, none⟩ = some (.int .u64 (pe : Int)) ∧ w8.cell? ⟨b1, o1 + 1, none⟩ = some (.int .u64 (pn : Int)) from ⟨(World.cell?_of_block (t3.block b1 HLB.out (fun h => h))).trans KA.out.1, (World.cell?_of_block (t3.block b1 HLB.out (fun h => h))).trans KA.out.2⟩)
        clear h p3 t3
        go_wp2_with fail
        refine hK.out _ _ (by first | with_reducible exact KB.out | with_reducible exact KA.out) (fun hHeld => ?_)
        replace hH := Lib.hid hHeld
        clear hK K hHeld
        try simp only [Act.put, sA, sB, sC]
        refine tk (i := 10) (oi := ⟨some 31, .move (.tmp 41), 94, "lap.go:147", #[⟨9, .data⟩], none⟩) hH.out (by rintro w ⟨s0, s1⟩; go_simp <;> with_reducible rfl) ?_
        simp only [Act.put, sA, sB, sC]
        refine tk (i := 11) (oi := ⟨some 42, .extract (.tmp 31) 0, 93, "lap.go:147", #[⟨10, .data⟩], none⟩) hH.out (by rintro w ⟨s0, s1⟩; go_simp <;> with_reducible rfl) ?_
        simp only [Act.put, sA, sB, sC]
        refine tk (i := 12) (oi := ⟨some 43, .extract (.tmp 31) 1, 25, "lap.go:147", #[⟨10, .data⟩, { on := 13, ground := Go.Ground.gcOnly Go.Departure.lateStores }], none⟩) hH.out (by rintro w ⟨s0, s1⟩; go_simp <;> with_reducible rfl) ?_
        simp only [Act.put, sA, sB, sC]
        refine tk (i := 13) (oi := ⟨some 7, .assign (.tmp 42), 93, "lap.go:147", #[⟨11, .data⟩, ⟨9, .chain⟩, ⟨0, .phase⟩, ⟨1, .phase⟩, ⟨2, .phase⟩, ⟨3, .phase⟩, ⟨4, .phase⟩, ⟨5, .phase⟩, ⟨6, .phase⟩, ⟨7, .phase⟩, ⟨8, .phase⟩, ⟨9, .phase⟩, ⟨10, .phase⟩, ⟨11, .phase⟩, { on := 12, ground := Go.Ground.textOnly Go.Departure.lateStores }], none⟩) hH.out (by rintro w ⟨s0, s1⟩; go_simp <;> with_reducible rfl) ?_
        simp only [Act.put, sA, sB, sC]
        refine tk (i := 14) (oi := ⟨some 8, .assign (.tmp 43), 25, "lap.go:147", #[⟨12, .data⟩, ⟨13, .chain⟩, ⟨0, .phase⟩, ⟨1, .phase⟩, ⟨2, .phase⟩, ⟨3, .phase⟩, ⟨4, .phase⟩, ⟨5, .phase⟩, ⟨6, .phase⟩, ⟨7, .phase⟩, ⟨8, .phase⟩, ⟨9, .phase⟩, ⟨10, .phase⟩, ⟨11, .phase⟩, ⟨12, .phase⟩, ⟨13, .phase⟩], none⟩) hH.out (by rintro w ⟨s0, s1⟩; go_simp <;> with_reducible rfl) ?_
        simp only [Act.put, sA, sB, sC]
        refine wpAnyH_done (by kernel_rfl) ?_ _
        have hax := HAW.out.trans HT3.out
        have heq : Calls Tryz.prog 98 #[.slice A3 NN k3, .slice (some ⟨b1, o1, none⟩) k k0, .func (.func 99) #[] #[]] w8 (EqR w8 (cutV pe pn L) ps) := by
          have h1 := HP.out.step hax
          rw [HN.out] at h1
          have h := equalfn_any A3 (some ⟨b1, o1, none⟩) k3 k0 (cutV pe pn L) ps w8 HP3.out h1 (cutV_lt HL8.out) HB.out
          rw [← HNN.out, ← HN.out] at h
          exact h
        have HEQ := Lib.hid heq
        have HRD8 := Lib.hid (HRD.out.far (fun _ _ _ h => HT3.out.block _ h (fun h => h)) HT3.out.size)
        have HAX := Lib.hid hax
        clear heq hax hNp
        by_cases hE0 : E = 0
        · subst hE0
          go_wp2_with fail
          refine HEQ.out.mono ?_
          rintro x w9 ⟨B, rfl, hB, t9⟩
          have HBB := Lib.hid hB
          have HT9 := Lib.hid t9
          clear hB t9
          cases B with
          | false =>
            go_wp2_with fail
            refine bodyPost_ret (v := .tuple #[.slice none 0 0, .int .i64 4]) (by simp [results, Tryz.results68, go_sem]) rfl (JoinR.none (fun h => ?_) (HAX.out.trans HT9.out))
            obtain ⟨_, _, h3, h4⟩ := (join_iff ps).mpr h
            rw [← HPE.out, ← HPN.out, ← HL.out] at h3 h4
            have e : cutV pe pn L = ps := by rw [cutV, if_pos h3]; exact h4
            exact absurd (HBB.out.mpr e) (by decide)
          | true =>
            go_wp2_with fail
            refine bodyPost_ret (v := .tuple #[.slice A m q, .int .i64 0]) (by simp [results, Tryz.results68, go_sem]) rfl (JoinR.some ((join_iff ps).mp ?_) ?_ ?_ (HAX.out.trans HT9.out))
            · have e := HBB.out.mp (by trivial)
              rw [cutV, if_pos HE.out.symm] at e
              refine ⟨by rw [← HN.out]; exact H0.out, ?_, ?_, ?_⟩
              · rw [← HL.out, ← HM.out]; exact HM8.out
              · rw [← HPE.out, ← HPN.out, ← HL.out]; exact HE.out.symm
              · rw [← HPE.out, ← HPN.out, ← HL.out]; exact e
            · rw [← HL.out]; exact HM.out
            · rw [← HL.out]; exact HRD8.out.far (fun _ _ _ h => HT9.out.block _ h (fun h => h)) HT9.out.size
        · have hEb : (E == 0) = false := by rw [beq_eq_false_iff_ne]; exact hE0
          have HNO := Lib.hid hE0
          clear hE0
          go_wp2_with fail
          refine bodyPost_ret (v := .tuple #[.slice none 0 0, .int .i64 4]) (by simp [results, Tryz.results68, go_sem]) rfl (JoinR.none (fun h => HNO.out ?_) HAX.out)
          obtain ⟨_, _, h3, _⟩ := (join_iff ps).mpr h
          rw [HE.out, HPE.out, HPN.out, HL.out]
          exact h3
end Go.Proofs.YtbdjlmdbnoghnaaGreat
namespace Go.Proofs.YtbdjlmdbnoghnaaGreat
open Go.RowKit

def fullB (n i d : Nat) : Bool := decide (d = 106 ∨ (i = n - 1 ∧ d < 106 ∧ (0 < d ∨ i = 0)))
/-- the loop that adds up -/
def RJoinL (w : World) (ps : List Pc) (t5 t4 : Value) (wr : World) : Prop :=
  ∃ k m A q F, k ≤ ps.length ∧ t5 = .int .i64 ((k : Nat) : Int) ∧ t4 = .slice A m q ∧ m = (allD (ps.take k)).length ∧ m ≤ k * 106 ∧ Sl wr F 5 1 (.slice A m q) m ((allD (ps.take k)).map u8) ∧ (∀ i (h : i < ps.length), i < k → goodAt ps.length (hdP ps).e (hdP ps).c i ps[i]) ∧ Adv Nul w F wr
/-- the cells that one round reads -/
structure RjE (wr : World) (z b1 o1 pe pn e0 c0 d q1 : Nat) (pf pg : Bool) (a1 : Option Addr) : Prop where
  z0 : wr.cell? ⟨z, 0, none⟩ = some (.int .u64 (pe : Int))
  z1 : wr.cell? ⟨z, 1, none⟩ = some (.int .u64 (pn : Int))
  z2 : wr.cell? ⟨z, 2, none⟩ = some (.bool pf)
  z3 : wr.cell? ⟨z, 3, none⟩ = some (.bool pg)
  z4 : wr.cell? ⟨z, 4, none⟩ = some (.slice a1 d q1)
  f0 : wr.cell? ⟨b1, o1, none⟩ = some (.int .u64 (e0 : Int))
  f1 : wr.cell? ⟨b1, o1 + 1, none⟩ = some (.int .u64 (c0 : Int))
theorem hd0 {ps : List Pc} (h : 0 < ps.length) : ps[0] = hdP ps := by
  have h1 : ps ≠ [] := fun e => by rw [e] at h; exact absurd h (by decide)
  obtain ⟨p, t, rfl⟩ := List.exists_cons_of_ne_nil h1
  rfl

theorem rj_end {wr : World} {F : Nat → Prop} {v : Value} {ps : List Pc} {k m : Nat} (hN : k = ps.length) (hs : Sl wr F 5 1 v m ((allD (ps.take k)).map u8)) : Sl wr F 5 1 v m ((allD ps).map u8) := by
  rw [hN, List.take_length] at hs
  exact hs

set_option maxRecDepth 3000 in
set_option maxHeartbeats 6400000 in
theorem rjoin_any (A0 : Option Addr) (k0 : Nat) (ps : List Pc) (w : World) (h : PRd w (.slice A0 ps.length k0) ps) (hl : ps.length ≤ 1000) (hd : ∀ p ∈ ps, p.d.length ≤ 1000) (hc : ∀ p ∈ ps, p.c < 18446744073709551616) :
    Calls Tryz.prog 36 #[.slice A0 ps.length k0] w (JoinR w ps) := by
  obtain ⟨N, hN⟩ : ∃ N, N = ps.length := ⟨_, rfl⟩
  rw [← hN] at h hl ⊢
  have hNI : (N : Int) ≤ 1000 := by omega
  have HP := Lib.hid h
  have HN := Lib.hid hN
  have HDL := Lib.hid hd
  have HCL := Lib.hid hc
  clear h hl hd hN hc
  go_enter Tryz.func36, Tryz.ntmps36
  go_wp2_with fail
  go_loopw [5, 4] (RJoinL w ps) (fun t _ _ => N - (intOf t).toNat)
  case atStart => exact ⟨0, 0, none, 0, Nul, Nat.zero_le _, rfl, rfl, by simp [allD], Nat.zero_le _, by simpa [allD] using Sl.nil _ 5 1, fun i _ h => absurd h (Nat.not_lt_zero _), Adv.refl _ _⟩
  case round =>
    obtain ⟨k, m, A, q, F, hk, rfl, rfl, hm, hmk, hs, hgd, ha⟩ := hrel
    rw [← HN.out] at hk
    by_cases hlt : k < N
    · have hki : (k : Int) < (N : Int) := by omega
      have hkp : k < ps.length := by rw [← HN.out]; exact hlt
      have hNp : 0 < N := by omega
      have h0p : 0 < ps.length := by omega
      obtain ⟨b1, o1, a1, q1, rfl, hlb1, hc1, hr1⟩ := (HP.out.step ha).row hkp
      obtain ⟨b1', o1', aa, qq, e, hb0, hc0, hr0⟩ := (HP.out.step ha).row h0p
      injection e with e
      injection e with e1 e2 e3
      subst e1 e2
      rw [Nat.zero_mul, Nat.add_zero, hd0 h0p] at hc0
      obtain ⟨p, hp⟩ : ∃ p, p = ps[k] := ⟨_, rfl⟩
      have hpk : ps[k]? = some p := by rw [hp]; exact List.getElem?_eq_getElem hkp
      have hpd : p.d.length ≤ 1000 := by rw [hp]; exact HDL.out _ (List.getElem_mem _)
      have hpc : p.c < 18446744073709551616 := by rw [hp]; exact HCL.out _ (List.getElem_mem _)
      rw [← hp] at hc1 hr1
      obtain ⟨pe, pn, pf, pg, D⟩ := p
      obtain ⟨d, hd⟩ : ∃ d, d = D.length := ⟨_, rfl⟩
      obtain ⟨e0, he0⟩ : ∃ x, x = (hdP ps).e := ⟨_, rfl⟩
      obtain ⟨c0, hc0'⟩ : ∃ x, x = (hdP ps).c := ⟨_, rfl⟩
      simp only [← hd] at hc1 hr1 hpd
      rw [← he0, ← hc0'] at hgd
      obtain ⟨z, hz'⟩ : ∃ z, z = wr.heap.size := ⟨_, rfl⟩
      obtain ⟨U, hU⟩ : ∃ U, U = wr.alloc (.cells #[.int .u64 (pe : Int), .int .u64 (pn : Int), .bool pf, .bool pg, .slice a1 d q1] 87) := ⟨_, rfl⟩
      have hZ : Blk U z 87 #[.int .u64 (pe : Int), .int .u64 (pn : Int), .bool pf, .bool pg, .slice a1 d q1] := by rw [hU, hz']; exact Blk.new _ _ _
      have hU1 : Adv Nul wr Nul U := by rw [hU]; exact (Adv.refl _ _).alloc _
      have hC0 := hc0.step hlb1 hU1
      obtain ⟨z0, z1, z2, z3, z4⟩ := hZ.five
      have HENV := Lib.hid (show RjE U z b1 o1 pe pn e0 c0 d q1 pf pg a1 from ⟨z0, z1, z2, z3, z4, by rw [he0]; exact hC0.1, by rw [hc0']; exact hC0.2.1⟩)
      have HS := Lib.hid (hs.far hU1 (fun _ h _ => h))
      have HRD := Lib.hid (hr1.far (fun _ _ _ h => hU1.block _ h (fun h => h)) hU1.size)
      have HZ := Lib.hid hz'
      have HU := Lib.hid hU
      have HAU := Lib.hid (ha.over hU1)
      have HLT := Lib.hid hlt
      have HPK := Lib.hid hpk
      have HM := Lib.hid hm
      have HMK := Lib.hid hmk
      have HD := Lib.hid hd
      have HE0 := Lib.hid he0
      have HC0 := Lib.hid hc0'
      have HGD := Lib.hid hgd
      have hdm : (d : Int) ≤ 1000 := by omega
      -- what makes a piece bad
      have hbad : ∀ n, ¬ goodAt N e0 c0 k ⟨pe, pn, pf, pg, D⟩ → JoinR w ps (.returned (.tuple #[.slice none 0 0, .int .i64 4])) (U.drewN n) := fun n hn => JoinR.none (fun h => hn (by
        have h1 := h.2.1 k hkp
        rw [← hp, ← he0, ← hc0', ← HN.out] at h1
        exact h1)) (((ha.over hU1).sub (fun _ h => h.elim)).drewN n)
      have HBAD := Lib.hid hbad
      obtain ⟨c10, c11, c12, c13, c14⟩ := hc1
      have HPC := Lib.hid hpc
      clear e3 hr0 hb0 hkp h0p hlb1 hr1 hp hpd hd hz' hU hZ hU1 hpk hlt hk hm hmk hs ha hgd he0 hc0' hc0 hC0 z0 z1 z2 z3 z4 hbad hpc
      go_upto_region 6 with (fail)
      rw [← HU.out, ← HZ.out]
      clear c10 c11 c12 c13 c14
      obtain ⟨z0, z1, z2, z3, z4, f0, f1⟩ := HENV.out
      have hw1 : IntKind.i64.wrap ((N : Int) - 1) = (N : Int) - 1 := by rw [IntKind.wrap_i64]; omega
      obtain ⟨FB, hFB⟩ : ∃ B, B = fullB N k d := ⟨_, rfl⟩
      have HFB := Lib.hid hFB
      clear hFB
      go_cut [7] (fun t7 wr => t7 = .bool FB ∧ U = wr)
      case first =>
        by_cases x1 : d = 106
        · have y1 : ((d : Int) == 106) = true := by rw [beq_iff_eq]; omega
          obtain rfl : FB = true := by rw [HFB.out]; exact decide_eq_true (.inl x1)
          clear x1
          go_wp2_with fail
          go_meet
          exact ⟨rfl, rfl⟩
        · have y1 : ((d : Int) == 106) = false := by rw [beq_eq_false_iff_ne]; omega
          by_cases x2 : k = N - 1
          · have y2 : ((k : Int) == (N : Int) - 1) = true := by rw [beq_iff_eq]; omega
            by_cases x3 : d < 106
            · have y3 : (d : Int) < 106 := by omega
              by_cases x4 : 0 < d
              · have y4 : (0 : Int) < (d : Int) := by omega
                obtain rfl : FB = true := by rw [HFB.out]; exact decide_eq_true (.inr ⟨x2, x3, .inl x4⟩)
                clear x1 x2 x3 x4
                go_wp2_with fail
                go_meet
                exact ⟨rfl, rfl⟩
              · obtain rfl : d = 0 := by omega
                by_cases x5 : k = 0
                · have y5 : ((k : Int) == 0) = true := by rw [beq_iff_eq]; omega
                  obtain rfl : FB = true := by rw [HFB.out]; exact decide_eq_true (.inr ⟨x2, x3, .inr x5⟩)
                  clear x1 x2 x3 x4 x5 y3
                  go_wp2_with fail
                  go_meet
                  exact ⟨rfl, rfl⟩
                · have y5 : ((k : Int) == 0) = false := by rw [beq_eq_false_iff_ne]; omega
                  obtain rfl : FB = false := by rw [HFB.out]; exact decide_eq_false (by rintro (h | ⟨_, _, h | h⟩); exact x1 h; exact x4 h; exact x5 h)
                  clear x1 x2 x3 x4 x5 y3
                  go_wp2_with fail
                  go_meet
                  exact ⟨rfl, rfl⟩
            · have y3 : (106 : Int) ≤ (d : Int) := by omega
              obtain rfl : FB = false := by rw [HFB.out]; exact decide_eq_false (by rintro (h | ⟨_, h, _⟩); exact x1 h; exact x3 h)
              clear x1 x2 x3
              go_wp2_with fail
              go_meet
              exact ⟨rfl, rfl⟩
          · have y2 : ((k : Int) == (N : Int) - 1) = false := by rw [beq_eq_false_iff_ne]; omega
            obtain rfl : FB = false := by rw [HFB.out]; exact decide_eq_false (by rintro (h | ⟨h, _, _⟩); exact x1 h; exact x2 h)
            clear x1 x2
            go_wp2_with fail
            go_meet
            exact ⟨rfl, rfl⟩
      case rest =>
      obtain ⟨rfl, rfl⟩ := hcut
      go_upto_region 7 with (fail)
      obtain ⟨kb, hkb⟩ : ∃ b, b = (k == 0) := ⟨_, rfl⟩
      obtain ⟨kl, hkl⟩ : ∃ b, b = (k == N - 1) := ⟨_, rfl⟩
      have yk : ((k : Int) == 0) = kb := by rw [hkb, Bool.eq_iff_iff, beq_iff_eq, beq_iff_eq]; omega
      have yl : ((k : Int) == (N : Int) - 1) = kl := by rw [hkl, Bool.eq_iff_iff, beq_iff_eq, beq_iff_eq]; omega
      have HKB := Lib.hid hkb.symm
      have HKL := Lib.hid hkl.symm
      have HPC := HPC.out
      have hNpi : (0 : Int) < (N : Int) := by omega
      clear hkb hkl
      by_cases h1 : pe ≤ 16777215
      rotate_left
      · have X := Lib.hid h1
        have y1 : (16777215 : Int) < (pe : Int) := by omega
        clear h1
        go_quiet (fail)
        go_wp2_with fail
        exact bodyPost_ret (v := .tuple #[.slice none 0 0, .int .i64 4]) (by simp [results, Tryz.results36, go_sem]) rfl (HBAD.out _ (fun h => X.out h.1))
      have y1 : (pe : Int) ≤ 16777215 := by omega
      have y1d : decide ((16777215 : Int) < (pe : Int)) = false := decide_eq_false (by omega)
      have Xh1 := Lib.hid h1
      by_cases h2 : pe = e0
      rotate_left
      · have X := Lib.hid h2
        have y2 : ((pe : Int) == (e0 : Int)) = false := by rw [beq_eq_false_iff_ne]; omega
        have y2' : ((pe : Int) != (e0 : Int)) = true := by rw [bne, y2]; rfl
        clear h2
        go_quiet (fail)
        go_wp2_with fail
        exact bodyPost_ret (v := .tuple #[.slice none 0 0, .int .i64 4]) (by simp [results, Tryz.results36, go_sem]) rfl (HBAD.out _ (fun h => X.out h.2.1))
      subst h2
      by_cases h3 : pn ≤ 1099511627775
      rotate_left
      · have X := Lib.hid h3
        have y3 : (1099511627775 : Int) < (pn : Int) := by omega
        clear h3
        go_quiet (fail)
        go_wp2_with fail
        exact bodyPost_ret (v := .tuple #[.slice none 0 0, .int .i64 4]) (by simp [results, Tryz.results36, go_sem]) rfl (HBAD.out _ (fun h => X.out h.2.2.1))
      have y3 : (pn : Int) ≤ 1099511627775 := by omega
      have y3d : decide ((1099511627775 : Int) < (pn : Int)) = false := decide_eq_false (by omega)
      have Xh3 := Lib.hid h3
      by_cases h4 : c0 ≤ pn
      rotate_left
      · have X := Lib.hid h4
        have y4 : (pn : Int) < (c0 : Int) := by omega
        clear h4
        go_quiet (fail)
        go_wp2_with fail
        exact bodyPost_ret (v := .tuple #[.slice none 0 0, .int .i64 4]) (by simp [results, Tryz.results36, go_sem]) rfl (HBAD.out _ (fun h => X.out (by have := h.2.2.2.1; simp only at this; omega)))
      obtain ⟨j, hj⟩ : ∃ j, pn = c0 + j := ⟨pn - c0, by omega⟩
      have z1' : U.cell? ⟨z, 1, none⟩ = some (.int .u64 ((c0 : Int) + (j : Int))) := by rw [z1, hj]; simp
      have y3' : (c0 : Int) + (j : Int) ≤ 1099511627775 := by omega
      have y3e : decide ((1099511627775 : Int) < (c0 : Int) + (j : Int)) = false := decide_eq_false (by omega)
      have y4e : decide ((c0 : Int) + (j : Int) < (c0 : Int)) = false := decide_eq_false (by omega)
      have w2 : IntKind.u64.wrap ((c0 : Int) + (j : Int) - (c0 : Int)) = (j : Int) := by rw [IntKind.wrap_u64]; omega
      have w4 : (c0 : Int) + (j : Int) - (c0 : Int) = (j : Int) := by omega
      have w3 : IntKind.u64.wrap (k : Int) = (k : Int) := by rw [IntKind.wrap_u64]; omega
      have HJ := Lib.hid hj
      clear z1 y3 y3d HPC hj
      have Xh4 := Lib.hid h4
      by_cases h5 : j = k
      rotate_left
      · have X := Lib.hid h5
        have y5 : ((j : Int) == (k : Int)) = false := by rw [beq_eq_false_iff_ne]; omega
        have y5' : ((j : Int) != (k : Int)) = true := by rw [bne, y5]; rfl
        clear h5
        go_quiet (fail)
        go_wp2_with fail
        exact bodyPost_ret (v := .tuple #[.slice none 0 0, .int .i64 4]) (by simp [results, Tryz.results36, go_sem]) rfl (HBAD.out _ (fun h => X.out (by have := h.2.2.2.1; simp only at this; have := HJ.out; omega)))
      obtain rfl := h5.symm
      by_cases h6 : pf = kb
      rotate_left
      · have X := Lib.hid h6
        have y6 : (pf == kb) = false := by rw [beq_eq_false_iff_ne]; exact h6
        have y6' : (pf != kb) = true := by rw [bne_iff_ne]; exact h6
        clear h6
        go_quiet (fail)
        go_wp2_with fail
        exact bodyPost_ret (v := .tuple #[.slice none 0 0, .int .i64 4]) (by simp [results, Tryz.results36, go_sem]) rfl (HBAD.out _ (fun h => X.out (h.2.2.2.2.1.trans HKB.out)))
      subst h6
      by_cases h7 : pg = kl
      rotate_left
      · have X := Lib.hid h7
        have y7 : (pg == kl) = false := by rw [beq_eq_false_iff_ne]; exact h7
        have y7' : (pg != kl) = true := by rw [bne_iff_ne]; exact h7
        clear h7
        go_quiet (fail)
        go_wp2_with fail
        exact bodyPost_ret (v := .tuple #[.slice none 0 0, .int .i64 4]) (by simp [results, Tryz.results36, go_sem]) rfl (HBAD.out _ (fun h => X.out (h.2.2.2.2.2.1.trans HKL.out)))
      subst h7
      clear h1
      clear h3
      clear h4
      cases FB with
      | false =>
        have XF := Lib.hid (of_decide_eq_false HFB.out.symm)
        go_quiet (fail)
        go_wp2_with fail
        exact bodyPost_ret (v := .tuple #[.slice none 0 0, .int .i64 4]) (by simp [results, Tryz.results36, go_sem]) rfl (HBAD.out _ (fun h => XF.out (by rw [HD.out]; exact h.2.2.2.2.2.2)))
      | true =>
        go_quiet (fail)
        have hS2 := HS.out.far ((Adv.refl Nul U).drewN nq) (fun _ h _ => h)
        have hR2 := HRD.out.drewN nq
        have HS2 := Lib.hid hS2
        have HR2 := Lib.hid hR2
        clear hS2 hR2
        go_wp2_with (first
          | (at_builtin; refine wpList_append_rd rfl (.tmp 104) (.tmp 106) rfl rfl rfl HS2.out.own HR2.out (u8_one _) ?d1 ?d2)
          | fail)
        case d1 => have := HMK.out; have := HLT.out; omega
        case d2 =>
          intro v4 w4 hown4 hg4 hat4
          obtain ⟨h4, _, a4⟩ := own_grown HS2.out (HAU.out.drewN nq) hown4 hg4 hat4 (Nat.le_refl _)
          rw [← List.map_append] at h4
          obtain ⟨A4, c4, rfl, _, _⟩ := h4.form0
          have H4 := Lib.hid h4
          have A4 := Lib.hid a4
          clear h4 a4 hown4 hg4 hat4
          go_wp2_with fail
          have hlt := HLT.out
          have e := allD_take_succ HPK.out
          simp only at e
          have e2 : m + d = (allD (ps.take (k + 1))).length := by rw [e, List.length_append, HM.out, HD.out]
          have hmk := HMK.out
          have hful := of_decide_eq_true HFB.out.symm
          have hg1 : goodAt N pe c0 k ⟨pe, pn, pf, pg, D⟩ := ⟨Xh1.out, rfl, Xh3.out, HJ.out, HKB.out.symm, HKL.out.symm, by rw [← HD.out]; exact hful⟩
          have hd106 : d ≤ 106 := by omega
          refine ⟨⟨k + 1, m + d, _, _, _, by rw [← HN.out]; omega, by go_num, rfl, e2, by omega, by rw [e]; exact H4.out, fun i hi hik => ?_, A4.out⟩, by simp [intOf]; omega⟩
          rw [← HE0.out, ← HC0.out]
          by_cases hk : i = k
          · subst hk
            have e3 := HPK.out
            rw [List.getElem?_eq_getElem hi] at e3
            rw [Option.some.inj e3, ← HN.out]
            exact hg1
          · exact HGD.out i hi (by omega)
    · obtain rfl : k = N := by omega
      have hm' : m = (allD ps).length := by rw [HN.out, List.take_length] at hm; exact hm
      have hs' := rj_end HN.out hs
      have hall : ∀ i (h : i < ps.length), goodAt ps.length (hdP ps).e (hdP ps).c i ps[i] := fun i h => hgd i h (by rw [HN.out]; exact h)
      have HALL := Lib.hid hall
      have HS := Lib.hid hs'
      have HM := Lib.hid hm'
      have HA := Lib.hid (ha.sub (G := Nul) (fun _ h => h.elim))
      have hmi : (m : Int) ≤ 1000000 := by omega
      clear hall hs' hm' hs hm hgd ha hlt hk hmk
      by_cases h0 : k = 0
      · have y0 : ((k : Int) == 0) = true := by rw [beq_iff_eq]; omega
        have H0 := Lib.hid h0
        clear h0
        go_wp2_with fail
        exact bodyPost_ret (v := .tuple #[.slice none 0 0, .int .i64 4]) (by simp [results, Tryz.results36, go_sem]) rfl (JoinR.none (fun h => by have h1 := h.1; rw [← HN.out, H0.out] at h1; exact absurd h1 (by decide)) HA.out)
      · have y0 : ((k : Int) == 0) = false := by rw [beq_eq_false_iff_ne]; omega
        have H0 := Lib.hid h0
        clear h0
        by_cases hb : 8192 < m
        · have yb : (8192 : Int) < (m : Int) := by omega
          have HB := Lib.hid hb
          clear hb
          go_wp2_with fail
          exact bodyPost_ret (v := .tuple #[.slice none 0 0, .int .i64 4]) (by simp [results, Tryz.results36, go_sem]) rfl (JoinR.none (fun h => by have h1 := h.2.2; have h2 := HM.out; have h3 := HB.out; omega) HA.out)
        · have yb : (m : Int) ≤ 8192 := by omega
          have HB := Lib.hid hb
          clear hb
          go_wp2_with fail
          exact bodyPost_ret (v := .tuple #[.slice A m q, .int .i64 0]) (by simp [results, Tryz.results36, go_sem]) rfl (JoinR.some ⟨by have h1 := H0.out; have h2 := HN.out; omega, HALL.out, by have h2 := HM.out; have h3 := HB.out; omega⟩ HM.out HS.out.rd HA.out)
end Go.Proofs.YtbdjlmdbnoghnaaGreat
namespace Go.Proofs.YtbdjlmdbnoghnaaGreat
open Go.ChangeShapes Go.WideShapes Go.ChangeAt Go.RowKit Go.Deep

section
variable {ta tc : TypeId} {W w w' : World} {P : Nat → Pc} {ka kc : Nat} {va vc : Value} {Fa Fc : Nat → Prop} {qa qc : List (Pc × Value)}
end
end Go.Proofs.YtbdjlmdbnoghnaaGreat
