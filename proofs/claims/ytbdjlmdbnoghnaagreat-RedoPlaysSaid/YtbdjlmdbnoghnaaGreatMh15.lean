/- The disk: Flush, Waits, forget, Crash. The disk: forget, Crash. The disk: Crash, where nothing tears (torn is 0 or less). The disk: Crash, where nothing tears (torn is 128 or more). -/
import Derived.Test.YtbdjlmdbnoghnaaGreatMh14
namespace Go.Proofs.YtbdjlmdbnoghnaaGreat
open Go.RowKit

theorem DkB.wait_at {w : World} {F : Nat → Prop} {d gl gr n : Nat} {vQ : Value} {L R : List (List Nat)} {Q : List (Nat × List Nat)} (h : DkB w F d gl gr vQ n L R Q) {k : Nat} (hk : k < Q.length) :
    ∃ g c, vQ = .slice (some ⟨g, 0, none⟩) Q.length c ∧ F g ∧ w.rangeAt g (k * 129) (wcells (Q.getD k (0, []))) ∧ (Q.getD k (0, [])).1 < n ∧ (Q.getD k (0, [])).2.length = 128 := by
  obtain ⟨g, c, rfl, hF, _⟩ := h.waits.form (by omega)
  have hm := h.qs _ (getD_mem hk)
  refine ⟨g, c, rfl, hF, fun j v hv => ?_, hm.1, hm.2⟩
  have hj : j < 129 := by
    have := (List.getElem?_eq_some_iff.1 hv).1
    rw [wcells_length hm.2] at this
    exact this
  have hlt : k * 129 + j < Q.length * 129 := by
    have : (k + 1) * 129 ≤ Q.length * 129 := Nat.mul_le_mul_right _ hk
    rw [Nat.succ_mul] at this
    omega
  rw [h.waits.own.cellAt (k * 129 + j) hlt, flat_at wcells 129 Q (fun x hx => wcells_length (h.qs x hx).2) k j hk hj]
  rw [List.getD_eq_getElem?_getD, List.getElem?_eq_getElem hk] at hv
  exact hv

/-- nothing waits any more -/
theorem DkB.clear {w : World} {F : Nat → Prop} {d gl gr n : Nat} {vQ : Value} {L R : List (List Nat)} {Q : List (Nat × List Nat)} (h : DkB w F d gl gr vQ n L R Q) : DkB w F d gl gr (.slice none 0 0) n L R [] :=
  ⟨h.lo, h.hi, h.lenL, h.lenR, fun q hq => by simp at hq, h.lasts, h.reads, Sl.nilF _ _ h.bd _ _, h.ne, h.inD, h.inL, h.inR, h.head⟩

theorem DkR.alloc {w : World} {F : Nat → Prop} {d gl gr n : Nat} {vQ : Value} {R : List (List Nat)} {s : DS} (h : DkR w F d gl gr vQ n R s) (ob : Obj) : DkR (w.alloc ob) F d gl gr vQ n R s :=
  h.keep (fun k hk => Below.heap_alloc _ _ _ (h.b.bd k hk)) (by simp)

def FlRel (w : World) (F : Nat → Prop) (d gl gr n : Nat) (vQ : Value) (R L0 : List (List Nat)) (s : DS) (c : Nat → Nat) (t : Value) (wr : World) : Prop :=
  ∃ k, t = .int .i64 ((k : Nat) : Int) ∧ k ≤ s.Q.length ∧ DkR wr F d gl gr vQ n R { s with L := laysBy c s.Q L0 k } ∧ Adv F w F wr

set_option maxRecDepth 3000 in
set_option maxHeartbeats 1600000 in
theorem flush_ok (d gl gr n : Nat) (vQ : Value) (F : Nat → Prop) (s : DS) (w : World) (h : DkR w F d gl gr vQ n (lays s.L s.Q) s) (ho : s.ok n) (hs : (stepS s).2 = true) :
    Calls Tryz.prog 53 #[.pointer (some ⟨d, 0, none⟩)] w fun e w' => e = .returned (.int .i64 0) ∧ DkR w' F d gl gr (.slice none 0 0) n (lays s.L s.Q) { (stepS s).1 with L := lays s.L s.Q, Q := [] } ∧ Adv F w F w' := by
  have c0 := h.c0
  have H := Lib.hid h
  have HO := Lib.hid ho
  have HS := Lib.hid hs
  clear h ho hs
  go_enter Tryz.func53, Tryz.ntmps53
  go_wp2_with (first
    | (go_at_call 58; refine (made_r _ _ _ _ c0).mono ?_; rintro e w1 ⟨rfl, rfl⟩)
    | (go_at_call 87; refine (step_r _ _ _ _ _ _ _ _ _ H.out HO.out).mono ?_; rintro e w1 ⟨rfl, h1, a1⟩; rw [HS.out]; have c12 := h1.c2; obtain ⟨aq, cq, rfl, hqc, hqm⟩ := h1.b.waits.form0; unfold maxLen at hqm; have H1 := Lib.hid h1; have A1 := Lib.hid a1; clear h1 a1; simp only [if_true])
    | fail)
  obtain ⟨s1, hs1⟩ : ∃ s1, s1 = (stepS s).1 := ⟨_, rfl⟩
  have hL1 : s1.L = s.L := by rw [hs1, stepS_L]
  have hQ1 : s1.Q = s.Q := by rw [hs1, stepS_Q]
  rw [← hs1] at H1 ⊢
  rw [← hs1] at hqc
  have HS1 := Lib.hid hs1
  have HL1 := Lib.hid hL1
  have HQ1 := Lib.hid hQ1
  obtain ⟨M, hM⟩ : ∃ M, M = s1.Q.length := ⟨_, rfl⟩
  rw [← hM] at hqc
  have HM := Lib.hid hM
  clear hs1 hL1 hQ1 c12 H hM
  go_loopw [19] (FlRel w F d gl gr n (.slice aq s1.Q.length cq) (lays s.L s.Q) s1.L s1 (fun _ => 128)) (fun t _ => s1.Q.length - (intOf t).toNat)
  case atStart => exact ⟨0, rfl, Nat.zero_le _, H1.out, A1.out⟩
  case round =>
    obtain ⟨k, rfl, hk, hr, ha⟩ := hrel
    by_cases hlt : k < s1.Q.length
    · have hkM : k + 1 ≤ 9223372036854775807 := by have := HM.out; omega
      obtain ⟨g, c, e, hFg, hrg, hq1, hq2⟩ := hr.b.wait_at hlt
      injection e with e1 e2 e3
      subst e1
      clear e2 e3
      have hstep : laysBy (fun _ => 128) s1.Q s1.L (k + 1) = layN (laysBy (fun _ => 128) s1.Q s1.L k) (s1.Q.getD k (0, [])) 128 := rfl
      obtain ⟨q, hq⟩ : ∃ q, q = s1.Q.getD k (0, []) := ⟨_, rfl⟩
      rw [← hq] at hrg hq1 hq2 hstep
      have hnew : (wr.alloc (.cells (wcells q).toArray 110)).rangeAt wr.heap.size 0 (wcells q) := fun j v hv => by
        rw [Nat.zero_add, (Blk.new wr 110 (wcells q).toArray).cell j, List.getElem?_toArray]
        exact hv
      have hr2 := hr.alloc (.cells (wcells q).toArray 110)
      have ha2 := ha.alloc (.cells (wcells q).toArray 110)
      have HR2 := Lib.hid hr2
      have HA2 := Lib.hid ha2
      have HRG := Lib.hid hrg
      have HQ1b := Lib.hid hq1
      have HQ2 := Lib.hid hq2
      have HNEW := Lib.hid hnew
      have HST := Lib.hid hstep
      clear hr ha hrg hq1 hq2 hnew hq hr2 ha2 hstep
      go_wp2_with (first
        | (go_at_call 59; refine (lay_r _ _ _ _ _ _ _ _ q 128 _ HR2.out HQ1b.out HQ2.out (Nat.le_refl _)).mono ?_; rintro e w2 ⟨rfl, h2, a2⟩; have H2 := Lib.hid h2; have A2 := Lib.hid a2; clear h2 a2)
        | (refine op_load_write rfl _ rfl g (k * 129) q HQ2.out HRG.out rfl ?_)
        | (refine op_load_write rfl _ rfl wr.heap.size 0 q HQ2.out HNEW.out rfl ?_)
        | (refine op_alloc_write rfl rfl ?_)
        | (refine op_store_write rfl _ _ rfl _ rfl q HQ2.out rfl rfl ?_)
        | fail)
      refine ⟨⟨k + 1, by simp, by omega, ?_, HA2.out.trans A2.out⟩, by simp [intOf]; omega⟩
      rw [HST.out]
      exact H2.out
    · obtain rfl : k = s1.Q.length := by omega
      have c2 := hr.c2
      have f2 := hr.blk.frozen 2
      have hr3 : DkR (wr.setCell ⟨d, 2, none⟩ (.slice none 0 0)) F d gl gr (.slice none 0 0) n (lays s.L s.Q) { s1 with L := laysBy (fun _ => 128) s1.Q s1.L s1.Q.length, Q := [] } :=
        ⟨hr.blk.set_ 2 _, (hr.b.set_ 2 _).clear⟩
      have ha3 := ha.setCell (p := ⟨d, 2, none⟩) (.inl hr.b.inD) (.slice none 0 0)
      have HR3 := Lib.hid hr3
      have HA3 := Lib.hid ha3
      clear hr ha hr3 ha3
      go_wp2_with fail
      go_ret
      refine ⟨rfl, ?_, HA3.out⟩
      have hall := laysBy_all s.Q s.L HO.out.row (fun q hq => by rw [HO.out.len]; exact HO.out.at_ q hq) s.Q.length (Nat.le_refl _)
      rw [List.take_length] at hall
      have h := HR3.out
      rw [HQ1.out, HL1.out, hall] at h
      rw [← HS1.out]
      exact h

set_option maxRecDepth 3000 in
theorem flush_dead (d gl gr n : Nat) (vQ : Value) (F : Nat → Prop) (R : List (List Nat)) (s : DS) (w : World) (h : DkR w F d gl gr vQ n R s) (ho : s.ok n) (hs : (stepS s).2 = false) :
    Calls Tryz.prog 53 #[.pointer (some ⟨d, 0, none⟩)] w fun e w' => e = .returned (.int .i64 7) ∧ DkR w' F d gl gr vQ n R (stepS s).1 ∧ Adv F w F w' := by
  have c0 := h.c0
  have H := Lib.hid h
  have HO := Lib.hid ho
  have HS := Lib.hid hs
  clear h ho hs
  go_enter Tryz.func53, Tryz.ntmps53
  go_wp2_with (first
    | (go_at_call 58; refine (made_r _ _ _ _ c0).mono ?_; rintro e w1 ⟨rfl, rfl⟩)
    | (go_at_call 87; refine (step_r _ _ _ _ _ _ _ _ _ H.out HO.out).mono ?_; rintro e w1 ⟨rfl, h1, a1⟩; rw [HS.out]; have H1 := Lib.hid h1; have A1 := Lib.hid a1; clear h1 a1; simp only [Bool.false_eq_true, if_false])
    | fail)
  go_ret
  exact ⟨rfl, H1.out, A1.out⟩

/-- Flush -/
theorem flush_dk (d n : Nat) (F : Nat → Prop) (s : DS) (w : World) (h : Dk w F d n s) :
    Calls Tryz.prog 53 #[.pointer (some ⟨d, 0, none⟩)] w fun e w' => e = .returned (.int .i64 (flushS s).2) ∧ Dk w' F d n (flushS s).1 ∧ Adv F w F w' := by
  have hok := flushS_ok h.1
  obtain ⟨ho, gl, gr, vQ, hr⟩ := h
  unfold flushS at hok ⊢
  cases hs : (stepS s).2 with
  | true =>
    rw [hs] at hok
    simp only [if_true] at hok ⊢
    refine (flush_ok d gl gr n vQ F s w hr ho hs).mono ?_
    rintro e w' ⟨rfl, h1, h2⟩
    exact ⟨rfl, ⟨hok, gl, gr, _, h1⟩, h2⟩
  | false =>
    simp only [Bool.false_eq_true, if_false]
    refine (flush_dead d gl gr n vQ F _ s w hr ho hs).mono ?_
    rintro e w' ⟨rfl, h1, h2⟩
    refine ⟨rfl, ⟨stepS_ok ho, gl, gr, vQ, ?_⟩, h2⟩
    rw [stepS_L, stepS_Q]
    exact h1
end Go.Proofs.YtbdjlmdbnoghnaaGreat
namespace Go.Proofs.YtbdjlmdbnoghnaaGreat
open Go.RowKit

theorem new_range (w : World) (q : Nat × List Nat) : (w.alloc (.cells (wcells q).toArray 110)).rangeAt w.heap.size 0 (wcells q) := fun j v hv => by
  rw [Nat.zero_add, (Blk.new w 110 (wcells q).toArray).cell j, List.getElem?_toArray]
  exact hv

def FoRel (w : World) (F : Nat → Prop) (d gl gr n : Nat) (vQ : Value) (R : List (List Nat)) (s : DS) (t : Value) (wr : World) : Prop :=
  ∃ k, t = .int .i64 ((k : Nat) : Int) ∧ k ≤ s.Q.length ∧ DkR wr F d gl gr vQ n (readTo s.L s.Q R k) s ∧ Adv F w F wr

set_option maxRecDepth 3000 in
set_option maxHeartbeats 1600000 in
theorem forget_r (d gl gr n : Nat) (vQ : Value) (F : Nat → Prop) (R : List (List Nat)) (s : DS) (w : World) (h : DkR w F d gl gr vQ n R s) :
    Calls Tryz.prog 60 #[.pointer (some ⟨d, 0, none⟩)] w fun e w' => e = .returned (.tuple #[]) ∧ DkR w' F d gl gr (.slice none 0 0) n (readTo s.L s.Q R s.Q.length) { s with Q := [] } ∧ Adv F w F w' := by
  have c2 := h.c2
  obtain ⟨aq, cq, rfl, hqc, hqm⟩ := h.b.waits.form0
  unfold maxLen at hqm
  obtain ⟨M, hM⟩ : ∃ M, M = s.Q.length := ⟨_, rfl⟩
  rw [← hM] at hqc
  have HM := Lib.hid hM
  have H := Lib.hid h
  clear h hM
  go_enter Tryz.func60, Tryz.ntmps60
  go_wp2_with fail
  go_loopw [9] (FoRel w F d gl gr n (.slice aq s.Q.length cq) R s) (fun t _ => s.Q.length - (intOf t).toNat)
  case atStart => exact ⟨0, rfl, Nat.zero_le _, H.out, Adv.refl _ _⟩
  case round =>
    obtain ⟨k, rfl, hk, hr, ha⟩ := hrel
    clear c2
    by_cases hlt : k < s.Q.length
    · have hkM : k + 1 ≤ 9223372036854775807 := by have := HM.out; omega
      obtain ⟨g, c, e, hFg, hrg, hq1, hq2⟩ := hr.b.wait_at hlt
      injection e with e1 e2 e3
      subst e1
      clear e2 e3
      have hstep : readTo s.L s.Q R (k + 1) = (readTo s.L s.Q R k).set (s.Q.getD k (0, [])).1 (s.L.getD (s.Q.getD k (0, [])).1 []) := rfl
      obtain ⟨q, hq⟩ : ∃ q, q = s.Q.getD k (0, []) := ⟨_, rfl⟩
      rw [← hq] at hrg hq1 hq2 hstep
      have hnew := new_range wr q
      have HRG := Lib.hid hrg
      have HQ1 := Lib.hid hq1
      have HQ2 := Lib.hid hq2
      have HNEW := Lib.hid hnew
      have HST := Lib.hid hstep
      have HR := Lib.hid hr
      have HA := Lib.hid ha
      clear hr ha hrg hq1 hq2 hnew hq hstep
      go_wp2_with (first
        | (refine op_load_write rfl _ rfl g (k * 129) q HQ2.out HRG.out rfl ?_)
        | (refine op_alloc_write rfl rfl ?_)
        | (refine op_store_write rfl _ _ rfl _ rfl q HQ2.out rfl rfl ?_)
        | fail)
      simp only [Act.put]
      obtain ⟨z, hz⟩ : ∃ z, z = wr.heap.size := ⟨_, rfl⟩
      obtain ⟨W2, hW2⟩ : ∃ W2, W2 = wr.alloc (.cells (wcells q).toArray 110) := ⟨_, rfl⟩
      rw [← hz, ← hW2]
      have hzb : Blk W2.drew z 110 (wcells q).toArray := by rw [hW2, hz]; exact Blk.new _ _ _
      have a2 : Adv F w F W2.drew := by rw [hW2]; exact (HA.out.alloc _).drew
      have h2 : DkR W2.drew F d gl gr (.slice (some ⟨g, 0, none⟩) s.Q.length cq) n (readTo s.L s.Q R k) s := by rw [hW2]; exact (HR.out.alloc _).keep (fun _ _ => rfl) (Nat.le_refl _)
      have hzr : z ≠ gr := by rw [hz]; have := HR.out.b.bd gr HR.out.b.inR; omega
      have c0 := h2.c0
      have c1 := h2.c1
      have k0 : W2.drew.cell? ⟨z, 0, none⟩ = some (.int .i64 (q.1 : Int)) := hzb.cell 0
      have hqr : q.1 < (readTo s.L s.Q R k).length := by rw [h2.b.lenR]; exact HQ1.out
      have hql : q.1 < s.L.length := by rw [h2.b.lenL]; exact HQ1.out
      have ht : W2.drew.there gr (q.1 * 128) 128 := h2.b.reads.there hqr (Nat.le_refl _)
      have hr2 : W2.drew.rangeAt gl (q.1 * 128) ((s.L.getD q.1 []).map u8) := h2.b.lasts.at_ hql
      have hl2 : (s.L.getD q.1 []).length = 128 := by
        rw [List.getD_eq_getElem?_getD, List.getElem?_eq_getElem hql]
        exact (h2.b.lasts.row q.1 _ (List.getElem?_eq_getElem hql)).1
      obtain ⟨W3, hW3⟩ : ∃ W3, W3 = W2.drew.setCells gr (q.1 * 128) ((s.L.getD q.1 []).map u8) := ⟨_, rfl⟩
      have k3 : W3.cell? ⟨z, 0, none⟩ = some (.int .i64 (q.1 : Int)) := by rw [hW3]; exact (hzb.keep (setCells_heap _ hzr _ _ _)).cell 0
      have h3 : DkR W3 F d gl gr (.slice (some ⟨g, 0, none⟩) s.Q.length cq) n (readTo s.L s.Q R (k + 1)) s := by
        rw [HST.out, hW3]
        exact ⟨h2.blk.keep (setCells_heap _ h2.b.gr_ne.symm _ _ _), h2.b.setR _ _ (by rw [List.length_set]; exact h2.b.lenR) (h2.b.reads.putAll hqr _ hl2)⟩
      have a3 : Adv F w F W3 := by rw [hW3]; exact Adv.setCells _ _ _ a2 (.inl h2.b.inR)
      have hi0 : (0 : Int) ≤ (q.1 : Int) := by omega
      have hin : (q.1 : Int) < (n : Int) := by have := HQ1.out; omega
      have c03 := h3.c0
      have c13 := h3.c1
      obtain ⟨at_, hat⟩ : ∃ x, x = q.1 := ⟨_, rfl⟩
      obtain ⟨r, hre⟩ : ∃ r, r = s.L.getD q.1 [] := ⟨_, rfl⟩
      rw [← hre] at hr2 hl2 hW3
      rw [← hat] at hr2 hW3 ht k0 k3 hi0 hin
      have HT := Lib.hid ht
      have HR2 := Lib.hid hr2
      have HL2 := Lib.hid hl2
      have HW3 := Lib.hid hW3
      have H3 := Lib.hid h3
      have A3 := Lib.hid a3
      have C03 := Lib.hid c03
      have C13 := Lib.hid c13
      have K3 := Lib.hid k3
      clear hz hW2 hzb a2 h2 hzr hqr hql ht hr2 hl2 hW3 h3 a3 c03 c13 k3 HR HA HRG HQ1 HQ2 HNEW HST H hre hat
      refine rstart (S := (fun w' => w'.cell? ⟨d, 0, none⟩ = some (.slice (some ⟨gl, 0, none⟩) n n) ∧ w'.cell? ⟨d, 1, none⟩ = some (.slice (some ⟨gr, 0, none⟩) n n) ∧ w'.cell? ⟨z, 0, none⟩ = some (.int .i64 (at_ : Int)))) (by first | exact ⟨c0, c1, k0⟩ | exact ⟨C03.out, C13.out, K3.out⟩) (fun hH => ?_)
      refine tk (i := 0) (oi := ⟨some 13, .move (.tmp 0), 24, "disk.go:158", #[], none⟩) hH.out (by rintro w ⟨s0, s1, s2⟩; go_simp <;> with_reducible rfl) ?_
      simp only [Act.put, sA, sB, sC]
      refine tk (i := 1) (oi := ⟨some 14, .nilCheck (.tmp 13), 0, "disk.go:158", #[⟨0, .data⟩], none⟩) hH.out (by rintro w ⟨s0, s1, s2⟩; go_simp <;> with_reducible rfl) ?_
      simp only [Act.put, sA, sB, sC]
      refine tk (i := 2) (oi := ⟨some 15, .fieldAddr 63 (.tmp 14) 1, 0, "disk.go:158", #[⟨1, .data⟩], none⟩) hH.out (by rintro w ⟨s0, s1, s2⟩; go_simp <;> with_reducible rfl) ?_
      simp only [Act.put, sA, sB, sC]
      refine tk (i := 3) (oi := ⟨some 16, .load 60 (.tmp 15), 60, "disk.go:158", #[⟨2, .data⟩], none⟩) hH.out (by rintro w ⟨s0, s1, s2⟩; go_simp <;> with_reducible rfl) ?_
      simp only [Act.put, sA, sB, sC]
      refine tk (i := 4) (oi := ⟨some 17, .fieldAddr 110 (.tmp 3) 0, 0, "disk.go:158", #[], none⟩) hH.out (by rintro w ⟨s0, s1, s2⟩; go_simp <;> with_reducible rfl) ?_
      simp only [Act.put, sA, sB, sC]
      refine tk (i := 5) (oi := ⟨some 18, .load 3 (.tmp 17), 3, "disk.go:158", #[⟨4, .data⟩], none⟩) hH.out (by rintro w ⟨s0, s1, s2⟩; go_simp <;> with_reducible rfl) ?_
      simp only [Act.put, sA, sB, sC]
      refine tk (i := 6) (oi := ⟨some 19, .move (.tmp 0), 24, "disk.go:158", #[], none⟩) hH.out (by rintro w ⟨s0, s1, s2⟩; go_simp <;> with_reducible rfl) ?_
      simp only [Act.put, sA, sB, sC]
      refine tk (i := 7) (oi := ⟨some 20, .nilCheck (.tmp 19), 0, "disk.go:158", #[⟨6, .data⟩], none⟩) hH.out (by rintro w ⟨s0, s1, s2⟩; go_simp <;> with_reducible rfl) ?_
      simp only [Act.put, sA, sB, sC]
      refine tk (i := 8) (oi := ⟨some 21, .fieldAddr 63 (.tmp 20) 0, 0, "disk.go:158", #[⟨7, .data⟩], none⟩) hH.out (by rintro w ⟨s0, s1, s2⟩; go_simp <;> with_reducible rfl) ?_
      simp only [Act.put, sA, sB, sC]
      refine tk (i := 9) (oi := ⟨some 22, .load 60 (.tmp 21), 60, "disk.go:158", #[⟨8, .data⟩], none⟩) hH.out (by rintro w ⟨s0, s1, s2⟩; go_simp <;> with_reducible rfl) ?_
      simp only [Act.put, sA, sB, sC]
      refine tk (i := 10) (oi := ⟨some 23, .fieldAddr 110 (.tmp 3) 0, 0, "disk.go:158", #[], none⟩) hH.out (by rintro w ⟨s0, s1, s2⟩; go_simp <;> with_reducible rfl) ?_
      simp only [Act.put, sA, sB, sC]
      refine tk (i := 11) (oi := ⟨some 24, .load 3 (.tmp 23), 3, "disk.go:158", #[⟨10, .data⟩], none⟩) hH.out (by rintro w ⟨s0, s1, s2⟩; go_simp <;> with_reducible rfl) ?_
      simp only [Act.put, sA, sB, sC]
      refine tk (i := 12) (oi := ⟨some 25, .indexAddr 60 (.tmp 22) (.tmp 24), 0, "disk.go:158", #[⟨9, .data⟩, ⟨11, .data⟩], none⟩) hH.out (by rintro w ⟨s0, s1, s2⟩; go_simp <;> with_reducible rfl) ?_
      simp only [Act.put, sA, sB, sC]
      refine rdy (i := 13) (oi := ⟨some 26, .load 108 (.tmp 25), 108, "disk.go:158", #[⟨12, .data⟩], none⟩) (fun K hK => ?_)
      refine st_load_sector rfl _ rfl gl (at_ * 128) r HL2.out HR2.out rfl ?_
      refine hK.out _ _ (by first | exact ⟨c0, c1, k0⟩ | exact ⟨C03.out, C13.out, K3.out⟩) (fun hHeld => ?_)
      replace hH := Lib.hid hHeld
      clear hK K hHeld
      try simp only [Act.put, sA, sB, sC]
      refine tk (i := 14) (oi := ⟨some 27, .indexAddr 60 (.tmp 16) (.tmp 18), 0, "disk.go:158", #[⟨3, .data⟩, ⟨5, .data⟩, ⟨0, .phase⟩, ⟨1, .phase⟩, ⟨2, .phase⟩, ⟨3, .phase⟩, ⟨4, .phase⟩, ⟨5, .phase⟩, ⟨6, .phase⟩, ⟨7, .phase⟩, ⟨8, .phase⟩, ⟨9, .phase⟩, ⟨10, .phase⟩, ⟨11, .phase⟩, ⟨12, .phase⟩, ⟨13, .phase⟩], none⟩) hH.out (by rintro w ⟨s0, s1, s2⟩; go_simp <;> with_reducible rfl) ?_
      simp only [Act.put, sA, sB, sC]
      refine rdy (i := 15) (oi := ⟨none, .store 108 (.tmp 27) (.tmp 26), 0, "disk.go:158", #[⟨14, .data⟩, ⟨13, .data⟩, ⟨0, .phase⟩, ⟨1, .phase⟩, ⟨2, .phase⟩, ⟨3, .phase⟩, ⟨4, .phase⟩, ⟨5, .phase⟩, ⟨6, .phase⟩, ⟨7, .phase⟩, ⟨8, .phase⟩, ⟨9, .phase⟩, ⟨10, .phase⟩, ⟨11, .phase⟩, ⟨12, .phase⟩, ⟨13, .phase⟩], none⟩) (fun K hK => ?_)
      refine st_store_sector rfl _ _ rfl gr (at_ * 128) r HL2.out HT.out rfl rfl ?_
      rw [← HW3.out]
      refine hK.out _ _ (by first | exact ⟨c0, c1, k0⟩ | exact ⟨C03.out, C13.out, K3.out⟩) (fun hHeld => ?_)
      replace hH := Lib.hid hHeld
      clear hK K hHeld
      try simp only [Act.put]
      refine wpAnyH_done (by kernel_rfl) ?_ _
      go_wp2
      exact ⟨⟨k + 1, by simp, by omega, H3.out, A3.out⟩, by simp [intOf]; omega⟩
    · obtain rfl : k = s.Q.length := by omega
      have c2 := hr.c2
      have f2 := hr.blk.frozen 2
      have hr3 : DkR (wr.setCell ⟨d, 2, none⟩ (.slice none 0 0)) F d gl gr (.slice none 0 0) n (readTo s.L s.Q R s.Q.length) { s with Q := [] } :=
        ⟨hr.blk.set_ 2 _, (hr.b.set_ 2 _).clear⟩
      have ha3 := ha.setCell (p := ⟨d, 2, none⟩) (.inl hr.b.inD) (.slice none 0 0)
      have HR3 := Lib.hid hr3
      have HA3 := Lib.hid ha3
      clear hr ha hr3 ha3
      go_wp2_with fail
      go_end0
      exact ⟨rfl, HR3.out, HA3.out⟩
end Go.Proofs.YtbdjlmdbnoghnaaGreat
namespace Go.Proofs.YtbdjlmdbnoghnaaGreat
open Go.RowKit

theorem layN_zero {L : List (List Nat)} {q : Nat × List Nat} (h : q.1 < L.length) : layN L q 0 = L := by
  rw [layN, List.take_zero, List.nil_append, List.drop_zero, List.getD_eq_getElem?_getD, List.getElem?_eq_getElem h]
  exact List.set_getElem_self h

theorem Rd.adv {w w' : World} {F F' : Nat → Prop} {size n : Nat} {v : Value} {xs : List Value} (h : Rd w size v n xs) (ha : Adv F w F' w') (hs : ∀ k, v.ownBlock = some k → 0 < n → ¬ F k) : Rd w' size v n xs :=
  h.far (fun k hk hn hl => ha.block k hl (hs k hk hn)) ha.size

theorem getD_at {ks : List Int} {k : Nat} (hk : k < ks.length) : (ks.map (Value.int .i64))[k]? = some (.int .i64 (ks.getD k 0)) := by
  rw [List.getElem?_map, List.getD_eq_getElem?_getD, List.getElem?_eq_getElem hk]; rfl

def CrEnd (w : World) (F : Nat → Prop) (d gl gr n : Nat) (s : DS) (ks : List Int) (torn : Int) (w' : World) : Prop :=
  DkR w' F d gl gr (.slice none 0 0) n (crashS s ks torn).L (crashS s ks torn) ∧ Adv F w F w'

set_option maxRecDepth 3000 in
set_option maxHeartbeats 3200000 in
theorem crash_low (d gl gr n m : Nat) (vQ vk : Value) (F : Nat → Prop) (s : DS) (ks : List Int) (torn : Int) (w : World) (h : DkR w F d gl gr vQ n (lays s.L s.Q) s) (ho : s.ok n) (hk : Rd w 1 vk m (ks.map (Value.int .i64))) (hsep : ∀ k, vk.ownBlock = some k → 0 < m → ¬ F k) (t0 : torn ≤ 0) :
    Calls Tryz.prog 18 #[.pointer (some ⟨d, 0, none⟩), vk, .int .i64 torn] w fun e w' => e = .returned (.tuple #[]) ∧ CrEnd w F d gl gr n s ks torn w' := by
  have c0 := h.c0
  have c2 := h.c2
  obtain ⟨ak, ck, rfl, hkc, hkm⟩ := hk.form
  obtain ⟨aq, cq, rfl, hqc, hqm⟩ := h.b.waits.form0
  unfold maxLen at hqm hkm
  have hkl : ks.length = m := by obtain ⟨_, _, _, _, _, h, _⟩ := hk; simpa using h
  have H := Lib.hid h
  have HO := Lib.hid ho
  have HK := Lib.hid hk
  have HSEP := Lib.hid hsep
  have HKL := Lib.hid hkl
  have HQL := Lib.hid (Nat.le_trans hqc (show cq ≤ 9223372036854775807 by omega))
  clear h ho hk hsep hkl hqc hqm
  go_enter Tryz.func18, Tryz.ntmps18
  go_wp2_with (first
    | (go_at_call 58; refine (made_r _ _ _ _ c0).mono ?_; rintro e w1 ⟨rfl, rfl⟩)
    | fail)
  go_loopw [23] (FlRel w F d gl gr n (.slice aq s.Q.length cq) (lays s.L s.Q) s.L s (kept ks torn s.Q.length)) (fun t _ => s.Q.length - (intOf t).toNat)
  case atStart => exact ⟨0, rfl, Nat.zero_le _, H.out, Adv.refl _ _⟩
  case round =>
    obtain ⟨k, rfl, hkk, hr, ha⟩ := hrel
    clear c2
    by_cases hlt : k < s.Q.length
    · have hql := HQL.out
      obtain ⟨g, c, e, hFg, hrg, hq1, hq2⟩ := hr.b.wait_at hlt
      injection e with e1 e2 e3
      subst e1
      clear e2 e3
      have hstep : laysBy (kept ks torn s.Q.length) s.Q s.L (k + 1) = layN (laysBy (kept ks torn s.Q.length) s.Q s.L k) (s.Q.getD k (0, [])) (kept ks torn s.Q.length k) := rfl
      obtain ⟨q, hq⟩ : ∃ q, q = s.Q.getD k (0, []) := ⟨_, rfl⟩
      rw [← hq] at hrg hq1 hq2 hstep
      have hqL : q.1 < (laysBy (kept ks torn s.Q.length) s.Q s.L k).length := by rw [show (laysBy (kept ks torn s.Q.length) s.Q s.L k).length = n from hr.b.lenL]; exact hq1
      have hnew := new_range wr q
      have hr2 := hr.alloc (.cells (wcells q).toArray 110)
      have ha2 := ha.alloc (.cells (wcells q).toArray 110)
      have hkA := HK.out.adv ha2 HSEP.out
      have c2 := hr2.c2
      have hlw : IntKind.i64.wrap ((s.Q.length : Int) - 1) = (s.Q.length : Int) - 1 := by rw [IntKind.wrap_i64]; omega
      have hkM : k + 1 ≤ 9223372036854775807 := by omega
      have HR2 := Lib.hid hr2
      have HA2 := Lib.hid ha2
      have HRG := Lib.hid hrg
      have HQ1 := Lib.hid hq1
      have HQ2 := Lib.hid hq2
      have HNEW := Lib.hid hnew
      have HST := Lib.hid hstep
      have HKA := Lib.hid hkA
      have HQL2 := Lib.hid hqL
      clear hr ha hrg hq1 hq2 hnew hq hr2 ha2 hstep hkA hqL hql
      have hkept0 : kept ks torn s.Q.length k = if ks.getD k 0 ≠ 0 then 128 else 0 := by unfold kept; rw [if_neg (by omega)]
      by_cases hkm2 : k < m
      · have hki : (k : Int) < (m : Int) := by omega
        obtain ⟨bk, ok, e, _, hcell⟩ := HKA.out.cells (by omega) (by decide)
        subst e
        have kc := hcell k _ (getD_at (by have := HKL.out; omega))
        obtain ⟨x, hx⟩ : ∃ x, x = ks.getD k 0 := ⟨_, rfl⟩
        rw [← hx] at kc hkept0
        clear hcell hx
        by_cases hx0 : x = 0
        · have hxb : (x != 0) = false := by simp [hx0]
          have hK0 : kept ks torn s.Q.length k = 0 := by rw [hkept0, if_neg (by simp [hx0])]
          have HK0 := Lib.hid hK0
          clear hkept0 hK0 hx0
          go_wp2_with (first
            | (refine op_load_write rfl _ rfl g (k * 129) q HQ2.out HRG.out rfl ?_)
            | (refine op_alloc_write rfl rfl ?_)
            | (refine op_store_write rfl _ _ rfl _ rfl q HQ2.out rfl rfl ?_)
            | fail)
          refine ⟨⟨k + 1, by simp, by omega, ?_, HA2.out⟩, by simp [intOf]; omega⟩
          rw [HST.out, HK0.out, layN_zero HQL2.out]
          exact HR2.out
        · have hxb : (x != 0) = true := by simp [hx0]
          have hK0 : kept ks torn s.Q.length k = 128 := by rw [hkept0, if_pos hx0]
          have HK0 := Lib.hid hK0
          clear hkept0 hK0 hx0
          go_wp2_with (first
            | (go_at_call 59; refine (lay_r _ _ _ _ _ _ _ _ q 128 _ HR2.out HQ1.out HQ2.out (Nat.le_refl _)).mono ?_; rintro e w2 ⟨rfl, h2, a2⟩; have H2 := Lib.hid h2; have A2 := Lib.hid a2; clear h2 a2)
            | (refine op_load_write rfl _ rfl g (k * 129) q HQ2.out HRG.out rfl ?_)
            | (refine op_load_write rfl _ rfl wr.heap.size 0 q HQ2.out HNEW.out rfl ?_)
            | (refine op_alloc_write rfl rfl ?_)
            | (refine op_store_write rfl _ _ rfl _ rfl q HQ2.out rfl rfl ?_)
            | fail)
          refine ⟨⟨k + 1, by simp, by omega, ?_, HA2.out.trans A2.out⟩, by simp [intOf]; omega⟩
          rw [HST.out, HK0.out]
          exact H2.out
      · have hki : (m : Int) ≤ (k : Int) := by omega
        have hK0 : kept ks torn s.Q.length k = 0 := by rw [hkept0, List.getD_eq_getElem?_getD, List.getElem?_eq_none (by have := HKL.out; omega)]; simp
        have HK0 := Lib.hid hK0
        clear hkept0 hK0
        go_wp2_with (first
          | (refine op_load_write rfl _ rfl g (k * 129) q HQ2.out HRG.out rfl ?_)
          | (refine op_alloc_write rfl rfl ?_)
          | (refine op_store_write rfl _ _ rfl _ rfl q HQ2.out rfl rfl ?_)
          | fail)
        refine ⟨⟨k + 1, by simp, by omega, ?_, HA2.out⟩, by simp [intOf]; omega⟩
        rw [HST.out, HK0.out, layN_zero HQL2.out]
        exact HR2.out
    · obtain rfl : k = s.Q.length := by omega
      have HR := Lib.hid hr
      have HA := Lib.hid ha
      clear hr ha
      go_wp2_with (first
        | (go_at_call 60; refine (forget_r _ _ _ _ _ _ _ _ _ HR.out).mono ?_; rintro e w2 ⟨rfl, h2, a2⟩; have HB2 := Lib.hid h2.b; have HK2 := Lib.hid h2.blk; have HA2 := Lib.hid a2; have d3 := h2.c3; have d4 := h2.c4; have d5 := h2.c5; have f3 := h2.blk.frozen 3; have f4 := h2.blk.frozen 4; have f5 := h2.blk.frozen 5; clear h2 a2)
        | fail)
      go_end0
      refine ⟨rfl, ?_, ((((HA.out.trans HA2.out).setCell (p := ⟨d, 3, none⟩) (.inl HB2.out.inD) _).setCell (p := ⟨d, 4, none⟩) (.inl HB2.out.inD) _).setCell (p := ⟨d, 5, none⟩) (.inl HB2.out.inD) _)⟩
      have hb := ((HB2.out.set_ 3 (.bool false)).set_ 4 (.bool false)).set_ 5 (.int .i64 0)
      have hk := ((HK2.out.set_ 3 (.bool false)).set_ 4 (.bool false)).set_ 5 (.int .i64 0)
      have e : readTo (laysBy (kept ks torn s.Q.length) s.Q s.L s.Q.length) s.Q (lays s.L s.Q) s.Q.length = laysBy (kept ks torn s.Q.length) s.Q s.L s.Q.length := readTo_all _ _ _
      obtain ⟨LL, hLL⟩ : ∃ LL, LL = laysBy (kept ks torn s.Q.length) s.Q s.L s.Q.length := ⟨_, rfl⟩
      have hcr : crashS s ks torn = ⟨LL, [], false, none⟩ := by rw [hLL]; rfl
      rw [hcr]
      simp only [← hLL] at e hb
      rw [e] at hb
      exact ⟨hk, hb⟩

end Go.Proofs.YtbdjlmdbnoghnaaGreat
namespace Go.Proofs.YtbdjlmdbnoghnaaGreat
open Go.RowKit

set_option maxRecDepth 3000 in
set_option maxHeartbeats 3200000 in
theorem crash_high (d gl gr n m : Nat) (vQ vk : Value) (F : Nat → Prop) (s : DS) (ks : List Int) (torn : Int) (w : World) (h : DkR w F d gl gr vQ n (lays s.L s.Q) s) (ho : s.ok n) (hk : Rd w 1 vk m (ks.map (Value.int .i64))) (hsep : ∀ k, vk.ownBlock = some k → 0 < m → ¬ F k) (t0 : 128 ≤ torn) :
    Calls Tryz.prog 18 #[.pointer (some ⟨d, 0, none⟩), vk, .int .i64 torn] w fun e w' => e = .returned (.tuple #[]) ∧ CrEnd w F d gl gr n s ks torn w' := by
  have c0 := h.c0
  have c2 := h.c2
  obtain ⟨ak, ck, rfl, hkc, hkm⟩ := hk.form
  obtain ⟨aq, cq, rfl, hqc, hqm⟩ := h.b.waits.form0
  unfold maxLen at hqm hkm
  have hkl : ks.length = m := by obtain ⟨_, _, _, _, _, h, _⟩ := hk; simpa using h
  have H := Lib.hid h
  have HO := Lib.hid ho
  have HK := Lib.hid hk
  have HSEP := Lib.hid hsep
  have HKL := Lib.hid hkl
  have HQL := Lib.hid (Nat.le_trans hqc (show cq ≤ 9223372036854775807 by omega))
  clear h ho hk hsep hkl hqc hqm
  go_enter Tryz.func18, Tryz.ntmps18
  go_wp2_with (first
    | (go_at_call 58; refine (made_r _ _ _ _ c0).mono ?_; rintro e w1 ⟨rfl, rfl⟩)
    | fail)
  rw [show decide (torn < 128) = false from decide_eq_false (by omega)]
  go_loopw [23] (FlRel w F d gl gr n (.slice aq s.Q.length cq) (lays s.L s.Q) s.L s (kept ks torn s.Q.length)) (fun t _ => s.Q.length - (intOf t).toNat)
  case atStart => exact ⟨0, rfl, Nat.zero_le _, H.out, Adv.refl _ _⟩
  case round =>
    obtain ⟨k, rfl, hkk, hr, ha⟩ := hrel
    clear c2
    by_cases hlt : k < s.Q.length
    · have hql := HQL.out
      obtain ⟨g, c, e, hFg, hrg, hq1, hq2⟩ := hr.b.wait_at hlt
      injection e with e1 e2 e3
      subst e1
      clear e2 e3
      have hstep : laysBy (kept ks torn s.Q.length) s.Q s.L (k + 1) = layN (laysBy (kept ks torn s.Q.length) s.Q s.L k) (s.Q.getD k (0, [])) (kept ks torn s.Q.length k) := rfl
      obtain ⟨q, hq⟩ : ∃ q, q = s.Q.getD k (0, []) := ⟨_, rfl⟩
      rw [← hq] at hrg hq1 hq2 hstep
      have hqL : q.1 < (laysBy (kept ks torn s.Q.length) s.Q s.L k).length := by rw [show (laysBy (kept ks torn s.Q.length) s.Q s.L k).length = n from hr.b.lenL]; exact hq1
      have hnew := new_range wr q
      have hr2 := hr.alloc (.cells (wcells q).toArray 110)
      have ha2 := ha.alloc (.cells (wcells q).toArray 110)
      have hkA := HK.out.adv ha2 HSEP.out
      have c2 := hr2.c2
      have hlw : IntKind.i64.wrap ((s.Q.length : Int) - 1) = (s.Q.length : Int) - 1 := by rw [IntKind.wrap_i64]; omega
      have hkM : k + 1 ≤ 9223372036854775807 := by omega
      have HR2 := Lib.hid hr2
      have HA2 := Lib.hid ha2
      have HRG := Lib.hid hrg
      have HQ1 := Lib.hid hq1
      have HQ2 := Lib.hid hq2
      have HNEW := Lib.hid hnew
      have HST := Lib.hid hstep
      have HKA := Lib.hid hkA
      have HQL2 := Lib.hid hqL
      clear hr ha hrg hq1 hq2 hnew hq hr2 ha2 hstep hkA hqL hql
      have hkept0 : kept ks torn s.Q.length k = if ks.getD k 0 ≠ 0 then 128 else 0 := by unfold kept; rw [if_neg (by omega)]
      by_cases hkm2 : k < m
      · have hki : (k : Int) < (m : Int) := by omega
        obtain ⟨bk, ok, e, _, hcell⟩ := HKA.out.cells (by omega) (by decide)
        subst e
        have kc := hcell k _ (getD_at (by have := HKL.out; omega))
        obtain ⟨x, hx⟩ : ∃ x, x = ks.getD k 0 := ⟨_, rfl⟩
        rw [← hx] at kc hkept0
        clear hcell hx
        by_cases hx0 : x = 0
        · have hxb : (x != 0) = false := by simp [hx0]
          have hK0 : kept ks torn s.Q.length k = 0 := by rw [hkept0, if_neg (by simp [hx0])]
          have HK0 := Lib.hid hK0
          clear hkept0 hK0 hx0
          go_wp2_with (first
            | (refine op_load_write rfl _ rfl g (k * 129) q HQ2.out HRG.out rfl ?_)
            | (refine op_alloc_write rfl rfl ?_)
            | (refine op_store_write rfl _ _ rfl _ rfl q HQ2.out rfl rfl ?_)
            | fail)
          refine ⟨⟨k + 1, by simp, by omega, ?_, HA2.out⟩, by simp [intOf]; omega⟩
          rw [HST.out, HK0.out, layN_zero HQL2.out]
          exact HR2.out
        · have hxb : (x != 0) = true := by simp [hx0]
          have hK0 : kept ks torn s.Q.length k = 128 := by rw [hkept0, if_pos hx0]
          have HK0 := Lib.hid hK0
          clear hkept0 hK0 hx0
          go_wp2_with (first
            | (go_at_call 59; refine (lay_r _ _ _ _ _ _ _ _ q 128 _ HR2.out HQ1.out HQ2.out (Nat.le_refl _)).mono ?_; rintro e w2 ⟨rfl, h2, a2⟩; have H2 := Lib.hid h2; have A2 := Lib.hid a2; clear h2 a2)
            | (refine op_load_write rfl _ rfl g (k * 129) q HQ2.out HRG.out rfl ?_)
            | (refine op_load_write rfl _ rfl wr.heap.size 0 q HQ2.out HNEW.out rfl ?_)
            | (refine op_alloc_write rfl rfl ?_)
            | (refine op_store_write rfl _ _ rfl _ rfl q HQ2.out rfl rfl ?_)
            | fail)
          refine ⟨⟨k + 1, by simp, by omega, ?_, HA2.out.trans A2.out⟩, by simp [intOf]; omega⟩
          rw [HST.out, HK0.out]
          exact H2.out
      · have hki : (m : Int) ≤ (k : Int) := by omega
        have hK0 : kept ks torn s.Q.length k = 0 := by rw [hkept0, List.getD_eq_getElem?_getD, List.getElem?_eq_none (by have := HKL.out; omega)]; simp
        have HK0 := Lib.hid hK0
        clear hkept0 hK0
        go_wp2_with (first
          | (refine op_load_write rfl _ rfl g (k * 129) q HQ2.out HRG.out rfl ?_)
          | (refine op_alloc_write rfl rfl ?_)
          | (refine op_store_write rfl _ _ rfl _ rfl q HQ2.out rfl rfl ?_)
          | fail)
        refine ⟨⟨k + 1, by simp, by omega, ?_, HA2.out⟩, by simp [intOf]; omega⟩
        rw [HST.out, HK0.out, layN_zero HQL2.out]
        exact HR2.out
    · obtain rfl : k = s.Q.length := by omega
      have HR := Lib.hid hr
      have HA := Lib.hid ha
      clear hr ha
      go_wp2_with (first
        | (go_at_call 60; refine (forget_r _ _ _ _ _ _ _ _ _ HR.out).mono ?_; rintro e w2 ⟨rfl, h2, a2⟩; have HB2 := Lib.hid h2.b; have HK2 := Lib.hid h2.blk; have HA2 := Lib.hid a2; have d3 := h2.c3; have d4 := h2.c4; have d5 := h2.c5; have f3 := h2.blk.frozen 3; have f4 := h2.blk.frozen 4; have f5 := h2.blk.frozen 5; clear h2 a2)
        | fail)
      go_end0
      refine ⟨rfl, ?_, ((((HA.out.trans HA2.out).setCell (p := ⟨d, 3, none⟩) (.inl HB2.out.inD) _).setCell (p := ⟨d, 4, none⟩) (.inl HB2.out.inD) _).setCell (p := ⟨d, 5, none⟩) (.inl HB2.out.inD) _)⟩
      have hb := ((HB2.out.set_ 3 (.bool false)).set_ 4 (.bool false)).set_ 5 (.int .i64 0)
      have hk := ((HK2.out.set_ 3 (.bool false)).set_ 4 (.bool false)).set_ 5 (.int .i64 0)
      have e : readTo (laysBy (kept ks torn s.Q.length) s.Q s.L s.Q.length) s.Q (lays s.L s.Q) s.Q.length = laysBy (kept ks torn s.Q.length) s.Q s.L s.Q.length := readTo_all _ _ _
      obtain ⟨LL, hLL⟩ : ∃ LL, LL = laysBy (kept ks torn s.Q.length) s.Q s.L s.Q.length := ⟨_, rfl⟩
      have hcr : crashS s ks torn = ⟨LL, [], false, none⟩ := by rw [hLL]; rfl
      rw [hcr]
      simp only [← hLL] at e hb
      rw [e] at hb
      exact ⟨hk, hb⟩

end Go.Proofs.YtbdjlmdbnoghnaaGreat
