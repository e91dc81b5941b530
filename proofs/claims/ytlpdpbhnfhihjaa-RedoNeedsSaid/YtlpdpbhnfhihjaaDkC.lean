/- The disk: Flush, Waits, forget, Crash. -/
import Derived.Test.YtlpdpbhnfhihjaaDkX
namespace Go.Proofs.Ytlpdpbhnfhihjaa
open Go.RowKit

theorem DkB.wait_at {w : World} {F : Nat → Prop} {d gl gr n : Nat} {vQ : Value} {L R : List (List Nat)} {Q : List (Nat × List Nat)} (h : DkB w F d gl gr vQ n L R Q) {k : Nat} (hk : k < Q.length) :
    ∃ g c, vQ = .slice (some ⟨g, 0, none⟩) Q.length c ∧ F g ∧ w.rangeAt g (k * 129) (wcells (Q.getD k (0, []))) ∧ (Q.getD k (0, [])).1 < n ∧ (Q.getD k (0, [])).2.length = 128 := by
  obtain ⟨g, c, rfl, hF, _⟩ := h.waits.form (by omega)
  have hm := h.qs _ (getD_mem hk)
  refine ⟨g, c, rfl, hF, fun j v hv => ?_, hm.1, hm.2⟩
  have hj : j < 129 := by
    have := (List.getElem?_eq_some_iff.1 hv).1
    rw [wcells_length hm.2] at this
    exact this
  have hlt : k * 129 + j < Q.length * 129 := by
    have : (k + 1) * 129 ≤ Q.length * 129 := Nat.mul_le_mul_right _ hk
    rw [Nat.succ_mul] at this
    omega
  rw [h.waits.own.cellAt (k * 129 + j) hlt, flat_at wcells 129 Q (fun x hx => wcells_length (h.qs x hx).2) k j hk hj]
  rw [List.getD_eq_getElem?_getD, List.getElem?_eq_getElem hk] at hv
  exact hv

/-- nothing waits any more -/
theorem DkB.clear {w : World} {F : Nat → Prop} {d gl gr n : Nat} {vQ : Value} {L R : List (List Nat)} {Q : List (Nat × List Nat)} (h : DkB w F d gl gr vQ n L R Q) : DkB w F d gl gr (.slice none 0 0) n L R [] :=
  ⟨h.lo, h.hi, h.lenL, h.lenR, fun q hq => by simp at hq, h.lasts, h.reads, Sl.nilF _ _ h.bd _ _, h.ne, h.inD, h.inL, h.inR, h.head⟩

theorem DkR.alloc {w : World} {F : Nat → Prop} {d gl gr n : Nat} {vQ : Value} {R : List (List Nat)} {s : DS} (h : DkR w F d gl gr vQ n R s) (ob : Obj) : DkR (w.alloc ob) F d gl gr vQ n R s :=
  h.keep (fun k hk => Below.heap_alloc _ _ _ (h.b.bd k hk)) (by simp)

def FlRel (w : World) (F : Nat → Prop) (d gl gr n : Nat) (vQ : Value) (R L0 : List (List Nat)) (s : DS) (c : Nat → Nat) (t : Value) (wr : World) : Prop :=
  ∃ k, t = .int .i64 ((k : Nat) : Int) ∧ k ≤ s.Q.length ∧ DkR wr F d gl gr vQ n R { s with L := laysBy c s.Q L0 k } ∧ Adv F w F wr

set_option maxRecDepth 3000 in
set_option maxHeartbeats 1600000 in
theorem flush_ok (d gl gr n : Nat) (vQ : Value) (F : Nat → Prop) (s : DS) (w : World) (h : DkR w F d gl gr vQ n (lays s.L s.Q) s) (ho : s.ok n) (hs : (stepS s).2 = true) :
    Calls Try.prog 50 #[.pointer (some ⟨d, 0, none⟩)] w fun e w' => e = .returned (.int .i64 0) ∧ DkR w' F d gl gr (.slice none 0 0) n (lays s.L s.Q) { (stepS s).1 with L := lays s.L s.Q, Q := [] } ∧ Adv F w F w' := by
  have c0 := h.c0
  have H := Lib.hid h
  have HO := Lib.hid ho
  have HS := Lib.hid hs
  clear h ho hs
  go_enter Try.func50, Try.ntmps50
  go_wp2_with (first
    | (go_at_call 33; refine (made_r _ _ _ _ c0).mono ?_; rintro e w1 ⟨rfl, rfl⟩)
    | (go_at_call 71; refine (step_r _ _ _ _ _ _ _ _ _ H.out HO.out).mono ?_; rintro e w1 ⟨rfl, h1, a1⟩; rw [HS.out]; have c12 := h1.c2; obtain ⟨aq, cq, rfl, hqc, hqm⟩ := h1.b.waits.form0; unfold maxLen at hqm; have H1 := Lib.hid h1; have A1 := Lib.hid a1; clear h1 a1; simp only [if_true])
    | fail)
  obtain ⟨s1, hs1⟩ : ∃ s1, s1 = (stepS s).1 := ⟨_, rfl⟩
  have hL1 : s1.L = s.L := by rw [hs1, stepS_L]
  have hQ1 : s1.Q = s.Q := by rw [hs1, stepS_Q]
  rw [← hs1] at H1 ⊢
  rw [← hs1] at hqc
  have HS1 := Lib.hid hs1
  have HL1 := Lib.hid hL1
  have HQ1 := Lib.hid hQ1
  obtain ⟨M, hM⟩ : ∃ M, M = s1.Q.length := ⟨_, rfl⟩
  rw [← hM] at hqc
  have HM := Lib.hid hM
  clear hs1 hL1 hQ1 c12 H hM
  go_loopw [19] (FlRel w F d gl gr n (.slice aq s1.Q.length cq) (lays s.L s.Q) s1.L s1 (fun _ => 128)) (fun t _ => s1.Q.length - (intOf t).toNat)
  case atStart => exact ⟨0, rfl, Nat.zero_le _, H1.out, A1.out⟩
  case round =>
    obtain ⟨k, rfl, hk, hr, ha⟩ := hrel
    by_cases hlt : k < s1.Q.length
    · have hkM : k + 1 ≤ 9223372036854775807 := by have := HM.out; omega
      obtain ⟨g, c, e, hFg, hrg, hq1, hq2⟩ := hr.b.wait_at hlt
      injection e with e1 e2 e3
      subst e1
      clear e2 e3
      have hstep : laysBy (fun _ => 128) s1.Q s1.L (k + 1) = layN (laysBy (fun _ => 128) s1.Q s1.L k) (s1.Q.getD k (0, [])) 128 := rfl
      obtain ⟨q, hq⟩ : ∃ q, q = s1.Q.getD k (0, []) := ⟨_, rfl⟩
      rw [← hq] at hrg hq1 hq2 hstep
      have hnew : (wr.alloc (.cells (wcells q).toArray 72)).rangeAt wr.heap.size 0 (wcells q) := fun j v hv => by
        rw [Nat.zero_add, (Blk.new wr 72 (wcells q).toArray).cell j, List.getElem?_toArray]
        exact hv
      have hr2 := hr.alloc (.cells (wcells q).toArray 72)
      have ha2 := ha.alloc (.cells (wcells q).toArray 72)
      have HR2 := Lib.hid hr2
      have HA2 := Lib.hid ha2
      have HRG := Lib.hid hrg
      have HQ1b := Lib.hid hq1
      have HQ2 := Lib.hid hq2
      have HNEW := Lib.hid hnew
      have HST := Lib.hid hstep
      clear hr ha hrg hq1 hq2 hnew hq hr2 ha2 hstep
      go_wp2_with (first
        | (go_at_call 72; refine (lay_r _ _ _ _ _ _ _ _ q 128 _ HR2.out HQ1b.out HQ2.out (Nat.le_refl _)).mono ?_; rintro e w2 ⟨rfl, h2, a2⟩; have H2 := Lib.hid h2; have A2 := Lib.hid a2; clear h2 a2)
        | (refine op_load_write rfl _ rfl g (k * 129) q HQ2.out HRG.out rfl ?_)
        | (refine op_load_write rfl _ rfl wr.heap.size 0 q HQ2.out HNEW.out rfl ?_)
        | (refine op_alloc_write rfl rfl ?_)
        | (refine op_store_write rfl _ _ rfl _ rfl q HQ2.out rfl rfl ?_)
        | fail)
      refine ⟨⟨k + 1, by simp, by omega, ?_, HA2.out.trans A2.out⟩, by simp [intOf]; omega⟩
      rw [HST.out]
      exact H2.out
    · obtain rfl : k = s1.Q.length := by omega
      have c2 := hr.c2
      have f2 := hr.blk.frozen 2
      have hr3 : DkR (wr.setCell ⟨d, 2, none⟩ (.slice none 0 0)) F d gl gr (.slice none 0 0) n (lays s.L s.Q) { s1 with L := laysBy (fun _ => 128) s1.Q s1.L s1.Q.length, Q := [] } :=
        ⟨hr.blk.set_ 2 _, (hr.b.set_ 2 _).clear⟩
      have ha3 := ha.setCell (p := ⟨d, 2, none⟩) (.inl hr.b.inD) (.slice none 0 0)
      have HR3 := Lib.hid hr3
      have HA3 := Lib.hid ha3
      clear hr ha hr3 ha3
      go_wp2_with fail
      go_ret
      refine ⟨rfl, ?_, HA3.out⟩
      have hall := laysBy_all s.Q s.L HO.out.row (fun q hq => by rw [HO.out.len]; exact HO.out.at_ q hq) s.Q.length (Nat.le_refl _)
      rw [List.take_length] at hall
      have h := HR3.out
      rw [HQ1.out, HL1.out, hall] at h
      rw [← HS1.out]
      exact h

set_option maxRecDepth 3000 in
theorem flush_dead (d gl gr n : Nat) (vQ : Value) (F : Nat → Prop) (R : List (List Nat)) (s : DS) (w : World) (h : DkR w F d gl gr vQ n R s) (ho : s.ok n) (hs : (stepS s).2 = false) :
    Calls Try.prog 50 #[.pointer (some ⟨d, 0, none⟩)] w fun e w' => e = .returned (.int .i64 7) ∧ DkR w' F d gl gr vQ n R (stepS s).1 ∧ Adv F w F w' := by
  have c0 := h.c0
  have H := Lib.hid h
  have HO := Lib.hid ho
  have HS := Lib.hid hs
  clear h ho hs
  go_enter Try.func50, Try.ntmps50
  go_wp2_with (first
    | (go_at_call 33; refine (made_r _ _ _ _ c0).mono ?_; rintro e w1 ⟨rfl, rfl⟩)
    | (go_at_call 71; refine (step_r _ _ _ _ _ _ _ _ _ H.out HO.out).mono ?_; rintro e w1 ⟨rfl, h1, a1⟩; rw [HS.out]; have H1 := Lib.hid h1; have A1 := Lib.hid a1; clear h1 a1; simp only [Bool.false_eq_true, if_false])
    | fail)
  go_ret
  exact ⟨rfl, H1.out, A1.out⟩

/-- Flush -/
theorem flush_dk (d n : Nat) (F : Nat → Prop) (s : DS) (w : World) (h : Dk w F d n s) :
    Calls Try.prog 50 #[.pointer (some ⟨d, 0, none⟩)] w fun e w' => e = .returned (.int .i64 (flushS s).2) ∧ Dk w' F d n (flushS s).1 ∧ Adv F w F w' := by
  have hok := flushS_ok h.1
  obtain ⟨ho, gl, gr, vQ, hr⟩ := h
  unfold flushS at hok ⊢
  cases hs : (stepS s).2 with
  | true =>
    rw [hs] at hok
    simp only [if_true] at hok ⊢
    refine (flush_ok d gl gr n vQ F s w hr ho hs).mono ?_
    rintro e w' ⟨rfl, h1, h2⟩
    exact ⟨rfl, ⟨hok, gl, gr, _, h1⟩, h2⟩
  | false =>
    simp only [Bool.false_eq_true, if_false]
    refine (flush_dead d gl gr n vQ F _ s w hr ho hs).mono ?_
    rintro e w' ⟨rfl, h1, h2⟩
    refine ⟨rfl, ⟨stepS_ok ho, gl, gr, vQ, ?_⟩, h2⟩
    rw [stepS_L, stepS_Q]
    exact h1
end Go.Proofs.Ytlpdpbhnfhihjaa
