/- The program's Check of a message; a recall; messages at all, as each statement of layer 16 asks. -/
import Derived.Test.YtpgeebhepegpaaaMsC
import Derived.Test.YtpgeebhepegpaaaMsS
namespace Go.Proofs.Ytpgeebhepegpaaa
open Go.ChangeShapes Go.WideShapes Go.ChangeAt Go.RowKit

set_option maxRecDepth 3000 in
theorem kw_guardM {ops : Array Oper} {rest : List Oper} {o : Oper} {a : Act} {w : World} {Q : Exit → Act → World → Prop} (hw : Region.wanted o (yielded ops a.tmps) = true) (h : wpList Try.prog ops Q ({ o with guard := none } :: rest) a w) : wpList Try.prog ops Q (o :: rest) a w := by
  unfold wpList at h ⊢
  rw [if_pos hw]
  rw [if_pos (by simp [Region.wanted])] at h
  exact h
set_option maxRecDepth 3000 in
theorem kw_loadC {ops : Array Oper} {rest : List Oper} {o : Oper} {a : Act} {w : World} {Q : Exit → Act → World → Prop} {t t' : TypeId} {C : Array Value} {s : Nat} {d : TypeDesc} (x : Operand) (ho : o.op = .load t x) (hw : Region.wanted o (yielded ops a.tmps) = true) (z : Nat) (hB : Blk w z t' C) (hx : a.eval x = .pointer (some ⟨z, 0, none⟩)) (hu : Try.prog.underlying t = some d) (hd : d.isRow = true) (hs : (Try.prog.info? t).map (·.size) = some s) (hC : C.size = s)
    (h : wpList Try.prog ops Q rest (a.put o.dst (.agg C)) w) : wpList Try.prog ops Q (o :: rest) a w := kw_guardM hw (kop_load rfl x ho z hB hx hu hd hs hC h)
noncomputable def chkM (m : Ms) : Int := if okM m = true then 0 else 4
set_option maxRecDepth 3000 in
set_option maxHeartbeats 3200000 in
theorem check16_any (m : Ms) (v : Value) (hm : WfM m) (w : World) (hE : EnR7 w v m.en) : Calls Try.prog 12 #[.agg (mc m v)] w fun e w' => e = .returned (.int .i64 (chkM m)) ∧ Adv Nul w Nul w' := by
  have HAR := Lib.hid (fun (w' : World) (a : Adv Nul w Nul w') => areright16_any m v (fldM m.ty m.kd m.er).1 (fldM_lt _ _ _) hm w' (hE.step a))
  have HFO := Lib.hid (fun w => fieldsof_any m v w)
  obtain ⟨A, hA⟩ : ∃ A, A = allB m (fldM m.ty m.kd m.er).1 := ⟨_, rfl⟩
  obtain ⟨q, hq⟩ : ∃ q, q = (fldM m.ty m.kd m.er).2 := ⟨_, rfl⟩
  obtain ⟨h, hh⟩ : ∃ q : Int, q = ((fldM m.ty m.kd m.er).1 : Int) := ⟨_, rfl⟩
  obtain ⟨r, hr⟩ : ∃ q, q = decide (ctP m.ss) := ⟨_, rfl⟩
  have HCT := Lib.hid (fun w => show Calls Try.prog 31 #[.int .u64 (m.ss : Int)] w fun e w' => e = .returned (.bool r) ∧ w = w' by rw [hr]; exact mcount_any m.ss w)
  have HOK := Lib.hid (show chkM m = if (q && decide (0 ≤ m.cl ∧ m.cl < 8) && r && A) = true then 0 else 4 by unfold chkM okM; rw [hA, hq, hr])
  rw [← hA, ← hh] at HAR
  rw [← hq, ← hh] at HFO
  obtain ⟨C, hC⟩ : ∃ C, C = mc m v := ⟨_, rfl⟩
  have HC := Lib.hid (fun (z : Nat) (w' : World) (h : Blk w' z 28 C) => (show C18 w' z m v from (show Blk w' z 28 (mc m v) by rw [← hC]; exact h).c18))
  have HCS := Lib.hid (show C.size = 18 by rw [hC]; rfl)
  rw [← hC] at HAR HFO ⊢
  obtain ⟨E, hE2⟩ : ∃ E, E = chkM m := ⟨_, rfl⟩
  rw [← hE2] at HOK ⊢
  clear hA hq hh hr hC hE2 hm hE
  have hcase : m.cl < 0 ∨ 8 ≤ m.cl ∨ (0 ≤ m.cl ∧ m.cl < 8) := by omega
  rcases hcase with g | g | ⟨g, g'⟩
  · obtain rfl : E = 4 := by rw [HOK.out, decide_eq_false (show ¬ (0 ≤ m.cl ∧ m.cl < 8) from by omega)]; simp
    cases q
    all_goals
      go_enter Try.func12, Try.ntmps12
      go_wp2_with (first
        | (refine kop_box rfl _ rfl rfl ?_; intro z w1 hz hb ha; have HA1 := Lib.hid ((Adv.refl Nul w).trans ha); have HB1 := Lib.hid hb; obtain ⟨⟨s0, s1, s2, s3, s4, s5, s6⟩, _, _⟩ := HC.out _ _ hb; clear hz hb ha)
        | (refine kop_load (t := 28) rfl _ rfl z HB1.out rfl Try.underlying28 rfl sizeM HCS.out ?_)
        | (go_at_call 30; refine (HFO.out _).mono ?_; rintro x w2 ⟨rfl, a2⟩; have HA2 := Lib.hid (HA1.out.trans a2); have HB2 := Lib.hid (HB1.out.over a2); clear s0 s1 s2 s3 s4 s5 s6; obtain ⟨⟨s0, s1, s2, s3, s4, s5, s6⟩, _, _⟩ := HC.out _ _ HB2.out; clear a2)
        | fail)
      go_ret
      exact ⟨rfl, HA2.out⟩
  · obtain rfl : E = 4 := by rw [HOK.out, decide_eq_false (show ¬ (0 ≤ m.cl ∧ m.cl < 8) from by omega)]; simp
    cases q
    all_goals
      go_enter Try.func12, Try.ntmps12
      go_wp2_with (first
        | (refine kop_box rfl _ rfl rfl ?_; intro z w1 hz hb ha; have HA1 := Lib.hid ((Adv.refl Nul w).trans ha); have HB1 := Lib.hid hb; obtain ⟨⟨s0, s1, s2, s3, s4, s5, s6⟩, _, _⟩ := HC.out _ _ hb; clear hz hb ha)
        | (refine kop_load (t := 28) rfl _ rfl z HB1.out rfl Try.underlying28 rfl sizeM HCS.out ?_)
        | (go_at_call 30; refine (HFO.out _).mono ?_; rintro x w2 ⟨rfl, a2⟩; have HA2 := Lib.hid (HA1.out.trans a2); have HB2 := Lib.hid (HB1.out.over a2); clear s0 s1 s2 s3 s4 s5 s6; obtain ⟨⟨s0, s1, s2, s3, s4, s5, s6⟩, _, _⟩ := HC.out _ _ HB2.out; clear a2)
        | fail)
      all_goals
        go_ret
        exact ⟨rfl, HA2.out⟩
  · have HOK2 := Lib.hid (show E = if (q && r && A) = true then 0 else 4 by rw [HOK.out, decide_eq_true (show 0 ≤ m.cl ∧ m.cl < 8 from ⟨g, g'⟩), Bool.and_true])
    clear HOK
    cases q with
    | false =>
      obtain rfl : E = 4 := HOK2.out
      go_enter Try.func12, Try.ntmps12
      go_wp2_with (first
        | (refine kop_box rfl _ rfl rfl ?_; intro z w1 hz hb ha; have HA1 := Lib.hid ((Adv.refl Nul w).trans ha); have HB1 := Lib.hid hb; obtain ⟨⟨s0, s1, s2, s3, s4, s5, s6⟩, _, _⟩ := HC.out _ _ hb; clear hz hb ha)
        | (refine kop_load (t := 28) rfl _ rfl z HB1.out rfl Try.underlying28 rfl sizeM HCS.out ?_)
        | (go_at_call 30; refine (HFO.out _).mono ?_; rintro x w2 ⟨rfl, a2⟩; have HA2 := Lib.hid (HA1.out.trans a2); have HB2 := Lib.hid (HB1.out.over a2); clear s0 s1 s2 s3 s4 s5 s6; obtain ⟨⟨s0, s1, s2, s3, s4, s5, s6⟩, _, _⟩ := HC.out _ _ HB2.out; clear a2)
        | fail)
      go_ret
      exact ⟨rfl, HA2.out⟩
    | true =>
      cases r with
      | false =>
        obtain rfl : E = 4 := HOK2.out
        go_enter Try.func12, Try.ntmps12
        go_wp2_with (first
          | (refine kop_box rfl _ rfl rfl ?_; intro z w1 hz hb ha; have HA1 := Lib.hid ((Adv.refl Nul w).trans ha); have HB1 := Lib.hid hb; obtain ⟨⟨s0, s1, s2, s3, s4, s5, s6⟩, _, _⟩ := HC.out _ _ hb; clear hz hb ha)
          | (refine kop_load (t := 28) rfl _ rfl z HB1.out rfl Try.underlying28 rfl sizeM HCS.out ?_)
          | (go_at_call 30; refine (HFO.out _).mono ?_; rintro x w2 ⟨rfl, a2⟩; have HA2 := Lib.hid (HA1.out.trans a2); have HB2 := Lib.hid (HB1.out.over a2); clear s0 s1 s2 s3 s4 s5 s6; obtain ⟨⟨s0, s1, s2, s3, s4, s5, s6⟩, _, _⟩ := HC.out _ _ HB2.out; clear a2)
          | (go_at_call 31; refine (HCT.out _).mono ?_; rintro x w3 ⟨rfl, rfl⟩)
          | fail)
        go_ret
        exact ⟨rfl, HA2.out⟩
      | true =>
        have HOK3 := Lib.hid (show E = if A = true then 0 else 4 from HOK2.out)
        clear HOK2
        cases A
        all_goals
          have hek := HOK3.out
          first
          | (replace hek : E = 4 := hek)
          | (replace hek : E = 0 := hek)
          subst hek
          go_enter Try.func12, Try.ntmps12
          go_wp2_with (first
            | (refine kop_box rfl _ rfl rfl ?_; intro z w1 hz hb ha; have HA1 := Lib.hid ((Adv.refl Nul w).trans ha); have HB1 := Lib.hid hb; obtain ⟨⟨s0, s1, s2, s3, s4, s5, s6⟩, _, _⟩ := HC.out _ _ hb; clear hz hb ha)
            | (refine kop_load (t := 28) rfl _ rfl z HB1.out rfl Try.underlying28 rfl sizeM HCS.out ?_)
            | (go_at_call 30; refine (HFO.out _).mono ?_; rintro x w2 ⟨rfl, a2⟩; have HA2 := Lib.hid (HA1.out.trans a2); have HB2 := Lib.hid (HB1.out.over a2); clear s0 s1 s2 s3 s4 s5 s6; obtain ⟨⟨s0, s1, s2, s3, s4, s5, s6⟩, _, _⟩ := HC.out _ _ HB2.out; clear a2)
            | (go_at_call 31; refine (HCT.out _).mono ?_; rintro x w3 ⟨rfl, rfl⟩)
            | (refine kw_loadC (t := 28) _ rfl (by simp [Region.wanted, yielded, g, g']) z HB2.out rfl Try.underlying28 rfl sizeM HCS.out ?_)
            | (go_at_call 32; refine (HAR.out _ HA2.out).mono ?_; rintro x w4 ⟨rfl, a4⟩; have HA4 := Lib.hid (HA2.out.trans a4); clear a4)
            | fail)
          go_ret
          exact ⟨rfl, HA4.out⟩
end Go.Proofs.Ytpgeebhepegpaaa
