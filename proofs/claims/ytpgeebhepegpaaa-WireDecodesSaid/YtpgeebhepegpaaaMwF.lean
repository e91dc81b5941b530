/- Same of messages: what it is; entries held against each other. (Made by mkmssame.py.) The program's Check of a message; a recall; messages at all, as each statement of layer 16 asks. The statement's Short: a message whose texts and lists are none too long. Rows of bytes held against each other; the program's Entries. Entries and rows of bytes that came in. Messages that came in. (Split off MsN.) Same of messages: the document's. (Made by mkmssame.py.) -/
import Derived.Test.YtpgeebhepegpaaaMsB
import Derived.Test.YtpgeebhepegpaaaDrS
import Derived.Test.YtpgeebhepegpaaaMsC
import Derived.StillTailTactics
import Derived.Test.YtpgeebhepegpaaaMwD
import Derived.Test.YtpgeebhepegpaaaDrG
import Derived.Deep.Slices
import Derived.Deep.Fields
import Derived.ChangeArms
namespace Go.Proofs.Ytpgeebhepegpaaa
open Go.ChangeShapes Go.WideShapes Go.ChangeAt Go.RowKit

set_option maxRecDepth 3000 in
set_option maxHeartbeats 3200000 in
theorem sleqe_any (v1 v2 : Value) (l m : List En) (w : World) (h1 : EnR7 w v1 l) (h2 : EnR7 w v2 m) : Calls Try.prog 37 #[v1, v2] w fun x w' => x = .returned (.bool (decide (l = m))) ∧ ∃ j, w' = w.drewN j := by
  obtain ⟨A1, c1, rfl, hnc1, hcm1⟩ := h1.form
  obtain ⟨A2, c2, rfl, _, _⟩ := h2.form
  obtain ⟨N, hN⟩ : ∃ N, N = l.length := ⟨_, rfl⟩
  obtain ⟨M, hM⟩ : ∃ N, N = m.length := ⟨_, rfl⟩
  have hbig : (N : Int) ≤ 9223372036854775807 := by unfold maxLen at hcm1; omega
  rw [← hN] at h1 ⊢
  rw [← hM] at h2 ⊢
  have H1 := Lib.hid h1
  have H2 := Lib.hid h2
  have HN := Lib.hid hN
  have HM := Lib.hid hM
  clear h1 h2 hN hM hnc1 hcm1
  by_cases hne : N = M
  · subst hne
    go_enter Try.func37, Try.ntmps37
    go_wp2_with fail
    go_loopw [13] (SaL w N l m) (fun t _ => N - (intOf t).toNat)
    case atStart => exact ⟨0, 0, Nat.zero_le _, rfl, fun i hi => absurd hi (Nat.not_lt_zero _), rfl⟩
    case round =>
      obtain ⟨k, j, hk, rfl, hpre, rfl⟩ := hrel
      have HPRE := Lib.hid hpre
      clear hpre
      by_cases hlt : k < N
      · have hkl : k < l.length := by rw [← HN.out]; exact hlt
        have hkm : k < m.length := by rw [← HM.out]; exact hlt
        obtain ⟨b1, o1, rfl, hb1, f0, f1, f2, f3⟩ := H1.out.at_ HN.out hkl
        obtain ⟨b2, o2, rfl, hb2, g0, g1, g2, g3⟩ := H2.out.at_ HM.out hkm
        have HPQ := Lib.hid (show l[k]? = some l[k] ∧ m[k]? = some m[k] from ⟨List.getElem?_eq_getElem hkl, List.getElem?_eq_getElem hkm⟩)
        obtain ⟨p, hp⟩ : ∃ p, p = l[k] := ⟨_, rfl⟩
        obtain ⟨q, hq⟩ : ∃ q, q = m[k] := ⟨_, rfl⟩
        rw [← hp] at f0 f1 f2 f3 HPQ
        rw [← hq] at g0 g1 g2 g3 HPQ
        have HLT := Lib.hid hlt
        have hki : (k : Int) < (N : Int) := by omega
        clear hp hq hkl hkm hb1 hb2 hlt hk
        obtain ⟨s, i, g, d⟩ := p
        obtain ⟨s', i', g', d'⟩ := q
        simp only at f0 f1 f2 f3 g0 g1 g2 g3
        go_upto_region 6 with (fail)
        by_cases hall : s = s' ∧ i = i' ∧ g = g' ∧ d = d'
        · obtain ⟨rfl, rfl, rfl, rfl⟩ := hall
          go_quiet (fail)
          go_wp2_with fail
          refine ⟨⟨k + 1, _, HLT.out, by go_num, fun i hi => ?_, rfl⟩, by have := HLT.out; simp [intOf] <;> omega⟩
          by_cases e : i = k
          · rw [e, HPQ.out.1, HPQ.out.2]
          · exact HPRE.out i (by omega)
        · have HALL := Lib.hid hall
          have HDEC := Lib.hid (show decide (l = m) = false from decide_eq_false fun e => HALL.out (by have h := HPQ.out; rw [e, h.2] at h; have h := Option.some.inj h.1; injection h with h1 h2 h3 h4; exact ⟨h1.symm, h2.symm, h3.symm, h4.symm⟩))
          by_cases e1 : s = s'
          · subst e1
            by_cases e2 : i = i'
            · subst e2
              by_cases e3 : g = g'
              · subst e3
                have e4 : (d == d') = false := by rw [beq_eq_false_iff_ne]; exact fun e => HALL.out ⟨rfl, rfl, rfl, e⟩
                clear hall
                go_quiet (fail)
                go_wp2_with fail
                go_ret
                exact ⟨by rw [HDEC.out]; rfl, _, rfl⟩
              · have e4 : (g == g') = false := by rw [beq_eq_false_iff_ne]; exact e3
                clear hall e3
                go_quiet (fail)
                go_wp2_with fail
                go_ret
                exact ⟨by rw [HDEC.out]; rfl, _, rfl⟩
            · have e4 : (i == i') = false := by rw [beq_eq_false_iff_ne]; exact e2
              clear hall e2
              go_quiet (fail)
              go_wp2_with fail
              go_ret
              exact ⟨by rw [HDEC.out]; rfl, _, rfl⟩
          · have e4 : (s.toList == s'.toList) = false := by rw [eqS_eq]; exact decide_eq_false e1
            clear hall e1
            go_quiet (fail)
            go_wp2_with fail
            go_ret
            exact ⟨by rw [HDEC.out]; rfl, _, World.drewN_drewN _ _ _⟩
      · obtain rfl : k = N := by omega
        clear hlt hk
        go_wp2_with fail
        go_ret
        refine ⟨?_, j, rfl⟩
        rw [decide_eq_true]
        · rfl
        · apply List.ext_getElem?
          intro i
          by_cases hi : i < k
          · exact HPRE.out i hi
          · rw [List.getElem?_eq_none (by rw [← HN.out]; omega), List.getElem?_eq_none (by rw [← HM.out]; omega)]
  · have hni : ((N : Int) == (M : Int)) = false := by rw [beq_eq_false_iff_ne]; omega
    have HNE := Lib.hid hne
    clear hne
    go_enter Try.func37, Try.ntmps37
    go_wp2_with fail
    all_goals
      go_ret
      refine ⟨?_, 0, rfl⟩
      rw [decide_eq_false]
      · rfl
      · exact fun e => HNE.out (by rw [HN.out, HM.out, e])

open Classical in
noncomputable def sameB (a b : Ms) : Bool := decide (a = b)
open Classical in
set_option maxRecDepth 3000 in
theorem sameB_no {a b : Ms} {α : Type} (f : Ms → α) (h : ¬ f a = f b) : sameB a b = false := decide_eq_false fun e => h (by rw [e])
open Classical in
set_option maxRecDepth 3000 in
theorem sameB_self (a : Ms) : sameB a a = true := decide_eq_true rfl
open Classical in
set_option maxRecDepth 3000 in
theorem sameB_iff (a b : Ms) : sameB a b = true ↔ a = b := decide_eq_true_iff
open Classical in
set_option maxRecDepth 3000 in
theorem sameB_en (a b : Ms) (h : a = { b with en := a.en }) : sameB a b = decide (a.en = b.en) := by
  unfold sameB
  by_cases e : a.en = b.en
  · rw [decide_eq_true e, decide_eq_true]
    rw [h, e]
  · rw [decide_eq_false e, decide_eq_false]
    exact fun x => e (by rw [x])
end Go.Proofs.Ytpgeebhepegpaaa
namespace Go.Proofs.Ytpgeebhepegpaaa
open Go.ChangeShapes Go.WideShapes Go.ChangeAt Go.RowKit

set_option maxRecDepth 3000 in
theorem kw_guardM {ops : Array Oper} {rest : List Oper} {o : Oper} {a : Act} {w : World} {Q : Exit → Act → World → Prop} (hw : Region.wanted o (yielded ops a.tmps) = true) (h : wpList Try.prog ops Q ({ o with guard := none } :: rest) a w) : wpList Try.prog ops Q (o :: rest) a w := by
  unfold wpList at h ⊢
  rw [if_pos hw]
  rw [if_pos (by simp [Region.wanted])] at h
  exact h
set_option maxRecDepth 3000 in
theorem kw_loadC {ops : Array Oper} {rest : List Oper} {o : Oper} {a : Act} {w : World} {Q : Exit → Act → World → Prop} {t t' : TypeId} {C : Array Value} {s : Nat} {d : TypeDesc} (x : Operand) (ho : o.op = .load t x) (hw : Region.wanted o (yielded ops a.tmps) = true) (z : Nat) (hB : Blk w z t' C) (hx : a.eval x = .pointer (some ⟨z, 0, none⟩)) (hu : Try.prog.underlying t = some d) (hd : d.isRow = true) (hs : (Try.prog.info? t).map (·.size) = some s) (hC : C.size = s)
    (h : wpList Try.prog ops Q rest (a.put o.dst (.agg C)) w) : wpList Try.prog ops Q (o :: rest) a w := kw_guardM hw (kop_load rfl x ho z hB hx hu hd hs hC h)
noncomputable def chkM (m : Ms) : Int := if okM m = true then 0 else 4
set_option maxRecDepth 3000 in
set_option maxHeartbeats 3200000 in
theorem check16_any (m : Ms) (v : Value) (hm : WfM m) (w : World) (hE : EnR7 w v m.en) : Calls Try.prog 12 #[.agg (mc m v)] w fun e w' => e = .returned (.int .i64 (chkM m)) ∧ Adv Nul w Nul w' := by
  have HAR := Lib.hid (fun (w' : World) (a : Adv Nul w Nul w') => areright16_any m v (fldM m.ty m.kd m.er).1 (fldM_lt _ _ _) hm w' (hE.step a))
  have HFO := Lib.hid (fun w => fieldsof_any m v w)
  obtain ⟨A, hA⟩ : ∃ A, A = allB m (fldM m.ty m.kd m.er).1 := ⟨_, rfl⟩
  obtain ⟨q, hq⟩ : ∃ q, q = (fldM m.ty m.kd m.er).2 := ⟨_, rfl⟩
  obtain ⟨h, hh⟩ : ∃ q : Int, q = ((fldM m.ty m.kd m.er).1 : Int) := ⟨_, rfl⟩
  obtain ⟨r, hr⟩ : ∃ q, q = decide (ctP m.ss) := ⟨_, rfl⟩
  have HCT := Lib.hid (fun w => show Calls Try.prog 31 #[.int .u64 (m.ss : Int)] w fun e w' => e = .returned (.bool r) ∧ w = w' by rw [hr]; exact mcount_any m.ss w)
  have HOK := Lib.hid (show chkM m = if (q && decide (0 ≤ m.cl ∧ m.cl < 8) && r && A) = true then 0 else 4 by unfold chkM okM; rw [hA, hq, hr])
  rw [← hA, ← hh] at HAR
  rw [← hq, ← hh] at HFO
  obtain ⟨C, hC⟩ : ∃ C, C = mc m v := ⟨_, rfl⟩
  have HC := Lib.hid (fun (z : Nat) (w' : World) (h : Blk w' z 28 C) => (show C18 w' z m v from (show Blk w' z 28 (mc m v) by rw [← hC]; exact h).c18))
  have HCS := Lib.hid (show C.size = 18 by rw [hC]; rfl)
  rw [← hC] at HAR HFO ⊢
  obtain ⟨E, hE2⟩ : ∃ E, E = chkM m := ⟨_, rfl⟩
  rw [← hE2] at HOK ⊢
  clear hA hq hh hr hC hE2 hm hE
  have hcase : m.cl < 0 ∨ 8 ≤ m.cl ∨ (0 ≤ m.cl ∧ m.cl < 8) := by omega
  rcases hcase with g | g | ⟨g, g'⟩
  · obtain rfl : E = 4 := by rw [HOK.out, decide_eq_false (show ¬ (0 ≤ m.cl ∧ m.cl < 8) from by omega)]; simp
    cases q
    all_goals
      go_enter Try.func12, Try.ntmps12
      go_wp2_with (first
        | (refine kop_box rfl _ rfl rfl ?_; intro z w1 hz hb ha; have HA1 := Lib.hid ((Adv.refl Nul w).trans ha); have HB1 := Lib.hid hb; obtain ⟨⟨s0, s1, s2, s3, s4, s5, s6⟩, _, _⟩ := HC.out _ _ hb; clear hz hb ha)
        | (refine kop_load (t := 28) rfl _ rfl z HB1.out rfl Try.underlying28 rfl sizeM HCS.out ?_)
        | (go_at_call 30; refine (HFO.out _).mono ?_; rintro x w2 ⟨rfl, a2⟩; have HA2 := Lib.hid (HA1.out.trans a2); have HB2 := Lib.hid (HB1.out.over a2); clear s0 s1 s2 s3 s4 s5 s6; obtain ⟨⟨s0, s1, s2, s3, s4, s5, s6⟩, _, _⟩ := HC.out _ _ HB2.out; clear a2)
        | fail)
      go_ret
      exact ⟨rfl, HA2.out⟩
  · obtain rfl : E = 4 := by rw [HOK.out, decide_eq_false (show ¬ (0 ≤ m.cl ∧ m.cl < 8) from by omega)]; simp
    cases q
    all_goals
      go_enter Try.func12, Try.ntmps12
      go_wp2_with (first
        | (refine kop_box rfl _ rfl rfl ?_; intro z w1 hz hb ha; have HA1 := Lib.hid ((Adv.refl Nul w).trans ha); have HB1 := Lib.hid hb; obtain ⟨⟨s0, s1, s2, s3, s4, s5, s6⟩, _, _⟩ := HC.out _ _ hb; clear hz hb ha)
        | (refine kop_load (t := 28) rfl _ rfl z HB1.out rfl Try.underlying28 rfl sizeM HCS.out ?_)
        | (go_at_call 30; refine (HFO.out _).mono ?_; rintro x w2 ⟨rfl, a2⟩; have HA2 := Lib.hid (HA1.out.trans a2); have HB2 := Lib.hid (HB1.out.over a2); clear s0 s1 s2 s3 s4 s5 s6; obtain ⟨⟨s0, s1, s2, s3, s4, s5, s6⟩, _, _⟩ := HC.out _ _ HB2.out; clear a2)
        | fail)
      all_goals
        go_ret
        exact ⟨rfl, HA2.out⟩
  · have HOK2 := Lib.hid (show E = if (q && r && A) = true then 0 else 4 by rw [HOK.out, decide_eq_true (show 0 ≤ m.cl ∧ m.cl < 8 from ⟨g, g'⟩), Bool.and_true])
    clear HOK
    cases q with
    | false =>
      obtain rfl : E = 4 := HOK2.out
      go_enter Try.func12, Try.ntmps12
      go_wp2_with (first
        | (refine kop_box rfl _ rfl rfl ?_; intro z w1 hz hb ha; have HA1 := Lib.hid ((Adv.refl Nul w).trans ha); have HB1 := Lib.hid hb; obtain ⟨⟨s0, s1, s2, s3, s4, s5, s6⟩, _, _⟩ := HC.out _ _ hb; clear hz hb ha)
        | (refine kop_load (t := 28) rfl _ rfl z HB1.out rfl Try.underlying28 rfl sizeM HCS.out ?_)
        | (go_at_call 30; refine (HFO.out _).mono ?_; rintro x w2 ⟨rfl, a2⟩; have HA2 := Lib.hid (HA1.out.trans a2); have HB2 := Lib.hid (HB1.out.over a2); clear s0 s1 s2 s3 s4 s5 s6; obtain ⟨⟨s0, s1, s2, s3, s4, s5, s6⟩, _, _⟩ := HC.out _ _ HB2.out; clear a2)
        | fail)
      go_ret
      exact ⟨rfl, HA2.out⟩
    | true =>
      cases r with
      | false =>
        obtain rfl : E = 4 := HOK2.out
        go_enter Try.func12, Try.ntmps12
        go_wp2_with (first
          | (refine kop_box rfl _ rfl rfl ?_; intro z w1 hz hb ha; have HA1 := Lib.hid ((Adv.refl Nul w).trans ha); have HB1 := Lib.hid hb; obtain ⟨⟨s0, s1, s2, s3, s4, s5, s6⟩, _, _⟩ := HC.out _ _ hb; clear hz hb ha)
          | (refine kop_load (t := 28) rfl _ rfl z HB1.out rfl Try.underlying28 rfl sizeM HCS.out ?_)
          | (go_at_call 30; refine (HFO.out _).mono ?_; rintro x w2 ⟨rfl, a2⟩; have HA2 := Lib.hid (HA1.out.trans a2); have HB2 := Lib.hid (HB1.out.over a2); clear s0 s1 s2 s3 s4 s5 s6; obtain ⟨⟨s0, s1, s2, s3, s4, s5, s6⟩, _, _⟩ := HC.out _ _ HB2.out; clear a2)
          | (go_at_call 31; refine (HCT.out _).mono ?_; rintro x w3 ⟨rfl, rfl⟩)
          | fail)
        go_ret
        exact ⟨rfl, HA2.out⟩
      | true =>
        have HOK3 := Lib.hid (show E = if A = true then 0 else 4 from HOK2.out)
        clear HOK2
        cases A
        all_goals
          have hek := HOK3.out
          first
          | (replace hek : E = 4 := hek)
          | (replace hek : E = 0 := hek)
          subst hek
          go_enter Try.func12, Try.ntmps12
          go_wp2_with (first
            | (refine kop_box rfl _ rfl rfl ?_; intro z w1 hz hb ha; have HA1 := Lib.hid ((Adv.refl Nul w).trans ha); have HB1 := Lib.hid hb; obtain ⟨⟨s0, s1, s2, s3, s4, s5, s6⟩, _, _⟩ := HC.out _ _ hb; clear hz hb ha)
            | (refine kop_load (t := 28) rfl _ rfl z HB1.out rfl Try.underlying28 rfl sizeM HCS.out ?_)
            | (go_at_call 30; refine (HFO.out _).mono ?_; rintro x w2 ⟨rfl, a2⟩; have HA2 := Lib.hid (HA1.out.trans a2); have HB2 := Lib.hid (HB1.out.over a2); clear s0 s1 s2 s3 s4 s5 s6; obtain ⟨⟨s0, s1, s2, s3, s4, s5, s6⟩, _, _⟩ := HC.out _ _ HB2.out; clear a2)
            | (go_at_call 31; refine (HCT.out _).mono ?_; rintro x w3 ⟨rfl, rfl⟩)
            | (refine kw_loadC (t := 28) _ rfl (by simp [Region.wanted, yielded, g, g']) z HB2.out rfl Try.underlying28 rfl sizeM HCS.out ?_)
            | (go_at_call 32; refine (HAR.out _ HA2.out).mono ?_; rintro x w4 ⟨rfl, a4⟩; have HA4 := Lib.hid (HA2.out.trans a4); clear a4)
            | fail)
          go_ret
          exact ⟨rfl, HA4.out⟩
end Go.Proofs.Ytpgeebhepegpaaa
namespace Go.Proofs.Ytpgeebhepegpaaa
open Go.ChangeShapes Go.WideShapes Go.ChangeAt Go.RowKit

def cut70 (s : ByteArray) : ByteArray := if 70 < s.size then s.extract 0 70 else s
set_option maxRecDepth 3000 in
theorem cut70_size (s : ByteArray) : (cut70 s).size ≤ 70 := by
  unfold cut70
  split
  · simp only [ByteArray.size_extract]; omega
  · omega
def shM (m : Ms) : Ms := { m with nm := cut20 m.nm, ot := cut20 m.ot, da := cut70 m.da, en := fewL 26 m.en }
/-- numbers that may be, sizes of any -/
structure WfAm (m : Ms) : Prop where
  ss : m.ss < 18446744073709551616
  sq : m.sq < 18446744073709551616
  bo : m.bo < 18446744073709551616
  ve : m.ve < 18446744073709551616
  nm : m.nm.size ≤ maxLen
  ot : m.ot.size ≤ maxLen
  da : m.da.size ≤ maxLen
set_option maxRecDepth 3000 in
theorem WfAm.short {m : Ms} (h : WfAm m) : WfM (shM m) := ⟨h.ss, h.sq, h.bo, h.ve, Nat.le_trans (cut20_size _) (by decide), Nat.le_trans (cut20_size _) (by decide), Nat.le_trans (cut70_size _) (by decide), by show (fewL 26 m.en).length ≤ 1000; rw [fewL_length]; omega⟩
set_option maxRecDepth 3000 in
theorem WfM.any {m : Ms} (h : WfM m) : WfAm m := ⟨h.ss, h.sq, h.bo, h.ve, by have := h.nm; unfold maxLen; omega, by have := h.ot; unfold maxLen; omega, by have := h.da; unfold maxLen; omega⟩
set_option maxRecDepth 3000 in
theorem cut20_id {s : ByteArray} (h : s.size ≤ 20) : cut20 s = s := if_neg (by omega)
set_option maxRecDepth 3000 in
theorem cut70_id {s : ByteArray} (h : s.size ≤ 70) : cut70 s = s := if_neg (by omega)
set_option maxRecDepth 3000 in
theorem cutE7_twice (e : En) : cutE7 (cutE7 e) = cutE7 e := by
  unfold cutE7
  simp only [cut20_id (cut20_size e.s)]
set_option maxRecDepth 3000 in
theorem shM_twice (m : Ms) : shM (shM m) = shM m := by
  have e1 : fewL 26 (fewL 26 m.en) = fewL 26 m.en := by
    unfold fewL
    rw [← List.map_take, List.take_take, List.map_map, Nat.min_self]
    exact List.map_congr_left fun e _ => cutE7_twice e
  unfold shM
  simp only [cut20_id (cut20_size _), cut70_id (cut70_size _), e1]
set_option maxRecDepth 3000 in
theorem EnO.fromM {w w0 w1 : World} {l : List En} {v : Value} (h : EnO w0 l v w1) (ha : Adv Nul w Nul w0) : EnO w l v w1 := by
  obtain ⟨F, h1, h2⟩ := h.ex
  exact ⟨⟨F, h1, ha.trans h2⟩, h.sz⟩
set_option maxRecDepth 3000 in
theorem EnO.far1 {w wr w' : World} {l : List En} {v : Value} {u : Nat} (h : EnO w l v wr) (hu : w.heap.size ≤ u) (hn : ∀ j, v.ownBlock = some j → j ≠ u) (k : Adv (One u) wr (One u) w') : EnO w l v w' := by
  obtain ⟨F, h1, h2⟩ := h.ex
  refine ⟨⟨fun j => v.ownBlock = some j, ⟨own_keep h1.own (fun j hj => k.block j (h1.bd j (h1.inF j hj)) (fun e => hn j hj e)), fun j hj => hj, fun j hj => Nat.lt_of_lt_of_le (h1.bd j (h1.inF j hj)) k.size⟩, ?_⟩, h.sz⟩
  exact ⟨k.os.trans h2.os, k.tape.trans h2.tape, k.output.trans h2.output, Nat.le_trans h2.size k.size, fun i hi hx => (k.block i (Nat.lt_of_lt_of_le hi h2.size) (fun e => by unfold One at e; omega)).trans (h2.block i hi hx), fun j hj => (h2.into j (h1.inF j hj)).elim (fun x => x.elim) .inr⟩
set_option maxRecDepth 3000 in
theorem EnO.new_ {V wr : World} {l : List En} {v : Value} (h : EnO V l v wr) : ∀ j, v.ownBlock = some j → V.heap.size ≤ j := fun j hj => by
  obtain ⟨F, h1, h2⟩ := h.ex
  exact (h2.into j (h1.inF j hj)).elim (fun x => x.elim) id
set_option maxRecDepth 3000 in
theorem EnO.putz {w V wr w' : World} {l : List En} {v : Value} {z : Nat} (h : EnO V l v wr) (hV : Adv Nul w Nul V) (hz : w.heap.size ≤ z) (hzV : z < V.heap.size) (k : Adv (One z) wr (One z) w') : EnO w l v w' := by
  obtain ⟨F, h1, h2⟩ := h.ex
  have hF : ∀ j, F j → V.heap.size ≤ j := fun j hj => (h2.into j hj).elim (fun x => x.elim) id
  have hB : ∀ j, F j → w'.heap[j]? = wr.heap[j]? := fun j hj => k.block j (h1.bd j hj) (fun e => by have := hF j hj; unfold One at e; omega)
  refine ⟨⟨F, ⟨own_keep h1.own (fun j hj => hB j (h1.inF j hj)), h1.inF, fun j hj => Nat.lt_of_lt_of_le (h1.bd j hj) k.size⟩, ?_⟩, h.sz⟩
  have h3 := hV.trans h2
  exact ⟨k.os.trans h3.os, k.tape.trans h3.tape, k.output.trans h3.output, Nat.le_trans h3.size k.size, fun i hi hn => (k.block i (Nat.lt_of_lt_of_le hi h3.size) (fun e => by unfold One at e; omega)).trans (h3.block i hi hn), fun j hj => .inr (Nat.le_trans hV.size (hF j hj))⟩
def ShR (w : World) (m : Ms) (e : Ending) (w' : World) : Prop := ∃ v, e = .returned (.agg (mc (shM m) v)) ∧ EnO w (fewL 26 m.en) v w'
set_option maxRecDepth 3000 in
set_option maxHeartbeats 6400000 in
theorem short16_any (m : Ms) (v : Value) (hm : WfAm m) (w : World) (hE : EnR7 w v m.en) : Calls Try.prog 11 #[.agg (mc m v)] w (ShR w m) := by
  obtain ⟨A, N, c, rfl, hN, hcm⟩ : ∃ A N c, v = .slice A N c ∧ N = m.en.length ∧ c ≤ maxLen ∧ N ≤ c := by
    obtain ⟨A, c, e, h1, h2⟩ := hE.form
    exact ⟨A, _, c, e, rfl, h2, h1⟩
  have hbig : (N : Int) ≤ 9223372036854775807 := by unfold maxLen at hcm; omega
  have HI := Lib.hid infoM
  have HS20 := Lib.hid (fun (w : World) => (short20 m.nm w hm.nm).mono fun e w' h => (show e = .returned (.string (cut20 m.nm)) ∧ w' = w from ⟨h.1, h.2.symm⟩))
  have HO20 := Lib.hid (fun (w : World) => (short20 m.ot w hm.ot).mono fun e w' h => (show e = .returned (.string (cut20 m.ot)) ∧ w' = w from ⟨h.1, h.2.symm⟩))
  have HS70 := Lib.hid (fun (w : World) => (short_any m.da 70 w (by decide) hm.da).mono fun e w' h => (show e = .returned (.string (cut70 m.da)) ∧ w' = w from ⟨h.1, h.2.symm⟩))
  obtain ⟨C, hC⟩ : ∃ C, C = mc m (.slice A N c) := ⟨_, rfl⟩
  have HC := Lib.hid hC
  obtain ⟨Z, hZ⟩ : ∃ C, C = mc ms0 nilV := ⟨_, rfl⟩
  have HZS := Lib.hid (show Z.size = 18 by rw [hZ]; rfl)
  rw [← hZ] at HI
  rw [← hC]
  have HEN := Lib.hid hE
  have HN := Lib.hid hN
  clear hC hZ hE hN hcm hm
  go_enter Try.func11, Try.ntmps11
  go_upto_region 1 with (first
    | (refine kop_box rfl _ rfl rfl ?_; intro z w1 hz hb ha; have HA1 := Lib.hid ((Adv.refl Nul w).trans ha); have HB1 := Lib.hid hb; have HZ1 := Lib.hid hz; clear hz hb ha)
    | (refine kop_alloc rfl rfl HI.out ?_; intro u w2 hz hb ha; have HU2 := Lib.hid (Nat.le_trans HA1.out.size hz); have HBU := Lib.hid hb; have HA2 := Lib.hid (HA1.out.trans ha); have HB2 := Lib.hid (HB1.out.over ha); have HZU := Lib.hid (show z ≠ u from fun e => by have := HB1.out.lt; omega); clear hz hb ha)
    | fail)
  have HBz := Lib.hid (show Blk w2 z 28 (mc m (.slice A N c)) by rw [← HC.out]; exact HB2.out)
  obtain ⟨⟨s0, s1, s2, s3, s4, s5, s6⟩, ⟨s7, s8, s9, s10⟩, ⟨s11, s12, s13, s14, s15, s16, s17⟩⟩ := HBz.out.c18
  obtain ⟨V, hV⟩ : ∃ V, V = ((w2.drew.setCell ⟨z, 11, none⟩ (.string (cut20 m.nm))).setCell ⟨z, 12, none⟩ (.string (cut20 m.ot))).setCell ⟨z, 15, none⟩ (.string (cut70 m.da)) := ⟨_, rfl⟩
  have HBV := Lib.hid (show Blk V z 28 (mc { m with nm := cut20 m.nm, ot := cut20 m.ot, da := cut70 m.da } (.slice A N c)) by
    rw [hV]
    exact ((show Blk w2.drew z 28 (mc m (.slice A N c)) from HBz.out).set_ 11 (.string (cut20 m.nm)) |>.set_ 12 (.string (cut20 m.ot)) |>.set_ 15 (.string (cut70 m.da))))
  have HUV := Lib.hid (show Blk V u 28 Z by
    rw [hV]
    exact (((show Blk w2.drew u 28 Z from HBU.out).far (p := ⟨z, 11, none⟩) HZU.out.symm _).far (p := ⟨z, 12, none⟩) HZU.out.symm _).far (p := ⟨z, 15, none⟩) HZU.out.symm _)
  have HAV := Lib.hid (show Adv Nul w Nul V by
    rw [hV]
    exact ((HA2.out.drew.setCell (p := ⟨z, 11, none⟩) (.inr HZ1.out) _).setCell (p := ⟨z, 12, none⟩) (.inr HZ1.out) _).setCell (p := ⟨z, 15, none⟩) (.inr HZ1.out) _)
  have HV := Lib.hid hV
  have f11 : w2.frozen? ⟨z, 11, none⟩ = false := HBz.out.frozen 11
  have f12 : w2.frozen? ⟨z, 12, none⟩ = false := HBz.out.frozen 12
  have f15 : w2.frozen? ⟨z, 15, none⟩ = false := HBz.out.frozen 15
  clear hV s0 s1 s2 s3 s4 s5 s6 s7 s8 s9 s10 s13 s14 s16 s17
  try simp only [Act.put, sA, sB, sC]
  go_cut [14] (fun t wx => t = .string (cut70 m.da) ∧ wx = V)
  case first =>
    as_aux_lemma =>
    refine rstart (S := (fun _ => True)) (by first | exact True.intro) (fun hH => ?_)
    refine tk (i := 0) (oi := ⟨some 6, .fieldAddr 28 (.tmp 1) 9, 0, "law.go:27", #[], none⟩) hH.out (by rintro w s0; go_simp <;> with_reducible rfl) ?_
    simp only [Act.put, sA, sB, sC]
    refine tk (i := 3) (oi := ⟨some 9, .fieldAddr 28 (.tmp 1) 10, 0, "law.go:27", #[], none⟩) hH.out (by rintro w s0; go_simp <;> with_reducible rfl) ?_
    simp only [Act.put, sA, sB, sC]
    refine tk (i := 6) (oi := ⟨some 12, .fieldAddr 28 (.tmp 1) 13, 0, "law.go:27", #[], none⟩) hH.out (by rintro w s0; go_simp <;> with_reducible rfl) ?_
    simp only [Act.put, sA, sB, sC]
    refine wpAnyH_ready (rs := [1, 4, 7]) (by kernel_rfl) (by simp) ?_
    refine AllReadyH.cons (o := ⟨some 7, .load 9 (.tmp 6), 9, "law.go:27", #[⟨0, .data⟩], none⟩) rfl (fun K hK => ?_) (AllReadyH.cons (o := ⟨some 10, .load 9 (.tmp 9), 9, "law.go:27", #[⟨3, .data⟩], none⟩) rfl (fun K hK => ?_) (AllReadyH.cons (o := ⟨some 13, .load 9 (.tmp 12), 9, "law.go:27", #[⟨6, .data⟩], none⟩) rfl (fun K hK => ?_) (AllReadyH.nil)))
    · go_simp
      refine hK.out _ _ (by first | exact True.intro) (fun hHeld => ?_)
      replace hH := Lib.hid hHeld
      clear hK K hHeld
      try simp only [Act.put, sA, sB, sC]
      refine wpAnyH_ready (rs := [2, 4, 7]) (by kernel_rfl) (by simp) ?_
      refine AllReadyH.cons (o := ⟨some 8, .call ⟨.value (.func 29), #[.tmp 7, .const (Go.Value.int Go.IntKind.i64 20)], #[9, 3]⟩, 9, "law.go:27", #[⟨1, .data⟩], none⟩) rfl (fun K hK => ?_) (AllReadyH.cons (o := ⟨some 10, .load 9 (.tmp 9), 9, "law.go:27", #[⟨3, .data⟩], none⟩) rfl (fun K hK => ?_) (AllReadyH.cons (o := ⟨some 13, .load 9 (.tmp 12), 9, "law.go:27", #[⟨6, .data⟩], none⟩) rfl (fun K hK => ?_) (AllReadyH.nil)))
      · go_simp
        refine (HS20.out _).mono ?_
        rintro r w11 ⟨rfl, rfl⟩
        go_wp2_with fail
        refine hK.out _ _ (by first | exact True.intro) (fun hHeld => ?_)
        replace hH := Lib.hid hHeld
        clear hK K hHeld
        try simp only [Act.put, sA, sB, sC]
        refine wpAnyH_ready (rs := [4, 7]) (by kernel_rfl) (by simp) ?_
        refine AllReadyH.cons (o := ⟨some 10, .load 9 (.tmp 9), 9, "law.go:27", #[⟨3, .data⟩], none⟩) rfl (fun K hK => ?_) (AllReadyH.cons (o := ⟨some 13, .load 9 (.tmp 12), 9, "law.go:27", #[⟨6, .data⟩], none⟩) rfl (fun K hK => ?_) (AllReadyH.nil))
        · go_simp
          refine hK.out _ _ (by first | exact True.intro) (fun hHeld => ?_)
          replace hH := Lib.hid hHeld
          clear hK K hHeld
          try simp only [Act.put, sA, sB, sC]
          refine wpAnyH_ready (rs := [5, 7]) (by kernel_rfl) (by simp) ?_
          refine AllReadyH.cons (o := ⟨some 11, .call ⟨.value (.func 29), #[.tmp 10, .const (Go.Value.int Go.IntKind.i64 20)], #[9, 3]⟩, 9, "law.go:27", #[⟨4, .data⟩, ⟨2, .chain⟩], none⟩) rfl (fun K hK => ?_) (AllReadyH.cons (o := ⟨some 13, .load 9 (.tmp 12), 9, "law.go:27", #[⟨6, .data⟩], none⟩) rfl (fun K hK => ?_) (AllReadyH.nil))
          · go_simp
            refine (HO20.out _).mono ?_
            rintro r w11 ⟨rfl, rfl⟩
            go_wp2_with fail
            refine hK.out _ _ (by first | exact True.intro) (fun hHeld => ?_)
            replace hH := Lib.hid hHeld
            clear hK K hHeld
            try simp only [Act.put, sA, sB, sC]
            refine rdy (i := 7) (oi := ⟨some 13, .load 9 (.tmp 12), 9, "law.go:27", #[⟨6, .data⟩], none⟩) (fun K hK => ?_)
            go_simp
            refine hK.out _ _ (by first | exact True.intro) (fun hHeld => ?_)
            replace hH := Lib.hid hHeld
            clear hK K hHeld
            try simp only [Act.put, sA, sB, sC]
            refine tk (i := 9) (oi := ⟨some 15, .fieldAddr 28 (.tmp 1) 9, 0, "law.go:27", #[⟨0, .phase⟩, ⟨1, .phase⟩, ⟨2, .phase⟩, ⟨3, .phase⟩, ⟨4, .phase⟩, { on := 5, ground := Go.Ground.textOnly Go.Departure.lateStoresUnsure }, ⟨6, .phase⟩, ⟨7, .phase⟩, { on := 8, ground := Go.Ground.textOnly Go.Departure.lateStoresUnsure }], none⟩) hH.out (by rintro w s0; go_simp <;> with_reducible rfl) ?_
            simp only [Act.put, sA, sB, sC]
            refine rdy (i := 8) (oi := ⟨some 14, .call ⟨.value (.func 29), #[.tmp 13, .const (Go.Value.int Go.IntKind.i64 70)], #[9, 3]⟩, 9, "law.go:27", #[⟨7, .data⟩, ⟨5, .chain⟩], none⟩) (fun K hK => ?_)
            go_simp
            refine (HS70.out _).mono ?_
            rintro r w11 ⟨rfl, rfl⟩
            go_wp2_with fail
            refine hK.out _ _ (by first | exact True.intro) (fun hHeld => ?_)
            replace hH := Lib.hid hHeld
            clear hK K hHeld
            try simp only [Act.put, sA, sB, sC]
            refine rdy (i := 10) (oi := ⟨none, .store 9 (.tmp 15) (.tmp 8), 0, "law.go:27", #[⟨9, .data⟩, ⟨2, .data⟩, ⟨8, .chain⟩, ⟨0, .phase⟩, ⟨1, .phase⟩, ⟨2, .phase⟩, ⟨3, .phase⟩, ⟨4, .phase⟩, { on := 5, ground := Go.Ground.textOnly Go.Departure.lateStoresUnsure }, ⟨6, .phase⟩, ⟨7, .phase⟩, { on := 8, ground := Go.Ground.textOnly Go.Departure.lateStoresUnsure }], none⟩) (fun K hK => ?_)
            go_simp
            refine hK.out _ _ (by first | exact True.intro) (fun hHeld => ?_)
            replace hH := Lib.hid hHeld
            clear hK K hHeld
            try simp only [Act.put]
            refine tk (i := 11) (oi := ⟨some 16, .fieldAddr 28 (.tmp 1) 10, 0, "law.go:27", #[⟨0, .phase⟩, ⟨1, .phase⟩, ⟨2, .phase⟩, ⟨3, .phase⟩, ⟨4, .phase⟩, ⟨5, .phase⟩, ⟨6, .phase⟩, ⟨7, .phase⟩, { on := 8, ground := Go.Ground.textOnly Go.Departure.lateStoresUnsure }, ⟨9, .phase⟩, ⟨10, .phase⟩], none⟩) hH.out (by rintro w s0; go_simp <;> with_reducible rfl) ?_
            simp only [Act.put, sA, sB, sC]
            refine rdy (i := 12) (oi := ⟨none, .store 9 (.tmp 16) (.tmp 11), 0, "law.go:27", #[⟨11, .data⟩, ⟨5, .data⟩, ⟨10, .chain⟩, ⟨0, .phase⟩, ⟨1, .phase⟩, ⟨2, .phase⟩, ⟨3, .phase⟩, ⟨4, .phase⟩, ⟨5, .phase⟩, ⟨6, .phase⟩, ⟨7, .phase⟩, { on := 8, ground := Go.Ground.textOnly Go.Departure.lateStoresUnsure }, ⟨9, .phase⟩, ⟨10, .phase⟩], none⟩) (fun K hK => ?_)
            go_simp
            refine hK.out _ _ (by first | exact True.intro) (fun hHeld => ?_)
            replace hH := Lib.hid hHeld
            clear hK K hHeld
            try simp only [Act.put]
            refine tk (i := 13) (oi := ⟨some 17, .fieldAddr 28 (.tmp 1) 13, 0, "law.go:27", #[⟨0, .phase⟩, ⟨1, .phase⟩, ⟨2, .phase⟩, ⟨3, .phase⟩, ⟨4, .phase⟩, ⟨5, .phase⟩, ⟨6, .phase⟩, ⟨7, .phase⟩, ⟨8, .phase⟩, ⟨9, .phase⟩, ⟨10, .phase⟩, ⟨11, .phase⟩, ⟨12, .phase⟩], none⟩) hH.out (by rintro w s0; go_simp <;> with_reducible rfl) ?_
            simp only [Act.put, sA, sB, sC]
            refine rdy (i := 14) (oi := ⟨none, .store 9 (.tmp 17) (.tmp 14), 0, "law.go:27", #[⟨13, .data⟩, ⟨8, .data⟩, ⟨12, .chain⟩, ⟨0, .phase⟩, ⟨1, .phase⟩, ⟨2, .phase⟩, ⟨3, .phase⟩, ⟨4, .phase⟩, ⟨5, .phase⟩, ⟨6, .phase⟩, ⟨7, .phase⟩, ⟨8, .phase⟩, ⟨9, .phase⟩, ⟨10, .phase⟩, ⟨11, .phase⟩, ⟨12, .phase⟩], none⟩) (fun K hK => ?_)
            go_simp
            refine hK.out _ _ (by first | exact True.intro) (fun hHeld => ?_)
            replace hH := Lib.hid hHeld
            clear hK K hHeld
            try simp only [Act.put]
            refine wpAnyH_done (by kernel_rfl) ?_ _
            go_wp2_with fail
            go_meet
            exact ⟨rfl, HV.out.symm⟩
          · go_simp
            refine hK.out _ _ (by first | exact True.intro) (fun hHeld => ?_)
            replace hH := Lib.hid hHeld
            clear hK K hHeld
            try simp only [Act.put, sA, sB, sC]
            refine tk (i := 9) (oi := ⟨some 15, .fieldAddr 28 (.tmp 1) 9, 0, "law.go:27", #[⟨0, .phase⟩, ⟨1, .phase⟩, ⟨2, .phase⟩, ⟨3, .phase⟩, ⟨4, .phase⟩, { on := 5, ground := Go.Ground.textOnly Go.Departure.lateStoresUnsure }, ⟨6, .phase⟩, ⟨7, .phase⟩, { on := 8, ground := Go.Ground.textOnly Go.Departure.lateStoresUnsure }], none⟩) hH.out (by rintro w s0; go_simp <;> with_reducible rfl) ?_
            simp only [Act.put, sA, sB, sC]
            refine rdy (i := 5) (oi := ⟨some 11, .call ⟨.value (.func 29), #[.tmp 10, .const (Go.Value.int Go.IntKind.i64 20)], #[9, 3]⟩, 9, "law.go:27", #[⟨4, .data⟩, ⟨2, .chain⟩], none⟩) (fun K hK => ?_)
            go_simp
            refine (HO20.out _).mono ?_
            rintro r w11 ⟨rfl, rfl⟩
            go_wp2_with fail
            refine hK.out _ _ (by first | exact True.intro) (fun hHeld => ?_)
            replace hH := Lib.hid hHeld
            clear hK K hHeld
            try simp only [Act.put, sA, sB, sC]
            refine rdy (i := 8) (oi := ⟨some 14, .call ⟨.value (.func 29), #[.tmp 13, .const (Go.Value.int Go.IntKind.i64 70)], #[9, 3]⟩, 9, "law.go:27", #[⟨7, .data⟩, ⟨5, .chain⟩], none⟩) (fun K hK => ?_)
            go_simp
            refine (HS70.out _).mono ?_
            rintro r w11 ⟨rfl, rfl⟩
            go_wp2_with fail
            refine hK.out _ _ (by first | exact True.intro) (fun hHeld => ?_)
            replace hH := Lib.hid hHeld
            clear hK K hHeld
            try simp only [Act.put, sA, sB, sC]
            refine rdy (i := 10) (oi := ⟨none, .store 9 (.tmp 15) (.tmp 8), 0, "law.go:27", #[⟨9, .data⟩, ⟨2, .data⟩, ⟨8, .chain⟩, ⟨0, .phase⟩, ⟨1, .phase⟩, ⟨2, .phase⟩, ⟨3, .phase⟩, ⟨4, .phase⟩, { on := 5, ground := Go.Ground.textOnly Go.Departure.lateStoresUnsure }, ⟨6, .phase⟩, ⟨7, .phase⟩, { on := 8, ground := Go.Ground.textOnly Go.Departure.lateStoresUnsure }], none⟩) (fun K hK => ?_)
            go_simp
            refine hK.out _ _ (by first | exact True.intro) (fun hHeld => ?_)
            replace hH := Lib.hid hHeld
            clear hK K hHeld
            try simp only [Act.put]
            refine tk (i := 11) (oi := ⟨some 16, .fieldAddr 28 (.tmp 1) 10, 0, "law.go:27", #[⟨0, .phase⟩, ⟨1, .phase⟩, ⟨2, .phase⟩, ⟨3, .phase⟩, ⟨4, .phase⟩, ⟨5, .phase⟩, ⟨6, .phase⟩, ⟨7, .phase⟩, { on := 8, ground := Go.Ground.textOnly Go.Departure.lateStoresUnsure }, ⟨9, .phase⟩, ⟨10, .phase⟩], none⟩) hH.out (by rintro w s0; go_simp <;> with_reducible rfl) ?_
            simp only [Act.put, sA, sB, sC]
            refine rdy (i := 12) (oi := ⟨none, .store 9 (.tmp 16) (.tmp 11), 0, "law.go:27", #[⟨11, .data⟩, ⟨5, .data⟩, ⟨10, .chain⟩, ⟨0, .phase⟩, ⟨1, .phase⟩, ⟨2, .phase⟩, ⟨3, .phase⟩, ⟨4, .phase⟩, ⟨5, .phase⟩, ⟨6, .phase⟩, ⟨7, .phase⟩, { on := 8, ground := Go.Ground.textOnly Go.Departure.lateStoresUnsure }, ⟨9, .phase⟩, ⟨10, .phase⟩], none⟩) (fun K hK => ?_)
            go_simp
            refine hK.out _ _ (by first | exact True.intro) (fun hHeld => ?_)
            replace hH := Lib.hid hHeld
            clear hK K hHeld
            try simp only [Act.put]
            refine tk (i := 13) (oi := ⟨some 17, .fieldAddr 28 (.tmp 1) 13, 0, "law.go:27", #[⟨0, .phase⟩, ⟨1, .phase⟩, ⟨2, .phase⟩, ⟨3, .phase⟩, ⟨4, .phase⟩, ⟨5, .phase⟩, ⟨6, .phase⟩, ⟨7, .phase⟩, ⟨8, .phase⟩, ⟨9, .phase⟩, ⟨10, .phase⟩, ⟨11, .phase⟩, ⟨12, .phase⟩], none⟩) hH.out (by rintro w s0; go_simp <;> with_reducible rfl) ?_
            simp only [Act.put, sA, sB, sC]
            refine rdy (i := 14) (oi := ⟨none, .store 9 (.tmp 17) (.tmp 14), 0, "law.go:27", #[⟨13, .data⟩, ⟨8, .data⟩, ⟨12, .chain⟩, ⟨0, .phase⟩, ⟨1, .phase⟩, ⟨2, .phase⟩, ⟨3, .phase⟩, ⟨4, .phase⟩, ⟨5, .phase⟩, ⟨6, .phase⟩, ⟨7, .phase⟩, ⟨8, .phase⟩, ⟨9, .phase⟩, ⟨10, .phase⟩, ⟨11, .phase⟩, ⟨12, .phase⟩], none⟩) (fun K hK => ?_)
            go_simp
            refine hK.out _ _ (by first | exact True.intro) (fun hHeld => ?_)
            replace hH := Lib.hid hHeld
            clear hK K hHeld
            try simp only [Act.put]
            refine wpAnyH_done (by kernel_rfl) ?_ _
            go_wp2_with fail
            go_meet
            exact ⟨rfl, HV.out.symm⟩
        · go_simp
          refine hK.out _ _ (by first | exact True.intro) (fun hHeld => ?_)
          replace hH := Lib.hid hHeld
          clear hK K hHeld
          try simp only [Act.put, sA, sB, sC]
          refine rdy (i := 4) (oi := ⟨some 10, .load 9 (.tmp 9), 9, "law.go:27", #[⟨3, .data⟩], none⟩) (fun K hK => ?_)
          go_simp
          refine hK.out _ _ (by first | exact True.intro) (fun hHeld => ?_)
          replace hH := Lib.hid hHeld
          clear hK K hHeld
          try simp only [Act.put, sA, sB, sC]
          refine tk (i := 9) (oi := ⟨some 15, .fieldAddr 28 (.tmp 1) 9, 0, "law.go:27", #[⟨0, .phase⟩, ⟨1, .phase⟩, ⟨2, .phase⟩, ⟨3, .phase⟩, ⟨4, .phase⟩, { on := 5, ground := Go.Ground.textOnly Go.Departure.lateStoresUnsure }, ⟨6, .phase⟩, ⟨7, .phase⟩, { on := 8, ground := Go.Ground.textOnly Go.Departure.lateStoresUnsure }], none⟩) hH.out (by rintro w s0; go_simp <;> with_reducible rfl) ?_
          simp only [Act.put, sA, sB, sC]
          refine rdy (i := 5) (oi := ⟨some 11, .call ⟨.value (.func 29), #[.tmp 10, .const (Go.Value.int Go.IntKind.i64 20)], #[9, 3]⟩, 9, "law.go:27", #[⟨4, .data⟩, ⟨2, .chain⟩], none⟩) (fun K hK => ?_)
          go_simp
          refine (HO20.out _).mono ?_
          rintro r w11 ⟨rfl, rfl⟩
          go_wp2_with fail
          refine hK.out _ _ (by first | exact True.intro) (fun hHeld => ?_)
          replace hH := Lib.hid hHeld
          clear hK K hHeld
          try simp only [Act.put, sA, sB, sC]
          refine rdy (i := 8) (oi := ⟨some 14, .call ⟨.value (.func 29), #[.tmp 13, .const (Go.Value.int Go.IntKind.i64 70)], #[9, 3]⟩, 9, "law.go:27", #[⟨7, .data⟩, ⟨5, .chain⟩], none⟩) (fun K hK => ?_)
          go_simp
          refine (HS70.out _).mono ?_
          rintro r w11 ⟨rfl, rfl⟩
          go_wp2_with fail
          refine hK.out _ _ (by first | exact True.intro) (fun hHeld => ?_)
          replace hH := Lib.hid hHeld
          clear hK K hHeld
          try simp only [Act.put, sA, sB, sC]
          refine rdy (i := 10) (oi := ⟨none, .store 9 (.tmp 15) (.tmp 8), 0, "law.go:27", #[⟨9, .data⟩, ⟨2, .data⟩, ⟨8, .chain⟩, ⟨0, .phase⟩, ⟨1, .phase⟩, ⟨2, .phase⟩, ⟨3, .phase⟩, ⟨4, .phase⟩, { on := 5, ground := Go.Ground.textOnly Go.Departure.lateStoresUnsure }, ⟨6, .phase⟩, ⟨7, .phase⟩, { on := 8, ground := Go.Ground.textOnly Go.Departure.lateStoresUnsure }], none⟩) (fun K hK => ?_)
          go_simp
          refine hK.out _ _ (by first | exact True.intro) (fun hHeld => ?_)
          replace hH := Lib.hid hHeld
          clear hK K hHeld
          try simp only [Act.put]
          refine tk (i := 11) (oi := ⟨some 16, .fieldAddr 28 (.tmp 1) 10, 0, "law.go:27", #[⟨0, .phase⟩, ⟨1, .phase⟩, ⟨2, .phase⟩, ⟨3, .phase⟩, ⟨4, .phase⟩, ⟨5, .phase⟩, ⟨6, .phase⟩, ⟨7, .phase⟩, { on := 8, ground := Go.Ground.textOnly Go.Departure.lateStoresUnsure }, ⟨9, .phase⟩, ⟨10, .phase⟩], none⟩) hH.out (by rintro w s0; go_simp <;> with_reducible rfl) ?_
          simp only [Act.put, sA, sB, sC]
          refine rdy (i := 12) (oi := ⟨none, .store 9 (.tmp 16) (.tmp 11), 0, "law.go:27", #[⟨11, .data⟩, ⟨5, .data⟩, ⟨10, .chain⟩, ⟨0, .phase⟩, ⟨1, .phase⟩, ⟨2, .phase⟩, ⟨3, .phase⟩, ⟨4, .phase⟩, ⟨5, .phase⟩, ⟨6, .phase⟩, ⟨7, .phase⟩, { on := 8, ground := Go.Ground.textOnly Go.Departure.lateStoresUnsure }, ⟨9, .phase⟩, ⟨10, .phase⟩], none⟩) (fun K hK => ?_)
          go_simp
          refine hK.out _ _ (by first | exact True.intro) (fun hHeld => ?_)
          replace hH := Lib.hid hHeld
          clear hK K hHeld
          try simp only [Act.put]
          refine tk (i := 13) (oi := ⟨some 17, .fieldAddr 28 (.tmp 1) 13, 0, "law.go:27", #[⟨0, .phase⟩, ⟨1, .phase⟩, ⟨2, .phase⟩, ⟨3, .phase⟩, ⟨4, .phase⟩, ⟨5, .phase⟩, ⟨6, .phase⟩, ⟨7, .phase⟩, ⟨8, .phase⟩, ⟨9, .phase⟩, ⟨10, .phase⟩, ⟨11, .phase⟩, ⟨12, .phase⟩], none⟩) hH.out (by rintro w s0; go_simp <;> with_reducible rfl) ?_
          simp only [Act.put, sA, sB, sC]
          refine rdy (i := 14) (oi := ⟨none, .store 9 (.tmp 17) (.tmp 14), 0, "law.go:27", #[⟨13, .data⟩, ⟨8, .data⟩, ⟨12, .chain⟩, ⟨0, .phase⟩, ⟨1, .phase⟩, ⟨2, .phase⟩, ⟨3, .phase⟩, ⟨4, .phase⟩, ⟨5, .phase⟩, ⟨6, .phase⟩, ⟨7, .phase⟩, ⟨8, .phase⟩, ⟨9, .phase⟩, ⟨10, .phase⟩, ⟨11, .phase⟩, ⟨12, .phase⟩], none⟩) (fun K hK => ?_)
          go_simp
          refine hK.out _ _ (by first | exact True.intro) (fun hHeld => ?_)
          replace hH := Lib.hid hHeld
          clear hK K hHeld
          try simp only [Act.put]
          refine wpAnyH_done (by kernel_rfl) ?_ _
          go_wp2_with fail
          go_meet
          exact ⟨rfl, HV.out.symm⟩
      · go_simp
        refine hK.out _ _ (by first | exact True.intro) (fun hHeld => ?_)
        replace hH := Lib.hid hHeld
        clear hK K hHeld
        try simp only [Act.put, sA, sB, sC]
        refine wpAnyH_ready (rs := [2, 7]) (by kernel_rfl) (by simp) ?_
        refine AllReadyH.cons (o := ⟨some 8, .call ⟨.value (.func 29), #[.tmp 7, .const (Go.Value.int Go.IntKind.i64 20)], #[9, 3]⟩, 9, "law.go:27", #[⟨1, .data⟩], none⟩) rfl (fun K hK => ?_) (AllReadyH.cons (o := ⟨some 13, .load 9 (.tmp 12), 9, "law.go:27", #[⟨6, .data⟩], none⟩) rfl (fun K hK => ?_) (AllReadyH.nil))
        · go_simp
          refine (HS20.out _).mono ?_
          rintro r w11 ⟨rfl, rfl⟩
          go_wp2_with fail
          refine hK.out _ _ (by first | exact True.intro) (fun hHeld => ?_)
          replace hH := Lib.hid hHeld
          clear hK K hHeld
          try simp only [Act.put, sA, sB, sC]
          refine wpAnyH_ready (rs := [5, 7]) (by kernel_rfl) (by simp) ?_
          refine AllReadyH.cons (o := ⟨some 11, .call ⟨.value (.func 29), #[.tmp 10, .const (Go.Value.int Go.IntKind.i64 20)], #[9, 3]⟩, 9, "law.go:27", #[⟨4, .data⟩, ⟨2, .chain⟩], none⟩) rfl (fun K hK => ?_) (AllReadyH.cons (o := ⟨some 13, .load 9 (.tmp 12), 9, "law.go:27", #[⟨6, .data⟩], none⟩) rfl (fun K hK => ?_) (AllReadyH.nil))
          · go_simp
            refine (HO20.out _).mono ?_
            rintro r w11 ⟨rfl, rfl⟩
            go_wp2_with fail
            refine hK.out _ _ (by first | exact True.intro) (fun hHeld => ?_)
            replace hH := Lib.hid hHeld
            clear hK K hHeld
            try simp only [Act.put, sA, sB, sC]
            refine rdy (i := 7) (oi := ⟨some 13, .load 9 (.tmp 12), 9, "law.go:27", #[⟨6, .data⟩], none⟩) (fun K hK => ?_)
            go_simp
            refine hK.out _ _ (by first | exact True.intro) (fun hHeld => ?_)
            replace hH := Lib.hid hHeld
            clear hK K hHeld
            try simp only [Act.put, sA, sB, sC]
            refine tk (i := 9) (oi := ⟨some 15, .fieldAddr 28 (.tmp 1) 9, 0, "law.go:27", #[⟨0, .phase⟩, ⟨1, .phase⟩, ⟨2, .phase⟩, ⟨3, .phase⟩, ⟨4, .phase⟩, { on := 5, ground := Go.Ground.textOnly Go.Departure.lateStoresUnsure }, ⟨6, .phase⟩, ⟨7, .phase⟩, { on := 8, ground := Go.Ground.textOnly Go.Departure.lateStoresUnsure }], none⟩) hH.out (by rintro w s0; go_simp <;> with_reducible rfl) ?_
            simp only [Act.put, sA, sB, sC]
            refine rdy (i := 8) (oi := ⟨some 14, .call ⟨.value (.func 29), #[.tmp 13, .const (Go.Value.int Go.IntKind.i64 70)], #[9, 3]⟩, 9, "law.go:27", #[⟨7, .data⟩, ⟨5, .chain⟩], none⟩) (fun K hK => ?_)
            go_simp
            refine (HS70.out _).mono ?_
            rintro r w11 ⟨rfl, rfl⟩
            go_wp2_with fail
            refine hK.out _ _ (by first | exact True.intro) (fun hHeld => ?_)
            replace hH := Lib.hid hHeld
            clear hK K hHeld
            try simp only [Act.put, sA, sB, sC]
            refine rdy (i := 10) (oi := ⟨none, .store 9 (.tmp 15) (.tmp 8), 0, "law.go:27", #[⟨9, .data⟩, ⟨2, .data⟩, ⟨8, .chain⟩, ⟨0, .phase⟩, ⟨1, .phase⟩, ⟨2, .phase⟩, ⟨3, .phase⟩, ⟨4, .phase⟩, { on := 5, ground := Go.Ground.textOnly Go.Departure.lateStoresUnsure }, ⟨6, .phase⟩, ⟨7, .phase⟩, { on := 8, ground := Go.Ground.textOnly Go.Departure.lateStoresUnsure }], none⟩) (fun K hK => ?_)
            go_simp
            refine hK.out _ _ (by first | exact True.intro) (fun hHeld => ?_)
            replace hH := Lib.hid hHeld
            clear hK K hHeld
            try simp only [Act.put]
            refine tk (i := 11) (oi := ⟨some 16, .fieldAddr 28 (.tmp 1) 10, 0, "law.go:27", #[⟨0, .phase⟩, ⟨1, .phase⟩, ⟨2, .phase⟩, ⟨3, .phase⟩, ⟨4, .phase⟩, ⟨5, .phase⟩, ⟨6, .phase⟩, ⟨7, .phase⟩, { on := 8, ground := Go.Ground.textOnly Go.Departure.lateStoresUnsure }, ⟨9, .phase⟩, ⟨10, .phase⟩], none⟩) hH.out (by rintro w s0; go_simp <;> with_reducible rfl) ?_
            simp only [Act.put, sA, sB, sC]
            refine rdy (i := 12) (oi := ⟨none, .store 9 (.tmp 16) (.tmp 11), 0, "law.go:27", #[⟨11, .data⟩, ⟨5, .data⟩, ⟨10, .chain⟩, ⟨0, .phase⟩, ⟨1, .phase⟩, ⟨2, .phase⟩, ⟨3, .phase⟩, ⟨4, .phase⟩, ⟨5, .phase⟩, ⟨6, .phase⟩, ⟨7, .phase⟩, { on := 8, ground := Go.Ground.textOnly Go.Departure.lateStoresUnsure }, ⟨9, .phase⟩, ⟨10, .phase⟩], none⟩) (fun K hK => ?_)
            go_simp
            refine hK.out _ _ (by first | exact True.intro) (fun hHeld => ?_)
            replace hH := Lib.hid hHeld
            clear hK K hHeld
            try simp only [Act.put]
            refine tk (i := 13) (oi := ⟨some 17, .fieldAddr 28 (.tmp 1) 13, 0, "law.go:27", #[⟨0, .phase⟩, ⟨1, .phase⟩, ⟨2, .phase⟩, ⟨3, .phase⟩, ⟨4, .phase⟩, ⟨5, .phase⟩, ⟨6, .phase⟩, ⟨7, .phase⟩, ⟨8, .phase⟩, ⟨9, .phase⟩, ⟨10, .phase⟩, ⟨11, .phase⟩, ⟨12, .phase⟩], none⟩) hH.out (by rintro w s0; go_simp <;> with_reducible rfl) ?_
            simp only [Act.put, sA, sB, sC]
            refine rdy (i := 14) (oi := ⟨none, .store 9 (.tmp 17) (.tmp 14), 0, "law.go:27", #[⟨13, .data⟩, ⟨8, .data⟩, ⟨12, .chain⟩, ⟨0, .phase⟩, ⟨1, .phase⟩, ⟨2, .phase⟩, ⟨3, .phase⟩, ⟨4, .phase⟩, ⟨5, .phase⟩, ⟨6, .phase⟩, ⟨7, .phase⟩, ⟨8, .phase⟩, ⟨9, .phase⟩, ⟨10, .phase⟩, ⟨11, .phase⟩, ⟨12, .phase⟩], none⟩) (fun K hK => ?_)
            go_simp
            refine hK.out _ _ (by first | exact True.intro) (fun hHeld => ?_)
            replace hH := Lib.hid hHeld
            clear hK K hHeld
            try simp only [Act.put]
            refine wpAnyH_done (by kernel_rfl) ?_ _
            go_wp2_with fail
            go_meet
            exact ⟨rfl, HV.out.symm⟩
          · go_simp
            refine hK.out _ _ (by first | exact True.intro) (fun hHeld => ?_)
            replace hH := Lib.hid hHeld
            clear hK K hHeld
            try simp only [Act.put, sA, sB, sC]
            refine tk (i := 9) (oi := ⟨some 15, .fieldAddr 28 (.tmp 1) 9, 0, "law.go:27", #[⟨0, .phase⟩, ⟨1, .phase⟩, ⟨2, .phase⟩, ⟨3, .phase⟩, ⟨4, .phase⟩, { on := 5, ground := Go.Ground.textOnly Go.Departure.lateStoresUnsure }, ⟨6, .phase⟩, ⟨7, .phase⟩, { on := 8, ground := Go.Ground.textOnly Go.Departure.lateStoresUnsure }], none⟩) hH.out (by rintro w s0; go_simp <;> with_reducible rfl) ?_
            simp only [Act.put, sA, sB, sC]
            refine rdy (i := 5) (oi := ⟨some 11, .call ⟨.value (.func 29), #[.tmp 10, .const (Go.Value.int Go.IntKind.i64 20)], #[9, 3]⟩, 9, "law.go:27", #[⟨4, .data⟩, ⟨2, .chain⟩], none⟩) (fun K hK => ?_)
            go_simp
            refine (HO20.out _).mono ?_
            rintro r w11 ⟨rfl, rfl⟩
            go_wp2_with fail
            refine hK.out _ _ (by first | exact True.intro) (fun hHeld => ?_)
            replace hH := Lib.hid hHeld
            clear hK K hHeld
            try simp only [Act.put, sA, sB, sC]
            refine rdy (i := 8) (oi := ⟨some 14, .call ⟨.value (.func 29), #[.tmp 13, .const (Go.Value.int Go.IntKind.i64 70)], #[9, 3]⟩, 9, "law.go:27", #[⟨7, .data⟩, ⟨5, .chain⟩], none⟩) (fun K hK => ?_)
            go_simp
            refine (HS70.out _).mono ?_
            rintro r w11 ⟨rfl, rfl⟩
            go_wp2_with fail
            refine hK.out _ _ (by first | exact True.intro) (fun hHeld => ?_)
            replace hH := Lib.hid hHeld
            clear hK K hHeld
            try simp only [Act.put, sA, sB, sC]
            refine rdy (i := 10) (oi := ⟨none, .store 9 (.tmp 15) (.tmp 8), 0, "law.go:27", #[⟨9, .data⟩, ⟨2, .data⟩, ⟨8, .chain⟩, ⟨0, .phase⟩, ⟨1, .phase⟩, ⟨2, .phase⟩, ⟨3, .phase⟩, ⟨4, .phase⟩, { on := 5, ground := Go.Ground.textOnly Go.Departure.lateStoresUnsure }, ⟨6, .phase⟩, ⟨7, .phase⟩, { on := 8, ground := Go.Ground.textOnly Go.Departure.lateStoresUnsure }], none⟩) (fun K hK => ?_)
            go_simp
            refine hK.out _ _ (by first | exact True.intro) (fun hHeld => ?_)
            replace hH := Lib.hid hHeld
            clear hK K hHeld
            try simp only [Act.put]
            refine tk (i := 11) (oi := ⟨some 16, .fieldAddr 28 (.tmp 1) 10, 0, "law.go:27", #[⟨0, .phase⟩, ⟨1, .phase⟩, ⟨2, .phase⟩, ⟨3, .phase⟩, ⟨4, .phase⟩, ⟨5, .phase⟩, ⟨6, .phase⟩, ⟨7, .phase⟩, { on := 8, ground := Go.Ground.textOnly Go.Departure.lateStoresUnsure }, ⟨9, .phase⟩, ⟨10, .phase⟩], none⟩) hH.out (by rintro w s0; go_simp <;> with_reducible rfl) ?_
            simp only [Act.put, sA, sB, sC]
            refine rdy (i := 12) (oi := ⟨none, .store 9 (.tmp 16) (.tmp 11), 0, "law.go:27", #[⟨11, .data⟩, ⟨5, .data⟩, ⟨10, .chain⟩, ⟨0, .phase⟩, ⟨1, .phase⟩, ⟨2, .phase⟩, ⟨3, .phase⟩, ⟨4, .phase⟩, ⟨5, .phase⟩, ⟨6, .phase⟩, ⟨7, .phase⟩, { on := 8, ground := Go.Ground.textOnly Go.Departure.lateStoresUnsure }, ⟨9, .phase⟩, ⟨10, .phase⟩], none⟩) (fun K hK => ?_)
            go_simp
            refine hK.out _ _ (by first | exact True.intro) (fun hHeld => ?_)
            replace hH := Lib.hid hHeld
            clear hK K hHeld
            try simp only [Act.put]
            refine tk (i := 13) (oi := ⟨some 17, .fieldAddr 28 (.tmp 1) 13, 0, "law.go:27", #[⟨0, .phase⟩, ⟨1, .phase⟩, ⟨2, .phase⟩, ⟨3, .phase⟩, ⟨4, .phase⟩, ⟨5, .phase⟩, ⟨6, .phase⟩, ⟨7, .phase⟩, ⟨8, .phase⟩, ⟨9, .phase⟩, ⟨10, .phase⟩, ⟨11, .phase⟩, ⟨12, .phase⟩], none⟩) hH.out (by rintro w s0; go_simp <;> with_reducible rfl) ?_
            simp only [Act.put, sA, sB, sC]
            refine rdy (i := 14) (oi := ⟨none, .store 9 (.tmp 17) (.tmp 14), 0, "law.go:27", #[⟨13, .data⟩, ⟨8, .data⟩, ⟨12, .chain⟩, ⟨0, .phase⟩, ⟨1, .phase⟩, ⟨2, .phase⟩, ⟨3, .phase⟩, ⟨4, .phase⟩, ⟨5, .phase⟩, ⟨6, .phase⟩, ⟨7, .phase⟩, ⟨8, .phase⟩, ⟨9, .phase⟩, ⟨10, .phase⟩, ⟨11, .phase⟩, ⟨12, .phase⟩], none⟩) (fun K hK => ?_)
            go_simp
            refine hK.out _ _ (by first | exact True.intro) (fun hHeld => ?_)
            replace hH := Lib.hid hHeld
            clear hK K hHeld
            try simp only [Act.put]
            refine wpAnyH_done (by kernel_rfl) ?_ _
            go_wp2_with fail
            go_meet
            exact ⟨rfl, HV.out.symm⟩
        · go_simp
          refine hK.out _ _ (by first | exact True.intro) (fun hHeld => ?_)
          replace hH := Lib.hid hHeld
          clear hK K hHeld
          try simp only [Act.put, sA, sB, sC]
          refine rdy (i := 2) (oi := ⟨some 8, .call ⟨.value (.func 29), #[.tmp 7, .const (Go.Value.int Go.IntKind.i64 20)], #[9, 3]⟩, 9, "law.go:27", #[⟨1, .data⟩], none⟩) (fun K hK => ?_)
          go_simp
          refine (HS20.out _).mono ?_
          rintro r w11 ⟨rfl, rfl⟩
          go_wp2_with fail
          refine hK.out _ _ (by first | exact True.intro) (fun hHeld => ?_)
          replace hH := Lib.hid hHeld
          clear hK K hHeld
          try simp only [Act.put, sA, sB, sC]
          refine tk (i := 9) (oi := ⟨some 15, .fieldAddr 28 (.tmp 1) 9, 0, "law.go:27", #[⟨0, .phase⟩, ⟨1, .phase⟩, ⟨2, .phase⟩, ⟨3, .phase⟩, ⟨4, .phase⟩, { on := 5, ground := Go.Ground.textOnly Go.Departure.lateStoresUnsure }, ⟨6, .phase⟩, ⟨7, .phase⟩, { on := 8, ground := Go.Ground.textOnly Go.Departure.lateStoresUnsure }], none⟩) hH.out (by rintro w s0; go_simp <;> with_reducible rfl) ?_
          simp only [Act.put, sA, sB, sC]
          refine rdy (i := 5) (oi := ⟨some 11, .call ⟨.value (.func 29), #[.tmp 10, .const (Go.Value.int Go.IntKind.i64 20)], #[9, 3]⟩, 9, "law.go:27", #[⟨4, .data⟩, ⟨2, .chain⟩], none⟩) (fun K hK => ?_)
          go_simp
          refine (HO20.out _).mono ?_
          rintro r w11 ⟨rfl, rfl⟩
          go_wp2_with fail
          refine hK.out _ _ (by first | exact True.intro) (fun hHeld => ?_)
          replace hH := Lib.hid hHeld
          clear hK K hHeld
          try simp only [Act.put, sA, sB, sC]
          refine rdy (i := 8) (oi := ⟨some 14, .call ⟨.value (.func 29), #[.tmp 13, .const (Go.Value.int Go.IntKind.i64 70)], #[9, 3]⟩, 9, "law.go:27", #[⟨7, .data⟩, ⟨5, .chain⟩], none⟩) (fun K hK => ?_)
          go_simp
          refine (HS70.out _).mono ?_
          rintro r w11 ⟨rfl, rfl⟩
          go_wp2_with fail
          refine hK.out _ _ (by first | exact True.intro) (fun hHeld => ?_)
          replace hH := Lib.hid hHeld
          clear hK K hHeld
          try simp only [Act.put, sA, sB, sC]
          refine rdy (i := 10) (oi := ⟨none, .store 9 (.tmp 15) (.tmp 8), 0, "law.go:27", #[⟨9, .data⟩, ⟨2, .data⟩, ⟨8, .chain⟩, ⟨0, .phase⟩, ⟨1, .phase⟩, ⟨2, .phase⟩, ⟨3, .phase⟩, ⟨4, .phase⟩, { on := 5, ground := Go.Ground.textOnly Go.Departure.lateStoresUnsure }, ⟨6, .phase⟩, ⟨7, .phase⟩, { on := 8, ground := Go.Ground.textOnly Go.Departure.lateStoresUnsure }], none⟩) (fun K hK => ?_)
          go_simp
          refine hK.out _ _ (by first | exact True.intro) (fun hHeld => ?_)
          replace hH := Lib.hid hHeld
          clear hK K hHeld
          try simp only [Act.put]
          refine tk (i := 11) (oi := ⟨some 16, .fieldAddr 28 (.tmp 1) 10, 0, "law.go:27", #[⟨0, .phase⟩, ⟨1, .phase⟩, ⟨2, .phase⟩, ⟨3, .phase⟩, ⟨4, .phase⟩, ⟨5, .phase⟩, ⟨6, .phase⟩, ⟨7, .phase⟩, { on := 8, ground := Go.Ground.textOnly Go.Departure.lateStoresUnsure }, ⟨9, .phase⟩, ⟨10, .phase⟩], none⟩) hH.out (by rintro w s0; go_simp <;> with_reducible rfl) ?_
          simp only [Act.put, sA, sB, sC]
          refine rdy (i := 12) (oi := ⟨none, .store 9 (.tmp 16) (.tmp 11), 0, "law.go:27", #[⟨11, .data⟩, ⟨5, .data⟩, ⟨10, .chain⟩, ⟨0, .phase⟩, ⟨1, .phase⟩, ⟨2, .phase⟩, ⟨3, .phase⟩, ⟨4, .phase⟩, ⟨5, .phase⟩, ⟨6, .phase⟩, ⟨7, .phase⟩, { on := 8, ground := Go.Ground.textOnly Go.Departure.lateStoresUnsure }, ⟨9, .phase⟩, ⟨10, .phase⟩], none⟩) (fun K hK => ?_)
          go_simp
          refine hK.out _ _ (by first | exact True.intro) (fun hHeld => ?_)
          replace hH := Lib.hid hHeld
          clear hK K hHeld
          try simp only [Act.put]
          refine tk (i := 13) (oi := ⟨some 17, .fieldAddr 28 (.tmp 1) 13, 0, "law.go:27", #[⟨0, .phase⟩, ⟨1, .phase⟩, ⟨2, .phase⟩, ⟨3, .phase⟩, ⟨4, .phase⟩, ⟨5, .phase⟩, ⟨6, .phase⟩, ⟨7, .phase⟩, ⟨8, .phase⟩, ⟨9, .phase⟩, ⟨10, .phase⟩, ⟨11, .phase⟩, ⟨12, .phase⟩], none⟩) hH.out (by rintro w s0; go_simp <;> with_reducible rfl) ?_
          simp only [Act.put, sA, sB, sC]
          refine rdy (i := 14) (oi := ⟨none, .store 9 (.tmp 17) (.tmp 14), 0, "law.go:27", #[⟨13, .data⟩, ⟨8, .data⟩, ⟨12, .chain⟩, ⟨0, .phase⟩, ⟨1, .phase⟩, ⟨2, .phase⟩, ⟨3, .phase⟩, ⟨4, .phase⟩, ⟨5, .phase⟩, ⟨6, .phase⟩, ⟨7, .phase⟩, ⟨8, .phase⟩, ⟨9, .phase⟩, ⟨10, .phase⟩, ⟨11, .phase⟩, ⟨12, .phase⟩], none⟩) (fun K hK => ?_)
          go_simp
          refine hK.out _ _ (by first | exact True.intro) (fun hHeld => ?_)
          replace hH := Lib.hid hHeld
          clear hK K hHeld
          try simp only [Act.put]
          refine wpAnyH_done (by kernel_rfl) ?_ _
          go_wp2_with fail
          go_meet
          exact ⟨rfl, HV.out.symm⟩
      · go_simp
        refine hK.out _ _ (by first | exact True.intro) (fun hHeld => ?_)
        replace hH := Lib.hid hHeld
        clear hK K hHeld
        try simp only [Act.put, sA, sB, sC]
        refine wpAnyH_ready (rs := [2, 4]) (by kernel_rfl) (by simp) ?_
        refine AllReadyH.cons (o := ⟨some 8, .call ⟨.value (.func 29), #[.tmp 7, .const (Go.Value.int Go.IntKind.i64 20)], #[9, 3]⟩, 9, "law.go:27", #[⟨1, .data⟩], none⟩) rfl (fun K hK => ?_) (AllReadyH.cons (o := ⟨some 10, .load 9 (.tmp 9), 9, "law.go:27", #[⟨3, .data⟩], none⟩) rfl (fun K hK => ?_) (AllReadyH.nil))
        · go_simp
          refine (HS20.out _).mono ?_
          rintro r w11 ⟨rfl, rfl⟩
          go_wp2_with fail
          refine hK.out _ _ (by first | exact True.intro) (fun hHeld => ?_)
          replace hH := Lib.hid hHeld
          clear hK K hHeld
          try simp only [Act.put, sA, sB, sC]
          refine rdy (i := 4) (oi := ⟨some 10, .load 9 (.tmp 9), 9, "law.go:27", #[⟨3, .data⟩], none⟩) (fun K hK => ?_)
          go_simp
          refine hK.out _ _ (by first | exact True.intro) (fun hHeld => ?_)
          replace hH := Lib.hid hHeld
          clear hK K hHeld
          try simp only [Act.put, sA, sB, sC]
          refine tk (i := 9) (oi := ⟨some 15, .fieldAddr 28 (.tmp 1) 9, 0, "law.go:27", #[⟨0, .phase⟩, ⟨1, .phase⟩, ⟨2, .phase⟩, ⟨3, .phase⟩, ⟨4, .phase⟩, { on := 5, ground := Go.Ground.textOnly Go.Departure.lateStoresUnsure }, ⟨6, .phase⟩, ⟨7, .phase⟩, { on := 8, ground := Go.Ground.textOnly Go.Departure.lateStoresUnsure }], none⟩) hH.out (by rintro w s0; go_simp <;> with_reducible rfl) ?_
          simp only [Act.put, sA, sB, sC]
          refine rdy (i := 5) (oi := ⟨some 11, .call ⟨.value (.func 29), #[.tmp 10, .const (Go.Value.int Go.IntKind.i64 20)], #[9, 3]⟩, 9, "law.go:27", #[⟨4, .data⟩, ⟨2, .chain⟩], none⟩) (fun K hK => ?_)
          go_simp
          refine (HO20.out _).mono ?_
          rintro r w11 ⟨rfl, rfl⟩
          go_wp2_with fail
          refine hK.out _ _ (by first | exact True.intro) (fun hHeld => ?_)
          replace hH := Lib.hid hHeld
          clear hK K hHeld
          try simp only [Act.put, sA, sB, sC]
          refine rdy (i := 8) (oi := ⟨some 14, .call ⟨.value (.func 29), #[.tmp 13, .const (Go.Value.int Go.IntKind.i64 70)], #[9, 3]⟩, 9, "law.go:27", #[⟨7, .data⟩, ⟨5, .chain⟩], none⟩) (fun K hK => ?_)
          go_simp
          refine (HS70.out _).mono ?_
          rintro r w11 ⟨rfl, rfl⟩
          go_wp2_with fail
          refine hK.out _ _ (by first | exact True.intro) (fun hHeld => ?_)
          replace hH := Lib.hid hHeld
          clear hK K hHeld
          try simp only [Act.put, sA, sB, sC]
          refine rdy (i := 10) (oi := ⟨none, .store 9 (.tmp 15) (.tmp 8), 0, "law.go:27", #[⟨9, .data⟩, ⟨2, .data⟩, ⟨8, .chain⟩, ⟨0, .phase⟩, ⟨1, .phase⟩, ⟨2, .phase⟩, ⟨3, .phase⟩, ⟨4, .phase⟩, { on := 5, ground := Go.Ground.textOnly Go.Departure.lateStoresUnsure }, ⟨6, .phase⟩, ⟨7, .phase⟩, { on := 8, ground := Go.Ground.textOnly Go.Departure.lateStoresUnsure }], none⟩) (fun K hK => ?_)
          go_simp
          refine hK.out _ _ (by first | exact True.intro) (fun hHeld => ?_)
          replace hH := Lib.hid hHeld
          clear hK K hHeld
          try simp only [Act.put]
          refine tk (i := 11) (oi := ⟨some 16, .fieldAddr 28 (.tmp 1) 10, 0, "law.go:27", #[⟨0, .phase⟩, ⟨1, .phase⟩, ⟨2, .phase⟩, ⟨3, .phase⟩, ⟨4, .phase⟩, ⟨5, .phase⟩, ⟨6, .phase⟩, ⟨7, .phase⟩, { on := 8, ground := Go.Ground.textOnly Go.Departure.lateStoresUnsure }, ⟨9, .phase⟩, ⟨10, .phase⟩], none⟩) hH.out (by rintro w s0; go_simp <;> with_reducible rfl) ?_
          simp only [Act.put, sA, sB, sC]
          refine rdy (i := 12) (oi := ⟨none, .store 9 (.tmp 16) (.tmp 11), 0, "law.go:27", #[⟨11, .data⟩, ⟨5, .data⟩, ⟨10, .chain⟩, ⟨0, .phase⟩, ⟨1, .phase⟩, ⟨2, .phase⟩, ⟨3, .phase⟩, ⟨4, .phase⟩, ⟨5, .phase⟩, ⟨6, .phase⟩, ⟨7, .phase⟩, { on := 8, ground := Go.Ground.textOnly Go.Departure.lateStoresUnsure }, ⟨9, .phase⟩, ⟨10, .phase⟩], none⟩) (fun K hK => ?_)
          go_simp
          refine hK.out _ _ (by first | exact True.intro) (fun hHeld => ?_)
          replace hH := Lib.hid hHeld
          clear hK K hHeld
          try simp only [Act.put]
          refine tk (i := 13) (oi := ⟨some 17, .fieldAddr 28 (.tmp 1) 13, 0, "law.go:27", #[⟨0, .phase⟩, ⟨1, .phase⟩, ⟨2, .phase⟩, ⟨3, .phase⟩, ⟨4, .phase⟩, ⟨5, .phase⟩, ⟨6, .phase⟩, ⟨7, .phase⟩, ⟨8, .phase⟩, ⟨9, .phase⟩, ⟨10, .phase⟩, ⟨11, .phase⟩, ⟨12, .phase⟩], none⟩) hH.out (by rintro w s0; go_simp <;> with_reducible rfl) ?_
          simp only [Act.put, sA, sB, sC]
          refine rdy (i := 14) (oi := ⟨none, .store 9 (.tmp 17) (.tmp 14), 0, "law.go:27", #[⟨13, .data⟩, ⟨8, .data⟩, ⟨12, .chain⟩, ⟨0, .phase⟩, ⟨1, .phase⟩, ⟨2, .phase⟩, ⟨3, .phase⟩, ⟨4, .phase⟩, ⟨5, .phase⟩, ⟨6, .phase⟩, ⟨7, .phase⟩, ⟨8, .phase⟩, ⟨9, .phase⟩, ⟨10, .phase⟩, ⟨11, .phase⟩, ⟨12, .phase⟩], none⟩) (fun K hK => ?_)
          go_simp
          refine hK.out _ _ (by first | exact True.intro) (fun hHeld => ?_)
          replace hH := Lib.hid hHeld
          clear hK K hHeld
          try simp only [Act.put]
          refine wpAnyH_done (by kernel_rfl) ?_ _
          go_wp2_with fail
          go_meet
          exact ⟨rfl, HV.out.symm⟩
        · go_simp
          refine hK.out _ _ (by first | exact True.intro) (fun hHeld => ?_)
          replace hH := Lib.hid hHeld
          clear hK K hHeld
          try simp only [Act.put, sA, sB, sC]
          refine rdy (i := 2) (oi := ⟨some 8, .call ⟨.value (.func 29), #[.tmp 7, .const (Go.Value.int Go.IntKind.i64 20)], #[9, 3]⟩, 9, "law.go:27", #[⟨1, .data⟩], none⟩) (fun K hK => ?_)
          go_simp
          refine (HS20.out _).mono ?_
          rintro r w11 ⟨rfl, rfl⟩
          go_wp2_with fail
          refine hK.out _ _ (by first | exact True.intro) (fun hHeld => ?_)
          replace hH := Lib.hid hHeld
          clear hK K hHeld
          try simp only [Act.put, sA, sB, sC]
          refine tk (i := 9) (oi := ⟨some 15, .fieldAddr 28 (.tmp 1) 9, 0, "law.go:27", #[⟨0, .phase⟩, ⟨1, .phase⟩, ⟨2, .phase⟩, ⟨3, .phase⟩, ⟨4, .phase⟩, { on := 5, ground := Go.Ground.textOnly Go.Departure.lateStoresUnsure }, ⟨6, .phase⟩, ⟨7, .phase⟩, { on := 8, ground := Go.Ground.textOnly Go.Departure.lateStoresUnsure }], none⟩) hH.out (by rintro w s0; go_simp <;> with_reducible rfl) ?_
          simp only [Act.put, sA, sB, sC]
          refine rdy (i := 5) (oi := ⟨some 11, .call ⟨.value (.func 29), #[.tmp 10, .const (Go.Value.int Go.IntKind.i64 20)], #[9, 3]⟩, 9, "law.go:27", #[⟨4, .data⟩, ⟨2, .chain⟩], none⟩) (fun K hK => ?_)
          go_simp
          refine (HO20.out _).mono ?_
          rintro r w11 ⟨rfl, rfl⟩
          go_wp2_with fail
          refine hK.out _ _ (by first | exact True.intro) (fun hHeld => ?_)
          replace hH := Lib.hid hHeld
          clear hK K hHeld
          try simp only [Act.put, sA, sB, sC]
          refine rdy (i := 8) (oi := ⟨some 14, .call ⟨.value (.func 29), #[.tmp 13, .const (Go.Value.int Go.IntKind.i64 70)], #[9, 3]⟩, 9, "law.go:27", #[⟨7, .data⟩, ⟨5, .chain⟩], none⟩) (fun K hK => ?_)
          go_simp
          refine (HS70.out _).mono ?_
          rintro r w11 ⟨rfl, rfl⟩
          go_wp2_with fail
          refine hK.out _ _ (by first | exact True.intro) (fun hHeld => ?_)
          replace hH := Lib.hid hHeld
          clear hK K hHeld
          try simp only [Act.put, sA, sB, sC]
          refine rdy (i := 10) (oi := ⟨none, .store 9 (.tmp 15) (.tmp 8), 0, "law.go:27", #[⟨9, .data⟩, ⟨2, .data⟩, ⟨8, .chain⟩, ⟨0, .phase⟩, ⟨1, .phase⟩, ⟨2, .phase⟩, ⟨3, .phase⟩, ⟨4, .phase⟩, { on := 5, ground := Go.Ground.textOnly Go.Departure.lateStoresUnsure }, ⟨6, .phase⟩, ⟨7, .phase⟩, { on := 8, ground := Go.Ground.textOnly Go.Departure.lateStoresUnsure }], none⟩) (fun K hK => ?_)
          go_simp
          refine hK.out _ _ (by first | exact True.intro) (fun hHeld => ?_)
          replace hH := Lib.hid hHeld
          clear hK K hHeld
          try simp only [Act.put]
          refine tk (i := 11) (oi := ⟨some 16, .fieldAddr 28 (.tmp 1) 10, 0, "law.go:27", #[⟨0, .phase⟩, ⟨1, .phase⟩, ⟨2, .phase⟩, ⟨3, .phase⟩, ⟨4, .phase⟩, ⟨5, .phase⟩, ⟨6, .phase⟩, ⟨7, .phase⟩, { on := 8, ground := Go.Ground.textOnly Go.Departure.lateStoresUnsure }, ⟨9, .phase⟩, ⟨10, .phase⟩], none⟩) hH.out (by rintro w s0; go_simp <;> with_reducible rfl) ?_
          simp only [Act.put, sA, sB, sC]
          refine rdy (i := 12) (oi := ⟨none, .store 9 (.tmp 16) (.tmp 11), 0, "law.go:27", #[⟨11, .data⟩, ⟨5, .data⟩, ⟨10, .chain⟩, ⟨0, .phase⟩, ⟨1, .phase⟩, ⟨2, .phase⟩, ⟨3, .phase⟩, ⟨4, .phase⟩, ⟨5, .phase⟩, ⟨6, .phase⟩, ⟨7, .phase⟩, { on := 8, ground := Go.Ground.textOnly Go.Departure.lateStoresUnsure }, ⟨9, .phase⟩, ⟨10, .phase⟩], none⟩) (fun K hK => ?_)
          go_simp
          refine hK.out _ _ (by first | exact True.intro) (fun hHeld => ?_)
          replace hH := Lib.hid hHeld
          clear hK K hHeld
          try simp only [Act.put]
          refine tk (i := 13) (oi := ⟨some 17, .fieldAddr 28 (.tmp 1) 13, 0, "law.go:27", #[⟨0, .phase⟩, ⟨1, .phase⟩, ⟨2, .phase⟩, ⟨3, .phase⟩, ⟨4, .phase⟩, ⟨5, .phase⟩, ⟨6, .phase⟩, ⟨7, .phase⟩, ⟨8, .phase⟩, ⟨9, .phase⟩, ⟨10, .phase⟩, ⟨11, .phase⟩, ⟨12, .phase⟩], none⟩) hH.out (by rintro w s0; go_simp <;> with_reducible rfl) ?_
          simp only [Act.put, sA, sB, sC]
          refine rdy (i := 14) (oi := ⟨none, .store 9 (.tmp 17) (.tmp 14), 0, "law.go:27", #[⟨13, .data⟩, ⟨8, .data⟩, ⟨12, .chain⟩, ⟨0, .phase⟩, ⟨1, .phase⟩, ⟨2, .phase⟩, ⟨3, .phase⟩, ⟨4, .phase⟩, ⟨5, .phase⟩, ⟨6, .phase⟩, ⟨7, .phase⟩, ⟨8, .phase⟩, ⟨9, .phase⟩, ⟨10, .phase⟩, ⟨11, .phase⟩, ⟨12, .phase⟩], none⟩) (fun K hK => ?_)
          go_simp
          refine hK.out _ _ (by first | exact True.intro) (fun hHeld => ?_)
          replace hH := Lib.hid hHeld
          clear hK K hHeld
          try simp only [Act.put]
          refine wpAnyH_done (by kernel_rfl) ?_ _
          go_wp2_with fail
          go_meet
          exact ⟨rfl, HV.out.symm⟩
    · go_simp
      refine hK.out _ _ (by first | exact True.intro) (fun hHeld => ?_)
      replace hH := Lib.hid hHeld
      clear hK K hHeld
      try simp only [Act.put, sA, sB, sC]
      refine wpAnyH_ready (rs := [1, 7]) (by kernel_rfl) (by simp) ?_
      refine AllReadyH.cons (o := ⟨some 7, .load 9 (.tmp 6), 9, "law.go:27", #[⟨0, .data⟩], none⟩) rfl (fun K hK => ?_) (AllReadyH.cons (o := ⟨some 13, .load 9 (.tmp 12), 9, "law.go:27", #[⟨6, .data⟩], none⟩) rfl (fun K hK => ?_) (AllReadyH.nil))
      · go_simp
        refine hK.out _ _ (by first | exact True.intro) (fun hHeld => ?_)
        replace hH := Lib.hid hHeld
        clear hK K hHeld
        try simp only [Act.put, sA, sB, sC]
        refine wpAnyH_ready (rs := [2, 7]) (by kernel_rfl) (by simp) ?_
        refine AllReadyH.cons (o := ⟨some 8, .call ⟨.value (.func 29), #[.tmp 7, .const (Go.Value.int Go.IntKind.i64 20)], #[9, 3]⟩, 9, "law.go:27", #[⟨1, .data⟩], none⟩) rfl (fun K hK => ?_) (AllReadyH.cons (o := ⟨some 13, .load 9 (.tmp 12), 9, "law.go:27", #[⟨6, .data⟩], none⟩) rfl (fun K hK => ?_) (AllReadyH.nil))
        · go_simp
          refine (HS20.out _).mono ?_
          rintro r w11 ⟨rfl, rfl⟩
          go_wp2_with fail
          refine hK.out _ _ (by first | exact True.intro) (fun hHeld => ?_)
          replace hH := Lib.hid hHeld
          clear hK K hHeld
          try simp only [Act.put, sA, sB, sC]
          refine wpAnyH_ready (rs := [5, 7]) (by kernel_rfl) (by simp) ?_
          refine AllReadyH.cons (o := ⟨some 11, .call ⟨.value (.func 29), #[.tmp 10, .const (Go.Value.int Go.IntKind.i64 20)], #[9, 3]⟩, 9, "law.go:27", #[⟨4, .data⟩, ⟨2, .chain⟩], none⟩) rfl (fun K hK => ?_) (AllReadyH.cons (o := ⟨some 13, .load 9 (.tmp 12), 9, "law.go:27", #[⟨6, .data⟩], none⟩) rfl (fun K hK => ?_) (AllReadyH.nil))
          · go_simp
            refine (HO20.out _).mono ?_
            rintro r w11 ⟨rfl, rfl⟩
            go_wp2_with fail
            refine hK.out _ _ (by first | exact True.intro) (fun hHeld => ?_)
            replace hH := Lib.hid hHeld
            clear hK K hHeld
            try simp only [Act.put, sA, sB, sC]
            refine rdy (i := 7) (oi := ⟨some 13, .load 9 (.tmp 12), 9, "law.go:27", #[⟨6, .data⟩], none⟩) (fun K hK => ?_)
            go_simp
            refine hK.out _ _ (by first | exact True.intro) (fun hHeld => ?_)
            replace hH := Lib.hid hHeld
            clear hK K hHeld
            try simp only [Act.put, sA, sB, sC]
            refine tk (i := 9) (oi := ⟨some 15, .fieldAddr 28 (.tmp 1) 9, 0, "law.go:27", #[⟨0, .phase⟩, ⟨1, .phase⟩, ⟨2, .phase⟩, ⟨3, .phase⟩, ⟨4, .phase⟩, { on := 5, ground := Go.Ground.textOnly Go.Departure.lateStoresUnsure }, ⟨6, .phase⟩, ⟨7, .phase⟩, { on := 8, ground := Go.Ground.textOnly Go.Departure.lateStoresUnsure }], none⟩) hH.out (by rintro w s0; go_simp <;> with_reducible rfl) ?_
            simp only [Act.put, sA, sB, sC]
            refine rdy (i := 8) (oi := ⟨some 14, .call ⟨.value (.func 29), #[.tmp 13, .const (Go.Value.int Go.IntKind.i64 70)], #[9, 3]⟩, 9, "law.go:27", #[⟨7, .data⟩, ⟨5, .chain⟩], none⟩) (fun K hK => ?_)
            go_simp
            refine (HS70.out _).mono ?_
            rintro r w11 ⟨rfl, rfl⟩
            go_wp2_with fail
            refine hK.out _ _ (by first | exact True.intro) (fun hHeld => ?_)
            replace hH := Lib.hid hHeld
            clear hK K hHeld
            try simp only [Act.put, sA, sB, sC]
            refine rdy (i := 10) (oi := ⟨none, .store 9 (.tmp 15) (.tmp 8), 0, "law.go:27", #[⟨9, .data⟩, ⟨2, .data⟩, ⟨8, .chain⟩, ⟨0, .phase⟩, ⟨1, .phase⟩, ⟨2, .phase⟩, ⟨3, .phase⟩, ⟨4, .phase⟩, { on := 5, ground := Go.Ground.textOnly Go.Departure.lateStoresUnsure }, ⟨6, .phase⟩, ⟨7, .phase⟩, { on := 8, ground := Go.Ground.textOnly Go.Departure.lateStoresUnsure }], none⟩) (fun K hK => ?_)
            go_simp
            refine hK.out _ _ (by first | exact True.intro) (fun hHeld => ?_)
            replace hH := Lib.hid hHeld
            clear hK K hHeld
            try simp only [Act.put]
            refine tk (i := 11) (oi := ⟨some 16, .fieldAddr 28 (.tmp 1) 10, 0, "law.go:27", #[⟨0, .phase⟩, ⟨1, .phase⟩, ⟨2, .phase⟩, ⟨3, .phase⟩, ⟨4, .phase⟩, ⟨5, .phase⟩, ⟨6, .phase⟩, ⟨7, .phase⟩, { on := 8, ground := Go.Ground.textOnly Go.Departure.lateStoresUnsure }, ⟨9, .phase⟩, ⟨10, .phase⟩], none⟩) hH.out (by rintro w s0; go_simp <;> with_reducible rfl) ?_
            simp only [Act.put, sA, sB, sC]
            refine rdy (i := 12) (oi := ⟨none, .store 9 (.tmp 16) (.tmp 11), 0, "law.go:27", #[⟨11, .data⟩, ⟨5, .data⟩, ⟨10, .chain⟩, ⟨0, .phase⟩, ⟨1, .phase⟩, ⟨2, .phase⟩, ⟨3, .phase⟩, ⟨4, .phase⟩, ⟨5, .phase⟩, ⟨6, .phase⟩, ⟨7, .phase⟩, { on := 8, ground := Go.Ground.textOnly Go.Departure.lateStoresUnsure }, ⟨9, .phase⟩, ⟨10, .phase⟩], none⟩) (fun K hK => ?_)
            go_simp
            refine hK.out _ _ (by first | exact True.intro) (fun hHeld => ?_)
            replace hH := Lib.hid hHeld
            clear hK K hHeld
            try simp only [Act.put]
            refine tk (i := 13) (oi := ⟨some 17, .fieldAddr 28 (.tmp 1) 13, 0, "law.go:27", #[⟨0, .phase⟩, ⟨1, .phase⟩, ⟨2, .phase⟩, ⟨3, .phase⟩, ⟨4, .phase⟩, ⟨5, .phase⟩, ⟨6, .phase⟩, ⟨7, .phase⟩, ⟨8, .phase⟩, ⟨9, .phase⟩, ⟨10, .phase⟩, ⟨11, .phase⟩, ⟨12, .phase⟩], none⟩) hH.out (by rintro w s0; go_simp <;> with_reducible rfl) ?_
            simp only [Act.put, sA, sB, sC]
            refine rdy (i := 14) (oi := ⟨none, .store 9 (.tmp 17) (.tmp 14), 0, "law.go:27", #[⟨13, .data⟩, ⟨8, .data⟩, ⟨12, .chain⟩, ⟨0, .phase⟩, ⟨1, .phase⟩, ⟨2, .phase⟩, ⟨3, .phase⟩, ⟨4, .phase⟩, ⟨5, .phase⟩, ⟨6, .phase⟩, ⟨7, .phase⟩, ⟨8, .phase⟩, ⟨9, .phase⟩, ⟨10, .phase⟩, ⟨11, .phase⟩, ⟨12, .phase⟩], none⟩) (fun K hK => ?_)
            go_simp
            refine hK.out _ _ (by first | exact True.intro) (fun hHeld => ?_)
            replace hH := Lib.hid hHeld
            clear hK K hHeld
            try simp only [Act.put]
            refine wpAnyH_done (by kernel_rfl) ?_ _
            go_wp2_with fail
            go_meet
            exact ⟨rfl, HV.out.symm⟩
          · go_simp
            refine hK.out _ _ (by first | exact True.intro) (fun hHeld => ?_)
            replace hH := Lib.hid hHeld
            clear hK K hHeld
            try simp only [Act.put, sA, sB, sC]
            refine tk (i := 9) (oi := ⟨some 15, .fieldAddr 28 (.tmp 1) 9, 0, "law.go:27", #[⟨0, .phase⟩, ⟨1, .phase⟩, ⟨2, .phase⟩, ⟨3, .phase⟩, ⟨4, .phase⟩, { on := 5, ground := Go.Ground.textOnly Go.Departure.lateStoresUnsure }, ⟨6, .phase⟩, ⟨7, .phase⟩, { on := 8, ground := Go.Ground.textOnly Go.Departure.lateStoresUnsure }], none⟩) hH.out (by rintro w s0; go_simp <;> with_reducible rfl) ?_
            simp only [Act.put, sA, sB, sC]
            refine rdy (i := 5) (oi := ⟨some 11, .call ⟨.value (.func 29), #[.tmp 10, .const (Go.Value.int Go.IntKind.i64 20)], #[9, 3]⟩, 9, "law.go:27", #[⟨4, .data⟩, ⟨2, .chain⟩], none⟩) (fun K hK => ?_)
            go_simp
            refine (HO20.out _).mono ?_
            rintro r w11 ⟨rfl, rfl⟩
            go_wp2_with fail
            refine hK.out _ _ (by first | exact True.intro) (fun hHeld => ?_)
            replace hH := Lib.hid hHeld
            clear hK K hHeld
            try simp only [Act.put, sA, sB, sC]
            refine rdy (i := 8) (oi := ⟨some 14, .call ⟨.value (.func 29), #[.tmp 13, .const (Go.Value.int Go.IntKind.i64 70)], #[9, 3]⟩, 9, "law.go:27", #[⟨7, .data⟩, ⟨5, .chain⟩], none⟩) (fun K hK => ?_)
            go_simp
            refine (HS70.out _).mono ?_
            rintro r w11 ⟨rfl, rfl⟩
            go_wp2_with fail
            refine hK.out _ _ (by first | exact True.intro) (fun hHeld => ?_)
            replace hH := Lib.hid hHeld
            clear hK K hHeld
            try simp only [Act.put, sA, sB, sC]
            refine rdy (i := 10) (oi := ⟨none, .store 9 (.tmp 15) (.tmp 8), 0, "law.go:27", #[⟨9, .data⟩, ⟨2, .data⟩, ⟨8, .chain⟩, ⟨0, .phase⟩, ⟨1, .phase⟩, ⟨2, .phase⟩, ⟨3, .phase⟩, ⟨4, .phase⟩, { on := 5, ground := Go.Ground.textOnly Go.Departure.lateStoresUnsure }, ⟨6, .phase⟩, ⟨7, .phase⟩, { on := 8, ground := Go.Ground.textOnly Go.Departure.lateStoresUnsure }], none⟩) (fun K hK => ?_)
            go_simp
            refine hK.out _ _ (by first | exact True.intro) (fun hHeld => ?_)
            replace hH := Lib.hid hHeld
            clear hK K hHeld
            try simp only [Act.put]
            refine tk (i := 11) (oi := ⟨some 16, .fieldAddr 28 (.tmp 1) 10, 0, "law.go:27", #[⟨0, .phase⟩, ⟨1, .phase⟩, ⟨2, .phase⟩, ⟨3, .phase⟩, ⟨4, .phase⟩, ⟨5, .phase⟩, ⟨6, .phase⟩, ⟨7, .phase⟩, { on := 8, ground := Go.Ground.textOnly Go.Departure.lateStoresUnsure }, ⟨9, .phase⟩, ⟨10, .phase⟩], none⟩) hH.out (by rintro w s0; go_simp <;> with_reducible rfl) ?_
            simp only [Act.put, sA, sB, sC]
            refine rdy (i := 12) (oi := ⟨none, .store 9 (.tmp 16) (.tmp 11), 0, "law.go:27", #[⟨11, .data⟩, ⟨5, .data⟩, ⟨10, .chain⟩, ⟨0, .phase⟩, ⟨1, .phase⟩, ⟨2, .phase⟩, ⟨3, .phase⟩, ⟨4, .phase⟩, ⟨5, .phase⟩, ⟨6, .phase⟩, ⟨7, .phase⟩, { on := 8, ground := Go.Ground.textOnly Go.Departure.lateStoresUnsure }, ⟨9, .phase⟩, ⟨10, .phase⟩], none⟩) (fun K hK => ?_)
            go_simp
            refine hK.out _ _ (by first | exact True.intro) (fun hHeld => ?_)
            replace hH := Lib.hid hHeld
            clear hK K hHeld
            try simp only [Act.put]
            refine tk (i := 13) (oi := ⟨some 17, .fieldAddr 28 (.tmp 1) 13, 0, "law.go:27", #[⟨0, .phase⟩, ⟨1, .phase⟩, ⟨2, .phase⟩, ⟨3, .phase⟩, ⟨4, .phase⟩, ⟨5, .phase⟩, ⟨6, .phase⟩, ⟨7, .phase⟩, ⟨8, .phase⟩, ⟨9, .phase⟩, ⟨10, .phase⟩, ⟨11, .phase⟩, ⟨12, .phase⟩], none⟩) hH.out (by rintro w s0; go_simp <;> with_reducible rfl) ?_
            simp only [Act.put, sA, sB, sC]
            refine rdy (i := 14) (oi := ⟨none, .store 9 (.tmp 17) (.tmp 14), 0, "law.go:27", #[⟨13, .data⟩, ⟨8, .data⟩, ⟨12, .chain⟩, ⟨0, .phase⟩, ⟨1, .phase⟩, ⟨2, .phase⟩, ⟨3, .phase⟩, ⟨4, .phase⟩, ⟨5, .phase⟩, ⟨6, .phase⟩, ⟨7, .phase⟩, ⟨8, .phase⟩, ⟨9, .phase⟩, ⟨10, .phase⟩, ⟨11, .phase⟩, ⟨12, .phase⟩], none⟩) (fun K hK => ?_)
            go_simp
            refine hK.out _ _ (by first | exact True.intro) (fun hHeld => ?_)
            replace hH := Lib.hid hHeld
            clear hK K hHeld
            try simp only [Act.put]
            refine wpAnyH_done (by kernel_rfl) ?_ _
            go_wp2_with fail
            go_meet
            exact ⟨rfl, HV.out.symm⟩
        · go_simp
          refine hK.out _ _ (by first | exact True.intro) (fun hHeld => ?_)
          replace hH := Lib.hid hHeld
          clear hK K hHeld
          try simp only [Act.put, sA, sB, sC]
          refine rdy (i := 2) (oi := ⟨some 8, .call ⟨.value (.func 29), #[.tmp 7, .const (Go.Value.int Go.IntKind.i64 20)], #[9, 3]⟩, 9, "law.go:27", #[⟨1, .data⟩], none⟩) (fun K hK => ?_)
          go_simp
          refine (HS20.out _).mono ?_
          rintro r w11 ⟨rfl, rfl⟩
          go_wp2_with fail
          refine hK.out _ _ (by first | exact True.intro) (fun hHeld => ?_)
          replace hH := Lib.hid hHeld
          clear hK K hHeld
          try simp only [Act.put, sA, sB, sC]
          refine tk (i := 9) (oi := ⟨some 15, .fieldAddr 28 (.tmp 1) 9, 0, "law.go:27", #[⟨0, .phase⟩, ⟨1, .phase⟩, ⟨2, .phase⟩, ⟨3, .phase⟩, ⟨4, .phase⟩, { on := 5, ground := Go.Ground.textOnly Go.Departure.lateStoresUnsure }, ⟨6, .phase⟩, ⟨7, .phase⟩, { on := 8, ground := Go.Ground.textOnly Go.Departure.lateStoresUnsure }], none⟩) hH.out (by rintro w s0; go_simp <;> with_reducible rfl) ?_
          simp only [Act.put, sA, sB, sC]
          refine rdy (i := 5) (oi := ⟨some 11, .call ⟨.value (.func 29), #[.tmp 10, .const (Go.Value.int Go.IntKind.i64 20)], #[9, 3]⟩, 9, "law.go:27", #[⟨4, .data⟩, ⟨2, .chain⟩], none⟩) (fun K hK => ?_)
          go_simp
          refine (HO20.out _).mono ?_
          rintro r w11 ⟨rfl, rfl⟩
          go_wp2_with fail
          refine hK.out _ _ (by first | exact True.intro) (fun hHeld => ?_)
          replace hH := Lib.hid hHeld
          clear hK K hHeld
          try simp only [Act.put, sA, sB, sC]
          refine rdy (i := 8) (oi := ⟨some 14, .call ⟨.value (.func 29), #[.tmp 13, .const (Go.Value.int Go.IntKind.i64 70)], #[9, 3]⟩, 9, "law.go:27", #[⟨7, .data⟩, ⟨5, .chain⟩], none⟩) (fun K hK => ?_)
          go_simp
          refine (HS70.out _).mono ?_
          rintro r w11 ⟨rfl, rfl⟩
          go_wp2_with fail
          refine hK.out _ _ (by first | exact True.intro) (fun hHeld => ?_)
          replace hH := Lib.hid hHeld
          clear hK K hHeld
          try simp only [Act.put, sA, sB, sC]
          refine rdy (i := 10) (oi := ⟨none, .store 9 (.tmp 15) (.tmp 8), 0, "law.go:27", #[⟨9, .data⟩, ⟨2, .data⟩, ⟨8, .chain⟩, ⟨0, .phase⟩, ⟨1, .phase⟩, ⟨2, .phase⟩, ⟨3, .phase⟩, ⟨4, .phase⟩, { on := 5, ground := Go.Ground.textOnly Go.Departure.lateStoresUnsure }, ⟨6, .phase⟩, ⟨7, .phase⟩, { on := 8, ground := Go.Ground.textOnly Go.Departure.lateStoresUnsure }], none⟩) (fun K hK => ?_)
          go_simp
          refine hK.out _ _ (by first | exact True.intro) (fun hHeld => ?_)
          replace hH := Lib.hid hHeld
          clear hK K hHeld
          try simp only [Act.put]
          refine tk (i := 11) (oi := ⟨some 16, .fieldAddr 28 (.tmp 1) 10, 0, "law.go:27", #[⟨0, .phase⟩, ⟨1, .phase⟩, ⟨2, .phase⟩, ⟨3, .phase⟩, ⟨4, .phase⟩, ⟨5, .phase⟩, ⟨6, .phase⟩, ⟨7, .phase⟩, { on := 8, ground := Go.Ground.textOnly Go.Departure.lateStoresUnsure }, ⟨9, .phase⟩, ⟨10, .phase⟩], none⟩) hH.out (by rintro w s0; go_simp <;> with_reducible rfl) ?_
          simp only [Act.put, sA, sB, sC]
          refine rdy (i := 12) (oi := ⟨none, .store 9 (.tmp 16) (.tmp 11), 0, "law.go:27", #[⟨11, .data⟩, ⟨5, .data⟩, ⟨10, .chain⟩, ⟨0, .phase⟩, ⟨1, .phase⟩, ⟨2, .phase⟩, ⟨3, .phase⟩, ⟨4, .phase⟩, ⟨5, .phase⟩, ⟨6, .phase⟩, ⟨7, .phase⟩, { on := 8, ground := Go.Ground.textOnly Go.Departure.lateStoresUnsure }, ⟨9, .phase⟩, ⟨10, .phase⟩], none⟩) (fun K hK => ?_)
          go_simp
          refine hK.out _ _ (by first | exact True.intro) (fun hHeld => ?_)
          replace hH := Lib.hid hHeld
          clear hK K hHeld
          try simp only [Act.put]
          refine tk (i := 13) (oi := ⟨some 17, .fieldAddr 28 (.tmp 1) 13, 0, "law.go:27", #[⟨0, .phase⟩, ⟨1, .phase⟩, ⟨2, .phase⟩, ⟨3, .phase⟩, ⟨4, .phase⟩, ⟨5, .phase⟩, ⟨6, .phase⟩, ⟨7, .phase⟩, ⟨8, .phase⟩, ⟨9, .phase⟩, ⟨10, .phase⟩, ⟨11, .phase⟩, ⟨12, .phase⟩], none⟩) hH.out (by rintro w s0; go_simp <;> with_reducible rfl) ?_
          simp only [Act.put, sA, sB, sC]
          refine rdy (i := 14) (oi := ⟨none, .store 9 (.tmp 17) (.tmp 14), 0, "law.go:27", #[⟨13, .data⟩, ⟨8, .data⟩, ⟨12, .chain⟩, ⟨0, .phase⟩, ⟨1, .phase⟩, ⟨2, .phase⟩, ⟨3, .phase⟩, ⟨4, .phase⟩, ⟨5, .phase⟩, ⟨6, .phase⟩, ⟨7, .phase⟩, ⟨8, .phase⟩, ⟨9, .phase⟩, ⟨10, .phase⟩, ⟨11, .phase⟩, ⟨12, .phase⟩], none⟩) (fun K hK => ?_)
          go_simp
          refine hK.out _ _ (by first | exact True.intro) (fun hHeld => ?_)
          replace hH := Lib.hid hHeld
          clear hK K hHeld
          try simp only [Act.put]
          refine wpAnyH_done (by kernel_rfl) ?_ _
          go_wp2_with fail
          go_meet
          exact ⟨rfl, HV.out.symm⟩
      · go_simp
        refine hK.out _ _ (by first | exact True.intro) (fun hHeld => ?_)
        replace hH := Lib.hid hHeld
        clear hK K hHeld
        try simp only [Act.put, sA, sB, sC]
        refine rdy (i := 1) (oi := ⟨some 7, .load 9 (.tmp 6), 9, "law.go:27", #[⟨0, .data⟩], none⟩) (fun K hK => ?_)
        go_simp
        refine hK.out _ _ (by first | exact True.intro) (fun hHeld => ?_)
        replace hH := Lib.hid hHeld
        clear hK K hHeld
        try simp only [Act.put, sA, sB, sC]
        refine rdy (i := 2) (oi := ⟨some 8, .call ⟨.value (.func 29), #[.tmp 7, .const (Go.Value.int Go.IntKind.i64 20)], #[9, 3]⟩, 9, "law.go:27", #[⟨1, .data⟩], none⟩) (fun K hK => ?_)
        go_simp
        refine (HS20.out _).mono ?_
        rintro r w11 ⟨rfl, rfl⟩
        go_wp2_with fail
        refine hK.out _ _ (by first | exact True.intro) (fun hHeld => ?_)
        replace hH := Lib.hid hHeld
        clear hK K hHeld
        try simp only [Act.put, sA, sB, sC]
        refine tk (i := 9) (oi := ⟨some 15, .fieldAddr 28 (.tmp 1) 9, 0, "law.go:27", #[⟨0, .phase⟩, ⟨1, .phase⟩, ⟨2, .phase⟩, ⟨3, .phase⟩, ⟨4, .phase⟩, { on := 5, ground := Go.Ground.textOnly Go.Departure.lateStoresUnsure }, ⟨6, .phase⟩, ⟨7, .phase⟩, { on := 8, ground := Go.Ground.textOnly Go.Departure.lateStoresUnsure }], none⟩) hH.out (by rintro w s0; go_simp <;> with_reducible rfl) ?_
        simp only [Act.put, sA, sB, sC]
        refine rdy (i := 5) (oi := ⟨some 11, .call ⟨.value (.func 29), #[.tmp 10, .const (Go.Value.int Go.IntKind.i64 20)], #[9, 3]⟩, 9, "law.go:27", #[⟨4, .data⟩, ⟨2, .chain⟩], none⟩) (fun K hK => ?_)
        go_simp
        refine (HO20.out _).mono ?_
        rintro r w11 ⟨rfl, rfl⟩
        go_wp2_with fail
        refine hK.out _ _ (by first | exact True.intro) (fun hHeld => ?_)
        replace hH := Lib.hid hHeld
        clear hK K hHeld
        try simp only [Act.put, sA, sB, sC]
        refine rdy (i := 8) (oi := ⟨some 14, .call ⟨.value (.func 29), #[.tmp 13, .const (Go.Value.int Go.IntKind.i64 70)], #[9, 3]⟩, 9, "law.go:27", #[⟨7, .data⟩, ⟨5, .chain⟩], none⟩) (fun K hK => ?_)
        go_simp
        refine (HS70.out _).mono ?_
        rintro r w11 ⟨rfl, rfl⟩
        go_wp2_with fail
        refine hK.out _ _ (by first | exact True.intro) (fun hHeld => ?_)
        replace hH := Lib.hid hHeld
        clear hK K hHeld
        try simp only [Act.put, sA, sB, sC]
        refine rdy (i := 10) (oi := ⟨none, .store 9 (.tmp 15) (.tmp 8), 0, "law.go:27", #[⟨9, .data⟩, ⟨2, .data⟩, ⟨8, .chain⟩, ⟨0, .phase⟩, ⟨1, .phase⟩, ⟨2, .phase⟩, ⟨3, .phase⟩, ⟨4, .phase⟩, { on := 5, ground := Go.Ground.textOnly Go.Departure.lateStoresUnsure }, ⟨6, .phase⟩, ⟨7, .phase⟩, { on := 8, ground := Go.Ground.textOnly Go.Departure.lateStoresUnsure }], none⟩) (fun K hK => ?_)
        go_simp
        refine hK.out _ _ (by first | exact True.intro) (fun hHeld => ?_)
        replace hH := Lib.hid hHeld
        clear hK K hHeld
        try simp only [Act.put]
        refine tk (i := 11) (oi := ⟨some 16, .fieldAddr 28 (.tmp 1) 10, 0, "law.go:27", #[⟨0, .phase⟩, ⟨1, .phase⟩, ⟨2, .phase⟩, ⟨3, .phase⟩, ⟨4, .phase⟩, ⟨5, .phase⟩, ⟨6, .phase⟩, ⟨7, .phase⟩, { on := 8, ground := Go.Ground.textOnly Go.Departure.lateStoresUnsure }, ⟨9, .phase⟩, ⟨10, .phase⟩], none⟩) hH.out (by rintro w s0; go_simp <;> with_reducible rfl) ?_
        simp only [Act.put, sA, sB, sC]
        refine rdy (i := 12) (oi := ⟨none, .store 9 (.tmp 16) (.tmp 11), 0, "law.go:27", #[⟨11, .data⟩, ⟨5, .data⟩, ⟨10, .chain⟩, ⟨0, .phase⟩, ⟨1, .phase⟩, ⟨2, .phase⟩, ⟨3, .phase⟩, ⟨4, .phase⟩, ⟨5, .phase⟩, ⟨6, .phase⟩, ⟨7, .phase⟩, { on := 8, ground := Go.Ground.textOnly Go.Departure.lateStoresUnsure }, ⟨9, .phase⟩, ⟨10, .phase⟩], none⟩) (fun K hK => ?_)
        go_simp
        refine hK.out _ _ (by first | exact True.intro) (fun hHeld => ?_)
        replace hH := Lib.hid hHeld
        clear hK K hHeld
        try simp only [Act.put]
        refine tk (i := 13) (oi := ⟨some 17, .fieldAddr 28 (.tmp 1) 13, 0, "law.go:27", #[⟨0, .phase⟩, ⟨1, .phase⟩, ⟨2, .phase⟩, ⟨3, .phase⟩, ⟨4, .phase⟩, ⟨5, .phase⟩, ⟨6, .phase⟩, ⟨7, .phase⟩, ⟨8, .phase⟩, ⟨9, .phase⟩, ⟨10, .phase⟩, ⟨11, .phase⟩, ⟨12, .phase⟩], none⟩) hH.out (by rintro w s0; go_simp <;> with_reducible rfl) ?_
        simp only [Act.put, sA, sB, sC]
        refine rdy (i := 14) (oi := ⟨none, .store 9 (.tmp 17) (.tmp 14), 0, "law.go:27", #[⟨13, .data⟩, ⟨8, .data⟩, ⟨12, .chain⟩, ⟨0, .phase⟩, ⟨1, .phase⟩, ⟨2, .phase⟩, ⟨3, .phase⟩, ⟨4, .phase⟩, ⟨5, .phase⟩, ⟨6, .phase⟩, ⟨7, .phase⟩, ⟨8, .phase⟩, ⟨9, .phase⟩, ⟨10, .phase⟩, ⟨11, .phase⟩, ⟨12, .phase⟩], none⟩) (fun K hK => ?_)
        go_simp
        refine hK.out _ _ (by first | exact True.intro) (fun hHeld => ?_)
        replace hH := Lib.hid hHeld
        clear hK K hHeld
        try simp only [Act.put]
        refine wpAnyH_done (by kernel_rfl) ?_ _
        go_wp2_with fail
        go_meet
        exact ⟨rfl, HV.out.symm⟩
    · go_simp
      refine hK.out _ _ (by first | exact True.intro) (fun hHeld => ?_)
      replace hH := Lib.hid hHeld
      clear hK K hHeld
      try simp only [Act.put, sA, sB, sC]
      refine wpAnyH_ready (rs := [1, 4]) (by kernel_rfl) (by simp) ?_
      refine AllReadyH.cons (o := ⟨some 7, .load 9 (.tmp 6), 9, "law.go:27", #[⟨0, .data⟩], none⟩) rfl (fun K hK => ?_) (AllReadyH.cons (o := ⟨some 10, .load 9 (.tmp 9), 9, "law.go:27", #[⟨3, .data⟩], none⟩) rfl (fun K hK => ?_) (AllReadyH.nil))
      · go_simp
        refine hK.out _ _ (by first | exact True.intro) (fun hHeld => ?_)
        replace hH := Lib.hid hHeld
        clear hK K hHeld
        try simp only [Act.put, sA, sB, sC]
        refine wpAnyH_ready (rs := [2, 4]) (by kernel_rfl) (by simp) ?_
        refine AllReadyH.cons (o := ⟨some 8, .call ⟨.value (.func 29), #[.tmp 7, .const (Go.Value.int Go.IntKind.i64 20)], #[9, 3]⟩, 9, "law.go:27", #[⟨1, .data⟩], none⟩) rfl (fun K hK => ?_) (AllReadyH.cons (o := ⟨some 10, .load 9 (.tmp 9), 9, "law.go:27", #[⟨3, .data⟩], none⟩) rfl (fun K hK => ?_) (AllReadyH.nil))
        · go_simp
          refine (HS20.out _).mono ?_
          rintro r w11 ⟨rfl, rfl⟩
          go_wp2_with fail
          refine hK.out _ _ (by first | exact True.intro) (fun hHeld => ?_)
          replace hH := Lib.hid hHeld
          clear hK K hHeld
          try simp only [Act.put, sA, sB, sC]
          refine rdy (i := 4) (oi := ⟨some 10, .load 9 (.tmp 9), 9, "law.go:27", #[⟨3, .data⟩], none⟩) (fun K hK => ?_)
          go_simp
          refine hK.out _ _ (by first | exact True.intro) (fun hHeld => ?_)
          replace hH := Lib.hid hHeld
          clear hK K hHeld
          try simp only [Act.put, sA, sB, sC]
          refine tk (i := 9) (oi := ⟨some 15, .fieldAddr 28 (.tmp 1) 9, 0, "law.go:27", #[⟨0, .phase⟩, ⟨1, .phase⟩, ⟨2, .phase⟩, ⟨3, .phase⟩, ⟨4, .phase⟩, { on := 5, ground := Go.Ground.textOnly Go.Departure.lateStoresUnsure }, ⟨6, .phase⟩, ⟨7, .phase⟩, { on := 8, ground := Go.Ground.textOnly Go.Departure.lateStoresUnsure }], none⟩) hH.out (by rintro w s0; go_simp <;> with_reducible rfl) ?_
          simp only [Act.put, sA, sB, sC]
          refine rdy (i := 5) (oi := ⟨some 11, .call ⟨.value (.func 29), #[.tmp 10, .const (Go.Value.int Go.IntKind.i64 20)], #[9, 3]⟩, 9, "law.go:27", #[⟨4, .data⟩, ⟨2, .chain⟩], none⟩) (fun K hK => ?_)
          go_simp
          refine (HO20.out _).mono ?_
          rintro r w11 ⟨rfl, rfl⟩
          go_wp2_with fail
          refine hK.out _ _ (by first | exact True.intro) (fun hHeld => ?_)
          replace hH := Lib.hid hHeld
          clear hK K hHeld
          try simp only [Act.put, sA, sB, sC]
          refine rdy (i := 8) (oi := ⟨some 14, .call ⟨.value (.func 29), #[.tmp 13, .const (Go.Value.int Go.IntKind.i64 70)], #[9, 3]⟩, 9, "law.go:27", #[⟨7, .data⟩, ⟨5, .chain⟩], none⟩) (fun K hK => ?_)
          go_simp
          refine (HS70.out _).mono ?_
          rintro r w11 ⟨rfl, rfl⟩
          go_wp2_with fail
          refine hK.out _ _ (by first | exact True.intro) (fun hHeld => ?_)
          replace hH := Lib.hid hHeld
          clear hK K hHeld
          try simp only [Act.put, sA, sB, sC]
          refine rdy (i := 10) (oi := ⟨none, .store 9 (.tmp 15) (.tmp 8), 0, "law.go:27", #[⟨9, .data⟩, ⟨2, .data⟩, ⟨8, .chain⟩, ⟨0, .phase⟩, ⟨1, .phase⟩, ⟨2, .phase⟩, ⟨3, .phase⟩, ⟨4, .phase⟩, { on := 5, ground := Go.Ground.textOnly Go.Departure.lateStoresUnsure }, ⟨6, .phase⟩, ⟨7, .phase⟩, { on := 8, ground := Go.Ground.textOnly Go.Departure.lateStoresUnsure }], none⟩) (fun K hK => ?_)
          go_simp
          refine hK.out _ _ (by first | exact True.intro) (fun hHeld => ?_)
          replace hH := Lib.hid hHeld
          clear hK K hHeld
          try simp only [Act.put]
          refine tk (i := 11) (oi := ⟨some 16, .fieldAddr 28 (.tmp 1) 10, 0, "law.go:27", #[⟨0, .phase⟩, ⟨1, .phase⟩, ⟨2, .phase⟩, ⟨3, .phase⟩, ⟨4, .phase⟩, ⟨5, .phase⟩, ⟨6, .phase⟩, ⟨7, .phase⟩, { on := 8, ground := Go.Ground.textOnly Go.Departure.lateStoresUnsure }, ⟨9, .phase⟩, ⟨10, .phase⟩], none⟩) hH.out (by rintro w s0; go_simp <;> with_reducible rfl) ?_
          simp only [Act.put, sA, sB, sC]
          refine rdy (i := 12) (oi := ⟨none, .store 9 (.tmp 16) (.tmp 11), 0, "law.go:27", #[⟨11, .data⟩, ⟨5, .data⟩, ⟨10, .chain⟩, ⟨0, .phase⟩, ⟨1, .phase⟩, ⟨2, .phase⟩, ⟨3, .phase⟩, ⟨4, .phase⟩, ⟨5, .phase⟩, ⟨6, .phase⟩, ⟨7, .phase⟩, { on := 8, ground := Go.Ground.textOnly Go.Departure.lateStoresUnsure }, ⟨9, .phase⟩, ⟨10, .phase⟩], none⟩) (fun K hK => ?_)
          go_simp
          refine hK.out _ _ (by first | exact True.intro) (fun hHeld => ?_)
          replace hH := Lib.hid hHeld
          clear hK K hHeld
          try simp only [Act.put]
          refine tk (i := 13) (oi := ⟨some 17, .fieldAddr 28 (.tmp 1) 13, 0, "law.go:27", #[⟨0, .phase⟩, ⟨1, .phase⟩, ⟨2, .phase⟩, ⟨3, .phase⟩, ⟨4, .phase⟩, ⟨5, .phase⟩, ⟨6, .phase⟩, ⟨7, .phase⟩, ⟨8, .phase⟩, ⟨9, .phase⟩, ⟨10, .phase⟩, ⟨11, .phase⟩, ⟨12, .phase⟩], none⟩) hH.out (by rintro w s0; go_simp <;> with_reducible rfl) ?_
          simp only [Act.put, sA, sB, sC]
          refine rdy (i := 14) (oi := ⟨none, .store 9 (.tmp 17) (.tmp 14), 0, "law.go:27", #[⟨13, .data⟩, ⟨8, .data⟩, ⟨12, .chain⟩, ⟨0, .phase⟩, ⟨1, .phase⟩, ⟨2, .phase⟩, ⟨3, .phase⟩, ⟨4, .phase⟩, ⟨5, .phase⟩, ⟨6, .phase⟩, ⟨7, .phase⟩, ⟨8, .phase⟩, ⟨9, .phase⟩, ⟨10, .phase⟩, ⟨11, .phase⟩, ⟨12, .phase⟩], none⟩) (fun K hK => ?_)
          go_simp
          refine hK.out _ _ (by first | exact True.intro) (fun hHeld => ?_)
          replace hH := Lib.hid hHeld
          clear hK K hHeld
          try simp only [Act.put]
          refine wpAnyH_done (by kernel_rfl) ?_ _
          go_wp2_with fail
          go_meet
          exact ⟨rfl, HV.out.symm⟩
        · go_simp
          refine hK.out _ _ (by first | exact True.intro) (fun hHeld => ?_)
          replace hH := Lib.hid hHeld
          clear hK K hHeld
          try simp only [Act.put, sA, sB, sC]
          refine rdy (i := 2) (oi := ⟨some 8, .call ⟨.value (.func 29), #[.tmp 7, .const (Go.Value.int Go.IntKind.i64 20)], #[9, 3]⟩, 9, "law.go:27", #[⟨1, .data⟩], none⟩) (fun K hK => ?_)
          go_simp
          refine (HS20.out _).mono ?_
          rintro r w11 ⟨rfl, rfl⟩
          go_wp2_with fail
          refine hK.out _ _ (by first | exact True.intro) (fun hHeld => ?_)
          replace hH := Lib.hid hHeld
          clear hK K hHeld
          try simp only [Act.put, sA, sB, sC]
          refine tk (i := 9) (oi := ⟨some 15, .fieldAddr 28 (.tmp 1) 9, 0, "law.go:27", #[⟨0, .phase⟩, ⟨1, .phase⟩, ⟨2, .phase⟩, ⟨3, .phase⟩, ⟨4, .phase⟩, { on := 5, ground := Go.Ground.textOnly Go.Departure.lateStoresUnsure }, ⟨6, .phase⟩, ⟨7, .phase⟩, { on := 8, ground := Go.Ground.textOnly Go.Departure.lateStoresUnsure }], none⟩) hH.out (by rintro w s0; go_simp <;> with_reducible rfl) ?_
          simp only [Act.put, sA, sB, sC]
          refine rdy (i := 5) (oi := ⟨some 11, .call ⟨.value (.func 29), #[.tmp 10, .const (Go.Value.int Go.IntKind.i64 20)], #[9, 3]⟩, 9, "law.go:27", #[⟨4, .data⟩, ⟨2, .chain⟩], none⟩) (fun K hK => ?_)
          go_simp
          refine (HO20.out _).mono ?_
          rintro r w11 ⟨rfl, rfl⟩
          go_wp2_with fail
          refine hK.out _ _ (by first | exact True.intro) (fun hHeld => ?_)
          replace hH := Lib.hid hHeld
          clear hK K hHeld
          try simp only [Act.put, sA, sB, sC]
          refine rdy (i := 8) (oi := ⟨some 14, .call ⟨.value (.func 29), #[.tmp 13, .const (Go.Value.int Go.IntKind.i64 70)], #[9, 3]⟩, 9, "law.go:27", #[⟨7, .data⟩, ⟨5, .chain⟩], none⟩) (fun K hK => ?_)
          go_simp
          refine (HS70.out _).mono ?_
          rintro r w11 ⟨rfl, rfl⟩
          go_wp2_with fail
          refine hK.out _ _ (by first | exact True.intro) (fun hHeld => ?_)
          replace hH := Lib.hid hHeld
          clear hK K hHeld
          try simp only [Act.put, sA, sB, sC]
          refine rdy (i := 10) (oi := ⟨none, .store 9 (.tmp 15) (.tmp 8), 0, "law.go:27", #[⟨9, .data⟩, ⟨2, .data⟩, ⟨8, .chain⟩, ⟨0, .phase⟩, ⟨1, .phase⟩, ⟨2, .phase⟩, ⟨3, .phase⟩, ⟨4, .phase⟩, { on := 5, ground := Go.Ground.textOnly Go.Departure.lateStoresUnsure }, ⟨6, .phase⟩, ⟨7, .phase⟩, { on := 8, ground := Go.Ground.textOnly Go.Departure.lateStoresUnsure }], none⟩) (fun K hK => ?_)
          go_simp
          refine hK.out _ _ (by first | exact True.intro) (fun hHeld => ?_)
          replace hH := Lib.hid hHeld
          clear hK K hHeld
          try simp only [Act.put]
          refine tk (i := 11) (oi := ⟨some 16, .fieldAddr 28 (.tmp 1) 10, 0, "law.go:27", #[⟨0, .phase⟩, ⟨1, .phase⟩, ⟨2, .phase⟩, ⟨3, .phase⟩, ⟨4, .phase⟩, ⟨5, .phase⟩, ⟨6, .phase⟩, ⟨7, .phase⟩, { on := 8, ground := Go.Ground.textOnly Go.Departure.lateStoresUnsure }, ⟨9, .phase⟩, ⟨10, .phase⟩], none⟩) hH.out (by rintro w s0; go_simp <;> with_reducible rfl) ?_
          simp only [Act.put, sA, sB, sC]
          refine rdy (i := 12) (oi := ⟨none, .store 9 (.tmp 16) (.tmp 11), 0, "law.go:27", #[⟨11, .data⟩, ⟨5, .data⟩, ⟨10, .chain⟩, ⟨0, .phase⟩, ⟨1, .phase⟩, ⟨2, .phase⟩, ⟨3, .phase⟩, ⟨4, .phase⟩, ⟨5, .phase⟩, ⟨6, .phase⟩, ⟨7, .phase⟩, { on := 8, ground := Go.Ground.textOnly Go.Departure.lateStoresUnsure }, ⟨9, .phase⟩, ⟨10, .phase⟩], none⟩) (fun K hK => ?_)
          go_simp
          refine hK.out _ _ (by first | exact True.intro) (fun hHeld => ?_)
          replace hH := Lib.hid hHeld
          clear hK K hHeld
          try simp only [Act.put]
          refine tk (i := 13) (oi := ⟨some 17, .fieldAddr 28 (.tmp 1) 13, 0, "law.go:27", #[⟨0, .phase⟩, ⟨1, .phase⟩, ⟨2, .phase⟩, ⟨3, .phase⟩, ⟨4, .phase⟩, ⟨5, .phase⟩, ⟨6, .phase⟩, ⟨7, .phase⟩, ⟨8, .phase⟩, ⟨9, .phase⟩, ⟨10, .phase⟩, ⟨11, .phase⟩, ⟨12, .phase⟩], none⟩) hH.out (by rintro w s0; go_simp <;> with_reducible rfl) ?_
          simp only [Act.put, sA, sB, sC]
          refine rdy (i := 14) (oi := ⟨none, .store 9 (.tmp 17) (.tmp 14), 0, "law.go:27", #[⟨13, .data⟩, ⟨8, .data⟩, ⟨12, .chain⟩, ⟨0, .phase⟩, ⟨1, .phase⟩, ⟨2, .phase⟩, ⟨3, .phase⟩, ⟨4, .phase⟩, ⟨5, .phase⟩, ⟨6, .phase⟩, ⟨7, .phase⟩, ⟨8, .phase⟩, ⟨9, .phase⟩, ⟨10, .phase⟩, ⟨11, .phase⟩, ⟨12, .phase⟩], none⟩) (fun K hK => ?_)
          go_simp
          refine hK.out _ _ (by first | exact True.intro) (fun hHeld => ?_)
          replace hH := Lib.hid hHeld
          clear hK K hHeld
          try simp only [Act.put]
          refine wpAnyH_done (by kernel_rfl) ?_ _
          go_wp2_with fail
          go_meet
          exact ⟨rfl, HV.out.symm⟩
      · go_simp
        refine hK.out _ _ (by first | exact True.intro) (fun hHeld => ?_)
        replace hH := Lib.hid hHeld
        clear hK K hHeld
        try simp only [Act.put, sA, sB, sC]
        refine rdy (i := 1) (oi := ⟨some 7, .load 9 (.tmp 6), 9, "law.go:27", #[⟨0, .data⟩], none⟩) (fun K hK => ?_)
        go_simp
        refine hK.out _ _ (by first | exact True.intro) (fun hHeld => ?_)
        replace hH := Lib.hid hHeld
        clear hK K hHeld
        try simp only [Act.put, sA, sB, sC]
        refine rdy (i := 2) (oi := ⟨some 8, .call ⟨.value (.func 29), #[.tmp 7, .const (Go.Value.int Go.IntKind.i64 20)], #[9, 3]⟩, 9, "law.go:27", #[⟨1, .data⟩], none⟩) (fun K hK => ?_)
        go_simp
        refine (HS20.out _).mono ?_
        rintro r w11 ⟨rfl, rfl⟩
        go_wp2_with fail
        refine hK.out _ _ (by first | exact True.intro) (fun hHeld => ?_)
        replace hH := Lib.hid hHeld
        clear hK K hHeld
        try simp only [Act.put, sA, sB, sC]
        refine tk (i := 9) (oi := ⟨some 15, .fieldAddr 28 (.tmp 1) 9, 0, "law.go:27", #[⟨0, .phase⟩, ⟨1, .phase⟩, ⟨2, .phase⟩, ⟨3, .phase⟩, ⟨4, .phase⟩, { on := 5, ground := Go.Ground.textOnly Go.Departure.lateStoresUnsure }, ⟨6, .phase⟩, ⟨7, .phase⟩, { on := 8, ground := Go.Ground.textOnly Go.Departure.lateStoresUnsure }], none⟩) hH.out (by rintro w s0; go_simp <;> with_reducible rfl) ?_
        simp only [Act.put, sA, sB, sC]
        refine rdy (i := 5) (oi := ⟨some 11, .call ⟨.value (.func 29), #[.tmp 10, .const (Go.Value.int Go.IntKind.i64 20)], #[9, 3]⟩, 9, "law.go:27", #[⟨4, .data⟩, ⟨2, .chain⟩], none⟩) (fun K hK => ?_)
        go_simp
        refine (HO20.out _).mono ?_
        rintro r w11 ⟨rfl, rfl⟩
        go_wp2_with fail
        refine hK.out _ _ (by first | exact True.intro) (fun hHeld => ?_)
        replace hH := Lib.hid hHeld
        clear hK K hHeld
        try simp only [Act.put, sA, sB, sC]
        refine rdy (i := 8) (oi := ⟨some 14, .call ⟨.value (.func 29), #[.tmp 13, .const (Go.Value.int Go.IntKind.i64 70)], #[9, 3]⟩, 9, "law.go:27", #[⟨7, .data⟩, ⟨5, .chain⟩], none⟩) (fun K hK => ?_)
        go_simp
        refine (HS70.out _).mono ?_
        rintro r w11 ⟨rfl, rfl⟩
        go_wp2_with fail
        refine hK.out _ _ (by first | exact True.intro) (fun hHeld => ?_)
        replace hH := Lib.hid hHeld
        clear hK K hHeld
        try simp only [Act.put, sA, sB, sC]
        refine rdy (i := 10) (oi := ⟨none, .store 9 (.tmp 15) (.tmp 8), 0, "law.go:27", #[⟨9, .data⟩, ⟨2, .data⟩, ⟨8, .chain⟩, ⟨0, .phase⟩, ⟨1, .phase⟩, ⟨2, .phase⟩, ⟨3, .phase⟩, ⟨4, .phase⟩, { on := 5, ground := Go.Ground.textOnly Go.Departure.lateStoresUnsure }, ⟨6, .phase⟩, ⟨7, .phase⟩, { on := 8, ground := Go.Ground.textOnly Go.Departure.lateStoresUnsure }], none⟩) (fun K hK => ?_)
        go_simp
        refine hK.out _ _ (by first | exact True.intro) (fun hHeld => ?_)
        replace hH := Lib.hid hHeld
        clear hK K hHeld
        try simp only [Act.put]
        refine tk (i := 11) (oi := ⟨some 16, .fieldAddr 28 (.tmp 1) 10, 0, "law.go:27", #[⟨0, .phase⟩, ⟨1, .phase⟩, ⟨2, .phase⟩, ⟨3, .phase⟩, ⟨4, .phase⟩, ⟨5, .phase⟩, ⟨6, .phase⟩, ⟨7, .phase⟩, { on := 8, ground := Go.Ground.textOnly Go.Departure.lateStoresUnsure }, ⟨9, .phase⟩, ⟨10, .phase⟩], none⟩) hH.out (by rintro w s0; go_simp <;> with_reducible rfl) ?_
        simp only [Act.put, sA, sB, sC]
        refine rdy (i := 12) (oi := ⟨none, .store 9 (.tmp 16) (.tmp 11), 0, "law.go:27", #[⟨11, .data⟩, ⟨5, .data⟩, ⟨10, .chain⟩, ⟨0, .phase⟩, ⟨1, .phase⟩, ⟨2, .phase⟩, ⟨3, .phase⟩, ⟨4, .phase⟩, ⟨5, .phase⟩, ⟨6, .phase⟩, ⟨7, .phase⟩, { on := 8, ground := Go.Ground.textOnly Go.Departure.lateStoresUnsure }, ⟨9, .phase⟩, ⟨10, .phase⟩], none⟩) (fun K hK => ?_)
        go_simp
        refine hK.out _ _ (by first | exact True.intro) (fun hHeld => ?_)
        replace hH := Lib.hid hHeld
        clear hK K hHeld
        try simp only [Act.put]
        refine tk (i := 13) (oi := ⟨some 17, .fieldAddr 28 (.tmp 1) 13, 0, "law.go:27", #[⟨0, .phase⟩, ⟨1, .phase⟩, ⟨2, .phase⟩, ⟨3, .phase⟩, ⟨4, .phase⟩, ⟨5, .phase⟩, ⟨6, .phase⟩, ⟨7, .phase⟩, ⟨8, .phase⟩, ⟨9, .phase⟩, ⟨10, .phase⟩, ⟨11, .phase⟩, ⟨12, .phase⟩], none⟩) hH.out (by rintro w s0; go_simp <;> with_reducible rfl) ?_
        simp only [Act.put, sA, sB, sC]
        refine rdy (i := 14) (oi := ⟨none, .store 9 (.tmp 17) (.tmp 14), 0, "law.go:27", #[⟨13, .data⟩, ⟨8, .data⟩, ⟨12, .chain⟩, ⟨0, .phase⟩, ⟨1, .phase⟩, ⟨2, .phase⟩, ⟨3, .phase⟩, ⟨4, .phase⟩, ⟨5, .phase⟩, ⟨6, .phase⟩, ⟨7, .phase⟩, ⟨8, .phase⟩, ⟨9, .phase⟩, ⟨10, .phase⟩, ⟨11, .phase⟩, ⟨12, .phase⟩], none⟩) (fun K hK => ?_)
        go_simp
        refine hK.out _ _ (by first | exact True.intro) (fun hHeld => ?_)
        replace hH := Lib.hid hHeld
        clear hK K hHeld
        try simp only [Act.put]
        refine wpAnyH_done (by kernel_rfl) ?_ _
        go_wp2_with fail
        go_meet
        exact ⟨rfl, HV.out.symm⟩
  case rest =>
  obtain ⟨rfl, hwx⟩ := hcut
  replace hwx := hwx.symm
  subst hwx
  clear f11 f12 f15 s11 s12 s15 HS20 HO20 HS70
  obtain ⟨q0, q1, q2, q3, q4, q5, q6⟩ := HBV.out.c18.a
  have q17 := HBV.out.cell 17
  clear q0 q1 q2 q3 q4 q5 q6
  simp only [mc, List.getElem?_toArray, List.getElem?_cons_zero, List.getElem?_cons_succ] at q17
  have HM17 := Lib.hid (fun w' (a : Adv Nul V Nul w') => show w'.cell? ⟨z, 17, none⟩ = some (.slice A N c) from ((HBV.out.over a).cell 17))
  go_wp2_with fail
  go_loopw [3, 4] (FwL7 V m.en 26) (fun _ t _ => N - (intOf t).toNat)
  case atStart => exact ⟨0, rfl, Nat.zero_le _, Nat.zero_le _, by simp only [fewL, List.take_zero, List.map_nil]; exact EnO.nil V⟩
  case round =>
    obtain ⟨j, rfl, hj, hjn, hE⟩ := hrel
    rw [← HN.out] at hj
    have hlen : (fewL j m.en).length = j := by rw [fewL_length, ← HN.out]; omega
    obtain ⟨A5, c5, rfl⟩ := hE.form
    rw [hlen] at hE ⊢
    have HE := Lib.hid hE
    have HL := Lib.hid hlen
    have r17 := HM17.out wr HE.out.adv
    clear hE hlen q17
    have hcase : (j < N ∧ j < 26) ∨ ((j : Int) < N ∧ (26 : Int) ≤ j ∧ j = 26) ∨ ((N : Int) ≤ j ∧ j = N) := by omega
    rcases hcase with ⟨hlt, hjl⟩ | ⟨hlt, hle, hje⟩ | ⟨hle, hje⟩
    · have hjd : j < m.en.length := by rw [← HN.out]; exact hlt
      obtain ⟨b, o, rfl, hb, g0, g1, g2, g3⟩ := (HEN.out.step (HAV.out.trans HE.out.adv)).at_ HN.out hjd
      obtain ⟨e, he⟩ : ∃ e, e = m.en[j] := ⟨_, rfl⟩
      have hsz : e.s.size ≤ maxLen := by rw [he]; exact HEN.out.sz _ (List.getElem_mem _)
      have HF := Lib.hid (show fewL (j + 1) m.en = fewL j m.en ++ [cutE7 e] by unfold fewL; rw [List.take_succ_eq_append_getElem hjd, List.map_append, he]; rfl)
      rw [← he] at g0 g1 g2 g3
      have HLT := Lib.hid hlt
      have HJL := Lib.hid hjl
      have hlt' : (j : Int) < (N : Int) := by omega
      have hjl' : (j : Int) < 26 := by omega
      clear he hjd hb
      obtain ⟨s, i, g, k⟩ := e
      simp only at g0 g1 g2 g3 hsz
      have hmore := HE.out.more (m := [cutE7 ⟨s, i, g, k⟩]) (fun e he => by
        rw [List.mem_singleton.1 he]
        have := cut20_size s
        show (cut20 s).size ≤ maxLen
        unfold maxLen; omega)
      have hA2 := ((Adv.refl Nul wr).alloc (.cells (ea ⟨cut20 s, i, g, k⟩) 54)).alloc (.cells (ea ⟨cut20 s, i, g, k⟩) 54)
      have hown := own_keep hmore.1 (fun q hq => hA2.block q (hmore.1.lt q hq).2 (fun x => x))
      rw [HL.out] at hown
      have hrd : Rd ((wr.alloc (.cells (ea ⟨cut20 s, i, g, k⟩) 54)).alloc (.cells (ea ⟨cut20 s, i, g, k⟩) 54)) 4 (.slice (some ⟨wr.heap.size + 1, 0, none⟩) 1 1) 1 (ec ⟨cut20 s, i, g, k⟩) := by
        have := rd_one (wr.alloc (.cells (ea ⟨cut20 s, i, g, k⟩) 54)) ⟨cut20 s, i, g, k⟩
        rwa [World.size_alloc] at this
      have HMORE := Lib.hid hmore.2
      have HA2' := Lib.hid hA2
      clear hmore hA2
      go_wp2_with (first
        | (go_at_call 29; refine (short20 _ _ hsz).mono ?_; rintro x w1 ⟨rfl, rfl⟩)
        | (at_builtin; refine wpList_append_en rfl (.tmp 38) (.tmp 40) rfl rfl rfl hown hrd (ec_one _) (by have := HJL.out; omega) ?c5)
        | fail)
      case c5 =>
        intro v' w5 hown5 hg5 hat5
        have hp := HMORE.out _ v' w5 HA2'.out (by rw [ecs_one_eq, HL.out]; exact hown5) hg5 (by simpa [ea] using hat5)
        rw [← HF.out] at hp
        have HP := Lib.hid hp
        obtain ⟨A6, c6, rfl⟩ := hp.form
        clear hp hown5 hg5 hat5 hown hrd
        go_wp2_with fail
        exact ⟨⟨j + 1, by go_num, by rw [← HN.out]; exact HLT.out, HJL.out, HP.out⟩, by have := HLT.out; simp [intOf] <;> omega⟩
    · subst hje
      clear hj hjn
      have HWB := Lib.hid (HBV.out.over HE.out.adv)
      have HWU := Lib.hid (HUV.out.over HE.out.adv)
      have q17' : wr.cell? ⟨z, 17, none⟩ = some (.slice A N c) := HWB.out.cell 17
      have f17 : wr.frozen? ⟨z, 17, none⟩ = false := HWB.out.frozen 17
      go_upto_region 10 with fail
      obtain ⟨W1, hW1⟩ : ∃ W1, W1 = wr.setCell ⟨z, 17, none⟩ (.slice A5 26 c5) := ⟨_, rfl⟩
      have HB1' := Lib.hid (show Blk W1 z 28 (mc (shM m) (.slice A5 26 c5)) by rw [hW1]; unfold shM; exact HWB.out.set_ 17 _)
      have HU1 := Lib.hid (show Blk W1 u 28 Z by rw [hW1]; exact HWU.out.far (p := ⟨z, 17, none⟩) HZU.out.symm _)
      have HK1 := Lib.hid (show Adv (One z) wr (One z) W1 by rw [hW1]; exact (Adv.refl (One z) wr).setCell (p := ⟨z, 17, none⟩) (.inl (show One z z from rfl)) _)
      have HEW := Lib.hid (show EnO w (fewL 26 m.en) (.slice A5 26 c5) W1 from (HE.out).putz HAV.out HZ1.out HBV.out.lt HK1.out)
      have HNU := Lib.hid (show ∀ k, Value.ownBlock (.slice A5 26 c5) = some k → k ≠ u from fun k hk e => by have h1 := HE.out.new_ k hk; have h2 := HUV.out.lt; omega)
      rw [← hW1]
      clear hW1 q17' f17 HWB HWU
      obtain ⟨D, hD⟩ : ∃ D, D = mc (shM m) (.slice A5 26 c5) := ⟨_, rfl⟩
      have HD := Lib.hid hD
      rw [← hD] at HB1'
      have HDS := Lib.hid (show D.size = 18 by rw [hD]; rfl)
      have HD1 := Lib.hid (show D.all (·.oneCell') = true by rw [hD]; exact mc_one _ _ _ _)
      clear hD
      go_wp2_with (first
        | (refine kop_load (t := 28) rfl _ rfl z HB1'.out rfl Try.underlying28 rfl sizeM HDS.out ?_)
        | (refine kop_store (t := 28) rfl _ _ rfl u HU1.out rfl rfl sizeM HDS.out HZS.out HD1.out ?_; intro w9 hb ha; have HB9 := Lib.hid hb; have HA9 := Lib.hid ha; clear hb ha)
        | fail)
      exact bodyPost_ret (kresM rfl _ _ rfl HB9.out Try.underlying28 rfl (by rw [sizeM, HDS.out])) rfl ⟨.slice A5 26 c5, by rw [HD.out], HEW.out.far1 HU2.out HNU.out HA9.out⟩
    · have HF := Lib.hid (show fewL 26 m.en = fewL j m.en by unfold fewL; rw [List.take_of_length_le (by rw [← HN.out]; omega), List.take_of_length_le (by rw [← HN.out]; omega)])
      subst hje
      clear hj hjn
      have HWB := Lib.hid (HBV.out.over HE.out.adv)
      have HWU := Lib.hid (HUV.out.over HE.out.adv)
      have q17' : wr.cell? ⟨z, 17, none⟩ = some (.slice A j c) := HWB.out.cell 17
      have f17 : wr.frozen? ⟨z, 17, none⟩ = false := HWB.out.frozen 17
      go_upto_region 10 with fail
      obtain ⟨W1, hW1⟩ : ∃ W1, W1 = wr.setCell ⟨z, 17, none⟩ (.slice A5 j c5) := ⟨_, rfl⟩
      have HB1' := Lib.hid (show Blk W1 z 28 (mc (shM m) (.slice A5 j c5)) by rw [hW1]; unfold shM; exact HWB.out.set_ 17 _)
      have HU1 := Lib.hid (show Blk W1 u 28 Z by rw [hW1]; exact HWU.out.far (p := ⟨z, 17, none⟩) HZU.out.symm _)
      have HK1 := Lib.hid (show Adv (One z) wr (One z) W1 by rw [hW1]; exact (Adv.refl (One z) wr).setCell (p := ⟨z, 17, none⟩) (.inl (show One z z from rfl)) _)
      have HEW := Lib.hid (show EnO w (fewL 26 m.en) (.slice A5 j c5) W1 from ((show EnO V (fewL 26 m.en) (.slice A5 j c5) wr from by rw [HF.out]; exact HE.out)).putz HAV.out HZ1.out HBV.out.lt HK1.out)
      have HNU := Lib.hid (show ∀ k, Value.ownBlock (.slice A5 j c5) = some k → k ≠ u from fun k hk e => by have h1 := HE.out.new_ k hk; have h2 := HUV.out.lt; omega)
      rw [← hW1]
      clear hW1 q17' f17 HWB HWU
      obtain ⟨D, hD⟩ : ∃ D, D = mc (shM m) (.slice A5 j c5) := ⟨_, rfl⟩
      have HD := Lib.hid hD
      rw [← hD] at HB1'
      have HDS := Lib.hid (show D.size = 18 by rw [hD]; rfl)
      have HD1 := Lib.hid (show D.all (·.oneCell') = true by rw [hD]; exact mc_one _ _ _ _)
      clear hD
      go_wp2_with (first
        | (refine kop_load (t := 28) rfl _ rfl z HB1'.out rfl Try.underlying28 rfl sizeM HDS.out ?_)
        | (refine kop_store (t := 28) rfl _ _ rfl u HU1.out rfl rfl sizeM HDS.out HZS.out HD1.out ?_; intro w9 hb ha; have HB9 := Lib.hid hb; have HA9 := Lib.hid ha; clear hb ha)
        | fail)
      exact bodyPost_ret (kresM rfl _ _ rfl HB9.out Try.underlying28 rfl (by rw [sizeM, HDS.out])) rfl ⟨.slice A5 j c5, by rw [HD.out], HEW.out.far1 HU2.out HNU.out HA9.out⟩
end Go.Proofs.Ytpgeebhepegpaaa
namespace Go.Proofs.Ytpgeebhepegpaaa
open Go.ChangeShapes Go.WideShapes Go.ChangeAt Go.RowKit

section
variable {w w' : World} {v : Value} {rs : List (List Nat)}
set_option maxRecDepth 3000 in
theorem RwD.form (h : RwD w v rs) : ∃ A c, v = .slice A rs.length c ∧ rs.length ≤ c ∧ c ≤ maxLen := by
  obtain ⟨cs, h1, _⟩ := h.ex
  exact h1.form
set_option maxRecDepth 3000 in
theorem RwD.len {A : Option Addr} {n c : Nat} (h : RwD w (.slice A n c) rs) : n = rs.length := by
  obtain ⟨A', c', e, _⟩ := h.form
  injection e with _ e _
set_option maxRecDepth 3000 in
theorem RwD.at_ {A : Option Addr} {n c i : Nat} (h : RwD w (.slice A n c) rs) (hi : i < rs.length) : ∃ b o A' q, A = some ⟨b, o, none⟩ ∧ b < w.heap.size ∧ w.cell? ⟨b, o + i, none⟩ = some (.slice A' (rs[i]).length q) ∧ Rd w 1 (.slice A' (rs[i]).length q) (rs[i]).length ((rs[i]).map u8) := by
  obtain ⟨cs, h1, h2, h3⟩ := h.ex
  obtain ⟨A0, c0, e, _⟩ := h1.form
  injection e with e1 e2 e3
  subst e2
  obtain ⟨b, o, rfl, hb, hc⟩ := h1.cells (by omega) (by decide)
  have hci := List.getElem?_eq_getElem (l := cs) (i := i) (by omega)
  have hr := h3 i _ _ hci (List.getElem?_eq_getElem hi)
  obtain ⟨A', q, e, _⟩ := hr.form
  rw [e] at hr hci
  exact ⟨b, o, A', q, rfl, hb, hc i _ hci, hr⟩
end
/-- bytes that are bytes -/
def All8 (rs : List (List Nat)) : Prop := ∀ r ∈ rs, ∀ x ∈ r, x < 256
set_option maxRecDepth 3000 in
theorem bL_8 (l : List En) : All8 (bL l) := fun r hr => (bL_all l r hr).2
def ErL (w : World) (rs qs : List (List Nat)) (t : Value) (wr : World) : Prop := ∃ k : Nat, k ≤ rs.length ∧ t = .int .i64 (k : Int) ∧ (∀ i, i < k → rs[i]? = qs[i]?) ∧ wr = w
end Go.Proofs.Ytpgeebhepegpaaa
namespace Go.Proofs.Ytpgeebhepegpaaa
open Go.ChangeShapes Go.WideShapes Go.ChangeAt Go.RowKit Go.Deep

set_option maxRecDepth 3000 in
theorem w_list_of {α : Type} {Q : Nat → α → Prop} : ∀ n : Nat, (∀ i, i < n → ∃ d, Q i d) → ∃ ds : List α, ds.length = n ∧ ∀ i (h : i < ds.length), Q i ds[i]
  | 0, _ => ⟨[], rfl, fun i h => absurd h (by simp)⟩
  | n + 1, H => by
    obtain ⟨ds, hl, hd⟩ := w_list_of n (fun i hi => H i (by omega))
    obtain ⟨d, hq⟩ := H n (by omega)
    refine ⟨ds ++ [d], by simp [hl], fun i h => ?_⟩
    rw [List.length_append, List.length_singleton] at h
    by_cases hi : i < ds.length
    · rw [List.getElem_append_left hi]; exact hd i hi
    · have e : i = n := by omega
      subst e
      rw [List.getElem_append_right (by omega)]
      simpa using hq
set_option maxRecDepth 3000 in
theorem w_cell_ints {H : Type} {enc : TypeId × Value → H} {P : Program} {W : World} {t e : TypeId} {k : IntKind} {fuel : Nat} {v : Value} {x : DataW H × List MemPlace} (ht : P.underlying t = some (.slice e)) (he : P.underlying e = some (.int k)) (hc : P.cellsOf e = 1)
    (hf : DataW.trod enc P W 0 (fun _ => true) true fuel t [v] = some x) :
    ∃ (n : Nat) (zs : List Int), Rd W 1 v n (zs.map (Value.int k)) ∧ zs.length = n ∧ (∀ z ∈ zs, (Lit.int k z).wf = true) ∧ (∀ b, v.ownBlock = some b → 0 < n → b < W.heap.size) := by
  rcases open_ints ht he hc hf with ⟨hcs, _⟩ | ⟨x, l, c, zs, hcs, _, hl, hm, hz, _, hcell, hwz⟩
  · simp at hcs
    subst hcs
    exact ⟨0, [], ⟨none, 0, rfl, Nat.le_refl _, Nat.zero_le _, rfl, fun _ => rfl, fun hn => absurd hn (by omega)⟩, rfl, fun _ hz => by simp at hz, fun b hb => by simp [Value.ownBlock] at hb⟩
  · simp at hcs
    subst hcs
    have hz' : zs.length = c := by simpa using hz
    have hlt : 0 < l → x.block < W.heap.size := fun hn => by
      have h := World.block_lt_of_cell? _ _ (hcell 0 (by omega))
      rwa [add_block] at h
    refine ⟨l, zs.take l, ⟨some x, c, rfl, hl, hm, by simp; omega, fun hn => (by cases hn), fun hn => ⟨x, rfl, hlt hn, fun j u hu => ?_⟩⟩, by simp; omega, fun z hzz => hwz z (List.mem_of_mem_take hzz), fun b hb hn => ?_⟩
    · obtain ⟨h1, h2, rfl⟩ := getD_map_int k zs l j u hu
      exact hcell j (by omega)
    · have : x.block = b := by simpa [Value.ownBlock] using hb
      rw [← this]; exact hlt hn

set_option maxRecDepth 3000 in
theorem w_cellsEntry : Try.prog.cellsOf 54 = 4 := by kernel_rfl
set_option maxRecDepth 3000 in
theorem w_cellsFile : Try.prog.cellsOf 25 = 2 := by kernel_rfl
set_option maxRecDepth 3000 in
theorem w_cellsInt : Try.prog.cellsOf 3 = 1 := by kernel_rfl
set_option maxRecDepth 3000 in
theorem w_cellsString : Try.prog.cellsOf 9 = 1 := by kernel_rfl
set_option maxRecDepth 3000 in
theorem w_cellsBytes : Try.prog.cellsOf 38 = 1 := by kernel_rfl
set_option maxRecDepth 3000 in
/-- an entry's cells -/
theorem open_en {H : Type} {enc : TypeId × Value → H} {W : World} {n : Nat} {cs : List Value} {x : DataW H × List MemPlace} (h : DataW.trod enc Try.prog W 0 (fun _ => true) true n 54 cs = some x) :
    ∃ e : En, cs = ec e ∧ e.s.size ≤ maxLen := by
  obtain ⟨xs, m, _, _, hlen, hxl, hf⟩ := DataW.trod_struct Try.underlying54 h
  rw [w_cellsEntry] at hlen
  match cs, hlen with
  | [c0, c1, c2, c3], _ =>
    match xs, hxl with
    | [y0, y1, y2], _ =>
      have f0 := hf 0 _ rfl
      have f1 := hf 1 _ rfl
      have f2 := hf 2 _ rfl
      change DataW.trod enc Try.prog W 0 (fun _ => true) true m 9 ((([c0, c1, c2, c3] : List Value).drop 0).take (Try.prog.cellsOf 9)) = some y0 at f0
      change DataW.trod enc Try.prog W 0 (fun _ => true) true m 25 ((([c0, c1, c2, c3] : List Value).drop 1).take (Try.prog.cellsOf 25)) = some y1 at f1
      change DataW.trod enc Try.prog W 0 (fun _ => true) true m 3 ((([c0, c1, c2, c3] : List Value).drop 3).take (Try.prog.cellsOf 3)) = some y2 at f2
      rw [w_cellsString] at f0
      rw [w_cellsFile] at f1
      rw [w_cellsInt] at f2
      obtain ⟨s, e0, _, hs⟩ := DataW.trod_string Try.underlying9 f0
      obtain ⟨zs, m1, _, _, _, hzl, hg⟩ := DataW.trod_struct Try.underlying25 f1
      obtain ⟨a3, e3, _, _⟩ := DataW.trod_int Try.underlying3 f2
      match zs, hzl with
      | [z0, z1], _ =>
        have g0 := hg 0 _ rfl
        have g1 := hg 1 _ rfl
        change DataW.trod enc Try.prog W 0 (fun _ => true) true m1 3 ((([c1, c2] : List Value).drop 0).take (Try.prog.cellsOf 3)) = some z0 at g0
        change DataW.trod enc Try.prog W 0 (fun _ => true) true m1 3 ((([c1, c2] : List Value).drop 1).take (Try.prog.cellsOf 3)) = some z1 at g1
        rw [w_cellsInt] at g0 g1
        obtain ⟨a1, e1, _, _⟩ := DataW.trod_int Try.underlying3 g0
        obtain ⟨a2, e2, _, _⟩ := DataW.trod_int Try.underlying3 g1
        simp at e0 e1 e2 e3
        subst e0 e1 e2 e3
        exact ⟨⟨s, a1, a2, a3⟩, rfl, hs⟩
def EnA (v : Value) : Prop := ∃ e : En, v = .agg (ec e).toArray ∧ e.s.size ≤ maxLen
set_option maxRecDepth 3000 in
theorem open_entry {H : Type} {enc : TypeId × Value → H} {W : World} {base : Nat} {r : Reach} {v : Value} {d : DataW H} {p : List MemPlace} (hv : Value.okWide Try.prog W r base 54 v) (h : DataW.Trod enc Try.prog W 0 (fun _ => true) true 54 v d p) : EnA v := by
  obtain ⟨cs, rfl, _⟩ := okWide_struct Try.underlying54 hv
  obtain ⟨fuel, hf⟩ := h
  obtain ⟨e, h1, h2⟩ := open_en hf
  have h1' : cs.toList = ec e := h1
  exact ⟨e, by rw [← h1'], h2⟩
set_option maxRecDepth 3000 in
theorem open_entries {H : Type} {enc : TypeId × Value → H} {W : World} {base : Nat} {r : Reach} {v : Value} {d : DataW H} {p : List MemPlace} (hv : Value.okWide Try.prog W r base 26 v) (h : DataW.Trod enc Try.prog W 0 (fun _ => true) true 26 v d p) : ∃ l, EnR7 W v l := by
  obtain ⟨a, len, cap, rfl⟩ := okWide_slice Try.underlying26 hv
  obtain ⟨fuel, hf⟩ := h
  rcases open_slice Try.underlying26 hf with ⟨hcs, _⟩ | ⟨x, l, c, m, n, D, Pl, hcs, _, hl, hm, hmm, _, hi⟩
  · simp [Value.cells] at hcs
    obtain ⟨rfl, rfl, rfl⟩ := hcs
    exact ⟨[], ⟨none, 0, rfl, Nat.le_refl _, Nat.zero_le _, rfl, fun _ => rfl, fun hn => absurd hn (by simp)⟩, fun _ hz => by simp at hz⟩
  · simp [Value.cells] at hcs
    obtain ⟨rfl, rfl, rfl⟩ := hcs
    simp only [if_true] at hmm
    have H1 : ∀ i, i < len → ∃ d : En, (∀ j, j < 4 → W.cell? (x.add (i * 4 + j)) = (ec d)[j]?) ∧ d.s.size ≤ maxLen := by
      intro i hil
      obtain ⟨cs', hc, ht⟩ := hi i (by omega)
      rw [w_cellsEntry] at hc
      obtain ⟨d, rfl, h1⟩ := open_en ht
      obtain ⟨_, _, hat⟩ := World.cells?_some hc
      refine ⟨d, fun j hj => ?_, h1⟩
      rw [← hat j hj, Go.Deep.add_add]
    obtain ⟨ds, hdl, hd⟩ := w_list_of len H1
    refine ⟨ds, ⟨some x, cap, by rw [hdl], by omega, hm, ecs_length _, fun hn => (by cases hn), fun hn => ⟨x, rfl, ?_, ?_⟩⟩, ?_⟩
    · have h0 := (hd 0 hn).1 0 (by decide)
      have := World.block_lt_of_cell? _ _ (h0.trans rfl)
      rwa [add_block] at this
    · intro j u hu
      have hjl : j < (ecs ds).length := (List.getElem?_eq_some_iff.1 hu).1
      rw [ecs_length] at hjl
      have hk : j / 4 < ds.length := by omega
      have hj4 : j % 4 < 4 := by omega
      have e : j = j / 4 * 4 + j % 4 := by omega
      rw [e] at hu ⊢
      rw [(hd (j / 4) hk).1 (j % 4) hj4, ← hu, ecs_at ds (j / 4) (j % 4) hj4 hk]
    · intro d hdm
      obtain ⟨i, hi2, rfl⟩ := List.getElem_of_mem hdm
      exact (hd i hi2).2
/-- rows that came in -/
structure RwI (w : World) (v : Value) (rs : List (List Nat)) : Prop where
  ex : ∃ cs : List Value, Rd w 1 v rs.length cs ∧ cs.length = rs.length ∧ ∀ (i : Nat) (c : Value) (r : List Nat), cs[i]? = some c → rs[i]? = some r → In w c r
set_option maxRecDepth 3000 in
theorem RwI.rd {w : World} {v : Value} {rs : List (List Nat)} (h : RwI w v rs) : RwD w v rs := by
  obtain ⟨cs, h1, h2, h3⟩ := h.ex
  exact ⟨cs, h1, h2, fun i c r hc hr => (h3 i c r hc hr).rd⟩
set_option maxRecDepth 3000 in
theorem RwI.all8 {w : World} {v : Value} {rs : List (List Nat)} (h : RwI w v rs) : All8 rs := by
  obtain ⟨cs, h1, h2, h3⟩ := h.ex
  intro r hr
  obtain ⟨i, hi, rfl⟩ := List.mem_iff_getElem.1 hr
  exact (h3 i _ _ (List.getElem?_eq_getElem (by omega)) (List.getElem?_eq_getElem hi)).lt
set_option maxRecDepth 3000 in
theorem open_rows {H : Type} {enc : TypeId × Value → H} {W : World} {base : Nat} {r : Reach} {v : Value} {d : DataW H} {p : List MemPlace} (hv : Value.okWide Try.prog W r base 109 v) (h : DataW.Trod enc Try.prog W 0 (fun _ => true) true 109 v d p) : ∃ l, RwI W v l := by
  obtain ⟨a, len, cap, rfl⟩ := okWide_slice Try.underlying109 hv
  obtain ⟨fuel, hf⟩ := h
  rcases open_slice Try.underlying109 hf with ⟨hcs, _⟩ | ⟨x, l, c, m, n, D, Pl, hcs, _, hl, hm, hmm, _, hi⟩
  · simp [Value.cells] at hcs
    obtain ⟨rfl, rfl, rfl⟩ := hcs
    exact ⟨[], [], ⟨none, 0, rfl, Nat.le_refl _, Nat.zero_le _, rfl, fun _ => rfl, fun hn => absurd hn (by simp)⟩, rfl, fun _ _ _ hc => by simp at hc⟩
  · simp [Value.cells] at hcs
    obtain ⟨rfl, rfl, rfl⟩ := hcs
    simp only [if_true] at hmm
    have H1 : ∀ i, i < len → ∃ d : Value × List Nat, W.cell? (x.add i) = some d.1 ∧ In W d.1 d.2 := by
      intro i hil
      obtain ⟨cs', hc, ht⟩ := hi i (by omega)
      rw [w_cellsBytes] at hc
      obtain ⟨hsz, _, hat⟩ := World.cells?_some hc
      match cs', hsz, ht, hat with
      | [c0], _, ht, hat =>
        obtain ⟨l, hl⟩ := In.of_rd_ints (w_cell_ints Try.underlying38 Try.underlying5 (by kernel_rfl) (v := c0) ht)
        have h0 := hat 0 (by decide)
        rw [Go.Deep.add_add] at h0
        refine ⟨(c0, l), ?_, hl⟩
        simpa using h0
    obtain ⟨ds, hdl, hd⟩ := w_list_of len H1
    refine ⟨ds.map Prod.snd, ds.map Prod.fst, ⟨some x, cap, by simp [hdl], by simp; omega, hm, by simp, fun hn => (by cases hn), fun hn => ⟨x, rfl, ?_, ?_⟩⟩, by simp, ?_⟩
    · rw [List.length_map] at hn
      have := World.block_lt_of_cell? _ _ (hd 0 hn).1
      rwa [add_block] at this
    · intro j u hu
      rw [List.getElem?_map] at hu
      obtain ⟨dd, h1, rfl⟩ := Option.map_eq_some_iff.1 hu
      obtain ⟨hj, rfl⟩ := List.getElem?_eq_some_iff.1 h1
      exact (hd j hj).1
    · intro i c r hc hr
      rw [List.getElem?_map] at hc hr
      obtain ⟨dd, h1, rfl⟩ := Option.map_eq_some_iff.1 hc
      obtain ⟨hj, rfl⟩ := List.getElem?_eq_some_iff.1 h1
      rw [h1] at hr
      obtain rfl := Option.some.inj hr
      exact (hd i hj).2
end Go.Proofs.Ytpgeebhepegpaaa
namespace Go.Proofs.Ytpgeebhepegpaaa
open Go.ChangeShapes Go.WideShapes Go.ChangeAt Go.RowKit Go.Deep

set_option maxRecDepth 3000 in
theorem m_cellsE : Try.prog.cellsOf 26 = 1 := by kernel_rfl
set_option maxRecDepth 3000 in
theorem m_cellsF : Try.prog.cellsOf 25 = 2 := by kernel_rfl
set_option maxRecDepth 3000 in
theorem m_cellsI : Try.prog.cellsOf 3 = 1 := by kernel_rfl
set_option maxRecDepth 3000 in
theorem m_cellsU : Try.prog.cellsOf 22 = 1 := by kernel_rfl
set_option maxRecDepth 3000 in
theorem m_cellsS : Try.prog.cellsOf 9 = 1 := by kernel_rfl
set_option maxRecDepth 3000 in
theorem m_cellsR : Try.prog.cellsOf 23 = 1 := by kernel_rfl
set_option maxRecDepth 3000 in
theorem m_cellsM : Try.prog.cellsOf 28 = 18 := by kernel_rfl
set_option maxRecDepth 3000 in
theorem mwf_of_u64 {x : Int} (h : (Lit.int .u64 x).wf = true) : ∃ n : Nat, x = (n : Int) ∧ n < 18446744073709551616 := by
  have hb := bounds_u64 h
  exact ⟨x.toNat, by omega, by omega⟩
set_option maxRecDepth 3000 in
theorem open_fileM {H : Type} {enc : TypeId × Value → H} {W : World} {n : Nat} {cs : List Value} {x : DataW H × List MemPlace} (h : DataW.trod enc Try.prog W 0 (fun _ => true) true n 25 cs = some x) :
    ∃ i g : Int, cs = [.int .i64 i, .int .i64 g] := by
  obtain ⟨zs, m1, _, _, hlen, hzl, hg⟩ := DataW.trod_struct Try.underlying25 h
  rw [m_cellsF] at hlen
  match cs, hlen with
  | [c1, c2], _ =>
    match zs, hzl with
    | [z0, z1], _ =>
      have g0 := hg 0 _ rfl
      have g1 := hg 1 _ rfl
      simp [m_cellsI] at g0 g1
      obtain ⟨a1, e1, _, w1⟩ := DataW.trod_int Try.underlying3 g0
      obtain ⟨a2, e2, _, w2⟩ := DataW.trod_int Try.underlying3 g1
      simp at e1 e2
      subst e1 e2
      exact ⟨a1, a2, rfl⟩
set_option maxRecDepth 3000 in
theorem open_entriesM {H : Type} {enc : TypeId × Value → H} {W : World} {fuel : Nat} {v : Value} {x : DataW H × List MemPlace} (hf : DataW.trod enc Try.prog W 0 (fun _ => true) true fuel 26 [v] = some x) : ∃ l, EnR7 W v l := by
  rcases open_slice Try.underlying26 hf with ⟨hcs, _⟩ | ⟨x, l, c, m, n, D, Pl, hcs, _, hl, hm, hmm, _, hi⟩
  · simp at hcs
    subst hcs
    exact ⟨[], ⟨none, 0, rfl, Nat.le_refl _, Nat.zero_le _, rfl, fun _ => rfl, fun hn => absurd hn (by simp)⟩, fun _ hz => by simp at hz⟩
  · simp at hcs
    subst hcs
    simp only [if_true] at hmm
    have H1 : ∀ i, i < l → ∃ d : En, (∀ j, j < 4 → W.cell? (x.add (i * 4 + j)) = (ec d)[j]?) ∧ d.s.size ≤ maxLen := by
      intro i hil
      obtain ⟨cs', hc, ht⟩ := hi i (by omega)
      rw [w_cellsEntry] at hc
      obtain ⟨d, rfl, h1⟩ := open_en ht
      obtain ⟨_, _, hat⟩ := World.cells?_some hc
      refine ⟨d, fun j hj => ?_, h1⟩
      rw [← hat j hj, Go.Deep.add_add]
    obtain ⟨ds, hdl, hd⟩ := w_list_of l H1
    refine ⟨ds, ⟨some x, c, by rw [hdl], by omega, hm, ecs_length _, fun hn => (by cases hn), fun hn => ⟨x, rfl, ?_, ?_⟩⟩, ?_⟩
    · have h0 := (hd 0 hn).1 0 (by decide)
      have := World.block_lt_of_cell? _ _ (h0.trans rfl)
      rwa [add_block] at this
    · intro j u hu
      have hjl : j < (ecs ds).length := (List.getElem?_eq_some_iff.1 hu).1
      rw [ecs_length] at hjl
      have hk : j / 4 < ds.length := by omega
      have hj4 : j % 4 < 4 := by omega
      have e : j = j / 4 * 4 + j % 4 := by omega
      rw [e] at hu ⊢
      rw [(hd (j / 4) hk).1 (j % 4) hj4, ← hu, ecs_at ds (j / 4) (j % 4) hj4 hk]
    · intro d hdm
      obtain ⟨i, hi2, rfl⟩ := List.getElem_of_mem hdm
      exact (hd i hi2).2
/-- A message that came in. -/
def MArg (W : World) (v : Value) : Prop := ∃ (m : Ms) (sv : Value), v = .agg (mc m sv) ∧ WfAm m ∧ EnR7 W sv m.en
set_option maxRecDepth 3000 in
set_option maxHeartbeats 3200000 in
theorem open_msg {H : Type} {enc : TypeId × Value → H} {W : World} {base : Nat} {r : Reach} {v : Value} {d : DataW H} {p : List MemPlace} (hv : Value.okWide Try.prog W r base 28 v) (h : DataW.Trod enc Try.prog W 0 (fun _ => true) true 28 v d p) : MArg W v := by
  obtain ⟨cs, rfl, _⟩ := okWide_struct Try.underlying28 hv
  obtain ⟨fuel, hf⟩ := h
  obtain ⟨xs, mm, _, _, hlen, hxl, hf⟩ := DataW.trod_struct Try.underlying28 hf
  rw [m_cellsM] at hlen
  have e : (Value.agg cs).cells.toList = cs.toList := rfl
  rw [e] at hlen hf
  obtain ⟨c, hc⟩ : ∃ c, c = cs.toList := ⟨_, rfl⟩
  rw [← hc] at hlen hf
  match c, hlen with
  | [c0, c1, c2, c3, c4, c5, c6, c7, c8, c9, c10, c11, c12, c13, c14, c15, c16, c17], _ =>
    match xs, hxl with
    | [y0, y1, y2, y3, y4, y5, y6, y7, y8, y9, y10, y11, y12, y13, y14, y15], _ =>
      have f0 := hf 0 _ rfl
      have f1 := hf 1 _ rfl
      have f2 := hf 2 _ rfl
      have f3 := hf 3 _ rfl
      have f4 := hf 4 _ rfl
      have f5 := hf 5 _ rfl
      have f6 := hf 6 _ rfl
      have f7 := hf 7 _ rfl
      have f8 := hf 8 _ rfl
      have f9 := hf 9 _ rfl
      have f10 := hf 10 _ rfl
      have f11 := hf 11 _ rfl
      have f12 := hf 12 _ rfl
      have f13 := hf 13 _ rfl
      have f14 := hf 14 _ rfl
      have f15 := hf 15 _ rfl
      simp [m_cellsI, m_cellsU, m_cellsS, m_cellsR, m_cellsF, m_cellsE] at f0 f1 f2 f3 f4 f5 f6 f7 f8 f9 f10 f11 f12 f13 f14 f15
      clear hf
      obtain ⟨ty, e0, _, _⟩ := DataW.trod_int Try.underlying3 f0
      obtain ⟨cl, e1, _, _⟩ := DataW.trod_int Try.underlying3 f1
      obtain ⟨ss, e2, _, w2⟩ := DataW.trod_int Try.underlying22 f2
      obtain ⟨sq, e3, _, w3⟩ := DataW.trod_int Try.underlying22 f3
      obtain ⟨bo, e4, _, w4⟩ := DataW.trod_int Try.underlying22 f4
      obtain ⟨kd, e5, _, _⟩ := DataW.trod_int Try.underlying3 f5
      obtain ⟨er, e6, _, _⟩ := DataW.trod_int Try.underlying23 f6
      obtain ⟨fi, fg, e7⟩ := open_fileM f7
      obtain ⟨di, dg, e8⟩ := open_fileM f8
      obtain ⟨nm, e9, _, h9⟩ := DataW.trod_string Try.underlying9 f9
      obtain ⟨ot, e10, _, h10⟩ := DataW.trod_string Try.underlying9 f10
      obtain ⟨mo, e11, _, _⟩ := DataW.trod_int Try.underlying3 f11
      obtain ⟨at_, e12, _, _⟩ := DataW.trod_int Try.underlying3 f12
      obtain ⟨da, e13, _, h13⟩ := DataW.trod_string Try.underlying9 f13
      obtain ⟨ve, e14, _, w14⟩ := DataW.trod_int Try.underlying22 f14
      obtain ⟨l, hl⟩ := open_entriesM f15
      clear f0 f1 f2 f3 f4 f5 f6 f7 f8 f9 f10 f11 f12 f13 f14 f15
      simp at e0 e1 e2 e3 e4 e5 e6 e7 e8 e9 e10 e11 e12 e13 e14
      obtain ⟨rfl, rfl⟩ := e7
      obtain ⟨rfl, rfl⟩ := e8
      subst e0 e1 e2 e3 e4 e5 e6 e9 e10 e11 e12 e13 e14
      obtain ⟨nss, rfl, hss⟩ := mwf_of_u64 w2
      obtain ⟨nsq, rfl, hsq⟩ := mwf_of_u64 w3
      obtain ⟨nbo, rfl, hbo⟩ := mwf_of_u64 w4
      obtain ⟨nve, rfl, hve⟩ := mwf_of_u64 w14
      refine ⟨⟨ty, cl, nss, nsq, nbo, kd, er, fi, fg, di, dg, nm, ot, mo, at_, da, nve, l⟩, c17, ?_, ⟨hss, hsq, hbo, hve, h9, h10, h13⟩, hl⟩
      refine congrArg Value.agg (Array.ext' ?_)
      rw [← hc]
      rfl
end Go.Proofs.Ytpgeebhepegpaaa
namespace Go.Proofs.Ytpgeebhepegpaaa
open Go.ChangeShapes Go.WideShapes Go.ChangeAt Go.RowKit

set_option maxRecDepth 3000 in
set_option maxHeartbeats 12800000 in
theorem qsame16_any (x y : Ms) (va vb : Value) (w : World) (hEa : EnR7 w va x.en) (hEb : EnR7 w vb y.en) : Calls Try.prog 17 #[.agg (mc x va), .agg (mc y vb)] w fun e w' => e = .returned (.bool (sameB x y)) ∧ Adv Nul w Nul w' := by
  obtain ⟨B, hB⟩ : ∃ B, B = sameB x y := ⟨_, rfl⟩
  rw [← hB]
  have HB := Lib.hid hB
  obtain ⟨C, hC⟩ : ∃ C, C = mc x va := ⟨_, rfl⟩
  obtain ⟨D, hD⟩ : ∃ C, C = mc y vb := ⟨_, rfl⟩
  have HC := Lib.hid (fun (z : Nat) (w' : World) (h : Blk w' z 28 C) => (show C18 w' z x va from (show Blk w' z 28 (mc x va) by rw [← hC]; exact h).c18))
  have HD := Lib.hid (fun (z : Nat) (w' : World) (h : Blk w' z 28 D) => (show C18 w' z y vb from (show Blk w' z 28 (mc y vb) by rw [← hD]; exact h).c18))
  have HE := Lib.hid (fun w' (a : Adv Nul w Nul w') => same9_any va vb x.en y.en w' (hEa.step a) (hEb.step a))
  rw [← hC, ← hD]
  clear hC hD hB hEa hEb
  obtain ⟨a_ty, a_cl, a_ss, a_sq, a_bo, a_kd, a_er, a_fi, a_fg, a_di, a_dg, a_nm, a_ot, a_mo, a_at_, a_da, a_ve, la⟩ := x
  obtain ⟨b_ty, b_cl, b_ss, b_sq, b_bo, b_kd, b_er, b_fi, b_fg, b_di, b_dg, b_nm, b_ot, b_mo, b_at_, b_da, b_ve, lb⟩ := y
  simp only at HE
  go_enter Try.func17, Try.ntmps17
  go_upto_region 1 with (first
    | (refine kop_box rfl _ rfl rfl ?_; intro z w1 hz hb ha; have HA1 := Lib.hid ((Adv.refl Nul w).trans ha); have HB1 := Lib.hid hb; clear hz hb ha)
    | (refine kop_box rfl _ rfl rfl ?_; intro y w2 hz hb ha; have HA2 := Lib.hid (HA1.out.trans ha); have HY2 := Lib.hid hb; have HZ2 := Lib.hid (HB1.out.over ha); clear hz hb ha HB1)
    | fail)
  obtain ⟨⟨s0, s1, s2, s3, s4, s5, s6⟩, ⟨s7, s8, s9, s10⟩, ⟨s11, s12, s13, s14, s15, s16, s17⟩⟩ := HC.out _ _ HZ2.out
  obtain ⟨⟨q0, q1, q2, q3, q4, q5, q6⟩, ⟨q7, q8, q9, q10⟩, ⟨q11, q12, q13, q14, q15, q16, q17⟩⟩ := HD.out _ _ HY2.out
  simp only at s0 s1 s2 s3 s4 s5 s6 s7 s8 s9 s10 s11 s12 s13 s14 s15 s16 s17 q0 q1 q2 q3 q4 q5 q6 q7 q8 q9 q10 q11 q12 q13 q14 q15 q16 q17
  clear HC HD HZ2 HY2
  by_cases e : a_ty = b_ty
  · subst e
    by_cases e : a_cl = b_cl
    · subst e
      by_cases e : a_ss = b_ss
      · subst e
        by_cases e : a_sq = b_sq
        · subst e
          by_cases e : a_bo = b_bo
          · subst e
            by_cases e : a_kd = b_kd
            · subst e
              by_cases e : a_er = b_er
              · subst e
                by_cases e : a_fi = b_fi
                · subst e
                  by_cases e : a_fg = b_fg
                  · subst e
                    by_cases e : a_di = b_di
                    · subst e
                      by_cases e : a_dg = b_dg
                      · subst e
                        by_cases e : a_nm = b_nm
                        · subst e
                          by_cases e : a_ot = b_ot
                          · subst e
                            by_cases e : a_mo = b_mo
                            · subst e
                              by_cases e : a_at_ = b_at_
                              · subst e
                                by_cases e : a_da = b_da
                                · subst e
                                  by_cases e : a_ve = b_ve
                                  · subst e
                                    have HJ := Lib.hid (show B = decide (la = lb) from by rw [HB.out]; exact sameB_en _ _ rfl)
                                    obtain ⟨J, hJ⟩ : ∃ J, J = decide (la = lb) := ⟨_, rfl⟩
                                    rw [← hJ] at HJ HE
                                    obtain rfl := HJ.out
                                    clear hJ
                                    go_wp2_with (first
                                      | (go_at_call 14; refine (HE.out _ HA2.out).mono ?_; rintro r w3 ⟨rfl, j, rfl⟩)
                                      | fail)
                                    go_ret
                                    exact ⟨by first | rfl | simp, HA2.out.drewN _⟩
                                  · have HN := Lib.hid (show B = false from by rw [HB.out]; exact sameB_no (·.ve) e)
                                    have eb : ((a_ve : Int) == (b_ve : Int)) = false := by rw [beq_eq_false_iff_ne]; omega
                                    obtain rfl := HN.out
                                    clear e
                                    go_wp2_with fail
                                    all_goals
                                      go_ret
                                      exact ⟨by first | rfl | simp, HA2.out⟩
                                · have HN := Lib.hid (show B = false from by rw [HB.out]; exact sameB_no (·.da) e)
                                  have eb : (a_da.toList == b_da.toList) = false := by rw [eqS_eq]; exact decide_eq_false e
                                  obtain rfl := HN.out
                                  clear e
                                  go_wp2_with fail
                                  all_goals
                                    go_ret
                                    exact ⟨by first | rfl | simp, HA2.out⟩
                              · have HN := Lib.hid (show B = false from by rw [HB.out]; exact sameB_no (·.at_) e)
                                have eb : (a_at_ == b_at_) = false := by rw [beq_eq_false_iff_ne]; exact e
                                obtain rfl := HN.out
                                clear e
                                go_wp2_with fail
                                all_goals
                                  go_ret
                                  exact ⟨by first | rfl | simp, HA2.out⟩
                            · have HN := Lib.hid (show B = false from by rw [HB.out]; exact sameB_no (·.mo) e)
                              have eb : (a_mo == b_mo) = false := by rw [beq_eq_false_iff_ne]; exact e
                              obtain rfl := HN.out
                              clear e
                              go_wp2_with fail
                              all_goals
                                go_ret
                                exact ⟨by first | rfl | simp, HA2.out⟩
                          · have HN := Lib.hid (show B = false from by rw [HB.out]; exact sameB_no (·.ot) e)
                            have eb : (a_ot.toList == b_ot.toList) = false := by rw [eqS_eq]; exact decide_eq_false e
                            obtain rfl := HN.out
                            clear e
                            go_wp2_with fail
                            all_goals
                              go_ret
                              exact ⟨by first | rfl | simp, HA2.out⟩
                        · have HN := Lib.hid (show B = false from by rw [HB.out]; exact sameB_no (·.nm) e)
                          have eb : (a_nm.toList == b_nm.toList) = false := by rw [eqS_eq]; exact decide_eq_false e
                          obtain rfl := HN.out
                          clear e
                          go_wp2_with fail
                          all_goals
                            go_ret
                            exact ⟨by first | rfl | simp, HA2.out⟩
                      · have HN := Lib.hid (show B = false from by rw [HB.out]; exact sameB_no (·.dg) e)
                        have eb : (a_dg == b_dg) = false := by rw [beq_eq_false_iff_ne]; exact e
                        obtain rfl := HN.out
                        clear e
                        go_wp2_with fail
                        all_goals
                          go_ret
                          exact ⟨by first | rfl | simp, HA2.out⟩
                    · have HN := Lib.hid (show B = false from by rw [HB.out]; exact sameB_no (·.di) e)
                      have eb : (a_di == b_di) = false := by rw [beq_eq_false_iff_ne]; exact e
                      obtain rfl := HN.out
                      clear e
                      go_wp2_with fail
                      all_goals
                        go_ret
                        exact ⟨by first | rfl | simp, HA2.out⟩
                  · have HN := Lib.hid (show B = false from by rw [HB.out]; exact sameB_no (·.fg) e)
                    have eb : (a_fg == b_fg) = false := by rw [beq_eq_false_iff_ne]; exact e
                    obtain rfl := HN.out
                    clear e
                    go_wp2_with fail
                    all_goals
                      go_ret
                      exact ⟨by first | rfl | simp, HA2.out⟩
                · have HN := Lib.hid (show B = false from by rw [HB.out]; exact sameB_no (·.fi) e)
                  have eb : (a_fi == b_fi) = false := by rw [beq_eq_false_iff_ne]; exact e
                  obtain rfl := HN.out
                  clear e
                  go_wp2_with fail
                  all_goals
                    go_ret
                    exact ⟨by first | rfl | simp, HA2.out⟩
              · have HN := Lib.hid (show B = false from by rw [HB.out]; exact sameB_no (·.er) e)
                have eb : (a_er == b_er) = false := by rw [beq_eq_false_iff_ne]; exact e
                obtain rfl := HN.out
                clear e
                go_wp2_with fail
                all_goals
                  go_ret
                  exact ⟨by first | rfl | simp, HA2.out⟩
            · have HN := Lib.hid (show B = false from by rw [HB.out]; exact sameB_no (·.kd) e)
              have eb : (a_kd == b_kd) = false := by rw [beq_eq_false_iff_ne]; exact e
              obtain rfl := HN.out
              clear e
              go_wp2_with fail
              all_goals
                go_ret
                exact ⟨by first | rfl | simp, HA2.out⟩
          · have HN := Lib.hid (show B = false from by rw [HB.out]; exact sameB_no (·.bo) e)
            have eb : ((a_bo : Int) == (b_bo : Int)) = false := by rw [beq_eq_false_iff_ne]; omega
            obtain rfl := HN.out
            clear e
            go_wp2_with fail
            all_goals
              go_ret
              exact ⟨by first | rfl | simp, HA2.out⟩
        · have HN := Lib.hid (show B = false from by rw [HB.out]; exact sameB_no (·.sq) e)
          have eb : ((a_sq : Int) == (b_sq : Int)) = false := by rw [beq_eq_false_iff_ne]; omega
          obtain rfl := HN.out
          clear e
          go_wp2_with fail
          all_goals
            go_ret
            exact ⟨by first | rfl | simp, HA2.out⟩
      · have HN := Lib.hid (show B = false from by rw [HB.out]; exact sameB_no (·.ss) e)
        have eb : ((a_ss : Int) == (b_ss : Int)) = false := by rw [beq_eq_false_iff_ne]; omega
        obtain rfl := HN.out
        clear e
        go_wp2_with fail
        all_goals
          go_ret
          exact ⟨by first | rfl | simp, HA2.out⟩
    · have HN := Lib.hid (show B = false from by rw [HB.out]; exact sameB_no (·.cl) e)
      have eb : (a_cl == b_cl) = false := by rw [beq_eq_false_iff_ne]; exact e
      obtain rfl := HN.out
      clear e
      go_wp2_with fail
      all_goals
        go_ret
        exact ⟨by first | rfl | simp, HA2.out⟩
  · have HN := Lib.hid (show B = false from by rw [HB.out]; exact sameB_no (·.ty) e)
    have eb : (a_ty == b_ty) = false := by rw [beq_eq_false_iff_ne]; exact e
    obtain rfl := HN.out
    clear e
    go_wp2_with fail
    all_goals
      go_ret
      exact ⟨by first | rfl | simp, HA2.out⟩
end Go.Proofs.Ytpgeebhepegpaaa
