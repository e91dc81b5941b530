/- The document's Is: which messages are right. (Made by mkmsis.py.) -/
import Derived.Test.YtpgeebhepegpaaaMsE
namespace Go.Proofs.Ytpgeebhepegpaaa
open Go.ChangeShapes Go.WideShapes Go.ChangeAt Go.RowKit

set_option maxRecDepth 3000 in
theorem kw_guard16 {ops : Array Oper} {rest : List Oper} {o : Oper} {a : Act} {w : World} {Q : Exit → Act → World → Prop} (hw : Region.wanted o (yielded ops a.tmps) = true) (h : wpList Try.prog ops Q ({ o with guard := none } :: rest) a w) : wpList Try.prog ops Q (o :: rest) a w := by
  unfold wpList at h ⊢
  rw [if_pos hw]
  rw [if_pos (by simp [Region.wanted])] at h
  exact h
set_option maxRecDepth 3000 in
theorem kw_loadM {ops : Array Oper} {rest : List Oper} {o : Oper} {a : Act} {w : World} {Q : Exit → Act → World → Prop} {t t' : TypeId} {C : Array Value} {s : Nat} {d : TypeDesc} (x : Operand) (ho : o.op = .load t x) (hw : Region.wanted o (yielded ops a.tmps) = true) (z : Nat) (hB : Blk w z t' C) (hx : a.eval x = .pointer (some ⟨z, 0, none⟩)) (hu : Try.prog.underlying t = some d) (hd : d.isRow = true) (hs : (Try.prog.info? t).map (·.size) = some s) (hC : C.size = s)
    (h : wpList Try.prog ops Q rest (a.put o.dst (.agg C)) w) : wpList Try.prog ops Q (o :: rest) a w := kw_guard16 hw (kop_load rfl x ho z hB hx hu hd hs hC h)
set_option maxRecDepth 3000 in
theorem isM_bad {m : Ms} (h : ¬ (0 ≤ m.cl ∧ m.cl < 8 ∧ ctP m.ss)) : isM m = false := by unfold isM; rw [if_pos h]
set_option maxRecDepth 3000 in
theorem isM_three {m : Ms} (h : 0 ≤ m.cl ∧ m.cl < 8 ∧ ctP m.ss) (h3 : m.ty = 3) : isM m = (zf m 0 && rf m 1 && zf m 2 && zf m 3 && juB m [102]) := by unfold isM; rw [if_neg (fun x => x h), if_pos h3]
set_option maxRecDepth 3000 in
theorem isM_no {m : Ms} (h : 0 ≤ m.cl ∧ m.cl < 8 ∧ ctP m.ss) (h3 : m.ty ≠ 3) (h4 : ¬ (rf m 0 = true ∧ rf m 2 = true ∧ 1 ≤ m.ty ∧ m.ty ≤ 2)) : isM m = false := by unfold isM; rw [if_neg (fun x => x h), if_neg h3, if_pos h4]
set_option maxRecDepth 3000 in
theorem isM_one {m : Ms} (h : 0 ≤ m.cl ∧ m.cl < 8 ∧ ctP m.ss) (h4 : rf m 0 = true ∧ rf m 2 = true ∧ 1 ≤ m.ty ∧ m.ty ≤ 2) (h1 : m.ty = 1) : isM m = (zf m 3 && (if m.kd = 1 then zf m 1 else rf m 1) && juB m (askT m.kd)) := by unfold isM; rw [if_neg (fun x => x h), if_neg (by omega), if_neg (fun x => x h4), if_pos h1]
set_option maxRecDepth 3000 in
theorem isM_two {m : Ms} (h : 0 ≤ m.cl ∧ m.cl < 8 ∧ ctP m.ss) (h4 : rf m 0 = true ∧ rf m 2 = true ∧ 1 ≤ m.ty ∧ m.ty ≤ 2) (h1 : m.ty ≠ 1) : isM m = if ¬ (rf m 3 = true ∧ rf m 1 = true) then false else if m.er = 0 then juB m (tolT m.kd) else juB m [] := by unfold isM; rw [if_neg (fun x => x h), if_neg (by omega), if_neg (fun x => x h4), if_neg h1]
set_option maxRecDepth 3000 in
theorem askT_ok (k : Int) : (∀ x ∈ askT k, x < 256) ∧ (askT k).length ≤ 4 := by
  unfold askT
  repeat' split
  all_goals decide
set_option maxRecDepth 3000 in
theorem tolT_ok (k : Int) : (∀ x ∈ tolT k, x < 256) ∧ (tolT k).length ≤ 4 := by
  unfold tolT
  repeat' split
  all_goals decide
set_option maxRecDepth 3000 in
set_option maxHeartbeats 6400000 in
theorem is16_any (m : Ms) (v : Value) (hm : WfM m) (w : World) (hE : EnR7 w v m.en) : Calls Try.prog 13 #[.agg (mc m v)] w fun e w' => e = .returned (.bool (isM m)) ∧ Adv Nul w Nul w' := by
  obtain ⟨A, N, c, rfl, hN⟩ : ∃ A N c, v = .slice A N c ∧ N = m.en.length := by
    obtain ⟨A, c, e, _⟩ := hE.form
    exact ⟨A, _, c, e, rfl⟩
  have HJU := Lib.hid (fun (T : List Nat) (h : (∀ x ∈ T, x < 256) ∧ T.length ≤ 4) (w' : World) (a : Adv Nul w Nul w') => just_any m (.slice A N c) T h.1 h.2 hm w' (hE.step a))
  have HFA := Lib.hid (fun (h : 1 ≤ m.kd ∧ m.kd ≤ 14) (w : World) => show Calls Try.prog 35 #[.bool false, .int .i64 m.kd] w fun e w' => e = .returned (.string (txt (askT m.kd))) ∧ Adv Nul w Nul w' by
    have := fields_any false m.kd.toNat (by omega) w
    rw [show ((m.kd.toNat : Nat) : Int) = m.kd from by omega] at this
    exact this)
  have HFT := Lib.hid (fun (h : 1 ≤ m.kd ∧ m.kd ≤ 14) (w : World) => show Calls Try.prog 35 #[.bool true, .int .i64 m.kd] w fun e w' => e = .returned (.string (txt (tolT m.kd))) ∧ Adv Nul w Nul w' by
    have := fields_any true m.kd.toNat (by omega) w
    rw [show ((m.kd.toNat : Nat) : Int) = m.kd from by omega] at this
    exact this)
  obtain ⟨C, hC⟩ : ∃ C, C = mc m (.slice A N c) := ⟨_, rfl⟩
  have HC := Lib.hid (fun (z : Nat) (w' : World) (h : Blk w' z 28 C) => (show C18 w' z m (.slice A N c) from (show Blk w' z 28 (mc m (.slice A N c)) by rw [← hC]; exact h).c18))
  have HCS := Lib.hid (show C.size = 18 by rw [hC]; rfl)
  rw [← hC] at HJU ⊢
  clear hC hE hN hm
  obtain ⟨B, hB⟩ : ∃ B, B = isM m := ⟨_, rfl⟩
  rw [← hB]
  have HB := Lib.hid hB
  clear hB
  obtain ⟨rs, ers⟩ : ∃ b, b = decide (ctP m.ss) := ⟨_, rfl⟩
  obtain ⟨r0, er0⟩ : ∃ b, b = rf m 0 := ⟨_, rfl⟩
  obtain ⟨r1, er1⟩ : ∃ b, b = rf m 1 := ⟨_, rfl⟩
  have HS := Lib.hid (fun w => show Calls Try.prog 33 #[.int .u64 (m.ss : Int)] w fun e w' => e = .returned (.bool rs) ∧ w = w' by rw [ers]; exact q16count_any m.ss w)
  have H0 := Lib.hid (fun w => show Calls Try.prog 33 #[.int .u64 (m.sq : Int)] w fun e w' => e = .returned (.bool r0) ∧ w = w' by rw [er0]; exact q16count_any m.sq w)
  have H1 := Lib.hid (fun w => show Calls Try.prog 33 #[.int .u64 (m.bo : Int)] w fun e w' => e = .returned (.bool r1) ∧ w = w' by rw [er1]; exact q16count_any m.bo w)
  have RS := Lib.hid ers
  have R0 := Lib.hid er0
  have R1 := Lib.hid er1
  clear ers er0 er1
  obtain ⟨Ca, eCa⟩ : ∃ b, b = !(decide (0 ≤ m.cl) && decide (m.cl < 8) && rs) := ⟨_, rfl⟩
  obtain ⟨Cb, eCb⟩ : ∃ b, b = !(r0 && (decide (1 ≤ m.kd) && decide (m.kd ≤ 14)) && (decide (1 ≤ m.ty) && decide (m.ty ≤ 2))) := ⟨_, rfl⟩
  obtain ⟨Cc, eCc⟩ : ∃ b, b = !((decide (0 ≤ m.er) && decide (m.er ≤ 25)) && r1) := ⟨_, rfl⟩
  have ECa := Lib.hid eCa
  have ECb := Lib.hid eCb
  have ECc := Lib.hid eCc
  clear eCa eCb eCc
  go_enter Try.func13, Try.ntmps13
  go_upto_region 1 with (first
    | (refine kop_box rfl _ rfl rfl ?_; intro z w1 hz hb ha; have HA1 := Lib.hid ha; have HB1 := Lib.hid hb; clear hz hb ha)
    | fail)
  obtain ⟨⟨s0, s1, s2, s3, s4, s5, s6⟩, ⟨s7, s8, s9, s10⟩, ⟨s11, s12, s13, s14, s15, s16, s17⟩⟩ := HC.out _ _ HB1.out
  go_cut [16] (fun t wx => t = .bool Ca ∧ w1 = wx)
  case first =>
    as_aux_lemma =>
    cases rs
    all_goals
      go_wp2_with (first
        | (go_at_call 33; refine (HS.out _).mono ?_; rintro x wx ⟨rfl, rfl⟩)
        | fail)
      all_goals
        go_meet
        exact ⟨by refine congrArg Value.bool ?_; rw [ECa.out]; first | rfl | (rw [Bool.eq_iff_iff]; simp; done) | (rw [Bool.eq_iff_iff]; simp; omega), rfl⟩
  case rest =>
  obtain ⟨rfl, rfl⟩ := hcut
  cases Ca with
  | true =>
    have e : B = false := by
      rw [HB.out]
      refine isM_bad fun h => ?_
      have := ECa.out
      rw [RS.out, decide_eq_true h.1, decide_eq_true h.2.1, decide_eq_true h.2.2] at this
      cases this
    subst e
    go_wp2_with fail
    go_ret
    exact ⟨rfl, HA1.out⟩
  | false =>
  have hgd : 0 ≤ m.cl ∧ m.cl < 8 ∧ ctP m.ss := by
    have := ECa.out
    rw [RS.out] at this
    simpa [and_assoc] using this
  have HGD := Lib.hid hgd
  clear hgd
  by_cases t3 : m.ty = 3
  · have t3b : (m.ty == 3) = true := by rw [t3]; rfl
    have HT3 := Lib.hid t3
    have HX := Lib.hid (show ∀ w', Adv Nul w Nul w' → Calls Try.prog 34 #[.agg C, .string ⟨#[102]⟩] w' fun e w'' => e = .returned (.bool (juB m [102])) ∧ Adv Nul w' Nul w'' from fun w' a => HJU.out [102] (by decide) w' a)
    obtain ⟨j, hj⟩ : ∃ j, j = juB m [102] := ⟨_, rfl⟩
    have HBE := Lib.hid (show B = (zf m 0 && r1 && zf m 2 && zf m 3 && j) by rw [HB.out, isM_three HGD.out HT3.out, R1.out, hj])
    rw [← hj] at HX
    clear hj t3
    go_upto_region 4 with fail
    go_cut [2] (fun t wx => t = .bool B ∧ Adv Nul w Nul wx)
    case first =>
      as_aux_lemma =>
      by_cases q3 : m.er = 0
      · have q3b : (m.er == 0) = true := by rw [q3]; rfl
        have Q3 := Lib.hid q3
        clear q3
        cases r1
        all_goals
          go_wp2_with (first
            | (go_at_call 33; refine (H1.out _).mono ?_; rintro x wx ⟨rfl, rfl⟩)
            | (refine kw_guard16 (by first | rfl | fail) ?_; refine kop_load (t := 28) rfl _ rfl z HB1.out rfl Try.underlying28 rfl sizeM HCS.out ?_)
            | (go_at_call 34; refine (HX.out _ HA1.out).mono ?_; rintro x wx ⟨rfl, ax⟩; have HAX := Lib.hid (HA1.out.trans ax); clear ax)
            | fail)
          all_goals
            go_meet
            refine ⟨congrArg Value.bool ?_, by first | exact HAX.out | exact HA1.out⟩
            rw [HBE.out]
            first | (cases zf m 0 <;> rfl) | (rw [show zf m 0 = true from decide_eq_true (by assumption), show zf m 2 = true from decide_eq_true (by assumption), show zf m 3 = true from decide_eq_true Q3.out]; rfl) | (rw [show zf m 0 = false from decide_eq_false (by assumption)]; rfl) | (rw [show zf m 2 = false from decide_eq_false (by assumption), Bool.and_false]; rfl)
      · have q3b : (m.er == 0) = false := by rw [beq_eq_false_iff_ne]; exact q3
        have Q3 := Lib.hid q3
        clear q3
        cases r1
        all_goals
          go_wp2_with (first
            | (go_at_call 33; refine (H1.out _).mono ?_; rintro x wx ⟨rfl, rfl⟩)
            | (refine kw_guard16 (by first | rfl | fail) ?_; refine kop_load (t := 28) rfl _ rfl z HB1.out rfl Try.underlying28 rfl sizeM HCS.out ?_)
            | (go_at_call 34; refine (HX.out _ HA1.out).mono ?_; rintro x wx ⟨rfl, ax⟩; have HAX := Lib.hid (HA1.out.trans ax); clear ax)
            | fail)
          all_goals
            go_meet
            refine ⟨congrArg Value.bool ?_, by first | exact HAX.out | exact HA1.out⟩
            rw [HBE.out]
            first | (cases zf m 0 <;> rfl) | (rw [show zf m 0 = false from decide_eq_false (by assumption)]; rfl) | (rw [show zf m 2 = false from decide_eq_false (by assumption), Bool.and_false]; rfl) | (rw [show zf m 3 = false from decide_eq_false Q3.out, Bool.and_false]; rfl)
    case rest =>
    obtain ⟨rfl, ha⟩ := hcut
    go_wp2_with fail
    go_ret
    exact ⟨rfl, ha⟩
  have t3b : (m.ty == 3) = false := by rw [beq_eq_false_iff_ne]; exact t3
  have HT3 := Lib.hid t3
  clear t3
  go_upto_region 5 with fail
  go_cut [65] (fun t wx => t = .bool Cb ∧ w1 = wx)
  case first =>
    as_aux_lemma =>
    cases r0
    all_goals
      go_wp2_with (first
        | (go_at_call 33; refine (H0.out _).mono ?_; rintro x wx ⟨rfl, rfl⟩)
        | fail)
      all_goals
        go_meet
        exact ⟨by refine congrArg Value.bool ?_; rw [ECb.out]; first | rfl | (rw [Bool.eq_iff_iff]; simp; done) | (rw [Bool.eq_iff_iff]; simp; omega), rfl⟩
  case rest =>
  obtain ⟨rfl, rfl⟩ := hcut
  cases Cb with
  | true =>
    have e : B = false := by
      rw [HB.out]
      refine isM_no HGD.out HT3.out fun h => ?_
      have := ECb.out
      have hk := (rf2_iff m).1 h.2.1
      rw [R0.out, h.1, decide_eq_true hk.1, decide_eq_true hk.2, decide_eq_true h.2.2.1, decide_eq_true h.2.2.2] at this
      cases this
    subst e
    go_wp2_with fail
    go_ret
    exact ⟨rfl, HA1.out⟩
  | false =>
  have hg4 : r0 = true ∧ (1 ≤ m.kd ∧ m.kd ≤ 14) ∧ 1 ≤ m.ty ∧ m.ty ≤ 2 := by
    have := ECb.out
    simpa [and_assoc] using this
  have HG4 := Lib.hid (show rf m 0 = true ∧ rf m 2 = true ∧ 1 ≤ m.ty ∧ m.ty ≤ 2 from ⟨by rw [← R0.out]; exact hg4.1, (rf2_iff m).2 hg4.2.1, hg4.2.2⟩)
  have HKD := Lib.hid hg4.2.1
  clear hg4
  have HTX := Lib.hid (fun w => HFT.out HKD.out w)
  have HAS := Lib.hid (fun w => HFA.out HKD.out w)
  by_cases t1 : m.ty = 1
  · have t1b : (m.ty == 1) = true := by rw [t1]; rfl
    have HT1 := Lib.hid t1
    have HX := Lib.hid (show ∀ w', Adv Nul w Nul w' → Calls Try.prog 34 #[.agg C, .string (txt (askT m.kd))] w' fun e w'' => e = .returned (.bool (juB m (askT m.kd))) ∧ Adv Nul w' Nul w'' from fun w' a => HJU.out (askT m.kd) (askT_ok _) w' a)
    obtain ⟨j, hj⟩ : ∃ j, j = juB m (askT m.kd) := ⟨_, rfl⟩
    have HBE := Lib.hid (show B = (zf m 3 && (if m.kd = 1 then zf m 1 else r1) && j) by rw [HB.out, isM_one HGD.out HG4.out HT1.out, R1.out, hj])
    rw [← hj] at HX
    obtain ⟨T, hT⟩ : ∃ T, T = txt (askT m.kd) := ⟨_, rfl⟩
    rw [← hT] at HX HAS
    clear hj hT t1
    go_upto_region 8 with fail
    have HA7 := Lib.hid HA1.out.drew
    have HB7 := Lib.hid (show Blk w1.drew z 28 C from HB1.out)
    have K7 := Lib.hid (show Blk w1.drew z 28 C ∧ C18 w1.drew z m (.slice A N c) from ⟨HB7.out, HC.out _ _ HB7.out⟩)
    clear s0 s1 s2 s3 s4 s5 s6 s7 s8 s9 s10 s11 s12 s13 s14 s15 s16 s17
    by_cases e0 : m.er = 0
    · have e0b : (m.er == 0) = true := by rw [e0]; rfl
      have E0 := Lib.hid e0
      clear e0
      by_cases k1 : m.kd = 1
      · have k1b : (m.kd == 1) = true := by rw [k1]; rfl
        have k1n : (m.kd != 1) = false := by rw [k1]; rfl
        have E1 := Lib.hid k1
        clear k1
        by_cases b0 : m.bo = 0
        · have b0b : ((m.bo : Int) == 0) = true := by rw [b0]; rfl
          have HBJ := Lib.hid (show B = j by rw [HBE.out]; simp [zf, E0.out, E1.out, b0])
          clear b0
          refine rstart (S := (fun w' => Blk w' z 28 C ∧ C18 w' z m (.slice A N c))) (by first | with_reducible exact K9.out | with_reducible exact K8.out | with_reducible exact K7.out | with_reducible exact K1.out) (fun hH => ?_)
          refine tk (i := 0) (oi := ⟨some 69, .fieldAddr 28 (.tmp 1) 6, 0, "ref.go:83", #[], none⟩) hH.out (by rintro w ⟨sb, ⟨⟨s0, s1, s2, s3, s4, s5, s6⟩, ⟨s7, s8, s9, s10⟩, ⟨s11, s12, s13, s14, s15, s16, s17⟩⟩⟩; go_simp <;> with_reducible rfl) ?_
          simp only [Act.put, sA, sB, sC]
          refine tk (i := 1) (oi := ⟨some 70, .load 23 (.tmp 69), 23, "ref.go:83", #[⟨0, .data⟩], none⟩) hH.out (by rintro w ⟨sb, ⟨⟨s0, s1, s2, s3, s4, s5, s6⟩, ⟨s7, s8, s9, s10⟩, ⟨s11, s12, s13, s14, s15, s16, s17⟩⟩⟩; go_simp <;> with_reducible rfl) ?_
          simp only [Act.put, sA, sB, sC]
          refine tk (i := 2) (oi := ⟨some 71, .binOp .eql 23 (.tmp 70) (.const (Go.Value.int Go.IntKind.i64 0)) 23, 4, "ref.go:83", #[⟨1, .data⟩], none⟩) hH.out (by rintro w ⟨sb, ⟨⟨s0, s1, s2, s3, s4, s5, s6⟩, ⟨s7, s8, s9, s10⟩, ⟨s11, s12, s13, s14, s15, s16, s17⟩⟩⟩; go_simp <;> with_reducible rfl) ?_
          simp only [Act.put, sA, sB, sC]
          refine tk (i := 3) (oi := ⟨some 72, .move (.tmp 71), 4, "ref.go:83", #[⟨2, .data⟩], none⟩) hH.out (by rintro w ⟨sb, ⟨⟨s0, s1, s2, s3, s4, s5, s6⟩, ⟨s7, s8, s9, s10⟩, ⟨s11, s12, s13, s14, s15, s16, s17⟩⟩⟩; go_simp <;> with_reducible rfl) ?_
          simp only [Act.put, sA, sB, sC]
          refine tk (i := 4) (oi := { dst := some 73, op := .fieldAddr 28 (.tmp 1) 5, type := 0, pos := "ref.go:83", after := #[⟨3, .guard⟩], guard := some (3, true) }) hH.out (by rintro w ⟨sb, ⟨⟨s0, s1, s2, s3, s4, s5, s6⟩, ⟨s7, s8, s9, s10⟩, ⟨s11, s12, s13, s14, s15, s16, s17⟩⟩⟩; go_simp <;> with_reducible rfl) ?_
          simp only [Act.put, sA, sB, sC]
          refine tk (i := 5) (oi := { dst := some 74, op := .load 3 (.tmp 73), type := 3, pos := "ref.go:83", after := #[⟨4, .data⟩, ⟨3, .guard⟩], guard := some (3, true) }) hH.out (by rintro w ⟨sb, ⟨⟨s0, s1, s2, s3, s4, s5, s6⟩, ⟨s7, s8, s9, s10⟩, ⟨s11, s12, s13, s14, s15, s16, s17⟩⟩⟩; go_simp <;> with_reducible rfl) ?_
          simp only [Act.put, sA, sB, sC]
          refine tk (i := 6) (oi := { dst := some 75, op := .binOp .eql 3 (.tmp 74) (.const (Go.Value.int Go.IntKind.i64 1)) 3, type := 4, pos := "ref.go:83", after := #[⟨5, .data⟩, ⟨3, .guard⟩], guard := some (3, true) }) hH.out (by rintro w ⟨sb, ⟨⟨s0, s1, s2, s3, s4, s5, s6⟩, ⟨s7, s8, s9, s10⟩, ⟨s11, s12, s13, s14, s15, s16, s17⟩⟩⟩; go_simp <;> with_reducible rfl) ?_
          simp only [Act.put, sA, sB, sC]
          refine tk (i := 7) (oi := { dst := some 76, op := .move (.tmp 75), type := 4, pos := "ref.go:83", after := #[⟨6, .data⟩, ⟨3, .chain⟩, ⟨3, .guard⟩], guard := some (3, true) }) hH.out (by rintro w ⟨sb, ⟨⟨s0, s1, s2, s3, s4, s5, s6⟩, ⟨s7, s8, s9, s10⟩, ⟨s11, s12, s13, s14, s15, s16, s17⟩⟩⟩; go_simp <;> with_reducible rfl) ?_
          simp only [Act.put, sA, sB, sC]
          refine tk (i := 8) (oi := { dst := some 77, op := .fieldAddr 28 (.tmp 1) 4, type := 0, pos := "ref.go:83", after := #[⟨7, .guard⟩], guard := some (7, true) }) hH.out (by rintro w ⟨sb, ⟨⟨s0, s1, s2, s3, s4, s5, s6⟩, ⟨s7, s8, s9, s10⟩, ⟨s11, s12, s13, s14, s15, s16, s17⟩⟩⟩; go_simp <;> with_reducible rfl) ?_
          simp only [Act.put, sA, sB, sC]
          refine tk (i := 9) (oi := { dst := some 78, op := .load 22 (.tmp 77), type := 22, pos := "ref.go:83", after := #[⟨8, .data⟩, ⟨7, .guard⟩], guard := some (7, true) }) hH.out (by rintro w ⟨sb, ⟨⟨s0, s1, s2, s3, s4, s5, s6⟩, ⟨s7, s8, s9, s10⟩, ⟨s11, s12, s13, s14, s15, s16, s17⟩⟩⟩; go_simp <;> with_reducible rfl) ?_
          simp only [Act.put, sA, sB, sC]
          refine tk (i := 10) (oi := { dst := some 79, op := .binOp .eql 22 (.tmp 78) (.const (Go.Value.int Go.IntKind.u64 0)) 22, type := 4, pos := "ref.go:83", after := #[⟨9, .data⟩, ⟨7, .guard⟩], guard := some (7, true) }) hH.out (by rintro w ⟨sb, ⟨⟨s0, s1, s2, s3, s4, s5, s6⟩, ⟨s7, s8, s9, s10⟩, ⟨s11, s12, s13, s14, s15, s16, s17⟩⟩⟩; go_simp <;> with_reducible rfl) ?_
          simp only [Act.put, sA, sB, sC]
          refine tk (i := 11) (oi := { dst := some 80, op := .pick (.tmp 76) (.tmp 79) (.const (Go.Value.bool false)), type := 4, pos := "ref.go:83", after := #[⟨7, .data⟩, ⟨10, .data⟩, ⟨3, .guard⟩], guard := some (3, true) }) hH.out (by rintro w ⟨sb, ⟨⟨s0, s1, s2, s3, s4, s5, s6⟩, ⟨s7, s8, s9, s10⟩, ⟨s11, s12, s13, s14, s15, s16, s17⟩⟩⟩; go_simp <;> with_reducible rfl) ?_
          simp only [Act.put, sA, sB, sC]
          refine tk (i := 12) (oi := { dst := some 81, op := .move (.tmp 80), type := 4, pos := "ref.go:83", after := #[⟨11, .data⟩, ⟨7, .chain⟩, ⟨3, .guard⟩], guard := some (3, true) }) hH.out (by rintro w ⟨sb, ⟨⟨s0, s1, s2, s3, s4, s5, s6⟩, ⟨s7, s8, s9, s10⟩, ⟨s11, s12, s13, s14, s15, s16, s17⟩⟩⟩; go_simp <;> with_reducible rfl) ?_
          simp only [Act.put, sA, sB, sC]
          refine tks (i := 13) (oi := { dst := some 82, op := .fieldAddr 28 (.tmp 1) 5, type := 0, pos := "ref.go:83", after := #[⟨12, .guard⟩], guard := some (12, false) }) hH.out ?_
          try simp only [Act.put, sA, sB, sC]
          refine tks (i := 14) (oi := { dst := some 83, op := .load 3 (.tmp 82), type := 3, pos := "ref.go:83", after := #[⟨13, .data⟩, ⟨12, .guard⟩], guard := some (12, false) }) hH.out ?_
          try simp only [Act.put, sA, sB, sC]
          refine tks (i := 15) (oi := { dst := some 84, op := .binOp .neq 3 (.tmp 83) (.const (Go.Value.int Go.IntKind.i64 1)) 3, type := 4, pos := "ref.go:83", after := #[⟨14, .data⟩, ⟨12, .guard⟩], guard := some (12, false) }) hH.out ?_
          try simp only [Act.put, sA, sB, sC]
          refine tks (i := 16) (oi := { dst := some 85, op := .move (.tmp 84), type := 4, pos := "ref.go:83", after := #[⟨15, .data⟩, ⟨12, .chain⟩, ⟨12, .guard⟩], guard := some (12, false) }) hH.out ?_
          try simp only [Act.put, sA, sB, sC]
          refine tks (i := 17) (oi := { dst := some 86, op := .fieldAddr 28 (.tmp 1) 4, type := 0, pos := "ref.go:83", after := #[⟨16, .guard⟩], guard := some (16, true) }) hH.out ?_
          try simp only [Act.put, sA, sB, sC]
          refine tks (i := 18) (oi := { dst := some 87, op := .load 22 (.tmp 86), type := 22, pos := "ref.go:83", after := #[⟨17, .data⟩, ⟨16, .guard⟩], guard := some (16, true) }) hH.out ?_
          try simp only [Act.put, sA, sB, sC]
          refine tks (i := 19) (oi := { dst := some 88, op := .call ⟨.value (.func 33), #[.tmp 87], #[22]⟩, type := 4, pos := "ref.go:83", after := #[⟨18, .data⟩, ⟨16, .chain⟩, ⟨16, .guard⟩], guard := some (16, true) }) hH.out ?_
          try simp only [Act.put, sA, sB, sC]
          refine tks (i := 20) (oi := { dst := some 89, op := .pick (.tmp 85) (.tmp 88) (.const (Go.Value.bool false)), type := 4, pos := "ref.go:83", after := #[⟨16, .data⟩, ⟨19, .data⟩, ⟨12, .guard⟩], guard := some (12, false) }) hH.out ?_
          try simp only [Act.put, sA, sB, sC]
          refine tk (i := 21) (oi := { dst := some 90, op := .pick (.tmp 81) (.const (Go.Value.bool true)) (.tmp 89), type := 4, pos := "ref.go:83", after := #[⟨12, .data⟩, ⟨20, .data⟩, ⟨3, .guard⟩], guard := some (3, true) }) hH.out (by rintro w ⟨sb, ⟨⟨s0, s1, s2, s3, s4, s5, s6⟩, ⟨s7, s8, s9, s10⟩, ⟨s11, s12, s13, s14, s15, s16, s17⟩⟩⟩; go_simp <;> with_reducible rfl) ?_
          simp only [Act.put, sA, sB, sC]
          refine tk (i := 22) (oi := ⟨some 91, .pick (.tmp 72) (.tmp 90) (.const (Go.Value.bool false)), 4, "ref.go:83", #[⟨3, .data⟩, ⟨21, .data⟩], none⟩) hH.out (by rintro w ⟨sb, ⟨⟨s0, s1, s2, s3, s4, s5, s6⟩, ⟨s7, s8, s9, s10⟩, ⟨s11, s12, s13, s14, s15, s16, s17⟩⟩⟩; go_simp <;> with_reducible rfl) ?_
          simp only [Act.put, sA, sB, sC]
          refine tk (i := 23) (oi := ⟨some 92, .move (.tmp 91), 4, "ref.go:83", #[⟨22, .data⟩, ⟨19, .chain⟩], none⟩) hH.out (by rintro w ⟨sb, ⟨⟨s0, s1, s2, s3, s4, s5, s6⟩, ⟨s7, s8, s9, s10⟩, ⟨s11, s12, s13, s14, s15, s16, s17⟩⟩⟩; go_simp <;> with_reducible rfl) ?_
          simp only [Act.put, sA, sB, sC]
          refine wpAnyH_take (i := 24) (oi := { dst := some 93, op := .load 28 (.tmp 1), type := 28, pos := "ref.go:83", after := #[⟨23, .guard⟩], guard := some (23, true) }) (v := .agg C) rfl (by kernel_rfl) (by kernel_rfl) (by kernel_rfl) (fun _ _ _ h => h) (kyl_load rfl (.tmp 1) rfl z rfl (fun _ h => h.1) Try.underlying28 rfl sizeM HCS.out) hH.out ?_
          simp only [Act.put, sA, sB, sC]
          refine tk (i := 25) (oi := { dst := some 94, op := .fieldAddr 28 (.tmp 1) 5, type := 0, pos := "ref.go:83", after := #[⟨23, .guard⟩], guard := some (23, true) }) hH.out (by rintro w ⟨sb, ⟨⟨s0, s1, s2, s3, s4, s5, s6⟩, ⟨s7, s8, s9, s10⟩, ⟨s11, s12, s13, s14, s15, s16, s17⟩⟩⟩; go_simp <;> with_reducible rfl) ?_
          simp only [Act.put, sA, sB, sC]
          refine tk (i := 26) (oi := { dst := some 95, op := .load 3 (.tmp 94), type := 3, pos := "ref.go:83", after := #[⟨25, .data⟩, ⟨23, .guard⟩], guard := some (23, true) }) hH.out (by rintro w ⟨sb, ⟨⟨s0, s1, s2, s3, s4, s5, s6⟩, ⟨s7, s8, s9, s10⟩, ⟨s11, s12, s13, s14, s15, s16, s17⟩⟩⟩; go_simp <;> with_reducible rfl) ?_
          simp only [Act.put, sA, sB, sC]
          refine rdy (i := 27) (oi := { dst := some 96, op := .call ⟨.value (.func 35), #[.const (Go.Value.bool false), .tmp 95], #[4, 3]⟩, type := 9, pos := "ref.go:83", after := #[⟨26, .data⟩, ⟨23, .chain⟩, ⟨23, .guard⟩], guard := some (23, true) }) (fun K hK => ?_)
          go_simp
          refine (HAS.out _).mono ?_
          rintro x w8 ⟨rfl, a8⟩
          have HA8 := Lib.hid (HA7.out.trans a8)
          have HB8 := Lib.hid (HB7.out.over a8)
          have K8 := Lib.hid (show Blk w8 z 28 C ∧ C18 w8 z m (.slice A N c) from ⟨HB8.out, HC.out _ _ HB8.out⟩)
          clear a8
          go_wp2_with fail
          refine hK.out _ _ (by first | with_reducible exact K9.out | with_reducible exact K8.out | with_reducible exact K7.out | with_reducible exact K1.out) (fun hHeld => ?_)
          replace hH := Lib.hid hHeld
          clear hK K hHeld
          try simp only [Act.put, sA, sB, sC]
          refine rdy (i := 28) (oi := { dst := some 97, op := .call ⟨.value (.func 34), #[.tmp 93, .tmp 96], #[28, 9]⟩, type := 4, pos := "ref.go:83", after := #[⟨24, .data⟩, ⟨27, .data⟩, ⟨27, .chain⟩, ⟨23, .guard⟩], guard := some (23, true) }) (fun K hK => ?_)
          go_simp
          refine (HX.out _ HA8.out).mono ?_
          rintro x w9 ⟨rfl, a9⟩
          have HA9 := Lib.hid (HA8.out.trans a9)
          have HB9 := Lib.hid (HB8.out.over a9)
          have K9 := Lib.hid (show Blk w9 z 28 C ∧ C18 w9 z m (.slice A N c) from ⟨HB9.out, HC.out _ _ HB9.out⟩)
          clear a9
          go_wp2_with fail
          refine hK.out _ _ (by first | with_reducible exact K9.out | with_reducible exact K8.out | with_reducible exact K7.out | with_reducible exact K1.out) (fun hHeld => ?_)
          replace hH := Lib.hid hHeld
          clear hK K hHeld
          try simp only [Act.put, sA, sB, sC]
          refine tk (i := 29) (oi := ⟨some 98, .pick (.tmp 92) (.tmp 97) (.const (Go.Value.bool false)), 4, "ref.go:83", #[⟨23, .data⟩, ⟨28, .data⟩], none⟩) hH.out (by rintro w ⟨sb, ⟨⟨s0, s1, s2, s3, s4, s5, s6⟩, ⟨s7, s8, s9, s10⟩, ⟨s11, s12, s13, s14, s15, s16, s17⟩⟩⟩; go_simp <;> with_reducible rfl) ?_
          simp only [Act.put, sA, sB, sC]
          refine tk (i := 30) (oi := ⟨some 2, .assign (.tmp 98), 4, "ref.go:83", #[⟨29, .data⟩, ⟨28, .chain⟩, ⟨0, .phase⟩, ⟨1, .phase⟩, ⟨2, .phase⟩, ⟨3, .phase⟩, ⟨4, .phase⟩, ⟨5, .phase⟩, ⟨6, .phase⟩, ⟨7, .phase⟩, ⟨8, .phase⟩, ⟨9, .phase⟩, ⟨10, .phase⟩, ⟨11, .phase⟩, ⟨12, .phase⟩, ⟨13, .phase⟩, ⟨14, .phase⟩, ⟨15, .phase⟩, ⟨16, .phase⟩, ⟨17, .phase⟩, ⟨18, .phase⟩, ⟨19, .phase⟩, ⟨20, .phase⟩, ⟨21, .phase⟩, ⟨22, .phase⟩, ⟨23, .phase⟩, ⟨24, .phase⟩, ⟨25, .phase⟩, ⟨26, .phase⟩, ⟨27, .phase⟩, ⟨28, .phase⟩, ⟨29, .phase⟩], none⟩) hH.out (by rintro w ⟨sb, ⟨⟨s0, s1, s2, s3, s4, s5, s6⟩, ⟨s7, s8, s9, s10⟩, ⟨s11, s12, s13, s14, s15, s16, s17⟩⟩⟩; go_simp <;> with_reducible rfl) ?_
          simp only [Act.put, sA, sB, sC]
          refine wpAnyH_done (by kernel_rfl) ?_ _
          go_wp2_with fail
          go_ret
          exact ⟨by rw [HBJ.out]; first | rfl | simp, HA9.out⟩
        · have b0b : ((m.bo : Int) == 0) = false := by rw [beq_eq_false_iff_ne]; omega
          obtain rfl : B = false := by rw [HBE.out]; simp [zf, E0.out, E1.out, b0]
          clear b0
          refine rstart (S := (fun w' => Blk w' z 28 C ∧ C18 w' z m (.slice A N c))) (by first | with_reducible exact K9.out | with_reducible exact K8.out | with_reducible exact K7.out | with_reducible exact K1.out) (fun hH => ?_)
          refine tk (i := 0) (oi := ⟨some 69, .fieldAddr 28 (.tmp 1) 6, 0, "ref.go:83", #[], none⟩) hH.out (by rintro w ⟨sb, ⟨⟨s0, s1, s2, s3, s4, s5, s6⟩, ⟨s7, s8, s9, s10⟩, ⟨s11, s12, s13, s14, s15, s16, s17⟩⟩⟩; go_simp <;> with_reducible rfl) ?_
          simp only [Act.put, sA, sB, sC]
          refine tk (i := 1) (oi := ⟨some 70, .load 23 (.tmp 69), 23, "ref.go:83", #[⟨0, .data⟩], none⟩) hH.out (by rintro w ⟨sb, ⟨⟨s0, s1, s2, s3, s4, s5, s6⟩, ⟨s7, s8, s9, s10⟩, ⟨s11, s12, s13, s14, s15, s16, s17⟩⟩⟩; go_simp <;> with_reducible rfl) ?_
          simp only [Act.put, sA, sB, sC]
          refine tk (i := 2) (oi := ⟨some 71, .binOp .eql 23 (.tmp 70) (.const (Go.Value.int Go.IntKind.i64 0)) 23, 4, "ref.go:83", #[⟨1, .data⟩], none⟩) hH.out (by rintro w ⟨sb, ⟨⟨s0, s1, s2, s3, s4, s5, s6⟩, ⟨s7, s8, s9, s10⟩, ⟨s11, s12, s13, s14, s15, s16, s17⟩⟩⟩; go_simp <;> with_reducible rfl) ?_
          simp only [Act.put, sA, sB, sC]
          refine tk (i := 3) (oi := ⟨some 72, .move (.tmp 71), 4, "ref.go:83", #[⟨2, .data⟩], none⟩) hH.out (by rintro w ⟨sb, ⟨⟨s0, s1, s2, s3, s4, s5, s6⟩, ⟨s7, s8, s9, s10⟩, ⟨s11, s12, s13, s14, s15, s16, s17⟩⟩⟩; go_simp <;> with_reducible rfl) ?_
          simp only [Act.put, sA, sB, sC]
          refine tk (i := 4) (oi := { dst := some 73, op := .fieldAddr 28 (.tmp 1) 5, type := 0, pos := "ref.go:83", after := #[⟨3, .guard⟩], guard := some (3, true) }) hH.out (by rintro w ⟨sb, ⟨⟨s0, s1, s2, s3, s4, s5, s6⟩, ⟨s7, s8, s9, s10⟩, ⟨s11, s12, s13, s14, s15, s16, s17⟩⟩⟩; go_simp <;> with_reducible rfl) ?_
          simp only [Act.put, sA, sB, sC]
          refine tk (i := 5) (oi := { dst := some 74, op := .load 3 (.tmp 73), type := 3, pos := "ref.go:83", after := #[⟨4, .data⟩, ⟨3, .guard⟩], guard := some (3, true) }) hH.out (by rintro w ⟨sb, ⟨⟨s0, s1, s2, s3, s4, s5, s6⟩, ⟨s7, s8, s9, s10⟩, ⟨s11, s12, s13, s14, s15, s16, s17⟩⟩⟩; go_simp <;> with_reducible rfl) ?_
          simp only [Act.put, sA, sB, sC]
          refine tk (i := 6) (oi := { dst := some 75, op := .binOp .eql 3 (.tmp 74) (.const (Go.Value.int Go.IntKind.i64 1)) 3, type := 4, pos := "ref.go:83", after := #[⟨5, .data⟩, ⟨3, .guard⟩], guard := some (3, true) }) hH.out (by rintro w ⟨sb, ⟨⟨s0, s1, s2, s3, s4, s5, s6⟩, ⟨s7, s8, s9, s10⟩, ⟨s11, s12, s13, s14, s15, s16, s17⟩⟩⟩; go_simp <;> with_reducible rfl) ?_
          simp only [Act.put, sA, sB, sC]
          refine tk (i := 7) (oi := { dst := some 76, op := .move (.tmp 75), type := 4, pos := "ref.go:83", after := #[⟨6, .data⟩, ⟨3, .chain⟩, ⟨3, .guard⟩], guard := some (3, true) }) hH.out (by rintro w ⟨sb, ⟨⟨s0, s1, s2, s3, s4, s5, s6⟩, ⟨s7, s8, s9, s10⟩, ⟨s11, s12, s13, s14, s15, s16, s17⟩⟩⟩; go_simp <;> with_reducible rfl) ?_
          simp only [Act.put, sA, sB, sC]
          refine tk (i := 8) (oi := { dst := some 77, op := .fieldAddr 28 (.tmp 1) 4, type := 0, pos := "ref.go:83", after := #[⟨7, .guard⟩], guard := some (7, true) }) hH.out (by rintro w ⟨sb, ⟨⟨s0, s1, s2, s3, s4, s5, s6⟩, ⟨s7, s8, s9, s10⟩, ⟨s11, s12, s13, s14, s15, s16, s17⟩⟩⟩; go_simp <;> with_reducible rfl) ?_
          simp only [Act.put, sA, sB, sC]
          refine tk (i := 9) (oi := { dst := some 78, op := .load 22 (.tmp 77), type := 22, pos := "ref.go:83", after := #[⟨8, .data⟩, ⟨7, .guard⟩], guard := some (7, true) }) hH.out (by rintro w ⟨sb, ⟨⟨s0, s1, s2, s3, s4, s5, s6⟩, ⟨s7, s8, s9, s10⟩, ⟨s11, s12, s13, s14, s15, s16, s17⟩⟩⟩; go_simp <;> with_reducible rfl) ?_
          simp only [Act.put, sA, sB, sC]
          refine tk (i := 10) (oi := { dst := some 79, op := .binOp .eql 22 (.tmp 78) (.const (Go.Value.int Go.IntKind.u64 0)) 22, type := 4, pos := "ref.go:83", after := #[⟨9, .data⟩, ⟨7, .guard⟩], guard := some (7, true) }) hH.out (by rintro w ⟨sb, ⟨⟨s0, s1, s2, s3, s4, s5, s6⟩, ⟨s7, s8, s9, s10⟩, ⟨s11, s12, s13, s14, s15, s16, s17⟩⟩⟩; go_simp <;> with_reducible rfl) ?_
          simp only [Act.put, sA, sB, sC]
          refine tk (i := 11) (oi := { dst := some 80, op := .pick (.tmp 76) (.tmp 79) (.const (Go.Value.bool false)), type := 4, pos := "ref.go:83", after := #[⟨7, .data⟩, ⟨10, .data⟩, ⟨3, .guard⟩], guard := some (3, true) }) hH.out (by rintro w ⟨sb, ⟨⟨s0, s1, s2, s3, s4, s5, s6⟩, ⟨s7, s8, s9, s10⟩, ⟨s11, s12, s13, s14, s15, s16, s17⟩⟩⟩; go_simp <;> with_reducible rfl) ?_
          simp only [Act.put, sA, sB, sC]
          refine tk (i := 12) (oi := { dst := some 81, op := .move (.tmp 80), type := 4, pos := "ref.go:83", after := #[⟨11, .data⟩, ⟨7, .chain⟩, ⟨3, .guard⟩], guard := some (3, true) }) hH.out (by rintro w ⟨sb, ⟨⟨s0, s1, s2, s3, s4, s5, s6⟩, ⟨s7, s8, s9, s10⟩, ⟨s11, s12, s13, s14, s15, s16, s17⟩⟩⟩; go_simp <;> with_reducible rfl) ?_
          simp only [Act.put, sA, sB, sC]
          refine tk (i := 13) (oi := { dst := some 82, op := .fieldAddr 28 (.tmp 1) 5, type := 0, pos := "ref.go:83", after := #[⟨12, .guard⟩], guard := some (12, false) }) hH.out (by rintro w ⟨sb, ⟨⟨s0, s1, s2, s3, s4, s5, s6⟩, ⟨s7, s8, s9, s10⟩, ⟨s11, s12, s13, s14, s15, s16, s17⟩⟩⟩; go_simp <;> with_reducible rfl) ?_
          simp only [Act.put, sA, sB, sC]
          refine tk (i := 14) (oi := { dst := some 83, op := .load 3 (.tmp 82), type := 3, pos := "ref.go:83", after := #[⟨13, .data⟩, ⟨12, .guard⟩], guard := some (12, false) }) hH.out (by rintro w ⟨sb, ⟨⟨s0, s1, s2, s3, s4, s5, s6⟩, ⟨s7, s8, s9, s10⟩, ⟨s11, s12, s13, s14, s15, s16, s17⟩⟩⟩; go_simp <;> with_reducible rfl) ?_
          simp only [Act.put, sA, sB, sC]
          refine tk (i := 15) (oi := { dst := some 84, op := .binOp .neq 3 (.tmp 83) (.const (Go.Value.int Go.IntKind.i64 1)) 3, type := 4, pos := "ref.go:83", after := #[⟨14, .data⟩, ⟨12, .guard⟩], guard := some (12, false) }) hH.out (by rintro w ⟨sb, ⟨⟨s0, s1, s2, s3, s4, s5, s6⟩, ⟨s7, s8, s9, s10⟩, ⟨s11, s12, s13, s14, s15, s16, s17⟩⟩⟩; go_simp <;> with_reducible rfl) ?_
          simp only [Act.put, sA, sB, sC]
          refine tk (i := 16) (oi := { dst := some 85, op := .move (.tmp 84), type := 4, pos := "ref.go:83", after := #[⟨15, .data⟩, ⟨12, .chain⟩, ⟨12, .guard⟩], guard := some (12, false) }) hH.out (by rintro w ⟨sb, ⟨⟨s0, s1, s2, s3, s4, s5, s6⟩, ⟨s7, s8, s9, s10⟩, ⟨s11, s12, s13, s14, s15, s16, s17⟩⟩⟩; go_simp <;> with_reducible rfl) ?_
          simp only [Act.put, sA, sB, sC]
          refine tks (i := 17) (oi := { dst := some 86, op := .fieldAddr 28 (.tmp 1) 4, type := 0, pos := "ref.go:83", after := #[⟨16, .guard⟩], guard := some (16, true) }) hH.out ?_
          try simp only [Act.put, sA, sB, sC]
          refine tks (i := 18) (oi := { dst := some 87, op := .load 22 (.tmp 86), type := 22, pos := "ref.go:83", after := #[⟨17, .data⟩, ⟨16, .guard⟩], guard := some (16, true) }) hH.out ?_
          try simp only [Act.put, sA, sB, sC]
          refine tks (i := 19) (oi := { dst := some 88, op := .call ⟨.value (.func 33), #[.tmp 87], #[22]⟩, type := 4, pos := "ref.go:83", after := #[⟨18, .data⟩, ⟨16, .chain⟩, ⟨16, .guard⟩], guard := some (16, true) }) hH.out ?_
          try simp only [Act.put, sA, sB, sC]
          refine tk (i := 20) (oi := { dst := some 89, op := .pick (.tmp 85) (.tmp 88) (.const (Go.Value.bool false)), type := 4, pos := "ref.go:83", after := #[⟨16, .data⟩, ⟨19, .data⟩, ⟨12, .guard⟩], guard := some (12, false) }) hH.out (by rintro w ⟨sb, ⟨⟨s0, s1, s2, s3, s4, s5, s6⟩, ⟨s7, s8, s9, s10⟩, ⟨s11, s12, s13, s14, s15, s16, s17⟩⟩⟩; go_simp <;> with_reducible rfl) ?_
          simp only [Act.put, sA, sB, sC]
          refine tk (i := 21) (oi := { dst := some 90, op := .pick (.tmp 81) (.const (Go.Value.bool true)) (.tmp 89), type := 4, pos := "ref.go:83", after := #[⟨12, .data⟩, ⟨20, .data⟩, ⟨3, .guard⟩], guard := some (3, true) }) hH.out (by rintro w ⟨sb, ⟨⟨s0, s1, s2, s3, s4, s5, s6⟩, ⟨s7, s8, s9, s10⟩, ⟨s11, s12, s13, s14, s15, s16, s17⟩⟩⟩; go_simp <;> with_reducible rfl) ?_
          simp only [Act.put, sA, sB, sC]
          refine tk (i := 22) (oi := ⟨some 91, .pick (.tmp 72) (.tmp 90) (.const (Go.Value.bool false)), 4, "ref.go:83", #[⟨3, .data⟩, ⟨21, .data⟩], none⟩) hH.out (by rintro w ⟨sb, ⟨⟨s0, s1, s2, s3, s4, s5, s6⟩, ⟨s7, s8, s9, s10⟩, ⟨s11, s12, s13, s14, s15, s16, s17⟩⟩⟩; go_simp <;> with_reducible rfl) ?_
          simp only [Act.put, sA, sB, sC]
          refine tk (i := 23) (oi := ⟨some 92, .move (.tmp 91), 4, "ref.go:83", #[⟨22, .data⟩, ⟨19, .chain⟩], none⟩) hH.out (by rintro w ⟨sb, ⟨⟨s0, s1, s2, s3, s4, s5, s6⟩, ⟨s7, s8, s9, s10⟩, ⟨s11, s12, s13, s14, s15, s16, s17⟩⟩⟩; go_simp <;> with_reducible rfl) ?_
          simp only [Act.put, sA, sB, sC]
          refine tks (i := 24) (oi := { dst := some 93, op := .load 28 (.tmp 1), type := 28, pos := "ref.go:83", after := #[⟨23, .guard⟩], guard := some (23, true) }) hH.out ?_
          try simp only [Act.put, sA, sB, sC]
          refine tks (i := 25) (oi := { dst := some 94, op := .fieldAddr 28 (.tmp 1) 5, type := 0, pos := "ref.go:83", after := #[⟨23, .guard⟩], guard := some (23, true) }) hH.out ?_
          try simp only [Act.put, sA, sB, sC]
          refine tks (i := 26) (oi := { dst := some 95, op := .load 3 (.tmp 94), type := 3, pos := "ref.go:83", after := #[⟨25, .data⟩, ⟨23, .guard⟩], guard := some (23, true) }) hH.out ?_
          try simp only [Act.put, sA, sB, sC]
          refine tks (i := 27) (oi := { dst := some 96, op := .call ⟨.value (.func 35), #[.const (Go.Value.bool false), .tmp 95], #[4, 3]⟩, type := 9, pos := "ref.go:83", after := #[⟨26, .data⟩, ⟨23, .chain⟩, ⟨23, .guard⟩], guard := some (23, true) }) hH.out ?_
          try simp only [Act.put, sA, sB, sC]
          refine tks (i := 28) (oi := { dst := some 97, op := .call ⟨.value (.func 34), #[.tmp 93, .tmp 96], #[28, 9]⟩, type := 4, pos := "ref.go:83", after := #[⟨24, .data⟩, ⟨27, .data⟩, ⟨27, .chain⟩, ⟨23, .guard⟩], guard := some (23, true) }) hH.out ?_
          try simp only [Act.put, sA, sB, sC]
          refine tk (i := 29) (oi := ⟨some 98, .pick (.tmp 92) (.tmp 97) (.const (Go.Value.bool false)), 4, "ref.go:83", #[⟨23, .data⟩, ⟨28, .data⟩], none⟩) hH.out (by rintro w ⟨sb, ⟨⟨s0, s1, s2, s3, s4, s5, s6⟩, ⟨s7, s8, s9, s10⟩, ⟨s11, s12, s13, s14, s15, s16, s17⟩⟩⟩; go_simp <;> with_reducible rfl) ?_
          simp only [Act.put, sA, sB, sC]
          refine tk (i := 30) (oi := ⟨some 2, .assign (.tmp 98), 4, "ref.go:83", #[⟨29, .data⟩, ⟨28, .chain⟩, ⟨0, .phase⟩, ⟨1, .phase⟩, ⟨2, .phase⟩, ⟨3, .phase⟩, ⟨4, .phase⟩, ⟨5, .phase⟩, ⟨6, .phase⟩, ⟨7, .phase⟩, ⟨8, .phase⟩, ⟨9, .phase⟩, ⟨10, .phase⟩, ⟨11, .phase⟩, ⟨12, .phase⟩, ⟨13, .phase⟩, ⟨14, .phase⟩, ⟨15, .phase⟩, ⟨16, .phase⟩, ⟨17, .phase⟩, ⟨18, .phase⟩, ⟨19, .phase⟩, ⟨20, .phase⟩, ⟨21, .phase⟩, ⟨22, .phase⟩, ⟨23, .phase⟩, ⟨24, .phase⟩, ⟨25, .phase⟩, ⟨26, .phase⟩, ⟨27, .phase⟩, ⟨28, .phase⟩, ⟨29, .phase⟩], none⟩) hH.out (by rintro w ⟨sb, ⟨⟨s0, s1, s2, s3, s4, s5, s6⟩, ⟨s7, s8, s9, s10⟩, ⟨s11, s12, s13, s14, s15, s16, s17⟩⟩⟩; go_simp <;> with_reducible rfl) ?_
          simp only [Act.put, sA, sB, sC]
          refine wpAnyH_done (by kernel_rfl) ?_ _
          go_wp2_with fail
          go_ret
          exact ⟨by first | rfl | simp, HA7.out⟩
      · have k1b : (m.kd == 1) = false := by rw [beq_eq_false_iff_ne]; exact k1
        have k1n : (m.kd != 1) = true := by rw [bne_iff_ne]; exact k1
        have HBJ := Lib.hid (show B = (r1 && j) by rw [HBE.out]; simp [zf, E0.out, k1])
        clear k1
        cases r1 with
        | true =>
          refine rstart (S := (fun w' => Blk w' z 28 C ∧ C18 w' z m (.slice A N c))) (by first | with_reducible exact K9.out | with_reducible exact K8.out | with_reducible exact K7.out | with_reducible exact K1.out) (fun hH => ?_)
          refine tk (i := 0) (oi := ⟨some 69, .fieldAddr 28 (.tmp 1) 6, 0, "ref.go:83", #[], none⟩) hH.out (by rintro w ⟨sb, ⟨⟨s0, s1, s2, s3, s4, s5, s6⟩, ⟨s7, s8, s9, s10⟩, ⟨s11, s12, s13, s14, s15, s16, s17⟩⟩⟩; go_simp <;> with_reducible rfl) ?_
          simp only [Act.put, sA, sB, sC]
          refine tk (i := 1) (oi := ⟨some 70, .load 23 (.tmp 69), 23, "ref.go:83", #[⟨0, .data⟩], none⟩) hH.out (by rintro w ⟨sb, ⟨⟨s0, s1, s2, s3, s4, s5, s6⟩, ⟨s7, s8, s9, s10⟩, ⟨s11, s12, s13, s14, s15, s16, s17⟩⟩⟩; go_simp <;> with_reducible rfl) ?_
          simp only [Act.put, sA, sB, sC]
          refine tk (i := 2) (oi := ⟨some 71, .binOp .eql 23 (.tmp 70) (.const (Go.Value.int Go.IntKind.i64 0)) 23, 4, "ref.go:83", #[⟨1, .data⟩], none⟩) hH.out (by rintro w ⟨sb, ⟨⟨s0, s1, s2, s3, s4, s5, s6⟩, ⟨s7, s8, s9, s10⟩, ⟨s11, s12, s13, s14, s15, s16, s17⟩⟩⟩; go_simp <;> with_reducible rfl) ?_
          simp only [Act.put, sA, sB, sC]
          refine tk (i := 3) (oi := ⟨some 72, .move (.tmp 71), 4, "ref.go:83", #[⟨2, .data⟩], none⟩) hH.out (by rintro w ⟨sb, ⟨⟨s0, s1, s2, s3, s4, s5, s6⟩, ⟨s7, s8, s9, s10⟩, ⟨s11, s12, s13, s14, s15, s16, s17⟩⟩⟩; go_simp <;> with_reducible rfl) ?_
          simp only [Act.put, sA, sB, sC]
          refine tk (i := 4) (oi := { dst := some 73, op := .fieldAddr 28 (.tmp 1) 5, type := 0, pos := "ref.go:83", after := #[⟨3, .guard⟩], guard := some (3, true) }) hH.out (by rintro w ⟨sb, ⟨⟨s0, s1, s2, s3, s4, s5, s6⟩, ⟨s7, s8, s9, s10⟩, ⟨s11, s12, s13, s14, s15, s16, s17⟩⟩⟩; go_simp <;> with_reducible rfl) ?_
          simp only [Act.put, sA, sB, sC]
          refine tk (i := 5) (oi := { dst := some 74, op := .load 3 (.tmp 73), type := 3, pos := "ref.go:83", after := #[⟨4, .data⟩, ⟨3, .guard⟩], guard := some (3, true) }) hH.out (by rintro w ⟨sb, ⟨⟨s0, s1, s2, s3, s4, s5, s6⟩, ⟨s7, s8, s9, s10⟩, ⟨s11, s12, s13, s14, s15, s16, s17⟩⟩⟩; go_simp <;> with_reducible rfl) ?_
          simp only [Act.put, sA, sB, sC]
          refine tk (i := 6) (oi := { dst := some 75, op := .binOp .eql 3 (.tmp 74) (.const (Go.Value.int Go.IntKind.i64 1)) 3, type := 4, pos := "ref.go:83", after := #[⟨5, .data⟩, ⟨3, .guard⟩], guard := some (3, true) }) hH.out (by rintro w ⟨sb, ⟨⟨s0, s1, s2, s3, s4, s5, s6⟩, ⟨s7, s8, s9, s10⟩, ⟨s11, s12, s13, s14, s15, s16, s17⟩⟩⟩; go_simp <;> with_reducible rfl) ?_
          simp only [Act.put, sA, sB, sC]
          refine tk (i := 7) (oi := { dst := some 76, op := .move (.tmp 75), type := 4, pos := "ref.go:83", after := #[⟨6, .data⟩, ⟨3, .chain⟩, ⟨3, .guard⟩], guard := some (3, true) }) hH.out (by rintro w ⟨sb, ⟨⟨s0, s1, s2, s3, s4, s5, s6⟩, ⟨s7, s8, s9, s10⟩, ⟨s11, s12, s13, s14, s15, s16, s17⟩⟩⟩; go_simp <;> with_reducible rfl) ?_
          simp only [Act.put, sA, sB, sC]
          refine tks (i := 8) (oi := { dst := some 77, op := .fieldAddr 28 (.tmp 1) 4, type := 0, pos := "ref.go:83", after := #[⟨7, .guard⟩], guard := some (7, true) }) hH.out ?_
          try simp only [Act.put, sA, sB, sC]
          refine tks (i := 9) (oi := { dst := some 78, op := .load 22 (.tmp 77), type := 22, pos := "ref.go:83", after := #[⟨8, .data⟩, ⟨7, .guard⟩], guard := some (7, true) }) hH.out ?_
          try simp only [Act.put, sA, sB, sC]
          refine tks (i := 10) (oi := { dst := some 79, op := .binOp .eql 22 (.tmp 78) (.const (Go.Value.int Go.IntKind.u64 0)) 22, type := 4, pos := "ref.go:83", after := #[⟨9, .data⟩, ⟨7, .guard⟩], guard := some (7, true) }) hH.out ?_
          try simp only [Act.put, sA, sB, sC]
          refine tk (i := 11) (oi := { dst := some 80, op := .pick (.tmp 76) (.tmp 79) (.const (Go.Value.bool false)), type := 4, pos := "ref.go:83", after := #[⟨7, .data⟩, ⟨10, .data⟩, ⟨3, .guard⟩], guard := some (3, true) }) hH.out (by rintro w ⟨sb, ⟨⟨s0, s1, s2, s3, s4, s5, s6⟩, ⟨s7, s8, s9, s10⟩, ⟨s11, s12, s13, s14, s15, s16, s17⟩⟩⟩; go_simp <;> with_reducible rfl) ?_
          simp only [Act.put, sA, sB, sC]
          refine tk (i := 12) (oi := { dst := some 81, op := .move (.tmp 80), type := 4, pos := "ref.go:83", after := #[⟨11, .data⟩, ⟨7, .chain⟩, ⟨3, .guard⟩], guard := some (3, true) }) hH.out (by rintro w ⟨sb, ⟨⟨s0, s1, s2, s3, s4, s5, s6⟩, ⟨s7, s8, s9, s10⟩, ⟨s11, s12, s13, s14, s15, s16, s17⟩⟩⟩; go_simp <;> with_reducible rfl) ?_
          simp only [Act.put, sA, sB, sC]
          refine tk (i := 13) (oi := { dst := some 82, op := .fieldAddr 28 (.tmp 1) 5, type := 0, pos := "ref.go:83", after := #[⟨12, .guard⟩], guard := some (12, false) }) hH.out (by rintro w ⟨sb, ⟨⟨s0, s1, s2, s3, s4, s5, s6⟩, ⟨s7, s8, s9, s10⟩, ⟨s11, s12, s13, s14, s15, s16, s17⟩⟩⟩; go_simp <;> with_reducible rfl) ?_
          simp only [Act.put, sA, sB, sC]
          refine tk (i := 14) (oi := { dst := some 83, op := .load 3 (.tmp 82), type := 3, pos := "ref.go:83", after := #[⟨13, .data⟩, ⟨12, .guard⟩], guard := some (12, false) }) hH.out (by rintro w ⟨sb, ⟨⟨s0, s1, s2, s3, s4, s5, s6⟩, ⟨s7, s8, s9, s10⟩, ⟨s11, s12, s13, s14, s15, s16, s17⟩⟩⟩; go_simp <;> with_reducible rfl) ?_
          simp only [Act.put, sA, sB, sC]
          refine tk (i := 15) (oi := { dst := some 84, op := .binOp .neq 3 (.tmp 83) (.const (Go.Value.int Go.IntKind.i64 1)) 3, type := 4, pos := "ref.go:83", after := #[⟨14, .data⟩, ⟨12, .guard⟩], guard := some (12, false) }) hH.out (by rintro w ⟨sb, ⟨⟨s0, s1, s2, s3, s4, s5, s6⟩, ⟨s7, s8, s9, s10⟩, ⟨s11, s12, s13, s14, s15, s16, s17⟩⟩⟩; go_simp <;> with_reducible rfl) ?_
          simp only [Act.put, sA, sB, sC]
          refine tk (i := 16) (oi := { dst := some 85, op := .move (.tmp 84), type := 4, pos := "ref.go:83", after := #[⟨15, .data⟩, ⟨12, .chain⟩, ⟨12, .guard⟩], guard := some (12, false) }) hH.out (by rintro w ⟨sb, ⟨⟨s0, s1, s2, s3, s4, s5, s6⟩, ⟨s7, s8, s9, s10⟩, ⟨s11, s12, s13, s14, s15, s16, s17⟩⟩⟩; go_simp <;> with_reducible rfl) ?_
          simp only [Act.put, sA, sB, sC]
          refine tk (i := 17) (oi := { dst := some 86, op := .fieldAddr 28 (.tmp 1) 4, type := 0, pos := "ref.go:83", after := #[⟨16, .guard⟩], guard := some (16, true) }) hH.out (by rintro w ⟨sb, ⟨⟨s0, s1, s2, s3, s4, s5, s6⟩, ⟨s7, s8, s9, s10⟩, ⟨s11, s12, s13, s14, s15, s16, s17⟩⟩⟩; go_simp <;> with_reducible rfl) ?_
          simp only [Act.put, sA, sB, sC]
          refine tk (i := 18) (oi := { dst := some 87, op := .load 22 (.tmp 86), type := 22, pos := "ref.go:83", after := #[⟨17, .data⟩, ⟨16, .guard⟩], guard := some (16, true) }) hH.out (by rintro w ⟨sb, ⟨⟨s0, s1, s2, s3, s4, s5, s6⟩, ⟨s7, s8, s9, s10⟩, ⟨s11, s12, s13, s14, s15, s16, s17⟩⟩⟩; go_simp <;> with_reducible rfl) ?_
          simp only [Act.put, sA, sB, sC]
          refine rdy (i := 19) (oi := { dst := some 88, op := .call ⟨.value (.func 33), #[.tmp 87], #[22]⟩, type := 4, pos := "ref.go:83", after := #[⟨18, .data⟩, ⟨16, .chain⟩, ⟨16, .guard⟩], guard := some (16, true) }) (fun K hK => ?_)
          go_simp
          refine (H1.out _).mono ?_
          rintro x w0 ⟨rfl, rfl⟩
          go_wp2_with fail
          refine hK.out _ _ (by first | with_reducible exact K9.out | with_reducible exact K8.out | with_reducible exact K7.out | with_reducible exact K1.out) (fun hHeld => ?_)
          replace hH := Lib.hid hHeld
          clear hK K hHeld
          try simp only [Act.put, sA, sB, sC]
          refine tk (i := 20) (oi := { dst := some 89, op := .pick (.tmp 85) (.tmp 88) (.const (Go.Value.bool false)), type := 4, pos := "ref.go:83", after := #[⟨16, .data⟩, ⟨19, .data⟩, ⟨12, .guard⟩], guard := some (12, false) }) hH.out (by rintro w ⟨sb, ⟨⟨s0, s1, s2, s3, s4, s5, s6⟩, ⟨s7, s8, s9, s10⟩, ⟨s11, s12, s13, s14, s15, s16, s17⟩⟩⟩; go_simp <;> with_reducible rfl) ?_
          simp only [Act.put, sA, sB, sC]
          refine tk (i := 21) (oi := { dst := some 90, op := .pick (.tmp 81) (.const (Go.Value.bool true)) (.tmp 89), type := 4, pos := "ref.go:83", after := #[⟨12, .data⟩, ⟨20, .data⟩, ⟨3, .guard⟩], guard := some (3, true) }) hH.out (by rintro w ⟨sb, ⟨⟨s0, s1, s2, s3, s4, s5, s6⟩, ⟨s7, s8, s9, s10⟩, ⟨s11, s12, s13, s14, s15, s16, s17⟩⟩⟩; go_simp <;> with_reducible rfl) ?_
          simp only [Act.put, sA, sB, sC]
          refine tk (i := 22) (oi := ⟨some 91, .pick (.tmp 72) (.tmp 90) (.const (Go.Value.bool false)), 4, "ref.go:83", #[⟨3, .data⟩, ⟨21, .data⟩], none⟩) hH.out (by rintro w ⟨sb, ⟨⟨s0, s1, s2, s3, s4, s5, s6⟩, ⟨s7, s8, s9, s10⟩, ⟨s11, s12, s13, s14, s15, s16, s17⟩⟩⟩; go_simp <;> with_reducible rfl) ?_
          simp only [Act.put, sA, sB, sC]
          refine tk (i := 23) (oi := ⟨some 92, .move (.tmp 91), 4, "ref.go:83", #[⟨22, .data⟩, ⟨19, .chain⟩], none⟩) hH.out (by rintro w ⟨sb, ⟨⟨s0, s1, s2, s3, s4, s5, s6⟩, ⟨s7, s8, s9, s10⟩, ⟨s11, s12, s13, s14, s15, s16, s17⟩⟩⟩; go_simp <;> with_reducible rfl) ?_
          simp only [Act.put, sA, sB, sC]
          refine wpAnyH_take (i := 24) (oi := { dst := some 93, op := .load 28 (.tmp 1), type := 28, pos := "ref.go:83", after := #[⟨23, .guard⟩], guard := some (23, true) }) (v := .agg C) rfl (by kernel_rfl) (by kernel_rfl) (by kernel_rfl) (fun _ _ _ h => h) (kyl_load rfl (.tmp 1) rfl z rfl (fun _ h => h.1) Try.underlying28 rfl sizeM HCS.out) hH.out ?_
          simp only [Act.put, sA, sB, sC]
          refine tk (i := 25) (oi := { dst := some 94, op := .fieldAddr 28 (.tmp 1) 5, type := 0, pos := "ref.go:83", after := #[⟨23, .guard⟩], guard := some (23, true) }) hH.out (by rintro w ⟨sb, ⟨⟨s0, s1, s2, s3, s4, s5, s6⟩, ⟨s7, s8, s9, s10⟩, ⟨s11, s12, s13, s14, s15, s16, s17⟩⟩⟩; go_simp <;> with_reducible rfl) ?_
          simp only [Act.put, sA, sB, sC]
          refine tk (i := 26) (oi := { dst := some 95, op := .load 3 (.tmp 94), type := 3, pos := "ref.go:83", after := #[⟨25, .data⟩, ⟨23, .guard⟩], guard := some (23, true) }) hH.out (by rintro w ⟨sb, ⟨⟨s0, s1, s2, s3, s4, s5, s6⟩, ⟨s7, s8, s9, s10⟩, ⟨s11, s12, s13, s14, s15, s16, s17⟩⟩⟩; go_simp <;> with_reducible rfl) ?_
          simp only [Act.put, sA, sB, sC]
          refine rdy (i := 27) (oi := { dst := some 96, op := .call ⟨.value (.func 35), #[.const (Go.Value.bool false), .tmp 95], #[4, 3]⟩, type := 9, pos := "ref.go:83", after := #[⟨26, .data⟩, ⟨23, .chain⟩, ⟨23, .guard⟩], guard := some (23, true) }) (fun K hK => ?_)
          go_simp
          refine (HAS.out _).mono ?_
          rintro x w8 ⟨rfl, a8⟩
          have HA8 := Lib.hid (HA7.out.trans a8)
          have HB8 := Lib.hid (HB7.out.over a8)
          have K8 := Lib.hid (show Blk w8 z 28 C ∧ C18 w8 z m (.slice A N c) from ⟨HB8.out, HC.out _ _ HB8.out⟩)
          clear a8
          go_wp2_with fail
          refine hK.out _ _ (by first | with_reducible exact K9.out | with_reducible exact K8.out | with_reducible exact K7.out | with_reducible exact K1.out) (fun hHeld => ?_)
          replace hH := Lib.hid hHeld
          clear hK K hHeld
          try simp only [Act.put, sA, sB, sC]
          refine rdy (i := 28) (oi := { dst := some 97, op := .call ⟨.value (.func 34), #[.tmp 93, .tmp 96], #[28, 9]⟩, type := 4, pos := "ref.go:83", after := #[⟨24, .data⟩, ⟨27, .data⟩, ⟨27, .chain⟩, ⟨23, .guard⟩], guard := some (23, true) }) (fun K hK => ?_)
          go_simp
          refine (HX.out _ HA8.out).mono ?_
          rintro x w9 ⟨rfl, a9⟩
          have HA9 := Lib.hid (HA8.out.trans a9)
          have HB9 := Lib.hid (HB8.out.over a9)
          have K9 := Lib.hid (show Blk w9 z 28 C ∧ C18 w9 z m (.slice A N c) from ⟨HB9.out, HC.out _ _ HB9.out⟩)
          clear a9
          go_wp2_with fail
          refine hK.out _ _ (by first | with_reducible exact K9.out | with_reducible exact K8.out | with_reducible exact K7.out | with_reducible exact K1.out) (fun hHeld => ?_)
          replace hH := Lib.hid hHeld
          clear hK K hHeld
          try simp only [Act.put, sA, sB, sC]
          refine tk (i := 29) (oi := ⟨some 98, .pick (.tmp 92) (.tmp 97) (.const (Go.Value.bool false)), 4, "ref.go:83", #[⟨23, .data⟩, ⟨28, .data⟩], none⟩) hH.out (by rintro w ⟨sb, ⟨⟨s0, s1, s2, s3, s4, s5, s6⟩, ⟨s7, s8, s9, s10⟩, ⟨s11, s12, s13, s14, s15, s16, s17⟩⟩⟩; go_simp <;> with_reducible rfl) ?_
          simp only [Act.put, sA, sB, sC]
          refine tk (i := 30) (oi := ⟨some 2, .assign (.tmp 98), 4, "ref.go:83", #[⟨29, .data⟩, ⟨28, .chain⟩, ⟨0, .phase⟩, ⟨1, .phase⟩, ⟨2, .phase⟩, ⟨3, .phase⟩, ⟨4, .phase⟩, ⟨5, .phase⟩, ⟨6, .phase⟩, ⟨7, .phase⟩, ⟨8, .phase⟩, ⟨9, .phase⟩, ⟨10, .phase⟩, ⟨11, .phase⟩, ⟨12, .phase⟩, ⟨13, .phase⟩, ⟨14, .phase⟩, ⟨15, .phase⟩, ⟨16, .phase⟩, ⟨17, .phase⟩, ⟨18, .phase⟩, ⟨19, .phase⟩, ⟨20, .phase⟩, ⟨21, .phase⟩, ⟨22, .phase⟩, ⟨23, .phase⟩, ⟨24, .phase⟩, ⟨25, .phase⟩, ⟨26, .phase⟩, ⟨27, .phase⟩, ⟨28, .phase⟩, ⟨29, .phase⟩], none⟩) hH.out (by rintro w ⟨sb, ⟨⟨s0, s1, s2, s3, s4, s5, s6⟩, ⟨s7, s8, s9, s10⟩, ⟨s11, s12, s13, s14, s15, s16, s17⟩⟩⟩; go_simp <;> with_reducible rfl) ?_
          simp only [Act.put, sA, sB, sC]
          refine wpAnyH_done (by kernel_rfl) ?_ _
          go_wp2_with fail
          go_ret
          exact ⟨by rw [HBJ.out]; first | rfl | simp, HA9.out⟩
        | false =>
          refine rstart (S := (fun w' => Blk w' z 28 C ∧ C18 w' z m (.slice A N c))) (by first | with_reducible exact K9.out | with_reducible exact K8.out | with_reducible exact K7.out | with_reducible exact K1.out) (fun hH => ?_)
          refine tk (i := 0) (oi := ⟨some 69, .fieldAddr 28 (.tmp 1) 6, 0, "ref.go:83", #[], none⟩) hH.out (by rintro w ⟨sb, ⟨⟨s0, s1, s2, s3, s4, s5, s6⟩, ⟨s7, s8, s9, s10⟩, ⟨s11, s12, s13, s14, s15, s16, s17⟩⟩⟩; go_simp <;> with_reducible rfl) ?_
          simp only [Act.put, sA, sB, sC]
          refine tk (i := 1) (oi := ⟨some 70, .load 23 (.tmp 69), 23, "ref.go:83", #[⟨0, .data⟩], none⟩) hH.out (by rintro w ⟨sb, ⟨⟨s0, s1, s2, s3, s4, s5, s6⟩, ⟨s7, s8, s9, s10⟩, ⟨s11, s12, s13, s14, s15, s16, s17⟩⟩⟩; go_simp <;> with_reducible rfl) ?_
          simp only [Act.put, sA, sB, sC]
          refine tk (i := 2) (oi := ⟨some 71, .binOp .eql 23 (.tmp 70) (.const (Go.Value.int Go.IntKind.i64 0)) 23, 4, "ref.go:83", #[⟨1, .data⟩], none⟩) hH.out (by rintro w ⟨sb, ⟨⟨s0, s1, s2, s3, s4, s5, s6⟩, ⟨s7, s8, s9, s10⟩, ⟨s11, s12, s13, s14, s15, s16, s17⟩⟩⟩; go_simp <;> with_reducible rfl) ?_
          simp only [Act.put, sA, sB, sC]
          refine tk (i := 3) (oi := ⟨some 72, .move (.tmp 71), 4, "ref.go:83", #[⟨2, .data⟩], none⟩) hH.out (by rintro w ⟨sb, ⟨⟨s0, s1, s2, s3, s4, s5, s6⟩, ⟨s7, s8, s9, s10⟩, ⟨s11, s12, s13, s14, s15, s16, s17⟩⟩⟩; go_simp <;> with_reducible rfl) ?_
          simp only [Act.put, sA, sB, sC]
          refine tk (i := 4) (oi := { dst := some 73, op := .fieldAddr 28 (.tmp 1) 5, type := 0, pos := "ref.go:83", after := #[⟨3, .guard⟩], guard := some (3, true) }) hH.out (by rintro w ⟨sb, ⟨⟨s0, s1, s2, s3, s4, s5, s6⟩, ⟨s7, s8, s9, s10⟩, ⟨s11, s12, s13, s14, s15, s16, s17⟩⟩⟩; go_simp <;> with_reducible rfl) ?_
          simp only [Act.put, sA, sB, sC]
          refine tk (i := 5) (oi := { dst := some 74, op := .load 3 (.tmp 73), type := 3, pos := "ref.go:83", after := #[⟨4, .data⟩, ⟨3, .guard⟩], guard := some (3, true) }) hH.out (by rintro w ⟨sb, ⟨⟨s0, s1, s2, s3, s4, s5, s6⟩, ⟨s7, s8, s9, s10⟩, ⟨s11, s12, s13, s14, s15, s16, s17⟩⟩⟩; go_simp <;> with_reducible rfl) ?_
          simp only [Act.put, sA, sB, sC]
          refine tk (i := 6) (oi := { dst := some 75, op := .binOp .eql 3 (.tmp 74) (.const (Go.Value.int Go.IntKind.i64 1)) 3, type := 4, pos := "ref.go:83", after := #[⟨5, .data⟩, ⟨3, .guard⟩], guard := some (3, true) }) hH.out (by rintro w ⟨sb, ⟨⟨s0, s1, s2, s3, s4, s5, s6⟩, ⟨s7, s8, s9, s10⟩, ⟨s11, s12, s13, s14, s15, s16, s17⟩⟩⟩; go_simp <;> with_reducible rfl) ?_
          simp only [Act.put, sA, sB, sC]
          refine tk (i := 7) (oi := { dst := some 76, op := .move (.tmp 75), type := 4, pos := "ref.go:83", after := #[⟨6, .data⟩, ⟨3, .chain⟩, ⟨3, .guard⟩], guard := some (3, true) }) hH.out (by rintro w ⟨sb, ⟨⟨s0, s1, s2, s3, s4, s5, s6⟩, ⟨s7, s8, s9, s10⟩, ⟨s11, s12, s13, s14, s15, s16, s17⟩⟩⟩; go_simp <;> with_reducible rfl) ?_
          simp only [Act.put, sA, sB, sC]
          refine tks (i := 8) (oi := { dst := some 77, op := .fieldAddr 28 (.tmp 1) 4, type := 0, pos := "ref.go:83", after := #[⟨7, .guard⟩], guard := some (7, true) }) hH.out ?_
          try simp only [Act.put, sA, sB, sC]
          refine tks (i := 9) (oi := { dst := some 78, op := .load 22 (.tmp 77), type := 22, pos := "ref.go:83", after := #[⟨8, .data⟩, ⟨7, .guard⟩], guard := some (7, true) }) hH.out ?_
          try simp only [Act.put, sA, sB, sC]
          refine tks (i := 10) (oi := { dst := some 79, op := .binOp .eql 22 (.tmp 78) (.const (Go.Value.int Go.IntKind.u64 0)) 22, type := 4, pos := "ref.go:83", after := #[⟨9, .data⟩, ⟨7, .guard⟩], guard := some (7, true) }) hH.out ?_
          try simp only [Act.put, sA, sB, sC]
          refine tk (i := 11) (oi := { dst := some 80, op := .pick (.tmp 76) (.tmp 79) (.const (Go.Value.bool false)), type := 4, pos := "ref.go:83", after := #[⟨7, .data⟩, ⟨10, .data⟩, ⟨3, .guard⟩], guard := some (3, true) }) hH.out (by rintro w ⟨sb, ⟨⟨s0, s1, s2, s3, s4, s5, s6⟩, ⟨s7, s8, s9, s10⟩, ⟨s11, s12, s13, s14, s15, s16, s17⟩⟩⟩; go_simp <;> with_reducible rfl) ?_
          simp only [Act.put, sA, sB, sC]
          refine tk (i := 12) (oi := { dst := some 81, op := .move (.tmp 80), type := 4, pos := "ref.go:83", after := #[⟨11, .data⟩, ⟨7, .chain⟩, ⟨3, .guard⟩], guard := some (3, true) }) hH.out (by rintro w ⟨sb, ⟨⟨s0, s1, s2, s3, s4, s5, s6⟩, ⟨s7, s8, s9, s10⟩, ⟨s11, s12, s13, s14, s15, s16, s17⟩⟩⟩; go_simp <;> with_reducible rfl) ?_
          simp only [Act.put, sA, sB, sC]
          refine tk (i := 13) (oi := { dst := some 82, op := .fieldAddr 28 (.tmp 1) 5, type := 0, pos := "ref.go:83", after := #[⟨12, .guard⟩], guard := some (12, false) }) hH.out (by rintro w ⟨sb, ⟨⟨s0, s1, s2, s3, s4, s5, s6⟩, ⟨s7, s8, s9, s10⟩, ⟨s11, s12, s13, s14, s15, s16, s17⟩⟩⟩; go_simp <;> with_reducible rfl) ?_
          simp only [Act.put, sA, sB, sC]
          refine tk (i := 14) (oi := { dst := some 83, op := .load 3 (.tmp 82), type := 3, pos := "ref.go:83", after := #[⟨13, .data⟩, ⟨12, .guard⟩], guard := some (12, false) }) hH.out (by rintro w ⟨sb, ⟨⟨s0, s1, s2, s3, s4, s5, s6⟩, ⟨s7, s8, s9, s10⟩, ⟨s11, s12, s13, s14, s15, s16, s17⟩⟩⟩; go_simp <;> with_reducible rfl) ?_
          simp only [Act.put, sA, sB, sC]
          refine tk (i := 15) (oi := { dst := some 84, op := .binOp .neq 3 (.tmp 83) (.const (Go.Value.int Go.IntKind.i64 1)) 3, type := 4, pos := "ref.go:83", after := #[⟨14, .data⟩, ⟨12, .guard⟩], guard := some (12, false) }) hH.out (by rintro w ⟨sb, ⟨⟨s0, s1, s2, s3, s4, s5, s6⟩, ⟨s7, s8, s9, s10⟩, ⟨s11, s12, s13, s14, s15, s16, s17⟩⟩⟩; go_simp <;> with_reducible rfl) ?_
          simp only [Act.put, sA, sB, sC]
          refine tk (i := 16) (oi := { dst := some 85, op := .move (.tmp 84), type := 4, pos := "ref.go:83", after := #[⟨15, .data⟩, ⟨12, .chain⟩, ⟨12, .guard⟩], guard := some (12, false) }) hH.out (by rintro w ⟨sb, ⟨⟨s0, s1, s2, s3, s4, s5, s6⟩, ⟨s7, s8, s9, s10⟩, ⟨s11, s12, s13, s14, s15, s16, s17⟩⟩⟩; go_simp <;> with_reducible rfl) ?_
          simp only [Act.put, sA, sB, sC]
          refine tk (i := 17) (oi := { dst := some 86, op := .fieldAddr 28 (.tmp 1) 4, type := 0, pos := "ref.go:83", after := #[⟨16, .guard⟩], guard := some (16, true) }) hH.out (by rintro w ⟨sb, ⟨⟨s0, s1, s2, s3, s4, s5, s6⟩, ⟨s7, s8, s9, s10⟩, ⟨s11, s12, s13, s14, s15, s16, s17⟩⟩⟩; go_simp <;> with_reducible rfl) ?_
          simp only [Act.put, sA, sB, sC]
          refine tk (i := 18) (oi := { dst := some 87, op := .load 22 (.tmp 86), type := 22, pos := "ref.go:83", after := #[⟨17, .data⟩, ⟨16, .guard⟩], guard := some (16, true) }) hH.out (by rintro w ⟨sb, ⟨⟨s0, s1, s2, s3, s4, s5, s6⟩, ⟨s7, s8, s9, s10⟩, ⟨s11, s12, s13, s14, s15, s16, s17⟩⟩⟩; go_simp <;> with_reducible rfl) ?_
          simp only [Act.put, sA, sB, sC]
          refine rdy (i := 19) (oi := { dst := some 88, op := .call ⟨.value (.func 33), #[.tmp 87], #[22]⟩, type := 4, pos := "ref.go:83", after := #[⟨18, .data⟩, ⟨16, .chain⟩, ⟨16, .guard⟩], guard := some (16, true) }) (fun K hK => ?_)
          go_simp
          refine (H1.out _).mono ?_
          rintro x w0 ⟨rfl, rfl⟩
          go_wp2_with fail
          refine hK.out _ _ (by first | with_reducible exact K9.out | with_reducible exact K8.out | with_reducible exact K7.out | with_reducible exact K1.out) (fun hHeld => ?_)
          replace hH := Lib.hid hHeld
          clear hK K hHeld
          try simp only [Act.put, sA, sB, sC]
          refine tk (i := 20) (oi := { dst := some 89, op := .pick (.tmp 85) (.tmp 88) (.const (Go.Value.bool false)), type := 4, pos := "ref.go:83", after := #[⟨16, .data⟩, ⟨19, .data⟩, ⟨12, .guard⟩], guard := some (12, false) }) hH.out (by rintro w ⟨sb, ⟨⟨s0, s1, s2, s3, s4, s5, s6⟩, ⟨s7, s8, s9, s10⟩, ⟨s11, s12, s13, s14, s15, s16, s17⟩⟩⟩; go_simp <;> with_reducible rfl) ?_
          simp only [Act.put, sA, sB, sC]
          refine tk (i := 21) (oi := { dst := some 90, op := .pick (.tmp 81) (.const (Go.Value.bool true)) (.tmp 89), type := 4, pos := "ref.go:83", after := #[⟨12, .data⟩, ⟨20, .data⟩, ⟨3, .guard⟩], guard := some (3, true) }) hH.out (by rintro w ⟨sb, ⟨⟨s0, s1, s2, s3, s4, s5, s6⟩, ⟨s7, s8, s9, s10⟩, ⟨s11, s12, s13, s14, s15, s16, s17⟩⟩⟩; go_simp <;> with_reducible rfl) ?_
          simp only [Act.put, sA, sB, sC]
          refine tk (i := 22) (oi := ⟨some 91, .pick (.tmp 72) (.tmp 90) (.const (Go.Value.bool false)), 4, "ref.go:83", #[⟨3, .data⟩, ⟨21, .data⟩], none⟩) hH.out (by rintro w ⟨sb, ⟨⟨s0, s1, s2, s3, s4, s5, s6⟩, ⟨s7, s8, s9, s10⟩, ⟨s11, s12, s13, s14, s15, s16, s17⟩⟩⟩; go_simp <;> with_reducible rfl) ?_
          simp only [Act.put, sA, sB, sC]
          refine tk (i := 23) (oi := ⟨some 92, .move (.tmp 91), 4, "ref.go:83", #[⟨22, .data⟩, ⟨19, .chain⟩], none⟩) hH.out (by rintro w ⟨sb, ⟨⟨s0, s1, s2, s3, s4, s5, s6⟩, ⟨s7, s8, s9, s10⟩, ⟨s11, s12, s13, s14, s15, s16, s17⟩⟩⟩; go_simp <;> with_reducible rfl) ?_
          simp only [Act.put, sA, sB, sC]
          refine tks (i := 24) (oi := { dst := some 93, op := .load 28 (.tmp 1), type := 28, pos := "ref.go:83", after := #[⟨23, .guard⟩], guard := some (23, true) }) hH.out ?_
          try simp only [Act.put, sA, sB, sC]
          refine tks (i := 25) (oi := { dst := some 94, op := .fieldAddr 28 (.tmp 1) 5, type := 0, pos := "ref.go:83", after := #[⟨23, .guard⟩], guard := some (23, true) }) hH.out ?_
          try simp only [Act.put, sA, sB, sC]
          refine tks (i := 26) (oi := { dst := some 95, op := .load 3 (.tmp 94), type := 3, pos := "ref.go:83", after := #[⟨25, .data⟩, ⟨23, .guard⟩], guard := some (23, true) }) hH.out ?_
          try simp only [Act.put, sA, sB, sC]
          refine tks (i := 27) (oi := { dst := some 96, op := .call ⟨.value (.func 35), #[.const (Go.Value.bool false), .tmp 95], #[4, 3]⟩, type := 9, pos := "ref.go:83", after := #[⟨26, .data⟩, ⟨23, .chain⟩, ⟨23, .guard⟩], guard := some (23, true) }) hH.out ?_
          try simp only [Act.put, sA, sB, sC]
          refine tks (i := 28) (oi := { dst := some 97, op := .call ⟨.value (.func 34), #[.tmp 93, .tmp 96], #[28, 9]⟩, type := 4, pos := "ref.go:83", after := #[⟨24, .data⟩, ⟨27, .data⟩, ⟨27, .chain⟩, ⟨23, .guard⟩], guard := some (23, true) }) hH.out ?_
          try simp only [Act.put, sA, sB, sC]
          refine tk (i := 29) (oi := ⟨some 98, .pick (.tmp 92) (.tmp 97) (.const (Go.Value.bool false)), 4, "ref.go:83", #[⟨23, .data⟩, ⟨28, .data⟩], none⟩) hH.out (by rintro w ⟨sb, ⟨⟨s0, s1, s2, s3, s4, s5, s6⟩, ⟨s7, s8, s9, s10⟩, ⟨s11, s12, s13, s14, s15, s16, s17⟩⟩⟩; go_simp <;> with_reducible rfl) ?_
          simp only [Act.put, sA, sB, sC]
          refine tk (i := 30) (oi := ⟨some 2, .assign (.tmp 98), 4, "ref.go:83", #[⟨29, .data⟩, ⟨28, .chain⟩, ⟨0, .phase⟩, ⟨1, .phase⟩, ⟨2, .phase⟩, ⟨3, .phase⟩, ⟨4, .phase⟩, ⟨5, .phase⟩, ⟨6, .phase⟩, ⟨7, .phase⟩, ⟨8, .phase⟩, ⟨9, .phase⟩, ⟨10, .phase⟩, ⟨11, .phase⟩, ⟨12, .phase⟩, ⟨13, .phase⟩, ⟨14, .phase⟩, ⟨15, .phase⟩, ⟨16, .phase⟩, ⟨17, .phase⟩, ⟨18, .phase⟩, ⟨19, .phase⟩, ⟨20, .phase⟩, ⟨21, .phase⟩, ⟨22, .phase⟩, ⟨23, .phase⟩, ⟨24, .phase⟩, ⟨25, .phase⟩, ⟨26, .phase⟩, ⟨27, .phase⟩, ⟨28, .phase⟩, ⟨29, .phase⟩], none⟩) hH.out (by rintro w ⟨sb, ⟨⟨s0, s1, s2, s3, s4, s5, s6⟩, ⟨s7, s8, s9, s10⟩, ⟨s11, s12, s13, s14, s15, s16, s17⟩⟩⟩; go_simp <;> with_reducible rfl) ?_
          simp only [Act.put, sA, sB, sC]
          refine wpAnyH_done (by kernel_rfl) ?_ _
          go_wp2_with fail
          go_ret
          exact ⟨by rw [HBJ.out]; first | rfl | simp, HA7.out⟩
    · have e0b : (m.er == 0) = false := by rw [beq_eq_false_iff_ne]; exact e0
      obtain rfl : B = false := by rw [HBE.out]; simp [zf, e0]
      clear e0
      refine rstart (S := (fun w' => Blk w' z 28 C ∧ C18 w' z m (.slice A N c))) (by first | with_reducible exact K9.out | with_reducible exact K8.out | with_reducible exact K7.out | with_reducible exact K1.out) (fun hH => ?_)
      refine tk (i := 0) (oi := ⟨some 69, .fieldAddr 28 (.tmp 1) 6, 0, "ref.go:83", #[], none⟩) hH.out (by rintro w ⟨sb, ⟨⟨s0, s1, s2, s3, s4, s5, s6⟩, ⟨s7, s8, s9, s10⟩, ⟨s11, s12, s13, s14, s15, s16, s17⟩⟩⟩; go_simp <;> with_reducible rfl) ?_
      simp only [Act.put, sA, sB, sC]
      refine tk (i := 1) (oi := ⟨some 70, .load 23 (.tmp 69), 23, "ref.go:83", #[⟨0, .data⟩], none⟩) hH.out (by rintro w ⟨sb, ⟨⟨s0, s1, s2, s3, s4, s5, s6⟩, ⟨s7, s8, s9, s10⟩, ⟨s11, s12, s13, s14, s15, s16, s17⟩⟩⟩; go_simp <;> with_reducible rfl) ?_
      simp only [Act.put, sA, sB, sC]
      refine tk (i := 2) (oi := ⟨some 71, .binOp .eql 23 (.tmp 70) (.const (Go.Value.int Go.IntKind.i64 0)) 23, 4, "ref.go:83", #[⟨1, .data⟩], none⟩) hH.out (by rintro w ⟨sb, ⟨⟨s0, s1, s2, s3, s4, s5, s6⟩, ⟨s7, s8, s9, s10⟩, ⟨s11, s12, s13, s14, s15, s16, s17⟩⟩⟩; go_simp <;> with_reducible rfl) ?_
      simp only [Act.put, sA, sB, sC]
      refine tk (i := 3) (oi := ⟨some 72, .move (.tmp 71), 4, "ref.go:83", #[⟨2, .data⟩], none⟩) hH.out (by rintro w ⟨sb, ⟨⟨s0, s1, s2, s3, s4, s5, s6⟩, ⟨s7, s8, s9, s10⟩, ⟨s11, s12, s13, s14, s15, s16, s17⟩⟩⟩; go_simp <;> with_reducible rfl) ?_
      simp only [Act.put, sA, sB, sC]
      refine tks (i := 4) (oi := { dst := some 73, op := .fieldAddr 28 (.tmp 1) 5, type := 0, pos := "ref.go:83", after := #[⟨3, .guard⟩], guard := some (3, true) }) hH.out ?_
      try simp only [Act.put, sA, sB, sC]
      refine tks (i := 5) (oi := { dst := some 74, op := .load 3 (.tmp 73), type := 3, pos := "ref.go:83", after := #[⟨4, .data⟩, ⟨3, .guard⟩], guard := some (3, true) }) hH.out ?_
      try simp only [Act.put, sA, sB, sC]
      refine tks (i := 6) (oi := { dst := some 75, op := .binOp .eql 3 (.tmp 74) (.const (Go.Value.int Go.IntKind.i64 1)) 3, type := 4, pos := "ref.go:83", after := #[⟨5, .data⟩, ⟨3, .guard⟩], guard := some (3, true) }) hH.out ?_
      try simp only [Act.put, sA, sB, sC]
      refine tks (i := 7) (oi := { dst := some 76, op := .move (.tmp 75), type := 4, pos := "ref.go:83", after := #[⟨6, .data⟩, ⟨3, .chain⟩, ⟨3, .guard⟩], guard := some (3, true) }) hH.out ?_
      try simp only [Act.put, sA, sB, sC]
      refine tks (i := 8) (oi := { dst := some 77, op := .fieldAddr 28 (.tmp 1) 4, type := 0, pos := "ref.go:83", after := #[⟨7, .guard⟩], guard := some (7, true) }) hH.out ?_
      try simp only [Act.put, sA, sB, sC]
      refine tks (i := 9) (oi := { dst := some 78, op := .load 22 (.tmp 77), type := 22, pos := "ref.go:83", after := #[⟨8, .data⟩, ⟨7, .guard⟩], guard := some (7, true) }) hH.out ?_
      try simp only [Act.put, sA, sB, sC]
      refine tks (i := 10) (oi := { dst := some 79, op := .binOp .eql 22 (.tmp 78) (.const (Go.Value.int Go.IntKind.u64 0)) 22, type := 4, pos := "ref.go:83", after := #[⟨9, .data⟩, ⟨7, .guard⟩], guard := some (7, true) }) hH.out ?_
      try simp only [Act.put, sA, sB, sC]
      refine tks (i := 11) (oi := { dst := some 80, op := .pick (.tmp 76) (.tmp 79) (.const (Go.Value.bool false)), type := 4, pos := "ref.go:83", after := #[⟨7, .data⟩, ⟨10, .data⟩, ⟨3, .guard⟩], guard := some (3, true) }) hH.out ?_
      try simp only [Act.put, sA, sB, sC]
      refine tks (i := 12) (oi := { dst := some 81, op := .move (.tmp 80), type := 4, pos := "ref.go:83", after := #[⟨11, .data⟩, ⟨7, .chain⟩, ⟨3, .guard⟩], guard := some (3, true) }) hH.out ?_
      try simp only [Act.put, sA, sB, sC]
      refine tks (i := 13) (oi := { dst := some 82, op := .fieldAddr 28 (.tmp 1) 5, type := 0, pos := "ref.go:83", after := #[⟨12, .guard⟩], guard := some (12, false) }) hH.out ?_
      try simp only [Act.put, sA, sB, sC]
      refine tks (i := 14) (oi := { dst := some 83, op := .load 3 (.tmp 82), type := 3, pos := "ref.go:83", after := #[⟨13, .data⟩, ⟨12, .guard⟩], guard := some (12, false) }) hH.out ?_
      try simp only [Act.put, sA, sB, sC]
      refine tks (i := 15) (oi := { dst := some 84, op := .binOp .neq 3 (.tmp 83) (.const (Go.Value.int Go.IntKind.i64 1)) 3, type := 4, pos := "ref.go:83", after := #[⟨14, .data⟩, ⟨12, .guard⟩], guard := some (12, false) }) hH.out ?_
      try simp only [Act.put, sA, sB, sC]
      refine tks (i := 16) (oi := { dst := some 85, op := .move (.tmp 84), type := 4, pos := "ref.go:83", after := #[⟨15, .data⟩, ⟨12, .chain⟩, ⟨12, .guard⟩], guard := some (12, false) }) hH.out ?_
      try simp only [Act.put, sA, sB, sC]
      refine tks (i := 17) (oi := { dst := some 86, op := .fieldAddr 28 (.tmp 1) 4, type := 0, pos := "ref.go:83", after := #[⟨16, .guard⟩], guard := some (16, true) }) hH.out ?_
      try simp only [Act.put, sA, sB, sC]
      refine tks (i := 18) (oi := { dst := some 87, op := .load 22 (.tmp 86), type := 22, pos := "ref.go:83", after := #[⟨17, .data⟩, ⟨16, .guard⟩], guard := some (16, true) }) hH.out ?_
      try simp only [Act.put, sA, sB, sC]
      refine tks (i := 19) (oi := { dst := some 88, op := .call ⟨.value (.func 33), #[.tmp 87], #[22]⟩, type := 4, pos := "ref.go:83", after := #[⟨18, .data⟩, ⟨16, .chain⟩, ⟨16, .guard⟩], guard := some (16, true) }) hH.out ?_
      try simp only [Act.put, sA, sB, sC]
      refine tks (i := 20) (oi := { dst := some 89, op := .pick (.tmp 85) (.tmp 88) (.const (Go.Value.bool false)), type := 4, pos := "ref.go:83", after := #[⟨16, .data⟩, ⟨19, .data⟩, ⟨12, .guard⟩], guard := some (12, false) }) hH.out ?_
      try simp only [Act.put, sA, sB, sC]
      refine tks (i := 21) (oi := { dst := some 90, op := .pick (.tmp 81) (.const (Go.Value.bool true)) (.tmp 89), type := 4, pos := "ref.go:83", after := #[⟨12, .data⟩, ⟨20, .data⟩, ⟨3, .guard⟩], guard := some (3, true) }) hH.out ?_
      try simp only [Act.put, sA, sB, sC]
      refine tk (i := 22) (oi := ⟨some 91, .pick (.tmp 72) (.tmp 90) (.const (Go.Value.bool false)), 4, "ref.go:83", #[⟨3, .data⟩, ⟨21, .data⟩], none⟩) hH.out (by rintro w ⟨sb, ⟨⟨s0, s1, s2, s3, s4, s5, s6⟩, ⟨s7, s8, s9, s10⟩, ⟨s11, s12, s13, s14, s15, s16, s17⟩⟩⟩; go_simp <;> with_reducible rfl) ?_
      simp only [Act.put, sA, sB, sC]
      refine tk (i := 23) (oi := ⟨some 92, .move (.tmp 91), 4, "ref.go:83", #[⟨22, .data⟩, ⟨19, .chain⟩], none⟩) hH.out (by rintro w ⟨sb, ⟨⟨s0, s1, s2, s3, s4, s5, s6⟩, ⟨s7, s8, s9, s10⟩, ⟨s11, s12, s13, s14, s15, s16, s17⟩⟩⟩; go_simp <;> with_reducible rfl) ?_
      simp only [Act.put, sA, sB, sC]
      refine tks (i := 24) (oi := { dst := some 93, op := .load 28 (.tmp 1), type := 28, pos := "ref.go:83", after := #[⟨23, .guard⟩], guard := some (23, true) }) hH.out ?_
      try simp only [Act.put, sA, sB, sC]
      refine tks (i := 25) (oi := { dst := some 94, op := .fieldAddr 28 (.tmp 1) 5, type := 0, pos := "ref.go:83", after := #[⟨23, .guard⟩], guard := some (23, true) }) hH.out ?_
      try simp only [Act.put, sA, sB, sC]
      refine tks (i := 26) (oi := { dst := some 95, op := .load 3 (.tmp 94), type := 3, pos := "ref.go:83", after := #[⟨25, .data⟩, ⟨23, .guard⟩], guard := some (23, true) }) hH.out ?_
      try simp only [Act.put, sA, sB, sC]
      refine tks (i := 27) (oi := { dst := some 96, op := .call ⟨.value (.func 35), #[.const (Go.Value.bool false), .tmp 95], #[4, 3]⟩, type := 9, pos := "ref.go:83", after := #[⟨26, .data⟩, ⟨23, .chain⟩, ⟨23, .guard⟩], guard := some (23, true) }) hH.out ?_
      try simp only [Act.put, sA, sB, sC]
      refine tks (i := 28) (oi := { dst := some 97, op := .call ⟨.value (.func 34), #[.tmp 93, .tmp 96], #[28, 9]⟩, type := 4, pos := "ref.go:83", after := #[⟨24, .data⟩, ⟨27, .data⟩, ⟨27, .chain⟩, ⟨23, .guard⟩], guard := some (23, true) }) hH.out ?_
      try simp only [Act.put, sA, sB, sC]
      refine tk (i := 29) (oi := ⟨some 98, .pick (.tmp 92) (.tmp 97) (.const (Go.Value.bool false)), 4, "ref.go:83", #[⟨23, .data⟩, ⟨28, .data⟩], none⟩) hH.out (by rintro w ⟨sb, ⟨⟨s0, s1, s2, s3, s4, s5, s6⟩, ⟨s7, s8, s9, s10⟩, ⟨s11, s12, s13, s14, s15, s16, s17⟩⟩⟩; go_simp <;> with_reducible rfl) ?_
      simp only [Act.put, sA, sB, sC]
      refine tk (i := 30) (oi := ⟨some 2, .assign (.tmp 98), 4, "ref.go:83", #[⟨29, .data⟩, ⟨28, .chain⟩, ⟨0, .phase⟩, ⟨1, .phase⟩, ⟨2, .phase⟩, ⟨3, .phase⟩, ⟨4, .phase⟩, ⟨5, .phase⟩, ⟨6, .phase⟩, ⟨7, .phase⟩, ⟨8, .phase⟩, ⟨9, .phase⟩, ⟨10, .phase⟩, ⟨11, .phase⟩, ⟨12, .phase⟩, ⟨13, .phase⟩, ⟨14, .phase⟩, ⟨15, .phase⟩, ⟨16, .phase⟩, ⟨17, .phase⟩, ⟨18, .phase⟩, ⟨19, .phase⟩, ⟨20, .phase⟩, ⟨21, .phase⟩, ⟨22, .phase⟩, ⟨23, .phase⟩, ⟨24, .phase⟩, ⟨25, .phase⟩, ⟨26, .phase⟩, ⟨27, .phase⟩, ⟨28, .phase⟩, ⟨29, .phase⟩], none⟩) hH.out (by rintro w ⟨sb, ⟨⟨s0, s1, s2, s3, s4, s5, s6⟩, ⟨s7, s8, s9, s10⟩, ⟨s11, s12, s13, s14, s15, s16, s17⟩⟩⟩; go_simp <;> with_reducible rfl) ?_
      simp only [Act.put, sA, sB, sC]
      refine wpAnyH_done (by kernel_rfl) ?_ _
      go_wp2_with fail
      go_ret
      exact ⟨by first | rfl | simp, HA7.out⟩
  have t1b : (m.ty == 1) = false := by rw [beq_eq_false_iff_ne]; exact t1
  have HT1 := Lib.hid t1
  clear t1
  go_upto_region 9 with fail
  go_cut [112] (fun t wx => t = .bool Cc ∧ w1 = wx)
  case first =>
    as_aux_lemma =>
    cases r1
    all_goals
      go_wp2_with (first
        | (go_at_call 33; refine (H1.out _).mono ?_; rintro x wx ⟨rfl, rfl⟩)
        | fail)
      all_goals
        go_meet
        exact ⟨by refine congrArg Value.bool ?_; rw [ECc.out]; first | rfl | (rw [Bool.eq_iff_iff]; simp; done) | (rw [Bool.eq_iff_iff]; simp; omega), rfl⟩
  case rest =>
  obtain ⟨rfl, rfl⟩ := hcut
  have HBE := Lib.hid (show B = if ¬ (rf m 3 = true ∧ rf m 1 = true) then false else if m.er = 0 then juB m (tolT m.kd) else juB m [] by rw [HB.out, isM_two HGD.out HG4.out HT1.out])
  cases Cc with
  | true =>
    have e : B = false := by
      rw [HBE.out]
      refine if_pos fun h => ?_
      have := ECc.out
      have h3 : 0 ≤ m.er ∧ m.er ≤ 25 := of_decide_eq_true h.1
      rw [R1.out, h.2, decide_eq_true h3.1, decide_eq_true h3.2] at this
      cases this
    subst e
    go_wp2_with fail
    go_ret
    exact ⟨rfl, HA1.out⟩
  | false =>
  have HG5 := Lib.hid (show rf m 3 = true ∧ rf m 1 = true by
    have := ECc.out
    have h2 : (0 ≤ m.er ∧ m.er ≤ 25) ∧ r1 = true := by simpa [and_assoc] using this
    exact ⟨decide_eq_true h2.1, by rw [← R1.out]; exact h2.2⟩)
  by_cases e0 : m.er = 0
  · have e0n : (m.er != 0) = false := by rw [e0]; rfl
    have HX := Lib.hid (show ∀ w', Adv Nul w Nul w' → Calls Try.prog 34 #[.agg C, .string (txt (tolT m.kd))] w' fun e w'' => e = .returned (.bool (juB m (tolT m.kd))) ∧ Adv Nul w' Nul w'' from fun w' a => HJU.out (tolT m.kd) (tolT_ok _) w' a)
    obtain ⟨j, hj⟩ : ∃ j, j = juB m (tolT m.kd) := ⟨_, rfl⟩
    have HBJ := Lib.hid (show B = j by rw [HBE.out, if_neg (fun x => x HG5.out), if_pos e0, hj])
    rw [← hj] at HX
    obtain ⟨T, hT⟩ : ∃ T, T = txt (tolT m.kd) := ⟨_, rfl⟩
    rw [← hT] at HX HTX
    clear hj hT e0
    go_upto_region 13 with fail
    have HA7 := Lib.hid HA1.out.drew
    have HB7 := Lib.hid (show Blk w1.drew z 28 C from HB1.out)
    have K7 := Lib.hid (show Blk w1.drew z 28 C ∧ C18 w1.drew z m (.slice A N c) from ⟨HB7.out, HC.out _ _ HB7.out⟩)
    clear s0 s1 s2 s3 s4 s5 s6 s7 s8 s9 s10 s11 s12 s13 s14 s15 s16 s17
    refine rstart (S := (fun w' => Blk w' z 28 C ∧ C18 w' z m (.slice A N c))) (by first | with_reducible exact K9.out | with_reducible exact K8.out | with_reducible exact K7.out | with_reducible exact K1.out) (fun hH => ?_)
    refine wpAnyH_take (i := 0) (oi := ⟨some 118, .load 28 (.tmp 1), 28, "ref.go:91", #[], none⟩) (v := .agg C) rfl (by kernel_rfl) (by kernel_rfl) (by kernel_rfl) (fun _ _ _ h => h) (kyl_load rfl (.tmp 1) rfl z rfl (fun _ h => h.1) Try.underlying28 rfl sizeM HCS.out) hH.out ?_
    simp only [Act.put, sA, sB, sC]
    refine tk (i := 1) (oi := ⟨some 119, .fieldAddr 28 (.tmp 1) 5, 0, "ref.go:91", #[], none⟩) hH.out (by rintro w ⟨sb, ⟨⟨s0, s1, s2, s3, s4, s5, s6⟩, ⟨s7, s8, s9, s10⟩, ⟨s11, s12, s13, s14, s15, s16, s17⟩⟩⟩; go_simp <;> with_reducible rfl) ?_
    simp only [Act.put, sA, sB, sC]
    refine tk (i := 2) (oi := ⟨some 120, .load 3 (.tmp 119), 3, "ref.go:91", #[⟨1, .data⟩], none⟩) hH.out (by rintro w ⟨sb, ⟨⟨s0, s1, s2, s3, s4, s5, s6⟩, ⟨s7, s8, s9, s10⟩, ⟨s11, s12, s13, s14, s15, s16, s17⟩⟩⟩; go_simp <;> with_reducible rfl) ?_
    simp only [Act.put, sA, sB, sC]
    refine rdy (i := 3) (oi := ⟨some 121, .call ⟨.value (.func 35), #[.const (Go.Value.bool true), .tmp 120], #[4, 3]⟩, 9, "ref.go:91", #[⟨2, .data⟩], none⟩) (fun K hK => ?_)
    go_simp
    refine (HTX.out _).mono ?_
    rintro x w8 ⟨rfl, a8⟩
    have HA8 := Lib.hid (HA7.out.trans a8)
    have HB8 := Lib.hid (HB7.out.over a8)
    have K8 := Lib.hid (show Blk w8 z 28 C ∧ C18 w8 z m (.slice A N c) from ⟨HB8.out, HC.out _ _ HB8.out⟩)
    clear a8
    go_wp2_with fail
    refine hK.out _ _ (by first | with_reducible exact K9.out | with_reducible exact K8.out | with_reducible exact K7.out | with_reducible exact K1.out) (fun hHeld => ?_)
    replace hH := Lib.hid hHeld
    clear hK K hHeld
    try simp only [Act.put, sA, sB, sC]
    refine rdy (i := 4) (oi := ⟨some 122, .call ⟨.value (.func 34), #[.tmp 118, .tmp 121], #[28, 9]⟩, 4, "ref.go:91", #[⟨0, .data⟩, ⟨3, .data⟩, ⟨3, .chain⟩], none⟩) (fun K hK => ?_)
    go_simp
    refine (HX.out _ HA8.out).mono ?_
    rintro x w9 ⟨rfl, a9⟩
    have HA9 := Lib.hid (HA8.out.trans a9)
    have HB9 := Lib.hid (HB8.out.over a9)
    have K9 := Lib.hid (show Blk w9 z 28 C ∧ C18 w9 z m (.slice A N c) from ⟨HB9.out, HC.out _ _ HB9.out⟩)
    clear a9
    go_wp2_with fail
    refine hK.out _ _ (by first | with_reducible exact K9.out | with_reducible exact K8.out | with_reducible exact K7.out | with_reducible exact K1.out) (fun hHeld => ?_)
    replace hH := Lib.hid hHeld
    clear hK K hHeld
    try simp only [Act.put, sA, sB, sC]
    refine tk (i := 5) (oi := ⟨some 2, .assign (.tmp 122), 4, "ref.go:91", #[⟨4, .data⟩, ⟨4, .chain⟩, ⟨0, .phase⟩, ⟨1, .phase⟩, ⟨2, .phase⟩, ⟨3, .phase⟩, ⟨4, .phase⟩], none⟩) hH.out (by rintro w ⟨sb, ⟨⟨s0, s1, s2, s3, s4, s5, s6⟩, ⟨s7, s8, s9, s10⟩, ⟨s11, s12, s13, s14, s15, s16, s17⟩⟩⟩; go_simp <;> with_reducible rfl) ?_
    simp only [Act.put, sA, sB, sC]
    refine wpAnyH_done (by kernel_rfl) ?_ _
    go_wp2_with fail
    go_ret
    exact ⟨by rw [HBJ.out]; rfl, HA9.out⟩
  · have e0n : (m.er != 0) = true := by rw [bne_iff_ne]; exact e0
    have HX := Lib.hid (show ∀ w', Adv Nul w Nul w' → Calls Try.prog 34 #[.agg C, .string ⟨#[]⟩] w' fun e w'' => e = .returned (.bool (juB m [])) ∧ Adv Nul w' Nul w'' from fun w' a => HJU.out [] (by decide) w' a)
    obtain ⟨j, hj⟩ : ∃ j, j = juB m [] := ⟨_, rfl⟩
    obtain rfl : B = j := by rw [HBE.out, if_neg (fun x => x HG5.out), if_neg e0, hj]
    rw [← hj] at HX
    clear hj e0
    go_wp2_with (first
      | (refine kop_load (t := 28) rfl _ rfl z HB1.out rfl Try.underlying28 rfl sizeM HCS.out ?_)
      | (go_at_call 34; refine (HX.out _ HA1.out).mono ?_; rintro x wx ⟨rfl, ax⟩; have HAX := Lib.hid (HA1.out.trans ax); clear ax)
      | fail)
    go_ret
    exact ⟨rfl, HAX.out⟩
end Go.Proofs.Ytpgeebhepegpaaa
