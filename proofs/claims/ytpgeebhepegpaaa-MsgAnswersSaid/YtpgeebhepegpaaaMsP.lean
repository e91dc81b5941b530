/- MsgAnswers, walked. -/
import Derived.Test.YtpgeebhepegpaaaMsO
import Derived.Test.YtpgeebhepegpaaaMsH
namespace Go.Proofs.Ytpgeebhepegpaaa
open Go.ChangeShapes Go.WideShapes Go.ChangeAt Go.RowKit

set_option maxRecDepth 3000 in
theorem within25 (e : Int) (w : World) : Calls Try.prog 19 #[.int .i64 e, .int .i64 1, .int .i64 25] w fun x w' => ∃ r : Int, x = .returned (.int .i64 r) ∧ 1 ≤ r ∧ r ≤ 25 ∧ w = w' := by
  by_cases h1 : e < 1
  · go_enter Try.func19, Try.ntmps19
    go_wp2_with fail
    all_goals
      go_ret
      exact ⟨_, rfl, by omega, by omega, rfl⟩
  · by_cases h2 : 25 < e
    · have h1' : 1 ≤ e := by omega
      go_enter Try.func19, Try.ntmps19
      go_wp2_with fail
      all_goals
        go_ret
        exact ⟨_, rfl, by omega, by omega, rfl⟩
    · have h1' : 1 ≤ e := by omega
      have h2' : e ≤ 25 := by omega
      go_enter Try.func19, Try.ntmps19
      go_wp2_with fail
      all_goals
        go_ret
        exact ⟨_, rfl, by omega, by omega, rfl⟩
/-- an answer with an error, its boot not 0 -/
def repM (m : Ms) (e : Int) : Ms := { ansM m with er := e, bo := if m.bo = 0 then 1 else m.bo }
set_option maxRecDepth 3000 in
theorem repM_ok {m : Ms} {e : Int} (h : isM m = true) (h1 : m.ty = 1) (e1 : 1 ≤ e) (e2 : e ≤ 25) : isM (repM m e) = true := by
  have hg : 0 ≤ m.cl ∧ m.cl < 8 ∧ ctP m.ss := by
    by_cases x : 0 ≤ m.cl ∧ m.cl < 8 ∧ ctP m.ss
    · exact x
    · rw [isM_bad x] at h; cases h
  have h4 : rf m 0 = true ∧ rf m 2 = true ∧ 1 ≤ m.ty ∧ m.ty ≤ 2 := by
    by_cases x : rf m 0 = true ∧ rf m 2 = true ∧ 1 ≤ m.ty ∧ m.ty ≤ 2
    · exact x
    · rw [isM_no hg (by omega) x] at h; cases h
  rw [isM_one hg h4 h1, Bool.and_eq_true, Bool.and_eq_true] at h
  have hb : ctP (if m.bo = 0 then 1 else m.bo) := by
    by_cases b0 : m.bo = 0
    · rw [if_pos b0]; decide
    · rw [if_neg b0]
      have := h.1.2
      by_cases k1 : m.kd = 1
      · rw [if_pos k1] at this
        exact absurd (of_decide_eq_true this) b0
      · rw [if_neg k1] at this
        exact of_decide_eq_true this
  rw [isM_two (m := repM m e) hg ⟨h4.1, h4.2.1, (show (1 : Int) ≤ 2 by decide), (show (2 : Int) ≤ 2 by decide)⟩ (show ¬ (2 : Int) = 1 by decide), if_neg (fun x => x ⟨decide_eq_true (show 0 ≤ e ∧ e ≤ 25 from ⟨by omega, e2⟩), decide_eq_true hb⟩), if_neg (show ¬ (repM m e).er = 0 from (show ¬ e = 0 by omega))]
  simp [juB, zf, repM, ansM, ms0]
  rfl
set_option maxRecDepth 3000 in
theorem repM_wf {m : Ms} (h : WfM m) (e : Int) : WfM (repM m e) := ⟨h.ss, h.sq, by show (if m.bo = 0 then 1 else m.bo) < _; have := h.bo; split <;> omega, (show (0 : Nat) < 18446744073709551616 by decide), (show (0 : Nat) ≤ 1000 by decide), (show (0 : Nat) ≤ 1000 by decide), (show (0 : Nat) ≤ 1000 by decide), (show (0 : Nat) ≤ 1000 by decide)⟩
set_option maxRecDepth 3000 in
theorem ans_self (m : Ms) (w : World) : Calls Try.prog 17 #[.agg (mc (ansM m) nilV), .agg (mc (ansM m) nilV)] w fun e w' => e = .returned (.bool true) ∧ Adv Nul w Nul w' := by
  rw [← sameB_self (ansM m)]
  exact qsame16_any (ansM m) (ansM m) nilV nilV w (nil_en w) (nil_en w)
set_option maxRecDepth 3000 in
set_option maxHeartbeats 6400000 in
theorem answers16_walk (w : World) (v0 : Value) (h0 : MArg w v0) (e : Int) (_ : (Lit.int .i64 e).wf = true) : Calls Try.prog 5 #[v0, .int .i64 e] w fun e w' => e = .returned (.bool true) ∧ Below w.heap.size w w' := by
  obtain ⟨m, sv, rfl, hm, hE⟩ := h0
  obtain ⟨sm, hs⟩ : ∃ s, s = shM m := ⟨_, rfl⟩
  have hw : WfM sm := by rw [hs]; exact hm.short
  have HS1 := Lib.hid (fun (w' : World) (a : Adv Nul w Nul w') => short_s hs sv hm w' (hE.step a))
  have HCK := Lib.hid (fun (v : Value) (w' : World) (h : EnR7 w' v sm.en) => check16_any sm v hw w' h)
  have HANS := Lib.hid (fun (v : Value) (w' : World) => answer_any sm v w')
  have HSA := Lib.hid (fun (w' : World) => ans_self sm w')
  have HCR := Lib.hid (fun (hi : isM sm = true) (h1 : sm.ty = 1) (x : Int) (x1 : 1 ≤ x) (x2 : x ≤ 25) (w' : World) => show Calls Try.prog 12 #[.agg (mc (repM sm x) nilV)] w' fun e w'' => e = .returned (.int .i64 0) ∧ Adv Nul w' Nul w'' by
    have := check16_any (repM sm x) nilV (repM_wf hw x) w' (nil_en w')
    rw [chk_is, if_pos (repM_ok hi h1 x1 x2)] at this
    exact this)
  have HBA := Lib.hid (built_ansM sm)
  have HLV := Lib.hid (fun w => lives16_any w)
  have HI := Lib.hid infoM
  have HWI := Lib.hid (fun w => within25 e w)
  obtain ⟨C0, hC0⟩ : ∃ C, C = mc m sv := ⟨_, rfl⟩
  have HC0S := Lib.hid (show C0.size = 18 by rw [hC0]; rfl)
  obtain ⟨Z, hZ⟩ : ∃ C, C = mc ms0 nilV := ⟨_, rfl⟩
  have HZS := Lib.hid (show Z.size = 18 by rw [hZ]; rfl)
  obtain ⟨D, hD⟩ : ∃ C, C = mc (ansM sm) nilV := ⟨_, rfl⟩
  have HD := Lib.hid hD
  have HDS := Lib.hid (show D.size = 18 by rw [hD]; rfl)
  have HDO := Lib.hid (show D.all (·.oneCell') = true by rw [hD]; exact mc_one _ _ _ _)
  rw [← hZ] at HI
  rw [← hD] at HBA HANS HSA
  rw [← hC0] at HS1 ⊢
  clear hC0 hZ hD hm hw hE hs
  go_enter Try.func5, Try.ntmps5
  go_upto_region 3 with (first
    | (refine kop_box rfl _ rfl rfl ?_; intro z w1 hz hb ha; have HA1 := Lib.hid ((Adv.refl Nul w).trans ha); have HZ1 := Lib.hid hz; have HB1 := Lib.hid hb; clear hz hb ha)
    | (refine kop_load (t := 28) rfl _ rfl z HB1.out rfl Try.underlying28 rfl sizeM HC0S.out ?_)
    | (go_at_call 11; refine (HS1.out _ HA1.out).mono ?_; clear HS1; rintro x w2 ⟨A1, n1, c1, rfl, he⟩; have HE2 := Lib.hid he; have HB2 := Lib.hid (HB1.out.over he.adv); have HA2 := Lib.hid (HA1.out.trans he.adv); obtain ⟨C1, hC1⟩ : ∃ C, C = mc sm (.slice A1 n1 c1) := ⟨_, rfl⟩; rw [← hC1]; have HC1 := Lib.hid hC1; have HC1S := Lib.hid (show C1.size = 18 by rw [hC1]; rfl); have HC1O := Lib.hid (show C1.all (·.oneCell') = true by rw [hC1]; exact mc_one _ _ _ _); clear he hC1)
    | (refine kop_store rfl _ _ rfl z HB2.out rfl rfl sizeM HC1S.out HC0S.out HC1O.out ?_; intro w3 hb ha; have HB3 := Lib.hid hb; have HA3 := Lib.hid (HA2.out.fresh HZ1.out ha); have HE3 := Lib.hid (HE2.out.putz HA1.out HZ1.out HB1.out.lt ha); clear hb ha HB1 HB2)
    | (refine kop_load (t := 28) rfl _ rfl z HB3.out rfl Try.underlying28 rfl sizeM HC1S.out ?_)
    | (rw [HC1.out]; go_at_call 18; refine (HANS.out _ _).mono ?_; clear HANS; rintro x w4 ⟨rfl, a4⟩; have HA4 := Lib.hid (HA3.out.trans a4); have HB4 := Lib.hid (HB3.out.over a4); have HE4 := Lib.hid (HE3.out.step a4); clear a4)
    | (refine kop_alloc rfl rfl HI.out ?_; intro u w5 hz hb ha; have HA5 := Lib.hid (HA4.out.trans ha); have HU5 := Lib.hid (Nat.le_trans HA4.out.size hz); have HBU := Lib.hid hb; have HB5 := Lib.hid (HB4.out.over ha); have HNE := Lib.hid (show z ≠ u from fun e => by have := HB4.out.lt; omega); have HE5 := Lib.hid (HE4.out.step ha); have HNX := Lib.hid (show ∀ j, Value.ownBlock (.slice A1 n1 c1) = some j → j ≠ u from fun j hj e => by obtain ⟨F, h1, _⟩ := HE4.out.ex; have := h1.bd j (h1.inF j hj); omega); clear hz hb ha)
    | (refine kop_store rfl _ _ rfl u HBU.out rfl rfl sizeM HDS.out HZS.out HDO.out ?_; intro w6 hb ha; have HY6 := Lib.hid hb; have HB6 := Lib.hid (HB5.out.far1 ha HNE.out); have HA6 := Lib.hid (HA5.out.fresh HU5.out ha); have HE6 := Lib.hid (HE5.out.far1 HU5.out HNX.out ha); clear hb ha HBU)
    | fail)
  have HC1B := Lib.hid (show ∀ w', Blk w' z 28 C1 → C18 w' z sm (.slice A1 n1 c1) from fun w' h => by rw [HC1.out] at h; exact h.c18)
  obtain ⟨s0, s1, s2, s3, s4, s5, s6⟩ := (HC1B.out _ HB6.out).a
  clear HC0S HA1 HE2 HE3 HB4 HA2 HA3 HA4 HA5 HB5 HE4 HE5
  go_upto_region 6 with (first
    | (refine kop_built rfl rfl (by kernel_rfl) HBA.out ?_)
    | (refine kop_alloc rfl rfl HI.out ?_; intro y w7 hz hb ha; have HA7 := Lib.hid (HA6.out.trans ha); have HY7 := Lib.hid (Nat.le_trans HA6.out.size hz); have HBY := Lib.hid hb; have HB7 := Lib.hid (HB6.out.over ha); have HU7 := Lib.hid (HY6.out.over ha); have HNZ := Lib.hid (show z ≠ y from fun e => by have := HB6.out.lt; omega); have HNY := Lib.hid (show u ≠ y from fun e => by have := HY6.out.lt; omega); have HE7 := Lib.hid (HE6.out.step ha); have HNW := Lib.hid (show ∀ j, Value.ownBlock (.slice A1 n1 c1) = some j → j ≠ y from fun j hj e => by obtain ⟨F, h1, _⟩ := HE6.out.ex; have := h1.bd j (h1.inF j hj); omega); clear hz hb ha s0 s1 s2 s3 s4 s5 s6 HB6)
    | (refine kop_store rfl _ _ rfl y HBY.out rfl rfl sizeM HDS.out HZS.out HDO.out ?_; intro w8 hb ha; have HW8 := Lib.hid hb; have HB8 := Lib.hid (HB7.out.far1 ha HNZ.out); have HU8 := Lib.hid (HU7.out.far1 ha HNY.out); have HA8 := Lib.hid (HA7.out.fresh HY7.out ha); have HE8 := Lib.hid (HE7.out.far1 HY7.out HNW.out ha); clear hb ha HBY)
    | (refine kop_load (t := 28) rfl _ rfl u HU8.out rfl Try.underlying28 rfl sizeM HDS.out ?_)
    | (refine kop_load (t := 28) rfl _ rfl y HW8.out rfl Try.underlying28 rfl sizeM HDS.out ?_)
    | (go_at_call 17; refine (HSA.out _).mono ?_; rintro x w9 ⟨rfl, a9⟩; have HA9 := Lib.hid (HA8.out.trans a9); have HB9 := Lib.hid (HB8.out.over a9); have HU9 := Lib.hid (HU8.out.over a9); have HE9 := Lib.hid (HE8.out.step a9); clear a9)
    | fail)
  have HDB := Lib.hid (show ∀ w', Blk w' u 28 D → C18 w' u (ansM sm) nilV from fun w' h => by rw [HD.out] at h; exact h.c18)
  have d6 : w9.cell? ⟨u, 6, none⟩ = some (.int .i64 0) := (HDB.out _ HU9.out).a.2.2.2.2.2.2
  have g6 := HU9.out.frozen 6
  go_upto_region 8 with (first
    | (go_at_call 19; refine (HWI.out _).mono ?_; rintro x w10 ⟨r, rfl, r1, r2, rfl⟩; have HR := Lib.hid (show 1 ≤ r ∧ r ≤ 25 from ⟨r1, r2⟩); clear r1 r2)
    | fail)
  obtain ⟨V, hV⟩ : ∃ V, V = w9.setCell ⟨u, 6, none⟩ (.int .i64 r) := ⟨_, rfl⟩
  have HKV := Lib.hid (show Adv (One u) w9 (One u) V by rw [hV]; exact (Adv.refl (One u) w9).setCell (p := ⟨u, 6, none⟩) (.inl (show One u u from rfl)) _)
  have HUV := Lib.hid (show Blk V u 28 (mc { ansM sm with er := r } nilV) by rw [hV]; have h := HU9.out.set_ 6 (.int .i64 r); rw [HD.out] at h; exact h)
  rw [← hV]
  clear hV d6 g6
  have d4 : V.cell? ⟨u, 4, none⟩ = some (.int .u64 (sm.bo : Int)) := HUV.out.cell 4
  have g4 := HUV.out.frozen 4
  have HXD := Lib.hid (show ∀ w', Adv Nul w Nul w' → EnR7 w' (.slice A1 n1 c1) sm.en → Calls Try.prog 12 #[.agg C1] w' fun e w'' => e = .returned (.int .i64 (chkM sm)) ∧ Adv Nul w' Nul w'' from fun w' _ h => by rw [HC1.out]; exact HCK.out _ _ h)
  by_cases b0 : sm.bo = 0
  · have b0b : ((sm.bo : Int) == 0) = true := by rw [b0]; rfl
    have HRB := Lib.hid (show ({ { ansM sm with er := r } with bo := 1 } : Ms) = repM sm r by unfold repM; rw [if_pos b0])
    clear b0
    go_upto_region 10 with fail
    obtain ⟨W, hW⟩ : ∃ W, W = V.setCell ⟨u, 4, none⟩ (.int .u64 1) := ⟨_, rfl⟩
    have HKW := Lib.hid (show Adv (One u) V (One u) W by rw [hW]; exact (Adv.refl (One u) V).setCell (p := ⟨u, 4, none⟩) (.inl (show One u u from rfl)) _)
    obtain ⟨C3, hC3⟩ : ∃ C, C = mc (repM sm r) nilV := ⟨_, rfl⟩
    have HC3 := Lib.hid hC3
    have HC3S := Lib.hid (show C3.size = 18 by rw [hC3]; rfl)
    have HYW := Lib.hid (show Blk W u 28 C3 by rw [hW, hC3, ← HRB.out]; exact HUV.out.set_ 4 (.int .u64 1))
    rw [← hW]
    clear hW hC3 d4 g4 b0b
    have HBW := Lib.hid ((HB9.out.far1 HKV.out HNE.out).far1 HKW.out HNE.out)
    have HAW := Lib.hid ((HA9.out.fresh HU5.out HKV.out).fresh HU5.out HKW.out)
    have HEW := Lib.hid (((HE9.out.far1 HU5.out HNX.out HKV.out).far1 HU5.out HNX.out HKW.out).rd)
    obtain ⟨t0, t1, t2, t3, t4, t5, t6⟩ := (HC1B.out _ HBW.out).a
    clear t1 t2 t3 t4 t5 t6
    by_cases y1 : sm.ty = 1
    · have y1b : (sm.ty != 1) = false := by rw [y1]; rfl
      have Y1 := Lib.hid y1
      clear y1
      have HCA := Lib.hid (HXD.out _ HAW.out HEW.out)
      rw [chk_is] at HCA
      by_cases J : isM sm = true
      · have HCB := Lib.hid (fun w' => show Calls Try.prog 12 #[.agg C3] w' fun e w'' => e = .returned (.int .i64 0) ∧ Adv Nul w' Nul w'' by rw [HC3.out]; exact HCR.out J Y1.out r HR.out.1 HR.out.2 w')
        rw [if_pos J] at HCA
        clear J HXD HCK HCR HSA
        go_wp2_with (first
          | (refine kw_loadC (t := 28) _ rfl (by rfl) z HBW.out rfl Try.underlying28 rfl sizeM HC1S.out ?_)
          | (go_at_call 12; refine HCA.out.mono ?_; clear HCA; rintro x w11 ⟨rfl, a11⟩; have HA11 := Lib.hid (HAW.out.trans a11); have HY11 := Lib.hid (HYW.out.over a11); clear a11 HBW t0)
          | (refine kw_loadC (t := 28) _ rfl (by rfl) u HY11.out rfl Try.underlying28 rfl sizeM HC3S.out ?_)
          | (go_at_call 12; refine (HCB.out _).mono ?_; rintro x w12 ⟨rfl, a12⟩; have HA12 := Lib.hid (HA11.out.trans a12); clear a12)
          | (go_at_call 15; refine (HLV.out _).mono ?_; rintro x w13 ⟨rfl, a13⟩; have HA13 := Lib.hid (HA12.out.trans a13); clear a13)
          | fail)
        go_ret
        exact ⟨by first | rfl | simp, HA13.out.toBelow⟩
      · rw [if_neg J] at HCA
        clear J HXD HCK HCR HSA
        go_wp2_with (first
          | (refine kw_loadC (t := 28) _ rfl (by rfl) z HBW.out rfl Try.underlying28 rfl sizeM HC1S.out ?_)
          | (go_at_call 12; refine HCA.out.mono ?_; clear HCA; rintro x w11 ⟨rfl, a11⟩; have HA11 := Lib.hid (HAW.out.trans a11); clear a11 HBW t0)
          | (go_at_call 15; refine (HLV.out _).mono ?_; rintro x w13 ⟨rfl, a13⟩; have HA13 := Lib.hid (HA11.out.trans a13); clear a13)
          | fail)
        go_ret
        exact ⟨by first | rfl | simp, HA13.out.toBelow⟩
    · have y1b : (sm.ty != 1) = true := by rw [bne_iff_ne]; exact y1
      clear y1 HXD HCK HCR HSA
      go_wp2_with (first
        | (go_at_call 15; refine (HLV.out _).mono ?_; rintro x w13 ⟨rfl, a13⟩; have HA13 := Lib.hid (HAW.out.trans a13); clear a13)
        | fail)
      go_ret
      exact ⟨by first | rfl | simp, HA13.out.toBelow⟩
  · have b0b : ((sm.bo : Int) == 0) = false := by rw [beq_eq_false_iff_ne]; omega
    have HRB := Lib.hid (show ({ ansM sm with er := r } : Ms) = repM sm r by unfold repM; rw [if_neg b0]; rfl)
    clear b0
    go_upto_region 10 with fail
    obtain ⟨C3, hC3⟩ : ∃ C, C = mc (repM sm r) nilV := ⟨_, rfl⟩
    have HC3 := Lib.hid hC3
    have HC3S := Lib.hid (show C3.size = 18 by rw [hC3]; rfl)
    have HYW := Lib.hid (show Blk V u 28 C3 by rw [hC3, ← HRB.out]; exact HUV.out)
    clear hC3 d4 g4 b0b
    have HBW := Lib.hid (HB9.out.far1 HKV.out HNE.out)
    have HAW := Lib.hid (HA9.out.fresh HU5.out HKV.out)
    have HEW := Lib.hid ((HE9.out.far1 HU5.out HNX.out HKV.out).rd)
    obtain ⟨t0, t1, t2, t3, t4, t5, t6⟩ := (HC1B.out _ HBW.out).a
    clear t1 t2 t3 t4 t5 t6
    by_cases y1 : sm.ty = 1
    · have y1b : (sm.ty != 1) = false := by rw [y1]; rfl
      have Y1 := Lib.hid y1
      clear y1
      have HCA := Lib.hid (HXD.out _ HAW.out HEW.out)
      rw [chk_is] at HCA
      by_cases J : isM sm = true
      · have HCB := Lib.hid (fun w' => show Calls Try.prog 12 #[.agg C3] w' fun e w'' => e = .returned (.int .i64 0) ∧ Adv Nul w' Nul w'' by rw [HC3.out]; exact HCR.out J Y1.out r HR.out.1 HR.out.2 w')
        rw [if_pos J] at HCA
        clear J HXD HCK HCR HSA
        go_wp2_with (first
          | (refine kw_loadC (t := 28) _ rfl (by rfl) z HBW.out rfl Try.underlying28 rfl sizeM HC1S.out ?_)
          | (go_at_call 12; refine HCA.out.mono ?_; clear HCA; rintro x w11 ⟨rfl, a11⟩; have HA11 := Lib.hid (HAW.out.trans a11); have HY11 := Lib.hid (HYW.out.over a11); clear a11 HBW t0)
          | (refine kw_loadC (t := 28) _ rfl (by rfl) u HY11.out rfl Try.underlying28 rfl sizeM HC3S.out ?_)
          | (go_at_call 12; refine (HCB.out _).mono ?_; rintro x w12 ⟨rfl, a12⟩; have HA12 := Lib.hid (HA11.out.trans a12); clear a12)
          | (go_at_call 15; refine (HLV.out _).mono ?_; rintro x w13 ⟨rfl, a13⟩; have HA13 := Lib.hid (HA12.out.trans a13); clear a13)
          | fail)
        go_ret
        exact ⟨by first | rfl | simp, HA13.out.toBelow⟩
      · rw [if_neg J] at HCA
        clear J HXD HCK HCR HSA
        go_wp2_with (first
          | (refine kw_loadC (t := 28) _ rfl (by rfl) z HBW.out rfl Try.underlying28 rfl sizeM HC1S.out ?_)
          | (go_at_call 12; refine HCA.out.mono ?_; clear HCA; rintro x w11 ⟨rfl, a11⟩; have HA11 := Lib.hid (HAW.out.trans a11); clear a11 HBW t0)
          | (go_at_call 15; refine (HLV.out _).mono ?_; rintro x w13 ⟨rfl, a13⟩; have HA13 := Lib.hid (HA11.out.trans a13); clear a13)
          | fail)
        go_ret
        exact ⟨by first | rfl | simp, HA13.out.toBelow⟩
    · have y1b : (sm.ty != 1) = true := by rw [bne_iff_ne]; exact y1
      clear y1 HXD HCK HCR HSA
      go_wp2_with (first
        | (go_at_call 15; refine (HLV.out _).mono ?_; rintro x w13 ⟨rfl, a13⟩; have HA13 := Lib.hid (HAW.out.trans a13); clear a13)
        | fail)
      go_ret
      exact ⟨by first | rfl | simp, HA13.out.toBelow⟩
end Go.Proofs.Ytpgeebhepegpaaa
