/- MsgChecks, walked. -/
import Derived.Test.YtpgeebhepegpaaaMgMs
import Derived.Test.YtpgeebhepegpaaaMsF
namespace Go.Proofs.Ytpgeebhepegpaaa
open Go.ChangeShapes Go.WideShapes Go.ChangeAt Go.RowKit

set_option maxRecDepth 3000 in
theorem chk_is (m : Ms) : chkM m = if isM m = true then 0 else 4 := by unfold chkM; rw [ok_is]
set_option maxRecDepth 3000 in
theorem chk_eight (m : Ms) : chkM { m with cl := 8 } = 4 := by
  rw [chk_is, isM_bad (fun h => absurd h.2.1 (show ¬ (8 : Int) < 8 by decide))]
  rfl
set_option maxRecDepth 3000 in
theorem WfM.cl {m : Ms} (h : WfM m) (x : Int) : WfM { m with cl := x } := ⟨h.ss, h.sq, h.bo, h.ve, h.nm, h.ot, h.da, h.en⟩
set_option maxRecDepth 3000 in
/-- Short's contract, its answer's message a letter -/
theorem short_s {m sm : Ms} (hs : sm = shM m) (v : Value) (hm : WfAm m) (w : World) (hE : EnR7 w v m.en) : Calls Try.prog 11 #[.agg (mc m v)] w fun e w' => ∃ A n c, e = .returned (.agg (mc sm (.slice A n c))) ∧ EnO w sm.en (.slice A n c) w' := by
  refine (short16_any m v hm w hE).mono ?_
  rintro e w' ⟨u, rfl, h⟩
  obtain ⟨A, c, rfl⟩ := h.form
  exact ⟨A, _, c, by rw [hs], by rw [hs]; exact h⟩
set_option maxRecDepth 3000 in
theorem short_again {m sm : Ms} (hs : sm = shM m) (hw : WfM sm) (v : Value) (w : World) (hE : EnR7 w v sm.en) : Calls Try.prog 11 #[.agg (mc sm v)] w fun e w' => ∃ A n c, e = .returned (.agg (mc sm (.slice A n c))) ∧ EnO w sm.en (.slice A n c) w' :=
  short_s (by rw [hs, shM_twice]) v hw.any w hE
set_option maxRecDepth 3000 in
set_option maxHeartbeats 6400000 in
theorem checks16_walk (w : World) (v0 : Value) (h0 : MArg w v0) : Calls Try.prog 3 #[v0] w fun e w' => e = .returned (.bool true) ∧ Below w.heap.size w w' := by
  obtain ⟨m, sv, rfl, hm, hE⟩ := h0
  obtain ⟨sm, hs⟩ : ∃ s, s = shM m := ⟨_, rfl⟩
  have hw : WfM sm := by rw [hs]; exact hm.short
  have HS1 := Lib.hid (fun (w' : World) (a : Adv Nul w Nul w') => short_s hs sv hm w' (hE.step a))
  have HS2 := Lib.hid (fun v w' => short_again hs hw v w')
  have HCK := Lib.hid (fun (v : Value) (w' : World) (h : EnR7 w' v sm.en) => check16_any sm v hw w' h)
  have HC8 := Lib.hid (fun (v : Value) (w' : World) (h : EnR7 w' v sm.en) => show Calls Try.prog 12 #[.agg (mc { sm with cl := 8 } v)] w' fun e w'' => e = .returned (.int .i64 4) ∧ Adv Nul w' Nul w'' by rw [← chk_eight sm]; exact check16_any { sm with cl := 8 } v (hw.cl 8) w' h)
  have HIS := Lib.hid (fun (v : Value) (w' : World) (h : EnR7 w' v sm.en) => is16_any sm v hw w' h)
  have HLV := Lib.hid (fun w => lives16_any w)
  have HI := Lib.hid infoM
  obtain ⟨J, hJ⟩ : ∃ J, J = isM sm := ⟨_, rfl⟩
  obtain ⟨K, hK⟩ : ∃ K, K = chkM sm := ⟨_, rfl⟩
  have HK := Lib.hid (show K = if J = true then 0 else 4 by rw [hK, hJ]; exact chk_is sm)
  rw [← hJ] at HIS
  rw [← hK] at HCK
  obtain ⟨C0, hC0⟩ : ∃ C, C = mc m sv := ⟨_, rfl⟩
  have HC0S := Lib.hid (show C0.size = 18 by rw [hC0]; rfl)
  obtain ⟨Z, hZ⟩ : ∃ C, C = mc ms0 nilV := ⟨_, rfl⟩
  have HZS := Lib.hid (show Z.size = 18 by rw [hZ]; rfl)
  rw [← hZ] at HI
  rw [← hC0] at HS1 ⊢
  obtain ⟨L, hL⟩ : ∃ L, L = sm.en := ⟨_, rfl⟩
  rw [← hL] at HS1 HS2 HCK HC8 HIS
  clear hC0 hZ hJ hK hm hw hE hs hL
  go_enter Try.func3, Try.ntmps3
  go_upto_region 3 with (first
    | (refine kop_box rfl _ rfl rfl ?_; intro z w1 hz hb ha; have HA1 := Lib.hid ((Adv.refl Nul w).trans ha); have HZ1 := Lib.hid hz; have HB1 := Lib.hid hb; clear hz hb ha)
    | (refine kop_load (t := 28) rfl _ rfl z HB1.out rfl Try.underlying28 rfl sizeM HC0S.out ?_)
    | (go_at_call 11; refine (HS1.out _ HA1.out).mono ?_; clear HS1; rintro x w2 ⟨A1, n1, c1, rfl, he⟩; have HE2 := Lib.hid he; have HB2 := Lib.hid (HB1.out.over he.adv); have HA2 := Lib.hid (HA1.out.trans he.adv); obtain ⟨C1, hC1⟩ : ∃ C, C = mc sm (.slice A1 n1 c1) := ⟨_, rfl⟩; rw [← hC1]; have HC1 := Lib.hid hC1; have HC1S := Lib.hid (show C1.size = 18 by rw [hC1]; rfl); have HC1O := Lib.hid (show C1.all (·.oneCell') = true by rw [hC1]; exact mc_one _ _ _ _); clear he hC1)
    | (refine kop_store rfl _ _ rfl z HB2.out rfl rfl sizeM HC1S.out HC0S.out HC1O.out ?_; intro w3 hb ha; have HB3 := Lib.hid hb; have HA3 := Lib.hid (HA2.out.fresh HZ1.out ha); have HE3 := Lib.hid (HE2.out.putz HA1.out HZ1.out HB1.out.lt ha); clear hb ha HB1 HB2)
    | (refine kop_load (t := 28) rfl _ rfl z HB3.out rfl Try.underlying28 rfl sizeM HC1S.out ?_)
    | (rw [HC1.out]; go_at_call 11; refine (HS2.out _ _ HE3.out.rd).mono ?_; rintro x w4 ⟨A2, n2, c2, rfl, he⟩; have HE4 := Lib.hid he; have HX4 := Lib.hid (HE3.out.step he.adv); have HB4 := Lib.hid (HB3.out.over he.adv); have HA4 := Lib.hid (HA3.out.trans he.adv); obtain ⟨C2, hC2⟩ : ∃ C, C = mc sm (.slice A2 n2 c2) := ⟨_, rfl⟩; rw [← hC2]; have HC2 := Lib.hid hC2; have HC2S := Lib.hid (show C2.size = 18 by rw [hC2]; rfl); have HC2O := Lib.hid (show C2.all (·.oneCell') = true by rw [hC2]; exact mc_one _ _ _ _); clear he hC2 HS2)
    | (refine kop_alloc rfl rfl HI.out ?_; intro u w5 hz hb ha; have HA5 := Lib.hid (HA4.out.trans ha); have HU5 := Lib.hid (Nat.le_trans HA4.out.size hz); have HU3 := Lib.hid (Nat.le_trans HE4.out.adv.size hz); have HNU := Lib.hid (show ∀ j, Value.ownBlock (.slice A2 n2 c2) = some j → j ≠ u from fun j hj e => by obtain ⟨F, h1, _⟩ := HE4.out.ex; have := h1.bd j (h1.inF j hj); omega); have HBU := Lib.hid hb; have HB5 := Lib.hid (HB4.out.over ha); have HNE := Lib.hid (show z ≠ u from fun e => by have := HB4.out.lt; omega); have HE5 := Lib.hid (HE4.out.step ha); have HX5 := Lib.hid (HX4.out.step ha); have HNX := Lib.hid (show ∀ j, Value.ownBlock (.slice A1 n1 c1) = some j → j ≠ u from fun j hj e => by obtain ⟨F, h1, _⟩ := HX4.out.ex; have := h1.bd j (h1.inF j hj); omega); clear hz hb ha)
    | (refine kop_store rfl _ _ rfl u HBU.out rfl rfl sizeM HC2S.out HZS.out HC2O.out ?_; intro w6 hb ha; have HY6 := Lib.hid hb; have HB6 := Lib.hid (HB5.out.far1 ha HNE.out); have HA6 := Lib.hid (HA5.out.fresh HU5.out ha); have HE6 := Lib.hid (HE5.out.far1 HU3.out HNU.out ha); have HX6 := Lib.hid (HX5.out.far1 HU5.out HNX.out ha); clear hb ha HBU)
    | fail)
  clear HC0S HA1 HE2 HE3 HX4 HE4 HB4 HA2 HA3 HA4 HA5 HB5 HE5 HX5
  go_upto_region 4 with (first
    | (refine kop_load (t := 28) rfl _ rfl u HY6.out rfl Try.underlying28 rfl sizeM HC2S.out ?_)
    | (rw [HC2.out]; go_at_call 12; refine (HCK.out _ _ HE6.out.rd).mono ?_; clear HCK; rintro x w7 ⟨rfl, a7⟩; have HA7 := Lib.hid (HA6.out.trans a7); have HB7 := Lib.hid (HB6.out.over a7); have HY7 := Lib.hid (HY6.out.over a7); have HE7 := Lib.hid (HE6.out.step a7); have HX7 := Lib.hid (HX6.out.step a7); clear a7)
    | fail)
  try rw [← HC2.out]
  have q1 := HY7.out.cell 1
  rw [show C2[1]? = some (.int .i64 sm.cl) from by rw [HC2.out]; rfl] at q1
  have f1 := HY7.out.frozen 1
  go_upto_region 5 with fail
  obtain ⟨W, hW⟩ : ∃ W, W = w7.setCell ⟨u, 1, none⟩ (.int .i64 8) := ⟨_, rfl⟩
  have HKW := Lib.hid (show Adv (One u) w7 (One u) W by rw [hW]; exact (Adv.refl (One u) w7).setCell (p := ⟨u, 1, none⟩) (.inl (show One u u from rfl)) _)
  obtain ⟨C3, hC3⟩ : ∃ C, C = mc { sm with cl := 8 } (.slice A2 n2 c2) := ⟨_, rfl⟩
  have HC3 := Lib.hid hC3
  have HC3S := Lib.hid (show C3.size = 18 by rw [hC3]; rfl)
  have HYW := Lib.hid (show Blk W u 28 C3 by rw [hW, hC3]; have h := HY7.out.set_ 1 (.int .i64 8); rw [HC2.out] at h; exact h)
  have HBW := Lib.hid (HB7.out.far1 HKW.out HNE.out)
  have HAW := Lib.hid (HA7.out.fresh HU5.out HKW.out)
  have HEW := Lib.hid (HE7.out.far1 HU3.out HNU.out HKW.out)
  have HXW := Lib.hid (HX7.out.far1 HU5.out HNX.out HKW.out)
  have HIS1 := Lib.hid (fun w' (a : Adv Nul W Nul w') => show Calls Try.prog 13 #[.agg C1] w' fun e w'' => e = .returned (.bool J) ∧ Adv Nul w' Nul w'' by rw [HC1.out]; exact HIS.out _ _ (HXW.out.step a).rd)
  have HC81 := Lib.hid (fun w' (a : Adv Nul W Nul w') => show Calls Try.prog 12 #[.agg C3] w' fun e w'' => e = .returned (.int .i64 4) ∧ Adv Nul w' Nul w'' by rw [HC3.out]; exact HC8.out _ _ (HEW.out.step a).rd)
  have HSM := Lib.hid (fun w' (a : Adv Nul W Nul w') => show Calls Try.prog 14 #[.slice A1 n1 c1, .slice A2 n2 c2] w' fun e w'' => e = .returned (.bool true) ∧ Adv Nul w' Nul w'' from (same9_any _ _ L L w' (HXW.out.step a).rd (HEW.out.step a).rd).mono fun e w'' ⟨h1, j, h2⟩ => ⟨by rw [h1, decide_eq_true rfl], by rw [h2]; exact (Adv.refl _ _).drewN j⟩)
  have HS17 := Lib.hid (show ∀ w', Blk w' z 28 C1 → w'.cell? ⟨z, 17, none⟩ = some (.slice A1 n1 c1) from fun w' h => by rw [HC1.out] at h; exact h.cell 17)
  have HQ17 := Lib.hid (show ∀ w', Blk w' u 28 C3 → w'.cell? ⟨u, 17, none⟩ = some (.slice A2 n2 c2) from fun w' h => by rw [HC3.out] at h; exact h.cell 17)
  rw [← hW]
  clear hW hC3 q1 f1 HIS HC8
  cases J with
  | true =>
    obtain rfl : K = 0 := HK.out
    go_wp2_with (first
      | (refine kop_load (t := 28) rfl _ rfl z HBW.out rfl Try.underlying28 rfl sizeM HC1S.out ?_)
      | (go_at_call 13; refine (HIS1.out _ (Adv.refl _ _)).mono ?_; rintro x w8 ⟨rfl, a8⟩; have HA8 := Lib.hid a8; have HB8 := Lib.hid (HBW.out.over a8); clear a8 HBW)
      | (refine kw_loadC (t := 28) _ rfl (by rfl) z HB8.out rfl Try.underlying28 rfl sizeM HC1S.out ?_)
      | (go_at_call 13; refine (HIS1.out _ HA8.out).mono ?_; rintro x w9 ⟨rfl, a9⟩; have HA9 := Lib.hid (HA8.out.trans a9); have HB9 := Lib.hid (HB8.out.over a9); have HY9 := Lib.hid (HYW.out.over HA9.out); clear a9 HB8)
      | (refine kw_loadC (t := 28) _ rfl (by rfl) u HY9.out rfl Try.underlying28 rfl sizeM HC3S.out ?_)
      | (go_at_call 12; refine (HC81.out _ HA9.out).mono ?_; rintro x w10 ⟨rfl, a10⟩; have HA10 := Lib.hid (HA9.out.trans a10); have s17 := HS17.out _ (HB9.out.over a10); have q17 := HQ17.out _ (HYW.out.over HA10.out); clear a10)
      | (go_at_call 14; refine (HSM.out _ HA10.out).mono ?_; rintro x w11 ⟨rfl, a11⟩; have HA11 := Lib.hid (HA10.out.trans a11); clear a11 s17 q17)
      | (go_at_call 15; refine (HLV.out _).mono ?_; rintro x w12 ⟨rfl, a12⟩; have HA12 := Lib.hid (HAW.out.trans (HA11.out.trans a12)); clear a12)
      | fail)
    go_ret
    exact ⟨by first | rfl | simp, HA12.out.toBelow⟩
  | false =>
    obtain rfl : K = 4 := HK.out
    go_wp2_with (first
      | (refine kop_load (t := 28) rfl _ rfl z HBW.out rfl Try.underlying28 rfl sizeM HC1S.out ?_)
      | (go_at_call 13; refine (HIS1.out _ (Adv.refl _ _)).mono ?_; rintro x w8 ⟨rfl, a8⟩; have HA8 := Lib.hid a8; have HB8 := Lib.hid (HBW.out.over a8); clear a8 HBW)
      | (refine kw_loadC (t := 28) _ rfl (by rfl) z HB8.out rfl Try.underlying28 rfl sizeM HC1S.out ?_)
      | (go_at_call 13; refine (HIS1.out _ HA8.out).mono ?_; rintro x w9 ⟨rfl, a9⟩; have HA9 := Lib.hid (HA8.out.trans a9); have HB9 := Lib.hid (HB8.out.over a9); have HY9 := Lib.hid (HYW.out.over HA9.out); clear a9 HB8)
      | (refine kw_loadC (t := 28) _ rfl (by rfl) u HY9.out rfl Try.underlying28 rfl sizeM HC3S.out ?_)
      | (go_at_call 12; refine (HC81.out _ HA9.out).mono ?_; rintro x w10 ⟨rfl, a10⟩; have HA10 := Lib.hid (HA9.out.trans a10); have s17 := HS17.out _ (HB9.out.over a10); have q17 := HQ17.out _ (HYW.out.over HA10.out); clear a10)
      | (go_at_call 14; refine (HSM.out _ HA10.out).mono ?_; rintro x w11 ⟨rfl, a11⟩; have HA11 := Lib.hid (HA10.out.trans a11); clear a11 s17 q17)
      | (go_at_call 15; refine (HLV.out _).mono ?_; rintro x w12 ⟨rfl, a12⟩; have HA12 := Lib.hid (HAW.out.trans (HA11.out.trans a12)); clear a12)
      | fail)
    go_ret
    exact ⟨by first | rfl | simp, HA12.out.toBelow⟩
end Go.Proofs.Ytpgeebhepegpaaa
