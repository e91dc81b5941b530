/- A recall; messages at all, as each statement of layer 16 asks. -/
import Derived.Test.YtpgeebhepegpaaaMsI
import Derived.Test.YtpgeebhepegpaaaMsG
import Derived.Test.YtpgeebhepegpaaaMsJ
namespace Go.Proofs.Ytpgeebhepegpaaa
open Go.ChangeShapes Go.WideShapes Go.ChangeAt Go.RowKit

def rcM : Ms := { ms0 with ty := 3, ss := 1, bo := 1, fi := 2, fg := 1 }
def rcN : Ms := { rcM with sq := 1 }
set_option maxRecDepth 3000 in
theorem rcM_wf : WfM rcM := ⟨by decide, by decide, by decide, by decide, by decide, by decide, by decide, by decide⟩
set_option maxRecDepth 3000 in
theorem rcN_wf : WfM rcN := ⟨by decide, by decide, by decide, by decide, by decide, by decide, by decide, by decide⟩
set_option maxRecDepth 3000 in
theorem rcM_ok : chkM rcM = 0 := by
  unfold chkM
  rw [ok_is, if_pos]
  unfold isM
  rw [if_neg (fun h => h (by decide)), if_pos (show rcM.ty = 3 from rfl)]
  have h : juB rcM [102] = true := by
    unfold juB
    simp [rf, zf, rcM, ms0, flP]
    rfl
  rw [h]
  rfl
set_option maxRecDepth 3000 in
theorem rcN_no : chkM rcN = 4 := by
  unfold chkM
  rw [ok_is, if_neg]
  unfold isM
  rw [if_neg (fun h => h (by decide)), if_pos (show rcN.ty = 3 from rfl)]
  simp [zf, rcN]
set_option maxRecDepth 3000 in
theorem rc_ne : sameB rcM rcN = false := sameB_no (·.sq) (by decide)
set_option maxRecDepth 3000 in
theorem nil_en (w : World) : EnR7 w nilV [] := (EnO.nil w).rd
set_option maxRecDepth 3000 in
theorem built_rec : Try.prog.built 28 [(0, .int .i64 3), (2, .int .u64 1), (4, .int .u64 1), (7, .agg #[.int .i64 2, .int .i64 1])] = some (mc rcM nilV) := by kernel_rfl
set_option maxRecDepth 3000 in
set_option maxHeartbeats 1600000 in
theorem recall16_any (w : World) : Calls Try.prog 36 #[] w fun e w' => e = .returned (.agg (mc rcM nilV)) ∧ Adv Nul w Nul w' := by
  have HI := Lib.hid infoM
  have HBR := Lib.hid built_rec
  obtain ⟨Z, hZ⟩ : ∃ C, C = mc ms0 nilV := ⟨_, rfl⟩
  have HZS := Lib.hid (show Z.size = 18 by rw [hZ]; rfl)
  obtain ⟨D, hD⟩ : ∃ C, C = mc rcM nilV := ⟨_, rfl⟩
  have HDS := Lib.hid (show D.size = 18 by rw [hD]; rfl)
  have HD1 := Lib.hid (show D.all (·.oneCell') = true by rw [hD]; exact mc_one _ _ _ _)
  rw [← hD] at HBR ⊢
  rw [← hZ] at HI
  clear hZ hD
  go_enter Try.func36, Try.ntmps36
  go_wp2_with (first
    | (refine kop_alloc rfl rfl HI.out ?_; intro u w2 hz hb ha; have HU2 := Lib.hid hz; have HBU := Lib.hid hb; have HA2 := Lib.hid ha; clear hz hb ha)
    | (refine kop_built rfl rfl (by kernel_rfl) HBR.out ?_)
    | (refine kop_store rfl _ _ rfl u HBU.out rfl rfl sizeM HDS.out HZS.out HD1.out ?_; intro w3 hb ha; have HB3 := Lib.hid hb; have HA3 := Lib.hid (HA2.out.fresh HU2.out ha); clear hb ha)
    | fail)
  exact bodyPost_ret (kresM rfl _ _ rfl HB3.out Try.underlying28 rfl (by rw [sizeM, HDS.out])) rfl ⟨rfl, HA3.out⟩
set_option maxRecDepth 3000 in
set_option maxHeartbeats 3200000 in
theorem lives16_any (w : World) : Calls Try.prog 15 #[] w fun e w' => e = .returned (.bool true) ∧ Adv Nul w Nul w' := by
  have HI := Lib.hid infoM
  have HRC := Lib.hid (fun w => recall16_any w)
  have HK1 := Lib.hid (fun w => show Calls Try.prog 12 #[.agg (mc rcM nilV)] w fun e w' => e = .returned (.int .i64 0) ∧ Adv Nul w Nul w' by rw [← rcM_ok]; exact check16_any rcM nilV rcM_wf w (nil_en w))
  have HK2 := Lib.hid (fun w => show Calls Try.prog 12 #[.agg (mc rcN nilV)] w fun e w' => e = .returned (.int .i64 4) ∧ Adv Nul w Nul w' by rw [← rcN_no]; exact check16_any rcN nilV rcN_wf w (nil_en w))
  have HS1 := Lib.hid (fun w => show Calls Try.prog 16 #[.agg (mc rcM nilV), .agg (mc rcM nilV)] w fun e w' => e = .returned (.bool true) ∧ Adv Nul w Nul w' by rw [← sameB_self rcM]; exact msame_any rcM rcM nilV nilV w (nil_en w) (nil_en w))
  have HS2 := Lib.hid (fun w => show Calls Try.prog 16 #[.agg (mc rcM nilV), .agg (mc rcN nilV)] w fun e w' => e = .returned (.bool false) ∧ Adv Nul w Nul w' by rw [← rc_ne]; exact msame_any rcM rcN nilV nilV w (nil_en w) (nil_en w))
  have HID := Lib.hid (fun w => show Calls Try.prog 20 #[.int .i64 9] w fun e w' => e = .returned (.bool true) ∧ w = w' from idle_any 9 w)
  obtain ⟨Z, hZ⟩ : ∃ C, C = mc ms0 nilV := ⟨_, rfl⟩
  have HZS := Lib.hid (show Z.size = 18 by rw [hZ]; rfl)
  obtain ⟨C, hC⟩ : ∃ C, C = mc rcM nilV := ⟨_, rfl⟩
  have HCS := Lib.hid (show C.size = 18 by rw [hC]; rfl)
  have HC1 := Lib.hid (show C.all (·.oneCell') = true by rw [hC]; exact mc_one _ _ _ _)
  obtain ⟨D, hD⟩ : ∃ C, C = mc rcN nilV := ⟨_, rfl⟩
  have HDS := Lib.hid (show D.size = 18 by rw [hD]; rfl)
  have HCD := Lib.hid (show C.setIfInBounds 3 (.int .u64 1) = D by rw [hC, hD]; rfl)
  have HC3 := Lib.hid (show ∀ w' z, Blk w' z 28 C → w'.cell? ⟨z, 3, none⟩ = some (.int .u64 0) from fun w' z h => by rw [hC] at h; exact h.cell 3)
  rw [← hZ] at HI
  rw [← hC] at HRC HK1 HS1 HS2
  rw [← hD] at HK2 HS2
  clear hZ hC hD
  go_enter Try.func15, Try.ntmps15
  go_upto_region 3 with (first
    | (go_at_call 36; refine (HRC.out _).mono ?_; rintro x w1 ⟨rfl, a1⟩; have HA1 := Lib.hid a1; clear a1)
    | (refine kop_alloc rfl rfl HI.out ?_; intro u w2 hz hb ha; have HA2 := Lib.hid ((Adv.refl Nul w).trans HA1.out |>.trans ha); have HU2 := Lib.hid (Nat.le_trans HA1.out.size hz); have HBU := Lib.hid hb; clear hz hb ha HA1)
    | (refine kop_store rfl _ _ rfl u HBU.out rfl rfl sizeM HCS.out HZS.out HC1.out ?_; intro w3 hb ha; have HB3 := Lib.hid hb; have HA3 := Lib.hid (HA2.out.fresh HU2.out ha); clear hb ha HBU)
    | (refine kop_load (t := 28) rfl _ rfl u HB3.out rfl Try.underlying28 rfl sizeM HCS.out ?_)
    | (refine kop_alloc rfl rfl HI.out ?_; intro y w4 hz hb ha; have HA4 := Lib.hid (HA3.out.trans ha); have HY4 := Lib.hid (Nat.le_trans HA3.out.size hz); have HBY := Lib.hid hb; have HB4 := Lib.hid (HB3.out.over ha); have HNE := Lib.hid (show u ≠ y from fun e => by have := HB3.out.lt; omega); clear hz hb ha)
    | (refine kop_store rfl _ _ rfl y HBY.out rfl rfl sizeM HCS.out HZS.out HC1.out ?_; intro w5 hb ha; have HY5 := Lib.hid hb; have HB5 := Lib.hid (HB4.out.far1 ha HNE.out); have HA5 := Lib.hid (HA4.out.fresh HY4.out ha); clear hb ha HBY)
    | fail)
  have c3 := HC3.out _ _ HY5.out
  have f3 := HY5.out.frozen 3
  go_upto_region 4 with fail
  obtain ⟨W, hW⟩ : ∃ W, W = w5.setCell ⟨y, 3, none⟩ (.int .u64 1) := ⟨_, rfl⟩
  have HYW := Lib.hid (show Blk W y 28 D by rw [hW, ← HCD.out]; exact HY5.out.set_ 3 _)
  have HBW := Lib.hid (show Blk W u 28 C by rw [hW]; exact HB5.out.far (p := ⟨y, 3, none⟩) HNE.out _)
  have HAW := Lib.hid (show Adv Nul w Nul W by rw [hW]; exact HA5.out.setCell (p := ⟨y, 3, none⟩) (.inr HY4.out) _)
  rw [← hW]
  clear hW c3 f3 HCD HC3
  go_wp2_with (first
    | (refine kop_load (t := 28) rfl _ rfl u HBW.out rfl Try.underlying28 rfl sizeM HCS.out ?_)
    | (go_at_call 12; refine (HK1.out _).mono ?_; clear HK1; rintro x w6 ⟨rfl, a6⟩; have HA6 := Lib.hid (HAW.out.trans a6); have HB6 := Lib.hid (HBW.out.over a6); have HY6 := Lib.hid (HYW.out.over a6); clear a6 HBW)
    | (refine kw_loadC (t := 28) _ rfl (by rfl) y HY6.out rfl Try.underlying28 rfl sizeM HDS.out ?_)
    | (go_at_call 12; refine (HK2.out _).mono ?_; rintro x w7 ⟨rfl, a7⟩; have HA7 := Lib.hid (HA6.out.trans a7); have HB7 := Lib.hid (HB6.out.over a7); have HY7 := Lib.hid (HY6.out.over a7); clear a7 HY6)
    | (refine kw_loadC (t := 28) _ rfl (by rfl) u HB7.out rfl Try.underlying28 rfl sizeM HCS.out ?_)
    | (go_at_call 16; refine (HS1.out _).mono ?_; clear HS1; rintro x w8 ⟨rfl, a8⟩; have HA8 := Lib.hid (HA7.out.trans a8); have HB8 := Lib.hid (HB7.out.over a8); have HY8 := Lib.hid (HY7.out.over a8); clear a8 HB7)
    | (refine kw_loadC (t := 28) _ rfl (by rfl) u HB8.out rfl Try.underlying28 rfl sizeM HCS.out ?_)
    | (refine kw_loadC (t := 28) _ rfl (by rfl) y HY8.out rfl Try.underlying28 rfl sizeM HDS.out ?_)
    | (go_at_call 16; refine (HS2.out _).mono ?_; rintro x w9 ⟨rfl, a9⟩; have HA9 := Lib.hid (HA8.out.trans a9); clear a9)
    | (go_at_call 20; refine (HID.out _).mono ?_; rintro x wx ⟨rfl, rfl⟩)
    | fail)
  go_ret
  exact ⟨by first | rfl | simp, HA9.out⟩
end Go.Proofs.Ytpgeebhepegpaaa
