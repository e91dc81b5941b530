/- A slot at all, as each statement of layer 14 asks; slots and blocks that came in. -/
import Derived.Test.YtbjenpkgcdppaaaStD
namespace Go.Proofs.Ytbjenpkgcdppaaa
open Go.ChangeShapes Go.WideShapes Go.ChangeAt Go.RowKit

def sl0 : Slt := ⟨true, 2, 1, 3, 7, true, ⟨#[97, 98]⟩⟩
set_option maxRecDepth 3000 in
theorem sl0_wf : WfT sl0 := ⟨by decide, by decide, by decide, by decide, by decide⟩
set_option maxRecDepth 3000 in
theorem sl0_ok : isT sl0 := .inr (by decide)
set_option maxRecDepth 3000 in
theorem sl0_ne : sl0 ≠ zeroT := okT_ne (by decide)
set_option maxRecDepth 3000 in
theorem dT_secT {x : Slt} (h : isT x) : dT (secT x) = x ∧ eT (secT x) = 0 := dT_yes (decT_back h)
set_option maxRecDepth 3000 in
theorem sdecode_back {x : Slt} (h : isT x) (v : Value) (w : World) (hr : Rd w 1 v 128 ((secT x).map u8)) : Calls Try.prog 15 #[v] w fun e w' => e = .returned (.tuple #[.agg (tc x), .int .i64 0]) ∧ Adv Nul w Nul w' := by
  refine (sdecode_any v (secT x) w (by rw [secT_length]; exact hr) (secT_lt x)).mono ?_
  rintro e w' ⟨rfl, ha⟩
  obtain ⟨h1, h2⟩ := dT_secT h
  rw [h1, h2]
  exact ⟨rfl, ha⟩
set_option maxRecDepth 3000 in
set_option maxHeartbeats 1600000 in
theorem lives14_any (w : World) : Calls Try.prog 13 #[] w fun e w' => e = .returned (.bool true) ∧ Adv Nul w Nul w' := by
  have HE := Lib.hid (fun w => (sencode_any sl0 sl0_wf w).mono fun e w' (h : EncT w sl0 e w') => h)
  have HD := Lib.hid (fun v w hr => sdecode_back sl0_ok v w hr)
  have HF0 := Lib.hid (fun w => show Calls Try.prog 12 #[.agg (tc zeroT)] w fun e w' => e = .returned (.bool true) ∧ Adv Nul w Nul w' from free_any zeroT zeroT_wf w)
  have HF1 := Lib.hid (fun w => show Calls Try.prog 12 #[.agg (tc sl0)] w fun e w' => e = .returned (.bool false) ∧ Adv Nul w Nul w' from by have h := free_any sl0 sl0_wf w; rw [decide_eq_false sl0_ne] at h; exact h)
  have HE2 := Lib.hid (eq_tslot sl0 sl0 sl0_wf sl0_wf)
  rw [decide_eq_true (Eq.refl sl0)] at HE2
  have HX := Lib.hid (show #[.bool true, .int .i64 2, .int .i64 1, .int .i64 3, .int .u64 7, .bool true, .string ⟨#[97, 98]⟩] = tc sl0 from rfl)
  have HBU := Lib.hid builtT
  have HI := Lib.hid infoT
  obtain ⟨Z, hZ⟩ : ∃ C, C = tc zeroT := ⟨_, rfl⟩
  have HZS := Lib.hid (show Z.size = 7 by rw [hZ]; rfl)
  rw [← hZ] at HBU HI HF0
  obtain ⟨C, hC⟩ : ∃ C, C = tc sl0 := ⟨_, rfl⟩
  have HCS := Lib.hid (show C.size = 7 by rw [hC]; rfl)
  have HC1 := Lib.hid (show C.all (·.oneCell') = true by rw [hC]; exact tc_one _)
  rw [← hC] at HE HD HF1 HX HE2
  have HZX := Lib.hid (show #[.bool false, .int .i64 0, .int .i64 0, .int .i64 0, .int .u64 0, .bool false, .string ⟨#[]⟩] = Z by rw [hZ]; rfl)
  clear hZ hC
  go_enter Try.func13, Try.ntmps13
  go_upto_region 4 with (first
    | (refine kop_alloc rfl rfl HI.out ?_; intro u w1 hz hb ha; have HUU := Lib.hid hz; have HBU1 := Lib.hid hb; have HA1 := Lib.hid ((Adv.refl Nul w).trans ha); clear hz hb ha)
    | (rw [HX.out]; refine kop_store rfl _ _ rfl u HBU1.out rfl rfl sizeT HCS.out HZS.out HC1.out ?_; intro w2 hb ha; have HB2 := Lib.hid hb; have HA2 := Lib.hid (HA1.out.fresh HUU.out ha); clear hb ha HBU1)
    | (refine kop_load rfl _ rfl u HB2.out rfl Try.underlying34 rfl sizeT HCS.out ?_)
    | (go_at_call 8; refine (HE.out _).mono ?_; rintro e w3 ⟨A3, m3, k3, F3, rfl, a3, y3, _⟩; obtain ⟨rfl, s3⟩ := y3 sl0_ok; rw [if_pos sl0_ok]; have HS3 := Lib.hid s3; have HA3 := Lib.hid (HA2.out.trans a3); have HB3 := Lib.hid (HB2.out.over a3); clear a3 y3 s3)
    | (go_at_call 15; refine (HD.out _ _ HS3.out.rd).mono ?_; rintro e w4 ⟨rfl, a4⟩; have HA4 := Lib.hid (HA3.out.nul.trans a4); have HB4 := Lib.hid (HB3.out.over a4); clear a4)
    | (refine kop_alloc rfl rfl HI.out ?_; intro u5 w5 hz hb ha; have HU5 := Lib.hid (Nat.le_trans HA4.out.size hz); have HB5 := Lib.hid hb; have HA5 := Lib.hid (HA4.out.trans ha); have HBX := Lib.hid (HB4.out.over ha); have HNE := Lib.hid (show u ≠ u5 from fun e => by have := HB4.out.lt; omega); clear hz hb ha)
    | (refine kop_store rfl _ _ rfl u5 HB5.out rfl rfl sizeT HCS.out HZS.out HC1.out ?_; intro w6 hb ha; have HB6 := Lib.hid hb; have HX6 := Lib.hid (HBX.out.far1 ha HNE.out); have HA6 := Lib.hid (HA5.out.fresh HU5.out ha); clear hb ha HB5)
    | fail)
  have hB6 := HB6.out
  have hX6 := HX6.out
  rw [← HX.out] at hB6 hX6 HF1
  rw [← HZX.out] at HF0
  have a0 := hB6.cell 0
  have a1 := hB6.cell 1
  have a2 := hB6.cell 2
  have a3 := hB6.cell 3
  have a4 := hB6.cell 4
  have a5 := hB6.cell 5
  have a6 := hB6.cell 6
  have b0 := hX6.cell 0
  have b1 := hX6.cell 1
  have b2 := hX6.cell 2
  have b3 := hX6.cell 3
  have b4 := hX6.cell 4
  have b5 := hX6.cell 5
  have b6 := hX6.cell 6
  clear hB6
  have HK := Lib.hid hX6
  clear hX6
  go_wp2_with (first
    | (go_at_call 12; refine (HF0.out _).mono ?_; clear HF0; rintro e w7 ⟨rfl, a7⟩; have HA7 := Lib.hid (HA6.out.trans a7); have hX7 := HK.out.over a7; have d0 := hX7.cell 0; have d1 := hX7.cell 1; have d2 := hX7.cell 2; have d3 := hX7.cell 3; have d4 := hX7.cell 4; have d5 := hX7.cell 5; have d6 := hX7.cell 6; clear a7 hX7)
    | (go_at_call 12; refine (HF1.out _).mono ?_; rintro e w8 ⟨rfl, a8⟩; have HA8 := Lib.hid (HA7.out.trans a8); clear a8)
    | fail)
  go_ret
  exact ⟨rfl, HA8.out⟩
end Go.Proofs.Ytbjenpkgcdppaaa
