/- WireDecodes, walked. -/
import Derived.Test.YtpgeebhepegpaaaWiBk
import Derived.Test.YtpgeebhepegpaaaWiZ
namespace Go.Proofs.Ytpgeebhepegpaaa
open Go.ChangeShapes Go.WideShapes Go.ChangeAt Go.RowKit

set_option maxRecDepth 3000 in
set_option maxHeartbeats 6400000 in
theorem decodes17_walk (w : World) (v0 : Value) (h0 : ∃ l, In w v0 l) : Calls Try.prog 8 #[v0] w fun e w' => e = .returned (.bool true) ∧ Below w.heap.size w w' := by
  obtain ⟨l0, hl0⟩ := h0
  have HCUT := Lib.hid (cut_w v0 l0 700 w w hl0 (Adv.refl _ _) (by decide))
  have HLV := Lib.hid (fun w => lives17_any w)
  have HI := Lib.hid infoM
  obtain ⟨Z, hZ⟩ : ∃ C, C = mc ms0 nilV := ⟨_, rfl⟩
  have HZS := Lib.hid (show Z.size = 18 by rw [hZ]; rfl)
  rw [← hZ] at HI
  clear hl0 hZ
  go_enter Try.func8, Try.ntmps8
  go_upto_region 2 with (first
    | (go_at_call 25; refine HCUT.out.mono ?_; clear HCUT; rintro e w1 ⟨l, A, c, k, rfl, hk, hkl, hlt, hin, rfl⟩; have HIN := Lib.hid hin; have HK := Lib.hid hk; have HKL := Lib.hid hkl; have HLT := Lib.hid hlt; clear hin hk hkl hlt)
    | fail)
  have HRB := Lib.hid (in_rd HIN.out HKL.out)
  have HCP := Lib.hid (fun w' (ha : Adv Nul w Nul w') => copy_any (.slice A k c) k l w' (HRB.out w' ha) (by have := HK.out; omega))
  have HDP := Lib.hid (fun v w' h => wdec_p v k l w' h HKL.out HLT.out HK.out)
  have HDQ := Lib.hid (fun w' (ha : Adv Nul w Nul w') => q17decode_any (.slice A k c) l w' (HIN.out w' ha) (by rw [← HKL.out]; exact HK.out))
  unfold DecM at HDP HDQ
  obtain ⟨x, hx⟩ : ∃ x, x = dcM l := ⟨_, rfl⟩
  obtain ⟨E, hE⟩ : ∃ x, x = deM l := ⟨_, rfl⟩
  rw [← hx, ← hE] at HDP HDQ
  have HM := Lib.hid (fun (va vb : Value) (w' : World) (ha : EnR7 w' va x.en) (hb : EnR7 w' vb x.en) => show Calls Try.prog 17 #[.agg (mc x va), .agg (mc x vb)] w' fun e w'' => e = .returned (.bool true) ∧ Adv Nul w' Nul w'' by rw [← sameB_self x]; exact qsame16_any x x va vb w' ha hb)
  obtain ⟨lk, hlk⟩ : ∃ lk, lk = l := ⟨_, rfl⟩
  have HT := Lib.hid (decide_eq_true hlk)
  rw [← hlk] at HCP HDP
  clear hx hE hlk HIN HKL HLT HK
  go_wp2_with (first
    | (go_at_call 26; refine (HCP.out _ (Adv.refl _ _)).mono ?_; clear HCP; rintro e w2 ⟨v2, F2, rfl, s2, a2⟩; obtain ⟨A2, c2, rfl, _, _⟩ := s2.form0; have HS2 := Lib.hid s2; have HA2 := Lib.hid (show Adv Nul w Nul w2 from a2.sub (fun _ h => h.elim)); clear s2 a2)
    | (go_at_call 27; refine (HDP.out _ _ HS2.out.rd).mono ?_; clear HDP; rintro e w3 ⟨v3, rfl, e3, a3⟩; obtain ⟨A3, c3, hv3, _, _⟩ := e3.form; obtain ⟨C, hC⟩ : ∃ C, C = mc x v3 := ⟨_, rfl⟩; have HCC := Lib.hid hC; have HCS := Lib.hid (show C.size = 18 by rw [hC]; rfl); have HCO := Lib.hid (show C.all (·.oneCell') = true by rw [hC, hv3]; exact mc_one _ _ _ _); rw [← hC]; have HE3 := Lib.hid e3; have HS3 := Lib.hid (HS2.out.far a3 (fun _ x _ => x)); have HA3 := Lib.hid (HA2.out.trans a3); clear hC hv3 e3 a3 HS2)
    | (refine kop_alloc rfl rfl HI.out ?_; intro y w4 hz hb ha; have HY4 := Lib.hid hb; have HZ4 := Lib.hid hz; have HW4 := Lib.hid (Nat.le_trans HA3.out.size hz); have HA4 := Lib.hid (HA3.out.trans ha); have H34 := Lib.hid ha; clear hz hb ha)
    | (refine kop_store rfl _ _ rfl y HY4.out rfl rfl sizeM HCS.out HZS.out HCO.out ?_; intro w5 hb ha; have HY5 := Lib.hid hb; have HA5 := Lib.hid (HA4.out.fresh HW4.out ha); have HE5 := Lib.hid (HE3.out.box H34.out HZ4.out ha); have HS5 := Lib.hid (HS3.out.rd.far (fun j _ _ hl => (ha.block j (Nat.lt_of_lt_of_le hl H34.out.size) (fun e => by have := HZ4.out; have e' : j = y := e; omega)).trans (H34.out.block j hl (fun x => x))) (Nat.le_trans H34.out.size ha.size)); clear hb ha HY4 HS3 HE3)
    | (go_at_call 28; refine (HDQ.out _ HA5.out).mono ?_; clear HDQ; rintro e w6 ⟨v6, rfl, e6, a6⟩; obtain ⟨A6, c6, hv6, _, _⟩ := e6.form; obtain ⟨D, hD⟩ : ∃ C, C = mc x v6 := ⟨_, rfl⟩; have HDD := Lib.hid hD; have HDS := Lib.hid (show D.size = 18 by rw [hD]; rfl); have HDO := Lib.hid (show D.all (·.oneCell') = true by rw [hD, hv6]; exact mc_one _ _ _ _); rw [← hD]; have HQ6 := Lib.hid e6; have HE6 := Lib.hid (HE5.out.step a6); have HY6 := Lib.hid (HY5.out.over a6); have HS6 := Lib.hid (HS5.out.far (fun j _ _ hl => a6.block j hl (fun x => x)) a6.size); have HA6 := Lib.hid (HA5.out.trans a6); clear hD hv6 e6 a6 HS5 HE5 HY5)
    | (refine kop_alloc rfl rfl HI.out ?_; intro u w7 hz hb ha; have HU7 := Lib.hid hb; have HZ7 := Lib.hid hz; have HW7 := Lib.hid (Nat.le_trans HA6.out.size hz); have HA7 := Lib.hid (HA6.out.trans ha); have HY7 := Lib.hid (HY6.out.over ha); have HNE := Lib.hid (show y ≠ u from fun e => by have := HY6.out.lt; omega); have H67 := Lib.hid ha; clear hz hb ha)
    | (refine kop_store rfl _ _ rfl u HU7.out rfl rfl sizeM HDS.out HZS.out HDO.out ?_; intro w8 hb ha; have HU8 := Lib.hid hb; have HY8 := Lib.hid (HY7.out.far1 ha HNE.out); have HA8 := Lib.hid (HA7.out.fresh HW7.out ha); have HE8 := Lib.hid (HE6.out.box H67.out HZ7.out ha); have HQ8 := Lib.hid (HQ6.out.box H67.out HZ7.out ha); have HS8 := Lib.hid (HS6.out.far (fun j _ _ hl => (ha.block j (Nat.lt_of_lt_of_le hl H67.out.size) (fun e => by have := HZ7.out; have e' : j = u := e; omega)).trans (H67.out.block j hl (fun x => x))) (Nat.le_trans H67.out.size ha.size)); clear hb ha HU7 HY7 HS6 HE6 HQ6 HY6)
    | (refine kop_load (t := 28) rfl _ rfl y HY8.out rfl Try.underlying28 rfl sizeM HCS.out ?_)
    | (refine kop_load (t := 28) rfl _ rfl u HU8.out rfl Try.underlying28 rfl sizeM HDS.out ?_)
    | (rw [HCC.out, HDD.out]; go_at_call 17; refine (HM.out _ _ _ HE8.out HQ8.out).mono ?_; rintro e w9 ⟨rfl, a9⟩; have HA9 := Lib.hid (HA8.out.trans a9); have HS9 := Lib.hid (HS8.out.far (fun j _ _ hl => a9.block j hl (fun x => x)) a9.size); clear a9)
    | (go_at_call 23; refine (isame_any _ _ _ _ _ _ _ HS9.out (HRB.out _ HA9.out)).mono ?_; rintro e w10 ⟨rfl, j6, rfl⟩; rw [HT.out])
    | (go_at_call 24; refine (HLV.out _).mono ?_; rintro e w12 ⟨rfl, a7⟩; have HA12 := Lib.hid ((HA9.out.drewN _).trans a7); clear a7)
    | fail)
  go_ret
  exact ⟨rfl, HA12.out.toBelow⟩
end Go.Proofs.Ytpgeebhepegpaaa
