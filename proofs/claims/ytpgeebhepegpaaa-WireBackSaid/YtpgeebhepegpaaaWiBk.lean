/- WireBack, walked. -/
import Derived.Test.YtpgeebhepegpaaaMwG
import Derived.Test.YtpgeebhepegpaaaItx
namespace Go.Proofs.Ytpgeebhepegpaaa
open Go.ChangeShapes Go.WideShapes Go.ChangeAt Go.RowKit

set_option maxRecDepth 3000 in
theorem wf_rdW {n V : Nat} {s : List Nat} (h7 : n ≤ 700) : WfM (rdW n V s) := by
  refine ⟨?_, ?_, ?_, ?_, ?_, ?_, ?_, ?_⟩
  · have := getT_lt n V 5 40; show getT n V 5 40 < _; omega
  · have := getT_lt n V 45 40; show getT n V 45 40 < _; omega
  · have := getT_lt n V 85 40; show getT n V 85 40 < _; omega
  · show (if 118 ∈ s then getT n V (pw7 n V s) 40 else 0) < _; have := getT_lt n V (pw7 n V s) 40; split <;> omega
  · show (if 110 ∈ s then txT n V (pw2 s) else (⟨#[]⟩ : ByteArray)).size ≤ 1000; have := txT_le n V (pw2 s); split
    · omega
    · exact Nat.zero_le _
  · show (if 111 ∈ s then txT n V (pw3 n V s) else (⟨#[]⟩ : ByteArray)).size ≤ 1000; have := txT_le n V (pw3 n V s); split
    · omega
    · exact Nat.zero_le _
  · show (if 116 ∈ s then txT n V (pw6 n V s) else (⟨#[]⟩ : ByteArray)).size ≤ 1000; have := txT_le n V (pw6 n V s); split
    · omega
    · exact Nat.zero_le _
  · show (enW n V (pw8 n V s + 5) (cntW n V s)).length ≤ 1000
    rw [enW_len]
    unfold cntW
    have := getT_lt n V (pw8 n V s) 5
    split <;> omega
set_option maxRecDepth 3000 in
theorem wdec_p (v : Value) (n : Nat) (l : List Nat) (w : World) (h : Rd w 1 v n (l.map u8)) (hn : n = l.length) (hb : ∀ x ∈ l, x < 256) (h7 : n ≤ 700) : Calls Try.prog 27 #[v] w (DecM w l) := by
  subst hn
  exact wdecode_any v l w h hb (by omega) (fun _ => wf_rdW h7)
set_option maxRecDepth 3000 in
theorem in_rd {w : World} {v : Value} {k : Nat} {l : List Nat} (h : ∀ W, Adv Nul w Nul W → In W v l) (hk : k = l.length) : ∀ W, Adv Nul w Nul W → Rd W 1 v k (l.map u8) := fun W hW => by
  rw [hk]; exact (h W hW).rd
set_option maxRecDepth 3000 in
/-- what a message's bytes, and what other bytes are read as -/
theorem dec_case {l : List Nat} (h7 : l.length ≤ 700) : (∃ m, dcM l = m ∧ deM l = 0 ∧ isM m = true ∧ wiB m = l) ∨ (dcM l = ms0 ∧ deM l = 4) := by
  unfold dcM deM
  rw [if_neg (by omega), if_neg (by omega)]
  cases hd : decM l with
  | none => exact .inr ⟨rfl, rfl⟩
  | some m => exact .inl ⟨m, rfl, rfl, (decM_some hd).1, (decM_some hd).2.1⟩
set_option maxRecDepth 3000 in
theorem wf_dcM {l : List Nat} (h7 : l.length ≤ 700) : WfM (dcM l) := by
  unfold dcM
  rw [if_neg (by omega)]
  cases hd : decM l with
  | none => exact ⟨by decide, by decide, by decide, by decide, by decide, by decide, by decide, by decide⟩
  | some m =>
    rw [show (some m).getD ms0 = m from rfl, ← (decM_some hd).2.2]
    exact wf_rdW h7
set_option maxRecDepth 3000 in
set_option maxHeartbeats 6400000 in
theorem back17_walk (w : World) (v0 : Value) (h0 : MArg w v0) (v1 : Value) (h1 : ∃ l, In w v1 l) : Calls Try.prog 9 #[v0, v1] w fun e w' => e = .returned (.bool true) ∧ Below w.heap.size w w' := by
  obtain ⟨m, sv, rfl, hm, hE⟩ := h0
  obtain ⟨l0, hl0⟩ := h1
  obtain ⟨sm, hs⟩ : ∃ s, s = shM m := ⟨_, rfl⟩
  have hw : WfM sm := by rw [hs]; exact hm.short
  have HCUT := Lib.hid (fun (w' : World) (ha : Adv Nul w Nul w') => cut_w v1 l0 700 w w' hl0 ha (by decide))
  have HS1 := Lib.hid (fun (w' : World) (a : Adv Nul w Nul w') => short17 hs sv hm w' (hE.step a))
  have HEP := Lib.hid (fun v w' h => enc_p hw rfl rfl v w' h)
  have HLV := Lib.hid (fun w => lives17_any w)
  have HDB := Lib.hid (fun (hi : isM sm = true) (v : Value) (n : Nat) (w' : World) (hr : Rd w' 1 v n ((wiB sm).map u8)) (hn : n = (wiB sm).length) => wdec_p v n (wiB sm) w' hr hn (wiB_lt sm) (by rw [hn]; exact wiB_short hi))
  have HDE := Lib.hid (fun (hi : isM sm = true) => dcM_back hi)
  have HSH := Lib.hid (fun (hi : isM sm = true) => wiB_short hi)
  obtain ⟨C0, hC0⟩ : ∃ C, C = mc m sv := ⟨_, rfl⟩
  have HC0S := Lib.hid (show C0.size = 18 by rw [hC0]; rfl)
  rw [← hC0] at HS1 ⊢
  have HI := Lib.hid infoM
  obtain ⟨Z, hZ⟩ : ∃ C, C = mc ms0 nilV := ⟨_, rfl⟩
  have HZZ := Lib.hid hZ
  have HZS := Lib.hid (show Z.size = 18 by rw [hZ]; rfl)
  have HBU := Lib.hid built_M0
  rw [← hZ] at HI HBU
  clear hC0 hw hm hE hs hl0 hZ
  go_enter Try.func9, Try.ntmps9
  go_upto_region 1 with (first
    | (refine kop_box rfl _ rfl rfl ?_; intro z w1 hz hb ha; have HA1 := Lib.hid ((Adv.refl Nul w).trans ha); have HZ1 := Lib.hid hz; have HB1 := Lib.hid hb; clear hz hb ha)
    | fail)
  go_upto_region 3 with (first
    | (go_at_call 11; refine (HS1.out _ HA1.out).mono ?_; clear HS1; rintro x w2 ⟨A1, n1, c1, rfl, he⟩; have HE2 := Lib.hid he; have HB2 := Lib.hid (HB1.out.over he.adv); have HA2 := Lib.hid (HA1.out.trans he.adv); have HP := Lib.hid (fun w' h => HEP.out (.slice A1 n1 c1) w' h); clear HEP; obtain ⟨C1, hC1⟩ : ∃ C, C = mc sm (.slice A1 n1 c1) := ⟨_, rfl⟩; have HC1S := Lib.hid (show C1.size = 18 by rw [hC1]; rfl); have HC1O := Lib.hid (show C1.all (·.oneCell') = true by rw [hC1]; exact mc_one _ _ _ _); have HC1E := Lib.hid hC1; rw [← hC1] at HP ⊢; clear he hC1)
    | (go_at_call 25; refine (HCUT.out _ HA2.out).mono ?_; clear HCUT; rintro e w2' ⟨l, A, c, k, rfl, hk, hkl, hlt, hin, rfl⟩; have HIN := Lib.hid hin; have HK := Lib.hid hk; have HKL := Lib.hid hkl; have HLT := Lib.hid hlt; clear hin hk hkl hlt)
    | (refine kop_store rfl _ _ rfl z HB2.out rfl rfl sizeM HC1S.out HC0S.out HC1O.out ?_; intro w3 hb ha; have HB3 := Lib.hid hb; have HA3 := Lib.hid (HA2.out.fresh HZ1.out ha); have HE3 := Lib.hid (HE2.out.putz HA1.out HZ1.out HB1.out.lt ha).rd; clear hb ha HB1 HB2 HE2)
    | (go_at_call 21; refine (HP.out _ HE3.out).mono ?_; clear HP; rintro e w4 ⟨A4, n4, c4, F4, rfl, s4, a4⟩; have HS4 := Lib.hid s4; have HB4 := Lib.hid (HB3.out.over a4); have HE4 := Lib.hid (HE3.out.step a4); have HA4 := Lib.hid (show Adv Nul w Nul w4 from HA3.out.trans (a4.sub (fun _ h => h.elim))); clear s4 a4)
    | (refine kop_load (t := 28) rfl _ rfl z HB3.out rfl Try.underlying28 rfl sizeM HC1S.out ?_)
    | (refine kop_load (t := 28) rfl _ rfl z HB1.out rfl Try.underlying28 rfl sizeM HC0S.out ?_)
    | fail)
  have HM16 := Lib.hid (fun (x : Ms) (va vb : Value) (w' : World) (ha : EnR7 w' va x.en) (hb : EnR7 w' vb x.en) => show Calls Try.prog 17 #[.agg (mc x va), .agg (mc x vb)] w' fun e w'' => e = .returned (.bool true) ∧ Adv Nul w' Nul w'' by rw [← sameB_self x]; exact qsame16_any x x va vb w' ha hb)
  obtain ⟨E, hEE⟩ : ∃ e : Int, e = if isM sm = true then 0 else 4 := ⟨_, rfl⟩
  have HEE := Lib.hid hEE
  rw [← hEE]
  clear hEE
  go_upto_if 23 with (fail)
  go_cut [] (fun w9 => Adv Nul w Nul w9)
  case first =>
    cases hi : isM sm
    · obtain rfl : E = 4 := by rw [HEE.out, hi]; rfl
      clear hi
      go_wp2_with fail
      go_meet
      exact HA4.out
    · obtain rfl : E = 0 := by rw [HEE.out, hi]; rfl
      obtain ⟨hd1, hd2⟩ := HDE.out hi
      have hs4 := HS4.out
      rw [if_pos hi] at hs4
      have hlen : n4 = (wiB sm).length := by have := hs4.own.1; simpa using this.symm
      have hsh := HSH.out hi
      have HD1 := Lib.hid (HDB.out hi (.slice A4 n4 c4) n4 w4 hs4.rd hlen)
      unfold DecM at HD1
      rw [hd1, hd2] at HD1
      have hn4 : ¬ (2048 : Int) ≤ (n4 : Int) := by omega
      have hg4 : decide ((2048 : Int) ≤ (n4 : Int)) = false := decide_eq_false hn4
      clear hi hd1 hd2 hs4 hlen hsh HDB HDE HSH HEE hn4
      go_wp2_with (first
        | (go_at_call 27; refine HD1.out.mono ?_; clear HD1; rintro e w5 ⟨v5, rfl, e5, a5⟩; obtain ⟨A5, c5, hv5, _, _⟩ := e5.form; obtain ⟨D, hD⟩ : ∃ D, D = mc sm v5 := ⟨_, rfl⟩; have HDD := Lib.hid hD; have HDS := Lib.hid (show D.size = 18 by rw [hD]; rfl); have HDO := Lib.hid (show D.all (·.oneCell') = true by rw [hD, hv5]; exact mc_one _ _ _ _); rw [← hD]; have HE5 := Lib.hid e5; have HEz := Lib.hid (HE4.out.step a5); have HB5 := Lib.hid (HB4.out.over a5); have HA5 := Lib.hid (HA4.out.trans a5); clear hD hv5 e5 a5)
        | (refine kop_alloc rfl rfl HI.out ?_; intro y w6 hz hb ha; have HY6 := Lib.hid hb; have HZ6 := Lib.hid hz; have HW6 := Lib.hid (Nat.le_trans HA5.out.size hz); have HB6 := Lib.hid (HB5.out.over ha); have HNE := Lib.hid (show z ≠ y from fun e => by have := HB5.out.lt; omega); have HA6 := Lib.hid (HA5.out.trans ha); have H56 := Lib.hid ha; clear hz hb ha)
        | (refine kop_store rfl _ _ rfl y HY6.out rfl rfl sizeM HDS.out HZS.out HDO.out ?_; intro w7 hb ha; have HY7 := Lib.hid hb; have HB7 := Lib.hid (HB6.out.far1 ha HNE.out); have HA7 := Lib.hid (HA6.out.fresh HW6.out ha); have HE7 := Lib.hid (HE5.out.box H56.out HZ6.out ha); have HEz7 := Lib.hid (HEz.out.box H56.out HZ6.out ha); clear hb ha)
        | (refine kw_loadC (t := 28) _ rfl rfl y HY7.out rfl Try.underlying28 rfl sizeM HDS.out ?_)
        | (refine kw_loadC (t := 28) _ rfl rfl z HB7.out rfl Try.underlying28 rfl sizeM HC1S.out ?_)
        | (rw [HDD.out, HC1E.out]; go_at_call 17; refine (HM16.out sm v5 _ _ HE7.out HEz7.out).mono ?_; rintro e w8 ⟨rfl, a8⟩; have HA8 := Lib.hid (HA7.out.trans a8); clear a8)
        | fail)
      go_meet
      exact HA8.out
  case rest =>
  have HA9 := Lib.hid hcut
  clear hcut
  have HDL := Lib.hid (show Calls Try.prog 27 #[.slice A k c] wc (DecM wc l) from wdec_p _ k l wc (in_rd HIN.out HKL.out wc HA9.out) HKL.out HLT.out HK.out)
  have hcase := dec_case (l := l) (by rw [← HKL.out]; exact HK.out)
  have HWF := Lib.hid (wf_dcM (l := l) (by rw [← HKL.out]; exact HK.out))
  have HRB := Lib.hid (in_rd HIN.out HKL.out)
  clear HIN HKL HLT HK HB4 HE4 HS4 HA4 HB3 HE3 HA3 HC1S HC1O HC1E HDB HDE HSH HEE HC0S
  unfold DecM at HDL
  rcases hcase with ⟨m2, e1, e2, e3, e4⟩ | ⟨e1, e2⟩
  · rw [e1] at HWF
    have HE2 := Lib.hid (fun v w' h => enc_p (BL := l) (E := 0) HWF.out (by rw [if_pos e3, e4]) (by rw [if_pos e3]) v w' h)
    rw [e1, e2] at HDL
    obtain ⟨lk, hlk⟩ : ∃ lk, lk = l := ⟨_, rfl⟩
    have HT := Lib.hid (decide_eq_true hlk)
    rw [← hlk] at HE2
    clear e1 e2 e3 e4 hlk HWF HM16
    as_aux_lemma =>
    go_wp2_with (first
      | (go_at_call 27; refine HDL.out.mono ?_; clear HDL; rintro e w10 ⟨v5, rfl, e5, a5⟩; obtain ⟨A5, c5, hv5, _, _⟩ := e5.form; have HN := Lib.hid (fun w' h => HE2.out v5 w' h); clear HE2; obtain ⟨D, hD⟩ : ∃ D, D = mc m2 v5 := ⟨_, rfl⟩; have HDS := Lib.hid (show D.size = 18 by rw [hD]; rfl); have HDO := Lib.hid (show D.all (·.oneCell') = true by rw [hD, hv5]; exact mc_one _ _ _ _); rw [← hD] at HN ⊢; have HE5 := Lib.hid e5; have HA5 := Lib.hid (HA9.out.trans a5); clear hD hv5 e5 a5)
      | (refine kop_alloc rfl rfl HI.out ?_; intro y w6 hz hb ha; have HY6 := Lib.hid hb; have HZ6 := Lib.hid hz; have HW6 := Lib.hid (Nat.le_trans HA5.out.size hz); have HA6 := Lib.hid (HA5.out.trans ha); have H56 := Lib.hid ha; clear hz hb ha)
      | (refine kop_store rfl _ _ rfl y HY6.out rfl rfl sizeM HDS.out HZS.out HDO.out ?_; intro w7 hb ha; have HY7 := Lib.hid hb; have HA7 := Lib.hid (HA6.out.fresh HW6.out ha); have HE7 := Lib.hid (HE5.out.box H56.out HZ6.out ha); clear hb ha)
      | (refine kop_load (t := 28) rfl _ rfl y HY7.out rfl Try.underlying28 rfl sizeM HDS.out ?_)
      | (go_at_call 21; refine (HN.out _ HE7.out).mono ?_; clear HN; rintro e w8 ⟨A8, n8, c8, F8, rfl, s8, a8⟩; have HS8 := Lib.hid s8.rd; have HA8 := Lib.hid (show Adv Nul w Nul w8 from HA7.out.trans (a8.sub (fun _ h => h.elim))); clear s8 a8)
      | (go_at_call 23; refine (isame_any _ _ _ _ _ _ _ HS8.out (HRB.out _ HA8.out)).mono ?_; rintro e w11 ⟨rfl, j6, rfl⟩; rw [HT.out])
      | (go_at_call 24; refine (HLV.out _).mono ?_; rintro e w12 ⟨rfl, a7⟩; have HA12 := Lib.hid ((HA8.out.drewN _).trans a7); clear a7)
      | fail)
    go_ret
    exact ⟨rfl, HA12.out.toBelow⟩
  · have HM0 := Lib.hid (fun (v : Value) (w' : World) (h : EnR7 w' v (dcM l).en) => show Calls Try.prog 17 #[.agg (mc ms0 v), .agg Z] w' fun e w'' => e = .returned (.bool true) ∧ Adv Nul w' Nul w'' by rw [HZZ.out]; exact HM16.out ms0 v nilV w' (by rw [e1] at h; exact h) (EnO.nil _).rd)
    rw [e1] at HM0
    rw [e1, e2] at HDL
    clear e1 e2 HWF HM16 HRB HZZ
    as_aux_lemma =>
    go_wp2_with (first
      | (go_at_call 27; refine HDL.out.mono ?_; clear HDL; rintro e w10 ⟨v5, rfl, e5, a5⟩; obtain ⟨A5, c5, hv5, _, _⟩ := e5.form; have HN := Lib.hid (fun w' h => HM0.out v5 w' h); clear HM0; obtain ⟨D, hD⟩ : ∃ D, D = mc ms0 v5 := ⟨_, rfl⟩; have HDS := Lib.hid (show D.size = 18 by rw [hD]; rfl); have HDO := Lib.hid (show D.all (·.oneCell') = true by rw [hD, hv5]; exact mc_one _ _ _ _); rw [← hD] at HN ⊢; have HE5 := Lib.hid e5; have HA5 := Lib.hid (HA9.out.trans a5); clear hD hv5 e5 a5)
      | (refine kop_alloc rfl rfl HI.out ?_; intro y w6 hz hb ha; have HY6 := Lib.hid hb; have HZ6 := Lib.hid hz; have HW6 := Lib.hid (Nat.le_trans HA5.out.size hz); have HA6 := Lib.hid (HA5.out.trans ha); have H56 := Lib.hid ha; clear hz hb ha)
      | (refine kop_store rfl _ _ rfl y HY6.out rfl rfl sizeM HDS.out HZS.out HDO.out ?_; intro w7 hb ha; have HY7 := Lib.hid hb; have HA7 := Lib.hid (HA6.out.fresh HW6.out ha); have HE7 := Lib.hid (HE5.out.box H56.out HZ6.out ha); clear hb ha)
      | (refine kop_load (t := 28) rfl _ rfl y HY7.out rfl Try.underlying28 rfl sizeM HDS.out ?_)
      | (refine kop_zero HBU.out rfl rfl ?_)
      | (go_at_call 17; refine (HN.out _ HE7.out).mono ?_; rintro e w8 ⟨rfl, a8⟩; have HA8 := Lib.hid (HA7.out.trans a8); clear a8)
      | (go_at_call 24; refine (HLV.out _).mono ?_; rintro e w12 ⟨rfl, a7⟩; have HA12 := Lib.hid (HA8.out.trans a7); clear a7)
      | fail)
    go_ret
    exact ⟨rfl, HA12.out.toBelow⟩
end Go.Proofs.Ytpgeebhepegpaaa
