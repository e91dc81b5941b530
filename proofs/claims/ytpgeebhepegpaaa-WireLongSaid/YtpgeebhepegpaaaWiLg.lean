/- WireLong, walked. -/
import Derived.Test.YtpgeebhepegpaaaMwG
namespace Go.Proofs.Ytpgeebhepegpaaa
open Go.ChangeShapes Go.WideShapes Go.ChangeAt Go.RowKit

set_option maxRecDepth 3000 in
theorem byN_zero : ∀ n, byN (List.replicate n 0) = 0
  | 0 => rfl
  | n + 1 => by rw [List.replicate_succ', byN_snoc, byN_zero n]
set_option maxRecDepth 3000 in
theorem getT_zero (q a n : Nat) : getT q 0 a n = 0 := by
  unfold getT
  split
  · unfold bitsAt; simp
  · rfl
set_option maxRecDepth 3000 in
theorem zero_rd (q : Nat) : WfM (rdP q 0) ∧ isM (rdM q 0) = false := by
  have hh : hW q 0 = 0 := by unfold hW; rw [getT_zero, getT_zero, getT_zero]; rfl
  have hs : lsM (hW q 0) = [] := by rw [hh]; rfl
  have hw : sW q 0 = [] := by unfold sW; rw [getT_zero, getT_zero, getT_zero]; rfl
  constructor
  · unfold rdP
    rw [hs]
    refine ⟨?_, ?_, ?_, ?_, ?_, ?_, ?_, ?_⟩
    · show getT q 0 5 40 < _; rw [getT_zero]; decide
    · show getT q 0 45 40 < _; rw [getT_zero]; decide
    · show getT q 0 85 40 < _; rw [getT_zero]; decide
    · show (if 118 ∈ ([] : List Nat) then getT q 0 (pw7 q 0 []) 40 else 0) < _; rw [if_neg (by decide)]; decide
    · show (if 110 ∈ ([] : List Nat) then txT q 0 (pw2 []) else (⟨#[]⟩ : ByteArray)).size ≤ 1000; rw [if_neg (by decide)]; decide
    · show (if 111 ∈ ([] : List Nat) then txT q 0 (pw3 q 0 []) else (⟨#[]⟩ : ByteArray)).size ≤ 1000; rw [if_neg (by decide)]; decide
    · show (if 116 ∈ ([] : List Nat) then txT q 0 (pw6 q 0 []) else (⟨#[]⟩ : ByteArray)).size ≤ 1000; rw [if_neg (by decide)]; decide
    · show (enW q 0 (pw8 q 0 [] + 5) (cntW q 0 [])).length ≤ 1000
      rw [enW_len]
      unfold cntW
      rw [if_neg (by decide)]
      decide
  · cases hi : isM (rdM q 0)
    · rfl
    · have h := (isM_hd hi)
      rw [show (rdM q 0).ty = ((getT q 0 0 2 : Nat) : Int) from rfl, getT_zero] at h
      omega
set_option maxRecDepth 3000 in
theorem zero_dec (n : Nat) : dcM (List.replicate n 0) = ms0 ∧ deM (List.replicate n 0) = if 2048 < n then 5 else 4 := by
  have hd : decM (List.replicate n 0) = none := by
    unfold decM
    rw [byN_zero, if_neg (fun h => by rw [(zero_rd _).2] at h; cases h.1)]
  unfold dcM deM
  rw [hd, List.length_replicate]
  constructor
  · split <;> rfl
  · rfl
set_option maxRecDepth 3000 in
theorem rd_zeros (w : World) (n : Nat) (hn : n ≤ 1000000) : Rd (w.alloc (.cells (madeCells #[.int .u8 0] n) 5)) 1 (.slice (some ⟨w.heap.size, 0, none⟩) n n) n ((List.replicate n 0).map u8) := by
  have h : (madeCells #[.int .u8 0] n).toList = (List.replicate n 0).map u8 := by rw [toList_madeCells_one, List.map_replicate]; rfl
  refine ⟨_, n, rfl, Nat.le_refl _, by unfold maxLen; omega, by simp, fun h => (by cases h), fun _ => ⟨_, rfl, by simp, fun j u hu => ?_⟩⟩
  rw [add_none, Nat.zero_add, (Blk.new w 5 _).cell, ← Array.getElem?_toList, h]
  exact hu
set_option maxRecDepth 3000 in
set_option maxHeartbeats 3200000 in
theorem long17_walk (w : World) (n0 : Int) (_ : (Lit.int .i64 n0).wf = true) : Calls Try.prog 10 #[.int .i64 n0] w fun e w' => e = .returned (.bool true) ∧ Below w.heap.size w w' := by
  have HIN := Lib.hid (within_any n0 2040 2060 w (by decide))
  have HLV := Lib.hid (fun w => lives17_any w)
  have HDEC := Lib.hid (fun (N : Nat) (hN : N ≤ 2060) (v : Value) (w' : World) (hr : Rd w' 1 v N ((List.replicate N 0).map u8)) => show Calls Try.prog 27 #[v] w' fun e w'' => ∃ A n c, e = .returned (.tuple #[.agg (mc ms0 (.slice A n c)), .int .i64 (if 2048 < N then 5 else 4)]) ∧ EnR7 w'' (.slice A n c) [] ∧ Adv Nul w' Nul w'' from (wdecode_any v (List.replicate N 0) w' (by rw [List.length_replicate]; exact hr) (fun x hx => by rw [(List.mem_replicate.1 hx).2]; decide) (by rw [List.length_replicate]; omega) (fun _ => by rw [byN_zero]; exact (zero_rd _).1)).mono fun e w'' ⟨v, h1, h2, h3⟩ => by
    rw [(zero_dec N).1] at h1 h2
    rw [(zero_dec N).2] at h1
    obtain ⟨A, c, hv, _⟩ := h2.form
    subst hv
    exact ⟨A, _, c, h1, h2, h3⟩)
  have HM := Lib.hid (fun (va : Value) (w' : World) (ha : EnR7 w' va []) => show Calls Try.prog 17 #[.agg (mc ms0 va), .agg (mc ms0 nilV)] w' fun e w'' => e = .returned (.bool true) ∧ Adv Nul w' Nul w'' by rw [← sameB_self ms0]; exact qsame16_any ms0 ms0 va nilV w' ha (EnO.nil _).rd)
  obtain ⟨Z, hZ⟩ : ∃ C, C = mc ms0 nilV := ⟨_, rfl⟩
  have HI := Lib.hid infoM
  have HZS := Lib.hid (show Z.size = 18 by rw [hZ]; rfl)
  have HBU := Lib.hid built_M0
  rw [← hZ] at HI HBU HM
  clear hZ
  go_enter Try.func10, Try.ntmps10
  go_upto_region 2 with (first
    | (go_at_call 19; refine HIN.out.mono ?_; clear HIN; rintro e w1 ⟨x, rfl, h1, h2, _, rfl⟩; obtain ⟨N, rfl⟩ := Int.eq_ofNat_of_zero_le (show 0 ≤ x by omega); have HN := Lib.hid (show 2040 ≤ N ∧ N ≤ 2060 by omega); clear h1 h2)
    | fail)
  have hmk := make_bytes N (by have := HN.out; omega)
  have HRZ := Lib.hid (rd_zeros w N (by have := HN.out; omega))
  have HAZ := Lib.hid ((Adv.refl Nul w).alloc (.cells (madeCells #[.int .u8 0] N) 5))
  generalize madeCells #[.int .u8 0] N = M at hmk HRZ HAZ
  have HD := Lib.hid (fun v w' hr => HDEC.out N HN.out.2 v w' hr)
  obtain ⟨E, hE⟩ : ∃ E : Int, E = if 2048 < N then 5 else 4 := ⟨_, rfl⟩
  have HE := Lib.hid hE
  rw [← hE] at HD
  clear hE HDEC
  by_cases hb : 2048 < N
  · obtain rfl : E = 5 := by rw [HE.out, if_pos hb]
    have hbi : (2048 : Int) < (N : Int) := by omega
    clear hb HE
    go_wp2_with (first
      | (go_at_call 27; refine (HD.out _ _ HRZ.out).mono ?_; clear HD; rintro e w4 ⟨A4, n4, c4, rfl, e4, a4⟩; have HMM := Lib.hid (fun w' h => HM.out (.slice A4 n4 c4) w' h); clear HM; obtain ⟨D, hD⟩ : ∃ D, D = mc ms0 (.slice A4 n4 c4) := ⟨_, rfl⟩; have HDS := Lib.hid (show D.size = 18 by rw [hD]; rfl); have HDO := Lib.hid (show D.all (·.oneCell') = true by rw [hD]; exact mc_one _ _ _ _); rw [← hD] at HMM ⊢; have HE4 := Lib.hid e4; have HA4 := Lib.hid (HAZ.out.trans a4); clear hD e4 a4)
      | (refine kop_alloc rfl rfl HI.out ?_; intro y w5 hz hb ha; have HY5 := Lib.hid hb; have HZ5 := Lib.hid (Nat.le_trans HA4.out.size hz); have HA5 := Lib.hid (HA4.out.trans ha); have HZ4 := Lib.hid hz; have H45 := Lib.hid ha; clear hz hb ha)
      | (refine kop_store rfl _ _ rfl y HY5.out rfl rfl sizeM HDS.out HZS.out HDO.out ?_; intro w6 hb ha; have HY6 := Lib.hid hb; have HA6 := Lib.hid (HA5.out.fresh HZ5.out ha); have HE6 := Lib.hid (HE4.out.box H45.out HZ4.out ha); clear hb ha)
      | (refine kw_loadC (t := 28) _ rfl rfl y HY6.out rfl Try.underlying28 rfl sizeM HDS.out ?_)
      | (refine kw_guardM rfl ?_; refine kop_zero HBU.out rfl rfl ?_)
      | (go_at_call 17; refine (HMM.out _ HE6.out).mono ?_; rintro e w7 ⟨rfl, a7⟩; have HA7 := Lib.hid (HA6.out.trans a7); clear a7)
      | (go_at_call 24; refine (HLV.out _).mono ?_; rintro e w8 ⟨rfl, a8⟩; have HA8 := Lib.hid (HA7.out.trans a8); clear a8)
      | fail)
    go_ret
    exact ⟨rfl, HA8.out.toBelow⟩
  · obtain rfl : E = 4 := by rw [HE.out, if_neg hb]
    have hbi : (N : Int) ≤ 2048 := by omega
    clear hb HE
    go_wp2_with (first
      | (go_at_call 27; refine (HD.out _ _ HRZ.out).mono ?_; clear HD; rintro e w4 ⟨A4, n4, c4, rfl, e4, a4⟩; have HMM := Lib.hid (fun w' h => HM.out (.slice A4 n4 c4) w' h); clear HM; obtain ⟨D, hD⟩ : ∃ D, D = mc ms0 (.slice A4 n4 c4) := ⟨_, rfl⟩; have HDS := Lib.hid (show D.size = 18 by rw [hD]; rfl); have HDO := Lib.hid (show D.all (·.oneCell') = true by rw [hD]; exact mc_one _ _ _ _); rw [← hD] at HMM ⊢; have HE4 := Lib.hid e4; have HA4 := Lib.hid (HAZ.out.trans a4); clear hD e4 a4)
      | (refine kop_alloc rfl rfl HI.out ?_; intro y w5 hz hb ha; have HY5 := Lib.hid hb; have HZ5 := Lib.hid (Nat.le_trans HA4.out.size hz); have HA5 := Lib.hid (HA4.out.trans ha); have HZ4 := Lib.hid hz; have H45 := Lib.hid ha; clear hz hb ha)
      | (refine kop_store rfl _ _ rfl y HY5.out rfl rfl sizeM HDS.out HZS.out HDO.out ?_; intro w6 hb ha; have HY6 := Lib.hid hb; have HA6 := Lib.hid (HA5.out.fresh HZ5.out ha); have HE6 := Lib.hid (HE4.out.box H45.out HZ4.out ha); clear hb ha)
      | (refine kw_loadC (t := 28) _ rfl rfl y HY6.out rfl Try.underlying28 rfl sizeM HDS.out ?_)
      | (refine kw_guardM rfl ?_; refine kop_zero HBU.out rfl rfl ?_)
      | (go_at_call 17; refine (HMM.out _ HE6.out).mono ?_; rintro e w7 ⟨rfl, a7⟩; have HA7 := Lib.hid (HA6.out.trans a7); clear a7)
      | (go_at_call 24; refine (HLV.out _).mono ?_; rintro e w8 ⟨rfl, a8⟩; have HA8 := Lib.hid (HA7.out.trans a8); clear a8)
      | fail)
    go_ret
    exact ⟨rfl, HA8.out.toBelow⟩
end Go.Proofs.Ytpgeebhepegpaaa
