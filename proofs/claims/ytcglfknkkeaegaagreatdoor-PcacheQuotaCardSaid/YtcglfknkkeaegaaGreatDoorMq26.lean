/- No more is kept than there are slots: the walk. -/
import Derived.Test.YtcglfknkkeaegaaGreatDoorMq25
namespace Go.Proofs.YtcglfknkkeaegaaGreatDoor
open Go.ChangeShapes Go.WideShapes Go.ChangeAt Go.RowKit Go.Maps
set_option maxHeartbeats 25600000 in
set_option maxRecDepth 30000 in
theorem quota15_walk (w : World) (hT : Tz w) (n : Int) (_ : (Lit.int .i64 n).wf = true) (v : Value) (hv : ∃ l, Rs15 w v l ∧ ∀ x ∈ l, Fit15 x) :
    Calls Tryz.prog 5 #[.int .i64 n, v] w fun e w' => e = .returned (.bool true) ∧ Below w.heap.size w w' := by
  obtain ⟨l0, hr0, hf0⟩ := hv
  have HFW := Lib.hid (show Calls Tryz.prog 8 #[v, .int .i64 60] w (FwR15 w 60) from few15_any v l0 60 (by decide) w hr0 hf0)
  have HWI := Lib.hid (fun V => within_any n 1 12 V (by decide))
  have HTZ := Lib.hid hT
  clear hr0 hf0 hT
  go_enter Tryz.func5, Tryz.ntmps5
  go_upto_region 3 with (first
    | (go_at_call 7; refine (HWI.out _).mono ?_; rintro e w1 ⟨y, rfl, y1, y2, -, rfl⟩; obtain ⟨m, rfl⟩ := Int.eq_ofNat_of_zero_le (show (0 : Int) ≤ y by omega); have HM := Lib.hid (show 1 ≤ m ∧ m ≤ 12 by omega); clear y1 y2)
    | (go_at_call 8; refine HFW.out.mono ?_; rintro e W ⟨v1, l, F1, rfl, hl, hok, hs, ha⟩; obtain ⟨A1, c1, rfl⟩ := hs.len_le; have HS1 := Lib.hid hs.rs15; have HA1 := Lib.hid ha.nul; have HOK := Lib.hid hok; have HLL := Lib.hid hl; clear hl hok hs ha)
    | fail)
  have HT1 := Lib.hid (HTZ.out.far HA1.out (fun x => x))
  have H01 := Lib.hid (show 0 < W.heap.size from Nat.lt_of_lt_of_le HTZ.out.lt HA1.out.size)
  obtain ⟨M, hMM⟩ : ∃ M, M = l.length := ⟨_, rfl⟩
  rw [← hMM] at HS1 HLL ⊢
  have HML := Lib.hid hMM
  have HNEW := Lib.hid (fun V => show Calls Tryz.prog 9 #[.int .i64 ((m : Int) + 24)] V fun e w' => ∃ d F, e = .returned (.tuple #[.pointer (some ⟨d, 0, none⟩), .int .i64 0]) ∧ Dk w' F d (m + 24) (newS (m + 24)) ∧ Adv Nul V F w' from by
    have h1 := HM.out
    have h2 := new_r (m + 24) (by omega) (by omega) V
    rwa [show ((m + 24 : Nat) : Int) = (m : Int) + 24 by omega] at h2)
  have HOP := Lib.hid (fun w1 d F (hd : Dk w1 F d (m + 24) (newS (m + 24))) (ha : Adv Nul W F w1) => show Calls Tryz.prog 10 #[.pointer (some ⟨d, 0, none⟩), .int .i64 20, .int .i64 (m : Int)] w1 fun e w' => ∃ c, e = .returned (.tuple #[.pointer (some ⟨c, 0, none⟩), .int .i64 0]) ∧ Gd W w' Nul d c 20 (m + 24) 0 (List.replicate m zeroT) (ldR (List.replicate m zeroT) m) 0 from Gd.new (W := W) (n := 20) (m := m) hd (fun j hj => by rcases ha.into j hj with x | x; exact x.elim; exact x) ha.nul (by have := HM.out; omega) HM.out (HT1.out.far (adv_wk (G := Nul) ha) (fun x => x)) H01.out)
  have hm12 : (m : Int) ≤ 12 := by have := HM.out; omega
  have hM60 : (M : Int) ≤ 60 := by have := HLL.out; omega
  clear hMM HWI HFW HTZ
  go_upto_region 8 with (first
    | (go_at_call 9; refine (HNEW.out _).mono ?_; rintro e w3 ⟨d, F, rfl, hd, ha⟩; have HD3 := Lib.hid hd; have HA3 := Lib.hid ha; clear hd ha)
    | (go_at_call 10; refine (HOP.out _ _ _ HD3.out HA3.out).mono ?_; rintro e w4 ⟨c, rfl, hs⟩; have HG4 := Lib.hid hs; clear hs HD3 HA3)
    | fail)
  clear HNEW HOP
  go_loopw [9] (QtR W d c m M) (fun t _ => M - (intOf t).toNat)
  case atStart => exact ⟨0, _, _, rfl, Nat.zero_le _, HG4.out, List.length_replicate⟩
  case round =>
    obtain ⟨i, L, R, rfl, hi, hg, hln⟩ := hrel
    have HG := Lib.hid hg
    have HLN := Lib.hid hln
    clear HG4
    by_cases hlt : i < M
    · have hil : i < l.length := by rw [← HML.out]; exact hlt
      obtain ⟨x, hx⟩ : ∃ x, x = l[i] := ⟨_, rfl⟩
      obtain ⟨b, o, hA, hbl, hrg⟩ := HS1.out.range HML.out hil
      rw [← hx] at hrg
      subst hA
      have hok := HOK.out x (by rw [hx]; exact List.getElem_mem hil)
      have HOKX := Lib.hid hok
      have HRG := Lib.hid (fun V (a : Adv Nul W Nul V) => range15_keep hrg (a.block b hbl (fun x => x)))
      have ck := row15_kind (HRG.out _ hg.adv)
      have HLT := Lib.hid hlt
      have HI2 := Lib.hid (show i + 1 ≤ M by omega)
      have hlt' : (i : Int) < (M : Int) := by omega
      obtain ⟨kind, hkd⟩ : ∃ k, k = x.kind := ⟨_, rfl⟩
      rw [← hkd] at ck
      by_cases hk0 : kind = 0
      · subst hk0
        have HDI := Lib.hid hg.dirty
        have hrp := hg.rg
        have HDP := Lib.hid (fun V Z (g : Gd W V Z d c 20 (m + 24) (2 * i) L R 0) => does15_put g (by have := HLL.out; omega) hok.2 hok.1 hkd.symm)
        obtain ⟨l10, hl10⟩ : ∃ l, l = allL L (fun x => x.d) := ⟨_, rfl⟩
        have HDY := Lib.hid (fun (y : Slt) (hy : y ∈ l10) => putA_dirty hrp x.x (by rw [← hl10]; exact hy))
        have HWY := Lib.hid (fun (y : Slt) (hy : y ∈ l10) => isT_wf (hrp.wl.is y ((all_mem hrp.wl).1 (by rw [← hl10]; exact hy)).1))
        obtain ⟨n10, hn10⟩ : ∃ n, n = l10.length := ⟨_, rfl⟩
        have hrpA := putA15_rg hrp x.x
        have hlnA := putA15_len L R x.x
        have hE : (putA15 L R x.x).e = 0 ∨ (putA15 L R x.x).e = 2 ∨ ((putA15 L R x.x).e = 8 ∧ n10 = m) := by
          rcases putA15_e hrp x.x with e | e | ⟨e, _⟩
          · exact .inl e
          · exact .inr (.inl e)
          · refine .inr (.inr ⟨e, ?_⟩)
            rw [hn10, hl10, putA_full hrp e, hln]
        obtain ⟨A, hA⟩ : ∃ A, A = putA15 L R x.x := ⟨_, rfl⟩
        rw [← hA] at HDP hrpA hlnA hE
        simp only [← hA] at HDY
        rw [← hl10] at HDI
        obtain ⟨L', R', e'⟩ := A
        simp only at hrpA hlnA hE HDY
        unfold PutR15 at HDP
        simp only at HDP
        have HLN' := Lib.hid (show L'.length = m from hlnA.trans hln)
        obtain ⟨l12, hl12⟩ : ∃ l, l = allL L' (fun _ => true) := ⟨_, rfl⟩
        have HO12 := Lib.hid (show ∀ k (h1 : k < l12.length) (h2 : k + 1 < l12.length), ordB (bkT l12[k]) (bkT l12[k + 1]) = -1 by rw [hl12]; exact fun k h1 h2 => all_sort hrpA.wl _ h1 h2)
        have HAL := Lib.hid (fun V Z (g : Gd W V Z d c 20 (m + 24) (2 * i + 2) L' R' 0) => g.all)
        rw [← hl12] at HAL
        obtain ⟨n12, hn12⟩ : ∃ n, n = l12.length := ⟨_, rfl⟩
        have h12 : (n12 : Int) ≤ (m : Int) := by
          have h1 := all_len L' (fun _ => true)
          have h2 := HLN'.out
          rw [hn12, hl12]
          omega
        have hn10m : (n10 : Int) ≤ 12 := by
          have h1 := all_len L (fun x => x.d)
          have h2 := HM.out
          rw [hn10, hl10]
          omega
        have HE := Lib.hid hE
        have HN10 := Lib.hid hn10
        have HN12 := Lib.hid hn12
        have HK2 := Lib.hid (show 2 * i + 2 = 2 * (i + 1) by omega)
        clear hil hx hrg hok hlt hi hg hln hkd hbl hrp hl10 hn10 hrpA hlnA hE hA hl12 hn12
        go_upto_region 15 with (first
          | (go_at_call 29; refine HDI.out.mono ?_; intro e w5 h5; obtain ⟨A10, c10, F10, rfl, t5, b5, a5⟩ := h5.tbx HN10.out; have HT5 := Lib.hid t5; have HG5 := Lib.hid ((HG.out.more a5 F10 b5).less (fun j hj => .inr hj)); clear h5 t5 b5 a5)
          | (refine gop_load (t := 43) (C := d15 x) rfl _ rfl b (HRG.out _ HG5.out.adv) rfl Tryz.underlying43 rfl size15 rfl ?_)
          | (go_at_call 15; refine (HDP.out _ _ HG5.out).mono ?_; rintro e w6 ⟨rfl, g6, k6⟩; have HG6 := Lib.hid g6; have HT6 := Lib.hid (HT5.out.keep k6); clear g6 k6)
          | (go_at_call 30; refine (HAL.out _ _ HG6.out).mono ?_; intro e w7 h7; obtain ⟨A12, c12, F12, rfl, t7, b7, a7⟩ := h7.tbx HN12.out; have HT12 := Lib.hid t7; have HB7 := Lib.hid b7; have HG7 := Lib.hid (HG6.out.step a7); have HT7 := Lib.hid (HT6.out.keep (HG6.out.kp a7)); clear h7 t7 b7 a7)
          | fail)
        clear HDI HDP HAL HT5 HT6 HG5 HG6
        go_cut [82] (fun t82 w9 => t82 = .bool false ∧ w7 = w9)
        case first =>
          rcases HE.out with he | he | ⟨he, hl⟩
          · subst he
            as_aux_lemma =>
              go_wp2_with fail
              go_meet
              exact ⟨by rw [decide_eq_false (by omega)], rfl⟩
          · subst he
            as_aux_lemma =>
              go_wp2_with fail
              go_meet
              exact ⟨by rw [decide_eq_false (by omega)], rfl⟩
          · subst he
            subst hl
            as_aux_lemma =>
              go_wp2_with fail
              go_meet
              exact ⟨by rw [decide_eq_false (by omega)], rfl⟩
        case rest =>
        obtain ⟨rfl, hw⟩ := hcut
        subst hw
        have hn12b : (n12 : Int) ≤ 12 := by omega
        clear HE h12
        go_wp2_with fail
        go_loopw [13] (QtO w7 n12) (fun t _ => n12 - (intOf t).toNat)
        case atStart => exact ⟨0, rfl, Nat.zero_le _, Adv.refl _ _⟩
        case round =>
          obtain ⟨k, rfl, hk, ha⟩ := hrel
          have HAK := Lib.hid ha
          by_cases hkn : k + 1 < n12
          · have hk1 : (k : Int) + 1 < (n12 : Int) := by omega
            have hk0 : (k : Int) < (n12 : Int) := by omega
            have hk2 : (0 : Int) ≤ (k : Int) + 1 := by omega
            have hwk : IntKind.i64.wrap (k : Int) = (k : Int) := by rw [IntKind.wrap_i64]; omega
            have hwk1 : IntKind.i64.wrap ((k : Int) + 1) = (k : Int) + 1 := by rw [IntKind.wrap_i64]; omega
            have HQ1 := Lib.hid (show k < l12.length by rw [← HN12.out]; omega)
            have HQ2 := Lib.hid (show k + 1 < l12.length by rw [← HN12.out]; exact hkn)
            obtain ⟨g, hA, -, hgl, hrow⟩ := (HT12.out.keep (fun z hz => ha.block z (HB7.out z hz).2 (fun x => x))).row (by rw [← HN12.out]; omega)
            subst hA
            have K0 := Lib.hid (show wr.drew.rangeAt g (k * 7 + 1) (bkc (bkT (l12[k]'HQ1.out))).toList ∧ wr.drew.rangeAt g ((k + 1) * 7 + 1) (bkc (bkT (l12[k + 1]'HQ2.out))).toList from ⟨row_bk (hrow k HQ1.out), row_bk (hrow (k + 1) HQ2.out)⟩)
            have HOR := Lib.hid (fun V => order_any (bkT (l12[k]'HQ1.out)) (bkT (l12[k + 1]'HQ2.out)) V)
            rw [HO12.out k HQ1.out HQ2.out] at HOR
            have HKN := Lib.hid hkn
            have HGL := Lib.hid (show g < wr.drew.heap.size from hgl)
            clear hk ha hkn hgl hrow
            go_upto_region 20 with (fail)
            refine rstart (S := (fun w' => w'.rangeAt g (k * 7 + 1) (bkc (bkT (l12[k]'HQ1.out))).toList ∧ w'.rangeAt g ((k + 1) * 7 + 1) (bkc (bkT (l12[k + 1]'HQ2.out))).toList)) (by first | with_reducible exact K1.out | with_reducible exact K0.out) (fun hH => ?_)
            refine tk (i := 0) (oi := ⟨some 89, .move (.tmp 12), 57, "law.go:221", #[], none⟩) hH.out (by rintro w ⟨s1, s2⟩; go_simp <;> with_reducible rfl) ?_
            simp only [Act.put, sA, sB, sC]
            refine tk (i := 1) (oi := ⟨some 90, .move (.tmp 13), 3, "law.go:221", #[], none⟩) hH.out (by rintro w ⟨s1, s2⟩; go_simp <;> with_reducible rfl) ?_
            simp only [Act.put, sA, sB, sC]
            refine tk (i := 2) (oi := ⟨some 91, .binOp .sub 3 (.tmp 90) (.const (Go.Value.int Go.IntKind.i64 1)) 3, 3, "law.go:221", #[⟨1, .data⟩], none⟩) hH.out (by rintro w ⟨s1, s2⟩; go_simp <;> with_reducible rfl) ?_
            simp only [Act.put, sA, sB, sC]
            refine tk (i := 3) (oi := ⟨some 92, .indexAddr 57 (.tmp 89) (.tmp 91), 0, "law.go:221", #[⟨0, .data⟩, ⟨2, .data⟩], none⟩) hH.out (by rintro w ⟨s1, s2⟩; go_simp <;> with_reducible rfl) ?_
            simp only [Act.put, sA, sB, sC]
            refine tk (i := 4) (oi := ⟨some 93, .fieldAddr 44 (.tmp 92) 1, 0, "law.go:221", #[⟨3, .data⟩], none⟩) hH.out (by rintro w ⟨s1, s2⟩; go_simp <;> with_reducible rfl) ?_
            simp only [Act.put, sA, sB, sC]
            refine wpAnyH_take (i := 5) (oi := ⟨some 94, .load 37 (.tmp 93), 37, "law.go:221", #[⟨4, .data⟩], none⟩) (v := .agg (bkc (bkT (l12[k]'HQ1.out)))) rfl (by kernel_rfl) (by kernel_rfl) (by kernel_rfl) (fun _ _ _ h => h) (gyl_load rfl (.tmp 93) rfl g rfl (fun _ h => h.1) Tryz.underlying37 rfl sizeBk rfl) hH.out ?_
            simp only [Act.put, sA, sB, sC]
            refine tk (i := 6) (oi := ⟨some 95, .move (.tmp 12), 57, "law.go:221", #[], none⟩) hH.out (by rintro w ⟨s1, s2⟩; go_simp <;> with_reducible rfl) ?_
            simp only [Act.put, sA, sB, sC]
            refine tk (i := 7) (oi := ⟨some 96, .move (.tmp 13), 3, "law.go:221", #[], none⟩) hH.out (by rintro w ⟨s1, s2⟩; go_simp <;> with_reducible rfl) ?_
            simp only [Act.put, sA, sB, sC]
            refine tk (i := 8) (oi := ⟨some 97, .indexAddr 57 (.tmp 95) (.tmp 96), 0, "law.go:221", #[⟨6, .data⟩, ⟨7, .data⟩], none⟩) hH.out (by rintro w ⟨s1, s2⟩; go_simp <;> with_reducible rfl) ?_
            simp only [Act.put, sA, sB, sC]
            refine tk (i := 9) (oi := ⟨some 98, .fieldAddr 44 (.tmp 97) 1, 0, "law.go:221", #[⟨8, .data⟩], none⟩) hH.out (by rintro w ⟨s1, s2⟩; go_simp <;> with_reducible rfl) ?_
            simp only [Act.put, sA, sB, sC]
            refine wpAnyH_take (i := 10) (oi := ⟨some 99, .load 37 (.tmp 98), 37, "law.go:221", #[⟨9, .data⟩], none⟩) (v := .agg (bkc (bkT (l12[k + 1]'HQ2.out)))) rfl (by kernel_rfl) (by kernel_rfl) (by kernel_rfl) (fun _ _ _ h => h) (gyl_load rfl (.tmp 98) rfl g rfl (fun _ h => h.2) Tryz.underlying37 rfl sizeBk rfl) hH.out ?_
            simp only [Act.put, sA, sB, sC]
            refine rdy (i := 11) (oi := ⟨some 100, .call ⟨.value (.func 31), #[.tmp 94, .tmp 99], #[37, 37]⟩, 3, "law.go:221", #[⟨5, .data⟩, ⟨10, .data⟩], none⟩) (fun K hK => ?_)
            go_simp
            refine (HOR.out _).mono ?_
            rintro e w8 ⟨rfl, a8⟩
            have HA8 := Lib.hid (Adv.of_drew a8)
            have K1 := Lib.hid (show w8.rangeAt g (k * 7 + 1) (bkc (bkT (l12[k]'HQ1.out))).toList ∧ w8.rangeAt g ((k + 1) * 7 + 1) (bkc (bkT (l12[k + 1]'HQ2.out))).toList from ⟨range15_keep K0.out.1 (a8.block g HGL.out (fun x => x)), range15_keep K0.out.2 (a8.block g HGL.out (fun x => x))⟩)
            clear a8
            go_wp2_with fail
            refine hK.out _ _ (by first | with_reducible exact K1.out | with_reducible exact K0.out) (fun hHeld => ?_)
            replace hH := Lib.hid hHeld
            clear hK K hHeld
            try simp only [Act.put, sA, sB, sC]
            refine tk (i := 12) (oi := ⟨some 101, .binOp .geq 3 (.tmp 100) (.const (Go.Value.int Go.IntKind.i64 0)) 3, 4, "law.go:221", #[⟨11, .data⟩], none⟩) hH.out (by rintro w ⟨s1, s2⟩; go_simp <;> with_reducible rfl) ?_
            simp only [Act.put, sA, sB, sC]
            refine wpAnyH_done (by kernel_rfl) ?_ _
            go_wp2_with fail
            have h1 := HKN.out
            exact ⟨⟨k + 1, by go_num, by omega, HAK.out.trans HA8.out⟩, by simp [intOf]; omega⟩
          · have HG8 := Lib.hid (HG7.out.step ha)
            have HT8 := Lib.hid (HT7.out.keep (HG7.out.kp ha))
            have hkf : ¬ (k : Int) + 1 < (n12 : Int) := by omega
            clear hk hkn ha HAK HO12 HT12 HB7 HG7 HT7 HN12
            go_wp2_with fail
            go_loopw [14] (QtP W wr d c m (2 * i + 2) n10 L' F10) (fun t _ => n10 - (intOf t).toNat)
            case atStart => exact ⟨0, _, rfl, Nat.zero_le _, HG8.out, fun z hz => rfl⟩
            case round =>
              obtain ⟨j, R2, rfl, hj, hg, hkp⟩ := hrel
              have HG9 := Lib.hid hg
              have HKP := Lib.hid hkp
              by_cases hjn : j < n10
              · have hjn' : (j : Int) < (n10 : Int) := by omega
                have hjl : j < l10.length := by rw [← HN10.out]; exact hjn
                obtain ⟨g, hA, hFg, hgl, hrow⟩ := (HT8.out.keep hkp).row (by rw [← HN10.out]; omega)
                subst hA
                obtain ⟨y, hy⟩ : ∃ y, y = l10[j] := ⟨_, rfl⟩
                have hym : y ∈ l10 := by rw [hy]; exact List.getElem_mem hjl
                have hrw := hrow j hjl
                rw [← hy] at hrw
                obtain ⟨hat, hval⟩ := HDY.out y hym
                have hwy := HWY.out y hym
                have HGE := Lib.hid (fun V (q : Gd W V F10 d c 20 (m + 24) (2 * i + 2) L' R2 0) => q.get_y hwy.b hat)
                obtain ⟨val, hv⟩ : ∃ v, v = valL L' (bkT y) := ⟨_, rfl⟩
                rw [← hv] at hval HGE
                have HRW := Lib.hid hrw
                have HVAL := Lib.hid hval
                have HFG := Lib.hid hFg
                have HJN := Lib.hid hjn
                have HYW := Lib.hid hwy
                clear hj hg hkp hjn hjl hFg hgl hrow hy hym hrw hat hval hwy hv
                go_upto_region 26 with (first
                  | (refine gop_load (t := 37) (C := bkc (bkT y)) rfl _ rfl g (row_bk HRW.out) rfl Tryz.underlying37 rfl sizeBk rfl ?_)
                  | (go_at_call 12; refine (HGE.out _ HG9.out).mono ?_; rintro e wa ⟨rfl, ⟨Ra, ga⟩, ka⟩; have HGA := Lib.hid ga; have HRA := Lib.hid (range15_keep HRW.out (ka g HFG.out)); have HKA := Lib.hid (HKP.out.trans ka); clear ga ka)
                  | (refine kop_alloc rfl rfl infoT ?_; intro z wb hz hb ha; have HZ := Lib.hid hz; have HBZ := Lib.hid hb; have HAB := Lib.hid ha; clear hz hb ha)
                  | (refine kop_store rfl _ _ rfl z HBZ.out rfl rfl sizeT (tc_size _) (tc_size _) (tc_one _) ?_; intro wd hb ha; have HBD := Lib.hid hb; have HAD := Lib.hid (HAB.out.fresh HZ.out ha); clear hb ha)
                  | fail)
                have HGD := Lib.hid (HGA.out.step HAD.out)
                have HKD := Lib.hid (HKA.out.trans (HGA.out.kp HAD.out))
                have HRD := Lib.hid (range15_keep HRA.out (HGA.out.kp HAD.out g HFG.out))
                have HBR := Lib.hid (row15_bk (HRG.out _ HGD.out.adv))
                have K0 := Lib.hid (show (wd.drew.rangeAt g (j * 7) (tc y).toList ∧ wd.drew.rangeAt b (o + i * 11 + 3) (bkc (bkT x.x)).toList) ∧ Blk wd.drew z 44 (tc val) from ⟨⟨HRD.out, HBR.out⟩, HBD.out⟩)
                by_cases hb : bkT y = bkT x.x
                · have HEB := Lib.hid (fun W' => (eq15_bk (bkT y) (bkT x.x) HYW.out.b HOKX.out.2.b W').trans (by rw [decide_eq_true hb]))
                  clear hb
                  refine rstart (S := (fun w' => (w'.rangeAt g (j * 7) (tc y).toList ∧ w'.rangeAt b (o + i * 11 + 3) (bkc (bkT x.x)).toList) ∧ Blk w' z 44 (tc val))) (by first | with_reducible exact K0.out) (fun hH => ?_)
                  refine tk (i := 0) (oi := ⟨some 118, .move (.tmp 16), 4, "law.go:227", #[], none⟩) hH.out (by rintro w ⟨⟨s1, s2⟩, s3⟩; go_simp <;> with_reducible rfl) ?_
                  simp only [Act.put, sA, sB, sC]
                  refine tk (i := 1) (oi := ⟨some 119, .unOp .not 4 (.tmp 118), 4, "law.go:227", #[⟨0, .data⟩], none⟩) hH.out (by rintro w ⟨⟨s1, s2⟩, s3⟩; go_simp <;> with_reducible rfl) ?_
                  simp only [Act.put, sA, sB, sC]
                  refine tk (i := 2) (oi := ⟨some 120, .move (.tmp 119), 4, "law.go:227", #[⟨1, .data⟩], none⟩) hH.out (by rintro w ⟨⟨s1, s2⟩, s3⟩; go_simp <;> with_reducible rfl) ?_
                  simp only [Act.put, sA, sB, sC]
                  refine tk (i := 3) (oi := { dst := some 121, op := .move (.tmp 10), type := 57, pos := "law.go:227", after := #[⟨2, .guard⟩], guard := some (2, false) }) hH.out (by rintro w ⟨⟨s1, s2⟩, s3⟩; go_simp <;> with_reducible rfl) ?_
                  simp only [Act.put, sA, sB, sC]
                  refine tk (i := 4) (oi := { dst := some 122, op := .move (.tmp 14), type := 3, pos := "law.go:227", after := #[⟨2, .guard⟩], guard := some (2, false) }) hH.out (by rintro w ⟨⟨s1, s2⟩, s3⟩; go_simp <;> with_reducible rfl) ?_
                  simp only [Act.put, sA, sB, sC]
                  refine tk (i := 5) (oi := { dst := some 123, op := .indexAddr 57 (.tmp 121) (.tmp 122), type := 0, pos := "law.go:227", after := #[⟨3, .data⟩, ⟨4, .data⟩, ⟨2, .guard⟩], guard := some (2, false) }) hH.out (by rintro w ⟨⟨s1, s2⟩, s3⟩; go_simp <;> with_reducible rfl) ?_
                  simp only [Act.put, sA, sB, sC]
                  refine tk (i := 6) (oi := { dst := some 124, op := .fieldAddr 44 (.tmp 123) 1, type := 0, pos := "law.go:227", after := #[⟨5, .data⟩, ⟨2, .guard⟩], guard := some (2, false) }) hH.out (by rintro w ⟨⟨s1, s2⟩, s3⟩; go_simp <;> with_reducible rfl) ?_
                  simp only [Act.put, sA, sB, sC]
                  refine wpAnyH_take (i := 7) (oi := { dst := some 125, op := .load 37 (.tmp 124), type := 37, pos := "law.go:227", after := #[⟨6, .data⟩, ⟨2, .guard⟩], guard := some (2, false) }) (v := .agg (bkc (bkT y))) rfl (by kernel_rfl) (by kernel_rfl) (by kernel_rfl) (fun _ _ _ h => h) (gyl_load rfl (.tmp 124) rfl g rfl (fun _ h => row_bk h.1.1) Tryz.underlying37 rfl sizeBk rfl) hH.out ?_
                  simp only [Act.put, sA, sB, sC]
                  refine tk (i := 8) (oi := { dst := some 126, op := .move (.tmp 1), type := 22, pos := "law.go:227", after := #[⟨2, .guard⟩], guard := some (2, false) }) hH.out (by rintro w ⟨⟨s1, s2⟩, s3⟩; go_simp <;> with_reducible rfl) ?_
                  simp only [Act.put, sA, sB, sC]
                  refine tk (i := 9) (oi := { dst := some 127, op := .move (.tmp 9), type := 3, pos := "law.go:227", after := #[⟨2, .guard⟩], guard := some (2, false) }) hH.out (by rintro w ⟨⟨s1, s2⟩, s3⟩; go_simp <;> with_reducible rfl) ?_
                  simp only [Act.put, sA, sB, sC]
                  refine tk (i := 10) (oi := { dst := some 128, op := .indexAddr 22 (.tmp 126) (.tmp 127), type := 0, pos := "law.go:227", after := #[⟨8, .data⟩, ⟨9, .data⟩, ⟨2, .guard⟩], guard := some (2, false) }) hH.out (by rintro w ⟨⟨s1, s2⟩, s3⟩; go_simp <;> with_reducible rfl) ?_
                  simp only [Act.put, sA, sB, sC]
                  refine tk (i := 11) (oi := { dst := some 129, op := .fieldAddr 43 (.tmp 128) 2, type := 0, pos := "law.go:227", after := #[⟨10, .data⟩, ⟨2, .guard⟩], guard := some (2, false) }) hH.out (by rintro w ⟨⟨s1, s2⟩, s3⟩; go_simp <;> with_reducible rfl) ?_
                  simp only [Act.put, sA, sB, sC]
                  refine tk (i := 12) (oi := { dst := some 130, op := .fieldAddr 40 (.tmp 129) 1, type := 0, pos := "law.go:227", after := #[⟨11, .data⟩, ⟨2, .guard⟩], guard := some (2, false) }) hH.out (by rintro w ⟨⟨s1, s2⟩, s3⟩; go_simp <;> with_reducible rfl) ?_
                  simp only [Act.put, sA, sB, sC]
                  refine wpAnyH_take (i := 13) (oi := { dst := some 131, op := .load 37 (.tmp 130), type := 37, pos := "law.go:227", after := #[⟨12, .data⟩, ⟨2, .guard⟩], guard := some (2, false) }) (v := .agg (bkc (bkT x.x))) rfl (by kernel_rfl) (by kernel_rfl) (by kernel_rfl) (fun _ _ _ h => h) (gyl_load rfl (.tmp 130) rfl b rfl (fun _ h => h.1.2) Tryz.underlying37 rfl sizeBk rfl) hH.out ?_
                  simp only [Act.put, sA, sB, sC]
                  refine wpAnyH_take (i := 14) (oi := { dst := some 132, op := .binOp .neq 37 (.tmp 125) (.tmp 131) 37, type := 4, pos := "law.go:227", after := #[⟨7, .data⟩, ⟨13, .data⟩, ⟨2, .guard⟩], guard := some (2, false) }) (v := .bool (!true)) rfl (by kernel_rfl) (by kernel_rfl) (by kernel_rfl) (fun _ _ _ h => h) (kyl_neqs HEB.out guard15B rfl (.tmp 125) (.tmp 131) rfl rfl rfl) hH.out ?_
                  simp only [Act.put, sA, sB, sC]
                  refine tk (i := 15) (oi := { dst := some 133, op := .move (.tmp 132), type := 4, pos := "law.go:227", after := #[⟨14, .data⟩, ⟨2, .chain⟩, ⟨2, .guard⟩], guard := some (2, false) }) hH.out (by rintro w ⟨⟨s1, s2⟩, s3⟩; go_simp <;> with_reducible rfl) ?_
                  simp only [Act.put, sA, sB, sC]
                  refine tks (i := 16) (oi := { dst := some 134, op := .load 44 (.tmp 15), type := 44, pos := "law.go:227", after := #[⟨15, .guard⟩], guard := some (15, true) }) hH.out ?_
                  try simp only [Act.put, sA, sB, sC]
                  refine tks (i := 17) (oi := { dst := some 135, op := .move (.tmp 10), type := 57, pos := "law.go:227", after := #[⟨15, .guard⟩], guard := some (15, true) }) hH.out ?_
                  try simp only [Act.put, sA, sB, sC]
                  refine tks (i := 18) (oi := { dst := some 136, op := .move (.tmp 14), type := 3, pos := "law.go:227", after := #[⟨15, .guard⟩], guard := some (15, true) }) hH.out ?_
                  try simp only [Act.put, sA, sB, sC]
                  refine tks (i := 19) (oi := { dst := some 137, op := .indexAddr 57 (.tmp 135) (.tmp 136), type := 0, pos := "law.go:227", after := #[⟨17, .data⟩, ⟨18, .data⟩, ⟨15, .guard⟩], guard := some (15, true) }) hH.out ?_
                  try simp only [Act.put, sA, sB, sC]
                  refine tks (i := 20) (oi := { dst := some 138, op := .load 44 (.tmp 137), type := 44, pos := "law.go:227", after := #[⟨19, .data⟩, ⟨15, .guard⟩], guard := some (15, true) }) hH.out ?_
                  try simp only [Act.put, sA, sB, sC]
                  refine tks (i := 21) (oi := { dst := some 139, op := .binOp .neq 44 (.tmp 134) (.tmp 138) 44, type := 4, pos := "law.go:227", after := #[⟨16, .data⟩, ⟨20, .data⟩, ⟨15, .guard⟩], guard := some (15, true) }) hH.out ?_
                  try simp only [Act.put, sA, sB, sC]
                  refine tk (i := 22) (oi := { dst := some 140, op := .pick (.tmp 133) (.tmp 139) (.const (Go.Value.bool false)), type := 4, pos := "law.go:227", after := #[⟨15, .data⟩, ⟨21, .data⟩, ⟨2, .guard⟩], guard := some (2, false) }) hH.out (by rintro w ⟨⟨s1, s2⟩, s3⟩; go_simp <;> with_reducible rfl) ?_
                  simp only [Act.put, sA, sB, sC]
                  refine tk (i := 23) (oi := ⟨some 141, .pick (.tmp 120) (.const (Go.Value.bool true)) (.tmp 140), 4, "law.go:227", #[⟨2, .data⟩, ⟨22, .data⟩], none⟩) hH.out (by rintro w ⟨⟨s1, s2⟩, s3⟩; go_simp <;> with_reducible rfl) ?_
                  simp only [Act.put, sA, sB, sC]
                  refine wpAnyH_done (by kernel_rfl) ?_ _
                  go_wp2_with fail
                  have h1 := HJN.out
                  exact ⟨⟨j + 1, _, by go_num, by omega, HGD.out.step (Adv.refl Nul _).drew, HKD.out⟩, by simp [intOf]; omega⟩
                · have hvy := HVAL.out.resolve_left hb
                  subst hvy
                  have HEB := Lib.hid (fun W' => (eq15_bk (bkT val) (bkT x.x) HYW.out.b HOKX.out.2.b W').trans (by rw [decide_eq_false hb]))
                  have HES := Lib.hid (fun W' => (eq_tslot val val HYW.out HYW.out W').trans (by rw [decide_eq_true rfl]))
                  clear hb
                  refine rstart (S := (fun w' => (w'.rangeAt g (j * 7) (tc val).toList ∧ w'.rangeAt b (o + i * 11 + 3) (bkc (bkT x.x)).toList) ∧ Blk w' z 44 (tc val))) (by first | with_reducible exact K0.out) (fun hH => ?_)
                  refine tk (i := 0) (oi := ⟨some 118, .move (.tmp 16), 4, "law.go:227", #[], none⟩) hH.out (by rintro w ⟨⟨s1, s2⟩, s3⟩; go_simp <;> with_reducible rfl) ?_
                  simp only [Act.put, sA, sB, sC]
                  refine tk (i := 1) (oi := ⟨some 119, .unOp .not 4 (.tmp 118), 4, "law.go:227", #[⟨0, .data⟩], none⟩) hH.out (by rintro w ⟨⟨s1, s2⟩, s3⟩; go_simp <;> with_reducible rfl) ?_
                  simp only [Act.put, sA, sB, sC]
                  refine tk (i := 2) (oi := ⟨some 120, .move (.tmp 119), 4, "law.go:227", #[⟨1, .data⟩], none⟩) hH.out (by rintro w ⟨⟨s1, s2⟩, s3⟩; go_simp <;> with_reducible rfl) ?_
                  simp only [Act.put, sA, sB, sC]
                  refine tk (i := 3) (oi := { dst := some 121, op := .move (.tmp 10), type := 57, pos := "law.go:227", after := #[⟨2, .guard⟩], guard := some (2, false) }) hH.out (by rintro w ⟨⟨s1, s2⟩, s3⟩; go_simp <;> with_reducible rfl) ?_
                  simp only [Act.put, sA, sB, sC]
                  refine tk (i := 4) (oi := { dst := some 122, op := .move (.tmp 14), type := 3, pos := "law.go:227", after := #[⟨2, .guard⟩], guard := some (2, false) }) hH.out (by rintro w ⟨⟨s1, s2⟩, s3⟩; go_simp <;> with_reducible rfl) ?_
                  simp only [Act.put, sA, sB, sC]
                  refine tk (i := 5) (oi := { dst := some 123, op := .indexAddr 57 (.tmp 121) (.tmp 122), type := 0, pos := "law.go:227", after := #[⟨3, .data⟩, ⟨4, .data⟩, ⟨2, .guard⟩], guard := some (2, false) }) hH.out (by rintro w ⟨⟨s1, s2⟩, s3⟩; go_simp <;> with_reducible rfl) ?_
                  simp only [Act.put, sA, sB, sC]
                  refine tk (i := 6) (oi := { dst := some 124, op := .fieldAddr 44 (.tmp 123) 1, type := 0, pos := "law.go:227", after := #[⟨5, .data⟩, ⟨2, .guard⟩], guard := some (2, false) }) hH.out (by rintro w ⟨⟨s1, s2⟩, s3⟩; go_simp <;> with_reducible rfl) ?_
                  simp only [Act.put, sA, sB, sC]
                  refine wpAnyH_take (i := 7) (oi := { dst := some 125, op := .load 37 (.tmp 124), type := 37, pos := "law.go:227", after := #[⟨6, .data⟩, ⟨2, .guard⟩], guard := some (2, false) }) (v := .agg (bkc (bkT val))) rfl (by kernel_rfl) (by kernel_rfl) (by kernel_rfl) (fun _ _ _ h => h) (gyl_load rfl (.tmp 124) rfl g rfl (fun _ h => row_bk h.1.1) Tryz.underlying37 rfl sizeBk rfl) hH.out ?_
                  simp only [Act.put, sA, sB, sC]
                  refine tk (i := 8) (oi := { dst := some 126, op := .move (.tmp 1), type := 22, pos := "law.go:227", after := #[⟨2, .guard⟩], guard := some (2, false) }) hH.out (by rintro w ⟨⟨s1, s2⟩, s3⟩; go_simp <;> with_reducible rfl) ?_
                  simp only [Act.put, sA, sB, sC]
                  refine tk (i := 9) (oi := { dst := some 127, op := .move (.tmp 9), type := 3, pos := "law.go:227", after := #[⟨2, .guard⟩], guard := some (2, false) }) hH.out (by rintro w ⟨⟨s1, s2⟩, s3⟩; go_simp <;> with_reducible rfl) ?_
                  simp only [Act.put, sA, sB, sC]
                  refine tk (i := 10) (oi := { dst := some 128, op := .indexAddr 22 (.tmp 126) (.tmp 127), type := 0, pos := "law.go:227", after := #[⟨8, .data⟩, ⟨9, .data⟩, ⟨2, .guard⟩], guard := some (2, false) }) hH.out (by rintro w ⟨⟨s1, s2⟩, s3⟩; go_simp <;> with_reducible rfl) ?_
                  simp only [Act.put, sA, sB, sC]
                  refine tk (i := 11) (oi := { dst := some 129, op := .fieldAddr 43 (.tmp 128) 2, type := 0, pos := "law.go:227", after := #[⟨10, .data⟩, ⟨2, .guard⟩], guard := some (2, false) }) hH.out (by rintro w ⟨⟨s1, s2⟩, s3⟩; go_simp <;> with_reducible rfl) ?_
                  simp only [Act.put, sA, sB, sC]
                  refine tk (i := 12) (oi := { dst := some 130, op := .fieldAddr 40 (.tmp 129) 1, type := 0, pos := "law.go:227", after := #[⟨11, .data⟩, ⟨2, .guard⟩], guard := some (2, false) }) hH.out (by rintro w ⟨⟨s1, s2⟩, s3⟩; go_simp <;> with_reducible rfl) ?_
                  simp only [Act.put, sA, sB, sC]
                  refine wpAnyH_take (i := 13) (oi := { dst := some 131, op := .load 37 (.tmp 130), type := 37, pos := "law.go:227", after := #[⟨12, .data⟩, ⟨2, .guard⟩], guard := some (2, false) }) (v := .agg (bkc (bkT x.x))) rfl (by kernel_rfl) (by kernel_rfl) (by kernel_rfl) (fun _ _ _ h => h) (gyl_load rfl (.tmp 130) rfl b rfl (fun _ h => h.1.2) Tryz.underlying37 rfl sizeBk rfl) hH.out ?_
                  simp only [Act.put, sA, sB, sC]
                  refine wpAnyH_take (i := 14) (oi := { dst := some 132, op := .binOp .neq 37 (.tmp 125) (.tmp 131) 37, type := 4, pos := "law.go:227", after := #[⟨7, .data⟩, ⟨13, .data⟩, ⟨2, .guard⟩], guard := some (2, false) }) (v := .bool (!false)) rfl (by kernel_rfl) (by kernel_rfl) (by kernel_rfl) (fun _ _ _ h => h) (kyl_neqs HEB.out guard15B rfl (.tmp 125) (.tmp 131) rfl rfl rfl) hH.out ?_
                  simp only [Act.put, sA, sB, sC]
                  refine tk (i := 15) (oi := { dst := some 133, op := .move (.tmp 132), type := 4, pos := "law.go:227", after := #[⟨14, .data⟩, ⟨2, .chain⟩, ⟨2, .guard⟩], guard := some (2, false) }) hH.out (by rintro w ⟨⟨s1, s2⟩, s3⟩; go_simp <;> with_reducible rfl) ?_
                  simp only [Act.put, sA, sB, sC]
                  refine wpAnyH_take (i := 16) (oi := { dst := some 134, op := .load 44 (.tmp 15), type := 44, pos := "law.go:227", after := #[⟨15, .guard⟩], guard := some (15, true) }) (v := .agg (tc val)) rfl (by kernel_rfl) (by kernel_rfl) (by kernel_rfl) (fun _ _ _ h => h) (kyl_load rfl (.tmp 15) rfl z rfl (fun _ h => h.2) Tryz.underlying44 rfl sizeT (tc_size _)) hH.out ?_
                  simp only [Act.put, sA, sB, sC]
                  refine tk (i := 17) (oi := { dst := some 135, op := .move (.tmp 10), type := 57, pos := "law.go:227", after := #[⟨15, .guard⟩], guard := some (15, true) }) hH.out (by rintro w ⟨⟨s1, s2⟩, s3⟩; go_simp <;> with_reducible rfl) ?_
                  simp only [Act.put, sA, sB, sC]
                  refine tk (i := 18) (oi := { dst := some 136, op := .move (.tmp 14), type := 3, pos := "law.go:227", after := #[⟨15, .guard⟩], guard := some (15, true) }) hH.out (by rintro w ⟨⟨s1, s2⟩, s3⟩; go_simp <;> with_reducible rfl) ?_
                  simp only [Act.put, sA, sB, sC]
                  refine tk (i := 19) (oi := { dst := some 137, op := .indexAddr 57 (.tmp 135) (.tmp 136), type := 0, pos := "law.go:227", after := #[⟨17, .data⟩, ⟨18, .data⟩, ⟨15, .guard⟩], guard := some (15, true) }) hH.out (by rintro w ⟨⟨s1, s2⟩, s3⟩; go_simp <;> with_reducible rfl) ?_
                  simp only [Act.put, sA, sB, sC]
                  refine wpAnyH_take (i := 20) (oi := { dst := some 138, op := .load 44 (.tmp 137), type := 44, pos := "law.go:227", after := #[⟨19, .data⟩, ⟨15, .guard⟩], guard := some (15, true) }) (v := .agg (tc val)) rfl (by kernel_rfl) (by kernel_rfl) (by kernel_rfl) (fun _ _ _ h => h) (gyl_load rfl (.tmp 137) rfl g rfl (fun _ h => h.1.1) Tryz.underlying44 rfl sizeT (tc_size _)) hH.out ?_
                  simp only [Act.put, sA, sB, sC]
                  refine wpAnyH_take (i := 21) (oi := { dst := some 139, op := .binOp .neq 44 (.tmp 134) (.tmp 138) 44, type := 4, pos := "law.go:227", after := #[⟨16, .data⟩, ⟨20, .data⟩, ⟨15, .guard⟩], guard := some (15, true) }) (v := .bool (!true)) rfl (by kernel_rfl) (by kernel_rfl) (by kernel_rfl) (fun _ _ _ h => h) (kyl_neqs HES.out guardT rfl (.tmp 134) (.tmp 138) rfl rfl rfl) hH.out ?_
                  simp only [Act.put, sA, sB, sC]
                  refine tk (i := 22) (oi := { dst := some 140, op := .pick (.tmp 133) (.tmp 139) (.const (Go.Value.bool false)), type := 4, pos := "law.go:227", after := #[⟨15, .data⟩, ⟨21, .data⟩, ⟨2, .guard⟩], guard := some (2, false) }) hH.out (by rintro w ⟨⟨s1, s2⟩, s3⟩; go_simp <;> with_reducible rfl) ?_
                  simp only [Act.put, sA, sB, sC]
                  refine tk (i := 23) (oi := ⟨some 141, .pick (.tmp 120) (.const (Go.Value.bool true)) (.tmp 140), 4, "law.go:227", #[⟨2, .data⟩, ⟨22, .data⟩], none⟩) hH.out (by rintro w ⟨⟨s1, s2⟩, s3⟩; go_simp <;> with_reducible rfl) ?_
                  simp only [Act.put, sA, sB, sC]
                  refine wpAnyH_done (by kernel_rfl) ?_ _
                  go_wp2_with fail
                  have h1 := HJN.out
                  exact ⟨⟨j + 1, _, by go_num, by omega, HGD.out.step (Adv.refl Nul _).drew, HKD.out⟩, by simp [intOf]; omega⟩
              · obtain rfl : j = n10 := by omega
                clear hj hg hkp hjn
                go_wp2_with fail
                exact ⟨⟨i + 1, L', R2, by go_num, HI2.out, by rw [← HK2.out]; exact HG9.out.less (fun z hz => hz.elim), HLN'.out⟩, by have := HLT.out; simp [intOf] <;> omega⟩
      · clear hil hx hrg hok hlt hi hg hln hkd hbl
        have hkf : (kind == 0) = false := by rw [beq_eq_false_iff_ne]; exact hk0
        clear hk0
        go_wp2_with (first
          | (refine gop_load (t := 37) (C := bkc (bkT x.x)) rfl _ rfl b (row15_bk (HRG.out _ HG.out.adv)) rfl Tryz.underlying37 rfl sizeBk rfl ?_)
          | (go_at_call 12; refine (HG.out.get_x HOKX.out.2.b).mono ?_; rintro e w5 ⟨⟨v5, rfl⟩, ⟨R5, g5⟩⟩; have HG5 := Lib.hid g5; clear g5)
          | fail)
        exact ⟨⟨i + 1, L, R5, by go_num, HI2.out, HG5.out.up (by omega), HLN.out⟩, by have := HLT.out; simp [intOf] <;> omega⟩
    · obtain rfl : i = M := by omega
      clear hlt hi hg hln
      have HTE := Lib.hid (HT1.out.far HG.out.adv (fun x => x))
      go_wp2_with (first
        | (go_at_call 23; refine (lives15_any _ HTE.out).mono ?_; rintro e w9 ⟨rfl, a9⟩; have HA9 := Lib.hid ((HA1.out.trans HG.out.adv).trans a9); clear a9)
        | fail)
      go_ret
      exact ⟨rfl, HA9.out.toBelow⟩
end Go.Proofs.YtcglfknkkeaegaaGreatDoor
