/- The program's Decode. -/
import Derived.Test.YtbdjlmdbnoghnaaInE
namespace Go.Proofs.Ytbdjlmdbnoghnaa
open Go.ChangeShapes Go.WideShapes Go.ChangeAt Go.RowKit

set_option maxRecDepth 3000 in
set_option maxHeartbeats 3200000 in
theorem decode_any (v : Value) (l : List Nat) (w : World) (h : Rd w 1 v l.length (l.map u8)) (hb : ∀ x ∈ l, x < 256) : Calls Try.prog 15 #[v] w (DecR w l) := by
  obtain ⟨n, hn⟩ : ∃ n, n = l.length := ⟨_, rfl⟩
  rw [← hn] at h
  obtain ⟨A, c, rfl, hc1, hc2⟩ := h.form
  clear hc1 hc2
  obtain ⟨z, hz⟩ : ∃ z, z = w.heap.size := ⟨_, rfl⟩
  obtain ⟨V0, hV⟩ : ∃ V, V = w.alloc (.cells (ic zeroI) 30) := ⟨_, rfl⟩
  have HZ := Lib.hid (show Blk V0 z 30 (ic zeroI) by rw [hV, hz]; exact Blk.new _ _ _)
  have HA := Lib.hid (show Adv Nul w Nul V0 by rw [hV]; exact (Adv.refl _ _).alloc _)
  have HR := Lib.hid (show Rd V0 1 (.slice A n c) n (l.map u8) by rw [hV]; exact h.far (fun k _ _ hk => Below.heap_alloc _ _ _ hk) (by simp))
  have HV := Lib.hid hV
  have HZZ := Lib.hid hz
  have HLZ := Lib.hid (show w.heap.size ≤ z by rw [hz]; exact Nat.le_refl _)
  have HN := Lib.hid hn
  have HB := Lib.hid hb
  clear hn hV hz h hb
  have hzc : ic zeroI = #[.int .i64 0, .int .i64 0, .int .u64 0, .int .i64 0, .int .i64 0, .int .i64 0, .int .i64 0, .int .i64 0, .int .i64 0, .int .i64 0, .int .i64 0] := rfl
  rw [hzc] at HV
  clear hzc
  by_cases hn : n = 128
  · subst hn
    have HPA := Lib.hid (parts_any _ l V0 HR.out HN.out.symm HB.out)
    obtain ⟨X, hX⟩ : ∃ X, X = prt (byN l) := ⟨_, rfl⟩
    rw [← hX] at HPA
    have HX := Lib.hid hX
    have HEN := Lib.hid (encode_any X (by rw [hX]; exact prt_wf _))
    clear hX
    obtain ⟨k, g, v, a⟩ := X
    simp only [ic] at HPA HEN
    go_enter Try.func15, Try.ntmps15
    go_upto_region 1 with (fail)
    rw [← HV.out, ← HZZ.out]
    by_cases ho : okI ⟨k, g, v, a⟩
    · have HOK := Lib.hid ho
      clear ho
      by_cases hq : secI ⟨k, g, v, a⟩ = l
      · have HRES := Lib.hid (fun (w' : World) (ha : Adv Nul w Nul w') => DecR.yes (show decI l = some ⟨k, g, v, a⟩ by unfold decI; rw [← HX.out, if_pos ⟨HN.out.symm, HOK.out, hq⟩]) ha)
        have HQ := Lib.hid (decide_eq_true hq)
        clear hq
        go_wp2_with (first
          | (go_at_call 24; refine HPA.out.mono ?_; rintro e w1 ⟨rfl, a1⟩; have HA1 := Lib.hid (a1.alloc (.cells #[.int .i64 k, .int .i64 g, .int .u64 (v : Int), .int .i64 (a 0), .int .i64 (a 1), .int .i64 (a 2), .int .i64 (a 3), .int .i64 (a 4), .int .i64 (a 5), .int .i64 (a 6), .int .i64 (a 7)] 30)); clear a1 HPA)
          | (go_at_call 6; refine (HEN.out _).mono ?_; rintro e w2 ⟨A2, m2, k2, F2, rfl, a2, y2, _⟩; obtain ⟨rfl, s2⟩ := y2 HOK.out; rw [if_pos HOK.out]; have HA2 := Lib.hid (HA1.out.trans a2); have HZ2 := Lib.hid (HZ.out.keep (HA2.out.block z HZ.out.lt (fun h => h))); have HS2 := Lib.hid s2; have HR2 := Lib.hid (HR.out.far (fun k _ _ hk => HA2.out.block k hk (fun h => h)) HA2.out.size); obtain ⟨s0, s1, s2', s3, s4, s5, s6, s7, s8, s9, s10⟩ := ((Blk.new w1 30 (ic ⟨k, g, v, a⟩)).keep (a2.block _ (Blk.new w1 30 (ic ⟨k, g, v, a⟩)).lt (fun h => h))).c11.all; simp only at s0 s1 s2' s3 s4 s5 s6 s7 s8 s9 s10; clear a2 y2 s2)
          | (go_at_call 25; refine (iequal_any _ _ _ _ _ _ _ HS2.out.rd HR2.out (secI_lt _) HB.out).mono ?_; rintro e w3 ⟨rfl, rfl⟩; rw [HQ.out])
          | (refine op_store11 sizeInode rfl (.tmp 2) (.tmp 27) rfl z _ (ic ⟨k, g, v, a⟩) HZ2.out rfl rfl (ic_one _) rfl rfl ?_)
          | fail)
        have hfin := (Adv.isetCells (ic ⟨k, g, v, a⟩).toList 0 _ (HA.out.trans HA2.out) (.inr HLZ.out)).sub (G := Nul) (fun _ h => h.elim)
        obtain ⟨z0, z1, z2, z3, z4, z5, z6, z7, z8, z9, z10⟩ := (HZ2.out.iputAll (D := ic ⟨k, g, v, a⟩) rfl).c11.all
        obtain ⟨W9, hW9⟩ : ∃ W9, W9 = World.setCells w2 z 0 (ic ⟨k, g, v, a⟩).toList := ⟨_, rfl⟩
        rw [← hW9] at z0 z1 z2 z3 z4 z5 z6 z7 z8 z9 z10 hfin ⊢
        simp only at z0 z1 z2 z3 z4 z5 z6 z7 z8 z9 z10
        exact bodyPost_ret (v := .tuple #[.agg #[.int .i64 k, .int .i64 g, .int .u64 (v : Int), .int .i64 (a 0), .int .i64 (a 1), .int .i64 (a 2), .int .i64 (a 3), .int .i64 (a 4), .int .i64 (a 5), .int .i64 (a 6), .int .i64 (a 7)], .int .i64 0]) (by simp [results, Try.results15, go_sem, z0, z1, z2, z3, z4, z5, z6, z7, z8, z9, z10]) rfl (HRES.out _ hfin)
      · have HRES := Lib.hid (fun (w' : World) (ha : Adv Nul w Nul w') => DecR.no (show decI l = none by unfold decI; rw [← HX.out]; exact if_neg (fun h => hq h.2.2)) ha)
        have HQ := Lib.hid (decide_eq_false hq)
        clear hq
        go_wp2_with (first
          | (go_at_call 24; refine HPA.out.mono ?_; rintro e w1 ⟨rfl, a1⟩; have HA1 := Lib.hid (a1.alloc (.cells #[.int .i64 k, .int .i64 g, .int .u64 (v : Int), .int .i64 (a 0), .int .i64 (a 1), .int .i64 (a 2), .int .i64 (a 3), .int .i64 (a 4), .int .i64 (a 5), .int .i64 (a 6), .int .i64 (a 7)] 30)); clear a1 HPA)
          | (go_at_call 6; refine (HEN.out _).mono ?_; rintro e w2 ⟨A2, m2, k2, F2, rfl, a2, y2, _⟩; obtain ⟨rfl, s2⟩ := y2 HOK.out; rw [if_pos HOK.out]; have HA2 := Lib.hid (HA1.out.trans a2); have HZ2 := Lib.hid (HZ.out.keep (HA2.out.block z HZ.out.lt (fun h => h))); have HS2 := Lib.hid s2; have HR2 := Lib.hid (HR.out.far (fun k _ _ hk => HA2.out.block k hk (fun h => h)) HA2.out.size); obtain ⟨s0, s1, s2', s3, s4, s5, s6, s7, s8, s9, s10⟩ := ((Blk.new w1 30 (ic ⟨k, g, v, a⟩)).keep (a2.block _ (Blk.new w1 30 (ic ⟨k, g, v, a⟩)).lt (fun h => h))).c11.all; simp only at s0 s1 s2' s3 s4 s5 s6 s7 s8 s9 s10; clear a2 y2 s2)
          | (go_at_call 25; refine (iequal_any _ _ _ _ _ _ _ HS2.out.rd HR2.out (secI_lt _) HB.out).mono ?_; rintro e w3 ⟨rfl, rfl⟩; rw [HQ.out])
          | (refine op_store11 sizeInode rfl (.tmp 2) (.tmp 26) rfl z _ (ic zeroI) HZ2.out rfl rfl (ic_one _) rfl rfl ?_)
          | fail)
        have hfin := (Adv.isetCells (ic zeroI).toList 0 _ (HA.out.trans HA2.out) (.inr HLZ.out)).sub (G := Nul) (fun _ h => h.elim)
        obtain ⟨z0, z1, z2, z3, z4, z5, z6, z7, z8, z9, z10⟩ := (HZ2.out.iputAll (D := ic zeroI) rfl).c11.all
        obtain ⟨W9, hW9⟩ : ∃ W9, W9 = World.setCells w2 z 0 (ic zeroI).toList := ⟨_, rfl⟩
        rw [← hW9] at z0 z1 z2 z3 z4 z5 z6 z7 z8 z9 z10 hfin ⊢
        simp only [zeroI] at z0 z1 z2 z3 z4 z5 z6 z7 z8 z9 z10
        exact bodyPost_ret (v := .tuple #[.agg #[.int .i64 0, .int .i64 0, .int .u64 0, .int .i64 0, .int .i64 0, .int .i64 0, .int .i64 0, .int .i64 0, .int .i64 0, .int .i64 0, .int .i64 0], .int .i64 4]) (by simp [results, Try.results15, go_sem, z0, z1, z2, z3, z4, z5, z6, z7, z8, z9, z10]) rfl (HRES.out _ hfin)
    · have HOK := Lib.hid ho
      have HRES := Lib.hid (fun (w' : World) (ha : Adv Nul w Nul w') => DecR.no (show decI l = none by unfold decI; rw [← HX.out]; exact if_neg (fun h => HOK.out h.2.1)) ha)
      clear ho
      go_wp2_with (first
        | (go_at_call 24; refine HPA.out.mono ?_; rintro e w1 ⟨rfl, a1⟩; have HA1 := Lib.hid (a1.alloc (.cells #[.int .i64 k, .int .i64 g, .int .u64 (v : Int), .int .i64 (a 0), .int .i64 (a 1), .int .i64 (a 2), .int .i64 (a 3), .int .i64 (a 4), .int .i64 (a 5), .int .i64 (a 6), .int .i64 (a 7)] 30)); clear a1 HPA)
        | (go_at_call 6; refine (HEN.out _).mono ?_; rintro e w2 ⟨A2, m2, k2, F2, rfl, a2, y2, _⟩; rw [if_neg HOK.out]; have HA2 := Lib.hid (HA1.out.trans a2); have HZ2 := Lib.hid (HZ.out.keep (HA2.out.block z HZ.out.lt (fun h => h))); clear a2 y2)
        | (refine op_store11 sizeInode rfl (.tmp 2) (.tmp 26) rfl z _ (ic zeroI) HZ2.out rfl rfl (ic_one _) rfl rfl ?_)
        | fail)
      have hfin := (Adv.isetCells (ic zeroI).toList 0 _ (HA.out.trans HA2.out) (.inr HLZ.out)).sub (G := Nul) (fun _ h => h.elim)
      obtain ⟨z0, z1, z2, z3, z4, z5, z6, z7, z8, z9, z10⟩ := (HZ2.out.iputAll (D := ic zeroI) rfl).c11.all
      obtain ⟨W9, hW9⟩ : ∃ W9, W9 = World.setCells w2 z 0 (ic zeroI).toList := ⟨_, rfl⟩
      rw [← hW9] at z0 z1 z2 z3 z4 z5 z6 z7 z8 z9 z10 hfin ⊢
      simp only [zeroI] at z0 z1 z2 z3 z4 z5 z6 z7 z8 z9 z10
      exact bodyPost_ret (v := .tuple #[.agg #[.int .i64 0, .int .i64 0, .int .u64 0, .int .i64 0, .int .i64 0, .int .i64 0, .int .i64 0, .int .i64 0, .int .i64 0, .int .i64 0, .int .i64 0], .int .i64 4]) (by simp [results, Try.results15, go_sem, z0, z1, z2, z3, z4, z5, z6, z7, z8, z9, z10]) rfl (HRES.out _ hfin)
  · have hn' : ((n : Int) != 128) = true := by rw [bne_iff_ne]; omega
    have HRES := Lib.hid (fun (w' : World) (ha : Adv Nul w Nul w') => DecR.no (decI_len (l := l) (by rw [← HN.out]; exact hn)) ha)
    clear hn
    go_enter Try.func15, Try.ntmps15
    go_upto_region 1 with (fail)
    rw [← HV.out, ← HZZ.out]
    go_wp2_with (first
      | (refine op_store11 sizeInode rfl (.tmp 2) (.tmp 10) rfl z _ (ic zeroI) HZ.out rfl rfl (ic_one _) rfl rfl ?_)
      | fail)
    have hfin := (Adv.isetCells (ic zeroI).toList 0 _ HA.out (.inr HLZ.out)).sub (G := Nul) (fun _ h => h.elim)
    obtain ⟨z0, z1, z2, z3, z4, z5, z6, z7, z8, z9, z10⟩ := (HZ.out.iputAll (D := ic zeroI) rfl).c11.all
    obtain ⟨W9, hW9⟩ : ∃ W9, W9 = World.setCells V0 z 0 (ic zeroI).toList := ⟨_, rfl⟩
    rw [← hW9] at z0 z1 z2 z3 z4 z5 z6 z7 z8 z9 z10 hfin ⊢
    simp only [zeroI] at z0 z1 z2 z3 z4 z5 z6 z7 z8 z9 z10
    exact bodyPost_ret (v := .tuple #[.agg #[.int .i64 0, .int .i64 0, .int .u64 0, .int .i64 0, .int .i64 0, .int .i64 0, .int .i64 0, .int .i64 0, .int .i64 0, .int .i64 0, .int .i64 0], .int .i64 4]) (by simp [results, Try.results15, go_sem, z0, z1, z2, z3, z4, z5, z6, z7, z8, z9, z10]) rfl (HRES.out _ hfin)
end Go.Proofs.Ytbdjlmdbnoghnaa
