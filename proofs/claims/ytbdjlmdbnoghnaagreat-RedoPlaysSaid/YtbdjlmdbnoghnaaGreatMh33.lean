/- The newest head: the document's Load. Save, the document's. -/
import Derived.Test.YtbdjlmdbnoghnaaGreatMh31
import Derived.Test.YtbdjlmdbnoghnaaGreatMh32
import Derived.Test.YtbdjlmdbnoghnaaGreatMh25
import Derived.Test.YtbdjlmdbnoghnaaGreatMh30
namespace Go.Proofs.YtbdjlmdbnoghnaaGreat
open Go.RowKit

theorem inR2 {n : Nat} {at_ : Int} : inR n at_ 2 ↔ 0 ≤ at_ ∧ at_ + 1 < (n : Int) := by
  constructor
  · intro h
    have h0 := h 0 (by decide)
    have h1 := h 1 (by decide)
    omega
  · intro h j hj
    omega

set_option maxRecDepth 3000 in
set_option maxHeartbeats 6400000 in
theorem rload_dk (c n : Nat) (G : Nat → Prop) (s : DS) (at_ : Int) (w : World) (hr : Rk w G c n s) (hsb : SB s n) (hq : s.Q.length ≤ 1000000) (hn : n ≤ 4096) (hn1 : 1 ≤ n) :
    Calls Tryz.prog 34 #[.pointer (some ⟨c, 0, none⟩), .int .i64 at_] w fun x w' => LoadR s n at_ x ∧ Adv Nul w Nul w' := by
  obtain ⟨z, hz⟩ : ∃ z, z = w.heap.size := ⟨_, rfl⟩
  obtain ⟨V, hV⟩ : ∃ V, V = w.alloc (.cells #[.int .u64 0, .int .u64 0, .int .u64 0] 76) := ⟨_, rfl⟩
  have HZ := Lib.hid (show Blk V z 76 (h3 0 0 0) by rw [hV, hz]; exact Blk.new _ _ _)
  have HA := Lib.hid (show Adv Nul w Nul V by rw [hV]; exact (Adv.refl _ _).alloc _)
  have HWZ := Lib.hid (show w.heap.size ≤ z by rw [hz]; exact Nat.le_refl _)
  have hr1 := hr.far HA.out (fun _ h _ => h)
  have HR := Lib.hid hr1
  obtain ⟨vL, vQ, ls, ps, hI⟩ := hr1
  obtain ⟨aL, cL, rfl, _, _⟩ := hI.l.form0
  have c0 := hI.c0
  have HSB := Lib.hid hsb
  have HQ := Lib.hid hq
  have HV := Lib.hid hV
  have HZZ := Lib.hid hz
  have hw1 : IntKind.i64.wrap ((n : Int) - 1) = (n : Int) - 1 := by rw [IntKind.wrap_i64]; omega
  clear hr hsb hq hV hz hI
  go_enter Tryz.func34, Tryz.ntmps34
  go_upto_region 1 with (fail)
  rw [← HV.out, ← HZZ.out]
  by_cases h0 : at_ < 0
  · have HFIN := Lib.hid (show LoadR s n at_ (.returned (.tuple #[.agg #[.int .u64 0, .int .u64 0, .int .u64 0], .bool false, .int .i64 2])) from .inr ⟨fun h => by have := inR2.mp h; omega, rfl⟩)
    go_wp2_with (first
      | (refine op_store3 sizeRHead rfl (.tmp 4) (.tmp 23) rfl z _ (h3 0 0 0) HZ.out rfl rfl (h3_one _ _ _) rfl rfl ?_)
      | fail)
    obtain ⟨hz0, hz1, hz2⟩ := (HZ.out.putAll (D := h3 0 0 0) rfl).three
    exact bodyPost_ret (v := .tuple #[.agg #[.int .u64 0, .int .u64 0, .int .u64 0], .bool false, .int .i64 2]) (by simp [results, Tryz.results34, go_sem, hz0, hz1, hz2]) rfl ⟨HFIN.out, Adv.lsetCells _ 0 _ HA.out (.inr HWZ.out)⟩
  · by_cases h1 : (n : Int) - 1 ≤ at_
    · have h0' : 0 ≤ at_ := by omega
      have HFIN := Lib.hid (show LoadR s n at_ (.returned (.tuple #[.agg #[.int .u64 0, .int .u64 0, .int .u64 0], .bool false, .int .i64 2])) from .inr ⟨fun h => by have := inR2.mp h; omega, rfl⟩)
      clear h0
      go_wp2_with (first
        | (refine op_store3 sizeRHead rfl (.tmp 4) (.tmp 23) rfl z _ (h3 0 0 0) HZ.out rfl rfl (h3_one _ _ _) rfl rfl ?_)
        | fail)
      obtain ⟨hz0, hz1, hz2⟩ := (HZ.out.putAll (D := h3 0 0 0) rfl).three
      exact bodyPost_ret (v := .tuple #[.agg #[.int .u64 0, .int .u64 0, .int .u64 0], .bool false, .int .i64 2]) (by simp [results, Tryz.results34, go_sem, hz0, hz1, hz2]) rfl ⟨HFIN.out, Adv.lsetCells _ 0 _ HA.out (.inr HWZ.out)⟩
    · obtain ⟨p, rfl⟩ := Int.eq_ofNat_of_zero_le (show 0 ≤ at_ by omega)
      have h1' : (p : Int) < (n : Int) - 1 := by omega
      have HP0 := Lib.hid (show p < n by omega)
      have HP1 := Lib.hid (show p + 1 < n by omega)
      have hw2 : IntKind.i64.wrap ((p : Int) + 1) = ((p + 1 : Nat) : Int) := by rw [IntKind.wrap_i64]; omega
      have HIN := Lib.hid (show inR n (p : Int) 2 from inR2.mpr (by omega))
      clear h0 h1 hn hn1
      go_wp2_with fail
      refine (ris_r c n p G s _ HR.out HP0.out HQ.out).mono ?_
      rintro e w1 ⟨v1, rfl, s1, rfl⟩
      obtain ⟨a1, k1, rfl, _, _⟩ := s1.form0
      have HS1 := Lib.hid s1.rd
      clear s1
      go_wp2_with fail
      refine (rone_any _ 128 (isS s p) 0 _ HS1.out (HSB.out p HP0.out)).mono ?_
      rintro x w2 ⟨rfl, t2⟩
      obtain ⟨A, hA⟩ : ∃ A, A = unO (isS s p) 0 := ⟨_, rfl⟩
      rw [← hA]
      obtain ⟨ag, hag⟩ : ∃ x, x = (A.getD hZ).g := ⟨_, rfl⟩
      obtain ⟨at1, hat⟩ : ∃ x, x = (A.getD hZ).t := ⟨_, rfl⟩
      obtain ⟨af, haf⟩ : ∃ x, x = (A.getD hZ).f := ⟨_, rfl⟩
      obtain ⟨ab, hab⟩ : ∃ x, x = A.isSome := ⟨_, rfl⟩
      unfold hv
      rw [← hag, ← hat, ← haf, ← hab]
      obtain ⟨u, hu⟩ : ∃ u, u = w2.heap.size := ⟨_, rfl⟩
      obtain ⟨w3, hw3⟩ : ∃ w4, w4 = w2.alloc (.cells #[.int .u64 (ag : Int), .int .u64 (at1 : Int), .int .u64 (af : Int)] 76) := ⟨_, rfl⟩
      have HU := Lib.hid (show Blk w3 u 76 #[.int .u64 (ag : Int), .int .u64 (at1 : Int), .int .u64 (af : Int)] by rw [hw3, hu]; exact Blk.new _ _ _)
      have hv3 : Adv Nul V Nul w3 := by rw [hw3]; exact t2.alloc _
      have HT3 := Lib.hid hv3
      have HR3 := Lib.hid (HR.out.far hv3 (fun _ h _ => h))
      have HAA := Lib.hid hA
      have HAG := Lib.hid hag
      have HAT := Lib.hid hat
      have HAF := Lib.hid haf
      have HAB := Lib.hid hab
      have HW3 := Lib.hid hw3
      have HUU := Lib.hid hu
      clear hA hag hat haf hab hu hw3 hv3 t2
      go_upto_region 4 with (fail)
      rw [← HW3.out, ← HUU.out]
      go_wp2_with fail
      refine (ris_r c n (p + 1) G s _ HR3.out HP1.out HQ.out).mono ?_
      rintro e w4 ⟨v4, rfl, s4, rfl⟩
      obtain ⟨a4, k4, rfl, _, _⟩ := s4.form0
      have HS4 := Lib.hid s4.rd
      clear s4
      go_wp2_with fail
      refine (rone_any _ 128 (isS s (p + 1)) 1 _ HS4.out (HSB.out (p + 1) HP1.out)).mono ?_
      rintro x w5 ⟨rfl, t5⟩
      obtain ⟨B, hB⟩ : ∃ A, A = unO (isS s (p + 1)) 1 := ⟨_, rfl⟩
      rw [← hB]
      obtain ⟨bg, hbg⟩ : ∃ x, x = (B.getD hZ).g := ⟨_, rfl⟩
      obtain ⟨bt, hbt⟩ : ∃ x, x = (B.getD hZ).t := ⟨_, rfl⟩
      obtain ⟨bf, hbf⟩ : ∃ x, x = (B.getD hZ).f := ⟨_, rfl⟩
      obtain ⟨bb, hbb⟩ : ∃ x, x = B.isSome := ⟨_, rfl⟩
      unfold hv
      rw [← hbg, ← hbt, ← hbf, ← hbb]
      obtain ⟨q, hq⟩ : ∃ u, u = w5.heap.size := ⟨_, rfl⟩
      obtain ⟨w6, hw6⟩ : ∃ w4, w4 = w5.alloc (.cells #[.int .u64 (bg : Int), .int .u64 (bt : Int), .int .u64 (bf : Int)] 76) := ⟨_, rfl⟩
      have HQB := Lib.hid (show Blk w6 q 76 #[.int .u64 (bg : Int), .int .u64 (bt : Int), .int .u64 (bf : Int)] by rw [hw6, hq]; exact Blk.new _ _ _)
      have hv6 : Adv Nul w3 Nul w6 := by rw [hw6]; exact t5.alloc _
      have HU6 := Lib.hid (HU.out.keep (hv6.block u HU.out.lt (fun h => h)))
      have HA6 := Lib.hid (HA.out.trans (HT3.out.trans hv6))
      have HZ6 := Lib.hid (HZ.out.keep ((HT3.out.trans hv6).block z HZ.out.lt (fun h => h)))
      have HBB := Lib.hid hB
      have HBG := Lib.hid hbg
      have HBT := Lib.hid hbt
      have HBF := Lib.hid hbf
      have HBO := Lib.hid hbb
      have HW6 := Lib.hid hw6
      have HQQ := Lib.hid hq
      clear hB hbg hbt hbf hbb hq hw6 hv6 t5
      go_upto_region 5 with (fail)
      rw [← HW6.out, ← HQQ.out]
      obtain ⟨u0, u1, u2⟩ := HU6.out.three
      obtain ⟨q0, q1, q2⟩ := HQB.out.three
      have hcur : curAt s p 2 = nx A B := by rw [curAt2, HAA.out, HBB.out]
      have hB' : nx A B = B → LoadR s n (p : Int) (.returned (.tuple #[.agg #[.int .u64 (bg : Int), .int .u64 (bt : Int), .int .u64 (bf : Int)], .bool bb, .int .i64 0])) := fun e => .inl ⟨HIN.out, by rw [HBG.out, HBT.out, HBF.out, HBO.out, Int.toNat_natCast, hcur, e]; rfl⟩
      have hA' : nx A B = A → LoadR s n (p : Int) (.returned (.tuple #[.agg #[.int .u64 (ag : Int), .int .u64 (at1 : Int), .int .u64 (af : Int)], .bool ab, .int .i64 0])) := fun e => .inl ⟨HIN.out, by rw [HAG.out, HAT.out, HAF.out, HAB.out, Int.toNat_natCast, hcur, e]; rfl⟩
      have HB' := Lib.hid hB'
      have HA' := Lib.hid hA'
      clear hcur hB' hA' c0
      cases bb with
      | false =>
        have hb0 : B = none := by have h := HBO.out; cases hB : B with | none => rfl | some x => rw [hB] at h; simp at h
        have HFIN := Lib.hid (HA'.out (by rw [hb0]; rfl))
        clear hb0
        go_wp2_with (first
          | (refine op_store3 sizeRHead rfl (.tmp 4) (.tmp 52) rfl z _ (h3 (ag : Int) (at1 : Int) (af : Int)) HZ6.out rfl rfl (h3_one _ _ _) rfl rfl ?_)
          | fail)
        obtain ⟨hz0, hz1, hz2⟩ := (HZ6.out.putAll (D := h3 (ag : Int) (at1 : Int) (af : Int)) rfl).three
        exact bodyPost_ret (v := .tuple #[.agg #[.int .u64 (ag : Int), .int .u64 (at1 : Int), .int .u64 (af : Int)], .bool ab, .int .i64 0]) (by simp [results, Tryz.results34, go_sem, hz0, hz1, hz2]) rfl ⟨HFIN.out, Adv.lsetCells _ 0 _ HA6.out (.inr HWZ.out)⟩
      | true =>
        obtain ⟨y, hyB⟩ : ∃ y, B = some y := by have h := HBO.out; cases hB : B with | none => rw [hB] at h; simp at h | some x => exact ⟨x, rfl⟩
        have HYB := Lib.hid hyB
        clear hyB
        cases ab with
        | false =>
          have ha0 : A = none := by have h := HAB.out; cases hA : A with | none => rfl | some x => rw [hA] at h; simp at h
          have HFIN := Lib.hid (HB'.out (by rw [ha0, nx_none]))
          clear ha0
          go_wp2_with (first
            | (refine op_store3 sizeRHead rfl (.tmp 4) (.tmp 51) rfl z _ (h3 (bg : Int) (bt : Int) (bf : Int)) HZ6.out rfl rfl (h3_one _ _ _) rfl rfl ?_)
            | fail)
          obtain ⟨hz0, hz1, hz2⟩ := (HZ6.out.putAll (D := h3 (bg : Int) (bt : Int) (bf : Int)) rfl).three
          exact bodyPost_ret (v := .tuple #[.agg #[.int .u64 (bg : Int), .int .u64 (bt : Int), .int .u64 (bf : Int)], .bool true, .int .i64 0]) (by simp [results, Tryz.results34, go_sem, hz0, hz1, hz2]) rfl ⟨HFIN.out, Adv.lsetCells _ 0 _ HA6.out (.inr HWZ.out)⟩
        | true =>
          obtain ⟨x, hxA⟩ : ∃ y, A = some y := by have h := HAB.out; cases hA : A with | none => rw [hA] at h; simp at h | some x => exact ⟨x, rfl⟩
          have hne : ag ≠ bg := fun e => by
            have h1 := unO_odd (HAA.out.symm.trans hxA)
            have h2 := unO_odd (HBB.out.symm.trans HYB.out)
            rw [HAG.out, HBG.out, hxA, HYB.out] at e
            simp only [Option.getD_some] at e
            omega
          by_cases hlt : ag < bg
          · have hgt : (ag : Int) < (bg : Int) := by omega
            have HFIN := Lib.hid (HB'.out (by rw [HYB.out]; exact if_pos (by have h1 := HAG.out; have h2 := HBG.out; rw [HYB.out] at h2; simp only [Option.getD_some] at h2; omega)))
            clear hlt hne hxA
            go_wp2_with (first
              | (refine op_store3 sizeRHead rfl (.tmp 4) (.tmp 51) rfl z _ (h3 (bg : Int) (bt : Int) (bf : Int)) HZ6.out rfl rfl (h3_one _ _ _) rfl rfl ?_)
              | fail)
            obtain ⟨hz0, hz1, hz2⟩ := (HZ6.out.putAll (D := h3 (bg : Int) (bt : Int) (bf : Int)) rfl).three
            exact bodyPost_ret (v := .tuple #[.agg #[.int .u64 (bg : Int), .int .u64 (bt : Int), .int .u64 (bf : Int)], .bool true, .int .i64 0]) (by simp [results, Tryz.results34, go_sem, hz0, hz1, hz2]) rfl ⟨HFIN.out, Adv.lsetCells _ 0 _ HA6.out (.inr HWZ.out)⟩
          · have hgt : (bg : Int) ≤ (ag : Int) := by omega
            have HFIN := Lib.hid (HA'.out (by rw [HYB.out]; exact if_neg (by have h1 := HAG.out; have h2 := HBG.out; rw [HYB.out] at h2; simp only [Option.getD_some] at h2; omega)))
            clear hlt hne hxA
            go_wp2_with (first
              | (refine op_store3 sizeRHead rfl (.tmp 4) (.tmp 52) rfl z _ (h3 (ag : Int) (at1 : Int) (af : Int)) HZ6.out rfl rfl (h3_one _ _ _) rfl rfl ?_)
              | fail)
            obtain ⟨hz0, hz1, hz2⟩ := (HZ6.out.putAll (D := h3 (ag : Int) (at1 : Int) (af : Int)) rfl).three
            exact bodyPost_ret (v := .tuple #[.agg #[.int .u64 (ag : Int), .int .u64 (at1 : Int), .int .u64 (af : Int)], .bool true, .int .i64 0]) (by simp [results, Tryz.results34, go_sem, hz0, hz1, hz2]) rfl ⟨HFIN.out, Adv.lsetCells _ 0 _ HA6.out (.inr HWZ.out)⟩
end Go.Proofs.YtbdjlmdbnoghnaaGreat
namespace Go.Proofs.YtbdjlmdbnoghnaaGreat
open Go.RowKit

def RSaved (w : World) (G : Nat → Prop) (c n : Nat) (r : DS × Int) (x : Ending) (w' : World) : Prop := x = .returned (.int .i64 r.2) ∧ ∃ G', Rk w' G' c n r.1 ∧ Adv G w G' w'

set_option maxRecDepth 3000 in
set_option maxHeartbeats 6400000 in
theorem rsave_dk (c n : Nat) (G : Nat → Prop) (s : DS) (at_ : Int) (e : Nat) (h : Hd) (w : World) (hr : Rk w G c n s) (hq : s.Q.length ≤ 900000) (hn : n ≤ 4096) (hn1 : 1 ≤ n) (ht : h.t < 18446744073709551616) (hf : h.f < 18446744073709551616) :
    Calls Tryz.prog 57 #[.pointer (some ⟨c, 0, none⟩), .int .i64 at_, .int .u64 (e : Int), .agg #[.int .u64 (h.g : Int), .int .u64 (h.t : Int), .int .u64 (h.f : Int)]] w (RSaved w G c n (saveS s n at_ e h)) := by
  obtain ⟨g, t, f⟩ := h
  simp only at ht hf ⊢
  obtain ⟨y, hy⟩ : ∃ y, y = w.heap.size := ⟨_, rfl⟩
  obtain ⟨V, hV⟩ : ∃ V, V = w.alloc (.cells #[.int .u64 (g : Int), .int .u64 (t : Int), .int .u64 (f : Int)] 76) := ⟨_, rfl⟩
  have HY := Lib.hid (show Blk V y 76 #[.int .u64 (g : Int), .int .u64 (t : Int), .int .u64 (f : Int)] by rw [hV, hy]; exact Blk.new _ _ _)
  have HA := Lib.hid (show Adv Nul w Nul V by rw [hV]; exact (Adv.refl _ _).alloc _)
  have HR := Lib.hid (hr.far HA.out (fun _ h _ => h))
  have HV := Lib.hid hV
  have HYY := Lib.hid hy
  have HQ := Lib.hid hq
  have HSEC := Lib.hid (rsector_any e ⟨g, t, f⟩ V ht hf)
  have HN := Lib.hid hn
  have HN1 := Lib.hid hn1
  have hw1 : IntKind.i64.wrap ((n : Int) - 1) = (n : Int) - 1 := by rw [IntKind.wrap_i64]; omega
  obtain ⟨s0, s1, s2⟩ := HY.out.three
  clear hr hV hy hq ht hf hn hn1
  go_enter Tryz.func57, Tryz.ntmps57
  go_upto_region 1 with (fail)
  rw [← HV.out, ← HYY.out]
  go_wp2_with fail
  refine HSEC.out.mono ?_
  intro x w1 h1
  obtain ⟨A, m, k, F1, rfl, a1, p1, n1⟩ := h1
  obtain ⟨B, hB⟩ : ∃ B, B = decide (hOk e ⟨g, t, f⟩) := ⟨_, rfl⟩
  rw [← hB]
  have HB := Lib.hid hB
  have HA1 := Lib.hid a1
  have HP1 := Lib.hid p1
  have hY1 := HY.out.keep (a1.block y HY.out.lt (fun h => h))
  have hr1 := HR.out.far a1 (fun _ h _ => h)
  have HSEP := Lib.hid (show ∀ j, (Value.slice A m k).ownBlock = some j → (hOk e ⟨g, t, f⟩) → ¬ G j from fun j hj ho hg => by
    obtain ⟨rfl, hs⟩ := p1 ho
    rcases a1.into j (hs.inF j hj) with h | h
    · exact h
    · have := HR.out.bd j hg; omega)
  have HAV := Lib.hid (HA.out.trans (a1.sub (G := Nul) (fun _ h => h.elim)))
  have HR1 := Lib.hid hr1
  obtain ⟨vL, vQ, ls, ps, hI⟩ := hr1
  obtain ⟨aL, cL, rfl, _, _⟩ := hI.l.form0
  have c0 := hI.c0
  have HY1 := Lib.hid hY1
  obtain ⟨z0, z1, z2⟩ := hY1.three
  clear hB a1 p1 n1 hY1 hI s0 s1 s2
  have hno : ¬ ((0 ≤ at_ ∧ at_ + 1 < (n : Int)) ∧ hOk e ⟨g, t, f⟩) → RSaved w G c n (saveS s n at_ e ⟨g, t, f⟩) (.returned (.int .i64 2)) w1 := fun hk => by
    rw [saveS_no hk]
    exact ⟨rfl, G, HR1.out, HAV.out.same (fun _ x => x.elim)⟩
  have HNO := Lib.hid hno
  clear hno
  by_cases h0 : at_ < 0
  · have HF := Lib.hid (HNO.out (fun k => by omega))
    go_wp2_with fail
    go_ret
    exact HF.out
  · by_cases h1 : (n : Int) - 1 ≤ at_
    · have HF := Lib.hid (HNO.out (fun k => by omega))
      have h0' : 0 ≤ at_ := by omega
      clear h0
      go_wp2_with fail
      go_ret
      exact HF.out
    · have h0' : 0 ≤ at_ := by omega
      have h1' : at_ < (n : Int) - 1 := by omega
      have HIN := Lib.hid (show 0 ≤ at_ ∧ at_ + 1 < (n : Int) by omega)
      clear h0 h1
      cases B with
      | false =>
        have HF := Lib.hid (HNO.out (fun k => of_decide_eq_false HB.out.symm k.2))
        go_wp2_with fail
        go_ret
        exact HF.out
      | true =>
        have hok := of_decide_eq_true HB.out.symm
        obtain ⟨rfl, hs⟩ := HP1.out hok
        have HOK := Lib.hid hok
        have HS := Lib.hid hs
        obtain ⟨r, hr⟩ : ∃ r, r = g % 2 := ⟨_, rfl⟩
        have hr0 : (g : Int).tmod 2 = (r : Int) := by rw [hr]; exact rfl
        have hr1 : (g : Int) % 2 = (r : Int) := by rw [hr]; rfl
        have hr2 : IntKind.i64.wrap (r : Int) = (r : Int) := by rw [IntKind.wrap_i64]; omega
        have hr3 : IntKind.i64.wrap (at_ + (r : Int)) = at_ + (r : Int) := by rw [hr]; exact save_at HIN.out HN.out
        obtain ⟨W, hW⟩ : ∃ W, W = writeS s (at_ + (r : Int)) (hSec e ⟨g, t, f⟩) := ⟨_, rfl⟩
        have hsv : saveS s n at_ e ⟨g, t, f⟩ = if W.2 = 0 then flushS W.1 else W := by
          unfold saveS
          rw [if_pos ⟨HIN.out, hok⟩, hW, hr]
        have HSV := Lib.hid hsv
        have hwr : Calls Tryz.prog 52 #[.pointer (some ⟨c, 0, none⟩), .int .i64 (at_ + (r : Int)), .slice A 128 k] w1 fun e w' => e = .returned (.int .i64 W.2) ∧ ∃ G', Rk w' G' c n W.1 ∧ Adv G w1 G' w' := by
          rw [hW]
          exact rwrite_dk c n 128 _ _ G s _ w1 HR1.out hs.rd (fun j hj hg => HSEP.out j hj hok hg) (by have := HQ.out; omega)
        have HWR := Lib.hid hwr
        have hqw : W.1.Q.length ≤ 1000000 := by rw [hW]; exact Nat.le_trans (few_write s _ _) (by have := HQ.out; omega)
        have HQW := Lib.hid hqw
        obtain ⟨WE, hWE⟩ : ∃ E, E = W.2 := ⟨_, rfl⟩
        rw [← hWE] at HWR
        have HWE := Lib.hid hWE
        clear hok hs hr hW hsv hwr hqw hWE
        go_wp2_with fail
        refine HWR.out.mono ?_
        rintro x w2 ⟨rfl, G2, k2, t2⟩
        have HR2 := Lib.hid k2
        have HT2 := Lib.hid t2
        clear k2 t2
        by_cases hz : WE = 0
        · subst hz
          go_wp2_with fail
          refine (rflush_dk c n G2 W.1 w2 HR2.out HN1.out HQW.out).mono ?_
          rintro x w3 ⟨rfl, k3, t3⟩
          have HF := Lib.hid (show RSaved w G c n (saveS s n at_ e ⟨g, t, f⟩) (.returned (.int .i64 (flushS W.1).2)) w3 from by
            rw [HSV.out, if_pos HWE.out.symm]
            exact ⟨rfl, G2, k3, adv_after HAV.out (HT2.out.trans t3)⟩)
          obtain ⟨E3, hE3⟩ : ∃ E, E = (flushS W.1).2 := ⟨_, rfl⟩
          rw [← hE3] at HF ⊢
          clear k3 t3 hE3
          go_wp2_with fail
          go_ret
          exact HF.out
        · have hzb : (WE == 0) = false := by rw [beq_eq_false_iff_ne]; exact hz
          have HF := Lib.hid (show RSaved w G c n (saveS s n at_ e ⟨g, t, f⟩) (.returned (.int .i64 WE)) w2 from by
            rw [HSV.out, if_neg (by rw [← HWE.out]; exact hz)]
            exact ⟨by rw [HWE.out], G2, HR2.out, adv_after HAV.out HT2.out⟩)
          clear hz
          go_wp2_with fail
          go_ret
          exact HF.out
end Go.Proofs.YtbdjlmdbnoghnaaGreat
