/- The walk of the writer's lay. -/
import Derived.Test.YtpgeebhepegpaaaLay
import Derived.Deep.DeepCutAuto
namespace Go.Proofs.Ytpgeebhepegpaaa
open Go.RowKit

set_option maxRecDepth 3000 in
set_option maxHeartbeats 2000000 in
theorem lay_any (b N m x n : Nat) (F : Nat → Prop) (w : World) (hw : WSt w F b N m) (hF : Bd F w) (hn : n ≤ 64) (hx : x < 2 ^ n) (hm : m + n ≤ 1000000000) :
    Calls Try.prog 87 #[.pointer (some ⟨b, 0, none⟩), .int .u64 x, .int .i64 n] w fun e w' => e = .returned (.tuple #[]) ∧
      ∃ F', WSt w' F' b (N * 2 ^ n + x) (m + n) ∧ Adv F w F' w' ∧ Bd F' w' := by
  go_enter Try.func87, Try.ntmps87
  go_wp2_with fail
  go_loopw [1, 2] (LayRel w F b N m x n) (fun _ t _ => (intOf t).toNat)
  case atStart => exact ⟨x, n, N, m, F, rfl, rfl, Nat.le_refl _, hx, rfl, rfl, hw, Adv.refl _ _, hF⟩
  case round =>
    obtain ⟨y, k, N', m', F', rfl, rfl, hkn, hy, hmk, hNk, hs, ha, hb⟩ := hrel
    have HM := Lib.hid hmk
    have HN := Lib.hid hNk
    clear hmk hNk
    obtain ⟨rowv, hB, hS⟩ := hs.ex
    have hq8 := qn_pad m'
    have hpl := pad_lt m'
    have hN' := hs.lt
    have hF' := hs.inF
    obtain ⟨r, hr⟩ : ∃ r, r = pad m' := ⟨_, rfl⟩
    obtain ⟨q, hq⟩ : ∃ q, q = qn m' := ⟨_, rfl⟩
    have hrow : rowOf N' m' = be q (N' * 2 ^ r) := by rw [hr, hq]; rfl
    rw [hrow] at hS
    rw [← hr] at hB hpl hq8
    rw [← hq] at hS hq8
    have HS := Lib.hid hs
    clear hrow hr hq hs
    have c3 : wr.cell? ⟨b, 3, none⟩ = some (.int .i64 r) := hB.cell 3
    have f3 := hB.frozen 3
    have c2 : wr.cell? ⟨b, 2, none⟩ = some rowv := hB.cell 2
    have f2 := hB.frozen 2
    have HQ := Lib.hid hq8
    have hqb : q ≤ 1000000000 := by have := HM.out; omega
    clear hq8
    by_cases hk0 : 0 < k
    · by_cases hp : 0 < r
      · have hq : 0 < q := by have := HQ.out; omega
        obtain ⟨g, cap, rfl, hFg, hqc⟩ := hS.form hq
        have hM : Mid wr F' b g q cap N' r := ⟨hB, hS, hF', fun e => own_blk_ne hS.own hB (by decide) (by rw [e]; rfl)⟩
        have hg := hM.last hq
        have fg := hS.own.frozenAt (q - 1)
        have hgb : g ≠ b := hM.ne
        have hbg : b ≠ g := hM.ne.symm
        have hr1 : ((r : Int) == 0) = false := by simp; omega
        obtain ⟨u, hu⟩ : ∃ u, u = N' * 2 ^ r % 256 := ⟨_, rfl⟩
        rw [← hu] at hg
        have HU := Lib.hid hu
        have HMid := Lib.hid hM
        have hy64 : y < 18446744073709551616 := Nat.lt_of_lt_of_le hy (by have := Nat.pow_le_pow_right (n := 2) (by decide) (show k ≤ 64 by omega); simpa using this)
        have hk64 : k ≤ 64 := by omega
        have HY := Lib.hid hy
        clear hu hM hB hS hy
        have hkk := and_zero y hy64
        have hu256 : u < 256 := by rw [HU.out]; exact Nat.mod_lt _ (by decide)
        rcases Nat.lt_trichotomy k r with hkr | hkr | hkr
        · go_wp2_with fail
          go_region
          go_wp2
          refine ⟨lay_close (k := k) HMid.out hq HQ.out hp (by omega) (by omega) hk0 HY.out hN' hkn HM.out HN.out ha hb _ _ _ _ ?_ ?_ ?_ ?_, ?_⟩
          · simp [Nat.mod_one]
          · simp
          · rw [← HU.out]
            exact or_u8 u _ hu256 (Nat.mod_lt _ (by decide)) _ (cast_c0 y k (r - k))
          · omega
          · simp [intOf] <;> omega
        · subst hkr
          go_wp2_with fail
          go_region
          go_wp2
          refine ⟨lay_close (k := k) HMid.out hq HQ.out hp (by omega) (by omega) hk0 HY.out hN' hkn HM.out HN.out ha hb _ _ _ _ ?_ ?_ ?_ ?_, ?_⟩
          · simp [Nat.mod_one]
          · simp
          · rw [← HU.out]
            exact or_u8 u _ hu256 (Nat.mod_lt _ (by decide)) _ (by simp)
          · omega
          · simp [intOf] <;> omega
        · have hmk := and_mask y (k - r) hy64 (by omega)
          go_wp2_with fail
          go_region
          go_wp2
          refine ⟨lay_close (k := r) HMid.out hq HQ.out hp (by omega) (by omega) hk0 HY.out hN' hkn HM.out HN.out ha hb _ _ _ _ ?_ ?_ ?_ ?_, ?_⟩
          · rfl
          · omega
          · rw [← HU.out]
            exact or_u8 u _ hu256 (Nat.mod_lt _ (by decide)) _ (by simp)
          · omega
          · simp [intOf] <;> omega
      · obtain rfl : r = 0 := by omega
        obtain ⟨a0, cap0, rfl, hqc0, _⟩ := hS.form0
        have HBl := Lib.hid hB
        have HSl := Lib.hid hS
        have hbn : (Value.slice a0 q cap0).ownBlock ≠ some b := own_blk_ne hS.own hB (by decide)
        have hown := hS.own
        have hblt := hB.lt
        have c3 : wr.cell? ⟨b, 3, none⟩ = some (.int .i64 0) := hB.cell 3
        have hy64 : y < 18446744073709551616 := pow_lt64 hy (by omega)
        have hk64 : k ≤ 64 := by omega
        have HY := Lib.hid hy
        clear hB hS hy
        obtain ⟨i0, hi, hz0, hz1, hz2⟩ := info_parts Try.infoU8
        go_upto_region 4 with ((first
          | (at_builtin; refine wpList_append_own_at _ rfl (.tmp 18) (.tmp 19) 38 rfl 0 5 i0 (.int .u8 0) 1 1 Try.underlying38 hi hz0 hz1 hz2 rfl (by decide) (.slice a0 q cap0) q _ rfl (hown.alloc _) ⟨wr.heap.size, 0, none⟩ 1 1 [.int .u8 0] rfl rfl (cell_one_new _ _ _) ?c2 ?c3 ?c4 (Nat.zero_le _) ?c5)
          | fail))
        case c2 => intro u hu; simp at hu; subst hu; rfl
        case c3 => unfold maxLen; omega
        case c4 => omega
        case c5 =>
          intro v' w1 hown1 hg1 _ hat1
          obtain ⟨g, cap, rfl, _, hgl⟩ := hown1.form (by omega)
          have hB1 : Blk w1 b 96 #[.bool true, .int .i64 0, .slice a0 q cap0, .int .i64 0] := (HBl.out.alloc _).keep (hg1.block b (by simp; omega) (fun e => hbn e.symm))
          have c2 : w1.cell? ⟨b, 2, none⟩ = some (.slice a0 q cap0) := hB1.cell 2
          have c3 : w1.cell? ⟨b, 3, none⟩ = some (.int .i64 0) := hB1.cell 3
          have f2 := hB1.frozen 2
          have f3 := hB1.frozen 3
          have hgb : g ≠ b := fun e => own_blk_ne hown1 hB1 (by decide) (by rw [e]; rfl)
          have hbg : b ≠ g := hgb.symm
          have HX := Lib.hid (Mid.grown hB1 hown1 hF' hgb hgl (by have := hg1.size; simp at this; exact fun j hj => Nat.lt_of_lt_of_le (hb j hj) (by omega)))
          have hA := grown_adv (b := b) ha HSl.out hg1 hat1 hF' (.slice (some ⟨g, 0, none⟩) (q + 1) cap) (.int .i64 8)
          clear hB1
          go_upto_region 4 with (fail)
          generalize (w1.setCell ⟨b, 2, none⟩ (.slice (some ⟨g, 0, none⟩) (q + 1) cap)).setCell ⟨b, 3, none⟩ (.int .i64 8) = X at *
          have hM := HX.out
          have hbX := hM.sl.bd
          have hg : X.cell? ⟨g, q, none⟩ = some (.int .u8 0) := by
            have h := hM.last (by omega)
            rwa [show N' * 2 ^ 8 % 256 = 0 from Nat.mul_mod_left _ _] at h
          have fg : X.frozen? ⟨g, q, none⟩ = false := hM.sl.own.frozenAt q
          have c2 : X.cell? ⟨b, 2, none⟩ = some (.slice (some ⟨g, 0, none⟩) (q + 1) cap) := hM.blk.cell 2
          have c3 : X.cell? ⟨b, 3, none⟩ = some (.int .i64 8) := hM.blk.cell 3
          have f2 := hM.blk.frozen 2
          have f3 := hM.blk.frozen 3
          have hkk := and_zero y hy64
          clear hM
          rcases Nat.lt_trichotomy k 8 with hkr | hkr | hkr
          · go_wp2_with fail
            go_region
            go_wp2
            refine ⟨lay_close (k := k) (q := q + 1) HX.out (by omega) (by have := HQ.out; omega) (by decide) (by decide) (by omega) (by omega) HY.out hN' hkn HM.out HN.out hA hbX _ _ _ _ ?_ ?_ ?_ ?_, ?_⟩
            · simp [Nat.mod_one]
            · simp
            · rw [show N' * 2 ^ 8 % 256 = 0 from Nat.mul_mod_left _ _]
              exact or_u8 0 _ (by decide) (Nat.mod_lt _ (by decide)) _ (cast_c0 y k (8 - k))
            · omega
            · simp [intOf] <;> omega
          · subst hkr
            go_wp2_with fail
            go_region
            go_wp2
            refine ⟨lay_close (k := 8) (q := q + 1) HX.out (by omega) (by have := HQ.out; omega) (by decide) (by decide) (by omega) (by omega) HY.out hN' hkn HM.out HN.out hA hbX _ _ _ _ ?_ ?_ ?_ ?_, ?_⟩
            · simp [Nat.mod_one]
            · simp
            · rw [show N' * 2 ^ 8 % 256 = 0 from Nat.mul_mod_left _ _]
              exact or_u8 0 _ (by decide) (Nat.mod_lt _ (by decide)) _ (by simp)
            · omega
            · simp [intOf] <;> omega
          · have hmk := and_mask y (k - 8) hy64 (by omega)
            go_wp2_with fail
            go_region
            go_wp2
            refine ⟨lay_close (k := 8) (q := q + 1) HX.out (by omega) (by have := HQ.out; omega) (by decide) (by decide) (by omega) (by omega) HY.out hN' hkn HM.out HN.out hA hbX _ _ _ _ ?_ ?_ ?_ ?_, ?_⟩
            · rfl
            · omega
            · rw [show N' * 2 ^ 8 % 256 = 0 from Nat.mul_mod_left _ _]
              exact or_u8 0 _ (by decide) (Nat.mod_lt _ (by decide)) _ (by simp)
            · omega
            · simp [intOf] <;> omega
    · go_wp2
      obtain rfl : k = 0 := by omega
      go_end0
      have h1 := HM.out
      have h2 := HN.out
      obtain rfl : y = 0 := by omega
      refine ⟨rfl, F', ?_, ha, hb⟩
      rw [← h2, ← h1]
      simpa using HS.out
end Go.Proofs.Ytpgeebhepegpaaa
