/- The document's sector of an inode. -/
import Derived.Test.YtbdjlmdbnoghnaaInG
import Derived.Test.YtbdjlmdbnoghnaaRefC
namespace Go.Proofs.Ytbdjlmdbnoghnaa
open Go.ChangeShapes Go.WideShapes Go.ChangeAt Go.RowKit

/-- so many bits in a slice of its own -/
def RowS (V : World) (N m : Nat) (v : Value) (w : World) : Prop := ∃ F l, Sl w F 5 1 v m (l.map u8) ∧ Bl l N m ∧ Adv Nul V F w
theorem RowS.form {V w : World} {N m : Nat} {v : Value} (h : RowS V N m v w) : ∃ A c, v = .slice A m c := by
  obtain ⟨F, l, h1, _, _⟩ := h
  obtain ⟨A, c, e, _⟩ := h1.form0
  exact ⟨A, c, e⟩
theorem RowS.adv {V w : World} {N m : Nat} {v : Value} (h : RowS V N m v w) : Adv Nul V Nul w := by
  obtain ⟨F, l, _, _, h3⟩ := h
  exact h3.sub (fun _ h => h.elim)
/-- behind such bits come others -/
theorem RowS.more {V w w2 : World} {N m x n : Nat} {v v2 : Value} {F2 : Nat → Prop} {l2 : List Nat} (h : RowS V N m v w) (_s2 : Sl w2 F2 5 1 v2 n (l2.map u8)) (b2 : Bl l2 x n) (a2 : Adv Nul w F2 w2) :
    ∃ F l, Sl w2 F 5 1 v m (l.map u8) ∧ Bl l N m ∧ Adv Nul V F w2 ∧ ∀ v' w3, w3.ownsRow 0 5 1 v' (m + n) (l.map u8 ++ l2.map u8) → w2.grownBy w3 v.ownBlock → (v'.ownBlock = v.ownBlock ∨ v'.ownBlock = some w2.heap.size) → RowS V (N * 2 ^ n + x) (m + n) v' w3 := by
  obtain ⟨F, l, h1, h2, h3⟩ := h
  have h1' := h1.far a2 (fun _ h _ => h)
  have h3' := h3.over a2
  refine ⟨F, l, h1', h2, h3', fun v' w3 hown hg hat => ?_⟩
  obtain ⟨s3, _, a3⟩ := own_grown h1' h3' hown hg hat (Nat.le_refl _)
  rw [← List.map_append] at s3
  exact ⟨_, l ++ l2, s3, h2.append b2, a3⟩
def EncQ (V : World) (x : Ino) (t4 t5 : Value) (wr : World) : Prop := ∃ j : Nat, t5 = .int .i64 (j : Int) ∧ j ≤ 8 ∧ RowS V (nJ x j) (mJ j) t4 wr
def padN (t : Value) : Nat := match t with | .slice _ n _ => 128 - n | _ => 0
def PadQ (V : World) (x : Ino) (t6 : Value) (wr : World) : Prop := ∃ i F, i ≤ 106 ∧ Sl wr F 5 1 t6 (22 + i) ((rowOf (nJ x 8) (mJ 8) ++ List.replicate i 0).map u8) ∧ Adv Nul V F wr
theorem pad_more {N i : Nat} : (rowOf N (mJ 8) ++ List.replicate (i + 1) 0).map u8 = (rowOf N (mJ 8)).map u8 ++ (List.replicate i (u8 0) ++ [.int .u8 0]) := by
  rw [List.replicate_succ', List.map_append, List.map_append, List.map_replicate]; rfl
theorem pad_start {w : World} {F : Nat → Prop} {v : Value} {N : Nat} (h : Sl w F 5 1 v (qn (mJ 8)) ((rowOf N (mJ 8)).map u8)) : Sl w F 5 1 v (22 + 0) ((rowOf N (mJ 8) ++ List.replicate 0 0).map u8) := by
  rw [List.replicate_zero, List.append_nil]
  exact h
theorem pad_next {w : World} {F : Nat → Prop} {v : Value} {n i N : Nat} (hn : n = 22 + i) (h : Sl w F 5 1 v (n + 1) ((rowOf N (mJ 8)).map u8 ++ (List.replicate i (u8 0) ++ [.int .u8 0]))) : Sl w F 5 1 v (22 + (i + 1)) ((rowOf N (mJ 8) ++ List.replicate (i + 1) 0).map u8) := by
  rw [pad_more]
  rw [hn] at h; exact h
theorem sl_pad {x : Ino} {w : World} {F : Nat → Prop} {v : Value} (h : Sl w F 5 1 v (22 + 106) ((rowOf (nJ x 8) (mJ 8) ++ List.replicate 106 0).map u8)) : Sl w F 5 1 v 128 ((secI x).map u8) := by
  rw [← row_secI]
  exact h

set_option maxRecDepth 3000 in
set_option maxHeartbeats 3200000 in
theorem qencode_any (x : Ino) (hx : WfI x) (w : World) : Calls Try.prog 8 #[.agg (ic x)] w (EncR w x) := by
  obtain ⟨i0, hi, hz0, hz1, hz2⟩ := info_parts Try.infoU8
  obtain ⟨y, hy⟩ : ∃ y, y = w.heap.size := ⟨_, rfl⟩
  obtain ⟨V, hV⟩ : ∃ V, V = w.alloc (.cells (ic x) 25) := ⟨_, rfl⟩
  have HY := Lib.hid (show Blk V y 25 (ic x) by rw [hV, hy]; exact Blk.new _ _ _)
  have HA := Lib.hid (show Adv Nul w Nul V by rw [hV]; exact (Adv.refl _ _).alloc _)
  have HV := Lib.hid hV
  have HYY := Lib.hid hy
  have HK := Lib.hid (is8_any x)
  have HX := Lib.hid (fun (w' : World) (h : Adv Nul V Nul w') => (HY.out.keep (h.block y HY.out.lt (fun h => h))).c11)
  have hiff := isI_iff hx
  obtain ⟨s0, s1, s2, s3, s4, s5, s6, s7, s8, s9, s10⟩ := HY.out.c11.all
  clear hV hy hx
  obtain ⟨k, g, v, a⟩ := x
  simp only [ic] at HV HK ⊢
  simp only at s0 s1 s2 s3 s4 s5 s6 s7 s8 s9 s10
  go_enter Try.func8, Try.ntmps8
  go_upto_region 1 with (fail)
  rw [← HV.out, ← HYY.out]
  by_cases hk : okI ⟨k, g, v, a⟩
  · have HOK := Lib.hid hk
    have HKD := Lib.hid (decide_eq_true (hiff.mpr hk))
    have HJ := Lib.hid (fun j hj => ((okJ_iff 8).mp hk.2).2 j hj)
    have HJ0 := Lib.hid ((okJ_iff 8).mp hk.2).1
    clear hk hiff
    go_upto_region 3 with (first
      | (go_at_call 21; refine (HK.out _).mono ?_; rintro e w1 ⟨rfl, a1⟩; rw [HKD.out]; have HA1 := Lib.hid a1; obtain ⟨s0, s1, s2, _, _, _, _, _, _, _, _⟩ := (HX.out _ a1).all; simp only at s0 s1 s2; clear a1)
      | fail)
    go_upto_region 4 with (first
      | (go_at_call 22; rw [wrap_u64n]; refine (bits_any (u64n k) 2 _ HJ0.out.1.1.2 (by decide)).mono ?_; rintro e w2 ⟨v2, rfl, F2, l2, h2, b2, a2⟩; obtain ⟨A2, c2, rfl, _, _⟩ := h2.form0; have HR2 := Lib.hid (show RowS V (0 * 2 ^ 2 + u64n k) 2 (.slice A2 2 c2) w2 from ⟨F2, l2, h2, (by simpa using b2), (HA1.out.trans (a2.sub (fun _ h => h)))⟩); clear h2 b2 a2)
      | fail)
    obtain ⟨s0, s1, s2, _, _, _, _, _, _, _, _⟩ := (HX.out _ HR2.out.adv).all
    simp only at s0 s1 s2
    go_wp2_with (first
      | (go_at_call 22; rw [wrap_u64n]; refine (bits_any (u64n g) 31 _ HJ0.out.1.2 (by decide)).mono ?_; rintro e w3 ⟨v3, rfl, F3, l3, h3, b3, a3⟩; obtain ⟨A3, c3, rfl, _, _⟩ := h3.form0; obtain ⟨F3', l3', q1, q2, q3, q4⟩ := HR2.out.more h3 b3 a3; have HM3 := Lib.hid q4; have hown3 := q1.own; have hrd3 := h3.rd; clear q1 q2 q3 q4 b3 a3 h3)
      | (at_builtin; refine wpList_append_rd rfl (.tmp 14) (.tmp 18) rfl rfl rfl hown3 hrd3 (u8_one _) (by decide) ?c3)
      | fail)
    case c3 =>
    intro v' w4 hown hg hat
    have hr4 := HM3.out v' w4 hown hg hat
    obtain ⟨A4, c4, rfl⟩ := hr4.form
    have HR4 := Lib.hid hr4
    clear hr4 hown hg hat hown3 hrd3 s0 s1 s2
    obtain ⟨s0, s1, s2, _, _, _, _, _, _, _, _⟩ := (HX.out _ HR4.out.adv).all
    simp only at s0 s1 s2
    go_wp2_with (first
      | (go_at_call 22; refine (bits_any v 40 _ HJ0.out.2 (by decide)).mono ?_; rintro e w5 ⟨v5, rfl, F5, l5, h5, b5, a5⟩; obtain ⟨A5, c5, rfl, _, _⟩ := h5.form0; obtain ⟨F5', l5', q1, q2, q3, q4⟩ := HR4.out.more h5 b5 a5; have HM5 := Lib.hid q4; have hown5 := q1.own; have hrd5 := h5.rd; clear q1 q2 q3 q4 b5 a5 h5)
      | (at_builtin; refine wpList_append_rd rfl (.tmp 20) (.tmp 23) rfl rfl rfl hown5 hrd5 (u8_one _) (by decide) ?c5)
      | fail)
    case c5 =>
    intro v' w6 hown hg hat
    have hr6 := HM5.out v' w6 hown hg hat
    obtain ⟨A6, c6, rfl⟩ := hr6.form
    have HR6 := Lib.hid hr6
    clear hr6 hown hg hat hown5 hrd5 s0 s1 s2
    go_wp2_with fail
    go_loopw [4, 5] (EncQ V ⟨k, g, v, a⟩) (fun _ t _ => 8 - (intOf t).toNat)
    case atStart => exact ⟨0, rfl, Nat.zero_le _, HR6.out⟩
    case round =>
      obtain ⟨j, rfl, hj, hR⟩ := hrel
      obtain ⟨AJ, cJ, rfl⟩ := hR.form
      have HRJ := Lib.hid hR
      clear hR
      by_cases hlt : j < 8
      · have HLT := Lib.hid hlt
        have sj := c11_at (HX.out _ HRJ.out.adv) j hlt
        simp only at sj
        go_wp2_with (first
          | (go_at_call 22; rw [wrap_u64n]; refine (bits_any (u64n (a j)) 12 _ (HJ.out j HLT.out) (by decide)).mono ?_; rintro e w7 ⟨v7, rfl, F7, l7, h7, b7, a7⟩; obtain ⟨A7, c7, rfl, _, _⟩ := h7.form0; obtain ⟨F7', l7', q1, q2, q3, q4⟩ := HRJ.out.more h7 b7 a7; have HM7 := Lib.hid q4; have hown7 := q1.own; have hrd7 := h7.rd; clear q1 q2 q3 q4 b7 a7 h7)
          | (at_builtin; refine wpList_append_rd rfl (.tmp 29) (.tmp 35) rfl rfl rfl hown7 hrd7 (u8_one _) (by unfold mJ; have := HLT.out; omega) ?c7)
          | fail)
        case c7 =>
        intro v' w8 hown hg hat
        have HR8 := Lib.hid (HM7.out v' w8 hown hg hat)
        clear hown hg hat hown7 hrd7 sj
        go_wp2_with fail
        exact ⟨⟨_, _, _, _, _, _, _, _, _, _, _, _, _, _, ⟨j + 1, rfl, HLT.out, HR8.out⟩, rfl⟩, by have := HLT.out; simp [intOf] <;> omega⟩
      · obtain rfl : j = 8 := by omega
        clear hj hlt
        go_wp2_with (first
          | (go_at_call 23; obtain ⟨F8, l8, q1, q2, q3⟩ := HRJ.out; refine (bytes_any _ _ _ _ _ _ q1 q2 (by decide)).mono ?_; rintro e w9 ⟨v9, rfl, F9, h9, a9⟩; obtain ⟨A9, c9, rfl, _, _⟩ := h9.form0; have HS9 := Lib.hid h9; have HA9 := Lib.hid ((q3.sub (G := Nul) (fun _ h => h.elim)).trans a9); clear q1 q2 q3 h9 a9)
          | fail)
        go_loopw [6] (PadQ V ⟨k, g, v, a⟩) (fun t _ => padN t)
        case atStart => exact ⟨0, F9, Nat.zero_le _, pad_start HS9.out, HA9.out⟩
        case round =>
          obtain ⟨i, F, hi106, hS, hA⟩ := hrel
          obtain ⟨A6, c6, rfl, _, _⟩ := hS.form0
          have HS := Lib.hid hS
          have HAR := Lib.hid hA
          have hown := hS.own
          clear hS hA
          by_cases hlt : i < 106
          · have HLT := Lib.hid hlt
            obtain ⟨n, hn⟩ : ∃ n, n = 22 + i := ⟨_, rfl⟩
            have HN := Lib.hid hn
            have hn1 : n ≤ 127 := by omega
            have hn2 : (n : Int) < 128 := by omega
            rw [← hn] at hown HS ⊢
            clear hlt hi106 hn
            go_wp2_with (first
              | (at_builtin; refine wpList_append_own_at _ rfl (.tmp 42) (.tmp 43) 26 rfl 0 5 i0 (.int .u8 0) 1 1 Try.underlying26 hi hz0 hz1 hz2 rfl (by decide) (.slice A6 n c6) n _ rfl (hown.alloc _) ⟨wr.heap.size, 0, none⟩ 1 1 [.int .u8 0] rfl rfl (cell_one_new _ _ _) ?c2 ?c3 ?c4 (Nat.zero_le _) ?c5)
              | fail)
            case c2 => intro u hu; simp at hu; subst hu; rfl
            case c3 => unfold maxLen; omega
            case c4 => omega
            case c5 =>
              intro v' w10 hown1 hg1 _ hat1
              obtain ⟨h3, a3⟩ := one_grown HS.out HAR.out hown1 hg1 hat1 (by omega)
              obtain ⟨A10, c10, rfl, _, _⟩ := h3.form0
              have H3 := Lib.hid (pad_next HN.out h3)
              have A3 := Lib.hid a3
              have hpad : padN (.slice A10 (n + 1) c10) < padN (.slice A6 n c6) := by simp only [padN]; omega
              clear h3 a3 hown1 hg1 hat1 hown
              go_wp2_with fail
              exact ⟨⟨i + 1, _, HLT.out, H3.out, A3.out⟩, hpad⟩
          · obtain rfl : i = 106 := by omega
            have s8 := sl_pad HS.out
            have HFIN := Lib.hid (EncR.yes HOK.out s8 (HA.out.trans HAR.out))
            clear hlt hi106 hown s8
            go_wp2_with fail
            exact bodyPost_ret (v := .tuple #[.slice A6 128 c6, .int .i64 0]) (by simp [results, Try.results8, go_sem]) rfl HFIN.out
  · have HOK := Lib.hid hk
    have HKD := Lib.hid (decide_eq_false fun h => hk (hiff.mp h))
    clear hk hiff
    go_wp2_with (first
      | (go_at_call 21; refine (HK.out _).mono ?_; rintro e w1 ⟨rfl, a1⟩; rw [HKD.out]; have HA1 := Lib.hid a1; clear a1)
      | fail)
    exact bodyPost_ret (v := .tuple #[.slice none 0 0, .int .i64 2]) (by simp [results, Try.results8, go_sem]) rfl (EncR.no HOK.out (HA.out.trans HA1.out))
end Go.Proofs.Ytbdjlmdbnoghnaa
