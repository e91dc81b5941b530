/- SlotOrders, walked. -/
import Derived.Test.YtbjenpkgcdppaaaStP
import Derived.Test.YtbjenpkgcdppaaaStL
namespace Go.Proofs.Ytbjenpkgcdppaaa
open Go.ChangeShapes Go.WideShapes Go.ChangeAt Go.RowKit

def bkl (x : Bk) : List Lit := [.int .i64 x.i, .int .i64 x.g, .int .i64 x.a]
structure WfB (x : Bk) : Prop where
  i : -9223372036854775808 ≤ x.i ∧ x.i < 9223372036854775808
  g : -9223372036854775808 ≤ x.g ∧ x.g < 9223372036854775808
  a : -9223372036854775808 ≤ x.a ∧ x.a < 9223372036854775808
set_option maxRecDepth 3000 in
theorem formedB (x : Bk) : (Value.agg (bkc x)).formed Try.prog 25 = true := by
  unfold Value.formed
  simp only [Try.underlying25, cellsB_]
  rfl
set_option maxRecDepth 3000 in
theorem eq_bk (x y : Bk) (hx : WfB x) (hy : WfB y) : ∀ w, (Op.equalIn 10000 25 (.agg (bkc x)) (.agg (bkc y))).run Try.prog w = .ok (decide (eqBk x y)) w := by
  intro w
  obtain ⟨c, h1, h2⟩ := run_equalIn_deep (P := Try.prog) 9997 3 25 (by kernel_rfl) w 4 4 (.agg (bkc x)) (.agg (bkc y)) _ _ (formedB x) (formedB y) (tkey_block 1 _ _ _ (twf_i64 hx.i) (twf_i64 hx.g) (twf_i64 hx.a)) (tkey_block 1 _ _ _ (twf_i64 hy.i) (twf_i64 hy.g) (twf_i64 hy.a))
  rw [h1]
  have e : ([.int .i64 x.i, .int .i64 x.g, .int .i64 x.a] : List Lit) = [.int .i64 y.i, .int .i64 y.g, .int .i64 y.a] ↔ eqBk x y := by unfold eqBk; simp
  congr 1
  by_cases ho : eqBk x y
  · rw [decide_eq_true ho, h2.2 (e.mpr ho)]
  · rw [decide_eq_false ho]
    cases c
    · rfl
    · exact absurd (e.mp (h2.1 rfl)) ho
set_option maxRecDepth 3000 in
theorem guardB : Try.prog.eqGuardType Try.prog.depth 25 = false := by kernel_rfl
set_option maxRecDepth 3000 in
theorem sizeB : (Try.prog.info? 25).map (·.size) = some 3 := by kernel_rfl
set_option maxRecDepth 3000 in
/-- an operation whose guard holds is one without a guard -/
theorem kw_guardT {ops : Array Oper} {rest : List Oper} {o : Oper} {a : Act} {w : World} {Q : Exit → Act → World → Prop} (hw : Region.wanted o (yielded ops a.tmps) = true) (h : wpList Try.prog ops Q ({ o with guard := none } :: rest) a w) : wpList Try.prog ops Q (o :: rest) a w := by
  unfold wpList at h ⊢
  rw [if_pos hw]
  have e : Region.wanted { o with guard := none } (yielded ops a.tmps) = true := rfl
  rw [if_pos e] at h
  exact h
set_option maxRecDepth 3000 in
set_option maxHeartbeats 3200000 in
theorem orders14_walk (w : World) (v0 : Value) (h0 : BArg v0) (v1 : Value) (h1 : BArg v1) (v2 : Value) (h2 : BArg v2) : Calls Try.prog 6 #[v0, v1, v2] w fun e w' => e = .returned (.bool true) ∧ Below w.heap.size w w' := by
  obtain ⟨x, rfl, hx1, hx2, hx3⟩ := h0
  obtain ⟨y, rfl, hy1, hy2, hy3⟩ := h1
  obtain ⟨z, rfl, hz1, hz2, hz3⟩ := h2
  have HXY := Lib.hid (order_any x y)
  have HYX := Lib.hid (order_any y x)
  have HYZ := Lib.hid (order_any y z)
  have HXZ := Lib.hid (order_any x z)
  have HL := Lib.hid (less_any14 x y)
  have hE := eq_bk x y ⟨hx1, hx2, hx3⟩ ⟨hy1, hy2, hy3⟩
  rw [ordB_neg x y] at HYX
  have hv := ordB_vals x y
  have htr := @lessB_trans x y z
  have hyz := ordB_lt y z
  have hxz := ordB_lt x z
  obtain ⟨n, hn⟩ : ∃ n, n = ordB x y := ⟨_, rfl⟩
  obtain ⟨p, hp⟩ : ∃ n, n = ordB y z := ⟨_, rfl⟩
  obtain ⟨q, hq⟩ : ∃ n, n = ordB x z := ⟨_, rfl⟩
  rw [← hn] at HXY HYX hv
  rw [← hp] at HYZ hyz
  rw [← hq] at HXZ hxz
  obtain ⟨X, hX⟩ : ∃ C, C = bkc x := ⟨_, rfl⟩
  obtain ⟨Y, hY⟩ : ∃ C, C = bkc y := ⟨_, rfl⟩
  obtain ⟨Z, hZ⟩ : ∃ C, C = bkc z := ⟨_, rfl⟩
  have HXS := Lib.hid (show X.size = 3 by rw [hX]; rfl)
  have HYS := Lib.hid (show Y.size = 3 by rw [hY]; rfl)
  have HZS := Lib.hid (show Z.size = 3 by rw [hZ]; rfl)
  rw [← hX, ← hY] at HXY HYX HL hE
  rw [← hY, ← hZ] at HYZ
  rw [← hX, ← hZ] at HXZ
  rw [← hX, ← hY, ← hZ]
  have HE := Lib.hid hE
  have HTR := Lib.hid (show lessB x y → p < 0 → q < 0 from fun h1 h2 => hxz.mpr (htr h1 (hyz.mp h2)))
  have HV := Lib.hid hv
  clear hv hX hY hZ hn hp hq hE htr hyz hxz hx1 hx2 hx3 hy1 hy2 hy3 hz1 hz2 hz3
  go_enter Try.func6, Try.ntmps6
  go_upto_region 3 with (first
    | (refine kop_box rfl _ rfl rfl ?_; intro a w1 hz hb ha; have HA := Lib.hid hb; have HA1 := Lib.hid ((Adv.refl Nul w).trans ha); clear hz hb ha)
    | (refine kop_box rfl _ rfl rfl ?_; intro b w2 hz hb ha; have HB := Lib.hid hb; have HAx := Lib.hid (HA.out.over ha); have HA2 := Lib.hid (HA1.out.trans ha); clear hz hb ha)
    | (refine kop_box rfl _ rfl rfl ?_; intro c w3 hz hb ha; have HC := Lib.hid hb; have HAy := Lib.hid (HAx.out.over ha); have HBy := Lib.hid (HB.out.over ha); have HA3 := Lib.hid (HA2.out.trans ha); clear hz hb ha)
    | (refine kop_load rfl _ rfl a HAy.out rfl Try.underlying25 rfl sizeB HXS.out ?_)
    | (refine kop_load rfl _ rfl b HBy.out rfl Try.underlying25 rfl sizeB HYS.out ?_)
    | (go_at_call 17; refine (HXY.out _).mono ?_; clear HXY; rintro e w4 ⟨rfl, a4⟩; have HA4 := Lib.hid (HA3.out.trans a4); have HX4 := Lib.hid (HAy.out.over a4); have HY4 := Lib.hid (HBy.out.over a4); have HZ4 := Lib.hid (HC.out.over a4); clear a4)
    | fail)
  by_cases hl : lessB x y
  · have HD := Lib.hid (decide_eq_true hl)
    obtain rfl : n = -1 := by rw [HV.out, if_pos hl]
    have HQ := Lib.hid (HTR.out hl)
    clear HV hl
    go_upto_region 7 with (first
      | (refine kop_load rfl _ rfl a HX4.out rfl Try.underlying25 rfl sizeB HXS.out ?_)
      | (refine kop_load rfl _ rfl b HY4.out rfl Try.underlying25 rfl sizeB HYS.out ?_)
      | (go_at_call 18; refine (HL.out _).mono ?_; rintro e w5 ⟨rfl, a5⟩; rw [HD.out]; have HA5 := Lib.hid (HA4.out.trans a5); have HX5 := Lib.hid (HX4.out.over a5); have HY5 := Lib.hid (HY4.out.over a5); have HZ5 := Lib.hid (HZ4.out.over a5); clear a5)
      | fail)
    by_cases hp : 0 ≤ p
    · have hp2 : ¬ p < 0 := by omega
      go_wp2_with (first
        | (refine kw_guardT rfl ?_; refine kop_load rfl _ rfl b HY5.out rfl Try.underlying25 rfl sizeB HYS.out ?_)
        | (refine kw_guardT rfl ?_; refine kop_load rfl _ rfl a HX5.out rfl Try.underlying25 rfl sizeB HXS.out ?_)
        | (go_at_call 17; refine (HYX.out _).mono ?_; clear HYX; rintro e y1 ⟨rfl, b1⟩; have HY1 := Lib.hid (HA5.out.trans b1); have HX6 := Lib.hid (HX5.out.over b1); have HY6 := Lib.hid (HY5.out.over b1); have HZ6 := Lib.hid (HZ5.out.over b1); clear b1)
        | (refine kw_guardT rfl ?_; refine kop_load rfl _ rfl b HY6.out rfl Try.underlying25 rfl sizeB HYS.out ?_)
        | (refine kw_guardT rfl ?_; refine kop_load rfl _ rfl c HZ6.out rfl Try.underlying25 rfl sizeB HZS.out ?_)
        | (go_at_call 17; refine (HYZ.out _).mono ?_; clear HYZ; rintro e y2 ⟨rfl, b2⟩; have HY2 := Lib.hid (HY1.out.trans b2); have HX7 := Lib.hid (HX6.out.over b2); have HZ7 := Lib.hid (HZ6.out.over b2); clear b2)
        | (go_at_call 13; refine (lives14_any _).mono ?_; rintro e y6 ⟨rfl, b6⟩; have HY9 := Lib.hid (HY2.out.trans b6); clear b6)
        | fail)
      go_ret
      exact ⟨by first | rfl | simp, HY9.out.toBelow⟩
    · have hp2 : p < 0 := by omega
      have hq : q < 0 := HQ.out hp2
      have hpd : decide (0 ≤ p) = false := decide_eq_false hp
      go_wp2_with (first
        | (refine kw_guardT rfl ?_; refine kop_load rfl _ rfl b HY5.out rfl Try.underlying25 rfl sizeB HYS.out ?_)
        | (refine kw_guardT rfl ?_; refine kop_load rfl _ rfl a HX5.out rfl Try.underlying25 rfl sizeB HXS.out ?_)
        | (go_at_call 17; refine (HYX.out _).mono ?_; clear HYX; rintro e y1 ⟨rfl, b1⟩; have HY1 := Lib.hid (HA5.out.trans b1); have HX6 := Lib.hid (HX5.out.over b1); have HY6 := Lib.hid (HY5.out.over b1); have HZ6 := Lib.hid (HZ5.out.over b1); clear b1)
        | (refine kw_guardT rfl ?_; refine kop_load rfl _ rfl b HY6.out rfl Try.underlying25 rfl sizeB HYS.out ?_)
        | (refine kw_guardT rfl ?_; refine kop_load rfl _ rfl c HZ6.out rfl Try.underlying25 rfl sizeB HZS.out ?_)
        | (go_at_call 17; refine (HYZ.out _).mono ?_; clear HYZ; rintro e y2 ⟨rfl, b2⟩; have HY2 := Lib.hid (HY1.out.trans b2); have HX7 := Lib.hid (HX6.out.over b2); have HZ7 := Lib.hid (HZ6.out.over b2); clear b2)
        | (refine kw_guardT rfl ?_; refine kop_load rfl _ rfl a HX7.out rfl Try.underlying25 rfl sizeB HXS.out ?_)
        | (refine kw_guardT rfl ?_; refine kop_load rfl _ rfl c HZ7.out rfl Try.underlying25 rfl sizeB HZS.out ?_)
        | (go_at_call 17; refine (HXZ.out _).mono ?_; clear HXZ; rintro e y3 ⟨rfl, b3⟩; have HY3 := Lib.hid (HY2.out.trans b3); clear b3)
        | (go_at_call 13; refine (lives14_any _).mono ?_; rintro e y6 ⟨rfl, b6⟩; have HY9 := Lib.hid (HY3.out.trans b6); clear b6)
        | fail)
      go_ret
      exact ⟨by first | rfl | simp, HY9.out.toBelow⟩
  · have HD := Lib.hid (decide_eq_false hl)
    have hv := HV.out
    rw [if_neg hl] at hv
    clear hl HV
    by_cases he : eqBk x y
    · rw [if_pos he] at hv
      subst hv
      have HDE := Lib.hid (decide_eq_true he)
      rw [HDE.out] at HE
      go_upto_region 5 with (first
        | (refine kop_load rfl _ rfl a HX4.out rfl Try.underlying25 rfl sizeB HXS.out ?_)
        | (refine kop_load rfl _ rfl b HY4.out rfl Try.underlying25 rfl sizeB HYS.out ?_)
        | (go_at_call 18; refine (HL.out _).mono ?_; rintro e w5 ⟨rfl, a5⟩; rw [HD.out]; have HA5 := Lib.hid (HA4.out.trans a5); have HX5 := Lib.hid (HX4.out.over a5); have HY5 := Lib.hid (HY4.out.over a5); have HZ5 := Lib.hid (HZ4.out.over a5); clear a5)
        | fail)
      refine wp_region_lit ?_
      refine kop_load rfl _ rfl a HX5.out rfl Try.underlying25 rfl sizeB HXS.out ?_
      refine kop_load rfl _ rfl b HY5.out rfl Try.underlying25 rfl sizeB HYS.out ?_
      refine kop_neqs HE.out guardB rfl _ _ rfl rfl rfl ?_
      go_wp2_with (first
        | (refine kw_guardT rfl ?_; refine kop_load rfl _ rfl b HY5.out rfl Try.underlying25 rfl sizeB HYS.out ?_)
        | (refine kw_guardT rfl ?_; refine kop_load rfl _ rfl a HX5.out rfl Try.underlying25 rfl sizeB HXS.out ?_)
        | (go_at_call 17; refine (HYX.out _).mono ?_; clear HYX; rintro e y1 ⟨rfl, b1⟩; have HY1 := Lib.hid (HA5.out.trans b1); have HX6 := Lib.hid (HX5.out.over b1); have HY6 := Lib.hid (HY5.out.over b1); have HZ6 := Lib.hid (HZ5.out.over b1); clear b1)
        | (go_at_call 13; refine (lives14_any _).mono ?_; rintro e y6 ⟨rfl, b6⟩; have HY9 := Lib.hid (HY1.out.trans b6); clear b6)
        | fail)
      go_ret
      exact ⟨by first | rfl | simp, HY9.out.toBelow⟩
    · rw [if_neg he] at hv
      subst hv
      have HDE := Lib.hid (decide_eq_false he)
      rw [HDE.out] at HE
      go_upto_region 5 with (first
        | (refine kop_load rfl _ rfl a HX4.out rfl Try.underlying25 rfl sizeB HXS.out ?_)
        | (refine kop_load rfl _ rfl b HY4.out rfl Try.underlying25 rfl sizeB HYS.out ?_)
        | (go_at_call 18; refine (HL.out _).mono ?_; rintro e w5 ⟨rfl, a5⟩; rw [HD.out]; have HA5 := Lib.hid (HA4.out.trans a5); have HX5 := Lib.hid (HX4.out.over a5); have HY5 := Lib.hid (HY4.out.over a5); have HZ5 := Lib.hid (HZ4.out.over a5); clear a5)
        | fail)
      refine wp_region_lit ?_
      refine kop_load rfl _ rfl a HX5.out rfl Try.underlying25 rfl sizeB HXS.out ?_
      refine kop_load rfl _ rfl b HY5.out rfl Try.underlying25 rfl sizeB HYS.out ?_
      refine kop_neqs HE.out guardB rfl _ _ rfl rfl rfl ?_
      go_wp2_with (first
        | (refine kw_guardT rfl ?_; refine kop_load rfl _ rfl b HY5.out rfl Try.underlying25 rfl sizeB HYS.out ?_)
        | (refine kw_guardT rfl ?_; refine kop_load rfl _ rfl a HX5.out rfl Try.underlying25 rfl sizeB HXS.out ?_)
        | (go_at_call 17; refine (HYX.out _).mono ?_; clear HYX; rintro e y1 ⟨rfl, b1⟩; have HY1 := Lib.hid (HA5.out.trans b1); have HX6 := Lib.hid (HX5.out.over b1); have HY6 := Lib.hid (HY5.out.over b1); have HZ6 := Lib.hid (HZ5.out.over b1); clear b1)
        | (go_at_call 13; refine (lives14_any _).mono ?_; rintro e y6 ⟨rfl, b6⟩; have HY9 := Lib.hid (HY1.out.trans b6); clear b6)
        | fail)
      go_ret
      exact ⟨by first | rfl | simp, HY9.out.toBelow⟩
end Go.Proofs.Ytbjenpkgcdppaaa
