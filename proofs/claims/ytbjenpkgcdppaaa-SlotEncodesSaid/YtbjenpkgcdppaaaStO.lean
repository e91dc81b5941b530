/- Blocks in order: the program's Order, the document's Less. -/
import Derived.Test.YtbjenpkgcdppaaaKop
import Derived.Test.YtbjenpkgcdppaaaR01
import Derived.Great.BuildSlice
import Derived.Deep.QuietTactic
import Derived.BigQuiet
import Derived.Deep.RegionHeld3
import Derived.Deep.RegionWith
import Derived.Deep.DeepCutAuto
namespace Go.Proofs.Ytbjenpkgcdppaaa
open Go.ChangeShapes Go.WideShapes Go.ChangeAt Go.RowKit

structure Bk where
  i : Int
  g : Int
  a : Int
def bkc (x : Bk) : Array Value := #[.int .i64 x.i, .int .i64 x.g, .int .i64 x.a]
def cmpI (x y : Int) : Int := if x < y then -1 else if y < x then 1 else 0
def ordB (x y : Bk) : Int := if cmpI x.i y.i ≠ 0 then cmpI x.i y.i else if cmpI x.g y.g ≠ 0 then cmpI x.g y.g else cmpI x.a y.a
def lessB (x y : Bk) : Prop := if x.i ≠ y.i then x.i < y.i else if x.g ≠ y.g then x.g < y.g else x.a < y.a
instance (x y : Bk) : Decidable (lessB x y) := by unfold lessB; exact inferInstance
set_option maxRecDepth 3000 in
theorem cmpI_0 (x y : Int) : cmpI x y = 0 ↔ x = y := by unfold cmpI; split <;> (try split) <;> omega
set_option maxRecDepth 3000 in
theorem cmpI_neg (x y : Int) : cmpI y x = -cmpI x y := by unfold cmpI; split <;> (try split) <;> (try split) <;> omega
set_option maxRecDepth 3000 in
theorem isnan_any (x : Int) (w : World) : Calls Try.prog 44 #[.int .i64 x] w fun e w' => e = .returned (.bool false) ∧ w' = w := by
  go_enter Try.func44, Try.ntmps44
  go_wp2_with fail
  go_ret
  exact ⟨by simp, rfl⟩
set_option maxRecDepth 3000 in
theorem compare_any (x y : Int) (w : World) : Calls Try.prog 35 #[.int .i64 x, .int .i64 y] w fun e w' => e = .returned (.int .i64 (cmpI x y)) ∧ w' = w := by
  obtain ⟨C, hC⟩ : ∃ C, C = cmpI x y := ⟨_, rfl⟩
  rw [← hC]
  by_cases h1 : x < y
  · obtain rfl : C = -1 := by rw [hC, cmpI, if_pos h1]
    clear hC
    go_enter Try.func35, Try.ntmps35
    go_wp2_with (first
      | (go_at_call 44; refine (isnan_any _ _).mono ?_; rintro e w1 ⟨rfl, rfl⟩)
      | fail)
    go_ret
    exact ⟨rfl, rfl⟩
  · by_cases h2 : y < x
    · obtain rfl : C = 1 := by rw [hC, cmpI, if_neg h1, if_pos h2]
      clear hC
      go_enter Try.func35, Try.ntmps35
      go_wp2_with (first
        | (go_at_call 44; refine (isnan_any _ _).mono ?_; rintro e w1 ⟨rfl, rfl⟩)
        | fail)
      go_ret
      exact ⟨rfl, rfl⟩
    · obtain rfl : C = 0 := by rw [hC, cmpI, if_neg h1, if_neg h2]
      clear hC
      go_enter Try.func35, Try.ntmps35
      go_wp2_with (first
        | (go_at_call 44; refine (isnan_any _ _).mono ?_; rintro e w1 ⟨rfl, rfl⟩)
        | fail)
      go_ret
      exact ⟨rfl, rfl⟩
/-- the first of three that is not 0 -/
def firstN (x y z : Int) : Int := if x ≠ 0 then x else if y ≠ 0 then y else z
def OrL (w : World) (L : List Int) (t8 : Value) (wr : World) : Prop := ∃ k : Nat, t8 = .int .i64 (k : Int) ∧ k ≤ 3 ∧ (∀ j, j < k → L.getD j 0 = 0) ∧ wr = w
set_option maxRecDepth 3000 in
theorem or_any (b : Nat) (x y z : Int) (w : World) (c0 : w.cell? ⟨b, 0, none⟩ = some (.int .i64 x)) (c1 : w.cell? ⟨b, 1, none⟩ = some (.int .i64 y)) (c2 : w.cell? ⟨b, 2, none⟩ = some (.int .i64 z)) :
    Calls Try.prog 34 #[.slice (some ⟨b, 0, none⟩) 3 3] w fun e w' => e = .returned (.int .i64 (firstN x y z)) ∧ w' = w := by
  obtain ⟨C, hC⟩ : ∃ C, C = firstN x y z := ⟨_, rfl⟩
  rw [← hC]
  have HC := Lib.hid hC
  clear hC
  have hcell : ∀ k : Nat, k < 3 → w.cell? ⟨b, k, none⟩ = some (.int .i64 ([x, y, z].getD k 0)) := fun k hk => by
    match k, hk with
    | 0, _ => exact c0
    | 1, _ => exact c1
    | 2, _ => exact c2
  have HL := Lib.hid hcell
  clear c0 c1 c2 hcell
  go_enter Try.func34, Try.ntmps34
  go_wp2_with fail
  go_loopw [8] (OrL w [x, y, z]) (fun t _ => 3 - (intOf t).toNat)
  case atStart => exact ⟨0, rfl, Nat.zero_le _, fun j hj => absurd hj (Nat.not_lt_zero _), rfl⟩
  case round =>
    obtain ⟨k, rfl, hk, hz, rfl⟩ := hrel
    have HZ := Lib.hid hz
    clear hz
    by_cases hlt : k < 3
    · have ck := HL.out k hlt
      have HLT := Lib.hid hlt
      obtain ⟨p, hp⟩ : ∃ p, p = [x, y, z].getD k 0 := ⟨_, rfl⟩
      rw [← hp] at ck
      have HP := Lib.hid hp
      clear hp
      by_cases h0 : p = 0
      · subst h0
        go_wp2_with fail
        exact ⟨⟨k + 1, by simp, HLT.out, fun j hj => by by_cases e : j = k; rw [e]; exact HP.out.symm; exact HZ.out j (by omega), rfl⟩, by have := HLT.out; simp [intOf] <;> omega⟩
      · have h0' : (p != 0) = true := by simp [h0]
        have HC2 := Lib.hid (show C = p by
          rw [HC.out, firstN]
          have := HZ.out
          match k, hlt with
          | 0, _ => have e : p = x := HP.out; subst e; rw [if_pos h0]
          | 1, _ => have e : p = y := HP.out; have e0 : x = 0 := this 0 (by decide); subst e; rw [e0, if_neg (by simp), if_pos h0]
          | 2, _ => have e : p = z := HP.out; have e0 : x = 0 := this 0 (by decide); have e1 : y = 0 := this 1 (by decide); subst e; rw [e0, e1, if_neg (by simp), if_neg (by simp)])
        clear hk
        go_wp2_with fail
        go_ret
        exact ⟨by rw [HC2.out]; rfl, rfl⟩
    · obtain rfl : k = 3 := by omega
      have HC2 := Lib.hid (show C = 0 by
        rw [HC.out, firstN]
        have e0 : x = 0 := HZ.out 0 (by decide)
        have e1 : y = 0 := HZ.out 1 (by decide)
        have e2 : z = 0 := HZ.out 2 (by decide)
        rw [e0, e1, e2]; rfl)
      clear hlt hk
      go_wp2_with fail
      go_ret
      exact ⟨by rw [HC2.out]; rfl, rfl⟩
set_option maxRecDepth 3000 in
theorem ordB_first (x y : Bk) : ordB x y = firstN (cmpI x.i y.i) (cmpI x.g y.g) (cmpI x.a y.a) := rfl
set_option maxRecDepth 3000 in
theorem lessB_iff (x y : Bk) : lessB x y ↔ ordB x y = -1 := by
  unfold lessB ordB cmpI
  by_cases h1 : x.i = y.i <;> by_cases h2 : x.g = y.g <;> simp only [h1, h2, ne_eq, not_true_eq_false, not_false_eq_true, if_true, if_false, Int.lt_irrefl] <;> (repeat' split) <;> omega
set_option maxRecDepth 3000 in
set_option maxHeartbeats 1600000 in
theorem order_any (x y : Bk) (w : World) : Calls Try.prog 17 #[.agg (bkc x), .agg (bkc y)] w fun e w' => e = .returned (.int .i64 (ordB x y)) ∧ Adv Nul w Nul w' := by
  rw [ordB_first]
  obtain ⟨i, g, a⟩ := x
  obtain ⟨i2, g2, a2⟩ := y
  obtain ⟨C, hC⟩ : ∃ C, C = firstN (cmpI i i2) (cmpI g g2) (cmpI a a2) := ⟨_, rfl⟩
  have HC := Lib.hid hC
  simp only [bkc]
  rw [← hC]
  clear hC
  go_enter Try.func17, Try.ntmps17
  go_upto_region 1 with (first
    | (refine kop_box rfl _ rfl rfl ?_; intro p w1 hz hb ha; have HBP := Lib.hid hb; have HA1 := Lib.hid ((Adv.refl Nul w).trans ha); clear hz hb ha)
    | (refine kop_box rfl _ rfl rfl ?_; intro q w2 hz hb ha; have HBQ := Lib.hid hb; have HB2 := Lib.hid (HBP.out.over ha); have HA2 := Lib.hid (HA1.out.trans ha); clear hz hb ha)
    | fail)
  have K0 := Lib.hid (show ((World.drew w2).cell? ⟨p, 0, none⟩ = some (.int .i64 i) ∧ (World.drew w2).cell? ⟨p, 1, none⟩ = some (.int .i64 g) ∧ (World.drew w2).cell? ⟨p, 2, none⟩ = some (.int .i64 a)) ∧ ((World.drew w2).cell? ⟨q, 0, none⟩ = some (.int .i64 i2) ∧ (World.drew w2).cell? ⟨q, 1, none⟩ = some (.int .i64 g2) ∧ (World.drew w2).cell? ⟨q, 2, none⟩ = some (.int .i64 a2)) from ⟨⟨HB2.out.cell 0, HB2.out.cell 1, HB2.out.cell 2⟩, ⟨HBQ.out.cell 0, HBQ.out.cell 1, HBQ.out.cell 2⟩⟩)
  have K1 := Lib.hid (fun (o : Obj) => show ((World.drew (w2.alloc o)).cell? ⟨p, 0, none⟩ = some (.int .i64 i) ∧ (World.drew (w2.alloc o)).cell? ⟨p, 1, none⟩ = some (.int .i64 g) ∧ (World.drew (w2.alloc o)).cell? ⟨p, 2, none⟩ = some (.int .i64 a)) ∧ ((World.drew (w2.alloc o)).cell? ⟨q, 0, none⟩ = some (.int .i64 i2) ∧ (World.drew (w2.alloc o)).cell? ⟨q, 1, none⟩ = some (.int .i64 g2) ∧ (World.drew (w2.alloc o)).cell? ⟨q, 2, none⟩ = some (.int .i64 a2)) from ⟨⟨(HB2.out.alloc o).cell 0, (HB2.out.alloc o).cell 1, (HB2.out.alloc o).cell 2⟩, ⟨(HBQ.out.alloc o).cell 0, (HBQ.out.alloc o).cell 1, (HBQ.out.alloc o).cell 2⟩⟩)
  refine rstart (S := (fun w' => (w'.cell? ⟨p, 0, none⟩ = some (.int .i64 i) ∧ w'.cell? ⟨p, 1, none⟩ = some (.int .i64 g) ∧ w'.cell? ⟨p, 2, none⟩ = some (.int .i64 a)) ∧ (w'.cell? ⟨q, 0, none⟩ = some (.int .i64 i2) ∧ w'.cell? ⟨q, 1, none⟩ = some (.int .i64 g2) ∧ w'.cell? ⟨q, 2, none⟩ = some (.int .i64 a2)))) (by first | with_reducible exact K1.out _ | with_reducible exact K0.out) (fun hH => ?_)
  refine tk (i := 0) (oi := ⟨some 5, .fieldAddr 25 (.tmp 2) 0, 0, "slot.go:93", #[], none⟩) hH.out (by rintro w ⟨⟨s0, s1, s2⟩, ⟨q0, q1, q2⟩⟩; go_simp <;> with_reducible rfl) ?_
  simp only [Act.put, sA, sB, sC]
  refine tk (i := 1) (oi := ⟨some 6, .fieldAddr 23 (.tmp 5) 0, 0, "slot.go:93", #[⟨0, .data⟩], none⟩) hH.out (by rintro w ⟨⟨s0, s1, s2⟩, ⟨q0, q1, q2⟩⟩; go_simp <;> with_reducible rfl) ?_
  simp only [Act.put, sA, sB, sC]
  refine tk (i := 2) (oi := ⟨some 7, .load 3 (.tmp 6), 3, "slot.go:93", #[⟨1, .data⟩], none⟩) hH.out (by rintro w ⟨⟨s0, s1, s2⟩, ⟨q0, q1, q2⟩⟩; go_simp <;> with_reducible rfl) ?_
  simp only [Act.put, sA, sB, sC]
  refine tk (i := 3) (oi := ⟨some 8, .fieldAddr 25 (.tmp 3) 0, 0, "slot.go:93", #[], none⟩) hH.out (by rintro w ⟨⟨s0, s1, s2⟩, ⟨q0, q1, q2⟩⟩; go_simp <;> with_reducible rfl) ?_
  simp only [Act.put, sA, sB, sC]
  refine tk (i := 4) (oi := ⟨some 9, .fieldAddr 23 (.tmp 8) 0, 0, "slot.go:93", #[⟨3, .data⟩], none⟩) hH.out (by rintro w ⟨⟨s0, s1, s2⟩, ⟨q0, q1, q2⟩⟩; go_simp <;> with_reducible rfl) ?_
  simp only [Act.put, sA, sB, sC]
  refine tk (i := 5) (oi := ⟨some 10, .load 3 (.tmp 9), 3, "slot.go:93", #[⟨4, .data⟩], none⟩) hH.out (by rintro w ⟨⟨s0, s1, s2⟩, ⟨q0, q1, q2⟩⟩; go_simp <;> with_reducible rfl) ?_
  simp only [Act.put, sA, sB, sC]
  refine tk (i := 7) (oi := ⟨some 12, .fieldAddr 25 (.tmp 2) 0, 0, "slot.go:93", #[], none⟩) hH.out (by rintro w ⟨⟨s0, s1, s2⟩, ⟨q0, q1, q2⟩⟩; go_simp <;> with_reducible rfl) ?_
  simp only [Act.put, sA, sB, sC]
  refine tk (i := 8) (oi := ⟨some 13, .fieldAddr 23 (.tmp 12) 1, 0, "slot.go:93", #[⟨7, .data⟩], none⟩) hH.out (by rintro w ⟨⟨s0, s1, s2⟩, ⟨q0, q1, q2⟩⟩; go_simp <;> with_reducible rfl) ?_
  simp only [Act.put, sA, sB, sC]
  refine tk (i := 9) (oi := ⟨some 14, .load 3 (.tmp 13), 3, "slot.go:93", #[⟨8, .data⟩], none⟩) hH.out (by rintro w ⟨⟨s0, s1, s2⟩, ⟨q0, q1, q2⟩⟩; go_simp <;> with_reducible rfl) ?_
  simp only [Act.put, sA, sB, sC]
  refine tk (i := 10) (oi := ⟨some 15, .fieldAddr 25 (.tmp 3) 0, 0, "slot.go:93", #[], none⟩) hH.out (by rintro w ⟨⟨s0, s1, s2⟩, ⟨q0, q1, q2⟩⟩; go_simp <;> with_reducible rfl) ?_
  simp only [Act.put, sA, sB, sC]
  refine tk (i := 11) (oi := ⟨some 16, .fieldAddr 23 (.tmp 15) 1, 0, "slot.go:93", #[⟨10, .data⟩], none⟩) hH.out (by rintro w ⟨⟨s0, s1, s2⟩, ⟨q0, q1, q2⟩⟩; go_simp <;> with_reducible rfl) ?_
  simp only [Act.put, sA, sB, sC]
  refine tk (i := 12) (oi := ⟨some 17, .load 3 (.tmp 16), 3, "slot.go:93", #[⟨11, .data⟩], none⟩) hH.out (by rintro w ⟨⟨s0, s1, s2⟩, ⟨q0, q1, q2⟩⟩; go_simp <;> with_reducible rfl) ?_
  simp only [Act.put, sA, sB, sC]
  refine tk (i := 14) (oi := ⟨some 19, .fieldAddr 25 (.tmp 2) 1, 0, "slot.go:93", #[], none⟩) hH.out (by rintro w ⟨⟨s0, s1, s2⟩, ⟨q0, q1, q2⟩⟩; go_simp <;> with_reducible rfl) ?_
  simp only [Act.put, sA, sB, sC]
  refine tk (i := 15) (oi := ⟨some 20, .load 3 (.tmp 19), 3, "slot.go:93", #[⟨14, .data⟩], none⟩) hH.out (by rintro w ⟨⟨s0, s1, s2⟩, ⟨q0, q1, q2⟩⟩; go_simp <;> with_reducible rfl) ?_
  simp only [Act.put, sA, sB, sC]
  refine tk (i := 16) (oi := ⟨some 21, .fieldAddr 25 (.tmp 3) 1, 0, "slot.go:93", #[], none⟩) hH.out (by rintro w ⟨⟨s0, s1, s2⟩, ⟨q0, q1, q2⟩⟩; go_simp <;> with_reducible rfl) ?_
  simp only [Act.put, sA, sB, sC]
  refine tk (i := 17) (oi := ⟨some 22, .load 3 (.tmp 21), 3, "slot.go:93", #[⟨16, .data⟩], none⟩) hH.out (by rintro w ⟨⟨s0, s1, s2⟩, ⟨q0, q1, q2⟩⟩; go_simp <;> with_reducible rfl) ?_
  simp only [Act.put, sA, sB, sC]
  refine rdy (i := 6) (oi := ⟨some 11, .call ⟨.value (.func 35), #[.tmp 7, .tmp 10], #[3, 3]⟩, 3, "slot.go:94", #[⟨2, .data⟩, ⟨5, .data⟩], none⟩) (fun K hK => ?_)
  go_simp
  refine (compare_any _ _ _).mono ?_
  rintro e w9 ⟨rfl, rfl⟩
  go_wp2_with fail
  refine hK.out _ _ (by first | with_reducible exact K1.out _ | with_reducible exact K0.out) (fun hHeld => ?_)
  replace hH := Lib.hid hHeld
  clear hK K hHeld
  try simp only [Act.put, sA, sB, sC]
  refine rdy (i := 13) (oi := ⟨some 18, .call ⟨.value (.func 35), #[.tmp 14, .tmp 17], #[3, 3]⟩, 3, "slot.go:95", #[⟨9, .data⟩, ⟨12, .data⟩, ⟨6, .chain⟩], none⟩) (fun K hK => ?_)
  go_simp
  refine (compare_any _ _ _).mono ?_
  rintro e w9 ⟨rfl, rfl⟩
  go_wp2_with fail
  refine hK.out _ _ (by first | with_reducible exact K1.out _ | with_reducible exact K0.out) (fun hHeld => ?_)
  replace hH := Lib.hid hHeld
  clear hK K hHeld
  try simp only [Act.put, sA, sB, sC]
  refine rdy (i := 18) (oi := ⟨some 23, .call ⟨.value (.func 35), #[.tmp 20, .tmp 22], #[3, 3]⟩, 3, "slot.go:96", #[⟨15, .data⟩, ⟨17, .data⟩, ⟨13, .chain⟩], none⟩) (fun K hK => ?_)
  go_simp
  refine (compare_any _ _ _).mono ?_
  rintro e w9 ⟨rfl, rfl⟩
  go_wp2_with fail
  refine hK.out _ _ (by first | with_reducible exact K1.out _ | with_reducible exact K0.out) (fun hHeld => ?_)
  replace hH := Lib.hid hHeld
  clear hK K hHeld
  try simp only [Act.put, sA, sB, sC]
  refine rdy (i := 19) (oi := ⟨some 24, .buildSlice 77 3 #[(0, .tmp 11), (1, .tmp 18), (2, .tmp 23)], 77, "slot.go:93", #[⟨6, .data⟩, ⟨13, .data⟩, ⟨18, .data⟩], none⟩) (fun K hK => ?_)
  go_simp
  refine hK.out _ _ (by first | with_reducible exact K1.out _ | with_reducible exact K0.out) (fun hHeld => ?_)
  replace hH := Lib.hid hHeld
  clear hK K hHeld
  try simp only [Act.put, sA, sB, sC]
  refine rdy (i := 20) (oi := ⟨some 25, .call ⟨.value (.func 34), #[.tmp 24], #[77]⟩, 3, "slot.go:93", #[⟨19, .data⟩, ⟨18, .chain⟩], none⟩) (fun K hK => ?_)
  go_simp
  refine (or_any _ (cmpI i i2) (cmpI g g2) (cmpI a a2) _ ((Blk.new w2 3 #[.int .i64 (cmpI i i2), .int .i64 (cmpI g g2), .int .i64 (cmpI a a2)]).drew.cell 0) ((Blk.new w2 3 #[.int .i64 (cmpI i i2), .int .i64 (cmpI g g2), .int .i64 (cmpI a a2)]).drew.cell 1) ((Blk.new w2 3 #[.int .i64 (cmpI i i2), .int .i64 (cmpI g g2), .int .i64 (cmpI a a2)]).drew.cell 2)).mono ?_
  rintro e w9 ⟨rfl, rfl⟩
  go_wp2_with fail
  refine hK.out _ _ (by first | with_reducible exact K1.out _ | with_reducible exact K0.out) (fun hHeld => ?_)
  replace hH := Lib.hid hHeld
  clear hK K hHeld
  try simp only [Act.put, sA, sB, sC]
  refine tk (i := 21) (oi := ⟨some 4, .assign (.tmp 25), 3, "slot.go:93", #[⟨20, .data⟩, ⟨20, .chain⟩, ⟨0, .phase⟩, ⟨1, .phase⟩, ⟨2, .phase⟩, ⟨3, .phase⟩, ⟨4, .phase⟩, ⟨5, .phase⟩, ⟨6, .phase⟩, ⟨7, .phase⟩, ⟨8, .phase⟩, ⟨9, .phase⟩, ⟨10, .phase⟩, ⟨11, .phase⟩, ⟨12, .phase⟩, ⟨13, .phase⟩, ⟨14, .phase⟩, ⟨15, .phase⟩, ⟨16, .phase⟩, ⟨17, .phase⟩, ⟨18, .phase⟩, ⟨19, .phase⟩, ⟨20, .phase⟩], none⟩) hH.out (by rintro w ⟨⟨s0, s1, s2⟩, ⟨q0, q1, q2⟩⟩; go_simp <;> with_reducible rfl) ?_
  simp only [Act.put, sA, sB, sC]
  refine wpAnyH_done (by kernel_rfl) ?_ _
  go_wp2_with fail
  go_ret
  exact ⟨by rw [HC.out]; rfl, (HA2.out.alloc _).drew⟩
set_option maxRecDepth 3000 in
set_option maxHeartbeats 1600000 in
theorem less_any14 (x y : Bk) (w : World) : Calls Try.prog 18 #[.agg (bkc x), .agg (bkc y)] w fun e w' => e = .returned (.bool (decide (lessB x y))) ∧ Adv Nul w Nul w' := by
  obtain ⟨C, hC⟩ : ∃ C, C = decide (lessB x y) := ⟨_, rfl⟩
  rw [← hC]
  have HC := Lib.hid hC
  clear hC
  obtain ⟨i, g, a⟩ := x
  obtain ⟨i2, g2, a2⟩ := y
  simp only [bkc]
  by_cases h1 : i = i2
  · subst h1
    by_cases h2 : g = g2
    · subst h2
      have HF := Lib.hid (show C = decide (a < a2) by rw [HC.out]; simp [lessB])
      go_enter Try.func18, Try.ntmps18
      go_wp2_with fail
      go_ret
      exact ⟨by rw [HF.out]; rfl, ((Adv.refl _ _).alloc _).alloc _⟩
    · have h2' : (g != g2) = true := by simp [h2]
      have HF := Lib.hid (show C = decide (g < g2) by rw [HC.out]; simp [lessB, h2])
      go_enter Try.func18, Try.ntmps18
      go_wp2_with fail
      go_ret
      exact ⟨by rw [HF.out]; rfl, ((Adv.refl _ _).alloc _).alloc _⟩
  · have h1' : (i != i2) = true := by simp [h1]
    have HF := Lib.hid (show C = decide (i < i2) by rw [HC.out]; simp [lessB, h1])
    go_enter Try.func18, Try.ntmps18
    go_wp2_with fail
    go_ret
    exact ⟨by rw [HF.out]; rfl, ((Adv.refl _ _).alloc _).alloc _⟩
/-- whether two blocks are the same -/
def eqBk (x y : Bk) : Prop := x.i = y.i ∧ x.g = y.g ∧ x.a = y.a
instance (x y : Bk) : Decidable (eqBk x y) := by unfold eqBk; exact inferInstance
set_option maxRecDepth 3000 in
theorem ordB_vals (x y : Bk) : ordB x y = if lessB x y then -1 else if eqBk x y then 0 else 1 := by
  unfold lessB ordB cmpI eqBk
  by_cases h1 : x.i = y.i <;> by_cases h2 : x.g = y.g <;> simp only [h1, h2, ne_eq, not_true_eq_false, not_false_eq_true, if_true, if_false, Int.lt_irrefl, true_and, false_and, if_false] <;> (repeat' split) <;> omega
set_option maxRecDepth 3000 in
theorem ordB_neg (x y : Bk) : ordB y x = -ordB x y := by
  unfold ordB
  rw [cmpI_neg x.i y.i, cmpI_neg x.g y.g, cmpI_neg x.a y.a]
  by_cases h1 : cmpI x.i y.i = 0 <;> by_cases h2 : cmpI x.g y.g = 0 <;> simp [h1, h2]
set_option maxRecDepth 3000 in
theorem lessB_trans {x y z : Bk} (h1 : lessB x y) (h2 : lessB y z) : lessB x z := by
  unfold lessB at *
  split at h1 <;> split at h2 <;> split <;> (try split at h1) <;> (try split at h2) <;> (try split) <;> omega
set_option maxRecDepth 3000 in
theorem ordB_lt (x y : Bk) : ordB x y < 0 ↔ lessB x y := by
  rw [ordB_vals]
  split
  · next h => exact ⟨fun _ => h, fun _ => by decide⟩
  · next h => split <;> exact ⟨fun o => absurd o (by decide), fun o => absurd o h⟩
end Go.Proofs.Ytbjenpkgcdppaaa
