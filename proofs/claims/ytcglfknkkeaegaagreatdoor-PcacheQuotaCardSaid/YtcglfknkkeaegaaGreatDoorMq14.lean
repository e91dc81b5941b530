/- Whether two pieces are the same. slices.EqualFunc over pieces. Join: the program's. Join: the document's. Two lists of pieces that grow side by side; pieces that came in. What a ring says. -/
import Derived.Test.YtcglfknkkeaegaaGreatDoorMq13
import Derived.Test.YtcglfknkkeaegaaGreatDoorMq06
import Derived.Test.YtcglfknkkeaegaaGreatDoorMq05
import Derived.Test.YtcglfknkkeaegaaGreatDoorMq04
import Derived.Deep.Slices
import Derived.Deep.Fields
import Derived.ChangeArms
namespace Go.Proofs.YtcglfknkkeaegaaGreatDoor
open Go.RowKit

def SameR (w : World) (B : Bool) (x : Ending) (w' : World) : Prop := x = .returned (.bool B) ∧ Adv Nul w Nul w'
theorem flags_adv (e c : Int) (f g : Bool) (v : Value) (w : World) :
    Calls Tryz.prog 177 #[.agg #[.int .u64 e, .int .u64 c, .bool f, .bool g, v]] w fun x w' => x = .returned (.int .u8 ((flg f g : Nat) : Int)) ∧ Adv Nul w Nul w' :=
  (flags_any e c f g v w).mono (by rintro x w' ⟨rfl, rfl⟩; exact ⟨rfl, (Adv.refl _ _).alloc _⟩)
set_option maxRecDepth 3000 in
set_option maxHeartbeats 3200000 in
theorem psame_any (e1 c1 e2 c2 : Nat) (f1 g1 f2 g2 : Bool) (A1 A2 : Option Addr) (n1 n2 k1 k2 : Nat) (l1 l2 : List Nat) (w : World) (h1 : Rd w 1 (.slice A1 n1 k1) n1 (l1.map u8)) (h2 : Rd w 1 (.slice A2 n2 k2) n2 (l2.map u8)) (hl1 : ∀ x ∈ l1, x < 256) (hl2 : ∀ x ∈ l2, x < 256) :
    Calls Tryz.prog 148 #[.agg #[.int .u64 (e1 : Int), .int .u64 (c1 : Int), .bool f1, .bool g1, .slice A1 n1 k1], .agg #[.int .u64 (e2 : Int), .int .u64 (c2 : Int), .bool f2, .bool g2, .slice A2 n2 k2]] w
      (SameR w (decide (e1 = e2 ∧ c1 = c2 ∧ flg f1 g1 = flg f2 g2 ∧ l1 = l2))) := by
  obtain ⟨b, hb⟩ : ∃ b, b = w.heap.size := ⟨_, rfl⟩
  obtain ⟨q, hq⟩ : ∃ q, q = (w.alloc (.cells #[.int .u64 (e1 : Int), .int .u64 (c1 : Int), .bool f1, .bool g1, .slice A1 n1 k1] 177)).heap.size := ⟨_, rfl⟩
  obtain ⟨V, hV⟩ : ∃ V, V = (w.alloc (.cells #[.int .u64 (e1 : Int), .int .u64 (c1 : Int), .bool f1, .bool g1, .slice A1 n1 k1] 177)).alloc (.cells #[.int .u64 (e2 : Int), .int .u64 (c2 : Int), .bool f2, .bool g2, .slice A2 n2 k2] 177) := ⟨_, rfl⟩
  have hX1 : Blk V b 177 #[.int .u64 (e1 : Int), .int .u64 (c1 : Int), .bool f1, .bool g1, .slice A1 n1 k1] := by rw [hV, hb]; exact (Blk.new _ _ _).alloc _
  have hX2 : Blk V q 177 #[.int .u64 (e2 : Int), .int .u64 (c2 : Int), .bool f2, .bool g2, .slice A2 n2 k2] := by rw [hV, hq]; exact Blk.new _ _ _
  have hA : Adv Nul w Nul V := by rw [hV]; exact ((Adv.refl _ _).alloc _).alloc _
  have hR1 : Rd V 1 (.slice A1 n1 k1) n1 (l1.map u8) := by rw [hV]; exact (h1.up _).up _
  have hR2 : Rd V 1 (.slice A2 n2 k2) n2 (l2.map u8) := by rw [hV]; exact (h2.up _).up _
  have hq1 : q = b + 1 := by rw [hq, hb]; simp
  have HQ1 := Lib.hid hq1
  have HC0 := Lib.hid (five2 hX1 hX2)
  have HD0 := Lib.hid (five2 (w := V.drew) hX1 hX2)
  have HX1 := Lib.hid hX1
  have HX2 := Lib.hid hX2
  have HA := Lib.hid hA
  have HR1 := Lib.hid hR1
  have HR2 := Lib.hid hR2
  have HV := Lib.hid hV
  have HB := Lib.hid hb
  have HQ := Lib.hid hq
  have HL1 := Lib.hid hl1
  have HL2 := Lib.hid hl2
  obtain ⟨B, hB⟩ : ∃ B, B = decide (e1 = e2 ∧ c1 = c2 ∧ flg f1 g1 = flg f2 g2 ∧ l1 = l2) := ⟨_, rfl⟩
  rw [← hB]
  have HBB := Lib.hid hB
  clear hX1 hX2 hA hR1 hR2 hV hb hq h1 h2 hl1 hl2 hB hq1
  go_enter Tryz.func148, Tryz.ntmps148
  go_wp2_with fail
  rw [← HV.out, ← HB.out, ← HQ1.out]
  obtain ⟨s0, s1, s2, s3, s4, s5, s6, s7, s8, s9⟩ := HC0.out
  by_cases he : e1 = e2
  · have he' : ((e1 : Int) == (e2 : Int)) = true := by rw [beq_iff_eq]; omega
    by_cases hc : c1 = c2
    · have hc' : ((c1 : Int) == (c2 : Int)) = true := by rw [beq_iff_eq]; omega
      have HE := Lib.hid he
      have HCC := Lib.hid hc
      by_cases hx : flg f1 g1 = flg f2 g2
      · have hx' : (((flg f1 g1 : Nat) : Int) == ((flg f2 g2 : Nat) : Int)) = true := by rw [beq_iff_eq]; omega
        obtain rfl : B = decide (l1 = l2) := by rw [HBB.out]; by_cases hl : l1 = l2 <;> simp [hl, he, hc, hx]
        clear he hc hx
        refine rstart (S := (fun w' => w'.cell? ⟨b, 0, none⟩ = some (.int .u64 (e1 : Int)) ∧ w'.cell? ⟨b, 1, none⟩ = some (.int .u64 (c1 : Int)) ∧ w'.cell? ⟨b, 2, none⟩ = some (.bool f1) ∧ w'.cell? ⟨b, 3, none⟩ = some (.bool g1) ∧ w'.cell? ⟨b, 4, none⟩ = some (.slice A1 n1 k1) ∧ w'.cell? ⟨q, 0, none⟩ = some (.int .u64 (e2 : Int)) ∧ w'.cell? ⟨q, 1, none⟩ = some (.int .u64 (c2 : Int)) ∧ w'.cell? ⟨q, 2, none⟩ = some (.bool f2) ∧ w'.cell? ⟨q, 3, none⟩ = some (.bool g2) ∧ w'.cell? ⟨q, 4, none⟩ = some (.slice A2 n2 k2))) (by first | with_reducible exact HC2.out | with_reducible exact HC1.out | with_reducible exact HD0.out) (fun hH => ?_)
        refine tk (i := 0) (oi := ⟨some 5, .fieldAddr 177 (.tmp 2) 0, 0, "lap.go:159", #[], none⟩) hH.out (by rintro w ⟨s0, s1, s2, s3, s4, s5, s6, s7, s8, s9⟩; go_simp <;> with_reducible rfl) ?_
        simp only [Act.put, sA, sB, sC]
        refine tk (i := 1) (oi := ⟨some 6, .load 38 (.tmp 5), 38, "lap.go:159", #[⟨0, .data⟩], none⟩) hH.out (by rintro w ⟨s0, s1, s2, s3, s4, s5, s6, s7, s8, s9⟩; go_simp <;> with_reducible rfl) ?_
        simp only [Act.put, sA, sB, sC]
        refine tk (i := 2) (oi := ⟨some 7, .fieldAddr 177 (.tmp 3) 0, 0, "lap.go:159", #[], none⟩) hH.out (by rintro w ⟨s0, s1, s2, s3, s4, s5, s6, s7, s8, s9⟩; go_simp <;> with_reducible rfl) ?_
        simp only [Act.put, sA, sB, sC]
        refine tk (i := 3) (oi := ⟨some 8, .load 38 (.tmp 7), 38, "lap.go:159", #[⟨2, .data⟩], none⟩) hH.out (by rintro w ⟨s0, s1, s2, s3, s4, s5, s6, s7, s8, s9⟩; go_simp <;> with_reducible rfl) ?_
        simp only [Act.put, sA, sB, sC]
        refine tk (i := 4) (oi := ⟨some 9, .binOp .eql 38 (.tmp 6) (.tmp 8) 38, 4, "lap.go:159", #[⟨1, .data⟩, ⟨3, .data⟩], none⟩) hH.out (by rintro w ⟨s0, s1, s2, s3, s4, s5, s6, s7, s8, s9⟩; go_simp <;> with_reducible rfl) ?_
        simp only [Act.put, sA, sB, sC]
        refine tk (i := 5) (oi := ⟨some 10, .move (.tmp 9), 4, "lap.go:159", #[⟨4, .data⟩], none⟩) hH.out (by rintro w ⟨s0, s1, s2, s3, s4, s5, s6, s7, s8, s9⟩; go_simp <;> with_reducible rfl) ?_
        simp only [Act.put, sA, sB, sC]
        refine tk (i := 6) (oi := { dst := some 11, op := .fieldAddr 177 (.tmp 2) 1, type := 0, pos := "lap.go:159", after := #[⟨5, .guard⟩], guard := some (5, true) }) hH.out (by rintro w ⟨s0, s1, s2, s3, s4, s5, s6, s7, s8, s9⟩; go_simp <;> with_reducible rfl) ?_
        simp only [Act.put, sA, sB, sC]
        refine tk (i := 7) (oi := { dst := some 12, op := .load 38 (.tmp 11), type := 38, pos := "lap.go:159", after := #[⟨6, .data⟩, ⟨5, .guard⟩], guard := some (5, true) }) hH.out (by rintro w ⟨s0, s1, s2, s3, s4, s5, s6, s7, s8, s9⟩; go_simp <;> with_reducible rfl) ?_
        simp only [Act.put, sA, sB, sC]
        refine tk (i := 8) (oi := { dst := some 13, op := .fieldAddr 177 (.tmp 3) 1, type := 0, pos := "lap.go:159", after := #[⟨5, .guard⟩], guard := some (5, true) }) hH.out (by rintro w ⟨s0, s1, s2, s3, s4, s5, s6, s7, s8, s9⟩; go_simp <;> with_reducible rfl) ?_
        simp only [Act.put, sA, sB, sC]
        refine tk (i := 9) (oi := { dst := some 14, op := .load 38 (.tmp 13), type := 38, pos := "lap.go:159", after := #[⟨8, .data⟩, ⟨5, .guard⟩], guard := some (5, true) }) hH.out (by rintro w ⟨s0, s1, s2, s3, s4, s5, s6, s7, s8, s9⟩; go_simp <;> with_reducible rfl) ?_
        simp only [Act.put, sA, sB, sC]
        refine tk (i := 10) (oi := { dst := some 15, op := .binOp .eql 38 (.tmp 12) (.tmp 14) 38, type := 4, pos := "lap.go:159", after := #[⟨7, .data⟩, ⟨9, .data⟩, ⟨5, .guard⟩], guard := some (5, true) }) hH.out (by rintro w ⟨s0, s1, s2, s3, s4, s5, s6, s7, s8, s9⟩; go_simp <;> with_reducible rfl) ?_
        simp only [Act.put, sA, sB, sC]
        refine tk (i := 11) (oi := ⟨some 16, .pick (.tmp 10) (.tmp 15) (.const (Go.Value.bool false)), 4, "lap.go:159", #[⟨5, .data⟩, ⟨10, .data⟩], none⟩) hH.out (by rintro w ⟨s0, s1, s2, s3, s4, s5, s6, s7, s8, s9⟩; go_simp <;> with_reducible rfl) ?_
        simp only [Act.put, sA, sB, sC]
        refine tk (i := 12) (oi := ⟨some 17, .move (.tmp 16), 4, "lap.go:159", #[⟨11, .data⟩, ⟨5, .chain⟩], none⟩) hH.out (by rintro w ⟨s0, s1, s2, s3, s4, s5, s6, s7, s8, s9⟩; go_simp <;> with_reducible rfl) ?_
        simp only [Act.put, sA, sB, sC]
        refine tk (i := 13) (oi := { dst := some 18, op := .load 177 (.tmp 2), type := 177, pos := "lap.go:159", after := #[⟨12, .guard⟩], guard := some (12, true) }) hH.out (by rintro w ⟨s0, s1, s2, s3, s4, s5, s6, s7, s8, s9⟩; go_simp <;> with_reducible rfl) ?_
        simp only [Act.put, sA, sB, sC]
        refine tk (i := 15) (oi := { dst := some 20, op := .load 177 (.tmp 3), type := 177, pos := "lap.go:159", after := #[⟨12, .guard⟩], guard := some (12, true) }) hH.out (by rintro w ⟨s0, s1, s2, s3, s4, s5, s6, s7, s8, s9⟩; go_simp <;> with_reducible rfl) ?_
        simp only [Act.put, sA, sB, sC]
        refine rdy (i := 14) (oi := { dst := some 19, op := .call ⟨.value (.func 177), #[.tmp 18], #[177]⟩, type := 5, pos := "lap.go:159", after := #[⟨13, .data⟩, ⟨12, .chain⟩, ⟨12, .guard⟩], guard := some (12, true) }) (fun K hK => ?_)
        go_simp
        refine (flags_adv _ _ _ _ _ _).mono ?_
        rintro x w5 ⟨rfl, u1⟩
        have HU1 := Lib.hid ((Adv.refl Nul V).drew.trans u1)
        have HC1 := Lib.hid (five2 (HX1.out.keep (HU1.out.block b HX1.out.lt (fun h => h))) (HX2.out.keep (HU1.out.block q HX2.out.lt (fun h => h))))
        clear u1
        go_wp2_with fail
        refine hK.out _ _ (by first | with_reducible exact HC2.out | with_reducible exact HC1.out | with_reducible exact HD0.out) (fun hHeld => ?_)
        replace hH := Lib.hid hHeld
        clear hK K hHeld
        try simp only [Act.put, sA, sB, sC]
        refine rdy (i := 16) (oi := { dst := some 21, op := .call ⟨.value (.func 177), #[.tmp 20], #[177]⟩, type := 5, pos := "lap.go:159", after := #[⟨15, .data⟩, ⟨14, .chain⟩, ⟨12, .guard⟩], guard := some (12, true) }) (fun K hK => ?_)
        go_simp
        refine (flags_adv _ _ _ _ _ _).mono ?_
        rintro x w6 ⟨rfl, u2⟩
        have HU2 := Lib.hid (HU1.out.trans u2)
        have HC2 := Lib.hid (five2 (HX1.out.keep (HU2.out.block b HX1.out.lt (fun h => h))) (HX2.out.keep (HU2.out.block q HX2.out.lt (fun h => h))))
        clear u2
        go_wp2_with fail
        refine hK.out _ _ (by first | with_reducible exact HC2.out | with_reducible exact HC1.out | with_reducible exact HD0.out) (fun hHeld => ?_)
        replace hH := Lib.hid hHeld
        clear hK K hHeld
        try simp only [Act.put, sA, sB, sC]
        refine tk (i := 17) (oi := { dst := some 22, op := .binOp .eql 5 (.tmp 19) (.tmp 21) 5, type := 4, pos := "lap.go:159", after := #[⟨14, .data⟩, ⟨16, .data⟩, ⟨12, .guard⟩], guard := some (12, true) }) hH.out (by rintro w ⟨s0, s1, s2, s3, s4, s5, s6, s7, s8, s9⟩; go_simp <;> with_reducible rfl) ?_
        simp only [Act.put, sA, sB, sC]
        refine tk (i := 18) (oi := ⟨some 23, .pick (.tmp 17) (.tmp 22) (.const (Go.Value.bool false)), 4, "lap.go:159", #[⟨12, .data⟩, ⟨17, .data⟩], none⟩) hH.out (by rintro w ⟨s0, s1, s2, s3, s4, s5, s6, s7, s8, s9⟩; go_simp <;> with_reducible rfl) ?_
        simp only [Act.put, sA, sB, sC]
        refine tk (i := 19) (oi := ⟨some 24, .move (.tmp 23), 4, "lap.go:159", #[⟨18, .data⟩, ⟨16, .chain⟩], none⟩) hH.out (by rintro w ⟨s0, s1, s2, s3, s4, s5, s6, s7, s8, s9⟩; go_simp <;> with_reducible rfl) ?_
        simp only [Act.put, sA, sB, sC]
        refine tk (i := 20) (oi := { dst := some 25, op := .fieldAddr 177 (.tmp 2) 4, type := 0, pos := "lap.go:159", after := #[⟨19, .guard⟩], guard := some (19, true) }) hH.out (by rintro w ⟨s0, s1, s2, s3, s4, s5, s6, s7, s8, s9⟩; go_simp <;> with_reducible rfl) ?_
        simp only [Act.put, sA, sB, sC]
        refine tk (i := 21) (oi := { dst := some 26, op := .load 118 (.tmp 25), type := 118, pos := "lap.go:159", after := #[⟨20, .data⟩, ⟨19, .guard⟩], guard := some (19, true) }) hH.out (by rintro w ⟨s0, s1, s2, s3, s4, s5, s6, s7, s8, s9⟩; go_simp <;> with_reducible rfl) ?_
        simp only [Act.put, sA, sB, sC]
        refine tk (i := 22) (oi := { dst := some 27, op := .fieldAddr 177 (.tmp 3) 4, type := 0, pos := "lap.go:159", after := #[⟨19, .guard⟩], guard := some (19, true) }) hH.out (by rintro w ⟨s0, s1, s2, s3, s4, s5, s6, s7, s8, s9⟩; go_simp <;> with_reducible rfl) ?_
        simp only [Act.put, sA, sB, sC]
        refine tk (i := 23) (oi := { dst := some 28, op := .load 118 (.tmp 27), type := 118, pos := "lap.go:159", after := #[⟨22, .data⟩, ⟨19, .guard⟩], guard := some (19, true) }) hH.out (by rintro w ⟨s0, s1, s2, s3, s4, s5, s6, s7, s8, s9⟩; go_simp <;> with_reducible rfl) ?_
        simp only [Act.put, sA, sB, sC]
        refine rdy (i := 24) (oi := { dst := some 29, op := .call ⟨.value (.func 117), #[.tmp 26, .tmp 28], #[118, 118]⟩, type := 4, pos := "lap.go:159", after := #[⟨21, .data⟩, ⟨23, .data⟩, ⟨19, .chain⟩, ⟨19, .guard⟩], guard := some (19, true) }) (fun K hK => ?_)
        go_simp
        refine (equal_any _ _ n1 n2 l1 l2 _ (HR1.out.far (fun _ _ _ h => HU2.out.block _ h (fun h => h)) HU2.out.size) (HR2.out.far (fun _ _ _ h => HU2.out.block _ h (fun h => h)) HU2.out.size) HL1.out HL2.out).mono ?_
        rintro x w7 ⟨rfl, rfl⟩
        go_wp2_with fail
        refine hK.out _ _ (by first | with_reducible exact HC2.out | with_reducible exact HC1.out | with_reducible exact HD0.out) (fun hHeld => ?_)
        replace hH := Lib.hid hHeld
        clear hK K hHeld
        try simp only [Act.put, sA, sB, sC]
        refine tk (i := 25) (oi := ⟨some 30, .pick (.tmp 24) (.tmp 29) (.const (Go.Value.bool false)), 4, "lap.go:159", #[⟨19, .data⟩, ⟨24, .data⟩], none⟩) hH.out (by rintro w ⟨s0, s1, s2, s3, s4, s5, s6, s7, s8, s9⟩; go_simp <;> with_reducible rfl) ?_
        simp only [Act.put, sA, sB, sC]
        refine tk (i := 26) (oi := ⟨some 4, .assign (.tmp 30), 4, "lap.go:159", #[⟨25, .data⟩, ⟨24, .chain⟩, ⟨0, .phase⟩, ⟨1, .phase⟩, ⟨2, .phase⟩, ⟨3, .phase⟩, ⟨4, .phase⟩, ⟨5, .phase⟩, ⟨6, .phase⟩, ⟨7, .phase⟩, ⟨8, .phase⟩, ⟨9, .phase⟩, ⟨10, .phase⟩, ⟨11, .phase⟩, ⟨12, .phase⟩, ⟨13, .phase⟩, ⟨14, .phase⟩, ⟨15, .phase⟩, ⟨16, .phase⟩, ⟨17, .phase⟩, ⟨18, .phase⟩, ⟨19, .phase⟩, ⟨20, .phase⟩, ⟨21, .phase⟩, ⟨22, .phase⟩, ⟨23, .phase⟩, ⟨24, .phase⟩, ⟨25, .phase⟩], none⟩) hH.out (by rintro w ⟨s0, s1, s2, s3, s4, s5, s6, s7, s8, s9⟩; go_simp <;> with_reducible rfl) ?_
        simp only [Act.put, sA, sB, sC]
        refine wpAnyH_done (by kernel_rfl) ?_ _
        go_wp2_with fail
        go_ret
        exact ⟨rfl, HA.out.trans HU2.out⟩
      · have hx' : (((flg f1 g1 : Nat) : Int) == ((flg f2 g2 : Nat) : Int)) = false := by rw [beq_eq_false_iff_ne]; omega
        obtain rfl : B = false := by rw [HBB.out]; exact decide_eq_false (fun h => hx h.2.2.1)
        clear he hc hx
        refine rstart (S := (fun w' => w'.cell? ⟨b, 0, none⟩ = some (.int .u64 (e1 : Int)) ∧ w'.cell? ⟨b, 1, none⟩ = some (.int .u64 (c1 : Int)) ∧ w'.cell? ⟨b, 2, none⟩ = some (.bool f1) ∧ w'.cell? ⟨b, 3, none⟩ = some (.bool g1) ∧ w'.cell? ⟨b, 4, none⟩ = some (.slice A1 n1 k1) ∧ w'.cell? ⟨q, 0, none⟩ = some (.int .u64 (e2 : Int)) ∧ w'.cell? ⟨q, 1, none⟩ = some (.int .u64 (c2 : Int)) ∧ w'.cell? ⟨q, 2, none⟩ = some (.bool f2) ∧ w'.cell? ⟨q, 3, none⟩ = some (.bool g2) ∧ w'.cell? ⟨q, 4, none⟩ = some (.slice A2 n2 k2))) (by first | with_reducible exact HC2.out | with_reducible exact HC1.out | with_reducible exact HD0.out) (fun hH => ?_)
        refine tk (i := 0) (oi := ⟨some 5, .fieldAddr 177 (.tmp 2) 0, 0, "lap.go:159", #[], none⟩) hH.out (by rintro w ⟨s0, s1, s2, s3, s4, s5, s6, s7, s8, s9⟩; go_simp <;> with_reducible rfl) ?_
        simp only [Act.put, sA, sB, sC]
        refine tk (i := 1) (oi := ⟨some 6, .load 38 (.tmp 5), 38, "lap.go:159", #[⟨0, .data⟩], none⟩) hH.out (by rintro w ⟨s0, s1, s2, s3, s4, s5, s6, s7, s8, s9⟩; go_simp <;> with_reducible rfl) ?_
        simp only [Act.put, sA, sB, sC]
        refine tk (i := 2) (oi := ⟨some 7, .fieldAddr 177 (.tmp 3) 0, 0, "lap.go:159", #[], none⟩) hH.out (by rintro w ⟨s0, s1, s2, s3, s4, s5, s6, s7, s8, s9⟩; go_simp <;> with_reducible rfl) ?_
        simp only [Act.put, sA, sB, sC]
        refine tk (i := 3) (oi := ⟨some 8, .load 38 (.tmp 7), 38, "lap.go:159", #[⟨2, .data⟩], none⟩) hH.out (by rintro w ⟨s0, s1, s2, s3, s4, s5, s6, s7, s8, s9⟩; go_simp <;> with_reducible rfl) ?_
        simp only [Act.put, sA, sB, sC]
        refine tk (i := 4) (oi := ⟨some 9, .binOp .eql 38 (.tmp 6) (.tmp 8) 38, 4, "lap.go:159", #[⟨1, .data⟩, ⟨3, .data⟩], none⟩) hH.out (by rintro w ⟨s0, s1, s2, s3, s4, s5, s6, s7, s8, s9⟩; go_simp <;> with_reducible rfl) ?_
        simp only [Act.put, sA, sB, sC]
        refine tk (i := 5) (oi := ⟨some 10, .move (.tmp 9), 4, "lap.go:159", #[⟨4, .data⟩], none⟩) hH.out (by rintro w ⟨s0, s1, s2, s3, s4, s5, s6, s7, s8, s9⟩; go_simp <;> with_reducible rfl) ?_
        simp only [Act.put, sA, sB, sC]
        refine tk (i := 6) (oi := { dst := some 11, op := .fieldAddr 177 (.tmp 2) 1, type := 0, pos := "lap.go:159", after := #[⟨5, .guard⟩], guard := some (5, true) }) hH.out (by rintro w ⟨s0, s1, s2, s3, s4, s5, s6, s7, s8, s9⟩; go_simp <;> with_reducible rfl) ?_
        simp only [Act.put, sA, sB, sC]
        refine tk (i := 7) (oi := { dst := some 12, op := .load 38 (.tmp 11), type := 38, pos := "lap.go:159", after := #[⟨6, .data⟩, ⟨5, .guard⟩], guard := some (5, true) }) hH.out (by rintro w ⟨s0, s1, s2, s3, s4, s5, s6, s7, s8, s9⟩; go_simp <;> with_reducible rfl) ?_
        simp only [Act.put, sA, sB, sC]
        refine tk (i := 8) (oi := { dst := some 13, op := .fieldAddr 177 (.tmp 3) 1, type := 0, pos := "lap.go:159", after := #[⟨5, .guard⟩], guard := some (5, true) }) hH.out (by rintro w ⟨s0, s1, s2, s3, s4, s5, s6, s7, s8, s9⟩; go_simp <;> with_reducible rfl) ?_
        simp only [Act.put, sA, sB, sC]
        refine tk (i := 9) (oi := { dst := some 14, op := .load 38 (.tmp 13), type := 38, pos := "lap.go:159", after := #[⟨8, .data⟩, ⟨5, .guard⟩], guard := some (5, true) }) hH.out (by rintro w ⟨s0, s1, s2, s3, s4, s5, s6, s7, s8, s9⟩; go_simp <;> with_reducible rfl) ?_
        simp only [Act.put, sA, sB, sC]
        refine tk (i := 10) (oi := { dst := some 15, op := .binOp .eql 38 (.tmp 12) (.tmp 14) 38, type := 4, pos := "lap.go:159", after := #[⟨7, .data⟩, ⟨9, .data⟩, ⟨5, .guard⟩], guard := some (5, true) }) hH.out (by rintro w ⟨s0, s1, s2, s3, s4, s5, s6, s7, s8, s9⟩; go_simp <;> with_reducible rfl) ?_
        simp only [Act.put, sA, sB, sC]
        refine tk (i := 11) (oi := ⟨some 16, .pick (.tmp 10) (.tmp 15) (.const (Go.Value.bool false)), 4, "lap.go:159", #[⟨5, .data⟩, ⟨10, .data⟩], none⟩) hH.out (by rintro w ⟨s0, s1, s2, s3, s4, s5, s6, s7, s8, s9⟩; go_simp <;> with_reducible rfl) ?_
        simp only [Act.put, sA, sB, sC]
        refine tk (i := 12) (oi := ⟨some 17, .move (.tmp 16), 4, "lap.go:159", #[⟨11, .data⟩, ⟨5, .chain⟩], none⟩) hH.out (by rintro w ⟨s0, s1, s2, s3, s4, s5, s6, s7, s8, s9⟩; go_simp <;> with_reducible rfl) ?_
        simp only [Act.put, sA, sB, sC]
        refine tk (i := 13) (oi := { dst := some 18, op := .load 177 (.tmp 2), type := 177, pos := "lap.go:159", after := #[⟨12, .guard⟩], guard := some (12, true) }) hH.out (by rintro w ⟨s0, s1, s2, s3, s4, s5, s6, s7, s8, s9⟩; go_simp <;> with_reducible rfl) ?_
        simp only [Act.put, sA, sB, sC]
        refine tk (i := 15) (oi := { dst := some 20, op := .load 177 (.tmp 3), type := 177, pos := "lap.go:159", after := #[⟨12, .guard⟩], guard := some (12, true) }) hH.out (by rintro w ⟨s0, s1, s2, s3, s4, s5, s6, s7, s8, s9⟩; go_simp <;> with_reducible rfl) ?_
        simp only [Act.put, sA, sB, sC]
        refine rdy (i := 14) (oi := { dst := some 19, op := .call ⟨.value (.func 177), #[.tmp 18], #[177]⟩, type := 5, pos := "lap.go:159", after := #[⟨13, .data⟩, ⟨12, .chain⟩, ⟨12, .guard⟩], guard := some (12, true) }) (fun K hK => ?_)
        go_simp
        refine (flags_adv _ _ _ _ _ _).mono ?_
        rintro x w5 ⟨rfl, u1⟩
        have HU1 := Lib.hid ((Adv.refl Nul V).drew.trans u1)
        have HC1 := Lib.hid (five2 (HX1.out.keep (HU1.out.block b HX1.out.lt (fun h => h))) (HX2.out.keep (HU1.out.block q HX2.out.lt (fun h => h))))
        clear u1
        go_wp2_with fail
        refine hK.out _ _ (by first | with_reducible exact HC2.out | with_reducible exact HC1.out | with_reducible exact HD0.out) (fun hHeld => ?_)
        replace hH := Lib.hid hHeld
        clear hK K hHeld
        try simp only [Act.put, sA, sB, sC]
        refine rdy (i := 16) (oi := { dst := some 21, op := .call ⟨.value (.func 177), #[.tmp 20], #[177]⟩, type := 5, pos := "lap.go:159", after := #[⟨15, .data⟩, ⟨14, .chain⟩, ⟨12, .guard⟩], guard := some (12, true) }) (fun K hK => ?_)
        go_simp
        refine (flags_adv _ _ _ _ _ _).mono ?_
        rintro x w6 ⟨rfl, u2⟩
        have HU2 := Lib.hid (HU1.out.trans u2)
        have HC2 := Lib.hid (five2 (HX1.out.keep (HU2.out.block b HX1.out.lt (fun h => h))) (HX2.out.keep (HU2.out.block q HX2.out.lt (fun h => h))))
        clear u2
        go_wp2_with fail
        refine hK.out _ _ (by first | with_reducible exact HC2.out | with_reducible exact HC1.out | with_reducible exact HD0.out) (fun hHeld => ?_)
        replace hH := Lib.hid hHeld
        clear hK K hHeld
        try simp only [Act.put, sA, sB, sC]
        refine tk (i := 17) (oi := { dst := some 22, op := .binOp .eql 5 (.tmp 19) (.tmp 21) 5, type := 4, pos := "lap.go:159", after := #[⟨14, .data⟩, ⟨16, .data⟩, ⟨12, .guard⟩], guard := some (12, true) }) hH.out (by rintro w ⟨s0, s1, s2, s3, s4, s5, s6, s7, s8, s9⟩; go_simp <;> with_reducible rfl) ?_
        simp only [Act.put, sA, sB, sC]
        refine tk (i := 18) (oi := ⟨some 23, .pick (.tmp 17) (.tmp 22) (.const (Go.Value.bool false)), 4, "lap.go:159", #[⟨12, .data⟩, ⟨17, .data⟩], none⟩) hH.out (by rintro w ⟨s0, s1, s2, s3, s4, s5, s6, s7, s8, s9⟩; go_simp <;> with_reducible rfl) ?_
        simp only [Act.put, sA, sB, sC]
        refine tk (i := 19) (oi := ⟨some 24, .move (.tmp 23), 4, "lap.go:159", #[⟨18, .data⟩, ⟨16, .chain⟩], none⟩) hH.out (by rintro w ⟨s0, s1, s2, s3, s4, s5, s6, s7, s8, s9⟩; go_simp <;> with_reducible rfl) ?_
        simp only [Act.put, sA, sB, sC]
        refine tks (i := 20) (oi := { dst := some 25, op := .fieldAddr 177 (.tmp 2) 4, type := 0, pos := "lap.go:159", after := #[⟨19, .guard⟩], guard := some (19, true) }) hH.out ?_
        try simp only [Act.put, sA, sB, sC]
        refine tks (i := 21) (oi := { dst := some 26, op := .load 118 (.tmp 25), type := 118, pos := "lap.go:159", after := #[⟨20, .data⟩, ⟨19, .guard⟩], guard := some (19, true) }) hH.out ?_
        try simp only [Act.put, sA, sB, sC]
        refine tks (i := 22) (oi := { dst := some 27, op := .fieldAddr 177 (.tmp 3) 4, type := 0, pos := "lap.go:159", after := #[⟨19, .guard⟩], guard := some (19, true) }) hH.out ?_
        try simp only [Act.put, sA, sB, sC]
        refine tks (i := 23) (oi := { dst := some 28, op := .load 118 (.tmp 27), type := 118, pos := "lap.go:159", after := #[⟨22, .data⟩, ⟨19, .guard⟩], guard := some (19, true) }) hH.out ?_
        try simp only [Act.put, sA, sB, sC]
        refine tks (i := 24) (oi := { dst := some 29, op := .call ⟨.value (.func 117), #[.tmp 26, .tmp 28], #[118, 118]⟩, type := 4, pos := "lap.go:159", after := #[⟨21, .data⟩, ⟨23, .data⟩, ⟨19, .chain⟩, ⟨19, .guard⟩], guard := some (19, true) }) hH.out ?_
        try simp only [Act.put, sA, sB, sC]
        refine tk (i := 25) (oi := ⟨some 30, .pick (.tmp 24) (.tmp 29) (.const (Go.Value.bool false)), 4, "lap.go:159", #[⟨19, .data⟩, ⟨24, .data⟩], none⟩) hH.out (by rintro w ⟨s0, s1, s2, s3, s4, s5, s6, s7, s8, s9⟩; go_simp <;> with_reducible rfl) ?_
        simp only [Act.put, sA, sB, sC]
        refine tk (i := 26) (oi := ⟨some 4, .assign (.tmp 30), 4, "lap.go:159", #[⟨25, .data⟩, ⟨24, .chain⟩, ⟨0, .phase⟩, ⟨1, .phase⟩, ⟨2, .phase⟩, ⟨3, .phase⟩, ⟨4, .phase⟩, ⟨5, .phase⟩, ⟨6, .phase⟩, ⟨7, .phase⟩, ⟨8, .phase⟩, ⟨9, .phase⟩, ⟨10, .phase⟩, ⟨11, .phase⟩, ⟨12, .phase⟩, ⟨13, .phase⟩, ⟨14, .phase⟩, ⟨15, .phase⟩, ⟨16, .phase⟩, ⟨17, .phase⟩, ⟨18, .phase⟩, ⟨19, .phase⟩, ⟨20, .phase⟩, ⟨21, .phase⟩, ⟨22, .phase⟩, ⟨23, .phase⟩, ⟨24, .phase⟩, ⟨25, .phase⟩], none⟩) hH.out (by rintro w ⟨s0, s1, s2, s3, s4, s5, s6, s7, s8, s9⟩; go_simp <;> with_reducible rfl) ?_
        simp only [Act.put, sA, sB, sC]
        refine wpAnyH_done (by kernel_rfl) ?_ _
        go_wp2_with fail
        go_ret
        exact ⟨rfl, HA.out.trans HU2.out⟩
    · have hc' : ((c1 : Int) == (c2 : Int)) = false := by rw [beq_eq_false_iff_ne]; omega
      obtain rfl : B = false := by rw [HBB.out]; exact decide_eq_false (fun h => hc h.2.1)
      clear hc he
      go_quiet (fail)
      go_wp2_with fail
      go_ret
      exact ⟨rfl, HA.out.drewN _⟩
  · have he' : ((e1 : Int) == (e2 : Int)) = false := by rw [beq_eq_false_iff_ne]; omega
    obtain rfl : B = false := by rw [HBB.out]; exact decide_eq_false (fun h => he h.1)
    clear he
    go_quiet (fail)
    go_wp2_with fail
    go_ret
    exact ⟨rfl, HA.out.drewN _⟩
end Go.Proofs.YtcglfknkkeaegaaGreatDoor
namespace Go.Proofs.YtcglfknkkeaegaaGreatDoor
open Go.RowKit

def EqR (w : World) (ps qs : List Pc) (x : Ending) (w' : World) : Prop := ∃ B : Bool, x = .returned (.bool B) ∧ (B = true ↔ ps = qs) ∧ Adv Nul w Nul w'
def EqL (w : World) (N : Nat) (ps qs : List Pc) (t : Value) (wr : World) : Prop := ∃ k : Nat, k ≤ N ∧ t = .int .i64 (k : Int) ∧ (∀ i, i < k → ps[i]? = qs[i]?) ∧ Adv Nul w Nul wr
theorem eq_end {N : Nat} {ps qs : List Pc} (h1 : ps.length = N) (h2 : qs.length = N) (h : ∀ i, i < N → ps[i]? = qs[i]?) : ps = qs := by
  apply List.ext_getElem?
  intro i
  by_cases hi : i < N
  · exact h i hi
  · rw [List.getElem?_eq_none (by omega), List.getElem?_eq_none (by omega)]
theorem eq_one {p q : Pc} {B : Bool} (hB : B = decide (p.e = q.e ∧ p.c = q.c ∧ flg p.f p.g = flg q.f q.g ∧ p.d = q.d)) : B = true ↔ p = q := by
  subst hB
  rw [decide_eq_true_iff]
  constructor
  · rintro ⟨h1, h2, h3, h4⟩
    obtain ⟨h5, h6⟩ := flg_inj h3
    cases p; cases q
    simp only at h1 h2 h4 h5 h6
    subst h1 h2 h4 h5 h6
    rfl
  · rintro rfl
    exact ⟨rfl, rfl, rfl, rfl⟩
/-- pieces whose bytes are bytes -/
def B8 (ps : List Pc) : Prop := ∀ p ∈ ps, ∀ x ∈ p.d, x < 256

set_option maxRecDepth 3000 in
set_option maxHeartbeats 3200000 in
theorem equalfn_any (A1 A2 : Option Addr) (k1 k2 : Nat) (ps qs : List Pc) (w : World) (h1 : PRd w (.slice A1 ps.length k1) ps) (h2 : PRd w (.slice A2 qs.length k2) qs) (hb1 : B8 ps) (hb2 : B8 qs) :
    Calls Tryz.prog 147 #[.slice A1 ps.length k1, .slice A2 qs.length k2, .func (.func 148) #[] #[]] w (EqR w ps qs) := by
  obtain ⟨N, hN⟩ : ∃ N, N = ps.length := ⟨_, rfl⟩
  obtain ⟨M, hM⟩ : ∃ N, N = qs.length := ⟨_, rfl⟩
  rw [← hN] at h1 ⊢
  rw [← hM] at h2 ⊢
  have hmx : N ≤ maxLen := by
    obtain ⟨_, _, e, h3, h4, _⟩ := h1
    injection e with _ e2 e3
    omega
  have hNI : (N : Int) ≤ 9223372036854775807 := by unfold maxLen at hmx; omega
  clear hmx
  have HP := Lib.hid h1
  have HQ := Lib.hid h2
  have HN := Lib.hid hN
  have HM := Lib.hid hM
  have HB1 := Lib.hid hb1
  have HB2 := Lib.hid hb2
  clear h1 h2 hN hM hb1 hb2
  by_cases hne : N = M
  · subst hne
    go_enter Tryz.func147, Tryz.ntmps147
    go_wp2_with fail
    go_loopw [17] (EqL w N ps qs) (fun t _ => N - (intOf t).toNat)
    case atStart => exact ⟨0, Nat.zero_le _, rfl, fun i hi => absurd hi (Nat.not_lt_zero _), Adv.refl _ _⟩
    case round =>
      obtain ⟨k, hk, rfl, hpre, ha⟩ := hrel
      by_cases hlt : k < N
      · have hki : (k : Int) < (N : Int) := by omega
        have hkp : k < ps.length := by rw [← HN.out]; exact hlt
        have hkq : k < qs.length := by rw [← HM.out]; exact hlt
        obtain ⟨b1, o1, a1, q1, rfl, hlb1, hc1, hr1⟩ := (HP.out.step ha).row hkp
        obtain ⟨b2, o2, a2, q2, rfl, hlb2, hc2, hr2⟩ := (HQ.out.step ha).row hkq
        obtain ⟨p, hp⟩ : ∃ p, p = ps[k] := ⟨_, rfl⟩
        obtain ⟨q, hq⟩ : ∃ q, q = qs[k] := ⟨_, rfl⟩
        have hp8 : ∀ x ∈ p.d, x < 256 := by rw [hp]; exact HB1.out _ (List.getElem_mem _)
        have hq8 : ∀ x ∈ q.d, x < 256 := by rw [hq]; exact HB2.out _ (List.getElem_mem _)
        have HPQ := Lib.hid (show ps[k]? = some p ∧ qs[k]? = some q by rw [hp, hq]; exact ⟨List.getElem?_eq_getElem hkp, List.getElem?_eq_getElem hkq⟩)
        rw [← hp] at hc1 hr1
        rw [← hq] at hc2 hr2
        obtain ⟨pe, pn, pf, pg, D⟩ := p
        obtain ⟨qe, qn, qf, qg, D'⟩ := q
        obtain ⟨d, hd⟩ : ∃ d, d = D.length := ⟨_, rfl⟩
        obtain ⟨d', hd'⟩ : ∃ d, d = D'.length := ⟨_, rfl⟩
        simp only [← hd] at hc1 hr1
        simp only [← hd'] at hc2 hr2
        obtain ⟨B, hB⟩ : ∃ B, B = decide (pe = qe ∧ pn = qn ∧ flg pf pg = flg qf qg ∧ D = D') := ⟨_, rfl⟩
        have HE1 := Lib.hid (eq_one (p := ⟨pe, pn, pf, pg, D⟩) (q := ⟨qe, qn, qf, qg, D'⟩) hB)
        have hcall : ∀ v, Adv Nul wr Nul v → Calls Tryz.prog 148 #[.agg #[.int .u64 (pe : Int), .int .u64 (pn : Int), .bool pf, .bool pg, .slice a1 d q1], .agg #[.int .u64 (qe : Int), .int .u64 (qn : Int), .bool qf, .bool qg, .slice a2 d' q2]] v (SameR v B) := fun v hv => by
          rw [hB]
          exact psame_any pe pn qe qn pf pg qf qg a1 a2 d d' q1 q2 D D' v (hr1.far (fun _ _ _ h => hv.block _ h (fun h => h)) hv.size) (hr2.far (fun _ _ _ h => hv.block _ h (fun h => h)) hv.size) hp8 hq8
        have HCALL := Lib.hid hcall
        obtain ⟨z, hz⟩ : ∃ z, z = wr.heap.size := ⟨_, rfl⟩
        obtain ⟨V, hV⟩ : ∃ V, V = wr.alloc (.cells #[.int .u64 (pe : Int), .int .u64 (pn : Int), .bool pf, .bool pg, .slice a1 d q1] 177) := ⟨_, rfl⟩
        obtain ⟨U, hU⟩ : ∃ U, U = V.alloc (.cells #[.int .u64 (qe : Int), .int .u64 (qn : Int), .bool qf, .bool qg, .slice a2 d' q2] 177) := ⟨_, rfl⟩
        have hZ : Blk U z 177 #[.int .u64 (pe : Int), .int .u64 (pn : Int), .bool pf, .bool pg, .slice a1 d q1] := by rw [hU, hV, hz]; exact (Blk.new _ _ _).alloc _
        have hV1 : Adv Nul wr Nul V := by rw [hV]; exact (Adv.refl _ _).alloc _
        have hU1 : Adv Nul wr Nul U := by rw [hU]; exact hV1.alloc _
        obtain ⟨y, hy⟩ : ∃ y, y = V.heap.size := ⟨_, rfl⟩
        have hY : Blk U y 177 #[.int .u64 (qe : Int), .int .u64 (qn : Int), .bool qf, .bool qg, .slice a2 d' q2] := by rw [hU, hy]; exact Blk.new _ _ _
        have HC2 := Lib.hid (hc2.step hlb2 hV1)
        have HZY := Lib.hid (five2 hZ hY)
        have HV := Lib.hid hV
        have HU := Lib.hid hU
        have HZ := Lib.hid hz
        have HY := Lib.hid hy
        have HU1 := Lib.hid hU1
        have HA := Lib.hid ha
        have HPRE := Lib.hid hpre
        have HLT := Lib.hid hlt
        obtain ⟨c0, c1, c2, c3, c4⟩ := hc1
        clear hkp hkq hlb1 hr1 hlb2 hc2 hr2 hp hq hp8 hq8 hd hd' hcall hz hV hU hZ hV1 hU1 hY hy ha hpre hlt hk hB
        go_upto_region 6 with (fail)
        rw [← HV.out, ← HZ.out]
        obtain ⟨e0, e1, e2, e3, e4⟩ := HC2.out
        clear c0 c1 c2 c3 c4
        go_upto_region 7 with (fail)
        rw [← HU.out, ← HY.out]
        clear e0 e1 e2 e3 e4
        obtain ⟨s0, s1, s2, s3, s4, s5, s6, s7, s8, s9⟩ := HZY.out
        cases B with
        | true =>
          go_wp2_with fail
          refine (HCALL.out U HU1.out).mono ?_
          rintro x w8 ⟨rfl, t8⟩
          have HT8 := Lib.hid (HU1.out.trans t8)
          clear t8
          go_wp2_with fail
          have hlt := HLT.out
          refine ⟨⟨k + 1, by omega, by go_num, fun i hi => ?_, HA.out.trans HT8.out⟩, by simp [intOf]; omega⟩
          by_cases e : i = k
          · rw [e, HPQ.out.1, HPQ.out.2, HE1.out.mp (by trivial)]
          · exact HPRE.out i (by omega)
        | false =>
          go_wp2_with fail
          refine (HCALL.out U HU1.out).mono ?_
          rintro x w8 ⟨rfl, t8⟩
          have HT8 := Lib.hid (HU1.out.trans t8)
          clear t8
          go_wp2_with fail
          go_ret
          refine ⟨false, rfl, ⟨fun h => absurd h (by decide), fun h => ?_⟩, HA.out.trans HT8.out⟩
          have e := HPQ.out.1
          rw [h, HPQ.out.2] at e
          injection e with e
          exact HE1.out.mpr e.symm
      · obtain rfl : k = N := by omega
        have HA := Lib.hid ha
        have HPRE := Lib.hid hpre
        clear ha hpre hlt hk
        go_wp2_with fail
        go_ret
        exact ⟨true, rfl, ⟨fun _ => eq_end HN.out.symm HM.out.symm HPRE.out, fun _ => rfl⟩, HA.out⟩
  · have hni : ((N : Int) == (M : Int)) = false := by rw [beq_eq_false_iff_ne]; omega
    have HNE := Lib.hid hne
    clear hne
    go_enter Tryz.func147, Tryz.ntmps147
    go_wp2_with fail
    all_goals
      go_ret
      exact ⟨false, rfl, ⟨fun h => absurd h (by decide), fun h => absurd (by rw [HN.out, HM.out, h]) HNE.out⟩, Adv.refl _ _⟩
end Go.Proofs.YtcglfknkkeaegaaGreatDoor
namespace Go.Proofs.YtcglfknkkeaegaaGreatDoor
open Go.RowKit

def JoinR (w : World) (ps : List Pc) (x : Ending) (w' : World) : Prop := ∃ A k, x = .returned (.tuple #[.slice A (joinV ps).length k, .int .i64 (joinE ps)]) ∧ Rd w' 1 (.slice A (joinV ps).length k) (joinV ps).length ((joinV ps).map u8) ∧ Adv Nul w Nul w'
theorem JoinR.none {w w' : World} {ps : List Pc} (h : ¬ JoinOk ps) (ha : Adv Nul w Nul w') : JoinR w ps (.returned (.tuple #[.slice none 0 0, .int .i64 4])) w' := by
  have e : joinV ps = [] := by unfold joinV; rw [if_neg h]
  have e2 : joinE ps = 4 := by unfold joinE; rw [if_neg h]
  unfold JoinR
  rw [e, e2]
  exact ⟨Option.none, 0, rfl, (Sl.nil _ 5 1).rd, ha⟩
theorem JoinR.some {w w' : World} {ps : List Pc} {A : Option Addr} {m k : Nat} (h : JoinOk ps) (hm : m = (allD ps).length) (hr : Rd w' 1 (.slice A m k) m ((allD ps).map u8)) (ha : Adv Nul w Nul w') : JoinR w ps (.returned (.tuple #[.slice A m k, .int .i64 0])) w' := by
  have e : joinV ps = allD ps := by unfold joinV; rw [if_pos h]
  have e2 : joinE ps = 0 := by unfold joinE; rw [if_pos h]
  unfold JoinR
  rw [e, e2, ← hm]
  exact ⟨A, k, rfl, hr, ha⟩
/-- the loop that adds up -/
def JoinL (w : World) (ps : List Pc) (t15 t4 : Value) (wr : World) : Prop :=
  ∃ k m A q F, k ≤ ps.length ∧ t15 = .int .i64 ((k : Nat) : Int) ∧ t4 = .slice A m q ∧ m = (allD (ps.take k)).length ∧ m ≤ 8192 ∧ Sl wr F 5 1 (.slice A m q) m ((allD (ps.take k)).map u8) ∧ Adv Nul w F wr
set_option maxRecDepth 3000 in
set_option maxHeartbeats 3200000 in
theorem pjoin_any (A0 : Option Addr) (k0 : Nat) (ps : List Pc) (w : World) (h : PRd w (.slice A0 ps.length k0) ps) (hb : B8 ps) (hl : ps.length ≤ 1100) (hd : ∀ p ∈ ps, p.d.length ≤ 1000) :
    Calls Tryz.prog 110 #[.slice A0 ps.length k0] w (JoinR w ps) := by
  obtain ⟨N, hN⟩ : ∃ N, N = ps.length := ⟨_, rfl⟩
  rw [← hN] at h hl ⊢
  have hNI : (N : Int) ≤ 1100 := by omega
  have HP := Lib.hid h
  have HN := Lib.hid hN
  have HB := Lib.hid hb
  have HDL := Lib.hid hd
  clear h hb hl hd
  by_cases h0 : N = 0
  · have hz : ((N : Int) == 0) = true := by rw [beq_iff_eq]; omega
    have HNO := Lib.hid (show ¬ JoinOk ps from fun h => by have := h.1; omega)
    clear h0 hN hNI
    go_enter Tryz.func110, Tryz.ntmps110
    go_wp2_with fail
    all_goals
      exact bodyPost_ret (v := .tuple #[.slice none 0 0, .int .i64 4]) (by simp [results, Tryz.results110, go_sem]) rfl (JoinR.none HNO.out (Adv.refl _ _))
  · have hz : ((N : Int) == 0) = false := by rw [beq_eq_false_iff_ne]; omega
    have h0' : 0 < N := by omega
    have H0 := Lib.hid h0'
    obtain ⟨g, hg⟩ : ∃ g, g = w.heap.size := ⟨_, rfl⟩
    obtain ⟨V, hV⟩ : ∃ V, V = w.alloc (.cells #[] 5) := ⟨_, rfl⟩
    have hsl : Sl V (fun j => j = g) 5 1 (.slice (some ⟨g, 0, none⟩) 0 0) 0 [] := by
      rw [hV, hg]
      exact ⟨own_base (World.ownsRow_made w #[] 0 (Nat.le_refl _) (Nat.zero_le _) rfl), fun k hk => by simpa [Value.ownBlock] using hk.symm, fun k hk => by subst hk; simp⟩
    have hA : Adv Nul w (fun j => j = g) V := by
      rw [hV, hg]
      have := (Adv.refl Nul w).alloc (.cells #[] 5)
      exact ⟨this.os, this.tape, this.output, this.size, fun j hj h => this.block j hj h, fun j hj => .inr (by omega)⟩
    have HSL := Lib.hid hsl
    have HAV := Lib.hid hA
    have HV := Lib.hid hV
    have HG := Lib.hid hg
    clear h0 h0' hN hsl hA hV hg
    go_enter Tryz.func110, Tryz.ntmps110
    go_upto_region 4 with (fail)
    rw [← HV.out, ← HG.out]
    go_wp2_with fail
    go_loopw [15, 4] (JoinL w ps) (fun t _ _ => N - (intOf t).toNat)
    case atStart => exact ⟨0, 0, _, _, _, Nat.zero_le _, rfl, rfl, by simp [allD], Nat.zero_le _, by simpa [allD] using HSL.out, HAV.out⟩
    case round =>
      obtain ⟨k, m, A, q, F, hk, rfl, rfl, hm, hm8, hs, ha⟩ := hrel
      rw [← HN.out] at hk
      by_cases hlt : k < N
      · have hki : (k : Int) < (N : Int) := by omega
        have hkp : k < ps.length := by rw [← HN.out]; exact hlt
        obtain ⟨b1, o1, a1, q1, rfl, hlb1, hc1, hr1⟩ := (HP.out.step ha).row hkp
        obtain ⟨p, hp⟩ : ∃ p, p = ps[k] := ⟨_, rfl⟩
        have hpk : ps[k]? = some p := by rw [hp]; exact List.getElem?_eq_getElem hkp
        have hpd : p.d.length ≤ 1000 := by rw [hp]; exact HDL.out _ (List.getElem_mem _)
        rw [← hp] at hc1 hr1
        obtain ⟨pe, pn, pf, pg, D⟩ := p
        obtain ⟨d, hd⟩ : ∃ d, d = D.length := ⟨_, rfl⟩
        simp only [← hd] at hc1 hr1 hpd
        obtain ⟨z, hz'⟩ : ∃ z, z = wr.heap.size := ⟨_, rfl⟩
        obtain ⟨U, hU⟩ : ∃ U, U = wr.alloc (.cells #[.int .u64 (pe : Int), .int .u64 (pn : Int), .bool pf, .bool pg, .slice a1 d q1] 177) := ⟨_, rfl⟩
        have hZ : Blk U z 177 #[.int .u64 (pe : Int), .int .u64 (pn : Int), .bool pf, .bool pg, .slice a1 d q1] := by rw [hU, hz']; exact Blk.new _ _ _
        have hU1 : Adv Nul wr Nul U := by rw [hU]; exact (Adv.refl _ _).alloc _
        have HS := Lib.hid (hs.far hU1 (fun _ h _ => h))
        have HRD := Lib.hid (hr1.far (fun _ _ _ h => hU1.block _ h (fun h => h)) hU1.size)
        have HZB := Lib.hid hZ.five
        have HZ := Lib.hid hz'
        have HU := Lib.hid hU
        have HAU := Lib.hid (ha.over hU1)
        have HLT := Lib.hid hlt
        have HPK := Lib.hid hpk
        have HM := Lib.hid hm
        have HD := Lib.hid hd
        have hdm : (d : Int) ≤ 1000 := by omega
        have hmi : (m : Int) ≤ 8192 := by omega
        obtain ⟨c0, c1, c2, c3, c4⟩ := hc1
        clear hkp hlb1 hr1 hp hpd hd hz' hU hZ hU1 hpk hlt hk hm hm8 hs ha
        go_upto_region 7 with (fail)
        rw [← HU.out, ← HZ.out]
        obtain ⟨z0, z1, z2, z3, z4⟩ := HZB.out
        clear c0 c1 c2 c3 c4
        by_cases hbig : (8192 : Int) - (m : Int) < (d : Int)
        · have HBIG := Lib.hid hbig
          go_wp2_with fail
          refine bodyPost_ret (v := .tuple #[.slice none 0 0, .int .i64 4]) (by simp [results, Tryz.results110, go_sem]) rfl (JoinR.none (fun h => ?_) (HAU.out.sub (fun _ h => h.elim)))
          have h1 := allD_take_le ps (k + 1)
          rw [allD_take_succ HPK.out, List.length_append] at h1
          have h2 := h.2.2
          have h3 := HM.out
          have h4 := HD.out
          have h5 := HBIG.out
          simp only at h1
          omega
        · have hle : (d : Int) ≤ 8192 - (m : Int) := by omega
          have HLE := Lib.hid hle
          clear hbig
          go_wp2_with (first
            | (at_builtin; refine wpList_append_rd rfl (.tmp 26) (.tmp 28) rfl rfl rfl HS.out.own HRD.out (u8_one _) ?d1 ?d2)
            | fail)
          case d1 => omega
          case d2 =>
            intro v4 w4 hown4 hg4 hat4
            obtain ⟨h4, _, a4⟩ := own_grown HS.out HAU.out hown4 hg4 hat4 (Nat.le_refl _)
            rw [← List.map_append] at h4
            obtain ⟨A4, c4, rfl, _, _⟩ := h4.form0
            have H4 := Lib.hid h4
            have A4 := Lib.hid a4
            clear h4 a4 hown4 hg4 hat4
            go_wp2_with fail
            have hlt := HLT.out
            have e := allD_take_succ HPK.out
            simp only at e
            have e2 : m + d = (allD (ps.take (k + 1))).length := by rw [e, List.length_append, HM.out, HD.out]
            have h5 := HLE.out
            refine ⟨⟨k + 1, m + d, _, _, _, by rw [← HN.out]; omega, by go_num, rfl, e2, by omega, by rw [e]; exact H4.out, A4.out⟩, by simp [intOf]; omega⟩
      · obtain rfl : k = N := by omega
        have hs' : Sl wr F 5 1 (.slice A m q) m ((allD ps).map u8) := by
          rw [HN.out, List.take_length] at hs
          exact hs
        have hm' : m = (allD ps).length := by
          rw [HN.out, List.take_length] at hm
          exact hm
        obtain ⟨b1, o1, a1, q1, rfl, hlb1, hc1, hr1⟩ := (HP.out.step ha).row (i := 0) (by rw [← HN.out]; exact H0.out)
        rw [Nat.zero_mul, Nat.add_zero] at hc1
        obtain ⟨L, hL⟩ : ∃ L, L = allD ps := ⟨_, rfl⟩
        rw [← hL] at hs' hm'
        obtain ⟨pe, hpe⟩ : ∃ x, x = (hdP ps).e := ⟨_, rfl⟩
        obtain ⟨pn, hpn⟩ : ∃ x, x = (hdP ps).c := ⟨_, rfl⟩
        have h0e : ps[0]'(by rw [← HN.out]; exact H0.out) = hdP ps := by
          have h1 : ps ≠ [] := fun h => by have := H0.out; rw [HN.out, h] at this; exact absurd this (by decide)
          obtain ⟨p, t, rfl⟩ := List.exists_cons_of_ne_nil h1
          rfl
        rw [h0e] at hc1
        have hc01 : wr.cell? ⟨b1, o1, none⟩ = some (.int .u64 (pe : Int)) ∧ wr.cell? ⟨b1, o1 + 1, none⟩ = some (.int .u64 (pn : Int)) := by rw [hpe, hpn]; exact ⟨hc1.1, hc1.2.1⟩
        have hL8 : ∀ x ∈ L, x < 256 := by rw [hL]; exact allD_lt HB.out
        have hcut : ∀ v, Rd v 1 (.slice A m q) m (L.map u8) → Calls Tryz.prog 146 #[.int .u64 (pe : Int), .int .u64 (pn : Int), .slice A m q] v (CutR v pe pn L) := fun v hv => pcut_any pe pn _ L v (by rw [← hm']; exact hv) (by omega)
        obtain ⟨E, hE⟩ : ∃ E, E = cutE pe pn L.length := ⟨_, rfl⟩
        obtain ⟨NN, hNN⟩ : ∃ E, E = (cutV pe pn L).length := ⟨_, rfl⟩
        have KA := Lib.hid (show wr.drew.cell? ⟨b1, o1, none⟩ = some (.int .u64 (pe : Int)) ∧ wr.drew.cell? ⟨b1, o1 + 1, none⟩ = some (.int .u64 (pn : Int)) from hc01)
        have HRD := Lib.hid (show Rd wr.drew 1 (.slice A m q) m (L.map u8) from hs'.rd)
        have HCUT := Lib.hid hcut
        have HC01 := Lib.hid hc01
        have HE := Lib.hid hE
        have HNN := Lib.hid hNN
        have HL := Lib.hid hL
        have HL8 := Lib.hid hL8
        have HPE := Lib.hid hpe
        have HPN := Lib.hid hpn
        have HM := Lib.hid hm'
        have HM8 := Lib.hid hm8
        have HLB := Lib.hid hlb1
        have HAW := Lib.hid ((ha.sub (G := Nul) (fun _ h => h.elim)).drew)
        have hNp : 0 < k := H0.out
        clear hs hs' hm hm' hc1 hr1 hL hpe hpn h0e hL8 hcut hE hNN hc01 hlb1 ha hk hlt hm8
        go_wp2_with fail
        refine rstart (S := (fun w' => w'.cell? ⟨b1, o1, none⟩ = some (.int .u64 (pe : Int)) ∧ w'.cell? ⟨b1, o1 + 1, none⟩ = some (.int .u64 (pn : Int)))) (by first | with_reducible exact KB.out | with_reducible exact KA.out) (fun hH => ?_)
        refine tk (i := 0) (oi := ⟨some 32, .move (.tmp 0), 173, "lap.go:147", #[], none⟩) hH.out (by rintro w ⟨s0, s1⟩; go_simp <;> with_reducible rfl) ?_
        simp only [Act.put, sA, sB, sC]
        refine tk (i := 1) (oi := ⟨some 33, .indexAddr 173 (.tmp 32) (.const (Go.Value.int Go.IntKind.i64 0)), 0, "lap.go:147", #[⟨0, .data⟩], none⟩) hH.out (by rintro w ⟨s0, s1⟩; go_simp <;> with_reducible rfl) ?_
        simp only [Act.put, sA, sB, sC]
        refine tk (i := 2) (oi := ⟨some 34, .fieldAddr 177 (.tmp 33) 0, 0, "lap.go:147", #[⟨1, .data⟩], none⟩) hH.out (by rintro w ⟨s0, s1⟩; go_simp <;> with_reducible rfl) ?_
        simp only [Act.put, sA, sB, sC]
        refine tk (i := 3) (oi := ⟨some 35, .load 38 (.tmp 34), 38, "lap.go:147", #[⟨2, .data⟩], none⟩) hH.out (by rintro w ⟨s0, s1⟩; go_simp <;> with_reducible rfl) ?_
        simp only [Act.put, sA, sB, sC]
        refine tk (i := 4) (oi := ⟨some 36, .move (.tmp 0), 173, "lap.go:147", #[], none⟩) hH.out (by rintro w ⟨s0, s1⟩; go_simp <;> with_reducible rfl) ?_
        simp only [Act.put, sA, sB, sC]
        refine tk (i := 5) (oi := ⟨some 37, .indexAddr 173 (.tmp 36) (.const (Go.Value.int Go.IntKind.i64 0)), 0, "lap.go:147", #[⟨4, .data⟩], none⟩) hH.out (by rintro w ⟨s0, s1⟩; go_simp <;> with_reducible rfl) ?_
        simp only [Act.put, sA, sB, sC]
        refine tk (i := 6) (oi := ⟨some 38, .fieldAddr 177 (.tmp 37) 1, 0, "lap.go:147", #[⟨5, .data⟩], none⟩) hH.out (by rintro w ⟨s0, s1⟩; go_simp <;> with_reducible rfl) ?_
        simp only [Act.put, sA, sB, sC]
        refine tk (i := 7) (oi := ⟨some 39, .load 38 (.tmp 38), 38, "lap.go:147", #[⟨6, .data⟩], none⟩) hH.out (by rintro w ⟨s0, s1⟩; go_simp <;> with_reducible rfl) ?_
        simp only [Act.put, sA, sB, sC]
        refine tk (i := 8) (oi := ⟨some 40, .move (.tmp 4), 118, "lap.go:147", #[], none⟩) hH.out (by rintro w ⟨s0, s1⟩; go_simp <;> with_reducible rfl) ?_
        simp only [Act.put, sA, sB, sC]
        refine rdy (i := 9) (oi := ⟨some 41, .call ⟨.value (.func 146), #[.tmp 35, .tmp 39, .tmp 40], #[38, 38, 118]⟩, 195, "lap.go:147", #[⟨3, .data⟩, ⟨7, .data⟩, ⟨8, .data⟩], none⟩) (fun K hK => ?_)
        go_simp
        refine (HCUT.out _ HRD.out).mono ?_
        intro x w8 h
        obtain ⟨A3, k3, rfl, p3, t3⟩ := h.opened
        rw [← HE.out, ← HNN.out]
        have HP3 := Lib.hid p3
        have HT3 := Lib.hid t3
        have KB := Lib.hid (show w8.cell? ⟨b1, o1, none⟩ = some (.int .u64 (pe : Int)) ∧ w8.cell? ⟨b1, o1 + 1, none⟩ = some (.int .u64 (pn : Int)) from ⟨(World.cell?_of_block (t3.block b1 HLB.out (fun h => h))).trans KA.out.1, (World.cell?_of_block (t3.block b1 HLB.out (fun h => h))).trans KA.out.2⟩)
        clear h p3 t3
        go_wp2_with fail
        refine hK.out _ _ (by first | with_reducible exact KB.out | with_reducible exact KA.out) (fun hHeld => ?_)
        replace hH := Lib.hid hHeld
        clear hK K hHeld
        try simp only [Act.put, sA, sB, sC]
        refine tk (i := 10) (oi := ⟨some 31, .move (.tmp 41), 195, "lap.go:147", #[⟨9, .data⟩], none⟩) hH.out (by rintro w ⟨s0, s1⟩; go_simp <;> with_reducible rfl) ?_
        simp only [Act.put, sA, sB, sC]
        refine tk (i := 11) (oi := ⟨some 42, .extract (.tmp 31) 0, 173, "lap.go:147", #[⟨10, .data⟩], none⟩) hH.out (by rintro w ⟨s0, s1⟩; go_simp <;> with_reducible rfl) ?_
        simp only [Act.put, sA, sB, sC]
        refine tk (i := 12) (oi := ⟨some 43, .extract (.tmp 31) 1, 26, "lap.go:147", #[⟨10, .data⟩, { on := 13, ground := Go.Ground.gcOnly Go.Departure.lateStores }], none⟩) hH.out (by rintro w ⟨s0, s1⟩; go_simp <;> with_reducible rfl) ?_
        simp only [Act.put, sA, sB, sC]
        refine tk (i := 13) (oi := ⟨some 7, .assign (.tmp 42), 173, "lap.go:147", #[⟨11, .data⟩, ⟨9, .chain⟩, ⟨0, .phase⟩, ⟨1, .phase⟩, ⟨2, .phase⟩, ⟨3, .phase⟩, ⟨4, .phase⟩, ⟨5, .phase⟩, ⟨6, .phase⟩, ⟨7, .phase⟩, ⟨8, .phase⟩, ⟨9, .phase⟩, ⟨10, .phase⟩, ⟨11, .phase⟩, { on := 12, ground := Go.Ground.textOnly Go.Departure.lateStores }], none⟩) hH.out (by rintro w ⟨s0, s1⟩; go_simp <;> with_reducible rfl) ?_
        simp only [Act.put, sA, sB, sC]
        refine tk (i := 14) (oi := ⟨some 8, .assign (.tmp 43), 26, "lap.go:147", #[⟨12, .data⟩, ⟨13, .chain⟩, ⟨0, .phase⟩, ⟨1, .phase⟩, ⟨2, .phase⟩, ⟨3, .phase⟩, ⟨4, .phase⟩, ⟨5, .phase⟩, ⟨6, .phase⟩, ⟨7, .phase⟩, ⟨8, .phase⟩, ⟨9, .phase⟩, ⟨10, .phase⟩, ⟨11, .phase⟩, ⟨12, .phase⟩, ⟨13, .phase⟩], none⟩) hH.out (by rintro w ⟨s0, s1⟩; go_simp <;> with_reducible rfl) ?_
        simp only [Act.put, sA, sB, sC]
        refine wpAnyH_done (by kernel_rfl) ?_ _
        have hax := HAW.out.trans HT3.out
        have heq : Calls Tryz.prog 147 #[.slice A3 NN k3, .slice (some ⟨b1, o1, none⟩) k k0, .func (.func 148) #[] #[]] w8 (EqR w8 (cutV pe pn L) ps) := by
          have h1 := HP.out.step hax
          rw [HN.out] at h1
          have h := equalfn_any A3 (some ⟨b1, o1, none⟩) k3 k0 (cutV pe pn L) ps w8 HP3.out h1 (cutV_lt HL8.out) HB.out
          rw [← HNN.out, ← HN.out] at h
          exact h
        have HEQ := Lib.hid heq
        have HRD8 := Lib.hid (HRD.out.far (fun _ _ _ h => HT3.out.block _ h (fun h => h)) HT3.out.size)
        have HAX := Lib.hid hax
        clear heq hax hNp
        by_cases hE0 : E = 0
        · subst hE0
          go_wp2_with fail
          refine HEQ.out.mono ?_
          rintro x w9 ⟨B, rfl, hB, t9⟩
          have HBB := Lib.hid hB
          have HT9 := Lib.hid t9
          clear hB t9
          cases B with
          | false =>
            go_wp2_with fail
            refine bodyPost_ret (v := .tuple #[.slice none 0 0, .int .i64 4]) (by simp [results, Tryz.results110, go_sem]) rfl (JoinR.none (fun h => ?_) (HAX.out.trans HT9.out))
            obtain ⟨_, _, h3, h4⟩ := (join_iff ps).mpr h
            rw [← HPE.out, ← HPN.out, ← HL.out] at h3 h4
            have e : cutV pe pn L = ps := by rw [cutV, if_pos h3]; exact h4
            exact absurd (HBB.out.mpr e) (by decide)
          | true =>
            go_wp2_with fail
            refine bodyPost_ret (v := .tuple #[.slice A m q, .int .i64 0]) (by simp [results, Tryz.results110, go_sem]) rfl (JoinR.some ((join_iff ps).mp ?_) ?_ ?_ (HAX.out.trans HT9.out))
            · have e := HBB.out.mp (by trivial)
              rw [cutV, if_pos HE.out.symm] at e
              refine ⟨by rw [← HN.out]; exact H0.out, ?_, ?_, ?_⟩
              · rw [← HL.out, ← HM.out]; exact HM8.out
              · rw [← HPE.out, ← HPN.out, ← HL.out]; exact HE.out.symm
              · rw [← HPE.out, ← HPN.out, ← HL.out]; exact e
            · rw [← HL.out]; exact HM.out
            · rw [← HL.out]; exact HRD8.out.far (fun _ _ _ h => HT9.out.block _ h (fun h => h)) HT9.out.size
        · have hEb : (E == 0) = false := by rw [beq_eq_false_iff_ne]; exact hE0
          have HNO := Lib.hid hE0
          clear hE0
          go_wp2_with fail
          refine bodyPost_ret (v := .tuple #[.slice none 0 0, .int .i64 4]) (by simp [results, Tryz.results110, go_sem]) rfl (JoinR.none (fun h => HNO.out ?_) HAX.out)
          obtain ⟨_, _, h3, _⟩ := (join_iff ps).mpr h
          rw [HE.out, HPE.out, HPN.out, HL.out]
          exact h3
end Go.Proofs.YtcglfknkkeaegaaGreatDoor
namespace Go.Proofs.YtcglfknkkeaegaaGreatDoor
open Go.RowKit
end Go.Proofs.YtcglfknkkeaegaaGreatDoor
namespace Go.Proofs.YtcglfknkkeaegaaGreatDoor
open Go.ChangeShapes Go.WideShapes Go.ChangeAt Go.RowKit Go.Deep

section
variable {ta tc : TypeId} {W w w' : World} {P : Nat → Pc} {ka kc : Nat} {va vc : Value} {Fa Fc : Nat → Prop} {qa qc : List (Pc × Value)}
end
end Go.Proofs.YtcglfknkkeaegaaGreatDoor
namespace Go.Proofs.YtcglfknkkeaegaaGreatDoor
open Go.RowKit Go.Maps

structure Rp where
  next : Nat
  floor : Nat
  A : Nat → Option (List Nat)
def RecOk (s : DS) (n : Nat) (H : Int) (r : Rp) : Prop := JoinOk (scanV s n r.next) ∧ r.floor ≤ (hdP (scanV s n r.next)).e ∧ decE (allD (scanV s n r.next)) = 0 ∧ isTx (decP (allD (scanV s n r.next))) H
instance (s : DS) (n : Nat) (H : Int) (r : Rp) : Decidable (RecOk s n H r) := by
  unfold RecOk
  exact inferInstance
/-- behind one record more -/
def nextR (s : DS) (n : Nat) (r : Rp) : Rp := ⟨r.next + (scanV s n r.next).length, (hdP (scanV s n r.next)).e, putA r.A (decP (allD (scanV s n r.next)))⟩
def saysR (s : DS) (n : Nat) (H : Int) : Nat → Rp → Rp
  | 0, r => r
  | f + 1, r => if RecOk s n H r then saysR s n H f (nextR s n r) else r
theorem scan_some {s : DS} {n : Nat} : ∀ {f c : Nat} {ps : List Pc}, scan s n f c = some ps → ps = preP s n c ps.length ∧ (∀ i, i < ps.length → goodP s n (c + i)) ∧ 1 ≤ ps.length ∧ ps.length ≤ f
  | 0, c, ps, h => by cases h
  | f + 1, c, ps, h => by
    unfold scan at h
    split at h
    · rename_i hg
      split at h
      · injection h with h
        subst h
        refine ⟨by simp [preP], fun i hi => ?_, by simp, by simp⟩
        have : i = 0 := by simpa using hi
        subst this
        exact hg
      · rw [Option.map_eq_some_iff] at h
        obtain ⟨qs, hq, rfl⟩ := h
        obtain ⟨h1, h2, h3, h4⟩ := scan_some hq
        refine ⟨?_, fun i hi => ?_, by simp, by simp; omega⟩
        · have e : preP s n c (qs.length + 1) = dec (rdP s n c) :: preP s n (c + 1) qs.length := by
            unfold preP
            rw [List.range_succ_eq_map, List.map_cons, List.map_map]
            congr 1
            apply List.map_congr_left
            intro i _
            simp only [Function.comp_apply, Nat.succ_eq_add_one, show c + 1 + i = c + (i + 1) by omega]
          rw [List.length_cons, e, ← h1]
        · cases i with
          | zero => exact hg
          | succ i =>
            have := h2 i (by simpa using hi)
            rwa [show c + 1 + i = c + (i + 1) by omega] at this
    · cases h
theorem scanV_good {s : DS} {n c : Nat} : scanV s n c = preP s n c (scanV s n c).length ∧ (∀ i, i < (scanV s n c).length → goodP s n (c + i)) := by
  cases h : scan s n (n + 1) c with
  | none =>
    have e : scanV s n c = [] := by unfold scanV; rw [h]; rfl
    rw [e]
    exact ⟨rfl, fun i hi => absurd hi (by simp)⟩
  | some ps =>
    have e : scanV s n c = ps := by unfold scanV; rw [h]; rfl
    rw [e]
    exact ⟨(scan_some h).1, (scan_some h).2.1⟩
theorem JoinOk.pos {ps : List Pc} (h : JoinOk ps) : 1 ≤ ps.length := h.1
/-- the ring holds no two counts at one place -/
theorem good_le {s : DS} {n t u : Nat} (hn : 1 ≤ n) (h : ∀ c, t ≤ c → c < u → goodP s n c) : u ≤ t + n := by
  rcases Nat.lt_or_ge (t + n) u with h1 | h1
  · have h0 := (h t (Nat.le_refl _) (by omega)).2
    have h2 := (h (t + n) (by omega) h1).2
    have e : rdP s n (t + n) = rdP s n t := by unfold rdP; rw [Nat.add_mod_right]
    rw [e, h0] at h2
    omega
  · exact h1
/-- k records are done -/
structure SaysK (s : DS) (n : Nat) (H : Int) (r0 : Rp) (k : Nat) (r : Rp) : Prop where
  res : saysR s n H (n + 1) r0 = saysR s n H (n + 1 - k) r
  good : ∀ c, r0.next ≤ c → c < r.next → goodP s n c
  le : r0.next + k ≤ r.next
  A : AOk H.toNat r0.A → 0 ≤ H → AOk H.toNat r.A
theorem SaysK.zero (s : DS) (n : Nat) (H : Int) (r : Rp) : SaysK s n H r 0 r := ⟨rfl, fun c h1 h2 => absurd h2 (by omega), Nat.le_refl _, fun h _ => h⟩
theorem SaysK.top {s : DS} {n : Nat} {H : Int} {r0 r : Rp} {k : Nat} (h : SaysK s n H r0 k r) (hn : 1 ≤ n) : r.next ≤ r0.next + n := good_le hn h.good
theorem decP_bytes (l : List Nat) : ∀ p ∈ decP l, ∀ x ∈ p.d, x < 256 := fun p hp x hx => by
  unfold decP at hp
  obtain ⟨i, _, rfl⟩ := List.mem_map.mp hp
  unfold decT at hx
  obtain ⟨j, _, rfl⟩ := List.mem_map.mp hx
  unfold decX bitsAt
  exact Nat.mod_lt _ (by decide)
theorem AOk.putA {M : Nat} {H : Int} : ∀ {ps : List Pt} {A : Nat → Option (List Nat)}, AOk M A → (∀ p ∈ ps, (0 ≤ p.a ∧ p.a < H) ∧ p.d.length = 128) → (∀ p ∈ ps, ∀ x ∈ p.d, x < 256) → H.toNat ≤ M → AOk M (putA A ps)
  | [], _, h, _, _, _ => h
  | p :: ps, A, h, h1, h2, hM => by
    have hp := h1 p (by simp)
    exact AOk.putA (ps := ps) (h.set (i := p.a.toNat) (x := p.d) (by omega) hp.2 (h2 p (by simp))) (fun q hq => h1 q (by simp [hq])) (fun q hq => h2 q (by simp [hq])) hM
theorem SaysK.step {s : DS} {n : Nat} {H : Int} {r0 r : Rp} {k : Nat} (h : SaysK s n H r0 k r) (hn : 1 ≤ n) (ho : RecOk s n H r) : SaysK s n H r0 (k + 1) (nextR s n r) ∧ k < n := by
  have hp := ho.1.pos
  have hg : ∀ c, r0.next ≤ c → c < (nextR s n r).next → goodP s n c := fun c h1 h2 => by
    by_cases hc : c < r.next
    · exact h.good c h1 hc
    · have := (scanV_good (s := s) (n := n) (c := r.next)).2 (c - r.next) (by show c - r.next < _; unfold nextR at h2; simp only at h2; omega)
      rwa [show r.next + (c - r.next) = c by omega] at this
  have ht := good_le hn hg
  have hl := h.le
  have hnx : (nextR s n r).next = r.next + (scanV s n r.next).length := rfl
  have hk : k < n := by omega
  refine ⟨⟨?_, hg, by omega, fun hA hH => ?_⟩, hk⟩
  · rw [h.res, show n + 1 - k = (n - k) + 1 by omega, show n + 1 - (k + 1) = n - k by omega]
    show (if RecOk s n H r then _ else _) = _
    rw [if_pos ho]
  · exact (h.A hA hH).putA (fun p hp => (ho.2.2.2.row p hp)) (decP_bytes _) (Nat.le_refl _)
theorem SaysK.stop {s : DS} {n : Nat} {H : Int} {r0 r : Rp} {k : Nat} (h : SaysK s n H r0 k r) (hn : 1 ≤ n) (ho : ¬ RecOk s n H r) : saysR s n H (n + 1) r0 = r := by
  have hl := h.le
  have ht := h.top hn
  rw [h.res, show n + 1 - k = (n - k) + 1 by omega]
  show (if RecOk s n H r then _ else _) = _
  rw [if_neg ho]
theorem scanV_len {s : DS} {n c : Nat} (hn : 1 ≤ n) : (scanV s n c).length ≤ n := by
  have := good_le (s := s) (t := c) (u := c + (scanV s n c).length) hn (fun x h1 h2 => by
    have := (scanV_good (s := s) (n := n) (c := c)).2 (x - c) (by omega)
    rwa [show c + (x - c) = x by omega] at this)
  omega
theorem scanV_bytes {s : DS} {n c N : Nat} (h : SB s N) (hn : 1 ≤ n) (hN : n + 2 ≤ N) : B8 (scanV s n c) := fun p hp => by
  rw [scanV_good.1] at hp
  unfold preP at hp
  obtain ⟨i, _, rfl⟩ := List.mem_map.mp hp
  intro x hx
  have hs := h (2 + (c + i) % n) (by have := Nat.mod_lt (c + i) hn; omega)
  unfold dec at hx
  exact hs x (List.mem_of_mem_drop (List.mem_of_mem_take hx))
theorem scanV_small {s : DS} {n c : Nat} : ∀ p ∈ scanV s n c, p.d.length ≤ 1000 := fun p hp => by
  have h0 := hp
  rw [scanV_good.1] at hp
  unfold preP at hp
  obtain ⟨i, hi, rfl⟩ := List.mem_map.mp hp
  have hg := ((scanV_good (s := s) (n := n) (c := c)).2 i (by simpa using hi)).1
  have := hg.2.1
  unfold dec
  rw [List.length_take, List.length_drop]
  have := hg.1
  omega
end Go.Proofs.YtcglfknkkeaegaaGreatDoor
