/- Whether two pieces are the same. slices.EqualFunc over pieces. -/
import Derived.Test.YtbdjlmdbnoghnaaGreatMh20
import Derived.Test.YtbdjlmdbnoghnaaGreatMh11
namespace Go.Proofs.YtbdjlmdbnoghnaaGreat
open Go.RowKit

def SameR (w : World) (B : Bool) (x : Ending) (w' : World) : Prop := x = .returned (.bool B) ∧ Adv Nul w Nul w'
theorem flags_adv (e c : Int) (f g : Bool) (v : Value) (w : World) :
    Calls Tryz.prog 109 #[.agg #[.int .u64 e, .int .u64 c, .bool f, .bool g, v]] w fun x w' => x = .returned (.int .u8 ((flg f g : Nat) : Int)) ∧ Adv Nul w Nul w' :=
  (flags_any e c f g v w).mono (by rintro x w' ⟨rfl, rfl⟩; exact ⟨rfl, (Adv.refl _ _).alloc _⟩)
set_option maxRecDepth 3000 in
set_option maxHeartbeats 3200000 in
theorem psame_any (e1 c1 e2 c2 : Nat) (f1 g1 f2 g2 : Bool) (A1 A2 : Option Addr) (n1 n2 k1 k2 : Nat) (l1 l2 : List Nat) (w : World) (h1 : Rd w 1 (.slice A1 n1 k1) n1 (l1.map u8)) (h2 : Rd w 1 (.slice A2 n2 k2) n2 (l2.map u8)) (hl1 : ∀ x ∈ l1, x < 256) (hl2 : ∀ x ∈ l2, x < 256) :
    Calls Tryz.prog 99 #[.agg #[.int .u64 (e1 : Int), .int .u64 (c1 : Int), .bool f1, .bool g1, .slice A1 n1 k1], .agg #[.int .u64 (e2 : Int), .int .u64 (c2 : Int), .bool f2, .bool g2, .slice A2 n2 k2]] w
      (SameR w (decide (e1 = e2 ∧ c1 = c2 ∧ flg f1 g1 = flg f2 g2 ∧ l1 = l2))) := by
  obtain ⟨b, hb⟩ : ∃ b, b = w.heap.size := ⟨_, rfl⟩
  obtain ⟨q, hq⟩ : ∃ q, q = (w.alloc (.cells #[.int .u64 (e1 : Int), .int .u64 (c1 : Int), .bool f1, .bool g1, .slice A1 n1 k1] 96)).heap.size := ⟨_, rfl⟩
  obtain ⟨V, hV⟩ : ∃ V, V = (w.alloc (.cells #[.int .u64 (e1 : Int), .int .u64 (c1 : Int), .bool f1, .bool g1, .slice A1 n1 k1] 96)).alloc (.cells #[.int .u64 (e2 : Int), .int .u64 (c2 : Int), .bool f2, .bool g2, .slice A2 n2 k2] 96) := ⟨_, rfl⟩
  have hX1 : Blk V b 96 #[.int .u64 (e1 : Int), .int .u64 (c1 : Int), .bool f1, .bool g1, .slice A1 n1 k1] := by rw [hV, hb]; exact (Blk.new _ _ _).alloc _
  have hX2 : Blk V q 96 #[.int .u64 (e2 : Int), .int .u64 (c2 : Int), .bool f2, .bool g2, .slice A2 n2 k2] := by rw [hV, hq]; exact Blk.new _ _ _
  have hA : Adv Nul w Nul V := by rw [hV]; exact ((Adv.refl _ _).alloc _).alloc _
  have hR1 : Rd V 1 (.slice A1 n1 k1) n1 (l1.map u8) := by rw [hV]; exact (h1.up _).up _
  have hR2 : Rd V 1 (.slice A2 n2 k2) n2 (l2.map u8) := by rw [hV]; exact (h2.up _).up _
  have hq1 : q = b + 1 := by rw [hq, hb]; simp
  have HQ1 := Lib.hid hq1
  have HC0 := Lib.hid (five2 hX1 hX2)
  have HD0 := Lib.hid (five2 (w := V.drew) hX1 hX2)
  have HX1 := Lib.hid hX1
  have HX2 := Lib.hid hX2
  have HA := Lib.hid hA
  have HR1 := Lib.hid hR1
  have HR2 := Lib.hid hR2
  have HV := Lib.hid hV
  have HB := Lib.hid hb
  have HQ := Lib.hid hq
  have HL1 := Lib.hid hl1
  have HL2 := Lib.hid hl2
  obtain ⟨B, hB⟩ : ∃ B, B = decide (e1 = e2 ∧ c1 = c2 ∧ flg f1 g1 = flg f2 g2 ∧ l1 = l2) := ⟨_, rfl⟩
  rw [← hB]
  have HBB := Lib.hid hB
  clear hX1 hX2 hA hR1 hR2 hV hb hq h1 h2 hl1 hl2 hB hq1
  go_enter Tryz.func99, Tryz.ntmps99
  go_wp2_with fail
  rw [← HV.out, ← HB.out, ← HQ1.out]
  obtain ⟨s0, s1, s2, s3, s4, s5, s6, s7, s8, s9⟩ := HC0.out
  by_cases he : e1 = e2
  · have he' : ((e1 : Int) == (e2 : Int)) = true := by rw [beq_iff_eq]; omega
    by_cases hc : c1 = c2
    · have hc' : ((c1 : Int) == (c2 : Int)) = true := by rw [beq_iff_eq]; omega
      have HE := Lib.hid he
      have HCC := Lib.hid hc
      by_cases hx : flg f1 g1 = flg f2 g2
      · have hx' : (((flg f1 g1 : Nat) : Int) == ((flg f2 g2 : Nat) : Int)) = true := by rw [beq_iff_eq]; omega
        obtain rfl : B = decide (l1 = l2) := by rw [HBB.out]; by_cases hl : l1 = l2 <;> simp [hl, he, hc, hx]
        clear he hc hx
        refine rstart (S := (fun w' => w'.cell? ⟨b, 0, none⟩ = some (.int .u64 (e1 : Int)) ∧ w'.cell? ⟨b, 1, none⟩ = some (.int .u64 (c1 : Int)) ∧ w'.cell? ⟨b, 2, none⟩ = some (.bool f1) ∧ w'.cell? ⟨b, 3, none⟩ = some (.bool g1) ∧ w'.cell? ⟨b, 4, none⟩ = some (.slice A1 n1 k1) ∧ w'.cell? ⟨q, 0, none⟩ = some (.int .u64 (e2 : Int)) ∧ w'.cell? ⟨q, 1, none⟩ = some (.int .u64 (c2 : Int)) ∧ w'.cell? ⟨q, 2, none⟩ = some (.bool f2) ∧ w'.cell? ⟨q, 3, none⟩ = some (.bool g2) ∧ w'.cell? ⟨q, 4, none⟩ = some (.slice A2 n2 k2))) (by first | with_reducible exact HC2.out | with_reducible exact HC1.out | with_reducible exact HD0.out) (fun hH => ?_)
        refine tk (i := 0) (oi := ⟨some 5, .fieldAddr 96 (.tmp 2) 0, 0, "lap.go:159", #[], none⟩) hH.out (by rintro w ⟨s0, s1, s2, s3, s4, s5, s6, s7, s8, s9⟩; go_simp <;> with_reducible rfl) ?_
        simp only [Act.put, sA, sB, sC]
        refine tk (i := 1) (oi := ⟨some 6, .load 49 (.tmp 5), 49, "lap.go:159", #[⟨0, .data⟩], none⟩) hH.out (by rintro w ⟨s0, s1, s2, s3, s4, s5, s6, s7, s8, s9⟩; go_simp <;> with_reducible rfl) ?_
        simp only [Act.put, sA, sB, sC]
        refine tk (i := 2) (oi := ⟨some 7, .fieldAddr 96 (.tmp 3) 0, 0, "lap.go:159", #[], none⟩) hH.out (by rintro w ⟨s0, s1, s2, s3, s4, s5, s6, s7, s8, s9⟩; go_simp <;> with_reducible rfl) ?_
        simp only [Act.put, sA, sB, sC]
        refine tk (i := 3) (oi := ⟨some 8, .load 49 (.tmp 7), 49, "lap.go:159", #[⟨2, .data⟩], none⟩) hH.out (by rintro w ⟨s0, s1, s2, s3, s4, s5, s6, s7, s8, s9⟩; go_simp <;> with_reducible rfl) ?_
        simp only [Act.put, sA, sB, sC]
        refine tk (i := 4) (oi := ⟨some 9, .binOp .eql 49 (.tmp 6) (.tmp 8) 49, 4, "lap.go:159", #[⟨1, .data⟩, ⟨3, .data⟩], none⟩) hH.out (by rintro w ⟨s0, s1, s2, s3, s4, s5, s6, s7, s8, s9⟩; go_simp <;> with_reducible rfl) ?_
        simp only [Act.put, sA, sB, sC]
        refine tk (i := 5) (oi := ⟨some 10, .move (.tmp 9), 4, "lap.go:159", #[⟨4, .data⟩], none⟩) hH.out (by rintro w ⟨s0, s1, s2, s3, s4, s5, s6, s7, s8, s9⟩; go_simp <;> with_reducible rfl) ?_
        simp only [Act.put, sA, sB, sC]
        refine tk (i := 6) (oi := { dst := some 11, op := .fieldAddr 96 (.tmp 2) 1, type := 0, pos := "lap.go:159", after := #[⟨5, .guard⟩], guard := some (5, true) }) hH.out (by rintro w ⟨s0, s1, s2, s3, s4, s5, s6, s7, s8, s9⟩; go_simp <;> with_reducible rfl) ?_
        simp only [Act.put, sA, sB, sC]
        refine tk (i := 7) (oi := { dst := some 12, op := .load 49 (.tmp 11), type := 49, pos := "lap.go:159", after := #[⟨6, .data⟩, ⟨5, .guard⟩], guard := some (5, true) }) hH.out (by rintro w ⟨s0, s1, s2, s3, s4, s5, s6, s7, s8, s9⟩; go_simp <;> with_reducible rfl) ?_
        simp only [Act.put, sA, sB, sC]
        refine tk (i := 8) (oi := { dst := some 13, op := .fieldAddr 96 (.tmp 3) 1, type := 0, pos := "lap.go:159", after := #[⟨5, .guard⟩], guard := some (5, true) }) hH.out (by rintro w ⟨s0, s1, s2, s3, s4, s5, s6, s7, s8, s9⟩; go_simp <;> with_reducible rfl) ?_
        simp only [Act.put, sA, sB, sC]
        refine tk (i := 9) (oi := { dst := some 14, op := .load 49 (.tmp 13), type := 49, pos := "lap.go:159", after := #[⟨8, .data⟩, ⟨5, .guard⟩], guard := some (5, true) }) hH.out (by rintro w ⟨s0, s1, s2, s3, s4, s5, s6, s7, s8, s9⟩; go_simp <;> with_reducible rfl) ?_
        simp only [Act.put, sA, sB, sC]
        refine tk (i := 10) (oi := { dst := some 15, op := .binOp .eql 49 (.tmp 12) (.tmp 14) 49, type := 4, pos := "lap.go:159", after := #[⟨7, .data⟩, ⟨9, .data⟩, ⟨5, .guard⟩], guard := some (5, true) }) hH.out (by rintro w ⟨s0, s1, s2, s3, s4, s5, s6, s7, s8, s9⟩; go_simp <;> with_reducible rfl) ?_
        simp only [Act.put, sA, sB, sC]
        refine tk (i := 11) (oi := ⟨some 16, .pick (.tmp 10) (.tmp 15) (.const (Go.Value.bool false)), 4, "lap.go:159", #[⟨5, .data⟩, ⟨10, .data⟩], none⟩) hH.out (by rintro w ⟨s0, s1, s2, s3, s4, s5, s6, s7, s8, s9⟩; go_simp <;> with_reducible rfl) ?_
        simp only [Act.put, sA, sB, sC]
        refine tk (i := 12) (oi := ⟨some 17, .move (.tmp 16), 4, "lap.go:159", #[⟨11, .data⟩, ⟨5, .chain⟩], none⟩) hH.out (by rintro w ⟨s0, s1, s2, s3, s4, s5, s6, s7, s8, s9⟩; go_simp <;> with_reducible rfl) ?_
        simp only [Act.put, sA, sB, sC]
        refine tk (i := 13) (oi := { dst := some 18, op := .load 96 (.tmp 2), type := 96, pos := "lap.go:159", after := #[⟨12, .guard⟩], guard := some (12, true) }) hH.out (by rintro w ⟨s0, s1, s2, s3, s4, s5, s6, s7, s8, s9⟩; go_simp <;> with_reducible rfl) ?_
        simp only [Act.put, sA, sB, sC]
        refine tk (i := 15) (oi := { dst := some 20, op := .load 96 (.tmp 3), type := 96, pos := "lap.go:159", after := #[⟨12, .guard⟩], guard := some (12, true) }) hH.out (by rintro w ⟨s0, s1, s2, s3, s4, s5, s6, s7, s8, s9⟩; go_simp <;> with_reducible rfl) ?_
        simp only [Act.put, sA, sB, sC]
        refine rdy (i := 14) (oi := { dst := some 19, op := .call ⟨.value (.func 109), #[.tmp 18], #[96]⟩, type := 5, pos := "lap.go:159", after := #[⟨13, .data⟩, ⟨12, .chain⟩, ⟨12, .guard⟩], guard := some (12, true) }) (fun K hK => ?_)
        go_simp
        refine (flags_adv _ _ _ _ _ _).mono ?_
        rintro x w5 ⟨rfl, u1⟩
        have HU1 := Lib.hid ((Adv.refl Nul V).drew.trans u1)
        have HC1 := Lib.hid (five2 (HX1.out.keep (HU1.out.block b HX1.out.lt (fun h => h))) (HX2.out.keep (HU1.out.block q HX2.out.lt (fun h => h))))
        clear u1
        go_wp2_with fail
        refine hK.out _ _ (by first | with_reducible exact HC2.out | with_reducible exact HC1.out | with_reducible exact HD0.out) (fun hHeld => ?_)
        replace hH := Lib.hid hHeld
        clear hK K hHeld
        try simp only [Act.put, sA, sB, sC]
        refine rdy (i := 16) (oi := { dst := some 21, op := .call ⟨.value (.func 109), #[.tmp 20], #[96]⟩, type := 5, pos := "lap.go:159", after := #[⟨15, .data⟩, ⟨14, .chain⟩, ⟨12, .guard⟩], guard := some (12, true) }) (fun K hK => ?_)
        go_simp
        refine (flags_adv _ _ _ _ _ _).mono ?_
        rintro x w6 ⟨rfl, u2⟩
        have HU2 := Lib.hid (HU1.out.trans u2)
        have HC2 := Lib.hid (five2 (HX1.out.keep (HU2.out.block b HX1.out.lt (fun h => h))) (HX2.out.keep (HU2.out.block q HX2.out.lt (fun h => h))))
        clear u2
        go_wp2_with fail
        refine hK.out _ _ (by first | with_reducible exact HC2.out | with_reducible exact HC1.out | with_reducible exact HD0.out) (fun hHeld => ?_)
        replace hH := Lib.hid hHeld
        clear hK K hHeld
        try simp only [Act.put, sA, sB, sC]
        refine tk (i := 17) (oi := { dst := some 22, op := .binOp .eql 5 (.tmp 19) (.tmp 21) 5, type := 4, pos := "lap.go:159", after := #[⟨14, .data⟩, ⟨16, .data⟩, ⟨12, .guard⟩], guard := some (12, true) }) hH.out (by rintro w ⟨s0, s1, s2, s3, s4, s5, s6, s7, s8, s9⟩; go_simp <;> with_reducible rfl) ?_
        simp only [Act.put, sA, sB, sC]
        refine tk (i := 18) (oi := ⟨some 23, .pick (.tmp 17) (.tmp 22) (.const (Go.Value.bool false)), 4, "lap.go:159", #[⟨12, .data⟩, ⟨17, .data⟩], none⟩) hH.out (by rintro w ⟨s0, s1, s2, s3, s4, s5, s6, s7, s8, s9⟩; go_simp <;> with_reducible rfl) ?_
        simp only [Act.put, sA, sB, sC]
        refine tk (i := 19) (oi := ⟨some 24, .move (.tmp 23), 4, "lap.go:159", #[⟨18, .data⟩, ⟨16, .chain⟩], none⟩) hH.out (by rintro w ⟨s0, s1, s2, s3, s4, s5, s6, s7, s8, s9⟩; go_simp <;> with_reducible rfl) ?_
        simp only [Act.put, sA, sB, sC]
        refine tk (i := 20) (oi := { dst := some 25, op := .fieldAddr 96 (.tmp 2) 4, type := 0, pos := "lap.go:159", after := #[⟨19, .guard⟩], guard := some (19, true) }) hH.out (by rintro w ⟨s0, s1, s2, s3, s4, s5, s6, s7, s8, s9⟩; go_simp <;> with_reducible rfl) ?_
        simp only [Act.put, sA, sB, sC]
        refine tk (i := 21) (oi := { dst := some 26, op := .load 53 (.tmp 25), type := 53, pos := "lap.go:159", after := #[⟨20, .data⟩, ⟨19, .guard⟩], guard := some (19, true) }) hH.out (by rintro w ⟨s0, s1, s2, s3, s4, s5, s6, s7, s8, s9⟩; go_simp <;> with_reducible rfl) ?_
        simp only [Act.put, sA, sB, sC]
        refine tk (i := 22) (oi := { dst := some 27, op := .fieldAddr 96 (.tmp 3) 4, type := 0, pos := "lap.go:159", after := #[⟨19, .guard⟩], guard := some (19, true) }) hH.out (by rintro w ⟨s0, s1, s2, s3, s4, s5, s6, s7, s8, s9⟩; go_simp <;> with_reducible rfl) ?_
        simp only [Act.put, sA, sB, sC]
        refine tk (i := 23) (oi := { dst := some 28, op := .load 53 (.tmp 27), type := 53, pos := "lap.go:159", after := #[⟨22, .data⟩, ⟨19, .guard⟩], guard := some (19, true) }) hH.out (by rintro w ⟨s0, s1, s2, s3, s4, s5, s6, s7, s8, s9⟩; go_simp <;> with_reducible rfl) ?_
        simp only [Act.put, sA, sB, sC]
        refine rdy (i := 24) (oi := { dst := some 29, op := .call ⟨.value (.func 117), #[.tmp 26, .tmp 28], #[53, 53]⟩, type := 4, pos := "lap.go:159", after := #[⟨21, .data⟩, ⟨23, .data⟩, ⟨19, .chain⟩, ⟨19, .guard⟩], guard := some (19, true) }) (fun K hK => ?_)
        go_simp
        refine (equal_any _ _ n1 n2 l1 l2 _ (HR1.out.far (fun _ _ _ h => HU2.out.block _ h (fun h => h)) HU2.out.size) (HR2.out.far (fun _ _ _ h => HU2.out.block _ h (fun h => h)) HU2.out.size) HL1.out HL2.out).mono ?_
        rintro x w7 ⟨rfl, rfl⟩
        go_wp2_with fail
        refine hK.out _ _ (by first | with_reducible exact HC2.out | with_reducible exact HC1.out | with_reducible exact HD0.out) (fun hHeld => ?_)
        replace hH := Lib.hid hHeld
        clear hK K hHeld
        try simp only [Act.put, sA, sB, sC]
        refine tk (i := 25) (oi := ⟨some 30, .pick (.tmp 24) (.tmp 29) (.const (Go.Value.bool false)), 4, "lap.go:159", #[⟨19, .data⟩, ⟨24, .data⟩], none⟩) hH.out (by rintro w ⟨s0, s1, s2, s3, s4, s5, s6, s7, s8, s9⟩; go_simp <;> with_reducible rfl) ?_
        simp only [Act.put, sA, sB, sC]
        refine tk (i := 26) (oi := ⟨some 4, .assign (.tmp 30), 4, "lap.go:159", #[⟨25, .data⟩, ⟨24, .chain⟩, ⟨0, .phase⟩, ⟨1, .phase⟩, ⟨2, .phase⟩, ⟨3, .phase⟩, ⟨4, .phase⟩, ⟨5, .phase⟩, ⟨6, .phase⟩, ⟨7, .phase⟩, ⟨8, .phase⟩, ⟨9, .phase⟩, ⟨10, .phase⟩, ⟨11, .phase⟩, ⟨12, .phase⟩, ⟨13, .phase⟩, ⟨14, .phase⟩, ⟨15, .phase⟩, ⟨16, .phase⟩, ⟨17, .phase⟩, ⟨18, .phase⟩, ⟨19, .phase⟩, ⟨20, .phase⟩, ⟨21, .phase⟩, ⟨22, .phase⟩, ⟨23, .phase⟩, ⟨24, .phase⟩, ⟨25, .phase⟩], none⟩) hH.out (by rintro w ⟨s0, s1, s2, s3, s4, s5, s6, s7, s8, s9⟩; go_simp <;> with_reducible rfl) ?_
        simp only [Act.put, sA, sB, sC]
        refine wpAnyH_done (by kernel_rfl) ?_ _
        go_wp2_with fail
        go_ret
        exact ⟨rfl, HA.out.trans HU2.out⟩
      · have hx' : (((flg f1 g1 : Nat) : Int) == ((flg f2 g2 : Nat) : Int)) = false := by rw [beq_eq_false_iff_ne]; omega
        obtain rfl : B = false := by rw [HBB.out]; exact decide_eq_false (fun h => hx h.2.2.1)
        clear he hc hx
        refine rstart (S := (fun w' => w'.cell? ⟨b, 0, none⟩ = some (.int .u64 (e1 : Int)) ∧ w'.cell? ⟨b, 1, none⟩ = some (.int .u64 (c1 : Int)) ∧ w'.cell? ⟨b, 2, none⟩ = some (.bool f1) ∧ w'.cell? ⟨b, 3, none⟩ = some (.bool g1) ∧ w'.cell? ⟨b, 4, none⟩ = some (.slice A1 n1 k1) ∧ w'.cell? ⟨q, 0, none⟩ = some (.int .u64 (e2 : Int)) ∧ w'.cell? ⟨q, 1, none⟩ = some (.int .u64 (c2 : Int)) ∧ w'.cell? ⟨q, 2, none⟩ = some (.bool f2) ∧ w'.cell? ⟨q, 3, none⟩ = some (.bool g2) ∧ w'.cell? ⟨q, 4, none⟩ = some (.slice A2 n2 k2))) (by first | with_reducible exact HC2.out | with_reducible exact HC1.out | with_reducible exact HD0.out) (fun hH => ?_)
        refine tk (i := 0) (oi := ⟨some 5, .fieldAddr 96 (.tmp 2) 0, 0, "lap.go:159", #[], none⟩) hH.out (by rintro w ⟨s0, s1, s2, s3, s4, s5, s6, s7, s8, s9⟩; go_simp <;> with_reducible rfl) ?_
        simp only [Act.put, sA, sB, sC]
        refine tk (i := 1) (oi := ⟨some 6, .load 49 (.tmp 5), 49, "lap.go:159", #[⟨0, .data⟩], none⟩) hH.out (by rintro w ⟨s0, s1, s2, s3, s4, s5, s6, s7, s8, s9⟩; go_simp <;> with_reducible rfl) ?_
        simp only [Act.put, sA, sB, sC]
        refine tk (i := 2) (oi := ⟨some 7, .fieldAddr 96 (.tmp 3) 0, 0, "lap.go:159", #[], none⟩) hH.out (by rintro w ⟨s0, s1, s2, s3, s4, s5, s6, s7, s8, s9⟩; go_simp <;> with_reducible rfl) ?_
        simp only [Act.put, sA, sB, sC]
        refine tk (i := 3) (oi := ⟨some 8, .load 49 (.tmp 7), 49, "lap.go:159", #[⟨2, .data⟩], none⟩) hH.out (by rintro w ⟨s0, s1, s2, s3, s4, s5, s6, s7, s8, s9⟩; go_simp <;> with_reducible rfl) ?_
        simp only [Act.put, sA, sB, sC]
        refine tk (i := 4) (oi := ⟨some 9, .binOp .eql 49 (.tmp 6) (.tmp 8) 49, 4, "lap.go:159", #[⟨1, .data⟩, ⟨3, .data⟩], none⟩) hH.out (by rintro w ⟨s0, s1, s2, s3, s4, s5, s6, s7, s8, s9⟩; go_simp <;> with_reducible rfl) ?_
        simp only [Act.put, sA, sB, sC]
        refine tk (i := 5) (oi := ⟨some 10, .move (.tmp 9), 4, "lap.go:159", #[⟨4, .data⟩], none⟩) hH.out (by rintro w ⟨s0, s1, s2, s3, s4, s5, s6, s7, s8, s9⟩; go_simp <;> with_reducible rfl) ?_
        simp only [Act.put, sA, sB, sC]
        refine tk (i := 6) (oi := { dst := some 11, op := .fieldAddr 96 (.tmp 2) 1, type := 0, pos := "lap.go:159", after := #[⟨5, .guard⟩], guard := some (5, true) }) hH.out (by rintro w ⟨s0, s1, s2, s3, s4, s5, s6, s7, s8, s9⟩; go_simp <;> with_reducible rfl) ?_
        simp only [Act.put, sA, sB, sC]
        refine tk (i := 7) (oi := { dst := some 12, op := .load 49 (.tmp 11), type := 49, pos := "lap.go:159", after := #[⟨6, .data⟩, ⟨5, .guard⟩], guard := some (5, true) }) hH.out (by rintro w ⟨s0, s1, s2, s3, s4, s5, s6, s7, s8, s9⟩; go_simp <;> with_reducible rfl) ?_
        simp only [Act.put, sA, sB, sC]
        refine tk (i := 8) (oi := { dst := some 13, op := .fieldAddr 96 (.tmp 3) 1, type := 0, pos := "lap.go:159", after := #[⟨5, .guard⟩], guard := some (5, true) }) hH.out (by rintro w ⟨s0, s1, s2, s3, s4, s5, s6, s7, s8, s9⟩; go_simp <;> with_reducible rfl) ?_
        simp only [Act.put, sA, sB, sC]
        refine tk (i := 9) (oi := { dst := some 14, op := .load 49 (.tmp 13), type := 49, pos := "lap.go:159", after := #[⟨8, .data⟩, ⟨5, .guard⟩], guard := some (5, true) }) hH.out (by rintro w ⟨s0, s1, s2, s3, s4, s5, s6, s7, s8, s9⟩; go_simp <;> with_reducible rfl) ?_
        simp only [Act.put, sA, sB, sC]
        refine tk (i := 10) (oi := { dst := some 15, op := .binOp .eql 49 (.tmp 12) (.tmp 14) 49, type := 4, pos := "lap.go:159", after := #[⟨7, .data⟩, ⟨9, .data⟩, ⟨5, .guard⟩], guard := some (5, true) }) hH.out (by rintro w ⟨s0, s1, s2, s3, s4, s5, s6, s7, s8, s9⟩; go_simp <;> with_reducible rfl) ?_
        simp only [Act.put, sA, sB, sC]
        refine tk (i := 11) (oi := ⟨some 16, .pick (.tmp 10) (.tmp 15) (.const (Go.Value.bool false)), 4, "lap.go:159", #[⟨5, .data⟩, ⟨10, .data⟩], none⟩) hH.out (by rintro w ⟨s0, s1, s2, s3, s4, s5, s6, s7, s8, s9⟩; go_simp <;> with_reducible rfl) ?_
        simp only [Act.put, sA, sB, sC]
        refine tk (i := 12) (oi := ⟨some 17, .move (.tmp 16), 4, "lap.go:159", #[⟨11, .data⟩, ⟨5, .chain⟩], none⟩) hH.out (by rintro w ⟨s0, s1, s2, s3, s4, s5, s6, s7, s8, s9⟩; go_simp <;> with_reducible rfl) ?_
        simp only [Act.put, sA, sB, sC]
        refine tk (i := 13) (oi := { dst := some 18, op := .load 96 (.tmp 2), type := 96, pos := "lap.go:159", after := #[⟨12, .guard⟩], guard := some (12, true) }) hH.out (by rintro w ⟨s0, s1, s2, s3, s4, s5, s6, s7, s8, s9⟩; go_simp <;> with_reducible rfl) ?_
        simp only [Act.put, sA, sB, sC]
        refine tk (i := 15) (oi := { dst := some 20, op := .load 96 (.tmp 3), type := 96, pos := "lap.go:159", after := #[⟨12, .guard⟩], guard := some (12, true) }) hH.out (by rintro w ⟨s0, s1, s2, s3, s4, s5, s6, s7, s8, s9⟩; go_simp <;> with_reducible rfl) ?_
        simp only [Act.put, sA, sB, sC]
        refine rdy (i := 14) (oi := { dst := some 19, op := .call ⟨.value (.func 109), #[.tmp 18], #[96]⟩, type := 5, pos := "lap.go:159", after := #[⟨13, .data⟩, ⟨12, .chain⟩, ⟨12, .guard⟩], guard := some (12, true) }) (fun K hK => ?_)
        go_simp
        refine (flags_adv _ _ _ _ _ _).mono ?_
        rintro x w5 ⟨rfl, u1⟩
        have HU1 := Lib.hid ((Adv.refl Nul V).drew.trans u1)
        have HC1 := Lib.hid (five2 (HX1.out.keep (HU1.out.block b HX1.out.lt (fun h => h))) (HX2.out.keep (HU1.out.block q HX2.out.lt (fun h => h))))
        clear u1
        go_wp2_with fail
        refine hK.out _ _ (by first | with_reducible exact HC2.out | with_reducible exact HC1.out | with_reducible exact HD0.out) (fun hHeld => ?_)
        replace hH := Lib.hid hHeld
        clear hK K hHeld
        try simp only [Act.put, sA, sB, sC]
        refine rdy (i := 16) (oi := { dst := some 21, op := .call ⟨.value (.func 109), #[.tmp 20], #[96]⟩, type := 5, pos := "lap.go:159", after := #[⟨15, .data⟩, ⟨14, .chain⟩, ⟨12, .guard⟩], guard := some (12, true) }) (fun K hK => ?_)
        go_simp
        refine (flags_adv _ _ _ _ _ _).mono ?_
        rintro x w6 ⟨rfl, u2⟩
        have HU2 := Lib.hid (HU1.out.trans u2)
        have HC2 := Lib.hid (five2 (HX1.out.keep (HU2.out.block b HX1.out.lt (fun h => h))) (HX2.out.keep (HU2.out.block q HX2.out.lt (fun h => h))))
        clear u2
        go_wp2_with fail
        refine hK.out _ _ (by first | with_reducible exact HC2.out | with_reducible exact HC1.out | with_reducible exact HD0.out) (fun hHeld => ?_)
        replace hH := Lib.hid hHeld
        clear hK K hHeld
        try simp only [Act.put, sA, sB, sC]
        refine tk (i := 17) (oi := { dst := some 22, op := .binOp .eql 5 (.tmp 19) (.tmp 21) 5, type := 4, pos := "lap.go:159", after := #[⟨14, .data⟩, ⟨16, .data⟩, ⟨12, .guard⟩], guard := some (12, true) }) hH.out (by rintro w ⟨s0, s1, s2, s3, s4, s5, s6, s7, s8, s9⟩; go_simp <;> with_reducible rfl) ?_
        simp only [Act.put, sA, sB, sC]
        refine tk (i := 18) (oi := ⟨some 23, .pick (.tmp 17) (.tmp 22) (.const (Go.Value.bool false)), 4, "lap.go:159", #[⟨12, .data⟩, ⟨17, .data⟩], none⟩) hH.out (by rintro w ⟨s0, s1, s2, s3, s4, s5, s6, s7, s8, s9⟩; go_simp <;> with_reducible rfl) ?_
        simp only [Act.put, sA, sB, sC]
        refine tk (i := 19) (oi := ⟨some 24, .move (.tmp 23), 4, "lap.go:159", #[⟨18, .data⟩, ⟨16, .chain⟩], none⟩) hH.out (by rintro w ⟨s0, s1, s2, s3, s4, s5, s6, s7, s8, s9⟩; go_simp <;> with_reducible rfl) ?_
        simp only [Act.put, sA, sB, sC]
        refine tks (i := 20) (oi := { dst := some 25, op := .fieldAddr 96 (.tmp 2) 4, type := 0, pos := "lap.go:159", after := #[⟨19, .guard⟩], guard := some (19, true) }) hH.out ?_
        try simp only [Act.put, sA, sB, sC]
        refine tks (i := 21) (oi := { dst := some 26, op := .load 53 (.tmp 25), type := 53, pos := "lap.go:159", after := #[⟨20, .data⟩, ⟨19, .guard⟩], guard := some (19, true) }) hH.out ?_
        try simp only [Act.put, sA, sB, sC]
        refine tks (i := 22) (oi := { dst := some 27, op := .fieldAddr 96 (.tmp 3) 4, type := 0, pos := "lap.go:159", after := #[⟨19, .guard⟩], guard := some (19, true) }) hH.out ?_
        try simp only [Act.put, sA, sB, sC]
        refine tks (i := 23) (oi := { dst := some 28, op := .load 53 (.tmp 27), type := 53, pos := "lap.go:159", after := #[⟨22, .data⟩, ⟨19, .guard⟩], guard := some (19, true) }) hH.out ?_
        try simp only [Act.put, sA, sB, sC]
        refine tks (i := 24) (oi := { dst := some 29, op := .call ⟨.value (.func 117), #[.tmp 26, .tmp 28], #[53, 53]⟩, type := 4, pos := "lap.go:159", after := #[⟨21, .data⟩, ⟨23, .data⟩, ⟨19, .chain⟩, ⟨19, .guard⟩], guard := some (19, true) }) hH.out ?_
        try simp only [Act.put, sA, sB, sC]
        refine tk (i := 25) (oi := ⟨some 30, .pick (.tmp 24) (.tmp 29) (.const (Go.Value.bool false)), 4, "lap.go:159", #[⟨19, .data⟩, ⟨24, .data⟩], none⟩) hH.out (by rintro w ⟨s0, s1, s2, s3, s4, s5, s6, s7, s8, s9⟩; go_simp <;> with_reducible rfl) ?_
        simp only [Act.put, sA, sB, sC]
        refine tk (i := 26) (oi := ⟨some 4, .assign (.tmp 30), 4, "lap.go:159", #[⟨25, .data⟩, ⟨24, .chain⟩, ⟨0, .phase⟩, ⟨1, .phase⟩, ⟨2, .phase⟩, ⟨3, .phase⟩, ⟨4, .phase⟩, ⟨5, .phase⟩, ⟨6, .phase⟩, ⟨7, .phase⟩, ⟨8, .phase⟩, ⟨9, .phase⟩, ⟨10, .phase⟩, ⟨11, .phase⟩, ⟨12, .phase⟩, ⟨13, .phase⟩, ⟨14, .phase⟩, ⟨15, .phase⟩, ⟨16, .phase⟩, ⟨17, .phase⟩, ⟨18, .phase⟩, ⟨19, .phase⟩, ⟨20, .phase⟩, ⟨21, .phase⟩, ⟨22, .phase⟩, ⟨23, .phase⟩, ⟨24, .phase⟩, ⟨25, .phase⟩], none⟩) hH.out (by rintro w ⟨s0, s1, s2, s3, s4, s5, s6, s7, s8, s9⟩; go_simp <;> with_reducible rfl) ?_
        simp only [Act.put, sA, sB, sC]
        refine wpAnyH_done (by kernel_rfl) ?_ _
        go_wp2_with fail
        go_ret
        exact ⟨rfl, HA.out.trans HU2.out⟩
    · have hc' : ((c1 : Int) == (c2 : Int)) = false := by rw [beq_eq_false_iff_ne]; omega
      obtain rfl : B = false := by rw [HBB.out]; exact decide_eq_false (fun h => hc h.2.1)
      clear hc he
      go_quiet (fail)
      go_wp2_with fail
      go_ret
      exact ⟨rfl, HA.out.drewN _⟩
  · have he' : ((e1 : Int) == (e2 : Int)) = false := by rw [beq_eq_false_iff_ne]; omega
    obtain rfl : B = false := by rw [HBB.out]; exact decide_eq_false (fun h => he h.1)
    clear he
    go_quiet (fail)
    go_wp2_with fail
    go_ret
    exact ⟨rfl, HA.out.drewN _⟩
end Go.Proofs.YtbdjlmdbnoghnaaGreat
namespace Go.Proofs.YtbdjlmdbnoghnaaGreat
open Go.RowKit

def EqR (w : World) (ps qs : List Pc) (x : Ending) (w' : World) : Prop := ∃ B : Bool, x = .returned (.bool B) ∧ (B = true ↔ ps = qs) ∧ Adv Nul w Nul w'
def EqL (w : World) (N : Nat) (ps qs : List Pc) (t : Value) (wr : World) : Prop := ∃ k : Nat, k ≤ N ∧ t = .int .i64 (k : Int) ∧ (∀ i, i < k → ps[i]? = qs[i]?) ∧ Adv Nul w Nul wr
theorem eq_end {N : Nat} {ps qs : List Pc} (h1 : ps.length = N) (h2 : qs.length = N) (h : ∀ i, i < N → ps[i]? = qs[i]?) : ps = qs := by
  apply List.ext_getElem?
  intro i
  by_cases hi : i < N
  · exact h i hi
  · rw [List.getElem?_eq_none (by omega), List.getElem?_eq_none (by omega)]
theorem eq_one {p q : Pc} {B : Bool} (hB : B = decide (p.e = q.e ∧ p.c = q.c ∧ flg p.f p.g = flg q.f q.g ∧ p.d = q.d)) : B = true ↔ p = q := by
  subst hB
  rw [decide_eq_true_iff]
  constructor
  · rintro ⟨h1, h2, h3, h4⟩
    obtain ⟨h5, h6⟩ := flg_inj h3
    cases p; cases q
    simp only at h1 h2 h4 h5 h6
    subst h1 h2 h4 h5 h6
    rfl
  · rintro rfl
    exact ⟨rfl, rfl, rfl, rfl⟩
/-- pieces whose bytes are bytes -/
def B8 (ps : List Pc) : Prop := ∀ p ∈ ps, ∀ x ∈ p.d, x < 256

set_option maxRecDepth 3000 in
set_option maxHeartbeats 3200000 in
theorem equalfn_any (A1 A2 : Option Addr) (k1 k2 : Nat) (ps qs : List Pc) (w : World) (h1 : PRd w (.slice A1 ps.length k1) ps) (h2 : PRd w (.slice A2 qs.length k2) qs) (hb1 : B8 ps) (hb2 : B8 qs) :
    Calls Tryz.prog 98 #[.slice A1 ps.length k1, .slice A2 qs.length k2, .func (.func 99) #[] #[]] w (EqR w ps qs) := by
  obtain ⟨N, hN⟩ : ∃ N, N = ps.length := ⟨_, rfl⟩
  obtain ⟨M, hM⟩ : ∃ N, N = qs.length := ⟨_, rfl⟩
  rw [← hN] at h1 ⊢
  rw [← hM] at h2 ⊢
  have hmx : N ≤ maxLen := by
    obtain ⟨_, _, e, h3, h4, _⟩ := h1
    injection e with _ e2 e3
    omega
  have hNI : (N : Int) ≤ 9223372036854775807 := by unfold maxLen at hmx; omega
  clear hmx
  have HP := Lib.hid h1
  have HQ := Lib.hid h2
  have HN := Lib.hid hN
  have HM := Lib.hid hM
  have HB1 := Lib.hid hb1
  have HB2 := Lib.hid hb2
  clear h1 h2 hN hM hb1 hb2
  by_cases hne : N = M
  · subst hne
    go_enter Tryz.func98, Tryz.ntmps98
    go_wp2_with fail
    go_loopw [17] (EqL w N ps qs) (fun t _ => N - (intOf t).toNat)
    case atStart => exact ⟨0, Nat.zero_le _, rfl, fun i hi => absurd hi (Nat.not_lt_zero _), Adv.refl _ _⟩
    case round =>
      obtain ⟨k, hk, rfl, hpre, ha⟩ := hrel
      by_cases hlt : k < N
      · have hki : (k : Int) < (N : Int) := by omega
        have hkp : k < ps.length := by rw [← HN.out]; exact hlt
        have hkq : k < qs.length := by rw [← HM.out]; exact hlt
        obtain ⟨b1, o1, a1, q1, rfl, hlb1, hc1, hr1⟩ := (HP.out.step ha).row hkp
        obtain ⟨b2, o2, a2, q2, rfl, hlb2, hc2, hr2⟩ := (HQ.out.step ha).row hkq
        obtain ⟨p, hp⟩ : ∃ p, p = ps[k] := ⟨_, rfl⟩
        obtain ⟨q, hq⟩ : ∃ q, q = qs[k] := ⟨_, rfl⟩
        have hp8 : ∀ x ∈ p.d, x < 256 := by rw [hp]; exact HB1.out _ (List.getElem_mem _)
        have hq8 : ∀ x ∈ q.d, x < 256 := by rw [hq]; exact HB2.out _ (List.getElem_mem _)
        have HPQ := Lib.hid (show ps[k]? = some p ∧ qs[k]? = some q by rw [hp, hq]; exact ⟨List.getElem?_eq_getElem hkp, List.getElem?_eq_getElem hkq⟩)
        rw [← hp] at hc1 hr1
        rw [← hq] at hc2 hr2
        obtain ⟨pe, pn, pf, pg, D⟩ := p
        obtain ⟨qe, qn, qf, qg, D'⟩ := q
        obtain ⟨d, hd⟩ : ∃ d, d = D.length := ⟨_, rfl⟩
        obtain ⟨d', hd'⟩ : ∃ d, d = D'.length := ⟨_, rfl⟩
        simp only [← hd] at hc1 hr1
        simp only [← hd'] at hc2 hr2
        obtain ⟨B, hB⟩ : ∃ B, B = decide (pe = qe ∧ pn = qn ∧ flg pf pg = flg qf qg ∧ D = D') := ⟨_, rfl⟩
        have HE1 := Lib.hid (eq_one (p := ⟨pe, pn, pf, pg, D⟩) (q := ⟨qe, qn, qf, qg, D'⟩) hB)
        have hcall : ∀ v, Adv Nul wr Nul v → Calls Tryz.prog 99 #[.agg #[.int .u64 (pe : Int), .int .u64 (pn : Int), .bool pf, .bool pg, .slice a1 d q1], .agg #[.int .u64 (qe : Int), .int .u64 (qn : Int), .bool qf, .bool qg, .slice a2 d' q2]] v (SameR v B) := fun v hv => by
          rw [hB]
          exact psame_any pe pn qe qn pf pg qf qg a1 a2 d d' q1 q2 D D' v (hr1.far (fun _ _ _ h => hv.block _ h (fun h => h)) hv.size) (hr2.far (fun _ _ _ h => hv.block _ h (fun h => h)) hv.size) hp8 hq8
        have HCALL := Lib.hid hcall
        obtain ⟨z, hz⟩ : ∃ z, z = wr.heap.size := ⟨_, rfl⟩
        obtain ⟨V, hV⟩ : ∃ V, V = wr.alloc (.cells #[.int .u64 (pe : Int), .int .u64 (pn : Int), .bool pf, .bool pg, .slice a1 d q1] 96) := ⟨_, rfl⟩
        obtain ⟨U, hU⟩ : ∃ U, U = V.alloc (.cells #[.int .u64 (qe : Int), .int .u64 (qn : Int), .bool qf, .bool qg, .slice a2 d' q2] 96) := ⟨_, rfl⟩
        have hZ : Blk U z 96 #[.int .u64 (pe : Int), .int .u64 (pn : Int), .bool pf, .bool pg, .slice a1 d q1] := by rw [hU, hV, hz]; exact (Blk.new _ _ _).alloc _
        have hV1 : Adv Nul wr Nul V := by rw [hV]; exact (Adv.refl _ _).alloc _
        have hU1 : Adv Nul wr Nul U := by rw [hU]; exact hV1.alloc _
        obtain ⟨y, hy⟩ : ∃ y, y = V.heap.size := ⟨_, rfl⟩
        have hY : Blk U y 96 #[.int .u64 (qe : Int), .int .u64 (qn : Int), .bool qf, .bool qg, .slice a2 d' q2] := by rw [hU, hy]; exact Blk.new _ _ _
        have HC2 := Lib.hid (hc2.step hlb2 hV1)
        have HZY := Lib.hid (five2 hZ hY)
        have HV := Lib.hid hV
        have HU := Lib.hid hU
        have HZ := Lib.hid hz
        have HY := Lib.hid hy
        have HU1 := Lib.hid hU1
        have HA := Lib.hid ha
        have HPRE := Lib.hid hpre
        have HLT := Lib.hid hlt
        obtain ⟨c0, c1, c2, c3, c4⟩ := hc1
        clear hkp hkq hlb1 hr1 hlb2 hc2 hr2 hp hq hp8 hq8 hd hd' hcall hz hV hU hZ hV1 hU1 hY hy ha hpre hlt hk hB
        go_upto_region 6 with (fail)
        rw [← HV.out, ← HZ.out]
        obtain ⟨e0, e1, e2, e3, e4⟩ := HC2.out
        clear c0 c1 c2 c3 c4
        go_upto_region 7 with (fail)
        rw [← HU.out, ← HY.out]
        clear e0 e1 e2 e3 e4
        obtain ⟨s0, s1, s2, s3, s4, s5, s6, s7, s8, s9⟩ := HZY.out
        cases B with
        | true =>
          go_wp2_with fail
          refine (HCALL.out U HU1.out).mono ?_
          rintro x w8 ⟨rfl, t8⟩
          have HT8 := Lib.hid (HU1.out.trans t8)
          clear t8
          go_wp2_with fail
          have hlt := HLT.out
          refine ⟨⟨k + 1, by omega, by go_num, fun i hi => ?_, HA.out.trans HT8.out⟩, by simp [intOf]; omega⟩
          by_cases e : i = k
          · rw [e, HPQ.out.1, HPQ.out.2, HE1.out.mp (by trivial)]
          · exact HPRE.out i (by omega)
        | false =>
          go_wp2_with fail
          refine (HCALL.out U HU1.out).mono ?_
          rintro x w8 ⟨rfl, t8⟩
          have HT8 := Lib.hid (HU1.out.trans t8)
          clear t8
          go_wp2_with fail
          go_ret
          refine ⟨false, rfl, ⟨fun h => absurd h (by decide), fun h => ?_⟩, HA.out.trans HT8.out⟩
          have e := HPQ.out.1
          rw [h, HPQ.out.2] at e
          injection e with e
          exact HE1.out.mpr e.symm
      · obtain rfl : k = N := by omega
        have HA := Lib.hid ha
        have HPRE := Lib.hid hpre
        clear ha hpre hlt hk
        go_wp2_with fail
        go_ret
        exact ⟨true, rfl, ⟨fun _ => eq_end HN.out.symm HM.out.symm HPRE.out, fun _ => rfl⟩, HA.out⟩
  · have hni : ((N : Int) == (M : Int)) = false := by rw [beq_eq_false_iff_ne]; omega
    have HNE := Lib.hid hne
    clear hne
    go_enter Tryz.func98, Tryz.ntmps98
    go_wp2_with fail
    all_goals
      go_ret
      exact ⟨false, rfl, ⟨fun h => absurd h (by decide), fun h => absurd (by rw [HN.out, HM.out, h]) HNE.out⟩, Adv.refl _ _⟩
end Go.Proofs.YtbdjlmdbnoghnaaGreat
