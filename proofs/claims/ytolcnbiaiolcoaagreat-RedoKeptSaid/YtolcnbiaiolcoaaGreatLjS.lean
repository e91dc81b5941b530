/- Whether two pieces are the same. -/
import Derived.Test.YtolcnbiaiolcoaaGreatLpL
namespace Go.Proofs.YtolcnbiaiolcoaaGreat
open Go.RowKit

def SameR (w : World) (B : Bool) (x : Ending) (w' : World) : Prop := x = .returned (.bool B) ∧ Adv Nul w Nul w'
theorem flags_adv (e c : Int) (f g : Bool) (v : Value) (w : World) :
    Calls Tryz.prog 114 #[.agg #[.int .u64 e, .int .u64 c, .bool f, .bool g, v]] w fun x w' => x = .returned (.int .u8 ((flg f g : Nat) : Int)) ∧ Adv Nul w Nul w' :=
  (flags_any e c f g v w).mono (by rintro x w' ⟨rfl, rfl⟩; exact ⟨rfl, (Adv.refl _ _).alloc _⟩)
set_option maxRecDepth 3000 in
set_option maxHeartbeats 3200000 in
theorem psame_any (e1 c1 e2 c2 : Nat) (f1 g1 f2 g2 : Bool) (A1 A2 : Option Addr) (n1 n2 k1 k2 : Nat) (l1 l2 : List Nat) (w : World) (h1 : Rd w 1 (.slice A1 n1 k1) n1 (l1.map u8)) (h2 : Rd w 1 (.slice A2 n2 k2) n2 (l2.map u8)) (hl1 : ∀ x ∈ l1, x < 256) (hl2 : ∀ x ∈ l2, x < 256) :
    Calls Tryz.prog 104 #[.agg #[.int .u64 (e1 : Int), .int .u64 (c1 : Int), .bool f1, .bool g1, .slice A1 n1 k1], .agg #[.int .u64 (e2 : Int), .int .u64 (c2 : Int), .bool f2, .bool g2, .slice A2 n2 k2]] w
      (SameR w (decide (e1 = e2 ∧ c1 = c2 ∧ flg f1 g1 = flg f2 g2 ∧ l1 = l2))) := by
  obtain ⟨b, hb⟩ : ∃ b, b = w.heap.size := ⟨_, rfl⟩
  obtain ⟨q, hq⟩ : ∃ q, q = (w.alloc (.cells #[.int .u64 (e1 : Int), .int .u64 (c1 : Int), .bool f1, .bool g1, .slice A1 n1 k1] 100)).heap.size := ⟨_, rfl⟩
  obtain ⟨V, hV⟩ : ∃ V, V = (w.alloc (.cells #[.int .u64 (e1 : Int), .int .u64 (c1 : Int), .bool f1, .bool g1, .slice A1 n1 k1] 100)).alloc (.cells #[.int .u64 (e2 : Int), .int .u64 (c2 : Int), .bool f2, .bool g2, .slice A2 n2 k2] 100) := ⟨_, rfl⟩
  have hX1 : Blk V b 100 #[.int .u64 (e1 : Int), .int .u64 (c1 : Int), .bool f1, .bool g1, .slice A1 n1 k1] := by rw [hV, hb]; exact (Blk.new _ _ _).alloc _
  have hX2 : Blk V q 100 #[.int .u64 (e2 : Int), .int .u64 (c2 : Int), .bool f2, .bool g2, .slice A2 n2 k2] := by rw [hV, hq]; exact Blk.new _ _ _
  have hA : Adv Nul w Nul V := by rw [hV]; exact ((Adv.refl _ _).alloc _).alloc _
  have hR1 : Rd V 1 (.slice A1 n1 k1) n1 (l1.map u8) := by rw [hV]; exact (h1.up _).up _
  have hR2 : Rd V 1 (.slice A2 n2 k2) n2 (l2.map u8) := by rw [hV]; exact (h2.up _).up _
  have hq1 : q = b + 1 := by rw [hq, hb]; simp
  have HQ1 := Lib.hid hq1
  have HC0 := Lib.hid (five2 hX1 hX2)
  have HD0 := Lib.hid (five2 (w := V.drew) hX1 hX2)
  have HX1 := Lib.hid hX1
  have HX2 := Lib.hid hX2
  have HA := Lib.hid hA
  have HR1 := Lib.hid hR1
  have HR2 := Lib.hid hR2
  have HV := Lib.hid hV
  have HB := Lib.hid hb
  have HQ := Lib.hid hq
  have HL1 := Lib.hid hl1
  have HL2 := Lib.hid hl2
  obtain ⟨B, hB⟩ : ∃ B, B = decide (e1 = e2 ∧ c1 = c2 ∧ flg f1 g1 = flg f2 g2 ∧ l1 = l2) := ⟨_, rfl⟩
  rw [← hB]
  have HBB := Lib.hid hB
  clear hX1 hX2 hA hR1 hR2 hV hb hq h1 h2 hl1 hl2 hB hq1
  go_enter Tryz.func104, Tryz.ntmps104
  go_wp2_with fail
  rw [← HV.out, ← HB.out, ← HQ1.out]
  obtain ⟨s0, s1, s2, s3, s4, s5, s6, s7, s8, s9⟩ := HC0.out
  by_cases he : e1 = e2
  · have he' : ((e1 : Int) == (e2 : Int)) = true := by rw [beq_iff_eq]; omega
    by_cases hc : c1 = c2
    · have hc' : ((c1 : Int) == (c2 : Int)) = true := by rw [beq_iff_eq]; omega
      have HE := Lib.hid he
      have HCC := Lib.hid hc
      by_cases hx : flg f1 g1 = flg f2 g2
      · have hx' : (((flg f1 g1 : Nat) : Int) == ((flg f2 g2 : Nat) : Int)) = true := by rw [beq_iff_eq]; omega
        obtain rfl : B = decide (l1 = l2) := by rw [HBB.out]; by_cases hl : l1 = l2 <;> simp [hl, he, hc, hx]
        clear he hc hx
        refine wp_region_held_drew (S := (fun w' => w'.cell? ⟨b, 0, none⟩ = some (.int .u64 (e1 : Int)) ∧ w'.cell? ⟨b, 1, none⟩ = some (.int .u64 (c1 : Int)) ∧ w'.cell? ⟨b, 2, none⟩ = some (.bool f1) ∧ w'.cell? ⟨b, 3, none⟩ = some (.bool g1) ∧ w'.cell? ⟨b, 4, none⟩ = some (.slice A1 n1 k1) ∧ w'.cell? ⟨q, 0, none⟩ = some (.int .u64 (e2 : Int)) ∧ w'.cell? ⟨q, 1, none⟩ = some (.int .u64 (c2 : Int)) ∧ w'.cell? ⟨q, 2, none⟩ = some (.bool f2) ∧ w'.cell? ⟨q, 3, none⟩ = some (.bool g2) ∧ w'.cell? ⟨q, 4, none⟩ = some (.slice A2 n2 k2))) (by kernel_rfl) (by first | with_reducible exact HC2.out | with_reducible exact HC1.out | with_reducible exact HD0.out) (fun hHeld => ?_)
        clear hHeld
        refine wpAnyH_take (i := 0) (oi := ⟨some 5, .fieldAddr 100 (.tmp 2) 0, 0, "lap.go:159", #[], none⟩) (v := ?_) rfl (by kernel_rfl) (by kernel_rfl) (by kernel_rfl) (fun _ _ _ h => h) (Or.inl ⟨by rfl, ?_⟩) (by first | with_reducible exact HC2.out | with_reducible exact HC1.out | with_reducible exact HD0.out) ?_
        rotate_left
        · (intro w hSw; obtain ⟨s0, s1, s2, s3, s4, s5, s6, s7, s8, s9⟩ := hSw; go_simp <;> with_reducible rfl)
        simp only [Act.put, List.setIfInBounds_toArray, List.set_cons_zero, List.set_cons_succ]
        refine wpAnyH_take (i := 1) (oi := ⟨some 6, .load 49 (.tmp 5), 49, "lap.go:159", #[⟨0, .data⟩], none⟩) (v := ?_) rfl (by kernel_rfl) (by kernel_rfl) (by kernel_rfl) (fun _ _ _ h => h) (Or.inl ⟨by rfl, ?_⟩) (by first | with_reducible exact HC2.out | with_reducible exact HC1.out | with_reducible exact HD0.out) ?_
        rotate_left
        · (intro w hSw; obtain ⟨s0, s1, s2, s3, s4, s5, s6, s7, s8, s9⟩ := hSw; go_simp <;> with_reducible rfl)
        simp only [Act.put, List.setIfInBounds_toArray, List.set_cons_zero, List.set_cons_succ]
        refine wpAnyH_take (i := 2) (oi := ⟨some 7, .fieldAddr 100 (.tmp 3) 0, 0, "lap.go:159", #[], none⟩) (v := ?_) rfl (by kernel_rfl) (by kernel_rfl) (by kernel_rfl) (fun _ _ _ h => h) (Or.inl ⟨by rfl, ?_⟩) (by first | with_reducible exact HC2.out | with_reducible exact HC1.out | with_reducible exact HD0.out) ?_
        rotate_left
        · (intro w hSw; obtain ⟨s0, s1, s2, s3, s4, s5, s6, s7, s8, s9⟩ := hSw; go_simp <;> with_reducible rfl)
        simp only [Act.put, List.setIfInBounds_toArray, List.set_cons_zero, List.set_cons_succ]
        refine wpAnyH_take (i := 3) (oi := ⟨some 8, .load 49 (.tmp 7), 49, "lap.go:159", #[⟨2, .data⟩], none⟩) (v := ?_) rfl (by kernel_rfl) (by kernel_rfl) (by kernel_rfl) (fun _ _ _ h => h) (Or.inl ⟨by rfl, ?_⟩) (by first | with_reducible exact HC2.out | with_reducible exact HC1.out | with_reducible exact HD0.out) ?_
        rotate_left
        · (intro w hSw; obtain ⟨s0, s1, s2, s3, s4, s5, s6, s7, s8, s9⟩ := hSw; go_simp <;> with_reducible rfl)
        simp only [Act.put, List.setIfInBounds_toArray, List.set_cons_zero, List.set_cons_succ]
        refine wpAnyH_take (i := 4) (oi := ⟨some 9, .binOp Go.BinOp.eql 49 (.tmp 6) (.tmp 8) 49, 4, "lap.go:159", #[⟨1, .data⟩, ⟨3, .data⟩], none⟩) (v := ?_) rfl (by kernel_rfl) (by kernel_rfl) (by kernel_rfl) (fun _ _ _ h => h) (Or.inl ⟨by rfl, ?_⟩) (by first | with_reducible exact HC2.out | with_reducible exact HC1.out | with_reducible exact HD0.out) ?_
        rotate_left
        · (intro w hSw; obtain ⟨s0, s1, s2, s3, s4, s5, s6, s7, s8, s9⟩ := hSw; go_simp <;> with_reducible rfl)
        simp only [Act.put, List.setIfInBounds_toArray, List.set_cons_zero, List.set_cons_succ]
        refine wpAnyH_take (i := 5) (oi := ⟨some 10, .move (.tmp 9), 4, "lap.go:159", #[⟨4, .data⟩], none⟩) (v := ?_) rfl (by kernel_rfl) (by kernel_rfl) (by kernel_rfl) (fun _ _ _ h => h) (Or.inl ⟨by rfl, ?_⟩) (by first | with_reducible exact HC2.out | with_reducible exact HC1.out | with_reducible exact HD0.out) ?_
        rotate_left
        · (intro w hSw; obtain ⟨s0, s1, s2, s3, s4, s5, s6, s7, s8, s9⟩ := hSw; go_simp <;> with_reducible rfl)
        simp only [Act.put, List.setIfInBounds_toArray, List.set_cons_zero, List.set_cons_succ]
        refine wpAnyH_take (i := 6) (oi := { dst := some 11, op := .fieldAddr 100 (.tmp 2) 1, type := 0, pos := "lap.go:159", after := #[⟨5, .guard⟩], guard := some (5, true) }) (v := ?_) rfl (by kernel_rfl) (by kernel_rfl) (by kernel_rfl) (fun _ _ _ h => h) (Or.inl ⟨by rfl, ?_⟩) (by first | with_reducible exact HC2.out | with_reducible exact HC1.out | with_reducible exact HD0.out) ?_
        rotate_left
        · (intro w hSw; obtain ⟨s0, s1, s2, s3, s4, s5, s6, s7, s8, s9⟩ := hSw; go_simp <;> with_reducible rfl)
        simp only [Act.put, List.setIfInBounds_toArray, List.set_cons_zero, List.set_cons_succ]
        refine wpAnyH_take (i := 7) (oi := { dst := some 12, op := .load 49 (.tmp 11), type := 49, pos := "lap.go:159", after := #[⟨6, .data⟩, ⟨5, .guard⟩], guard := some (5, true) }) (v := ?_) rfl (by kernel_rfl) (by kernel_rfl) (by kernel_rfl) (fun _ _ _ h => h) (Or.inl ⟨by rfl, ?_⟩) (by first | with_reducible exact HC2.out | with_reducible exact HC1.out | with_reducible exact HD0.out) ?_
        rotate_left
        · (intro w hSw; obtain ⟨s0, s1, s2, s3, s4, s5, s6, s7, s8, s9⟩ := hSw; go_simp <;> with_reducible rfl)
        simp only [Act.put, List.setIfInBounds_toArray, List.set_cons_zero, List.set_cons_succ]
        refine wpAnyH_take (i := 8) (oi := { dst := some 13, op := .fieldAddr 100 (.tmp 3) 1, type := 0, pos := "lap.go:159", after := #[⟨5, .guard⟩], guard := some (5, true) }) (v := ?_) rfl (by kernel_rfl) (by kernel_rfl) (by kernel_rfl) (fun _ _ _ h => h) (Or.inl ⟨by rfl, ?_⟩) (by first | with_reducible exact HC2.out | with_reducible exact HC1.out | with_reducible exact HD0.out) ?_
        rotate_left
        · (intro w hSw; obtain ⟨s0, s1, s2, s3, s4, s5, s6, s7, s8, s9⟩ := hSw; go_simp <;> with_reducible rfl)
        simp only [Act.put, List.setIfInBounds_toArray, List.set_cons_zero, List.set_cons_succ]
        refine wpAnyH_take (i := 9) (oi := { dst := some 14, op := .load 49 (.tmp 13), type := 49, pos := "lap.go:159", after := #[⟨8, .data⟩, ⟨5, .guard⟩], guard := some (5, true) }) (v := ?_) rfl (by kernel_rfl) (by kernel_rfl) (by kernel_rfl) (fun _ _ _ h => h) (Or.inl ⟨by rfl, ?_⟩) (by first | with_reducible exact HC2.out | with_reducible exact HC1.out | with_reducible exact HD0.out) ?_
        rotate_left
        · (intro w hSw; obtain ⟨s0, s1, s2, s3, s4, s5, s6, s7, s8, s9⟩ := hSw; go_simp <;> with_reducible rfl)
        simp only [Act.put, List.setIfInBounds_toArray, List.set_cons_zero, List.set_cons_succ]
        refine wpAnyH_take (i := 10) (oi := { dst := some 15, op := .binOp Go.BinOp.eql 49 (.tmp 12) (.tmp 14) 49, type := 4, pos := "lap.go:159", after := #[⟨7, .data⟩, ⟨9, .data⟩, ⟨5, .guard⟩], guard := some (5, true) }) (v := ?_) rfl (by kernel_rfl) (by kernel_rfl) (by kernel_rfl) (fun _ _ _ h => h) (Or.inl ⟨by rfl, ?_⟩) (by first | with_reducible exact HC2.out | with_reducible exact HC1.out | with_reducible exact HD0.out) ?_
        rotate_left
        · (intro w hSw; obtain ⟨s0, s1, s2, s3, s4, s5, s6, s7, s8, s9⟩ := hSw; go_simp <;> with_reducible rfl)
        simp only [Act.put, List.setIfInBounds_toArray, List.set_cons_zero, List.set_cons_succ]
        refine wpAnyH_take (i := 11) (oi := ⟨some 16, .pick (.tmp 10) (.tmp 15) (.const (Go.Value.bool false)), 4, "lap.go:159", #[⟨5, .data⟩, ⟨10, .data⟩], none⟩) (v := ?_) rfl (by kernel_rfl) (by kernel_rfl) (by kernel_rfl) (fun _ _ _ h => h) (Or.inl ⟨by rfl, ?_⟩) (by first | with_reducible exact HC2.out | with_reducible exact HC1.out | with_reducible exact HD0.out) ?_
        rotate_left
        · (intro w hSw; obtain ⟨s0, s1, s2, s3, s4, s5, s6, s7, s8, s9⟩ := hSw; go_simp <;> with_reducible rfl)
        simp only [Act.put, List.setIfInBounds_toArray, List.set_cons_zero, List.set_cons_succ]
        refine wpAnyH_take (i := 12) (oi := ⟨some 17, .move (.tmp 16), 4, "lap.go:159", #[⟨11, .data⟩, ⟨5, .chain⟩], none⟩) (v := ?_) rfl (by kernel_rfl) (by kernel_rfl) (by kernel_rfl) (fun _ _ _ h => h) (Or.inl ⟨by rfl, ?_⟩) (by first | with_reducible exact HC2.out | with_reducible exact HC1.out | with_reducible exact HD0.out) ?_
        rotate_left
        · (intro w hSw; obtain ⟨s0, s1, s2, s3, s4, s5, s6, s7, s8, s9⟩ := hSw; go_simp <;> with_reducible rfl)
        simp only [Act.put, List.setIfInBounds_toArray, List.set_cons_zero, List.set_cons_succ]
        refine wpAnyH_take (i := 13) (oi := { dst := some 18, op := .load 100 (.tmp 2), type := 100, pos := "lap.go:159", after := #[⟨12, .guard⟩], guard := some (12, true) }) (v := ?_) rfl (by kernel_rfl) (by kernel_rfl) (by kernel_rfl) (fun _ _ _ h => h) (Or.inl ⟨by rfl, ?_⟩) (by first | with_reducible exact HC2.out | with_reducible exact HC1.out | with_reducible exact HD0.out) ?_
        rotate_left
        · (intro w hSw; obtain ⟨s0, s1, s2, s3, s4, s5, s6, s7, s8, s9⟩ := hSw; go_simp <;> with_reducible rfl)
        simp only [Act.put, List.setIfInBounds_toArray, List.set_cons_zero, List.set_cons_succ]
        refine wpAnyH_take (i := 15) (oi := { dst := some 20, op := .load 100 (.tmp 3), type := 100, pos := "lap.go:159", after := #[⟨12, .guard⟩], guard := some (12, true) }) (v := ?_) rfl (by kernel_rfl) (by kernel_rfl) (by kernel_rfl) (fun _ _ _ h => h) (Or.inl ⟨by rfl, ?_⟩) (by first | with_reducible exact HC2.out | with_reducible exact HC1.out | with_reducible exact HD0.out) ?_
        rotate_left
        · (intro w hSw; obtain ⟨s0, s1, s2, s3, s4, s5, s6, s7, s8, s9⟩ := hSw; go_simp <;> with_reducible rfl)
        simp only [Act.put, List.setIfInBounds_toArray, List.set_cons_zero, List.set_cons_succ]
        refine wpAnyH_ready (rs := [14]) (by kernel_rfl) (by simp) ?_
        refine AllReadyH.cons (o := { dst := some 19, op := .call { callee := Go.Callee.value (.func 114), args := #[Go.Operand.tmp 18], argTypes := #[100] }, type := 5, pos := "lap.go:159", after := #[⟨13, .data⟩, ⟨12, .chain⟩, ⟨12, .guard⟩], guard := some (12, true) }) rfl (fun K hK => ?_) AllReadyH.nil
        go_simp
        refine (flags_adv _ _ _ _ _ _).mono ?_
        rintro x w5 ⟨rfl, u1⟩
        have HU1 := Lib.hid ((Adv.refl Nul V).drew.trans u1)
        have HC1 := Lib.hid (five2 (HX1.out.keep (HU1.out.block b HX1.out.lt (fun h => h))) (HX2.out.keep (HU1.out.block q HX2.out.lt (fun h => h))))
        clear u1
        go_wp2_with fail
        refine hK.out _ _ (by first | with_reducible exact HC2.out | with_reducible exact HC1.out | with_reducible exact HD0.out) (fun hHeld => ?_)
        clear hK K hHeld
        try simp only [Act.put, List.setIfInBounds_toArray, List.set_cons_zero, List.set_cons_succ]
        refine wpAnyH_ready (rs := [16]) (by kernel_rfl) (by simp) ?_
        refine AllReadyH.cons (o := { dst := some 21, op := .call { callee := Go.Callee.value (.func 114), args := #[Go.Operand.tmp 20], argTypes := #[100] }, type := 5, pos := "lap.go:159", after := #[⟨15, .data⟩, ⟨14, .chain⟩, ⟨12, .guard⟩], guard := some (12, true) }) rfl (fun K hK => ?_) AllReadyH.nil
        go_simp
        refine (flags_adv _ _ _ _ _ _).mono ?_
        rintro x w6 ⟨rfl, u2⟩
        have HU2 := Lib.hid (HU1.out.trans u2)
        have HC2 := Lib.hid (five2 (HX1.out.keep (HU2.out.block b HX1.out.lt (fun h => h))) (HX2.out.keep (HU2.out.block q HX2.out.lt (fun h => h))))
        clear u2
        go_wp2_with fail
        refine hK.out _ _ (by first | with_reducible exact HC2.out | with_reducible exact HC1.out | with_reducible exact HD0.out) (fun hHeld => ?_)
        clear hK K hHeld
        try simp only [Act.put, List.setIfInBounds_toArray, List.set_cons_zero, List.set_cons_succ]
        refine wpAnyH_take (i := 17) (oi := { dst := some 22, op := .binOp Go.BinOp.eql 5 (.tmp 19) (.tmp 21) 5, type := 4, pos := "lap.go:159", after := #[⟨14, .data⟩, ⟨16, .data⟩, ⟨12, .guard⟩], guard := some (12, true) }) (v := ?_) rfl (by kernel_rfl) (by kernel_rfl) (by kernel_rfl) (fun _ _ _ h => h) (Or.inl ⟨by rfl, ?_⟩) (by first | with_reducible exact HC2.out | with_reducible exact HC1.out | with_reducible exact HD0.out) ?_
        rotate_left
        · (intro w hSw; obtain ⟨s0, s1, s2, s3, s4, s5, s6, s7, s8, s9⟩ := hSw; go_simp <;> with_reducible rfl)
        simp only [Act.put, List.setIfInBounds_toArray, List.set_cons_zero, List.set_cons_succ]
        refine wpAnyH_take (i := 18) (oi := ⟨some 23, .pick (.tmp 17) (.tmp 22) (.const (Go.Value.bool false)), 4, "lap.go:159", #[⟨12, .data⟩, ⟨17, .data⟩], none⟩) (v := ?_) rfl (by kernel_rfl) (by kernel_rfl) (by kernel_rfl) (fun _ _ _ h => h) (Or.inl ⟨by rfl, ?_⟩) (by first | with_reducible exact HC2.out | with_reducible exact HC1.out | with_reducible exact HD0.out) ?_
        rotate_left
        · (intro w hSw; obtain ⟨s0, s1, s2, s3, s4, s5, s6, s7, s8, s9⟩ := hSw; go_simp <;> with_reducible rfl)
        simp only [Act.put, List.setIfInBounds_toArray, List.set_cons_zero, List.set_cons_succ]
        refine wpAnyH_take (i := 19) (oi := ⟨some 24, .move (.tmp 23), 4, "lap.go:159", #[⟨18, .data⟩, ⟨16, .chain⟩], none⟩) (v := ?_) rfl (by kernel_rfl) (by kernel_rfl) (by kernel_rfl) (fun _ _ _ h => h) (Or.inl ⟨by rfl, ?_⟩) (by first | with_reducible exact HC2.out | with_reducible exact HC1.out | with_reducible exact HD0.out) ?_
        rotate_left
        · (intro w hSw; obtain ⟨s0, s1, s2, s3, s4, s5, s6, s7, s8, s9⟩ := hSw; go_simp <;> with_reducible rfl)
        simp only [Act.put, List.setIfInBounds_toArray, List.set_cons_zero, List.set_cons_succ]
        refine wpAnyH_take (i := 20) (oi := { dst := some 25, op := .fieldAddr 100 (.tmp 2) 4, type := 0, pos := "lap.go:159", after := #[⟨19, .guard⟩], guard := some (19, true) }) (v := ?_) rfl (by kernel_rfl) (by kernel_rfl) (by kernel_rfl) (fun _ _ _ h => h) (Or.inl ⟨by rfl, ?_⟩) (by first | with_reducible exact HC2.out | with_reducible exact HC1.out | with_reducible exact HD0.out) ?_
        rotate_left
        · (intro w hSw; obtain ⟨s0, s1, s2, s3, s4, s5, s6, s7, s8, s9⟩ := hSw; go_simp <;> with_reducible rfl)
        simp only [Act.put, List.setIfInBounds_toArray, List.set_cons_zero, List.set_cons_succ]
        refine wpAnyH_take (i := 21) (oi := { dst := some 26, op := .load 53 (.tmp 25), type := 53, pos := "lap.go:159", after := #[⟨20, .data⟩, ⟨19, .guard⟩], guard := some (19, true) }) (v := ?_) rfl (by kernel_rfl) (by kernel_rfl) (by kernel_rfl) (fun _ _ _ h => h) (Or.inl ⟨by rfl, ?_⟩) (by first | with_reducible exact HC2.out | with_reducible exact HC1.out | with_reducible exact HD0.out) ?_
        rotate_left
        · (intro w hSw; obtain ⟨s0, s1, s2, s3, s4, s5, s6, s7, s8, s9⟩ := hSw; go_simp <;> with_reducible rfl)
        simp only [Act.put, List.setIfInBounds_toArray, List.set_cons_zero, List.set_cons_succ]
        refine wpAnyH_take (i := 22) (oi := { dst := some 27, op := .fieldAddr 100 (.tmp 3) 4, type := 0, pos := "lap.go:159", after := #[⟨19, .guard⟩], guard := some (19, true) }) (v := ?_) rfl (by kernel_rfl) (by kernel_rfl) (by kernel_rfl) (fun _ _ _ h => h) (Or.inl ⟨by rfl, ?_⟩) (by first | with_reducible exact HC2.out | with_reducible exact HC1.out | with_reducible exact HD0.out) ?_
        rotate_left
        · (intro w hSw; obtain ⟨s0, s1, s2, s3, s4, s5, s6, s7, s8, s9⟩ := hSw; go_simp <;> with_reducible rfl)
        simp only [Act.put, List.setIfInBounds_toArray, List.set_cons_zero, List.set_cons_succ]
        refine wpAnyH_take (i := 23) (oi := { dst := some 28, op := .load 53 (.tmp 27), type := 53, pos := "lap.go:159", after := #[⟨22, .data⟩, ⟨19, .guard⟩], guard := some (19, true) }) (v := ?_) rfl (by kernel_rfl) (by kernel_rfl) (by kernel_rfl) (fun _ _ _ h => h) (Or.inl ⟨by rfl, ?_⟩) (by first | with_reducible exact HC2.out | with_reducible exact HC1.out | with_reducible exact HD0.out) ?_
        rotate_left
        · (intro w hSw; obtain ⟨s0, s1, s2, s3, s4, s5, s6, s7, s8, s9⟩ := hSw; go_simp <;> with_reducible rfl)
        simp only [Act.put, List.setIfInBounds_toArray, List.set_cons_zero, List.set_cons_succ]
        refine wpAnyH_ready (rs := [24]) (by kernel_rfl) (by simp) ?_
        refine AllReadyH.cons (o := { dst := some 29, op := .call { callee := Go.Callee.value (.func 122), args := #[Go.Operand.tmp 26, Go.Operand.tmp 28], argTypes := #[53, 53] }, type := 4, pos := "lap.go:159", after := #[⟨21, .data⟩, ⟨23, .data⟩, ⟨19, .chain⟩, ⟨19, .guard⟩], guard := some (19, true) }) rfl (fun K hK => ?_) AllReadyH.nil
        go_simp
        refine (equal_any _ _ n1 n2 l1 l2 _ (HR1.out.far (fun _ _ _ h => HU2.out.block _ h (fun h => h)) HU2.out.size) (HR2.out.far (fun _ _ _ h => HU2.out.block _ h (fun h => h)) HU2.out.size) HL1.out HL2.out).mono ?_
        rintro x w7 ⟨rfl, rfl⟩
        go_wp2_with fail
        refine hK.out _ _ (by first | with_reducible exact HC2.out | with_reducible exact HC1.out | with_reducible exact HD0.out) (fun hHeld => ?_)
        clear hK K hHeld
        try simp only [Act.put, List.setIfInBounds_toArray, List.set_cons_zero, List.set_cons_succ]
        refine wpAnyH_take (i := 25) (oi := ⟨some 30, .pick (.tmp 24) (.tmp 29) (.const (Go.Value.bool false)), 4, "lap.go:159", #[⟨19, .data⟩, ⟨24, .data⟩], none⟩) (v := ?_) rfl (by kernel_rfl) (by kernel_rfl) (by kernel_rfl) (fun _ _ _ h => h) (Or.inl ⟨by rfl, ?_⟩) (by first | with_reducible exact HC2.out | with_reducible exact HC1.out | with_reducible exact HD0.out) ?_
        rotate_left
        · (intro w hSw; obtain ⟨s0, s1, s2, s3, s4, s5, s6, s7, s8, s9⟩ := hSw; go_simp <;> with_reducible rfl)
        simp only [Act.put, List.setIfInBounds_toArray, List.set_cons_zero, List.set_cons_succ]
        refine wpAnyH_take (i := 26) (oi := ⟨some 4, .assign (.tmp 30), 4, "lap.go:159", #[⟨25, .data⟩, ⟨24, .chain⟩, ⟨0, .phase⟩, ⟨1, .phase⟩, ⟨2, .phase⟩, ⟨3, .phase⟩, ⟨4, .phase⟩, ⟨5, .phase⟩, ⟨6, .phase⟩, ⟨7, .phase⟩, ⟨8, .phase⟩, ⟨9, .phase⟩, ⟨10, .phase⟩, ⟨11, .phase⟩, ⟨12, .phase⟩, ⟨13, .phase⟩, ⟨14, .phase⟩, ⟨15, .phase⟩, ⟨16, .phase⟩, ⟨17, .phase⟩, ⟨18, .phase⟩, ⟨19, .phase⟩, ⟨20, .phase⟩, ⟨21, .phase⟩, ⟨22, .phase⟩, ⟨23, .phase⟩, ⟨24, .phase⟩, ⟨25, .phase⟩], none⟩) (v := ?_) rfl (by kernel_rfl) (by kernel_rfl) (by kernel_rfl) (fun _ _ _ h => h) (Or.inl ⟨by rfl, ?_⟩) (by first | with_reducible exact HC2.out | with_reducible exact HC1.out | with_reducible exact HD0.out) ?_
        rotate_left
        · (intro w hSw; obtain ⟨s0, s1, s2, s3, s4, s5, s6, s7, s8, s9⟩ := hSw; go_simp <;> with_reducible rfl)
        simp only [Act.put, List.setIfInBounds_toArray, List.set_cons_zero, List.set_cons_succ]
        refine wpAnyH_done (by kernel_rfl) ?_ _
        go_wp2_with fail
        go_ret
        exact ⟨rfl, HA.out.trans HU2.out⟩
      · have hx' : (((flg f1 g1 : Nat) : Int) == ((flg f2 g2 : Nat) : Int)) = false := by rw [beq_eq_false_iff_ne]; omega
        obtain rfl : B = false := by rw [HBB.out]; exact decide_eq_false (fun h => hx h.2.2.1)
        clear he hc hx
        refine wp_region_held_drew (S := (fun w' => w'.cell? ⟨b, 0, none⟩ = some (.int .u64 (e1 : Int)) ∧ w'.cell? ⟨b, 1, none⟩ = some (.int .u64 (c1 : Int)) ∧ w'.cell? ⟨b, 2, none⟩ = some (.bool f1) ∧ w'.cell? ⟨b, 3, none⟩ = some (.bool g1) ∧ w'.cell? ⟨b, 4, none⟩ = some (.slice A1 n1 k1) ∧ w'.cell? ⟨q, 0, none⟩ = some (.int .u64 (e2 : Int)) ∧ w'.cell? ⟨q, 1, none⟩ = some (.int .u64 (c2 : Int)) ∧ w'.cell? ⟨q, 2, none⟩ = some (.bool f2) ∧ w'.cell? ⟨q, 3, none⟩ = some (.bool g2) ∧ w'.cell? ⟨q, 4, none⟩ = some (.slice A2 n2 k2))) (by kernel_rfl) (by first | with_reducible exact HC2.out | with_reducible exact HC1.out | with_reducible exact HD0.out) (fun hHeld => ?_)
        clear hHeld
        refine wpAnyH_take (i := 0) (oi := ⟨some 5, .fieldAddr 100 (.tmp 2) 0, 0, "lap.go:159", #[], none⟩) (v := ?_) rfl (by kernel_rfl) (by kernel_rfl) (by kernel_rfl) (fun _ _ _ h => h) (Or.inl ⟨by rfl, ?_⟩) (by first | with_reducible exact HC2.out | with_reducible exact HC1.out | with_reducible exact HD0.out) ?_
        rotate_left
        · (intro w hSw; obtain ⟨s0, s1, s2, s3, s4, s5, s6, s7, s8, s9⟩ := hSw; go_simp <;> with_reducible rfl)
        simp only [Act.put, List.setIfInBounds_toArray, List.set_cons_zero, List.set_cons_succ]
        refine wpAnyH_take (i := 1) (oi := ⟨some 6, .load 49 (.tmp 5), 49, "lap.go:159", #[⟨0, .data⟩], none⟩) (v := ?_) rfl (by kernel_rfl) (by kernel_rfl) (by kernel_rfl) (fun _ _ _ h => h) (Or.inl ⟨by rfl, ?_⟩) (by first | with_reducible exact HC2.out | with_reducible exact HC1.out | with_reducible exact HD0.out) ?_
        rotate_left
        · (intro w hSw; obtain ⟨s0, s1, s2, s3, s4, s5, s6, s7, s8, s9⟩ := hSw; go_simp <;> with_reducible rfl)
        simp only [Act.put, List.setIfInBounds_toArray, List.set_cons_zero, List.set_cons_succ]
        refine wpAnyH_take (i := 2) (oi := ⟨some 7, .fieldAddr 100 (.tmp 3) 0, 0, "lap.go:159", #[], none⟩) (v := ?_) rfl (by kernel_rfl) (by kernel_rfl) (by kernel_rfl) (fun _ _ _ h => h) (Or.inl ⟨by rfl, ?_⟩) (by first | with_reducible exact HC2.out | with_reducible exact HC1.out | with_reducible exact HD0.out) ?_
        rotate_left
        · (intro w hSw; obtain ⟨s0, s1, s2, s3, s4, s5, s6, s7, s8, s9⟩ := hSw; go_simp <;> with_reducible rfl)
        simp only [Act.put, List.setIfInBounds_toArray, List.set_cons_zero, List.set_cons_succ]
        refine wpAnyH_take (i := 3) (oi := ⟨some 8, .load 49 (.tmp 7), 49, "lap.go:159", #[⟨2, .data⟩], none⟩) (v := ?_) rfl (by kernel_rfl) (by kernel_rfl) (by kernel_rfl) (fun _ _ _ h => h) (Or.inl ⟨by rfl, ?_⟩) (by first | with_reducible exact HC2.out | with_reducible exact HC1.out | with_reducible exact HD0.out) ?_
        rotate_left
        · (intro w hSw; obtain ⟨s0, s1, s2, s3, s4, s5, s6, s7, s8, s9⟩ := hSw; go_simp <;> with_reducible rfl)
        simp only [Act.put, List.setIfInBounds_toArray, List.set_cons_zero, List.set_cons_succ]
        refine wpAnyH_take (i := 4) (oi := ⟨some 9, .binOp Go.BinOp.eql 49 (.tmp 6) (.tmp 8) 49, 4, "lap.go:159", #[⟨1, .data⟩, ⟨3, .data⟩], none⟩) (v := ?_) rfl (by kernel_rfl) (by kernel_rfl) (by kernel_rfl) (fun _ _ _ h => h) (Or.inl ⟨by rfl, ?_⟩) (by first | with_reducible exact HC2.out | with_reducible exact HC1.out | with_reducible exact HD0.out) ?_
        rotate_left
        · (intro w hSw; obtain ⟨s0, s1, s2, s3, s4, s5, s6, s7, s8, s9⟩ := hSw; go_simp <;> with_reducible rfl)
        simp only [Act.put, List.setIfInBounds_toArray, List.set_cons_zero, List.set_cons_succ]
        refine wpAnyH_take (i := 5) (oi := ⟨some 10, .move (.tmp 9), 4, "lap.go:159", #[⟨4, .data⟩], none⟩) (v := ?_) rfl (by kernel_rfl) (by kernel_rfl) (by kernel_rfl) (fun _ _ _ h => h) (Or.inl ⟨by rfl, ?_⟩) (by first | with_reducible exact HC2.out | with_reducible exact HC1.out | with_reducible exact HD0.out) ?_
        rotate_left
        · (intro w hSw; obtain ⟨s0, s1, s2, s3, s4, s5, s6, s7, s8, s9⟩ := hSw; go_simp <;> with_reducible rfl)
        simp only [Act.put, List.setIfInBounds_toArray, List.set_cons_zero, List.set_cons_succ]
        refine wpAnyH_take (i := 6) (oi := { dst := some 11, op := .fieldAddr 100 (.tmp 2) 1, type := 0, pos := "lap.go:159", after := #[⟨5, .guard⟩], guard := some (5, true) }) (v := ?_) rfl (by kernel_rfl) (by kernel_rfl) (by kernel_rfl) (fun _ _ _ h => h) (Or.inl ⟨by rfl, ?_⟩) (by first | with_reducible exact HC2.out | with_reducible exact HC1.out | with_reducible exact HD0.out) ?_
        rotate_left
        · (intro w hSw; obtain ⟨s0, s1, s2, s3, s4, s5, s6, s7, s8, s9⟩ := hSw; go_simp <;> with_reducible rfl)
        simp only [Act.put, List.setIfInBounds_toArray, List.set_cons_zero, List.set_cons_succ]
        refine wpAnyH_take (i := 7) (oi := { dst := some 12, op := .load 49 (.tmp 11), type := 49, pos := "lap.go:159", after := #[⟨6, .data⟩, ⟨5, .guard⟩], guard := some (5, true) }) (v := ?_) rfl (by kernel_rfl) (by kernel_rfl) (by kernel_rfl) (fun _ _ _ h => h) (Or.inl ⟨by rfl, ?_⟩) (by first | with_reducible exact HC2.out | with_reducible exact HC1.out | with_reducible exact HD0.out) ?_
        rotate_left
        · (intro w hSw; obtain ⟨s0, s1, s2, s3, s4, s5, s6, s7, s8, s9⟩ := hSw; go_simp <;> with_reducible rfl)
        simp only [Act.put, List.setIfInBounds_toArray, List.set_cons_zero, List.set_cons_succ]
        refine wpAnyH_take (i := 8) (oi := { dst := some 13, op := .fieldAddr 100 (.tmp 3) 1, type := 0, pos := "lap.go:159", after := #[⟨5, .guard⟩], guard := some (5, true) }) (v := ?_) rfl (by kernel_rfl) (by kernel_rfl) (by kernel_rfl) (fun _ _ _ h => h) (Or.inl ⟨by rfl, ?_⟩) (by first | with_reducible exact HC2.out | with_reducible exact HC1.out | with_reducible exact HD0.out) ?_
        rotate_left
        · (intro w hSw; obtain ⟨s0, s1, s2, s3, s4, s5, s6, s7, s8, s9⟩ := hSw; go_simp <;> with_reducible rfl)
        simp only [Act.put, List.setIfInBounds_toArray, List.set_cons_zero, List.set_cons_succ]
        refine wpAnyH_take (i := 9) (oi := { dst := some 14, op := .load 49 (.tmp 13), type := 49, pos := "lap.go:159", after := #[⟨8, .data⟩, ⟨5, .guard⟩], guard := some (5, true) }) (v := ?_) rfl (by kernel_rfl) (by kernel_rfl) (by kernel_rfl) (fun _ _ _ h => h) (Or.inl ⟨by rfl, ?_⟩) (by first | with_reducible exact HC2.out | with_reducible exact HC1.out | with_reducible exact HD0.out) ?_
        rotate_left
        · (intro w hSw; obtain ⟨s0, s1, s2, s3, s4, s5, s6, s7, s8, s9⟩ := hSw; go_simp <;> with_reducible rfl)
        simp only [Act.put, List.setIfInBounds_toArray, List.set_cons_zero, List.set_cons_succ]
        refine wpAnyH_take (i := 10) (oi := { dst := some 15, op := .binOp Go.BinOp.eql 49 (.tmp 12) (.tmp 14) 49, type := 4, pos := "lap.go:159", after := #[⟨7, .data⟩, ⟨9, .data⟩, ⟨5, .guard⟩], guard := some (5, true) }) (v := ?_) rfl (by kernel_rfl) (by kernel_rfl) (by kernel_rfl) (fun _ _ _ h => h) (Or.inl ⟨by rfl, ?_⟩) (by first | with_reducible exact HC2.out | with_reducible exact HC1.out | with_reducible exact HD0.out) ?_
        rotate_left
        · (intro w hSw; obtain ⟨s0, s1, s2, s3, s4, s5, s6, s7, s8, s9⟩ := hSw; go_simp <;> with_reducible rfl)
        simp only [Act.put, List.setIfInBounds_toArray, List.set_cons_zero, List.set_cons_succ]
        refine wpAnyH_take (i := 11) (oi := ⟨some 16, .pick (.tmp 10) (.tmp 15) (.const (Go.Value.bool false)), 4, "lap.go:159", #[⟨5, .data⟩, ⟨10, .data⟩], none⟩) (v := ?_) rfl (by kernel_rfl) (by kernel_rfl) (by kernel_rfl) (fun _ _ _ h => h) (Or.inl ⟨by rfl, ?_⟩) (by first | with_reducible exact HC2.out | with_reducible exact HC1.out | with_reducible exact HD0.out) ?_
        rotate_left
        · (intro w hSw; obtain ⟨s0, s1, s2, s3, s4, s5, s6, s7, s8, s9⟩ := hSw; go_simp <;> with_reducible rfl)
        simp only [Act.put, List.setIfInBounds_toArray, List.set_cons_zero, List.set_cons_succ]
        refine wpAnyH_take (i := 12) (oi := ⟨some 17, .move (.tmp 16), 4, "lap.go:159", #[⟨11, .data⟩, ⟨5, .chain⟩], none⟩) (v := ?_) rfl (by kernel_rfl) (by kernel_rfl) (by kernel_rfl) (fun _ _ _ h => h) (Or.inl ⟨by rfl, ?_⟩) (by first | with_reducible exact HC2.out | with_reducible exact HC1.out | with_reducible exact HD0.out) ?_
        rotate_left
        · (intro w hSw; obtain ⟨s0, s1, s2, s3, s4, s5, s6, s7, s8, s9⟩ := hSw; go_simp <;> with_reducible rfl)
        simp only [Act.put, List.setIfInBounds_toArray, List.set_cons_zero, List.set_cons_succ]
        refine wpAnyH_take (i := 13) (oi := { dst := some 18, op := .load 100 (.tmp 2), type := 100, pos := "lap.go:159", after := #[⟨12, .guard⟩], guard := some (12, true) }) (v := ?_) rfl (by kernel_rfl) (by kernel_rfl) (by kernel_rfl) (fun _ _ _ h => h) (Or.inl ⟨by rfl, ?_⟩) (by first | with_reducible exact HC2.out | with_reducible exact HC1.out | with_reducible exact HD0.out) ?_
        rotate_left
        · (intro w hSw; obtain ⟨s0, s1, s2, s3, s4, s5, s6, s7, s8, s9⟩ := hSw; go_simp <;> with_reducible rfl)
        simp only [Act.put, List.setIfInBounds_toArray, List.set_cons_zero, List.set_cons_succ]
        refine wpAnyH_take (i := 15) (oi := { dst := some 20, op := .load 100 (.tmp 3), type := 100, pos := "lap.go:159", after := #[⟨12, .guard⟩], guard := some (12, true) }) (v := ?_) rfl (by kernel_rfl) (by kernel_rfl) (by kernel_rfl) (fun _ _ _ h => h) (Or.inl ⟨by rfl, ?_⟩) (by first | with_reducible exact HC2.out | with_reducible exact HC1.out | with_reducible exact HD0.out) ?_
        rotate_left
        · (intro w hSw; obtain ⟨s0, s1, s2, s3, s4, s5, s6, s7, s8, s9⟩ := hSw; go_simp <;> with_reducible rfl)
        simp only [Act.put, List.setIfInBounds_toArray, List.set_cons_zero, List.set_cons_succ]
        refine wpAnyH_ready (rs := [14]) (by kernel_rfl) (by simp) ?_
        refine AllReadyH.cons (o := { dst := some 19, op := .call { callee := Go.Callee.value (.func 114), args := #[Go.Operand.tmp 18], argTypes := #[100] }, type := 5, pos := "lap.go:159", after := #[⟨13, .data⟩, ⟨12, .chain⟩, ⟨12, .guard⟩], guard := some (12, true) }) rfl (fun K hK => ?_) AllReadyH.nil
        go_simp
        refine (flags_adv _ _ _ _ _ _).mono ?_
        rintro x w5 ⟨rfl, u1⟩
        have HU1 := Lib.hid ((Adv.refl Nul V).drew.trans u1)
        have HC1 := Lib.hid (five2 (HX1.out.keep (HU1.out.block b HX1.out.lt (fun h => h))) (HX2.out.keep (HU1.out.block q HX2.out.lt (fun h => h))))
        clear u1
        go_wp2_with fail
        refine hK.out _ _ (by first | with_reducible exact HC2.out | with_reducible exact HC1.out | with_reducible exact HD0.out) (fun hHeld => ?_)
        clear hK K hHeld
        try simp only [Act.put, List.setIfInBounds_toArray, List.set_cons_zero, List.set_cons_succ]
        refine wpAnyH_ready (rs := [16]) (by kernel_rfl) (by simp) ?_
        refine AllReadyH.cons (o := { dst := some 21, op := .call { callee := Go.Callee.value (.func 114), args := #[Go.Operand.tmp 20], argTypes := #[100] }, type := 5, pos := "lap.go:159", after := #[⟨15, .data⟩, ⟨14, .chain⟩, ⟨12, .guard⟩], guard := some (12, true) }) rfl (fun K hK => ?_) AllReadyH.nil
        go_simp
        refine (flags_adv _ _ _ _ _ _).mono ?_
        rintro x w6 ⟨rfl, u2⟩
        have HU2 := Lib.hid (HU1.out.trans u2)
        have HC2 := Lib.hid (five2 (HX1.out.keep (HU2.out.block b HX1.out.lt (fun h => h))) (HX2.out.keep (HU2.out.block q HX2.out.lt (fun h => h))))
        clear u2
        go_wp2_with fail
        refine hK.out _ _ (by first | with_reducible exact HC2.out | with_reducible exact HC1.out | with_reducible exact HD0.out) (fun hHeld => ?_)
        clear hK K hHeld
        try simp only [Act.put, List.setIfInBounds_toArray, List.set_cons_zero, List.set_cons_succ]
        refine wpAnyH_take (i := 17) (oi := { dst := some 22, op := .binOp Go.BinOp.eql 5 (.tmp 19) (.tmp 21) 5, type := 4, pos := "lap.go:159", after := #[⟨14, .data⟩, ⟨16, .data⟩, ⟨12, .guard⟩], guard := some (12, true) }) (v := ?_) rfl (by kernel_rfl) (by kernel_rfl) (by kernel_rfl) (fun _ _ _ h => h) (Or.inl ⟨by rfl, ?_⟩) (by first | with_reducible exact HC2.out | with_reducible exact HC1.out | with_reducible exact HD0.out) ?_
        rotate_left
        · (intro w hSw; obtain ⟨s0, s1, s2, s3, s4, s5, s6, s7, s8, s9⟩ := hSw; go_simp <;> with_reducible rfl)
        simp only [Act.put, List.setIfInBounds_toArray, List.set_cons_zero, List.set_cons_succ]
        refine wpAnyH_take (i := 18) (oi := ⟨some 23, .pick (.tmp 17) (.tmp 22) (.const (Go.Value.bool false)), 4, "lap.go:159", #[⟨12, .data⟩, ⟨17, .data⟩], none⟩) (v := ?_) rfl (by kernel_rfl) (by kernel_rfl) (by kernel_rfl) (fun _ _ _ h => h) (Or.inl ⟨by rfl, ?_⟩) (by first | with_reducible exact HC2.out | with_reducible exact HC1.out | with_reducible exact HD0.out) ?_
        rotate_left
        · (intro w hSw; obtain ⟨s0, s1, s2, s3, s4, s5, s6, s7, s8, s9⟩ := hSw; go_simp <;> with_reducible rfl)
        simp only [Act.put, List.setIfInBounds_toArray, List.set_cons_zero, List.set_cons_succ]
        refine wpAnyH_take (i := 19) (oi := ⟨some 24, .move (.tmp 23), 4, "lap.go:159", #[⟨18, .data⟩, ⟨16, .chain⟩], none⟩) (v := ?_) rfl (by kernel_rfl) (by kernel_rfl) (by kernel_rfl) (fun _ _ _ h => h) (Or.inl ⟨by rfl, ?_⟩) (by first | with_reducible exact HC2.out | with_reducible exact HC1.out | with_reducible exact HD0.out) ?_
        rotate_left
        · (intro w hSw; obtain ⟨s0, s1, s2, s3, s4, s5, s6, s7, s8, s9⟩ := hSw; go_simp <;> with_reducible rfl)
        simp only [Act.put, List.setIfInBounds_toArray, List.set_cons_zero, List.set_cons_succ]
        refine wpAnyH_take (i := 20) (oi := { dst := some 25, op := .fieldAddr 100 (.tmp 2) 4, type := 0, pos := "lap.go:159", after := #[⟨19, .guard⟩], guard := some (19, true) }) (v := undef) rfl (by kernel_rfl) (by kernel_rfl) (by kernel_rfl) (fun _ _ _ h => h) (Or.inr ⟨by rfl, rfl⟩) (by first | with_reducible exact HC2.out | with_reducible exact HC1.out | with_reducible exact HD0.out) ?_
        try simp only [Act.put, List.setIfInBounds_toArray, List.set_cons_zero, List.set_cons_succ]
        refine wpAnyH_take (i := 21) (oi := { dst := some 26, op := .load 53 (.tmp 25), type := 53, pos := "lap.go:159", after := #[⟨20, .data⟩, ⟨19, .guard⟩], guard := some (19, true) }) (v := undef) rfl (by kernel_rfl) (by kernel_rfl) (by kernel_rfl) (fun _ _ _ h => h) (Or.inr ⟨by rfl, rfl⟩) (by first | with_reducible exact HC2.out | with_reducible exact HC1.out | with_reducible exact HD0.out) ?_
        try simp only [Act.put, List.setIfInBounds_toArray, List.set_cons_zero, List.set_cons_succ]
        refine wpAnyH_take (i := 22) (oi := { dst := some 27, op := .fieldAddr 100 (.tmp 3) 4, type := 0, pos := "lap.go:159", after := #[⟨19, .guard⟩], guard := some (19, true) }) (v := undef) rfl (by kernel_rfl) (by kernel_rfl) (by kernel_rfl) (fun _ _ _ h => h) (Or.inr ⟨by rfl, rfl⟩) (by first | with_reducible exact HC2.out | with_reducible exact HC1.out | with_reducible exact HD0.out) ?_
        try simp only [Act.put, List.setIfInBounds_toArray, List.set_cons_zero, List.set_cons_succ]
        refine wpAnyH_take (i := 23) (oi := { dst := some 28, op := .load 53 (.tmp 27), type := 53, pos := "lap.go:159", after := #[⟨22, .data⟩, ⟨19, .guard⟩], guard := some (19, true) }) (v := undef) rfl (by kernel_rfl) (by kernel_rfl) (by kernel_rfl) (fun _ _ _ h => h) (Or.inr ⟨by rfl, rfl⟩) (by first | with_reducible exact HC2.out | with_reducible exact HC1.out | with_reducible exact HD0.out) ?_
        try simp only [Act.put, List.setIfInBounds_toArray, List.set_cons_zero, List.set_cons_succ]
        refine wpAnyH_take (i := 24) (oi := { dst := some 29, op := .call { callee := Go.Callee.value (.func 122), args := #[Go.Operand.tmp 26, Go.Operand.tmp 28], argTypes := #[53, 53] }, type := 4, pos := "lap.go:159", after := #[⟨21, .data⟩, ⟨23, .data⟩, ⟨19, .chain⟩, ⟨19, .guard⟩], guard := some (19, true) }) (v := undef) rfl (by kernel_rfl) (by kernel_rfl) (by kernel_rfl) (fun _ _ _ h => h) (Or.inr ⟨by rfl, rfl⟩) (by first | with_reducible exact HC2.out | with_reducible exact HC1.out | with_reducible exact HD0.out) ?_
        try simp only [Act.put, List.setIfInBounds_toArray, List.set_cons_zero, List.set_cons_succ]
        refine wpAnyH_take (i := 25) (oi := ⟨some 30, .pick (.tmp 24) (.tmp 29) (.const (Go.Value.bool false)), 4, "lap.go:159", #[⟨19, .data⟩, ⟨24, .data⟩], none⟩) (v := ?_) rfl (by kernel_rfl) (by kernel_rfl) (by kernel_rfl) (fun _ _ _ h => h) (Or.inl ⟨by rfl, ?_⟩) (by first | with_reducible exact HC2.out | with_reducible exact HC1.out | with_reducible exact HD0.out) ?_
        rotate_left
        · (intro w hSw; obtain ⟨s0, s1, s2, s3, s4, s5, s6, s7, s8, s9⟩ := hSw; go_simp <;> with_reducible rfl)
        simp only [Act.put, List.setIfInBounds_toArray, List.set_cons_zero, List.set_cons_succ]
        refine wpAnyH_take (i := 26) (oi := ⟨some 4, .assign (.tmp 30), 4, "lap.go:159", #[⟨25, .data⟩, ⟨24, .chain⟩, ⟨0, .phase⟩, ⟨1, .phase⟩, ⟨2, .phase⟩, ⟨3, .phase⟩, ⟨4, .phase⟩, ⟨5, .phase⟩, ⟨6, .phase⟩, ⟨7, .phase⟩, ⟨8, .phase⟩, ⟨9, .phase⟩, ⟨10, .phase⟩, ⟨11, .phase⟩, ⟨12, .phase⟩, ⟨13, .phase⟩, ⟨14, .phase⟩, ⟨15, .phase⟩, ⟨16, .phase⟩, ⟨17, .phase⟩, ⟨18, .phase⟩, ⟨19, .phase⟩, ⟨20, .phase⟩, ⟨21, .phase⟩, ⟨22, .phase⟩, ⟨23, .phase⟩, ⟨24, .phase⟩, ⟨25, .phase⟩], none⟩) (v := ?_) rfl (by kernel_rfl) (by kernel_rfl) (by kernel_rfl) (fun _ _ _ h => h) (Or.inl ⟨by rfl, ?_⟩) (by first | with_reducible exact HC2.out | with_reducible exact HC1.out | with_reducible exact HD0.out) ?_
        rotate_left
        · (intro w hSw; obtain ⟨s0, s1, s2, s3, s4, s5, s6, s7, s8, s9⟩ := hSw; go_simp <;> with_reducible rfl)
        simp only [Act.put, List.setIfInBounds_toArray, List.set_cons_zero, List.set_cons_succ]
        refine wpAnyH_done (by kernel_rfl) ?_ _
        go_wp2_with fail
        go_ret
        exact ⟨rfl, HA.out.trans HU2.out⟩
    · have hc' : ((c1 : Int) == (c2 : Int)) = false := by rw [beq_eq_false_iff_ne]; omega
      obtain rfl : B = false := by rw [HBB.out]; exact decide_eq_false (fun h => hc h.2.1)
      clear hc he
      go_quiet (fail)
      go_wp2_with fail
      go_ret
      exact ⟨rfl, HA.out.drewN _⟩
  · have he' : ((e1 : Int) == (e2 : Int)) = false := by rw [beq_eq_false_iff_ne]; omega
    obtain rfl : B = false := by rw [HBB.out]; exact decide_eq_false (fun h => he h.1)
    clear he
    go_quiet (fail)
    go_wp2_with fail
    go_ret
    exact ⟨rfl, HA.out.drewN _⟩
end Go.Proofs.YtolcnbiaiolcoaaGreat
