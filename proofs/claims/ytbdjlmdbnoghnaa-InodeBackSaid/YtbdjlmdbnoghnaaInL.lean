/- The statement InodeBack, walked. -/
import Derived.Test.YtbdjlmdbnoghnaaInK
namespace Go.Proofs.Ytbdjlmdbnoghnaa
open Go.ChangeShapes Go.WideShapes Go.ChangeAt Go.RowKit

set_option maxRecDepth 3000 in
set_option maxHeartbeats 6400000 in
theorem back_walk (w : World) (v0 : Value) (h0 : IArg v0) (v1 : Value) (h1 : ∃ l, In w v1 l) : Calls Try.prog 5 #[v0, v1] w fun e w' => e = .returned (.bool true) ∧ Below w.heap.size w w' := by
  obtain ⟨x, rfl, hx⟩ := h0
  obtain ⟨l0, hl0⟩ := h1
  obtain ⟨y, hy⟩ : ∃ y, y = w.heap.size := ⟨_, rfl⟩
  obtain ⟨V, hV⟩ : ∃ V, V = w.alloc (.cells (ic x) 25) := ⟨_, rfl⟩
  have HY := Lib.hid (show Blk V y 25 (ic x) by rw [hV, hy]; exact Blk.new _ _ _)
  have HA := Lib.hid (show Adv Nul w Nul V by rw [hV]; exact (Adv.refl _ _).alloc _)
  have HX := Lib.hid (fun (w' : World) (h : Adv Nul V Nul w') => (HY.out.keep (h.block y HY.out.lt (fun h => h))))
  have HCUT := Lib.hid (cut_form v1 l0 140 V (hl0.far HA.out.toBelow) (by decide))
  have HIN0 := Lib.hid hl0
  have HV := Lib.hid hV
  have HYY := Lib.hid hy
  have HM := Lib.hid (mine_any x)
  have HE := Lib.hid (encode_any x hx)
  have HW := Lib.hid hx
  have hwf := hx.a
  obtain ⟨cc, hcc, hE⟩ := eq_arr x.a x.a hwf hwf
  obtain rfl : cc = true := hcc.mpr ⟨rfl, rfl, rfl, rfl, rfl, rfl, rfl, rfl⟩
  obtain ⟨s0, s1, s2, s3, s4, s5, s6, s7, s8, s9, s10⟩ := HY.out.c11.all
  have HD := Lib.hid (fun (ho : okI x) v w hr => decode_back hx ho v w hr)
  clear hV hy hx hl0 hwf hcc
  obtain ⟨k, g, v, a⟩ := x
  simp only [ic] at HV HM HE HD ⊢
  simp only [arr] at hE
  simp only at s0 s1 s2 s3 s4 s5 s6 s7 s8 s9 s10
  go_enter Try.func5, Try.ntmps5
  go_upto_region 1 with (fail)
  rw [← HV.out, ← HYY.out]
  go_upto_region 2 with (first
    | (go_at_call 14; refine HCUT.out.mono ?_; rintro e w1 ⟨l, A, c, m, rfl, _, hin, rfl⟩; have HIN := Lib.hid hin; clear hin)
    | fail)
  have HP := Lib.hid (fun w' (ha : Adv Nul V Nul w') => decode_any _ l w' (HIN.out.far ha.toBelow).rdl HIN.out.lt)
  unfold DecR at HP
  have hez := fun w => (encode_any (dI l) (dI_wf l) w).mono fun _ _ h => EncR.same h
  obtain ⟨Z, hZ⟩ : ∃ Z, Z = dI l := ⟨_, rfl⟩
  obtain ⟨E, hE0⟩ : ∃ E, E = eI l := ⟨_, rfl⟩
  obtain ⟨L, hL⟩ : ∃ L, L = encL Z := ⟨_, rfl⟩
  obtain ⟨EZ, hEZ⟩ : ∃ EZ, EZ = encE Z := ⟨_, rfl⟩
  rw [← hZ] at HP hez
  rw [← hE0] at HP
  rw [← hL, ← hEZ] at hez
  have HEZ := Lib.hid hez
  have hcase : (E = 0 ∧ EZ = 0 ∧ L = l) ∨ E = 4 := by
    cases hd : decI l with
    | none => right; rw [hE0, eI, hd]; rfl
    | some q =>
      left
      obtain ⟨ho, hs⟩ := decI_some hd
      have hq : Z = q := by rw [hZ, dI, hd]; rfl
      refine ⟨by rw [hE0, eI, hd]; rfl, by rw [hEZ, hq, encE, if_pos ho], by rw [hL, hq, encL, if_pos ho, hs]⟩
  clear hZ hE0 hL hEZ hez
  obtain ⟨k2, g2, v2, p⟩ := Z
  simp only [ic] at HP HEZ
  by_cases ho : okI ⟨k, g, v, a⟩
  · have HOK := Lib.hid ho
    clear ho
    go_upto_region 5 with (first
      | (go_at_call 7; refine (HM.out _).mono ?_; rintro e w2 ⟨rfl, a2⟩; have HA2 := Lib.hid (a2); clear a2)
      | (go_at_call 6; refine (HE.out _).mono ?_; rintro e w3 ⟨A3, m3, c3, F3, rfl, a3, y3, _⟩; obtain ⟨rfl, t3⟩ := y3 HOK.out; rw [if_pos HOK.out]; have HA3 := Lib.hid (HA2.out.trans a3); have HS3 := Lib.hid t3; clear a3 y3 t3)
      | (go_at_call 15; refine (HD.out HOK.out _ _ HS3.out.rd).mono ?_; rintro e w4 ⟨rfl, a4⟩; have HA4 := Lib.hid ((HA3.out.sub (G := Nul) (fun _ h => h.elim)).trans a4); clear a4)
      | fail)
    have HB1' := Lib.hid (Blk.new w4 30 (ic ⟨k, g, v, a⟩))
    have HB2' := Lib.hid ((HX.out _ HA4.out).alloc (.cells (ic ⟨k, g, v, a⟩) 30))
    have HA4' := Lib.hid (HA4.out.alloc (.cells (ic ⟨k, g, v, a⟩) 30))
    obtain ⟨b1, hb1⟩ : ∃ b, b = w4.heap.size := ⟨_, rfl⟩
    obtain ⟨b2, hb2⟩ : ∃ b, b = y := ⟨_, rfl⟩
    obtain ⟨W3, hW3⟩ : ∃ W, W = w4.alloc (.cells #[.int .i64 k, .int .i64 g, .int .u64 (v : Int), .int .i64 (a 0), .int .i64 (a 1), .int .i64 (a 2), .int .i64 (a 3), .int .i64 (a 4), .int .i64 (a 5), .int .i64 (a 6), .int .i64 (a 7)] 30) := ⟨_, rfl⟩
    have hW3' : W3 = w4.alloc (.cells (ic ⟨k, g, v, a⟩) 30) := hW3
    have HB1 := Lib.hid (show Blk W3 b1 30 (ic ⟨k, g, v, a⟩) by rw [hW3', hb1]; exact HB1'.out)
    have HB2 := Lib.hid (show Blk W3 b2 25 (ic ⟨k, g, v, a⟩) by rw [hW3', hb2]; exact HB2'.out)
    have HA3' := Lib.hid (show Adv Nul V Nul W3 by rw [hW3']; exact HA4'.out)
    rw [← hb1, ← hb2, ← hW3]
    clear hb1 hb2 hW3 hW3' HB1' HB2' HA4' HA3 HA2 HA4 s0 s1 s2 s3 s4 s5 s6 s7 s8 s9 s10 HE
    have K0 := Lib.hid (show (World.cell? W3.drew ⟨b1, 0, none⟩ = some (.int .i64 k) ∧ World.cell? W3.drew ⟨b1, 1, none⟩ = some (.int .i64 g) ∧ World.cell? W3.drew ⟨b1, 2, none⟩ = some (.int .u64 (v : Int)) ∧ World.cell? W3.drew ⟨b1, 3, none⟩ = some (.int .i64 (a 0)) ∧ World.cell? W3.drew ⟨b1, 4, none⟩ = some (.int .i64 (a 1)) ∧ World.cell? W3.drew ⟨b1, 5, none⟩ = some (.int .i64 (a 2)) ∧ World.cell? W3.drew ⟨b1, 6, none⟩ = some (.int .i64 (a 3)) ∧ World.cell? W3.drew ⟨b1, 7, none⟩ = some (.int .i64 (a 4)) ∧ World.cell? W3.drew ⟨b1, 8, none⟩ = some (.int .i64 (a 5)) ∧ World.cell? W3.drew ⟨b1, 9, none⟩ = some (.int .i64 (a 6)) ∧ World.cell? W3.drew ⟨b1, 10, none⟩ = some (.int .i64 (a 7))) ∧ (World.cell? W3.drew ⟨b2, 0, none⟩ = some (.int .i64 k) ∧ World.cell? W3.drew ⟨b2, 1, none⟩ = some (.int .i64 g) ∧ World.cell? W3.drew ⟨b2, 2, none⟩ = some (.int .u64 (v : Int)) ∧ World.cell? W3.drew ⟨b2, 3, none⟩ = some (.int .i64 (a 0)) ∧ World.cell? W3.drew ⟨b2, 4, none⟩ = some (.int .i64 (a 1)) ∧ World.cell? W3.drew ⟨b2, 5, none⟩ = some (.int .i64 (a 2)) ∧ World.cell? W3.drew ⟨b2, 6, none⟩ = some (.int .i64 (a 3)) ∧ World.cell? W3.drew ⟨b2, 7, none⟩ = some (.int .i64 (a 4)) ∧ World.cell? W3.drew ⟨b2, 8, none⟩ = some (.int .i64 (a 5)) ∧ World.cell? W3.drew ⟨b2, 9, none⟩ = some (.int .i64 (a 6)) ∧ World.cell? W3.drew ⟨b2, 10, none⟩ = some (.int .i64 (a 7))) from ⟨(HB1.out.drew).c11.all, (HB2.out.drew).c11.all⟩)
    refine wp_region_held_drew (S := (fun w' => (w'.cell? ⟨b1, 0, none⟩ = some (.int .i64 k) ∧ w'.cell? ⟨b1, 1, none⟩ = some (.int .i64 g) ∧ w'.cell? ⟨b1, 2, none⟩ = some (.int .u64 (v : Int)) ∧ w'.cell? ⟨b1, 3, none⟩ = some (.int .i64 (a 0)) ∧ w'.cell? ⟨b1, 4, none⟩ = some (.int .i64 (a 1)) ∧ w'.cell? ⟨b1, 5, none⟩ = some (.int .i64 (a 2)) ∧ w'.cell? ⟨b1, 6, none⟩ = some (.int .i64 (a 3)) ∧ w'.cell? ⟨b1, 7, none⟩ = some (.int .i64 (a 4)) ∧ w'.cell? ⟨b1, 8, none⟩ = some (.int .i64 (a 5)) ∧ w'.cell? ⟨b1, 9, none⟩ = some (.int .i64 (a 6)) ∧ w'.cell? ⟨b1, 10, none⟩ = some (.int .i64 (a 7))) ∧ (w'.cell? ⟨b2, 0, none⟩ = some (.int .i64 k) ∧ w'.cell? ⟨b2, 1, none⟩ = some (.int .i64 g) ∧ w'.cell? ⟨b2, 2, none⟩ = some (.int .u64 (v : Int)) ∧ w'.cell? ⟨b2, 3, none⟩ = some (.int .i64 (a 0)) ∧ w'.cell? ⟨b2, 4, none⟩ = some (.int .i64 (a 1)) ∧ w'.cell? ⟨b2, 5, none⟩ = some (.int .i64 (a 2)) ∧ w'.cell? ⟨b2, 6, none⟩ = some (.int .i64 (a 3)) ∧ w'.cell? ⟨b2, 7, none⟩ = some (.int .i64 (a 4)) ∧ w'.cell? ⟨b2, 8, none⟩ = some (.int .i64 (a 5)) ∧ w'.cell? ⟨b2, 9, none⟩ = some (.int .i64 (a 6)) ∧ w'.cell? ⟨b2, 10, none⟩ = some (.int .i64 (a 7))))) (by kernel_rfl) (by first | with_reducible exact K2.out | with_reducible exact K1.out | with_reducible exact K0.out) (fun hHeld => ?_)
    clear hHeld
    refine wpAnyH_take (i := 0) (oi := ⟨some 28, .move (.tmp 8), 27, "law.go:50", #[], none⟩) (v := ?_) rfl (by kernel_rfl) (by kernel_rfl) (by kernel_rfl) (fun _ _ _ h => h) (Or.inl ⟨by rfl, ?_⟩) (by first | with_reducible exact K2.out | with_reducible exact K1.out | with_reducible exact K0.out) ?_
    rotate_left
    · (intro w hSw; obtain ⟨⟨s0, s1, s2, s3, s4, s5, s6, s7, s8, s9, s10⟩, ⟨r0, r1, r2, r3, r4, r5, r6, r7, r8, r9, r10⟩⟩ := hSw; go_simp <;> with_reducible rfl)
    simp only [Act.put, List.setIfInBounds_toArray, List.set_cons_zero, List.set_cons_succ]
    refine wpAnyH_take (i := 1) (oi := ⟨some 29, .binOp Go.BinOp.neq 27 (.tmp 28) (.const (Go.Value.int Go.IntKind.i64 0)) 27, 4, "law.go:50", #[⟨0, .data⟩], none⟩) (v := ?_) rfl (by kernel_rfl) (by kernel_rfl) (by kernel_rfl) (fun _ _ _ h => h) (Or.inl ⟨by rfl, ?_⟩) (by first | with_reducible exact K2.out | with_reducible exact K1.out | with_reducible exact K0.out) ?_
    rotate_left
    · (intro w hSw; obtain ⟨⟨s0, s1, s2, s3, s4, s5, s6, s7, s8, s9, s10⟩, ⟨r0, r1, r2, r3, r4, r5, r6, r7, r8, r9, r10⟩⟩ := hSw; go_simp <;> with_reducible rfl)
    simp only [Act.put, List.setIfInBounds_toArray, List.set_cons_zero, List.set_cons_succ]
    refine wpAnyH_take (i := 2) (oi := ⟨some 30, .move (.tmp 29), 4, "law.go:50", #[⟨1, .data⟩], none⟩) (v := ?_) rfl (by kernel_rfl) (by kernel_rfl) (by kernel_rfl) (fun _ _ _ h => h) (Or.inl ⟨by rfl, ?_⟩) (by first | with_reducible exact K2.out | with_reducible exact K1.out | with_reducible exact K0.out) ?_
    rotate_left
    · (intro w hSw; obtain ⟨⟨s0, s1, s2, s3, s4, s5, s6, s7, s8, s9, s10⟩, ⟨r0, r1, r2, r3, r4, r5, r6, r7, r8, r9, r10⟩⟩ := hSw; go_simp <;> with_reducible rfl)
    simp only [Act.put, List.setIfInBounds_toArray, List.set_cons_zero, List.set_cons_succ]
    refine wpAnyH_take (i := 3) (oi := { dst := some 31, op := .load 30 (.tmp 7), type := 30, pos := "law.go:50", after := #[⟨2, .guard⟩], guard := some (2, false) }) (v := ?_) rfl (by kernel_rfl) (by kernel_rfl) (by kernel_rfl) (fun _ _ _ h => h) (Or.inl ⟨by rfl, ?_⟩) (by first | with_reducible exact K2.out | with_reducible exact K1.out | with_reducible exact K0.out) ?_
    rotate_left
    · (intro w hSw; obtain ⟨⟨s0, s1, s2, s3, s4, s5, s6, s7, s8, s9, s10⟩, ⟨r0, r1, r2, r3, r4, r5, r6, r7, r8, r9, r10⟩⟩ := hSw; go_simp <;> with_reducible rfl)
    simp only [Act.put, List.setIfInBounds_toArray, List.set_cons_zero, List.set_cons_succ]
    refine wpAnyH_take (i := 4) (oi := { dst := some 32, op := .load 25 (.tmp 2), type := 25, pos := "law.go:50", after := #[⟨2, .guard⟩], guard := some (2, false) }) (v := ?_) rfl (by kernel_rfl) (by kernel_rfl) (by kernel_rfl) (fun _ _ _ h => h) (Or.inl ⟨by rfl, ?_⟩) (by first | with_reducible exact K2.out | with_reducible exact K1.out | with_reducible exact K0.out) ?_
    rotate_left
    · (intro w hSw; obtain ⟨⟨s0, s1, s2, s3, s4, s5, s6, s7, s8, s9, s10⟩, ⟨r0, r1, r2, r3, r4, r5, r6, r7, r8, r9, r10⟩⟩ := hSw; go_simp <;> with_reducible rfl)
    simp only [Act.put, List.setIfInBounds_toArray, List.set_cons_zero, List.set_cons_succ]
    refine wpAnyH_ready (rs := [5]) (by kernel_rfl) (by simp) ?_
    refine AllReadyH.cons (o := { dst := some 33, op := .call { callee := Go.Callee.value (.func 7), args := #[Go.Operand.tmp 32], argTypes := #[25] }, type := 30, pos := "law.go:50", after := #[⟨4, .data⟩, ⟨2, .chain⟩, ⟨2, .guard⟩], guard := some (2, false) }) rfl (fun K hK => ?_) AllReadyH.nil
    go_simp
    refine (HM.out _).mono ?_
    rintro x w5 ⟨rfl, a5⟩
    have HA5 := Lib.hid ((Adv.refl Nul W3).drew.trans a5)
    have K1 := Lib.hid (show ((w5).cell? ⟨b1, 0, none⟩ = some (.int .i64 k) ∧ (w5).cell? ⟨b1, 1, none⟩ = some (.int .i64 g) ∧ (w5).cell? ⟨b1, 2, none⟩ = some (.int .u64 (v : Int)) ∧ (w5).cell? ⟨b1, 3, none⟩ = some (.int .i64 (a 0)) ∧ (w5).cell? ⟨b1, 4, none⟩ = some (.int .i64 (a 1)) ∧ (w5).cell? ⟨b1, 5, none⟩ = some (.int .i64 (a 2)) ∧ (w5).cell? ⟨b1, 6, none⟩ = some (.int .i64 (a 3)) ∧ (w5).cell? ⟨b1, 7, none⟩ = some (.int .i64 (a 4)) ∧ (w5).cell? ⟨b1, 8, none⟩ = some (.int .i64 (a 5)) ∧ (w5).cell? ⟨b1, 9, none⟩ = some (.int .i64 (a 6)) ∧ (w5).cell? ⟨b1, 10, none⟩ = some (.int .i64 (a 7))) ∧ ((w5).cell? ⟨b2, 0, none⟩ = some (.int .i64 k) ∧ (w5).cell? ⟨b2, 1, none⟩ = some (.int .i64 g) ∧ (w5).cell? ⟨b2, 2, none⟩ = some (.int .u64 (v : Int)) ∧ (w5).cell? ⟨b2, 3, none⟩ = some (.int .i64 (a 0)) ∧ (w5).cell? ⟨b2, 4, none⟩ = some (.int .i64 (a 1)) ∧ (w5).cell? ⟨b2, 5, none⟩ = some (.int .i64 (a 2)) ∧ (w5).cell? ⟨b2, 6, none⟩ = some (.int .i64 (a 3)) ∧ (w5).cell? ⟨b2, 7, none⟩ = some (.int .i64 (a 4)) ∧ (w5).cell? ⟨b2, 8, none⟩ = some (.int .i64 (a 5)) ∧ (w5).cell? ⟨b2, 9, none⟩ = some (.int .i64 (a 6)) ∧ (w5).cell? ⟨b2, 10, none⟩ = some (.int .i64 (a 7))) from ⟨(HB1.out.keep (HA5.out.block b1 HB1.out.lt (fun h => h))).c11.all, (HB2.out.keep (HA5.out.block b2 HB2.out.lt (fun h => h))).c11.all⟩)
    clear a5
    go_wp2_with fail
    refine hK.out _ _ (by first | with_reducible exact K2.out | with_reducible exact K1.out | with_reducible exact K0.out) (fun hHeld => ?_)
    clear hK K hHeld
    try simp only [Act.put, List.setIfInBounds_toArray, List.set_cons_zero, List.set_cons_succ]
    refine wpAnyH_take (i := 6) (oi := { dst := some 34, op := .binOp Go.BinOp.neq 30 (.tmp 31) (.tmp 33) 30, type := 4, pos := "law.go:50", after := #[⟨3, .data⟩, ⟨5, .data⟩, ⟨2, .guard⟩], guard := some (2, false) }) (v := ?_) rfl (by kernel_rfl) (by kernel_rfl) (by kernel_rfl) (fun _ _ _ h => h) (Or.inl ⟨by rfl, ?_⟩) (by first | with_reducible exact K2.out | with_reducible exact K1.out | with_reducible exact K0.out) ?_
    rotate_left
    · (intro w hSw; obtain ⟨⟨s0, s1, s2, s3, s4, s5, s6, s7, s8, s9, s10⟩, ⟨r0, r1, r2, r3, r4, r5, r6, r7, r8, r9, r10⟩⟩ := hSw; go_simp <;> with_reducible rfl)
    simp only [Act.put, List.setIfInBounds_toArray, List.set_cons_zero, List.set_cons_succ]
    refine wpAnyH_take (i := 7) (oi := ⟨some 35, .pick (.tmp 30) (.const (Go.Value.bool true)) (.tmp 34), 4, "law.go:50", #[⟨2, .data⟩, ⟨6, .data⟩], none⟩) (v := ?_) rfl (by kernel_rfl) (by kernel_rfl) (by kernel_rfl) (fun _ _ _ h => h) (Or.inl ⟨by rfl, ?_⟩) (by first | with_reducible exact K2.out | with_reducible exact K1.out | with_reducible exact K0.out) ?_
    rotate_left
    · (intro w hSw; obtain ⟨⟨s0, s1, s2, s3, s4, s5, s6, s7, s8, s9, s10⟩, ⟨r0, r1, r2, r3, r4, r5, r6, r7, r8, r9, r10⟩⟩ := hSw; go_simp <;> with_reducible rfl)
    simp only [Act.put, List.setIfInBounds_toArray, List.set_cons_zero, List.set_cons_succ]
    refine wpAnyH_done (by kernel_rfl) ?_ _
    have HAW := Lib.hid (HA3'.out.trans HA5.out)
    rcases hcase with ⟨rfl, rfl, rfl⟩ | rfl
    · go_wp2_with (first
        | (go_at_call 15; refine (HP.out _ HAW.out).mono ?_; rintro e w7 ⟨rfl, a7⟩; have HA7 := Lib.hid ((Adv.trans HAW.out a7).alloc (.cells #[.int .i64 k2, .int .i64 g2, .int .u64 (v2 : Int), .int .i64 (p 0), .int .i64 (p 1), .int .i64 (p 2), .int .i64 (p 3), .int .i64 (p 4), .int .i64 (p 5), .int .i64 (p 6), .int .i64 (p 7)] 30)); clear a7 HP)
        | (go_at_call 6; refine (HEZ.out _).mono ?_; rintro e w8 ⟨A8, m8, c8, rfl, r8, a8⟩; have HA8 := Lib.hid (HA7.out.trans a8); have HR8 := Lib.hid r8; clear r8 a8)
        | (go_at_call 9; refine (isame_any _ _ _ _ _ _ _ HR8.out (HIN.out.far HA8.out.toBelow).rd).mono ?_; rintro e w9 ⟨rfl, q9, rfl⟩; rw [decide_eq_true (Eq.refl L)]; replace HA8 := Lib.hid (HA8.out.drewN q9))
        | (go_at_call 13; refine (lives8_any _).mono ?_; rintro e w10 ⟨rfl, a10⟩; have HA10 := Lib.hid (HA8.out.trans a10); clear a10)
        | fail)
      go_ret
      exact ⟨rfl, (HA.out.trans HA10.out).toBelow⟩

    · go_wp2_with (first
        | (go_at_call 15; refine (HP.out _ HAW.out).mono ?_; rintro e w7 ⟨rfl, a7⟩; have HA7 := Lib.hid ((Adv.trans HAW.out a7).alloc (.cells #[.int .i64 k2, .int .i64 g2, .int .u64 (v2 : Int), .int .i64 (p 0), .int .i64 (p 1), .int .i64 (p 2), .int .i64 (p 3), .int .i64 (p 4), .int .i64 (p 5), .int .i64 (p 6), .int .i64 (p 7)] 30)); clear a7 HP)
        | (go_at_call 6; refine (HEZ.out _).mono ?_; rintro e w8 ⟨A8, m8, c8, rfl, r8, a8⟩; have HA8 := Lib.hid (HA7.out.trans a8); have HR8 := Lib.hid r8; clear r8 a8)
        | (go_at_call 13; refine (lives8_any _).mono ?_; rintro e w10 ⟨rfl, a10⟩; have HA10 := Lib.hid (HA8.out.trans a10); clear a10)
        | fail)
      go_ret
      exact ⟨rfl, (HA.out.trans HA10.out).toBelow⟩

  · have HOK := Lib.hid ho
    clear ho
    rcases hcase with ⟨rfl, rfl, rfl⟩ | rfl
    · go_wp2_with (first
        | (go_at_call 7; refine (HM.out _).mono ?_; rintro e w2 ⟨rfl, a2⟩; have HA2 := Lib.hid (a2); clear a2)
        | (go_at_call 6; refine (HE.out _).mono ?_; rintro e w3 ⟨A3, m3, c3, F3, rfl, a3, _, y3⟩; obtain ⟨rfl, rfl, rfl⟩ := y3 HOK.out; rw [if_neg HOK.out]; have HA3 := Lib.hid ((HA2.out.trans a3).sub (G := Nul) (fun _ h => h.elim)); clear a3 y3 HE)
        | (go_at_call 15; refine (HP.out _ HA3.out).mono ?_; rintro e w7 ⟨rfl, a7⟩; have HA7 := Lib.hid ((Adv.trans HA3.out a7).alloc (.cells #[.int .i64 k2, .int .i64 g2, .int .u64 (v2 : Int), .int .i64 (p 0), .int .i64 (p 1), .int .i64 (p 2), .int .i64 (p 3), .int .i64 (p 4), .int .i64 (p 5), .int .i64 (p 6), .int .i64 (p 7)] 30)); clear a7 HP)
        | (go_at_call 6; refine (HEZ.out _).mono ?_; rintro e w8 ⟨A8, m8, c8, rfl, r8, a8⟩; have HA8 := Lib.hid (HA7.out.trans a8); have HR8 := Lib.hid r8; clear r8 a8)
        | (go_at_call 9; refine (isame_any _ _ _ _ _ _ _ HR8.out (HIN.out.far HA8.out.toBelow).rd).mono ?_; rintro e w9 ⟨rfl, q9, rfl⟩; rw [decide_eq_true (Eq.refl L)]; replace HA8 := Lib.hid (HA8.out.drewN q9))
        | (go_at_call 13; refine (lives8_any _).mono ?_; rintro e w10 ⟨rfl, a10⟩; have HA10 := Lib.hid (HA8.out.trans a10); clear a10)
        | fail)
      go_ret
      exact ⟨rfl, (HA.out.trans HA10.out).toBelow⟩

    · go_wp2_with (first
        | (go_at_call 7; refine (HM.out _).mono ?_; rintro e w2 ⟨rfl, a2⟩; have HA2 := Lib.hid (a2); clear a2)
        | (go_at_call 6; refine (HE.out _).mono ?_; rintro e w3 ⟨A3, m3, c3, F3, rfl, a3, _, y3⟩; obtain ⟨rfl, rfl, rfl⟩ := y3 HOK.out; rw [if_neg HOK.out]; have HA3 := Lib.hid ((HA2.out.trans a3).sub (G := Nul) (fun _ h => h.elim)); clear a3 y3 HE)
        | (go_at_call 15; refine (HP.out _ HA3.out).mono ?_; rintro e w7 ⟨rfl, a7⟩; have HA7 := Lib.hid ((Adv.trans HA3.out a7).alloc (.cells #[.int .i64 k2, .int .i64 g2, .int .u64 (v2 : Int), .int .i64 (p 0), .int .i64 (p 1), .int .i64 (p 2), .int .i64 (p 3), .int .i64 (p 4), .int .i64 (p 5), .int .i64 (p 6), .int .i64 (p 7)] 30)); clear a7 HP)
        | (go_at_call 6; refine (HEZ.out _).mono ?_; rintro e w8 ⟨A8, m8, c8, rfl, r8, a8⟩; have HA8 := Lib.hid (HA7.out.trans a8); have HR8 := Lib.hid r8; clear r8 a8)
        | (go_at_call 13; refine (lives8_any _).mono ?_; rintro e w10 ⟨rfl, a10⟩; have HA10 := Lib.hid (HA8.out.trans a10); clear a10)
        | fail)
      go_ret
      exact ⟨rfl, (HA.out.trans HA10.out).toBelow⟩

end Go.Proofs.Ytbdjlmdbnoghnaa
