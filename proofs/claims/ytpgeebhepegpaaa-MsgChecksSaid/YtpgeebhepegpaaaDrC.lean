/- Whether entries are right: the document's Rise. -/
import Derived.Test.YtpgeebhepegpaaaDrB
namespace Go.Proofs.Ytpgeebhepegpaaa
open Go.ChangeShapes Go.WideShapes Go.ChangeAt Go.RowKit

def RiI (w : World) (l : List En) (t : Value) (wr : World) : Prop := ∃ k : Nat, k ≤ l.length ∧ t = .int .i64 (k : Int) ∧ (∀ i, i < k → okAt l i) ∧ Adv Nul w Nul wr
set_option maxRecDepth 3000 in
theorem leq_eq (a b : ByteArray) : (Op.bytesLess a.toList b.toList || a.toList == b.toList) = !decide (ltS b a) := by
  rw [less_eq, eqS_eq]
  rcases ltS_tri a b with h | h | h
  · rw [decide_eq_true h, decide_eq_false (ltS_asymm h)]; rfl
  · subst h; rw [decide_eq_false (ltS_irr a)]; simp
  · rw [decide_eq_true h, decide_eq_false (ltS_asymm h), decide_eq_false]; rfl
    intro e; subst e; exact ltS_irr a h

set_option maxRecDepth 3000 in
set_option maxHeartbeats 3200000 in
theorem q9rise_any (v : Value) (l : List En) (w : World) (h : EnR7 w v l) :
    Calls Try.prog 67 #[v] w fun x w' => x = .returned (.bool (decide (RiseL l))) ∧ Adv Nul w Nul w' := by
  obtain ⟨A, c, rfl, hnc, hcm⟩ := h.form
  obtain ⟨n, hn⟩ : ∃ n, n = l.length := ⟨_, rfl⟩
  have hbig : (n : Int) ≤ 9223372036854775807 := by unfold maxLen at hcm; omega
  rw [← hn] at h hnc ⊢
  have HR := Lib.hid h
  have HN := Lib.hid hn
  obtain ⟨R, hR⟩ : ∃ R, R = decide (RiseL l) := ⟨_, rfl⟩
  rw [← hR]
  have HRR := Lib.hid hR
  clear h hn hnc hcm hR
  go_enter Try.func67, Try.ntmps67
  go_wp2_with fail
  go_loopw [3] (RiI w l) (fun t _ => n - (intOf t).toNat)
  case atStart => exact ⟨0, Nat.zero_le _, rfl, fun i hi => absurd hi (Nat.not_lt_zero _), Adv.refl _ _⟩
  case round =>
    obtain ⟨k, hk, rfl, hall, ha⟩ := hrel
    rw [← HN.out] at hk
    have HALL := Lib.hid hall
    have HA := Lib.hid ha
    clear hall ha
    by_cases hlt : k < n
    · have hkl : k < l.length := by rw [← HN.out]; exact hlt
      obtain ⟨b1, o1, rfl, hb1, hg⟩ := (HR.out.step HA.out).at_ HN.out hkl
      obtain ⟨e, he⟩ : ∃ e, e = l[k] := ⟨_, rfl⟩
      have hsz : e.s.size ≤ maxLen := by rw [he]; exact HR.out.sz _ (List.getElem_mem _)
      have HW := Lib.hid (fun w1 => q9is_any e hsz w1)
      have HOK := Lib.hid (okAt_iff hkl)
      have HLT := Lib.hid hlt
      rw [← he] at hg HOK
      obtain ⟨B, hB⟩ : ∃ B, B = decide (okE e) := ⟨_, rfl⟩
      rw [← hB] at HW
      have HBB := Lib.hid hB
      have HNO := Lib.hid (show B = false → R = false from fun h => by
        rw [HRR.out]
        refine decide_eq_false fun hr => ?_
        have := (HOK.out.1 (hr k)).2
        rw [h] at HBB
        exact absurd this (of_decide_eq_false HBB.out.symm))
      have HC0 := Lib.hid (fun (w' : World) (a : Adv Nul wr Nul w') => show w'.cell? ⟨b1, o1 + k * 4, none⟩ = some (.string e.s) ∧ w'.cell? ⟨b1, o1 + k * 4 + 1, none⟩ = some (.int .i64 e.i) ∧ w'.cell? ⟨b1, o1 + k * 4 + 2, none⟩ = some (.int .i64 e.g) ∧ w'.cell? ⟨b1, o1 + k * 4 + 3, none⟩ = some (.int .i64 e.k) from
        have hw := a.block b1 hb1 (fun x => x)
        ⟨(World.cell?_of_block (a := ⟨b1, o1 + k * 4, none⟩) hw).trans hg.1, (World.cell?_of_block (a := ⟨b1, o1 + k * 4 + 1, none⟩) hw).trans hg.2.1, (World.cell?_of_block (a := ⟨b1, o1 + k * 4 + 2, none⟩) hw).trans hg.2.2.1, (World.cell?_of_block (a := ⟨b1, o1 + k * 4 + 3, none⟩) hw).trans hg.2.2.2⟩)
      cases k with
      | zero =>
        have HYES := Lib.hid (show B = true → okAt l 0 from fun h => by
          refine HOK.out.2 ⟨?_, of_decide_eq_true (HBB.out.symm.trans h)⟩
          have := (of_decide_eq_true (HBB.out.symm.trans h)).1.1
          show ([] : List UInt8) < _
          match hd : e.s.data.toList with
          | [] => rw [hd] at this; exact absurd this (by decide)
          | _ :: _ => exact List.nil_lt_cons _ _)
        have HLE := Lib.hid (show 1 ≤ l.length from hkl)
        clear hb1 he hsz hB hg hkl hk
        obtain ⟨s, i, g, kd⟩ := e
        simp only [ea] at HW
        simp only [Nat.zero_mul, Nat.add_zero] at HC0
        go_upto_region 4 with (fail)
        have K0 := Lib.hid (HC0.out wr.drew (Adv.refl Nul wr).drew)
        cases B with
        | true =>
          refine rstart (S := (fun w' => (w'.cell? ⟨b1, o1, none⟩ = some (.string s) ∧ w'.cell? ⟨b1, o1 + 1, none⟩ = some (.int .i64 i) ∧ w'.cell? ⟨b1, o1 + 2, none⟩ = some (.int .i64 g) ∧ w'.cell? ⟨b1, o1 + 3, none⟩ = some (.int .i64 kd)))) (by first | with_reducible exact K1.out | with_reducible exact K0.out) (fun hH => ?_)
          refine tk (i := 0) (oi := ⟨some 10, .move (.tmp 0), 26, "ref.go:25", #[], none⟩) hH.out (by rintro w ⟨s0, s1, s2, s3⟩; go_simp <;> with_reducible rfl) ?_
          simp only [Act.put, sA, sB, sC]
          refine tk (i := 1) (oi := ⟨some 11, .move (.tmp 3), 3, "ref.go:25", #[], none⟩) hH.out (by rintro w ⟨s0, s1, s2, s3⟩; go_simp <;> with_reducible rfl) ?_
          simp only [Act.put, sA, sB, sC]
          refine tk (i := 2) (oi := ⟨some 12, .indexAddr 26 (.tmp 10) (.tmp 11), 0, "ref.go:25", #[⟨0, .data⟩, ⟨1, .data⟩], none⟩) hH.out (by rintro w ⟨s0, s1, s2, s3⟩; go_simp <;> with_reducible rfl) ?_
          simp only [Act.put, sA, sB, sC]
          refine tk (i := 3) (oi := ⟨some 13, .load 54 (.tmp 12), 54, "ref.go:25", #[⟨2, .data⟩], none⟩) hH.out (by rintro w ⟨s0, s1, s2, s3⟩; go_simp <;> with_reducible rfl) ?_
          simp only [Act.put, sA, sB, sC]
          refine rdy (i := 4) (oi := ⟨some 14, .call ⟨.value (.func 84), #[.tmp 13], #[54]⟩, 4, "ref.go:25", #[⟨3, .data⟩], none⟩) (fun K hK => ?_)
          go_simp
          refine (HW.out _).mono ?_
          rintro x w5 ⟨rfl, a5⟩
          have HA5 := Lib.hid ((Adv.refl Nul wr).drew.trans a5)
          have K1 := Lib.hid (HC0.out w5 HA5.out)
          clear a5
          go_wp2_with fail
          refine hK.out _ _ (by first | with_reducible exact K1.out | with_reducible exact K0.out) (fun hHeld => ?_)
          replace hH := Lib.hid hHeld
          clear hK K hHeld
          try simp only [Act.put, sA, sB, sC]
          refine tk (i := 5) (oi := ⟨some 15, .unOp .not 4 (.tmp 14), 4, "ref.go:25", #[⟨4, .data⟩], none⟩) hH.out (by rintro w ⟨s0, s1, s2, s3⟩; go_simp <;> with_reducible rfl) ?_
          simp only [Act.put, sA, sB, sC]
          refine tk (i := 6) (oi := ⟨some 16, .move (.tmp 15), 4, "ref.go:25", #[⟨5, .data⟩, ⟨4, .chain⟩], none⟩) hH.out (by rintro w ⟨s0, s1, s2, s3⟩; go_simp <;> with_reducible rfl) ?_
          simp only [Act.put, sA, sB, sC]
          refine tk (i := 7) (oi := { dst := some 17, op := .move (.tmp 3), type := 3, pos := "ref.go:25", after := #[⟨6, .guard⟩], guard := some (6, false) }) hH.out (by rintro w ⟨s0, s1, s2, s3⟩; go_simp <;> with_reducible rfl) ?_
          simp only [Act.put, sA, sB, sC]
          refine tk (i := 8) (oi := { dst := some 18, op := .binOp .gtr 3 (.tmp 17) (.const (Go.Value.int Go.IntKind.i64 0)) 3, type := 4, pos := "ref.go:25", after := #[⟨7, .data⟩, ⟨6, .guard⟩], guard := some (6, false) }) hH.out (by rintro w ⟨s0, s1, s2, s3⟩; go_simp <;> with_reducible rfl) ?_
          simp only [Act.put, sA, sB, sC]
          refine tk (i := 9) (oi := { dst := some 19, op := .move (.tmp 18), type := 4, pos := "ref.go:25", after := #[⟨8, .data⟩, ⟨6, .chain⟩, ⟨6, .guard⟩], guard := some (6, false) }) hH.out (by rintro w ⟨s0, s1, s2, s3⟩; go_simp <;> with_reducible rfl) ?_
          simp only [Act.put, sA, sB, sC]
          refine tks (i := 10) (oi := { dst := some 20, op := .move (.tmp 0), type := 26, pos := "ref.go:25", after := #[⟨9, .guard⟩], guard := some (9, true) }) hH.out ?_
          try simp only [Act.put, sA, sB, sC]
          refine tks (i := 11) (oi := { dst := some 21, op := .move (.tmp 3), type := 3, pos := "ref.go:25", after := #[⟨9, .guard⟩], guard := some (9, true) }) hH.out ?_
          try simp only [Act.put, sA, sB, sC]
          refine tks (i := 12) (oi := { dst := some 22, op := .indexAddr 26 (.tmp 20) (.tmp 21), type := 0, pos := "ref.go:25", after := #[⟨10, .data⟩, ⟨11, .data⟩, ⟨9, .guard⟩], guard := some (9, true) }) hH.out ?_
          try simp only [Act.put, sA, sB, sC]
          refine tks (i := 13) (oi := { dst := some 23, op := .fieldAddr 54 (.tmp 22) 0, type := 0, pos := "ref.go:25", after := #[⟨12, .data⟩, ⟨9, .guard⟩], guard := some (9, true) }) hH.out ?_
          try simp only [Act.put, sA, sB, sC]
          refine tks (i := 14) (oi := { dst := some 24, op := .load 9 (.tmp 23), type := 9, pos := "ref.go:25", after := #[⟨13, .data⟩, ⟨9, .guard⟩], guard := some (9, true) }) hH.out ?_
          try simp only [Act.put, sA, sB, sC]
          refine tks (i := 15) (oi := { dst := some 25, op := .move (.tmp 0), type := 26, pos := "ref.go:25", after := #[⟨9, .guard⟩], guard := some (9, true) }) hH.out ?_
          try simp only [Act.put, sA, sB, sC]
          refine tks (i := 16) (oi := { dst := some 26, op := .move (.tmp 3), type := 3, pos := "ref.go:25", after := #[⟨9, .guard⟩], guard := some (9, true) }) hH.out ?_
          try simp only [Act.put, sA, sB, sC]
          refine tks (i := 17) (oi := { dst := some 27, op := .binOp .sub 3 (.tmp 26) (.const (Go.Value.int Go.IntKind.i64 1)) 3, type := 3, pos := "ref.go:25", after := #[⟨16, .data⟩, ⟨9, .guard⟩], guard := some (9, true) }) hH.out ?_
          try simp only [Act.put, sA, sB, sC]
          refine tks (i := 18) (oi := { dst := some 28, op := .indexAddr 26 (.tmp 25) (.tmp 27), type := 0, pos := "ref.go:25", after := #[⟨15, .data⟩, ⟨17, .data⟩, ⟨9, .guard⟩], guard := some (9, true) }) hH.out ?_
          try simp only [Act.put, sA, sB, sC]
          refine tks (i := 19) (oi := { dst := some 29, op := .fieldAddr 54 (.tmp 28) 0, type := 0, pos := "ref.go:25", after := #[⟨18, .data⟩, ⟨9, .guard⟩], guard := some (9, true) }) hH.out ?_
          try simp only [Act.put, sA, sB, sC]
          refine tks (i := 20) (oi := { dst := some 30, op := .load 9 (.tmp 29), type := 9, pos := "ref.go:25", after := #[⟨19, .data⟩, ⟨9, .guard⟩], guard := some (9, true) }) hH.out ?_
          try simp only [Act.put, sA, sB, sC]
          refine tks (i := 21) (oi := { dst := some 31, op := .binOp .leq 9 (.tmp 24) (.tmp 30) 9, type := 4, pos := "ref.go:25", after := #[⟨14, .data⟩, ⟨20, .data⟩, ⟨9, .guard⟩], guard := some (9, true) }) hH.out ?_
          try simp only [Act.put, sA, sB, sC]
          refine tk (i := 22) (oi := { dst := some 32, op := .pick (.tmp 19) (.tmp 31) (.const (Go.Value.bool false)), type := 4, pos := "ref.go:25", after := #[⟨9, .data⟩, ⟨21, .data⟩, ⟨6, .guard⟩], guard := some (6, false) }) hH.out (by rintro w ⟨s0, s1, s2, s3⟩; go_simp <;> with_reducible rfl) ?_
          simp only [Act.put, sA, sB, sC]
          refine tk (i := 23) (oi := ⟨some 33, .pick (.tmp 16) (.const (Go.Value.bool true)) (.tmp 32), 4, "ref.go:25", #[⟨6, .data⟩, ⟨22, .data⟩], none⟩) hH.out (by rintro w ⟨s0, s1, s2, s3⟩; go_simp <;> with_reducible rfl) ?_
          simp only [Act.put, sA, sB, sC]
          refine wpAnyH_done (by kernel_rfl) ?_ _
          have HA1 := Lib.hid (HA.out.trans HA5.out)
          have HY := Lib.hid (HYES.out (by trivial))
          go_wp2_with fail
          exact ⟨⟨1, HLE.out, by go_num, fun i hi => (show i = 0 from by omega) ▸ HY.out, HA1.out⟩, by have := HLT.out; simp [intOf] <;> omega⟩
        | false =>
          refine rstart (S := (fun w' => (w'.cell? ⟨b1, o1, none⟩ = some (.string s) ∧ w'.cell? ⟨b1, o1 + 1, none⟩ = some (.int .i64 i) ∧ w'.cell? ⟨b1, o1 + 2, none⟩ = some (.int .i64 g) ∧ w'.cell? ⟨b1, o1 + 3, none⟩ = some (.int .i64 kd)))) (by first | with_reducible exact K1.out | with_reducible exact K0.out) (fun hH => ?_)
          refine tk (i := 0) (oi := ⟨some 10, .move (.tmp 0), 26, "ref.go:25", #[], none⟩) hH.out (by rintro w ⟨s0, s1, s2, s3⟩; go_simp <;> with_reducible rfl) ?_
          simp only [Act.put, sA, sB, sC]
          refine tk (i := 1) (oi := ⟨some 11, .move (.tmp 3), 3, "ref.go:25", #[], none⟩) hH.out (by rintro w ⟨s0, s1, s2, s3⟩; go_simp <;> with_reducible rfl) ?_
          simp only [Act.put, sA, sB, sC]
          refine tk (i := 2) (oi := ⟨some 12, .indexAddr 26 (.tmp 10) (.tmp 11), 0, "ref.go:25", #[⟨0, .data⟩, ⟨1, .data⟩], none⟩) hH.out (by rintro w ⟨s0, s1, s2, s3⟩; go_simp <;> with_reducible rfl) ?_
          simp only [Act.put, sA, sB, sC]
          refine tk (i := 3) (oi := ⟨some 13, .load 54 (.tmp 12), 54, "ref.go:25", #[⟨2, .data⟩], none⟩) hH.out (by rintro w ⟨s0, s1, s2, s3⟩; go_simp <;> with_reducible rfl) ?_
          simp only [Act.put, sA, sB, sC]
          refine rdy (i := 4) (oi := ⟨some 14, .call ⟨.value (.func 84), #[.tmp 13], #[54]⟩, 4, "ref.go:25", #[⟨3, .data⟩], none⟩) (fun K hK => ?_)
          go_simp
          refine (HW.out _).mono ?_
          rintro x w5 ⟨rfl, a5⟩
          have HA5 := Lib.hid ((Adv.refl Nul wr).drew.trans a5)
          have K1 := Lib.hid (HC0.out w5 HA5.out)
          clear a5
          go_wp2_with fail
          refine hK.out _ _ (by first | with_reducible exact K1.out | with_reducible exact K0.out) (fun hHeld => ?_)
          replace hH := Lib.hid hHeld
          clear hK K hHeld
          try simp only [Act.put, sA, sB, sC]
          refine tk (i := 5) (oi := ⟨some 15, .unOp .not 4 (.tmp 14), 4, "ref.go:25", #[⟨4, .data⟩], none⟩) hH.out (by rintro w ⟨s0, s1, s2, s3⟩; go_simp <;> with_reducible rfl) ?_
          simp only [Act.put, sA, sB, sC]
          refine tk (i := 6) (oi := ⟨some 16, .move (.tmp 15), 4, "ref.go:25", #[⟨5, .data⟩, ⟨4, .chain⟩], none⟩) hH.out (by rintro w ⟨s0, s1, s2, s3⟩; go_simp <;> with_reducible rfl) ?_
          simp only [Act.put, sA, sB, sC]
          refine tks (i := 7) (oi := { dst := some 17, op := .move (.tmp 3), type := 3, pos := "ref.go:25", after := #[⟨6, .guard⟩], guard := some (6, false) }) hH.out ?_
          try simp only [Act.put, sA, sB, sC]
          refine tks (i := 8) (oi := { dst := some 18, op := .binOp .gtr 3 (.tmp 17) (.const (Go.Value.int Go.IntKind.i64 0)) 3, type := 4, pos := "ref.go:25", after := #[⟨7, .data⟩, ⟨6, .guard⟩], guard := some (6, false) }) hH.out ?_
          try simp only [Act.put, sA, sB, sC]
          refine tks (i := 9) (oi := { dst := some 19, op := .move (.tmp 18), type := 4, pos := "ref.go:25", after := #[⟨8, .data⟩, ⟨6, .chain⟩, ⟨6, .guard⟩], guard := some (6, false) }) hH.out ?_
          try simp only [Act.put, sA, sB, sC]
          refine tks (i := 10) (oi := { dst := some 20, op := .move (.tmp 0), type := 26, pos := "ref.go:25", after := #[⟨9, .guard⟩], guard := some (9, true) }) hH.out ?_
          try simp only [Act.put, sA, sB, sC]
          refine tks (i := 11) (oi := { dst := some 21, op := .move (.tmp 3), type := 3, pos := "ref.go:25", after := #[⟨9, .guard⟩], guard := some (9, true) }) hH.out ?_
          try simp only [Act.put, sA, sB, sC]
          refine tks (i := 12) (oi := { dst := some 22, op := .indexAddr 26 (.tmp 20) (.tmp 21), type := 0, pos := "ref.go:25", after := #[⟨10, .data⟩, ⟨11, .data⟩, ⟨9, .guard⟩], guard := some (9, true) }) hH.out ?_
          try simp only [Act.put, sA, sB, sC]
          refine tks (i := 13) (oi := { dst := some 23, op := .fieldAddr 54 (.tmp 22) 0, type := 0, pos := "ref.go:25", after := #[⟨12, .data⟩, ⟨9, .guard⟩], guard := some (9, true) }) hH.out ?_
          try simp only [Act.put, sA, sB, sC]
          refine tks (i := 14) (oi := { dst := some 24, op := .load 9 (.tmp 23), type := 9, pos := "ref.go:25", after := #[⟨13, .data⟩, ⟨9, .guard⟩], guard := some (9, true) }) hH.out ?_
          try simp only [Act.put, sA, sB, sC]
          refine tks (i := 15) (oi := { dst := some 25, op := .move (.tmp 0), type := 26, pos := "ref.go:25", after := #[⟨9, .guard⟩], guard := some (9, true) }) hH.out ?_
          try simp only [Act.put, sA, sB, sC]
          refine tks (i := 16) (oi := { dst := some 26, op := .move (.tmp 3), type := 3, pos := "ref.go:25", after := #[⟨9, .guard⟩], guard := some (9, true) }) hH.out ?_
          try simp only [Act.put, sA, sB, sC]
          refine tks (i := 17) (oi := { dst := some 27, op := .binOp .sub 3 (.tmp 26) (.const (Go.Value.int Go.IntKind.i64 1)) 3, type := 3, pos := "ref.go:25", after := #[⟨16, .data⟩, ⟨9, .guard⟩], guard := some (9, true) }) hH.out ?_
          try simp only [Act.put, sA, sB, sC]
          refine tks (i := 18) (oi := { dst := some 28, op := .indexAddr 26 (.tmp 25) (.tmp 27), type := 0, pos := "ref.go:25", after := #[⟨15, .data⟩, ⟨17, .data⟩, ⟨9, .guard⟩], guard := some (9, true) }) hH.out ?_
          try simp only [Act.put, sA, sB, sC]
          refine tks (i := 19) (oi := { dst := some 29, op := .fieldAddr 54 (.tmp 28) 0, type := 0, pos := "ref.go:25", after := #[⟨18, .data⟩, ⟨9, .guard⟩], guard := some (9, true) }) hH.out ?_
          try simp only [Act.put, sA, sB, sC]
          refine tks (i := 20) (oi := { dst := some 30, op := .load 9 (.tmp 29), type := 9, pos := "ref.go:25", after := #[⟨19, .data⟩, ⟨9, .guard⟩], guard := some (9, true) }) hH.out ?_
          try simp only [Act.put, sA, sB, sC]
          refine tks (i := 21) (oi := { dst := some 31, op := .binOp .leq 9 (.tmp 24) (.tmp 30) 9, type := 4, pos := "ref.go:25", after := #[⟨14, .data⟩, ⟨20, .data⟩, ⟨9, .guard⟩], guard := some (9, true) }) hH.out ?_
          try simp only [Act.put, sA, sB, sC]
          refine tks (i := 22) (oi := { dst := some 32, op := .pick (.tmp 19) (.tmp 31) (.const (Go.Value.bool false)), type := 4, pos := "ref.go:25", after := #[⟨9, .data⟩, ⟨21, .data⟩, ⟨6, .guard⟩], guard := some (6, false) }) hH.out ?_
          try simp only [Act.put, sA, sB, sC]
          refine tk (i := 23) (oi := ⟨some 33, .pick (.tmp 16) (.const (Go.Value.bool true)) (.tmp 32), 4, "ref.go:25", #[⟨6, .data⟩, ⟨22, .data⟩], none⟩) hH.out (by rintro w ⟨s0, s1, s2, s3⟩; go_simp <;> with_reducible rfl) ?_
          simp only [Act.put, sA, sB, sC]
          refine wpAnyH_done (by kernel_rfl) ?_ _
          have HA1 := Lib.hid (HA.out.trans HA5.out)
          obtain rfl := HNO.out (by trivial)
          go_wp2_with fail
          go_ret
          exact ⟨rfl, HA1.out⟩
      | succ m =>
        have hml : m < l.length := by omega
        obtain ⟨d, hd⟩ : ∃ d, d = l[m].s := ⟨_, rfl⟩
        obtain ⟨b2, o2, e2, hb2, hd0, hx0⟩ := (HR.out.step HA.out).at_ HN.out hml
        injection e2 with e2
        injection e2 with e2 e3 _
        subst e2 e3
        clear hx0
        rw [← hd] at hd0
        have HC1 := Lib.hid (fun (w' : World) (a : Adv Nul wr Nul w') => And.intro (HC0.out w' a) ((World.cell?_of_block (a := ⟨b1, o1 + m * 4, none⟩) (a.block b1 hb1 (fun x => x))).trans hd0))
        obtain ⟨L, hL⟩ : ∃ L, L = decide (ltS d e.s) := ⟨_, rfl⟩
        have hla : lastS l (m + 1) = d := by rw [lastS_at hml, hd]
        have HYES := Lib.hid (show B = true → L = true → okAt l (m + 1) from fun h1 h2 => HOK.out.2 ⟨by rw [hla]; exact of_decide_eq_true (hL.symm.trans h2), of_decide_eq_true (HBB.out.symm.trans h1)⟩)
        have HNL := Lib.hid (show L = false → R = false from fun h => by
          rw [HRR.out]
          refine decide_eq_false fun hr => ?_
          have := (HOK.out.1 (hr (m + 1))).1
          rw [hla] at this
          rw [h] at hL
          exact absurd this (of_decide_eq_false hL.symm))
        have HLE2 := Lib.hid (show (Op.bytesLess e.s.toList d.toList || e.s.toList == d.toList) = !L by rw [leq_eq, hL])
        have HLE := Lib.hid (show m + 2 ≤ l.length from hkl)
        clear hb1 he hsz hB hg hkl hk hml hd hb2 hd0 hL hla HC0
        obtain ⟨s, i, g, kd⟩ := e
        simp only [ea] at HW
        simp only at HC1 HLE2
        have hp1 : (0 : Int) ≤ (m : Int) + 1 := by omega
        have hp2 : (0 : Int) < (m : Int) + 1 := by omega
        have hp3 : (m : Int) < (n : Int) := by omega
        have hwm : IntKind.i64.wrap (m : Int) = (m : Int) := by rw [IntKind.wrap_i64]; omega
        go_upto_region 4 with (fail)
        have K0 := Lib.hid (HC1.out wr.drew (Adv.refl Nul wr).drew)
        cases B with
        | true =>
          cases L with
          | true =>
            refine rstart (S := (fun w' => (w'.cell? ⟨b1, o1 + (m + 1) * 4, none⟩ = some (.string s) ∧ w'.cell? ⟨b1, o1 + (m + 1) * 4 + 1, none⟩ = some (.int .i64 i) ∧ w'.cell? ⟨b1, o1 + (m + 1) * 4 + 2, none⟩ = some (.int .i64 g) ∧ w'.cell? ⟨b1, o1 + (m + 1) * 4 + 3, none⟩ = some (.int .i64 kd)) ∧ w'.cell? ⟨b1, o1 + m * 4, none⟩ = some (.string d))) (by first | with_reducible exact K1.out | with_reducible exact K0.out) (fun hH => ?_)
            refine tk (i := 0) (oi := ⟨some 10, .move (.tmp 0), 26, "ref.go:25", #[], none⟩) hH.out (by rintro w ⟨⟨s0, s1, s2, s3⟩, s4⟩; go_simp <;> with_reducible rfl) ?_
            simp only [Act.put, sA, sB, sC]
            refine tk (i := 1) (oi := ⟨some 11, .move (.tmp 3), 3, "ref.go:25", #[], none⟩) hH.out (by rintro w ⟨⟨s0, s1, s2, s3⟩, s4⟩; go_simp <;> with_reducible rfl) ?_
            simp only [Act.put, sA, sB, sC]
            refine tk (i := 2) (oi := ⟨some 12, .indexAddr 26 (.tmp 10) (.tmp 11), 0, "ref.go:25", #[⟨0, .data⟩, ⟨1, .data⟩], none⟩) hH.out (by rintro w ⟨⟨s0, s1, s2, s3⟩, s4⟩; go_simp <;> with_reducible rfl) ?_
            simp only [Act.put, sA, sB, sC]
            refine tk (i := 3) (oi := ⟨some 13, .load 54 (.tmp 12), 54, "ref.go:25", #[⟨2, .data⟩], none⟩) hH.out (by rintro w ⟨⟨s0, s1, s2, s3⟩, s4⟩; go_simp <;> with_reducible rfl) ?_
            simp only [Act.put, sA, sB, sC]
            refine rdy (i := 4) (oi := ⟨some 14, .call ⟨.value (.func 84), #[.tmp 13], #[54]⟩, 4, "ref.go:25", #[⟨3, .data⟩], none⟩) (fun K hK => ?_)
            go_simp
            refine (HW.out _).mono ?_
            rintro x w5 ⟨rfl, a5⟩
            have HA5 := Lib.hid ((Adv.refl Nul wr).drew.trans a5)
            have K1 := Lib.hid (HC1.out w5 HA5.out)
            clear a5
            go_wp2_with fail
            refine hK.out _ _ (by first | with_reducible exact K1.out | with_reducible exact K0.out) (fun hHeld => ?_)
            replace hH := Lib.hid hHeld
            clear hK K hHeld
            try simp only [Act.put, sA, sB, sC]
            refine tk (i := 5) (oi := ⟨some 15, .unOp .not 4 (.tmp 14), 4, "ref.go:25", #[⟨4, .data⟩], none⟩) hH.out (by rintro w ⟨⟨s0, s1, s2, s3⟩, s4⟩; go_simp <;> with_reducible rfl) ?_
            simp only [Act.put, sA, sB, sC]
            refine tk (i := 6) (oi := ⟨some 16, .move (.tmp 15), 4, "ref.go:25", #[⟨5, .data⟩, ⟨4, .chain⟩], none⟩) hH.out (by rintro w ⟨⟨s0, s1, s2, s3⟩, s4⟩; go_simp <;> with_reducible rfl) ?_
            simp only [Act.put, sA, sB, sC]
            refine tk (i := 7) (oi := { dst := some 17, op := .move (.tmp 3), type := 3, pos := "ref.go:25", after := #[⟨6, .guard⟩], guard := some (6, false) }) hH.out (by rintro w ⟨⟨s0, s1, s2, s3⟩, s4⟩; go_simp <;> with_reducible rfl) ?_
            simp only [Act.put, sA, sB, sC]
            refine tk (i := 8) (oi := { dst := some 18, op := .binOp .gtr 3 (.tmp 17) (.const (Go.Value.int Go.IntKind.i64 0)) 3, type := 4, pos := "ref.go:25", after := #[⟨7, .data⟩, ⟨6, .guard⟩], guard := some (6, false) }) hH.out (by rintro w ⟨⟨s0, s1, s2, s3⟩, s4⟩; go_simp <;> with_reducible rfl) ?_
            simp only [Act.put, sA, sB, sC]
            refine tk (i := 9) (oi := { dst := some 19, op := .move (.tmp 18), type := 4, pos := "ref.go:25", after := #[⟨8, .data⟩, ⟨6, .chain⟩, ⟨6, .guard⟩], guard := some (6, false) }) hH.out (by rintro w ⟨⟨s0, s1, s2, s3⟩, s4⟩; go_simp <;> with_reducible rfl) ?_
            simp only [Act.put, sA, sB, sC]
            refine tk (i := 10) (oi := { dst := some 20, op := .move (.tmp 0), type := 26, pos := "ref.go:25", after := #[⟨9, .guard⟩], guard := some (9, true) }) hH.out (by rintro w ⟨⟨s0, s1, s2, s3⟩, s4⟩; go_simp <;> with_reducible rfl) ?_
            simp only [Act.put, sA, sB, sC]
            refine tk (i := 11) (oi := { dst := some 21, op := .move (.tmp 3), type := 3, pos := "ref.go:25", after := #[⟨9, .guard⟩], guard := some (9, true) }) hH.out (by rintro w ⟨⟨s0, s1, s2, s3⟩, s4⟩; go_simp <;> with_reducible rfl) ?_
            simp only [Act.put, sA, sB, sC]
            refine tk (i := 12) (oi := { dst := some 22, op := .indexAddr 26 (.tmp 20) (.tmp 21), type := 0, pos := "ref.go:25", after := #[⟨10, .data⟩, ⟨11, .data⟩, ⟨9, .guard⟩], guard := some (9, true) }) hH.out (by rintro w ⟨⟨s0, s1, s2, s3⟩, s4⟩; go_simp <;> with_reducible rfl) ?_
            simp only [Act.put, sA, sB, sC]
            refine tk (i := 13) (oi := { dst := some 23, op := .fieldAddr 54 (.tmp 22) 0, type := 0, pos := "ref.go:25", after := #[⟨12, .data⟩, ⟨9, .guard⟩], guard := some (9, true) }) hH.out (by rintro w ⟨⟨s0, s1, s2, s3⟩, s4⟩; go_simp <;> with_reducible rfl) ?_
            simp only [Act.put, sA, sB, sC]
            refine tk (i := 14) (oi := { dst := some 24, op := .load 9 (.tmp 23), type := 9, pos := "ref.go:25", after := #[⟨13, .data⟩, ⟨9, .guard⟩], guard := some (9, true) }) hH.out (by rintro w ⟨⟨s0, s1, s2, s3⟩, s4⟩; go_simp <;> with_reducible rfl) ?_
            simp only [Act.put, sA, sB, sC]
            refine tk (i := 15) (oi := { dst := some 25, op := .move (.tmp 0), type := 26, pos := "ref.go:25", after := #[⟨9, .guard⟩], guard := some (9, true) }) hH.out (by rintro w ⟨⟨s0, s1, s2, s3⟩, s4⟩; go_simp <;> with_reducible rfl) ?_
            simp only [Act.put, sA, sB, sC]
            refine tk (i := 16) (oi := { dst := some 26, op := .move (.tmp 3), type := 3, pos := "ref.go:25", after := #[⟨9, .guard⟩], guard := some (9, true) }) hH.out (by rintro w ⟨⟨s0, s1, s2, s3⟩, s4⟩; go_simp <;> with_reducible rfl) ?_
            simp only [Act.put, sA, sB, sC]
            refine tk (i := 17) (oi := { dst := some 27, op := .binOp .sub 3 (.tmp 26) (.const (Go.Value.int Go.IntKind.i64 1)) 3, type := 3, pos := "ref.go:25", after := #[⟨16, .data⟩, ⟨9, .guard⟩], guard := some (9, true) }) hH.out (by rintro w ⟨⟨s0, s1, s2, s3⟩, s4⟩; go_simp <;> with_reducible rfl) ?_
            simp only [Act.put, sA, sB, sC]
            refine tk (i := 18) (oi := { dst := some 28, op := .indexAddr 26 (.tmp 25) (.tmp 27), type := 0, pos := "ref.go:25", after := #[⟨15, .data⟩, ⟨17, .data⟩, ⟨9, .guard⟩], guard := some (9, true) }) hH.out (by rintro w ⟨⟨s0, s1, s2, s3⟩, s4⟩; go_simp <;> with_reducible rfl) ?_
            simp only [Act.put, sA, sB, sC]
            refine tk (i := 19) (oi := { dst := some 29, op := .fieldAddr 54 (.tmp 28) 0, type := 0, pos := "ref.go:25", after := #[⟨18, .data⟩, ⟨9, .guard⟩], guard := some (9, true) }) hH.out (by rintro w ⟨⟨s0, s1, s2, s3⟩, s4⟩; go_simp <;> with_reducible rfl) ?_
            simp only [Act.put, sA, sB, sC]
            refine tk (i := 20) (oi := { dst := some 30, op := .load 9 (.tmp 29), type := 9, pos := "ref.go:25", after := #[⟨19, .data⟩, ⟨9, .guard⟩], guard := some (9, true) }) hH.out (by rintro w ⟨⟨s0, s1, s2, s3⟩, s4⟩; go_simp <;> with_reducible rfl) ?_
            simp only [Act.put, sA, sB, sC]
            refine tk (i := 21) (oi := { dst := some 31, op := .binOp .leq 9 (.tmp 24) (.tmp 30) 9, type := 4, pos := "ref.go:25", after := #[⟨14, .data⟩, ⟨20, .data⟩, ⟨9, .guard⟩], guard := some (9, true) }) hH.out (by rintro w ⟨⟨s0, s1, s2, s3⟩, s4⟩; go_simp <;> with_reducible rfl) ?_
            simp only [Act.put, sA, sB, sC]
            refine tk (i := 22) (oi := { dst := some 32, op := .pick (.tmp 19) (.tmp 31) (.const (Go.Value.bool false)), type := 4, pos := "ref.go:25", after := #[⟨9, .data⟩, ⟨21, .data⟩, ⟨6, .guard⟩], guard := some (6, false) }) hH.out (by rintro w ⟨⟨s0, s1, s2, s3⟩, s4⟩; go_simp <;> with_reducible rfl) ?_
            simp only [Act.put, sA, sB, sC]
            refine tk (i := 23) (oi := ⟨some 33, .pick (.tmp 16) (.const (Go.Value.bool true)) (.tmp 32), 4, "ref.go:25", #[⟨6, .data⟩, ⟨22, .data⟩], none⟩) hH.out (by rintro w ⟨⟨s0, s1, s2, s3⟩, s4⟩; go_simp <;> with_reducible rfl) ?_
            simp only [Act.put, sA, sB, sC]
            refine wpAnyH_done (by kernel_rfl) ?_ _
            try simp only [hwm]
            clear hwm
            have HA1 := Lib.hid (HA.out.trans HA5.out)
            have HY := Lib.hid (HYES.out (by trivial) (by trivial))
            have hle := HLE2.out
            rw [hle]
            clear hle
            go_wp2_with fail
            exact ⟨⟨m + 2, HLE.out, by go_num, fun i hi => (show i = m + 1 ∨ i < m + 1 from by omega).elim (fun e => e ▸ HY.out) (HALL.out i), HA1.out⟩, by have := HLT.out; simp [intOf] <;> omega⟩
          | false =>
            refine rstart (S := (fun w' => (w'.cell? ⟨b1, o1 + (m + 1) * 4, none⟩ = some (.string s) ∧ w'.cell? ⟨b1, o1 + (m + 1) * 4 + 1, none⟩ = some (.int .i64 i) ∧ w'.cell? ⟨b1, o1 + (m + 1) * 4 + 2, none⟩ = some (.int .i64 g) ∧ w'.cell? ⟨b1, o1 + (m + 1) * 4 + 3, none⟩ = some (.int .i64 kd)) ∧ w'.cell? ⟨b1, o1 + m * 4, none⟩ = some (.string d))) (by first | with_reducible exact K1.out | with_reducible exact K0.out) (fun hH => ?_)
            refine tk (i := 0) (oi := ⟨some 10, .move (.tmp 0), 26, "ref.go:25", #[], none⟩) hH.out (by rintro w ⟨⟨s0, s1, s2, s3⟩, s4⟩; go_simp <;> with_reducible rfl) ?_
            simp only [Act.put, sA, sB, sC]
            refine tk (i := 1) (oi := ⟨some 11, .move (.tmp 3), 3, "ref.go:25", #[], none⟩) hH.out (by rintro w ⟨⟨s0, s1, s2, s3⟩, s4⟩; go_simp <;> with_reducible rfl) ?_
            simp only [Act.put, sA, sB, sC]
            refine tk (i := 2) (oi := ⟨some 12, .indexAddr 26 (.tmp 10) (.tmp 11), 0, "ref.go:25", #[⟨0, .data⟩, ⟨1, .data⟩], none⟩) hH.out (by rintro w ⟨⟨s0, s1, s2, s3⟩, s4⟩; go_simp <;> with_reducible rfl) ?_
            simp only [Act.put, sA, sB, sC]
            refine tk (i := 3) (oi := ⟨some 13, .load 54 (.tmp 12), 54, "ref.go:25", #[⟨2, .data⟩], none⟩) hH.out (by rintro w ⟨⟨s0, s1, s2, s3⟩, s4⟩; go_simp <;> with_reducible rfl) ?_
            simp only [Act.put, sA, sB, sC]
            refine rdy (i := 4) (oi := ⟨some 14, .call ⟨.value (.func 84), #[.tmp 13], #[54]⟩, 4, "ref.go:25", #[⟨3, .data⟩], none⟩) (fun K hK => ?_)
            go_simp
            refine (HW.out _).mono ?_
            rintro x w5 ⟨rfl, a5⟩
            have HA5 := Lib.hid ((Adv.refl Nul wr).drew.trans a5)
            have K1 := Lib.hid (HC1.out w5 HA5.out)
            clear a5
            go_wp2_with fail
            refine hK.out _ _ (by first | with_reducible exact K1.out | with_reducible exact K0.out) (fun hHeld => ?_)
            replace hH := Lib.hid hHeld
            clear hK K hHeld
            try simp only [Act.put, sA, sB, sC]
            refine tk (i := 5) (oi := ⟨some 15, .unOp .not 4 (.tmp 14), 4, "ref.go:25", #[⟨4, .data⟩], none⟩) hH.out (by rintro w ⟨⟨s0, s1, s2, s3⟩, s4⟩; go_simp <;> with_reducible rfl) ?_
            simp only [Act.put, sA, sB, sC]
            refine tk (i := 6) (oi := ⟨some 16, .move (.tmp 15), 4, "ref.go:25", #[⟨5, .data⟩, ⟨4, .chain⟩], none⟩) hH.out (by rintro w ⟨⟨s0, s1, s2, s3⟩, s4⟩; go_simp <;> with_reducible rfl) ?_
            simp only [Act.put, sA, sB, sC]
            refine tk (i := 7) (oi := { dst := some 17, op := .move (.tmp 3), type := 3, pos := "ref.go:25", after := #[⟨6, .guard⟩], guard := some (6, false) }) hH.out (by rintro w ⟨⟨s0, s1, s2, s3⟩, s4⟩; go_simp <;> with_reducible rfl) ?_
            simp only [Act.put, sA, sB, sC]
            refine tk (i := 8) (oi := { dst := some 18, op := .binOp .gtr 3 (.tmp 17) (.const (Go.Value.int Go.IntKind.i64 0)) 3, type := 4, pos := "ref.go:25", after := #[⟨7, .data⟩, ⟨6, .guard⟩], guard := some (6, false) }) hH.out (by rintro w ⟨⟨s0, s1, s2, s3⟩, s4⟩; go_simp <;> with_reducible rfl) ?_
            simp only [Act.put, sA, sB, sC]
            refine tk (i := 9) (oi := { dst := some 19, op := .move (.tmp 18), type := 4, pos := "ref.go:25", after := #[⟨8, .data⟩, ⟨6, .chain⟩, ⟨6, .guard⟩], guard := some (6, false) }) hH.out (by rintro w ⟨⟨s0, s1, s2, s3⟩, s4⟩; go_simp <;> with_reducible rfl) ?_
            simp only [Act.put, sA, sB, sC]
            refine tk (i := 10) (oi := { dst := some 20, op := .move (.tmp 0), type := 26, pos := "ref.go:25", after := #[⟨9, .guard⟩], guard := some (9, true) }) hH.out (by rintro w ⟨⟨s0, s1, s2, s3⟩, s4⟩; go_simp <;> with_reducible rfl) ?_
            simp only [Act.put, sA, sB, sC]
            refine tk (i := 11) (oi := { dst := some 21, op := .move (.tmp 3), type := 3, pos := "ref.go:25", after := #[⟨9, .guard⟩], guard := some (9, true) }) hH.out (by rintro w ⟨⟨s0, s1, s2, s3⟩, s4⟩; go_simp <;> with_reducible rfl) ?_
            simp only [Act.put, sA, sB, sC]
            refine tk (i := 12) (oi := { dst := some 22, op := .indexAddr 26 (.tmp 20) (.tmp 21), type := 0, pos := "ref.go:25", after := #[⟨10, .data⟩, ⟨11, .data⟩, ⟨9, .guard⟩], guard := some (9, true) }) hH.out (by rintro w ⟨⟨s0, s1, s2, s3⟩, s4⟩; go_simp <;> with_reducible rfl) ?_
            simp only [Act.put, sA, sB, sC]
            refine tk (i := 13) (oi := { dst := some 23, op := .fieldAddr 54 (.tmp 22) 0, type := 0, pos := "ref.go:25", after := #[⟨12, .data⟩, ⟨9, .guard⟩], guard := some (9, true) }) hH.out (by rintro w ⟨⟨s0, s1, s2, s3⟩, s4⟩; go_simp <;> with_reducible rfl) ?_
            simp only [Act.put, sA, sB, sC]
            refine tk (i := 14) (oi := { dst := some 24, op := .load 9 (.tmp 23), type := 9, pos := "ref.go:25", after := #[⟨13, .data⟩, ⟨9, .guard⟩], guard := some (9, true) }) hH.out (by rintro w ⟨⟨s0, s1, s2, s3⟩, s4⟩; go_simp <;> with_reducible rfl) ?_
            simp only [Act.put, sA, sB, sC]
            refine tk (i := 15) (oi := { dst := some 25, op := .move (.tmp 0), type := 26, pos := "ref.go:25", after := #[⟨9, .guard⟩], guard := some (9, true) }) hH.out (by rintro w ⟨⟨s0, s1, s2, s3⟩, s4⟩; go_simp <;> with_reducible rfl) ?_
            simp only [Act.put, sA, sB, sC]
            refine tk (i := 16) (oi := { dst := some 26, op := .move (.tmp 3), type := 3, pos := "ref.go:25", after := #[⟨9, .guard⟩], guard := some (9, true) }) hH.out (by rintro w ⟨⟨s0, s1, s2, s3⟩, s4⟩; go_simp <;> with_reducible rfl) ?_
            simp only [Act.put, sA, sB, sC]
            refine tk (i := 17) (oi := { dst := some 27, op := .binOp .sub 3 (.tmp 26) (.const (Go.Value.int Go.IntKind.i64 1)) 3, type := 3, pos := "ref.go:25", after := #[⟨16, .data⟩, ⟨9, .guard⟩], guard := some (9, true) }) hH.out (by rintro w ⟨⟨s0, s1, s2, s3⟩, s4⟩; go_simp <;> with_reducible rfl) ?_
            simp only [Act.put, sA, sB, sC]
            refine tk (i := 18) (oi := { dst := some 28, op := .indexAddr 26 (.tmp 25) (.tmp 27), type := 0, pos := "ref.go:25", after := #[⟨15, .data⟩, ⟨17, .data⟩, ⟨9, .guard⟩], guard := some (9, true) }) hH.out (by rintro w ⟨⟨s0, s1, s2, s3⟩, s4⟩; go_simp <;> with_reducible rfl) ?_
            simp only [Act.put, sA, sB, sC]
            refine tk (i := 19) (oi := { dst := some 29, op := .fieldAddr 54 (.tmp 28) 0, type := 0, pos := "ref.go:25", after := #[⟨18, .data⟩, ⟨9, .guard⟩], guard := some (9, true) }) hH.out (by rintro w ⟨⟨s0, s1, s2, s3⟩, s4⟩; go_simp <;> with_reducible rfl) ?_
            simp only [Act.put, sA, sB, sC]
            refine tk (i := 20) (oi := { dst := some 30, op := .load 9 (.tmp 29), type := 9, pos := "ref.go:25", after := #[⟨19, .data⟩, ⟨9, .guard⟩], guard := some (9, true) }) hH.out (by rintro w ⟨⟨s0, s1, s2, s3⟩, s4⟩; go_simp <;> with_reducible rfl) ?_
            simp only [Act.put, sA, sB, sC]
            refine tk (i := 21) (oi := { dst := some 31, op := .binOp .leq 9 (.tmp 24) (.tmp 30) 9, type := 4, pos := "ref.go:25", after := #[⟨14, .data⟩, ⟨20, .data⟩, ⟨9, .guard⟩], guard := some (9, true) }) hH.out (by rintro w ⟨⟨s0, s1, s2, s3⟩, s4⟩; go_simp <;> with_reducible rfl) ?_
            simp only [Act.put, sA, sB, sC]
            refine tk (i := 22) (oi := { dst := some 32, op := .pick (.tmp 19) (.tmp 31) (.const (Go.Value.bool false)), type := 4, pos := "ref.go:25", after := #[⟨9, .data⟩, ⟨21, .data⟩, ⟨6, .guard⟩], guard := some (6, false) }) hH.out (by rintro w ⟨⟨s0, s1, s2, s3⟩, s4⟩; go_simp <;> with_reducible rfl) ?_
            simp only [Act.put, sA, sB, sC]
            refine tk (i := 23) (oi := ⟨some 33, .pick (.tmp 16) (.const (Go.Value.bool true)) (.tmp 32), 4, "ref.go:25", #[⟨6, .data⟩, ⟨22, .data⟩], none⟩) hH.out (by rintro w ⟨⟨s0, s1, s2, s3⟩, s4⟩; go_simp <;> with_reducible rfl) ?_
            simp only [Act.put, sA, sB, sC]
            refine wpAnyH_done (by kernel_rfl) ?_ _
            try simp only [hwm]
            clear hwm
            have HA1 := Lib.hid (HA.out.trans HA5.out)
            obtain rfl := HNL.out (by trivial)
            have hle := HLE2.out
            rw [hle]
            clear hle
            go_wp2_with fail
            go_ret
            exact ⟨rfl, HA1.out⟩
        | false =>
          refine rstart (S := (fun w' => (w'.cell? ⟨b1, o1 + (m + 1) * 4, none⟩ = some (.string s) ∧ w'.cell? ⟨b1, o1 + (m + 1) * 4 + 1, none⟩ = some (.int .i64 i) ∧ w'.cell? ⟨b1, o1 + (m + 1) * 4 + 2, none⟩ = some (.int .i64 g) ∧ w'.cell? ⟨b1, o1 + (m + 1) * 4 + 3, none⟩ = some (.int .i64 kd)) ∧ w'.cell? ⟨b1, o1 + m * 4, none⟩ = some (.string d))) (by first | with_reducible exact K1.out | with_reducible exact K0.out) (fun hH => ?_)
          refine tk (i := 0) (oi := ⟨some 10, .move (.tmp 0), 26, "ref.go:25", #[], none⟩) hH.out (by rintro w ⟨⟨s0, s1, s2, s3⟩, s4⟩; go_simp <;> with_reducible rfl) ?_
          simp only [Act.put, sA, sB, sC]
          refine tk (i := 1) (oi := ⟨some 11, .move (.tmp 3), 3, "ref.go:25", #[], none⟩) hH.out (by rintro w ⟨⟨s0, s1, s2, s3⟩, s4⟩; go_simp <;> with_reducible rfl) ?_
          simp only [Act.put, sA, sB, sC]
          refine tk (i := 2) (oi := ⟨some 12, .indexAddr 26 (.tmp 10) (.tmp 11), 0, "ref.go:25", #[⟨0, .data⟩, ⟨1, .data⟩], none⟩) hH.out (by rintro w ⟨⟨s0, s1, s2, s3⟩, s4⟩; go_simp <;> with_reducible rfl) ?_
          simp only [Act.put, sA, sB, sC]
          refine tk (i := 3) (oi := ⟨some 13, .load 54 (.tmp 12), 54, "ref.go:25", #[⟨2, .data⟩], none⟩) hH.out (by rintro w ⟨⟨s0, s1, s2, s3⟩, s4⟩; go_simp <;> with_reducible rfl) ?_
          simp only [Act.put, sA, sB, sC]
          refine rdy (i := 4) (oi := ⟨some 14, .call ⟨.value (.func 84), #[.tmp 13], #[54]⟩, 4, "ref.go:25", #[⟨3, .data⟩], none⟩) (fun K hK => ?_)
          go_simp
          refine (HW.out _).mono ?_
          rintro x w5 ⟨rfl, a5⟩
          have HA5 := Lib.hid ((Adv.refl Nul wr).drew.trans a5)
          have K1 := Lib.hid (HC1.out w5 HA5.out)
          clear a5
          go_wp2_with fail
          refine hK.out _ _ (by first | with_reducible exact K1.out | with_reducible exact K0.out) (fun hHeld => ?_)
          replace hH := Lib.hid hHeld
          clear hK K hHeld
          try simp only [Act.put, sA, sB, sC]
          refine tk (i := 5) (oi := ⟨some 15, .unOp .not 4 (.tmp 14), 4, "ref.go:25", #[⟨4, .data⟩], none⟩) hH.out (by rintro w ⟨⟨s0, s1, s2, s3⟩, s4⟩; go_simp <;> with_reducible rfl) ?_
          simp only [Act.put, sA, sB, sC]
          refine tk (i := 6) (oi := ⟨some 16, .move (.tmp 15), 4, "ref.go:25", #[⟨5, .data⟩, ⟨4, .chain⟩], none⟩) hH.out (by rintro w ⟨⟨s0, s1, s2, s3⟩, s4⟩; go_simp <;> with_reducible rfl) ?_
          simp only [Act.put, sA, sB, sC]
          refine tks (i := 7) (oi := { dst := some 17, op := .move (.tmp 3), type := 3, pos := "ref.go:25", after := #[⟨6, .guard⟩], guard := some (6, false) }) hH.out ?_
          try simp only [Act.put, sA, sB, sC]
          refine tks (i := 8) (oi := { dst := some 18, op := .binOp .gtr 3 (.tmp 17) (.const (Go.Value.int Go.IntKind.i64 0)) 3, type := 4, pos := "ref.go:25", after := #[⟨7, .data⟩, ⟨6, .guard⟩], guard := some (6, false) }) hH.out ?_
          try simp only [Act.put, sA, sB, sC]
          refine tks (i := 9) (oi := { dst := some 19, op := .move (.tmp 18), type := 4, pos := "ref.go:25", after := #[⟨8, .data⟩, ⟨6, .chain⟩, ⟨6, .guard⟩], guard := some (6, false) }) hH.out ?_
          try simp only [Act.put, sA, sB, sC]
          refine tks (i := 10) (oi := { dst := some 20, op := .move (.tmp 0), type := 26, pos := "ref.go:25", after := #[⟨9, .guard⟩], guard := some (9, true) }) hH.out ?_
          try simp only [Act.put, sA, sB, sC]
          refine tks (i := 11) (oi := { dst := some 21, op := .move (.tmp 3), type := 3, pos := "ref.go:25", after := #[⟨9, .guard⟩], guard := some (9, true) }) hH.out ?_
          try simp only [Act.put, sA, sB, sC]
          refine tks (i := 12) (oi := { dst := some 22, op := .indexAddr 26 (.tmp 20) (.tmp 21), type := 0, pos := "ref.go:25", after := #[⟨10, .data⟩, ⟨11, .data⟩, ⟨9, .guard⟩], guard := some (9, true) }) hH.out ?_
          try simp only [Act.put, sA, sB, sC]
          refine tks (i := 13) (oi := { dst := some 23, op := .fieldAddr 54 (.tmp 22) 0, type := 0, pos := "ref.go:25", after := #[⟨12, .data⟩, ⟨9, .guard⟩], guard := some (9, true) }) hH.out ?_
          try simp only [Act.put, sA, sB, sC]
          refine tks (i := 14) (oi := { dst := some 24, op := .load 9 (.tmp 23), type := 9, pos := "ref.go:25", after := #[⟨13, .data⟩, ⟨9, .guard⟩], guard := some (9, true) }) hH.out ?_
          try simp only [Act.put, sA, sB, sC]
          refine tks (i := 15) (oi := { dst := some 25, op := .move (.tmp 0), type := 26, pos := "ref.go:25", after := #[⟨9, .guard⟩], guard := some (9, true) }) hH.out ?_
          try simp only [Act.put, sA, sB, sC]
          refine tks (i := 16) (oi := { dst := some 26, op := .move (.tmp 3), type := 3, pos := "ref.go:25", after := #[⟨9, .guard⟩], guard := some (9, true) }) hH.out ?_
          try simp only [Act.put, sA, sB, sC]
          refine tks (i := 17) (oi := { dst := some 27, op := .binOp .sub 3 (.tmp 26) (.const (Go.Value.int Go.IntKind.i64 1)) 3, type := 3, pos := "ref.go:25", after := #[⟨16, .data⟩, ⟨9, .guard⟩], guard := some (9, true) }) hH.out ?_
          try simp only [Act.put, sA, sB, sC]
          refine tks (i := 18) (oi := { dst := some 28, op := .indexAddr 26 (.tmp 25) (.tmp 27), type := 0, pos := "ref.go:25", after := #[⟨15, .data⟩, ⟨17, .data⟩, ⟨9, .guard⟩], guard := some (9, true) }) hH.out ?_
          try simp only [Act.put, sA, sB, sC]
          refine tks (i := 19) (oi := { dst := some 29, op := .fieldAddr 54 (.tmp 28) 0, type := 0, pos := "ref.go:25", after := #[⟨18, .data⟩, ⟨9, .guard⟩], guard := some (9, true) }) hH.out ?_
          try simp only [Act.put, sA, sB, sC]
          refine tks (i := 20) (oi := { dst := some 30, op := .load 9 (.tmp 29), type := 9, pos := "ref.go:25", after := #[⟨19, .data⟩, ⟨9, .guard⟩], guard := some (9, true) }) hH.out ?_
          try simp only [Act.put, sA, sB, sC]
          refine tks (i := 21) (oi := { dst := some 31, op := .binOp .leq 9 (.tmp 24) (.tmp 30) 9, type := 4, pos := "ref.go:25", after := #[⟨14, .data⟩, ⟨20, .data⟩, ⟨9, .guard⟩], guard := some (9, true) }) hH.out ?_
          try simp only [Act.put, sA, sB, sC]
          refine tks (i := 22) (oi := { dst := some 32, op := .pick (.tmp 19) (.tmp 31) (.const (Go.Value.bool false)), type := 4, pos := "ref.go:25", after := #[⟨9, .data⟩, ⟨21, .data⟩, ⟨6, .guard⟩], guard := some (6, false) }) hH.out ?_
          try simp only [Act.put, sA, sB, sC]
          refine tk (i := 23) (oi := ⟨some 33, .pick (.tmp 16) (.const (Go.Value.bool true)) (.tmp 32), 4, "ref.go:25", #[⟨6, .data⟩, ⟨22, .data⟩], none⟩) hH.out (by rintro w ⟨⟨s0, s1, s2, s3⟩, s4⟩; go_simp <;> with_reducible rfl) ?_
          simp only [Act.put, sA, sB, sC]
          refine wpAnyH_done (by kernel_rfl) ?_ _
          have HA1 := Lib.hid (HA.out.trans HA5.out)
          obtain rfl := HNO.out (by trivial)
          go_wp2_with fail
          go_ret
          exact ⟨rfl, HA1.out⟩
    · obtain rfl : k = n := by omega
      have hr : RiseL l := rise_of fun i hi => HALL.out i (by rw [HN.out]; exact hi)
      obtain rfl : R = true := HRR.out.trans (decide_eq_true hr)
      clear hlt hk hr
      go_wp2_with fail
      go_ret
      exact ⟨rfl, HA.out⟩
end Go.Proofs.Ytpgeebhepegpaaa
