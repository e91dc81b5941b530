/- Slots sorted: the insertion sort's walk, SortFunc. slices.SortFunc of at most twelve. -/
import Derived.Test.YtcglfknkkeaegaaGreatDoorMq22
namespace Go.Proofs.YtcglfknkkeaegaaGreatDoor
open Go.ChangeShapes Go.WideShapes Go.ChangeAt Go.RowKit Go.Maps
set_option maxRecDepth 3000 in
theorem list1_lt {x y : Slt} (h : lessT x y) (w : World) : Calls Tryz.prog 86 #[.agg (tc x), .agg (tc y)] w fun e w' => e = .returned (.int .i64 (-1)) ∧ Adv Nul w Nul w' := by
  have := list1_any x y w
  rwa [(lessB_iff _ _).1 h] at this
set_option maxRecDepth 3000 in
theorem list1_ge {x y : Slt} (h : ¬ lessT x y) (hne : bkT x ≠ bkT y) (w : World) : Calls Tryz.prog 86 #[.agg (tc x), .agg (tc y)] w fun e w' => e = .returned (.int .i64 1) ∧ Adv Nul w Nul w' := by
  have := list1_any x y w
  have e : ordB (bkT x) (bkT y) = 1 := by rw [ordB_vals, if_neg (show ¬ lessB (bkT x) (bkT y) from h), if_neg (fun k => hne (Bk.ext_ k))]
  rwa [e] at this
set_option maxRecDepth 3000 in
theorem ins_step {w W : World} {g cap i k : Nat} {A P P' S rest D : List Slt} {a x : Slt} {t9 : Value} (h0 : P = P' ++ [a]) (hk : k = P'.length) (hD : D = P' ++ a :: x :: (S ++ rest)) {q0 : k < D.length} {q1 : k + 1 < D.length} (hD0 : D[k] = a) (hD1 : D[k + 1] = x) (hA : A = P ++ S) (hS : ∀ y ∈ S, lessT x y) (hl : lessT x a)
    (ht : TB W g cap ((D.set (k + 1) (D[k]'q0)).set k (D[k + 1]'q1))) (ha : Adv (One g) w (One g) W) (h9 : t9 = .int .i64 (k : Int)) (hi : P.length ≤ i) : InsI w g cap i A x rest t9 W := by
  rw [hD0, hD1, hk, hD, swap_l] at ht
  refine ⟨P', a :: S, ?_, ?_, by rw [h9, hk], ht, fun y hy => ?_, ha⟩
  · rw [hA, h0]; simp
  · rw [h0] at hi; simp at hi; omega
  · rcases List.mem_cons.1 hy with e | e
    · rw [e]; exact hl
    · exact hS y e
set_option maxRecDepth 3000 in
set_option maxHeartbeats 6400000 in
theorem ins_p {w : World} {g cap n : Nat} {l : List Slt} (h : TB w g cap l) (hn : n = l.length) (h1 : 1 ≤ n) (h64 : n ≤ 64) (ha : AprT l) :
    Calls Tryz.prog 152 #[.slice (some ⟨g, 0, none⟩) n cap, .int .i64 0, .int .i64 (n : Int), .func (.func 86) #[] #[]] w fun e w' => e = .returned (.tuple #[]) ∧ TB w' g cap (srtT l) ∧ Adv (One g) w (One g) w' := by
  have HT := Lib.hid h
  have HN := Lib.hid hn
  have HA := Lib.hid ha
  have hn64 : (n : Int) ≤ 64 := by omega
  have hn1 : (1 : Int) ≤ (n : Int) := by omega
  have HN1 := Lib.hid h1
  clear h hn h1 h64 ha
  go_enter Tryz.func152, Tryz.ntmps152
  go_wp2_with fail
  go_loopw [8] (InsO w g cap n l) (fun t _ => n - (intOf t).toNat)
  case atStart =>
    refine ⟨1, Nat.le_refl _, HN1.out, rfl, ?_, Adv.refl _ _⟩
    have hl := HN.out
    have := HN1.out
    have hT := HT.out
    obtain ⟨x, l', rfl⟩ : ∃ x l', l = x :: l' := by
      cases l with
      | nil => simp at hl; omega
      | cons x l' => exact ⟨x, l', rfl⟩
    exact hT
  case round =>
    obtain ⟨i, hi1, hi, rfl, ht, ha⟩ := hrel
    have HT2 := Lib.hid ht
    have HA2 := Lib.hid ha
    have HI1 := Lib.hid hi1
    by_cases hlt : i < n
    · have hil : i < l.length := by rw [← HN.out]; exact hlt
      have HIL := Lib.hid hil
      obtain ⟨x, hx⟩ : ∃ x, x = l[i] := ⟨_, rfl⟩
      obtain ⟨A, hA⟩ : ∃ A, A = srtT (l.take i) := ⟨_, rfl⟩
      obtain ⟨rest, hr⟩ : ∃ r, r = l.drop (i + 1) := ⟨_, rfl⟩
      have hd : l.drop i = x :: rest := by rw [hr, hx]; exact List.drop_eq_getElem_cons hil
      have HAL := Lib.hid (show A.length = i by rw [hA, srtT_len, List.length_take]; omega)
      have HIN := Lib.hid (show insT x A ++ rest = srtT (l.take (i + 1)) ++ l.drop (i + 1) by rw [srt_take hil, ← hA, ← hr]; exact congrArg (fun y => insT y A ++ rest) hx)
      have hapr : AprT (l.take i) := List.Pairwise.sublist (List.take_sublist _ _) HA.out
      have HSR := Lib.hid (show SrtT A by rw [hA]; exact srtT_srt hapr)
      have HNE := Lib.hid (show ∀ y ∈ A, bkT x ≠ bkT y from fun y hy => by
        rw [hA, srtT_mem hapr] at hy
        obtain ⟨j, hj, rfl⟩ := List.getElem_of_mem hy
        rw [List.length_take] at hj
        rw [List.getElem_take, hx]
        exact ((List.pairwise_iff_getElem.1 HA.out) j i (by omega) hil (by omega)).symm)
      have HST := Lib.hid (show InsI w g cap i A x rest (.int .i64 (i : Int)) wr from ⟨A, [], by simp, by rw [HAL.out]; exact Nat.le_refl _, by rw [HAL.out], by
        rw [hd, ← hA] at ht
        exact ht, fun y hy => absurd hy (by simp), ha⟩)
      have HLN := Lib.hid (show A.length + 1 + rest.length = n by rw [HAL.out, hr, List.length_drop, HN.out]; omega)
      have hin : (i : Int) < (n : Int) := by omega
      have HLT := Lib.hid hlt
      clear hi1 hi ht ha hil hx hA hr hd hapr hlt
      go_wp2_with fail
      go_loopw [9] (InsI w g cap i A x rest) (fun t _ => (intOf t).toNat)
      case atStart => exact HST.out
      case round =>
        obtain ⟨P, S, hPS, hPi, rfl, ht, hS, ha⟩ := hrel
        have HP := Lib.hid hPS
        have HPI := Lib.hid hPi
        have HTJ := Lib.hid ht
        have HSS := Lib.hid hS
        have HAJ := Lib.hid ha
        rcases List.eq_nil_or_concat P with h0 | ⟨P', a, h0⟩
        · have HF := Lib.hid (show ∀ W, TB W g cap (P ++ x :: (S ++ rest)) → TB W g cap (srtT (l.take (i + 1)) ++ l.drop (i + 1)) from fun W k => by
            rw [h0] at k
            rw [← HIN.out, HP.out, h0]
            have := insT_at (x := x) (A := []) (B := S) (fun y hy => absurd hy (by simp)) HSS.out
            rw [show ([] : List Slt) ++ S = S from rfl] at this ⊢
            rw [this]
            exact k)
          have HFT := Lib.hid (HF.out _ ht)
          obtain ⟨j, hj⟩ : ∃ j, j = P.length := ⟨_, rfl⟩
          rw [← hj]
          obtain rfl : j = 0 := by rw [hj, h0]; rfl
          have K0 := Lib.hid (show TB wr.drew g cap (P ++ x :: (S ++ rest)) from ht.drew)
          have HFD := Lib.hid HFT.out.drew
          have HAD := Lib.hid HAJ.out.drew
          clear hPS hPi ht hS ha h0 hj HF
          go_upto_region 4 with (fail)
          refine rstart (S := (fun w' => TB w' g cap (P ++ x :: (S ++ rest)))) (by first | with_reducible exact K0.out) (fun hH => ?_)
          refine tk (i := 0) (oi := ⟨some 18, .move (.tmp 9), 3, "zsortanyfunc.go:12", #[], none⟩) hH.out (by rintro w s0; go_simp <;> with_reducible rfl) ?_
          simp only [Act.put, sA, sB, sC]
          refine tk (i := 1) (oi := ⟨some 19, .move (.tmp 1), 3, "zsortanyfunc.go:12", #[], none⟩) hH.out (by rintro w s0; go_simp <;> with_reducible rfl) ?_
          simp only [Act.put, sA, sB, sC]
          refine tk (i := 2) (oi := ⟨some 20, .binOp .gtr 3 (.tmp 18) (.tmp 19) 3, 4, "zsortanyfunc.go:12", #[⟨0, .data⟩, ⟨1, .data⟩], none⟩) hH.out (by rintro w s0; go_simp <;> with_reducible rfl) ?_
          simp only [Act.put, sA, sB, sC]
          refine tk (i := 3) (oi := ⟨some 21, .move (.tmp 20), 4, "zsortanyfunc.go:12", #[⟨2, .data⟩], none⟩) hH.out (by rintro w s0; go_simp <;> with_reducible rfl) ?_
          simp only [Act.put, sA, sB, sC]
          refine tks (i := 4) (oi := { dst := some 22, op := .move (.tmp 3), type := 156, pos := "zsortanyfunc.go:12", after := #[⟨3, .guard⟩], guard := some (3, true) }) hH.out ?_
          try simp only [Act.put, sA, sB, sC]
          refine tks (i := 5) (oi := { dst := some 23, op := .move (.tmp 0), type := 57, pos := "zsortanyfunc.go:12", after := #[⟨3, .guard⟩], guard := some (3, true) }) hH.out ?_
          try simp only [Act.put, sA, sB, sC]
          refine tks (i := 6) (oi := { dst := some 24, op := .move (.tmp 9), type := 3, pos := "zsortanyfunc.go:12", after := #[⟨3, .guard⟩], guard := some (3, true) }) hH.out ?_
          try simp only [Act.put, sA, sB, sC]
          refine tks (i := 7) (oi := { dst := some 25, op := .indexAddr 57 (.tmp 23) (.tmp 24), type := 0, pos := "zsortanyfunc.go:12", after := #[⟨5, .data⟩, ⟨6, .data⟩, ⟨3, .guard⟩], guard := some (3, true) }) hH.out ?_
          try simp only [Act.put, sA, sB, sC]
          refine tks (i := 8) (oi := { dst := some 26, op := .load 44 (.tmp 25), type := 44, pos := "zsortanyfunc.go:12", after := #[⟨7, .data⟩, ⟨3, .guard⟩], guard := some (3, true) }) hH.out ?_
          try simp only [Act.put, sA, sB, sC]
          refine tks (i := 9) (oi := { dst := some 27, op := .move (.tmp 0), type := 57, pos := "zsortanyfunc.go:12", after := #[⟨3, .guard⟩], guard := some (3, true) }) hH.out ?_
          try simp only [Act.put, sA, sB, sC]
          refine tks (i := 10) (oi := { dst := some 28, op := .move (.tmp 9), type := 3, pos := "zsortanyfunc.go:12", after := #[⟨3, .guard⟩], guard := some (3, true) }) hH.out ?_
          try simp only [Act.put, sA, sB, sC]
          refine tks (i := 11) (oi := { dst := some 29, op := .binOp .sub 3 (.tmp 28) (.const (Go.Value.int Go.IntKind.i64 1)) 3, type := 3, pos := "zsortanyfunc.go:12", after := #[⟨10, .data⟩, ⟨3, .guard⟩], guard := some (3, true) }) hH.out ?_
          try simp only [Act.put, sA, sB, sC]
          refine tks (i := 12) (oi := { dst := some 30, op := .indexAddr 57 (.tmp 27) (.tmp 29), type := 0, pos := "zsortanyfunc.go:12", after := #[⟨9, .data⟩, ⟨11, .data⟩, ⟨3, .guard⟩], guard := some (3, true) }) hH.out ?_
          try simp only [Act.put, sA, sB, sC]
          refine tks (i := 13) (oi := { dst := some 31, op := .load 44 (.tmp 30), type := 44, pos := "zsortanyfunc.go:12", after := #[⟨12, .data⟩, ⟨3, .guard⟩], guard := some (3, true) }) hH.out ?_
          try simp only [Act.put, sA, sB, sC]
          refine tks (i := 14) (oi := { dst := some 32, op := .call ⟨.value (.tmp 22), #[.tmp 26, .tmp 31], #[44, 44]⟩, type := 3, pos := "zsortanyfunc.go:12", after := #[⟨4, .data⟩, ⟨8, .data⟩, ⟨13, .data⟩, ⟨3, .chain⟩, ⟨3, .guard⟩], guard := some (3, true) }) hH.out ?_
          try simp only [Act.put, sA, sB, sC]
          refine tks (i := 15) (oi := { dst := some 33, op := .binOp .lss 3 (.tmp 32) (.const (Go.Value.int Go.IntKind.i64 0)) 3, type := 4, pos := "zsortanyfunc.go:12", after := #[⟨14, .data⟩, ⟨3, .guard⟩], guard := some (3, true) }) hH.out ?_
          try simp only [Act.put, sA, sB, sC]
          refine tk (i := 16) (oi := ⟨some 34, .pick (.tmp 21) (.tmp 33) (.const (Go.Value.bool false)), 4, "zsortanyfunc.go:12", #[⟨3, .data⟩, ⟨15, .data⟩], none⟩) hH.out (by rintro w s0; go_simp <;> with_reducible rfl) ?_
          simp only [Act.put, sA, sB, sC]
          refine wpAnyH_done (by kernel_rfl) ?_ _
          go_wp2_with fail
          have h1 := HLT.out
          exact ⟨⟨i + 1, by omega, by omega, by go_num, HFD.out, HAD.out⟩, by simp [intOf]; omega⟩
        · rw [List.concat_eq_append] at h0
          obtain ⟨k, hk⟩ : ∃ k, k = P'.length := ⟨_, rfl⟩
          have hjk : ((P.length : Nat) : Int) = (k : Int) + 1 := by rw [h0, hk]; simp
          rw [hjk]
          have HPP := Lib.hid h0
          have HK := Lib.hid hk
          obtain ⟨D, hD⟩ : ∃ D, D = P' ++ a :: x :: (S ++ rest) := ⟨_, rfl⟩
          have HD := Lib.hid hD
          have ht2 : TB wr g cap D := by rw [hD]; rw [h0] at ht; simpa using ht
          have HDL := Lib.hid (show k + 1 < D.length ∧ k < D.length by rw [hD, hk]; simp)
          have HD0 := Lib.hid (show D[k]'HDL.out.2 = a by
            have : D[k]? = some a := by rw [hD, hk, List.getElem?_append_right (Nat.le_refl _), Nat.sub_self]; rfl
            rw [List.getElem?_eq_getElem HDL.out.2] at this
            exact Option.some.inj this)
          have HD1 := Lib.hid (show D[k + 1]'HDL.out.1 = x by
            have : D[k + 1]? = some x := by rw [hD, hk, List.getElem?_append_right (by omega)]; simp
            rw [List.getElem?_eq_getElem HDL.out.1] at this
            exact Option.some.inj this)
          have HDN := Lib.hid (show D.length = n by
            have h2 := HLN.out
            have h3 := congrArg List.length HP.out
            rw [h0] at h3
            rw [hD]
            simp at h3 ⊢
            omega)
          have hk1 : (k : Int) + 1 < (n : Int) := by have := HDN.out; have := HDL.out; omega
          have hk0 : (k : Int) < (n : Int) := by omega
          have K0 := Lib.hid (show TB wr.drew g cap D from ht2.drew)
          have hk2 : (0 : Int) ≤ (k : Int) + 1 := by omega
          have hwk : IntKind.i64.wrap (k : Int) = (k : Int) := by rw [IntKind.wrap_i64]; omega
          have hwk1 : IntKind.i64.wrap ((k : Int) + 1) = (k : Int) + 1 := by rw [IntKind.wrap_i64]; omega
          have HAN := Lib.hid (show bkT x ≠ bkT a from HNE.out a (by rw [HP.out, h0]; simp))
          by_cases hl : lessT x a
          · have HL := Lib.hid hl
            have HC := Lib.hid (fun W => list1_lt hl W)
            clear hPS hPi ht hS ha h0 hk hjk hD ht2 hl
            go_upto_region 4 with (fail)
            refine rstart (S := (fun w' => TB w' g cap D)) (by first | with_reducible exact K1.out | with_reducible exact K0.out) (fun hH => ?_)
            refine tk (i := 0) (oi := ⟨some 18, .move (.tmp 9), 3, "zsortanyfunc.go:12", #[], none⟩) hH.out (by rintro w s0; go_simp <;> with_reducible rfl) ?_
            simp only [Act.put, sA, sB, sC]
            refine tk (i := 1) (oi := ⟨some 19, .move (.tmp 1), 3, "zsortanyfunc.go:12", #[], none⟩) hH.out (by rintro w s0; go_simp <;> with_reducible rfl) ?_
            simp only [Act.put, sA, sB, sC]
            refine tk (i := 2) (oi := ⟨some 20, .binOp .gtr 3 (.tmp 18) (.tmp 19) 3, 4, "zsortanyfunc.go:12", #[⟨0, .data⟩, ⟨1, .data⟩], none⟩) hH.out (by rintro w s0; go_simp <;> with_reducible rfl) ?_
            simp only [Act.put, sA, sB, sC]
            refine tk (i := 3) (oi := ⟨some 21, .move (.tmp 20), 4, "zsortanyfunc.go:12", #[⟨2, .data⟩], none⟩) hH.out (by rintro w s0; go_simp <;> with_reducible rfl) ?_
            simp only [Act.put, sA, sB, sC]
            refine tk (i := 4) (oi := { dst := some 22, op := .move (.tmp 3), type := 156, pos := "zsortanyfunc.go:12", after := #[⟨3, .guard⟩], guard := some (3, true) }) hH.out (by rintro w s0; go_simp <;> with_reducible rfl) ?_
            simp only [Act.put, sA, sB, sC]
            refine tk (i := 5) (oi := { dst := some 23, op := .move (.tmp 0), type := 57, pos := "zsortanyfunc.go:12", after := #[⟨3, .guard⟩], guard := some (3, true) }) hH.out (by rintro w s0; go_simp <;> with_reducible rfl) ?_
            simp only [Act.put, sA, sB, sC]
            refine tk (i := 6) (oi := { dst := some 24, op := .move (.tmp 9), type := 3, pos := "zsortanyfunc.go:12", after := #[⟨3, .guard⟩], guard := some (3, true) }) hH.out (by rintro w s0; go_simp <;> with_reducible rfl) ?_
            simp only [Act.put, sA, sB, sC]
            refine tk (i := 7) (oi := { dst := some 25, op := .indexAddr 57 (.tmp 23) (.tmp 24), type := 0, pos := "zsortanyfunc.go:12", after := #[⟨5, .data⟩, ⟨6, .data⟩, ⟨3, .guard⟩], guard := some (3, true) }) hH.out (by rintro w s0; go_simp <;> with_reducible rfl) ?_
            simp only [Act.put, sA, sB, sC]
            refine wpAnyH_take (i := 8) (oi := { dst := some 26, op := .load 44 (.tmp 25), type := 44, pos := "zsortanyfunc.go:12", after := #[⟨7, .data⟩, ⟨3, .guard⟩], guard := some (3, true) }) (v := .agg (tc (D[k + 1]'HDL.out.1))) rfl (by kernel_rfl) (by kernel_rfl) (by kernel_rfl) (fun _ _ _ h => h) (gyl_load rfl (.tmp 25) rfl g rfl (fun _ h => h.row HDL.out.1) Tryz.underlying44 rfl sizeT (tc_size _)) hH.out ?_
            simp only [Act.put, sA, sB, sC]
            refine tk (i := 9) (oi := { dst := some 27, op := .move (.tmp 0), type := 57, pos := "zsortanyfunc.go:12", after := #[⟨3, .guard⟩], guard := some (3, true) }) hH.out (by rintro w s0; go_simp <;> with_reducible rfl) ?_
            simp only [Act.put, sA, sB, sC]
            refine tk (i := 10) (oi := { dst := some 28, op := .move (.tmp 9), type := 3, pos := "zsortanyfunc.go:12", after := #[⟨3, .guard⟩], guard := some (3, true) }) hH.out (by rintro w s0; go_simp <;> with_reducible rfl) ?_
            simp only [Act.put, sA, sB, sC]
            refine tk (i := 11) (oi := { dst := some 29, op := .binOp .sub 3 (.tmp 28) (.const (Go.Value.int Go.IntKind.i64 1)) 3, type := 3, pos := "zsortanyfunc.go:12", after := #[⟨10, .data⟩, ⟨3, .guard⟩], guard := some (3, true) }) hH.out (by rintro w s0; go_simp <;> with_reducible rfl) ?_
            simp only [Act.put, sA, sB, sC]
            refine tk (i := 12) (oi := { dst := some 30, op := .indexAddr 57 (.tmp 27) (.tmp 29), type := 0, pos := "zsortanyfunc.go:12", after := #[⟨9, .data⟩, ⟨11, .data⟩, ⟨3, .guard⟩], guard := some (3, true) }) hH.out (by rintro w s0; go_simp <;> with_reducible rfl) ?_
            simp only [Act.put, sA, sB, sC]
            refine wpAnyH_take (i := 13) (oi := { dst := some 31, op := .load 44 (.tmp 30), type := 44, pos := "zsortanyfunc.go:12", after := #[⟨12, .data⟩, ⟨3, .guard⟩], guard := some (3, true) }) (v := .agg (tc (D[k]'HDL.out.2))) rfl (by kernel_rfl) (by kernel_rfl) (by kernel_rfl) (fun _ _ _ h => h) (gyl_load rfl (.tmp 30) rfl g rfl (fun _ h => h.row HDL.out.2) Tryz.underlying44 rfl sizeT (tc_size _)) hH.out ?_
            simp only [Act.put, sA, sB, sC]
            refine rdy (i := 14) (oi := { dst := some 32, op := .call ⟨.value (.tmp 22), #[.tmp 26, .tmp 31], #[44, 44]⟩, type := 3, pos := "zsortanyfunc.go:12", after := #[⟨4, .data⟩, ⟨8, .data⟩, ⟨13, .data⟩, ⟨3, .chain⟩, ⟨3, .guard⟩], guard := some (3, true) }) (fun K hK => ?_)
            go_simp
            rw [HD0.out, HD1.out]
            refine (HC.out _).mono ?_
            rintro e w4 ⟨rfl, a4⟩
            have HA4 := Lib.hid (Adv.of_drew a4)
            have K1 := Lib.hid (show TB w4 g cap D from K0.out.keep (a4.block g K0.out.lt (fun x => x)))
            clear a4
            go_wp2_with fail
            refine hK.out _ _ (by first | with_reducible exact K1.out | with_reducible exact K0.out) (fun hHeld => ?_)
            replace hH := Lib.hid hHeld
            clear hK K hHeld
            try simp only [Act.put, sA, sB, sC]
            refine tk (i := 15) (oi := { dst := some 33, op := .binOp .lss 3 (.tmp 32) (.const (Go.Value.int Go.IntKind.i64 0)) 3, type := 4, pos := "zsortanyfunc.go:12", after := #[⟨14, .data⟩, ⟨3, .guard⟩], guard := some (3, true) }) hH.out (by rintro w s0; go_simp <;> with_reducible rfl) ?_
            simp only [Act.put, sA, sB, sC]
            refine tk (i := 16) (oi := ⟨some 34, .pick (.tmp 21) (.tmp 33) (.const (Go.Value.bool false)), 4, "zsortanyfunc.go:12", #[⟨3, .data⟩, ⟨15, .data⟩], none⟩) hH.out (by rintro w s0; go_simp <;> with_reducible rfl) ?_
            simp only [Act.put, sA, sB, sC]
            refine wpAnyH_done (by kernel_rfl) ?_ _
            have HAW := Lib.hid ((HAJ.out.trans (adv_wk HA4.out)).drew)
            have K2 := Lib.hid K1.out.drew
            go_upto_region 6 with (fail)
            refine rstart (S := (fun _ => True)) (by first | exact trivial) (fun hH => ?_)
            refine tk (i := 0) (oi := ⟨some 37, .move (.tmp 0), 57, "zsortanyfunc.go:13", #[], none⟩) hH.out (by rintro w s0; go_simp <;> with_reducible rfl) ?_
            simp only [Act.put, sA, sB, sC]
            refine tk (i := 1) (oi := ⟨some 38, .move (.tmp 9), 3, "zsortanyfunc.go:13", #[], none⟩) hH.out (by rintro w s0; go_simp <;> with_reducible rfl) ?_
            simp only [Act.put, sA, sB, sC]
            refine tk (i := 2) (oi := ⟨some 39, .move (.tmp 0), 57, "zsortanyfunc.go:13", #[{ on := 15, ground := Go.Ground.gcOnly Go.Departure.lateStores }], none⟩) hH.out (by rintro w s0; go_simp <;> with_reducible rfl) ?_
            simp only [Act.put, sA, sB, sC]
            refine tk (i := 3) (oi := ⟨some 40, .move (.tmp 9), 3, "zsortanyfunc.go:13", #[{ on := 15, ground := Go.Ground.gcOnly Go.Departure.lateStores }], none⟩) hH.out (by rintro w s0; go_simp <;> with_reducible rfl) ?_
            simp only [Act.put, sA, sB, sC]
            refine tk (i := 4) (oi := ⟨some 41, .binOp .sub 3 (.tmp 40) (.const (Go.Value.int Go.IntKind.i64 1)) 3, 3, "zsortanyfunc.go:13", #[⟨3, .data⟩, { on := 15, ground := Go.Ground.gcOnly Go.Departure.lateStores }], none⟩) hH.out (by rintro w s0; go_simp <;> with_reducible rfl) ?_
            simp only [Act.put, sA, sB, sC]
            refine tk (i := 5) (oi := ⟨some 42, .move (.tmp 0), 57, "zsortanyfunc.go:13", #[], none⟩) hH.out (by rintro w s0; go_simp <;> with_reducible rfl) ?_
            simp only [Act.put, sA, sB, sC]
            refine tk (i := 6) (oi := ⟨some 43, .move (.tmp 9), 3, "zsortanyfunc.go:13", #[], none⟩) hH.out (by rintro w s0; go_simp <;> with_reducible rfl) ?_
            simp only [Act.put, sA, sB, sC]
            refine tk (i := 7) (oi := ⟨some 44, .binOp .sub 3 (.tmp 43) (.const (Go.Value.int Go.IntKind.i64 1)) 3, 3, "zsortanyfunc.go:13", #[⟨6, .data⟩], none⟩) hH.out (by rintro w s0; go_simp <;> with_reducible rfl) ?_
            simp only [Act.put, sA, sB, sC]
            refine tk (i := 8) (oi := ⟨some 45, .indexAddr 57 (.tmp 42) (.tmp 44), 0, "zsortanyfunc.go:13", #[⟨5, .data⟩, ⟨7, .data⟩], none⟩) hH.out (by rintro w s0; go_simp <;> with_reducible rfl) ?_
            simp only [Act.put, sA, sB, sC]
            refine tk (i := 10) (oi := ⟨some 47, .move (.tmp 0), 57, "zsortanyfunc.go:13", #[], none⟩) hH.out (by rintro w s0; go_simp <;> with_reducible rfl) ?_
            simp only [Act.put, sA, sB, sC]
            refine tk (i := 11) (oi := ⟨some 48, .move (.tmp 9), 3, "zsortanyfunc.go:13", #[], none⟩) hH.out (by rintro w s0; go_simp <;> with_reducible rfl) ?_
            simp only [Act.put, sA, sB, sC]
            refine tk (i := 12) (oi := ⟨some 49, .indexAddr 57 (.tmp 47) (.tmp 48), 0, "zsortanyfunc.go:13", #[⟨10, .data⟩, ⟨11, .data⟩], none⟩) hH.out (by rintro w s0; go_simp <;> with_reducible rfl) ?_
            simp only [Act.put, sA, sB, sC]
            refine wpAnyH_ready (rs := [9, 13]) (by kernel_rfl) (by simp) ?_
            refine AllReadyH.cons (o := ⟨some 46, .load 44 (.tmp 45), 44, "zsortanyfunc.go:13", #[⟨8, .data⟩], none⟩) rfl (fun K hK => ?_) (AllReadyH.cons (o := ⟨some 50, .load 44 (.tmp 49), 44, "zsortanyfunc.go:13", #[⟨12, .data⟩], none⟩) rfl (fun K hK => ?_) AllReadyH.nil)
            · refine gst_load (C := tc (D[k]'HDL.out.2)) rfl _ rfl g (K2.out.row HDL.out.2) rfl Tryz.underlying44 rfl sizeT (tc_size _) ?_
              refine hK.out _ _ (by first | exact trivial) (fun hHeld => ?_)
              replace hH := Lib.hid hHeld
              clear hK K hHeld
              try simp only [Act.put, sA, sB, sC]
              refine rdy (i := 13) (oi := ⟨some 50, .load 44 (.tmp 49), 44, "zsortanyfunc.go:13", #[⟨12, .data⟩], none⟩) (fun K hK => ?_)
              refine gst_load (C := tc (D[k + 1]'HDL.out.1)) rfl _ rfl g (K2.out.row HDL.out.1) rfl Tryz.underlying44 rfl sizeT (tc_size _) ?_
              refine hK.out _ _ (by first | exact trivial) (fun hHeld => ?_)
              replace hH := Lib.hid hHeld
              clear hK K hHeld
              try simp only [Act.put, sA, sB, sC]
              refine tk (i := 14) (oi := ⟨some 51, .indexAddr 57 (.tmp 37) (.tmp 38), 0, "zsortanyfunc.go:13", #[⟨0, .data⟩, ⟨1, .data⟩, ⟨0, .phase⟩, ⟨1, .phase⟩, { on := 2, ground := Go.Ground.textOnly Go.Departure.lateStores }, { on := 3, ground := Go.Ground.textOnly Go.Departure.lateStores }, { on := 4, ground := Go.Ground.textOnly Go.Departure.lateStores }, ⟨5, .phase⟩, ⟨6, .phase⟩, ⟨7, .phase⟩, ⟨8, .phase⟩, ⟨9, .phase⟩, { on := 10, ground := Go.Ground.textOnly Go.Departure.lateStores }, { on := 11, ground := Go.Ground.textOnly Go.Departure.lateStores }, { on := 12, ground := Go.Ground.textOnly Go.Departure.lateStoresUnsure }, ⟨13, .phase⟩], none⟩) hH.out (by rintro w s0; go_simp <;> with_reducible rfl) ?_
              simp only [Act.put, sA, sB, sC]
              refine rdy (i := 15) (oi := ⟨none, .store 44 (.tmp 51) (.tmp 46), 0, "zsortanyfunc.go:13", #[⟨14, .data⟩, ⟨9, .data⟩, ⟨0, .phase⟩, ⟨1, .phase⟩, { on := 2, ground := Go.Ground.textOnly Go.Departure.lateStores }, { on := 3, ground := Go.Ground.textOnly Go.Departure.lateStores }, { on := 4, ground := Go.Ground.textOnly Go.Departure.lateStores }, ⟨5, .phase⟩, ⟨6, .phase⟩, ⟨7, .phase⟩, ⟨8, .phase⟩, ⟨9, .phase⟩, { on := 10, ground := Go.Ground.textOnly Go.Departure.lateStores }, { on := 11, ground := Go.Ground.textOnly Go.Departure.lateStores }, { on := 12, ground := Go.Ground.textOnly Go.Departure.lateStoresUnsure }, ⟨13, .phase⟩], none⟩) (fun K hK => ?_)
              refine tst_store rfl _ _ rfl g cap (k + 1) (D[k]'HDL.out.2) K2.out HDL.out.1 rfl rfl ?_
              intro w5 h5 a5
              have K5 := Lib.hid h5
              have HA5 := Lib.hid (HAW.out.trans a5)
              clear h5 a5
              refine hK.out _ _ (by first | exact trivial) (fun hHeld => ?_)
              replace hH := Lib.hid hHeld
              clear hK K hHeld
              try simp only [Act.put]
              refine tk (i := 16) (oi := ⟨some 52, .indexAddr 57 (.tmp 39) (.tmp 41), 0, "zsortanyfunc.go:13", #[⟨2, .data⟩, ⟨4, .data⟩, ⟨0, .phase⟩, ⟨1, .phase⟩, ⟨2, .phase⟩, ⟨3, .phase⟩, ⟨4, .phase⟩, ⟨5, .phase⟩, ⟨6, .phase⟩, ⟨7, .phase⟩, ⟨8, .phase⟩, ⟨9, .phase⟩, ⟨10, .phase⟩, ⟨11, .phase⟩, ⟨12, .phase⟩, ⟨13, .phase⟩, ⟨14, .phase⟩, ⟨15, .phase⟩], none⟩) hH.out (by rintro w s0; go_simp <;> with_reducible rfl) ?_
              simp only [Act.put, sA, sB, sC]
              refine rdy (i := 17) (oi := ⟨none, .store 44 (.tmp 52) (.tmp 50), 0, "zsortanyfunc.go:13", #[⟨16, .data⟩, ⟨13, .data⟩, ⟨15, .chain⟩, ⟨0, .phase⟩, ⟨1, .phase⟩, ⟨2, .phase⟩, ⟨3, .phase⟩, ⟨4, .phase⟩, ⟨5, .phase⟩, ⟨6, .phase⟩, ⟨7, .phase⟩, ⟨8, .phase⟩, ⟨9, .phase⟩, ⟨10, .phase⟩, ⟨11, .phase⟩, ⟨12, .phase⟩, ⟨13, .phase⟩, ⟨14, .phase⟩, ⟨15, .phase⟩], none⟩) (fun K hK => ?_)
              refine tst_store rfl _ _ rfl g cap k (D[k + 1]'HDL.out.1) K5.out (by rw [List.length_set]; exact HDL.out.2) rfl rfl ?_
              intro w6 h6 a6
              have K6 := Lib.hid h6
              have HA6 := Lib.hid (HA5.out.trans a6)
              clear h6 a6
              refine hK.out _ _ (by first | exact trivial) (fun hHeld => ?_)
              replace hH := Lib.hid hHeld
              clear hK K hHeld
              try simp only [Act.put]
              refine wpAnyH_done (by kernel_rfl) ?_ _
              go_wp2_with fail
              exact ⟨ins_step HPP.out HK.out HD.out HD0.out HD1.out HP.out HSS.out HL.out K6.out HA6.out (by go_num) HPI.out, by simp [intOf]⟩
            · refine gst_load (C := tc (D[k + 1]'HDL.out.1)) rfl _ rfl g (K2.out.row HDL.out.1) rfl Tryz.underlying44 rfl sizeT (tc_size _) ?_
              refine hK.out _ _ (by first | exact trivial) (fun hHeld => ?_)
              replace hH := Lib.hid hHeld
              clear hK K hHeld
              try simp only [Act.put, sA, sB, sC]
              refine rdy (i := 9) (oi := ⟨some 46, .load 44 (.tmp 45), 44, "zsortanyfunc.go:13", #[⟨8, .data⟩], none⟩) (fun K hK => ?_)
              refine gst_load (C := tc (D[k]'HDL.out.2)) rfl _ rfl g (K2.out.row HDL.out.2) rfl Tryz.underlying44 rfl sizeT (tc_size _) ?_
              refine hK.out _ _ (by first | exact trivial) (fun hHeld => ?_)
              replace hH := Lib.hid hHeld
              clear hK K hHeld
              try simp only [Act.put, sA, sB, sC]
              refine tk (i := 14) (oi := ⟨some 51, .indexAddr 57 (.tmp 37) (.tmp 38), 0, "zsortanyfunc.go:13", #[⟨0, .data⟩, ⟨1, .data⟩, ⟨0, .phase⟩, ⟨1, .phase⟩, { on := 2, ground := Go.Ground.textOnly Go.Departure.lateStores }, { on := 3, ground := Go.Ground.textOnly Go.Departure.lateStores }, { on := 4, ground := Go.Ground.textOnly Go.Departure.lateStores }, ⟨5, .phase⟩, ⟨6, .phase⟩, ⟨7, .phase⟩, ⟨8, .phase⟩, ⟨9, .phase⟩, { on := 10, ground := Go.Ground.textOnly Go.Departure.lateStores }, { on := 11, ground := Go.Ground.textOnly Go.Departure.lateStores }, { on := 12, ground := Go.Ground.textOnly Go.Departure.lateStoresUnsure }, ⟨13, .phase⟩], none⟩) hH.out (by rintro w s0; go_simp <;> with_reducible rfl) ?_
              simp only [Act.put, sA, sB, sC]
              refine rdy (i := 15) (oi := ⟨none, .store 44 (.tmp 51) (.tmp 46), 0, "zsortanyfunc.go:13", #[⟨14, .data⟩, ⟨9, .data⟩, ⟨0, .phase⟩, ⟨1, .phase⟩, { on := 2, ground := Go.Ground.textOnly Go.Departure.lateStores }, { on := 3, ground := Go.Ground.textOnly Go.Departure.lateStores }, { on := 4, ground := Go.Ground.textOnly Go.Departure.lateStores }, ⟨5, .phase⟩, ⟨6, .phase⟩, ⟨7, .phase⟩, ⟨8, .phase⟩, ⟨9, .phase⟩, { on := 10, ground := Go.Ground.textOnly Go.Departure.lateStores }, { on := 11, ground := Go.Ground.textOnly Go.Departure.lateStores }, { on := 12, ground := Go.Ground.textOnly Go.Departure.lateStoresUnsure }, ⟨13, .phase⟩], none⟩) (fun K hK => ?_)
              refine tst_store rfl _ _ rfl g cap (k + 1) (D[k]'HDL.out.2) K2.out HDL.out.1 rfl rfl ?_
              intro w5 h5 a5
              have K5 := Lib.hid h5
              have HA5 := Lib.hid (HAW.out.trans a5)
              clear h5 a5
              refine hK.out _ _ (by first | exact trivial) (fun hHeld => ?_)
              replace hH := Lib.hid hHeld
              clear hK K hHeld
              try simp only [Act.put]
              refine tk (i := 16) (oi := ⟨some 52, .indexAddr 57 (.tmp 39) (.tmp 41), 0, "zsortanyfunc.go:13", #[⟨2, .data⟩, ⟨4, .data⟩, ⟨0, .phase⟩, ⟨1, .phase⟩, ⟨2, .phase⟩, ⟨3, .phase⟩, ⟨4, .phase⟩, ⟨5, .phase⟩, ⟨6, .phase⟩, ⟨7, .phase⟩, ⟨8, .phase⟩, ⟨9, .phase⟩, ⟨10, .phase⟩, ⟨11, .phase⟩, ⟨12, .phase⟩, ⟨13, .phase⟩, ⟨14, .phase⟩, ⟨15, .phase⟩], none⟩) hH.out (by rintro w s0; go_simp <;> with_reducible rfl) ?_
              simp only [Act.put, sA, sB, sC]
              refine rdy (i := 17) (oi := ⟨none, .store 44 (.tmp 52) (.tmp 50), 0, "zsortanyfunc.go:13", #[⟨16, .data⟩, ⟨13, .data⟩, ⟨15, .chain⟩, ⟨0, .phase⟩, ⟨1, .phase⟩, ⟨2, .phase⟩, ⟨3, .phase⟩, ⟨4, .phase⟩, ⟨5, .phase⟩, ⟨6, .phase⟩, ⟨7, .phase⟩, ⟨8, .phase⟩, ⟨9, .phase⟩, ⟨10, .phase⟩, ⟨11, .phase⟩, ⟨12, .phase⟩, ⟨13, .phase⟩, ⟨14, .phase⟩, ⟨15, .phase⟩], none⟩) (fun K hK => ?_)
              refine tst_store rfl _ _ rfl g cap k (D[k + 1]'HDL.out.1) K5.out (by rw [List.length_set]; exact HDL.out.2) rfl rfl ?_
              intro w6 h6 a6
              have K6 := Lib.hid h6
              have HA6 := Lib.hid (HA5.out.trans a6)
              clear h6 a6
              refine hK.out _ _ (by first | exact trivial) (fun hHeld => ?_)
              replace hH := Lib.hid hHeld
              clear hK K hHeld
              try simp only [Act.put]
              refine wpAnyH_done (by kernel_rfl) ?_ _
              go_wp2_with fail
              exact ⟨ins_step HPP.out HK.out HD.out HD0.out HD1.out HP.out HSS.out HL.out K6.out HA6.out (by go_num) HPI.out, by simp [intOf]⟩
          · have HC := Lib.hid (fun W => list1_ge hl HAN.out W)
            have HF := Lib.hid (show ∀ W, TB W g cap D → TB W g cap (srtT (l.take (i + 1)) ++ l.drop (i + 1)) from fun W q => by
              rw [← HIN.out, HP.out]
              have hsr := HSR.out
              rw [HP.out, h0] at hsr
              have := insT_at (x := x) (A := P) (B := S) (fun y hy => by
                rw [h0] at hy
                rcases List.mem_append.1 hy with e | e
                · intro c
                  have h3 : lessT y a := (List.pairwise_append.1 (List.pairwise_append.1 hsr).1).2.2 y e a (by simp)
                  exact hl (lessT_trans c h3)
                · rw [List.mem_singleton.1 e]; exact hl) HSS.out
              rw [this, h0]
              rw [hD] at q
              simpa using q)
            clear hPS hPi ht hS ha h0 hk hjk hD ht2 hl
            go_upto_region 4 with (fail)
            refine rstart (S := (fun w' => TB w' g cap D)) (by first | with_reducible exact K1.out | with_reducible exact K0.out) (fun hH => ?_)
            refine tk (i := 0) (oi := ⟨some 18, .move (.tmp 9), 3, "zsortanyfunc.go:12", #[], none⟩) hH.out (by rintro w s0; go_simp <;> with_reducible rfl) ?_
            simp only [Act.put, sA, sB, sC]
            refine tk (i := 1) (oi := ⟨some 19, .move (.tmp 1), 3, "zsortanyfunc.go:12", #[], none⟩) hH.out (by rintro w s0; go_simp <;> with_reducible rfl) ?_
            simp only [Act.put, sA, sB, sC]
            refine tk (i := 2) (oi := ⟨some 20, .binOp .gtr 3 (.tmp 18) (.tmp 19) 3, 4, "zsortanyfunc.go:12", #[⟨0, .data⟩, ⟨1, .data⟩], none⟩) hH.out (by rintro w s0; go_simp <;> with_reducible rfl) ?_
            simp only [Act.put, sA, sB, sC]
            refine tk (i := 3) (oi := ⟨some 21, .move (.tmp 20), 4, "zsortanyfunc.go:12", #[⟨2, .data⟩], none⟩) hH.out (by rintro w s0; go_simp <;> with_reducible rfl) ?_
            simp only [Act.put, sA, sB, sC]
            refine tk (i := 4) (oi := { dst := some 22, op := .move (.tmp 3), type := 156, pos := "zsortanyfunc.go:12", after := #[⟨3, .guard⟩], guard := some (3, true) }) hH.out (by rintro w s0; go_simp <;> with_reducible rfl) ?_
            simp only [Act.put, sA, sB, sC]
            refine tk (i := 5) (oi := { dst := some 23, op := .move (.tmp 0), type := 57, pos := "zsortanyfunc.go:12", after := #[⟨3, .guard⟩], guard := some (3, true) }) hH.out (by rintro w s0; go_simp <;> with_reducible rfl) ?_
            simp only [Act.put, sA, sB, sC]
            refine tk (i := 6) (oi := { dst := some 24, op := .move (.tmp 9), type := 3, pos := "zsortanyfunc.go:12", after := #[⟨3, .guard⟩], guard := some (3, true) }) hH.out (by rintro w s0; go_simp <;> with_reducible rfl) ?_
            simp only [Act.put, sA, sB, sC]
            refine tk (i := 7) (oi := { dst := some 25, op := .indexAddr 57 (.tmp 23) (.tmp 24), type := 0, pos := "zsortanyfunc.go:12", after := #[⟨5, .data⟩, ⟨6, .data⟩, ⟨3, .guard⟩], guard := some (3, true) }) hH.out (by rintro w s0; go_simp <;> with_reducible rfl) ?_
            simp only [Act.put, sA, sB, sC]
            refine wpAnyH_take (i := 8) (oi := { dst := some 26, op := .load 44 (.tmp 25), type := 44, pos := "zsortanyfunc.go:12", after := #[⟨7, .data⟩, ⟨3, .guard⟩], guard := some (3, true) }) (v := .agg (tc (D[k + 1]'HDL.out.1))) rfl (by kernel_rfl) (by kernel_rfl) (by kernel_rfl) (fun _ _ _ h => h) (gyl_load rfl (.tmp 25) rfl g rfl (fun _ h => h.row HDL.out.1) Tryz.underlying44 rfl sizeT (tc_size _)) hH.out ?_
            simp only [Act.put, sA, sB, sC]
            refine tk (i := 9) (oi := { dst := some 27, op := .move (.tmp 0), type := 57, pos := "zsortanyfunc.go:12", after := #[⟨3, .guard⟩], guard := some (3, true) }) hH.out (by rintro w s0; go_simp <;> with_reducible rfl) ?_
            simp only [Act.put, sA, sB, sC]
            refine tk (i := 10) (oi := { dst := some 28, op := .move (.tmp 9), type := 3, pos := "zsortanyfunc.go:12", after := #[⟨3, .guard⟩], guard := some (3, true) }) hH.out (by rintro w s0; go_simp <;> with_reducible rfl) ?_
            simp only [Act.put, sA, sB, sC]
            refine tk (i := 11) (oi := { dst := some 29, op := .binOp .sub 3 (.tmp 28) (.const (Go.Value.int Go.IntKind.i64 1)) 3, type := 3, pos := "zsortanyfunc.go:12", after := #[⟨10, .data⟩, ⟨3, .guard⟩], guard := some (3, true) }) hH.out (by rintro w s0; go_simp <;> with_reducible rfl) ?_
            simp only [Act.put, sA, sB, sC]
            refine tk (i := 12) (oi := { dst := some 30, op := .indexAddr 57 (.tmp 27) (.tmp 29), type := 0, pos := "zsortanyfunc.go:12", after := #[⟨9, .data⟩, ⟨11, .data⟩, ⟨3, .guard⟩], guard := some (3, true) }) hH.out (by rintro w s0; go_simp <;> with_reducible rfl) ?_
            simp only [Act.put, sA, sB, sC]
            refine wpAnyH_take (i := 13) (oi := { dst := some 31, op := .load 44 (.tmp 30), type := 44, pos := "zsortanyfunc.go:12", after := #[⟨12, .data⟩, ⟨3, .guard⟩], guard := some (3, true) }) (v := .agg (tc (D[k]'HDL.out.2))) rfl (by kernel_rfl) (by kernel_rfl) (by kernel_rfl) (fun _ _ _ h => h) (gyl_load rfl (.tmp 30) rfl g rfl (fun _ h => h.row HDL.out.2) Tryz.underlying44 rfl sizeT (tc_size _)) hH.out ?_
            simp only [Act.put, sA, sB, sC]
            refine rdy (i := 14) (oi := { dst := some 32, op := .call ⟨.value (.tmp 22), #[.tmp 26, .tmp 31], #[44, 44]⟩, type := 3, pos := "zsortanyfunc.go:12", after := #[⟨4, .data⟩, ⟨8, .data⟩, ⟨13, .data⟩, ⟨3, .chain⟩, ⟨3, .guard⟩], guard := some (3, true) }) (fun K hK => ?_)
            go_simp
            rw [HD0.out, HD1.out]
            refine (HC.out _).mono ?_
            rintro e w4 ⟨rfl, a4⟩
            have HA4 := Lib.hid (Adv.of_drew a4)
            have K1 := Lib.hid (show TB w4 g cap D from K0.out.keep (a4.block g K0.out.lt (fun x => x)))
            clear a4
            go_wp2_with fail
            refine hK.out _ _ (by first | with_reducible exact K1.out | with_reducible exact K0.out) (fun hHeld => ?_)
            replace hH := Lib.hid hHeld
            clear hK K hHeld
            try simp only [Act.put, sA, sB, sC]
            refine tk (i := 15) (oi := { dst := some 33, op := .binOp .lss 3 (.tmp 32) (.const (Go.Value.int Go.IntKind.i64 0)) 3, type := 4, pos := "zsortanyfunc.go:12", after := #[⟨14, .data⟩, ⟨3, .guard⟩], guard := some (3, true) }) hH.out (by rintro w s0; go_simp <;> with_reducible rfl) ?_
            simp only [Act.put, sA, sB, sC]
            refine tk (i := 16) (oi := ⟨some 34, .pick (.tmp 21) (.tmp 33) (.const (Go.Value.bool false)), 4, "zsortanyfunc.go:12", #[⟨3, .data⟩, ⟨15, .data⟩], none⟩) hH.out (by rintro w s0; go_simp <;> with_reducible rfl) ?_
            simp only [Act.put, sA, sB, sC]
            refine wpAnyH_done (by kernel_rfl) ?_ _
            have HAW := Lib.hid (HAJ.out.trans (adv_wk HA4.out))
            have HF4 := Lib.hid (HF.out _ K1.out)
            go_wp2_with fail
            have h1 := HLT.out
            exact ⟨⟨i + 1, by omega, by omega, by go_num, HF4.out, HAW.out⟩, by simp [intOf]; omega⟩
    · obtain rfl : i = n := by omega
      have HF := Lib.hid (show TB wr g cap (srtT l) by
        rw [List.take_of_length_le (by rw [HN.out]; exact Nat.le_refl _), List.drop_of_length_le (by rw [HN.out]; exact Nat.le_refl _), List.append_nil] at ht
        exact ht)
      clear ht hi1 hi ha hlt
      go_wp2_with fail
      exact bodyPost_end (results_none rfl _ _ _) rfl ⟨rfl, HF.out, HA2.out⟩
end Go.Proofs.YtcglfknkkeaegaaGreatDoor
namespace Go.Proofs.YtcglfknkkeaegaaGreatDoor
open Go.ChangeShapes Go.WideShapes Go.ChangeAt Go.RowKit Go.Maps
set_option maxRecDepth 3000 in
theorem ins_0 (A : Option Addr) (c : Nat) (w : World) : Calls Tryz.prog 152 #[.slice A 0 c, .int .i64 0, .int .i64 0, .func (.func 86) #[] #[]] w fun e w' => e = .returned (.tuple #[]) ∧ w' = w := by
  go_enter Tryz.func152, Tryz.ntmps152
  go_wp2_with fail
  go_loopw [8] (fun t wr => t = .int .i64 1 ∧ wr = w) (fun _ _ => 0)
  case atStart => exact ⟨rfl, rfl⟩
  case round =>
    obtain ⟨rfl, rfl⟩ := hrel
    go_wp2_with fail
    exact bodyPost_end (results_none rfl _ _ _) rfl ⟨rfl, rfl⟩
def SrtR (w : World) (R : World → Prop) (F : Nat → Prop) (e : Ending) (w' : World) : Prop := e = .returned (.tuple #[]) ∧ R w' ∧ Adv F w F w'
set_option maxRecDepth 3000 in
theorem pdq_p {w : World} {A : Option Addr} {n c : Nat} {R : World → Prop} {F : Nat → Prop} (lim : Int) (h12 : n ≤ 12) (hi : Calls Tryz.prog 152 #[.slice A n c, .int .i64 0, .int .i64 (n : Int), .func (.func 86) #[] #[]] w (SrtR w R F)) :
    Calls Tryz.prog 121 #[.slice A n c, .int .i64 0, .int .i64 (n : Int), .int .i64 lim, .func (.func 86) #[] #[]] w (SrtR w R F) := by
  have HI := Lib.hid hi
  have hn : (n : Int) ≤ 12 := by omega
  clear hi h12
  go_enter Tryz.func121, Tryz.ntmps121
  go_wp2_with fail
  go_loopw [1, 2] (fun t1 t2 wr => t1 = .int .i64 0 ∧ t2 = .int .i64 (n : Int) ∧ wr = w) (fun _ _ _ => 0)
  case atStart => exact ⟨rfl, rfl, rfl⟩
  case round =>
    obtain ⟨rfl, rfl, rfl⟩ := hrel
    go_wp2_with (first
      | (go_at_call 152; refine HI.out.mono ?_; rintro e w1 ⟨rfl, h1, a1⟩; have H1 := Lib.hid h1; have HA1 := Lib.hid a1; clear h1 a1)
      | fail)
    exact bodyPost_ret (results_none rfl _ _ _) rfl ⟨rfl, H1.out, HA1.out⟩
set_option maxRecDepth 3000 in
theorem sort_v {w : World} {A : Option Addr} {n c : Nat} {R : World → Prop} {F : Nat → Prop} (h12 : n ≤ 12) (hi : Calls Tryz.prog 152 #[.slice A n c, .int .i64 0, .int .i64 (n : Int), .func (.func 86) #[] #[]] w (SrtR w R F)) :
    Calls Tryz.prog 85 #[.slice A n c, .func (.func 86) #[] #[]] w (SrtR w R F) := by
  have HP := Lib.hid (fun lim => pdq_p lim h12 hi)
  have HL := Lib.hid (len_any n h12 w)
  have hn : (n : Int) ≤ 12 := by omega
  clear hi h12
  go_enter Tryz.func85, Tryz.ntmps85
  go_wp2_with (first
    | (go_at_call 122; refine HL.out.mono ?_; rintro e w1 ⟨⟨l, rfl⟩, rfl⟩)
    | (go_at_call 121; refine (HP.out l).mono ?_; rintro e w2 ⟨rfl, h2, a2⟩; have H2 := Lib.hid h2; have HA2 := Lib.hid a2; clear h2 a2)
    | fail)
  exact bodyPost_end (results_none rfl _ _ _) rfl ⟨rfl, H2.out, HA2.out⟩
end Go.Proofs.YtcglfknkkeaegaaGreatDoor
