/- lives; a map that no call made; AllocNobody. -/
import Derived.Test.YtekafclhddhnpaaAmD
import Derived.Test.YtekafclhddhnpaaAmE
namespace Go.Proofs.Ytekafclhddhnpaa
open Go.RowKit

set_option maxRecDepth 3000 in
set_option maxHeartbeats 1600000 in
theorem alives_any (w : World) : Calls Try.prog 22 #[] w fun e w' => e = .returned (.bool true) ∧ Below w.heap.size w w' := by
  have HN := Lib.hid (new_yes 3 (by decide) (by decide))
  have HH := Lib.hid (fun w d (h : Am w d (List.replicate 3 false)) => hold_am w d _ h 1)
  rw [show holdE (List.replicate 3 false) 1 = 0 from by kernel_rfl, show holdT (List.replicate 3 false) 1 = [false, true, false] from by kernel_rfl] at HH
  have HT := Lib.hid (fun w d (h : Am w d [false, true, false]) => take_am w d _ h)
  rw [show takeI [false, true, false] = 0 from by kernel_rfl, show takeE [false, true, false] = 0 from by kernel_rfl, show takeT [false, true, false] = [true, true, false] from by kernel_rfl] at HT
  have HA := Lib.hid (fun w d (h : Am w d [true, true, false]) => has_am w d _ h 1)
  rw [show hasT [true, true, false] 1 = true from by kernel_rfl] at HA
  have HF := Lib.hid (fun w d (h : Am w d [true, true, false]) => free_am w d _ h)
  rw [show freeT [true, true, false] = 1 from by kernel_rfl] at HF
  go_enter Try.func22, Try.ntmps22
  go_wp2_with (first
    | (go_at_call 7; refine (HN.out _).mono ?_; rintro e w1 ⟨d, rfl, a1, b1⟩; have HA1 := Lib.hid a1; have HB1 := Lib.hid b1; clear a1 b1)
    | (go_at_call 11; refine (HH.out _ _ HA1.out).mono ?_; rintro e w2 ⟨rfl, a2, b2⟩; have HA2 := Lib.hid a2; have HB2 := Lib.hid b2; clear a2 b2)
    | (go_at_call 9; refine (HT.out _ _ HA2.out).mono ?_; rintro e w3 ⟨rfl, a3, b3⟩; have HA3 := Lib.hid a3; have HB3 := Lib.hid b3; clear a3 b3)
    | (go_at_call 17; refine (HA.out _ _ HA3.out).mono ?_; rintro e w4 ⟨rfl, k4, rfl⟩)
    | (go_at_call 15; refine (HF.out _ _ (HA3.out.drewN _)).mono ?_; rintro e w5 ⟨rfl, k5, rfl⟩)
    | fail)
  go_ret
  exact ⟨rfl, (((HB1.out.trans HB2.out).trans HB3.out).drewN _).toBelow⟩

theorem built_zero : Try.prog.built 57 [] = some zM := by kernel_rfl
theorem aop_build_zero {ops : Array Oper} {rest : List Oper} {o : Oper} {a : Act} {w : World} {Q : Exit → Act → World → Prop} (hgd : o.guard = none) (ho : o.op = .build 57 #[])
    (h : wpList Try.prog ops Q rest (a.put o.dst (.agg zM)) w) : wpList Try.prog ops Q (o :: rest) a w := by
  have e : ((#[] : Array (Nat × Operand)).map fun (i, x) => (i, a.eval x)).toList = [] := by simp
  refine wpList_build hgd 57 _ ho (by rw [e, built_zero]; rfl) ?_
  rw [e, built_zero]
  exact h
def ANo (w : World) (v : Value) : Prop := v = .pointer none ∨ ∃ d, v = .pointer (some ⟨d, 0, none⟩) ∧ Blk w d 57 zM
set_option maxRecDepth 3000 in
theorem amade_no (v : Value) (w : World) (h : ANo w v) : Calls Try.prog 28 #[v] w fun e w' => e = .returned (.bool false) ∧ w = w' := by
  rcases h with rfl | ⟨d, rfl, hb⟩
  · go_enter Try.func28, Try.ntmps28
    go_wp2
    go_ret
    exact ⟨rfl, rfl⟩
  · have c0 : w.cell? ⟨d, 0, none⟩ = some (.int .i64 0) := hb.cell 0
    clear hb
    go_enter Try.func28, Try.ntmps28
    go_wp2
    go_ret
    exact ⟨rfl, rfl⟩
set_option maxRecDepth 3000 in
theorem ahome_no (v i : Value) (w : World) (h : ANo w v) : Calls Try.prog 31 #[v, i] w fun e w' => e = .returned (.bool false) ∧ w = w' := by
  have H := Lib.hid h
  clear h
  go_enter Try.func31, Try.ntmps31
  go_wp2_with (first
    | (go_at_call 28; refine (amade_no _ _ H.out).mono ?_; rintro e w1 ⟨rfl, rfl⟩)
    | fail)
  go_ret
  exact ⟨rfl, rfl⟩
set_option maxRecDepth 3000 in
theorem atake_no (v : Value) (w : World) (h : ANo w v) : Calls Try.prog 9 #[v] w fun e w' => e = .returned (.tuple #[.int .i64 (-1), .int .i64 1]) ∧ w = w' := by
  have H := Lib.hid h
  clear h
  go_enter Try.func9, Try.ntmps9
  go_wp2_with (first
    | (go_at_call 28; refine (amade_no _ _ H.out).mono ?_; rintro e w1 ⟨rfl, rfl⟩)
    | fail)
  go_ret2
  exact ⟨rfl, rfl⟩
set_option maxRecDepth 3000 in
theorem ahold_no (v i : Value) (w : World) (h : ANo w v) : Calls Try.prog 11 #[v, i] w fun e w' => e = .returned (.int .i64 1) ∧ w = w' := by
  have H := Lib.hid h
  clear h
  go_enter Try.func11, Try.ntmps11
  go_wp2_with (first
    | (go_at_call 28; refine (amade_no _ _ H.out).mono ?_; rintro e w1 ⟨rfl, rfl⟩)
    | fail)
  go_ret
  exact ⟨rfl, rfl⟩
set_option maxRecDepth 3000 in
theorem agive_no (v i : Value) (w : World) (h : ANo w v) : Calls Try.prog 13 #[v, i] w fun e w' => e = .returned (.int .i64 1) ∧ w = w' := by
  have H := Lib.hid h
  clear h
  go_enter Try.func13, Try.ntmps13
  go_wp2_with (first
    | (go_at_call 28; refine (amade_no _ _ H.out).mono ?_; rintro e w1 ⟨rfl, rfl⟩)
    | fail)
  go_ret
  exact ⟨rfl, rfl⟩
set_option maxRecDepth 3000 in
theorem afree_no (v : Value) (w : World) (h : ANo w v) : Calls Try.prog 15 #[v] w fun e w' => e = .returned (.int .i64 0) ∧ w = w' := by
  have H := Lib.hid h
  clear h
  go_enter Try.func15, Try.ntmps15
  go_wp2_with (first
    | (go_at_call 28; refine (amade_no _ _ H.out).mono ?_; rintro e w1 ⟨rfl, rfl⟩)
    | fail)
  go_ret
  exact ⟨rfl, rfl⟩
set_option maxRecDepth 3000 in
theorem ahas_no (v i : Value) (w : World) (h : ANo w v) : Calls Try.prog 17 #[v, i] w fun e w' => e = .returned (.bool false) ∧ w = w' := by
  have H := Lib.hid h
  clear h
  go_enter Try.func17, Try.ntmps17
  go_wp2_with (first
    | (go_at_call 31; refine (ahome_no _ _ _ H.out).mono ?_; rintro e w1 ⟨rfl, rfl⟩)
    | fail)
  go_ret
  exact ⟨rfl, rfl⟩
set_option maxRecDepth 3000 in
theorem acopy_no (v : Value) (w : World) (h : ANo w v) : Calls Try.prog 27 #[v] w fun e w' => e = .returned (.pointer none) ∧ w = w' := by
  have H := Lib.hid h
  clear h
  go_enter Try.func27, Try.ntmps27
  go_wp2_with (first
    | (go_at_call 28; refine (amade_no _ _ H.out).mono ?_; rintro e w1 ⟨rfl, rfl⟩)
    | fail)
  go_ret
  exact ⟨rfl, rfl⟩
set_option maxRecDepth 3000 in
theorem abytes_no (v : Value) (w : World) (h : ANo w v) : Calls Try.prog 20 #[v] w fun e w' => e = .returned (.slice none 0 0) ∧ w = w' := by
  have H := Lib.hid h
  clear h
  go_enter Try.func20, Try.ntmps20
  go_wp2_with (first
    | (go_at_call 28; refine (amade_no _ _ H.out).mono ?_; rintro e w1 ⟨rfl, rfl⟩)
    | fail)
  go_ret
  exact ⟨rfl, rfl⟩

set_option maxRecDepth 3000 in
set_option maxHeartbeats 1600000 in
theorem anobody_walk (w : World) (i : Int) (_ : (Lit.int .i64 i).wf = true) :
    Calls Try.prog 6 #[.int .i64 i] w fun e w' => e = .returned (.bool true) ∧ Below w.heap.size w w' := by
  go_enter Try.func6, Try.ntmps6
  go_wp2_with fail
  go_loopw [3] (fun t wr => ∃ k : Nat, k ≤ 2 ∧ t = .int .i64 ((k : Nat) : Int) ∧ Below w.heap.size w wr) (fun t _ => 2 - (intOf t).toNat)
  case atStart => exact ⟨0, by omega, rfl, Below.refl _ _⟩
  case round =>
    obtain ⟨k, hk, rfl, hbe⟩ := hrel
    have HB := Lib.hid hbe
    clear hbe
    by_cases hk2 : k < 2
    · rcases Nat.lt_or_ge k 1 with hk1 | hk1
      · obtain rfl : k = 0 := by omega
        have hno : ∀ w, ANo w (.pointer none) := fun w => .inl rfl
        go_wp2_with (first
          | (go_at_call 9; refine (atake_no _ _ (hno _)).mono ?_; rintro e w1 ⟨rfl, rfl⟩)
          | (go_at_call 11; refine (ahold_no _ _ _ (hno _)).mono ?_; rintro e w1 ⟨rfl, rfl⟩)
          | (go_at_call 13; refine (agive_no _ _ _ (hno _)).mono ?_; rintro e w1 ⟨rfl, rfl⟩)
          | (go_at_call 17; refine (ahas_no _ _ _ (hno _)).mono ?_; rintro e w1 ⟨rfl, rfl⟩)
          | (go_at_call 15; refine (afree_no _ _ (hno _)).mono ?_; rintro e w1 ⟨rfl, rfl⟩)
          | (go_at_call 27; refine (acopy_no _ _ (hno _)).mono ?_; rintro e w1 ⟨rfl, rfl⟩)
          | (go_at_call 20; refine (abytes_no _ _ (hno _)).mono ?_; rintro e w1 ⟨rfl, rfl⟩)
          | fail)
        refine ⟨⟨1, by omega, rfl, HB.out⟩, by simp [intOf]⟩
      · obtain rfl : k = 1 := by omega
        obtain ⟨Z, hZ⟩ : ∃ Z, Z = zM := ⟨_, rfl⟩
        have hno : ANo (wr.alloc (.cells Z 57)) (.pointer (some ⟨wr.heap.size, 0, none⟩)) := .inr ⟨_, rfl, by rw [hZ]; exact Blk.new wr _ _⟩
        have HNO := Lib.hid hno
        have HZ := Lib.hid hZ
        clear hno hZ
        go_wp2_with (first
          | (refine aop_build_zero rfl rfl ?_; rw [← HZ.out])
          | (go_at_call 9; refine (atake_no _ _ (HNO.out)).mono ?_; rintro e w1 ⟨rfl, rfl⟩)
          | (go_at_call 11; refine (ahold_no _ _ _ (HNO.out)).mono ?_; rintro e w1 ⟨rfl, rfl⟩)
          | (go_at_call 13; refine (agive_no _ _ _ (HNO.out)).mono ?_; rintro e w1 ⟨rfl, rfl⟩)
          | (go_at_call 17; refine (ahas_no _ _ _ (HNO.out)).mono ?_; rintro e w1 ⟨rfl, rfl⟩)
          | (go_at_call 15; refine (afree_no _ _ (HNO.out)).mono ?_; rintro e w1 ⟨rfl, rfl⟩)
          | (go_at_call 27; refine (acopy_no _ _ (HNO.out)).mono ?_; rintro e w1 ⟨rfl, rfl⟩)
          | (go_at_call 20; refine (abytes_no _ _ (HNO.out)).mono ?_; rintro e w1 ⟨rfl, rfl⟩)
          | fail)
        refine ⟨⟨2, by omega, rfl, (HB.out.alloc HB.out.size _)⟩, by simp [intOf]⟩
    · obtain rfl : k = 2 := by omega
      go_wp2_with (first
        | (go_at_call 22; refine (alives_any _).mono ?_; rintro e w7 ⟨rfl, hb7⟩)
        | fail)
      go_ret
      exact ⟨rfl, HB.out.trans (hb7.mono HB.out.size)⟩
end Go.Proofs.Ytekafclhddhnpaa
