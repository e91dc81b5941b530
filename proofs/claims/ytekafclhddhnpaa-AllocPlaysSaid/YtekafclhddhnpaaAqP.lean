/- AllocPlays. -/
import Derived.Test.YtekafclhddhnpaaAqO
import Derived.Deep.DeepCutAuto
import Derived.Deep.RegionHeld3
namespace Go.Proofs.Ytekafclhddhnpaa
open Go.ChangeShapes Go.WideShapes Go.ChangeAt Go.RowKit

/-- the program's map is a call ahead -/
structure Mh (w : World) (d x g : Nat) (T T' : List Bool) (wr : World) : Prop where
  map : Am wr d T'
  ref : Qm wr x g T
  adv : Adv Nul w (fun k => k = d ∨ k = x ∨ k = g) wr
  ne : d ≠ x ∧ d ≠ g
section
variable {w wr w' : World} {d x g : Nat} {T T' : List Bool}
set_option maxRecDepth 3000 in
theorem Mx.drew (h : Mx w d x g T wr) : Mx w d x g T wr.drew := h.drewN 1
set_option maxRecDepth 3000 in
theorem Mx.half (h : Mx w d x g T wr) (hm : Am w' d T') (a : Adv (One d) wr (One d) w') : Mh w d x g T T' w' :=
  ⟨hm, h.ref.far a (fun e => h.ne.1 e.symm) (fun e => h.ne.2 e.symm), h.adv.trans (a.same (fun _ e => .inl e)), h.ne⟩
set_option maxRecDepth 3000 in
theorem Mh.whole (h : Mh w d x g T T' wr) (hm : Qm w' x g T') (a : Adv (Two x g) wr (Two x g) w') : Mx w d x g T' w' :=
  ⟨h.map.far a (fun e => by rcases e with e | e; exact h.ne.1 e; exact h.ne.2 e), hm, h.adv.trans (a.same (fun _ e => .inr e)), h.ne⟩
end
set_option maxRecDepth 3000 in
theorem rd_still {w w' : World} {z z2 : Nat} {l : List Nat} (h : Rd w 1 (.slice (some ⟨z, 0, none⟩) 128 128) 128 (l.map u8)) (a : Adv Nul w (One z2) w') : Rd w' 1 (.slice (some ⟨z, 0, none⟩) 128 128) 128 (l.map u8) :=
  h.far (fun k _ _ hl => a.block k hl (fun e => e)) a.size
def AplL (w : World) (d x g m : Nat) (t9 : Value) (wr : World) : Prop := ∃ (i : Nat) (T : List Bool), t9 = .int .i64 (i : Int) ∧ i ≤ m ∧ i ≤ 60 ∧ Mx w d x g T wr
def AplM (w : World) (d x g : Nat) (t10 : Value) (wr : World) : Prop := ∃ T, t10 = .bool true ∧ Mx w d x g T wr
set_option maxRecDepth 3000 in
theorem rep_of {w : World} {d : Nat} {T : List Bool} (h : Am w d T) : ∃ l, Rep l T := by
  obtain ⟨r, hr, _⟩ := h
  exact ⟨r, hr⟩

set_option maxRecDepth 3000 in
set_option maxHeartbeats 12800000 in
theorem aplays_walk (w : World) (n : Int) (_ : (Lit.int .i64 n).wf = true) (v : Value) (hv : PrsIn w v) :
    Calls Try.prog 3 #[.int .i64 n, v] w fun e w' => e = .returned (.bool true) ∧ Below w.heap.size w w' := by
  obtain ⟨A, c, m, ds, rfl, hp⟩ := hv
  have HP := Lib.hid hp
  have hm63 : (m : Int) ≤ 9223372036854775807 := by have := hp.cap; unfold maxLen at this; omega
  have HM63 := Lib.hid hm63
  clear hp
  by_cases hn : n < 1 ∨ 1024 < n
  · have HN1 := Lib.hid (new_no n hn)
    have HN2 := Lib.hid (qnew_no n hn)
    clear hn
    as_aux_lemma =>
      go_enter Try.func3, Try.ntmps3
      go_wp2_with (first
        | (go_at_call 7; refine (HN1.out _).mono ?_; rintro e w1 ⟨rfl, rfl⟩)
        | (go_at_call 8; refine (HN2.out _).mono ?_; rintro e w1 ⟨rfl, rfl⟩)
        | fail)
      go_loopw [9] (fun t wr => t = .int .i64 0 ∧ w = wr) (fun _ _ => 0)
      case atStart => exact ⟨rfl, rfl⟩
      case round =>
        obtain ⟨rfl, rfl⟩ := hrel
        by_cases h0 : (0 : Int) < (m : Int)
        · go_wp2_with (first
            | (go_at_call 22; refine (alives_any _).mono ?_; rintro e w1 ⟨rfl, h1⟩)
            | fail)
          go_ret
          exact ⟨rfl, h1⟩
        · have h0' : (m : Int) ≤ 0 := by omega
          clear h0
          go_wp2_with (first
            | (go_at_call 22; refine (alives_any _).mono ?_; rintro e w1 ⟨rfl, h1⟩)
            | fail)
          go_ret
          exact ⟨rfl, h1⟩
  · obtain ⟨N, rfl⟩ : ∃ N : Nat, n = (N : Int) := ⟨n.toNat, by omega⟩
    have HN1 := Lib.hid (new_yes N (by omega) (by omega))
    have HN2 := Lib.hid (qnew_yes N (by omega) (by omega))
    clear hn
    go_enter Try.func3, Try.ntmps3
    go_wp2_with (first
      | (go_at_call 7; refine (HN1.out _).mono ?_; rintro e w1 ⟨d, rfl, a1, b1⟩; have HA1 := Lib.hid a1; have HB1 := Lib.hid b1; clear a1 b1)
      | (go_at_call 8; refine (HN2.out _).mono ?_; rintro e w2 ⟨x, g, rfl, a2, b2⟩; have HS := Lib.hid (Mx.start HA1.out HB1.out a2 b2); clear a2 b2)
      | fail)
    go_loopw [9] (AplL w d x g m) (fun t _ => 60 - (intOf t).toNat)
    case atStart => exact ⟨0, _, rfl, Nat.zero_le _, Nat.zero_le _, HS.out⟩
    case round =>
    obtain ⟨i, T, rfl, him, hi6, hx⟩ := hrel
    have HX := Lib.hid hx
    clear hx
    go_upto_region 6 with (fail)
    obtain ⟨B, hB⟩ : ∃ B, B = decide (i < m ∧ i < 60) := ⟨_, rfl⟩
    have HB := Lib.hid hB
    clear hB
    go_cut [46] (fun t46 w9 => t46 = .bool B ∧ wr = w9)
    case first =>
      by_cases h1 : i < m
      · by_cases h2 : i < 60
        · have e : B = true := by rw [HB.out]; simp [h1, h2]
          have HE := Lib.hid e
          clear e
          go_wp2_with fail
          go_meet
          exact ⟨by first | (rw [HE.out]; done) | (rw [HE.out]; simp; omega), rfl⟩
        · have e : B = false := by rw [HB.out]; simp [h2]
          have h2' : 60 ≤ i := by omega
          have HE := Lib.hid e
          clear e h2
          go_wp2_with fail
          go_meet
          exact ⟨by first | (rw [HE.out]; done) | (rw [HE.out]; simp; omega), rfl⟩
      · have e : B = false := by rw [HB.out]; simp [h1]
        have h1' : m ≤ i := by omega
        have HE := Lib.hid e
        clear e h1
        go_wp2_with fail
        go_meet
        exact ⟨by rw [HE.out], rfl⟩
    case rest =>
    obtain ⟨rfl, rfl⟩ := hcut
    by_cases hb : i < m ∧ i < 60
    · have e : B = true := by rw [HB.out]; simp [hb]
      subst e
      clear HB
      obtain ⟨h1, h2⟩ := hb
      have hi60 : (i : Int) < 60 := by omega
      have him' : (i : Int) < (m : Int) := by omega
      obtain ⟨b, o, xk, y, rfl, hbw, c0, c1, hkp⟩ := HP.out.cells HX.out.adv h1
      have HKP := Lib.hid hkp
      have HI6 := Lib.hid (show i + 1 ≤ 60 from h2)
      have HIM := Lib.hid (show i + 1 ≤ m from h1)
      clear hbw h1 h2 hkp him hi6
      go_upto_region 9 with (fail)
      go_cut [53] (fun t53 w9 => t53 = .int .i64 xk ∧ wr = w9)
      case first =>
        go_wp2_with fail
        go_meet
        exact ⟨rfl, rfl⟩
      case rest =>
      obtain ⟨rfl, rfl⟩ := hcut
      rename_i Kx hKx
      refine hKx _ _ ?_
      go_cut [10] (fun t10 w9 => AplM w d x g t10 w9)
      case first =>
        by_cases q0 : xk = 0
        · have p0 : (xk == 0) = true := by simp [q0]
          clear q0
          as_aux_lemma =>
            have hw1 := fun w' (h : Mx w d x g T w') => take_am w' d T h.map
            have hw2 := fun w' (h : Mh w d x g T (takeT T) w') => qtake_any w' x g T h.ref
            obtain ⟨T1, hT1⟩ : ∃ T1, T1 = takeT T := ⟨_, rfl⟩
            obtain ⟨E1, hE1⟩ : ∃ E1, E1 = takeE T := ⟨_, rfl⟩
            obtain ⟨I1, hI1⟩ : ∃ I1, I1 = takeI T := ⟨_, rfl⟩
            rw [← hT1] at hw1 hw2
            rw [← hE1, ← hI1] at hw1 hw2
            have HW1 := Lib.hid hw1
            have HW2 := Lib.hid hw2
            clear hw1 hw2 hT1 hE1 hI1 c0 c1
            go_wp2_with (first
              | (go_at_call 9; refine (HW1.out _ HX.out).mono ?_; rintro e w4 ⟨rfl, a4, b4⟩; have HM4 := Lib.hid (HX.out.half a4 b4); clear a4 b4)
              | (go_at_call 10; refine (HW2.out _ HM4.out).mono ?_; rintro e w5 ⟨rfl, a5, b5⟩; have HM5 := Lib.hid (HM4.out.whole a5 b5); clear a5 b5)
              | fail)
            go_meet
            exact ⟨T1, by simp, HM5.out⟩
        · by_cases q1 : xk = 1
          · have p0 : (xk == 0) = false := by simp [q0]
            have p1 : (xk == 1) = true := by simp [q1]
            clear q0 q1
            as_aux_lemma =>
              have hw1 := fun w' (h : Mx w d x g T w') => hold_am w' d T h.map y
              have hw2 := fun w' (h : Mh w d x g T (holdT T y) w') => qhold_any w' x g T h.ref y
              obtain ⟨T1, hT1⟩ : ∃ T1, T1 = holdT T y := ⟨_, rfl⟩
              obtain ⟨E1, hE1⟩ : ∃ E1, E1 = holdE T y := ⟨_, rfl⟩
              rw [← hT1] at hw1 hw2
              rw [← hE1] at hw1 hw2
              have HW1 := Lib.hid hw1
              have HW2 := Lib.hid hw2
              have K0 := Lib.hid (HKP.out _ _ HX.out.drew.adv)
              clear hw1 hw2 hT1 hE1 c0 c1
              go_upto_region 16 with (fail)
              refine rstart (S := (fun w' => w'.cell? ⟨b, o + i * 2 + 1, none⟩ = some (.int .i64 y))) (by first | with_reducible exact KA.out | with_reducible exact KB.out | with_reducible exact K0.out) (fun hH => ?_)
              refine tk (i := 0) (oi := ⟨some 81, .move (.tmp 5), 23, "law.go:39", #[], none⟩) hH.out (by rintro w s0; go_simp <;> with_reducible rfl) ?_
              simp only [Act.put, sA, sB, sC]
              refine tk (i := 1) (oi := ⟨some 82, .move (.tmp 1), 22, "law.go:39", #[], none⟩) hH.out (by rintro w s0; go_simp <;> with_reducible rfl) ?_
              simp only [Act.put, sA, sB, sC]
              refine tk (i := 2) (oi := ⟨some 83, .move (.tmp 9), 3, "law.go:39", #[], none⟩) hH.out (by rintro w s0; go_simp <;> with_reducible rfl) ?_
              simp only [Act.put, sA, sB, sC]
              refine tk (i := 3) (oi := ⟨some 84, .indexAddr 22 (.tmp 82) (.tmp 83), 0, "law.go:39", #[⟨1, .data⟩, ⟨2, .data⟩], none⟩) hH.out (by rintro w s0; go_simp <;> with_reducible rfl) ?_
              simp only [Act.put, sA, sB, sC]
              refine tk (i := 4) (oi := ⟨some 85, .fieldAddr 31 (.tmp 84) 1, 0, "law.go:39", #[⟨3, .data⟩], none⟩) hH.out (by rintro w s0; go_simp <;> with_reducible rfl) ?_
              simp only [Act.put, sA, sB, sC]
              refine tk (i := 5) (oi := ⟨some 86, .load 3 (.tmp 85), 3, "law.go:39", #[⟨4, .data⟩], none⟩) hH.out (by rintro w s0; go_simp <;> with_reducible rfl) ?_
              simp only [Act.put, sA, sB, sC]
              refine tk (i := 7) (oi := ⟨some 88, .move (.tmp 7), 27, "law.go:39", #[], none⟩) hH.out (by rintro w s0; go_simp <;> with_reducible rfl) ?_
              simp only [Act.put, sA, sB, sC]
              refine tk (i := 8) (oi := ⟨some 89, .move (.tmp 1), 22, "law.go:39", #[], none⟩) hH.out (by rintro w s0; go_simp <;> with_reducible rfl) ?_
              simp only [Act.put, sA, sB, sC]
              refine tk (i := 9) (oi := ⟨some 90, .move (.tmp 9), 3, "law.go:39", #[], none⟩) hH.out (by rintro w s0; go_simp <;> with_reducible rfl) ?_
              simp only [Act.put, sA, sB, sC]
              refine tk (i := 10) (oi := ⟨some 91, .indexAddr 22 (.tmp 89) (.tmp 90), 0, "law.go:39", #[⟨8, .data⟩, ⟨9, .data⟩], none⟩) hH.out (by rintro w s0; go_simp <;> with_reducible rfl) ?_
              simp only [Act.put, sA, sB, sC]
              refine tk (i := 11) (oi := ⟨some 92, .fieldAddr 31 (.tmp 91) 1, 0, "law.go:39", #[⟨10, .data⟩], none⟩) hH.out (by rintro w s0; go_simp <;> with_reducible rfl) ?_
              simp only [Act.put, sA, sB, sC]
              refine tk (i := 12) (oi := ⟨some 93, .load 3 (.tmp 92), 3, "law.go:39", #[⟨11, .data⟩], none⟩) hH.out (by rintro w s0; go_simp <;> with_reducible rfl) ?_
              simp only [Act.put, sA, sB, sC]
              refine rdy (i := 6) (oi := ⟨some 87, .call ⟨.value (.func 11), #[.tmp 81, .tmp 86], #[23, 3]⟩, 24, "law.go:39", #[⟨0, .data⟩, ⟨5, .data⟩], none⟩) (fun K hK => ?_)
              go_simp
              refine (HW1.out _ HX.out.drew).mono ?_
              rintro e w4 ⟨rfl, a4, b4⟩
              have HM4 := Lib.hid (HX.out.drew.half a4 b4)
              have KA := Lib.hid (HKP.out _ _ HM4.out.adv)
              clear a4 b4
              go_wp2_with fail
              refine hK.out _ _ (by first | with_reducible exact KA.out | with_reducible exact KB.out | with_reducible exact K0.out) (fun hHeld => ?_)
              replace hH := Lib.hid hHeld
              clear hK K hHeld
              try simp only [Act.put, sA, sB, sC]
              refine rdy (i := 13) (oi := ⟨some 94, .call ⟨.value (.func 12), #[.tmp 88, .tmp 93], #[27, 3]⟩, 3, "law.go:39", #[⟨7, .data⟩, ⟨12, .data⟩, ⟨6, .chain⟩], none⟩) (fun K hK => ?_)
              go_simp
              refine (HW2.out _ HM4.out).mono ?_
              rintro e w5 ⟨rfl, a5, b5⟩
              have HM5 := Lib.hid (HM4.out.whole a5 b5)
              have KB := Lib.hid (HKP.out _ _ HM5.out.adv)
              clear a5 b5
              go_wp2_with fail
              refine hK.out _ _ (by first | with_reducible exact KA.out | with_reducible exact KB.out | with_reducible exact K0.out) (fun hHeld => ?_)
              replace hH := Lib.hid hHeld
              clear hK K hHeld
              try simp only [Act.put, sA, sB, sC]
              refine tk (i := 14) (oi := ⟨some 95, .binOp .eql 3 (.tmp 87) (.tmp 94) 3, 4, "law.go:39", #[⟨6, .data⟩, ⟨13, .data⟩], none⟩) hH.out (by rintro w s0; go_simp <;> with_reducible rfl) ?_
              simp only [Act.put, sA, sB, sC]
              refine tk (i := 15) (oi := ⟨some 10, .assign (.tmp 95), 4, "law.go:39", #[⟨14, .data⟩, ⟨13, .chain⟩, ⟨0, .phase⟩, ⟨1, .phase⟩, ⟨2, .phase⟩, ⟨3, .phase⟩, ⟨4, .phase⟩, ⟨5, .phase⟩, ⟨6, .phase⟩, ⟨7, .phase⟩, ⟨8, .phase⟩, ⟨9, .phase⟩, ⟨10, .phase⟩, ⟨11, .phase⟩, ⟨12, .phase⟩, ⟨13, .phase⟩, ⟨14, .phase⟩], none⟩) hH.out (by rintro w s0; go_simp <;> with_reducible rfl) ?_
              simp only [Act.put, sA, sB, sC]
              refine wpAnyH_done (by kernel_rfl) ?_ _
              go_wp2_with fail
              go_meet
              exact ⟨T1, by simp, HM5.out⟩
          · by_cases q2 : xk = 2
            · have p0 : (xk == 0) = false := by simp [q0]
              have p1 : (xk == 1) = false := by simp [q1]
              have p2 : (xk == 2) = true := by simp [q2]
              clear q0 q1 q2
              as_aux_lemma =>
                have hw1 := fun w' (h : Mx w d x g T w') => give_am w' d T h.map y
                have hw2 := fun w' (h : Mh w d x g T (giveT T y) w') => qgive_any w' x g T h.ref y
                obtain ⟨T1, hT1⟩ : ∃ T1, T1 = giveT T y := ⟨_, rfl⟩
                obtain ⟨E1, hE1⟩ : ∃ E1, E1 = giveE T y := ⟨_, rfl⟩
                rw [← hT1] at hw1 hw2
                rw [← hE1] at hw1 hw2
                have HW1 := Lib.hid hw1
                have HW2 := Lib.hid hw2
                have K0 := Lib.hid (HKP.out _ _ HX.out.drew.adv)
                clear hw1 hw2 hT1 hE1 c0 c1
                go_upto_region 18 with (fail)
                refine rstart (S := (fun w' => w'.cell? ⟨b, o + i * 2 + 1, none⟩ = some (.int .i64 y))) (by first | with_reducible exact KA.out | with_reducible exact KB.out | with_reducible exact K0.out) (fun hH => ?_)
                refine tk (i := 0) (oi := ⟨some 98, .move (.tmp 5), 23, "law.go:41", #[], none⟩) hH.out (by rintro w s0; go_simp <;> with_reducible rfl) ?_
                simp only [Act.put, sA, sB, sC]
                refine tk (i := 1) (oi := ⟨some 99, .move (.tmp 1), 22, "law.go:41", #[], none⟩) hH.out (by rintro w s0; go_simp <;> with_reducible rfl) ?_
                simp only [Act.put, sA, sB, sC]
                refine tk (i := 2) (oi := ⟨some 100, .move (.tmp 9), 3, "law.go:41", #[], none⟩) hH.out (by rintro w s0; go_simp <;> with_reducible rfl) ?_
                simp only [Act.put, sA, sB, sC]
                refine tk (i := 3) (oi := ⟨some 101, .indexAddr 22 (.tmp 99) (.tmp 100), 0, "law.go:41", #[⟨1, .data⟩, ⟨2, .data⟩], none⟩) hH.out (by rintro w s0; go_simp <;> with_reducible rfl) ?_
                simp only [Act.put, sA, sB, sC]
                refine tk (i := 4) (oi := ⟨some 102, .fieldAddr 31 (.tmp 101) 1, 0, "law.go:41", #[⟨3, .data⟩], none⟩) hH.out (by rintro w s0; go_simp <;> with_reducible rfl) ?_
                simp only [Act.put, sA, sB, sC]
                refine tk (i := 5) (oi := ⟨some 103, .load 3 (.tmp 102), 3, "law.go:41", #[⟨4, .data⟩], none⟩) hH.out (by rintro w s0; go_simp <;> with_reducible rfl) ?_
                simp only [Act.put, sA, sB, sC]
                refine tk (i := 7) (oi := ⟨some 105, .move (.tmp 7), 27, "law.go:41", #[], none⟩) hH.out (by rintro w s0; go_simp <;> with_reducible rfl) ?_
                simp only [Act.put, sA, sB, sC]
                refine tk (i := 8) (oi := ⟨some 106, .move (.tmp 1), 22, "law.go:41", #[], none⟩) hH.out (by rintro w s0; go_simp <;> with_reducible rfl) ?_
                simp only [Act.put, sA, sB, sC]
                refine tk (i := 9) (oi := ⟨some 107, .move (.tmp 9), 3, "law.go:41", #[], none⟩) hH.out (by rintro w s0; go_simp <;> with_reducible rfl) ?_
                simp only [Act.put, sA, sB, sC]
                refine tk (i := 10) (oi := ⟨some 108, .indexAddr 22 (.tmp 106) (.tmp 107), 0, "law.go:41", #[⟨8, .data⟩, ⟨9, .data⟩], none⟩) hH.out (by rintro w s0; go_simp <;> with_reducible rfl) ?_
                simp only [Act.put, sA, sB, sC]
                refine tk (i := 11) (oi := ⟨some 109, .fieldAddr 31 (.tmp 108) 1, 0, "law.go:41", #[⟨10, .data⟩], none⟩) hH.out (by rintro w s0; go_simp <;> with_reducible rfl) ?_
                simp only [Act.put, sA, sB, sC]
                refine tk (i := 12) (oi := ⟨some 110, .load 3 (.tmp 109), 3, "law.go:41", #[⟨11, .data⟩], none⟩) hH.out (by rintro w s0; go_simp <;> with_reducible rfl) ?_
                simp only [Act.put, sA, sB, sC]
                refine rdy (i := 6) (oi := ⟨some 104, .call ⟨.value (.func 13), #[.tmp 98, .tmp 103], #[23, 3]⟩, 24, "law.go:41", #[⟨0, .data⟩, ⟨5, .data⟩], none⟩) (fun K hK => ?_)
                go_simp
                refine (HW1.out _ HX.out.drew).mono ?_
                rintro e w4 ⟨rfl, a4, b4⟩
                have HM4 := Lib.hid (HX.out.drew.half a4 b4)
                have KA := Lib.hid (HKP.out _ _ HM4.out.adv)
                clear a4 b4
                go_wp2_with fail
                refine hK.out _ _ (by first | with_reducible exact KA.out | with_reducible exact KB.out | with_reducible exact K0.out) (fun hHeld => ?_)
                replace hH := Lib.hid hHeld
                clear hK K hHeld
                try simp only [Act.put, sA, sB, sC]
                refine rdy (i := 13) (oi := ⟨some 111, .call ⟨.value (.func 14), #[.tmp 105, .tmp 110], #[27, 3]⟩, 3, "law.go:41", #[⟨7, .data⟩, ⟨12, .data⟩, ⟨6, .chain⟩], none⟩) (fun K hK => ?_)
                go_simp
                refine (HW2.out _ HM4.out).mono ?_
                rintro e w5 ⟨rfl, a5, b5⟩
                have HM5 := Lib.hid (HM4.out.whole a5 b5)
                have KB := Lib.hid (HKP.out _ _ HM5.out.adv)
                clear a5 b5
                go_wp2_with fail
                refine hK.out _ _ (by first | with_reducible exact KA.out | with_reducible exact KB.out | with_reducible exact K0.out) (fun hHeld => ?_)
                replace hH := Lib.hid hHeld
                clear hK K hHeld
                try simp only [Act.put, sA, sB, sC]
                refine tk (i := 14) (oi := ⟨some 112, .binOp .eql 3 (.tmp 104) (.tmp 111) 3, 4, "law.go:41", #[⟨6, .data⟩, ⟨13, .data⟩], none⟩) hH.out (by rintro w s0; go_simp <;> with_reducible rfl) ?_
                simp only [Act.put, sA, sB, sC]
                refine tk (i := 15) (oi := ⟨some 10, .assign (.tmp 112), 4, "law.go:41", #[⟨14, .data⟩, ⟨13, .chain⟩, ⟨0, .phase⟩, ⟨1, .phase⟩, ⟨2, .phase⟩, ⟨3, .phase⟩, ⟨4, .phase⟩, ⟨5, .phase⟩, ⟨6, .phase⟩, ⟨7, .phase⟩, ⟨8, .phase⟩, ⟨9, .phase⟩, ⟨10, .phase⟩, ⟨11, .phase⟩, ⟨12, .phase⟩, ⟨13, .phase⟩, ⟨14, .phase⟩], none⟩) hH.out (by rintro w s0; go_simp <;> with_reducible rfl) ?_
                simp only [Act.put, sA, sB, sC]
                refine wpAnyH_done (by kernel_rfl) ?_ _
                go_wp2_with fail
                go_meet
                exact ⟨T1, by simp, HM5.out⟩
            · have p0 : (xk == 0) = false := by simp [q0]
              have p1 : (xk == 1) = false := by simp [q1]
              have p2 : (xk == 2) = false := by simp [q2]
              clear q0 q1 q2
              as_aux_lemma =>
                have hw1 := fun w' (h : Mx w d x g T w') => free_am w' d T h.map
                have hw2 := fun w' (h : Mx w d x g T w') => qfree_any w' x g T h.ref
                obtain ⟨E1, hE1⟩ : ∃ E1, E1 = freeT T := ⟨_, rfl⟩
                rw [← hE1] at hw1 hw2
                have HW1 := Lib.hid hw1
                have HW2 := Lib.hid hw2
                clear hw1 hw2 hE1 c0 c1
                go_wp2_with (first
                  | (go_at_call 15; refine (HW1.out _ HX.out).mono ?_; rintro e w4 ⟨rfl, n4, rfl⟩)
                  | (go_at_call 16; refine (HW2.out _ (HX.out.drewN _)).mono ?_; rintro e w5 ⟨rfl, rfl⟩)
                  | fail)
                go_meet
                exact ⟨T, by simp, HX.out.drewN n4⟩
      case rest =>
      obtain ⟨T', rfl, hx'⟩ := hcut
      clear HX
      have HX := Lib.hid hx'
      obtain ⟨l, hl⟩ := rep_of hx'.map
      have HL := Lib.hid hl
      have HFr := Lib.hid (fun (w' : World) (h : Mx w d x g T' w') => free_am w' d T' h.map)
      have HFq := Lib.hid (fun (w' : World) (h : Mx w d x g T' w') => qfree_any w' x g T' h.ref)
      have HHr := Lib.hid (fun (w' : World) (h : Mx w d x g T' w') => has_am w' d T' h.map y)
      have HHq := Lib.hid (fun (w' : World) (h : Mx w d x g T' w') => qhas_any w' x g T' h.ref y)
      have HBr := Lib.hid (fun (w' : World) (h : Mx w d x g T' w') => bytes_rd h.map hl)
      have HBq := Lib.hid (fun (w' : World) (h : Mx w d x g T' w') => qbytes_rd h.ref hl)
      have K0 := Lib.hid (HKP.out _ _ hx'.drew.adv)
      obtain ⟨f, hf⟩ : ∃ f, f = freeT T' := ⟨_, rfl⟩
      obtain ⟨hs, hhs⟩ : ∃ hs, hs = hasT T' y := ⟨_, rfl⟩
      rw [← hf] at HFr HFq
      rw [← hhs] at HHr HHq
      clear hx' hl c0 c1 hf hhs
      go_upto_region 19 with (fail)
      refine rstart (S := (fun w' => w'.cell? ⟨b, o + i * 2 + 1, none⟩ = some (.int .i64 y))) (by first | with_reducible exact KE.out | with_reducible exact KD.out | with_reducible exact KC.out | with_reducible exact HKP.out _ _ (HX.out.drewN _).adv | with_reducible exact K0.out) (fun hH => ?_)
      refine tk (i := 0) (oi := ⟨some 113, .move (.tmp 10), 4, "law.go:45", #[], none⟩) hH.out (by rintro w s0; go_simp <;> with_reducible rfl) ?_
      simp only [Act.put, sA, sB, sC]
      refine tk (i := 1) (oi := ⟨some 114, .unOp .not 4 (.tmp 113), 4, "law.go:45", #[⟨0, .data⟩], none⟩) hH.out (by rintro w s0; go_simp <;> with_reducible rfl) ?_
      simp only [Act.put, sA, sB, sC]
      refine tk (i := 2) (oi := ⟨some 115, .move (.tmp 114), 4, "law.go:45", #[⟨1, .data⟩], none⟩) hH.out (by rintro w s0; go_simp <;> with_reducible rfl) ?_
      simp only [Act.put, sA, sB, sC]
      refine tk (i := 3) (oi := { dst := some 116, op := .move (.tmp 5), type := 23, pos := "law.go:45", after := #[⟨2, .guard⟩], guard := some (2, false) }) hH.out (by rintro w s0; go_simp <;> with_reducible rfl) ?_
      simp only [Act.put, sA, sB, sC]
      refine tk (i := 5) (oi := { dst := some 118, op := .move (.tmp 7), type := 27, pos := "law.go:45", after := #[⟨2, .guard⟩], guard := some (2, false) }) hH.out (by rintro w s0; go_simp <;> with_reducible rfl) ?_
      simp only [Act.put, sA, sB, sC]
      refine rdy (i := 4) (oi := { dst := some 117, op := .call ⟨.value (.func 15), #[.tmp 116], #[23]⟩, type := 3, pos := "law.go:45", after := #[⟨3, .data⟩, ⟨2, .chain⟩, ⟨2, .guard⟩], guard := some (2, false) }) (fun K hK => ?_)
      go_simp
      refine (HFr.out _ HX.out.drew).mono ?_
      rintro e w4 ⟨rfl, n4, rfl⟩
      go_wp2_with fail
      refine hK.out _ _ (by first | with_reducible exact KE.out | with_reducible exact KD.out | with_reducible exact KC.out | with_reducible exact HKP.out _ _ (HX.out.drewN _).adv | with_reducible exact K0.out) (fun hHeld => ?_)
      replace hH := Lib.hid hHeld
      clear hK K hHeld
      try simp only [Act.put, sA, sB, sC]
      refine rdy (i := 6) (oi := { dst := some 119, op := .call ⟨.value (.func 16), #[.tmp 118], #[27]⟩, type := 3, pos := "law.go:45", after := #[⟨5, .data⟩, ⟨4, .chain⟩, ⟨2, .guard⟩], guard := some (2, false) }) (fun K hK => ?_)
      go_simp
      refine (HFq.out _ (HX.out.drewN _)).mono ?_
      rintro e w5 ⟨rfl, rfl⟩
      go_wp2_with fail
      refine hK.out _ _ (by first | with_reducible exact KE.out | with_reducible exact KD.out | with_reducible exact KC.out | with_reducible exact HKP.out _ _ (HX.out.drewN _).adv | with_reducible exact K0.out) (fun hHeld => ?_)
      replace hH := Lib.hid hHeld
      clear hK K hHeld
      try simp only [Act.put, sA, sB, sC]
      refine tk (i := 7) (oi := { dst := some 120, op := .binOp .neq 3 (.tmp 117) (.tmp 119) 3, type := 4, pos := "law.go:45", after := #[⟨4, .data⟩, ⟨6, .data⟩, ⟨2, .guard⟩], guard := some (2, false) }) hH.out (by rintro w s0; go_simp <;> with_reducible rfl) ?_
      simp only [Act.put, sA, sB, sC]
      refine tk (i := 8) (oi := ⟨some 121, .pick (.tmp 115) (.const (Go.Value.bool true)) (.tmp 120), 4, "law.go:45", #[⟨2, .data⟩, ⟨7, .data⟩], none⟩) hH.out (by rintro w s0; go_simp <;> with_reducible rfl) ?_
      simp only [Act.put, sA, sB, sC]
      refine tk (i := 9) (oi := ⟨some 122, .move (.tmp 121), 4, "law.go:45", #[⟨8, .data⟩, ⟨6, .chain⟩], none⟩) hH.out (by rintro w s0; go_simp <;> with_reducible rfl) ?_
      simp only [Act.put, sA, sB, sC]
      refine tk (i := 10) (oi := { dst := some 123, op := .move (.tmp 5), type := 23, pos := "law.go:45", after := #[⟨9, .guard⟩], guard := some (9, false) }) hH.out (by rintro w s0; go_simp <;> with_reducible rfl) ?_
      simp only [Act.put, sA, sB, sC]
      refine tk (i := 11) (oi := { dst := some 124, op := .move (.tmp 1), type := 22, pos := "law.go:45", after := #[⟨9, .guard⟩], guard := some (9, false) }) hH.out (by rintro w s0; go_simp <;> with_reducible rfl) ?_
      simp only [Act.put, sA, sB, sC]
      refine tk (i := 12) (oi := { dst := some 125, op := .move (.tmp 9), type := 3, pos := "law.go:45", after := #[⟨9, .guard⟩], guard := some (9, false) }) hH.out (by rintro w s0; go_simp <;> with_reducible rfl) ?_
      simp only [Act.put, sA, sB, sC]
      refine tk (i := 13) (oi := { dst := some 126, op := .indexAddr 22 (.tmp 124) (.tmp 125), type := 0, pos := "law.go:45", after := #[⟨11, .data⟩, ⟨12, .data⟩, ⟨9, .guard⟩], guard := some (9, false) }) hH.out (by rintro w s0; go_simp <;> with_reducible rfl) ?_
      simp only [Act.put, sA, sB, sC]
      refine tk (i := 14) (oi := { dst := some 127, op := .fieldAddr 31 (.tmp 126) 1, type := 0, pos := "law.go:45", after := #[⟨13, .data⟩, ⟨9, .guard⟩], guard := some (9, false) }) hH.out (by rintro w s0; go_simp <;> with_reducible rfl) ?_
      simp only [Act.put, sA, sB, sC]
      refine tk (i := 15) (oi := { dst := some 128, op := .load 3 (.tmp 127), type := 3, pos := "law.go:45", after := #[⟨14, .data⟩, ⟨9, .guard⟩], guard := some (9, false) }) hH.out (by rintro w s0; go_simp <;> with_reducible rfl) ?_
      simp only [Act.put, sA, sB, sC]
      refine tk (i := 17) (oi := { dst := some 130, op := .move (.tmp 7), type := 27, pos := "law.go:45", after := #[⟨9, .guard⟩], guard := some (9, false) }) hH.out (by rintro w s0; go_simp <;> with_reducible rfl) ?_
      simp only [Act.put, sA, sB, sC]
      refine tk (i := 18) (oi := { dst := some 131, op := .move (.tmp 1), type := 22, pos := "law.go:45", after := #[⟨9, .guard⟩], guard := some (9, false) }) hH.out (by rintro w s0; go_simp <;> with_reducible rfl) ?_
      simp only [Act.put, sA, sB, sC]
      refine tk (i := 19) (oi := { dst := some 132, op := .move (.tmp 9), type := 3, pos := "law.go:45", after := #[⟨9, .guard⟩], guard := some (9, false) }) hH.out (by rintro w s0; go_simp <;> with_reducible rfl) ?_
      simp only [Act.put, sA, sB, sC]
      refine tk (i := 20) (oi := { dst := some 133, op := .indexAddr 22 (.tmp 131) (.tmp 132), type := 0, pos := "law.go:45", after := #[⟨18, .data⟩, ⟨19, .data⟩, ⟨9, .guard⟩], guard := some (9, false) }) hH.out (by rintro w s0; go_simp <;> with_reducible rfl) ?_
      simp only [Act.put, sA, sB, sC]
      refine tk (i := 21) (oi := { dst := some 134, op := .fieldAddr 31 (.tmp 133) 1, type := 0, pos := "law.go:45", after := #[⟨20, .data⟩, ⟨9, .guard⟩], guard := some (9, false) }) hH.out (by rintro w s0; go_simp <;> with_reducible rfl) ?_
      simp only [Act.put, sA, sB, sC]
      refine tk (i := 22) (oi := { dst := some 135, op := .load 3 (.tmp 134), type := 3, pos := "law.go:45", after := #[⟨21, .data⟩, ⟨9, .guard⟩], guard := some (9, false) }) hH.out (by rintro w s0; go_simp <;> with_reducible rfl) ?_
      simp only [Act.put, sA, sB, sC]
      refine rdy (i := 16) (oi := { dst := some 129, op := .call ⟨.value (.func 17), #[.tmp 123, .tmp 128], #[23, 3]⟩, type := 4, pos := "law.go:45", after := #[⟨10, .data⟩, ⟨15, .data⟩, ⟨9, .chain⟩, ⟨9, .guard⟩], guard := some (9, false) }) (fun K hK => ?_)
      go_simp
      refine (HHr.out _ (HX.out.drewN _)).mono ?_
      rintro e w6 ⟨rfl, n6, rfl⟩
      go_wp2_with fail
      refine hK.out _ _ (by first | with_reducible exact KE.out | with_reducible exact KD.out | with_reducible exact KC.out | with_reducible exact HKP.out _ _ (HX.out.drewN _).adv | with_reducible exact K0.out) (fun hHeld => ?_)
      replace hH := Lib.hid hHeld
      clear hK K hHeld
      try simp only [Act.put, sA, sB, sC]
      refine rdy (i := 23) (oi := { dst := some 136, op := .call ⟨.value (.func 18), #[.tmp 130, .tmp 135], #[27, 3]⟩, type := 4, pos := "law.go:45", after := #[⟨17, .data⟩, ⟨22, .data⟩, ⟨16, .chain⟩, ⟨9, .guard⟩], guard := some (9, false) }) (fun K hK => ?_)
      go_simp
      refine (HHq.out _ (HX.out.drewN _)).mono ?_
      rintro e w7 ⟨rfl, rfl⟩
      go_wp2_with fail
      refine hK.out _ _ (by first | with_reducible exact KE.out | with_reducible exact KD.out | with_reducible exact KC.out | with_reducible exact HKP.out _ _ (HX.out.drewN _).adv | with_reducible exact K0.out) (fun hHeld => ?_)
      replace hH := Lib.hid hHeld
      clear hK K hHeld
      try simp only [Act.put, sA, sB, sC]
      refine tk (i := 24) (oi := { dst := some 137, op := .binOp .neq 4 (.tmp 129) (.tmp 136) 4, type := 4, pos := "law.go:45", after := #[⟨16, .data⟩, ⟨23, .data⟩, ⟨9, .guard⟩], guard := some (9, false) }) hH.out (by rintro w s0; go_simp <;> with_reducible rfl) ?_
      simp only [Act.put, sA, sB, sC]
      refine tk (i := 25) (oi := ⟨some 138, .pick (.tmp 122) (.const (Go.Value.bool true)) (.tmp 137), 4, "law.go:45", #[⟨9, .data⟩, ⟨24, .data⟩], none⟩) hH.out (by rintro w s0; go_simp <;> with_reducible rfl) ?_
      simp only [Act.put, sA, sB, sC]
      refine tk (i := 26) (oi := ⟨some 139, .move (.tmp 138), 4, "law.go:45", #[⟨25, .data⟩, ⟨23, .chain⟩], none⟩) hH.out (by rintro w s0; go_simp <;> with_reducible rfl) ?_
      simp only [Act.put, sA, sB, sC]
      refine tk (i := 27) (oi := { dst := some 140, op := .move (.tmp 5), type := 23, pos := "law.go:45", after := #[⟨26, .guard⟩], guard := some (26, false) }) hH.out (by rintro w s0; go_simp <;> with_reducible rfl) ?_
      simp only [Act.put, sA, sB, sC]
      refine tk (i := 29) (oi := { dst := some 142, op := .move (.tmp 7), type := 27, pos := "law.go:45", after := #[⟨26, .guard⟩], guard := some (26, false) }) hH.out (by rintro w s0; go_simp <;> with_reducible rfl) ?_
      simp only [Act.put, sA, sB, sC]
      refine rdy (i := 28) (oi := { dst := some 141, op := .call ⟨.value (.func 20), #[.tmp 140], #[23]⟩, type := 41, pos := "law.go:45", after := #[⟨27, .data⟩, ⟨26, .chain⟩, ⟨26, .guard⟩], guard := some (26, false) }) (fun K hK => ?_)
      go_simp
      refine (HBr.out _ (HX.out.drewN _)).mono ?_
      rintro e w8 ⟨z1, rfl, r1, a8⟩
      have HR1 := Lib.hid r1
      have H8 := Lib.hid ((HX.out.drewN _).still a8)
      have KC := Lib.hid (HKP.out _ _ H8.out.adv)
      clear r1 a8
      go_wp2_with fail
      refine hK.out _ _ (by first | with_reducible exact KE.out | with_reducible exact KD.out | with_reducible exact KC.out | with_reducible exact HKP.out _ _ (HX.out.drewN _).adv | with_reducible exact K0.out) (fun hHeld => ?_)
      replace hH := Lib.hid hHeld
      clear hK K hHeld
      try simp only [Act.put, sA, sB, sC]
      refine rdy (i := 30) (oi := { dst := some 143, op := .call ⟨.value (.func 21), #[.tmp 142], #[27]⟩, type := 41, pos := "law.go:45", after := #[⟨29, .data⟩, ⟨28, .chain⟩, ⟨26, .guard⟩], guard := some (26, false) }) (fun K hK => ?_)
      go_simp
      refine (HBq.out _ H8.out).mono ?_
      rintro e w9 ⟨z2, rfl, r2, a9⟩
      have HR2 := Lib.hid r2
      have H9 := Lib.hid (H8.out.still a9)
      have HR1' := Lib.hid (rd_still HR1.out a9)
      have KD := Lib.hid (HKP.out _ _ H9.out.adv)
      clear r2 a9
      go_wp2_with fail
      refine hK.out _ _ (by first | with_reducible exact KE.out | with_reducible exact KD.out | with_reducible exact KC.out | with_reducible exact HKP.out _ _ (HX.out.drewN _).adv | with_reducible exact K0.out) (fun hHeld => ?_)
      replace hH := Lib.hid hHeld
      clear hK K hHeld
      try simp only [Act.put, sA, sB, sC]
      refine rdy (i := 31) (oi := { dst := some 144, op := .call ⟨.value (.func 19), #[.tmp 141, .tmp 143], #[41, 41]⟩, type := 4, pos := "law.go:45", after := #[⟨28, .data⟩, ⟨30, .data⟩, ⟨30, .chain⟩, ⟨26, .guard⟩], guard := some (26, false) }) (fun K hK => ?_)
      go_simp
      refine (same_eq _ _ 128 l _ HR1'.out HR2.out).mono ?_
      rintro e wA ⟨rfl, nA, rfl⟩
      have KE := Lib.hid (HKP.out _ _ (H9.out.drewN nA).adv)
      go_wp2_with fail
      refine hK.out _ _ (by first | with_reducible exact KE.out | with_reducible exact KD.out | with_reducible exact KC.out | with_reducible exact HKP.out _ _ (HX.out.drewN _).adv | with_reducible exact K0.out) (fun hHeld => ?_)
      replace hH := Lib.hid hHeld
      clear hK K hHeld
      try simp only [Act.put, sA, sB, sC]
      refine tk (i := 32) (oi := { dst := some 145, op := .unOp .not 4 (.tmp 144), type := 4, pos := "law.go:45", after := #[⟨31, .data⟩, ⟨26, .guard⟩], guard := some (26, false) }) hH.out (by rintro w s0; go_simp <;> with_reducible rfl) ?_
      simp only [Act.put, sA, sB, sC]
      refine tk (i := 33) (oi := ⟨some 146, .pick (.tmp 139) (.const (Go.Value.bool true)) (.tmp 145), 4, "law.go:45", #[⟨26, .data⟩, ⟨32, .data⟩], none⟩) hH.out (by rintro w s0; go_simp <;> with_reducible rfl) ?_
      simp only [Act.put, sA, sB, sC]
      refine wpAnyH_done (by kernel_rfl) ?_ _
      go_wp2_with fail
      exact ⟨⟨i + 1, T', by simp, HIM.out, HI6.out, H9.out.drewN nA⟩, by simp [intOf]; omega⟩
    · have e : B = false := by rw [HB.out]; exact decide_eq_false hb
      subst e
      clear HB hb
      have hbl := HX.out.below
      have HBl := Lib.hid hbl
      clear hbl
      go_wp2_with (first
        | (go_at_call 22; refine (alives_any _).mono ?_; rintro e w7 ⟨rfl, hb7⟩)
        | fail)
      go_ret
      exact ⟨rfl, HBl.out.trans (hb7.mono HBl.out.size)⟩
end Go.Proofs.Ytekafclhddhnpaa
