/- The law's switch over the calls; lives. -/
import Derived.Test.YtmefpafjcafgnaaDoorCkE
namespace Go.Proofs.YtmefpafjcafgnaaDoor
open Go.RowKit

set_option maxRecDepth 3000 in
theorem do_else {k : Int} (h0 : k ≠ 0) (h1 : k ≠ 1) (h2 : k ≠ 2) (h3 : k ≠ 3) (s : CS) (i : Int) : doC k s i = doC 4 s i ∧ doE k s i = doE 4 s i := by
  have e1 : ∀ j, doS k s j = doS 4 s j := fun j => by unfold doS; rw [if_neg h0, if_neg h1, if_neg h2, if_neg h3]; rfl
  constructor
  · unfold doC; simp only [e1]
  · have e : ¬ (k = 2 ∨ k = 3) := by rintro (h | h); exact h2 h; exact h3 h
    unfold doE
    simp [e]
set_option maxRecDepth 3000 in
set_option maxHeartbeats 1600000 in
theorem cdoes_any (w : World) (d : Nat) (s : CS) (h : Cl w d s) (k i : Int) : Calls Tryd.prog 8 #[.pointer (some ⟨d, 0, none⟩), .int .i64 k, .int .i64 i] w fun e w' => e = .returned (.int .i64 (doE k s i)) ∧ Cl w' d (doC k s i) ∧ Adv (One d) w (One d) w' := by
  by_cases h0 : k = 0
  · subst h0
    have HU := Lib.hid (cuse_any i w d s h)
    clear h
    go_enter Tryd.func8, Tryd.ntmps8
    go_wp2_with (first
      | (go_at_call 20; refine HU.out.mono ?_; rintro e w1 ⟨rfl, a1, b1⟩; have HA1 := Lib.hid a1; have HB1 := Lib.hid b1; clear a1 b1)
      | fail)
    go_ret
    exact ⟨rfl, HA1.out, HB1.out⟩
  · by_cases h1 : k = 1
    · subst h1
      have HU := Lib.hid (cdrop_any i w d s h)
      clear h h0
      go_enter Tryd.func8, Tryd.ntmps8
      go_wp2_with (first
        | (go_at_call 21; refine HU.out.mono ?_; rintro e w1 ⟨rfl, a1, b1⟩; have HA1 := Lib.hid a1; have HB1 := Lib.hid b1; clear a1 b1)
        | fail)
      go_ret
      exact ⟨rfl, HA1.out, HB1.out⟩
    · by_cases h2 : k = 2
      · subst h2
        have HU := Lib.hid (ctouch_any i w d s h)
        clear h h0 h1
        go_enter Tryd.func8, Tryd.ntmps8
        go_wp2_with (first
          | (go_at_call 22; refine HU.out.mono ?_; rintro e w1 ⟨rfl, a1, b1⟩; have HA1 := Lib.hid a1; have HB1 := Lib.hid b1; clear a1 b1)
          | fail)
        go_ret
        exact ⟨rfl, HA1.out, HB1.out⟩
      · by_cases h3 : k = 3
        · subst h3
          have HU := Lib.hid (cpin_any i w d s h)
          clear h h0 h1 h2
          go_enter Tryd.func8, Tryd.ntmps8
          go_wp2_with (first
            | (go_at_call 23; refine HU.out.mono ?_; rintro e w1 ⟨rfl, a1, b1⟩; have HA1 := Lib.hid a1; have HB1 := Lib.hid b1; clear a1 b1)
            | fail)
          go_ret
          exact ⟨rfl, HA1.out, HB1.out⟩
        · obtain ⟨e1, e2⟩ := do_else h0 h1 h2 h3 s i
          rw [e1, e2]
          have HU := Lib.hid (cunpin_any i w d s h)
          have p0 : (k == 0) = false := by simp [h0]
          have p1 : (k == 1) = false := by simp [h1]
          have p2 : (k == 2) = false := by simp [h2]
          have p3 : (k == 3) = false := by simp [h3]
          clear h h0 h1 h2 h3 e1 e2
          go_enter Tryd.func8, Tryd.ntmps8
          go_wp2_with (first
            | (go_at_call 24; refine HU.out.mono ?_; rintro e w1 ⟨rfl, a1, b1⟩; have HA1 := Lib.hid a1; have HB1 := Lib.hid b1; clear a1 b1)
            | fail)
          go_ret
          exact ⟨rfl, HA1.out, HB1.out⟩

def lv0 : CS := cNew 2
def lv1 : CS := ⟨2, 1, 0, 1, 0⟩
def lv2 : CS := ⟨2, 3, 0, 3, 0⟩
def lv3 : CS := ⟨2, 3, 1, 3, 0⟩
set_option maxRecDepth 3000 in
set_option maxHeartbeats 1600000 in
theorem clives_any (w : World) (hT : Tz w) : Calls Tryd.prog 17 #[] w fun e w' => e = .returned (.bool true) ∧ Below w.heap.size w w' := by
  have HN := Lib.hid (cnew_yes 2 (by decide) (by decide) w)
  have H1 := Lib.hid (fun w d (h : Cl w d (cNew 2)) => cuse_any 0 w d _ h)
  rw [show doE 0 (cNew 2) 0 = 0 from by kernel_rfl, show doC 0 (cNew 2) 0 = lv1 from by kernel_rfl] at H1
  have H2 := Lib.hid (fun w d (h : Cl w d lv1) => cuse_any 1 w d _ h)
  rw [show doE 0 lv1 1 = 0 from by kernel_rfl, show doC 0 lv1 1 = lv2 from by kernel_rfl] at H2
  have H3 := Lib.hid (fun w d (h : Cl w d lv2) => cpin_any 0 w d _ h)
  rw [show doE 3 lv2 0 = 0 from by kernel_rfl, show doC 3 lv2 0 = lv3 from by kernel_rfl] at H3
  have H4 := Lib.hid (fun w d (h : Cl w d lv3) (hT : Tz w) => cnext_any w d _ h hT)
  rw [show (nextS lv3).i = 1 from by kernel_rfl, show (nextS lv3).e = 0 from by kernel_rfl] at H4
  have H5 := Lib.hid (fun w d s (h : Cl w d s) (e : s.u = 3) (hT : Tz w) => cused_any w d s h hT)
  have HU := Lib.hid (show (nextS lv3).s.u = 3 from by kernel_rfl)
  have HL := Lib.hid (show (bitsL 3).length = 2 from by kernel_rfl)
  generalize nextS lv3 = r at H4 HU
  have HTw := Lib.hid hT
  clear hT
  go_enter Tryd.func17, Tryd.ntmps17
  go_wp2_with (first
    | (go_at_call 6; refine HN.out.mono ?_; rintro e w1 ⟨d, rfl, a1, b1⟩; have HA1 := Lib.hid a1; have HB1 := Lib.hid b1; clear a1 b1)
    | (go_at_call 20; first
        | (refine (H1.out _ _ HA1.out).mono ?_; rintro e w2 ⟨rfl, a2, b2⟩; have HA2 := Lib.hid a2; have HB2 := Lib.hid (HB1.out.trans b2); clear a2 b2 HA1 HB1)
        | (refine (H2.out _ _ HA2.out).mono ?_; rintro e w3 ⟨rfl, a3, b3⟩; have HA3 := Lib.hid a3; have HB3 := Lib.hid (HB2.out.trans b3); clear a3 b3 HA2 HB2))
    | (go_at_call 23; refine (H3.out _ _ HA3.out).mono ?_; rintro e w4 ⟨rfl, a4, b4⟩; have HA4 := Lib.hid a4; have HB4 := Lib.hid (HB3.out.trans b4); clear a4 b4)
    | (go_at_call 10; refine (H4.out _ _ HA4.out (tz_new HTw.out HB4.out)).mono ?_; rintro e w5 ⟨rfl, a5, b5⟩; have HA5 := Lib.hid a5; have HB5 := Lib.hid (HB4.out.trans b5); clear a5 b5)
    | (go_at_call 14; refine (H5.out _ _ _ HA5.out HU.out (tz_new HTw.out HB5.out)).mono ?_; rintro e w6 ⟨v, F, rfl, a6, b6⟩; rw [HU.out, HL.out] at a6; obtain ⟨A6, c6, rfl, _, _⟩ := a6.form0; have HB6 := Lib.hid (HB5.out.over b6); clear a6 b6)
    | fail)
  go_ret
  exact ⟨rfl, (HB6.out).toBelow⟩
end Go.Proofs.YtmefpafjcafgnaaDoor
