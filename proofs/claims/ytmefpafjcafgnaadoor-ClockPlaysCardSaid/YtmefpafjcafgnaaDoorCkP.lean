/- ClockPlays. -/
import Derived.Test.YtmefpafjcafgnaaDoorCkF
import Derived.Test.YtmefpafjcafgnaaDoorCqD
import Derived.Test.YtmefpafjcafgnaaDoorCkO
import Derived.Test.YtmefpafjcafgnaaDoorSmI
import Derived.Deep.DeepCutAuto
import Derived.Deep.RegionHeld3
namespace Go.Proofs.YtmefpafjcafgnaaDoor
open Go.ChangeShapes Go.WideShapes Go.ChangeAt Go.RowKit

def Thr (d x g : Nat) : Nat → Prop := fun k => k = d ∨ k = x ∨ k = g
/-- both rings, of one state -/
structure Mc (w : World) (d x g : Nat) (s : CS) (wr : World) : Prop where
  cl : Cl wr d s
  qr : Qr wr x g s
  adv : Adv Nul w (Thr d x g) wr
  tz : Tz wr
  ne : d ≠ x ∧ d ≠ g
/-- the program's is a call ahead -/
structure Mch (w : World) (d x g : Nat) (s t : CS) (wr : World) : Prop where
  cl : Cl wr d t
  qr : Qr wr x g s
  adv : Adv Nul w (Thr d x g) wr
  tz : Tz wr
  ne : d ≠ x ∧ d ≠ g
section
variable {w wr w' : World} {d x g : Nat} {s t : CS} {F : Nat → Prop}
set_option maxRecDepth 3000 in
theorem thr_no (hw : 0 < w.heap.size) (a : Adv Nul w (Thr d x g) wr) : ¬ Thr d x g 0 := fun e => by
  rcases a.into 0 e with h | h
  · exact h
  · omega
set_option maxRecDepth 3000 in
theorem thr_tz (h : Tz w) (a : Adv Nul w F w') : Tz w' := tz_new h a
set_option maxRecDepth 3000 in
theorem Mc.start {w1 w2 : World} {n : Nat} (hT : Tz w) (h1 : Cl w1 d (cNew n)) (a1 : Adv Nul w (One d) w1) (h2 : Qr w2 x g (cNew n)) (a2 : Adv Nul w1 (Two2 x g) w2) : Mc w d x g (cNew n) w2 := by
  have hl := h1.lt
  have hx : w1.heap.size ≤ x := (a2.into x (.inl rfl)).elim (fun e => e.elim) id
  have hg : w1.heap.size ≤ g := (a2.into g (.inr rfl)).elim (fun e => e.elim) id
  have ha : Adv Nul w (Thr d x g) w2 := by
    refine ⟨a2.os.trans a1.os, a2.tape.trans a1.tape, a2.output.trans a1.output, Nat.le_trans a1.size a2.size, fun k hk hn => (a2.block k (Nat.lt_of_lt_of_le hk a1.size) hn).trans (a1.block k hk hn), fun k hk => ?_⟩
    rcases hk with e | e | e
    · exact a1.into k e
    · exact .inr (by rw [e]; exact Nat.le_trans a1.size hx)
    · exact .inr (by rw [e]; exact Nat.le_trans a1.size hg)
  exact ⟨h1.far a2 (fun e => e), h2, ha, thr_tz hT ha, by omega, by omega⟩
set_option maxRecDepth 3000 in
theorem Mc.drewN (h : Mc w d x g s wr) (n : Nat) : Mc w d x g s (wr.drewN n) := ⟨h.cl.drewN n, h.qr.drewN n, h.adv.drewN n, h.tz, h.ne⟩
set_option maxRecDepth 3000 in
theorem Mc.drew (h : Mc w d x g s wr) : Mc w d x g s wr.drew := h.drewN 1
set_option maxRecDepth 3000 in
theorem Mc.below (h : Mc w d x g s wr) : Below w.heap.size w wr := h.adv.toBelow
set_option maxRecDepth 3000 in
theorem zero_ne_d (h : Mc w d x g s wr) (hw : 0 < w.heap.size) : ¬ One d 0 := fun e => thr_no hw h.adv (.inl e)
set_option maxRecDepth 3000 in
theorem Mc.half (h : Mc w d x g s wr) (hm : Cl w' d t) (a : Adv (One d) wr (One d) w') (hw : 0 < w.heap.size) : Mch w d x g s t w' :=
  ⟨hm, h.qr.far a (fun e => h.ne.1 e.symm) (fun e => h.ne.2 e.symm), h.adv.trans (a.same (fun _ e => .inl e)), h.tz.far a (fun e => thr_no hw h.adv (.inl e)), h.ne⟩
set_option maxRecDepth 3000 in
theorem Mch.whole (h : Mch w d x g s t wr) (hm : Qr w' x g t) (a : Adv (Two2 x g) wr (Two2 x g) w') (hw : 0 < w.heap.size) : Mc w d x g t w' :=
  ⟨h.cl.far a (fun e => by rcases e with e | e; exact h.ne.1 e; exact h.ne.2 e), hm, h.adv.trans (a.same (fun _ e => .inr e)), h.tz.far a (fun e => thr_no hw h.adv (.inr e)), h.ne⟩
set_option maxRecDepth 3000 in
theorem Mc.still (h : Mc w d x g s wr) (a : Adv Nul wr F w') : Mc w d x g s w' :=
  ⟨h.cl.far a (fun e => e), h.qr.far a (fun e => e) (fun e => e), h.adv.trans (a.same (fun _ e => e.elim)), thr_tz h.tz a, h.ne⟩
/-- both rings, and two lists beside them that can be read -/
structure Mcx (w : World) (d x g : Nat) (s : CS) (a b : Value) (wr : World) : Prop where
  mc : Mc w d x g s wr
  r1 : Rd wr 1 a (bitsL s.u).length (ints (bitsL s.u))
  r2 : Rd wr 1 b (bitsL s.p).length (ints (bitsL s.p))
set_option maxRecDepth 3000 in
theorem rd_stay {v : Value} {n : Nat} {xs : List Value} (h : Rd wr 1 v n xs) (a : Adv Nul wr F w') : Rd w' 1 v n xs := h.far (fun k _ _ hl => a.block k hl (fun e => e)) a.size
set_option maxRecDepth 3000 in
theorem Mcx.start {a b : Value} (h : Mc w d x g s wr) (l : Ls2 wr a b (bitsL s.u) (bitsL s.p) w') : Mcx w d x g s a b w' := by
  obtain ⟨F, G, h1, h2, h3, h4⟩ := l.ex
  exact ⟨h.still h4, h1.rd, h2.rd⟩
set_option maxRecDepth 3000 in
theorem Mcx.still {a b : Value} (h : Mcx w d x g s a b wr) (q : Adv Nul wr F w') : Mcx w d x g s a b w' := ⟨h.mc.still q, rd_stay h.r1 q, rd_stay h.r2 q⟩
set_option maxRecDepth 3000 in
theorem Mcx.drewN {a b : Value} (h : Mcx w d x g s a b wr) (n : Nat) : Mcx w d x g s a b (wr.drewN n) := h.still (F := Nul) ((Adv.refl Nul wr).drewN n)
set_option maxRecDepth 3000 in
theorem Mcx.drew {a b : Value} (h : Mcx w d x g s a b wr) : Mcx w d x g s a b wr.drew := h.drewN 1
set_option maxRecDepth 3000 in
theorem ints_eq (L : List Nat) : ints L = (L.map fun i => ((i : Nat) : Int)).map (Value.int .i64) := by unfold ints; rw [List.map_map]; rfl
end
def CpL (w : World) (d x g m : Nat) (t9 : Value) (wr : World) : Prop := ∃ (i : Nat) (s : CS), t9 = .int .i64 (i : Int) ∧ i ≤ m ∧ i ≤ 80 ∧ Mc w d x g s wr
def CpM (w : World) (d x g i : Nat) (t9 : Value) (wr : World) : Prop := ∃ s, t9 = .int .i64 (i : Int) ∧ Mc w d x g s wr

set_option maxRecDepth 3000 in
set_option maxHeartbeats 12800000 in
theorem cplays_walk (w : World) (hT : Tz w) (n : Int) (_ : (Lit.int .i64 n).wf = true) (v : Value) (hv : PrsIn w v) :
    Calls Tryd.prog 3 #[.int .i64 n, v] w fun e w' => e = .returned (.bool true) ∧ Below w.heap.size w w' := by
  obtain ⟨A, c, m, ds, rfl, hp⟩ := hv
  have HP0 := Lib.hid hp
  have hm63 : (m : Int) ≤ 9223372036854775807 := by have := hp.cap; unfold maxLen at this; omega
  have HM63 := Lib.hid hm63
  have HT := Lib.hid hT
  have HW0 := Lib.hid hT.lt
  clear hp hT
  by_cases hn : n < 1 ∨ 64 < n
  · have HN1 := Lib.hid (cnew_no n hn)
    have HN2 := Lib.hid (qnew_no n hn)
    clear hn
    as_aux_lemma =>
      go_enter Tryd.func3, Tryd.ntmps3
      go_wp2_with (first
        | (go_at_call 6; refine (HN1.out _).mono ?_; rintro e w1 ⟨rfl, rfl⟩)
        | (go_at_call 7; refine (HN2.out _).mono ?_; rintro e w1 ⟨rfl, rfl⟩)
        | fail)
      go_loopw [9] (fun t wr => t = .int .i64 0 ∧ w = wr) (fun _ _ => 0)
      case atStart => exact ⟨rfl, rfl⟩
      case round =>
        obtain ⟨rfl, rfl⟩ := hrel
        by_cases h0 : (0 : Int) < (m : Int)
        · go_wp2_with (first
            | (go_at_call 17; refine (clives_any _ HT.out).mono ?_; rintro e w1 ⟨rfl, h1⟩)
            | fail)
          go_ret
          exact ⟨rfl, h1⟩
        · have h0' : (m : Int) ≤ 0 := by omega
          clear h0
          go_wp2_with (first
            | (go_at_call 17; refine (clives_any _ HT.out).mono ?_; rintro e w1 ⟨rfl, h1⟩)
            | fail)
          go_ret
          exact ⟨rfl, h1⟩
  · obtain ⟨N, rfl⟩ : ∃ N : Nat, n = (N : Int) := ⟨n.toNat, by omega⟩
    have HN1 := Lib.hid (cnew_yes N (by omega) (by omega))
    have HN2 := Lib.hid (qnew_yes N (by omega) (by omega))
    clear hn
    go_enter Tryd.func3, Tryd.ntmps3
    go_wp2_with (first
      | (go_at_call 6; refine (HN1.out _).mono ?_; rintro e w1 ⟨d, rfl, a1, b1⟩; have HA1 := Lib.hid a1; have HB1 := Lib.hid b1; clear a1 b1)
      | (go_at_call 7; refine (HN2.out _).mono ?_; rintro e w2 ⟨x, g, rfl, a2, b2⟩; have HS := Lib.hid (Mc.start HT.out HA1.out HB1.out a2 b2); clear a2 b2)
      | fail)
    go_loopw [9] (CpL w d x g m) (fun t _ => 80 - (intOf t).toNat)
    case atStart => exact ⟨0, _, rfl, Nat.zero_le _, Nat.zero_le _, HS.out⟩
    case round =>
    obtain ⟨i, s, rfl, him, hi8, hx⟩ := hrel
    have HX := Lib.hid hx
    clear hx
    go_upto_region 6 with (fail)
    obtain ⟨B, hB⟩ : ∃ B, B = decide (i < m ∧ i < 80) := ⟨_, rfl⟩
    have HB := Lib.hid hB
    clear hB
    go_cut [47] (fun t47 w9 => t47 = .bool B ∧ wr = w9)
    case first =>
      by_cases h1 : i < m
      · by_cases h2 : i < 80
        · have e : B = true := by rw [HB.out]; simp [h1, h2]
          have HE := Lib.hid e
          clear e
          go_wp2_with fail
          go_meet
          exact ⟨by first | (rw [HE.out]; done) | (rw [HE.out]; simp; omega), rfl⟩
        · have e : B = false := by rw [HB.out]; simp [h2]
          have h2' : 80 ≤ i := by omega
          have HE := Lib.hid e
          clear e h2
          go_wp2_with fail
          go_meet
          exact ⟨by first | (rw [HE.out]; done) | (rw [HE.out]; simp; omega), rfl⟩
      · have e : B = false := by rw [HB.out]; simp [h1]
        have h1' : m ≤ i := by omega
        have HE := Lib.hid e
        clear e h1
        go_wp2_with fail
        go_meet
        exact ⟨by rw [HE.out], rfl⟩
    case rest =>
    obtain ⟨rfl, rfl⟩ := hcut
    by_cases hb : i < m ∧ i < 80
    · have e : B = true := by rw [HB.out]; simp [hb]
      subst e
      clear HB
      obtain ⟨h1, h2⟩ := hb
      have hi80 : (i : Int) < 80 := by omega
      have him' : (i : Int) < (m : Int) := by omega
      obtain ⟨b, o, xk, y, rfl, hkp⟩ := HP0.out.both h1
      obtain ⟨c0, c1⟩ := hkp _ _ HX.out.adv
      have HKP := Lib.hid hkp
      have HI8 := Lib.hid (show i + 1 ≤ 80 from h2)
      have HIM := Lib.hid (show i + 1 ≤ m from h1)
      clear h1 h2 hkp him hi8
      go_upto_region 8 with (fail)
      obtain ⟨C, hC⟩ : ∃ C, C = decide (0 ≤ xk ∧ xk < 5) := ⟨_, rfl⟩
      have HC := Lib.hid hC
      clear hC
      go_cut [63] (fun t63 w9 => t63 = .bool C ∧ wr = w9)
      case first =>
        by_cases h1 : 0 ≤ xk
        · by_cases h2 : xk < 5
          · have e : C = true := by rw [HC.out]; simp [h1, h2]
            have HE := Lib.hid e
            clear e
            go_wp2_with fail
            go_meet
            exact ⟨by first | (rw [HE.out]; done) | (rw [HE.out]; simp; omega), rfl⟩
          · have e : C = false := by rw [HC.out]; simp [h2]
            have h2' : 5 ≤ xk := by omega
            have HE := Lib.hid e
            clear e h2
            go_wp2_with fail
            go_meet
            exact ⟨by first | (rw [HE.out]; done) | (rw [HE.out]; simp; omega), rfl⟩
        · have e : C = false := by rw [HC.out]; simp [h1]
          have h1' : xk < 0 := by omega
          have HE := Lib.hid e
          clear e h1
          go_wp2_with fail
          go_meet
          exact ⟨by rw [HE.out], rfl⟩
      case rest =>
      obtain ⟨rfl, rfl⟩ := hcut
      rename_i Kx hKx
      refine hKx _ _ ?_
      clear HC
      go_cut [9] (fun t9 w9 => CpM w d x g i t9 w9)
      case first =>
        have K0 := Lib.hid (HKP.out _ _ HX.out.drew.adv)
        cases C
        · as_aux_lemma =>
          have HW1 := Lib.hid (fun w' (h : Mc w d x g s w') => cnext_any w' d s h.cl h.tz)
          have HW2 := Lib.hid (fun w' (h : Mch w d x g s (nextS s).s w') => qnext_any w' x g s h.qr)
          obtain ⟨I1, hI1⟩ : ∃ I1, I1 = (nextS s).i := ⟨_, rfl⟩
          obtain ⟨E1, hE1⟩ : ∃ E1, E1 = (nextS s).e := ⟨_, rfl⟩
          rw [← hI1, ← hE1] at HW1 HW2
          generalize (nextS s).s = t at HW1 HW2
          clear hI1 hE1 c0 c1
          go_wp2_with (first
            | (go_at_call 10; refine (HW1.out _ HX.out).mono ?_; rintro e w4 ⟨rfl, a4, b4⟩; have HM4 := Lib.hid (HX.out.half a4 b4 HW0.out); clear a4 b4)
            | (go_at_call 11; refine (HW2.out _ HM4.out).mono ?_; rintro e w5 ⟨rfl, a5, b5⟩; have HM5 := Lib.hid (HM4.out.whole a5 b5 HW0.out); clear a5 b5)
            | fail)
          go_meet
          exact ⟨t, rfl, HM5.out⟩
        · as_aux_lemma =>
          have HW1 := Lib.hid (fun w' (h : Mc w d x g s w') => cdoes_any w' d s h.cl xk y)
          have HW2 := Lib.hid (fun w' (h : Mch w d x g s (doC xk s y) w') => qdo_any w' x g s h.qr xk y)
          obtain ⟨E1, hE1⟩ : ∃ E1, E1 = doE xk s y := ⟨_, rfl⟩
          rw [← hE1] at HW1 HW2
          generalize doC xk s y = t at HW1 HW2
          clear hE1 c0 c1
          go_upto_region 9 with (fail)
          refine rstart (S := (fun w' => w'.cell? ⟨b, o + i * 2, none⟩ = some (.int .i64 xk) ∧ w'.cell? ⟨b, o + i * 2 + 1, none⟩ = some (.int .i64 y))) (by first | with_reducible exact KB.out | with_reducible exact KA.out | with_reducible exact K0.out) (fun hH => ?_)
          refine tk (i := 0) (oi := ⟨some 64, .move (.tmp 5), 23, "law.go:49", #[], none⟩) hH.out (by rintro w ⟨s0, s1⟩; go_simp <;> with_reducible rfl) ?_
          simp only [Act.put, sA, sB, sC]
          refine tk (i := 1) (oi := ⟨some 65, .move (.tmp 1), 22, "law.go:49", #[], none⟩) hH.out (by rintro w ⟨s0, s1⟩; go_simp <;> with_reducible rfl) ?_
          simp only [Act.put, sA, sB, sC]
          refine tk (i := 2) (oi := ⟨some 66, .move (.tmp 9), 3, "law.go:49", #[], none⟩) hH.out (by rintro w ⟨s0, s1⟩; go_simp <;> with_reducible rfl) ?_
          simp only [Act.put, sA, sB, sC]
          refine tk (i := 3) (oi := ⟨some 67, .indexAddr 22 (.tmp 65) (.tmp 66), 0, "law.go:49", #[⟨1, .data⟩, ⟨2, .data⟩], none⟩) hH.out (by rintro w ⟨s0, s1⟩; go_simp <;> with_reducible rfl) ?_
          simp only [Act.put, sA, sB, sC]
          refine tk (i := 4) (oi := ⟨some 68, .fieldAddr 31 (.tmp 67) 0, 0, "law.go:49", #[⟨3, .data⟩], none⟩) hH.out (by rintro w ⟨s0, s1⟩; go_simp <;> with_reducible rfl) ?_
          simp only [Act.put, sA, sB, sC]
          refine tk (i := 5) (oi := ⟨some 69, .load 3 (.tmp 68), 3, "law.go:49", #[⟨4, .data⟩], none⟩) hH.out (by rintro w ⟨s0, s1⟩; go_simp <;> with_reducible rfl) ?_
          simp only [Act.put, sA, sB, sC]
          refine tk (i := 6) (oi := ⟨some 70, .move (.tmp 1), 22, "law.go:49", #[], none⟩) hH.out (by rintro w ⟨s0, s1⟩; go_simp <;> with_reducible rfl) ?_
          simp only [Act.put, sA, sB, sC]
          refine tk (i := 7) (oi := ⟨some 71, .move (.tmp 9), 3, "law.go:49", #[], none⟩) hH.out (by rintro w ⟨s0, s1⟩; go_simp <;> with_reducible rfl) ?_
          simp only [Act.put, sA, sB, sC]
          refine tk (i := 8) (oi := ⟨some 72, .indexAddr 22 (.tmp 70) (.tmp 71), 0, "law.go:49", #[⟨6, .data⟩, ⟨7, .data⟩], none⟩) hH.out (by rintro w ⟨s0, s1⟩; go_simp <;> with_reducible rfl) ?_
          simp only [Act.put, sA, sB, sC]
          refine tk (i := 9) (oi := ⟨some 73, .fieldAddr 31 (.tmp 72) 1, 0, "law.go:49", #[⟨8, .data⟩], none⟩) hH.out (by rintro w ⟨s0, s1⟩; go_simp <;> with_reducible rfl) ?_
          simp only [Act.put, sA, sB, sC]
          refine tk (i := 10) (oi := ⟨some 74, .load 3 (.tmp 73), 3, "law.go:49", #[⟨9, .data⟩], none⟩) hH.out (by rintro w ⟨s0, s1⟩; go_simp <;> with_reducible rfl) ?_
          simp only [Act.put, sA, sB, sC]
          refine tk (i := 12) (oi := ⟨some 76, .move (.tmp 7), 27, "law.go:49", #[], none⟩) hH.out (by rintro w ⟨s0, s1⟩; go_simp <;> with_reducible rfl) ?_
          simp only [Act.put, sA, sB, sC]
          refine tk (i := 13) (oi := ⟨some 77, .move (.tmp 1), 22, "law.go:49", #[], none⟩) hH.out (by rintro w ⟨s0, s1⟩; go_simp <;> with_reducible rfl) ?_
          simp only [Act.put, sA, sB, sC]
          refine tk (i := 14) (oi := ⟨some 78, .move (.tmp 9), 3, "law.go:49", #[], none⟩) hH.out (by rintro w ⟨s0, s1⟩; go_simp <;> with_reducible rfl) ?_
          simp only [Act.put, sA, sB, sC]
          refine tk (i := 15) (oi := ⟨some 79, .indexAddr 22 (.tmp 77) (.tmp 78), 0, "law.go:49", #[⟨13, .data⟩, ⟨14, .data⟩], none⟩) hH.out (by rintro w ⟨s0, s1⟩; go_simp <;> with_reducible rfl) ?_
          simp only [Act.put, sA, sB, sC]
          refine tk (i := 16) (oi := ⟨some 80, .fieldAddr 31 (.tmp 79) 0, 0, "law.go:49", #[⟨15, .data⟩], none⟩) hH.out (by rintro w ⟨s0, s1⟩; go_simp <;> with_reducible rfl) ?_
          simp only [Act.put, sA, sB, sC]
          refine tk (i := 17) (oi := ⟨some 81, .load 3 (.tmp 80), 3, "law.go:49", #[⟨16, .data⟩], none⟩) hH.out (by rintro w ⟨s0, s1⟩; go_simp <;> with_reducible rfl) ?_
          simp only [Act.put, sA, sB, sC]
          refine tk (i := 18) (oi := ⟨some 82, .move (.tmp 1), 22, "law.go:49", #[], none⟩) hH.out (by rintro w ⟨s0, s1⟩; go_simp <;> with_reducible rfl) ?_
          simp only [Act.put, sA, sB, sC]
          refine tk (i := 19) (oi := ⟨some 83, .move (.tmp 9), 3, "law.go:49", #[], none⟩) hH.out (by rintro w ⟨s0, s1⟩; go_simp <;> with_reducible rfl) ?_
          simp only [Act.put, sA, sB, sC]
          refine tk (i := 20) (oi := ⟨some 84, .indexAddr 22 (.tmp 82) (.tmp 83), 0, "law.go:49", #[⟨18, .data⟩, ⟨19, .data⟩], none⟩) hH.out (by rintro w ⟨s0, s1⟩; go_simp <;> with_reducible rfl) ?_
          simp only [Act.put, sA, sB, sC]
          refine tk (i := 21) (oi := ⟨some 85, .fieldAddr 31 (.tmp 84) 1, 0, "law.go:49", #[⟨20, .data⟩], none⟩) hH.out (by rintro w ⟨s0, s1⟩; go_simp <;> with_reducible rfl) ?_
          simp only [Act.put, sA, sB, sC]
          refine tk (i := 22) (oi := ⟨some 86, .load 3 (.tmp 85), 3, "law.go:49", #[⟨21, .data⟩], none⟩) hH.out (by rintro w ⟨s0, s1⟩; go_simp <;> with_reducible rfl) ?_
          simp only [Act.put, sA, sB, sC]
          refine rdy (i := 11) (oi := ⟨some 75, .call ⟨.value (.func 8), #[.tmp 64, .tmp 69, .tmp 74], #[23, 3, 3]⟩, 24, "law.go:49", #[⟨0, .data⟩, ⟨5, .data⟩, ⟨10, .data⟩], none⟩) (fun K hK => ?_)
          go_simp
          refine (HW1.out _ HX.out.drew).mono ?_
          rintro e w4 ⟨rfl, a4, b4⟩
          have HM4 := Lib.hid (HX.out.drew.half a4 b4 HW0.out)
          have KA := Lib.hid (HKP.out _ _ HM4.out.adv)
          clear a4 b4
          go_wp2_with fail
          refine hK.out _ _ (by first | with_reducible exact KB.out | with_reducible exact KA.out | with_reducible exact K0.out) (fun hHeld => ?_)
          replace hH := Lib.hid hHeld
          clear hK K hHeld
          try simp only [Act.put, sA, sB, sC]
          refine rdy (i := 23) (oi := ⟨some 87, .call ⟨.value (.func 9), #[.tmp 76, .tmp 81, .tmp 86], #[27, 3, 3]⟩, 3, "law.go:49", #[⟨12, .data⟩, ⟨17, .data⟩, ⟨22, .data⟩, ⟨11, .chain⟩], none⟩) (fun K hK => ?_)
          go_simp
          refine (HW2.out _ HM4.out).mono ?_
          rintro e w5 ⟨rfl, a5, b5⟩
          have HM5 := Lib.hid (HM4.out.whole a5 b5 HW0.out)
          have KB := Lib.hid (HKP.out _ _ HM5.out.adv)
          clear a5 b5
          go_wp2_with fail
          refine hK.out _ _ (by first | with_reducible exact KB.out | with_reducible exact KA.out | with_reducible exact K0.out) (fun hHeld => ?_)
          replace hH := Lib.hid hHeld
          clear hK K hHeld
          try simp only [Act.put, sA, sB, sC]
          refine tk (i := 24) (oi := ⟨some 88, .binOp .neq 3 (.tmp 75) (.tmp 87) 3, 4, "law.go:49", #[⟨11, .data⟩, ⟨23, .data⟩], none⟩) hH.out (by rintro w ⟨s0, s1⟩; go_simp <;> with_reducible rfl) ?_
          simp only [Act.put, sA, sB, sC]
          refine wpAnyH_done (by kernel_rfl) ?_ _
          go_wp2_with fail
          go_meet
          exact ⟨t, rfl, HM5.out⟩
      case rest =>
      obtain ⟨t, rfl, hx'⟩ := hcut
      clear HX
      have HX := Lib.hid hx'
      have HQL := Lib.hid (fun w' (h : Mc w d x g t w') => qlists_any w' x g t h.qr)
      have HU := Lib.hid (fun w' (h : Mc w d x g t w') => cused_any w' d t h.cl h.tz)
      have HPN := Lib.hid (fun w' (h : Mc w d x g t w') => cpinned_any w' d t h.cl h.tz)
      have HH := Lib.hid (fun w' (h : Mc w d x g t w') => chand_any w' d t h.cl)
      have HHD := Lib.hid (fun w' (h : Mc w d x g t w') => h.qr.c1)
      obtain ⟨h, hh⟩ : ∃ h, h = t.h := ⟨_, rfl⟩
      rw [← hh] at HH HHD
      clear hx' hh c0 c1
      go_upto_region 16 with (first
        | (go_at_call 12; refine (HQL.out _ HX.out).mono ?_; rintro e w3 ⟨a3, b3, rfl, l3⟩; have HX3 := Lib.hid (Mcx.start HX.out l3); clear l3)
        | fail)
      have K0 := Lib.hid (HHD.out _ HX3.out.drew.mc)
      refine rstart (S := (fun w' => w'.cell? ⟨x, 1, none⟩ = some (.int .i64 (h : Int)))) (by first | with_reducible exact KE.out | with_reducible exact KD.out | with_reducible exact KC.out | with_reducible exact KB.out | with_reducible exact KA.out | with_reducible exact K0.out) (fun hH => ?_)
      refine tk (i := 0) (oi := ⟨some 112, .move (.tmp 5), 23, "law.go:60", #[], none⟩) hH.out (by rintro w s0; go_simp <;> with_reducible rfl) ?_
      simp only [Act.put, sA, sB, sC]
      refine tk (i := 2) (oi := ⟨some 114, .move (.tmp 14), 38, "law.go:60", #[], none⟩) hH.out (by rintro w s0; go_simp <;> with_reducible rfl) ?_
      simp only [Act.put, sA, sB, sC]
      refine rdy (i := 1) (oi := ⟨some 113, .call ⟨.value (.func 14), #[.tmp 112], #[23]⟩, 38, "law.go:60", #[⟨0, .data⟩], none⟩) (fun K hK => ?_)
      go_simp
      refine (HU.out _ HX3.out.drew.mc).mono ?_
      rintro e w4 ⟨v4, F4, rfl, a4, b4⟩
      have H4 := Lib.hid (HX3.out.drew.still b4)
      have HR4 := Lib.hid a4.rd
      have KA := Lib.hid (HHD.out _ H4.out.mc)
      obtain ⟨A4, c4, rfl, _, _⟩ := a4.form0
      clear a4 b4
      go_wp2_with fail
      refine hK.out _ _ (by first | with_reducible exact KE.out | with_reducible exact KD.out | with_reducible exact KC.out | with_reducible exact KB.out | with_reducible exact KA.out | with_reducible exact K0.out) (fun hHeld => ?_)
      replace hH := Lib.hid hHeld
      clear hK K hHeld
      try simp only [Act.put, sA, sB, sC]
      refine rdy (i := 3) (oi := ⟨some 115, .call ⟨.value (.func 13), #[.tmp 113, .tmp 114], #[38, 38]⟩, 4, "law.go:60", #[⟨1, .data⟩, ⟨2, .data⟩, ⟨1, .chain⟩], none⟩) (fun K hK => ?_)
      go_simp
      refine (same_ints _ _ _ ((bitsL t.u).map fun i => ((i : Nat) : Int)) _ (by rw [← ints_eq]; exact HR4.out) (by rw [← ints_eq]; exact H4.out.r1)).mono ?_
      rintro e w5 ⟨rfl, n5, rfl⟩
      have H5 := Lib.hid (H4.out.drewN n5)
      have KB := Lib.hid (HHD.out _ H5.out.mc)
      go_wp2_with fail
      refine hK.out _ _ (by first | with_reducible exact KE.out | with_reducible exact KD.out | with_reducible exact KC.out | with_reducible exact KB.out | with_reducible exact KA.out | with_reducible exact K0.out) (fun hHeld => ?_)
      replace hH := Lib.hid hHeld
      clear hK K hHeld
      try simp only [Act.put, sA, sB, sC]
      refine tk (i := 4) (oi := ⟨some 116, .unOp .not 4 (.tmp 115), 4, "law.go:60", #[⟨3, .data⟩], none⟩) hH.out (by rintro w s0; go_simp <;> with_reducible rfl) ?_
      simp only [Act.put, sA, sB, sC]
      refine tk (i := 5) (oi := ⟨some 117, .move (.tmp 116), 4, "law.go:60", #[⟨4, .data⟩, ⟨3, .chain⟩], none⟩) hH.out (by rintro w s0; go_simp <;> with_reducible rfl) ?_
      simp only [Act.put, sA, sB, sC]
      refine tk (i := 6) (oi := { dst := some 118, op := .move (.tmp 5), type := 23, pos := "law.go:60", after := #[⟨5, .guard⟩], guard := some (5, false) }) hH.out (by rintro w s0; go_simp <;> with_reducible rfl) ?_
      simp only [Act.put, sA, sB, sC]
      refine tk (i := 8) (oi := { dst := some 120, op := .move (.tmp 15), type := 38, pos := "law.go:60", after := #[⟨5, .guard⟩], guard := some (5, false) }) hH.out (by rintro w s0; go_simp <;> with_reducible rfl) ?_
      simp only [Act.put, sA, sB, sC]
      refine rdy (i := 7) (oi := { dst := some 119, op := .call ⟨.value (.func 15), #[.tmp 118], #[23]⟩, type := 38, pos := "law.go:60", after := #[⟨6, .data⟩, ⟨5, .chain⟩, ⟨5, .guard⟩], guard := some (5, false) }) (fun K hK => ?_)
      go_simp
      refine (HPN.out _ H5.out.mc).mono ?_
      rintro e w6 ⟨v6, F6, rfl, a6, b6⟩
      have H6 := Lib.hid (H5.out.still b6)
      have HR6 := Lib.hid a6.rd
      have KC := Lib.hid (HHD.out _ H6.out.mc)
      obtain ⟨A6, c6, rfl, _, _⟩ := a6.form0
      clear a6 b6
      go_wp2_with fail
      refine hK.out _ _ (by first | with_reducible exact KE.out | with_reducible exact KD.out | with_reducible exact KC.out | with_reducible exact KB.out | with_reducible exact KA.out | with_reducible exact K0.out) (fun hHeld => ?_)
      replace hH := Lib.hid hHeld
      clear hK K hHeld
      try simp only [Act.put, sA, sB, sC]
      refine rdy (i := 9) (oi := { dst := some 121, op := .call ⟨.value (.func 13), #[.tmp 119, .tmp 120], #[38, 38]⟩, type := 4, pos := "law.go:60", after := #[⟨7, .data⟩, ⟨8, .data⟩, ⟨7, .chain⟩, ⟨5, .guard⟩], guard := some (5, false) }) (fun K hK => ?_)
      go_simp
      refine (same_ints _ _ _ ((bitsL t.p).map fun i => ((i : Nat) : Int)) _ (by rw [← ints_eq]; exact HR6.out) (by rw [← ints_eq]; exact H6.out.r2)).mono ?_
      rintro e w7 ⟨rfl, n7, rfl⟩
      have H7 := Lib.hid (H6.out.drewN n7)
      have KD := Lib.hid (HHD.out _ H7.out.mc)
      go_wp2_with fail
      refine hK.out _ _ (by first | with_reducible exact KE.out | with_reducible exact KD.out | with_reducible exact KC.out | with_reducible exact KB.out | with_reducible exact KA.out | with_reducible exact K0.out) (fun hHeld => ?_)
      replace hH := Lib.hid hHeld
      clear hK K hHeld
      try simp only [Act.put, sA, sB, sC]
      refine tk (i := 10) (oi := { dst := some 122, op := .unOp .not 4 (.tmp 121), type := 4, pos := "law.go:60", after := #[⟨9, .data⟩, ⟨5, .guard⟩], guard := some (5, false) }) hH.out (by rintro w s0; go_simp <;> with_reducible rfl) ?_
      simp only [Act.put, sA, sB, sC]
      refine tk (i := 11) (oi := ⟨some 123, .pick (.tmp 117) (.const (Go.Value.bool true)) (.tmp 122), 4, "law.go:60", #[⟨5, .data⟩, ⟨10, .data⟩], none⟩) hH.out (by rintro w s0; go_simp <;> with_reducible rfl) ?_
      simp only [Act.put, sA, sB, sC]
      refine tk (i := 12) (oi := ⟨some 124, .move (.tmp 123), 4, "law.go:60", #[⟨11, .data⟩, ⟨9, .chain⟩], none⟩) hH.out (by rintro w s0; go_simp <;> with_reducible rfl) ?_
      simp only [Act.put, sA, sB, sC]
      refine tk (i := 13) (oi := { dst := some 125, op := .move (.tmp 5), type := 23, pos := "law.go:60", after := #[⟨12, .guard⟩], guard := some (12, false) }) hH.out (by rintro w s0; go_simp <;> with_reducible rfl) ?_
      simp only [Act.put, sA, sB, sC]
      refine tk (i := 15) (oi := { dst := some 127, op := .move (.tmp 7), type := 27, pos := "law.go:60", after := #[⟨12, .guard⟩], guard := some (12, false) }) hH.out (by rintro w s0; go_simp <;> with_reducible rfl) ?_
      simp only [Act.put, sA, sB, sC]
      refine tk (i := 16) (oi := { dst := some 128, op := .nilCheck (.tmp 127), type := 0, pos := "law.go:60", after := #[⟨15, .data⟩, ⟨12, .guard⟩], guard := some (12, false) }) hH.out (by rintro w s0; go_simp <;> with_reducible rfl) ?_
      simp only [Act.put, sA, sB, sC]
      refine tk (i := 17) (oi := { dst := some 129, op := .fieldAddr 46 (.tmp 128) 1, type := 0, pos := "law.go:60", after := #[⟨16, .data⟩, ⟨12, .guard⟩], guard := some (12, false) }) hH.out (by rintro w s0; go_simp <;> with_reducible rfl) ?_
      simp only [Act.put, sA, sB, sC]
      refine tk (i := 18) (oi := { dst := some 130, op := .load 3 (.tmp 129), type := 3, pos := "law.go:60", after := #[⟨17, .data⟩, ⟨12, .guard⟩], guard := some (12, false) }) hH.out (by rintro w s0; go_simp <;> with_reducible rfl) ?_
      simp only [Act.put, sA, sB, sC]
      refine rdy (i := 14) (oi := { dst := some 126, op := .call ⟨.value (.func 16), #[.tmp 125], #[23]⟩, type := 3, pos := "law.go:60", after := #[⟨13, .data⟩, ⟨12, .chain⟩, ⟨12, .guard⟩], guard := some (12, false) }) (fun K hK => ?_)
      go_simp
      refine (HH.out _ H7.out.mc).mono ?_
      rintro e w8 ⟨rfl, rfl⟩
      have KE := Lib.hid (HHD.out _ H7.out.mc)
      go_wp2_with fail
      refine hK.out _ _ (by first | with_reducible exact KE.out | with_reducible exact KD.out | with_reducible exact KC.out | with_reducible exact KB.out | with_reducible exact KA.out | with_reducible exact K0.out) (fun hHeld => ?_)
      replace hH := Lib.hid hHeld
      clear hK K hHeld
      try simp only [Act.put, sA, sB, sC]
      refine tk (i := 19) (oi := { dst := some 131, op := .binOp .neq 3 (.tmp 126) (.tmp 130) 3, type := 4, pos := "law.go:60", after := #[⟨14, .data⟩, ⟨18, .data⟩, ⟨12, .guard⟩], guard := some (12, false) }) hH.out (by rintro w s0; go_simp <;> with_reducible rfl) ?_
      simp only [Act.put, sA, sB, sC]
      refine tk (i := 20) (oi := ⟨some 132, .pick (.tmp 124) (.const (Go.Value.bool true)) (.tmp 131), 4, "law.go:60", #[⟨12, .data⟩, ⟨19, .data⟩], none⟩) hH.out (by rintro w s0; go_simp <;> with_reducible rfl) ?_
      simp only [Act.put, sA, sB, sC]
      refine wpAnyH_done (by kernel_rfl) ?_ _
      go_wp2_with fail
      exact ⟨⟨i + 1, t, by simp, HIM.out, HI8.out, H7.out.mc⟩, by simp [intOf]; omega⟩
    · have e : B = false := by rw [HB.out]; exact decide_eq_false hb
      subst e
      clear HB hb
      have hbl := HX.out.below
      have HBl := Lib.hid hbl
      have HTz := Lib.hid HX.out.tz
      clear hbl
      go_wp2_with (first
        | (go_at_call 17; refine (clives_any _ HTz.out).mono ?_; rintro e w7 ⟨rfl, hb7⟩)
        | fail)
      go_ret
      exact ⟨rfl, HBl.out.trans (hb7.mono HBl.out.size)⟩
end Go.Proofs.YtmefpafjcafgnaaDoor
