/- DiskPlays: the law. -/
import Derived.Test.YtickabjhapghbaaPlA
import Derived.Deep.DeepCutAuto
namespace Go.Proofs.Ytickabjhapghbaa
open Go.RowKit

def PlyRel (w : World) (d c N : Nat) (t : Value) (wr : World) : Prop :=
  ∃ k s, t = .int .i64 ((k : Nat) : Int) ∧ k ≤ 40 ∧ s.Q.length ≤ k ∧ Mix w wr d c N s s
def SizeR (n : Int) (w : World) (t : Value) (wr : World) : Prop := t = .int .i64 (if 6 < n ∧ n ≤ 4096 then 6 else n) ∧ w = wr
def BufR (w : World) (d c N : Nat) (s : DS) (t : Value) (wr : World) : Prop := ∃ l, MixB w wr d c N s s t l
def SpR (w : World) (d c N : Nat) (s : DS) (v : Value) (m : Nat) (t : Value) (wr : World) : Prop := ∃ k : Nat, k ≤ m ∧ t = .int .i64 (k : Int) ∧ MixO w wr d c N s s v m
theorem wrap_up (x : Nat) : IntKind.u8.wrap ((x : Int) + 1) = (((x + 1) % 256 : Nat) : Int) := by rw [IntKind.wrap_u8]; omega
structure SixAt (w : World) (b p : Nat) (x : DkDo) : Prop where
  c0 : w.cell? ⟨b, p, none⟩ = some (.int .i64 x.kind)
  c1 : w.cell? ⟨b, p + 1, none⟩ = some (.int .i64 x.a)
  c2 : w.cell? ⟨b, p + 2, none⟩ = some (.int .i64 x.n)
  c3 : w.cell? ⟨b, p + 3, none⟩ = some x.bv
  c4 : w.cell? ⟨b, p + 4, none⟩ = some (.bool x.short)
  c5 : w.cell? ⟨b, p + 5, none⟩ = some x.kv
theorem DkDosIn.six {W : World} {v : Value} {ds : List DkDo} (h : DkDosIn W v ds) {k : Nat} (hk : k < ds.length) :
    ∃ b o c, v = .slice (some ⟨b, o, none⟩) ds.length c ∧ ∀ w', Below W.heap.size W w' → SixAt w' b (o + k * 6) ds[k] := by
  obtain ⟨b, o, c, e, hb, g0, g1, g2, g3, g4, g5⟩ := h.at_ hk
  have old : ∀ w' u j, W.cell? ⟨b, j, none⟩ = some u → Below W.heap.size W w' → w'.cell? ⟨b, j, none⟩ = some u := fun w' u j hu hB => (World.cell?_of_block (hB.block b hb)).trans hu
  exact ⟨b, o, c, e, fun w' hB => ⟨old _ _ _ g0 hB, old _ _ _ g1 hB, old _ _ _ g2 hB, old _ _ _ g3 hB, old _ _ _ g4 hB, old _ _ _ g5 hB⟩⟩

set_option maxRecDepth 4000 in
set_option linter.unusedVariables false in
set_option maxHeartbeats 6400000 in
theorem plays_walk (w : World) (n : Int) (hwf : (Lit.int .i64 n).wf = true) (v : Value) (h : ∃ ds, DkDosIn w v ds) :
    Calls Try.prog 3 #[.int .i64 n, v] w fun e w' => e = .returned (.bool true) ∧ Below w.heap.size w w' := by
  obtain ⟨ds, h⟩ := h
  obtain ⟨A, cap, rfl, _, hcm⟩ := h.rd.form
  unfold maxLen at hcm
  have HD := Lib.hid h
  obtain ⟨m, hm⟩ : ∃ m, m = ds.length := ⟨_, rfl⟩
  have HM := Lib.hid hm
  rw [← hm]
  clear h hm hwf
  go_enter Try.func3, Try.ntmps3
  go_upto_region 1 with (fail)
  obtain ⟨B, hB⟩ : ∃ B, B = decide (6 < n ∧ n ≤ 4096) := ⟨_, rfl⟩
  have HB := Lib.hid hB
  clear hB
  go_cut [23] (fun t23 wr => t23 = .bool B ∧ w = wr)
  case first =>
    by_cases h1 : 6 < n
    · by_cases h2 : n ≤ 4096
      · have e : B = true := by rw [HB.out]; simp [h1, h2]
        have HE := Lib.hid e
        clear e
        go_wp2_with fail
        go_meet
        exact ⟨by rw [HE.out], rfl⟩
      · have e : B = false := by rw [HB.out]; simp [h2]
        have h2' : 4096 < n := by omega
        have HE := Lib.hid e
        clear e h2
        go_wp2_with fail
        go_meet
        exact ⟨by rw [HE.out]; simp; omega, rfl⟩
    · have e : B = false := by rw [HB.out]; simp [h1]
      have h1' : n ≤ 6 := by omega
      have HE := Lib.hid e
      clear e h1
      go_wp2_with fail
      go_meet
      exact ⟨by rw [HE.out], rfl⟩
  case rest =>
  obtain ⟨rfl, rfl⟩ := hcut
  go_upto_if 23 with (fail)
  have HSZ : Hid (∀ x, (B = true → x = 6) → (B = false → x = n) → x = if 6 < n ∧ n ≤ 4096 then 6 else n) := fun x h1 h2 => by
    have hb := HB.out
    cases hc : B with
    | true => rw [hc] at hb; have := of_decide_eq_true hb.symm; rw [if_pos this]; exact h1 hc
    | false => rw [hc] at hb; have := of_decide_eq_false hb.symm; rw [if_neg this]; exact h2 hc
  go_cut [0] (fun t0 wr => SizeR n w t0 wr)
  case first =>
    cases hc : B with
    | true =>
      have HC := Lib.hid hc
      subst hc
      go_wp2_with fail
      go_meet
      exact ⟨by rw [← HSZ.out 6 (fun _ => rfl) (fun h => by cases h)], rfl⟩
    | false =>
      subst hc
      go_wp2_with fail
      go_meet
      exact ⟨by rw [← HSZ.out n (fun h => by cases h) (fun _ => rfl)], rfl⟩
  case rest =>
  obtain ⟨N0, hN0⟩ : ∃ N0, N0 = if 6 < n ∧ n ≤ 4096 then (6 : Int) else n := ⟨_, rfl⟩
  have hcase : (N0 < 1 ∨ 4096 < N0) ∨ (1 ≤ N0 ∧ N0 ≤ 6) := by rw [hN0]; split <;> omega
  unfold SizeR at hcut
  rw [← hN0] at hcut
  obtain ⟨rfl, rfl⟩ := hcut
  clear hN0 HSZ HB
  rcases hcase with hbad | ⟨hg1, hg6⟩
  · have HBAD := Lib.hid hbad
    clear hbad
    as_aux_lemma =>
      go_wp2_with (first
        | (go_at_call 7; refine (new_bad N0 HBAD.out _).mono ?_; rintro e w1 ⟨rfl, rfl⟩)
        | (go_at_call 8; refine (rnew_bad N0 HBAD.out _).mono ?_; rintro e w1 ⟨rfl, rfl⟩)
        | fail)
      go_loopw [9] (fun t wr => t = .int .i64 0 ∧ w = wr) (fun _ _ => 0)
      case atStart => exact ⟨rfl, rfl⟩
      case round =>
        obtain ⟨rfl, rfl⟩ := hrel
        by_cases h0 : (0 : Int) < (m : Int)
        · go_wp2_with (first
            | (go_at_call 26; refine (lives_any _).mono ?_; rintro e w1 ⟨rfl, h1⟩)
            | fail)
          go_ret
          exact ⟨rfl, h1⟩
        · have h0' : (m : Int) ≤ 0 := by omega
          clear h0
          go_wp2_with (first
            | (go_at_call 26; refine (lives_any _).mono ?_; rintro e w1 ⟨rfl, h1⟩)
            | fail)
          go_ret
          exact ⟨rfl, h1⟩
  · obtain ⟨N, rfl⟩ := Int.eq_ofNat_of_zero_le (show 0 ≤ N0 by omega)
    have HN1 := Lib.hid (show 1 ≤ N by omega)
    have HN6 := Lib.hid (show N ≤ 6 by omega)
    have HFEW0 := Lib.hid (show (newS N).Q.length ≤ 0 by simp [newS])
    clear hg1 hg6
    obtain ⟨s0, hs0⟩ : ∃ s0, s0 = newS N := ⟨_, rfl⟩
    have hn1 := new_r N HN1.out (Nat.le_trans HN6.out (by decide))
    have hn2 := rnew_r N HN1.out (Nat.le_trans HN6.out (by decide))
    rw [← hs0] at hn1 hn2 HFEW0
    have HW1 := Lib.hid hn1
    have HW2 := Lib.hid hn2
    clear hn1 hn2 hs0
    go_wp2_with (first
      | (go_at_call 7; refine (HW1.out _).mono ?_; rintro e w1 ⟨d, F, rfl, h1, a1⟩; have H1 := Lib.hid h1; have A1 := Lib.hid a1; clear h1 a1)
      | (go_at_call 8; refine (HW2.out _).mono ?_; rintro e w2 ⟨c, G, rfl, h2, a2⟩; have HX := Lib.hid (Mix.new H1.out A1.out h2 a2); clear h2 a2)
      | fail)
    go_loopw [9] (PlyRel w d c N) (fun t _ => 40 - (intOf t).toNat)
    case atStart => exact ⟨0, s0, rfl, by omega, HFEW0.out, HX.out⟩
    case round =>
      obtain ⟨k, s, rfl, hk, hq, hx⟩ := hrel
      clear HX H1 A1 HW1 HW2 HFEW0
      have HX := Lib.hid hx
      have HQK := Lib.hid hq
      have HQ := Lib.hid (show s.Q.length ≤ 1000 by omega)
      clear hx hq
      by_cases hgo : k < m ∧ k < 40
      · obtain ⟨hkm, hk40⟩ := hgo
        have hlt : k < ds.length := by have := HM.out; omega
        obtain ⟨b, o, c', e, hsix⟩ := HD.out.six hlt
        rw [← HM.out] at e
        injection e with e1 e2 e3
        subst e1
        subst e3
        have hfit := HD.out.fit _ (List.getElem_mem hlt)
        obtain ⟨x, hx⟩ : ∃ x, x = ds[k] := ⟨_, rfl⟩
        rw [← hx] at hsix hfit
        have HSIX := Lib.hid hsix
        have HFIT := Lib.hid hfit
        have hki : (k : Int) < (m : Int) := by omega
        have hki2 : (k : Int) < 40 := by omega
        have HK40 := Lib.hid hk40
        have k3 := (hsix _ HX.out.below).c3
        clear hx hfit hsix hlt hk hk40 hkm e2
        go_upto_if 68 with (first
          | (go_at_call 9; refine (sector_any x.bv x.b _ (HFIT.out.b.far HX.out.below)).mono ?_; rintro e w3 ⟨v3, F3, rfl, h3, a3⟩; have hmb := HX.out.buf (l := sec x.b) (by rw [sec_length]; exact h3) a3; have MB := Lib.hid hmb; have c4 := (HSIX.out _ hmb.mix.below).c4; have c3 := (HSIX.out _ hmb.mix.below).c3; clear hmb h3 a3)
          | fail)
        clear k3
        go_cut [10] (fun t10 wr => BufR w d c N s t10 wr)
        case first =>
          cases hs : x.short with
          | false =>
            have HSH := Lib.hid hs
            rw [hs] at c4
            clear hs
            go_wp2_with fail
            go_meet
            exact ⟨_, MB.out⟩
          | true =>
            rw [hs] at c4
            clear hs
            go_wp2_with (first
              | (go_at_call 11; refine (cut_any x.bv x.b 200 _ (HFIT.out.b.far MB.out.mix.below) (by decide)).mono ?_; rintro e w5 ⟨v5, rfl, h5, rfl⟩; have H5 := Lib.hid h5; clear h5)
              | (go_at_call 10; refine (copy_any v5 _ (x.b.take 200) _ H5.out.rd (by simp; omega)).mono ?_; rintro e w6 ⟨v6, F6, rfl, h6, a6⟩; have MC := Lib.hid (MB.out.mix.buf h6 a6); clear h6 a6)
              | fail)
            go_meet
            exact ⟨_, MC.out⟩
        case rest =>
        obtain ⟨l, hb⟩ := hcut
        obtain ⟨ab, cb, rfl⟩ := hb.form
        obtain ⟨mb, hmb⟩ : ∃ mb, mb = l.length := ⟨_, rfl⟩
        have HMB := Lib.hid hmb
        have HMAX := Lib.hid (show mb ≤ 9223372036854775807 by rw [hmb]; exact hb.max)
        have k0 := (HSIX.out _ hb.mix.below).c0
        rw [← hmb] at hb
        have MB1 := Lib.hid hb
        rw [← hmb]
        clear hb hmb c3 c4 MB
        by_cases q0 : x.kind = 0
        · rw [q0] at k0
          clear q0
          as_aux_lemma =>
            have hw1 := fun w' (h : MixB w w' d c N s s (.slice ab mb cb) l) => mixb_write h x.a (by have := HQ.out; omega)
            have hw2 := fun w' (h : MixB w w' d c N (writeS s x.a l).1 s (.slice ab mb cb) l) => mixb_rwrite h x.a (by have := HQ.out; omega)
            have hfew := few_write s x.a l
            obtain ⟨s1, hs1⟩ : ∃ s1, s1 = (writeS s x.a l).1 := ⟨_, rfl⟩
            obtain ⟨e1, he1⟩ : ∃ e1, e1 = (writeS s x.a l).2 := ⟨_, rfl⟩
            rw [← hs1] at hw1 hw2 hfew
            rw [← he1] at hw1 hw2
            have HW1 := Lib.hid hw1
            have HW2 := Lib.hid hw2
            have HFEW := Lib.hid (show s1.Q.length ≤ k + 1 by have := HQK.out; omega)
            clear hw1 hw2 hfew hs1 he1
            go_wp2_with fail
            refine wp_region_held_drew (S := (fun w' => w'.cell? ⟨b, o + k * 6 + 1, none⟩ = some (.int .i64 x.a))) (by kernel_rfl) (by first | exact (HSIX.out _ MB1.out.mix.below.drew).c1 | exact (HSIX.out _ MB1.out.mix.below).c1 | exact (HSIX.out _ MV.out.mix.below).c1 | exact (HSIX.out _ MW.out.mix.below).c1) (fun hHeld => ?_)
            clear hHeld
            refine wpAnyH_take (i := 0) (oi := ⟨some 107, .move (.tmp 5), 23, "law.go:47", #[], none⟩) (v := ?_) rfl (by kernel_rfl) (by kernel_rfl) (by kernel_rfl) (fun _ _ _ h => h) (Or.inl ⟨by rfl, ?_⟩) (by first | exact (HSIX.out _ MB1.out.mix.below.drew).c1 | exact (HSIX.out _ MB1.out.mix.below).c1 | exact (HSIX.out _ MV.out.mix.below).c1 | exact (HSIX.out _ MW.out.mix.below).c1) ?_
            rotate_left
            · (intro w hSw; obtain z0 := hSw; go_simp <;> with_reducible rfl)
            simp only [Act.put, List.setIfInBounds_toArray, List.set_cons_zero, List.set_cons_succ]
            refine wpAnyH_take (i := 1) (oi := ⟨some 108, .move (.tmp 1), 22, "law.go:47", #[], none⟩) (v := ?_) rfl (by kernel_rfl) (by kernel_rfl) (by kernel_rfl) (fun _ _ _ h => h) (Or.inl ⟨by rfl, ?_⟩) (by first | exact (HSIX.out _ MB1.out.mix.below.drew).c1 | exact (HSIX.out _ MB1.out.mix.below).c1 | exact (HSIX.out _ MV.out.mix.below).c1 | exact (HSIX.out _ MW.out.mix.below).c1) ?_
            rotate_left
            · (intro w hSw; obtain z0 := hSw; go_simp <;> with_reducible rfl)
            simp only [Act.put, List.setIfInBounds_toArray, List.set_cons_zero, List.set_cons_succ]
            refine wpAnyH_take (i := 2) (oi := ⟨some 109, .move (.tmp 9), 3, "law.go:47", #[], none⟩) (v := ?_) rfl (by kernel_rfl) (by kernel_rfl) (by kernel_rfl) (fun _ _ _ h => h) (Or.inl ⟨by rfl, ?_⟩) (by first | exact (HSIX.out _ MB1.out.mix.below.drew).c1 | exact (HSIX.out _ MB1.out.mix.below).c1 | exact (HSIX.out _ MV.out.mix.below).c1 | exact (HSIX.out _ MW.out.mix.below).c1) ?_
            rotate_left
            · (intro w hSw; obtain z0 := hSw; go_simp <;> with_reducible rfl)
            simp only [Act.put, List.setIfInBounds_toArray, List.set_cons_zero, List.set_cons_succ]
            refine wpAnyH_take (i := 3) (oi := ⟨some 110, .indexAddr 22 (.tmp 108) (.tmp 109), 0, "law.go:47", #[⟨1, .data⟩, ⟨2, .data⟩], none⟩) (v := ?_) rfl (by kernel_rfl) (by kernel_rfl) (by kernel_rfl) (fun _ _ _ h => h) (Or.inl ⟨by rfl, ?_⟩) (by first | exact (HSIX.out _ MB1.out.mix.below.drew).c1 | exact (HSIX.out _ MB1.out.mix.below).c1 | exact (HSIX.out _ MV.out.mix.below).c1 | exact (HSIX.out _ MW.out.mix.below).c1) ?_
            rotate_left
            · (intro w hSw; obtain z0 := hSw; go_simp <;> with_reducible rfl)
            simp only [Act.put, List.setIfInBounds_toArray, List.set_cons_zero, List.set_cons_succ]
            refine wpAnyH_take (i := 4) (oi := ⟨some 111, .fieldAddr 34 (.tmp 110) 1, 0, "law.go:47", #[⟨3, .data⟩], none⟩) (v := ?_) rfl (by kernel_rfl) (by kernel_rfl) (by kernel_rfl) (fun _ _ _ h => h) (Or.inl ⟨by rfl, ?_⟩) (by first | exact (HSIX.out _ MB1.out.mix.below.drew).c1 | exact (HSIX.out _ MB1.out.mix.below).c1 | exact (HSIX.out _ MV.out.mix.below).c1 | exact (HSIX.out _ MW.out.mix.below).c1) ?_
            rotate_left
            · (intro w hSw; obtain z0 := hSw; go_simp <;> with_reducible rfl)
            simp only [Act.put, List.setIfInBounds_toArray, List.set_cons_zero, List.set_cons_succ]
            refine wpAnyH_take (i := 5) (oi := ⟨some 112, .load 3 (.tmp 111), 3, "law.go:47", #[⟨4, .data⟩], none⟩) (v := ?_) rfl (by kernel_rfl) (by kernel_rfl) (by kernel_rfl) (fun _ _ _ h => h) (Or.inl ⟨by rfl, ?_⟩) (by first | exact (HSIX.out _ MB1.out.mix.below.drew).c1 | exact (HSIX.out _ MB1.out.mix.below).c1 | exact (HSIX.out _ MV.out.mix.below).c1 | exact (HSIX.out _ MW.out.mix.below).c1) ?_
            rotate_left
            · (intro w hSw; obtain z0 := hSw; go_simp <;> with_reducible rfl)
            simp only [Act.put, List.setIfInBounds_toArray, List.set_cons_zero, List.set_cons_succ]
            refine wpAnyH_take (i := 6) (oi := ⟨some 113, .move (.tmp 10), 30, "law.go:47", #[], none⟩) (v := ?_) rfl (by kernel_rfl) (by kernel_rfl) (by kernel_rfl) (fun _ _ _ h => h) (Or.inl ⟨by rfl, ?_⟩) (by first | exact (HSIX.out _ MB1.out.mix.below.drew).c1 | exact (HSIX.out _ MB1.out.mix.below).c1 | exact (HSIX.out _ MV.out.mix.below).c1 | exact (HSIX.out _ MW.out.mix.below).c1) ?_
            rotate_left
            · (intro w hSw; obtain z0 := hSw; go_simp <;> with_reducible rfl)
            simp only [Act.put, List.setIfInBounds_toArray, List.set_cons_zero, List.set_cons_succ]
            refine wpAnyH_take (i := 8) (oi := ⟨some 115, .move (.tmp 7), 27, "law.go:47", #[], none⟩) (v := ?_) rfl (by kernel_rfl) (by kernel_rfl) (by kernel_rfl) (fun _ _ _ h => h) (Or.inl ⟨by rfl, ?_⟩) (by first | exact (HSIX.out _ MB1.out.mix.below.drew).c1 | exact (HSIX.out _ MB1.out.mix.below).c1 | exact (HSIX.out _ MV.out.mix.below).c1 | exact (HSIX.out _ MW.out.mix.below).c1) ?_
            rotate_left
            · (intro w hSw; obtain z0 := hSw; go_simp <;> with_reducible rfl)
            simp only [Act.put, List.setIfInBounds_toArray, List.set_cons_zero, List.set_cons_succ]
            refine wpAnyH_take (i := 9) (oi := ⟨some 116, .move (.tmp 1), 22, "law.go:47", #[], none⟩) (v := ?_) rfl (by kernel_rfl) (by kernel_rfl) (by kernel_rfl) (fun _ _ _ h => h) (Or.inl ⟨by rfl, ?_⟩) (by first | exact (HSIX.out _ MB1.out.mix.below.drew).c1 | exact (HSIX.out _ MB1.out.mix.below).c1 | exact (HSIX.out _ MV.out.mix.below).c1 | exact (HSIX.out _ MW.out.mix.below).c1) ?_
            rotate_left
            · (intro w hSw; obtain z0 := hSw; go_simp <;> with_reducible rfl)
            simp only [Act.put, List.setIfInBounds_toArray, List.set_cons_zero, List.set_cons_succ]
            refine wpAnyH_take (i := 10) (oi := ⟨some 117, .move (.tmp 9), 3, "law.go:47", #[], none⟩) (v := ?_) rfl (by kernel_rfl) (by kernel_rfl) (by kernel_rfl) (fun _ _ _ h => h) (Or.inl ⟨by rfl, ?_⟩) (by first | exact (HSIX.out _ MB1.out.mix.below.drew).c1 | exact (HSIX.out _ MB1.out.mix.below).c1 | exact (HSIX.out _ MV.out.mix.below).c1 | exact (HSIX.out _ MW.out.mix.below).c1) ?_
            rotate_left
            · (intro w hSw; obtain z0 := hSw; go_simp <;> with_reducible rfl)
            simp only [Act.put, List.setIfInBounds_toArray, List.set_cons_zero, List.set_cons_succ]
            refine wpAnyH_take (i := 11) (oi := ⟨some 118, .indexAddr 22 (.tmp 116) (.tmp 117), 0, "law.go:47", #[⟨9, .data⟩, ⟨10, .data⟩], none⟩) (v := ?_) rfl (by kernel_rfl) (by kernel_rfl) (by kernel_rfl) (fun _ _ _ h => h) (Or.inl ⟨by rfl, ?_⟩) (by first | exact (HSIX.out _ MB1.out.mix.below.drew).c1 | exact (HSIX.out _ MB1.out.mix.below).c1 | exact (HSIX.out _ MV.out.mix.below).c1 | exact (HSIX.out _ MW.out.mix.below).c1) ?_
            rotate_left
            · (intro w hSw; obtain z0 := hSw; go_simp <;> with_reducible rfl)
            simp only [Act.put, List.setIfInBounds_toArray, List.set_cons_zero, List.set_cons_succ]
            refine wpAnyH_take (i := 12) (oi := ⟨some 119, .fieldAddr 34 (.tmp 118) 1, 0, "law.go:47", #[⟨11, .data⟩], none⟩) (v := ?_) rfl (by kernel_rfl) (by kernel_rfl) (by kernel_rfl) (fun _ _ _ h => h) (Or.inl ⟨by rfl, ?_⟩) (by first | exact (HSIX.out _ MB1.out.mix.below.drew).c1 | exact (HSIX.out _ MB1.out.mix.below).c1 | exact (HSIX.out _ MV.out.mix.below).c1 | exact (HSIX.out _ MW.out.mix.below).c1) ?_
            rotate_left
            · (intro w hSw; obtain z0 := hSw; go_simp <;> with_reducible rfl)
            simp only [Act.put, List.setIfInBounds_toArray, List.set_cons_zero, List.set_cons_succ]
            refine wpAnyH_take (i := 13) (oi := ⟨some 120, .load 3 (.tmp 119), 3, "law.go:47", #[⟨12, .data⟩], none⟩) (v := ?_) rfl (by kernel_rfl) (by kernel_rfl) (by kernel_rfl) (fun _ _ _ h => h) (Or.inl ⟨by rfl, ?_⟩) (by first | exact (HSIX.out _ MB1.out.mix.below.drew).c1 | exact (HSIX.out _ MB1.out.mix.below).c1 | exact (HSIX.out _ MV.out.mix.below).c1 | exact (HSIX.out _ MW.out.mix.below).c1) ?_
            rotate_left
            · (intro w hSw; obtain z0 := hSw; go_simp <;> with_reducible rfl)
            simp only [Act.put, List.setIfInBounds_toArray, List.set_cons_zero, List.set_cons_succ]
            refine wpAnyH_take (i := 14) (oi := ⟨some 121, .move (.tmp 10), 30, "law.go:47", #[], none⟩) (v := ?_) rfl (by kernel_rfl) (by kernel_rfl) (by kernel_rfl) (fun _ _ _ h => h) (Or.inl ⟨by rfl, ?_⟩) (by first | exact (HSIX.out _ MB1.out.mix.below.drew).c1 | exact (HSIX.out _ MB1.out.mix.below).c1 | exact (HSIX.out _ MV.out.mix.below).c1 | exact (HSIX.out _ MW.out.mix.below).c1) ?_
            rotate_left
            · (intro w hSw; obtain z0 := hSw; go_simp <;> with_reducible rfl)
            simp only [Act.put, List.setIfInBounds_toArray, List.set_cons_zero, List.set_cons_succ]
            refine wpAnyH_ready (rs := [7]) (by kernel_rfl) (by simp) ?_
            refine AllReadyH.cons (o := ⟨some 114, .call { callee := Go.Callee.value (.func 12), args := #[Go.Operand.tmp 107, Go.Operand.tmp 112, Go.Operand.tmp 113], argTypes := #[23, 3, 30] }, 24, "law.go:47", #[⟨0, .data⟩, ⟨5, .data⟩, ⟨6, .data⟩], none⟩) rfl (fun K hK => ?_) AllReadyH.nil
            go_simp
            refine (HW1.out _ MB1.out.drew).mono ?_
            rintro e w4 ⟨rfl, h4⟩
            have MW := Lib.hid h4
            clear h4
            go_wp2_with fail
            refine hK.out _ _ (by first | exact (HSIX.out _ MB1.out.mix.below.drew).c1 | exact (HSIX.out _ MB1.out.mix.below).c1 | exact (HSIX.out _ MV.out.mix.below).c1 | exact (HSIX.out _ MW.out.mix.below).c1) (fun hHeld => ?_)
            clear hK K hHeld
            try simp only [Act.put, List.setIfInBounds_toArray, List.set_cons_zero, List.set_cons_succ]
            refine wpAnyH_ready (rs := [15]) (by kernel_rfl) (by simp) ?_
            refine AllReadyH.cons (o := ⟨some 122, .call { callee := Go.Callee.value (.func 13), args := #[Go.Operand.tmp 115, Go.Operand.tmp 120, Go.Operand.tmp 121], argTypes := #[27, 3, 30] }, 3, "law.go:47", #[⟨8, .data⟩, ⟨13, .data⟩, ⟨14, .data⟩, ⟨7, .chain⟩], none⟩) rfl (fun K hK => ?_) AllReadyH.nil
            go_simp
            refine (HW2.out _ MW.out).mono ?_
            rintro e w5 ⟨rfl, h5⟩
            have MV := Lib.hid h5
            clear h5
            go_wp2_with fail
            refine hK.out _ _ (by first | exact (HSIX.out _ MB1.out.mix.below.drew).c1 | exact (HSIX.out _ MB1.out.mix.below).c1 | exact (HSIX.out _ MV.out.mix.below).c1 | exact (HSIX.out _ MW.out.mix.below).c1) (fun hHeld => ?_)
            clear hK K hHeld
            try simp only [Act.put, List.setIfInBounds_toArray, List.set_cons_zero, List.set_cons_succ]
            refine wpAnyH_take (i := 16) (oi := ⟨some 123, .binOp Go.BinOp.eql 3 (.tmp 114) (.tmp 122) 3, 4, "law.go:47", #[⟨7, .data⟩, ⟨15, .data⟩], none⟩) (v := ?_) rfl (by kernel_rfl) (by kernel_rfl) (by kernel_rfl) (fun _ _ _ h => h) (Or.inl ⟨by rfl, ?_⟩) (by first | exact (HSIX.out _ MB1.out.mix.below.drew).c1 | exact (HSIX.out _ MB1.out.mix.below).c1 | exact (HSIX.out _ MV.out.mix.below).c1 | exact (HSIX.out _ MW.out.mix.below).c1) ?_
            rotate_left
            · (intro w hSw; obtain z0 := hSw; go_simp <;> with_reducible rfl)
            simp only [Act.put, List.setIfInBounds_toArray, List.set_cons_zero, List.set_cons_succ]
            refine wpAnyH_take (i := 17) (oi := ⟨some 11, .assign (.tmp 123), 4, "law.go:47", #[⟨16, .data⟩, ⟨15, .chain⟩, ⟨0, .phase⟩, ⟨1, .phase⟩, ⟨2, .phase⟩, ⟨3, .phase⟩, ⟨4, .phase⟩, ⟨5, .phase⟩, ⟨6, .phase⟩, ⟨7, .phase⟩, ⟨8, .phase⟩, ⟨9, .phase⟩, ⟨10, .phase⟩, ⟨11, .phase⟩, ⟨12, .phase⟩, ⟨13, .phase⟩, ⟨14, .phase⟩, ⟨15, .phase⟩, ⟨16, .phase⟩], none⟩) (v := ?_) rfl (by kernel_rfl) (by kernel_rfl) (by kernel_rfl) (fun _ _ _ h => h) (Or.inl ⟨by rfl, ?_⟩) (by first | exact (HSIX.out _ MB1.out.mix.below.drew).c1 | exact (HSIX.out _ MB1.out.mix.below).c1 | exact (HSIX.out _ MV.out.mix.below).c1 | exact (HSIX.out _ MW.out.mix.below).c1) ?_
            rotate_left
            · (intro w hSw; obtain z0 := hSw; go_simp <;> with_reducible rfl)
            simp only [Act.put, List.setIfInBounds_toArray, List.set_cons_zero, List.set_cons_succ]
            refine wpAnyH_done (by kernel_rfl) ?_ _
            go_wp2_with fail
            go_loopw [12] (SpR w d c N s1 (.slice ab mb cb) mb) (fun t _ => mb - (intOf t).toNat)
            case atStart => exact ⟨0, Nat.zero_le _, rfl, l, HMB.out.symm, MV.out⟩
            case round =>
              obtain ⟨j, hj, rfl, hmo⟩ := hrel
              by_cases hlt : j < mb
              · obtain ⟨g, cc, y, eg, hcell, hfr, hnext⟩ := hmo.at_ hlt
                injection eg with eg1 _ eg3
                subst eg1 eg3
                have hji : (j : Int) < (mb : Int) := by omega
                have hjm : (j : Int) + 1 ≤ 9223372036854775807 := by have := HMAX.out; omega
                have hnx := hnext ((y + 1) % 256)
                have HNX := Lib.hid hnx
                have HLT := Lib.hid hlt
                clear hmo hnext hnx hj hlt
                go_wp2_with fail
                have hlt := HLT.out
                have hnx := HNX.out
                rw [← wrap_up] at hnx
                refine ⟨⟨j + 1, by omega, by go_num, ?_⟩, by simp [intOf]; omega⟩
                first | exact hnx | (simpa [IntKind.wrap_u8] using hnx)
              · obtain rfl : j = mb := by omega
                clear hlt hj
                go_wp2_with fail
                have HE0 := Lib.hid (show Mix w _ d c N s1 s1 from hmo.mix)
                have HQ1 := Lib.hid (show s1.Q.length ≤ k + 1 from HFEW.out)
                have HQM := Lib.hid (show s1.Q.length ≤ 1000000 by have := HQ1.out; have := HK40.out; omega)
                obtain ⟨q, hqd⟩ : ∃ q, q = s1.dead := ⟨_, rfl⟩
                have hli := fun w' (h : Mix w w' d c N s1 s1) => mix_live h
                have hc3 := fun w' (h : Mix w w' d c N s1 s1) => h.c3
                rw [← hqd] at hli hc3
                have HLI := Lib.hid hli
                have HC3 := Lib.hid hc3
                clear hqd hli hc3
                refine wp_region_held_drew (S := (fun w' => w'.cell? ⟨c, 3, none⟩ = some (.bool q))) (by kernel_rfl) (by first | exact HC3.out _ HE0.out.drew | exact HC3.out _ HE0.out | exact HC3.out _ HEN.out) (fun hHeld => ?_)
                clear hHeld
                refine wpAnyH_take (i := 0) (oi := ⟨some 201, .move (.tmp 11), 4, "law.go:66", #[], none⟩) (v := ?_) rfl (by kernel_rfl) (by kernel_rfl) (by kernel_rfl) (fun _ _ _ h => h) (Or.inl ⟨by rfl, ?_⟩) (by first | exact HC3.out _ HE0.out.drew | exact HC3.out _ HE0.out | exact HC3.out _ HEN.out) ?_
                rotate_left
                · (intro w hSw; obtain z0 := hSw; go_simp <;> with_reducible rfl)
                simp only [Act.put, List.setIfInBounds_toArray, List.set_cons_zero, List.set_cons_succ]
                refine wpAnyH_take (i := 1) (oi := ⟨some 202, .unOp Go.UnOp.not 4 (.tmp 201), 4, "law.go:66", #[⟨0, .data⟩], none⟩) (v := ?_) rfl (by kernel_rfl) (by kernel_rfl) (by kernel_rfl) (fun _ _ _ h => h) (Or.inl ⟨by rfl, ?_⟩) (by first | exact HC3.out _ HE0.out.drew | exact HC3.out _ HE0.out | exact HC3.out _ HEN.out) ?_
                rotate_left
                · (intro w hSw; obtain z0 := hSw; go_simp <;> with_reducible rfl)
                simp only [Act.put, List.setIfInBounds_toArray, List.set_cons_zero, List.set_cons_succ]
                refine wpAnyH_take (i := 2) (oi := ⟨some 203, .move (.tmp 202), 4, "law.go:66", #[⟨1, .data⟩], none⟩) (v := ?_) rfl (by kernel_rfl) (by kernel_rfl) (by kernel_rfl) (fun _ _ _ h => h) (Or.inl ⟨by rfl, ?_⟩) (by first | exact HC3.out _ HE0.out.drew | exact HC3.out _ HE0.out | exact HC3.out _ HEN.out) ?_
                rotate_left
                · (intro w hSw; obtain z0 := hSw; go_simp <;> with_reducible rfl)
                simp only [Act.put, List.setIfInBounds_toArray, List.set_cons_zero, List.set_cons_succ]
                refine wpAnyH_take (i := 3) (oi := { dst := some 204, op := .move (.tmp 5), type := 23, pos := "law.go:66", after := #[⟨2, .guard⟩], guard := some (2, false) }) (v := ?_) rfl (by kernel_rfl) (by kernel_rfl) (by kernel_rfl) (fun _ _ _ h => h) (Or.inl ⟨by rfl, ?_⟩) (by first | exact HC3.out _ HE0.out.drew | exact HC3.out _ HE0.out | exact HC3.out _ HEN.out) ?_
                rotate_left
                · (intro w hSw; obtain z0 := hSw; go_simp <;> with_reducible rfl)
                simp only [Act.put, List.setIfInBounds_toArray, List.set_cons_zero, List.set_cons_succ]
                refine wpAnyH_take (i := 5) (oi := { dst := some 206, op := .move (.tmp 0), type := 3, pos := "law.go:66", after := #[⟨2, .guard⟩], guard := some (2, false) }) (v := ?_) rfl (by kernel_rfl) (by kernel_rfl) (by kernel_rfl) (fun _ _ _ h => h) (Or.inl ⟨by rfl, ?_⟩) (by first | exact HC3.out _ HE0.out.drew | exact HC3.out _ HE0.out | exact HC3.out _ HEN.out) ?_
                rotate_left
                · (intro w hSw; obtain z0 := hSw; go_simp <;> with_reducible rfl)
                simp only [Act.put, List.setIfInBounds_toArray, List.set_cons_zero, List.set_cons_succ]
                refine wpAnyH_ready (rs := [4]) (by kernel_rfl) (by simp) ?_
                refine AllReadyH.cons (o := { dst := some 205, op := .call { callee := Go.Callee.value (.func 23), args := #[Go.Operand.tmp 204], argTypes := #[23] }, type := 3, pos := "law.go:66", after := #[⟨3, .data⟩, ⟨2, .chain⟩, ⟨2, .guard⟩], guard := some (2, false) }) rfl (fun K hK => ?_) AllReadyH.nil
                go_simp
                refine (mix_size (s := s1) (t := s1) HE0.out.drew).mono ?_
                rintro e wz ⟨rfl, rfl⟩
                go_wp2_with fail
                refine hK.out _ _ (by first | exact HC3.out _ HE0.out.drew | exact HC3.out _ HE0.out | exact HC3.out _ HEN.out) (fun hHeld => ?_)
                clear hK K hHeld
                try simp only [Act.put, List.setIfInBounds_toArray, List.set_cons_zero, List.set_cons_succ]
                refine wpAnyH_take (i := 6) (oi := { dst := some 207, op := .binOp Go.BinOp.neq 3 (.tmp 205) (.tmp 206) 3, type := 4, pos := "law.go:66", after := #[⟨4, .data⟩, ⟨5, .data⟩, ⟨2, .guard⟩], guard := some (2, false) }) (v := ?_) rfl (by kernel_rfl) (by kernel_rfl) (by kernel_rfl) (fun _ _ _ h => h) (Or.inl ⟨by rfl, ?_⟩) (by first | exact HC3.out _ HE0.out.drew | exact HC3.out _ HE0.out | exact HC3.out _ HEN.out) ?_
                rotate_left
                · (intro w hSw; obtain z0 := hSw; go_simp <;> with_reducible rfl)
                simp only [Act.put, List.setIfInBounds_toArray, List.set_cons_zero, List.set_cons_succ]
                refine wpAnyH_take (i := 7) (oi := ⟨some 208, .pick (.tmp 203) (.const (Go.Value.bool true)) (.tmp 207), 4, "law.go:66", #[⟨2, .data⟩, ⟨6, .data⟩], none⟩) (v := ?_) rfl (by kernel_rfl) (by kernel_rfl) (by kernel_rfl) (fun _ _ _ h => h) (Or.inl ⟨by rfl, ?_⟩) (by first | exact HC3.out _ HE0.out.drew | exact HC3.out _ HE0.out | exact HC3.out _ HEN.out) ?_
                rotate_left
                · (intro w hSw; obtain z0 := hSw; go_simp <;> with_reducible rfl)
                simp only [Act.put, List.setIfInBounds_toArray, List.set_cons_zero, List.set_cons_succ]
                refine wpAnyH_take (i := 8) (oi := ⟨some 209, .move (.tmp 208), 4, "law.go:66", #[⟨7, .data⟩, ⟨4, .chain⟩], none⟩) (v := ?_) rfl (by kernel_rfl) (by kernel_rfl) (by kernel_rfl) (fun _ _ _ h => h) (Or.inl ⟨by rfl, ?_⟩) (by first | exact HC3.out _ HE0.out.drew | exact HC3.out _ HE0.out | exact HC3.out _ HEN.out) ?_
                rotate_left
                · (intro w hSw; obtain z0 := hSw; go_simp <;> with_reducible rfl)
                simp only [Act.put, List.setIfInBounds_toArray, List.set_cons_zero, List.set_cons_succ]
                refine wpAnyH_take (i := 9) (oi := { dst := some 210, op := .move (.tmp 5), type := 23, pos := "law.go:66", after := #[⟨8, .guard⟩], guard := some (8, false) }) (v := ?_) rfl (by kernel_rfl) (by kernel_rfl) (by kernel_rfl) (fun _ _ _ h => h) (Or.inl ⟨by rfl, ?_⟩) (by first | exact HC3.out _ HE0.out.drew | exact HC3.out _ HE0.out | exact HC3.out _ HEN.out) ?_
                rotate_left
                · (intro w hSw; obtain z0 := hSw; go_simp <;> with_reducible rfl)
                simp only [Act.put, List.setIfInBounds_toArray, List.set_cons_zero, List.set_cons_succ]
                refine wpAnyH_take (i := 11) (oi := { dst := some 212, op := .move (.tmp 7), type := 27, pos := "law.go:66", after := #[⟨8, .guard⟩], guard := some (8, false) }) (v := ?_) rfl (by kernel_rfl) (by kernel_rfl) (by kernel_rfl) (fun _ _ _ h => h) (Or.inl ⟨by rfl, ?_⟩) (by first | exact HC3.out _ HE0.out.drew | exact HC3.out _ HE0.out | exact HC3.out _ HEN.out) ?_
                rotate_left
                · (intro w hSw; obtain z0 := hSw; go_simp <;> with_reducible rfl)
                simp only [Act.put, List.setIfInBounds_toArray, List.set_cons_zero, List.set_cons_succ]
                refine wpAnyH_take (i := 12) (oi := { dst := some 213, op := .nilCheck (.tmp 212), type := 0, pos := "law.go:66", after := #[⟨11, .data⟩, ⟨8, .guard⟩], guard := some (8, false) }) (v := ?_) rfl (by kernel_rfl) (by kernel_rfl) (by kernel_rfl) (fun _ _ _ h => h) (Or.inl ⟨by rfl, ?_⟩) (by first | exact HC3.out _ HE0.out.drew | exact HC3.out _ HE0.out | exact HC3.out _ HEN.out) ?_
                rotate_left
                · (intro w hSw; obtain z0 := hSw; go_simp <;> with_reducible rfl)
                simp only [Act.put, List.setIfInBounds_toArray, List.set_cons_zero, List.set_cons_succ]
                refine wpAnyH_take (i := 13) (oi := { dst := some 214, op := .fieldAddr 52 (.tmp 213) 3, type := 0, pos := "law.go:66", after := #[⟨12, .data⟩, ⟨8, .guard⟩], guard := some (8, false) }) (v := ?_) rfl (by kernel_rfl) (by kernel_rfl) (by kernel_rfl) (fun _ _ _ h => h) (Or.inl ⟨by rfl, ?_⟩) (by first | exact HC3.out _ HE0.out.drew | exact HC3.out _ HE0.out | exact HC3.out _ HEN.out) ?_
                rotate_left
                · (intro w hSw; obtain z0 := hSw; go_simp <;> with_reducible rfl)
                simp only [Act.put, List.setIfInBounds_toArray, List.set_cons_zero, List.set_cons_succ]
                refine wpAnyH_take (i := 14) (oi := { dst := some 215, op := .load 4 (.tmp 214), type := 4, pos := "law.go:66", after := #[⟨13, .data⟩, ⟨8, .guard⟩], guard := some (8, false) }) (v := ?_) rfl (by kernel_rfl) (by kernel_rfl) (by kernel_rfl) (fun _ _ _ h => h) (Or.inl ⟨by rfl, ?_⟩) (by first | exact HC3.out _ HE0.out.drew | exact HC3.out _ HE0.out | exact HC3.out _ HEN.out) ?_
                rotate_left
                · (intro w hSw; obtain z0 := hSw; go_simp <;> with_reducible rfl)
                simp only [Act.put, List.setIfInBounds_toArray, List.set_cons_zero, List.set_cons_succ]
                refine wpAnyH_take (i := 15) (oi := { dst := some 216, op := .unOp Go.UnOp.not 4 (.tmp 215), type := 4, pos := "law.go:66", after := #[⟨14, .data⟩, ⟨8, .guard⟩], guard := some (8, false) }) (v := ?_) rfl (by kernel_rfl) (by kernel_rfl) (by kernel_rfl) (fun _ _ _ h => h) (Or.inl ⟨by rfl, ?_⟩) (by first | exact HC3.out _ HE0.out.drew | exact HC3.out _ HE0.out | exact HC3.out _ HEN.out) ?_
                rotate_left
                · (intro w hSw; obtain z0 := hSw; go_simp <;> with_reducible rfl)
                simp only [Act.put, List.setIfInBounds_toArray, List.set_cons_zero, List.set_cons_succ]
                refine wpAnyH_ready (rs := [10]) (by kernel_rfl) (by simp) ?_
                refine AllReadyH.cons (o := { dst := some 211, op := .call { callee := Go.Callee.value (.func 24), args := #[Go.Operand.tmp 210], argTypes := #[23] }, type := 4, pos := "law.go:66", after := #[⟨9, .data⟩, ⟨8, .chain⟩, ⟨8, .guard⟩], guard := some (8, false) }) rfl (fun K hK => ?_) AllReadyH.nil
                go_simp
                refine (HLI.out _ HE0.out.drew).mono ?_
                rintro e wz ⟨rfl, rfl⟩
                go_wp2_with fail
                refine hK.out _ _ (by first | exact HC3.out _ HE0.out.drew | exact HC3.out _ HE0.out | exact HC3.out _ HEN.out) (fun hHeld => ?_)
                clear hK K hHeld
                try simp only [Act.put, List.setIfInBounds_toArray, List.set_cons_zero, List.set_cons_succ]
                refine wpAnyH_take (i := 16) (oi := { dst := some 217, op := .binOp Go.BinOp.neq 4 (.tmp 211) (.tmp 216) 4, type := 4, pos := "law.go:66", after := #[⟨10, .data⟩, ⟨15, .data⟩, ⟨8, .guard⟩], guard := some (8, false) }) (v := ?_) rfl (by kernel_rfl) (by kernel_rfl) (by kernel_rfl) (fun _ _ _ h => h) (Or.inl ⟨by rfl, ?_⟩) (by first | exact HC3.out _ HE0.out.drew | exact HC3.out _ HE0.out | exact HC3.out _ HEN.out) ?_
                rotate_left
                · (intro w hSw; obtain z0 := hSw; go_simp <;> with_reducible rfl)
                simp only [Act.put, List.setIfInBounds_toArray, List.set_cons_zero, List.set_cons_succ]
                refine wpAnyH_take (i := 17) (oi := ⟨some 218, .pick (.tmp 209) (.const (Go.Value.bool true)) (.tmp 217), 4, "law.go:66", #[⟨8, .data⟩, ⟨16, .data⟩], none⟩) (v := ?_) rfl (by kernel_rfl) (by kernel_rfl) (by kernel_rfl) (fun _ _ _ h => h) (Or.inl ⟨by rfl, ?_⟩) (by first | exact HC3.out _ HE0.out.drew | exact HC3.out _ HE0.out | exact HC3.out _ HEN.out) ?_
                rotate_left
                · (intro w hSw; obtain z0 := hSw; go_simp <;> with_reducible rfl)
                simp only [Act.put, List.setIfInBounds_toArray, List.set_cons_zero, List.set_cons_succ]
                refine wpAnyH_take (i := 18) (oi := ⟨some 219, .move (.tmp 218), 4, "law.go:66", #[⟨17, .data⟩, ⟨10, .chain⟩], none⟩) (v := ?_) rfl (by kernel_rfl) (by kernel_rfl) (by kernel_rfl) (fun _ _ _ h => h) (Or.inl ⟨by rfl, ?_⟩) (by first | exact HC3.out _ HE0.out.drew | exact HC3.out _ HE0.out | exact HC3.out _ HEN.out) ?_
                rotate_left
                · (intro w hSw; obtain z0 := hSw; go_simp <;> with_reducible rfl)
                simp only [Act.put, List.setIfInBounds_toArray, List.set_cons_zero, List.set_cons_succ]
                refine wpAnyH_take (i := 19) (oi := { dst := some 220, op := .move (.tmp 5), type := 23, pos := "law.go:66", after := #[⟨18, .guard⟩], guard := some (18, false) }) (v := ?_) rfl (by kernel_rfl) (by kernel_rfl) (by kernel_rfl) (fun _ _ _ h => h) (Or.inl ⟨by rfl, ?_⟩) (by first | exact HC3.out _ HE0.out.drew | exact HC3.out _ HE0.out | exact HC3.out _ HEN.out) ?_
                rotate_left
                · (intro w hSw; obtain z0 := hSw; go_simp <;> with_reducible rfl)
                simp only [Act.put, List.setIfInBounds_toArray, List.set_cons_zero, List.set_cons_succ]
                refine wpAnyH_take (i := 20) (oi := { dst := some 221, op := .move (.tmp 7), type := 27, pos := "law.go:66", after := #[⟨18, .guard⟩], guard := some (18, false) }) (v := ?_) rfl (by kernel_rfl) (by kernel_rfl) (by kernel_rfl) (fun _ _ _ h => h) (Or.inl ⟨by rfl, ?_⟩) (by first | exact HC3.out _ HE0.out.drew | exact HC3.out _ HE0.out | exact HC3.out _ HEN.out) ?_
                rotate_left
                · (intro w hSw; obtain z0 := hSw; go_simp <;> with_reducible rfl)
                simp only [Act.put, List.setIfInBounds_toArray, List.set_cons_zero, List.set_cons_succ]
                refine wpAnyH_ready (rs := [21]) (by kernel_rfl) (by simp) ?_
                refine AllReadyH.cons (o := { dst := some 222, op := .call { callee := Go.Callee.value (.func 25), args := #[Go.Operand.tmp 220, Go.Operand.tmp 221], argTypes := #[23, 27] }, type := 4, pos := "law.go:66", after := #[⟨19, .data⟩, ⟨20, .data⟩, ⟨18, .chain⟩, ⟨18, .guard⟩], guard := some (18, false) }) rfl (fun K hK => ?_) AllReadyH.nil
                go_simp
                refine (mix_alike HE0.out.drew HQM.out (Nat.le_trans HN6.out (by decide))).mono ?_
                rintro e wz ⟨rfl, hen⟩
                have HEN := Lib.hid hen
                clear hen
                go_wp2_with fail
                refine hK.out _ _ (by first | exact HC3.out _ HE0.out.drew | exact HC3.out _ HE0.out | exact HC3.out _ HEN.out) (fun hHeld => ?_)
                clear hK K hHeld
                try simp only [Act.put, List.setIfInBounds_toArray, List.set_cons_zero, List.set_cons_succ]
                refine wpAnyH_take (i := 22) (oi := { dst := some 223, op := .unOp Go.UnOp.not 4 (.tmp 222), type := 4, pos := "law.go:66", after := #[⟨21, .data⟩, ⟨18, .guard⟩], guard := some (18, false) }) (v := ?_) rfl (by kernel_rfl) (by kernel_rfl) (by kernel_rfl) (fun _ _ _ h => h) (Or.inl ⟨by rfl, ?_⟩) (by first | exact HC3.out _ HE0.out.drew | exact HC3.out _ HE0.out | exact HC3.out _ HEN.out) ?_
                rotate_left
                · (intro w hSw; obtain z0 := hSw; go_simp <;> with_reducible rfl)
                simp only [Act.put, List.setIfInBounds_toArray, List.set_cons_zero, List.set_cons_succ]
                refine wpAnyH_take (i := 23) (oi := ⟨some 224, .pick (.tmp 219) (.const (Go.Value.bool true)) (.tmp 223), 4, "law.go:66", #[⟨18, .data⟩, ⟨22, .data⟩], none⟩) (v := ?_) rfl (by kernel_rfl) (by kernel_rfl) (by kernel_rfl) (fun _ _ _ h => h) (Or.inl ⟨by rfl, ?_⟩) (by first | exact HC3.out _ HE0.out.drew | exact HC3.out _ HE0.out | exact HC3.out _ HEN.out) ?_
                rotate_left
                · (intro w hSw; obtain z0 := hSw; go_simp <;> with_reducible rfl)
                simp only [Act.put, List.setIfInBounds_toArray, List.set_cons_zero, List.set_cons_succ]
                refine wpAnyH_done (by kernel_rfl) ?_ _
                go_wp2
                have hk40 := HK40.out
                exact ⟨⟨k + 1, s1, by simp, by omega, HQ1.out, HEN.out⟩, by simp [intOf]; omega⟩
        · by_cases q1 : x.kind = 1
          · rw [q1] at k0
            clear q0 q1
            as_aux_lemma =>
              have hw1 := fun w' (h : Mix w w' d c N s s) => mix_flush h
              have hw2 := fun w' (h : Mix w w' d c N (flushS s).1 s) => mix_rflush h HN1.out (by have := HQ.out; omega)
              have hfew := few_flush s
              obtain ⟨s1, hs1⟩ : ∃ s1, s1 = (flushS s).1 := ⟨_, rfl⟩
              obtain ⟨e1, he1⟩ : ∃ e1, e1 = (flushS s).2 := ⟨_, rfl⟩
              rw [← hs1] at hw1 hw2 hfew
              rw [← he1] at hw1 hw2
              have HW1 := Lib.hid hw1
              have HW2 := Lib.hid hw2
              have HFEW := Lib.hid (show s1.Q.length ≤ k + 1 by have := HQK.out; omega)
              clear hw1 hw2 hfew hs1 he1
              go_wp2_with (first
                | (go_at_call 14; refine (HW1.out _ MB1.out.mix).mono ?_; rintro e w4 ⟨rfl, h4⟩; have MW := Lib.hid h4; clear h4)
                | (go_at_call 15; refine (HW2.out _ MW.out).mono ?_; rintro e w5 ⟨rfl, h5⟩; have MV := Lib.hid h5; clear h5)
                | fail)
              have HE0 := Lib.hid (show Mix w _ d c N s1 s1 from MV.out)
              have HQ1 := Lib.hid (show s1.Q.length ≤ k + 1 from HFEW.out)
              have HQM := Lib.hid (show s1.Q.length ≤ 1000000 by have := HQ1.out; have := HK40.out; omega)
              obtain ⟨q, hqd⟩ : ∃ q, q = s1.dead := ⟨_, rfl⟩
              have hli := fun w' (h : Mix w w' d c N s1 s1) => mix_live h
              have hc3 := fun w' (h : Mix w w' d c N s1 s1) => h.c3
              rw [← hqd] at hli hc3
              have HLI := Lib.hid hli
              have HC3 := Lib.hid hc3
              clear hqd hli hc3
              refine wp_region_held_drew (S := (fun w' => w'.cell? ⟨c, 3, none⟩ = some (.bool q))) (by kernel_rfl) (by first | exact HC3.out _ HE0.out.drew | exact HC3.out _ HE0.out | exact HC3.out _ HEN.out) (fun hHeld => ?_)
              clear hHeld
              refine wpAnyH_take (i := 0) (oi := ⟨some 201, .move (.tmp 11), 4, "law.go:66", #[], none⟩) (v := ?_) rfl (by kernel_rfl) (by kernel_rfl) (by kernel_rfl) (fun _ _ _ h => h) (Or.inl ⟨by rfl, ?_⟩) (by first | exact HC3.out _ HE0.out.drew | exact HC3.out _ HE0.out | exact HC3.out _ HEN.out) ?_
              rotate_left
              · (intro w hSw; obtain z0 := hSw; go_simp <;> with_reducible rfl)
              simp only [Act.put, List.setIfInBounds_toArray, List.set_cons_zero, List.set_cons_succ]
              refine wpAnyH_take (i := 1) (oi := ⟨some 202, .unOp Go.UnOp.not 4 (.tmp 201), 4, "law.go:66", #[⟨0, .data⟩], none⟩) (v := ?_) rfl (by kernel_rfl) (by kernel_rfl) (by kernel_rfl) (fun _ _ _ h => h) (Or.inl ⟨by rfl, ?_⟩) (by first | exact HC3.out _ HE0.out.drew | exact HC3.out _ HE0.out | exact HC3.out _ HEN.out) ?_
              rotate_left
              · (intro w hSw; obtain z0 := hSw; go_simp <;> with_reducible rfl)
              simp only [Act.put, List.setIfInBounds_toArray, List.set_cons_zero, List.set_cons_succ]
              refine wpAnyH_take (i := 2) (oi := ⟨some 203, .move (.tmp 202), 4, "law.go:66", #[⟨1, .data⟩], none⟩) (v := ?_) rfl (by kernel_rfl) (by kernel_rfl) (by kernel_rfl) (fun _ _ _ h => h) (Or.inl ⟨by rfl, ?_⟩) (by first | exact HC3.out _ HE0.out.drew | exact HC3.out _ HE0.out | exact HC3.out _ HEN.out) ?_
              rotate_left
              · (intro w hSw; obtain z0 := hSw; go_simp <;> with_reducible rfl)
              simp only [Act.put, List.setIfInBounds_toArray, List.set_cons_zero, List.set_cons_succ]
              refine wpAnyH_take (i := 3) (oi := { dst := some 204, op := .move (.tmp 5), type := 23, pos := "law.go:66", after := #[⟨2, .guard⟩], guard := some (2, false) }) (v := ?_) rfl (by kernel_rfl) (by kernel_rfl) (by kernel_rfl) (fun _ _ _ h => h) (Or.inl ⟨by rfl, ?_⟩) (by first | exact HC3.out _ HE0.out.drew | exact HC3.out _ HE0.out | exact HC3.out _ HEN.out) ?_
              rotate_left
              · (intro w hSw; obtain z0 := hSw; go_simp <;> with_reducible rfl)
              simp only [Act.put, List.setIfInBounds_toArray, List.set_cons_zero, List.set_cons_succ]
              refine wpAnyH_take (i := 5) (oi := { dst := some 206, op := .move (.tmp 0), type := 3, pos := "law.go:66", after := #[⟨2, .guard⟩], guard := some (2, false) }) (v := ?_) rfl (by kernel_rfl) (by kernel_rfl) (by kernel_rfl) (fun _ _ _ h => h) (Or.inl ⟨by rfl, ?_⟩) (by first | exact HC3.out _ HE0.out.drew | exact HC3.out _ HE0.out | exact HC3.out _ HEN.out) ?_
              rotate_left
              · (intro w hSw; obtain z0 := hSw; go_simp <;> with_reducible rfl)
              simp only [Act.put, List.setIfInBounds_toArray, List.set_cons_zero, List.set_cons_succ]
              refine wpAnyH_ready (rs := [4]) (by kernel_rfl) (by simp) ?_
              refine AllReadyH.cons (o := { dst := some 205, op := .call { callee := Go.Callee.value (.func 23), args := #[Go.Operand.tmp 204], argTypes := #[23] }, type := 3, pos := "law.go:66", after := #[⟨3, .data⟩, ⟨2, .chain⟩, ⟨2, .guard⟩], guard := some (2, false) }) rfl (fun K hK => ?_) AllReadyH.nil
              go_simp
              refine (mix_size (s := s1) (t := s1) HE0.out.drew).mono ?_
              rintro e wz ⟨rfl, rfl⟩
              go_wp2_with fail
              refine hK.out _ _ (by first | exact HC3.out _ HE0.out.drew | exact HC3.out _ HE0.out | exact HC3.out _ HEN.out) (fun hHeld => ?_)
              clear hK K hHeld
              try simp only [Act.put, List.setIfInBounds_toArray, List.set_cons_zero, List.set_cons_succ]
              refine wpAnyH_take (i := 6) (oi := { dst := some 207, op := .binOp Go.BinOp.neq 3 (.tmp 205) (.tmp 206) 3, type := 4, pos := "law.go:66", after := #[⟨4, .data⟩, ⟨5, .data⟩, ⟨2, .guard⟩], guard := some (2, false) }) (v := ?_) rfl (by kernel_rfl) (by kernel_rfl) (by kernel_rfl) (fun _ _ _ h => h) (Or.inl ⟨by rfl, ?_⟩) (by first | exact HC3.out _ HE0.out.drew | exact HC3.out _ HE0.out | exact HC3.out _ HEN.out) ?_
              rotate_left
              · (intro w hSw; obtain z0 := hSw; go_simp <;> with_reducible rfl)
              simp only [Act.put, List.setIfInBounds_toArray, List.set_cons_zero, List.set_cons_succ]
              refine wpAnyH_take (i := 7) (oi := ⟨some 208, .pick (.tmp 203) (.const (Go.Value.bool true)) (.tmp 207), 4, "law.go:66", #[⟨2, .data⟩, ⟨6, .data⟩], none⟩) (v := ?_) rfl (by kernel_rfl) (by kernel_rfl) (by kernel_rfl) (fun _ _ _ h => h) (Or.inl ⟨by rfl, ?_⟩) (by first | exact HC3.out _ HE0.out.drew | exact HC3.out _ HE0.out | exact HC3.out _ HEN.out) ?_
              rotate_left
              · (intro w hSw; obtain z0 := hSw; go_simp <;> with_reducible rfl)
              simp only [Act.put, List.setIfInBounds_toArray, List.set_cons_zero, List.set_cons_succ]
              refine wpAnyH_take (i := 8) (oi := ⟨some 209, .move (.tmp 208), 4, "law.go:66", #[⟨7, .data⟩, ⟨4, .chain⟩], none⟩) (v := ?_) rfl (by kernel_rfl) (by kernel_rfl) (by kernel_rfl) (fun _ _ _ h => h) (Or.inl ⟨by rfl, ?_⟩) (by first | exact HC3.out _ HE0.out.drew | exact HC3.out _ HE0.out | exact HC3.out _ HEN.out) ?_
              rotate_left
              · (intro w hSw; obtain z0 := hSw; go_simp <;> with_reducible rfl)
              simp only [Act.put, List.setIfInBounds_toArray, List.set_cons_zero, List.set_cons_succ]
              refine wpAnyH_take (i := 9) (oi := { dst := some 210, op := .move (.tmp 5), type := 23, pos := "law.go:66", after := #[⟨8, .guard⟩], guard := some (8, false) }) (v := ?_) rfl (by kernel_rfl) (by kernel_rfl) (by kernel_rfl) (fun _ _ _ h => h) (Or.inl ⟨by rfl, ?_⟩) (by first | exact HC3.out _ HE0.out.drew | exact HC3.out _ HE0.out | exact HC3.out _ HEN.out) ?_
              rotate_left
              · (intro w hSw; obtain z0 := hSw; go_simp <;> with_reducible rfl)
              simp only [Act.put, List.setIfInBounds_toArray, List.set_cons_zero, List.set_cons_succ]
              refine wpAnyH_take (i := 11) (oi := { dst := some 212, op := .move (.tmp 7), type := 27, pos := "law.go:66", after := #[⟨8, .guard⟩], guard := some (8, false) }) (v := ?_) rfl (by kernel_rfl) (by kernel_rfl) (by kernel_rfl) (fun _ _ _ h => h) (Or.inl ⟨by rfl, ?_⟩) (by first | exact HC3.out _ HE0.out.drew | exact HC3.out _ HE0.out | exact HC3.out _ HEN.out) ?_
              rotate_left
              · (intro w hSw; obtain z0 := hSw; go_simp <;> with_reducible rfl)
              simp only [Act.put, List.setIfInBounds_toArray, List.set_cons_zero, List.set_cons_succ]
              refine wpAnyH_take (i := 12) (oi := { dst := some 213, op := .nilCheck (.tmp 212), type := 0, pos := "law.go:66", after := #[⟨11, .data⟩, ⟨8, .guard⟩], guard := some (8, false) }) (v := ?_) rfl (by kernel_rfl) (by kernel_rfl) (by kernel_rfl) (fun _ _ _ h => h) (Or.inl ⟨by rfl, ?_⟩) (by first | exact HC3.out _ HE0.out.drew | exact HC3.out _ HE0.out | exact HC3.out _ HEN.out) ?_
              rotate_left
              · (intro w hSw; obtain z0 := hSw; go_simp <;> with_reducible rfl)
              simp only [Act.put, List.setIfInBounds_toArray, List.set_cons_zero, List.set_cons_succ]
              refine wpAnyH_take (i := 13) (oi := { dst := some 214, op := .fieldAddr 52 (.tmp 213) 3, type := 0, pos := "law.go:66", after := #[⟨12, .data⟩, ⟨8, .guard⟩], guard := some (8, false) }) (v := ?_) rfl (by kernel_rfl) (by kernel_rfl) (by kernel_rfl) (fun _ _ _ h => h) (Or.inl ⟨by rfl, ?_⟩) (by first | exact HC3.out _ HE0.out.drew | exact HC3.out _ HE0.out | exact HC3.out _ HEN.out) ?_
              rotate_left
              · (intro w hSw; obtain z0 := hSw; go_simp <;> with_reducible rfl)
              simp only [Act.put, List.setIfInBounds_toArray, List.set_cons_zero, List.set_cons_succ]
              refine wpAnyH_take (i := 14) (oi := { dst := some 215, op := .load 4 (.tmp 214), type := 4, pos := "law.go:66", after := #[⟨13, .data⟩, ⟨8, .guard⟩], guard := some (8, false) }) (v := ?_) rfl (by kernel_rfl) (by kernel_rfl) (by kernel_rfl) (fun _ _ _ h => h) (Or.inl ⟨by rfl, ?_⟩) (by first | exact HC3.out _ HE0.out.drew | exact HC3.out _ HE0.out | exact HC3.out _ HEN.out) ?_
              rotate_left
              · (intro w hSw; obtain z0 := hSw; go_simp <;> with_reducible rfl)
              simp only [Act.put, List.setIfInBounds_toArray, List.set_cons_zero, List.set_cons_succ]
              refine wpAnyH_take (i := 15) (oi := { dst := some 216, op := .unOp Go.UnOp.not 4 (.tmp 215), type := 4, pos := "law.go:66", after := #[⟨14, .data⟩, ⟨8, .guard⟩], guard := some (8, false) }) (v := ?_) rfl (by kernel_rfl) (by kernel_rfl) (by kernel_rfl) (fun _ _ _ h => h) (Or.inl ⟨by rfl, ?_⟩) (by first | exact HC3.out _ HE0.out.drew | exact HC3.out _ HE0.out | exact HC3.out _ HEN.out) ?_
              rotate_left
              · (intro w hSw; obtain z0 := hSw; go_simp <;> with_reducible rfl)
              simp only [Act.put, List.setIfInBounds_toArray, List.set_cons_zero, List.set_cons_succ]
              refine wpAnyH_ready (rs := [10]) (by kernel_rfl) (by simp) ?_
              refine AllReadyH.cons (o := { dst := some 211, op := .call { callee := Go.Callee.value (.func 24), args := #[Go.Operand.tmp 210], argTypes := #[23] }, type := 4, pos := "law.go:66", after := #[⟨9, .data⟩, ⟨8, .chain⟩, ⟨8, .guard⟩], guard := some (8, false) }) rfl (fun K hK => ?_) AllReadyH.nil
              go_simp
              refine (HLI.out _ HE0.out.drew).mono ?_
              rintro e wz ⟨rfl, rfl⟩
              go_wp2_with fail
              refine hK.out _ _ (by first | exact HC3.out _ HE0.out.drew | exact HC3.out _ HE0.out | exact HC3.out _ HEN.out) (fun hHeld => ?_)
              clear hK K hHeld
              try simp only [Act.put, List.setIfInBounds_toArray, List.set_cons_zero, List.set_cons_succ]
              refine wpAnyH_take (i := 16) (oi := { dst := some 217, op := .binOp Go.BinOp.neq 4 (.tmp 211) (.tmp 216) 4, type := 4, pos := "law.go:66", after := #[⟨10, .data⟩, ⟨15, .data⟩, ⟨8, .guard⟩], guard := some (8, false) }) (v := ?_) rfl (by kernel_rfl) (by kernel_rfl) (by kernel_rfl) (fun _ _ _ h => h) (Or.inl ⟨by rfl, ?_⟩) (by first | exact HC3.out _ HE0.out.drew | exact HC3.out _ HE0.out | exact HC3.out _ HEN.out) ?_
              rotate_left
              · (intro w hSw; obtain z0 := hSw; go_simp <;> with_reducible rfl)
              simp only [Act.put, List.setIfInBounds_toArray, List.set_cons_zero, List.set_cons_succ]
              refine wpAnyH_take (i := 17) (oi := ⟨some 218, .pick (.tmp 209) (.const (Go.Value.bool true)) (.tmp 217), 4, "law.go:66", #[⟨8, .data⟩, ⟨16, .data⟩], none⟩) (v := ?_) rfl (by kernel_rfl) (by kernel_rfl) (by kernel_rfl) (fun _ _ _ h => h) (Or.inl ⟨by rfl, ?_⟩) (by first | exact HC3.out _ HE0.out.drew | exact HC3.out _ HE0.out | exact HC3.out _ HEN.out) ?_
              rotate_left
              · (intro w hSw; obtain z0 := hSw; go_simp <;> with_reducible rfl)
              simp only [Act.put, List.setIfInBounds_toArray, List.set_cons_zero, List.set_cons_succ]
              refine wpAnyH_take (i := 18) (oi := ⟨some 219, .move (.tmp 218), 4, "law.go:66", #[⟨17, .data⟩, ⟨10, .chain⟩], none⟩) (v := ?_) rfl (by kernel_rfl) (by kernel_rfl) (by kernel_rfl) (fun _ _ _ h => h) (Or.inl ⟨by rfl, ?_⟩) (by first | exact HC3.out _ HE0.out.drew | exact HC3.out _ HE0.out | exact HC3.out _ HEN.out) ?_
              rotate_left
              · (intro w hSw; obtain z0 := hSw; go_simp <;> with_reducible rfl)
              simp only [Act.put, List.setIfInBounds_toArray, List.set_cons_zero, List.set_cons_succ]
              refine wpAnyH_take (i := 19) (oi := { dst := some 220, op := .move (.tmp 5), type := 23, pos := "law.go:66", after := #[⟨18, .guard⟩], guard := some (18, false) }) (v := ?_) rfl (by kernel_rfl) (by kernel_rfl) (by kernel_rfl) (fun _ _ _ h => h) (Or.inl ⟨by rfl, ?_⟩) (by first | exact HC3.out _ HE0.out.drew | exact HC3.out _ HE0.out | exact HC3.out _ HEN.out) ?_
              rotate_left
              · (intro w hSw; obtain z0 := hSw; go_simp <;> with_reducible rfl)
              simp only [Act.put, List.setIfInBounds_toArray, List.set_cons_zero, List.set_cons_succ]
              refine wpAnyH_take (i := 20) (oi := { dst := some 221, op := .move (.tmp 7), type := 27, pos := "law.go:66", after := #[⟨18, .guard⟩], guard := some (18, false) }) (v := ?_) rfl (by kernel_rfl) (by kernel_rfl) (by kernel_rfl) (fun _ _ _ h => h) (Or.inl ⟨by rfl, ?_⟩) (by first | exact HC3.out _ HE0.out.drew | exact HC3.out _ HE0.out | exact HC3.out _ HEN.out) ?_
              rotate_left
              · (intro w hSw; obtain z0 := hSw; go_simp <;> with_reducible rfl)
              simp only [Act.put, List.setIfInBounds_toArray, List.set_cons_zero, List.set_cons_succ]
              refine wpAnyH_ready (rs := [21]) (by kernel_rfl) (by simp) ?_
              refine AllReadyH.cons (o := { dst := some 222, op := .call { callee := Go.Callee.value (.func 25), args := #[Go.Operand.tmp 220, Go.Operand.tmp 221], argTypes := #[23, 27] }, type := 4, pos := "law.go:66", after := #[⟨19, .data⟩, ⟨20, .data⟩, ⟨18, .chain⟩, ⟨18, .guard⟩], guard := some (18, false) }) rfl (fun K hK => ?_) AllReadyH.nil
              go_simp
              refine (mix_alike HE0.out.drew HQM.out (Nat.le_trans HN6.out (by decide))).mono ?_
              rintro e wz ⟨rfl, hen⟩
              have HEN := Lib.hid hen
              clear hen
              go_wp2_with fail
              refine hK.out _ _ (by first | exact HC3.out _ HE0.out.drew | exact HC3.out _ HE0.out | exact HC3.out _ HEN.out) (fun hHeld => ?_)
              clear hK K hHeld
              try simp only [Act.put, List.setIfInBounds_toArray, List.set_cons_zero, List.set_cons_succ]
              refine wpAnyH_take (i := 22) (oi := { dst := some 223, op := .unOp Go.UnOp.not 4 (.tmp 222), type := 4, pos := "law.go:66", after := #[⟨21, .data⟩, ⟨18, .guard⟩], guard := some (18, false) }) (v := ?_) rfl (by kernel_rfl) (by kernel_rfl) (by kernel_rfl) (fun _ _ _ h => h) (Or.inl ⟨by rfl, ?_⟩) (by first | exact HC3.out _ HE0.out.drew | exact HC3.out _ HE0.out | exact HC3.out _ HEN.out) ?_
              rotate_left
              · (intro w hSw; obtain z0 := hSw; go_simp <;> with_reducible rfl)
              simp only [Act.put, List.setIfInBounds_toArray, List.set_cons_zero, List.set_cons_succ]
              refine wpAnyH_take (i := 23) (oi := ⟨some 224, .pick (.tmp 219) (.const (Go.Value.bool true)) (.tmp 223), 4, "law.go:66", #[⟨18, .data⟩, ⟨22, .data⟩], none⟩) (v := ?_) rfl (by kernel_rfl) (by kernel_rfl) (by kernel_rfl) (fun _ _ _ h => h) (Or.inl ⟨by rfl, ?_⟩) (by first | exact HC3.out _ HE0.out.drew | exact HC3.out _ HE0.out | exact HC3.out _ HEN.out) ?_
              rotate_left
              · (intro w hSw; obtain z0 := hSw; go_simp <;> with_reducible rfl)
              simp only [Act.put, List.setIfInBounds_toArray, List.set_cons_zero, List.set_cons_succ]
              refine wpAnyH_done (by kernel_rfl) ?_ _
              go_wp2
              have hk40 := HK40.out
              exact ⟨⟨k + 1, s1, by simp, by omega, HQ1.out, HEN.out⟩, by simp [intOf]; omega⟩
          · by_cases q2 : x.kind = 2
            · rw [q2] at k0
              clear q0 q1 q2
              as_aux_lemma =>
                have k1 := (HSIX.out _ MB1.out.mix.below).c1
                obtain ⟨s1, hs1⟩ : ∃ s1, s1 = s := ⟨_, rfl⟩
                subst hs1
                have HFEW := Lib.hid (show s1.Q.length ≤ k + 1 by have := HQK.out; omega)
                obtain ⟨l2, hl2⟩ : ∃ l2, l2 = rdL s1 N x.a := ⟨_, rfl⟩
                obtain ⟨e1, he1⟩ : ∃ e1, e1 = rdC N x.a := ⟨_, rfl⟩
                have hw1 := fun w' (h : Mix w w' d c N s1 s1) => mix_read h x.a
                have hw2 := fun w' v' (h : MixB w w' d c N s1 s1 v' l2) => mixb_rread h x.a (by have := HQ.out; omega)
                rw [← he1, ← hl2] at hw1 hw2
                have HW1 := Lib.hid hw1
                have HW2 := Lib.hid hw2
                clear hw1 hw2 he1 hl2 HMB
                go_wp2_with (first
                  | (go_at_call 16; refine (HW1.out _ MB1.out.mix).mono ?_; rintro e w4 ⟨v4, rfl, h4⟩; have MXX := Lib.hid h4.max; obtain ⟨a4, c4, rfl⟩ := h4.form; obtain ⟨m4, hm4⟩ : ∃ m4, m4 = l2.length := ⟨_, rfl⟩; rw [← hm4] at h4 ⊢; have HM4 := Lib.hid hm4; have HMAX4 := Lib.hid (show m4 ≤ 9223372036854775807 by rw [hm4]; exact MXX.out);  have MW := Lib.hid h4; have k1 := (HSIX.out _ h4.mix.below).c1; clear h4 hm4)
                  | (go_at_call 17; refine (HW2.out _ _ MW.out).mono ?_; rintro e w5 ⟨v5, rfl, h5, hr5⟩; have MV := Lib.hid h5; have HR5 := Lib.hid hr5; clear h5 hr5)
                  | (go_at_call 18; refine (same_eq _ _ l2.length l2 _ (by first | exact MV.out.rd | (rw [HM4.out]; exact MV.out.rd)) HR5.out).mono ?_; rintro e w6 ⟨rfl, n6, rfl⟩)
                  | fail)
                go_loopw [17] (SpR w d c N s1 (.slice a4 m4 c4) m4) (fun t _ => m4 - (intOf t).toNat)
                case atStart => exact ⟨0, Nat.zero_le _, rfl, l2, HM4.out.symm, MV.out.drewN n6⟩
                case round =>
                  obtain ⟨j, hj, rfl, hmo⟩ := hrel
                  by_cases hlt : j < m4
                  · obtain ⟨g, cc, y, eg, hcell, hfr, hnext⟩ := hmo.at_ hlt
                    injection eg with eg1 _ eg3
                    subst eg1 eg3
                    have hji : (j : Int) < (m4 : Int) := by omega
                    have hjm : (j : Int) + 1 ≤ 9223372036854775807 := by have := HMAX4.out; omega
                    have hnx := hnext 3
                    have HNX := Lib.hid hnx
                    have HLT := Lib.hid hlt
                    clear hmo hnext hnx hj hlt
                    go_wp2_with fail
                    have hlt := HLT.out
                    have hnx := HNX.out
                    refine ⟨⟨j + 1, by omega, by go_num, ?_⟩, by simp [intOf]; omega⟩
                    first | exact hnx | (simpa [IntKind.wrap_u8] using hnx)
                  · obtain rfl : j = m4 := by omega
                    clear hlt hj
                    go_wp2_with fail
                    have HE0 := Lib.hid (show Mix w _ d c N s1 s1 from hmo.mix)
                    have HQ1 := Lib.hid (show s1.Q.length ≤ k + 1 from HFEW.out)
                    have HQM := Lib.hid (show s1.Q.length ≤ 1000000 by have := HQ1.out; have := HK40.out; omega)
                    obtain ⟨q, hqd⟩ : ∃ q, q = s1.dead := ⟨_, rfl⟩
                    have hli := fun w' (h : Mix w w' d c N s1 s1) => mix_live h
                    have hc3 := fun w' (h : Mix w w' d c N s1 s1) => h.c3
                    rw [← hqd] at hli hc3
                    have HLI := Lib.hid hli
                    have HC3 := Lib.hid hc3
                    clear hqd hli hc3
                    refine wp_region_held_drew (S := (fun w' => w'.cell? ⟨c, 3, none⟩ = some (.bool q))) (by kernel_rfl) (by first | exact HC3.out _ HE0.out.drew | exact HC3.out _ HE0.out | exact HC3.out _ HEN.out) (fun hHeld => ?_)
                    clear hHeld
                    refine wpAnyH_take (i := 0) (oi := ⟨some 201, .move (.tmp 11), 4, "law.go:66", #[], none⟩) (v := ?_) rfl (by kernel_rfl) (by kernel_rfl) (by kernel_rfl) (fun _ _ _ h => h) (Or.inl ⟨by rfl, ?_⟩) (by first | exact HC3.out _ HE0.out.drew | exact HC3.out _ HE0.out | exact HC3.out _ HEN.out) ?_
                    rotate_left
                    · (intro w hSw; obtain z0 := hSw; go_simp <;> with_reducible rfl)
                    simp only [Act.put, List.setIfInBounds_toArray, List.set_cons_zero, List.set_cons_succ]
                    refine wpAnyH_take (i := 1) (oi := ⟨some 202, .unOp Go.UnOp.not 4 (.tmp 201), 4, "law.go:66", #[⟨0, .data⟩], none⟩) (v := ?_) rfl (by kernel_rfl) (by kernel_rfl) (by kernel_rfl) (fun _ _ _ h => h) (Or.inl ⟨by rfl, ?_⟩) (by first | exact HC3.out _ HE0.out.drew | exact HC3.out _ HE0.out | exact HC3.out _ HEN.out) ?_
                    rotate_left
                    · (intro w hSw; obtain z0 := hSw; go_simp <;> with_reducible rfl)
                    simp only [Act.put, List.setIfInBounds_toArray, List.set_cons_zero, List.set_cons_succ]
                    refine wpAnyH_take (i := 2) (oi := ⟨some 203, .move (.tmp 202), 4, "law.go:66", #[⟨1, .data⟩], none⟩) (v := ?_) rfl (by kernel_rfl) (by kernel_rfl) (by kernel_rfl) (fun _ _ _ h => h) (Or.inl ⟨by rfl, ?_⟩) (by first | exact HC3.out _ HE0.out.drew | exact HC3.out _ HE0.out | exact HC3.out _ HEN.out) ?_
                    rotate_left
                    · (intro w hSw; obtain z0 := hSw; go_simp <;> with_reducible rfl)
                    simp only [Act.put, List.setIfInBounds_toArray, List.set_cons_zero, List.set_cons_succ]
                    refine wpAnyH_take (i := 3) (oi := { dst := some 204, op := .move (.tmp 5), type := 23, pos := "law.go:66", after := #[⟨2, .guard⟩], guard := some (2, false) }) (v := ?_) rfl (by kernel_rfl) (by kernel_rfl) (by kernel_rfl) (fun _ _ _ h => h) (Or.inl ⟨by rfl, ?_⟩) (by first | exact HC3.out _ HE0.out.drew | exact HC3.out _ HE0.out | exact HC3.out _ HEN.out) ?_
                    rotate_left
                    · (intro w hSw; obtain z0 := hSw; go_simp <;> with_reducible rfl)
                    simp only [Act.put, List.setIfInBounds_toArray, List.set_cons_zero, List.set_cons_succ]
                    refine wpAnyH_take (i := 5) (oi := { dst := some 206, op := .move (.tmp 0), type := 3, pos := "law.go:66", after := #[⟨2, .guard⟩], guard := some (2, false) }) (v := ?_) rfl (by kernel_rfl) (by kernel_rfl) (by kernel_rfl) (fun _ _ _ h => h) (Or.inl ⟨by rfl, ?_⟩) (by first | exact HC3.out _ HE0.out.drew | exact HC3.out _ HE0.out | exact HC3.out _ HEN.out) ?_
                    rotate_left
                    · (intro w hSw; obtain z0 := hSw; go_simp <;> with_reducible rfl)
                    simp only [Act.put, List.setIfInBounds_toArray, List.set_cons_zero, List.set_cons_succ]
                    refine wpAnyH_ready (rs := [4]) (by kernel_rfl) (by simp) ?_
                    refine AllReadyH.cons (o := { dst := some 205, op := .call { callee := Go.Callee.value (.func 23), args := #[Go.Operand.tmp 204], argTypes := #[23] }, type := 3, pos := "law.go:66", after := #[⟨3, .data⟩, ⟨2, .chain⟩, ⟨2, .guard⟩], guard := some (2, false) }) rfl (fun K hK => ?_) AllReadyH.nil
                    go_simp
                    refine (mix_size (s := s1) (t := s1) HE0.out.drew).mono ?_
                    rintro e wz ⟨rfl, rfl⟩
                    go_wp2_with fail
                    refine hK.out _ _ (by first | exact HC3.out _ HE0.out.drew | exact HC3.out _ HE0.out | exact HC3.out _ HEN.out) (fun hHeld => ?_)
                    clear hK K hHeld
                    try simp only [Act.put, List.setIfInBounds_toArray, List.set_cons_zero, List.set_cons_succ]
                    refine wpAnyH_take (i := 6) (oi := { dst := some 207, op := .binOp Go.BinOp.neq 3 (.tmp 205) (.tmp 206) 3, type := 4, pos := "law.go:66", after := #[⟨4, .data⟩, ⟨5, .data⟩, ⟨2, .guard⟩], guard := some (2, false) }) (v := ?_) rfl (by kernel_rfl) (by kernel_rfl) (by kernel_rfl) (fun _ _ _ h => h) (Or.inl ⟨by rfl, ?_⟩) (by first | exact HC3.out _ HE0.out.drew | exact HC3.out _ HE0.out | exact HC3.out _ HEN.out) ?_
                    rotate_left
                    · (intro w hSw; obtain z0 := hSw; go_simp <;> with_reducible rfl)
                    simp only [Act.put, List.setIfInBounds_toArray, List.set_cons_zero, List.set_cons_succ]
                    refine wpAnyH_take (i := 7) (oi := ⟨some 208, .pick (.tmp 203) (.const (Go.Value.bool true)) (.tmp 207), 4, "law.go:66", #[⟨2, .data⟩, ⟨6, .data⟩], none⟩) (v := ?_) rfl (by kernel_rfl) (by kernel_rfl) (by kernel_rfl) (fun _ _ _ h => h) (Or.inl ⟨by rfl, ?_⟩) (by first | exact HC3.out _ HE0.out.drew | exact HC3.out _ HE0.out | exact HC3.out _ HEN.out) ?_
                    rotate_left
                    · (intro w hSw; obtain z0 := hSw; go_simp <;> with_reducible rfl)
                    simp only [Act.put, List.setIfInBounds_toArray, List.set_cons_zero, List.set_cons_succ]
                    refine wpAnyH_take (i := 8) (oi := ⟨some 209, .move (.tmp 208), 4, "law.go:66", #[⟨7, .data⟩, ⟨4, .chain⟩], none⟩) (v := ?_) rfl (by kernel_rfl) (by kernel_rfl) (by kernel_rfl) (fun _ _ _ h => h) (Or.inl ⟨by rfl, ?_⟩) (by first | exact HC3.out _ HE0.out.drew | exact HC3.out _ HE0.out | exact HC3.out _ HEN.out) ?_
                    rotate_left
                    · (intro w hSw; obtain z0 := hSw; go_simp <;> with_reducible rfl)
                    simp only [Act.put, List.setIfInBounds_toArray, List.set_cons_zero, List.set_cons_succ]
                    refine wpAnyH_take (i := 9) (oi := { dst := some 210, op := .move (.tmp 5), type := 23, pos := "law.go:66", after := #[⟨8, .guard⟩], guard := some (8, false) }) (v := ?_) rfl (by kernel_rfl) (by kernel_rfl) (by kernel_rfl) (fun _ _ _ h => h) (Or.inl ⟨by rfl, ?_⟩) (by first | exact HC3.out _ HE0.out.drew | exact HC3.out _ HE0.out | exact HC3.out _ HEN.out) ?_
                    rotate_left
                    · (intro w hSw; obtain z0 := hSw; go_simp <;> with_reducible rfl)
                    simp only [Act.put, List.setIfInBounds_toArray, List.set_cons_zero, List.set_cons_succ]
                    refine wpAnyH_take (i := 11) (oi := { dst := some 212, op := .move (.tmp 7), type := 27, pos := "law.go:66", after := #[⟨8, .guard⟩], guard := some (8, false) }) (v := ?_) rfl (by kernel_rfl) (by kernel_rfl) (by kernel_rfl) (fun _ _ _ h => h) (Or.inl ⟨by rfl, ?_⟩) (by first | exact HC3.out _ HE0.out.drew | exact HC3.out _ HE0.out | exact HC3.out _ HEN.out) ?_
                    rotate_left
                    · (intro w hSw; obtain z0 := hSw; go_simp <;> with_reducible rfl)
                    simp only [Act.put, List.setIfInBounds_toArray, List.set_cons_zero, List.set_cons_succ]
                    refine wpAnyH_take (i := 12) (oi := { dst := some 213, op := .nilCheck (.tmp 212), type := 0, pos := "law.go:66", after := #[⟨11, .data⟩, ⟨8, .guard⟩], guard := some (8, false) }) (v := ?_) rfl (by kernel_rfl) (by kernel_rfl) (by kernel_rfl) (fun _ _ _ h => h) (Or.inl ⟨by rfl, ?_⟩) (by first | exact HC3.out _ HE0.out.drew | exact HC3.out _ HE0.out | exact HC3.out _ HEN.out) ?_
                    rotate_left
                    · (intro w hSw; obtain z0 := hSw; go_simp <;> with_reducible rfl)
                    simp only [Act.put, List.setIfInBounds_toArray, List.set_cons_zero, List.set_cons_succ]
                    refine wpAnyH_take (i := 13) (oi := { dst := some 214, op := .fieldAddr 52 (.tmp 213) 3, type := 0, pos := "law.go:66", after := #[⟨12, .data⟩, ⟨8, .guard⟩], guard := some (8, false) }) (v := ?_) rfl (by kernel_rfl) (by kernel_rfl) (by kernel_rfl) (fun _ _ _ h => h) (Or.inl ⟨by rfl, ?_⟩) (by first | exact HC3.out _ HE0.out.drew | exact HC3.out _ HE0.out | exact HC3.out _ HEN.out) ?_
                    rotate_left
                    · (intro w hSw; obtain z0 := hSw; go_simp <;> with_reducible rfl)
                    simp only [Act.put, List.setIfInBounds_toArray, List.set_cons_zero, List.set_cons_succ]
                    refine wpAnyH_take (i := 14) (oi := { dst := some 215, op := .load 4 (.tmp 214), type := 4, pos := "law.go:66", after := #[⟨13, .data⟩, ⟨8, .guard⟩], guard := some (8, false) }) (v := ?_) rfl (by kernel_rfl) (by kernel_rfl) (by kernel_rfl) (fun _ _ _ h => h) (Or.inl ⟨by rfl, ?_⟩) (by first | exact HC3.out _ HE0.out.drew | exact HC3.out _ HE0.out | exact HC3.out _ HEN.out) ?_
                    rotate_left
                    · (intro w hSw; obtain z0 := hSw; go_simp <;> with_reducible rfl)
                    simp only [Act.put, List.setIfInBounds_toArray, List.set_cons_zero, List.set_cons_succ]
                    refine wpAnyH_take (i := 15) (oi := { dst := some 216, op := .unOp Go.UnOp.not 4 (.tmp 215), type := 4, pos := "law.go:66", after := #[⟨14, .data⟩, ⟨8, .guard⟩], guard := some (8, false) }) (v := ?_) rfl (by kernel_rfl) (by kernel_rfl) (by kernel_rfl) (fun _ _ _ h => h) (Or.inl ⟨by rfl, ?_⟩) (by first | exact HC3.out _ HE0.out.drew | exact HC3.out _ HE0.out | exact HC3.out _ HEN.out) ?_
                    rotate_left
                    · (intro w hSw; obtain z0 := hSw; go_simp <;> with_reducible rfl)
                    simp only [Act.put, List.setIfInBounds_toArray, List.set_cons_zero, List.set_cons_succ]
                    refine wpAnyH_ready (rs := [10]) (by kernel_rfl) (by simp) ?_
                    refine AllReadyH.cons (o := { dst := some 211, op := .call { callee := Go.Callee.value (.func 24), args := #[Go.Operand.tmp 210], argTypes := #[23] }, type := 4, pos := "law.go:66", after := #[⟨9, .data⟩, ⟨8, .chain⟩, ⟨8, .guard⟩], guard := some (8, false) }) rfl (fun K hK => ?_) AllReadyH.nil
                    go_simp
                    refine (HLI.out _ HE0.out.drew).mono ?_
                    rintro e wz ⟨rfl, rfl⟩
                    go_wp2_with fail
                    refine hK.out _ _ (by first | exact HC3.out _ HE0.out.drew | exact HC3.out _ HE0.out | exact HC3.out _ HEN.out) (fun hHeld => ?_)
                    clear hK K hHeld
                    try simp only [Act.put, List.setIfInBounds_toArray, List.set_cons_zero, List.set_cons_succ]
                    refine wpAnyH_take (i := 16) (oi := { dst := some 217, op := .binOp Go.BinOp.neq 4 (.tmp 211) (.tmp 216) 4, type := 4, pos := "law.go:66", after := #[⟨10, .data⟩, ⟨15, .data⟩, ⟨8, .guard⟩], guard := some (8, false) }) (v := ?_) rfl (by kernel_rfl) (by kernel_rfl) (by kernel_rfl) (fun _ _ _ h => h) (Or.inl ⟨by rfl, ?_⟩) (by first | exact HC3.out _ HE0.out.drew | exact HC3.out _ HE0.out | exact HC3.out _ HEN.out) ?_
                    rotate_left
                    · (intro w hSw; obtain z0 := hSw; go_simp <;> with_reducible rfl)
                    simp only [Act.put, List.setIfInBounds_toArray, List.set_cons_zero, List.set_cons_succ]
                    refine wpAnyH_take (i := 17) (oi := ⟨some 218, .pick (.tmp 209) (.const (Go.Value.bool true)) (.tmp 217), 4, "law.go:66", #[⟨8, .data⟩, ⟨16, .data⟩], none⟩) (v := ?_) rfl (by kernel_rfl) (by kernel_rfl) (by kernel_rfl) (fun _ _ _ h => h) (Or.inl ⟨by rfl, ?_⟩) (by first | exact HC3.out _ HE0.out.drew | exact HC3.out _ HE0.out | exact HC3.out _ HEN.out) ?_
                    rotate_left
                    · (intro w hSw; obtain z0 := hSw; go_simp <;> with_reducible rfl)
                    simp only [Act.put, List.setIfInBounds_toArray, List.set_cons_zero, List.set_cons_succ]
                    refine wpAnyH_take (i := 18) (oi := ⟨some 219, .move (.tmp 218), 4, "law.go:66", #[⟨17, .data⟩, ⟨10, .chain⟩], none⟩) (v := ?_) rfl (by kernel_rfl) (by kernel_rfl) (by kernel_rfl) (fun _ _ _ h => h) (Or.inl ⟨by rfl, ?_⟩) (by first | exact HC3.out _ HE0.out.drew | exact HC3.out _ HE0.out | exact HC3.out _ HEN.out) ?_
                    rotate_left
                    · (intro w hSw; obtain z0 := hSw; go_simp <;> with_reducible rfl)
                    simp only [Act.put, List.setIfInBounds_toArray, List.set_cons_zero, List.set_cons_succ]
                    refine wpAnyH_take (i := 19) (oi := { dst := some 220, op := .move (.tmp 5), type := 23, pos := "law.go:66", after := #[⟨18, .guard⟩], guard := some (18, false) }) (v := ?_) rfl (by kernel_rfl) (by kernel_rfl) (by kernel_rfl) (fun _ _ _ h => h) (Or.inl ⟨by rfl, ?_⟩) (by first | exact HC3.out _ HE0.out.drew | exact HC3.out _ HE0.out | exact HC3.out _ HEN.out) ?_
                    rotate_left
                    · (intro w hSw; obtain z0 := hSw; go_simp <;> with_reducible rfl)
                    simp only [Act.put, List.setIfInBounds_toArray, List.set_cons_zero, List.set_cons_succ]
                    refine wpAnyH_take (i := 20) (oi := { dst := some 221, op := .move (.tmp 7), type := 27, pos := "law.go:66", after := #[⟨18, .guard⟩], guard := some (18, false) }) (v := ?_) rfl (by kernel_rfl) (by kernel_rfl) (by kernel_rfl) (fun _ _ _ h => h) (Or.inl ⟨by rfl, ?_⟩) (by first | exact HC3.out _ HE0.out.drew | exact HC3.out _ HE0.out | exact HC3.out _ HEN.out) ?_
                    rotate_left
                    · (intro w hSw; obtain z0 := hSw; go_simp <;> with_reducible rfl)
                    simp only [Act.put, List.setIfInBounds_toArray, List.set_cons_zero, List.set_cons_succ]
                    refine wpAnyH_ready (rs := [21]) (by kernel_rfl) (by simp) ?_
                    refine AllReadyH.cons (o := { dst := some 222, op := .call { callee := Go.Callee.value (.func 25), args := #[Go.Operand.tmp 220, Go.Operand.tmp 221], argTypes := #[23, 27] }, type := 4, pos := "law.go:66", after := #[⟨19, .data⟩, ⟨20, .data⟩, ⟨18, .chain⟩, ⟨18, .guard⟩], guard := some (18, false) }) rfl (fun K hK => ?_) AllReadyH.nil
                    go_simp
                    refine (mix_alike HE0.out.drew HQM.out (Nat.le_trans HN6.out (by decide))).mono ?_
                    rintro e wz ⟨rfl, hen⟩
                    have HEN := Lib.hid hen
                    clear hen
                    go_wp2_with fail
                    refine hK.out _ _ (by first | exact HC3.out _ HE0.out.drew | exact HC3.out _ HE0.out | exact HC3.out _ HEN.out) (fun hHeld => ?_)
                    clear hK K hHeld
                    try simp only [Act.put, List.setIfInBounds_toArray, List.set_cons_zero, List.set_cons_succ]
                    refine wpAnyH_take (i := 22) (oi := { dst := some 223, op := .unOp Go.UnOp.not 4 (.tmp 222), type := 4, pos := "law.go:66", after := #[⟨21, .data⟩, ⟨18, .guard⟩], guard := some (18, false) }) (v := ?_) rfl (by kernel_rfl) (by kernel_rfl) (by kernel_rfl) (fun _ _ _ h => h) (Or.inl ⟨by rfl, ?_⟩) (by first | exact HC3.out _ HE0.out.drew | exact HC3.out _ HE0.out | exact HC3.out _ HEN.out) ?_
                    rotate_left
                    · (intro w hSw; obtain z0 := hSw; go_simp <;> with_reducible rfl)
                    simp only [Act.put, List.setIfInBounds_toArray, List.set_cons_zero, List.set_cons_succ]
                    refine wpAnyH_take (i := 23) (oi := ⟨some 224, .pick (.tmp 219) (.const (Go.Value.bool true)) (.tmp 223), 4, "law.go:66", #[⟨18, .data⟩, ⟨22, .data⟩], none⟩) (v := ?_) rfl (by kernel_rfl) (by kernel_rfl) (by kernel_rfl) (fun _ _ _ h => h) (Or.inl ⟨by rfl, ?_⟩) (by first | exact HC3.out _ HE0.out.drew | exact HC3.out _ HE0.out | exact HC3.out _ HEN.out) ?_
                    rotate_left
                    · (intro w hSw; obtain z0 := hSw; go_simp <;> with_reducible rfl)
                    simp only [Act.put, List.setIfInBounds_toArray, List.set_cons_zero, List.set_cons_succ]
                    refine wpAnyH_done (by kernel_rfl) ?_ _
                    go_wp2
                    have hk40 := HK40.out
                    exact ⟨⟨k + 1, s1, by simp, by omega, HQ1.out, HEN.out⟩, by simp [intOf]; omega⟩
            · by_cases q3 : x.kind = 3
              · rw [q3] at k0
                clear q0 q1 q2 q3
                as_aux_lemma =>
                  have hw1 := fun w' (h : Mix w w' d c N s s) => mix_fuse h x.n HFIT.out.nn
                  have hw2 := fun w' (h : Mix w w' d c N (fuseS s x.n).1 s) => mix_rarm h x.n HFIT.out.nn
                  have hfew := few_fuse s x.n
                  obtain ⟨s1, hs1⟩ : ∃ s1, s1 = (fuseS s x.n).1 := ⟨_, rfl⟩
                  obtain ⟨e1, he1⟩ : ∃ e1, e1 = (fuseS s x.n).2 := ⟨_, rfl⟩
                  rw [← hs1] at hw1 hw2 hfew
                  rw [← he1] at hw1 hw2
                  have HW1 := Lib.hid hw1
                  have HW2 := Lib.hid hw2
                  have HFEW := Lib.hid (show s1.Q.length ≤ k + 1 by have := HQK.out; omega)
                  clear hw1 hw2 hfew hs1 he1
                  go_wp2_with fail
                  refine wp_region_held_drew (S := (fun w' => w'.cell? ⟨b, o + k * 6 + 2, none⟩ = some (.int .i64 x.n))) (by kernel_rfl) (by first | exact (HSIX.out _ MB1.out.mix.below.drew).c2 | exact (HSIX.out _ MB1.out.mix.below).c2 | exact (HSIX.out _ MV.out.below).c2 | exact (HSIX.out _ MW.out.below).c2) (fun hHeld => ?_)
                  clear hHeld
                  refine wpAnyH_take (i := 0) (oi := ⟨some 186, .move (.tmp 5), 23, "law.go:61", #[], none⟩) (v := ?_) rfl (by kernel_rfl) (by kernel_rfl) (by kernel_rfl) (fun _ _ _ h => h) (Or.inl ⟨by rfl, ?_⟩) (by first | exact (HSIX.out _ MB1.out.mix.below.drew).c2 | exact (HSIX.out _ MB1.out.mix.below).c2 | exact (HSIX.out _ MV.out.below).c2 | exact (HSIX.out _ MW.out.below).c2) ?_
                  rotate_left
                  · (intro w hSw; obtain z0 := hSw; go_simp <;> with_reducible rfl)
                  simp only [Act.put, List.setIfInBounds_toArray, List.set_cons_zero, List.set_cons_succ]
                  refine wpAnyH_take (i := 1) (oi := ⟨some 187, .move (.tmp 1), 22, "law.go:61", #[], none⟩) (v := ?_) rfl (by kernel_rfl) (by kernel_rfl) (by kernel_rfl) (fun _ _ _ h => h) (Or.inl ⟨by rfl, ?_⟩) (by first | exact (HSIX.out _ MB1.out.mix.below.drew).c2 | exact (HSIX.out _ MB1.out.mix.below).c2 | exact (HSIX.out _ MV.out.below).c2 | exact (HSIX.out _ MW.out.below).c2) ?_
                  rotate_left
                  · (intro w hSw; obtain z0 := hSw; go_simp <;> with_reducible rfl)
                  simp only [Act.put, List.setIfInBounds_toArray, List.set_cons_zero, List.set_cons_succ]
                  refine wpAnyH_take (i := 2) (oi := ⟨some 188, .move (.tmp 9), 3, "law.go:61", #[], none⟩) (v := ?_) rfl (by kernel_rfl) (by kernel_rfl) (by kernel_rfl) (fun _ _ _ h => h) (Or.inl ⟨by rfl, ?_⟩) (by first | exact (HSIX.out _ MB1.out.mix.below.drew).c2 | exact (HSIX.out _ MB1.out.mix.below).c2 | exact (HSIX.out _ MV.out.below).c2 | exact (HSIX.out _ MW.out.below).c2) ?_
                  rotate_left
                  · (intro w hSw; obtain z0 := hSw; go_simp <;> with_reducible rfl)
                  simp only [Act.put, List.setIfInBounds_toArray, List.set_cons_zero, List.set_cons_succ]
                  refine wpAnyH_take (i := 3) (oi := ⟨some 189, .indexAddr 22 (.tmp 187) (.tmp 188), 0, "law.go:61", #[⟨1, .data⟩, ⟨2, .data⟩], none⟩) (v := ?_) rfl (by kernel_rfl) (by kernel_rfl) (by kernel_rfl) (fun _ _ _ h => h) (Or.inl ⟨by rfl, ?_⟩) (by first | exact (HSIX.out _ MB1.out.mix.below.drew).c2 | exact (HSIX.out _ MB1.out.mix.below).c2 | exact (HSIX.out _ MV.out.below).c2 | exact (HSIX.out _ MW.out.below).c2) ?_
                  rotate_left
                  · (intro w hSw; obtain z0 := hSw; go_simp <;> with_reducible rfl)
                  simp only [Act.put, List.setIfInBounds_toArray, List.set_cons_zero, List.set_cons_succ]
                  refine wpAnyH_take (i := 4) (oi := ⟨some 190, .fieldAddr 34 (.tmp 189) 2, 0, "law.go:61", #[⟨3, .data⟩], none⟩) (v := ?_) rfl (by kernel_rfl) (by kernel_rfl) (by kernel_rfl) (fun _ _ _ h => h) (Or.inl ⟨by rfl, ?_⟩) (by first | exact (HSIX.out _ MB1.out.mix.below.drew).c2 | exact (HSIX.out _ MB1.out.mix.below).c2 | exact (HSIX.out _ MV.out.below).c2 | exact (HSIX.out _ MW.out.below).c2) ?_
                  rotate_left
                  · (intro w hSw; obtain z0 := hSw; go_simp <;> with_reducible rfl)
                  simp only [Act.put, List.setIfInBounds_toArray, List.set_cons_zero, List.set_cons_succ]
                  refine wpAnyH_take (i := 5) (oi := ⟨some 191, .load 3 (.tmp 190), 3, "law.go:61", #[⟨4, .data⟩], none⟩) (v := ?_) rfl (by kernel_rfl) (by kernel_rfl) (by kernel_rfl) (fun _ _ _ h => h) (Or.inl ⟨by rfl, ?_⟩) (by first | exact (HSIX.out _ MB1.out.mix.below.drew).c2 | exact (HSIX.out _ MB1.out.mix.below).c2 | exact (HSIX.out _ MV.out.below).c2 | exact (HSIX.out _ MW.out.below).c2) ?_
                  rotate_left
                  · (intro w hSw; obtain z0 := hSw; go_simp <;> with_reducible rfl)
                  simp only [Act.put, List.setIfInBounds_toArray, List.set_cons_zero, List.set_cons_succ]
                  refine wpAnyH_take (i := 7) (oi := ⟨some 193, .move (.tmp 7), 27, "law.go:61", #[], none⟩) (v := ?_) rfl (by kernel_rfl) (by kernel_rfl) (by kernel_rfl) (fun _ _ _ h => h) (Or.inl ⟨by rfl, ?_⟩) (by first | exact (HSIX.out _ MB1.out.mix.below.drew).c2 | exact (HSIX.out _ MB1.out.mix.below).c2 | exact (HSIX.out _ MV.out.below).c2 | exact (HSIX.out _ MW.out.below).c2) ?_
                  rotate_left
                  · (intro w hSw; obtain z0 := hSw; go_simp <;> with_reducible rfl)
                  simp only [Act.put, List.setIfInBounds_toArray, List.set_cons_zero, List.set_cons_succ]
                  refine wpAnyH_take (i := 8) (oi := ⟨some 194, .move (.tmp 1), 22, "law.go:61", #[], none⟩) (v := ?_) rfl (by kernel_rfl) (by kernel_rfl) (by kernel_rfl) (fun _ _ _ h => h) (Or.inl ⟨by rfl, ?_⟩) (by first | exact (HSIX.out _ MB1.out.mix.below.drew).c2 | exact (HSIX.out _ MB1.out.mix.below).c2 | exact (HSIX.out _ MV.out.below).c2 | exact (HSIX.out _ MW.out.below).c2) ?_
                  rotate_left
                  · (intro w hSw; obtain z0 := hSw; go_simp <;> with_reducible rfl)
                  simp only [Act.put, List.setIfInBounds_toArray, List.set_cons_zero, List.set_cons_succ]
                  refine wpAnyH_take (i := 9) (oi := ⟨some 195, .move (.tmp 9), 3, "law.go:61", #[], none⟩) (v := ?_) rfl (by kernel_rfl) (by kernel_rfl) (by kernel_rfl) (fun _ _ _ h => h) (Or.inl ⟨by rfl, ?_⟩) (by first | exact (HSIX.out _ MB1.out.mix.below.drew).c2 | exact (HSIX.out _ MB1.out.mix.below).c2 | exact (HSIX.out _ MV.out.below).c2 | exact (HSIX.out _ MW.out.below).c2) ?_
                  rotate_left
                  · (intro w hSw; obtain z0 := hSw; go_simp <;> with_reducible rfl)
                  simp only [Act.put, List.setIfInBounds_toArray, List.set_cons_zero, List.set_cons_succ]
                  refine wpAnyH_take (i := 10) (oi := ⟨some 196, .indexAddr 22 (.tmp 194) (.tmp 195), 0, "law.go:61", #[⟨8, .data⟩, ⟨9, .data⟩], none⟩) (v := ?_) rfl (by kernel_rfl) (by kernel_rfl) (by kernel_rfl) (fun _ _ _ h => h) (Or.inl ⟨by rfl, ?_⟩) (by first | exact (HSIX.out _ MB1.out.mix.below.drew).c2 | exact (HSIX.out _ MB1.out.mix.below).c2 | exact (HSIX.out _ MV.out.below).c2 | exact (HSIX.out _ MW.out.below).c2) ?_
                  rotate_left
                  · (intro w hSw; obtain z0 := hSw; go_simp <;> with_reducible rfl)
                  simp only [Act.put, List.setIfInBounds_toArray, List.set_cons_zero, List.set_cons_succ]
                  refine wpAnyH_take (i := 11) (oi := ⟨some 197, .fieldAddr 34 (.tmp 196) 2, 0, "law.go:61", #[⟨10, .data⟩], none⟩) (v := ?_) rfl (by kernel_rfl) (by kernel_rfl) (by kernel_rfl) (fun _ _ _ h => h) (Or.inl ⟨by rfl, ?_⟩) (by first | exact (HSIX.out _ MB1.out.mix.below.drew).c2 | exact (HSIX.out _ MB1.out.mix.below).c2 | exact (HSIX.out _ MV.out.below).c2 | exact (HSIX.out _ MW.out.below).c2) ?_
                  rotate_left
                  · (intro w hSw; obtain z0 := hSw; go_simp <;> with_reducible rfl)
                  simp only [Act.put, List.setIfInBounds_toArray, List.set_cons_zero, List.set_cons_succ]
                  refine wpAnyH_take (i := 12) (oi := ⟨some 198, .load 3 (.tmp 197), 3, "law.go:61", #[⟨11, .data⟩], none⟩) (v := ?_) rfl (by kernel_rfl) (by kernel_rfl) (by kernel_rfl) (fun _ _ _ h => h) (Or.inl ⟨by rfl, ?_⟩) (by first | exact (HSIX.out _ MB1.out.mix.below.drew).c2 | exact (HSIX.out _ MB1.out.mix.below).c2 | exact (HSIX.out _ MV.out.below).c2 | exact (HSIX.out _ MW.out.below).c2) ?_
                  rotate_left
                  · (intro w hSw; obtain z0 := hSw; go_simp <;> with_reducible rfl)
                  simp only [Act.put, List.setIfInBounds_toArray, List.set_cons_zero, List.set_cons_succ]
                  refine wpAnyH_ready (rs := [6]) (by kernel_rfl) (by simp) ?_
                  refine AllReadyH.cons (o := ⟨some 192, .call { callee := Go.Callee.value (.func 19), args := #[Go.Operand.tmp 186, Go.Operand.tmp 191], argTypes := #[23, 3] }, 24, "law.go:61", #[⟨0, .data⟩, ⟨5, .data⟩], none⟩) rfl (fun K hK => ?_) AllReadyH.nil
                  go_simp
                  refine (HW1.out _ MB1.out.mix.drew).mono ?_
                  rintro e w4 ⟨rfl, h4⟩
                  have MW := Lib.hid h4
                  clear h4
                  go_wp2_with fail
                  refine hK.out _ _ (by first | exact (HSIX.out _ MB1.out.mix.below.drew).c2 | exact (HSIX.out _ MB1.out.mix.below).c2 | exact (HSIX.out _ MV.out.below).c2 | exact (HSIX.out _ MW.out.below).c2) (fun hHeld => ?_)
                  clear hK K hHeld
                  try simp only [Act.put, List.setIfInBounds_toArray, List.set_cons_zero, List.set_cons_succ]
                  refine wpAnyH_ready (rs := [13]) (by kernel_rfl) (by simp) ?_
                  refine AllReadyH.cons (o := ⟨some 199, .call { callee := Go.Callee.value (.func 20), args := #[Go.Operand.tmp 193, Go.Operand.tmp 198], argTypes := #[27, 3] }, 3, "law.go:61", #[⟨7, .data⟩, ⟨12, .data⟩, ⟨6, .chain⟩], none⟩) rfl (fun K hK => ?_) AllReadyH.nil
                  go_simp
                  refine (HW2.out _ MW.out).mono ?_
                  rintro e w5 ⟨rfl, h5⟩
                  have MV := Lib.hid h5
                  clear h5
                  go_wp2_with fail
                  refine hK.out _ _ (by first | exact (HSIX.out _ MB1.out.mix.below.drew).c2 | exact (HSIX.out _ MB1.out.mix.below).c2 | exact (HSIX.out _ MV.out.below).c2 | exact (HSIX.out _ MW.out.below).c2) (fun hHeld => ?_)
                  clear hK K hHeld
                  try simp only [Act.put, List.setIfInBounds_toArray, List.set_cons_zero, List.set_cons_succ]
                  refine wpAnyH_take (i := 14) (oi := ⟨some 200, .binOp Go.BinOp.eql 3 (.tmp 192) (.tmp 199) 3, 4, "law.go:61", #[⟨6, .data⟩, ⟨13, .data⟩], none⟩) (v := ?_) rfl (by kernel_rfl) (by kernel_rfl) (by kernel_rfl) (fun _ _ _ h => h) (Or.inl ⟨by rfl, ?_⟩) (by first | exact (HSIX.out _ MB1.out.mix.below.drew).c2 | exact (HSIX.out _ MB1.out.mix.below).c2 | exact (HSIX.out _ MV.out.below).c2 | exact (HSIX.out _ MW.out.below).c2) ?_
                  rotate_left
                  · (intro w hSw; obtain z0 := hSw; go_simp <;> with_reducible rfl)
                  simp only [Act.put, List.setIfInBounds_toArray, List.set_cons_zero, List.set_cons_succ]
                  refine wpAnyH_take (i := 15) (oi := ⟨some 11, .assign (.tmp 200), 4, "law.go:61", #[⟨14, .data⟩, ⟨13, .chain⟩, ⟨0, .phase⟩, ⟨1, .phase⟩, ⟨2, .phase⟩, ⟨3, .phase⟩, ⟨4, .phase⟩, ⟨5, .phase⟩, ⟨6, .phase⟩, ⟨7, .phase⟩, ⟨8, .phase⟩, ⟨9, .phase⟩, ⟨10, .phase⟩, ⟨11, .phase⟩, ⟨12, .phase⟩, ⟨13, .phase⟩, ⟨14, .phase⟩], none⟩) (v := ?_) rfl (by kernel_rfl) (by kernel_rfl) (by kernel_rfl) (fun _ _ _ h => h) (Or.inl ⟨by rfl, ?_⟩) (by first | exact (HSIX.out _ MB1.out.mix.below.drew).c2 | exact (HSIX.out _ MB1.out.mix.below).c2 | exact (HSIX.out _ MV.out.below).c2 | exact (HSIX.out _ MW.out.below).c2) ?_
                  rotate_left
                  · (intro w hSw; obtain z0 := hSw; go_simp <;> with_reducible rfl)
                  simp only [Act.put, List.setIfInBounds_toArray, List.set_cons_zero, List.set_cons_succ]
                  refine wpAnyH_done (by kernel_rfl) ?_ _
                  go_wp2_with fail
                  have HE0 := Lib.hid (show Mix w _ d c N s1 s1 from MV.out)
                  have HQ1 := Lib.hid (show s1.Q.length ≤ k + 1 from HFEW.out)
                  have HQM := Lib.hid (show s1.Q.length ≤ 1000000 by have := HQ1.out; have := HK40.out; omega)
                  obtain ⟨q, hqd⟩ : ∃ q, q = s1.dead := ⟨_, rfl⟩
                  have hli := fun w' (h : Mix w w' d c N s1 s1) => mix_live h
                  have hc3 := fun w' (h : Mix w w' d c N s1 s1) => h.c3
                  rw [← hqd] at hli hc3
                  have HLI := Lib.hid hli
                  have HC3 := Lib.hid hc3
                  clear hqd hli hc3
                  refine wp_region_held_drew (S := (fun w' => w'.cell? ⟨c, 3, none⟩ = some (.bool q))) (by kernel_rfl) (by first | exact HC3.out _ HE0.out.drew | exact HC3.out _ HE0.out | exact HC3.out _ HEN.out) (fun hHeld => ?_)
                  clear hHeld
                  refine wpAnyH_take (i := 0) (oi := ⟨some 201, .move (.tmp 11), 4, "law.go:66", #[], none⟩) (v := ?_) rfl (by kernel_rfl) (by kernel_rfl) (by kernel_rfl) (fun _ _ _ h => h) (Or.inl ⟨by rfl, ?_⟩) (by first | exact HC3.out _ HE0.out.drew | exact HC3.out _ HE0.out | exact HC3.out _ HEN.out) ?_
                  rotate_left
                  · (intro w hSw; obtain z0 := hSw; go_simp <;> with_reducible rfl)
                  simp only [Act.put, List.setIfInBounds_toArray, List.set_cons_zero, List.set_cons_succ]
                  refine wpAnyH_take (i := 1) (oi := ⟨some 202, .unOp Go.UnOp.not 4 (.tmp 201), 4, "law.go:66", #[⟨0, .data⟩], none⟩) (v := ?_) rfl (by kernel_rfl) (by kernel_rfl) (by kernel_rfl) (fun _ _ _ h => h) (Or.inl ⟨by rfl, ?_⟩) (by first | exact HC3.out _ HE0.out.drew | exact HC3.out _ HE0.out | exact HC3.out _ HEN.out) ?_
                  rotate_left
                  · (intro w hSw; obtain z0 := hSw; go_simp <;> with_reducible rfl)
                  simp only [Act.put, List.setIfInBounds_toArray, List.set_cons_zero, List.set_cons_succ]
                  refine wpAnyH_take (i := 2) (oi := ⟨some 203, .move (.tmp 202), 4, "law.go:66", #[⟨1, .data⟩], none⟩) (v := ?_) rfl (by kernel_rfl) (by kernel_rfl) (by kernel_rfl) (fun _ _ _ h => h) (Or.inl ⟨by rfl, ?_⟩) (by first | exact HC3.out _ HE0.out.drew | exact HC3.out _ HE0.out | exact HC3.out _ HEN.out) ?_
                  rotate_left
                  · (intro w hSw; obtain z0 := hSw; go_simp <;> with_reducible rfl)
                  simp only [Act.put, List.setIfInBounds_toArray, List.set_cons_zero, List.set_cons_succ]
                  refine wpAnyH_take (i := 3) (oi := { dst := some 204, op := .move (.tmp 5), type := 23, pos := "law.go:66", after := #[⟨2, .guard⟩], guard := some (2, false) }) (v := ?_) rfl (by kernel_rfl) (by kernel_rfl) (by kernel_rfl) (fun _ _ _ h => h) (Or.inl ⟨by rfl, ?_⟩) (by first | exact HC3.out _ HE0.out.drew | exact HC3.out _ HE0.out | exact HC3.out _ HEN.out) ?_
                  rotate_left
                  · (intro w hSw; obtain z0 := hSw; go_simp <;> with_reducible rfl)
                  simp only [Act.put, List.setIfInBounds_toArray, List.set_cons_zero, List.set_cons_succ]
                  refine wpAnyH_take (i := 5) (oi := { dst := some 206, op := .move (.tmp 0), type := 3, pos := "law.go:66", after := #[⟨2, .guard⟩], guard := some (2, false) }) (v := ?_) rfl (by kernel_rfl) (by kernel_rfl) (by kernel_rfl) (fun _ _ _ h => h) (Or.inl ⟨by rfl, ?_⟩) (by first | exact HC3.out _ HE0.out.drew | exact HC3.out _ HE0.out | exact HC3.out _ HEN.out) ?_
                  rotate_left
                  · (intro w hSw; obtain z0 := hSw; go_simp <;> with_reducible rfl)
                  simp only [Act.put, List.setIfInBounds_toArray, List.set_cons_zero, List.set_cons_succ]
                  refine wpAnyH_ready (rs := [4]) (by kernel_rfl) (by simp) ?_
                  refine AllReadyH.cons (o := { dst := some 205, op := .call { callee := Go.Callee.value (.func 23), args := #[Go.Operand.tmp 204], argTypes := #[23] }, type := 3, pos := "law.go:66", after := #[⟨3, .data⟩, ⟨2, .chain⟩, ⟨2, .guard⟩], guard := some (2, false) }) rfl (fun K hK => ?_) AllReadyH.nil
                  go_simp
                  refine (mix_size (s := s1) (t := s1) HE0.out.drew).mono ?_
                  rintro e wz ⟨rfl, rfl⟩
                  go_wp2_with fail
                  refine hK.out _ _ (by first | exact HC3.out _ HE0.out.drew | exact HC3.out _ HE0.out | exact HC3.out _ HEN.out) (fun hHeld => ?_)
                  clear hK K hHeld
                  try simp only [Act.put, List.setIfInBounds_toArray, List.set_cons_zero, List.set_cons_succ]
                  refine wpAnyH_take (i := 6) (oi := { dst := some 207, op := .binOp Go.BinOp.neq 3 (.tmp 205) (.tmp 206) 3, type := 4, pos := "law.go:66", after := #[⟨4, .data⟩, ⟨5, .data⟩, ⟨2, .guard⟩], guard := some (2, false) }) (v := ?_) rfl (by kernel_rfl) (by kernel_rfl) (by kernel_rfl) (fun _ _ _ h => h) (Or.inl ⟨by rfl, ?_⟩) (by first | exact HC3.out _ HE0.out.drew | exact HC3.out _ HE0.out | exact HC3.out _ HEN.out) ?_
                  rotate_left
                  · (intro w hSw; obtain z0 := hSw; go_simp <;> with_reducible rfl)
                  simp only [Act.put, List.setIfInBounds_toArray, List.set_cons_zero, List.set_cons_succ]
                  refine wpAnyH_take (i := 7) (oi := ⟨some 208, .pick (.tmp 203) (.const (Go.Value.bool true)) (.tmp 207), 4, "law.go:66", #[⟨2, .data⟩, ⟨6, .data⟩], none⟩) (v := ?_) rfl (by kernel_rfl) (by kernel_rfl) (by kernel_rfl) (fun _ _ _ h => h) (Or.inl ⟨by rfl, ?_⟩) (by first | exact HC3.out _ HE0.out.drew | exact HC3.out _ HE0.out | exact HC3.out _ HEN.out) ?_
                  rotate_left
                  · (intro w hSw; obtain z0 := hSw; go_simp <;> with_reducible rfl)
                  simp only [Act.put, List.setIfInBounds_toArray, List.set_cons_zero, List.set_cons_succ]
                  refine wpAnyH_take (i := 8) (oi := ⟨some 209, .move (.tmp 208), 4, "law.go:66", #[⟨7, .data⟩, ⟨4, .chain⟩], none⟩) (v := ?_) rfl (by kernel_rfl) (by kernel_rfl) (by kernel_rfl) (fun _ _ _ h => h) (Or.inl ⟨by rfl, ?_⟩) (by first | exact HC3.out _ HE0.out.drew | exact HC3.out _ HE0.out | exact HC3.out _ HEN.out) ?_
                  rotate_left
                  · (intro w hSw; obtain z0 := hSw; go_simp <;> with_reducible rfl)
                  simp only [Act.put, List.setIfInBounds_toArray, List.set_cons_zero, List.set_cons_succ]
                  refine wpAnyH_take (i := 9) (oi := { dst := some 210, op := .move (.tmp 5), type := 23, pos := "law.go:66", after := #[⟨8, .guard⟩], guard := some (8, false) }) (v := ?_) rfl (by kernel_rfl) (by kernel_rfl) (by kernel_rfl) (fun _ _ _ h => h) (Or.inl ⟨by rfl, ?_⟩) (by first | exact HC3.out _ HE0.out.drew | exact HC3.out _ HE0.out | exact HC3.out _ HEN.out) ?_
                  rotate_left
                  · (intro w hSw; obtain z0 := hSw; go_simp <;> with_reducible rfl)
                  simp only [Act.put, List.setIfInBounds_toArray, List.set_cons_zero, List.set_cons_succ]
                  refine wpAnyH_take (i := 11) (oi := { dst := some 212, op := .move (.tmp 7), type := 27, pos := "law.go:66", after := #[⟨8, .guard⟩], guard := some (8, false) }) (v := ?_) rfl (by kernel_rfl) (by kernel_rfl) (by kernel_rfl) (fun _ _ _ h => h) (Or.inl ⟨by rfl, ?_⟩) (by first | exact HC3.out _ HE0.out.drew | exact HC3.out _ HE0.out | exact HC3.out _ HEN.out) ?_
                  rotate_left
                  · (intro w hSw; obtain z0 := hSw; go_simp <;> with_reducible rfl)
                  simp only [Act.put, List.setIfInBounds_toArray, List.set_cons_zero, List.set_cons_succ]
                  refine wpAnyH_take (i := 12) (oi := { dst := some 213, op := .nilCheck (.tmp 212), type := 0, pos := "law.go:66", after := #[⟨11, .data⟩, ⟨8, .guard⟩], guard := some (8, false) }) (v := ?_) rfl (by kernel_rfl) (by kernel_rfl) (by kernel_rfl) (fun _ _ _ h => h) (Or.inl ⟨by rfl, ?_⟩) (by first | exact HC3.out _ HE0.out.drew | exact HC3.out _ HE0.out | exact HC3.out _ HEN.out) ?_
                  rotate_left
                  · (intro w hSw; obtain z0 := hSw; go_simp <;> with_reducible rfl)
                  simp only [Act.put, List.setIfInBounds_toArray, List.set_cons_zero, List.set_cons_succ]
                  refine wpAnyH_take (i := 13) (oi := { dst := some 214, op := .fieldAddr 52 (.tmp 213) 3, type := 0, pos := "law.go:66", after := #[⟨12, .data⟩, ⟨8, .guard⟩], guard := some (8, false) }) (v := ?_) rfl (by kernel_rfl) (by kernel_rfl) (by kernel_rfl) (fun _ _ _ h => h) (Or.inl ⟨by rfl, ?_⟩) (by first | exact HC3.out _ HE0.out.drew | exact HC3.out _ HE0.out | exact HC3.out _ HEN.out) ?_
                  rotate_left
                  · (intro w hSw; obtain z0 := hSw; go_simp <;> with_reducible rfl)
                  simp only [Act.put, List.setIfInBounds_toArray, List.set_cons_zero, List.set_cons_succ]
                  refine wpAnyH_take (i := 14) (oi := { dst := some 215, op := .load 4 (.tmp 214), type := 4, pos := "law.go:66", after := #[⟨13, .data⟩, ⟨8, .guard⟩], guard := some (8, false) }) (v := ?_) rfl (by kernel_rfl) (by kernel_rfl) (by kernel_rfl) (fun _ _ _ h => h) (Or.inl ⟨by rfl, ?_⟩) (by first | exact HC3.out _ HE0.out.drew | exact HC3.out _ HE0.out | exact HC3.out _ HEN.out) ?_
                  rotate_left
                  · (intro w hSw; obtain z0 := hSw; go_simp <;> with_reducible rfl)
                  simp only [Act.put, List.setIfInBounds_toArray, List.set_cons_zero, List.set_cons_succ]
                  refine wpAnyH_take (i := 15) (oi := { dst := some 216, op := .unOp Go.UnOp.not 4 (.tmp 215), type := 4, pos := "law.go:66", after := #[⟨14, .data⟩, ⟨8, .guard⟩], guard := some (8, false) }) (v := ?_) rfl (by kernel_rfl) (by kernel_rfl) (by kernel_rfl) (fun _ _ _ h => h) (Or.inl ⟨by rfl, ?_⟩) (by first | exact HC3.out _ HE0.out.drew | exact HC3.out _ HE0.out | exact HC3.out _ HEN.out) ?_
                  rotate_left
                  · (intro w hSw; obtain z0 := hSw; go_simp <;> with_reducible rfl)
                  simp only [Act.put, List.setIfInBounds_toArray, List.set_cons_zero, List.set_cons_succ]
                  refine wpAnyH_ready (rs := [10]) (by kernel_rfl) (by simp) ?_
                  refine AllReadyH.cons (o := { dst := some 211, op := .call { callee := Go.Callee.value (.func 24), args := #[Go.Operand.tmp 210], argTypes := #[23] }, type := 4, pos := "law.go:66", after := #[⟨9, .data⟩, ⟨8, .chain⟩, ⟨8, .guard⟩], guard := some (8, false) }) rfl (fun K hK => ?_) AllReadyH.nil
                  go_simp
                  refine (HLI.out _ HE0.out.drew).mono ?_
                  rintro e wz ⟨rfl, rfl⟩
                  go_wp2_with fail
                  refine hK.out _ _ (by first | exact HC3.out _ HE0.out.drew | exact HC3.out _ HE0.out | exact HC3.out _ HEN.out) (fun hHeld => ?_)
                  clear hK K hHeld
                  try simp only [Act.put, List.setIfInBounds_toArray, List.set_cons_zero, List.set_cons_succ]
                  refine wpAnyH_take (i := 16) (oi := { dst := some 217, op := .binOp Go.BinOp.neq 4 (.tmp 211) (.tmp 216) 4, type := 4, pos := "law.go:66", after := #[⟨10, .data⟩, ⟨15, .data⟩, ⟨8, .guard⟩], guard := some (8, false) }) (v := ?_) rfl (by kernel_rfl) (by kernel_rfl) (by kernel_rfl) (fun _ _ _ h => h) (Or.inl ⟨by rfl, ?_⟩) (by first | exact HC3.out _ HE0.out.drew | exact HC3.out _ HE0.out | exact HC3.out _ HEN.out) ?_
                  rotate_left
                  · (intro w hSw; obtain z0 := hSw; go_simp <;> with_reducible rfl)
                  simp only [Act.put, List.setIfInBounds_toArray, List.set_cons_zero, List.set_cons_succ]
                  refine wpAnyH_take (i := 17) (oi := ⟨some 218, .pick (.tmp 209) (.const (Go.Value.bool true)) (.tmp 217), 4, "law.go:66", #[⟨8, .data⟩, ⟨16, .data⟩], none⟩) (v := ?_) rfl (by kernel_rfl) (by kernel_rfl) (by kernel_rfl) (fun _ _ _ h => h) (Or.inl ⟨by rfl, ?_⟩) (by first | exact HC3.out _ HE0.out.drew | exact HC3.out _ HE0.out | exact HC3.out _ HEN.out) ?_
                  rotate_left
                  · (intro w hSw; obtain z0 := hSw; go_simp <;> with_reducible rfl)
                  simp only [Act.put, List.setIfInBounds_toArray, List.set_cons_zero, List.set_cons_succ]
                  refine wpAnyH_take (i := 18) (oi := ⟨some 219, .move (.tmp 218), 4, "law.go:66", #[⟨17, .data⟩, ⟨10, .chain⟩], none⟩) (v := ?_) rfl (by kernel_rfl) (by kernel_rfl) (by kernel_rfl) (fun _ _ _ h => h) (Or.inl ⟨by rfl, ?_⟩) (by first | exact HC3.out _ HE0.out.drew | exact HC3.out _ HE0.out | exact HC3.out _ HEN.out) ?_
                  rotate_left
                  · (intro w hSw; obtain z0 := hSw; go_simp <;> with_reducible rfl)
                  simp only [Act.put, List.setIfInBounds_toArray, List.set_cons_zero, List.set_cons_succ]
                  refine wpAnyH_take (i := 19) (oi := { dst := some 220, op := .move (.tmp 5), type := 23, pos := "law.go:66", after := #[⟨18, .guard⟩], guard := some (18, false) }) (v := ?_) rfl (by kernel_rfl) (by kernel_rfl) (by kernel_rfl) (fun _ _ _ h => h) (Or.inl ⟨by rfl, ?_⟩) (by first | exact HC3.out _ HE0.out.drew | exact HC3.out _ HE0.out | exact HC3.out _ HEN.out) ?_
                  rotate_left
                  · (intro w hSw; obtain z0 := hSw; go_simp <;> with_reducible rfl)
                  simp only [Act.put, List.setIfInBounds_toArray, List.set_cons_zero, List.set_cons_succ]
                  refine wpAnyH_take (i := 20) (oi := { dst := some 221, op := .move (.tmp 7), type := 27, pos := "law.go:66", after := #[⟨18, .guard⟩], guard := some (18, false) }) (v := ?_) rfl (by kernel_rfl) (by kernel_rfl) (by kernel_rfl) (fun _ _ _ h => h) (Or.inl ⟨by rfl, ?_⟩) (by first | exact HC3.out _ HE0.out.drew | exact HC3.out _ HE0.out | exact HC3.out _ HEN.out) ?_
                  rotate_left
                  · (intro w hSw; obtain z0 := hSw; go_simp <;> with_reducible rfl)
                  simp only [Act.put, List.setIfInBounds_toArray, List.set_cons_zero, List.set_cons_succ]
                  refine wpAnyH_ready (rs := [21]) (by kernel_rfl) (by simp) ?_
                  refine AllReadyH.cons (o := { dst := some 222, op := .call { callee := Go.Callee.value (.func 25), args := #[Go.Operand.tmp 220, Go.Operand.tmp 221], argTypes := #[23, 27] }, type := 4, pos := "law.go:66", after := #[⟨19, .data⟩, ⟨20, .data⟩, ⟨18, .chain⟩, ⟨18, .guard⟩], guard := some (18, false) }) rfl (fun K hK => ?_) AllReadyH.nil
                  go_simp
                  refine (mix_alike HE0.out.drew HQM.out (Nat.le_trans HN6.out (by decide))).mono ?_
                  rintro e wz ⟨rfl, hen⟩
                  have HEN := Lib.hid hen
                  clear hen
                  go_wp2_with fail
                  refine hK.out _ _ (by first | exact HC3.out _ HE0.out.drew | exact HC3.out _ HE0.out | exact HC3.out _ HEN.out) (fun hHeld => ?_)
                  clear hK K hHeld
                  try simp only [Act.put, List.setIfInBounds_toArray, List.set_cons_zero, List.set_cons_succ]
                  refine wpAnyH_take (i := 22) (oi := { dst := some 223, op := .unOp Go.UnOp.not 4 (.tmp 222), type := 4, pos := "law.go:66", after := #[⟨21, .data⟩, ⟨18, .guard⟩], guard := some (18, false) }) (v := ?_) rfl (by kernel_rfl) (by kernel_rfl) (by kernel_rfl) (fun _ _ _ h => h) (Or.inl ⟨by rfl, ?_⟩) (by first | exact HC3.out _ HE0.out.drew | exact HC3.out _ HE0.out | exact HC3.out _ HEN.out) ?_
                  rotate_left
                  · (intro w hSw; obtain z0 := hSw; go_simp <;> with_reducible rfl)
                  simp only [Act.put, List.setIfInBounds_toArray, List.set_cons_zero, List.set_cons_succ]
                  refine wpAnyH_take (i := 23) (oi := ⟨some 224, .pick (.tmp 219) (.const (Go.Value.bool true)) (.tmp 223), 4, "law.go:66", #[⟨18, .data⟩, ⟨22, .data⟩], none⟩) (v := ?_) rfl (by kernel_rfl) (by kernel_rfl) (by kernel_rfl) (fun _ _ _ h => h) (Or.inl ⟨by rfl, ?_⟩) (by first | exact HC3.out _ HE0.out.drew | exact HC3.out _ HE0.out | exact HC3.out _ HEN.out) ?_
                  rotate_left
                  · (intro w hSw; obtain z0 := hSw; go_simp <;> with_reducible rfl)
                  simp only [Act.put, List.setIfInBounds_toArray, List.set_cons_zero, List.set_cons_succ]
                  refine wpAnyH_done (by kernel_rfl) ?_ _
                  go_wp2
                  have hk40 := HK40.out
                  exact ⟨⟨k + 1, s1, by simp, by omega, HQ1.out, HEN.out⟩, by simp [intOf]; omega⟩
              · have q0' : (x.kind == 0) = false := by simp [q0]
                have q1' : (x.kind == 1) = false := by simp [q1]
                have q2' : (x.kind == 2) = false := by simp [q2]
                have q3' : (x.kind == 3) = false := by simp [q3]
                clear q0 q1 q2 q3
                as_aux_lemma =>
                  have hw1 := fun w' (h : Mix w w' d c N s s) => mix_crash h x.n HFIT.out.k HFIT.out.kold
                  have hw2 := fun w' (h : Mix w w' d c N (crashS s x.ks x.n) s) => mix_rcrash h x.n HFIT.out.k HFIT.out.kold HN1.out (by have := HQ.out; omega)
                  have hfew := few_crash s x.ks x.n
                  obtain ⟨s1, hs1⟩ : ∃ s1, s1 = crashS s x.ks x.n := ⟨_, rfl⟩
                  rw [← hs1] at hw1 hw2 hfew
                  have HW1 := Lib.hid hw1
                  have HW2 := Lib.hid hw2
                  have HFEW := Lib.hid (show s1.Q.length ≤ k + 1 by have := HQK.out; omega)
                  clear hw1 hw2 hfew hs1
                  go_wp2_with fail
                  refine wp_region_held_drew (S := (fun w' => w'.cell? ⟨b, o + k * 6 + 5, none⟩ = some x.kv ∧ w'.cell? ⟨b, o + k * 6 + 2, none⟩ = some (.int .i64 x.n))) (by kernel_rfl) (by first | exact ⟨(HSIX.out _ MB1.out.mix.below.drew).c5, (HSIX.out _ MB1.out.mix.below.drew).c2⟩ | exact ⟨(HSIX.out _ MB1.out.mix.below).c5, (HSIX.out _ MB1.out.mix.below).c2⟩ | exact ⟨(HSIX.out _ MW.out.below).c5, (HSIX.out _ MW.out.below).c2⟩) (fun hHeld => ?_)
                  clear hHeld
                  refine wpAnyH_take (i := 0) (oi := ⟨some 81, .move (.tmp 5), 23, "law.go:63", #[], none⟩) (v := ?_) rfl (by kernel_rfl) (by kernel_rfl) (by kernel_rfl) (fun _ _ _ h => h) (Or.inl ⟨by rfl, ?_⟩) (by first | exact ⟨(HSIX.out _ MB1.out.mix.below.drew).c5, (HSIX.out _ MB1.out.mix.below.drew).c2⟩ | exact ⟨(HSIX.out _ MB1.out.mix.below).c5, (HSIX.out _ MB1.out.mix.below).c2⟩ | exact ⟨(HSIX.out _ MW.out.below).c5, (HSIX.out _ MW.out.below).c2⟩) ?_
                  rotate_left
                  · (intro w hSw; obtain ⟨z0, z1⟩ := hSw; go_simp <;> with_reducible rfl)
                  simp only [Act.put, List.setIfInBounds_toArray, List.set_cons_zero, List.set_cons_succ]
                  refine wpAnyH_take (i := 1) (oi := ⟨some 82, .move (.tmp 1), 22, "law.go:63", #[], none⟩) (v := ?_) rfl (by kernel_rfl) (by kernel_rfl) (by kernel_rfl) (fun _ _ _ h => h) (Or.inl ⟨by rfl, ?_⟩) (by first | exact ⟨(HSIX.out _ MB1.out.mix.below.drew).c5, (HSIX.out _ MB1.out.mix.below.drew).c2⟩ | exact ⟨(HSIX.out _ MB1.out.mix.below).c5, (HSIX.out _ MB1.out.mix.below).c2⟩ | exact ⟨(HSIX.out _ MW.out.below).c5, (HSIX.out _ MW.out.below).c2⟩) ?_
                  rotate_left
                  · (intro w hSw; obtain ⟨z0, z1⟩ := hSw; go_simp <;> with_reducible rfl)
                  simp only [Act.put, List.setIfInBounds_toArray, List.set_cons_zero, List.set_cons_succ]
                  refine wpAnyH_take (i := 2) (oi := ⟨some 83, .move (.tmp 9), 3, "law.go:63", #[], none⟩) (v := ?_) rfl (by kernel_rfl) (by kernel_rfl) (by kernel_rfl) (fun _ _ _ h => h) (Or.inl ⟨by rfl, ?_⟩) (by first | exact ⟨(HSIX.out _ MB1.out.mix.below.drew).c5, (HSIX.out _ MB1.out.mix.below.drew).c2⟩ | exact ⟨(HSIX.out _ MB1.out.mix.below).c5, (HSIX.out _ MB1.out.mix.below).c2⟩ | exact ⟨(HSIX.out _ MW.out.below).c5, (HSIX.out _ MW.out.below).c2⟩) ?_
                  rotate_left
                  · (intro w hSw; obtain ⟨z0, z1⟩ := hSw; go_simp <;> with_reducible rfl)
                  simp only [Act.put, List.setIfInBounds_toArray, List.set_cons_zero, List.set_cons_succ]
                  refine wpAnyH_take (i := 3) (oi := ⟨some 84, .indexAddr 22 (.tmp 82) (.tmp 83), 0, "law.go:63", #[⟨1, .data⟩, ⟨2, .data⟩], none⟩) (v := ?_) rfl (by kernel_rfl) (by kernel_rfl) (by kernel_rfl) (fun _ _ _ h => h) (Or.inl ⟨by rfl, ?_⟩) (by first | exact ⟨(HSIX.out _ MB1.out.mix.below.drew).c5, (HSIX.out _ MB1.out.mix.below.drew).c2⟩ | exact ⟨(HSIX.out _ MB1.out.mix.below).c5, (HSIX.out _ MB1.out.mix.below).c2⟩ | exact ⟨(HSIX.out _ MW.out.below).c5, (HSIX.out _ MW.out.below).c2⟩) ?_
                  rotate_left
                  · (intro w hSw; obtain ⟨z0, z1⟩ := hSw; go_simp <;> with_reducible rfl)
                  simp only [Act.put, List.setIfInBounds_toArray, List.set_cons_zero, List.set_cons_succ]
                  refine wpAnyH_take (i := 4) (oi := ⟨some 85, .fieldAddr 34 (.tmp 84) 5, 0, "law.go:63", #[⟨3, .data⟩], none⟩) (v := ?_) rfl (by kernel_rfl) (by kernel_rfl) (by kernel_rfl) (fun _ _ _ h => h) (Or.inl ⟨by rfl, ?_⟩) (by first | exact ⟨(HSIX.out _ MB1.out.mix.below.drew).c5, (HSIX.out _ MB1.out.mix.below.drew).c2⟩ | exact ⟨(HSIX.out _ MB1.out.mix.below).c5, (HSIX.out _ MB1.out.mix.below).c2⟩ | exact ⟨(HSIX.out _ MW.out.below).c5, (HSIX.out _ MW.out.below).c2⟩) ?_
                  rotate_left
                  · (intro w hSw; obtain ⟨z0, z1⟩ := hSw; go_simp <;> with_reducible rfl)
                  simp only [Act.put, List.setIfInBounds_toArray, List.set_cons_zero, List.set_cons_succ]
                  refine wpAnyH_take (i := 5) (oi := ⟨some 86, .load 32 (.tmp 85), 32, "law.go:63", #[⟨4, .data⟩], none⟩) (v := ?_) rfl (by kernel_rfl) (by kernel_rfl) (by kernel_rfl) (fun _ _ _ h => h) (Or.inl ⟨by rfl, ?_⟩) (by first | exact ⟨(HSIX.out _ MB1.out.mix.below.drew).c5, (HSIX.out _ MB1.out.mix.below.drew).c2⟩ | exact ⟨(HSIX.out _ MB1.out.mix.below).c5, (HSIX.out _ MB1.out.mix.below).c2⟩ | exact ⟨(HSIX.out _ MW.out.below).c5, (HSIX.out _ MW.out.below).c2⟩) ?_
                  rotate_left
                  · (intro w hSw; obtain ⟨z0, z1⟩ := hSw; go_simp <;> with_reducible rfl)
                  simp only [Act.put, List.setIfInBounds_toArray, List.set_cons_zero, List.set_cons_succ]
                  refine wpAnyH_take (i := 6) (oi := ⟨some 87, .move (.tmp 1), 22, "law.go:63", #[], none⟩) (v := ?_) rfl (by kernel_rfl) (by kernel_rfl) (by kernel_rfl) (fun _ _ _ h => h) (Or.inl ⟨by rfl, ?_⟩) (by first | exact ⟨(HSIX.out _ MB1.out.mix.below.drew).c5, (HSIX.out _ MB1.out.mix.below.drew).c2⟩ | exact ⟨(HSIX.out _ MB1.out.mix.below).c5, (HSIX.out _ MB1.out.mix.below).c2⟩ | exact ⟨(HSIX.out _ MW.out.below).c5, (HSIX.out _ MW.out.below).c2⟩) ?_
                  rotate_left
                  · (intro w hSw; obtain ⟨z0, z1⟩ := hSw; go_simp <;> with_reducible rfl)
                  simp only [Act.put, List.setIfInBounds_toArray, List.set_cons_zero, List.set_cons_succ]
                  refine wpAnyH_take (i := 7) (oi := ⟨some 88, .move (.tmp 9), 3, "law.go:63", #[], none⟩) (v := ?_) rfl (by kernel_rfl) (by kernel_rfl) (by kernel_rfl) (fun _ _ _ h => h) (Or.inl ⟨by rfl, ?_⟩) (by first | exact ⟨(HSIX.out _ MB1.out.mix.below.drew).c5, (HSIX.out _ MB1.out.mix.below.drew).c2⟩ | exact ⟨(HSIX.out _ MB1.out.mix.below).c5, (HSIX.out _ MB1.out.mix.below).c2⟩ | exact ⟨(HSIX.out _ MW.out.below).c5, (HSIX.out _ MW.out.below).c2⟩) ?_
                  rotate_left
                  · (intro w hSw; obtain ⟨z0, z1⟩ := hSw; go_simp <;> with_reducible rfl)
                  simp only [Act.put, List.setIfInBounds_toArray, List.set_cons_zero, List.set_cons_succ]
                  refine wpAnyH_take (i := 8) (oi := ⟨some 89, .indexAddr 22 (.tmp 87) (.tmp 88), 0, "law.go:63", #[⟨6, .data⟩, ⟨7, .data⟩], none⟩) (v := ?_) rfl (by kernel_rfl) (by kernel_rfl) (by kernel_rfl) (fun _ _ _ h => h) (Or.inl ⟨by rfl, ?_⟩) (by first | exact ⟨(HSIX.out _ MB1.out.mix.below.drew).c5, (HSIX.out _ MB1.out.mix.below.drew).c2⟩ | exact ⟨(HSIX.out _ MB1.out.mix.below).c5, (HSIX.out _ MB1.out.mix.below).c2⟩ | exact ⟨(HSIX.out _ MW.out.below).c5, (HSIX.out _ MW.out.below).c2⟩) ?_
                  rotate_left
                  · (intro w hSw; obtain ⟨z0, z1⟩ := hSw; go_simp <;> with_reducible rfl)
                  simp only [Act.put, List.setIfInBounds_toArray, List.set_cons_zero, List.set_cons_succ]
                  refine wpAnyH_take (i := 9) (oi := ⟨some 90, .fieldAddr 34 (.tmp 89) 2, 0, "law.go:63", #[⟨8, .data⟩], none⟩) (v := ?_) rfl (by kernel_rfl) (by kernel_rfl) (by kernel_rfl) (fun _ _ _ h => h) (Or.inl ⟨by rfl, ?_⟩) (by first | exact ⟨(HSIX.out _ MB1.out.mix.below.drew).c5, (HSIX.out _ MB1.out.mix.below.drew).c2⟩ | exact ⟨(HSIX.out _ MB1.out.mix.below).c5, (HSIX.out _ MB1.out.mix.below).c2⟩ | exact ⟨(HSIX.out _ MW.out.below).c5, (HSIX.out _ MW.out.below).c2⟩) ?_
                  rotate_left
                  · (intro w hSw; obtain ⟨z0, z1⟩ := hSw; go_simp <;> with_reducible rfl)
                  simp only [Act.put, List.setIfInBounds_toArray, List.set_cons_zero, List.set_cons_succ]
                  refine wpAnyH_take (i := 10) (oi := ⟨some 91, .load 3 (.tmp 90), 3, "law.go:63", #[⟨9, .data⟩], none⟩) (v := ?_) rfl (by kernel_rfl) (by kernel_rfl) (by kernel_rfl) (fun _ _ _ h => h) (Or.inl ⟨by rfl, ?_⟩) (by first | exact ⟨(HSIX.out _ MB1.out.mix.below.drew).c5, (HSIX.out _ MB1.out.mix.below.drew).c2⟩ | exact ⟨(HSIX.out _ MB1.out.mix.below).c5, (HSIX.out _ MB1.out.mix.below).c2⟩ | exact ⟨(HSIX.out _ MW.out.below).c5, (HSIX.out _ MW.out.below).c2⟩) ?_
                  rotate_left
                  · (intro w hSw; obtain ⟨z0, z1⟩ := hSw; go_simp <;> with_reducible rfl)
                  simp only [Act.put, List.setIfInBounds_toArray, List.set_cons_zero, List.set_cons_succ]
                  refine wpAnyH_ready (rs := [11]) (by kernel_rfl) (by simp) ?_
                  refine AllReadyH.cons (o := ⟨some 92, .call { callee := Go.Callee.value (.func 21), args := #[Go.Operand.tmp 81, Go.Operand.tmp 86, Go.Operand.tmp 91], argTypes := #[23, 32, 3] }, 0, "law.go:63", #[⟨0, .data⟩, ⟨5, .data⟩, ⟨10, .data⟩], none⟩) rfl (fun K hK => ?_) AllReadyH.nil
                  go_simp
                  refine (HW1.out _ MB1.out.mix.drew).mono ?_
                  rintro e w4 ⟨rfl, h4⟩
                  have MW := Lib.hid h4
                  clear h4
                  go_wp2_with fail
                  refine hK.out _ _ (by first | exact ⟨(HSIX.out _ MB1.out.mix.below.drew).c5, (HSIX.out _ MB1.out.mix.below.drew).c2⟩ | exact ⟨(HSIX.out _ MB1.out.mix.below).c5, (HSIX.out _ MB1.out.mix.below).c2⟩ | exact ⟨(HSIX.out _ MW.out.below).c5, (HSIX.out _ MW.out.below).c2⟩) (fun hHeld => ?_)
                  clear hK K hHeld
                  try simp only [Act.put, List.setIfInBounds_toArray, List.set_cons_zero, List.set_cons_succ]
                  refine wpAnyH_done (by kernel_rfl) ?_ _
                  go_wp2_with fail
                  refine wp_region_held_drew (S := (fun w' => w'.cell? ⟨b, o + k * 6 + 5, none⟩ = some x.kv ∧ w'.cell? ⟨b, o + k * 6 + 2, none⟩ = some (.int .i64 x.n))) (by kernel_rfl) (by first | exact ⟨(HSIX.out _ MW.out.below.drew).c5, (HSIX.out _ MW.out.below.drew).c2⟩ | exact ⟨(HSIX.out _ MW.out.below).c5, (HSIX.out _ MW.out.below).c2⟩ | exact ⟨(HSIX.out _ MV.out.below).c5, (HSIX.out _ MV.out.below).c2⟩) (fun hHeld => ?_)
                  clear hHeld
                  refine wpAnyH_take (i := 0) (oi := ⟨some 93, .move (.tmp 7), 27, "law.go:64", #[], none⟩) (v := ?_) rfl (by kernel_rfl) (by kernel_rfl) (by kernel_rfl) (fun _ _ _ h => h) (Or.inl ⟨by rfl, ?_⟩) (by first | exact ⟨(HSIX.out _ MW.out.below.drew).c5, (HSIX.out _ MW.out.below.drew).c2⟩ | exact ⟨(HSIX.out _ MW.out.below).c5, (HSIX.out _ MW.out.below).c2⟩ | exact ⟨(HSIX.out _ MV.out.below).c5, (HSIX.out _ MV.out.below).c2⟩) ?_
                  rotate_left
                  · (intro w hSw; obtain ⟨z0, z1⟩ := hSw; go_simp <;> with_reducible rfl)
                  simp only [Act.put, List.setIfInBounds_toArray, List.set_cons_zero, List.set_cons_succ]
                  refine wpAnyH_take (i := 1) (oi := ⟨some 94, .move (.tmp 1), 22, "law.go:64", #[], none⟩) (v := ?_) rfl (by kernel_rfl) (by kernel_rfl) (by kernel_rfl) (fun _ _ _ h => h) (Or.inl ⟨by rfl, ?_⟩) (by first | exact ⟨(HSIX.out _ MW.out.below.drew).c5, (HSIX.out _ MW.out.below.drew).c2⟩ | exact ⟨(HSIX.out _ MW.out.below).c5, (HSIX.out _ MW.out.below).c2⟩ | exact ⟨(HSIX.out _ MV.out.below).c5, (HSIX.out _ MV.out.below).c2⟩) ?_
                  rotate_left
                  · (intro w hSw; obtain ⟨z0, z1⟩ := hSw; go_simp <;> with_reducible rfl)
                  simp only [Act.put, List.setIfInBounds_toArray, List.set_cons_zero, List.set_cons_succ]
                  refine wpAnyH_take (i := 2) (oi := ⟨some 95, .move (.tmp 9), 3, "law.go:64", #[], none⟩) (v := ?_) rfl (by kernel_rfl) (by kernel_rfl) (by kernel_rfl) (fun _ _ _ h => h) (Or.inl ⟨by rfl, ?_⟩) (by first | exact ⟨(HSIX.out _ MW.out.below.drew).c5, (HSIX.out _ MW.out.below.drew).c2⟩ | exact ⟨(HSIX.out _ MW.out.below).c5, (HSIX.out _ MW.out.below).c2⟩ | exact ⟨(HSIX.out _ MV.out.below).c5, (HSIX.out _ MV.out.below).c2⟩) ?_
                  rotate_left
                  · (intro w hSw; obtain ⟨z0, z1⟩ := hSw; go_simp <;> with_reducible rfl)
                  simp only [Act.put, List.setIfInBounds_toArray, List.set_cons_zero, List.set_cons_succ]
                  refine wpAnyH_take (i := 3) (oi := ⟨some 96, .indexAddr 22 (.tmp 94) (.tmp 95), 0, "law.go:64", #[⟨1, .data⟩, ⟨2, .data⟩], none⟩) (v := ?_) rfl (by kernel_rfl) (by kernel_rfl) (by kernel_rfl) (fun _ _ _ h => h) (Or.inl ⟨by rfl, ?_⟩) (by first | exact ⟨(HSIX.out _ MW.out.below.drew).c5, (HSIX.out _ MW.out.below.drew).c2⟩ | exact ⟨(HSIX.out _ MW.out.below).c5, (HSIX.out _ MW.out.below).c2⟩ | exact ⟨(HSIX.out _ MV.out.below).c5, (HSIX.out _ MV.out.below).c2⟩) ?_
                  rotate_left
                  · (intro w hSw; obtain ⟨z0, z1⟩ := hSw; go_simp <;> with_reducible rfl)
                  simp only [Act.put, List.setIfInBounds_toArray, List.set_cons_zero, List.set_cons_succ]
                  refine wpAnyH_take (i := 4) (oi := ⟨some 97, .fieldAddr 34 (.tmp 96) 5, 0, "law.go:64", #[⟨3, .data⟩], none⟩) (v := ?_) rfl (by kernel_rfl) (by kernel_rfl) (by kernel_rfl) (fun _ _ _ h => h) (Or.inl ⟨by rfl, ?_⟩) (by first | exact ⟨(HSIX.out _ MW.out.below.drew).c5, (HSIX.out _ MW.out.below.drew).c2⟩ | exact ⟨(HSIX.out _ MW.out.below).c5, (HSIX.out _ MW.out.below).c2⟩ | exact ⟨(HSIX.out _ MV.out.below).c5, (HSIX.out _ MV.out.below).c2⟩) ?_
                  rotate_left
                  · (intro w hSw; obtain ⟨z0, z1⟩ := hSw; go_simp <;> with_reducible rfl)
                  simp only [Act.put, List.setIfInBounds_toArray, List.set_cons_zero, List.set_cons_succ]
                  refine wpAnyH_take (i := 5) (oi := ⟨some 98, .load 32 (.tmp 97), 32, "law.go:64", #[⟨4, .data⟩], none⟩) (v := ?_) rfl (by kernel_rfl) (by kernel_rfl) (by kernel_rfl) (fun _ _ _ h => h) (Or.inl ⟨by rfl, ?_⟩) (by first | exact ⟨(HSIX.out _ MW.out.below.drew).c5, (HSIX.out _ MW.out.below.drew).c2⟩ | exact ⟨(HSIX.out _ MW.out.below).c5, (HSIX.out _ MW.out.below).c2⟩ | exact ⟨(HSIX.out _ MV.out.below).c5, (HSIX.out _ MV.out.below).c2⟩) ?_
                  rotate_left
                  · (intro w hSw; obtain ⟨z0, z1⟩ := hSw; go_simp <;> with_reducible rfl)
                  simp only [Act.put, List.setIfInBounds_toArray, List.set_cons_zero, List.set_cons_succ]
                  refine wpAnyH_take (i := 6) (oi := ⟨some 99, .move (.tmp 1), 22, "law.go:64", #[], none⟩) (v := ?_) rfl (by kernel_rfl) (by kernel_rfl) (by kernel_rfl) (fun _ _ _ h => h) (Or.inl ⟨by rfl, ?_⟩) (by first | exact ⟨(HSIX.out _ MW.out.below.drew).c5, (HSIX.out _ MW.out.below.drew).c2⟩ | exact ⟨(HSIX.out _ MW.out.below).c5, (HSIX.out _ MW.out.below).c2⟩ | exact ⟨(HSIX.out _ MV.out.below).c5, (HSIX.out _ MV.out.below).c2⟩) ?_
                  rotate_left
                  · (intro w hSw; obtain ⟨z0, z1⟩ := hSw; go_simp <;> with_reducible rfl)
                  simp only [Act.put, List.setIfInBounds_toArray, List.set_cons_zero, List.set_cons_succ]
                  refine wpAnyH_take (i := 7) (oi := ⟨some 100, .move (.tmp 9), 3, "law.go:64", #[], none⟩) (v := ?_) rfl (by kernel_rfl) (by kernel_rfl) (by kernel_rfl) (fun _ _ _ h => h) (Or.inl ⟨by rfl, ?_⟩) (by first | exact ⟨(HSIX.out _ MW.out.below.drew).c5, (HSIX.out _ MW.out.below.drew).c2⟩ | exact ⟨(HSIX.out _ MW.out.below).c5, (HSIX.out _ MW.out.below).c2⟩ | exact ⟨(HSIX.out _ MV.out.below).c5, (HSIX.out _ MV.out.below).c2⟩) ?_
                  rotate_left
                  · (intro w hSw; obtain ⟨z0, z1⟩ := hSw; go_simp <;> with_reducible rfl)
                  simp only [Act.put, List.setIfInBounds_toArray, List.set_cons_zero, List.set_cons_succ]
                  refine wpAnyH_take (i := 8) (oi := ⟨some 101, .indexAddr 22 (.tmp 99) (.tmp 100), 0, "law.go:64", #[⟨6, .data⟩, ⟨7, .data⟩], none⟩) (v := ?_) rfl (by kernel_rfl) (by kernel_rfl) (by kernel_rfl) (fun _ _ _ h => h) (Or.inl ⟨by rfl, ?_⟩) (by first | exact ⟨(HSIX.out _ MW.out.below.drew).c5, (HSIX.out _ MW.out.below.drew).c2⟩ | exact ⟨(HSIX.out _ MW.out.below).c5, (HSIX.out _ MW.out.below).c2⟩ | exact ⟨(HSIX.out _ MV.out.below).c5, (HSIX.out _ MV.out.below).c2⟩) ?_
                  rotate_left
                  · (intro w hSw; obtain ⟨z0, z1⟩ := hSw; go_simp <;> with_reducible rfl)
                  simp only [Act.put, List.setIfInBounds_toArray, List.set_cons_zero, List.set_cons_succ]
                  refine wpAnyH_take (i := 9) (oi := ⟨some 102, .fieldAddr 34 (.tmp 101) 2, 0, "law.go:64", #[⟨8, .data⟩], none⟩) (v := ?_) rfl (by kernel_rfl) (by kernel_rfl) (by kernel_rfl) (fun _ _ _ h => h) (Or.inl ⟨by rfl, ?_⟩) (by first | exact ⟨(HSIX.out _ MW.out.below.drew).c5, (HSIX.out _ MW.out.below.drew).c2⟩ | exact ⟨(HSIX.out _ MW.out.below).c5, (HSIX.out _ MW.out.below).c2⟩ | exact ⟨(HSIX.out _ MV.out.below).c5, (HSIX.out _ MV.out.below).c2⟩) ?_
                  rotate_left
                  · (intro w hSw; obtain ⟨z0, z1⟩ := hSw; go_simp <;> with_reducible rfl)
                  simp only [Act.put, List.setIfInBounds_toArray, List.set_cons_zero, List.set_cons_succ]
                  refine wpAnyH_take (i := 10) (oi := ⟨some 103, .load 3 (.tmp 102), 3, "law.go:64", #[⟨9, .data⟩], none⟩) (v := ?_) rfl (by kernel_rfl) (by kernel_rfl) (by kernel_rfl) (fun _ _ _ h => h) (Or.inl ⟨by rfl, ?_⟩) (by first | exact ⟨(HSIX.out _ MW.out.below.drew).c5, (HSIX.out _ MW.out.below.drew).c2⟩ | exact ⟨(HSIX.out _ MW.out.below).c5, (HSIX.out _ MW.out.below).c2⟩ | exact ⟨(HSIX.out _ MV.out.below).c5, (HSIX.out _ MV.out.below).c2⟩) ?_
                  rotate_left
                  · (intro w hSw; obtain ⟨z0, z1⟩ := hSw; go_simp <;> with_reducible rfl)
                  simp only [Act.put, List.setIfInBounds_toArray, List.set_cons_zero, List.set_cons_succ]
                  refine wpAnyH_ready (rs := [11]) (by kernel_rfl) (by simp) ?_
                  refine AllReadyH.cons (o := ⟨some 104, .call { callee := Go.Callee.value (.func 22), args := #[Go.Operand.tmp 93, Go.Operand.tmp 98, Go.Operand.tmp 103], argTypes := #[27, 32, 3] }, 0, "law.go:64", #[⟨0, .data⟩, ⟨5, .data⟩, ⟨10, .data⟩], none⟩) rfl (fun K hK => ?_) AllReadyH.nil
                  go_simp
                  refine (HW2.out _ MW.out.drew).mono ?_
                  rintro e w5 ⟨rfl, h5⟩
                  have MV := Lib.hid h5
                  clear h5
                  go_wp2_with fail
                  refine hK.out _ _ (by first | exact ⟨(HSIX.out _ MW.out.below.drew).c5, (HSIX.out _ MW.out.below.drew).c2⟩ | exact ⟨(HSIX.out _ MW.out.below).c5, (HSIX.out _ MW.out.below).c2⟩ | exact ⟨(HSIX.out _ MV.out.below).c5, (HSIX.out _ MV.out.below).c2⟩) (fun hHeld => ?_)
                  clear hK K hHeld
                  try simp only [Act.put, List.setIfInBounds_toArray, List.set_cons_zero, List.set_cons_succ]
                  refine wpAnyH_done (by kernel_rfl) ?_ _
                  go_wp2_with fail
                  have HE0 := Lib.hid (show Mix w _ d c N s1 s1 from MV.out)
                  have HQ1 := Lib.hid (show s1.Q.length ≤ k + 1 from HFEW.out)
                  have HQM := Lib.hid (show s1.Q.length ≤ 1000000 by have := HQ1.out; have := HK40.out; omega)
                  obtain ⟨q, hqd⟩ : ∃ q, q = s1.dead := ⟨_, rfl⟩
                  have hli := fun w' (h : Mix w w' d c N s1 s1) => mix_live h
                  have hc3 := fun w' (h : Mix w w' d c N s1 s1) => h.c3
                  rw [← hqd] at hli hc3
                  have HLI := Lib.hid hli
                  have HC3 := Lib.hid hc3
                  clear hqd hli hc3
                  refine wp_region_held_drew (S := (fun w' => w'.cell? ⟨c, 3, none⟩ = some (.bool q))) (by kernel_rfl) (by first | exact HC3.out _ HE0.out.drew | exact HC3.out _ HE0.out | exact HC3.out _ HEN.out) (fun hHeld => ?_)
                  clear hHeld
                  refine wpAnyH_take (i := 0) (oi := ⟨some 201, .move (.tmp 11), 4, "law.go:66", #[], none⟩) (v := ?_) rfl (by kernel_rfl) (by kernel_rfl) (by kernel_rfl) (fun _ _ _ h => h) (Or.inl ⟨by rfl, ?_⟩) (by first | exact HC3.out _ HE0.out.drew | exact HC3.out _ HE0.out | exact HC3.out _ HEN.out) ?_
                  rotate_left
                  · (intro w hSw; obtain z0 := hSw; go_simp <;> with_reducible rfl)
                  simp only [Act.put, List.setIfInBounds_toArray, List.set_cons_zero, List.set_cons_succ]
                  refine wpAnyH_take (i := 1) (oi := ⟨some 202, .unOp Go.UnOp.not 4 (.tmp 201), 4, "law.go:66", #[⟨0, .data⟩], none⟩) (v := ?_) rfl (by kernel_rfl) (by kernel_rfl) (by kernel_rfl) (fun _ _ _ h => h) (Or.inl ⟨by rfl, ?_⟩) (by first | exact HC3.out _ HE0.out.drew | exact HC3.out _ HE0.out | exact HC3.out _ HEN.out) ?_
                  rotate_left
                  · (intro w hSw; obtain z0 := hSw; go_simp <;> with_reducible rfl)
                  simp only [Act.put, List.setIfInBounds_toArray, List.set_cons_zero, List.set_cons_succ]
                  refine wpAnyH_take (i := 2) (oi := ⟨some 203, .move (.tmp 202), 4, "law.go:66", #[⟨1, .data⟩], none⟩) (v := ?_) rfl (by kernel_rfl) (by kernel_rfl) (by kernel_rfl) (fun _ _ _ h => h) (Or.inl ⟨by rfl, ?_⟩) (by first | exact HC3.out _ HE0.out.drew | exact HC3.out _ HE0.out | exact HC3.out _ HEN.out) ?_
                  rotate_left
                  · (intro w hSw; obtain z0 := hSw; go_simp <;> with_reducible rfl)
                  simp only [Act.put, List.setIfInBounds_toArray, List.set_cons_zero, List.set_cons_succ]
                  refine wpAnyH_take (i := 3) (oi := { dst := some 204, op := .move (.tmp 5), type := 23, pos := "law.go:66", after := #[⟨2, .guard⟩], guard := some (2, false) }) (v := ?_) rfl (by kernel_rfl) (by kernel_rfl) (by kernel_rfl) (fun _ _ _ h => h) (Or.inl ⟨by rfl, ?_⟩) (by first | exact HC3.out _ HE0.out.drew | exact HC3.out _ HE0.out | exact HC3.out _ HEN.out) ?_
                  rotate_left
                  · (intro w hSw; obtain z0 := hSw; go_simp <;> with_reducible rfl)
                  simp only [Act.put, List.setIfInBounds_toArray, List.set_cons_zero, List.set_cons_succ]
                  refine wpAnyH_take (i := 5) (oi := { dst := some 206, op := .move (.tmp 0), type := 3, pos := "law.go:66", after := #[⟨2, .guard⟩], guard := some (2, false) }) (v := ?_) rfl (by kernel_rfl) (by kernel_rfl) (by kernel_rfl) (fun _ _ _ h => h) (Or.inl ⟨by rfl, ?_⟩) (by first | exact HC3.out _ HE0.out.drew | exact HC3.out _ HE0.out | exact HC3.out _ HEN.out) ?_
                  rotate_left
                  · (intro w hSw; obtain z0 := hSw; go_simp <;> with_reducible rfl)
                  simp only [Act.put, List.setIfInBounds_toArray, List.set_cons_zero, List.set_cons_succ]
                  refine wpAnyH_ready (rs := [4]) (by kernel_rfl) (by simp) ?_
                  refine AllReadyH.cons (o := { dst := some 205, op := .call { callee := Go.Callee.value (.func 23), args := #[Go.Operand.tmp 204], argTypes := #[23] }, type := 3, pos := "law.go:66", after := #[⟨3, .data⟩, ⟨2, .chain⟩, ⟨2, .guard⟩], guard := some (2, false) }) rfl (fun K hK => ?_) AllReadyH.nil
                  go_simp
                  refine (mix_size (s := s1) (t := s1) HE0.out.drew).mono ?_
                  rintro e wz ⟨rfl, rfl⟩
                  go_wp2_with fail
                  refine hK.out _ _ (by first | exact HC3.out _ HE0.out.drew | exact HC3.out _ HE0.out | exact HC3.out _ HEN.out) (fun hHeld => ?_)
                  clear hK K hHeld
                  try simp only [Act.put, List.setIfInBounds_toArray, List.set_cons_zero, List.set_cons_succ]
                  refine wpAnyH_take (i := 6) (oi := { dst := some 207, op := .binOp Go.BinOp.neq 3 (.tmp 205) (.tmp 206) 3, type := 4, pos := "law.go:66", after := #[⟨4, .data⟩, ⟨5, .data⟩, ⟨2, .guard⟩], guard := some (2, false) }) (v := ?_) rfl (by kernel_rfl) (by kernel_rfl) (by kernel_rfl) (fun _ _ _ h => h) (Or.inl ⟨by rfl, ?_⟩) (by first | exact HC3.out _ HE0.out.drew | exact HC3.out _ HE0.out | exact HC3.out _ HEN.out) ?_
                  rotate_left
                  · (intro w hSw; obtain z0 := hSw; go_simp <;> with_reducible rfl)
                  simp only [Act.put, List.setIfInBounds_toArray, List.set_cons_zero, List.set_cons_succ]
                  refine wpAnyH_take (i := 7) (oi := ⟨some 208, .pick (.tmp 203) (.const (Go.Value.bool true)) (.tmp 207), 4, "law.go:66", #[⟨2, .data⟩, ⟨6, .data⟩], none⟩) (v := ?_) rfl (by kernel_rfl) (by kernel_rfl) (by kernel_rfl) (fun _ _ _ h => h) (Or.inl ⟨by rfl, ?_⟩) (by first | exact HC3.out _ HE0.out.drew | exact HC3.out _ HE0.out | exact HC3.out _ HEN.out) ?_
                  rotate_left
                  · (intro w hSw; obtain z0 := hSw; go_simp <;> with_reducible rfl)
                  simp only [Act.put, List.setIfInBounds_toArray, List.set_cons_zero, List.set_cons_succ]
                  refine wpAnyH_take (i := 8) (oi := ⟨some 209, .move (.tmp 208), 4, "law.go:66", #[⟨7, .data⟩, ⟨4, .chain⟩], none⟩) (v := ?_) rfl (by kernel_rfl) (by kernel_rfl) (by kernel_rfl) (fun _ _ _ h => h) (Or.inl ⟨by rfl, ?_⟩) (by first | exact HC3.out _ HE0.out.drew | exact HC3.out _ HE0.out | exact HC3.out _ HEN.out) ?_
                  rotate_left
                  · (intro w hSw; obtain z0 := hSw; go_simp <;> with_reducible rfl)
                  simp only [Act.put, List.setIfInBounds_toArray, List.set_cons_zero, List.set_cons_succ]
                  refine wpAnyH_take (i := 9) (oi := { dst := some 210, op := .move (.tmp 5), type := 23, pos := "law.go:66", after := #[⟨8, .guard⟩], guard := some (8, false) }) (v := ?_) rfl (by kernel_rfl) (by kernel_rfl) (by kernel_rfl) (fun _ _ _ h => h) (Or.inl ⟨by rfl, ?_⟩) (by first | exact HC3.out _ HE0.out.drew | exact HC3.out _ HE0.out | exact HC3.out _ HEN.out) ?_
                  rotate_left
                  · (intro w hSw; obtain z0 := hSw; go_simp <;> with_reducible rfl)
                  simp only [Act.put, List.setIfInBounds_toArray, List.set_cons_zero, List.set_cons_succ]
                  refine wpAnyH_take (i := 11) (oi := { dst := some 212, op := .move (.tmp 7), type := 27, pos := "law.go:66", after := #[⟨8, .guard⟩], guard := some (8, false) }) (v := ?_) rfl (by kernel_rfl) (by kernel_rfl) (by kernel_rfl) (fun _ _ _ h => h) (Or.inl ⟨by rfl, ?_⟩) (by first | exact HC3.out _ HE0.out.drew | exact HC3.out _ HE0.out | exact HC3.out _ HEN.out) ?_
                  rotate_left
                  · (intro w hSw; obtain z0 := hSw; go_simp <;> with_reducible rfl)
                  simp only [Act.put, List.setIfInBounds_toArray, List.set_cons_zero, List.set_cons_succ]
                  refine wpAnyH_take (i := 12) (oi := { dst := some 213, op := .nilCheck (.tmp 212), type := 0, pos := "law.go:66", after := #[⟨11, .data⟩, ⟨8, .guard⟩], guard := some (8, false) }) (v := ?_) rfl (by kernel_rfl) (by kernel_rfl) (by kernel_rfl) (fun _ _ _ h => h) (Or.inl ⟨by rfl, ?_⟩) (by first | exact HC3.out _ HE0.out.drew | exact HC3.out _ HE0.out | exact HC3.out _ HEN.out) ?_
                  rotate_left
                  · (intro w hSw; obtain z0 := hSw; go_simp <;> with_reducible rfl)
                  simp only [Act.put, List.setIfInBounds_toArray, List.set_cons_zero, List.set_cons_succ]
                  refine wpAnyH_take (i := 13) (oi := { dst := some 214, op := .fieldAddr 52 (.tmp 213) 3, type := 0, pos := "law.go:66", after := #[⟨12, .data⟩, ⟨8, .guard⟩], guard := some (8, false) }) (v := ?_) rfl (by kernel_rfl) (by kernel_rfl) (by kernel_rfl) (fun _ _ _ h => h) (Or.inl ⟨by rfl, ?_⟩) (by first | exact HC3.out _ HE0.out.drew | exact HC3.out _ HE0.out | exact HC3.out _ HEN.out) ?_
                  rotate_left
                  · (intro w hSw; obtain z0 := hSw; go_simp <;> with_reducible rfl)
                  simp only [Act.put, List.setIfInBounds_toArray, List.set_cons_zero, List.set_cons_succ]
                  refine wpAnyH_take (i := 14) (oi := { dst := some 215, op := .load 4 (.tmp 214), type := 4, pos := "law.go:66", after := #[⟨13, .data⟩, ⟨8, .guard⟩], guard := some (8, false) }) (v := ?_) rfl (by kernel_rfl) (by kernel_rfl) (by kernel_rfl) (fun _ _ _ h => h) (Or.inl ⟨by rfl, ?_⟩) (by first | exact HC3.out _ HE0.out.drew | exact HC3.out _ HE0.out | exact HC3.out _ HEN.out) ?_
                  rotate_left
                  · (intro w hSw; obtain z0 := hSw; go_simp <;> with_reducible rfl)
                  simp only [Act.put, List.setIfInBounds_toArray, List.set_cons_zero, List.set_cons_succ]
                  refine wpAnyH_take (i := 15) (oi := { dst := some 216, op := .unOp Go.UnOp.not 4 (.tmp 215), type := 4, pos := "law.go:66", after := #[⟨14, .data⟩, ⟨8, .guard⟩], guard := some (8, false) }) (v := ?_) rfl (by kernel_rfl) (by kernel_rfl) (by kernel_rfl) (fun _ _ _ h => h) (Or.inl ⟨by rfl, ?_⟩) (by first | exact HC3.out _ HE0.out.drew | exact HC3.out _ HE0.out | exact HC3.out _ HEN.out) ?_
                  rotate_left
                  · (intro w hSw; obtain z0 := hSw; go_simp <;> with_reducible rfl)
                  simp only [Act.put, List.setIfInBounds_toArray, List.set_cons_zero, List.set_cons_succ]
                  refine wpAnyH_ready (rs := [10]) (by kernel_rfl) (by simp) ?_
                  refine AllReadyH.cons (o := { dst := some 211, op := .call { callee := Go.Callee.value (.func 24), args := #[Go.Operand.tmp 210], argTypes := #[23] }, type := 4, pos := "law.go:66", after := #[⟨9, .data⟩, ⟨8, .chain⟩, ⟨8, .guard⟩], guard := some (8, false) }) rfl (fun K hK => ?_) AllReadyH.nil
                  go_simp
                  refine (HLI.out _ HE0.out.drew).mono ?_
                  rintro e wz ⟨rfl, rfl⟩
                  go_wp2_with fail
                  refine hK.out _ _ (by first | exact HC3.out _ HE0.out.drew | exact HC3.out _ HE0.out | exact HC3.out _ HEN.out) (fun hHeld => ?_)
                  clear hK K hHeld
                  try simp only [Act.put, List.setIfInBounds_toArray, List.set_cons_zero, List.set_cons_succ]
                  refine wpAnyH_take (i := 16) (oi := { dst := some 217, op := .binOp Go.BinOp.neq 4 (.tmp 211) (.tmp 216) 4, type := 4, pos := "law.go:66", after := #[⟨10, .data⟩, ⟨15, .data⟩, ⟨8, .guard⟩], guard := some (8, false) }) (v := ?_) rfl (by kernel_rfl) (by kernel_rfl) (by kernel_rfl) (fun _ _ _ h => h) (Or.inl ⟨by rfl, ?_⟩) (by first | exact HC3.out _ HE0.out.drew | exact HC3.out _ HE0.out | exact HC3.out _ HEN.out) ?_
                  rotate_left
                  · (intro w hSw; obtain z0 := hSw; go_simp <;> with_reducible rfl)
                  simp only [Act.put, List.setIfInBounds_toArray, List.set_cons_zero, List.set_cons_succ]
                  refine wpAnyH_take (i := 17) (oi := ⟨some 218, .pick (.tmp 209) (.const (Go.Value.bool true)) (.tmp 217), 4, "law.go:66", #[⟨8, .data⟩, ⟨16, .data⟩], none⟩) (v := ?_) rfl (by kernel_rfl) (by kernel_rfl) (by kernel_rfl) (fun _ _ _ h => h) (Or.inl ⟨by rfl, ?_⟩) (by first | exact HC3.out _ HE0.out.drew | exact HC3.out _ HE0.out | exact HC3.out _ HEN.out) ?_
                  rotate_left
                  · (intro w hSw; obtain z0 := hSw; go_simp <;> with_reducible rfl)
                  simp only [Act.put, List.setIfInBounds_toArray, List.set_cons_zero, List.set_cons_succ]
                  refine wpAnyH_take (i := 18) (oi := ⟨some 219, .move (.tmp 218), 4, "law.go:66", #[⟨17, .data⟩, ⟨10, .chain⟩], none⟩) (v := ?_) rfl (by kernel_rfl) (by kernel_rfl) (by kernel_rfl) (fun _ _ _ h => h) (Or.inl ⟨by rfl, ?_⟩) (by first | exact HC3.out _ HE0.out.drew | exact HC3.out _ HE0.out | exact HC3.out _ HEN.out) ?_
                  rotate_left
                  · (intro w hSw; obtain z0 := hSw; go_simp <;> with_reducible rfl)
                  simp only [Act.put, List.setIfInBounds_toArray, List.set_cons_zero, List.set_cons_succ]
                  refine wpAnyH_take (i := 19) (oi := { dst := some 220, op := .move (.tmp 5), type := 23, pos := "law.go:66", after := #[⟨18, .guard⟩], guard := some (18, false) }) (v := ?_) rfl (by kernel_rfl) (by kernel_rfl) (by kernel_rfl) (fun _ _ _ h => h) (Or.inl ⟨by rfl, ?_⟩) (by first | exact HC3.out _ HE0.out.drew | exact HC3.out _ HE0.out | exact HC3.out _ HEN.out) ?_
                  rotate_left
                  · (intro w hSw; obtain z0 := hSw; go_simp <;> with_reducible rfl)
                  simp only [Act.put, List.setIfInBounds_toArray, List.set_cons_zero, List.set_cons_succ]
                  refine wpAnyH_take (i := 20) (oi := { dst := some 221, op := .move (.tmp 7), type := 27, pos := "law.go:66", after := #[⟨18, .guard⟩], guard := some (18, false) }) (v := ?_) rfl (by kernel_rfl) (by kernel_rfl) (by kernel_rfl) (fun _ _ _ h => h) (Or.inl ⟨by rfl, ?_⟩) (by first | exact HC3.out _ HE0.out.drew | exact HC3.out _ HE0.out | exact HC3.out _ HEN.out) ?_
                  rotate_left
                  · (intro w hSw; obtain z0 := hSw; go_simp <;> with_reducible rfl)
                  simp only [Act.put, List.setIfInBounds_toArray, List.set_cons_zero, List.set_cons_succ]
                  refine wpAnyH_ready (rs := [21]) (by kernel_rfl) (by simp) ?_
                  refine AllReadyH.cons (o := { dst := some 222, op := .call { callee := Go.Callee.value (.func 25), args := #[Go.Operand.tmp 220, Go.Operand.tmp 221], argTypes := #[23, 27] }, type := 4, pos := "law.go:66", after := #[⟨19, .data⟩, ⟨20, .data⟩, ⟨18, .chain⟩, ⟨18, .guard⟩], guard := some (18, false) }) rfl (fun K hK => ?_) AllReadyH.nil
                  go_simp
                  refine (mix_alike HE0.out.drew HQM.out (Nat.le_trans HN6.out (by decide))).mono ?_
                  rintro e wz ⟨rfl, hen⟩
                  have HEN := Lib.hid hen
                  clear hen
                  go_wp2_with fail
                  refine hK.out _ _ (by first | exact HC3.out _ HE0.out.drew | exact HC3.out _ HE0.out | exact HC3.out _ HEN.out) (fun hHeld => ?_)
                  clear hK K hHeld
                  try simp only [Act.put, List.setIfInBounds_toArray, List.set_cons_zero, List.set_cons_succ]
                  refine wpAnyH_take (i := 22) (oi := { dst := some 223, op := .unOp Go.UnOp.not 4 (.tmp 222), type := 4, pos := "law.go:66", after := #[⟨21, .data⟩, ⟨18, .guard⟩], guard := some (18, false) }) (v := ?_) rfl (by kernel_rfl) (by kernel_rfl) (by kernel_rfl) (fun _ _ _ h => h) (Or.inl ⟨by rfl, ?_⟩) (by first | exact HC3.out _ HE0.out.drew | exact HC3.out _ HE0.out | exact HC3.out _ HEN.out) ?_
                  rotate_left
                  · (intro w hSw; obtain z0 := hSw; go_simp <;> with_reducible rfl)
                  simp only [Act.put, List.setIfInBounds_toArray, List.set_cons_zero, List.set_cons_succ]
                  refine wpAnyH_take (i := 23) (oi := ⟨some 224, .pick (.tmp 219) (.const (Go.Value.bool true)) (.tmp 223), 4, "law.go:66", #[⟨18, .data⟩, ⟨22, .data⟩], none⟩) (v := ?_) rfl (by kernel_rfl) (by kernel_rfl) (by kernel_rfl) (fun _ _ _ h => h) (Or.inl ⟨by rfl, ?_⟩) (by first | exact HC3.out _ HE0.out.drew | exact HC3.out _ HE0.out | exact HC3.out _ HEN.out) ?_
                  rotate_left
                  · (intro w hSw; obtain z0 := hSw; go_simp <;> with_reducible rfl)
                  simp only [Act.put, List.setIfInBounds_toArray, List.set_cons_zero, List.set_cons_succ]
                  refine wpAnyH_done (by kernel_rfl) ?_ _
                  go_wp2
                  have hk40 := HK40.out
                  exact ⟨⟨k + 1, s1, by simp, by omega, HQ1.out, HEN.out⟩, by simp [intOf]; omega⟩
      · have HEND := Lib.hid HX.out.below
        rcases Nat.lt_or_ge k m with h1 | h1
        · have h2 : k = 40 := by omega
          subst h2
          have h3 : ((40 : Nat) : Int) < (m : Int) := by omega
          clear hgo h1
          go_wp2_with (first
            | (go_at_call 26; refine (lives_any _).mono ?_; rintro e w1 ⟨rfl, h1⟩; have HL := Lib.hid h1; clear h1)
            | fail)
          go_ret
          exact ⟨rfl, HEND.out.trans ⟨HL.out.os, HL.out.tape, HL.out.output, HL.out.size, fun j hj => HL.out.block j (Nat.lt_of_lt_of_le hj HEND.out.size)⟩⟩
        · have h3 : (m : Int) ≤ (k : Int) := by omega
          clear hgo h1
          go_wp2_with (first
            | (go_at_call 26; refine (lives_any _).mono ?_; rintro e w1 ⟨rfl, h1⟩; have HL := Lib.hid h1; clear h1)
            | fail)
          go_ret
          exact ⟨rfl, HEND.out.trans ⟨HL.out.os, HL.out.tape, HL.out.output, HL.out.size, fun j hj => HL.out.block j (Nat.lt_of_lt_of_le hj HEND.out.size)⟩⟩
end Go.Proofs.Ytickabjhapghbaa
