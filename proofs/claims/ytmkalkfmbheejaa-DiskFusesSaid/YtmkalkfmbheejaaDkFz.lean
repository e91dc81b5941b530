/- DiskFuses. -/
import Derived.Test.YtmkalkfmbheejaaDkP
import Derived.Test.YtmkalkfmbheejaaDkQ
namespace Go.Proofs.Ytmkalkfmbheejaa
open Go.RowKit

/-- a step that was done, N more are left -/
structure Went (s : DS) (N : Nat) (r : DS × Int) : Prop where
  code : r.2 = 0
  fuse : r.1.fuse = some N
  dead : r.1.dead = s.dead
  few : r.1.Q.length ≤ s.Q.length + 1
/-- a step for which there was no power -/
structure Off (s : DS) (r : DS × Int) : Prop where
  code : r.2 = 7
  L : r.1.L = s.L
  Q : r.1.Q = s.Q
  fuse : r.1.fuse = some 0
  dead : r.1.dead = true
theorem stepS_some {s : DS} {N : Nat} (h : s.fuse = some (N + 1)) : stepS s = ({ s with fuse := some N }, true) := by unfold stepS; rw [h]
theorem stepS_zero {s : DS} (h : s.fuse = some 0) : stepS s = ({ s with dead := true }, false) := by unfold stepS; rw [h]
theorem went_flush {s : DS} {N : Nat} (h : s.fuse = some (N + 1)) : Went s N (flushS s) := by
  unfold flushS
  rw [stepS_some h]
  exact ⟨rfl, rfl, rfl, Nat.zero_le _⟩
theorem off_flush {s : DS} (h : s.fuse = some 0) : Off s (flushS s) := by
  unfold flushS
  rw [stepS_zero h]
  exact ⟨rfl, rfl, rfl, h, rfl⟩
theorem went_write {s : DS} {N : Nat} (h : s.fuse = some (N + 1)) (hl : s.L.length = 6) {y : Int} (hy : 0 ≤ y) (hy5 : y ≤ 5) {b : List Nat} (hb : b.length = 128) : Went s N (writeS s y b) := by
  unfold writeS
  rw [if_neg (by omega), stepS_some h]
  exact ⟨rfl, rfl, rfl, by simp⟩
theorem off_write {s : DS} (h : s.fuse = some 0) (hl : s.L.length = 6) {y : Int} (hy : 0 ≤ y) (hy5 : y ≤ 5) {b : List Nat} (hb : b.length = 128) : Off s (writeS s y b) := by
  unfold writeS
  rw [if_neg (by omega), stepS_zero h]
  exact ⟨rfl, rfl, rfl, h, rfl⟩

def FzSt (N i : Nat) (s : DS) : Prop := s.Q.length ≤ 30 + i ∧ ((i ≤ N ∧ s.fuse = some (N - i) ∧ s.dead = false) ∨ (N < i ∧ s.fuse = some 0 ∧ s.dead = true))
theorem FzSt.went {N i : Nat} {s s' : DS} (h : FzSt N i s) (hi : i < N) (hf : s'.fuse = some (N - (i + 1))) (hd : s'.dead = s.dead) (hq : s'.Q.length ≤ s.Q.length + 1) : FzSt N (i + 1) s' := by
  obtain ⟨h1, h2⟩ := h
  refine ⟨by omega, .inl ⟨by omega, hf, ?_⟩⟩
  rcases h2 with h2 | h2
  · exact hd.trans h2.2.2
  · omega
theorem FzSt.off {N i : Nat} {s s' : DS} (h : FzSt N i s) (hi : N ≤ i) (hf : s'.fuse = some 0) (hd : s'.dead = true) (hq : s'.Q = s.Q) : FzSt N (i + 1) s' := ⟨by rw [hq]; have := h.1; omega, .inr ⟨by omega, hf, hd⟩⟩
theorem FzSt.on_ {N i : Nat} {s : DS} (h : FzSt N i s) (hi : i < N) : s.fuse = some (N - (i + 1) + 1) := by
  rcases h.2 with h2 | h2
  · rw [h2.2.1]; congr 1; omega
  · omega
theorem FzSt.out_ {N i : Nat} {s : DS} (h : FzSt N i s) (hi : N ≤ i) : s.fuse = some 0 := by
  rcases h.2 with h2 | h2
  · rw [h2.2.1]; congr 1; omega
  · exact h2.2.1

def FzRel (w : World) (d N : Nat) (t : Value) (wr : World) : Prop :=
  ∃ k F s, t = .int .i64 ((k : Nat) : Int) ∧ k ≤ 25 ∧ Dk wr F d 6 s ∧ FzSt N k s ∧ Adv Nul w F wr
def InRel (w0 : World) (t : Value) (wr : World) : Prop := ∃ j, t = .int .i64 ((j : Nat) : Int) ∧ j ≤ 6 ∧ ∃ nd, wr = w0.drewN nd

set_option maxRecDepth 4000 in
set_option maxHeartbeats 6400000 in
theorem fuses_walk (w : World) (v1 : Value) (h1 : ∃ ds, DkDosIn w v1 ds) (v2 : Value) (h2 : ∃ ds, DkDosIn w v2 ds) (n : Int) (_ : (Lit.int .i64 n).wf = true) :
    Calls Try.prog 5 #[v1, v2, .int .i64 n] w fun e w' => e = .returned (.bool true) ∧ Below w.heap.size w w' := by
  obtain ⟨d1, h1⟩ := h1
  obtain ⟨ds, h2⟩ := h2
  obtain ⟨A, c, rfl, _, hcm⟩ := h2.rd.form
  unfold maxLen at hcm
  have HD1 := Lib.hid h1
  have HD := Lib.hid h2
  obtain ⟨m, hm⟩ : ∃ m, m = ds.length := ⟨_, rfl⟩
  have HM := Lib.hid hm
  rw [← hm]
  clear h1 h2 hm
  go_enter Try.func5, Try.ntmps5
  go_wp2_with (first
    | (go_at_call 27; refine (played_any _ _ _ HD1.out).mono ?_; rintro e w1 ⟨d, F, s, rfl, h1, f1, a1⟩; have H1 := Lib.hid h1; have FR1 := Lib.hid f1; have A1 := Lib.hid a1; clear h1 f1 a1)
    | (go_at_call 29; refine (within_any _ 0 20 _ (by decide)).mono ?_; rintro e w2 ⟨y, rfl, hy0, hy20, hyy, rfl⟩; clear hyy; obtain ⟨N, rfl⟩ := Int.eq_ofNat_of_zero_le hy0; have HN20 := Lib.hid hy20; clear hy0 hy20)
    | (go_at_call 19; have hfu : fuseS s (N : Int) = ({ s with fuse := some N }, 0) := by { unfold fuseS; rw [if_neg (by omega), FR1.out.dead]; simp }; refine (fuse_r d 6 F s (N : Int) _ H1.out (by have := HN20.out; omega)).mono ?_; rw [hfu]; rintro e w2 ⟨rfl, h2, a2⟩; obtain ⟨s2, hs2⟩ : ∃ s2, s2 = ({ s with fuse := some N } : DS) := ⟨_, rfl⟩; have hst : FzSt N 0 s2 := by { rw [hs2]; exact ⟨by have := FR1.out.few; simpa using this, .inl ⟨Nat.zero_le _, rfl, FR1.out.dead⟩⟩ }; have h2' : Dk w2 F d 6 s2 := by { rw [hs2]; exact h2 }; have H2 := Lib.hid h2'; have A2 := Lib.hid (A1.out.trans a2); have ST2 := Lib.hid hst; clear h2 h2' a2 hs2 hst hfu)
    | fail)
  go_loopw [8] (FzRel w d N) (fun t _ => 25 - (intOf t).toNat)
  case atStart => exact ⟨0, F, s2, rfl, by omega, H2.out, ST2.out, A2.out⟩
  case round =>
    obtain ⟨k, F1, s1, rfl, hk, hdk, hst, ha⟩ := hrel
    clear H1 FR1 A1 H2 A2 ST2
    have HDK := Lib.hid hdk
    have HST := Lib.hid hst
    have HA := Lib.hid ha
    have hq1 : s1.Q.length ≤ 1000 := by have := hst.1; omega
    have HQ1 := Lib.hid hq1
    clear hdk hst ha hq1
    by_cases hgo : k < m ∧ k < 25
    · obtain ⟨hkm, hk25⟩ := hgo
      have hlt : k < ds.length := by have := HM.out; omega
      obtain ⟨b, o, c', e, hb, g0, g1, g2, g3, g4, g5⟩ := HD.out.at_ hlt
      rw [← HM.out] at e
      injection e with e1 e2 e3
      subst e1
      subst e3
      clear g2 g4 g5 e2
      have hfit := HD.out.fit _ (List.getElem_mem hlt)
      obtain ⟨x, hx⟩ : ∃ x, x = ds[k] := ⟨_, rfl⟩
      rw [← hx] at g0 g1 g3 hfit
      have hbw : b < w.heap.size := hb
      have old : ∀ w' u j, w.cell? ⟨b, j, none⟩ = some u → Below w.heap.size w w' → w'.cell? ⟨b, j, none⟩ = some u := fun w' u j hu hB => (World.cell?_of_block (hB.block b hbw)).trans hu
      have hki : (k : Int) < (m : Int) := by omega
      have hki2 : (k : Int) < 25 := by omega
      have HC0 : Hid (∀ w', Below w.heap.size w w' → w'.cell? ⟨b, o + k * 6, none⟩ = some (.int .i64 x.kind)) := fun w' hB => old _ _ _ g0 hB
      have HC : Hid (∀ w', Below w.heap.size w w' → w'.cell? ⟨b, o + k * 6 + 1, none⟩ = some (.int .i64 x.a) ∧ w'.cell? ⟨b, o + k * 6 + 3, none⟩ = some x.bv) := fun w' hB => ⟨old _ _ _ g1 hB, old _ _ _ g3 hB⟩
      have HFIT := Lib.hid hfit
      have HK25 := Lib.hid hk25
      have hk2 : k + 1 ≤ 9223372036854775807 := by omega
      have HLEN := Lib.hid (HDK.out.len)
      clear g0 g1 g3 hfit hx hb old hlt hk hk25 hkm hbw
      by_cases hon : k < N
      · have HON := Lib.hid (HST.out.on_ hon)
        have hkn : (k : Int) < (N : Int) := by omega
        have HKN := Lib.hid hon
        clear hon
        by_cases q1 : x.kind = 1
        · have hkb : (x.kind == 1) = true := by simp [q1]
          have HW := Lib.hid (went_flush HON.out)
          clear q1
          go_wp2_with (first
            | (go_at_call 28; refine (sectors_any d F1 s1 _ HDK.out).mono ?_; rintro e w2 ⟨v2, G2, rfl, h2, a2⟩; have S2 := Lib.hid h2; have A2 := Lib.hid a2; clear h2 a2)
            | (go_at_call 31; refine (waits_dk d 6 F1 s1 _ (HDK.out.far A2.out (fun _ h _ => h)) (by have := HQ1.out; omega)).mono ?_; rintro e w3 ⟨z3, rfl, hs3, a3⟩; clear hs3; have A3 := Lib.hid (A2.out.over a3); have HB3 := Lib.hid ((HA.out.over A3.out).toBelow); have HDK3 := Lib.hid (HDK.out.far A3.out (fun _ h _ => h)); have k0 := HC0.out _ HB3.out; clear a3)
            | (go_at_call 14; refine (flush_dk d 6 F1 s1 _ HDK3.out).mono ?_; rw [HW.out.code]; rintro e w4 ⟨rfl, h4, a4⟩; obtain ⟨s4, hs4⟩ : ∃ s4, s4 = (flushS s1).1 := ⟨_, rfl⟩; rw [← hs4] at h4; have W4 := HW.out; have F4f := W4.fuse; have F4d := W4.dead; have F4q := W4.few; rw [← hs4] at F4f F4d F4q; have ST4 := Lib.hid (HST.out.went HKN.out F4f F4d F4q); clear F4f F4d F4q; have H4 := Lib.hid h4; have A4 := Lib.hid a4; clear h4 a4 hs4 W4)
            | (go_at_call 28; refine (sectors_any d _ s4 _ H4.out).mono ?_; rintro e w6 ⟨v6, G6, rfl, h6, a6⟩; have S6 := Lib.hid h6; have A6 := Lib.hid a6; clear h6 a6)
            | fail)
          go_loopw [13] (InRel w6) (fun t _ => 6 - (intOf t).toNat)
          case atStart => exact ⟨0, rfl, by omega, 0, rfl⟩
          case round =>
            obtain ⟨j, rfl, hj, nd, rfl⟩ := hrel
            by_cases hj6 : j < 6
            · have hji : (j : Int) < 6 := by omega
              clear hj hj6
              go_wp2_with fail
              have hk25 := HK25.out
              exact ⟨⟨k + 1, _, _, by simp, by omega, (H4.out.far A6.out (fun _ h _ => h)).drewN nd, ST4.out, ((((HA.out.over A3.out)).trans A4.out).over A6.out).drewN nd⟩, by simp [intOf]; omega⟩
            · have hji : (6 : Int) ≤ (j : Int) := by omega
              clear hj hj6
              go_wp2_with fail
              have hk25 := HK25.out
              exact ⟨⟨k + 1, _, _, by simp, by omega, (H4.out.far A6.out (fun _ h _ => h)).drewN nd, ST4.out, ((((HA.out.over A3.out)).trans A4.out).over A6.out).drewN nd⟩, by simp [intOf]; omega⟩
        · have hkb : (x.kind == 1) = false := by simp [q1]
          clear q1
          go_wp2_with (first
            | (go_at_call 28; refine (sectors_any d F1 s1 _ HDK.out).mono ?_; rintro e w2 ⟨v2, G2, rfl, h2, a2⟩; have S2 := Lib.hid h2; have A2 := Lib.hid a2; clear h2 a2)
            | (go_at_call 31; refine (waits_dk d 6 F1 s1 _ (HDK.out.far A2.out (fun _ h _ => h)) (by have := HQ1.out; omega)).mono ?_; rintro e w3 ⟨z3, rfl, hs3, a3⟩; clear hs3; have A3 := Lib.hid (A2.out.over a3); have HB3 := Lib.hid ((HA.out.over A3.out).toBelow); have HDK3 := Lib.hid (HDK.out.far A3.out (fun _ h _ => h)); have k0 := HC0.out _ HB3.out; clear a3)
            | fail)
          refine wp_region_held_drew (S := (fun w' => w'.cell? ⟨b, o + k * 6 + 1, none⟩ = some (.int .i64 x.a) ∧ w'.cell? ⟨b, o + k * 6 + 3, none⟩ = some x.bv)) (by kernel_rfl) (by first | exact HC.out _ HB3.out.drew | exact HC.out _ HB5.out | exact HC.out _ HB6.out) (fun hHeld => ?_)
          clear hHeld
          refine wpAnyH_take (i := 0) (oi := { dst := some 49, op := Go.Op.move (Go.Operand.tmp 7), type := 23, pos := "law.go:178", after := #[], guard := none }) (v := ?_) rfl (by kernel_rfl) (by kernel_rfl) (by kernel_rfl) (fun _ _ _ h => h) (Or.inl ⟨by rfl, ?_⟩) (by first | exact HC.out _ HB3.out.drew | exact HC.out _ HB5.out | exact HC.out _ HB6.out) ?_
          rotate_left
          · (intro w hSw; obtain ⟨s0, s1⟩ := hSw; go_simp <;> with_reducible rfl)
          simp only [Act.put, List.setIfInBounds_toArray, List.set_cons_zero, List.set_cons_succ]
          refine wpAnyH_take (i := 1) (oi := { dst := some 50, op := Go.Op.move (Go.Operand.tmp 1), type := 22, pos := "law.go:178", after := #[], guard := none }) (v := ?_) rfl (by kernel_rfl) (by kernel_rfl) (by kernel_rfl) (fun _ _ _ h => h) (Or.inl ⟨by rfl, ?_⟩) (by first | exact HC.out _ HB3.out.drew | exact HC.out _ HB5.out | exact HC.out _ HB6.out) ?_
          rotate_left
          · (intro w hSw; obtain ⟨s0, s1⟩ := hSw; go_simp <;> with_reducible rfl)
          simp only [Act.put, List.setIfInBounds_toArray, List.set_cons_zero, List.set_cons_succ]
          refine wpAnyH_take (i := 2) (oi := { dst := some 51, op := Go.Op.move (Go.Operand.tmp 8), type := 3, pos := "law.go:178", after := #[], guard := none }) (v := ?_) rfl (by kernel_rfl) (by kernel_rfl) (by kernel_rfl) (fun _ _ _ h => h) (Or.inl ⟨by rfl, ?_⟩) (by first | exact HC.out _ HB3.out.drew | exact HC.out _ HB5.out | exact HC.out _ HB6.out) ?_
          rotate_left
          · (intro w hSw; obtain ⟨s0, s1⟩ := hSw; go_simp <;> with_reducible rfl)
          simp only [Act.put, List.setIfInBounds_toArray, List.set_cons_zero, List.set_cons_succ]
          refine wpAnyH_take (i := 3) (oi := { dst := some 52, op := Go.Op.indexAddr 22 (Go.Operand.tmp 50) (Go.Operand.tmp 51), type := 0, pos := "law.go:178", after := #[{ on := 1, ground := Go.Ground.data }, { on := 2, ground := Go.Ground.data }], guard := none }) (v := ?_) rfl (by kernel_rfl) (by kernel_rfl) (by kernel_rfl) (fun _ _ _ h => h) (Or.inl ⟨by rfl, ?_⟩) (by first | exact HC.out _ HB3.out.drew | exact HC.out _ HB5.out | exact HC.out _ HB6.out) ?_
          rotate_left
          · (intro w hSw; obtain ⟨s0, s1⟩ := hSw; go_simp <;> with_reducible rfl)
          simp only [Act.put, List.setIfInBounds_toArray, List.set_cons_zero, List.set_cons_succ]
          refine wpAnyH_take (i := 4) (oi := { dst := some 53, op := Go.Op.fieldAddr 34 (Go.Operand.tmp 52) 1, type := 0, pos := "law.go:178", after := #[{ on := 3, ground := Go.Ground.data }], guard := none }) (v := ?_) rfl (by kernel_rfl) (by kernel_rfl) (by kernel_rfl) (fun _ _ _ h => h) (Or.inl ⟨by rfl, ?_⟩) (by first | exact HC.out _ HB3.out.drew | exact HC.out _ HB5.out | exact HC.out _ HB6.out) ?_
          rotate_left
          · (intro w hSw; obtain ⟨s0, s1⟩ := hSw; go_simp <;> with_reducible rfl)
          simp only [Act.put, List.setIfInBounds_toArray, List.set_cons_zero, List.set_cons_succ]
          refine wpAnyH_take (i := 5) (oi := { dst := some 54, op := Go.Op.load 3 (Go.Operand.tmp 53), type := 3, pos := "law.go:178", after := #[{ on := 4, ground := Go.Ground.data }], guard := none }) (v := ?_) rfl (by kernel_rfl) (by kernel_rfl) (by kernel_rfl) (fun _ _ _ h => h) (Or.inl ⟨by rfl, ?_⟩) (by first | exact HC.out _ HB3.out.drew | exact HC.out _ HB5.out | exact HC.out _ HB6.out) ?_
          rotate_left
          · (intro w hSw; obtain ⟨s0, s1⟩ := hSw; go_simp <;> with_reducible rfl)
          simp only [Act.put, List.setIfInBounds_toArray, List.set_cons_zero, List.set_cons_succ]
          refine wpAnyH_take (i := 7) (oi := { dst := some 56, op := Go.Op.move (Go.Operand.tmp 1), type := 22, pos := "law.go:178", after := #[], guard := none }) (v := ?_) rfl (by kernel_rfl) (by kernel_rfl) (by kernel_rfl) (fun _ _ _ h => h) (Or.inl ⟨by rfl, ?_⟩) (by first | exact HC.out _ HB3.out.drew | exact HC.out _ HB5.out | exact HC.out _ HB6.out) ?_
          rotate_left
          · (intro w hSw; obtain ⟨s0, s1⟩ := hSw; go_simp <;> with_reducible rfl)
          simp only [Act.put, List.setIfInBounds_toArray, List.set_cons_zero, List.set_cons_succ]
          refine wpAnyH_take (i := 8) (oi := { dst := some 57, op := Go.Op.move (Go.Operand.tmp 8), type := 3, pos := "law.go:178", after := #[], guard := none }) (v := ?_) rfl (by kernel_rfl) (by kernel_rfl) (by kernel_rfl) (fun _ _ _ h => h) (Or.inl ⟨by rfl, ?_⟩) (by first | exact HC.out _ HB3.out.drew | exact HC.out _ HB5.out | exact HC.out _ HB6.out) ?_
          rotate_left
          · (intro w hSw; obtain ⟨s0, s1⟩ := hSw; go_simp <;> with_reducible rfl)
          simp only [Act.put, List.setIfInBounds_toArray, List.set_cons_zero, List.set_cons_succ]
          refine wpAnyH_take (i := 9) (oi := { dst := some 58, op := Go.Op.indexAddr 22 (Go.Operand.tmp 56) (Go.Operand.tmp 57), type := 0, pos := "law.go:178", after := #[{ on := 7, ground := Go.Ground.data }, { on := 8, ground := Go.Ground.data }], guard := none }) (v := ?_) rfl (by kernel_rfl) (by kernel_rfl) (by kernel_rfl) (fun _ _ _ h => h) (Or.inl ⟨by rfl, ?_⟩) (by first | exact HC.out _ HB3.out.drew | exact HC.out _ HB5.out | exact HC.out _ HB6.out) ?_
          rotate_left
          · (intro w hSw; obtain ⟨s0, s1⟩ := hSw; go_simp <;> with_reducible rfl)
          simp only [Act.put, List.setIfInBounds_toArray, List.set_cons_zero, List.set_cons_succ]
          refine wpAnyH_take (i := 10) (oi := { dst := some 59, op := Go.Op.fieldAddr 34 (Go.Operand.tmp 58) 3, type := 0, pos := "law.go:178", after := #[{ on := 9, ground := Go.Ground.data }], guard := none }) (v := ?_) rfl (by kernel_rfl) (by kernel_rfl) (by kernel_rfl) (fun _ _ _ h => h) (Or.inl ⟨by rfl, ?_⟩) (by first | exact HC.out _ HB3.out.drew | exact HC.out _ HB5.out | exact HC.out _ HB6.out) ?_
          rotate_left
          · (intro w hSw; obtain ⟨s0, s1⟩ := hSw; go_simp <;> with_reducible rfl)
          simp only [Act.put, List.setIfInBounds_toArray, List.set_cons_zero, List.set_cons_succ]
          refine wpAnyH_take (i := 11) (oi := { dst := some 60, op := Go.Op.load 30 (Go.Operand.tmp 59), type := 30, pos := "law.go:178", after := #[{ on := 10, ground := Go.Ground.data }], guard := none }) (v := ?_) rfl (by kernel_rfl) (by kernel_rfl) (by kernel_rfl) (fun _ _ _ h => h) (Or.inl ⟨by rfl, ?_⟩) (by first | exact HC.out _ HB3.out.drew | exact HC.out _ HB5.out | exact HC.out _ HB6.out) ?_
          rotate_left
          · (intro w hSw; obtain ⟨s0, s1⟩ := hSw; go_simp <;> with_reducible rfl)
          simp only [Act.put, List.setIfInBounds_toArray, List.set_cons_zero, List.set_cons_succ]
          refine wpAnyH_ready (rs := [6]) (by kernel_rfl) (by simp) ?_
          refine AllReadyH.cons (o := { dst := some 55, op := Go.Op.call { callee := Go.Callee.value (Go.Operand.func 29), args := #[Go.Operand.tmp 54, Go.Operand.const (Go.Value.int Go.IntKind.i64 0), Go.Operand.const (Go.Value.int Go.IntKind.i64 5)], argTypes := #[3, 3, 3] }, type := 3, pos := "law.go:178", after := #[{ on := 5, ground := Go.Ground.data }], guard := none }) rfl (fun K hK => ?_) AllReadyH.nil
          go_simp
          refine (within_any x.a 0 5 _ (by decide)).mono ?_
          rintro e w5 ⟨y, rfl, hy0, hy5, hyy, rfl⟩
          clear hyy
          have HW := Lib.hid (went_write HON.out HLEN.out hy0 hy5 (sec_length x.b))
          clear hy0 hy5
          go_wp2_with fail
          refine hK.out _ _ (by first | exact HC.out _ HB3.out.drew | exact HC.out _ HB5.out | exact HC.out _ HB6.out) (fun hHeld => ?_)
          clear hK K hHeld
          try simp only [Act.put, List.setIfInBounds_toArray, List.set_cons_zero, List.set_cons_succ]
          refine wpAnyH_ready (rs := [12]) (by kernel_rfl) (by simp) ?_
          refine AllReadyH.cons (o := { dst := some 61, op := Go.Op.call { callee := Go.Callee.value (Go.Operand.func 9), args := #[Go.Operand.tmp 60], argTypes := #[30] }, type := 30, pos := "law.go:178", after := #[{ on := 11, ground := Go.Ground.data }, { on := 6, ground := Go.Ground.chain }], guard := none }) rfl (fun K hK => ?_) AllReadyH.nil
          go_simp
          refine (sector_any x.bv x.b _ (HFIT.out.b.far HB3.out.drew)).mono ?_
          rintro e w5 ⟨v5, F5, rfl, h5, a5⟩
          have H5 := Lib.hid h5
          have A5 := Lib.hid a5
          have HB5 := Lib.hid (((HA.out.over A3.out).drew.over a5).toBelow)
          clear h5 a5
          go_wp2_with fail
          refine hK.out _ _ (by first | exact HC.out _ HB3.out.drew | exact HC.out _ HB5.out | exact HC.out _ HB6.out) (fun hHeld => ?_)
          clear hK K hHeld
          try simp only [Act.put, List.setIfInBounds_toArray, List.set_cons_zero, List.set_cons_succ]
          refine wpAnyH_ready (rs := [13]) (by kernel_rfl) (by simp) ?_
          refine AllReadyH.cons (o := { dst := some 62, op := Go.Op.call { callee := Go.Callee.value (Go.Operand.func 12), args := #[Go.Operand.tmp 49, Go.Operand.tmp 55, Go.Operand.tmp 61], argTypes := #[23, 3, 30] }, type := 24, pos := "law.go:178", after := #[{ on := 0, ground := Go.Ground.data }, { on := 6, ground := Go.Ground.data }, { on := 12, ground := Go.Ground.data }, { on := 12, ground := Go.Ground.chain }], guard := none }) rfl (fun K hK => ?_) AllReadyH.nil
          go_simp
          refine (write_dk d 6 128 y v5 F1 s1 (sec x.b) _ (HDK3.out.far A5.out.of_drew (fun _ h _ => h)) H5.out.rd (H5.out.new_sep A5.out.of_drew HDK3.out.bd) (by have := HQ1.out; omega)).mono ?_
          rw [HW.out.code]
          rintro e w4 ⟨rfl, F4, h4, a4'⟩
          have a4 : Adv F1 w3 F4 w4 := (Adv.same A5.out.of_drew (fun _ h => h.elim)).trans a4'
          clear a4'
          obtain ⟨s4, hs4⟩ : ∃ s4, s4 = (writeS s1 y (sec x.b)).1 := ⟨_, rfl⟩
          rw [← hs4] at h4
          have W4 := HW.out
          have F4f := W4.fuse
          have F4d := W4.dead
          have F4q := W4.few
          rw [← hs4] at F4f F4d F4q
          have ST4 := Lib.hid (HST.out.went HKN.out F4f F4d F4q)
          clear F4f F4d F4q
          have H4 := Lib.hid h4
          have A4 := Lib.hid a4
          clear h4 a4 hs4 W4
          have HB6 := Lib.hid ((((HA.out.over A3.out)).trans A4.out).toBelow)
          go_wp2_with fail
          refine hK.out _ _ (by first | exact HC.out _ HB3.out.drew | exact HC.out _ HB5.out | exact HC.out _ HB6.out) (fun hHeld => ?_)
          clear hK K hHeld
          try simp only [Act.put, List.setIfInBounds_toArray, List.set_cons_zero, List.set_cons_succ]
          refine wpAnyH_take (i := 14) (oi := { dst := some 11, op := Go.Op.assign (Go.Operand.tmp 62), type := 24, pos := "law.go:178", after := #[{ on := 13, ground := Go.Ground.data }, { on := 13, ground := Go.Ground.chain }, { on := 0, ground := Go.Ground.phase }, { on := 1, ground := Go.Ground.phase }, { on := 2, ground := Go.Ground.phase }, { on := 3, ground := Go.Ground.phase }, { on := 4, ground := Go.Ground.phase }, { on := 5, ground := Go.Ground.phase }, { on := 6, ground := Go.Ground.phase }, { on := 7, ground := Go.Ground.phase }, { on := 8, ground := Go.Ground.phase }, { on := 9, ground := Go.Ground.phase }, { on := 10, ground := Go.Ground.phase }, { on := 11, ground := Go.Ground.phase }, { on := 12, ground := Go.Ground.phase }, { on := 13, ground := Go.Ground.phase }], guard := none }) (v := ?_) rfl (by kernel_rfl) (by kernel_rfl) (by kernel_rfl) (fun _ _ _ h => h) (Or.inl ⟨by rfl, ?_⟩) (by first | exact HC.out _ HB3.out.drew | exact HC.out _ HB5.out | exact HC.out _ HB6.out) ?_
          rotate_left
          · (intro w hSw; obtain ⟨s0, s1⟩ := hSw; go_simp <;> with_reducible rfl)
          simp only [Act.put, List.setIfInBounds_toArray, List.set_cons_zero, List.set_cons_succ]
          refine wpAnyH_done (by kernel_rfl) ?_ _
          go_wp2_with (first
            | (go_at_call 28; refine (sectors_any d _ s4 _ H4.out).mono ?_; rintro e w6 ⟨v6, G6, rfl, h6, a6⟩; have S6 := Lib.hid h6; have A6 := Lib.hid a6; clear h6 a6)
            | fail)
          go_loopw [13] (InRel w6) (fun t _ => 6 - (intOf t).toNat)
          case atStart => exact ⟨0, rfl, by omega, 0, rfl⟩
          case round =>
            obtain ⟨j, rfl, hj, nd, rfl⟩ := hrel
            by_cases hj6 : j < 6
            · have hji : (j : Int) < 6 := by omega
              clear hj hj6
              go_wp2_with fail
              have hk25 := HK25.out
              exact ⟨⟨k + 1, _, _, by simp, by omega, (H4.out.far A6.out (fun _ h _ => h)).drewN nd, ST4.out, ((((HA.out.over A3.out)).trans A4.out).over A6.out).drewN nd⟩, by simp [intOf]; omega⟩
            · have hji : (6 : Int) ≤ (j : Int) := by omega
              clear hj hj6
              go_wp2_with fail
              have hk25 := HK25.out
              exact ⟨⟨k + 1, _, _, by simp, by omega, (H4.out.far A6.out (fun _ h _ => h)).drewN nd, ST4.out, ((((HA.out.over A3.out)).trans A4.out).over A6.out).drewN nd⟩, by simp [intOf]; omega⟩
      · have HOUT := Lib.hid (HST.out.out_ (by omega))
        have hkn : (N : Int) ≤ (k : Int) := by omega
        have HKN := Lib.hid (Nat.le_of_not_lt hon)
        clear hon
        by_cases q1 : x.kind = 1
        · have hkb : (x.kind == 1) = true := by simp [q1]
          have HW := Lib.hid (off_flush HOUT.out)
          clear q1
          go_wp2_with (first
            | (go_at_call 28; refine (sectors_any d F1 s1 _ HDK.out).mono ?_; rintro e w2 ⟨v2, G2, rfl, h2, a2⟩; have S2 := Lib.hid h2; have A2 := Lib.hid a2; clear h2 a2)
            | (go_at_call 31; refine (waits_dk d 6 F1 s1 _ (HDK.out.far A2.out (fun _ h _ => h)) (by have := HQ1.out; omega)).mono ?_; rintro e w3 ⟨z3, rfl, hs3, a3⟩; clear hs3; have A3b := Lib.hid a3; have A3 := Lib.hid (A2.out.over a3); have HB3 := Lib.hid ((HA.out.over A3.out).toBelow); have HDK3 := Lib.hid (HDK.out.far A3.out (fun _ h _ => h)); have k0 := HC0.out _ HB3.out; clear a3)
            | (go_at_call 14; refine (flush_dk d 6 F1 s1 _ HDK3.out).mono ?_; rw [HW.out.code]; rintro e w4 ⟨rfl, h4, a4⟩; obtain ⟨s4, hs4⟩ : ∃ s4, s4 = (flushS s1).1 := ⟨_, rfl⟩; rw [← hs4] at h4; have W4 := HW.out; have F4f := W4.fuse; have F4d := W4.dead; have F4q := W4.Q; have F4L := W4.L; rw [← hs4] at F4f F4d F4q F4L; have ST4 := Lib.hid (HST.out.off HKN.out F4f F4d F4q); have D4 := Lib.hid F4d; have Q4 := Lib.hid F4q; have L4 := Lib.hid F4L; clear F4f F4d F4q F4L; have H4 := Lib.hid h4; have A4 := Lib.hid a4; clear h4 a4 hs4 W4)
            | (go_at_call 24; refine (live_dk d 6 _ s4 _ H4.out).mono ?_; rw [D4.out]; rintro e w5 ⟨rfl, rfl⟩)
            | (go_at_call 31; refine (waits_dk d 6 _ s4 _ H4.out (by rw [Q4.out]; have := HQ1.out; omega)).mono ?_; rw [Q4.out]; rintro e w5 ⟨z5, rfl, hs5, a5⟩; clear hs5; have A5 := Lib.hid a5; clear a5)
            | (go_at_call 28; refine (sectors_any d _ s4 _ (H4.out.far A5.out (fun _ h _ => h))).mono ?_; rw [L4.out, Q4.out]; rintro e w6 ⟨v6, G6, rfl, h6, a6⟩; have S6 := Lib.hid h6; have A6 := Lib.hid (A5.out.over a6); clear h6 a6)
            | fail)
          have S26 := Lib.hid ((S2.out.far (A3b.out) (fun _ h _ => h)).far A4.out (fun a h1 h2 => by have := A2.out.new_at h2; have := HDK.out.bd a h1; omega) |>.far A6.out (fun _ h _ => h))
          have HL6 : (lays s1.L s1.Q).length = 6 := by rw [lays_length]; exact HLEN.out
          have HL := Lib.hid HL6
          clear HL6
          go_loopw [13] (InRel w6) (fun t _ => 6 - (intOf t).toNat)
          case atStart => exact ⟨0, rfl, by omega, 0, rfl⟩
          case round =>
            obtain ⟨j, rfl, hj, nd, rfl⟩ := hrel
            by_cases hj6 : j < 6
            · have hji : (j : Int) < 6 := by omega
              have hjL : j < (lays s1.L s1.Q).length := by rw [HL.out]; exact hj6
              obtain ⟨gA, cA, zA, rfl, _, kA, _, rA, _⟩ := S26.out.at_ hjL
              obtain ⟨gB, cB, zB, rfl, _, kB, _, rB, _⟩ := S6.out.at_ hjL
              obtain ⟨M, hM⟩ : ∃ M, M = (lays s1.L s1.Q).length := ⟨_, rfl⟩
              rw [← hM]
              have hjM : (j : Int) < (M : Int) := by omega
              unfold sv at kA kB rA rB
              have RA := Lib.hid rA
              have RB := Lib.hid rB
              have HJ := Lib.hid hj6
              clear hj hj6 hjL hM rA rB
              go_wp2_with fail
              refine wp_region_held_drew (S := (fun w' => w'.cell? ⟨gA, j, none⟩ = some (.slice (some ⟨zA, 0, none⟩) 128 128) ∧ w'.cell? ⟨gB, j, none⟩ = some (.slice (some ⟨zB, 0, none⟩) 128 128))) (by kernel_rfl) (by first | exact ⟨kA, kB⟩) (fun hHeld => ?_)
              clear hHeld
              refine wpAnyH_take (i := 0) (oi := { dst := some 98, op := Go.Op.move (Go.Operand.tmp 9), type := 49, pos := "law.go:185", after := #[], guard := none }) (v := ?_) rfl (by kernel_rfl) (by kernel_rfl) (by kernel_rfl) (fun _ _ _ h => h) (Or.inl ⟨by rfl, ?_⟩) (by first | exact ⟨kA, kB⟩) ?_
              rotate_left
              · (intro w hSw; obtain ⟨s0, s1⟩ := hSw; go_simp <;> with_reducible rfl)
              simp only [Act.put, List.setIfInBounds_toArray, List.set_cons_zero, List.set_cons_succ]
              refine wpAnyH_take (i := 1) (oi := { dst := some 99, op := Go.Op.move (Go.Operand.tmp 13), type := 3, pos := "law.go:185", after := #[], guard := none }) (v := ?_) rfl (by kernel_rfl) (by kernel_rfl) (by kernel_rfl) (fun _ _ _ h => h) (Or.inl ⟨by rfl, ?_⟩) (by first | exact ⟨kA, kB⟩) ?_
              rotate_left
              · (intro w hSw; obtain ⟨s0, s1⟩ := hSw; go_simp <;> with_reducible rfl)
              simp only [Act.put, List.setIfInBounds_toArray, List.set_cons_zero, List.set_cons_succ]
              refine wpAnyH_take (i := 2) (oi := { dst := some 100, op := Go.Op.indexAddr 49 (Go.Operand.tmp 98) (Go.Operand.tmp 99), type := 0, pos := "law.go:185", after := #[{ on := 0, ground := Go.Ground.data }, { on := 1, ground := Go.Ground.data }], guard := none }) (v := ?_) rfl (by kernel_rfl) (by kernel_rfl) (by kernel_rfl) (fun _ _ _ h => h) (Or.inl ⟨by rfl, ?_⟩) (by first | exact ⟨kA, kB⟩) ?_
              rotate_left
              · (intro w hSw; obtain ⟨s0, s1⟩ := hSw; go_simp <;> with_reducible rfl)
              simp only [Act.put, List.setIfInBounds_toArray, List.set_cons_zero, List.set_cons_succ]
              refine wpAnyH_take (i := 3) (oi := { dst := some 101, op := Go.Op.load 30 (Go.Operand.tmp 100), type := 30, pos := "law.go:185", after := #[{ on := 2, ground := Go.Ground.data }], guard := none }) (v := ?_) rfl (by kernel_rfl) (by kernel_rfl) (by kernel_rfl) (fun _ _ _ h => h) (Or.inl ⟨by rfl, ?_⟩) (by first | exact ⟨kA, kB⟩) ?_
              rotate_left
              · (intro w hSw; obtain ⟨s0, s1⟩ := hSw; go_simp <;> with_reducible rfl)
              simp only [Act.put, List.setIfInBounds_toArray, List.set_cons_zero, List.set_cons_succ]
              refine wpAnyH_take (i := 4) (oi := { dst := some 102, op := Go.Op.move (Go.Operand.tmp 12), type := 49, pos := "law.go:185", after := #[], guard := none }) (v := ?_) rfl (by kernel_rfl) (by kernel_rfl) (by kernel_rfl) (fun _ _ _ h => h) (Or.inl ⟨by rfl, ?_⟩) (by first | exact ⟨kA, kB⟩) ?_
              rotate_left
              · (intro w hSw; obtain ⟨s0, s1⟩ := hSw; go_simp <;> with_reducible rfl)
              simp only [Act.put, List.setIfInBounds_toArray, List.set_cons_zero, List.set_cons_succ]
              refine wpAnyH_take (i := 5) (oi := { dst := some 103, op := Go.Op.move (Go.Operand.tmp 13), type := 3, pos := "law.go:185", after := #[], guard := none }) (v := ?_) rfl (by kernel_rfl) (by kernel_rfl) (by kernel_rfl) (fun _ _ _ h => h) (Or.inl ⟨by rfl, ?_⟩) (by first | exact ⟨kA, kB⟩) ?_
              rotate_left
              · (intro w hSw; obtain ⟨s0, s1⟩ := hSw; go_simp <;> with_reducible rfl)
              simp only [Act.put, List.setIfInBounds_toArray, List.set_cons_zero, List.set_cons_succ]
              refine wpAnyH_take (i := 6) (oi := { dst := some 104, op := Go.Op.indexAddr 49 (Go.Operand.tmp 102) (Go.Operand.tmp 103), type := 0, pos := "law.go:185", after := #[{ on := 4, ground := Go.Ground.data }, { on := 5, ground := Go.Ground.data }], guard := none }) (v := ?_) rfl (by kernel_rfl) (by kernel_rfl) (by kernel_rfl) (fun _ _ _ h => h) (Or.inl ⟨by rfl, ?_⟩) (by first | exact ⟨kA, kB⟩) ?_
              rotate_left
              · (intro w hSw; obtain ⟨s0, s1⟩ := hSw; go_simp <;> with_reducible rfl)
              simp only [Act.put, List.setIfInBounds_toArray, List.set_cons_zero, List.set_cons_succ]
              refine wpAnyH_take (i := 7) (oi := { dst := some 105, op := Go.Op.load 30 (Go.Operand.tmp 104), type := 30, pos := "law.go:185", after := #[{ on := 6, ground := Go.Ground.data }], guard := none }) (v := ?_) rfl (by kernel_rfl) (by kernel_rfl) (by kernel_rfl) (fun _ _ _ h => h) (Or.inl ⟨by rfl, ?_⟩) (by first | exact ⟨kA, kB⟩) ?_
              rotate_left
              · (intro w hSw; obtain ⟨s0, s1⟩ := hSw; go_simp <;> with_reducible rfl)
              simp only [Act.put, List.setIfInBounds_toArray, List.set_cons_zero, List.set_cons_succ]
              refine wpAnyH_ready (rs := [8]) (by kernel_rfl) (by simp) ?_
              refine AllReadyH.cons (o := { dst := some 106, op := Go.Op.call { callee := Go.Callee.value (Go.Operand.func 18), args := #[Go.Operand.tmp 101, Go.Operand.tmp 105], argTypes := #[30, 30] }, type := 4, pos := "law.go:185", after := #[{ on := 3, ground := Go.Ground.data }, { on := 7, ground := Go.Ground.data }], guard := none }) rfl (fun K hK => ?_) AllReadyH.nil
              go_simp
              refine (same_eq _ _ 128 _ (w6.drewN (nd + 1)) RA.out RB.out).mono ?_
              rintro e w7 ⟨rfl, n7, rfl⟩
              go_wp2_with fail
              refine hK.out _ _ (by first | exact ⟨kA, kB⟩) (fun hHeld => ?_)
              clear hK K hHeld
              try simp only [Act.put, List.setIfInBounds_toArray, List.set_cons_zero, List.set_cons_succ]
              refine wpAnyH_take (i := 9) (oi := { dst := some 107, op := Go.Op.unOp Go.UnOp.not 4 (Go.Operand.tmp 106), type := 4, pos := "law.go:185", after := #[{ on := 8, ground := Go.Ground.data }], guard := none }) (v := ?_) rfl (by kernel_rfl) (by kernel_rfl) (by kernel_rfl) (fun _ _ _ h => h) (Or.inl ⟨by rfl, ?_⟩) (by first | exact ⟨kA, kB⟩) ?_
              rotate_left
              · (intro w hSw; obtain ⟨s0, s1⟩ := hSw; go_simp <;> with_reducible rfl)
              simp only [Act.put, List.setIfInBounds_toArray, List.set_cons_zero, List.set_cons_succ]
              refine wpAnyH_done (by kernel_rfl) ?_ _
              go_wp2
              have hj6 := HJ.out
              exact ⟨⟨j + 1, by simp, by omega, _, rfl⟩, by simp [intOf]; omega⟩
            · have hji : (6 : Int) ≤ (j : Int) := by omega
              clear hj hj6
              go_wp2_with fail
              have hk25 := HK25.out
              exact ⟨⟨k + 1, _, _, by simp, by omega, (H4.out.far A6.out (fun _ h _ => h)).drewN nd, ST4.out, ((((HA.out.over A3.out)).trans A4.out).over A6.out).drewN nd⟩, by simp [intOf]; omega⟩
        · have hkb : (x.kind == 1) = false := by simp [q1]
          clear q1
          go_wp2_with (first
            | (go_at_call 28; refine (sectors_any d F1 s1 _ HDK.out).mono ?_; rintro e w2 ⟨v2, G2, rfl, h2, a2⟩; have S2 := Lib.hid h2; have A2 := Lib.hid a2; clear h2 a2)
            | (go_at_call 31; refine (waits_dk d 6 F1 s1 _ (HDK.out.far A2.out (fun _ h _ => h)) (by have := HQ1.out; omega)).mono ?_; rintro e w3 ⟨z3, rfl, hs3, a3⟩; clear hs3; have A3b := Lib.hid a3; have A3 := Lib.hid (A2.out.over a3); have HB3 := Lib.hid ((HA.out.over A3.out).toBelow); have HDK3 := Lib.hid (HDK.out.far A3.out (fun _ h _ => h)); have k0 := HC0.out _ HB3.out; clear a3)
            | fail)
          refine wp_region_held_drew (S := (fun w' => w'.cell? ⟨b, o + k * 6 + 1, none⟩ = some (.int .i64 x.a) ∧ w'.cell? ⟨b, o + k * 6 + 3, none⟩ = some x.bv)) (by kernel_rfl) (by first | exact HC.out _ HB3.out.drew | exact HC.out _ HB5.out | exact HC.out _ HB6.out) (fun hHeld => ?_)
          clear hHeld
          refine wpAnyH_take (i := 0) (oi := { dst := some 49, op := Go.Op.move (Go.Operand.tmp 7), type := 23, pos := "law.go:178", after := #[], guard := none }) (v := ?_) rfl (by kernel_rfl) (by kernel_rfl) (by kernel_rfl) (fun _ _ _ h => h) (Or.inl ⟨by rfl, ?_⟩) (by first | exact HC.out _ HB3.out.drew | exact HC.out _ HB5.out | exact HC.out _ HB6.out) ?_
          rotate_left
          · (intro w hSw; obtain ⟨s0, s1⟩ := hSw; go_simp <;> with_reducible rfl)
          simp only [Act.put, List.setIfInBounds_toArray, List.set_cons_zero, List.set_cons_succ]
          refine wpAnyH_take (i := 1) (oi := { dst := some 50, op := Go.Op.move (Go.Operand.tmp 1), type := 22, pos := "law.go:178", after := #[], guard := none }) (v := ?_) rfl (by kernel_rfl) (by kernel_rfl) (by kernel_rfl) (fun _ _ _ h => h) (Or.inl ⟨by rfl, ?_⟩) (by first | exact HC.out _ HB3.out.drew | exact HC.out _ HB5.out | exact HC.out _ HB6.out) ?_
          rotate_left
          · (intro w hSw; obtain ⟨s0, s1⟩ := hSw; go_simp <;> with_reducible rfl)
          simp only [Act.put, List.setIfInBounds_toArray, List.set_cons_zero, List.set_cons_succ]
          refine wpAnyH_take (i := 2) (oi := { dst := some 51, op := Go.Op.move (Go.Operand.tmp 8), type := 3, pos := "law.go:178", after := #[], guard := none }) (v := ?_) rfl (by kernel_rfl) (by kernel_rfl) (by kernel_rfl) (fun _ _ _ h => h) (Or.inl ⟨by rfl, ?_⟩) (by first | exact HC.out _ HB3.out.drew | exact HC.out _ HB5.out | exact HC.out _ HB6.out) ?_
          rotate_left
          · (intro w hSw; obtain ⟨s0, s1⟩ := hSw; go_simp <;> with_reducible rfl)
          simp only [Act.put, List.setIfInBounds_toArray, List.set_cons_zero, List.set_cons_succ]
          refine wpAnyH_take (i := 3) (oi := { dst := some 52, op := Go.Op.indexAddr 22 (Go.Operand.tmp 50) (Go.Operand.tmp 51), type := 0, pos := "law.go:178", after := #[{ on := 1, ground := Go.Ground.data }, { on := 2, ground := Go.Ground.data }], guard := none }) (v := ?_) rfl (by kernel_rfl) (by kernel_rfl) (by kernel_rfl) (fun _ _ _ h => h) (Or.inl ⟨by rfl, ?_⟩) (by first | exact HC.out _ HB3.out.drew | exact HC.out _ HB5.out | exact HC.out _ HB6.out) ?_
          rotate_left
          · (intro w hSw; obtain ⟨s0, s1⟩ := hSw; go_simp <;> with_reducible rfl)
          simp only [Act.put, List.setIfInBounds_toArray, List.set_cons_zero, List.set_cons_succ]
          refine wpAnyH_take (i := 4) (oi := { dst := some 53, op := Go.Op.fieldAddr 34 (Go.Operand.tmp 52) 1, type := 0, pos := "law.go:178", after := #[{ on := 3, ground := Go.Ground.data }], guard := none }) (v := ?_) rfl (by kernel_rfl) (by kernel_rfl) (by kernel_rfl) (fun _ _ _ h => h) (Or.inl ⟨by rfl, ?_⟩) (by first | exact HC.out _ HB3.out.drew | exact HC.out _ HB5.out | exact HC.out _ HB6.out) ?_
          rotate_left
          · (intro w hSw; obtain ⟨s0, s1⟩ := hSw; go_simp <;> with_reducible rfl)
          simp only [Act.put, List.setIfInBounds_toArray, List.set_cons_zero, List.set_cons_succ]
          refine wpAnyH_take (i := 5) (oi := { dst := some 54, op := Go.Op.load 3 (Go.Operand.tmp 53), type := 3, pos := "law.go:178", after := #[{ on := 4, ground := Go.Ground.data }], guard := none }) (v := ?_) rfl (by kernel_rfl) (by kernel_rfl) (by kernel_rfl) (fun _ _ _ h => h) (Or.inl ⟨by rfl, ?_⟩) (by first | exact HC.out _ HB3.out.drew | exact HC.out _ HB5.out | exact HC.out _ HB6.out) ?_
          rotate_left
          · (intro w hSw; obtain ⟨s0, s1⟩ := hSw; go_simp <;> with_reducible rfl)
          simp only [Act.put, List.setIfInBounds_toArray, List.set_cons_zero, List.set_cons_succ]
          refine wpAnyH_take (i := 7) (oi := { dst := some 56, op := Go.Op.move (Go.Operand.tmp 1), type := 22, pos := "law.go:178", after := #[], guard := none }) (v := ?_) rfl (by kernel_rfl) (by kernel_rfl) (by kernel_rfl) (fun _ _ _ h => h) (Or.inl ⟨by rfl, ?_⟩) (by first | exact HC.out _ HB3.out.drew | exact HC.out _ HB5.out | exact HC.out _ HB6.out) ?_
          rotate_left
          · (intro w hSw; obtain ⟨s0, s1⟩ := hSw; go_simp <;> with_reducible rfl)
          simp only [Act.put, List.setIfInBounds_toArray, List.set_cons_zero, List.set_cons_succ]
          refine wpAnyH_take (i := 8) (oi := { dst := some 57, op := Go.Op.move (Go.Operand.tmp 8), type := 3, pos := "law.go:178", after := #[], guard := none }) (v := ?_) rfl (by kernel_rfl) (by kernel_rfl) (by kernel_rfl) (fun _ _ _ h => h) (Or.inl ⟨by rfl, ?_⟩) (by first | exact HC.out _ HB3.out.drew | exact HC.out _ HB5.out | exact HC.out _ HB6.out) ?_
          rotate_left
          · (intro w hSw; obtain ⟨s0, s1⟩ := hSw; go_simp <;> with_reducible rfl)
          simp only [Act.put, List.setIfInBounds_toArray, List.set_cons_zero, List.set_cons_succ]
          refine wpAnyH_take (i := 9) (oi := { dst := some 58, op := Go.Op.indexAddr 22 (Go.Operand.tmp 56) (Go.Operand.tmp 57), type := 0, pos := "law.go:178", after := #[{ on := 7, ground := Go.Ground.data }, { on := 8, ground := Go.Ground.data }], guard := none }) (v := ?_) rfl (by kernel_rfl) (by kernel_rfl) (by kernel_rfl) (fun _ _ _ h => h) (Or.inl ⟨by rfl, ?_⟩) (by first | exact HC.out _ HB3.out.drew | exact HC.out _ HB5.out | exact HC.out _ HB6.out) ?_
          rotate_left
          · (intro w hSw; obtain ⟨s0, s1⟩ := hSw; go_simp <;> with_reducible rfl)
          simp only [Act.put, List.setIfInBounds_toArray, List.set_cons_zero, List.set_cons_succ]
          refine wpAnyH_take (i := 10) (oi := { dst := some 59, op := Go.Op.fieldAddr 34 (Go.Operand.tmp 58) 3, type := 0, pos := "law.go:178", after := #[{ on := 9, ground := Go.Ground.data }], guard := none }) (v := ?_) rfl (by kernel_rfl) (by kernel_rfl) (by kernel_rfl) (fun _ _ _ h => h) (Or.inl ⟨by rfl, ?_⟩) (by first | exact HC.out _ HB3.out.drew | exact HC.out _ HB5.out | exact HC.out _ HB6.out) ?_
          rotate_left
          · (intro w hSw; obtain ⟨s0, s1⟩ := hSw; go_simp <;> with_reducible rfl)
          simp only [Act.put, List.setIfInBounds_toArray, List.set_cons_zero, List.set_cons_succ]
          refine wpAnyH_take (i := 11) (oi := { dst := some 60, op := Go.Op.load 30 (Go.Operand.tmp 59), type := 30, pos := "law.go:178", after := #[{ on := 10, ground := Go.Ground.data }], guard := none }) (v := ?_) rfl (by kernel_rfl) (by kernel_rfl) (by kernel_rfl) (fun _ _ _ h => h) (Or.inl ⟨by rfl, ?_⟩) (by first | exact HC.out _ HB3.out.drew | exact HC.out _ HB5.out | exact HC.out _ HB6.out) ?_
          rotate_left
          · (intro w hSw; obtain ⟨s0, s1⟩ := hSw; go_simp <;> with_reducible rfl)
          simp only [Act.put, List.setIfInBounds_toArray, List.set_cons_zero, List.set_cons_succ]
          refine wpAnyH_ready (rs := [6]) (by kernel_rfl) (by simp) ?_
          refine AllReadyH.cons (o := { dst := some 55, op := Go.Op.call { callee := Go.Callee.value (Go.Operand.func 29), args := #[Go.Operand.tmp 54, Go.Operand.const (Go.Value.int Go.IntKind.i64 0), Go.Operand.const (Go.Value.int Go.IntKind.i64 5)], argTypes := #[3, 3, 3] }, type := 3, pos := "law.go:178", after := #[{ on := 5, ground := Go.Ground.data }], guard := none }) rfl (fun K hK => ?_) AllReadyH.nil
          go_simp
          refine (within_any x.a 0 5 _ (by decide)).mono ?_
          rintro e w5 ⟨y, rfl, hy0, hy5, hyy, rfl⟩
          clear hyy
          have HW := Lib.hid (off_write HOUT.out HLEN.out hy0 hy5 (sec_length x.b))
          clear hy0 hy5
          go_wp2_with fail
          refine hK.out _ _ (by first | exact HC.out _ HB3.out.drew | exact HC.out _ HB5.out | exact HC.out _ HB6.out) (fun hHeld => ?_)
          clear hK K hHeld
          try simp only [Act.put, List.setIfInBounds_toArray, List.set_cons_zero, List.set_cons_succ]
          refine wpAnyH_ready (rs := [12]) (by kernel_rfl) (by simp) ?_
          refine AllReadyH.cons (o := { dst := some 61, op := Go.Op.call { callee := Go.Callee.value (Go.Operand.func 9), args := #[Go.Operand.tmp 60], argTypes := #[30] }, type := 30, pos := "law.go:178", after := #[{ on := 11, ground := Go.Ground.data }, { on := 6, ground := Go.Ground.chain }], guard := none }) rfl (fun K hK => ?_) AllReadyH.nil
          go_simp
          refine (sector_any x.bv x.b _ (HFIT.out.b.far HB3.out.drew)).mono ?_
          rintro e w5 ⟨v5, F5, rfl, h5, a5⟩
          have H5 := Lib.hid h5
          have A5 := Lib.hid a5
          have HB5 := Lib.hid (((HA.out.over A3.out).drew.over a5).toBelow)
          clear h5 a5
          go_wp2_with fail
          refine hK.out _ _ (by first | exact HC.out _ HB3.out.drew | exact HC.out _ HB5.out | exact HC.out _ HB6.out) (fun hHeld => ?_)
          clear hK K hHeld
          try simp only [Act.put, List.setIfInBounds_toArray, List.set_cons_zero, List.set_cons_succ]
          refine wpAnyH_ready (rs := [13]) (by kernel_rfl) (by simp) ?_
          refine AllReadyH.cons (o := { dst := some 62, op := Go.Op.call { callee := Go.Callee.value (Go.Operand.func 12), args := #[Go.Operand.tmp 49, Go.Operand.tmp 55, Go.Operand.tmp 61], argTypes := #[23, 3, 30] }, type := 24, pos := "law.go:178", after := #[{ on := 0, ground := Go.Ground.data }, { on := 6, ground := Go.Ground.data }, { on := 12, ground := Go.Ground.data }, { on := 12, ground := Go.Ground.chain }], guard := none }) rfl (fun K hK => ?_) AllReadyH.nil
          go_simp
          refine (write_dk d 6 128 y v5 F1 s1 (sec x.b) _ (HDK3.out.far A5.out.of_drew (fun _ h _ => h)) H5.out.rd (H5.out.new_sep A5.out.of_drew HDK3.out.bd) (by have := HQ1.out; omega)).mono ?_
          rw [HW.out.code]
          rintro e w4 ⟨rfl, F4, h4, a4'⟩
          have a4 : Adv F1 w3 F4 w4 := (Adv.same A5.out.of_drew (fun _ h => h.elim)).trans a4'
          clear a4'
          obtain ⟨s4, hs4⟩ : ∃ s4, s4 = (writeS s1 y (sec x.b)).1 := ⟨_, rfl⟩
          rw [← hs4] at h4
          have W4 := HW.out
          have F4f := W4.fuse
          have F4d := W4.dead
          have F4q := W4.Q
          have F4L := W4.L
          rw [← hs4] at F4f F4d F4q F4L
          have ST4 := Lib.hid (HST.out.off HKN.out F4f F4d F4q)
          have D4 := Lib.hid F4d
          have Q4 := Lib.hid F4q
          have L4 := Lib.hid F4L
          clear F4f F4d F4q F4L
          have H4 := Lib.hid h4
          have A4 := Lib.hid a4
          clear h4 a4 hs4 W4
          have HB6 := Lib.hid ((((HA.out.over A3.out)).trans A4.out).toBelow)
          go_wp2_with fail
          refine hK.out _ _ (by first | exact HC.out _ HB3.out.drew | exact HC.out _ HB5.out | exact HC.out _ HB6.out) (fun hHeld => ?_)
          clear hK K hHeld
          try simp only [Act.put, List.setIfInBounds_toArray, List.set_cons_zero, List.set_cons_succ]
          refine wpAnyH_take (i := 14) (oi := { dst := some 11, op := Go.Op.assign (Go.Operand.tmp 62), type := 24, pos := "law.go:178", after := #[{ on := 13, ground := Go.Ground.data }, { on := 13, ground := Go.Ground.chain }, { on := 0, ground := Go.Ground.phase }, { on := 1, ground := Go.Ground.phase }, { on := 2, ground := Go.Ground.phase }, { on := 3, ground := Go.Ground.phase }, { on := 4, ground := Go.Ground.phase }, { on := 5, ground := Go.Ground.phase }, { on := 6, ground := Go.Ground.phase }, { on := 7, ground := Go.Ground.phase }, { on := 8, ground := Go.Ground.phase }, { on := 9, ground := Go.Ground.phase }, { on := 10, ground := Go.Ground.phase }, { on := 11, ground := Go.Ground.phase }, { on := 12, ground := Go.Ground.phase }, { on := 13, ground := Go.Ground.phase }], guard := none }) (v := ?_) rfl (by kernel_rfl) (by kernel_rfl) (by kernel_rfl) (fun _ _ _ h => h) (Or.inl ⟨by rfl, ?_⟩) (by first | exact HC.out _ HB3.out.drew | exact HC.out _ HB5.out | exact HC.out _ HB6.out) ?_
          rotate_left
          · (intro w hSw; obtain ⟨s0, s1⟩ := hSw; go_simp <;> with_reducible rfl)
          simp only [Act.put, List.setIfInBounds_toArray, List.set_cons_zero, List.set_cons_succ]
          refine wpAnyH_done (by kernel_rfl) ?_ _
          go_wp2_with (first
            | (go_at_call 24; refine (live_dk d 6 _ s4 _ H4.out).mono ?_; rw [D4.out]; rintro e w5 ⟨rfl, rfl⟩)
            | (go_at_call 31; refine (waits_dk d 6 _ s4 _ H4.out (by rw [Q4.out]; have := HQ1.out; omega)).mono ?_; rw [Q4.out]; rintro e w5 ⟨z5, rfl, hs5, a5⟩; clear hs5; have A5 := Lib.hid a5; clear a5)
            | (go_at_call 28; refine (sectors_any d _ s4 _ (H4.out.far A5.out (fun _ h _ => h))).mono ?_; rw [L4.out, Q4.out]; rintro e w6 ⟨v6, G6, rfl, h6, a6⟩; have S6 := Lib.hid h6; have A6 := Lib.hid (A5.out.over a6); clear h6 a6)
            | fail)
          have S26 := Lib.hid ((S2.out.far (A3b.out) (fun _ h _ => h)).far A4.out (fun a h1 h2 => by have := A2.out.new_at h2; have := HDK.out.bd a h1; omega) |>.far A6.out (fun _ h _ => h))
          have HL6 : (lays s1.L s1.Q).length = 6 := by rw [lays_length]; exact HLEN.out
          have HL := Lib.hid HL6
          clear HL6
          go_loopw [13] (InRel w6) (fun t _ => 6 - (intOf t).toNat)
          case atStart => exact ⟨0, rfl, by omega, 0, rfl⟩
          case round =>
            obtain ⟨j, rfl, hj, nd, rfl⟩ := hrel
            by_cases hj6 : j < 6
            · have hji : (j : Int) < 6 := by omega
              have hjL : j < (lays s1.L s1.Q).length := by rw [HL.out]; exact hj6
              obtain ⟨gA, cA, zA, rfl, _, kA, _, rA, _⟩ := S26.out.at_ hjL
              obtain ⟨gB, cB, zB, rfl, _, kB, _, rB, _⟩ := S6.out.at_ hjL
              obtain ⟨M, hM⟩ : ∃ M, M = (lays s1.L s1.Q).length := ⟨_, rfl⟩
              rw [← hM]
              have hjM : (j : Int) < (M : Int) := by omega
              unfold sv at kA kB rA rB
              have RA := Lib.hid rA
              have RB := Lib.hid rB
              have HJ := Lib.hid hj6
              clear hj hj6 hjL hM rA rB
              go_wp2_with fail
              refine wp_region_held_drew (S := (fun w' => w'.cell? ⟨gA, j, none⟩ = some (.slice (some ⟨zA, 0, none⟩) 128 128) ∧ w'.cell? ⟨gB, j, none⟩ = some (.slice (some ⟨zB, 0, none⟩) 128 128))) (by kernel_rfl) (by first | exact ⟨kA, kB⟩) (fun hHeld => ?_)
              clear hHeld
              refine wpAnyH_take (i := 0) (oi := { dst := some 98, op := Go.Op.move (Go.Operand.tmp 9), type := 49, pos := "law.go:185", after := #[], guard := none }) (v := ?_) rfl (by kernel_rfl) (by kernel_rfl) (by kernel_rfl) (fun _ _ _ h => h) (Or.inl ⟨by rfl, ?_⟩) (by first | exact ⟨kA, kB⟩) ?_
              rotate_left
              · (intro w hSw; obtain ⟨s0, s1⟩ := hSw; go_simp <;> with_reducible rfl)
              simp only [Act.put, List.setIfInBounds_toArray, List.set_cons_zero, List.set_cons_succ]
              refine wpAnyH_take (i := 1) (oi := { dst := some 99, op := Go.Op.move (Go.Operand.tmp 13), type := 3, pos := "law.go:185", after := #[], guard := none }) (v := ?_) rfl (by kernel_rfl) (by kernel_rfl) (by kernel_rfl) (fun _ _ _ h => h) (Or.inl ⟨by rfl, ?_⟩) (by first | exact ⟨kA, kB⟩) ?_
              rotate_left
              · (intro w hSw; obtain ⟨s0, s1⟩ := hSw; go_simp <;> with_reducible rfl)
              simp only [Act.put, List.setIfInBounds_toArray, List.set_cons_zero, List.set_cons_succ]
              refine wpAnyH_take (i := 2) (oi := { dst := some 100, op := Go.Op.indexAddr 49 (Go.Operand.tmp 98) (Go.Operand.tmp 99), type := 0, pos := "law.go:185", after := #[{ on := 0, ground := Go.Ground.data }, { on := 1, ground := Go.Ground.data }], guard := none }) (v := ?_) rfl (by kernel_rfl) (by kernel_rfl) (by kernel_rfl) (fun _ _ _ h => h) (Or.inl ⟨by rfl, ?_⟩) (by first | exact ⟨kA, kB⟩) ?_
              rotate_left
              · (intro w hSw; obtain ⟨s0, s1⟩ := hSw; go_simp <;> with_reducible rfl)
              simp only [Act.put, List.setIfInBounds_toArray, List.set_cons_zero, List.set_cons_succ]
              refine wpAnyH_take (i := 3) (oi := { dst := some 101, op := Go.Op.load 30 (Go.Operand.tmp 100), type := 30, pos := "law.go:185", after := #[{ on := 2, ground := Go.Ground.data }], guard := none }) (v := ?_) rfl (by kernel_rfl) (by kernel_rfl) (by kernel_rfl) (fun _ _ _ h => h) (Or.inl ⟨by rfl, ?_⟩) (by first | exact ⟨kA, kB⟩) ?_
              rotate_left
              · (intro w hSw; obtain ⟨s0, s1⟩ := hSw; go_simp <;> with_reducible rfl)
              simp only [Act.put, List.setIfInBounds_toArray, List.set_cons_zero, List.set_cons_succ]
              refine wpAnyH_take (i := 4) (oi := { dst := some 102, op := Go.Op.move (Go.Operand.tmp 12), type := 49, pos := "law.go:185", after := #[], guard := none }) (v := ?_) rfl (by kernel_rfl) (by kernel_rfl) (by kernel_rfl) (fun _ _ _ h => h) (Or.inl ⟨by rfl, ?_⟩) (by first | exact ⟨kA, kB⟩) ?_
              rotate_left
              · (intro w hSw; obtain ⟨s0, s1⟩ := hSw; go_simp <;> with_reducible rfl)
              simp only [Act.put, List.setIfInBounds_toArray, List.set_cons_zero, List.set_cons_succ]
              refine wpAnyH_take (i := 5) (oi := { dst := some 103, op := Go.Op.move (Go.Operand.tmp 13), type := 3, pos := "law.go:185", after := #[], guard := none }) (v := ?_) rfl (by kernel_rfl) (by kernel_rfl) (by kernel_rfl) (fun _ _ _ h => h) (Or.inl ⟨by rfl, ?_⟩) (by first | exact ⟨kA, kB⟩) ?_
              rotate_left
              · (intro w hSw; obtain ⟨s0, s1⟩ := hSw; go_simp <;> with_reducible rfl)
              simp only [Act.put, List.setIfInBounds_toArray, List.set_cons_zero, List.set_cons_succ]
              refine wpAnyH_take (i := 6) (oi := { dst := some 104, op := Go.Op.indexAddr 49 (Go.Operand.tmp 102) (Go.Operand.tmp 103), type := 0, pos := "law.go:185", after := #[{ on := 4, ground := Go.Ground.data }, { on := 5, ground := Go.Ground.data }], guard := none }) (v := ?_) rfl (by kernel_rfl) (by kernel_rfl) (by kernel_rfl) (fun _ _ _ h => h) (Or.inl ⟨by rfl, ?_⟩) (by first | exact ⟨kA, kB⟩) ?_
              rotate_left
              · (intro w hSw; obtain ⟨s0, s1⟩ := hSw; go_simp <;> with_reducible rfl)
              simp only [Act.put, List.setIfInBounds_toArray, List.set_cons_zero, List.set_cons_succ]
              refine wpAnyH_take (i := 7) (oi := { dst := some 105, op := Go.Op.load 30 (Go.Operand.tmp 104), type := 30, pos := "law.go:185", after := #[{ on := 6, ground := Go.Ground.data }], guard := none }) (v := ?_) rfl (by kernel_rfl) (by kernel_rfl) (by kernel_rfl) (fun _ _ _ h => h) (Or.inl ⟨by rfl, ?_⟩) (by first | exact ⟨kA, kB⟩) ?_
              rotate_left
              · (intro w hSw; obtain ⟨s0, s1⟩ := hSw; go_simp <;> with_reducible rfl)
              simp only [Act.put, List.setIfInBounds_toArray, List.set_cons_zero, List.set_cons_succ]
              refine wpAnyH_ready (rs := [8]) (by kernel_rfl) (by simp) ?_
              refine AllReadyH.cons (o := { dst := some 106, op := Go.Op.call { callee := Go.Callee.value (Go.Operand.func 18), args := #[Go.Operand.tmp 101, Go.Operand.tmp 105], argTypes := #[30, 30] }, type := 4, pos := "law.go:185", after := #[{ on := 3, ground := Go.Ground.data }, { on := 7, ground := Go.Ground.data }], guard := none }) rfl (fun K hK => ?_) AllReadyH.nil
              go_simp
              refine (same_eq _ _ 128 _ (w6.drewN (nd + 1)) RA.out RB.out).mono ?_
              rintro e w7 ⟨rfl, n7, rfl⟩
              go_wp2_with fail
              refine hK.out _ _ (by first | exact ⟨kA, kB⟩) (fun hHeld => ?_)
              clear hK K hHeld
              try simp only [Act.put, List.setIfInBounds_toArray, List.set_cons_zero, List.set_cons_succ]
              refine wpAnyH_take (i := 9) (oi := { dst := some 107, op := Go.Op.unOp Go.UnOp.not 4 (Go.Operand.tmp 106), type := 4, pos := "law.go:185", after := #[{ on := 8, ground := Go.Ground.data }], guard := none }) (v := ?_) rfl (by kernel_rfl) (by kernel_rfl) (by kernel_rfl) (fun _ _ _ h => h) (Or.inl ⟨by rfl, ?_⟩) (by first | exact ⟨kA, kB⟩) ?_
              rotate_left
              · (intro w hSw; obtain ⟨s0, s1⟩ := hSw; go_simp <;> with_reducible rfl)
              simp only [Act.put, List.setIfInBounds_toArray, List.set_cons_zero, List.set_cons_succ]
              refine wpAnyH_done (by kernel_rfl) ?_ _
              go_wp2
              have hj6 := HJ.out
              exact ⟨⟨j + 1, by simp, by omega, _, rfl⟩, by simp [intOf]; omega⟩
            · have hji : (6 : Int) ≤ (j : Int) := by omega
              clear hj hj6
              go_wp2_with fail
              have hk25 := HK25.out
              exact ⟨⟨k + 1, _, _, by simp, by omega, (H4.out.far A6.out (fun _ h _ => h)).drewN nd, ST4.out, ((((HA.out.over A3.out)).trans A4.out).over A6.out).drewN nd⟩, by simp [intOf]; omega⟩
    · have hex : (k : Int) = 25 ∧ (25 : Int) < (m : Int) ∨ (m : Int) ≤ (k : Int) := by omega
      clear hgo hk
      have HCR := Lib.hid (show Free (crashS s1 [] 0) 1 from Free.crash (k := 0) [] 0)
      rcases hex with ⟨h25, hm25⟩ | hm25
      · rw [h25]
        go_wp2_with (first
          | (go_at_call 21; refine (crash_dk d 6 0 _ F1 s1 [] 0 _ HDK.out ⟨none, 0, rfl, Nat.le_refl _, Nat.zero_le _, rfl, fun _ => rfl, fun h => absurd h (by decide)⟩ (fun _ _ h => absurd h (by decide))).mono ?_; rintro e w4 ⟨rfl, h4, a4⟩; obtain ⟨s4, hs4⟩ : ∃ s4, s4 = crashS s1 [] 0 := ⟨_, rfl⟩; rw [← hs4] at h4; have F4 := HCR.out; rw [← hs4] at F4; have H4 := Lib.hid h4; have A4 := Lib.hid a4; have FR4 := Lib.hid F4; clear h4 a4 F4 hs4)
          | (go_at_call 24; refine (live_dk d 6 _ s4 _ H4.out).mono ?_; rw [FR4.out.dead]; rintro e w5 ⟨rfl, rfl⟩)
          | (go_at_call 14; refine (flush_dk d 6 _ s4 _ H4.out).mono ?_; rw [flushS_plain FR4.out.fuse]; rintro e w5 ⟨rfl, h5, a5⟩; have H5 := Lib.hid h5; have A5 := Lib.hid a5; clear h5 a5)
          | (go_at_call 26; refine (lives_any _).mono ?_; rintro e w7 ⟨rfl, hb7⟩)
          | fail)
        go_ret
        have hB5 := ((HA.out.trans A4.out).trans A5.out).toBelow
        exact ⟨rfl, hB5.trans (hb7.mono hB5.size)⟩
      · go_wp2_with (first
          | (go_at_call 21; refine (crash_dk d 6 0 _ F1 s1 [] 0 _ HDK.out ⟨none, 0, rfl, Nat.le_refl _, Nat.zero_le _, rfl, fun _ => rfl, fun h => absurd h (by decide)⟩ (fun _ _ h => absurd h (by decide))).mono ?_; rintro e w4 ⟨rfl, h4, a4⟩; obtain ⟨s4, hs4⟩ : ∃ s4, s4 = crashS s1 [] 0 := ⟨_, rfl⟩; rw [← hs4] at h4; have F4 := HCR.out; rw [← hs4] at F4; have H4 := Lib.hid h4; have A4 := Lib.hid a4; have FR4 := Lib.hid F4; clear h4 a4 F4 hs4)
          | (go_at_call 24; refine (live_dk d 6 _ s4 _ H4.out).mono ?_; rw [FR4.out.dead]; rintro e w5 ⟨rfl, rfl⟩)
          | (go_at_call 14; refine (flush_dk d 6 _ s4 _ H4.out).mono ?_; rw [flushS_plain FR4.out.fuse]; rintro e w5 ⟨rfl, h5, a5⟩; have H5 := Lib.hid h5; have A5 := Lib.hid a5; clear h5 a5)
          | (go_at_call 26; refine (lives_any _).mono ?_; rintro e w7 ⟨rfl, hb7⟩)
          | fail)
        go_ret
        have hB5 := ((HA.out.trans A4.out).trans A5.out).toBelow
        exact ⟨rfl, hB5.trans (hb7.mono hB5.size)⟩
end Go.Proofs.Ytmkalkfmbheejaa
