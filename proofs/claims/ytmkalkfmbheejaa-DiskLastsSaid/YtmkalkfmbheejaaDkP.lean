/- The statements' disks: played, sectors. -/
import Derived.Test.YtmkalkfmbheejaaDkY
import Derived.Test.YtmkalkfmbheejaaDkA
namespace Go.Proofs.Ytmkalkfmbheejaa
open Go.RowKit

theorem writeS_free {s : DS} (hf : s.fuse = none) (i : Int) (b : List Nat) : (writeS s i b).1.fuse = none ∧ (writeS s i b).1.dead = s.dead ∧ (writeS s i b).1.Q.length ≤ s.Q.length + 1 := by
  have hs : stepS s = (s, true) := by unfold stepS; rw [hf]
  unfold writeS
  split
  · exact ⟨hf, rfl, Nat.le_succ _⟩
  · rw [hs]
    simp only [if_true]
    exact ⟨hf, trivial, by simp⟩

structure Free (s : DS) (k : Nat) : Prop where
  fuse : s.fuse = none
  dead : s.dead = false
  few : s.Q.length ≤ k
theorem Free.write {s : DS} {k : Nat} (h : Free s k) (i : Int) (b : List Nat) : Free (writeS s i b).1 (k + 1) := by
  obtain ⟨h1, h2, h3⟩ := writeS_free h.fuse i b
  exact ⟨h1, h2.trans h.dead, by have := h.few; omega⟩
theorem Free.flush {s : DS} {k : Nat} (h : Free s k) : Free (flushS s).1 (k + 1) := by
  rw [flushS_plain h.fuse]
  exact ⟨h.fuse, h.dead, by simp⟩
theorem Free.crash {s : DS} {k : Nat} (ks : List Int) (torn : Int) : Free (crashS s ks torn) (k + 1) := ⟨rfl, rfl, by simp [crashS]⟩
theorem Free.next {s : DS} {k : Nat} (h : Free s k) : Free s (k + 1) := ⟨h.fuse, h.dead, by have := h.few; omega⟩
theorem Free.new (n : Nat) : Free (newS n) 0 := ⟨rfl, rfl, by simp [newS]⟩

def PlRel (w : World) (d : Nat) (t : Value) (wr : World) : Prop :=
  ∃ k F s, t = .int .i64 ((k : Nat) : Int) ∧ k ≤ 30 ∧ Dk wr F d 6 s ∧ Free s k ∧ Adv Nul w F wr

theorem Adv.sep_old {F : Nat → Prop} {w wr : World} (h : Adv Nul w F wr) {b : Nat} (hb : b < w.heap.size) : ¬ F b := fun hF => by have := h.new_at hF; omega

set_option maxHeartbeats 3200000 in
theorem played_any (v : Value) (ds : List DkDo) (w : World) (h : DkDosIn w v ds) :
    Calls Try.prog 27 #[v] w fun e w' => ∃ d F s, e = .returned (.pointer (some ⟨d, 0, none⟩)) ∧ Dk w' F d 6 s ∧ Free s 30 ∧ Adv Nul w F w' := by
  obtain ⟨A, c, rfl, _, hcm⟩ := h.rd.form
  unfold maxLen at hcm
  have HD := Lib.hid h
  obtain ⟨m, hm⟩ : ∃ m, m = ds.length := ⟨_, rfl⟩
  have HM := Lib.hid hm
  have hfr0 := Free.new 6
  obtain ⟨s0, hs0⟩ : ∃ s0, s0 = newS 6 := ⟨_, rfl⟩
  have hnew := fun w => new_r 6 (by decide) (by decide) w
  rw [← hs0] at hnew hfr0
  have HNEW := Lib.hid hnew
  have HFR0 := Lib.hid hfr0
  rw [← hm]
  clear h hm hnew hfr0 hs0
  go_enter Try.func27, Try.ntmps27
  go_wp2_with (first
    | (go_at_call 7; refine (HNEW.out _).mono ?_; rintro e w1 ⟨d, F, rfl, h1, a1⟩; have H1 := Lib.hid h1; have A1 := Lib.hid a1; clear h1 a1)
    | fail)
  go_loopw [5] (PlRel w d) (fun t _ => 30 - (intOf t).toNat)
  case atStart => exact ⟨0, F, s0, rfl, by omega, H1.out, HFR0.out, A1.out⟩
  case round =>
    obtain ⟨k, F1, s, rfl, hk, hdk, hfr, ha⟩ := hrel
    clear H1 A1
    have HDK := Lib.hid hdk
    have HFR := Lib.hid hfr
    have HA := Lib.hid ha
    clear hdk hfr ha
    by_cases hgo : k < m ∧ k < 30
    · obtain ⟨hkm, hk30⟩ := hgo
      have hlt : k < ds.length := by have := HM.out; omega
      obtain ⟨b, o, c', e, hb, g0, g1, g2, g3, g4, g5⟩ := HD.out.at_ hlt
      clear g4
      rw [← HM.out] at e
      injection e with e1 e2 e3
      subst e1
      subst e3
      have hfit := HD.out.fit _ (List.getElem_mem hlt)
      obtain ⟨x, hx⟩ : ∃ x, x = ds[k] := ⟨_, rfl⟩
      rw [← hx] at g0 g1 g2 g3 g5 hfit
      have hbw : b < w.heap.size := hb
      have old : ∀ w' u j, w.cell? ⟨b, j, none⟩ = some u → Below w.heap.size w w' → w'.cell? ⟨b, j, none⟩ = some u := fun w' u j hu hB => (World.cell?_of_block (hB.block b hbw)).trans hu
      have B0 := HA.out.toBelow
      have k0 := old wr _ _ g0 B0
      have hki : (k : Int) < (m : Int) := by omega
      have hki2 : (k : Int) < 30 := by omega
      have HC7 : Hid (∀ w', Below w.heap.size w w' → w'.cell? ⟨b, o + k * 6 + 1, none⟩ = some (.int .i64 x.a) ∧ w'.cell? ⟨b, o + k * 6 + 3, none⟩ = some x.bv) := fun w' hB => ⟨old _ _ _ g1 hB, old _ _ _ g3 hB⟩
      have HC11 : Hid (∀ w', Below w.heap.size w w' → w'.cell? ⟨b, o + k * 6 + 5, none⟩ = some x.kv ∧ w'.cell? ⟨b, o + k * 6 + 2, none⟩ = some (.int .i64 x.n)) := fun w' hB => ⟨old _ _ _ g5 hB, old _ _ _ g2 hB⟩
      have HFIT := Lib.hid hfit
      have HB0 := Lib.hid B0
      have HK := Lib.hid hk
      have HK30 := Lib.hid hk30
      have HBW := Lib.hid hbw
      have hk2 : k + 1 ≤ 9223372036854775807 := by omega
      clear g0 g1 g2 g3 g5 hfit hx hb old B0 hlt hk hk30 hkm hbw e2
      by_cases q0 : x.kind = 0
      · rw [q0] at k0
        clear q0
        go_wp2_with fail
        refine wp_region_held_drew (S := (fun w' => w'.cell? ⟨b, o + k * 6 + 1, none⟩ = some (.int .i64 x.a) ∧ w'.cell? ⟨b, o + k * 6 + 3, none⟩ = some x.bv)) (by kernel_rfl) (by first | exact HC7.out _ HB0.out.drew | exact HC7.out _ HB3.out | exact HC7.out _ HB4.out) (fun hHeld => ?_)
        clear hHeld
        refine wpAnyH_take (i := 0) (oi := { dst := some 27, op := Go.Op.move (Go.Operand.tmp 3), type := 23, pos := "law.go:99", after := #[], guard := none }) (v := ?_) rfl (by kernel_rfl) (by kernel_rfl) (by kernel_rfl) (fun _ _ _ h => h) (Or.inl ⟨by rfl, ?_⟩) (by first | exact HC7.out _ HB0.out.drew | exact HC7.out _ HB3.out | exact HC7.out _ HB4.out) ?_
        rotate_left
        · (intro w hSw; obtain ⟨s0, s1⟩ := hSw; go_simp <;> with_reducible rfl)
        simp only [Act.put, List.setIfInBounds_toArray, List.set_cons_zero, List.set_cons_succ]
        refine wpAnyH_take (i := 1) (oi := { dst := some 28, op := Go.Op.move (Go.Operand.tmp 0), type := 22, pos := "law.go:99", after := #[], guard := none }) (v := ?_) rfl (by kernel_rfl) (by kernel_rfl) (by kernel_rfl) (fun _ _ _ h => h) (Or.inl ⟨by rfl, ?_⟩) (by first | exact HC7.out _ HB0.out.drew | exact HC7.out _ HB3.out | exact HC7.out _ HB4.out) ?_
        rotate_left
        · (intro w hSw; obtain ⟨s0, s1⟩ := hSw; go_simp <;> with_reducible rfl)
        simp only [Act.put, List.setIfInBounds_toArray, List.set_cons_zero, List.set_cons_succ]
        refine wpAnyH_take (i := 2) (oi := { dst := some 29, op := Go.Op.move (Go.Operand.tmp 5), type := 3, pos := "law.go:99", after := #[], guard := none }) (v := ?_) rfl (by kernel_rfl) (by kernel_rfl) (by kernel_rfl) (fun _ _ _ h => h) (Or.inl ⟨by rfl, ?_⟩) (by first | exact HC7.out _ HB0.out.drew | exact HC7.out _ HB3.out | exact HC7.out _ HB4.out) ?_
        rotate_left
        · (intro w hSw; obtain ⟨s0, s1⟩ := hSw; go_simp <;> with_reducible rfl)
        simp only [Act.put, List.setIfInBounds_toArray, List.set_cons_zero, List.set_cons_succ]
        refine wpAnyH_take (i := 3) (oi := { dst := some 30, op := Go.Op.indexAddr 22 (Go.Operand.tmp 28) (Go.Operand.tmp 29), type := 0, pos := "law.go:99", after := #[{ on := 1, ground := Go.Ground.data }, { on := 2, ground := Go.Ground.data }], guard := none }) (v := ?_) rfl (by kernel_rfl) (by kernel_rfl) (by kernel_rfl) (fun _ _ _ h => h) (Or.inl ⟨by rfl, ?_⟩) (by first | exact HC7.out _ HB0.out.drew | exact HC7.out _ HB3.out | exact HC7.out _ HB4.out) ?_
        rotate_left
        · (intro w hSw; obtain ⟨s0, s1⟩ := hSw; go_simp <;> with_reducible rfl)
        simp only [Act.put, List.setIfInBounds_toArray, List.set_cons_zero, List.set_cons_succ]
        refine wpAnyH_take (i := 4) (oi := { dst := some 31, op := Go.Op.fieldAddr 34 (Go.Operand.tmp 30) 1, type := 0, pos := "law.go:99", after := #[{ on := 3, ground := Go.Ground.data }], guard := none }) (v := ?_) rfl (by kernel_rfl) (by kernel_rfl) (by kernel_rfl) (fun _ _ _ h => h) (Or.inl ⟨by rfl, ?_⟩) (by first | exact HC7.out _ HB0.out.drew | exact HC7.out _ HB3.out | exact HC7.out _ HB4.out) ?_
        rotate_left
        · (intro w hSw; obtain ⟨s0, s1⟩ := hSw; go_simp <;> with_reducible rfl)
        simp only [Act.put, List.setIfInBounds_toArray, List.set_cons_zero, List.set_cons_succ]
        refine wpAnyH_take (i := 5) (oi := { dst := some 32, op := Go.Op.load 3 (Go.Operand.tmp 31), type := 3, pos := "law.go:99", after := #[{ on := 4, ground := Go.Ground.data }], guard := none }) (v := ?_) rfl (by kernel_rfl) (by kernel_rfl) (by kernel_rfl) (fun _ _ _ h => h) (Or.inl ⟨by rfl, ?_⟩) (by first | exact HC7.out _ HB0.out.drew | exact HC7.out _ HB3.out | exact HC7.out _ HB4.out) ?_
        rotate_left
        · (intro w hSw; obtain ⟨s0, s1⟩ := hSw; go_simp <;> with_reducible rfl)
        simp only [Act.put, List.setIfInBounds_toArray, List.set_cons_zero, List.set_cons_succ]
        refine wpAnyH_take (i := 7) (oi := { dst := some 34, op := Go.Op.move (Go.Operand.tmp 0), type := 22, pos := "law.go:99", after := #[], guard := none }) (v := ?_) rfl (by kernel_rfl) (by kernel_rfl) (by kernel_rfl) (fun _ _ _ h => h) (Or.inl ⟨by rfl, ?_⟩) (by first | exact HC7.out _ HB0.out.drew | exact HC7.out _ HB3.out | exact HC7.out _ HB4.out) ?_
        rotate_left
        · (intro w hSw; obtain ⟨s0, s1⟩ := hSw; go_simp <;> with_reducible rfl)
        simp only [Act.put, List.setIfInBounds_toArray, List.set_cons_zero, List.set_cons_succ]
        refine wpAnyH_take (i := 8) (oi := { dst := some 35, op := Go.Op.move (Go.Operand.tmp 5), type := 3, pos := "law.go:99", after := #[], guard := none }) (v := ?_) rfl (by kernel_rfl) (by kernel_rfl) (by kernel_rfl) (fun _ _ _ h => h) (Or.inl ⟨by rfl, ?_⟩) (by first | exact HC7.out _ HB0.out.drew | exact HC7.out _ HB3.out | exact HC7.out _ HB4.out) ?_
        rotate_left
        · (intro w hSw; obtain ⟨s0, s1⟩ := hSw; go_simp <;> with_reducible rfl)
        simp only [Act.put, List.setIfInBounds_toArray, List.set_cons_zero, List.set_cons_succ]
        refine wpAnyH_take (i := 9) (oi := { dst := some 36, op := Go.Op.indexAddr 22 (Go.Operand.tmp 34) (Go.Operand.tmp 35), type := 0, pos := "law.go:99", after := #[{ on := 7, ground := Go.Ground.data }, { on := 8, ground := Go.Ground.data }], guard := none }) (v := ?_) rfl (by kernel_rfl) (by kernel_rfl) (by kernel_rfl) (fun _ _ _ h => h) (Or.inl ⟨by rfl, ?_⟩) (by first | exact HC7.out _ HB0.out.drew | exact HC7.out _ HB3.out | exact HC7.out _ HB4.out) ?_
        rotate_left
        · (intro w hSw; obtain ⟨s0, s1⟩ := hSw; go_simp <;> with_reducible rfl)
        simp only [Act.put, List.setIfInBounds_toArray, List.set_cons_zero, List.set_cons_succ]
        refine wpAnyH_take (i := 10) (oi := { dst := some 37, op := Go.Op.fieldAddr 34 (Go.Operand.tmp 36) 3, type := 0, pos := "law.go:99", after := #[{ on := 9, ground := Go.Ground.data }], guard := none }) (v := ?_) rfl (by kernel_rfl) (by kernel_rfl) (by kernel_rfl) (fun _ _ _ h => h) (Or.inl ⟨by rfl, ?_⟩) (by first | exact HC7.out _ HB0.out.drew | exact HC7.out _ HB3.out | exact HC7.out _ HB4.out) ?_
        rotate_left
        · (intro w hSw; obtain ⟨s0, s1⟩ := hSw; go_simp <;> with_reducible rfl)
        simp only [Act.put, List.setIfInBounds_toArray, List.set_cons_zero, List.set_cons_succ]
        refine wpAnyH_take (i := 11) (oi := { dst := some 38, op := Go.Op.load 30 (Go.Operand.tmp 37), type := 30, pos := "law.go:99", after := #[{ on := 10, ground := Go.Ground.data }], guard := none }) (v := ?_) rfl (by kernel_rfl) (by kernel_rfl) (by kernel_rfl) (fun _ _ _ h => h) (Or.inl ⟨by rfl, ?_⟩) (by first | exact HC7.out _ HB0.out.drew | exact HC7.out _ HB3.out | exact HC7.out _ HB4.out) ?_
        rotate_left
        · (intro w hSw; obtain ⟨s0, s1⟩ := hSw; go_simp <;> with_reducible rfl)
        simp only [Act.put, List.setIfInBounds_toArray, List.set_cons_zero, List.set_cons_succ]
        refine wpAnyH_ready (rs := [6]) (by kernel_rfl) (by simp) ?_
        refine AllReadyH.cons (o := { dst := some 33, op := Go.Op.call { callee := Go.Callee.value (Go.Operand.func 29), args := #[Go.Operand.tmp 32, Go.Operand.const (Go.Value.int Go.IntKind.i64 0), Go.Operand.const (Go.Value.int Go.IntKind.i64 5)], argTypes := #[3, 3, 3] }, type := 3, pos := "law.go:99", after := #[{ on := 5, ground := Go.Ground.data }], guard := none }) rfl (fun K hK => ?_) AllReadyH.nil
        go_simp
        refine (within_any x.a 0 5 _ (by decide)).mono ?_
        rintro e w2 ⟨y, rfl, _, _, _, rfl⟩
        go_wp2_with fail
        refine hK.out _ _ (by first | exact HC7.out _ HB0.out.drew | exact HC7.out _ HB3.out | exact HC7.out _ HB4.out) (fun hHeld => ?_)
        clear hK K hHeld
        try simp only [Act.put, List.setIfInBounds_toArray, List.set_cons_zero, List.set_cons_succ]
        refine wpAnyH_ready (rs := [12]) (by kernel_rfl) (by simp) ?_
        refine AllReadyH.cons (o := { dst := some 39, op := Go.Op.call { callee := Go.Callee.value (Go.Operand.func 9), args := #[Go.Operand.tmp 38], argTypes := #[30] }, type := 30, pos := "law.go:99", after := #[{ on := 11, ground := Go.Ground.data }, { on := 6, ground := Go.Ground.chain }], guard := none }) rfl (fun K hK => ?_) AllReadyH.nil
        go_simp
        refine (sector_any x.bv x.b _ (HFIT.out.b.far HB0.out.drew)).mono ?_
        rintro e w3 ⟨v3, F3, rfl, h3, a3⟩
        have H3 := Lib.hid h3
        have A3 := Lib.hid a3
        have HB3 := Lib.hid ((HA.out.drew.over a3).toBelow)
        clear h3 a3
        go_wp2_with fail
        refine hK.out _ _ (by first | exact HC7.out _ HB0.out.drew | exact HC7.out _ HB3.out | exact HC7.out _ HB4.out) (fun hHeld => ?_)
        clear hK K hHeld
        try simp only [Act.put, List.setIfInBounds_toArray, List.set_cons_zero, List.set_cons_succ]
        refine wpAnyH_ready (rs := [13]) (by kernel_rfl) (by simp) ?_
        refine AllReadyH.cons (o := { dst := some 40, op := Go.Op.call { callee := Go.Callee.value (Go.Operand.func 12), args := #[Go.Operand.tmp 27, Go.Operand.tmp 33, Go.Operand.tmp 39], argTypes := #[23, 3, 30] }, type := 24, pos := "law.go:99", after := #[{ on := 0, ground := Go.Ground.data }, { on := 6, ground := Go.Ground.data }, { on := 12, ground := Go.Ground.data }, { on := 12, ground := Go.Ground.chain }], guard := none }) rfl (fun K hK => ?_) AllReadyH.nil
        go_simp
        refine (write_dk d 6 128 y v3 F1 s (sec x.b) _ (HDK.out.far A3.out.of_drew (fun _ h _ => h)) H3.out.rd (H3.out.new_sep A3.out.of_drew HDK.out.bd) (by have := HFR.out.few; have := HK.out; omega)).mono ?_
        rintro e w4 ⟨rfl, F4, h4, a4⟩
        have H4 := Lib.hid h4
        have A4 := Lib.hid ((HA.out.drew.over A3.out).trans a4)
        have HB4 := Lib.hid A4.out.toBelow
        clear h4 a4
        go_wp2_with fail
        refine hK.out _ _ (by first | exact HC7.out _ HB0.out.drew | exact HC7.out _ HB3.out | exact HC7.out _ HB4.out) (fun hHeld => ?_)
        clear hK K hHeld
        try simp only [Act.put, List.setIfInBounds_toArray, List.set_cons_zero, List.set_cons_succ]
        refine wpAnyH_done (by kernel_rfl) ?_ _
        go_wp2
        have hk30 := HK30.out
        exact ⟨⟨k + 1, F4, _, by simp, by omega, H4.out, HFR.out.write y (sec x.b), A4.out⟩, by simp [intOf]; omega⟩
      · by_cases q1 : x.kind = 1
        · rw [q1] at k0
          clear q0 q1
          go_wp2_with (first
            | (go_at_call 14; refine (flush_dk d 6 F1 s _ HDK.out).mono ?_; rintro e w4 ⟨rfl, h4, a4⟩; have H4 := Lib.hid h4; have A4 := Lib.hid (HA.out.trans a4); clear h4 a4)
            | fail)
          have hk30 := HK30.out
          exact ⟨⟨k + 1, F1, _, by simp, by omega, H4.out, HFR.out.flush, A4.out⟩, by simp [intOf]; omega⟩
        · by_cases q4 : x.kind = 4
          · rw [q4] at k0
            clear q0 q1 q4
            go_wp2_with fail
            refine wp_region_held_drew (S := (fun w' => w'.cell? ⟨b, o + k * 6 + 5, none⟩ = some x.kv ∧ w'.cell? ⟨b, o + k * 6 + 2, none⟩ = some (.int .i64 x.n))) (by kernel_rfl) (by first | exact HC11.out _ HB0.out.drew | exact HC11.out _ HB4.out) (fun hHeld => ?_)
            clear hHeld
            refine wpAnyH_take (i := 0) (oi := { dst := some 47, op := Go.Op.move (Go.Operand.tmp 3), type := 23, pos := "law.go:103", after := #[], guard := none }) (v := ?_) rfl (by kernel_rfl) (by kernel_rfl) (by kernel_rfl) (fun _ _ _ h => h) (Or.inl ⟨by rfl, ?_⟩) (by first | exact HC11.out _ HB0.out.drew | exact HC11.out _ HB4.out) ?_
            rotate_left
            · (intro w hSw; obtain ⟨s0, s1⟩ := hSw; go_simp <;> with_reducible rfl)
            simp only [Act.put, List.setIfInBounds_toArray, List.set_cons_zero, List.set_cons_succ]
            refine wpAnyH_take (i := 1) (oi := { dst := some 48, op := Go.Op.move (Go.Operand.tmp 0), type := 22, pos := "law.go:103", after := #[], guard := none }) (v := ?_) rfl (by kernel_rfl) (by kernel_rfl) (by kernel_rfl) (fun _ _ _ h => h) (Or.inl ⟨by rfl, ?_⟩) (by first | exact HC11.out _ HB0.out.drew | exact HC11.out _ HB4.out) ?_
            rotate_left
            · (intro w hSw; obtain ⟨s0, s1⟩ := hSw; go_simp <;> with_reducible rfl)
            simp only [Act.put, List.setIfInBounds_toArray, List.set_cons_zero, List.set_cons_succ]
            refine wpAnyH_take (i := 2) (oi := { dst := some 49, op := Go.Op.move (Go.Operand.tmp 5), type := 3, pos := "law.go:103", after := #[], guard := none }) (v := ?_) rfl (by kernel_rfl) (by kernel_rfl) (by kernel_rfl) (fun _ _ _ h => h) (Or.inl ⟨by rfl, ?_⟩) (by first | exact HC11.out _ HB0.out.drew | exact HC11.out _ HB4.out) ?_
            rotate_left
            · (intro w hSw; obtain ⟨s0, s1⟩ := hSw; go_simp <;> with_reducible rfl)
            simp only [Act.put, List.setIfInBounds_toArray, List.set_cons_zero, List.set_cons_succ]
            refine wpAnyH_take (i := 3) (oi := { dst := some 50, op := Go.Op.indexAddr 22 (Go.Operand.tmp 48) (Go.Operand.tmp 49), type := 0, pos := "law.go:103", after := #[{ on := 1, ground := Go.Ground.data }, { on := 2, ground := Go.Ground.data }], guard := none }) (v := ?_) rfl (by kernel_rfl) (by kernel_rfl) (by kernel_rfl) (fun _ _ _ h => h) (Or.inl ⟨by rfl, ?_⟩) (by first | exact HC11.out _ HB0.out.drew | exact HC11.out _ HB4.out) ?_
            rotate_left
            · (intro w hSw; obtain ⟨s0, s1⟩ := hSw; go_simp <;> with_reducible rfl)
            simp only [Act.put, List.setIfInBounds_toArray, List.set_cons_zero, List.set_cons_succ]
            refine wpAnyH_take (i := 4) (oi := { dst := some 51, op := Go.Op.fieldAddr 34 (Go.Operand.tmp 50) 5, type := 0, pos := "law.go:103", after := #[{ on := 3, ground := Go.Ground.data }], guard := none }) (v := ?_) rfl (by kernel_rfl) (by kernel_rfl) (by kernel_rfl) (fun _ _ _ h => h) (Or.inl ⟨by rfl, ?_⟩) (by first | exact HC11.out _ HB0.out.drew | exact HC11.out _ HB4.out) ?_
            rotate_left
            · (intro w hSw; obtain ⟨s0, s1⟩ := hSw; go_simp <;> with_reducible rfl)
            simp only [Act.put, List.setIfInBounds_toArray, List.set_cons_zero, List.set_cons_succ]
            refine wpAnyH_take (i := 5) (oi := { dst := some 52, op := Go.Op.load 32 (Go.Operand.tmp 51), type := 32, pos := "law.go:103", after := #[{ on := 4, ground := Go.Ground.data }], guard := none }) (v := ?_) rfl (by kernel_rfl) (by kernel_rfl) (by kernel_rfl) (fun _ _ _ h => h) (Or.inl ⟨by rfl, ?_⟩) (by first | exact HC11.out _ HB0.out.drew | exact HC11.out _ HB4.out) ?_
            rotate_left
            · (intro w hSw; obtain ⟨s0, s1⟩ := hSw; go_simp <;> with_reducible rfl)
            simp only [Act.put, List.setIfInBounds_toArray, List.set_cons_zero, List.set_cons_succ]
            refine wpAnyH_take (i := 6) (oi := { dst := some 53, op := Go.Op.move (Go.Operand.tmp 0), type := 22, pos := "law.go:103", after := #[], guard := none }) (v := ?_) rfl (by kernel_rfl) (by kernel_rfl) (by kernel_rfl) (fun _ _ _ h => h) (Or.inl ⟨by rfl, ?_⟩) (by first | exact HC11.out _ HB0.out.drew | exact HC11.out _ HB4.out) ?_
            rotate_left
            · (intro w hSw; obtain ⟨s0, s1⟩ := hSw; go_simp <;> with_reducible rfl)
            simp only [Act.put, List.setIfInBounds_toArray, List.set_cons_zero, List.set_cons_succ]
            refine wpAnyH_take (i := 7) (oi := { dst := some 54, op := Go.Op.move (Go.Operand.tmp 5), type := 3, pos := "law.go:103", after := #[], guard := none }) (v := ?_) rfl (by kernel_rfl) (by kernel_rfl) (by kernel_rfl) (fun _ _ _ h => h) (Or.inl ⟨by rfl, ?_⟩) (by first | exact HC11.out _ HB0.out.drew | exact HC11.out _ HB4.out) ?_
            rotate_left
            · (intro w hSw; obtain ⟨s0, s1⟩ := hSw; go_simp <;> with_reducible rfl)
            simp only [Act.put, List.setIfInBounds_toArray, List.set_cons_zero, List.set_cons_succ]
            refine wpAnyH_take (i := 8) (oi := { dst := some 55, op := Go.Op.indexAddr 22 (Go.Operand.tmp 53) (Go.Operand.tmp 54), type := 0, pos := "law.go:103", after := #[{ on := 6, ground := Go.Ground.data }, { on := 7, ground := Go.Ground.data }], guard := none }) (v := ?_) rfl (by kernel_rfl) (by kernel_rfl) (by kernel_rfl) (fun _ _ _ h => h) (Or.inl ⟨by rfl, ?_⟩) (by first | exact HC11.out _ HB0.out.drew | exact HC11.out _ HB4.out) ?_
            rotate_left
            · (intro w hSw; obtain ⟨s0, s1⟩ := hSw; go_simp <;> with_reducible rfl)
            simp only [Act.put, List.setIfInBounds_toArray, List.set_cons_zero, List.set_cons_succ]
            refine wpAnyH_take (i := 9) (oi := { dst := some 56, op := Go.Op.fieldAddr 34 (Go.Operand.tmp 55) 2, type := 0, pos := "law.go:103", after := #[{ on := 8, ground := Go.Ground.data }], guard := none }) (v := ?_) rfl (by kernel_rfl) (by kernel_rfl) (by kernel_rfl) (fun _ _ _ h => h) (Or.inl ⟨by rfl, ?_⟩) (by first | exact HC11.out _ HB0.out.drew | exact HC11.out _ HB4.out) ?_
            rotate_left
            · (intro w hSw; obtain ⟨s0, s1⟩ := hSw; go_simp <;> with_reducible rfl)
            simp only [Act.put, List.setIfInBounds_toArray, List.set_cons_zero, List.set_cons_succ]
            refine wpAnyH_take (i := 10) (oi := { dst := some 57, op := Go.Op.load 3 (Go.Operand.tmp 56), type := 3, pos := "law.go:103", after := #[{ on := 9, ground := Go.Ground.data }], guard := none }) (v := ?_) rfl (by kernel_rfl) (by kernel_rfl) (by kernel_rfl) (fun _ _ _ h => h) (Or.inl ⟨by rfl, ?_⟩) (by first | exact HC11.out _ HB0.out.drew | exact HC11.out _ HB4.out) ?_
            rotate_left
            · (intro w hSw; obtain ⟨s0, s1⟩ := hSw; go_simp <;> with_reducible rfl)
            simp only [Act.put, List.setIfInBounds_toArray, List.set_cons_zero, List.set_cons_succ]
            refine wpAnyH_ready (rs := [11]) (by kernel_rfl) (by simp) ?_
            refine AllReadyH.cons (o := { dst := some 58, op := Go.Op.call { callee := Go.Callee.value (Go.Operand.func 21), args := #[Go.Operand.tmp 47, Go.Operand.tmp 52, Go.Operand.tmp 57], argTypes := #[23, 32, 3] }, type := 0, pos := "law.go:103", after := #[{ on := 0, ground := Go.Ground.data }, { on := 5, ground := Go.Ground.data }, { on := 10, ground := Go.Ground.data }], guard := none }) rfl (fun K hK => ?_) AllReadyH.nil
            go_simp
            refine (crash_dk d 6 _ x.kv F1 s x.ks x.n _ (HDK.out.drewN 1) (HFIT.out.k.far_old HB0.out.drew) (fun j hj hn => HA.out.sep_old (HFIT.out.kold j hj hn))).mono ?_
            rintro e w4 ⟨rfl, h4, a4⟩
            have H4 := Lib.hid h4
            have A4 := Lib.hid (HA.out.drew.trans a4)
            have HB4 := Lib.hid A4.out.toBelow
            clear h4 a4
            go_wp2_with fail
            refine hK.out _ _ (by first | exact HC11.out _ HB0.out.drew | exact HC11.out _ HB4.out) (fun hHeld => ?_)
            clear hK K hHeld
            try simp only [Act.put, List.setIfInBounds_toArray, List.set_cons_zero, List.set_cons_succ]
            refine wpAnyH_done (by kernel_rfl) ?_ _
            go_wp2
            have hk30 := HK30.out
            exact ⟨⟨k + 1, F1, _, by simp, by omega, H4.out, Free.crash x.ks x.n, A4.out⟩, by simp [intOf]; omega⟩
          · have q0' : (x.kind == 0) = false := by simp [q0]
            have q1' : (x.kind == 1) = false := by simp [q1]
            have q4' : (x.kind == 4) = false := by simp [q4]
            clear q0 q1 q4
            go_wp2_with fail
            have hk30 := HK30.out
            exact ⟨⟨k + 1, F1, _, by simp, by omega, HDK.out, HFR.out.next, HA.out⟩, by simp [intOf]; omega⟩
    · have hfin : Free s 30 := ⟨HFR.out.fuse, HFR.out.dead, by have := HFR.out.few; omega⟩
      have HFIN := Lib.hid hfin
      rcases Nat.lt_or_ge k m with h1 | h1
      · have h2 : k = 30 := by omega
        subst h2
        have h3 : ((30 : Nat) : Int) < (m : Int) := by omega
        clear hgo hfin h1
        go_wp2_with fail
        go_ret
        exact ⟨d, F1, s, rfl, HDK.out, HFIN.out, HA.out⟩
      · have h3 : (m : Int) ≤ (k : Int) := by omega
        clear hgo hfin h1
        go_wp2_with fail
        go_ret
        exact ⟨d, F1, s, rfl, HDK.out, HFIN.out, HA.out⟩
end Go.Proofs.Ytmkalkfmbheejaa
