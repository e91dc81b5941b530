/- The document's Decode of an inode. -/
import Derived.Test.YtbdjlmdbnoghnaaInH
namespace Go.Proofs.Ytbdjlmdbnoghnaa
open Go.ChangeShapes Go.WideShapes Go.ChangeAt Go.RowKit

theorem bl_mid {bl : List Nat} {V : Nat} (h : Bl bl V (8 * 128)) (a n : Nat) (hn : a + n ≤ 8 * 128) : Bl ((bl.drop a).take n) (bitsAt 128 V a n) n := by
  have h1 := (h.parts (n := a) (by omega)).2
  have h2 := (h1.parts (n := n) (by omega)).1
  have e := rest_bits 128 V a n hn
  unfold rest at e
  rw [e] at h2
  exact h2
theorem wrap_bitsK (q V a n : Nat) (hn : n ≤ 62) : IntKind.i64.wrap ((bitsAt q V a n : Nat) : Int) = ((bitsAt q V a n : Nat) : Int) := by
  have h := bitsAt_lt q V a n
  have h2 : 2 ^ n ≤ 2 ^ 62 := Nat.pow_le_pow_right (by decide) hn
  rw [IntKind.wrap_i64]; omega
theorem rd_mid {w : World} {g c a n : Nat} {bl : List Nat} (h : Rd w 1 (.slice (some ⟨g, 0, none⟩) (8 * 128) c) (8 * 128) (bl.map u8)) (hn : a + n ≤ 8 * 128) (h0 : 0 < n) : Rd w 1 (.slice (some ⟨g, a, none⟩) n (c - a)) n (((bl.drop a).take n).map u8) := by
  obtain ⟨A', c', e, h1, h2, h3, h4, h5⟩ := h
  injection e with e1 e2 e3
  subst e1
  subst e3
  obtain ⟨ad, he, hb, hc⟩ := h5 (by decide)
  injection he with he
  subst he
  refine ⟨some ⟨g, a, none⟩, c - a, rfl, ?_, ?_, ?_, ?_, fun _ => ⟨⟨g, a, none⟩, rfl, hb, fun j u hj => ?_⟩⟩
  · omega
  · omega
  · simp only [List.length_map, List.length_take, List.length_drop] at h3 ⊢
    omega
  · exact fun k => by cases k
  · rw [List.getElem?_map, List.getElem?_take] at hj
    split at hj
    · rw [List.getElem?_drop, ← List.getElem?_map] at hj
      have := hc (a + j) u hj
      rw [add_none] at this ⊢
      rwa [Nat.zero_add] at this
    · simp at hj

/-- while places are read -/
def QrS (W : World) (z u g d V : Nat) (bl : List Nat) (j : Nat) (w : World) : Prop :=
  ∃ F, Sl w F 5 1 (.slice (some ⟨g, 0, none⟩) (8 * 128) d) (8 * 128) (bl.map u8) ∧ Bl bl V (8 * 128) ∧ Blk w u 25 (ic (prtJ V j)) ∧ Blk w z 25 (ic zeroI) ∧ Adv Nul W F w ∧ u ≠ z ∧ W.heap.size ≤ u ∧ W.heap.size ≤ z

def QrL (W : World) (z u g d V : Nat) (bl : List Nat) (t : Value) (wr : World) : Prop := ∃ j : Nat, t = .int .i64 (j : Int) ∧ j ≤ 8 ∧ QrS W z u g d V bl j wr
theorem QrS.put {W w : World} {z u g d V j : Nat} {bl : List Nat} (h : QrS W z u g d V bl j w) (hj : j < 8) : QrS W z u g d V bl (j + 1) (w.setCell ⟨u, 3 + j, none⟩ (.int .i64 ((bitsAt 128 V (73 + 12 * j) 12 : Nat) : Int))) := by
  obtain ⟨F, q1, q2, q3, q4, q5, q6, q7, q8⟩ := h
  have hgu : ∀ k, (Value.slice (some ⟨g, 0, none⟩) (8 * 128) d).ownBlock = some k → k ≠ u := by
    intro k hk e
    subst e
    have hne := own_blk_ne q1.own q3 (by decide)
    exact hne hk
  refine ⟨fun k => F k ∧ k ≠ u, ⟨own_keep q1.own fun k hk => heap_setCell_other w ⟨u, 3 + j, none⟩ k _ (hgu k hk), fun k hk => ⟨q1.inF k hk, hgu k hk⟩, fun k hk => by simpa using q1.bd k hk.1⟩, q2, ?_, q4.far (p := ⟨u, 3 + j, none⟩) (fun e => q6 e.symm) _, (q5.setCell (.inr q7) _).sub (fun k hk => hk.1), q6, q7, q8⟩
  have := q3.set_ (3 + j) (.int .i64 ((bitsAt 128 V (73 + 12 * j) 12 : Nat) : Int))
  rwa [ic_put V j hj] at this

set_option maxRecDepth 3000 in
set_option maxHeartbeats 3200000 in
theorem qdecode_any (v : Value) (l : List Nat) (w : World) (h : In w v l) : Calls Try.prog 16 #[v] w (DecR w l) := by
  obtain ⟨n, hn⟩ : ∃ n, n = l.length := ⟨_, rfl⟩
  have HIN := Lib.hid (h.num hn)
  have hrd := h.rd
  have HB := Lib.hid h.lt
  rw [← hn] at hrd
  obtain ⟨A, c, rfl, hc1, hc2⟩ := hrd.form
  clear hc1 hc2 hrd
  obtain ⟨z, hz⟩ : ∃ z, z = w.heap.size := ⟨_, rfl⟩
  obtain ⟨V0, hV⟩ : ∃ V, V = w.alloc (.cells (ic zeroI) 25) := ⟨_, rfl⟩
  have HZ := Lib.hid (show Blk V0 z 25 (ic zeroI) by rw [hV, hz]; exact Blk.new _ _ _)
  have HA := Lib.hid (show Adv Nul w Nul V0 by rw [hV]; exact (Adv.refl _ _).alloc _)
  have HI0 := Lib.hid (HIN.out.far (W := w) (w := V0) (by rw [hV]; exact (Adv.toBelow ((Adv.refl _ _).alloc _))))
  have HV := Lib.hid hV
  have HZZ := Lib.hid hz
  have HLZ := Lib.hid (show w.heap.size ≤ z by rw [hz]; exact Nat.le_refl _)
  have HN := Lib.hid hn
  clear hn hV hz h
  have hzc : ic zeroI = #[.int .i64 0, .int .i64 0, .int .u64 0, .int .i64 0, .int .i64 0, .int .i64 0, .int .i64 0, .int .i64 0, .int .i64 0, .int .i64 0, .int .i64 0] := rfl
  rw [hzc] at HV
  clear hzc
  by_cases hn : n = 128
  · subst hn
    obtain ⟨V, hVN⟩ : ∃ V, V = byN l := ⟨_, rfl⟩
    have HVN := Lib.hid hVN
    have hof : Calls Try.prog 26 #[.slice A 128 c] V0 fun e w' => ∃ v' F bl, e = .returned v' ∧ Sl w' F 5 1 v' (8 * 128) (bl.map u8) ∧ Bl bl V (8 * 128) ∧ Adv Nul V0 F w' := by rw [hVN]; exact of_any _ 128 l V0 HI0.out (by decide)
    have HOF := Lib.hid hof
    clear hof hVN
    go_enter Try.func16, Try.ntmps16
    go_upto_region 1 with (fail)
    rw [← HV.out, ← HZZ.out]
    go_upto_region 4 with (first
      | (go_at_call 26; refine HOF.out.mono ?_; rintro e w1 ⟨v1, F1, bl, rfl, s1, b1, a1⟩; obtain ⟨g, d, rfl, hg, hd'⟩ := s1.form (by decide); have hd : 8 * 128 ≤ d ∧ True := ⟨hd', trivial⟩; clear hd' hg; have HS1 := Lib.hid s1; have HB1 := Lib.hid b1; have HA1 := Lib.hid a1; clear s1 b1 a1)
      | fail)
    have hnum : ∀ (a n : Nat) (w' : World), a + n ≤ 8 * 128 → 0 < n → n ≤ 64 → Adv Nul w1 Nul w' → Calls Try.prog 27 #[.slice (some ⟨g, a, none⟩) n (d - a)] w' fun e w'' => e = .returned (.int .u64 ((bitsAt 128 V a n : Nat) : Int)) ∧ w' = w'' := fun a n w' h1 h2 h3 ha =>
      numberB_any _ _ _ n w' ((rd_mid HS1.out.rd h1 h2).far (fun k _ _ hk => ha.block k hk (fun h => h)) ha.size) (bl_mid HB1.out a n h1) h3
    have HNUM := Lib.hid hnum
    have hd' : 1024 ≤ d := hd.1
    have k2 : (2 : Int) ≤ (d : Int) := by omega
    have k33 : (33 : Int) ≤ (d : Int) := by omega
    have k73 : (73 : Int) ≤ (d : Int) := by omega
    have n2 : (d = 2) = False := eq_false (by omega)
    have n33 : (d = 33) = False := eq_false (by omega)
    have e0 := wrap_bits 128 V 0 2 (by decide)
    have e1 := wrap_bits 128 V 2 31 (by decide)
    have HD := Lib.hid hd'
    have hw0 := wrap_bitsK 128 V 0 2 (by decide)
    have hw1 := wrap_bitsK 128 V 2 31 (by decide)
    have hagg : Value.agg #[.int .i64 (IntKind.i64.wrap ((bitsAt 128 V 0 2 : Nat) : Int)), .int .i64 (IntKind.i64.wrap ((bitsAt 128 V 2 31 : Nat) : Int)), .int .u64 ((bitsAt 128 V 33 40 : Nat) : Int), .int .i64 0, .int .i64 0, .int .i64 0, .int .i64 0, .int .i64 0, .int .i64 0, .int .i64 0, .int .i64 0] = .agg (ic (prtJ V 0)) := by rw [hw0, hw1]; rfl
    have HAGG := Lib.hid hagg
    clear hw0 hw1 hagg
    clear hnum hd hd'
    go_cut [5] (fun t wr => t = .pointer (some ⟨w1.heap.size, 0, none⟩) ∧ wr = (w1.drew.alloc (.cells (ic zeroI) 25)).setCells w1.heap.size 0 (ic (prtJ V 0)).toList)
    case first =>
      refine wp_region_held_drew (S := (fun _ => True)) (by kernel_rfl) (by first | exact trivial) (fun hHeld => ?_)
      clear hHeld
      refine wpAnyH_take (i := 0) (oi := ⟨some 15, .move (.tmp 4), 26, "ref.go:57", #[], none⟩) (v := ?_) rfl (by kernel_rfl) (by kernel_rfl) (by kernel_rfl) (fun _ _ _ h => h) (Or.inl ⟨by rfl, ?_⟩) (by first | exact trivial) ?_
      rotate_left
      · (intro w hSw; obtain _ := hSw; go_simp <;> with_reducible rfl)
      simp only [Act.put, List.setIfInBounds_toArray, List.set_cons_zero, List.set_cons_succ]
      refine wpAnyH_take (i := 1) (oi := ⟨some 16, .slice 26 (.tmp 15) none (some (.const (Go.Value.int Go.IntKind.i64 2))) none, 26, "ref.go:57", #[⟨0, .data⟩], none⟩) (v := ?_) rfl (by kernel_rfl) (by kernel_rfl) (by kernel_rfl) (fun _ _ _ h => h) (Or.inl ⟨by rfl, ?_⟩) (by first | exact trivial) ?_
      rotate_left
      · (intro w hSw; obtain _ := hSw; go_simp <;> with_reducible rfl)
      simp only [Act.put, List.setIfInBounds_toArray, List.set_cons_zero, List.set_cons_succ]
      refine wpAnyH_take (i := 4) (oi := ⟨some 19, .move (.tmp 4), 26, "ref.go:57", #[], none⟩) (v := ?_) rfl (by kernel_rfl) (by kernel_rfl) (by kernel_rfl) (fun _ _ _ h => h) (Or.inl ⟨by rfl, ?_⟩) (by first | exact trivial) ?_
      rotate_left
      · (intro w hSw; obtain _ := hSw; go_simp <;> with_reducible rfl)
      simp only [Act.put, List.setIfInBounds_toArray, List.set_cons_zero, List.set_cons_succ]
      refine wpAnyH_take (i := 5) (oi := ⟨some 20, .slice 26 (.tmp 19) (some (.const (Go.Value.int Go.IntKind.i64 2))) (some (.const (Go.Value.int Go.IntKind.i64 33))) none, 26, "ref.go:57", #[⟨4, .data⟩], none⟩) (v := ?_) rfl (by kernel_rfl) (by kernel_rfl) (by kernel_rfl) (fun _ _ _ h => h) (Or.inl ⟨by rfl, ?_⟩) (by first | exact trivial) ?_
      rotate_left
      · (intro w hSw; obtain _ := hSw; go_simp <;> with_reducible rfl)
      simp only [Act.put, List.setIfInBounds_toArray, List.set_cons_zero, List.set_cons_succ]
      refine wpAnyH_take (i := 8) (oi := ⟨some 23, .move (.tmp 4), 26, "ref.go:57", #[], none⟩) (v := ?_) rfl (by kernel_rfl) (by kernel_rfl) (by kernel_rfl) (fun _ _ _ h => h) (Or.inl ⟨by rfl, ?_⟩) (by first | exact trivial) ?_
      rotate_left
      · (intro w hSw; obtain _ := hSw; go_simp <;> with_reducible rfl)
      simp only [Act.put, List.setIfInBounds_toArray, List.set_cons_zero, List.set_cons_succ]
      refine wpAnyH_take (i := 9) (oi := ⟨some 24, .slice 26 (.tmp 23) (some (.const (Go.Value.int Go.IntKind.i64 33))) (some (.const (Go.Value.int Go.IntKind.i64 73))) none, 26, "ref.go:57", #[⟨8, .data⟩], none⟩) (v := ?_) rfl (by kernel_rfl) (by kernel_rfl) (by kernel_rfl) (fun _ _ _ h => h) (Or.inl ⟨by rfl, ?_⟩) (by first | exact trivial) ?_
      rotate_left
      · (intro w hSw; obtain _ := hSw; go_simp <;> with_reducible rfl)
      simp only [Act.put, List.setIfInBounds_toArray, List.set_cons_zero, List.set_cons_succ]
      refine wpAnyH_ready (rs := [2, 12]) (by kernel_rfl) (by simp) ?_
      refine AllReadyH.cons (o := ⟨some 17, .call { callee := Go.Callee.value (.func 27), args := #[Go.Operand.tmp 16], argTypes := #[26] }, 22, "ref.go:57", #[⟨1, .data⟩], none⟩) rfl (fun K hK => ?_) (AllReadyH.cons (o := ⟨some 5, .alloc 25, 0, "ref.go:57", #[], none⟩) rfl (fun K hK => ?_) AllReadyH.nil)
      · go_simp
        refine (HNUM.out 0 2 _ (by decide) (by decide) (by decide) (by first | exact (Adv.refl _ _).drew | exact (Adv.refl _ _).drew.alloc _)).mono ?_
        rintro x w2 ⟨rfl, rfl⟩
        go_wp2_with fail
        refine hK.out _ _ (by first | exact trivial) (fun hHeld => ?_)
        clear hK K hHeld
        try simp only [Act.put, List.setIfInBounds_toArray, List.set_cons_zero, List.set_cons_succ]
        refine wpAnyH_take (i := 3) (oi := ⟨some 18, .convert 22 3 (.tmp 17), 3, "ref.go:57", #[⟨2, .data⟩], none⟩) (v := ?_) rfl (by kernel_rfl) (by kernel_rfl) (by kernel_rfl) (fun _ _ _ h => h) (Or.inl ⟨by rfl, ?_⟩) (by first | exact trivial) ?_
        rotate_left
        · (intro w hSw; obtain _ := hSw; go_simp <;> with_reducible rfl)
        simp only [Act.put, List.setIfInBounds_toArray, List.set_cons_zero, List.set_cons_succ]
        refine wpAnyH_ready (rs := [6, 12]) (by kernel_rfl) (by simp) ?_
        refine AllReadyH.cons (o := ⟨some 21, .call { callee := Go.Callee.value (.func 27), args := #[Go.Operand.tmp 20], argTypes := #[26] }, 22, "ref.go:57", #[⟨5, .data⟩, ⟨2, .chain⟩], none⟩) rfl (fun K hK => ?_) (AllReadyH.cons (o := ⟨some 5, .alloc 25, 0, "ref.go:57", #[], none⟩) rfl (fun K hK => ?_) AllReadyH.nil)
        · go_simp
          refine (HNUM.out 2 31 _ (by decide) (by decide) (by decide) (by first | exact (Adv.refl _ _).drew | exact (Adv.refl _ _).drew.alloc _)).mono ?_
          rintro x w3 ⟨rfl, rfl⟩
          go_wp2_with fail
          refine hK.out _ _ (by first | exact trivial) (fun hHeld => ?_)
          clear hK K hHeld
          try simp only [Act.put, List.setIfInBounds_toArray, List.set_cons_zero, List.set_cons_succ]
          refine wpAnyH_take (i := 7) (oi := ⟨some 22, .convert 22 3 (.tmp 21), 3, "ref.go:57", #[⟨6, .data⟩], none⟩) (v := ?_) rfl (by kernel_rfl) (by kernel_rfl) (by kernel_rfl) (fun _ _ _ h => h) (Or.inl ⟨by rfl, ?_⟩) (by first | exact trivial) ?_
          rotate_left
          · (intro w hSw; obtain _ := hSw; go_simp <;> with_reducible rfl)
          simp only [Act.put, List.setIfInBounds_toArray, List.set_cons_zero, List.set_cons_succ]
          refine wpAnyH_ready (rs := [10, 12]) (by kernel_rfl) (by simp) ?_
          refine AllReadyH.cons (o := ⟨some 25, .call { callee := Go.Callee.value (.func 27), args := #[Go.Operand.tmp 24], argTypes := #[26] }, 22, "ref.go:57", #[⟨9, .data⟩, ⟨6, .chain⟩], none⟩) rfl (fun K hK => ?_) (AllReadyH.cons (o := ⟨some 5, .alloc 25, 0, "ref.go:57", #[], none⟩) rfl (fun K hK => ?_) AllReadyH.nil)
          · go_simp
            refine (HNUM.out 33 40 _ (by decide) (by decide) (by decide) (by first | exact (Adv.refl _ _).drew | exact (Adv.refl _ _).drew.alloc _)).mono ?_
            rintro x w4 ⟨rfl, rfl⟩
            go_wp2_with fail
            refine hK.out _ _ (by first | exact trivial) (fun hHeld => ?_)
            clear hK K hHeld
            try simp only [Act.put, List.setIfInBounds_toArray, List.set_cons_zero, List.set_cons_succ]
            refine wpAnyH_take (i := 11) (oi := ⟨some 26, .build 25 #[(0, Go.Operand.tmp 18), (1, Go.Operand.tmp 22), (2, Go.Operand.tmp 25)], 25, "ref.go:57", #[⟨3, .data⟩, ⟨7, .data⟩, ⟨10, .data⟩], none⟩) (v := ?_) rfl (by kernel_rfl) (by kernel_rfl) (by kernel_rfl) (fun _ _ _ h => h) (Or.inl ⟨by rfl, ?_⟩) (by first | exact trivial) ?_
            rotate_left
            · (intro w hSw; obtain _ := hSw; go_simp <;> with_reducible rfl)
            simp only [Act.put, List.setIfInBounds_toArray, List.set_cons_zero, List.set_cons_succ]
            refine wpAnyH_ready (rs := [12]) (by kernel_rfl) (by simp) ?_
            refine AllReadyH.cons (o := ⟨some 5, .alloc 25, 0, "ref.go:57", #[], none⟩) rfl (fun K hK => ?_) AllReadyH.nil
            go_simp
            refine hK.out _ _ (by first | exact trivial) (fun hHeld => ?_)
            clear hK K hHeld
            try simp only [Act.put, List.setIfInBounds_toArray, List.set_cons_zero, List.set_cons_succ]
            refine wpAnyH_ready (rs := [13]) (by kernel_rfl) (by simp) ?_
            refine AllReadyH.cons (o := ⟨none, .store 25 (.tmp 5) (.tmp 26), 0, "ref.go:57", #[⟨12, .data⟩, ⟨11, .data⟩, ⟨10, .chain⟩, ⟨0, .phase⟩, ⟨1, .phase⟩, ⟨2, .phase⟩, ⟨3, .phase⟩, ⟨4, .phase⟩, ⟨5, .phase⟩, ⟨6, .phase⟩, ⟨7, .phase⟩, ⟨8, .phase⟩, ⟨9, .phase⟩, ⟨10, .phase⟩, ⟨11, .phase⟩, ⟨12, .phase⟩], none⟩) rfl (fun K hK => ?_) AllReadyH.nil
            refine st_store11 sizeQInode rfl (.tmp 5) (.tmp 26) rfl w1.heap.size _ (ic (prtJ V 0)) (Blk.new w1.drew 25 (ic zeroI)) rfl rfl (ic_one _) rfl HAGG.out ?_
            refine hK.out _ _ (by first | exact trivial) (fun hHeld => ?_)
            clear hK K hHeld
            try simp only [Act.put]
            refine wpAnyH_done (by kernel_rfl) ?_ _
            go_wp2_with fail
            go_meet
            exact ⟨rfl, rfl⟩
          · go_simp
            refine hK.out _ _ (by first | exact trivial) (fun hHeld => ?_)
            clear hK K hHeld
            try simp only [Act.put, List.setIfInBounds_toArray, List.set_cons_zero, List.set_cons_succ]
            refine wpAnyH_ready (rs := [10]) (by kernel_rfl) (by simp) ?_
            refine AllReadyH.cons (o := ⟨some 25, .call { callee := Go.Callee.value (.func 27), args := #[Go.Operand.tmp 24], argTypes := #[26] }, 22, "ref.go:57", #[⟨9, .data⟩, ⟨6, .chain⟩], none⟩) rfl (fun K hK => ?_) AllReadyH.nil
            go_simp
            refine (HNUM.out 33 40 _ (by decide) (by decide) (by decide) (by first | exact (Adv.refl _ _).drew | exact (Adv.refl _ _).drew.alloc _)).mono ?_
            rintro x w4 ⟨rfl, rfl⟩
            go_wp2_with fail
            refine hK.out _ _ (by first | exact trivial) (fun hHeld => ?_)
            clear hK K hHeld
            try simp only [Act.put, List.setIfInBounds_toArray, List.set_cons_zero, List.set_cons_succ]
            refine wpAnyH_take (i := 11) (oi := ⟨some 26, .build 25 #[(0, Go.Operand.tmp 18), (1, Go.Operand.tmp 22), (2, Go.Operand.tmp 25)], 25, "ref.go:57", #[⟨3, .data⟩, ⟨7, .data⟩, ⟨10, .data⟩], none⟩) (v := ?_) rfl (by kernel_rfl) (by kernel_rfl) (by kernel_rfl) (fun _ _ _ h => h) (Or.inl ⟨by rfl, ?_⟩) (by first | exact trivial) ?_
            rotate_left
            · (intro w hSw; obtain _ := hSw; go_simp <;> with_reducible rfl)
            simp only [Act.put, List.setIfInBounds_toArray, List.set_cons_zero, List.set_cons_succ]
            refine wpAnyH_ready (rs := [13]) (by kernel_rfl) (by simp) ?_
            refine AllReadyH.cons (o := ⟨none, .store 25 (.tmp 5) (.tmp 26), 0, "ref.go:57", #[⟨12, .data⟩, ⟨11, .data⟩, ⟨10, .chain⟩, ⟨0, .phase⟩, ⟨1, .phase⟩, ⟨2, .phase⟩, ⟨3, .phase⟩, ⟨4, .phase⟩, ⟨5, .phase⟩, ⟨6, .phase⟩, ⟨7, .phase⟩, ⟨8, .phase⟩, ⟨9, .phase⟩, ⟨10, .phase⟩, ⟨11, .phase⟩, ⟨12, .phase⟩], none⟩) rfl (fun K hK => ?_) AllReadyH.nil
            refine st_store11 sizeQInode rfl (.tmp 5) (.tmp 26) rfl w1.heap.size _ (ic (prtJ V 0)) (Blk.new w1.drew 25 (ic zeroI)) rfl rfl (ic_one _) rfl HAGG.out ?_
            refine hK.out _ _ (by first | exact trivial) (fun hHeld => ?_)
            clear hK K hHeld
            try simp only [Act.put]
            refine wpAnyH_done (by kernel_rfl) ?_ _
            go_wp2_with fail
            go_meet
            exact ⟨rfl, rfl⟩
        · go_simp
          refine hK.out _ _ (by first | exact trivial) (fun hHeld => ?_)
          clear hK K hHeld
          try simp only [Act.put, List.setIfInBounds_toArray, List.set_cons_zero, List.set_cons_succ]
          refine wpAnyH_ready (rs := [6]) (by kernel_rfl) (by simp) ?_
          refine AllReadyH.cons (o := ⟨some 21, .call { callee := Go.Callee.value (.func 27), args := #[Go.Operand.tmp 20], argTypes := #[26] }, 22, "ref.go:57", #[⟨5, .data⟩, ⟨2, .chain⟩], none⟩) rfl (fun K hK => ?_) AllReadyH.nil
          go_simp
          refine (HNUM.out 2 31 _ (by decide) (by decide) (by decide) (by first | exact (Adv.refl _ _).drew | exact (Adv.refl _ _).drew.alloc _)).mono ?_
          rintro x w3 ⟨rfl, rfl⟩
          go_wp2_with fail
          refine hK.out _ _ (by first | exact trivial) (fun hHeld => ?_)
          clear hK K hHeld
          try simp only [Act.put, List.setIfInBounds_toArray, List.set_cons_zero, List.set_cons_succ]
          refine wpAnyH_take (i := 7) (oi := ⟨some 22, .convert 22 3 (.tmp 21), 3, "ref.go:57", #[⟨6, .data⟩], none⟩) (v := ?_) rfl (by kernel_rfl) (by kernel_rfl) (by kernel_rfl) (fun _ _ _ h => h) (Or.inl ⟨by rfl, ?_⟩) (by first | exact trivial) ?_
          rotate_left
          · (intro w hSw; obtain _ := hSw; go_simp <;> with_reducible rfl)
          simp only [Act.put, List.setIfInBounds_toArray, List.set_cons_zero, List.set_cons_succ]
          refine wpAnyH_ready (rs := [10]) (by kernel_rfl) (by simp) ?_
          refine AllReadyH.cons (o := ⟨some 25, .call { callee := Go.Callee.value (.func 27), args := #[Go.Operand.tmp 24], argTypes := #[26] }, 22, "ref.go:57", #[⟨9, .data⟩, ⟨6, .chain⟩], none⟩) rfl (fun K hK => ?_) AllReadyH.nil
          go_simp
          refine (HNUM.out 33 40 _ (by decide) (by decide) (by decide) (by first | exact (Adv.refl _ _).drew | exact (Adv.refl _ _).drew.alloc _)).mono ?_
          rintro x w4 ⟨rfl, rfl⟩
          go_wp2_with fail
          refine hK.out _ _ (by first | exact trivial) (fun hHeld => ?_)
          clear hK K hHeld
          try simp only [Act.put, List.setIfInBounds_toArray, List.set_cons_zero, List.set_cons_succ]
          refine wpAnyH_take (i := 11) (oi := ⟨some 26, .build 25 #[(0, Go.Operand.tmp 18), (1, Go.Operand.tmp 22), (2, Go.Operand.tmp 25)], 25, "ref.go:57", #[⟨3, .data⟩, ⟨7, .data⟩, ⟨10, .data⟩], none⟩) (v := ?_) rfl (by kernel_rfl) (by kernel_rfl) (by kernel_rfl) (fun _ _ _ h => h) (Or.inl ⟨by rfl, ?_⟩) (by first | exact trivial) ?_
          rotate_left
          · (intro w hSw; obtain _ := hSw; go_simp <;> with_reducible rfl)
          simp only [Act.put, List.setIfInBounds_toArray, List.set_cons_zero, List.set_cons_succ]
          refine wpAnyH_ready (rs := [13]) (by kernel_rfl) (by simp) ?_
          refine AllReadyH.cons (o := ⟨none, .store 25 (.tmp 5) (.tmp 26), 0, "ref.go:57", #[⟨12, .data⟩, ⟨11, .data⟩, ⟨10, .chain⟩, ⟨0, .phase⟩, ⟨1, .phase⟩, ⟨2, .phase⟩, ⟨3, .phase⟩, ⟨4, .phase⟩, ⟨5, .phase⟩, ⟨6, .phase⟩, ⟨7, .phase⟩, ⟨8, .phase⟩, ⟨9, .phase⟩, ⟨10, .phase⟩, ⟨11, .phase⟩, ⟨12, .phase⟩], none⟩) rfl (fun K hK => ?_) AllReadyH.nil
          refine st_store11 sizeQInode rfl (.tmp 5) (.tmp 26) rfl w1.heap.size _ (ic (prtJ V 0)) (Blk.new w1.drew 25 (ic zeroI)) rfl rfl (ic_one _) rfl HAGG.out ?_
          refine hK.out _ _ (by first | exact trivial) (fun hHeld => ?_)
          clear hK K hHeld
          try simp only [Act.put]
          refine wpAnyH_done (by kernel_rfl) ?_ _
          go_wp2_with fail
          go_meet
          exact ⟨rfl, rfl⟩
      · go_simp
        refine hK.out _ _ (by first | exact trivial) (fun hHeld => ?_)
        clear hK K hHeld
        try simp only [Act.put, List.setIfInBounds_toArray, List.set_cons_zero, List.set_cons_succ]
        refine wpAnyH_ready (rs := [2]) (by kernel_rfl) (by simp) ?_
        refine AllReadyH.cons (o := ⟨some 17, .call { callee := Go.Callee.value (.func 27), args := #[Go.Operand.tmp 16], argTypes := #[26] }, 22, "ref.go:57", #[⟨1, .data⟩], none⟩) rfl (fun K hK => ?_) AllReadyH.nil
        go_simp
        refine (HNUM.out 0 2 _ (by decide) (by decide) (by decide) (by first | exact (Adv.refl _ _).drew | exact (Adv.refl _ _).drew.alloc _)).mono ?_
        rintro x w2 ⟨rfl, rfl⟩
        go_wp2_with fail
        refine hK.out _ _ (by first | exact trivial) (fun hHeld => ?_)
        clear hK K hHeld
        try simp only [Act.put, List.setIfInBounds_toArray, List.set_cons_zero, List.set_cons_succ]
        refine wpAnyH_take (i := 3) (oi := ⟨some 18, .convert 22 3 (.tmp 17), 3, "ref.go:57", #[⟨2, .data⟩], none⟩) (v := ?_) rfl (by kernel_rfl) (by kernel_rfl) (by kernel_rfl) (fun _ _ _ h => h) (Or.inl ⟨by rfl, ?_⟩) (by first | exact trivial) ?_
        rotate_left
        · (intro w hSw; obtain _ := hSw; go_simp <;> with_reducible rfl)
        simp only [Act.put, List.setIfInBounds_toArray, List.set_cons_zero, List.set_cons_succ]
        refine wpAnyH_ready (rs := [6]) (by kernel_rfl) (by simp) ?_
        refine AllReadyH.cons (o := ⟨some 21, .call { callee := Go.Callee.value (.func 27), args := #[Go.Operand.tmp 20], argTypes := #[26] }, 22, "ref.go:57", #[⟨5, .data⟩, ⟨2, .chain⟩], none⟩) rfl (fun K hK => ?_) AllReadyH.nil
        go_simp
        refine (HNUM.out 2 31 _ (by decide) (by decide) (by decide) (by first | exact (Adv.refl _ _).drew | exact (Adv.refl _ _).drew.alloc _)).mono ?_
        rintro x w3 ⟨rfl, rfl⟩
        go_wp2_with fail
        refine hK.out _ _ (by first | exact trivial) (fun hHeld => ?_)
        clear hK K hHeld
        try simp only [Act.put, List.setIfInBounds_toArray, List.set_cons_zero, List.set_cons_succ]
        refine wpAnyH_take (i := 7) (oi := ⟨some 22, .convert 22 3 (.tmp 21), 3, "ref.go:57", #[⟨6, .data⟩], none⟩) (v := ?_) rfl (by kernel_rfl) (by kernel_rfl) (by kernel_rfl) (fun _ _ _ h => h) (Or.inl ⟨by rfl, ?_⟩) (by first | exact trivial) ?_
        rotate_left
        · (intro w hSw; obtain _ := hSw; go_simp <;> with_reducible rfl)
        simp only [Act.put, List.setIfInBounds_toArray, List.set_cons_zero, List.set_cons_succ]
        refine wpAnyH_ready (rs := [10]) (by kernel_rfl) (by simp) ?_
        refine AllReadyH.cons (o := ⟨some 25, .call { callee := Go.Callee.value (.func 27), args := #[Go.Operand.tmp 24], argTypes := #[26] }, 22, "ref.go:57", #[⟨9, .data⟩, ⟨6, .chain⟩], none⟩) rfl (fun K hK => ?_) AllReadyH.nil
        go_simp
        refine (HNUM.out 33 40 _ (by decide) (by decide) (by decide) (by first | exact (Adv.refl _ _).drew | exact (Adv.refl _ _).drew.alloc _)).mono ?_
        rintro x w4 ⟨rfl, rfl⟩
        go_wp2_with fail
        refine hK.out _ _ (by first | exact trivial) (fun hHeld => ?_)
        clear hK K hHeld
        try simp only [Act.put, List.setIfInBounds_toArray, List.set_cons_zero, List.set_cons_succ]
        refine wpAnyH_take (i := 11) (oi := ⟨some 26, .build 25 #[(0, Go.Operand.tmp 18), (1, Go.Operand.tmp 22), (2, Go.Operand.tmp 25)], 25, "ref.go:57", #[⟨3, .data⟩, ⟨7, .data⟩, ⟨10, .data⟩], none⟩) (v := ?_) rfl (by kernel_rfl) (by kernel_rfl) (by kernel_rfl) (fun _ _ _ h => h) (Or.inl ⟨by rfl, ?_⟩) (by first | exact trivial) ?_
        rotate_left
        · (intro w hSw; obtain _ := hSw; go_simp <;> with_reducible rfl)
        simp only [Act.put, List.setIfInBounds_toArray, List.set_cons_zero, List.set_cons_succ]
        refine wpAnyH_ready (rs := [13]) (by kernel_rfl) (by simp) ?_
        refine AllReadyH.cons (o := ⟨none, .store 25 (.tmp 5) (.tmp 26), 0, "ref.go:57", #[⟨12, .data⟩, ⟨11, .data⟩, ⟨10, .chain⟩, ⟨0, .phase⟩, ⟨1, .phase⟩, ⟨2, .phase⟩, ⟨3, .phase⟩, ⟨4, .phase⟩, ⟨5, .phase⟩, ⟨6, .phase⟩, ⟨7, .phase⟩, ⟨8, .phase⟩, ⟨9, .phase⟩, ⟨10, .phase⟩, ⟨11, .phase⟩, ⟨12, .phase⟩], none⟩) rfl (fun K hK => ?_) AllReadyH.nil
        refine st_store11 sizeQInode rfl (.tmp 5) (.tmp 26) rfl w1.heap.size _ (ic (prtJ V 0)) (Blk.new w1.drew 25 (ic zeroI)) rfl rfl (ic_one _) rfl HAGG.out ?_
        refine hK.out _ _ (by first | exact trivial) (fun hHeld => ?_)
        clear hK K hHeld
        try simp only [Act.put]
        refine wpAnyH_done (by kernel_rfl) ?_ _
        go_wp2_with fail
        go_meet
        exact ⟨rfl, rfl⟩
    case rest =>
    obtain ⟨rfl, rfl⟩ := hcut
    obtain ⟨u, hu⟩ : ∃ u, u = w1.heap.size := ⟨_, rfl⟩
    have hs : QrS w z u g d V bl 0 ((w1.drew.alloc (.cells (ic zeroI) 25)).setCells w1.heap.size 0 (ic (prtJ V 0)).toList) := by
      have hz1 := HZ.out.keep (HA1.out.block z HZ.out.lt (fun h => h))
      have hF : ∀ k, F1 k → k ≠ w1.heap.size := fun k hk e => Nat.lt_irrefl _ (e ▸ HS1.out.bd k hk)
      refine ⟨F1, ?_, HB1.out, ?_, ?_, ?_, by rw [hu]; exact fun e => by have := hz1.lt; omega, by rw [hu]; exact (HA.out.trans HA1.out).size, HLZ.out⟩
      · exact ⟨own_keep HS1.out.own fun k hk => (isetCells_heap _ (hF k (HS1.out.inF k hk)) _ _ _).trans (Below.heap_alloc _ _ _ (HS1.out.bd k (HS1.out.inF k hk))), HS1.out.inF, fun k hk => Nat.lt_of_lt_of_le (HS1.out.bd k hk) (Adv.isetCells _ 0 _ ((Adv.refl Nul w1).drew.alloc _) (.inr (Nat.le_refl _))).size⟩
      · rw [hu]; exact (Blk.new w1.drew 25 (ic zeroI)).iputAll rfl
      · exact (hz1.drew.alloc _).keep (isetCells_heap _ (fun e => by have := hz1.lt; omega) _ _ _)
      · exact Adv.isetCells _ 0 _ (((HA.out.trans HA1.out).drew).alloc _) (.inr (HA.out.trans HA1.out).size)
    rw [← hu] at hs ⊢
    obtain ⟨W5, hW5⟩ : ∃ W5, W5 = (w1.drew.alloc (.cells (ic zeroI) 25)).setCells u 0 (ic (prtJ V 0)).toList := ⟨_, rfl⟩
    rw [← hW5] at hs ⊢
    have HQS := Lib.hid hs
    have HUZ := Lib.hid hu
    clear hs hu hW5 k2 k33 k73 n2 n33 e0 e1
    go_wp2_with fail
    go_loopw [6] (QrL w z u g d V bl) (fun t _ => 8 - (intOf t).toNat)
    case atStart => exact ⟨0, rfl, Nat.zero_le _, HQS.out⟩
    case round =>
      obtain ⟨j, rfl, hj, hQ⟩ := hrel
      have HQJ := Lib.hid hQ
      obtain ⟨F, q1, q2, q3, q4, q5, q6, q7, q8⟩ := hQ
      have HUR := Lib.hid q3
      have HZR := Lib.hid q4
      have HAR := Lib.hid q5
      by_cases hlt : j < 8
      · have HLT := Lib.hid hlt
        obtain ⟨p, hp⟩ : ∃ p, p = 73 + 12 * j := ⟨_, rfl⟩
        have hnum : Calls Try.prog 27 #[.slice (some ⟨g, p, none⟩) 12 (d - p)] wr fun e w'' => e = .returned (.int .u64 ((bitsAt 128 V (73 + 12 * j) 12 : Nat) : Int)) ∧ wr = w'' := by
          rw [hp]
          exact numberB_any _ _ _ 12 wr (rd_mid q1.rd (by omega) (by decide)) (bl_mid q2 (73 + 12 * j) 12 (by omega)) (by decide)
        have hcell := (q3.cell (3 + j)).trans (ic_at V j hlt)
        have hfroz := q3.frozen (3 + j)
        have HNUM := Lib.hid hnum
        have hdd := HD.out
        have e73 : (73 : Int) + 12 * (j : Int) = (p : Int) := by omega
        have e85 : (85 : Int) + 12 * (j : Int) = (p : Int) + 12 := by omega
        have p1 : (p : Int) + 12 ≤ (d : Int) := by omega
        have p2 : (d = p) = False := eq_false (by omega)
        have p3 : ((p : Int) + 12).toNat = p + 12 := by omega
        have p4 : p + 12 - p = 12 := by omega
        have ej := wrap_bits 128 V (73 + 12 * j) 12 (by decide)
        obtain ⟨b, hb⟩ : ∃ b, b = bitsAt 128 V (73 + 12 * j) 12 := ⟨_, rfl⟩
        rw [← hb] at ej HNUM
        have HBB := Lib.hid hb
        clear hnum q1 q2 q3 q4 q5 q6 q7 q8 hdd hp hb
        go_wp2_with (first
          | (go_at_call 27; refine HNUM.out.mono ?_; rintro e w6 ⟨rfl, rfl⟩)
          | fail)
        have hput := HQJ.out.put HLT.out
        rw [← HBB.out] at hput
        exact ⟨⟨j + 1, by simp, HLT.out, hput⟩, by have := HLT.out; simp [intOf] <;> omega⟩
      · obtain rfl : j = 8 := by omega
        have hB : Blk wr u 25 (ic (prt V)) := q3
        obtain ⟨X, hX⟩ : ∃ X, X = prt (byN l) := ⟨_, rfl⟩
        rw [HVN.out, ← hX] at hB
        have HUR := Lib.hid hB
        obtain ⟨s0, s1, s2, s3, s4, s5, s6, s7, s8, s9, s10⟩ := hB.c11.all
        have HX := Lib.hid hX
        have HEN := Lib.hid (qencode_any X (by rw [hX]; exact prt_wf _))
        clear hX hB q1 q2 q3 q4 q5 q6 q7 q8 hlt hj
        obtain ⟨k, g1, v, a⟩ := X
        simp only [ic] at HEN
        simp only at s0 s1 s2 s3 s4 s5 s6 s7 s8 s9 s10
        by_cases ho : okI ⟨k, g1, v, a⟩
        · have HOK := Lib.hid ho
          clear ho
          by_cases hq : l = secI ⟨k, g1, v, a⟩
          · have HRES := Lib.hid (fun (w' : World) (ha : Adv Nul w Nul w') => DecR.yes (show decI l = some ⟨k, g1, v, a⟩ by unfold decI; rw [← HX.out, if_pos ⟨HN.out.symm, HOK.out, hq.symm⟩]) ha)
            have HQ := Lib.hid (decide_eq_true hq)
            clear hq
            go_wp2_with (first
              | (go_at_call 8; refine (HEN.out _).mono ?_; rintro e w2 ⟨A2, m2, k2, F2, rfl, a2, y2, _⟩; obtain ⟨rfl, t2⟩ := y2 HOK.out; rw [if_pos HOK.out]; have HA2 := Lib.hid ((HAR.out.sub (G := Nul) (fun _ h => h.elim)).trans a2); have HZ2 := Lib.hid (HZR.out.keep (a2.block z HZR.out.lt (fun h => h))); have HS2 := Lib.hid t2; have HR2 := Lib.hid (HIN.out.far HA2.out.toBelow).rd; obtain ⟨s0, s1, s2, s3, s4, s5, s6, s7, s8, s9, s10⟩ := (HUR.out.keep (a2.block u HUR.out.lt (fun h => h))).c11.all; simp only at s0 s1 s2 s3 s4 s5 s6 s7 s8 s9 s10; clear a2 y2 t2)
              | (go_at_call 9; refine (isame_any _ _ _ _ _ _ _ HR2.out HS2.out.rd).mono ?_; rintro e w3 ⟨rfl, q3, rfl⟩; rw [HQ.out])
              | (refine op_store11 sizeQInode rfl (.tmp 2) (.tmp 58) rfl z _ (ic ⟨k, g1, v, a⟩) (HZ2.out.keep (w' := w2.drewN q3) rfl) rfl rfl (ic_one _) rfl rfl ?_)
              | fail)
            have hfin := (Adv.isetCells (ic ⟨k, g1, v, a⟩).toList 0 _ (HA2.out.drewN q3) (.inr HLZ.out)).sub (G := Nul) (fun _ h => h.elim)
            obtain ⟨z0, z1, z2, z3, z4, z5, z6, z7, z8, z9, z10⟩ := ((HZ2.out.keep (w' := w2.drewN q3) rfl).iputAll (D := ic ⟨k, g1, v, a⟩) rfl).c11.all
            obtain ⟨W9, hW9⟩ : ∃ W9, W9 = World.setCells (w2.drewN q3) z 0 (ic ⟨k, g1, v, a⟩).toList := ⟨_, rfl⟩
            rw [← hW9] at z0 z1 z2 z3 z4 z5 z6 z7 z8 z9 z10 hfin ⊢
            simp only at z0 z1 z2 z3 z4 z5 z6 z7 z8 z9 z10
            exact bodyPost_ret (v := .tuple #[.agg #[.int .i64 k, .int .i64 g1, .int .u64 (v : Int), .int .i64 (a 0), .int .i64 (a 1), .int .i64 (a 2), .int .i64 (a 3), .int .i64 (a 4), .int .i64 (a 5), .int .i64 (a 6), .int .i64 (a 7)], .int .i64 0]) (by simp [results, Try.results16, go_sem, z0, z1, z2, z3, z4, z5, z6, z7, z8, z9, z10]) rfl (HRES.out _ hfin)
          · have HRES := Lib.hid (fun (w' : World) (ha : Adv Nul w Nul w') => DecR.no (show decI l = none by unfold decI; rw [← HX.out]; exact if_neg (fun h => hq h.2.2.symm)) ha)
            have HQ := Lib.hid (decide_eq_false hq)
            clear hq
            go_wp2_with (first
              | (go_at_call 8; refine (HEN.out _).mono ?_; rintro e w2 ⟨A2, m2, k2, F2, rfl, a2, y2, _⟩; obtain ⟨rfl, t2⟩ := y2 HOK.out; rw [if_pos HOK.out]; have HA2 := Lib.hid ((HAR.out.sub (G := Nul) (fun _ h => h.elim)).trans a2); have HZ2 := Lib.hid (HZR.out.keep (a2.block z HZR.out.lt (fun h => h))); have HS2 := Lib.hid t2; have HR2 := Lib.hid (HIN.out.far HA2.out.toBelow).rd; clear a2 y2 t2)
              | (go_at_call 9; refine (isame_any _ _ _ _ _ _ _ HR2.out HS2.out.rd).mono ?_; rintro e w3 ⟨rfl, q3, rfl⟩; rw [HQ.out])
              | (refine op_store11 sizeQInode rfl (.tmp 2) (.tmp 57) rfl z _ (ic zeroI) (HZ2.out.keep (w' := w2.drewN q3) rfl) rfl rfl (ic_one _) rfl rfl ?_)
              | fail)
            have hfin := (Adv.isetCells (ic zeroI).toList 0 _ (HA2.out.drewN q3) (.inr HLZ.out)).sub (G := Nul) (fun _ h => h.elim)
            obtain ⟨z0, z1, z2, z3, z4, z5, z6, z7, z8, z9, z10⟩ := ((HZ2.out.keep (w' := w2.drewN q3) rfl).iputAll (D := ic zeroI) rfl).c11.all
            obtain ⟨W9, hW9⟩ : ∃ W9, W9 = World.setCells (w2.drewN q3) z 0 (ic zeroI).toList := ⟨_, rfl⟩
            rw [← hW9] at z0 z1 z2 z3 z4 z5 z6 z7 z8 z9 z10 hfin ⊢
            simp only [zeroI] at z0 z1 z2 z3 z4 z5 z6 z7 z8 z9 z10
            exact bodyPost_ret (v := .tuple #[.agg #[.int .i64 0, .int .i64 0, .int .u64 0, .int .i64 0, .int .i64 0, .int .i64 0, .int .i64 0, .int .i64 0, .int .i64 0, .int .i64 0, .int .i64 0], .int .i64 4]) (by simp [results, Try.results16, go_sem, z0, z1, z2, z3, z4, z5, z6, z7, z8, z9, z10]) rfl (HRES.out _ hfin)
        · have HOK := Lib.hid ho
          have HRES := Lib.hid (fun (w' : World) (ha : Adv Nul w Nul w') => DecR.no (show decI l = none by unfold decI; rw [← HX.out]; exact if_neg (fun h => HOK.out h.2.1)) ha)
          clear ho
          go_wp2_with (first
            | (go_at_call 8; refine (HEN.out _).mono ?_; rintro e w2 ⟨A2, m2, k2, F2, rfl, a2, y2, _⟩; rw [if_neg HOK.out]; have HA2 := Lib.hid ((HAR.out.sub (G := Nul) (fun _ h => h.elim)).trans a2); have HZ2 := Lib.hid (HZR.out.keep (a2.block z HZR.out.lt (fun h => h))); clear a2 y2)
            | (refine op_store11 sizeQInode rfl (.tmp 2) (.tmp 57) rfl z _ (ic zeroI) HZ2.out rfl rfl (ic_one _) rfl rfl ?_)
            | fail)
          have hfin := (Adv.isetCells (ic zeroI).toList 0 _ HA2.out (.inr HLZ.out)).sub (G := Nul) (fun _ h => h.elim)
          obtain ⟨z0, z1, z2, z3, z4, z5, z6, z7, z8, z9, z10⟩ := (HZ2.out.iputAll (D := ic zeroI) rfl).c11.all
          obtain ⟨W9, hW9⟩ : ∃ W9, W9 = World.setCells w2 z 0 (ic zeroI).toList := ⟨_, rfl⟩
          rw [← hW9] at z0 z1 z2 z3 z4 z5 z6 z7 z8 z9 z10 hfin ⊢
          simp only [zeroI] at z0 z1 z2 z3 z4 z5 z6 z7 z8 z9 z10
          exact bodyPost_ret (v := .tuple #[.agg #[.int .i64 0, .int .i64 0, .int .u64 0, .int .i64 0, .int .i64 0, .int .i64 0, .int .i64 0, .int .i64 0, .int .i64 0, .int .i64 0, .int .i64 0], .int .i64 4]) (by simp [results, Try.results16, go_sem, z0, z1, z2, z3, z4, z5, z6, z7, z8, z9, z10]) rfl (HRES.out _ hfin)
  · have hn' : ((n : Int) != 128) = true := by rw [bne_iff_ne]; omega
    have HRES := Lib.hid (fun (w' : World) (ha : Adv Nul w Nul w') => DecR.no (decI_len (l := l) (by rw [← HN.out]; exact hn)) ha)
    clear hn
    go_enter Try.func16, Try.ntmps16
    go_upto_region 1 with (fail)
    rw [← HV.out, ← HZZ.out]
    go_wp2_with (first
      | (refine op_store11 sizeQInode rfl (.tmp 2) (.tmp 12) rfl z _ (ic zeroI) HZ.out rfl rfl (ic_one _) rfl rfl ?_)
      | fail)
    have hfin := (Adv.isetCells (ic zeroI).toList 0 _ HA.out (.inr HLZ.out)).sub (G := Nul) (fun _ h => h.elim)
    obtain ⟨z0, z1, z2, z3, z4, z5, z6, z7, z8, z9, z10⟩ := (HZ.out.iputAll (D := ic zeroI) rfl).c11.all
    obtain ⟨W9, hW9⟩ : ∃ W9, W9 = World.setCells V0 z 0 (ic zeroI).toList := ⟨_, rfl⟩
    rw [← hW9] at z0 z1 z2 z3 z4 z5 z6 z7 z8 z9 z10 hfin ⊢
    simp only [zeroI] at z0 z1 z2 z3 z4 z5 z6 z7 z8 z9 z10
    exact bodyPost_ret (v := .tuple #[.agg #[.int .i64 0, .int .i64 0, .int .u64 0, .int .i64 0, .int .i64 0, .int .i64 0, .int .i64 0, .int .i64 0, .int .i64 0, .int .i64 0, .int .i64 0], .int .i64 4]) (by simp [results, Try.results16, go_sem, z0, z1, z2, z3, z4, z5, z6, z7, z8, z9, z10]) rfl (HRES.out _ hfin)
end Go.Proofs.Ytbdjlmdbnoghnaa
