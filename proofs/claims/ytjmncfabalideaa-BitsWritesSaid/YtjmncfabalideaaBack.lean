/- BitsBack. -/
import Derived.Test.YtjmncfabalideaaBackM
import Derived.Test.YtjmncfabalideaaWhole
import Derived.Deep.RegionWith
import Derived.Deep.RegionHeld3
namespace Go.Proofs.Ytjmncfabalideaa
open Go.RowKit

theorem bits_le (d : Do) (hf : d.fits) (hs : d.s.size ≤ 40) : d.bits ≤ 336 := by
  unfold Do.bits
  split
  · have := hf ‹_›; omega
  · omega
theorem lenOf_le (l : List Do) (h : ∀ d ∈ l, d.fits ∧ d.s.size ≤ 40) : lenOf l ≤ 336 * l.length := by
  induction l using snocInd with
  | nil => simp [lenOf]
  | append_singleton l d ih =>
    have h1 := ih (fun x hx => h x (by simp [hx]))
    have h2 := bits_le d (h d (by simp)).1 (h d (by simp)).2
    rw [lenOf_snoc, List.length_append, List.length_singleton]
    omega

/-- The list that few has made, with blocks F0. -/
structure Made (w : World) (F0 : Nat → Prop) (v : Value) (es : List Do) : Prop where
  sl : Sl w F0 29 4 v es.length (cellsOf es)
  sz : ∀ d ∈ es, d.s.size ≤ 40
  x : ∀ d ∈ es, d.x < 18446744073709551616
  le : es.length ≤ 40

theorem Made.cells {w : World} {F0 : Nat → Prop} {es : List Do} {g c n : Nat} (h : Made w F0 (.slice (some ⟨g, 0, none⟩) n c) es) {j : Nat} (hj : j < es.length) :
    w.cell? ⟨g, j * 4, none⟩ = some (.int .i64 es[j].kind) ∧ w.cell? ⟨g, j * 4 + 1, none⟩ = some (.int .u64 (es[j].x : Int)) ∧ w.cell? ⟨g, j * 4 + 2, none⟩ = some (.int .i64 es[j].n) ∧ w.cell? ⟨g, j * 4 + 3, none⟩ = some (.string es[j].s) := by
  obtain ⟨g', cap, e, _, _⟩ := h.sl.form (by omega)
  injection e with e1 e2 e3
  have ho := h.sl.own
  rw [e2] at ho
  have H : ∀ i, i < 4 → w.cell? ⟨g, j * 4 + i, none⟩ = es[j].cells[i]? := fun i hi => by
    rw [ho.cellAt (j * 4 + i) (by omega), cellsOf_at es j i hi hj]
  exact ⟨H 0 (by decide), H 1 (by decide), H 2 (by decide), H 3 (by decide)⟩

theorem Made.far {w w' : World} {F0 F F' : Nat → Prop} {v : Value} {es : List Do} (h : Made w F0 v es) (ha : Adv F w F' w') (hs : Sep F F0) : Made w' F0 v es := ⟨h.sl.far ha hs, h.sz, h.x, h.le⟩

/-- the writer behind j calls of the list -/
def PutSt (w : World) (F : Nat → Prop) (b : Nat) (es : List Do) (j : Nat) : Prop :=
  (WSt w F b (numOf (es.take j)) (lenOf (es.take j)) ∧ ∀ d ∈ es.take j, d.fits) ∨ (WErr w F b ∧ ∃ d ∈ es, ¬ d.fits)

theorem PutSt.drew {w : World} {F : Nat → Prop} {b : Nat} {es : List Do} {j : Nat} (h : PutSt w F b es j) : PutSt w.drew F b es j := by
  rcases h with ⟨h1, h2⟩ | ⟨h1, h2⟩
  · exact .inl ⟨h1.drew, h2⟩
  · exact .inr ⟨⟨h1.ex, h1.inF, h1.bd⟩, h2⟩
theorem Adv.of_drew {F F' : Nat → Prop} {w w' : World} (h : Adv F w.drew F' w') : Adv F w F' w' := ⟨h.os, h.tape, h.output, h.size, h.block, h.into⟩

/-- one call more, whatever it is -/
theorem putw_any (b j : Nat) (es : List Do) (F : Nat → Prop) (w : World) (hp : PutSt w F b es j) (hF : Bd F w) (hj : j < es.length) (hsz : ∀ d ∈ es, d.s.size ≤ 40) (hx : es[j].x < 18446744073709551616) (hle : es.length ≤ 40) (hk : es[j].kind = 0) :
    Calls Try.prog 11 #[.pointer (some ⟨b, 0, none⟩), .int .u64 es[j].x, .int .i64 es[j].n] w fun e w' => e = .returned (.pointer (some ⟨b, 0, none⟩)) ∧ ∃ F', PutSt w' F' b es (j + 1) ∧ Adv F w F' w' ∧ Bd F' w' := by
  rcases hp with ⟨hw, hf⟩ | ⟨hw, hf⟩
  · have hlen := lenOf_le (es.take j) (fun d hd => ⟨hf d hd, hsz d (List.mem_of_mem_take hd)⟩)
    have htl : (es.take j).length ≤ 40 := by simp; omega
    by_cases hfit : es[j].fits
    · obtain ⟨h0, h1, h2⟩ := hfit hk
      obtain ⟨k, hkn⟩ := Int.eq_ofNat_of_zero_le h0
      have hkn' : es[j].n.toNat = k := by omega
      rw [hkn'] at h2
      refine (hkn ▸ put_ok b _ _ es[j].x k F w hw hF (by omega) h2 (by omega)).mono ?_
      rintro e w' ⟨rfl, F', h, ha, hb⟩
      refine ⟨rfl, F', .inl ⟨?_, ?_⟩, ha, hb⟩
      · rw [List.take_succ_eq_append_getElem hj, numOf_snoc, lenOf_snoc]
        have e1 : es[j].bits = k := by unfold Do.bits; rw [if_pos hk, hkn']
        have e2 : es[j].num = es[j].x := by unfold Do.num; rw [if_pos hk]
        rw [e1, e2]; exact h
      · intro d hd
        rw [List.take_succ_eq_append_getElem hj, List.mem_append, List.mem_singleton] at hd
        rcases hd with hd | rfl
        · exact hf d hd
        · exact hfit
    · have hbad : es[j].n < 0 ∨ 64 < es[j].n ∨ ∃ k : Nat, es[j].n = k ∧ k ≤ 64 ∧ 2 ^ k ≤ es[j].x := by
        by_cases h0 : es[j].n < 0
        · exact .inl h0
        · by_cases h1 : 64 < es[j].n
          · exact .inr (.inl h1)
          · refine .inr (.inr ⟨es[j].n.toNat, by omega, by omega, ?_⟩)
            exact Nat.le_of_not_lt fun h => hfit fun _ => ⟨by omega, by omega, h⟩
      refine (put_bad b _ _ es[j].x es[j].n F w hw hF hx hbad).mono ?_
      rintro e w' ⟨rfl, h, ha⟩
      exact ⟨rfl, F, .inr ⟨h, es[j], List.getElem_mem _, hfit⟩, ha, h.bd⟩
  · refine (put_err b _ _ F w hw).mono ?_
    rintro e w' ⟨rfl, rfl⟩
    exact ⟨rfl, F, .inr ⟨hw, hf⟩, Adv.refl _ _, hF⟩

theorem textw_any (b j : Nat) (es : List Do) (F : Nat → Prop) (w : World) (hp : PutSt w F b es j) (hF : Bd F w) (hj : j < es.length) (hsz : ∀ d ∈ es, d.s.size ≤ 40) (hle : es.length ≤ 40) (hk : es[j].kind ≠ 0) :
    Calls Try.prog 14 #[.pointer (some ⟨b, 0, none⟩), .string es[j].s] w fun e w' => e = .returned (.pointer (some ⟨b, 0, none⟩)) ∧ ∃ F', PutSt w' F' b es (j + 1) ∧ Adv F w F' w' ∧ Bd F' w' := by
  have hs := hsz es[j] (List.getElem_mem _)
  rcases hp with ⟨hw, hf⟩ | ⟨hw, hf⟩
  · have hlen := lenOf_le (es.take j) (fun d hd => ⟨hf d hd, hsz d (List.mem_of_mem_take hd)⟩)
    have htl : (es.take j).length ≤ 40 := by simp; omega
    refine (text_ok b _ _ es[j].s F w hw hF (by omega) (by omega)).mono ?_
    rintro e w' ⟨rfl, F', h, ha, hb⟩
    refine ⟨rfl, F', .inl ⟨?_, ?_⟩, ha, hb⟩
    · rw [List.take_succ_eq_append_getElem hj, numOf_snoc, lenOf_snoc]
      have e1 : es[j].bits = 16 + 8 * es[j].s.size := by unfold Do.bits; rw [if_neg hk]
      have e2 : es[j].num = tx es[j].s.size es[j].s.data.toList := by unfold Do.num; rw [if_neg hk]
      rw [tx_put, Nat.add_assoc] at h
      rw [e1, e2]; exact h
    · intro d hd
      rw [List.take_succ_eq_append_getElem hj, List.mem_append, List.mem_singleton] at hd
      rcases hd with hd | rfl
      · exact hf d hd
      · exact fun h => absurd h hk
  · refine (text_err b _ F w hw).mono ?_
    rintro e w' ⟨rfl, rfl⟩
    exact ⟨rfl, F, .inr ⟨hw, hf⟩, Adv.refl _ _, hF⟩

def BackRel (W : World) (F0 : Nat → Prop) (v : Value) (es : List Do) (t3 t4 : Value) (wr : World) : Prop :=
  ∃ b F j, t3 = .pointer (some ⟨b, 0, none⟩) ∧ t4 = .int .i64 ((j : Nat) : Int) ∧ j ≤ es.length ∧ Made wr F0 v es ∧ Sep F F0 ∧ Bd F wr ∧ (∀ k, F k → W.heap.size ≤ k) ∧ Below W.heap.size W wr ∧ PutSt wr F b es j

theorem back_step {W wr w2 : World} {F0 F F2 : Nat → Prop} {v : Value} {es : List Do} {b j : Nat} (hj : j < es.length) (hM : Made wr F0 v es) (hsep : Sep F F0) (hF : ∀ k, F k → W.heap.size ≤ k) (hB : Below W.heap.size W wr)
    (hp : PutSt w2 F2 b es (j + 1)) (ha : Adv F wr F2 w2) (hb : Bd F2 w2) : BackRel W F0 v es (.pointer (some ⟨b, 0, none⟩)) (.int .i64 ((j : Int) + 1)) w2 :=
  ⟨b, F2, j + 1, rfl, by simp, by omega, hM.far ha hsep, ha.sep hsep hM.sl.bd, hb, ha.from_ hF hB.size, ha.below hB hF hB.size, hp⟩

def BackRel2 (W : World) (F0 : Nat → Prop) (v : Value) (es : List Do) (b q V : Nat) (F : Nat → Prop) (t8 : Value) (wr : World) : Prop :=
  ∃ j, t8 = .int .i64 ((j : Nat) : Int) ∧ j ≤ es.length ∧ Made wr F0 v es ∧ Bd F wr ∧ Below W.heap.size W wr ∧ RSt wr F b q V (lenOf (es.take j))

/-- What is known of a list of calls that came in. -/
def DosArg (W : World) (v : Value) : Prop := ∃ ds, DosIn W v ds ∧ ∀ d ∈ ds, d.x < 18446744073709551616

theorem fewOf_made {w : World} {F : Nat → Prop} {v : Value} {ds : List Do} (hx : ∀ d ∈ ds, d.x < 18446744073709551616) (h : Sl w F 29 4 v (fewOf ds).length (cellsOf (fewOf ds))) : Made w F v (fewOf ds) := by
  refine ⟨h, fun d hd => ?_, fun d hd => ?_, by simp [fewOf]; omega⟩
  · obtain ⟨d', _, rfl⟩ := List.mem_map.1 (List.mem_of_mem_take hd)
    exact shortS_size _
  · obtain ⟨d', hd', rfl⟩ := List.mem_map.1 (List.mem_of_mem_take hd)
    exact hx d' hd'

set_option maxHeartbeats 4000000 in
theorem back_walk (W : World) (v : Value) (hv : DosArg W v) :
    Calls Try.prog 5 #[v] W fun e w' => e = .returned (.bool true) ∧ Below W.heap.size W w' := by
  obtain ⟨ds, hd, hx⟩ := hv
  have HD := Lib.hid hd
  clear hd
  go_enter Try.func5, Try.ntmps5
  go_wp2_with fail
  refine (few_any _ _ _ HD.out).mono ?_
  rintro e w1 ⟨v1, F0, rfl, h1, a1⟩
  have hM1 := fewOf_made hx h1
  have B1 := a1.below (Below.refl _ _) (fun k hk => hk.elim) (Nat.le_refl _)
  obtain ⟨es, hes⟩ : ∃ es, es = fewOf ds := ⟨_, rfl⟩
  rw [← hes] at hM1
  obtain ⟨A, c, rfl, hc1, hc2⟩ := hM1.sl.form0
  unfold maxLen at hc2
  have HM1 := Lib.hid hM1
  have HB1 := Lib.hid B1
  clear h1 hx hes hM1 B1 a1 HD
  go_wp2_with fail
  refine (new_any _).mono ?_
  rintro e w2 ⟨b, F1, rfl, h2, a2, b2⟩
  have h3 : BackRel W F0 (.slice A es.length c) es (.pointer (some ⟨b, 0, none⟩)) (.int .i64 0) w2 :=
    ⟨b, F1, 0, rfl, rfl, Nat.zero_le _, HM1.out.far a2 (fun _ h _ => h), fun k hk hk0 => by
      rcases a2.into k hk with h | h
      · exact h
      · have := HM1.out.sl.bd k hk0; omega, b2, a2.from_ (fun k hk => hk.elim) HB1.out.size, a2.below HB1.out (fun k hk => hk.elim) HB1.out.size, .inl ⟨by simpa [numOf, lenOf] using h2, by simp⟩⟩
  have H3 := Lib.hid h3
  clear h3 h2 a2 b2
  go_wp2_with fail
  go_loopw [3, 4] (BackRel W F0 (.slice A es.length c) es) (fun _ t _ => es.length - (intOf t).toNat)
  case atStart => exact H3.out
  case round =>
    clear H3
    obtain ⟨b, F, j, rfl, rfl, hj, hM, hsep, hb, hF, hB, hp⟩ := hrel
    have HM := Lib.hid hM
    have HSP := Lib.hid hsep
    have HF := Lib.hid hF
    have HB := Lib.hid hB
    have HP := Lib.hid hp
    clear hM hsep hF hB hp
    by_cases hlt : j < es.length
    · obtain ⟨g, cap, e, _, _⟩ := HM.out.sl.form (by omega)
      injection e with e1 e2 e3
      subst e1
      subst e3
      clear e2
      obtain ⟨g0, g1, g2, g3⟩ := HM.out.cells hlt
      obtain ⟨d, hd⟩ : ∃ d, d = es[j] := ⟨_, rfl⟩
      rw [← hd] at g0 g1 g2 g3
      by_cases hk : d.kind = 0
      · have hk1 : (d.kind == 0) = true := by simp [hk]
        have hput := fun w hw hFw => putw_any b j es F w hw hFw hlt HM.out.sz (HM.out.x _ (List.getElem_mem _)) HM.out.le (hd ▸ hk)
        rw [← hd] at hput
        have HPUT := Lib.hid hput
        clear hput hd hk
        go_wp2_with fail
        go_region_with (first
          | (go_at_call 11; refine (HPUT.out _ ?_ ?_).mono ?_; exact HP.out.drew; exact hb; rintro e w4 ⟨rfl, F4, hp4, ha4, hb4⟩)
          | fail)
        all_goals
          have HS := Lib.hid (back_step hlt HM.out HSP.out HF.out HB.out hp4 (Adv.of_drew ha4) hb4)
          clear hp4 ha4
          go_wp2
          exact ⟨HS.out, by simp [intOf]; omega⟩
      · have hk1 : (d.kind == 0) = false := by simp [hk]
        have htext := fun w hw hFw => textw_any b j es F w hw hFw hlt HM.out.sz HM.out.le (hd ▸ hk)
        rw [← hd] at htext
        have HTEXT := Lib.hid htext
        clear htext hd hk
        go_wp2_with (first
          | (go_at_call 14; refine (HTEXT.out _ HP.out hb).mono ?_; rintro e w4 ⟨rfl, F4, hp4, ha4, hb4⟩))
        have HS := Lib.hid (back_step hlt HM.out HSP.out HF.out HB.out hp4 ha4 hb4)
        clear hp4 ha4
        go_wp2
        exact ⟨HS.out, by simp [intOf]; omega⟩
    · obtain rfl : j = es.length := by omega
      clear hlt hj
      rcases HP.out with ⟨hw, hf⟩ | ⟨hw, hf⟩
      · rw [List.take_length] at hw hf
        have hlen := lenOf_le es (fun d hd => ⟨hf d hd, HM.out.sz d hd⟩)
        have hle := HM.out.le
        have hfs : ∀ d ∈ es, d.fits ∧ d.s.size ≤ 65535 := fun d hd => ⟨hf d hd, by have := HM.out.sz d hd; omega⟩
        have HW := Lib.hid hw
        have HFS := Lib.hid hfs
        have hqq := qn_pad (lenOf es)
        have hpl := pad_lt (lenOf es)
        have hlen1 : lenOf es ≤ 20000 := by omega
        obtain ⟨q, hq⟩ : ∃ q, q = qn (lenOf es) := ⟨_, rfl⟩
        obtain ⟨V, hV⟩ : ∃ V, V = numOf es * 2 ^ pad (lenOf es) := ⟨_, rfl⟩
        have hdone : Calls Try.prog 16 #[.pointer (some ⟨b, 0, none⟩)] wr fun e w' => ∃ v F', e = .returned (.tuple #[v, .int .i64 0]) ∧ Sl w' F' 5 1 v q ((be q V).map u8) ∧ Adv Nul wr F' w' := by
          rw [hq, hV]; exact done_ok _ _ _ _ _ hw (by omega)
        have hend := all_read es
        rw [← hq, ← hV] at hend
        have hitem := fun (j : Nat) (hj : j < es.length) => item_at es j hj hfs
        rw [← hq, ← hV] at hitem
        have hq5000 : q ≤ 5000 := by omega
        have HDN := Lib.hid hdone
        have HEN := Lib.hid hend
        have HIT := Lib.hid hitem
        clear hw hf hfs hlen hqq hpl hq hV hdone hend hitem hle hlen1
        go_wp2_with (first
          | (go_at_call 16; refine HDN.out.mono ?_; rintro e w4 ⟨v4, F4, rfl, h4, a4⟩; obtain ⟨a0, cap0, rfl, _, _⟩ := h4.form0)
          | (go_at_call 22; refine (open_any _ q V _ h4.rd (by omega)).mono ?_; rintro e w5 ⟨b5, F5, rfl, h5, a5, b5'⟩))
        have B4 := a4.below HB.out (fun k hk => hk.elim) HB.out.size
        have B5 := a5.below B4 (fun k hk => hk.elim) B4.size
        have hF5 := a5.from_ (B := W.heap.size) (fun k hk => hk.elim) B4.size
        have hM4 := HM.out.far a4 (fun _ h _ => h)
        have hsep5 : Sep F5 F0 := fun k hk hk0 => by
          rcases a5.into k hk with h | h
          · exact h
          · have := hM4.sl.bd k hk0; omega
        have hrel5 : BackRel2 W F0 (.slice A es.length c) es b5 q V F5 (.int .i64 0) w5 := ⟨0, rfl, Nat.zero_le _, hM4.far a5 (fun _ h _ => h), b5', B5, by simpa [lenOf] using h5⟩
        have H5 := Lib.hid hrel5
        have HS5 := Lib.hid hsep5
        have HF5 := Lib.hid hF5
        clear h5 B5 B4 h4 a4 a5 hF5 hM4 hsep5 hrel5 b5' HM HSP HF HB HP HW HDN hb
        go_loopw [8] (BackRel2 W F0 (.slice A es.length c) es b5 q V F5) (fun t _ => es.length - (intOf t).toNat)
        case atStart => exact H5.out
        case round =>
          clear H5
          obtain ⟨j, rfl, hj, hM, hb, hB, hR⟩ := hrel
          have HM := Lib.hid hM
          have HB := Lib.hid hB
          have HR := Lib.hid hR
          clear hM hB hR
          by_cases hlt : j < es.length
          · obtain ⟨g, cap, e, _, _⟩ := HM.out.sl.form (by omega)
            injection e with e1 e2 e3
            subst e1
            subst e3
            clear e2
            obtain ⟨g0, g1, g2, g3⟩ := HM.out.cells hlt
            obtain ⟨d, hd⟩ : ∃ d, d = es[j] := ⟨_, rfl⟩
            rw [← hd] at g0 g1 g2 g3
            have hI := HIT.out j hlt
            rw [← hd] at hI
            obtain ⟨hI1, hI2⟩ := hI
            have hfd := (HFS.out es[j] (List.getElem_mem _)).1
            have hsd := HM.out.sz es[j] (List.getElem_mem _)
            rw [← hd] at hfd hsd
            have hnext : lenOf (es.take (j + 1)) = lenOf (es.take j) + d.bits := by rw [List.take_succ_eq_append_getElem hlt, lenOf_snoc, hd]
            have HNX := Lib.hid hnext
            have HI1 := Lib.hid hI1
            have HI2 := Lib.hid hI2
            have HDD := Lib.hid hd
            clear hnext hI1 hI2 hd
            by_cases hk : d.kind = 0
            · have hk1 : (d.kind == 0) = true := by simp [hk]
              have hk2 : (d.kind != 0) = false := by simp [hk]
              obtain ⟨hn0, hn1, hn2⟩ := hfd hk
              have eb : d.bits = d.n.toNat := by unfold Do.bits; rw [if_pos hk]
              have en : d.num = d.x := by unfold Do.num; rw [if_pos hk]
              have hle : lenOf (es.take j) + d.n.toNat ≤ 8 * q := by have := HI2.out; omega
              have hval : bitsAt q V (lenOf (es.take j)) d.n.toNat = d.x := by have := HI1.out; rw [eb, en] at this; exact this
              have hget : ∀ w : World, RSt w F5 b5 q V (lenOf (es.take j)) → Bd F5 w → Calls Try.prog 24 #[.pointer (some ⟨b5, 0, none⟩), .int .i64 d.n] w fun e w' => e = .returned (.int .u64 (d.x : Int)) ∧ RSt w' F5 b5 q V (lenOf (es.take (j + 1))) ∧ Adv F5 w F5 w' ∧ Bd F5 w' := by
                intro w hr hbw
                have h := get_int b5 q V _ d.n F5 w hr hbw hn0 hn1 hle
                rw [hval] at h
                rw [HNX.out, eb]
                exact h
              have HG := Lib.hid hget
              rw [hk] at g0
              have HK := Lib.hid hk
              clear hget hval eb en hn0 hn1 hn2 hle hfd hk hk1 hk2
              go_wp2_with fail
              refine wp_region_held_drew (S := (fun w' => w'.cell? ⟨g, j * 4, none⟩ = some (.int .i64 0) ∧ w'.cell? ⟨g, j * 4 + 1, none⟩ = some (.int .u64 (d.x : Int)) ∧ w'.cell? ⟨g, j * 4 + 2, none⟩ = some (.int .i64 d.n))) (by kernel_rfl) (by first | exact ⟨g0, g1, g2⟩ | exact ⟨i0, i1, i2⟩) (fun hHeld => ?_)
              clear hHeld
              refine wpAnyH_take (i := 0) (oi := { dst := some 63, op := Go.Op.move (Go.Operand.tmp 0), type := 22, pos := "law.go:101", after := #[], guard := none }) (v := ?_) rfl (by kernel_rfl) (by kernel_rfl) (by kernel_rfl) (fun _ _ _ h => h) (Or.inl ⟨by rfl, ?_⟩) (by first | exact ⟨g0, g1, g2⟩ | exact ⟨i0, i1, i2⟩) ?_
              rotate_left
              · (intro w hSw; obtain ⟨s0, s1, s2⟩ := hSw; go_simp <;> with_reducible rfl)
              simp only [Act.put, List.setIfInBounds_toArray, List.set_cons_zero, List.set_cons_succ]
              refine wpAnyH_take (i := 1) (oi := { dst := some 64, op := Go.Op.move (Go.Operand.tmp 8), type := 3, pos := "law.go:101", after := #[], guard := none }) (v := ?_) rfl (by kernel_rfl) (by kernel_rfl) (by kernel_rfl) (fun _ _ _ h => h) (Or.inl ⟨by rfl, ?_⟩) (by first | exact ⟨g0, g1, g2⟩ | exact ⟨i0, i1, i2⟩) ?_
              rotate_left
              · (intro w hSw; obtain ⟨s0, s1, s2⟩ := hSw; go_simp <;> with_reducible rfl)
              simp only [Act.put, List.setIfInBounds_toArray, List.set_cons_zero, List.set_cons_succ]
              refine wpAnyH_take (i := 2) (oi := { dst := some 65, op := Go.Op.indexAddr 22 (Go.Operand.tmp 63) (Go.Operand.tmp 64), type := 0, pos := "law.go:101", after := #[{ on := 0, ground := Go.Ground.data }, { on := 1, ground := Go.Ground.data }], guard := none }) (v := ?_) rfl (by kernel_rfl) (by kernel_rfl) (by kernel_rfl) (fun _ _ _ h => h) (Or.inl ⟨by rfl, ?_⟩) (by first | exact ⟨g0, g1, g2⟩ | exact ⟨i0, i1, i2⟩) ?_
              rotate_left
              · (intro w hSw; obtain ⟨s0, s1, s2⟩ := hSw; go_simp <;> with_reducible rfl)
              simp only [Act.put, List.setIfInBounds_toArray, List.set_cons_zero, List.set_cons_succ]
              refine wpAnyH_take (i := 3) (oi := { dst := some 66, op := Go.Op.fieldAddr 29 (Go.Operand.tmp 65) 0, type := 0, pos := "law.go:101", after := #[{ on := 2, ground := Go.Ground.data }], guard := none }) (v := ?_) rfl (by kernel_rfl) (by kernel_rfl) (by kernel_rfl) (fun _ _ _ h => h) (Or.inl ⟨by rfl, ?_⟩) (by first | exact ⟨g0, g1, g2⟩ | exact ⟨i0, i1, i2⟩) ?_
              rotate_left
              · (intro w hSw; obtain ⟨s0, s1, s2⟩ := hSw; go_simp <;> with_reducible rfl)
              simp only [Act.put, List.setIfInBounds_toArray, List.set_cons_zero, List.set_cons_succ]
              refine wpAnyH_take (i := 4) (oi := { dst := some 67, op := Go.Op.load 3 (Go.Operand.tmp 66), type := 3, pos := "law.go:101", after := #[{ on := 3, ground := Go.Ground.data }], guard := none }) (v := ?_) rfl (by kernel_rfl) (by kernel_rfl) (by kernel_rfl) (fun _ _ _ h => h) (Or.inl ⟨by rfl, ?_⟩) (by first | exact ⟨g0, g1, g2⟩ | exact ⟨i0, i1, i2⟩) ?_
              rotate_left
              · (intro w hSw; obtain ⟨s0, s1, s2⟩ := hSw; go_simp <;> with_reducible rfl)
              simp only [Act.put, List.setIfInBounds_toArray, List.set_cons_zero, List.set_cons_succ]
              refine wpAnyH_take (i := 5) (oi := { dst := some 68, op := Go.Op.binOp Go.BinOp.eql 3 (Go.Operand.tmp 67) (Go.Operand.const (Go.Value.int Go.IntKind.i64 0)) 3, type := 4, pos := "law.go:101", after := #[{ on := 4, ground := Go.Ground.data }], guard := none }) (v := ?_) rfl (by kernel_rfl) (by kernel_rfl) (by kernel_rfl) (fun _ _ _ h => h) (Or.inl ⟨by rfl, ?_⟩) (by first | exact ⟨g0, g1, g2⟩ | exact ⟨i0, i1, i2⟩) ?_
              rotate_left
              · (intro w hSw; obtain ⟨s0, s1, s2⟩ := hSw; go_simp <;> with_reducible rfl)
              simp only [Act.put, List.setIfInBounds_toArray, List.set_cons_zero, List.set_cons_succ]
              refine wpAnyH_take (i := 6) (oi := { dst := some 69, op := Go.Op.move (Go.Operand.tmp 68), type := 4, pos := "law.go:101", after := #[{ on := 5, ground := Go.Ground.data }], guard := none }) (v := ?_) rfl (by kernel_rfl) (by kernel_rfl) (by kernel_rfl) (fun _ _ _ h => h) (Or.inl ⟨by rfl, ?_⟩) (by first | exact ⟨g0, g1, g2⟩ | exact ⟨i0, i1, i2⟩) ?_
              rotate_left
              · (intro w hSw; obtain ⟨s0, s1, s2⟩ := hSw; go_simp <;> with_reducible rfl)
              simp only [Act.put, List.setIfInBounds_toArray, List.set_cons_zero, List.set_cons_succ]
              refine wpAnyH_take (i := 7) (oi := { dst := some 70, op := Go.Op.move (Go.Operand.tmp 7), type := 43, pos := "law.go:101", after := #[{ on := 6, ground := Go.Ground.guard }], guard := some (6, true) }) (v := ?_) rfl (by kernel_rfl) (by kernel_rfl) (by kernel_rfl) (fun _ _ _ h => h) (Or.inl ⟨by rfl, ?_⟩) (by first | exact ⟨g0, g1, g2⟩ | exact ⟨i0, i1, i2⟩) ?_
              rotate_left
              · (intro w hSw; obtain ⟨s0, s1, s2⟩ := hSw; go_simp <;> with_reducible rfl)
              simp only [Act.put, List.setIfInBounds_toArray, List.set_cons_zero, List.set_cons_succ]
              refine wpAnyH_take (i := 8) (oi := { dst := some 71, op := Go.Op.move (Go.Operand.tmp 0), type := 22, pos := "law.go:101", after := #[{ on := 6, ground := Go.Ground.guard }], guard := some (6, true) }) (v := ?_) rfl (by kernel_rfl) (by kernel_rfl) (by kernel_rfl) (fun _ _ _ h => h) (Or.inl ⟨by rfl, ?_⟩) (by first | exact ⟨g0, g1, g2⟩ | exact ⟨i0, i1, i2⟩) ?_
              rotate_left
              · (intro w hSw; obtain ⟨s0, s1, s2⟩ := hSw; go_simp <;> with_reducible rfl)
              simp only [Act.put, List.setIfInBounds_toArray, List.set_cons_zero, List.set_cons_succ]
              refine wpAnyH_take (i := 9) (oi := { dst := some 72, op := Go.Op.move (Go.Operand.tmp 8), type := 3, pos := "law.go:101", after := #[{ on := 6, ground := Go.Ground.guard }], guard := some (6, true) }) (v := ?_) rfl (by kernel_rfl) (by kernel_rfl) (by kernel_rfl) (fun _ _ _ h => h) (Or.inl ⟨by rfl, ?_⟩) (by first | exact ⟨g0, g1, g2⟩ | exact ⟨i0, i1, i2⟩) ?_
              rotate_left
              · (intro w hSw; obtain ⟨s0, s1, s2⟩ := hSw; go_simp <;> with_reducible rfl)
              simp only [Act.put, List.setIfInBounds_toArray, List.set_cons_zero, List.set_cons_succ]
              refine wpAnyH_take (i := 10) (oi := { dst := some 73, op := Go.Op.indexAddr 22 (Go.Operand.tmp 71) (Go.Operand.tmp 72), type := 0, pos := "law.go:101", after := #[{ on := 8, ground := Go.Ground.data }, { on := 9, ground := Go.Ground.data }, { on := 6, ground := Go.Ground.guard }], guard := some (6, true) }) (v := ?_) rfl (by kernel_rfl) (by kernel_rfl) (by kernel_rfl) (fun _ _ _ h => h) (Or.inl ⟨by rfl, ?_⟩) (by first | exact ⟨g0, g1, g2⟩ | exact ⟨i0, i1, i2⟩) ?_
              rotate_left
              · (intro w hSw; obtain ⟨s0, s1, s2⟩ := hSw; go_simp <;> with_reducible rfl)
              simp only [Act.put, List.setIfInBounds_toArray, List.set_cons_zero, List.set_cons_succ]
              refine wpAnyH_take (i := 11) (oi := { dst := some 74, op := Go.Op.fieldAddr 29 (Go.Operand.tmp 73) 2, type := 0, pos := "law.go:101", after := #[{ on := 10, ground := Go.Ground.data }, { on := 6, ground := Go.Ground.guard }], guard := some (6, true) }) (v := ?_) rfl (by kernel_rfl) (by kernel_rfl) (by kernel_rfl) (fun _ _ _ h => h) (Or.inl ⟨by rfl, ?_⟩) (by first | exact ⟨g0, g1, g2⟩ | exact ⟨i0, i1, i2⟩) ?_
              rotate_left
              · (intro w hSw; obtain ⟨s0, s1, s2⟩ := hSw; go_simp <;> with_reducible rfl)
              simp only [Act.put, List.setIfInBounds_toArray, List.set_cons_zero, List.set_cons_succ]
              refine wpAnyH_take (i := 12) (oi := { dst := some 75, op := Go.Op.load 3 (Go.Operand.tmp 74), type := 3, pos := "law.go:101", after := #[{ on := 11, ground := Go.Ground.data }, { on := 6, ground := Go.Ground.guard }], guard := some (6, true) }) (v := ?_) rfl (by kernel_rfl) (by kernel_rfl) (by kernel_rfl) (fun _ _ _ h => h) (Or.inl ⟨by rfl, ?_⟩) (by first | exact ⟨g0, g1, g2⟩ | exact ⟨i0, i1, i2⟩) ?_
              rotate_left
              · (intro w hSw; obtain ⟨s0, s1, s2⟩ := hSw; go_simp <;> with_reducible rfl)
              simp only [Act.put, List.setIfInBounds_toArray, List.set_cons_zero, List.set_cons_succ]
              refine wpAnyH_take (i := 14) (oi := { dst := some 77, op := Go.Op.move (Go.Operand.tmp 0), type := 22, pos := "law.go:101", after := #[{ on := 6, ground := Go.Ground.guard }], guard := some (6, true) }) (v := ?_) rfl (by kernel_rfl) (by kernel_rfl) (by kernel_rfl) (fun _ _ _ h => h) (Or.inl ⟨by rfl, ?_⟩) (by first | exact ⟨g0, g1, g2⟩ | exact ⟨i0, i1, i2⟩) ?_
              rotate_left
              · (intro w hSw; obtain ⟨s0, s1, s2⟩ := hSw; go_simp <;> with_reducible rfl)
              simp only [Act.put, List.setIfInBounds_toArray, List.set_cons_zero, List.set_cons_succ]
              refine wpAnyH_take (i := 15) (oi := { dst := some 78, op := Go.Op.move (Go.Operand.tmp 8), type := 3, pos := "law.go:101", after := #[{ on := 6, ground := Go.Ground.guard }], guard := some (6, true) }) (v := ?_) rfl (by kernel_rfl) (by kernel_rfl) (by kernel_rfl) (fun _ _ _ h => h) (Or.inl ⟨by rfl, ?_⟩) (by first | exact ⟨g0, g1, g2⟩ | exact ⟨i0, i1, i2⟩) ?_
              rotate_left
              · (intro w hSw; obtain ⟨s0, s1, s2⟩ := hSw; go_simp <;> with_reducible rfl)
              simp only [Act.put, List.setIfInBounds_toArray, List.set_cons_zero, List.set_cons_succ]
              refine wpAnyH_take (i := 16) (oi := { dst := some 79, op := Go.Op.indexAddr 22 (Go.Operand.tmp 77) (Go.Operand.tmp 78), type := 0, pos := "law.go:101", after := #[{ on := 14, ground := Go.Ground.data }, { on := 15, ground := Go.Ground.data }, { on := 6, ground := Go.Ground.guard }], guard := some (6, true) }) (v := ?_) rfl (by kernel_rfl) (by kernel_rfl) (by kernel_rfl) (fun _ _ _ h => h) (Or.inl ⟨by rfl, ?_⟩) (by first | exact ⟨g0, g1, g2⟩ | exact ⟨i0, i1, i2⟩) ?_
              rotate_left
              · (intro w hSw; obtain ⟨s0, s1, s2⟩ := hSw; go_simp <;> with_reducible rfl)
              simp only [Act.put, List.setIfInBounds_toArray, List.set_cons_zero, List.set_cons_succ]
              refine wpAnyH_take (i := 17) (oi := { dst := some 80, op := Go.Op.fieldAddr 29 (Go.Operand.tmp 79) 1, type := 0, pos := "law.go:101", after := #[{ on := 16, ground := Go.Ground.data }, { on := 6, ground := Go.Ground.guard }], guard := some (6, true) }) (v := ?_) rfl (by kernel_rfl) (by kernel_rfl) (by kernel_rfl) (fun _ _ _ h => h) (Or.inl ⟨by rfl, ?_⟩) (by first | exact ⟨g0, g1, g2⟩ | exact ⟨i0, i1, i2⟩) ?_
              rotate_left
              · (intro w hSw; obtain ⟨s0, s1, s2⟩ := hSw; go_simp <;> with_reducible rfl)
              simp only [Act.put, List.setIfInBounds_toArray, List.set_cons_zero, List.set_cons_succ]
              refine wpAnyH_take (i := 18) (oi := { dst := some 81, op := Go.Op.load 27 (Go.Operand.tmp 80), type := 27, pos := "law.go:101", after := #[{ on := 17, ground := Go.Ground.data }, { on := 6, ground := Go.Ground.guard }], guard := some (6, true) }) (v := ?_) rfl (by kernel_rfl) (by kernel_rfl) (by kernel_rfl) (fun _ _ _ h => h) (Or.inl ⟨by rfl, ?_⟩) (by first | exact ⟨g0, g1, g2⟩ | exact ⟨i0, i1, i2⟩) ?_
              rotate_left
              · (intro w hSw; obtain ⟨s0, s1, s2⟩ := hSw; go_simp <;> with_reducible rfl)
              simp only [Act.put, List.setIfInBounds_toArray, List.set_cons_zero, List.set_cons_succ]
              refine wpAnyH_ready (rs := [13]) (by kernel_rfl) (by simp) ?_
              refine AllReadyH.cons (o := { dst := some 76, op := Go.Op.call { callee := Go.Callee.value (Go.Operand.func 24), args := #[Go.Operand.tmp 70, Go.Operand.tmp 75], argTypes := #[43, 3] }, type := 27, pos := "law.go:101", after := #[{ on := 7, ground := Go.Ground.data }, { on := 12, ground := Go.Ground.data }, { on := 6, ground := Go.Ground.chain }, { on := 6, ground := Go.Ground.guard }], guard := some (6, true) }) rfl (fun K hK => ?_) AllReadyH.nil
              go_simp
              refine (HG.out _ (HR.out.drewN 1) hb).mono ?_
              rintro e w4 ⟨rfl, hp4, ha4, hb4⟩
              have hM4 := HM.out.far (Adv.of_drew ha4) HS5.out
              obtain ⟨i0, i1, i2, i3⟩ := hM4.cells hlt
              rw [← HDD.out] at i0 i1 i2
              rw [HK.out] at i0
              go_wp2_with fail
              refine hK.out _ _ (by first | exact ⟨g0, g1, g2⟩ | exact ⟨i0, i1, i2⟩) (fun hHeld => ?_)
              clear hK K hHeld
              try simp only [Act.put, List.setIfInBounds_toArray, List.set_cons_zero, List.set_cons_succ]
              refine wpAnyH_take (i := 19) (oi := { dst := some 82, op := Go.Op.binOp Go.BinOp.neq 27 (Go.Operand.tmp 76) (Go.Operand.tmp 81) 27, type := 4, pos := "law.go:101", after := #[{ on := 13, ground := Go.Ground.data }, { on := 18, ground := Go.Ground.data }, { on := 6, ground := Go.Ground.guard }], guard := some (6, true) }) (v := ?_) rfl (by kernel_rfl) (by kernel_rfl) (by kernel_rfl) (fun _ _ _ h => h) (Or.inl ⟨by rfl, ?_⟩) (by first | exact ⟨g0, g1, g2⟩ | exact ⟨i0, i1, i2⟩) ?_
              rotate_left
              · (intro w hSw; obtain ⟨s0, s1, s2⟩ := hSw; go_simp <;> with_reducible rfl)
              simp only [Act.put, List.setIfInBounds_toArray, List.set_cons_zero, List.set_cons_succ]
              refine wpAnyH_take (i := 20) (oi := { dst := some 83, op := Go.Op.pick (Go.Operand.tmp 69) (Go.Operand.tmp 82) (Go.Operand.const (Go.Value.bool false)), type := 4, pos := "law.go:101", after := #[{ on := 6, ground := Go.Ground.data }, { on := 19, ground := Go.Ground.data }], guard := none }) (v := ?_) rfl (by kernel_rfl) (by kernel_rfl) (by kernel_rfl) (fun _ _ _ h => h) (Or.inl ⟨by rfl, ?_⟩) (by first | exact ⟨g0, g1, g2⟩ | exact ⟨i0, i1, i2⟩) ?_
              rotate_left
              · (intro w hSw; obtain ⟨s0, s1, s2⟩ := hSw; go_simp <;> with_reducible rfl)
              simp only [Act.put, List.setIfInBounds_toArray, List.set_cons_zero, List.set_cons_succ]
              refine wpAnyH_take (i := 21) (oi := { dst := some 84, op := Go.Op.move (Go.Operand.tmp 83), type := 4, pos := "law.go:101", after := #[{ on := 20, ground := Go.Ground.data }, { on := 13, ground := Go.Ground.chain }], guard := none }) (v := ?_) rfl (by kernel_rfl) (by kernel_rfl) (by kernel_rfl) (fun _ _ _ h => h) (Or.inl ⟨by rfl, ?_⟩) (by first | exact ⟨g0, g1, g2⟩ | exact ⟨i0, i1, i2⟩) ?_
              rotate_left
              · (intro w hSw; obtain ⟨s0, s1, s2⟩ := hSw; go_simp <;> with_reducible rfl)
              simp only [Act.put, List.setIfInBounds_toArray, List.set_cons_zero, List.set_cons_succ]
              refine wpAnyH_take (i := 22) (oi := { dst := some 85, op := Go.Op.move (Go.Operand.tmp 0), type := 22, pos := "law.go:101", after := #[{ on := 21, ground := Go.Ground.guard }], guard := some (21, false) }) (v := ?_) rfl (by kernel_rfl) (by kernel_rfl) (by kernel_rfl) (fun _ _ _ h => h) (Or.inl ⟨by rfl, ?_⟩) (by first | exact ⟨g0, g1, g2⟩ | exact ⟨i0, i1, i2⟩) ?_
              rotate_left
              · (intro w hSw; obtain ⟨s0, s1, s2⟩ := hSw; go_simp <;> with_reducible rfl)
              simp only [Act.put, List.setIfInBounds_toArray, List.set_cons_zero, List.set_cons_succ]
              refine wpAnyH_take (i := 23) (oi := { dst := some 86, op := Go.Op.move (Go.Operand.tmp 8), type := 3, pos := "law.go:101", after := #[{ on := 21, ground := Go.Ground.guard }], guard := some (21, false) }) (v := ?_) rfl (by kernel_rfl) (by kernel_rfl) (by kernel_rfl) (fun _ _ _ h => h) (Or.inl ⟨by rfl, ?_⟩) (by first | exact ⟨g0, g1, g2⟩ | exact ⟨i0, i1, i2⟩) ?_
              rotate_left
              · (intro w hSw; obtain ⟨s0, s1, s2⟩ := hSw; go_simp <;> with_reducible rfl)
              simp only [Act.put, List.setIfInBounds_toArray, List.set_cons_zero, List.set_cons_succ]
              refine wpAnyH_take (i := 24) (oi := { dst := some 87, op := Go.Op.indexAddr 22 (Go.Operand.tmp 85) (Go.Operand.tmp 86), type := 0, pos := "law.go:101", after := #[{ on := 22, ground := Go.Ground.data }, { on := 23, ground := Go.Ground.data }, { on := 21, ground := Go.Ground.guard }], guard := some (21, false) }) (v := ?_) rfl (by kernel_rfl) (by kernel_rfl) (by kernel_rfl) (fun _ _ _ h => h) (Or.inl ⟨by rfl, ?_⟩) (by first | exact ⟨g0, g1, g2⟩ | exact ⟨i0, i1, i2⟩) ?_
              rotate_left
              · (intro w hSw; obtain ⟨s0, s1, s2⟩ := hSw; go_simp <;> with_reducible rfl)
              simp only [Act.put, List.setIfInBounds_toArray, List.set_cons_zero, List.set_cons_succ]
              refine wpAnyH_take (i := 25) (oi := { dst := some 88, op := Go.Op.fieldAddr 29 (Go.Operand.tmp 87) 0, type := 0, pos := "law.go:101", after := #[{ on := 24, ground := Go.Ground.data }, { on := 21, ground := Go.Ground.guard }], guard := some (21, false) }) (v := ?_) rfl (by kernel_rfl) (by kernel_rfl) (by kernel_rfl) (fun _ _ _ h => h) (Or.inl ⟨by rfl, ?_⟩) (by first | exact ⟨g0, g1, g2⟩ | exact ⟨i0, i1, i2⟩) ?_
              rotate_left
              · (intro w hSw; obtain ⟨s0, s1, s2⟩ := hSw; go_simp <;> with_reducible rfl)
              simp only [Act.put, List.setIfInBounds_toArray, List.set_cons_zero, List.set_cons_succ]
              refine wpAnyH_take (i := 26) (oi := { dst := some 89, op := Go.Op.load 3 (Go.Operand.tmp 88), type := 3, pos := "law.go:101", after := #[{ on := 25, ground := Go.Ground.data }, { on := 21, ground := Go.Ground.guard }], guard := some (21, false) }) (v := ?_) rfl (by kernel_rfl) (by kernel_rfl) (by kernel_rfl) (fun _ _ _ h => h) (Or.inl ⟨by rfl, ?_⟩) (by first | exact ⟨g0, g1, g2⟩ | exact ⟨i0, i1, i2⟩) ?_
              rotate_left
              · (intro w hSw; obtain ⟨s0, s1, s2⟩ := hSw; go_simp <;> with_reducible rfl)
              simp only [Act.put, List.setIfInBounds_toArray, List.set_cons_zero, List.set_cons_succ]
              refine wpAnyH_take (i := 27) (oi := { dst := some 90, op := Go.Op.binOp Go.BinOp.neq 3 (Go.Operand.tmp 89) (Go.Operand.const (Go.Value.int Go.IntKind.i64 0)) 3, type := 4, pos := "law.go:101", after := #[{ on := 26, ground := Go.Ground.data }, { on := 21, ground := Go.Ground.guard }], guard := some (21, false) }) (v := ?_) rfl (by kernel_rfl) (by kernel_rfl) (by kernel_rfl) (fun _ _ _ h => h) (Or.inl ⟨by rfl, ?_⟩) (by first | exact ⟨g0, g1, g2⟩ | exact ⟨i0, i1, i2⟩) ?_
              rotate_left
              · (intro w hSw; obtain ⟨s0, s1, s2⟩ := hSw; go_simp <;> with_reducible rfl)
              simp only [Act.put, List.setIfInBounds_toArray, List.set_cons_zero, List.set_cons_succ]
              refine wpAnyH_take (i := 28) (oi := { dst := some 91, op := Go.Op.move (Go.Operand.tmp 90), type := 4, pos := "law.go:101", after := #[{ on := 27, ground := Go.Ground.data }, { on := 21, ground := Go.Ground.chain }, { on := 21, ground := Go.Ground.guard }], guard := some (21, false) }) (v := ?_) rfl (by kernel_rfl) (by kernel_rfl) (by kernel_rfl) (fun _ _ _ h => h) (Or.inl ⟨by rfl, ?_⟩) (by first | exact ⟨g0, g1, g2⟩ | exact ⟨i0, i1, i2⟩) ?_
              rotate_left
              · (intro w hSw; obtain ⟨s0, s1, s2⟩ := hSw; go_simp <;> with_reducible rfl)
              simp only [Act.put, List.setIfInBounds_toArray, List.set_cons_zero, List.set_cons_succ]
              refine wpAnyH_take (i := 29) (oi := { dst := some 92, op := Go.Op.move (Go.Operand.tmp 7), type := 43, pos := "law.go:101", after := #[{ on := 28, ground := Go.Ground.guard }], guard := some (28, true) }) (v := undef) rfl (by kernel_rfl) (by kernel_rfl) (by kernel_rfl) (fun _ _ _ h => h) (Or.inr ⟨by rfl, rfl⟩) (by first | exact ⟨g0, g1, g2⟩ | exact ⟨i0, i1, i2⟩) ?_
              try simp only [Act.put, List.setIfInBounds_toArray, List.set_cons_zero, List.set_cons_succ]
              refine wpAnyH_take (i := 30) (oi := { dst := some 93, op := Go.Op.call { callee := Go.Callee.value (Go.Operand.func 26), args := #[Go.Operand.tmp 92], argTypes := #[43] }, type := 9, pos := "law.go:101", after := #[{ on := 29, ground := Go.Ground.data }, { on := 28, ground := Go.Ground.chain }, { on := 28, ground := Go.Ground.guard }], guard := some (28, true) }) (v := undef) rfl (by kernel_rfl) (by kernel_rfl) (by kernel_rfl) (fun _ _ _ h => h) (Or.inr ⟨by rfl, rfl⟩) (by first | exact ⟨g0, g1, g2⟩ | exact ⟨i0, i1, i2⟩) ?_
              try simp only [Act.put, List.setIfInBounds_toArray, List.set_cons_zero, List.set_cons_succ]
              refine wpAnyH_take (i := 31) (oi := { dst := some 94, op := Go.Op.move (Go.Operand.tmp 0), type := 22, pos := "law.go:101", after := #[{ on := 28, ground := Go.Ground.guard }], guard := some (28, true) }) (v := undef) rfl (by kernel_rfl) (by kernel_rfl) (by kernel_rfl) (fun _ _ _ h => h) (Or.inr ⟨by rfl, rfl⟩) (by first | exact ⟨g0, g1, g2⟩ | exact ⟨i0, i1, i2⟩) ?_
              try simp only [Act.put, List.setIfInBounds_toArray, List.set_cons_zero, List.set_cons_succ]
              refine wpAnyH_take (i := 32) (oi := { dst := some 95, op := Go.Op.move (Go.Operand.tmp 8), type := 3, pos := "law.go:101", after := #[{ on := 28, ground := Go.Ground.guard }], guard := some (28, true) }) (v := undef) rfl (by kernel_rfl) (by kernel_rfl) (by kernel_rfl) (fun _ _ _ h => h) (Or.inr ⟨by rfl, rfl⟩) (by first | exact ⟨g0, g1, g2⟩ | exact ⟨i0, i1, i2⟩) ?_
              try simp only [Act.put, List.setIfInBounds_toArray, List.set_cons_zero, List.set_cons_succ]
              refine wpAnyH_take (i := 33) (oi := { dst := some 96, op := Go.Op.indexAddr 22 (Go.Operand.tmp 94) (Go.Operand.tmp 95), type := 0, pos := "law.go:101", after := #[{ on := 31, ground := Go.Ground.data }, { on := 32, ground := Go.Ground.data }, { on := 28, ground := Go.Ground.guard }], guard := some (28, true) }) (v := undef) rfl (by kernel_rfl) (by kernel_rfl) (by kernel_rfl) (fun _ _ _ h => h) (Or.inr ⟨by rfl, rfl⟩) (by first | exact ⟨g0, g1, g2⟩ | exact ⟨i0, i1, i2⟩) ?_
              try simp only [Act.put, List.setIfInBounds_toArray, List.set_cons_zero, List.set_cons_succ]
              refine wpAnyH_take (i := 34) (oi := { dst := some 97, op := Go.Op.fieldAddr 29 (Go.Operand.tmp 96) 3, type := 0, pos := "law.go:101", after := #[{ on := 33, ground := Go.Ground.data }, { on := 28, ground := Go.Ground.guard }], guard := some (28, true) }) (v := undef) rfl (by kernel_rfl) (by kernel_rfl) (by kernel_rfl) (fun _ _ _ h => h) (Or.inr ⟨by rfl, rfl⟩) (by first | exact ⟨g0, g1, g2⟩ | exact ⟨i0, i1, i2⟩) ?_
              try simp only [Act.put, List.setIfInBounds_toArray, List.set_cons_zero, List.set_cons_succ]
              refine wpAnyH_take (i := 35) (oi := { dst := some 98, op := Go.Op.load 9 (Go.Operand.tmp 97), type := 9, pos := "law.go:101", after := #[{ on := 34, ground := Go.Ground.data }, { on := 28, ground := Go.Ground.guard }], guard := some (28, true) }) (v := undef) rfl (by kernel_rfl) (by kernel_rfl) (by kernel_rfl) (fun _ _ _ h => h) (Or.inr ⟨by rfl, rfl⟩) (by first | exact ⟨g0, g1, g2⟩ | exact ⟨i0, i1, i2⟩) ?_
              try simp only [Act.put, List.setIfInBounds_toArray, List.set_cons_zero, List.set_cons_succ]
              refine wpAnyH_take (i := 36) (oi := { dst := some 99, op := Go.Op.binOp Go.BinOp.neq 9 (Go.Operand.tmp 93) (Go.Operand.tmp 98) 9, type := 4, pos := "law.go:101", after := #[{ on := 30, ground := Go.Ground.data }, { on := 35, ground := Go.Ground.data }, { on := 28, ground := Go.Ground.guard }], guard := some (28, true) }) (v := undef) rfl (by kernel_rfl) (by kernel_rfl) (by kernel_rfl) (fun _ _ _ h => h) (Or.inr ⟨by rfl, rfl⟩) (by first | exact ⟨g0, g1, g2⟩ | exact ⟨i0, i1, i2⟩) ?_
              try simp only [Act.put, List.setIfInBounds_toArray, List.set_cons_zero, List.set_cons_succ]
              refine wpAnyH_take (i := 37) (oi := { dst := some 100, op := Go.Op.pick (Go.Operand.tmp 91) (Go.Operand.tmp 99) (Go.Operand.const (Go.Value.bool false)), type := 4, pos := "law.go:101", after := #[{ on := 28, ground := Go.Ground.data }, { on := 36, ground := Go.Ground.data }, { on := 21, ground := Go.Ground.guard }], guard := some (21, false) }) (v := ?_) rfl (by kernel_rfl) (by kernel_rfl) (by kernel_rfl) (fun _ _ _ h => h) (Or.inl ⟨by rfl, ?_⟩) (by first | exact ⟨g0, g1, g2⟩ | exact ⟨i0, i1, i2⟩) ?_
              rotate_left
              · (intro w hSw; obtain ⟨s0, s1, s2⟩ := hSw; go_simp <;> with_reducible rfl)
              simp only [Act.put, List.setIfInBounds_toArray, List.set_cons_zero, List.set_cons_succ]
              refine wpAnyH_take (i := 38) (oi := { dst := some 101, op := Go.Op.pick (Go.Operand.tmp 84) (Go.Operand.const (Go.Value.bool true)) (Go.Operand.tmp 100), type := 4, pos := "law.go:101", after := #[{ on := 21, ground := Go.Ground.data }, { on := 37, ground := Go.Ground.data }], guard := none }) (v := ?_) rfl (by kernel_rfl) (by kernel_rfl) (by kernel_rfl) (fun _ _ _ h => h) (Or.inl ⟨by rfl, ?_⟩) (by first | exact ⟨g0, g1, g2⟩ | exact ⟨i0, i1, i2⟩) ?_
              rotate_left
              · (intro w hSw; obtain ⟨s0, s1, s2⟩ := hSw; go_simp <;> with_reducible rfl)
              simp only [Act.put, List.setIfInBounds_toArray, List.set_cons_zero, List.set_cons_succ]
              refine wpAnyH_done (by kernel_rfl) ?_ _
              go_wp2
              exact ⟨⟨j + 1, by simp, by omega, hM4, hb4, (Adv.of_drew ha4).below HB.out HF5.out HB.out.size, hp4⟩, by simp [intOf]; omega⟩
            · have hk1 : (d.kind == 0) = false := by simp [hk]
              have hk2 : (d.kind != 0) = true := by simp [hk]
              have eb : d.bits = 16 + 8 * d.s.size := by unfold Do.bits; rw [if_neg hk]
              have en : d.num = tx d.s.size d.s.data.toList := by unfold Do.num; rw [if_neg hk]
              have hle : lenOf (es.take j) + (16 + 8 * d.s.size) ≤ 8 * q := by have := HI2.out; omega
              have hval := HI1.out
              rw [eb, en] at hval
              obtain ⟨hb16, hbt⟩ := text_back q V (lenOf (es.take j)) d.s hval hle
              have hget : ∀ w : World, RSt w F5 b5 q V (lenOf (es.take j)) → Bd F5 w → Calls Try.prog 26 #[.pointer (some ⟨b5, 0, none⟩)] w fun e w' => e = .returned (.string d.s) ∧ RSt w' F5 b5 q V (lenOf (es.take (j + 1))) ∧ Adv F5 w F5 w' ∧ Bd F5 w' := by
                intro w hr hbw
                have h := rtext_ok b5 q V (lenOf (es.take j)) d.s.size F5 w hr hbw hb16.symm (by omega)
                rw [hbt] at h
                rw [HNX.out, eb, ← Nat.add_assoc]
                exact h
              have HG := Lib.hid hget
              clear hget hval eb en hle hfd hk hb16 hbt
              go_wp2_with fail
              refine wp_region_held_drew (S := (fun w' => w'.cell? ⟨g, j * 4, none⟩ = some (.int .i64 d.kind) ∧ w'.cell? ⟨g, j * 4 + 3, none⟩ = some (.string d.s))) (by kernel_rfl) (by first | exact ⟨g0, g3⟩ | exact ⟨i0, i3⟩) (fun hHeld => ?_)
              clear hHeld
              refine wpAnyH_take (i := 0) (oi := { dst := some 63, op := Go.Op.move (Go.Operand.tmp 0), type := 22, pos := "law.go:101", after := #[], guard := none }) (v := ?_) rfl (by kernel_rfl) (by kernel_rfl) (by kernel_rfl) (fun _ _ _ h => h) (Or.inl ⟨by rfl, ?_⟩) (by first | exact ⟨g0, g3⟩ | exact ⟨i0, i3⟩) ?_
              rotate_left
              · (intro w hSw; obtain ⟨s0, s3⟩ := hSw; go_simp <;> with_reducible rfl)
              simp only [Act.put, List.setIfInBounds_toArray, List.set_cons_zero, List.set_cons_succ]
              refine wpAnyH_take (i := 1) (oi := { dst := some 64, op := Go.Op.move (Go.Operand.tmp 8), type := 3, pos := "law.go:101", after := #[], guard := none }) (v := ?_) rfl (by kernel_rfl) (by kernel_rfl) (by kernel_rfl) (fun _ _ _ h => h) (Or.inl ⟨by rfl, ?_⟩) (by first | exact ⟨g0, g3⟩ | exact ⟨i0, i3⟩) ?_
              rotate_left
              · (intro w hSw; obtain ⟨s0, s3⟩ := hSw; go_simp <;> with_reducible rfl)
              simp only [Act.put, List.setIfInBounds_toArray, List.set_cons_zero, List.set_cons_succ]
              refine wpAnyH_take (i := 2) (oi := { dst := some 65, op := Go.Op.indexAddr 22 (Go.Operand.tmp 63) (Go.Operand.tmp 64), type := 0, pos := "law.go:101", after := #[{ on := 0, ground := Go.Ground.data }, { on := 1, ground := Go.Ground.data }], guard := none }) (v := ?_) rfl (by kernel_rfl) (by kernel_rfl) (by kernel_rfl) (fun _ _ _ h => h) (Or.inl ⟨by rfl, ?_⟩) (by first | exact ⟨g0, g3⟩ | exact ⟨i0, i3⟩) ?_
              rotate_left
              · (intro w hSw; obtain ⟨s0, s3⟩ := hSw; go_simp <;> with_reducible rfl)
              simp only [Act.put, List.setIfInBounds_toArray, List.set_cons_zero, List.set_cons_succ]
              refine wpAnyH_take (i := 3) (oi := { dst := some 66, op := Go.Op.fieldAddr 29 (Go.Operand.tmp 65) 0, type := 0, pos := "law.go:101", after := #[{ on := 2, ground := Go.Ground.data }], guard := none }) (v := ?_) rfl (by kernel_rfl) (by kernel_rfl) (by kernel_rfl) (fun _ _ _ h => h) (Or.inl ⟨by rfl, ?_⟩) (by first | exact ⟨g0, g3⟩ | exact ⟨i0, i3⟩) ?_
              rotate_left
              · (intro w hSw; obtain ⟨s0, s3⟩ := hSw; go_simp <;> with_reducible rfl)
              simp only [Act.put, List.setIfInBounds_toArray, List.set_cons_zero, List.set_cons_succ]
              refine wpAnyH_take (i := 4) (oi := { dst := some 67, op := Go.Op.load 3 (Go.Operand.tmp 66), type := 3, pos := "law.go:101", after := #[{ on := 3, ground := Go.Ground.data }], guard := none }) (v := ?_) rfl (by kernel_rfl) (by kernel_rfl) (by kernel_rfl) (fun _ _ _ h => h) (Or.inl ⟨by rfl, ?_⟩) (by first | exact ⟨g0, g3⟩ | exact ⟨i0, i3⟩) ?_
              rotate_left
              · (intro w hSw; obtain ⟨s0, s3⟩ := hSw; go_simp <;> with_reducible rfl)
              simp only [Act.put, List.setIfInBounds_toArray, List.set_cons_zero, List.set_cons_succ]
              refine wpAnyH_take (i := 5) (oi := { dst := some 68, op := Go.Op.binOp Go.BinOp.eql 3 (Go.Operand.tmp 67) (Go.Operand.const (Go.Value.int Go.IntKind.i64 0)) 3, type := 4, pos := "law.go:101", after := #[{ on := 4, ground := Go.Ground.data }], guard := none }) (v := ?_) rfl (by kernel_rfl) (by kernel_rfl) (by kernel_rfl) (fun _ _ _ h => h) (Or.inl ⟨by rfl, ?_⟩) (by first | exact ⟨g0, g3⟩ | exact ⟨i0, i3⟩) ?_
              rotate_left
              · (intro w hSw; obtain ⟨s0, s3⟩ := hSw; go_simp <;> with_reducible rfl)
              simp only [Act.put, List.setIfInBounds_toArray, List.set_cons_zero, List.set_cons_succ]
              refine wpAnyH_take (i := 6) (oi := { dst := some 69, op := Go.Op.move (Go.Operand.tmp 68), type := 4, pos := "law.go:101", after := #[{ on := 5, ground := Go.Ground.data }], guard := none }) (v := ?_) rfl (by kernel_rfl) (by kernel_rfl) (by kernel_rfl) (fun _ _ _ h => h) (Or.inl ⟨by rfl, ?_⟩) (by first | exact ⟨g0, g3⟩ | exact ⟨i0, i3⟩) ?_
              rotate_left
              · (intro w hSw; obtain ⟨s0, s3⟩ := hSw; go_simp <;> with_reducible rfl)
              simp only [Act.put, List.setIfInBounds_toArray, List.set_cons_zero, List.set_cons_succ]
              refine wpAnyH_take (i := 7) (oi := { dst := some 70, op := Go.Op.move (Go.Operand.tmp 7), type := 43, pos := "law.go:101", after := #[{ on := 6, ground := Go.Ground.guard }], guard := some (6, true) }) (v := undef) rfl (by kernel_rfl) (by kernel_rfl) (by kernel_rfl) (fun _ _ _ h => h) (Or.inr ⟨by rfl, rfl⟩) (by first | exact ⟨g0, g3⟩ | exact ⟨i0, i3⟩) ?_
              try simp only [Act.put, List.setIfInBounds_toArray, List.set_cons_zero, List.set_cons_succ]
              refine wpAnyH_take (i := 8) (oi := { dst := some 71, op := Go.Op.move (Go.Operand.tmp 0), type := 22, pos := "law.go:101", after := #[{ on := 6, ground := Go.Ground.guard }], guard := some (6, true) }) (v := undef) rfl (by kernel_rfl) (by kernel_rfl) (by kernel_rfl) (fun _ _ _ h => h) (Or.inr ⟨by rfl, rfl⟩) (by first | exact ⟨g0, g3⟩ | exact ⟨i0, i3⟩) ?_
              try simp only [Act.put, List.setIfInBounds_toArray, List.set_cons_zero, List.set_cons_succ]
              refine wpAnyH_take (i := 9) (oi := { dst := some 72, op := Go.Op.move (Go.Operand.tmp 8), type := 3, pos := "law.go:101", after := #[{ on := 6, ground := Go.Ground.guard }], guard := some (6, true) }) (v := undef) rfl (by kernel_rfl) (by kernel_rfl) (by kernel_rfl) (fun _ _ _ h => h) (Or.inr ⟨by rfl, rfl⟩) (by first | exact ⟨g0, g3⟩ | exact ⟨i0, i3⟩) ?_
              try simp only [Act.put, List.setIfInBounds_toArray, List.set_cons_zero, List.set_cons_succ]
              refine wpAnyH_take (i := 10) (oi := { dst := some 73, op := Go.Op.indexAddr 22 (Go.Operand.tmp 71) (Go.Operand.tmp 72), type := 0, pos := "law.go:101", after := #[{ on := 8, ground := Go.Ground.data }, { on := 9, ground := Go.Ground.data }, { on := 6, ground := Go.Ground.guard }], guard := some (6, true) }) (v := undef) rfl (by kernel_rfl) (by kernel_rfl) (by kernel_rfl) (fun _ _ _ h => h) (Or.inr ⟨by rfl, rfl⟩) (by first | exact ⟨g0, g3⟩ | exact ⟨i0, i3⟩) ?_
              try simp only [Act.put, List.setIfInBounds_toArray, List.set_cons_zero, List.set_cons_succ]
              refine wpAnyH_take (i := 11) (oi := { dst := some 74, op := Go.Op.fieldAddr 29 (Go.Operand.tmp 73) 2, type := 0, pos := "law.go:101", after := #[{ on := 10, ground := Go.Ground.data }, { on := 6, ground := Go.Ground.guard }], guard := some (6, true) }) (v := undef) rfl (by kernel_rfl) (by kernel_rfl) (by kernel_rfl) (fun _ _ _ h => h) (Or.inr ⟨by rfl, rfl⟩) (by first | exact ⟨g0, g3⟩ | exact ⟨i0, i3⟩) ?_
              try simp only [Act.put, List.setIfInBounds_toArray, List.set_cons_zero, List.set_cons_succ]
              refine wpAnyH_take (i := 12) (oi := { dst := some 75, op := Go.Op.load 3 (Go.Operand.tmp 74), type := 3, pos := "law.go:101", after := #[{ on := 11, ground := Go.Ground.data }, { on := 6, ground := Go.Ground.guard }], guard := some (6, true) }) (v := undef) rfl (by kernel_rfl) (by kernel_rfl) (by kernel_rfl) (fun _ _ _ h => h) (Or.inr ⟨by rfl, rfl⟩) (by first | exact ⟨g0, g3⟩ | exact ⟨i0, i3⟩) ?_
              try simp only [Act.put, List.setIfInBounds_toArray, List.set_cons_zero, List.set_cons_succ]
              refine wpAnyH_take (i := 13) (oi := { dst := some 76, op := Go.Op.call { callee := Go.Callee.value (Go.Operand.func 24), args := #[Go.Operand.tmp 70, Go.Operand.tmp 75], argTypes := #[43, 3] }, type := 27, pos := "law.go:101", after := #[{ on := 7, ground := Go.Ground.data }, { on := 12, ground := Go.Ground.data }, { on := 6, ground := Go.Ground.chain }, { on := 6, ground := Go.Ground.guard }], guard := some (6, true) }) (v := undef) rfl (by kernel_rfl) (by kernel_rfl) (by kernel_rfl) (fun _ _ _ h => h) (Or.inr ⟨by rfl, rfl⟩) (by first | exact ⟨g0, g3⟩ | exact ⟨i0, i3⟩) ?_
              try simp only [Act.put, List.setIfInBounds_toArray, List.set_cons_zero, List.set_cons_succ]
              refine wpAnyH_take (i := 14) (oi := { dst := some 77, op := Go.Op.move (Go.Operand.tmp 0), type := 22, pos := "law.go:101", after := #[{ on := 6, ground := Go.Ground.guard }], guard := some (6, true) }) (v := undef) rfl (by kernel_rfl) (by kernel_rfl) (by kernel_rfl) (fun _ _ _ h => h) (Or.inr ⟨by rfl, rfl⟩) (by first | exact ⟨g0, g3⟩ | exact ⟨i0, i3⟩) ?_
              try simp only [Act.put, List.setIfInBounds_toArray, List.set_cons_zero, List.set_cons_succ]
              refine wpAnyH_take (i := 15) (oi := { dst := some 78, op := Go.Op.move (Go.Operand.tmp 8), type := 3, pos := "law.go:101", after := #[{ on := 6, ground := Go.Ground.guard }], guard := some (6, true) }) (v := undef) rfl (by kernel_rfl) (by kernel_rfl) (by kernel_rfl) (fun _ _ _ h => h) (Or.inr ⟨by rfl, rfl⟩) (by first | exact ⟨g0, g3⟩ | exact ⟨i0, i3⟩) ?_
              try simp only [Act.put, List.setIfInBounds_toArray, List.set_cons_zero, List.set_cons_succ]
              refine wpAnyH_take (i := 16) (oi := { dst := some 79, op := Go.Op.indexAddr 22 (Go.Operand.tmp 77) (Go.Operand.tmp 78), type := 0, pos := "law.go:101", after := #[{ on := 14, ground := Go.Ground.data }, { on := 15, ground := Go.Ground.data }, { on := 6, ground := Go.Ground.guard }], guard := some (6, true) }) (v := undef) rfl (by kernel_rfl) (by kernel_rfl) (by kernel_rfl) (fun _ _ _ h => h) (Or.inr ⟨by rfl, rfl⟩) (by first | exact ⟨g0, g3⟩ | exact ⟨i0, i3⟩) ?_
              try simp only [Act.put, List.setIfInBounds_toArray, List.set_cons_zero, List.set_cons_succ]
              refine wpAnyH_take (i := 17) (oi := { dst := some 80, op := Go.Op.fieldAddr 29 (Go.Operand.tmp 79) 1, type := 0, pos := "law.go:101", after := #[{ on := 16, ground := Go.Ground.data }, { on := 6, ground := Go.Ground.guard }], guard := some (6, true) }) (v := undef) rfl (by kernel_rfl) (by kernel_rfl) (by kernel_rfl) (fun _ _ _ h => h) (Or.inr ⟨by rfl, rfl⟩) (by first | exact ⟨g0, g3⟩ | exact ⟨i0, i3⟩) ?_
              try simp only [Act.put, List.setIfInBounds_toArray, List.set_cons_zero, List.set_cons_succ]
              refine wpAnyH_take (i := 18) (oi := { dst := some 81, op := Go.Op.load 27 (Go.Operand.tmp 80), type := 27, pos := "law.go:101", after := #[{ on := 17, ground := Go.Ground.data }, { on := 6, ground := Go.Ground.guard }], guard := some (6, true) }) (v := undef) rfl (by kernel_rfl) (by kernel_rfl) (by kernel_rfl) (fun _ _ _ h => h) (Or.inr ⟨by rfl, rfl⟩) (by first | exact ⟨g0, g3⟩ | exact ⟨i0, i3⟩) ?_
              try simp only [Act.put, List.setIfInBounds_toArray, List.set_cons_zero, List.set_cons_succ]
              refine wpAnyH_take (i := 19) (oi := { dst := some 82, op := Go.Op.binOp Go.BinOp.neq 27 (Go.Operand.tmp 76) (Go.Operand.tmp 81) 27, type := 4, pos := "law.go:101", after := #[{ on := 13, ground := Go.Ground.data }, { on := 18, ground := Go.Ground.data }, { on := 6, ground := Go.Ground.guard }], guard := some (6, true) }) (v := undef) rfl (by kernel_rfl) (by kernel_rfl) (by kernel_rfl) (fun _ _ _ h => h) (Or.inr ⟨by rfl, rfl⟩) (by first | exact ⟨g0, g3⟩ | exact ⟨i0, i3⟩) ?_
              try simp only [Act.put, List.setIfInBounds_toArray, List.set_cons_zero, List.set_cons_succ]
              refine wpAnyH_take (i := 20) (oi := { dst := some 83, op := Go.Op.pick (Go.Operand.tmp 69) (Go.Operand.tmp 82) (Go.Operand.const (Go.Value.bool false)), type := 4, pos := "law.go:101", after := #[{ on := 6, ground := Go.Ground.data }, { on := 19, ground := Go.Ground.data }], guard := none }) (v := ?_) rfl (by kernel_rfl) (by kernel_rfl) (by kernel_rfl) (fun _ _ _ h => h) (Or.inl ⟨by rfl, ?_⟩) (by first | exact ⟨g0, g3⟩ | exact ⟨i0, i3⟩) ?_
              rotate_left
              · (intro w hSw; obtain ⟨s0, s3⟩ := hSw; go_simp <;> with_reducible rfl)
              simp only [Act.put, List.setIfInBounds_toArray, List.set_cons_zero, List.set_cons_succ]
              refine wpAnyH_take (i := 21) (oi := { dst := some 84, op := Go.Op.move (Go.Operand.tmp 83), type := 4, pos := "law.go:101", after := #[{ on := 20, ground := Go.Ground.data }, { on := 13, ground := Go.Ground.chain }], guard := none }) (v := ?_) rfl (by kernel_rfl) (by kernel_rfl) (by kernel_rfl) (fun _ _ _ h => h) (Or.inl ⟨by rfl, ?_⟩) (by first | exact ⟨g0, g3⟩ | exact ⟨i0, i3⟩) ?_
              rotate_left
              · (intro w hSw; obtain ⟨s0, s3⟩ := hSw; go_simp <;> with_reducible rfl)
              simp only [Act.put, List.setIfInBounds_toArray, List.set_cons_zero, List.set_cons_succ]
              refine wpAnyH_take (i := 22) (oi := { dst := some 85, op := Go.Op.move (Go.Operand.tmp 0), type := 22, pos := "law.go:101", after := #[{ on := 21, ground := Go.Ground.guard }], guard := some (21, false) }) (v := ?_) rfl (by kernel_rfl) (by kernel_rfl) (by kernel_rfl) (fun _ _ _ h => h) (Or.inl ⟨by rfl, ?_⟩) (by first | exact ⟨g0, g3⟩ | exact ⟨i0, i3⟩) ?_
              rotate_left
              · (intro w hSw; obtain ⟨s0, s3⟩ := hSw; go_simp <;> with_reducible rfl)
              simp only [Act.put, List.setIfInBounds_toArray, List.set_cons_zero, List.set_cons_succ]
              refine wpAnyH_take (i := 23) (oi := { dst := some 86, op := Go.Op.move (Go.Operand.tmp 8), type := 3, pos := "law.go:101", after := #[{ on := 21, ground := Go.Ground.guard }], guard := some (21, false) }) (v := ?_) rfl (by kernel_rfl) (by kernel_rfl) (by kernel_rfl) (fun _ _ _ h => h) (Or.inl ⟨by rfl, ?_⟩) (by first | exact ⟨g0, g3⟩ | exact ⟨i0, i3⟩) ?_
              rotate_left
              · (intro w hSw; obtain ⟨s0, s3⟩ := hSw; go_simp <;> with_reducible rfl)
              simp only [Act.put, List.setIfInBounds_toArray, List.set_cons_zero, List.set_cons_succ]
              refine wpAnyH_take (i := 24) (oi := { dst := some 87, op := Go.Op.indexAddr 22 (Go.Operand.tmp 85) (Go.Operand.tmp 86), type := 0, pos := "law.go:101", after := #[{ on := 22, ground := Go.Ground.data }, { on := 23, ground := Go.Ground.data }, { on := 21, ground := Go.Ground.guard }], guard := some (21, false) }) (v := ?_) rfl (by kernel_rfl) (by kernel_rfl) (by kernel_rfl) (fun _ _ _ h => h) (Or.inl ⟨by rfl, ?_⟩) (by first | exact ⟨g0, g3⟩ | exact ⟨i0, i3⟩) ?_
              rotate_left
              · (intro w hSw; obtain ⟨s0, s3⟩ := hSw; go_simp <;> with_reducible rfl)
              simp only [Act.put, List.setIfInBounds_toArray, List.set_cons_zero, List.set_cons_succ]
              refine wpAnyH_take (i := 25) (oi := { dst := some 88, op := Go.Op.fieldAddr 29 (Go.Operand.tmp 87) 0, type := 0, pos := "law.go:101", after := #[{ on := 24, ground := Go.Ground.data }, { on := 21, ground := Go.Ground.guard }], guard := some (21, false) }) (v := ?_) rfl (by kernel_rfl) (by kernel_rfl) (by kernel_rfl) (fun _ _ _ h => h) (Or.inl ⟨by rfl, ?_⟩) (by first | exact ⟨g0, g3⟩ | exact ⟨i0, i3⟩) ?_
              rotate_left
              · (intro w hSw; obtain ⟨s0, s3⟩ := hSw; go_simp <;> with_reducible rfl)
              simp only [Act.put, List.setIfInBounds_toArray, List.set_cons_zero, List.set_cons_succ]
              refine wpAnyH_take (i := 26) (oi := { dst := some 89, op := Go.Op.load 3 (Go.Operand.tmp 88), type := 3, pos := "law.go:101", after := #[{ on := 25, ground := Go.Ground.data }, { on := 21, ground := Go.Ground.guard }], guard := some (21, false) }) (v := ?_) rfl (by kernel_rfl) (by kernel_rfl) (by kernel_rfl) (fun _ _ _ h => h) (Or.inl ⟨by rfl, ?_⟩) (by first | exact ⟨g0, g3⟩ | exact ⟨i0, i3⟩) ?_
              rotate_left
              · (intro w hSw; obtain ⟨s0, s3⟩ := hSw; go_simp <;> with_reducible rfl)
              simp only [Act.put, List.setIfInBounds_toArray, List.set_cons_zero, List.set_cons_succ]
              refine wpAnyH_take (i := 27) (oi := { dst := some 90, op := Go.Op.binOp Go.BinOp.neq 3 (Go.Operand.tmp 89) (Go.Operand.const (Go.Value.int Go.IntKind.i64 0)) 3, type := 4, pos := "law.go:101", after := #[{ on := 26, ground := Go.Ground.data }, { on := 21, ground := Go.Ground.guard }], guard := some (21, false) }) (v := ?_) rfl (by kernel_rfl) (by kernel_rfl) (by kernel_rfl) (fun _ _ _ h => h) (Or.inl ⟨by rfl, ?_⟩) (by first | exact ⟨g0, g3⟩ | exact ⟨i0, i3⟩) ?_
              rotate_left
              · (intro w hSw; obtain ⟨s0, s3⟩ := hSw; go_simp <;> with_reducible rfl)
              simp only [Act.put, List.setIfInBounds_toArray, List.set_cons_zero, List.set_cons_succ]
              refine wpAnyH_take (i := 28) (oi := { dst := some 91, op := Go.Op.move (Go.Operand.tmp 90), type := 4, pos := "law.go:101", after := #[{ on := 27, ground := Go.Ground.data }, { on := 21, ground := Go.Ground.chain }, { on := 21, ground := Go.Ground.guard }], guard := some (21, false) }) (v := ?_) rfl (by kernel_rfl) (by kernel_rfl) (by kernel_rfl) (fun _ _ _ h => h) (Or.inl ⟨by rfl, ?_⟩) (by first | exact ⟨g0, g3⟩ | exact ⟨i0, i3⟩) ?_
              rotate_left
              · (intro w hSw; obtain ⟨s0, s3⟩ := hSw; go_simp <;> with_reducible rfl)
              simp only [Act.put, List.setIfInBounds_toArray, List.set_cons_zero, List.set_cons_succ]
              refine wpAnyH_take (i := 29) (oi := { dst := some 92, op := Go.Op.move (Go.Operand.tmp 7), type := 43, pos := "law.go:101", after := #[{ on := 28, ground := Go.Ground.guard }], guard := some (28, true) }) (v := ?_) rfl (by kernel_rfl) (by kernel_rfl) (by kernel_rfl) (fun _ _ _ h => h) (Or.inl ⟨by rfl, ?_⟩) (by first | exact ⟨g0, g3⟩ | exact ⟨i0, i3⟩) ?_
              rotate_left
              · (intro w hSw; obtain ⟨s0, s3⟩ := hSw; go_simp <;> with_reducible rfl)
              simp only [Act.put, List.setIfInBounds_toArray, List.set_cons_zero, List.set_cons_succ]
              refine wpAnyH_take (i := 31) (oi := { dst := some 94, op := Go.Op.move (Go.Operand.tmp 0), type := 22, pos := "law.go:101", after := #[{ on := 28, ground := Go.Ground.guard }], guard := some (28, true) }) (v := ?_) rfl (by kernel_rfl) (by kernel_rfl) (by kernel_rfl) (fun _ _ _ h => h) (Or.inl ⟨by rfl, ?_⟩) (by first | exact ⟨g0, g3⟩ | exact ⟨i0, i3⟩) ?_
              rotate_left
              · (intro w hSw; obtain ⟨s0, s3⟩ := hSw; go_simp <;> with_reducible rfl)
              simp only [Act.put, List.setIfInBounds_toArray, List.set_cons_zero, List.set_cons_succ]
              refine wpAnyH_take (i := 32) (oi := { dst := some 95, op := Go.Op.move (Go.Operand.tmp 8), type := 3, pos := "law.go:101", after := #[{ on := 28, ground := Go.Ground.guard }], guard := some (28, true) }) (v := ?_) rfl (by kernel_rfl) (by kernel_rfl) (by kernel_rfl) (fun _ _ _ h => h) (Or.inl ⟨by rfl, ?_⟩) (by first | exact ⟨g0, g3⟩ | exact ⟨i0, i3⟩) ?_
              rotate_left
              · (intro w hSw; obtain ⟨s0, s3⟩ := hSw; go_simp <;> with_reducible rfl)
              simp only [Act.put, List.setIfInBounds_toArray, List.set_cons_zero, List.set_cons_succ]
              refine wpAnyH_take (i := 33) (oi := { dst := some 96, op := Go.Op.indexAddr 22 (Go.Operand.tmp 94) (Go.Operand.tmp 95), type := 0, pos := "law.go:101", after := #[{ on := 31, ground := Go.Ground.data }, { on := 32, ground := Go.Ground.data }, { on := 28, ground := Go.Ground.guard }], guard := some (28, true) }) (v := ?_) rfl (by kernel_rfl) (by kernel_rfl) (by kernel_rfl) (fun _ _ _ h => h) (Or.inl ⟨by rfl, ?_⟩) (by first | exact ⟨g0, g3⟩ | exact ⟨i0, i3⟩) ?_
              rotate_left
              · (intro w hSw; obtain ⟨s0, s3⟩ := hSw; go_simp <;> with_reducible rfl)
              simp only [Act.put, List.setIfInBounds_toArray, List.set_cons_zero, List.set_cons_succ]
              refine wpAnyH_take (i := 34) (oi := { dst := some 97, op := Go.Op.fieldAddr 29 (Go.Operand.tmp 96) 3, type := 0, pos := "law.go:101", after := #[{ on := 33, ground := Go.Ground.data }, { on := 28, ground := Go.Ground.guard }], guard := some (28, true) }) (v := ?_) rfl (by kernel_rfl) (by kernel_rfl) (by kernel_rfl) (fun _ _ _ h => h) (Or.inl ⟨by rfl, ?_⟩) (by first | exact ⟨g0, g3⟩ | exact ⟨i0, i3⟩) ?_
              rotate_left
              · (intro w hSw; obtain ⟨s0, s3⟩ := hSw; go_simp <;> with_reducible rfl)
              simp only [Act.put, List.setIfInBounds_toArray, List.set_cons_zero, List.set_cons_succ]
              refine wpAnyH_take (i := 35) (oi := { dst := some 98, op := Go.Op.load 9 (Go.Operand.tmp 97), type := 9, pos := "law.go:101", after := #[{ on := 34, ground := Go.Ground.data }, { on := 28, ground := Go.Ground.guard }], guard := some (28, true) }) (v := ?_) rfl (by kernel_rfl) (by kernel_rfl) (by kernel_rfl) (fun _ _ _ h => h) (Or.inl ⟨by rfl, ?_⟩) (by first | exact ⟨g0, g3⟩ | exact ⟨i0, i3⟩) ?_
              rotate_left
              · (intro w hSw; obtain ⟨s0, s3⟩ := hSw; go_simp <;> with_reducible rfl)
              simp only [Act.put, List.setIfInBounds_toArray, List.set_cons_zero, List.set_cons_succ]
              refine wpAnyH_ready (rs := [30]) (by kernel_rfl) (by simp) ?_
              refine AllReadyH.cons (o := { dst := some 93, op := Go.Op.call { callee := Go.Callee.value (Go.Operand.func 26), args := #[Go.Operand.tmp 92], argTypes := #[43] }, type := 9, pos := "law.go:101", after := #[{ on := 29, ground := Go.Ground.data }, { on := 28, ground := Go.Ground.chain }, { on := 28, ground := Go.Ground.guard }], guard := some (28, true) }) rfl (fun K hK => ?_) AllReadyH.nil
              go_simp
              refine (HG.out _ (HR.out.drewN 1) hb).mono ?_
              rintro e w4 ⟨rfl, hp4, ha4, hb4⟩
              have hM4 := HM.out.far (Adv.of_drew ha4) HS5.out
              obtain ⟨i0, i1, i2, i3⟩ := hM4.cells hlt
              rw [← HDD.out] at i0 i3
              go_wp2_with fail
              refine hK.out _ _ (by first | exact ⟨g0, g3⟩ | exact ⟨i0, i3⟩) (fun hHeld => ?_)
              clear hK K hHeld
              try simp only [Act.put, List.setIfInBounds_toArray, List.set_cons_zero, List.set_cons_succ]
              refine wpAnyH_take (i := 36) (oi := { dst := some 99, op := Go.Op.binOp Go.BinOp.neq 9 (Go.Operand.tmp 93) (Go.Operand.tmp 98) 9, type := 4, pos := "law.go:101", after := #[{ on := 30, ground := Go.Ground.data }, { on := 35, ground := Go.Ground.data }, { on := 28, ground := Go.Ground.guard }], guard := some (28, true) }) (v := ?_) rfl (by kernel_rfl) (by kernel_rfl) (by kernel_rfl) (fun _ _ _ h => h) (Or.inl ⟨by rfl, ?_⟩) (by first | exact ⟨g0, g3⟩ | exact ⟨i0, i3⟩) ?_
              rotate_left
              · (intro w hSw; obtain ⟨s0, s3⟩ := hSw; go_simp <;> with_reducible rfl)
              simp only [Act.put, List.setIfInBounds_toArray, List.set_cons_zero, List.set_cons_succ]
              refine wpAnyH_take (i := 37) (oi := { dst := some 100, op := Go.Op.pick (Go.Operand.tmp 91) (Go.Operand.tmp 99) (Go.Operand.const (Go.Value.bool false)), type := 4, pos := "law.go:101", after := #[{ on := 28, ground := Go.Ground.data }, { on := 36, ground := Go.Ground.data }, { on := 21, ground := Go.Ground.guard }], guard := some (21, false) }) (v := ?_) rfl (by kernel_rfl) (by kernel_rfl) (by kernel_rfl) (fun _ _ _ h => h) (Or.inl ⟨by rfl, ?_⟩) (by first | exact ⟨g0, g3⟩ | exact ⟨i0, i3⟩) ?_
              rotate_left
              · (intro w hSw; obtain ⟨s0, s3⟩ := hSw; go_simp <;> with_reducible rfl)
              simp only [Act.put, List.setIfInBounds_toArray, List.set_cons_zero, List.set_cons_succ]
              refine wpAnyH_take (i := 38) (oi := { dst := some 101, op := Go.Op.pick (Go.Operand.tmp 84) (Go.Operand.const (Go.Value.bool true)) (Go.Operand.tmp 100), type := 4, pos := "law.go:101", after := #[{ on := 21, ground := Go.Ground.data }, { on := 37, ground := Go.Ground.data }], guard := none }) (v := ?_) rfl (by kernel_rfl) (by kernel_rfl) (by kernel_rfl) (fun _ _ _ h => h) (Or.inl ⟨by rfl, ?_⟩) (by first | exact ⟨g0, g3⟩ | exact ⟨i0, i3⟩) ?_
              rotate_left
              · (intro w hSw; obtain ⟨s0, s3⟩ := hSw; go_simp <;> with_reducible rfl)
              simp only [Act.put, List.setIfInBounds_toArray, List.set_cons_zero, List.set_cons_succ]
              refine wpAnyH_done (by kernel_rfl) ?_ _
              go_wp2
              exact ⟨⟨j + 1, by simp, by omega, hM4, hb4, (Adv.of_drew ha4).below HB.out HF5.out HB.out.size, hp4⟩, by simp [intOf]; omega⟩
          · obtain rfl : j = es.length := by omega
            go_wp2_with (first
              | (go_at_call 28; refine (rerr_ok _ _ _ _ _ _ HR.out).mono ?_; rintro e w6 ⟨rfl, rfl⟩)
              | (go_at_call 31; refine (rend_ok _ _ _ _ _ _ HR.out hb).mono ?_; rintro e w6 ⟨rfl, hb6⟩; rw [List.take_length, HEN.out])
              | (go_at_call 17; refine (lives_any _).mono ?_; rintro e w7 ⟨rfl, hb7⟩))
            go_ret
            exact ⟨rfl, (HB.out.trans (hb6.mono HB.out.size)).trans (hb7.mono (Nat.le_trans HB.out.size hb6.size))⟩
      · have hle := HM.out.le
        have HW := Lib.hid hw
        clear hw hf
        go_wp2_with (first
          | (go_at_call 16; refine (done_err _ _ _ HW.out).mono ?_; rintro e w4 ⟨rfl, a4⟩)
          | (go_at_call 17; refine (lives_any _).mono ?_; rintro e w7 ⟨rfl, hb7⟩))
        go_ret
        have B4 := a4.below HB.out (fun k hk => hk.elim) HB.out.size
        exact ⟨rfl, B4.trans (hb7.mono B4.size)⟩
end Go.Proofs.Ytjmncfabalideaa
