/- FletchSwaps. -/
import Derived.Test.YtkclmgibeaojcaaFlT
import Derived.StillTailTactics
import Derived.IntWalk
namespace Go.Proofs.Ytkclmgibeaojcaa
open Go.RowKit

theorem set_swap_comm (l : List Nat) (i x y : Nat) : (l.set (i + 1) y).set i x = (l.set i x).set (i + 1) y := List.set_comm _ _ (by omega)

set_option maxHeartbeats 2000000 in
theorem swaps_walk (W : World) (v0 : Value) (hv0 : ∃ l, In W v0 l) (a : Int) (_ : (Lit.int .i64 a).wf = true) :
    Calls Try.prog 6 #[v0, .int .i64 a] W fun e w' => e = .returned (.bool true) ∧ Below W.heap.size W w' := by
  obtain ⟨l0, h0⟩ := hv0
  have HI0 := Lib.hid h0
  clear h0
  go_enter Try.func6, Try.ntmps6
  go_wp2_with fail
  refine (cut_form v0 l0 400 W HI0.out (by decide)).mono ?_
  rintro e w0 ⟨k0, A0, c0, m, rfl, hm0, h0, rfl⟩
  have H0 := Lib.hid h0
  clear h0
  by_cases hm : m < 2
  · go_wp2_with (first
      | (go_at_call 13; refine (fl_lives_any _).mono ?_; rintro e w3 ⟨rfl, hb⟩)
      | fail)
    go_ret
    exact ⟨rfl, hb⟩
  have hpos : 2 ≤ m := by omega
  clear hm
  go_wp2_with fail
  refine (copy_any _ m k0 _ H0.out.rd (by omega)).mono ?_
  rintro e w1 ⟨v2, F, rfl, h2, a2⟩
  obtain ⟨g, c2, rfl, hFg, _⟩ := h2.form (by omega)
  have hgW := a2.from_ (B := W.heap.size) (fun k hk => hk.elim) (Nat.le_refl _) g hFg
  have HH2 := Lib.hid h2
  have B2 := Lib.hid a2.toBelow
  clear h2 a2
  go_wp2_with fail
  refine (within_any _ _ _ _ (by omega)).mono ?_
  rintro e w2 ⟨i, rfl, hi0, hi1, _, rfl⟩
  obtain ⟨i, rfl⟩ := Int.eq_ofNat_of_zero_le hi0
  have him : i + 1 < m := by omega
  have hil : i + 1 < k0.length := by have := H0.out.len; omega
  obtain ⟨b, o, c, e, hb, hcell⟩ := H0.out.at8 (show 0 < k0.length by omega)
  injection e with e1 e2 e3
  subst e1
  have hgb : g ≠ b := by omega
  have hbg : b ≠ g := by omega
  have hB := (H0.out.far B2.out).at8 (show 0 < k0.length by omega)
  obtain ⟨b', o', c', e', _, hcell'⟩ := hB
  injection e' with e1' e4' e5'
  injection e1' with e1'
  injection e1' with e1' e2' _
  subst e1' e2'
  clear e4' e5'
  have hc0 := hcell' i (by omega)
  have hc1 := hcell' (i + 1) hil
  obtain ⟨x, hx⟩ : ∃ x, x = k0[i] := ⟨_, rfl⟩
  obtain ⟨y, hy⟩ : ∃ y, y = k0[i + 1] := ⟨_, rfl⟩
  have hd0 := HH2.out.at8 (show i < m by omega) (show i < k0.length by omega)
  have hd1 := HH2.out.at8 him hil
  rw [← hx] at hc0 hd0
  rw [← hy] at hc1 hd1
  have HX := Lib.hid hx
  have HY := Lib.hid hy
  have HC := Lib.hid hcell'
  clear hx hy hcell hcell' e2 e3
  have hf0 := HH2.out.own.frozenAt i
  have hf1 := HH2.out.own.frozenAt (i + 1)
  go_wp2_with fail
  go_region
  go_wp2_with fail
  have hs := (HH2.out.set8 i y (y : Int) rfl).set8 (i + 1) x (x : Int) rfl
  have hbel := (B2.out.setCell (p := ⟨g, i, none⟩) hgW (.int .u8 (y : Int))).setCell (p := ⟨g, i + 1, none⟩) hgW (.int .u8 (x : Int))
  have hsw := fsum_swap (0, 0) k0 i hil H0.out.lt
  have r0 := (H0.out.far hbel).rdl
  have r1 := hs.rdl (by rw [List.length_set, List.length_set]; exact H0.out.len)
  have hlt : ∀ q ∈ (k0.set i y).set (i + 1) x, q < 256 := fun q hq => by
    rcases List.mem_or_eq_of_mem_set hq with h | h
    · rcases List.mem_or_eq_of_mem_set h with h | h
      · exact H0.out.lt q h
      · rw [h, HY.out]; exact H0.out.lt _ (List.getElem_mem _)
    · rw [h, HX.out]; exact H0.out.lt _ (List.getElem_mem _)
  rw [← HX.out, ← HY.out] at hsw
  have hnum : ((fnum (fsum (0, 0) k0) : Int) == (fnum (fsum (0, 0) ((k0.set i y).set (i + 1) x)) : Int)) = ((x : Int) == (y : Int)) := by
    rw [Bool.eq_iff_iff, beq_iff_eq, beq_iff_eq]
    constructor
    · intro e
      have := hsw.1 (fnum_inj _ _ (fsum_ok _ _ (by constructor <;> decide)) (fsum_ok _ _ (by constructor <;> decide)) (by omega))
      omega
    · intro e
      rw [hsw.2 (by omega)]
  obtain ⟨X, hX⟩ : ∃ X, X = fnum (fsum (0, 0) k0) := ⟨_, rfl⟩
  obtain ⟨Y, hY⟩ : ∃ X, X = fnum (fsum (0, 0) ((k0.set i y).set (i + 1) x)) := ⟨_, rfl⟩
  rw [← hX, ← hY] at hnum
  have S0 : ∀ w, Rd w 1 (.slice (some ⟨b, o, none⟩) m c0) k0.length (k0.map u8) → Calls Try.prog 11 #[.slice (some ⟨b, o, none⟩) m c0] w fun e w' => e = .returned (.int .u32 (X : Int)) ∧ w = w' := fun w h => by rw [hX]; exact fsum_any _ _ _ h H0.out.lt
  have S1 : ∀ w, Rd w 1 (.slice (some ⟨g, 0, none⟩) m c2) ((k0.set i y).set (i + 1) x).length (((k0.set i y).set (i + 1) x).map u8) → Calls Try.prog 11 #[.slice (some ⟨g, 0, none⟩) m c2] w fun e w' => e = .returned (.int .u32 (Y : Int)) ∧ w = w' := fun w h => by rw [hY]; exact fsum_any _ _ _ h hlt
  have R0 := Lib.hid r0
  have R1 := Lib.hid r1
  have S0 := Lib.hid S0
  have S1 := Lib.hid S1
  have HB := Lib.hid hbel
  clear hs hbel hsw r0 r1 hlt hX hY
  have hcase : (((X : Int) == (Y : Int)) = true ∧ ((x : Int) == (y : Int)) = true) ∨ (((X : Int) == (Y : Int)) = false ∧ ((x : Int) == (y : Int)) = false) := by
    cases h : ((x : Int) == (y : Int)) <;> simp [hnum, h]
  clear hnum
  have him0 : i < m := by omega
  have hsm : m ≤ 400 := by omega
  have him1 : (i : Int) + 1 < m := by omega
  have him2 : (0 : Int) ≤ (i : Int) + 1 := by omega
  have hwr : IntKind.i64.wrap ((i : Int) + 1) = (i : Int) + 1 := IntWalk.i64_in _ (by omega)
  have htn : ((i : Int) + 1).toNat = i + 1 := by omega
  have hw0 : ((w1.setCell ⟨g, i, none⟩ (.int .u8 (y : Int))).setCell ⟨g, i + 1, none⟩ (.int .u8 (x : Int))).drew.drew.cell? ⟨b, o + i, none⟩ = some (.int .u8 (x : Int)) := by go_simp
  have hw1 : ((w1.setCell ⟨g, i, none⟩ (.int .u8 (y : Int))).setCell ⟨g, i + 1, none⟩ (.int .u8 (x : Int))).drew.drew.cell? ⟨b, o + (i + 1), none⟩ = some (.int .u8 (y : Int)) := by go_simp
  have hR0 : Rd ((w1.setCell ⟨g, i, none⟩ (.int .u8 (y : Int))).setCell ⟨g, i + 1, none⟩ (.int .u8 (x : Int))).drew.drew 1 (.slice (some ⟨b, o, none⟩) m c0) k0.length (k0.map u8) := R0.out
  have hR1 : Rd ((w1.setCell ⟨g, i, none⟩ (.int .u8 (y : Int))).setCell ⟨g, i + 1, none⟩ (.int .u8 (x : Int))).drew.drew 1 (.slice (some ⟨g, 0, none⟩) m c2) ((k0.set i y).set (i + 1) x).length (((k0.set i y).set (i + 1) x).map u8) := R1.out
  have hB2 : Below W.heap.size W ((w1.setCell ⟨g, i, none⟩ (.int .u8 (y : Int))).setCell ⟨g, i + 1, none⟩ (.int .u8 (x : Int))).drew.drew := HB.out.trans ⟨rfl, rfl, rfl, Nat.le_refl _, fun _ _ => rfl⟩
  clear R0 R1 HB hc0 hc1 hd0 hd1 hf0 hf1
  rcases hcase with ⟨hq1, hq2⟩ | ⟨hq1, hq2⟩
  all_goals
    refine wp_region_still_tail 17 (by kernel_rfl) (by kernel_rfl) ?_
    simp only [List.take_succ_cons, List.take_zero, List.drop_succ_cons, List.drop_zero]
    change wpStill _ _ ((w1.setCell ⟨g, i, none⟩ (.int .u8 (y : Int))).setCell ⟨g, i + 1, none⟩ (.int .u8 (x : Int))).drew.drew (fun a' => wpList _ _ _ _ _ ((w1.setCell ⟨g, i, none⟩ (.int .u8 (y : Int))).setCell ⟨g, i + 1, none⟩ (.int .u8 (x : Int))).drew.drew) _ _
    generalize ((w1.setCell ⟨g, i, none⟩ (.int .u8 (y : Int))).setCell ⟨g, i + 1, none⟩ (.int .u8 (x : Int))).drew.drew = wT at hw0 hw1 hR0 hR1 hB2 ⊢
    have HR0 := Lib.hid hR0
    have HR1 := Lib.hid hR1
    have HB2 := Lib.hid hB2
    clear hR0 hR1 hB2
    repeat still_step
    still_call ((S0.out _ HR0.out).mono fun _ _ h => ⟨h.1, h.2.symm⟩)
    repeat still_step
    still_call ((S1.out _ HR1.out).mono fun _ _ h => ⟨h.1, h.2.symm⟩)
    repeat still_step
    refine wpStill_nil ?_
    go_wp2_with fail
    refine (fl_lives_any _).mono ?_
    rintro e w7 ⟨rfl, hb⟩
    go_wp2
    go_ret
    exact ⟨rfl, HB2.out.trans (hb.mono HB2.out.size)⟩
end Go.Proofs.Ytkclmgibeaojcaa
