/- FletchPieces, FletchTurns. -/
import Derived.Test.YtkclmgibeaojcaaFlL
namespace Go.Proofs.Ytkclmgibeaojcaa
open Go.RowKit

set_option maxHeartbeats 1000000 in
theorem pieces_walk (W : World) (v0 : Value) (hv0 : ∃ l, In W v0 l) (v1 : Value) (hv1 : ∃ l, In W v1 l) (v2 : Value) (hv2 : ∃ l, In W v2 l) :
    Calls Try.prog 4 #[v0, v1, v2] W fun e w' => e = .returned (.bool true) ∧ Below W.heap.size W w' := by
  obtain ⟨l0, h0⟩ := hv0
  obtain ⟨l1, h1⟩ := hv1
  obtain ⟨l2, h2⟩ := hv2
  have HI0 := Lib.hid h0
  have HI1 := Lib.hid h1
  have HI2 := Lib.hid h2
  clear h0 h1 h2
  go_enter Try.func4, Try.ntmps4
  go_wp2_with fail
  refine (cut_form v0 l0 200 W HI0.out (by decide)).mono ?_
  rintro e w0 ⟨k0, A0, c0, m0, rfl, hm0, h0, rfl⟩
  have H0 := Lib.hid h0
  clear h0
  go_wp2_with fail
  refine (cut_form v1 l1 200 W HI1.out (by decide)).mono ?_
  rintro e w0 ⟨k1, A1, c1, m1, rfl, hm1, h1, rfl⟩
  have H1 := Lib.hid h1
  clear h1
  go_wp2_with fail
  refine (cut_form v2 l2 200 W HI2.out (by decide)).mono ?_
  rintro e w0 ⟨k2, A2, c2, m2, rfl, hm2, h2, rfl⟩
  have H2 := Lib.hid h2
  clear h2
  go_wp2_with fail
  refine (copy_any _ m0 k0 _ H0.out.rd (by omega)).mono ?_
  rintro e w1 ⟨v3, F3, rfl, h3, a3⟩
  obtain ⟨A3, c3, rfl, _, _⟩ := h3.form0
  have HH3 := Lib.hid h3
  have HA3 := Lib.hid a3
  have hr1 := (H1.out.far a3.toBelow).rd
  have HR1 := Lib.hid hr1
  clear h3 a3 hr1
  go_wp2_with (first
    | (at_builtin; refine wpList_append_rd rfl (.tmp 15) (.tmp 16) rfl rfl rfl HH3.out.own HR1.out (u8_one _) ?d1 ?d2)
    | fail)
  case d1 => omega
  case d2 =>
    intro v4 w4 hown4 hg4 hat4
    obtain ⟨h4, _, a4⟩ := own_grown HH3.out HA3.out hown4 hg4 hat4 (Nat.le_refl _)
    rw [← List.map_append] at h4
    have hr2 := (H2.out.far a4.toBelow).rd
    have HH4 := Lib.hid h4
    have HA4 := Lib.hid a4
    have HR2 := Lib.hid hr2
    clear h4 a4 hr2 hown4 hg4 hat4
    obtain ⟨A4, c4, rfl, _, _⟩ := HH4.out.form0
    go_wp2_with (first
      | (at_builtin; refine wpList_append_rd rfl (.tmp 17) (.tmp 18) rfl rfl rfl HH4.out.own HR2.out (u8_one _) ?d3 ?d4)
      | fail)
    case d3 => omega
    case d4 =>
      intro v5 w5 hown5 hg5 hat5
      obtain ⟨h5, _, a5⟩ := own_grown HH4.out HA4.out hown5 hg5 hat5 (Nat.le_refl _)
      have e5 : (k0 ++ k1).map u8 ++ k2.map u8 = (k0 ++ k1 ++ k2).map u8 := by simp
      replace h5 := (show Sl _ _ _ _ _ _ ((k0 ++ k1 ++ k2).map u8) from by rw [← e5]; first | exact h5 | simpa using h5)
      clear e5
      have B5 := a5.toBelow
      obtain ⟨A5, c5, rfl, _, _⟩ := h5.form0
      have r0 := (H0.out.far B5).rdl
      have r1 := (H1.out.far B5).rdl
      have r2 := (H2.out.far B5).rdl
      have r5 := h5.rdl (by have := H0.out.len; have := H1.out.len; have := H2.out.len; simp; omega)
      have hlt : ∀ x ∈ k0 ++ k1 ++ k2, x < 256 := by
        intro x hx
        simp only [List.mem_append] at hx
        rcases hx with (hx | hx) | hx
        · exact H0.out.lt x hx
        · exact H1.out.lt x hx
        · exact H2.out.lt x hx
      have ok0 := fsum_ok k0 (0, 0) (by constructor <;> decide)
      have ok1 := fsum_ok k1 _ ok0
      have e1 : fsum (fof (fnum (fsum (0, 0) k0))) k1 = fsum (fsum (0, 0) k0) k1 := by rw [fof_fnum _ ok0]
      have e2 : fsum (fof (fnum (fsum (fsum (0, 0) k0) k1))) k2 = fsum (0, 0) (k0 ++ k1 ++ k2) := by rw [fof_fnum _ ok1, fsum_append, fsum_append]
      have q0 := fnum_lt _ ok0
      have q1 := fnum_lt _ ok1
      obtain ⟨X0, hX0⟩ : ∃ X, X = fnum (fsum (0, 0) k0) := ⟨_, rfl⟩
      obtain ⟨X1, hX1⟩ : ∃ X, X = fnum (fsum (fsum (0, 0) k0) k1) := ⟨_, rfl⟩
      obtain ⟨X2, hX2⟩ : ∃ X, X = fnum (fsum (0, 0) (k0 ++ k1 ++ k2)) := ⟨_, rfl⟩
      rw [← hX0] at e1 q0
      rw [← hX1] at e2 q1
      have R0 := Lib.hid r0
      have R1 := Lib.hid r1
      have R2 := Lib.hid r2
      have R5 := Lib.hid r5
      have HLT := Lib.hid hlt
      have E1 := Lib.hid e1
      have E2 := Lib.hid e2
      have HX0 := Lib.hid hX0
      have HX1 := Lib.hid hX1
      have HX2 := Lib.hid hX2
      have HB := Lib.hid B5
      clear r0 r1 r2 r5 hlt e1 e2 hX0 hX1 hX2 B5 h5 a5 hown5 hg5 hat5 ok0 ok1
      go_wp2_with fail
      refine (fsum_any _ k0 _ R0.out H0.out.lt).mono ?_
      rintro e w6 ⟨rfl, rfl⟩
      rw [← HX0.out]
      go_wp2_with fail
      refine (fadd_any X0 _ k1 _ q0 R1.out H1.out.lt).mono ?_
      rintro e w6 ⟨rfl, rfl⟩
      rw [E1.out, ← HX1.out]
      go_wp2_with fail
      refine (fadd_any X1 _ k2 _ q1 R2.out H2.out.lt).mono ?_
      rintro e w6 ⟨rfl, rfl⟩
      rw [E2.out, ← HX2.out]
      go_wp2_with fail
      refine (fsum_any _ _ _ R5.out HLT.out).mono ?_
      rintro e w6 ⟨rfl, rfl⟩
      rw [← HX2.out]
      go_wp2_with fail
      refine (fl_lives_any _).mono ?_
      rintro e w7 ⟨rfl, hb⟩
      go_wp2
      go_ret
      exact ⟨rfl, HB.out.trans (hb.mono HB.out.size)⟩
end Go.Proofs.Ytkclmgibeaojcaa
