/- FletchTurns. -/
import Derived.Test.YtkclmgibeaojcaaFlL
namespace Go.Proofs.Ytkclmgibeaojcaa
open Go.RowKit

theorem u8_wf {x : Int} (h : (Lit.int .u8 x).wf = true) : ∃ s : Nat, x = (s : Int) ∧ s < 256 := by
  have hb := bounds_u8 h
  exact ⟨x.toNat, by omega, by omega⟩

theorem xor_ne (x y : Nat) (hy : y ≠ 0) : x ≠ x ^^^ y := by
  intro e
  have : x ^^^ (x ^^^ y) = 0 := by rw [← e, Nat.xor_self]
  rw [← Nat.xor_assoc, Nat.xor_self, Nat.zero_xor] at this
  exact hy this

set_option maxHeartbeats 1000000 in
theorem turns_walk (W : World) (v0 : Value) (hv0 : ∃ l, In W v0 l) (a : Int) (_ : (Lit.int .i64 a).wf = true) (y : Int) (hy : (Lit.int .u8 y).wf = true) :
    Calls Try.prog 5 #[v0, .int .i64 a, .int .u8 y] W fun e w' => e = .returned (.bool true) ∧ Below W.heap.size W w' := by
  obtain ⟨l0, h0⟩ := hv0
  obtain ⟨y, rfl, hy256⟩ := u8_wf hy
  clear hy
  have HI0 := Lib.hid h0
  clear h0
  go_enter Try.func5, Try.ntmps5
  go_wp2_with fail
  refine (cut_form v0 l0 400 W HI0.out (by decide)).mono ?_
  rintro e w0 ⟨k0, A0, c0, m, rfl, hm0, h0, rfl⟩
  have H0 := Lib.hid h0
  clear h0
  by_cases hm : m = 0
  · have hm' : ((m : Int) == 0) = true := by simp [hm]
    clear hm
    go_wp2_with (first
      | (go_at_call 13; refine (fl_lives_any _).mono ?_; rintro e w3 ⟨rfl, hb⟩)
      | fail)
    go_ret
    exact ⟨rfl, hb⟩
  have hm' : ((m : Int) == 0) = false := by simp [hm]
  have hpos : 0 < m := by omega
  clear hm
  by_cases hy0 : y = 0
  · have hy' : ((y : Int) == 0) = true := by simp [hy0]
    clear hy0
    go_wp2_with (first
      | (go_at_call 13; refine (fl_lives_any _).mono ?_; rintro e w3 ⟨rfl, hb⟩)
      | fail)
    go_ret
    exact ⟨rfl, hb⟩
  have hy' : ((y : Int) == 0) = false := by simp [hy0]
  have HY0 := Lib.hid hy0
  clear hy0
  go_wp2_with fail
  refine (copy_any _ m k0 _ H0.out.rd (by omega)).mono ?_
  rintro e w1 ⟨v2, F, rfl, h2, a2⟩
  obtain ⟨g, c2, rfl, hFg, _⟩ := h2.form hpos
  have hgW := a2.from_ (B := W.heap.size) (fun k hk => hk.elim) (Nat.le_refl _) g hFg
  have HH2 := Lib.hid h2
  have B2 := Lib.hid a2.toBelow
  clear h2 a2
  go_wp2_with fail
  refine (within_any _ _ _ _ (by omega)).mono ?_
  rintro e w2 ⟨i, rfl, hi0, hi1, _, rfl⟩
  obtain ⟨i, rfl⟩ := Int.eq_ofNat_of_zero_le hi0
  have him : i < m := by omega
  have hil : i < k0.length := by have := H0.out.len; omega
  have hc := HH2.out.at8 him hil
  have hf := HH2.out.own.frozenAt i
  obtain ⟨x, hx⟩ : ∃ x, x = k0[i] := ⟨_, rfl⟩
  rw [← hx] at hc
  have hx256 : x < 256 := by rw [hx]; exact H0.out.lt _ (List.getElem_mem _)
  have hxor := u8_xor_nat x y hx256 hy256
  have hz256 : x ^^^ y < 256 := Nat.xor_lt_two_pow (n := 8) hx256 hy256
  have hzne : k0[i] ≠ x ^^^ y := by rw [← hx]; exact xor_ne x y HY0.out
  obtain ⟨z, hz⟩ : ∃ z, z = x ^^^ y := ⟨_, rfl⟩
  rw [← hz] at hxor hz256 hzne
  have hs := HH2.out.set8 i z (z : Int) rfl
  have hbel := B2.out.setCell (p := ⟨g, i, none⟩) hgW (.int .u8 (z : Int))
  have hne := fsum_set_ne (0, 0) k0 i z hil (by rw [← hx]; exact hx256) hz256 hzne
  have r0 := (H0.out.far hbel).rdl
  have r1 := hs.rdl (by rw [List.length_set]; exact H0.out.len)
  have hlt : ∀ q ∈ k0.set i z, q < 256 := fun q hq => by
    rcases List.mem_or_eq_of_mem_set hq with h | h
    · exact H0.out.lt q h
    · omega
  have hnum : ((fnum (fsum (0, 0) k0) : Int) != (fnum (fsum (0, 0) (k0.set i z)) : Int)) = true := by
    rw [bne_iff_ne]
    intro e
    exact hne (fnum_inj _ _ (fsum_ok _ _ (by constructor <;> decide)) (fsum_ok _ _ (by constructor <;> decide)) (by omega))
  obtain ⟨X, hX⟩ : ∃ X, X = fnum (fsum (0, 0) k0) := ⟨_, rfl⟩
  obtain ⟨Y, hY⟩ : ∃ X, X = fnum (fsum (0, 0) (k0.set i z)) := ⟨_, rfl⟩
  rw [← hX, ← hY] at hnum
  have HX := Lib.hid hX
  have HY := Lib.hid hY
  have R0 := Lib.hid r0
  have R1 := Lib.hid r1
  have HLT := Lib.hid hlt
  have HB := Lib.hid hbel
  clear hs hbel hne r0 r1 hlt hX hY hzne hz hx him hil
  go_wp2_with fail
  refine (fsum_any _ k0 _ R0.out H0.out.lt).mono ?_
  rintro e w6 ⟨rfl, rfl⟩
  rw [← HX.out]
  go_wp2_with fail
  refine (fsum_any _ _ _ R1.out HLT.out).mono ?_
  rintro e w6 ⟨rfl, rfl⟩
  rw [← HY.out]
  go_wp2_with fail
  refine (fl_lives_any _).mono ?_
  rintro e w7 ⟨rfl, hb⟩
  go_wp2
  go_ret
  exact ⟨rfl, HB.out.trans (hb.mono HB.out.size)⟩
end Go.Proofs.Ytkclmgibeaojcaa
