/- BitsWhole. -/
import Derived.Test.YtjmncfabalideaaArgs
import Derived.Test.YtjmncfabalideaaNob
namespace Go.Proofs.Ytjmncfabalideaa
open Go.RowKit

theorem within_any (x a b : Int) (w : World) (hab : a ≤ b) :
    Calls Try.prog 33 #[.int .i64 x, .int .i64 a, .int .i64 b] w fun e w' => ∃ y : Int, e = .returned (.int .i64 y) ∧ a ≤ y ∧ y ≤ b ∧ (a ≤ x → x ≤ b → y = x) ∧ w = w' := by
  by_cases h1 : x < a
  · go_enter Try.func33, Try.ntmps33
    go_wp2
    go_ret
    exact ⟨a, rfl, by omega, hab, by omega, rfl⟩
  · by_cases h2 : b < x
    · go_enter Try.func33, Try.ntmps33
      go_wp2
      go_ret
      exact ⟨b, rfl, hab, by omega, by omega, rfl⟩
    · go_enter Try.func33, Try.ntmps33
      go_wp2
      go_ret
      exact ⟨x, rfl, by omega, by omega, by simp, rfl⟩

theorem width_any (x : Int) (w : World) : Calls Try.prog 35 #[.int .i64 x] w fun e w' => ∃ n : Nat, e = .returned (.int .i64 ((n : Nat) : Int)) ∧ n ≤ 20 ∧ w = w' := by
  go_enter Try.func35, Try.ntmps35
  go_wp2_with (first
    | (go_at_call 33; refine (within_any _ _ _ _ (by decide)).mono ?_; rintro e w1 ⟨y, rfl, h1, h2, _, rfl⟩))
  go_ret
  obtain ⟨k, rfl⟩ := Int.eq_ofNat_of_zero_le h1
  exact ⟨k, rfl, by omega, rfl⟩

def WholeRel (W : World) (t3 t4 t5 : Value) (wr : World) : Prop :=
  ∃ b F N m k, t3 = .pointer (some ⟨b, 0, none⟩) ∧ t4 = .int .i64 ((m : Nat) : Int) ∧ t5 = .int .i64 ((k : Nat) : Int) ∧ k ≤ 60 ∧ m ≤ 20 * k ∧ WSt wr F b N m ∧ Bd F wr ∧ (∀ j, F j → W.heap.size ≤ j) ∧ Below W.heap.size W wr

/-- What is known of a slice of ints that came in. -/
def IntsIn (W : World) (v : Value) : Prop := ∃ (n : Nat) (zs : List Int), Rd W 1 v n (zs.map (Value.int .i64)) ∧ zs.length = n ∧ (∀ z ∈ zs, (Lit.int .i64 z).wf = true) ∧ (∀ b, v.ownBlock = some b → 0 < n → b < W.heap.size)

def ReadRel (W : World) (b : Nat) (F : Nat → Prop) (q V m : Nat) (t10 : Value) (wr : World) : Prop :=
  ∃ k, t10 = .int .i64 ((k : Nat) : Int) ∧ k ≤ m ∧ RSt wr F b q V k ∧ Bd F wr ∧ Below W.heap.size W wr

set_option maxHeartbeats 2000000 in
theorem whole_walk (W : World) (v : Value) (hv : IntsIn W v) :
    Calls Try.prog 8 #[v] W fun e w' => e = .returned (.bool true) ∧ Below W.heap.size W w' := by
  obtain ⟨n, zs, hr, hzl, _, hblk⟩ := hv
  obtain ⟨A, c, rfl, hnc, hcm⟩ := hr.form
  unfold maxLen at hcm
  have HR := Lib.hid hr
  have HZ := Lib.hid hzl
  have HBK := Lib.hid hblk
  clear hr hzl hblk
  go_enter Try.func8, Try.ntmps8
  go_wp2_with fail
  refine (new_any _).mono ?_
  rintro e w1 ⟨b, F1, rfl, h1, a1, b1⟩
  have hF1 := a1.from_ (B := W.heap.size) (fun k hk => hk.elim) (Nat.le_refl _)
  have B1 := a1.below (Below.refl _ _) (fun k hk => hk.elim) (Nat.le_refl _)
  go_wp2_with fail
  go_loopw [3, 4, 5] (WholeRel W) (fun _ _ t _ => n - (intOf t).toNat)
  case atStart => exact ⟨b, F1, 0, 0, 0, rfl, rfl, rfl, by omega, by omega, h1, b1, hF1, B1⟩
  case round =>
    clear h1 b1 hF1 B1 a1
    obtain ⟨b, F, N, m, k, rfl, rfl, rfl, hk, hm, hs, hb, hF, hB⟩ := hrel
    by_cases hlt : k < n ∧ k < 60
    · obtain ⟨hkn, hk60⟩ := hlt
      obtain ⟨g, o, rfl, hg, hcell⟩ := (HR.out.below hB (fun j hj hn _ => HBK.out j hj hn)).cells (by omega) (by decide)
      have hc : wr.cell? ⟨g, o + k, none⟩ = some (.int .i64 (zs.getD k 0)) := hcell k _ (by
        have hz := HZ.out
        rw [List.getElem?_map, List.getElem?_eq_getElem (by omega), List.getD_eq_getElem?_getD, List.getElem?_eq_getElem (by omega)]; rfl)
      have HS := Lib.hid hs
      have HBe := Lib.hid hB
      clear hcell hs hB
      go_wp2_with fail
      refine (width_any _ _).mono ?_
      rintro e w2 ⟨x, rfl, hx, rfl⟩
      have hmk := and_mask k x (by omega) (by omega)
      go_wp2_with fail
      rw [show ((k : Int) % 2 ^ x) = ((k % 2 ^ x : Nat) : Int) from by simp]
      refine (put_ok b N m (k % 2 ^ x) x F _ HS.out hb (by omega) (Nat.mod_lt _ (Nat.two_pow_pos _)) (by omega)).mono ?_
      rintro e w3 ⟨rfl, F3, h3, a3, b3⟩
      have H3 := Lib.hid h3
      have HA3 := Lib.hid a3
      clear h3 a3
      go_wp2
      refine ⟨⟨b, F3, _, m + x, k + 1, rfl, by simp, by simp, by omega, by omega, H3.out, b3, HA3.out.from_ hF HBe.out.size, HA3.out.below HBe.out hF HBe.out.size⟩, by simp [intOf]; omega⟩
    · have HS := Lib.hid hs
      have HBe := Lib.hid hB
      clear hs hB
      have hcase : ((n : Int) ≤ k ∧ ¬ (k < n)) ∨ ((60 : Int) ≤ k ∧ k < n) := by omega
      clear hlt
      have hq : (((qn m : Nat) : Int) != ((m : Int) + 7) / 8) = false := by unfold qn; simp
      obtain ⟨q, hqm⟩ : ∃ q, q = qn m := ⟨_, rfl⟩
      have hq8 := qn_pad m
      have hpl := pad_lt m
      rw [← hqm] at hq hq8
      have hq1000 : q ≤ 1000 := by omega
      have hdone : Calls Try.prog 16 #[.pointer (some ⟨b, 0, none⟩)] wr fun e w' => ∃ v F', e = .returned (.tuple #[v, .int .i64 0]) ∧ Sl w' F' 5 1 v q ((be q (N * 2 ^ pad m)).map u8) ∧ Adv Nul wr F' w' := by
        rw [hqm]
        exact done_ok _ _ _ _ _ HS.out (by omega)
      have hend : endOf q (N * 2 ^ pad m) m = 0 := by
        unfold endOf
        rw [show 8 * q - m = pad m from by omega, if_pos ⟨hpl, Nat.mul_mod_left _ _⟩]
      obtain ⟨V, hV⟩ : ∃ V, V = N * 2 ^ pad m := ⟨_, rfl⟩
      rw [← hV] at hdone hend
      have hmq : m ≤ 8 * q := by omega
      have HD := Lib.hid hdone
      have HE := Lib.hid hend
      clear hdone hend hV hqm hq8 hpl HS
      rcases hcase with ⟨hk1, hk2⟩ | ⟨hk1, hk2⟩
      all_goals
        go_wp2_with (first
          | (go_at_call 16; refine HD.out.mono ?_; rintro e w4 ⟨v4, F4, rfl, h4, a4⟩; obtain ⟨a0, cap0, rfl, _, _⟩ := h4.form0)
          | (go_at_call 22; refine (open_any _ q V _ h4.rd (by omega)).mono ?_; rintro e w5 ⟨b5, F5, rfl, h5, a5, b5'⟩))
        have B4 := a4.below HBe.out (fun k hk => hk.elim) HBe.out.size
        have B5 := a5.below B4 (fun k hk => hk.elim) B4.size
        have hF5 := a5.from_ (B := W.heap.size) (fun k hk => hk.elim) B4.size
        have H5 := Lib.hid h5
        have HB5 := Lib.hid B5
        clear h5 B5 B4 h4 a4 a5
        go_loopw [10] (ReadRel W b5 F5 q V m) (fun t _ => m - (intOf t).toNat)
        case atStart => exact ⟨0, rfl, by omega, H5.out, b5', HB5.out⟩
        case round =>
          obtain ⟨j, rfl, hj, hR, hbR, hBR⟩ := hrel
          have HRr := Lib.hid hR
          have HBr := Lib.hid hBR
          clear hR hBR
          by_cases hjm : j < m
          · have hbit : ((bitsAt q V j 1 : Nat) : Int) ≤ 1 := by have := bitsAt_lt q V j 1; omega
            go_wp2_with (first
              | (go_at_call 29; refine (left_ok _ _ _ _ _ _ HRr.out).mono ?_; rintro e w6 ⟨rfl, nd, rfl⟩; rw [show ((8 * q - j : Nat) : Int) = 8 * (q : Int) - j from by omega])
              | (go_at_call 24; refine (get_int _ _ _ _ _ _ _ (HRr.out.drewN nd) hbR (by decide) (by decide) (by simp; omega)).mono ?_; rintro e w7 ⟨rfl, h7, a7, b7⟩))
            refine ⟨⟨j + 1, by simp, by omega, h7, b7, ?_⟩, by simp [intOf]; omega⟩
            exact (Adv.of_drewN a7).below HBr.out hF5 HBr.out.size
          · obtain rfl : j = m := by omega
            go_wp2_with (first
              | (go_at_call 31; refine (rend_ok _ _ _ _ _ _ HRr.out hbR).mono ?_; rintro e w6 ⟨rfl, hb6⟩; rw [HE.out])
              | (go_at_call 17; refine (lives_any _).mono ?_; rintro e w7 ⟨rfl, hb7⟩))
            go_ret
            exact ⟨rfl, (HBr.out.trans (hb6.mono HBr.out.size)).trans (hb7.mono (Nat.le_trans HBr.out.size hb6.size))⟩
end Go.Proofs.Ytjmncfabalideaa
