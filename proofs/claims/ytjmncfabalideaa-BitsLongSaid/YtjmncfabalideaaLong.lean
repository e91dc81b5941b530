/- BitsLong. -/
import Derived.Test.YtjmncfabalideaaWhole
import Derived.Laws.IdiomStrings
import Derived.Deep.RegionWith
import Derived.Deep.DeepCutAuto
namespace Go.Proofs.Ytjmncfabalideaa
open Go.RowKit

def zeroRow (n : Nat) : Array Value := madeCells #[.int .u8 0] n
def zeroText (n : Nat) : ByteArray := ⟨(List.replicate n (0 : UInt8)).toArray⟩
theorem zeroText_size (n : Nat) : (zeroText n).size = n := by simp [zeroText, ByteArray.size]

theorem make_zero (n : Nat) (hn : n ≤ 1000000) (w : World) : (Instr.makeSlice 26 (.int .i64 (n : Int)) (.int .i64 (n : Int))).run Try.prog w = .ok (.slice (some ⟨w.heap.size, 0, none⟩) n n) (w.alloc (.cells (zeroRow n) 5)) := by
  obtain ⟨i0, hi, hz0, hz1, hz2⟩ := info_parts Try.infoU8
  have hr := run_make (P := Try.prog) w 26 5 i0 (.int .u8 0) Try.underlying26 hi hz0 .i64 .i64 n n (by omega) (by omega) (by rw [hz2]; omega) (by omega)
  simp only [Int.toNat_natCast, hz1, Nat.mul_one] at hr
  exact hr

theorem conv_zero (n : Nat) (w : World) (g : Nat) (hB : Blk w g 5 (zeroRow n)) : (convert 26 9 (.slice (some ⟨g, 0, none⟩) n n)).run Try.prog w = .ok (.string (zeroText n)) w := by
  have h := run_convert_bytes_back (P := Try.prog) w 26 9 5 ⟨g, 0, none⟩ n (List.replicate n 0) Try.underlying26 Try.underlying5 Try.underlying9 (fun j hj => by
    simp only [List.length_replicate] at hj
    rw [add_none, Nat.zero_add, hB.cell, ← Array.getElem?_toList]
    unfold zeroRow
    rw [toList_madeCells_one, List.getElem?_replicate, if_pos hj]
    simp)
  simpa [zeroText] using h

theorem WSt.alloc {w : World} {F : Nat → Prop} {b N m : Nat} (h : WSt w F b N m) (hb : Bd F w) (o : Obj) : WSt (w.alloc o) F b N m := by
  obtain ⟨v, h1, h2⟩ := h.ex
  exact ⟨⟨v, h1.alloc _, own_keep h2.own (fun k hk => Below.heap_alloc _ _ _ (hb k (h2.inF k hk))), h2.inF, fun k hk => by have := hb k hk; simp; omega⟩, h.inF, h.lt⟩
theorem Bd.alloc {w : World} {F : Nat → Prop} (hb : Bd F w) (o : Obj) : Bd F (w.alloc o) := fun k hk => by have := hb k hk; simp; omega

set_option maxHeartbeats 1000000 in
theorem long_walk (W : World) (x : Int) (_ : (Lit.int .i64 x).wf = true) :
    Calls Try.prog 6 #[.int .i64 x] W fun e w' => e = .returned (.bool true) ∧ Below W.heap.size W w' := by
  go_enter Try.func6, Try.ntmps6
  go_wp2_with fail
  refine (within_any _ _ _ _ (by decide)).mono ?_
  rintro e w1 ⟨y, rfl, h1, h2, _, rfl⟩
  obtain ⟨n, rfl⟩ := Int.eq_ofNat_of_zero_le (show 0 ≤ y by omega)
  have hmk := make_zero n (by omega)
  have hcv := fun (w : World) => conv_zero n (w.alloc (.cells (zeroRow n) 5)) w.heap.size (Blk.new _ _ _)
  have hcv0 := fun (w : World) => conv_zero n (w.alloc (.cells (zeroRow n) 5)).drew w.heap.size (Blk.new _ _ _)
  have hsz := zeroText_size n
  have HSZ := Lib.hid hsz
  clear hsz
  go_upto_region 2 with (fail)
  by_cases hn : n ≤ 65535
  · go_cut [3, 4] (fun t3 t4 w => ∃ a c, t3 = .slice a (n + 2) c ∧ t4 = .int .i64 0 ∧ Below W.heap.size W w)
    case first =>
      go_region_with (first
        | (go_at_call 10; refine (new_any _).mono ?_; rintro e w1 ⟨b, F1, rfl, h1, a1, b1⟩; have B1 : Below W.heap.size W w1 := (by first | exact a1.below (Below.refl _ _).drew (fun k hk => hk.elim) (Nat.le_refl _) | exact a1.below ((Below.refl _ _).alloc (Nat.le_refl _) _).drew (fun k hk => hk.elim) (by simp)); have hF1 : ∀ k, F1 k → W.heap.size ≤ k := (by first | exact a1.from_ (fun k hk => hk.elim) (Nat.le_refl _) | exact a1.from_ (fun k hk => hk.elim) (by simp)); try (have hcv2 := conv_zero n w1 W.heap.size ((Blk.new W _ _).keep (a1.block _ (by simp) (fun h => h)))); clear a1)
        | (go_at_call 14; refine (text_ok b 0 0 (zeroText n) F1 _ ?_ ?_ ?_ ?_).mono ?_; (first | exact h1 | exact h1.alloc b1 _); (first | exact b1 | exact b1.alloc _); (rw [HSZ.out]; omega); (rw [HSZ.out]; omega); rintro e w2 ⟨rfl, F2, h2, a2, b2⟩; have B2 : Below W.heap.size W w2 := (by first | exact a2.below B1 hF1 B1.size | exact a2.below (B1.alloc B1.size _) hF1 (Nat.le_trans B1.size (by simp))))
        | (go_at_call 16; refine (done_ok _ _ _ _ _ h2 (by rw [HSZ.out]; omega)).mono ?_; rintro e w3 ⟨v3, F3, rfl, h3, a3⟩; have B3 := a3.below B2 (fun k hk => hk.elim) B2.size)
        | fail)
      all_goals
        have hq : qn (0 + 16 + 8 * (zeroText n).size) = n + 2 := by rw [HSZ.out]; unfold qn; omega
        rw [hq] at h3
        obtain ⟨a3', c3, rfl, _, _⟩ := h3.form0
        go_wp2_with fail
        go_meet
        exact ⟨_, _, rfl, rfl, B3⟩
    case rest =>
      obtain ⟨a3, c3, rfl, rfl, B3⟩ := hcut
      have hn1 : (n : Int) ≤ 65535 := by omega
      go_wp2_with (first
        | (go_at_call 17; refine (lives_any _).mono ?_; rintro e w7 ⟨rfl, hb7⟩))
      go_ret
      exact ⟨rfl, B3.trans (hb7.mono B3.size)⟩
  · go_cut [3, 4] (fun t3 t4 w => t3 = .slice none 0 0 ∧ t4 = .int .i64 2 ∧ Below W.heap.size W w)
    case first =>
      go_region_with (first
        | (go_at_call 10; refine (new_any _).mono ?_; rintro e w1 ⟨b, F1, rfl, h1, a1, b1⟩; have B1 : Below W.heap.size W w1 := (by first | exact a1.below (Below.refl _ _).drew (fun k hk => hk.elim) (Nat.le_refl _) | exact a1.below ((Below.refl _ _).alloc (Nat.le_refl _) _).drew (fun k hk => hk.elim) (by simp)); have hF1 : ∀ k, F1 k → W.heap.size ≤ k := (by first | exact a1.from_ (fun k hk => hk.elim) (Nat.le_refl _) | exact a1.from_ (fun k hk => hk.elim) (by simp)); try (have hcv2 := conv_zero n w1 W.heap.size ((Blk.new W _ _).keep (a1.block _ (by simp) (fun h => h)))); clear a1)
        | (go_at_call 14; refine (text_bad b 0 0 (zeroText n) F1 _ ?_ ?_ ?_).mono ?_; (first | exact h1 | exact h1.alloc b1 _); (first | exact b1 | exact b1.alloc _); (rw [HSZ.out]; omega); rintro e w2 ⟨rfl, h2, a2⟩; have B2 : Below W.heap.size W w2 := (by first | exact a2.below B1 hF1 B1.size | exact a2.below (B1.alloc B1.size _) hF1 (Nat.le_trans B1.size (by simp))))
        | (go_at_call 16; refine (done_err _ _ _ h2).mono ?_; rintro e w3 ⟨rfl, a3⟩; have B3 := a3.below B2 (fun k hk => hk.elim) B2.size)
        | fail)
      all_goals
        go_wp2_with fail
        go_meet
        exact ⟨rfl, rfl, B3⟩
    case rest =>
      obtain ⟨rfl, rfl, B3⟩ := hcut
      have hn1 : (65535 : Int) < n := by omega
      go_wp2_with (first
        | (go_at_call 17; refine (lives_any _).mono ?_; rintro e w7 ⟨rfl, hb7⟩))
      go_ret
      exact ⟨rfl, B3.trans (hb7.mono B3.size)⟩
end Go.Proofs.Ytjmncfabalideaa
