/- A row of bits: the program's bit, has, put, drop. -/
import Derived.Test.YtekafclhddhnpaaR01
import Derived.Test.YtekafclhddhnpaaAmM
import Derived.Deep.RegionWith
import Derived.Laws.Closers25
namespace Go.Proofs.Ytekafclhddhnpaa
open Go.RowKit

theorem bit_val (i : Nat) : (128 : Int) / 2 ^ (i % 8) = (bitN i : Int) := by
  have : i % 8 < 8 := by omega
  unfold bitN
  generalize i % 8 = k at this
  match k, this with
  | 0, _ | 1, _ | 2, _ | 3, _ | 4, _ | 5, _ | 6, _ | 7, _ => rfl
set_option maxRecDepth 3000 in
theorem bit_any (i : Nat) (hi : i < 1024) (w : World) : Calls Try.prog 34 #[.int .i64 (i : Int)] w fun e w' => e = .returned (.int .u8 (bitN i : Int)) ∧ w = w' := by
  have h1 : (0 : Int) ≤ (i : Int) := by omega
  have h2 : (i : Int) < 1024 := by omega
  go_enter Try.func34, Try.ntmps34
  go_wp2
  go_ret
  exact ⟨by rw [← bit_val]; rfl, rfl⟩

theorem wrap_quo8 (i : Nat) (hi : i < 1024) : IntKind.i64.wrap ((i : Int) / 8) = ((i / 8 : Nat) : Int) := by
  rw [wrap_i64_ediv _ _ (by omega) (by omega) (by decide)]; omega

theorem bit_quiet (i : Nat) (hi : i < 1024) (w : World) (n : Nat) : Calls Try.prog 34 #[.int .i64 (i : Int)] (w.drewN n) fun e w' => e = .returned (.int .u8 (bitN i : Int)) ∧ ∃ m, w' = w.drewN m := by
  refine (bit_any i hi _).mono ?_
  rintro e w1 ⟨rfl, rfl⟩
  exact ⟨rfl, n, rfl⟩

/-- a row in a block, from o on -/
def RowAt (w : World) (b o : Nat) (r : List Nat) : Prop := ∀ j, j < 128 → w.cell? ⟨b, o + j, none⟩ = some (.int .u8 (r.getD j 0 : Int)) ∧ w.frozen? ⟨b, o + j, none⟩ = false

set_option maxRecDepth 3000 in
theorem rhas_any (b o i : Nat) (r : List Nat) (hi : i < 1024) (hr : ∀ x ∈ r, x < 256) (w : World) (h : RowAt w b o r) :
    Calls Try.prog 29 #[.pointer (some ⟨b, o, none⟩), .int .i64 (i : Int)] w fun e w' => e = .returned (.bool (hasB r i)) ∧ ∃ k, w' = w.drewN k := by
  have h1 : (0 : Int) ≤ (i : Int) := by omega
  have h2 : (i : Int) < 1024 := by omega
  obtain ⟨q, hq⟩ : ∃ q, q = i / 8 := ⟨_, rfl⟩
  have hqi := wrap_quo8 i hi
  rw [← hq] at hqi
  have hq2 : (q : Int) < 128 := by omega
  have hq3 : (0 : Int) ≤ (q : Int) := by omega
  obtain ⟨x, hx⟩ : ∃ x, x = r.getD q 0 := ⟨_, rfl⟩
  obtain ⟨c, fz⟩ := h q (by omega)
  rw [← hx] at c
  have HB := Lib.hid (fun n => bit_quiet i hi w n)
  have hx2 : x < 256 := by rw [hx]; exact getD_lt hr _
  have hfin : hasB r i = !decide ((x &&& bitN i) = 0) := by
    unfold hasB
    rw [← hq, ← hx]
    by_cases e : x.testBit (7 - i % 8) = false
    · rw [e, decide_eq_true ((and_bit x i).2 e)]; rfl
    · rw [decide_eq_false (fun k => e ((and_bit x i).1 k))]; simpa using e
  rw [hfin]
  clear hfin h hr hx hq
  go_enter Try.func29, Try.ntmps29
  go_wp2_with fail
  go_quiet (first
    | (go_at_call 34; exact HB.out _)
    | fail)
  go_wp2
  go_ret
  refine ⟨?_, _, rfl⟩
  show Ending.returned (.bool (bits BinOp.and IntKind.u8 (x : Int) (bitN i : Int) != 0)) = _
  rw [u8_and_nat x (bitN i) hx2 (bitN_lt i)]
  by_cases e : x &&& bitN i = 0
  · rw [e]; rfl
  · rw [decide_eq_false e]
    have : ((x &&& bitN i : Nat) : Int) ≠ 0 := by omega
    rw [bne_iff_ne.2 this]; rfl

set_option maxRecDepth 3000 in
theorem rput_any (b o i : Nat) (r : List Nat) (hi : i < 1024) (hr : ∀ x ∈ r, x < 256) (w : World) (h : RowAt w b o r) :
    Calls Try.prog 30 #[.pointer (some ⟨b, o, none⟩), .int .i64 (i : Int)] w fun e w' => e = .returned (.tuple #[]) ∧ ∃ k, w' = (w.drewN k).setCell ⟨b, o + i / 8, none⟩ (.int .u8 ((r.getD (i / 8) 0 ||| bitN i : Nat) : Int)) := by
  have h1 : (0 : Int) ≤ (i : Int) := by omega
  have h2 : (i : Int) < 1024 := by omega
  obtain ⟨q, hq⟩ : ∃ q, q = i / 8 := ⟨_, rfl⟩
  have hqi := wrap_quo8 i hi
  rw [← hq] at hqi ⊢
  have hq2 : (q : Int) < 128 := by omega
  have hq3 : (0 : Int) ≤ (q : Int) := by omega
  obtain ⟨x, hx⟩ : ∃ x, x = r.getD q 0 := ⟨_, rfl⟩
  obtain ⟨c, fz⟩ := h q (by omega)
  rw [← hx] at c ⊢
  have hx2 : x < 256 := by rw [hx]; exact getD_lt hr _
  have hb := fun w => bit_any i hi w
  have ho := u8_or_nat x (bitN i) hx2 (bitN_lt i)
  obtain ⟨m, hm⟩ : ∃ m, m = bitN i := ⟨_, rfl⟩
  rw [← hm] at hb ho ⊢
  obtain ⟨y, hy⟩ : ∃ y, y = x ||| m := ⟨_, rfl⟩
  rw [← hy] at ho ⊢
  have HB := Lib.hid hb
  clear h hr hx hq hm hy hb hx2
  go_enter Try.func30, Try.ntmps30
  go_wp2_with fail
  go_region_with (first
    | (go_at_call 34; refine (HB.out _).mono ?_; rintro e w1 ⟨rfl, rfl⟩)
    | fail)
  all_goals go_wp2
  all_goals go_end0
  all_goals exact ⟨rfl, 1, rfl⟩

set_option maxRecDepth 3000 in
theorem rdrop_any (b o i : Nat) (r : List Nat) (hi : i < 1024) (hr : ∀ x ∈ r, x < 256) (w : World) (h : RowAt w b o r) :
    Calls Try.prog 32 #[.pointer (some ⟨b, o, none⟩), .int .i64 (i : Int)] w fun e w' => e = .returned (.tuple #[]) ∧ ∃ k, w' = (w.drewN k).setCell ⟨b, o + i / 8, none⟩ (.int .u8 ((r.getD (i / 8) 0 &&& (255 - bitN i) : Nat) : Int)) := by
  have h1 : (0 : Int) ≤ (i : Int) := by omega
  have h2 : (i : Int) < 1024 := by omega
  obtain ⟨q, hq⟩ : ∃ q, q = i / 8 := ⟨_, rfl⟩
  have hqi := wrap_quo8 i hi
  rw [← hq] at hqi ⊢
  have hq2 : (q : Int) < 128 := by omega
  have hq3 : (0 : Int) ≤ (q : Int) := by omega
  obtain ⟨x, hx⟩ : ∃ x, x = r.getD q 0 := ⟨_, rfl⟩
  obtain ⟨c, fz⟩ := h q (by omega)
  rw [← hx] at c ⊢
  have hx2 : x < 256 := by rw [hx]; exact getD_lt hr _
  have hb := fun w => bit_any i hi w
  have ho := u8_andNot_nat x (bitN i) hx2 (bitN_lt i)
  obtain ⟨m, hm⟩ : ∃ m, m = bitN i := ⟨_, rfl⟩
  rw [← hm] at hb ho ⊢
  obtain ⟨y, hy⟩ : ∃ y, y = x &&& (255 - m) := ⟨_, rfl⟩
  rw [← hy] at ho ⊢
  have HB := Lib.hid hb
  clear h hr hx hq hm hy hb hx2
  go_enter Try.func32, Try.ntmps32
  go_wp2_with fail
  go_region_with (first
    | (go_at_call 34; refine (HB.out _).mono ?_; rintro e w1 ⟨rfl, rfl⟩)
    | fail)
  all_goals go_wp2
  all_goals go_end0
  all_goals exact ⟨rfl, 1, rfl⟩
end Go.Proofs.Ytekafclhddhnpaa
