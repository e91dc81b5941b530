/- Inodes: cells, the program's hasKind. -/
import Derived.Test.YtbdjlmdbnoghnaaInM
import Derived.Test.YtbdjlmdbnoghnaaDone
import Derived.DeepKeys
namespace Go.Proofs.Ytbdjlmdbnoghnaa
open Go.ChangeShapes Go.WideShapes Go.ChangeAt Go.RowKit

/-- the cells of an inode in a block -/
structure C11 (w : World) (y : Nat) (x : Ino) : Prop where
  all : w.cell? ⟨y, 0, none⟩ = some (.int .i64 x.k) ∧ w.cell? ⟨y, 1, none⟩ = some (.int .i64 x.g) ∧ w.cell? ⟨y, 2, none⟩ = some (.int .u64 (x.v : Int)) ∧ w.cell? ⟨y, 3, none⟩ = some (.int .i64 (x.a 0)) ∧ w.cell? ⟨y, 4, none⟩ = some (.int .i64 (x.a 1)) ∧ w.cell? ⟨y, 5, none⟩ = some (.int .i64 (x.a 2)) ∧ w.cell? ⟨y, 6, none⟩ = some (.int .i64 (x.a 3)) ∧ w.cell? ⟨y, 7, none⟩ = some (.int .i64 (x.a 4)) ∧ w.cell? ⟨y, 8, none⟩ = some (.int .i64 (x.a 5)) ∧ w.cell? ⟨y, 9, none⟩ = some (.int .i64 (x.a 6)) ∧ w.cell? ⟨y, 10, none⟩ = some (.int .i64 (x.a 7))
theorem Blk.c11 {w : World} {y : Nat} {t : TypeId} {x : Ino} (h : Blk w y t (ic x)) : C11 w y x :=
  ⟨h.cell 0, h.cell 1, h.cell 2, h.cell 3, h.cell 4, h.cell 5, h.cell 6, h.cell 7, h.cell 8, h.cell 9, h.cell 10⟩
theorem ic_one (x : Ino) : (ic x).all (·.oneCell') = true := by simp [ic, Value.oneCell']
theorem ic_size (x : Ino) : (ic x).size = 11 := rfl
theorem sizeInode : (Try.prog.info? 30).map (·.size) = some 11 := by kernel_rfl
theorem sizeQInode : (Try.prog.info? 25).map (·.size) = some 11 := by kernel_rfl
/-- what a struct in a box is -/
theorem Adv.box {w : World} (o : Obj) : Adv Nul w Nul (w.alloc o) := (Adv.refl _ _).alloc _

def arr (a : Nat → Int) : Array Value := #[.int .i64 (a 0), .int .i64 (a 1), .int .i64 (a 2), .int .i64 (a 3), .int .i64 (a 4), .int .i64 (a 5), .int .i64 (a 6), .int .i64 (a 7)]
def arrL (a : Nat → Int) : List Lit := [.int .i64 (a 0), .int .i64 (a 1), .int .i64 (a 2), .int .i64 (a 3), .int .i64 (a 4), .int .i64 (a 5), .int .i64 (a 6), .int .i64 (a 7)]
theorem cells8 : Try.prog.cellsOf 23 = 8 := by kernel_rfl
theorem cellsInt : Try.prog.cellsOf 3 = 1 := by kernel_rfl
theorem key_int (d : Nat) (z : Int) (h : (Lit.int .i64 z).wf = true) : Try.prog.keyLits (d + 1) 3 [.int .i64 z] = some [.int .i64 z] := by
  unfold Program.keyLits
  rw [Try.underlying3]
  simp [h]
theorem wf_i64 {z : Int} (h : -9223372036854775808 ≤ z ∧ z < 9223372036854775808) : (Lit.int .i64 z).wf = true := by
  simp [Lit.wf, IntKind.min, IntKind.max, IntKind.signed, IntKind.bits]; omega
def WfA (a : Nat → Int) : Prop := ∀ j, j < 8 → -9223372036854775808 ≤ a j ∧ a j < 9223372036854775808
theorem key_arr (a : Nat → Int) (h : WfA a) : Try.prog.keyLits 5 23 (arr a).toList = some (arrL a) := by
  have k := fun j hj => key_int 3 (a j) (wf_i64 (h j hj))
  unfold Program.keyLits
  rw [Try.underlying23]
  simp only [cells8, cellsInt, arr, arrL, List.length_cons, List.length_nil, if_true, List.range, List.range.loop, List.mapM_cons, List.mapM_nil, List.drop, List.take, Nat.mul_one]
  simp [k 0 (by decide), k 1 (by decide), k 2 (by decide), k 3 (by decide), k 4 (by decide), k 5 (by decide), k 6 (by decide), k 7 (by decide)]
/-- eight numbers held against eight -/
theorem eq_arr (a b : Nat → Int) (wa : WfA a) (wb : WfA b) : ∃ c : Bool, (c = true ↔ a 0 = b 0 ∧ a 1 = b 1 ∧ a 2 = b 2 ∧ a 3 = b 3 ∧ a 4 = b 4 ∧ a 5 = b 5 ∧ a 6 = b 6 ∧ a 7 = b 7) ∧ ∀ w, (Op.equalIn 9999 23 (.agg (arr a)) (.agg (arr b))).run Try.prog w = .ok c w := by
  have h0 := run_equalIn_deep (P := Try.prog) 9997 2 23 (by kernel_rfl)
  have hh : ∀ w, ∃ r : Bool, (Op.equalIn 9999 23 (.agg (arr a)) (.agg (arr b))).run Try.prog w = .ok r w ∧ (r = true ↔ arrL a = arrL b) := fun w => h0 w 5 5 (.agg (arr a)) (.agg (arr b)) _ _ rfl rfl (key_arr a wa) (key_arr b wb)
  have e : arrL a = arrL b ↔ a 0 = b 0 ∧ a 1 = b 1 ∧ a 2 = b 2 ∧ a 3 = b 3 ∧ a 4 = b 4 ∧ a 5 = b 5 ∧ a 6 = b 6 ∧ a 7 = b 7 := by simp [arrL]
  by_cases h : arrL a = arrL b
  · refine ⟨true, by simp [← e, h], fun w => ?_⟩
    obtain ⟨r, h1, h2⟩ := hh w
    rw [h1, h2.mpr h]
  · refine ⟨false, by simp [← e, h], fun w => ?_⟩
    obtain ⟨r, h1, h2⟩ := hh w
    rw [h1]
    cases r
    · rfl
    · exact absurd (h2.mp rfl) h
theorem kind0 {g : Int} {v : Nat} {a : Nat → Int} : kindI ⟨0, g, v, a⟩ ↔ v = 0 ∧ a 0 = 0 ∧ a 1 = 0 ∧ a 2 = 0 ∧ a 3 = 0 ∧ a 4 = 0 ∧ a 5 = 0 ∧ a 6 = 0 ∧ a 7 = 0 := by
  unfold kindI bareI
  rw [if_pos rfl]
  constructor
  · rintro ⟨h, k⟩
    exact ⟨h, k 0 (by decide), k 1 (by decide), k 2 (by decide), k 3 (by decide), k 4 (by decide), k 5 (by decide), k 6 (by decide), k 7 (by decide)⟩
  · rintro ⟨h, k0, k1, k2, k3, k4, k5, k6, k7⟩
    refine ⟨h, fun j hj => ?_⟩
    match j, hj with
    | 0, _ => exact k0
    | 1, _ => exact k1
    | 2, _ => exact k2
    | 3, _ => exact k3
    | 4, _ => exact k4
    | 5, _ => exact k5
    | 6, _ => exact k6
    | 7, _ => exact k7
theorem kind1 {k g : Int} {v : Nat} {a : Nat → Int} (h : k ≠ 0) : kindI ⟨k, g, v, a⟩ ↔ k = 1 ∨ k = 2 := by
  unfold kindI
  rw [if_neg h]
set_option maxRecDepth 3000 in
set_option maxHeartbeats 1000000 in
theorem haskind_any (x : Ino) (hx : WfI x) (w : World) : Calls Try.prog 17 #[.agg (ic x)] w fun e w' => e = .returned (.bool (decide (kindI x))) ∧ Adv Nul w Nul w' := by
  obtain ⟨y, hy⟩ : ∃ y, y = w.heap.size := ⟨_, rfl⟩
  obtain ⟨V, hV⟩ : ∃ V, V = w.alloc (.cells (ic x) 30) := ⟨_, rfl⟩
  have HY := Lib.hid (show Blk V y 30 (ic x) by rw [hV, hy]; exact Blk.new _ _ _)
  have HA := Lib.hid (show Adv Nul w Nul V by rw [hV]; exact (Adv.refl _ _).alloc _)
  obtain ⟨s0, s1, s2, s3, s4, s5, s6, s7, s8, s9, s10⟩ := HY.out.c11.all
  have HV := Lib.hid hV
  have HYY := Lib.hid hy
  have WA := Lib.hid (show WfA x.a from hx.a)
  clear hx
  obtain ⟨B, hB⟩ : ∃ B, B = decide (kindI x) := ⟨_, rfl⟩
  rw [← hB]
  have HB := Lib.hid hB
  clear hV hy hB
  obtain ⟨k, g, v, a⟩ := x
  simp only [ic] at HV ⊢
  simp only at s0 s1 s2 s3 s4 s5 s6 s7 s8 s9 s10
  go_enter Try.func17, Try.ntmps17
  go_upto_region 1 with (fail)
  rw [← HV.out, ← HYY.out]
  by_cases hk : k = 0
  · subst hk
    obtain ⟨c, hc, hE⟩ := eq_arr a (fun _ => 0) WA.out (fun _ _ => ⟨show (-9223372036854775808 : Int) ≤ 0 by decide, show (0 : Int) < 9223372036854775808 by decide⟩)
    simp only [arr] at hE
    by_cases hb : v = 0 ∧ c = true
    · obtain ⟨rfl, rfl⟩ := hb
      obtain rfl : B = true := HB.out.trans (decide_eq_true (kind0.mpr ⟨rfl, hc.mp rfl⟩))
      clear hc
      go_wp2_with fail
      go_ret
      exact ⟨rfl, HA.out⟩
    · have hn : B = false := HB.out.trans (decide_eq_false (fun o => hb ⟨(kind0.mp o).1, hc.mpr (kind0.mp o).2⟩))
      subst hn
      cases c with
      | false =>
        clear hc hb
        go_wp2_with fail
        all_goals
          go_ret
          exact ⟨rfl, HA.out⟩
      | true =>
        have hv : ¬ v = 0 := fun o => hb ⟨o, rfl⟩
        clear hc hb
        go_wp2_with fail
        all_goals
          go_ret
          exact ⟨rfl, HA.out⟩
  · have HK := Lib.hid hk
    by_cases h1 : k = 1
    · subst h1
      go_wp2_with fail
      go_ret
      exact ⟨congrArg (fun b => Ending.returned (.bool b)) (HB.out.trans (decide_eq_true ((kind1 HK.out).mpr (.inl rfl)))).symm, HA.out⟩
    by_cases h2 : k = 2
    · subst h2
      go_wp2_with fail
      go_ret
      exact ⟨congrArg (fun b => Ending.returned (.bool b)) (HB.out.trans (decide_eq_true ((kind1 HK.out).mpr (.inr rfl)))).symm, HA.out⟩
    · obtain rfl : B = false := HB.out.trans (decide_eq_false (fun o => ((kind1 HK.out).mp o).elim h1 h2))
      have e1 : (k == 1) = false := by simp [h1]
      have e2 : (k == 2) = false := by simp [h2]
      go_wp2_with fail
      go_ret
      exact ⟨by first | rfl | simp [e1, e2], HA.out⟩
end Go.Proofs.Ytbdjlmdbnoghnaa
