/- An inode's sector: the program's. -/
import Derived.Test.YtbdjlmdbnoghnaaInA
import Derived.Test.YtbdjlmdbnoghnaaInP
import Derived.Deep.QuietTactic
import Derived.BigQuiet
import Derived.Deep.RegionHeld3
import Derived.Deep.RegionWith
import Derived.Deep.DeepCutAuto
namespace Go.Proofs.Ytbdjlmdbnoghnaa
open Go.ChangeShapes Go.WideShapes Go.ChangeAt Go.RowKit

/-- an inode's sector in new memory, or none -/
def EncR (w : World) (x : Ino) (e : Ending) (w' : World) : Prop :=
  ∃ A m k F, e = .returned (.tuple #[.slice A m k, .int .i64 (if okI x then 0 else 2)]) ∧ Adv Nul w F w' ∧ (okI x → m = 128 ∧ Sl w' F 5 1 (.slice A 128 k) 128 ((secI x).map u8)) ∧ (¬ okI x → A = none ∧ m = 0 ∧ k = 0)
theorem EncR.no {w w' : World} {x : Ino} (h : ¬ okI x) (ha : Adv Nul w Nul w') : EncR w x (.returned (.tuple #[.slice none 0 0, .int .i64 2])) w' :=
  ⟨none, 0, 0, Nul, by rw [if_neg h], ha, fun o => absurd o h, fun _ => ⟨rfl, rfl, rfl⟩⟩
theorem EncR.yes {w w' : World} {x : Ino} {F : Nat → Prop} {A : Option Addr} {k : Nat} (h : okI x) (hs : Sl w' F 5 1 (.slice A 128 k) 128 ((secI x).map u8)) (ha : Adv Nul w F w') : EncR w x (.returned (.tuple #[.slice A 128 k, .int .i64 0])) w' :=
  ⟨A, 128, k, F, by rw [if_pos h], ha, fun _ => ⟨rfl, hs⟩, fun o => absurd h o⟩
theorem idx_0 (a : Nat → Int) (w : World) : (Instr.index 23 (.agg #[.int .i64 (a 0), .int .i64 (a 1), .int .i64 (a 2), .int .i64 (a 3), .int .i64 (a 4), .int .i64 (a 5), .int .i64 (a 6), .int .i64 (a 7)]) (.int .i64 0)).run Try.prog w = .ok (.int .i64 (a 0)) w := by kernel_rfl
theorem idx_1 (a : Nat → Int) (w : World) : (Instr.index 23 (.agg #[.int .i64 (a 0), .int .i64 (a 1), .int .i64 (a 2), .int .i64 (a 3), .int .i64 (a 4), .int .i64 (a 5), .int .i64 (a 6), .int .i64 (a 7)]) (.int .i64 1)).run Try.prog w = .ok (.int .i64 (a 1)) w := by kernel_rfl
theorem idx_2 (a : Nat → Int) (w : World) : (Instr.index 23 (.agg #[.int .i64 (a 0), .int .i64 (a 1), .int .i64 (a 2), .int .i64 (a 3), .int .i64 (a 4), .int .i64 (a 5), .int .i64 (a 6), .int .i64 (a 7)]) (.int .i64 2)).run Try.prog w = .ok (.int .i64 (a 2)) w := by kernel_rfl
theorem idx_3 (a : Nat → Int) (w : World) : (Instr.index 23 (.agg #[.int .i64 (a 0), .int .i64 (a 1), .int .i64 (a 2), .int .i64 (a 3), .int .i64 (a 4), .int .i64 (a 5), .int .i64 (a 6), .int .i64 (a 7)]) (.int .i64 3)).run Try.prog w = .ok (.int .i64 (a 3)) w := by kernel_rfl
theorem idx_4 (a : Nat → Int) (w : World) : (Instr.index 23 (.agg #[.int .i64 (a 0), .int .i64 (a 1), .int .i64 (a 2), .int .i64 (a 3), .int .i64 (a 4), .int .i64 (a 5), .int .i64 (a 6), .int .i64 (a 7)]) (.int .i64 4)).run Try.prog w = .ok (.int .i64 (a 4)) w := by kernel_rfl
theorem idx_5 (a : Nat → Int) (w : World) : (Instr.index 23 (.agg #[.int .i64 (a 0), .int .i64 (a 1), .int .i64 (a 2), .int .i64 (a 3), .int .i64 (a 4), .int .i64 (a 5), .int .i64 (a 6), .int .i64 (a 7)]) (.int .i64 5)).run Try.prog w = .ok (.int .i64 (a 5)) w := by kernel_rfl
theorem idx_6 (a : Nat → Int) (w : World) : (Instr.index 23 (.agg #[.int .i64 (a 0), .int .i64 (a 1), .int .i64 (a 2), .int .i64 (a 3), .int .i64 (a 4), .int .i64 (a 5), .int .i64 (a 6), .int .i64 (a 7)]) (.int .i64 6)).run Try.prog w = .ok (.int .i64 (a 6)) w := by kernel_rfl
theorem idx_7 (a : Nat → Int) (w : World) : (Instr.index 23 (.agg #[.int .i64 (a 0), .int .i64 (a 1), .int .i64 (a 2), .int .i64 (a 3), .int .i64 (a 4), .int .i64 (a 5), .int .i64 (a 6), .int .i64 (a 7)]) (.int .i64 7)).run Try.prog w = .ok (.int .i64 (a 7)) w := by kernel_rfl
theorem idx_arr (a : Nat → Int) (j : Nat) (hj : j < 8) (w : World) : (Instr.index 23 (.agg #[.int .i64 (a 0), .int .i64 (a 1), .int .i64 (a 2), .int .i64 (a 3), .int .i64 (a 4), .int .i64 (a 5), .int .i64 (a 6), .int .i64 (a 7)]) (.int .i64 (j : Int))).run Try.prog w = .ok (.int .i64 (a j)) w := by
  have h : j = 0 ∨ j = 1 ∨ j = 2 ∨ j = 3 ∨ j = 4 ∨ j = 5 ∨ j = 6 ∨ j = 7 := by omega
  rcases h with rfl | rfl | rfl | rfl | rfl | rfl | rfl | rfl
  · exact idx_0 a w
  · exact idx_1 a w
  · exact idx_2 a w
  · exact idx_3 a w
  · exact idx_4 a w
  · exact idx_5 a w
  · exact idx_6 a w
  · exact idx_7 a w
def EncL (V : World) (b : Nat) (x : Ino) (t : Value) (wr : World) : Prop :=
  ∃ (j : Nat) (F : Nat → Prop), t = .int .i64 (j : Int) ∧ j ≤ 8 ∧ WP V F b (okJ x j) (nJ x j) (mJ j) wr
theorem grown_noughts {w w2 w3 : World} {F : Nat → Prop} {g cap n m : Nat} {v' : Value} {xs ys : List Value} (hS : Sl w2 F 5 1 (.slice (some ⟨g, 0, none⟩) n cap) n xs) (ha : Adv Nul w F w2) (hown : w3.ownsRow 0 5 1 v' m ys) (hg : w2.grownBy w3 (some g)) (hat : v'.ownBlock = some g ∨ v'.ownBlock = some w2.heap.size) :
    Sl w3 (fun j => F j ∨ v'.ownBlock = some j) 5 1 v' m ys ∧ Adv Nul w (fun j => F j ∨ v'.ownBlock = some j) w3 := by
  obtain ⟨h1, _, h3⟩ := own_grown (v := .slice (some ⟨g, 0, none⟩) n cap) hS ha hown hg hat (Nat.le_refl _)
  exact ⟨h1, h3⟩

theorem sl_secI {x : Ino} {w : World} {F : Nat → Prop} {v : Value} (h : Sl w F 5 1 v (22 + 106) ((rowOf (nJ x 8) (mJ 8)).map u8 ++ List.replicate 106 (u8 0))) : Sl w F 5 1 v 128 ((secI x).map u8) := by
  rw [← row_secI, List.map_append, List.map_replicate]
  exact h
theorem k012 {a b c d : Prop} (h : a ∧ b ∧ c ∧ d) : a ∧ b ∧ c := ⟨h.1, h.2.1, h.2.2.1⟩

set_option maxRecDepth 3000 in
set_option maxHeartbeats 3200000 in
theorem encode_any (x : Ino) (hx : WfI x) (w : World) : Calls Try.prog 6 #[.agg (ic x)] w (EncR w x) := by
  obtain ⟨y, hy⟩ : ∃ y, y = w.heap.size := ⟨_, rfl⟩
  obtain ⟨V, hV⟩ : ∃ V, V = w.alloc (.cells (ic x) 30) := ⟨_, rfl⟩
  have HY := Lib.hid (show Blk V y 30 (ic x) by rw [hV, hy]; exact Blk.new _ _ _)
  have HA := Lib.hid (show Adv Nul w Nul V by rw [hV]; exact (Adv.refl _ _).alloc _)
  have HV := Lib.hid hV
  have HYY := Lib.hid hy
  have HK := Lib.hid (haskind_any x hx)
  have HX := Lib.hid (fun (w' : World) (h : Adv Nul V Nul w') => (HY.out.keep (h.block y HY.out.lt (fun h => h))).c11.all)
  have HXF := Lib.hid (fun (F : Nat → Prop) (b : Nat) (ok : Prop) (N m : Nat) (w' : World) (h : WP V F b ok N m w') => (HY.out.keep (h.ad.block y HY.out.lt (fun h => h))).c11.all)
  have HVV := Lib.hid hx.v
  obtain ⟨s0, s1, s2, s3, s4, s5, s6, s7, s8, s9, s10⟩ := HY.out.c11.all
  clear hV hy hx
  obtain ⟨k, g, v, a⟩ := x
  have HI := Lib.hid (idx_arr a)
  simp only [ic] at HV HK ⊢
  simp only at s0 s1 s2 s3 s4 s5 s6 s7 s8 s9 s10 HX HXF HVV
  go_enter Try.func6, Try.ntmps6
  go_upto_region 1 with (fail)
  rw [← HV.out, ← HYY.out]
  by_cases hk : kindI ⟨k, g, v, a⟩
  · have HKI := Lib.hid hk
    have HKD := Lib.hid (decide_eq_true hk)
    clear hk
    go_wp2_with (first
      | (go_at_call 17; refine (HK.out _).mono ?_; rintro e w1 ⟨rfl, a1⟩; rw [HKD.out]; have HA1 := Lib.hid a1; clear a1)
      | fail)
    obtain ⟨s0, s1, s2, s3, s4, s5, s6, s7, s8, s9, s10⟩ := HX.out _ HA1.out.drew
    have K0 := Lib.hid (k012 (HX.out _ HA1.out.drew))
    go_upto_region 3 with (fail)
    refine wp_region_held_drew (S := (fun w' => w'.cell? ⟨y, 0, none⟩ = some (.int .i64 k) ∧ w'.cell? ⟨y, 1, none⟩ = some (.int .i64 g) ∧ w'.cell? ⟨y, 2, none⟩ = some (.int .u64 (v : Int)))) (by kernel_rfl) (by first | with_reducible exact K4.out | with_reducible exact K3.out | with_reducible exact K2.out | with_reducible exact K1.out | with_reducible exact K0.out) (fun hHeld => ?_)
    clear hHeld
    refine wpAnyH_take (i := 1) (oi := ⟨some 13, .fieldAddr 30 (.tmp 1) 0, 0, "inode.go:37", #[], none⟩) (v := ?_) rfl (by kernel_rfl) (by kernel_rfl) (by kernel_rfl) (fun _ _ _ h => h) (Or.inl ⟨by rfl, ?_⟩) (by first | with_reducible exact K4.out | with_reducible exact K3.out | with_reducible exact K2.out | with_reducible exact K1.out | with_reducible exact K0.out) ?_
    rotate_left
    · (intro w hSw; obtain ⟨s0, s1, s2⟩ := hSw; go_simp <;> with_reducible rfl)
    simp only [Act.put, List.setIfInBounds_toArray, List.set_cons_zero, List.set_cons_succ]
    refine wpAnyH_take (i := 2) (oi := ⟨some 14, .load 3 (.tmp 13), 3, "inode.go:37", #[⟨1, .data⟩], none⟩) (v := ?_) rfl (by kernel_rfl) (by kernel_rfl) (by kernel_rfl) (fun _ _ _ h => h) (Or.inl ⟨by rfl, ?_⟩) (by first | with_reducible exact K4.out | with_reducible exact K3.out | with_reducible exact K2.out | with_reducible exact K1.out | with_reducible exact K0.out) ?_
    rotate_left
    · (intro w hSw; obtain ⟨s0, s1, s2⟩ := hSw; go_simp <;> with_reducible rfl)
    simp only [Act.put, List.setIfInBounds_toArray, List.set_cons_zero, List.set_cons_succ]
    refine wpAnyH_take (i := 3) (oi := ⟨some 15, .convert 3 22 (.tmp 14), 22, "inode.go:37", #[⟨2, .data⟩], none⟩) (v := ?_) rfl (by kernel_rfl) (by kernel_rfl) (by kernel_rfl) (fun _ _ _ h => h) (Or.inl ⟨by rfl, ?_⟩) (by first | with_reducible exact K4.out | with_reducible exact K3.out | with_reducible exact K2.out | with_reducible exact K1.out | with_reducible exact K0.out) ?_
    rotate_left
    · (intro w hSw; obtain ⟨s0, s1, s2⟩ := hSw; go_simp <;> with_reducible rfl)
    simp only [Act.put, List.setIfInBounds_toArray, List.set_cons_zero, List.set_cons_succ]
    refine wpAnyH_take (i := 5) (oi := ⟨some 17, .fieldAddr 30 (.tmp 1) 1, 0, "inode.go:37", #[], none⟩) (v := ?_) rfl (by kernel_rfl) (by kernel_rfl) (by kernel_rfl) (fun _ _ _ h => h) (Or.inl ⟨by rfl, ?_⟩) (by first | with_reducible exact K4.out | with_reducible exact K3.out | with_reducible exact K2.out | with_reducible exact K1.out | with_reducible exact K0.out) ?_
    rotate_left
    · (intro w hSw; obtain ⟨s0, s1, s2⟩ := hSw; go_simp <;> with_reducible rfl)
    simp only [Act.put, List.setIfInBounds_toArray, List.set_cons_zero, List.set_cons_succ]
    refine wpAnyH_take (i := 6) (oi := ⟨some 18, .load 3 (.tmp 17), 3, "inode.go:37", #[⟨5, .data⟩], none⟩) (v := ?_) rfl (by kernel_rfl) (by kernel_rfl) (by kernel_rfl) (fun _ _ _ h => h) (Or.inl ⟨by rfl, ?_⟩) (by first | with_reducible exact K4.out | with_reducible exact K3.out | with_reducible exact K2.out | with_reducible exact K1.out | with_reducible exact K0.out) ?_
    rotate_left
    · (intro w hSw; obtain ⟨s0, s1, s2⟩ := hSw; go_simp <;> with_reducible rfl)
    simp only [Act.put, List.setIfInBounds_toArray, List.set_cons_zero, List.set_cons_succ]
    refine wpAnyH_take (i := 7) (oi := ⟨some 19, .convert 3 22 (.tmp 18), 22, "inode.go:37", #[⟨6, .data⟩], none⟩) (v := ?_) rfl (by kernel_rfl) (by kernel_rfl) (by kernel_rfl) (fun _ _ _ h => h) (Or.inl ⟨by rfl, ?_⟩) (by first | with_reducible exact K4.out | with_reducible exact K3.out | with_reducible exact K2.out | with_reducible exact K1.out | with_reducible exact K0.out) ?_
    rotate_left
    · (intro w hSw; obtain ⟨s0, s1, s2⟩ := hSw; go_simp <;> with_reducible rfl)
    simp only [Act.put, List.setIfInBounds_toArray, List.set_cons_zero, List.set_cons_succ]
    refine wpAnyH_take (i := 9) (oi := ⟨some 21, .fieldAddr 30 (.tmp 1) 2, 0, "inode.go:37", #[], none⟩) (v := ?_) rfl (by kernel_rfl) (by kernel_rfl) (by kernel_rfl) (fun _ _ _ h => h) (Or.inl ⟨by rfl, ?_⟩) (by first | with_reducible exact K4.out | with_reducible exact K3.out | with_reducible exact K2.out | with_reducible exact K1.out | with_reducible exact K0.out) ?_
    rotate_left
    · (intro w hSw; obtain ⟨s0, s1, s2⟩ := hSw; go_simp <;> with_reducible rfl)
    simp only [Act.put, List.setIfInBounds_toArray, List.set_cons_zero, List.set_cons_succ]
    refine wpAnyH_take (i := 10) (oi := ⟨some 22, .load 22 (.tmp 21), 22, "inode.go:37", #[⟨9, .data⟩], none⟩) (v := ?_) rfl (by kernel_rfl) (by kernel_rfl) (by kernel_rfl) (fun _ _ _ h => h) (Or.inl ⟨by rfl, ?_⟩) (by first | with_reducible exact K4.out | with_reducible exact K3.out | with_reducible exact K2.out | with_reducible exact K1.out | with_reducible exact K0.out) ?_
    rotate_left
    · (intro w hSw; obtain ⟨s0, s1, s2⟩ := hSw; go_simp <;> with_reducible rfl)
    simp only [Act.put, List.setIfInBounds_toArray, List.set_cons_zero, List.set_cons_succ]
    refine wpAnyH_ready (rs := [0]) (by kernel_rfl) (by simp) ?_
    refine AllReadyH.cons (o := ⟨some 12, .call { callee := Go.Callee.value (.func 18), args := #[], argTypes := #[] }, 49, "inode.go:37", #[], none⟩) rfl (fun K hK => ?_) AllReadyH.nil
    go_simp
    refine (WP.new HA1.out.drew).mono ?_
    rintro e w2 ⟨b, F1, rfl, g1⟩
    have G1 := Lib.hid g1
    have K1 := Lib.hid (k012 (HXF.out _ _ _ _ _ _ g1))
    clear g1
    go_wp2_with fail
    refine hK.out _ _ (by first | with_reducible exact K4.out | with_reducible exact K3.out | with_reducible exact K2.out | with_reducible exact K1.out | with_reducible exact K0.out) (fun hHeld => ?_)
    clear hK K hHeld
    try simp only [Act.put, List.setIfInBounds_toArray, List.set_cons_zero, List.set_cons_succ]
    refine wpAnyH_ready (rs := [4]) (by kernel_rfl) (by simp) ?_
    refine AllReadyH.cons (o := ⟨some 16, .call { callee := Go.Callee.value (.func 19), args := #[Go.Operand.tmp 12, Go.Operand.tmp 15, Go.Operand.const (Go.Value.int Go.IntKind.i64 2)], argTypes := #[49, 22, 3] }, 49, "inode.go:37", #[⟨0, .data⟩, ⟨3, .data⟩, ⟨0, .chain⟩], none⟩) rfl (fun K hK => ?_) AllReadyH.nil
    go_simp
    rw [wrap_u64n]
    refine (G1.out.put (u64n k) 2 (by decide) (u64n_lt _) (by decide)).mono ?_
    rintro e w3 ⟨F2, rfl, g2⟩
    have G2 := Lib.hid g2
    have K2 := Lib.hid (k012 (HXF.out _ _ _ _ _ _ g2))
    clear g2
    go_wp2_with fail
    refine hK.out _ _ (by first | with_reducible exact K4.out | with_reducible exact K3.out | with_reducible exact K2.out | with_reducible exact K1.out | with_reducible exact K0.out) (fun hHeld => ?_)
    clear hK K hHeld
    try simp only [Act.put, List.setIfInBounds_toArray, List.set_cons_zero, List.set_cons_succ]
    refine wpAnyH_ready (rs := [8]) (by kernel_rfl) (by simp) ?_
    refine AllReadyH.cons (o := ⟨some 20, .call { callee := Go.Callee.value (.func 19), args := #[Go.Operand.tmp 16, Go.Operand.tmp 19, Go.Operand.const (Go.Value.int Go.IntKind.i64 31)], argTypes := #[49, 22, 3] }, 49, "inode.go:37", #[⟨4, .data⟩, ⟨7, .data⟩, ⟨4, .chain⟩], none⟩) rfl (fun K hK => ?_) AllReadyH.nil
    go_simp
    rw [wrap_u64n]
    refine (G2.out.put (u64n g) 31 (by decide) (u64n_lt _) (by decide)).mono ?_
    rintro e w4 ⟨F3, rfl, g3⟩
    have G3 := Lib.hid g3
    have K3 := Lib.hid (k012 (HXF.out _ _ _ _ _ _ g3))
    clear g3
    go_wp2_with fail
    refine hK.out _ _ (by first | with_reducible exact K4.out | with_reducible exact K3.out | with_reducible exact K2.out | with_reducible exact K1.out | with_reducible exact K0.out) (fun hHeld => ?_)
    clear hK K hHeld
    try simp only [Act.put, List.setIfInBounds_toArray, List.set_cons_zero, List.set_cons_succ]
    refine wpAnyH_ready (rs := [11]) (by kernel_rfl) (by simp) ?_
    refine AllReadyH.cons (o := ⟨some 23, .call { callee := Go.Callee.value (.func 19), args := #[Go.Operand.tmp 20, Go.Operand.tmp 22, Go.Operand.const (Go.Value.int Go.IntKind.i64 40)], argTypes := #[49, 22, 3] }, 49, "inode.go:37", #[⟨8, .data⟩, ⟨10, .data⟩, ⟨8, .chain⟩], none⟩) rfl (fun K hK => ?_) AllReadyH.nil
    go_simp
    refine (G3.out.put v 40 (by decide) HVV.out (by decide)).mono ?_
    rintro e w5 ⟨F4, rfl, g4⟩
    have G4 := Lib.hid g4
    have K4 := Lib.hid (k012 (HXF.out _ _ _ _ _ _ g4))
    clear g4
    go_wp2_with fail
    refine hK.out _ _ (by first | with_reducible exact K4.out | with_reducible exact K3.out | with_reducible exact K2.out | with_reducible exact K1.out | with_reducible exact K0.out) (fun hHeld => ?_)
    clear hK K hHeld
    try simp only [Act.put, List.setIfInBounds_toArray, List.set_cons_zero, List.set_cons_succ]
    refine wpAnyH_take (i := 12) (oi := ⟨some 4, .assign (.tmp 23), 49, "inode.go:37", #[⟨11, .data⟩, ⟨11, .chain⟩, ⟨0, .phase⟩, ⟨1, .phase⟩, ⟨2, .phase⟩, ⟨3, .phase⟩, ⟨4, .phase⟩, ⟨5, .phase⟩, ⟨6, .phase⟩, ⟨7, .phase⟩, ⟨8, .phase⟩, ⟨9, .phase⟩, ⟨10, .phase⟩, ⟨11, .phase⟩], none⟩) (v := ?_) rfl (by kernel_rfl) (by kernel_rfl) (by kernel_rfl) (fun _ _ _ h => h) (Or.inl ⟨by rfl, ?_⟩) (by first | with_reducible exact K4.out | with_reducible exact K3.out | with_reducible exact K2.out | with_reducible exact K1.out | with_reducible exact K0.out) ?_
    rotate_left
    · (intro w hSw; obtain ⟨s0, s1, s2⟩ := hSw; go_simp <;> with_reducible rfl)
    simp only [Act.put, List.setIfInBounds_toArray, List.set_cons_zero, List.set_cons_succ]
    refine wpAnyH_done (by kernel_rfl) ?_ _
    obtain ⟨s0, s1, s2, s3, s4, s5, s6, s7, s8, s9, s10⟩ := HXF.out _ _ _ _ _ _ G4.out
    have G0 := Lib.hid (show WP V F4 b (okJ ⟨k, g, v, a⟩ 0) (nJ ⟨k, g, v, a⟩ 0) (mJ 0) w5 from G4.out)
    clear K0 K1 K2 K3 K4 G1 G2 G3 G4
    go_wp2_with fail
    go_loopw [26] (EncL V b ⟨k, g, v, a⟩) (fun t _ => 8 - (intOf t).toNat)
    case atStart => exact ⟨0, F4, rfl, Nat.zero_le _, G0.out⟩
    case round =>
      obtain ⟨j, F, rfl, hj, hG⟩ := hrel
      have HG := Lib.hid hG
      clear hG
      by_cases hlt : j < 8
      · have hij := HI.out j hlt
        have HLT := Lib.hid hlt
        go_wp2_with (first
          | (go_at_call 19; rw [wrap_u64n]; refine (HG.out.put (u64n (a j)) 12 (by decide) (u64n_lt _) (by unfold mJ; have := HLT.out; omega)).mono ?_; rintro e w6 ⟨F6, rfl, g6⟩; have HG6 := Lib.hid g6; clear g6)
          | fail)
        exact ⟨⟨j + 1, F6, by simp, HLT.out, HG6.out⟩, by simp [intOf] <;> omega⟩
      · obtain rfl : j = 8 := by omega
        clear hj hlt
        by_cases hok : okJ ⟨k, g, v, a⟩ 8
        · have HOK := Lib.hid hok
          clear hok
          go_wp2_with (first
            | (go_at_call 20; refine (HG.out.done_ (by decide)).mono ?_; rintro e w6 ⟨A, m, c, F6, rfl, d6, a6⟩; rw [if_pos HOK.out]; obtain ⟨hm, s6⟩ := d6 HOK.out; obtain rfl : m = 22 := hm; obtain ⟨g0, cc, e0, _, _⟩ := s6.form (by decide); injection e0 with e1 e2 e3; subst e1; subst e3; have HS6 := Lib.hid s6; have HA6 := Lib.hid a6; have hown := s6.own; clear d6 s6 a6 e2)
            | (at_builtin; refine wpList_append_noughts rfl (.tmp 42) (.tmp 45) rfl (m := 106) rfl rfl hown (by decide) (by decide) ?c5)
            | fail)
          case c5 =>
            intro v' w7 hown7 hg7 hat7
            obtain ⟨s7, a7⟩ := grown_noughts HS6.out HA6.out hown7 hg7 hat7
            obtain ⟨A7, c7, rfl, _, _⟩ := s7.form0
            have s8 := sl_secI s7
            have HFIN := Lib.hid (EncR.yes ⟨HKI.out, HOK.out⟩ s8 (HA.out.trans a7))
            clear s7 a7 s8 hown hown7 hg7 hat7
            go_wp2_with fail
            exact bodyPost_ret (v := .tuple #[.slice A7 128 c7, .int .i64 0]) (by simp [results, Try.results6, go_sem]) rfl HFIN.out
        · have HOK := Lib.hid hok
          clear hok
          go_wp2_with (first
            | (go_at_call 20; refine (HG.out.done_ (by decide)).mono ?_; rintro e w6 ⟨A, m, c, F6, rfl, d6, a6⟩; rw [if_neg HOK.out]; have HA6 := Lib.hid a6; clear d6 a6)
            | fail)
          exact bodyPost_ret (v := .tuple #[.slice none 0 0, .int .i64 2]) (by simp [results, Try.results6, go_sem]) rfl (EncR.no (fun o => HOK.out o.2) (HA.out.trans (HA6.out.sub (fun _ h => h.elim))))
  · have HKI := Lib.hid (fun o : okI ⟨k, g, v, a⟩ => hk o.1)
    have HKD := Lib.hid (decide_eq_false hk)
    clear hk
    go_wp2_with (first
      | (go_at_call 17; refine (HK.out _).mono ?_; rintro e w1 ⟨rfl, a1⟩; rw [HKD.out]; have HA1 := Lib.hid a1; clear a1)
      | fail)
    exact bodyPost_ret (v := .tuple #[.slice none 0 0, .int .i64 2]) (by simp [results, Try.results6, go_sem]) rfl (EncR.no HKI.out (HA.out.trans HA1.out))
end Go.Proofs.Ytbdjlmdbnoghnaa
