/- The disk: lay. -/
import Derived.Test.YtlpdpbhnfhihjaaDk
namespace Go.Proofs.Ytlpdpbhnfhihjaa
open Go.RowKit

theorem step_copy_cells {P : Program} {w : World} {ops : Array Oper} {o : Oper} {a : Act} {K : Act → World → Prop} {Q : Exit → Act → World → Prop} {E : Prop} (hgd : o.guard = none) (d s : Operand) (dT sT : TypeId)
    (ho : o.op = .call { callee := .builtin .copy, args := #[d, s], argTypes := #[dT, sT] }) (elem : TypeId) (hu : P.underlying dT = some (.slice elem)) (hsz : (P.info? elem).map (·.size) = some 1)
    (b off dLen dCap sLen sCap : Nat) (ad : Addr) (hd : a.eval d = .slice (some ⟨b, off, none⟩) dLen dCap) (hs : a.eval s = .slice (some ad) sLen sCap)
    (cs : List Value) (hn : cs.length = Nat.min sLen dLen) (hsrc : ∀ j v, cs[j]? = some v → w.cell? (ad.add j) = some v) (ht : w.there b off cs.length) (h1 : ∀ v ∈ cs, v.oneCell' = true)
    (h : K (a.put o.dst (goInt cs.length)) (w.setCells b off cs)) :
    if Region.wanted o (yielded ops a.tmps) = true then Oper.wp P o a w K Q else E := by
  have hw : Region.wanted o (yielded ops a.tmps) = true := by simp [Region.wanted, hgd]
  rw [if_pos hw]
  have hrun := run_copy_cells (P := P) w dT sT o.type elem b off dLen dCap ad sLen sCap cs hu hsz hn hsrc (fun j hj => (ht j hj).1) (fun j hj => (ht j hj).2) h1
  unfold Oper.wp
  simp [execOp, ho, resolve, invoke, builtin, hd, hs, hrun, Result.andThen]
  exact h

theorem infoU8s : (Try.prog.info? 5).map (·.size) = some 1 := by kernel_rfl

set_option maxRecDepth 3000 in
set_option maxHeartbeats 1000000 in
theorem lay_r (d gl gr n : Nat) (vQ : Value) (F : Nat → Prop) (R : List (List Nat)) (s : DS) (q : Nat × List Nat) (m : Nat) (w : World) (h : DkR w F d gl gr vQ n R s) (hq : q.1 < n) (hl : q.2.length = 128) (hm : m ≤ 128) :
    Calls Try.prog 72 #[.pointer (some ⟨d, 0, none⟩), .agg (wcells q).toArray, .int .i64 (m : Int)] w fun e w' => e = .returned (.tuple #[]) ∧ DkR w' F d gl gr vQ n R { s with L := layN s.L q m } ∧ Adv F w F w' := by
  obtain ⟨W, hW⟩ : ∃ W, W = w.alloc (.cells (wcells q).toArray 72) := ⟨_, rfl⟩
  have hb0 : Blk W.drew w.heap.size 72 (wcells q).toArray := by rw [hW]; exact Blk.new _ _ _
  have hA : Adv F w F W.drew := by rw [hW]; exact ((Adv.refl F w).alloc _).drew
  have hR : DkR W.drew F d gl gr vQ n R s := h.keep (fun k hk => by rw [hW]; exact Below.heap_alloc _ _ _ (h.b.bd k hk)) hA.size
  have c0 := hR.c0
  have k0 : W.drew.cell? ⟨w.heap.size, 0, none⟩ = some (.int .i64 (q.1 : Int)) := hb0.cell 0
  have hsrc : ∀ j v, ((q.2.take m).map u8)[j]? = some v → W.drew.cell? ((⟨w.heap.size, 1, none⟩ : Addr).add j) = some v := by
    intro j v hv
    have hj : j < m := by
      have := (List.getElem?_eq_some_iff.1 hv).1
      simp at this; omega
    rw [add_none, hb0.cell, ← hv]
    simp only [wcells, List.getElem?_toArray]
    rw [show 1 + j = j + 1 by omega, List.getElem?_cons_succ, List.map_take, List.getElem?_take, if_pos hj]
  have ht : W.drew.there gl (q.1 * 128) ((q.2.take m).map u8).length := hR.b.lasts.there (by rw [hR.b.lenL]; exact hq) (by simp; omega)
  have hlen : ((q.2.take m).map u8).length = m := by simp; omega
  have hq0 : (0 : Int) ≤ (q.1 : Int) := by omega
  have hqn : (q.1 : Int) < (n : Int) := by omega
  have hm0 : (0 : Int) ≤ (m : Int) := by omega
  have hmn : (m : Int) ≤ 128 := by omega
  have hfin : DkR (W.drew.setCells gl (q.1 * 128) ((q.2.take m).map u8)) F d gl gr vQ n R { s with L := layN s.L q m } ∧ Adv F w F (W.drew.setCells gl (q.1 * 128) ((q.2.take m).map u8)) :=
    ⟨⟨hR.blk.keep (setCells_heap _ hR.b.gl_ne.symm _ _ _), hR.b.setL _ _ (by rw [layN_length, hR.b.lenL]) (hR.b.lasts.putN (by rw [hR.b.lenL]; exact hq) hl hm)⟩, Adv.setCells _ _ _ hA (.inl hR.b.inL)⟩
  have k1 : (W.drew.setCells gl (q.1 * 128) ((q.2.take m).map u8)).cell? ⟨w.heap.size, 0, none⟩ = some (.int .i64 (q.1 : Int)) :=
    (hb0.keep (setCells_heap _ (by have := h.b.bd gl h.b.inL; omega) _ _ _)).cell 0
  have c1 := hfin.1.c0
  have HS := Lib.hid hsrc
  have HT := Lib.hid ht
  have HL := Lib.hid hlen
  have HF := Lib.hid hfin
  obtain ⟨A, hAq⟩ : ∃ A, A = (wcells q).toArray := ⟨_, rfl⟩
  obtain ⟨X, hX⟩ : ∃ X, X = (q.2.take m).map u8 := ⟨_, rfl⟩
  have H1 : Hid (∀ v ∈ X, v.oneCell' = true) := by rw [hX]; exact u8_one _
  rw [← hX] at HS HT HL HF c1 k1
  obtain ⟨at_, hat⟩ : ∃ x, x = q.1 := ⟨_, rfl⟩
  rw [← hat] at HT HF k0 hq0 hqn k1 c1
  obtain ⟨z, hz⟩ : ∃ z, z = w.heap.size := ⟨_, rfl⟩
  rw [← hz] at HS k0 k1
  rw [← hAq] at hW ⊢
  have HW := Lib.hid hW
  have HZ := Lib.hid hz
  have C1 := Lib.hid c1
  have K1 := Lib.hid k1
  clear hb0 hA hR hsrc ht hlen hfin hX hAq h hW hz hat c1 k1
  go_enter Try.func72, Try.ntmps72
  go_wp2_with fail
  rw [← HW.out, ← HZ.out]
  refine wp_region_held_drew (S := (fun w' => w'.cell? ⟨d, 0, none⟩ = some (.slice (some ⟨gl, 0, none⟩) n n) ∧ w'.cell? ⟨z, 0, none⟩ = some (.int .i64 (at_ : Int)))) (by kernel_rfl) (by first | exact ⟨c0, k0⟩ | exact ⟨C1.out, K1.out⟩) (fun hHeld => ?_)
  clear hHeld
  refine wpAnyH_take (i := 0) (oi := ⟨some 6, .move (.tmp 0), 25, "disk.go:153", #[], none⟩) (v := ?_) rfl (by kernel_rfl) (by kernel_rfl) (by kernel_rfl) (fun _ _ _ h => h) (Or.inl ⟨by rfl, ?_⟩) (by first | exact ⟨c0, k0⟩ | exact ⟨C1.out, K1.out⟩) ?_
  rotate_left
  · (intro w hSw; obtain ⟨s0, s1⟩ := hSw; go_simp <;> with_reducible rfl)
  simp only [Act.put, List.setIfInBounds_toArray, List.set_cons_zero, List.set_cons_succ]
  refine wpAnyH_take (i := 1) (oi := ⟨some 7, .nilCheck (.tmp 6), 0, "disk.go:153", #[⟨0, .data⟩], none⟩) (v := ?_) rfl (by kernel_rfl) (by kernel_rfl) (by kernel_rfl) (fun _ _ _ h => h) (Or.inl ⟨by rfl, ?_⟩) (by first | exact ⟨c0, k0⟩ | exact ⟨C1.out, K1.out⟩) ?_
  rotate_left
  · (intro w hSw; obtain ⟨s0, s1⟩ := hSw; go_simp <;> with_reducible rfl)
  simp only [Act.put, List.setIfInBounds_toArray, List.set_cons_zero, List.set_cons_succ]
  refine wpAnyH_take (i := 2) (oi := ⟨some 8, .fieldAddr 49 (.tmp 7) 0, 0, "disk.go:153", #[⟨1, .data⟩], none⟩) (v := ?_) rfl (by kernel_rfl) (by kernel_rfl) (by kernel_rfl) (fun _ _ _ h => h) (Or.inl ⟨by rfl, ?_⟩) (by first | exact ⟨c0, k0⟩ | exact ⟨C1.out, K1.out⟩) ?_
  rotate_left
  · (intro w hSw; obtain ⟨s0, s1⟩ := hSw; go_simp <;> with_reducible rfl)
  simp only [Act.put, List.setIfInBounds_toArray, List.set_cons_zero, List.set_cons_succ]
  refine wpAnyH_take (i := 3) (oi := ⟨some 9, .load 46 (.tmp 8), 46, "disk.go:153", #[⟨2, .data⟩], none⟩) (v := ?_) rfl (by kernel_rfl) (by kernel_rfl) (by kernel_rfl) (fun _ _ _ h => h) (Or.inl ⟨by rfl, ?_⟩) (by first | exact ⟨c0, k0⟩ | exact ⟨C1.out, K1.out⟩) ?_
  rotate_left
  · (intro w hSw; obtain ⟨s0, s1⟩ := hSw; go_simp <;> with_reducible rfl)
  simp only [Act.put, List.setIfInBounds_toArray, List.set_cons_zero, List.set_cons_succ]
  refine wpAnyH_take (i := 4) (oi := ⟨some 10, .fieldAddr 72 (.tmp 4) 0, 0, "disk.go:153", #[], none⟩) (v := ?_) rfl (by kernel_rfl) (by kernel_rfl) (by kernel_rfl) (fun _ _ _ h => h) (Or.inl ⟨by rfl, ?_⟩) (by first | exact ⟨c0, k0⟩ | exact ⟨C1.out, K1.out⟩) ?_
  rotate_left
  · (intro w hSw; obtain ⟨s0, s1⟩ := hSw; go_simp <;> with_reducible rfl)
  simp only [Act.put, List.setIfInBounds_toArray, List.set_cons_zero, List.set_cons_succ]
  refine wpAnyH_take (i := 5) (oi := ⟨some 11, .load 3 (.tmp 10), 3, "disk.go:153", #[⟨4, .data⟩], none⟩) (v := ?_) rfl (by kernel_rfl) (by kernel_rfl) (by kernel_rfl) (fun _ _ _ h => h) (Or.inl ⟨by rfl, ?_⟩) (by first | exact ⟨c0, k0⟩ | exact ⟨C1.out, K1.out⟩) ?_
  rotate_left
  · (intro w hSw; obtain ⟨s0, s1⟩ := hSw; go_simp <;> with_reducible rfl)
  simp only [Act.put, List.setIfInBounds_toArray, List.set_cons_zero, List.set_cons_succ]
  refine wpAnyH_take (i := 6) (oi := ⟨some 12, .indexAddr 46 (.tmp 9) (.tmp 11), 0, "disk.go:153", #[⟨3, .data⟩, ⟨5, .data⟩], none⟩) (v := ?_) rfl (by kernel_rfl) (by kernel_rfl) (by kernel_rfl) (fun _ _ _ h => h) (Or.inl ⟨by rfl, ?_⟩) (by first | exact ⟨c0, k0⟩ | exact ⟨C1.out, K1.out⟩) ?_
  rotate_left
  · (intro w hSw; obtain ⟨s0, s1⟩ := hSw; go_simp <;> with_reducible rfl)
  simp only [Act.put, List.setIfInBounds_toArray, List.set_cons_zero, List.set_cons_succ]
  refine wpAnyH_take (i := 7) (oi := ⟨some 13, .move (.tmp 2), 3, "disk.go:153", #[], none⟩) (v := ?_) rfl (by kernel_rfl) (by kernel_rfl) (by kernel_rfl) (fun _ _ _ h => h) (Or.inl ⟨by rfl, ?_⟩) (by first | exact ⟨c0, k0⟩ | exact ⟨C1.out, K1.out⟩) ?_
  rotate_left
  · (intro w hSw; obtain ⟨s0, s1⟩ := hSw; go_simp <;> with_reducible rfl)
  simp only [Act.put, List.setIfInBounds_toArray, List.set_cons_zero, List.set_cons_succ]
  refine wpAnyH_take (i := 8) (oi := ⟨some 14, .slice 70 (.tmp 12) none (some (.tmp 13)) none, 33, "disk.go:153", #[⟨6, .data⟩, ⟨7, .data⟩], none⟩) (v := ?_) rfl (by kernel_rfl) (by kernel_rfl) (by kernel_rfl) (fun _ _ _ h => h) (Or.inl ⟨by rfl, ?_⟩) (by first | exact ⟨c0, k0⟩ | exact ⟨C1.out, K1.out⟩) ?_
  rotate_left
  · (intro w hSw; obtain ⟨s0, s1⟩ := hSw; go_simp <;> with_reducible rfl)
  simp only [Act.put, List.setIfInBounds_toArray, List.set_cons_zero, List.set_cons_succ]
  refine wpAnyH_take (i := 9) (oi := ⟨some 15, .fieldAddr 72 (.tmp 4) 1, 0, "disk.go:153", #[], none⟩) (v := ?_) rfl (by kernel_rfl) (by kernel_rfl) (by kernel_rfl) (fun _ _ _ h => h) (Or.inl ⟨by rfl, ?_⟩) (by first | exact ⟨c0, k0⟩ | exact ⟨C1.out, K1.out⟩) ?_
  rotate_left
  · (intro w hSw; obtain ⟨s0, s1⟩ := hSw; go_simp <;> with_reducible rfl)
  simp only [Act.put, List.setIfInBounds_toArray, List.set_cons_zero, List.set_cons_succ]
  refine wpAnyH_take (i := 10) (oi := ⟨some 16, .move (.tmp 2), 3, "disk.go:153", #[], none⟩) (v := ?_) rfl (by kernel_rfl) (by kernel_rfl) (by kernel_rfl) (fun _ _ _ h => h) (Or.inl ⟨by rfl, ?_⟩) (by first | exact ⟨c0, k0⟩ | exact ⟨C1.out, K1.out⟩) ?_
  rotate_left
  · (intro w hSw; obtain ⟨s0, s1⟩ := hSw; go_simp <;> with_reducible rfl)
  simp only [Act.put, List.setIfInBounds_toArray, List.set_cons_zero, List.set_cons_succ]
  refine wpAnyH_take (i := 11) (oi := ⟨some 17, .slice 70 (.tmp 15) none (some (.tmp 16)) none, 33, "disk.go:153", #[⟨9, .data⟩, ⟨10, .data⟩], none⟩) (v := ?_) rfl (by kernel_rfl) (by kernel_rfl) (by kernel_rfl) (fun _ _ _ h => h) (Or.inl ⟨by rfl, ?_⟩) (by first | exact ⟨c0, k0⟩ | exact ⟨C1.out, K1.out⟩) ?_
  rotate_left
  · (intro w hSw; obtain ⟨s0, s1⟩ := hSw; go_simp <;> with_reducible rfl)
  simp only [Act.put, List.setIfInBounds_toArray, List.set_cons_zero, List.set_cons_succ]
  refine wpAnyH_ready (rs := [12]) (by kernel_rfl) (by simp) ?_
  refine AllReadyH.cons (o := ⟨some 18, .call { callee := Go.Callee.builtin Go.Builtin.copy, args := #[Go.Operand.tmp 14, Go.Operand.tmp 17], argTypes := #[33, 33] }, 3, "disk.go:153", #[⟨8, .data⟩, ⟨11, .data⟩], none⟩) rfl (fun K hK => ?_) AllReadyH.nil
  refine step_copy_cells rfl (.tmp 14) (.tmp 17) 33 33 rfl 5 Try.underlying33 infoU8s gl (at_ * 128) m 128 m 128 ⟨z, 1, none⟩ rfl rfl X (by rw [HL.out]; exact (Nat.min_self m).symm) HS.out HT.out H1.out ?_
  refine hK.out _ _ (by first | exact ⟨c0, k0⟩ | exact ⟨C1.out, K1.out⟩) (fun hHeld => ?_)
  clear hK K hHeld
  try simp only [Act.put, List.setIfInBounds_toArray, List.set_cons_zero, List.set_cons_succ]
  refine wpAnyH_done (by kernel_rfl) ?_ _
  go_wp2
  go_end0
  exact ⟨rfl, HF.out⟩
end Go.Proofs.Ytlpdpbhnfhihjaa
