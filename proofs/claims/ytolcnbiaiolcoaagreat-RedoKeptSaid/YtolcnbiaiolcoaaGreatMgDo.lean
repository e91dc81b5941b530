/- The disk: lay. Operations on sectors and writes: many cells at once. The disk: New, Read, Write, Fuse. -/
import Derived.Test.YtolcnbiaiolcoaaGreatDk
import Derived.Deep.WholeRow
import Derived.Great.BuildSlice
import Derived.Great.FillDense
namespace Go.Proofs.YtolcnbiaiolcoaaGreat
open Go.RowKit

theorem step_copy_cells {P : Program} {w : World} {ops : Array Oper} {o : Oper} {a : Act} {K : Act → World → Prop} {Q : Exit → Act → World → Prop} {E : Prop} (hgd : o.guard = none) (d s : Operand) (dT sT : TypeId)
    (ho : o.op = .call { callee := .builtin .copy, args := #[d, s], argTypes := #[dT, sT] }) (elem : TypeId) (hu : P.underlying dT = some (.slice elem)) (hsz : (P.info? elem).map (·.size) = some 1)
    (b off dLen dCap sLen sCap : Nat) (ad : Addr) (hd : a.eval d = .slice (some ⟨b, off, none⟩) dLen dCap) (hs : a.eval s = .slice (some ad) sLen sCap)
    (cs : List Value) (hn : cs.length = Nat.min sLen dLen) (hsrc : ∀ j v, cs[j]? = some v → w.cell? (ad.add j) = some v) (ht : w.there b off cs.length) (h1 : ∀ v ∈ cs, v.oneCell' = true)
    (h : K (a.put o.dst (goInt cs.length)) (w.setCells b off cs)) :
    if Region.wanted o (yielded ops a.tmps) = true then Oper.wp P o a w K Q else E := by
  have hw : Region.wanted o (yielded ops a.tmps) = true := by simp [Region.wanted, hgd]
  rw [if_pos hw]
  have hrun := run_copy_cells (P := P) w dT sT o.type elem b off dLen dCap ad sLen sCap cs hu hsz hn hsrc (fun j hj => (ht j hj).1) (fun j hj => (ht j hj).2) h1
  unfold Oper.wp
  simp [execOp, ho, resolve, invoke, builtin, hd, hs, hrun, Result.andThen]
  exact h

theorem infoU8s : (Tryz.prog.info? 5).map (·.size) = some 1 := by kernel_rfl

set_option maxRecDepth 3000 in
set_option maxHeartbeats 1000000 in
theorem lay_r (d gl gr n : Nat) (vQ : Value) (F : Nat → Prop) (R : List (List Nat)) (s : DS) (q : Nat × List Nat) (m : Nat) (w : World) (h : DkR w F d gl gr vQ n R s) (hq : q.1 < n) (hl : q.2.length = 128) (hm : m ≤ 128) :
    Calls Tryz.prog 64 #[.pointer (some ⟨d, 0, none⟩), .agg (wcells q).toArray, .int .i64 (m : Int)] w fun e w' => e = .returned (.tuple #[]) ∧ DkR w' F d gl gr vQ n R { s with L := layN s.L q m } ∧ Adv F w F w' := by
  obtain ⟨W, hW⟩ : ∃ W, W = w.alloc (.cells (wcells q).toArray 114) := ⟨_, rfl⟩
  have hb0 : Blk W.drew w.heap.size 114 (wcells q).toArray := by rw [hW]; exact Blk.new _ _ _
  have hA : Adv F w F W.drew := by rw [hW]; exact ((Adv.refl F w).alloc _).drew
  have hR : DkR W.drew F d gl gr vQ n R s := h.keep (fun k hk => by rw [hW]; exact Below.heap_alloc _ _ _ (h.b.bd k hk)) hA.size
  have c0 := hR.c0
  have k0 : W.drew.cell? ⟨w.heap.size, 0, none⟩ = some (.int .i64 (q.1 : Int)) := hb0.cell 0
  have hsrc : ∀ j v, ((q.2.take m).map u8)[j]? = some v → W.drew.cell? ((⟨w.heap.size, 1, none⟩ : Addr).add j) = some v := by
    intro j v hv
    have hj : j < m := by
      have := (List.getElem?_eq_some_iff.1 hv).1
      simp at this; omega
    rw [add_none, hb0.cell, ← hv]
    simp only [wcells, List.getElem?_toArray]
    rw [show 1 + j = j + 1 by omega, List.getElem?_cons_succ, List.map_take, List.getElem?_take, if_pos hj]
  have ht : W.drew.there gl (q.1 * 128) ((q.2.take m).map u8).length := hR.b.lasts.there (by rw [hR.b.lenL]; exact hq) (by simp; omega)
  have hlen : ((q.2.take m).map u8).length = m := by simp; omega
  have hq0 : (0 : Int) ≤ (q.1 : Int) := by omega
  have hqn : (q.1 : Int) < (n : Int) := by omega
  have hm0 : (0 : Int) ≤ (m : Int) := by omega
  have hmn : (m : Int) ≤ 128 := by omega
  have hfin : DkR (W.drew.setCells gl (q.1 * 128) ((q.2.take m).map u8)) F d gl gr vQ n R { s with L := layN s.L q m } ∧ Adv F w F (W.drew.setCells gl (q.1 * 128) ((q.2.take m).map u8)) :=
    ⟨⟨hR.blk.keep (setCells_heap _ hR.b.gl_ne.symm _ _ _), hR.b.setL _ _ (by rw [layN_length, hR.b.lenL]) (hR.b.lasts.putN (by rw [hR.b.lenL]; exact hq) hl hm)⟩, Adv.setCells _ _ _ hA (.inl hR.b.inL)⟩
  have k1 : (W.drew.setCells gl (q.1 * 128) ((q.2.take m).map u8)).cell? ⟨w.heap.size, 0, none⟩ = some (.int .i64 (q.1 : Int)) :=
    (hb0.keep (setCells_heap _ (by have := h.b.bd gl h.b.inL; omega) _ _ _)).cell 0
  have c1 := hfin.1.c0
  have HS := Lib.hid hsrc
  have HT := Lib.hid ht
  have HL := Lib.hid hlen
  have HF := Lib.hid hfin
  obtain ⟨A, hAq⟩ : ∃ A, A = (wcells q).toArray := ⟨_, rfl⟩
  obtain ⟨X, hX⟩ : ∃ X, X = (q.2.take m).map u8 := ⟨_, rfl⟩
  have H1 : Hid (∀ v ∈ X, v.oneCell' = true) := by rw [hX]; exact u8_one _
  rw [← hX] at HS HT HL HF c1 k1
  obtain ⟨at_, hat⟩ : ∃ x, x = q.1 := ⟨_, rfl⟩
  rw [← hat] at HT HF k0 hq0 hqn k1 c1
  obtain ⟨z, hz⟩ : ∃ z, z = w.heap.size := ⟨_, rfl⟩
  rw [← hz] at HS k0 k1
  rw [← hAq] at hW ⊢
  have HW := Lib.hid hW
  have HZ := Lib.hid hz
  have C1 := Lib.hid c1
  have K1 := Lib.hid k1
  clear hb0 hA hR hsrc ht hlen hfin hX hAq h hW hz hat c1 k1
  go_enter Tryz.func64, Tryz.ntmps64
  go_wp2_with fail
  rw [← HW.out, ← HZ.out]
  refine wp_region_held_drew (S := (fun w' => w'.cell? ⟨d, 0, none⟩ = some (.slice (some ⟨gl, 0, none⟩) n n) ∧ w'.cell? ⟨z, 0, none⟩ = some (.int .i64 (at_ : Int)))) (by kernel_rfl) (by first | exact ⟨c0, k0⟩ | exact ⟨C1.out, K1.out⟩) (fun hHeld => ?_)
  clear hHeld
  refine wpAnyH_take (i := 0) (oi := ⟨some 6, .move (.tmp 0), 24, "disk.go:153", #[], none⟩) (v := ?_) rfl (by kernel_rfl) (by kernel_rfl) (by kernel_rfl) (fun _ _ _ h => h) (Or.inl ⟨by rfl, ?_⟩) (by first | exact ⟨c0, k0⟩ | exact ⟨C1.out, K1.out⟩) ?_
  rotate_left
  · (intro w hSw; obtain ⟨s0, s1⟩ := hSw; go_simp <;> with_reducible rfl)
  simp only [Act.put, List.setIfInBounds_toArray, List.set_cons_zero, List.set_cons_succ]
  refine wpAnyH_take (i := 1) (oi := ⟨some 7, .nilCheck (.tmp 6), 0, "disk.go:153", #[⟨0, .data⟩], none⟩) (v := ?_) rfl (by kernel_rfl) (by kernel_rfl) (by kernel_rfl) (fun _ _ _ h => h) (Or.inl ⟨by rfl, ?_⟩) (by first | exact ⟨c0, k0⟩ | exact ⟨C1.out, K1.out⟩) ?_
  rotate_left
  · (intro w hSw; obtain ⟨s0, s1⟩ := hSw; go_simp <;> with_reducible rfl)
  simp only [Act.put, List.setIfInBounds_toArray, List.set_cons_zero, List.set_cons_succ]
  refine wpAnyH_take (i := 2) (oi := ⟨some 8, .fieldAddr 67 (.tmp 7) 0, 0, "disk.go:153", #[⟨1, .data⟩], none⟩) (v := ?_) rfl (by kernel_rfl) (by kernel_rfl) (by kernel_rfl) (fun _ _ _ h => h) (Or.inl ⟨by rfl, ?_⟩) (by first | exact ⟨c0, k0⟩ | exact ⟨C1.out, K1.out⟩) ?_
  rotate_left
  · (intro w hSw; obtain ⟨s0, s1⟩ := hSw; go_simp <;> with_reducible rfl)
  simp only [Act.put, List.setIfInBounds_toArray, List.set_cons_zero, List.set_cons_succ]
  refine wpAnyH_take (i := 3) (oi := ⟨some 9, .load 64 (.tmp 8), 64, "disk.go:153", #[⟨2, .data⟩], none⟩) (v := ?_) rfl (by kernel_rfl) (by kernel_rfl) (by kernel_rfl) (fun _ _ _ h => h) (Or.inl ⟨by rfl, ?_⟩) (by first | exact ⟨c0, k0⟩ | exact ⟨C1.out, K1.out⟩) ?_
  rotate_left
  · (intro w hSw; obtain ⟨s0, s1⟩ := hSw; go_simp <;> with_reducible rfl)
  simp only [Act.put, List.setIfInBounds_toArray, List.set_cons_zero, List.set_cons_succ]
  refine wpAnyH_take (i := 4) (oi := ⟨some 10, .fieldAddr 114 (.tmp 4) 0, 0, "disk.go:153", #[], none⟩) (v := ?_) rfl (by kernel_rfl) (by kernel_rfl) (by kernel_rfl) (fun _ _ _ h => h) (Or.inl ⟨by rfl, ?_⟩) (by first | exact ⟨c0, k0⟩ | exact ⟨C1.out, K1.out⟩) ?_
  rotate_left
  · (intro w hSw; obtain ⟨s0, s1⟩ := hSw; go_simp <;> with_reducible rfl)
  simp only [Act.put, List.setIfInBounds_toArray, List.set_cons_zero, List.set_cons_succ]
  refine wpAnyH_take (i := 5) (oi := ⟨some 11, .load 3 (.tmp 10), 3, "disk.go:153", #[⟨4, .data⟩], none⟩) (v := ?_) rfl (by kernel_rfl) (by kernel_rfl) (by kernel_rfl) (fun _ _ _ h => h) (Or.inl ⟨by rfl, ?_⟩) (by first | exact ⟨c0, k0⟩ | exact ⟨C1.out, K1.out⟩) ?_
  rotate_left
  · (intro w hSw; obtain ⟨s0, s1⟩ := hSw; go_simp <;> with_reducible rfl)
  simp only [Act.put, List.setIfInBounds_toArray, List.set_cons_zero, List.set_cons_succ]
  refine wpAnyH_take (i := 6) (oi := ⟨some 12, .indexAddr 64 (.tmp 9) (.tmp 11), 0, "disk.go:153", #[⟨3, .data⟩, ⟨5, .data⟩], none⟩) (v := ?_) rfl (by kernel_rfl) (by kernel_rfl) (by kernel_rfl) (fun _ _ _ h => h) (Or.inl ⟨by rfl, ?_⟩) (by first | exact ⟨c0, k0⟩ | exact ⟨C1.out, K1.out⟩) ?_
  rotate_left
  · (intro w hSw; obtain ⟨s0, s1⟩ := hSw; go_simp <;> with_reducible rfl)
  simp only [Act.put, List.setIfInBounds_toArray, List.set_cons_zero, List.set_cons_succ]
  refine wpAnyH_take (i := 7) (oi := ⟨some 13, .move (.tmp 2), 3, "disk.go:153", #[], none⟩) (v := ?_) rfl (by kernel_rfl) (by kernel_rfl) (by kernel_rfl) (fun _ _ _ h => h) (Or.inl ⟨by rfl, ?_⟩) (by first | exact ⟨c0, k0⟩ | exact ⟨C1.out, K1.out⟩) ?_
  rotate_left
  · (intro w hSw; obtain ⟨s0, s1⟩ := hSw; go_simp <;> with_reducible rfl)
  simp only [Act.put, List.setIfInBounds_toArray, List.set_cons_zero, List.set_cons_succ]
  refine wpAnyH_take (i := 8) (oi := ⟨some 14, .slice 112 (.tmp 12) none (some (.tmp 13)) none, 53, "disk.go:153", #[⟨6, .data⟩, ⟨7, .data⟩], none⟩) (v := ?_) rfl (by kernel_rfl) (by kernel_rfl) (by kernel_rfl) (fun _ _ _ h => h) (Or.inl ⟨by rfl, ?_⟩) (by first | exact ⟨c0, k0⟩ | exact ⟨C1.out, K1.out⟩) ?_
  rotate_left
  · (intro w hSw; obtain ⟨s0, s1⟩ := hSw; go_simp <;> with_reducible rfl)
  simp only [Act.put, List.setIfInBounds_toArray, List.set_cons_zero, List.set_cons_succ]
  refine wpAnyH_take (i := 9) (oi := ⟨some 15, .fieldAddr 114 (.tmp 4) 1, 0, "disk.go:153", #[], none⟩) (v := ?_) rfl (by kernel_rfl) (by kernel_rfl) (by kernel_rfl) (fun _ _ _ h => h) (Or.inl ⟨by rfl, ?_⟩) (by first | exact ⟨c0, k0⟩ | exact ⟨C1.out, K1.out⟩) ?_
  rotate_left
  · (intro w hSw; obtain ⟨s0, s1⟩ := hSw; go_simp <;> with_reducible rfl)
  simp only [Act.put, List.setIfInBounds_toArray, List.set_cons_zero, List.set_cons_succ]
  refine wpAnyH_take (i := 10) (oi := ⟨some 16, .move (.tmp 2), 3, "disk.go:153", #[], none⟩) (v := ?_) rfl (by kernel_rfl) (by kernel_rfl) (by kernel_rfl) (fun _ _ _ h => h) (Or.inl ⟨by rfl, ?_⟩) (by first | exact ⟨c0, k0⟩ | exact ⟨C1.out, K1.out⟩) ?_
  rotate_left
  · (intro w hSw; obtain ⟨s0, s1⟩ := hSw; go_simp <;> with_reducible rfl)
  simp only [Act.put, List.setIfInBounds_toArray, List.set_cons_zero, List.set_cons_succ]
  refine wpAnyH_take (i := 11) (oi := ⟨some 17, .slice 112 (.tmp 15) none (some (.tmp 16)) none, 53, "disk.go:153", #[⟨9, .data⟩, ⟨10, .data⟩], none⟩) (v := ?_) rfl (by kernel_rfl) (by kernel_rfl) (by kernel_rfl) (fun _ _ _ h => h) (Or.inl ⟨by rfl, ?_⟩) (by first | exact ⟨c0, k0⟩ | exact ⟨C1.out, K1.out⟩) ?_
  rotate_left
  · (intro w hSw; obtain ⟨s0, s1⟩ := hSw; go_simp <;> with_reducible rfl)
  simp only [Act.put, List.setIfInBounds_toArray, List.set_cons_zero, List.set_cons_succ]
  refine wpAnyH_ready (rs := [12]) (by kernel_rfl) (by simp) ?_
  refine AllReadyH.cons (o := ⟨some 18, .call { callee := Go.Callee.builtin Go.Builtin.copy, args := #[Go.Operand.tmp 14, Go.Operand.tmp 17], argTypes := #[53, 53] }, 3, "disk.go:153", #[⟨8, .data⟩, ⟨11, .data⟩], none⟩) rfl (fun K hK => ?_) AllReadyH.nil
  refine step_copy_cells rfl (.tmp 14) (.tmp 17) 53 53 rfl 5 Tryz.underlying53 infoU8s gl (at_ * 128) m 128 m 128 ⟨z, 1, none⟩ rfl rfl X (by rw [HL.out]; exact (Nat.min_self m).symm) HS.out HT.out H1.out ?_
  refine hK.out _ _ (by first | exact ⟨c0, k0⟩ | exact ⟨C1.out, K1.out⟩) (fun hHeld => ?_)
  clear hK K hHeld
  try simp only [Act.put, List.setIfInBounds_toArray, List.set_cons_zero, List.set_cons_succ]
  refine wpAnyH_done (by kernel_rfl) ?_ _
  go_wp2
  go_end0
  exact ⟨rfl, HF.out⟩
end Go.Proofs.YtolcnbiaiolcoaaGreat
namespace Go.Proofs.YtolcnbiaiolcoaaGreat
open Go.RowKit

def zS : Array Value := (List.replicate 128 (u8 0)).toArray
def zW : Array Value := (.int .i64 0 :: List.replicate 128 (u8 0)).toArray
theorem zS_size : zS.size = 128 := by simp [zS]
theorem zW_size : zW.size = 129 := by simp [zW]
theorem infoSector : (Tryz.prog.info? 112).map (fun i => (i.zero, i.size, i.bytes)) = some (some (.agg zS), 128, 128) := by kernel_rfl
theorem infoWrite : (Tryz.prog.info? 114).map (fun i => (i.zero, i.size, i.bytes)) = some (some (.agg zW), 129, 136) := by kernel_rfl
theorem sizeSector : (Tryz.prog.info? 112).map (·.size) = some 128 := by kernel_rfl
theorem sizeWrite : (Tryz.prog.info? 114).map (·.size) = some 129 := by kernel_rfl

section
variable {ops : Array Oper} {rest : List Oper} {o : Oper} {a : Act} {w : World} {Q : Exit → Act → World → Prop}
theorem zero_run {t : TypeId} {C : Array Value} {s b : Nat} (h : (Tryz.prog.info? t).map (fun i => (i.zero, i.size, i.bytes)) = some (some (.agg C), s, b)) : (zeroValue t).run Tryz.prog w = .ok (.agg C) w := by
  obtain ⟨i, hi, hz, _⟩ := info_parts h
  simp [zeroValue, typeInfo, hi, hz]
theorem op_alloc {t : TypeId} {C : Array Value} {s b : Nat} (hgd : o.guard = none) (ho : o.op = .alloc t) (hz : (Tryz.prog.info? t).map (fun i => (i.zero, i.size, i.bytes)) = some (some (.agg C), s, b))
    (h : wpList Tryz.prog ops Q rest (a.put o.dst (.pointer (some ⟨w.heap.size, 0, none⟩))) (w.alloc (.cells C t))) : wpList Tryz.prog ops Q (o :: rest) a w := by
  refine wpList_plain hgd fun K hK => ?_
  unfold Oper.wp execOp
  simp [ho, Instr.alloc, zero_run hz, newVar, newRow, Value.cells, Result.andThen]
  exact hK _ _ h
theorem op_alloc_sector (hgd : o.guard = none) (ho : o.op = .alloc 112) (h : wpList Tryz.prog ops Q rest (a.put o.dst (.pointer (some ⟨w.heap.size, 0, none⟩))) (w.alloc (.cells zS 112))) : wpList Tryz.prog ops Q (o :: rest) a w :=
  op_alloc hgd ho infoSector h
theorem op_alloc_write (hgd : o.guard = none) (ho : o.op = .alloc 114) (h : wpList Tryz.prog ops Q rest (a.put o.dst (.pointer (some ⟨w.heap.size, 0, none⟩))) (w.alloc (.cells zW 114))) : wpList Tryz.prog ops Q (o :: rest) a w :=
  op_alloc hgd ho infoWrite h
theorem op_store_new {t : TypeId} {C D : Array Value} {s : Nat} (hgd : o.guard = none) (x y : Operand) (ho : o.op = .store t x y) (g : Nat) (hg : g = w.heap.size) (hx : a.eval x = .pointer (some ⟨g, 0, none⟩)) (hy : a.eval y = .agg D)
    (hs : (Tryz.prog.info? t).map (·.size) = some s) (hD : D.size = s) (hC : C.size = s) (h1 : D.all (·.oneCell') = true)
    (h : wpList Tryz.prog ops Q rest (a.put o.dst undef) (w.alloc (.cells D t))) : wpList Tryz.prog ops Q (o :: rest) a (w.alloc (.cells C t)) := by
  subst hg
  refine wpList_store_row hgd t x y ho w.heap.size D hx hy t C (Go.heap_alloc_new w _) (by rw [hs, hD]) (by rw [hC, hD]) h1 ?_
  rw [World.setRow_alloc_new]
  exact h
theorem one_u8 (l : List Nat) : ((l.map u8).toArray).all (·.oneCell') = true := all_oneCell_toArray (u8_one l)
theorem one_wcells (q : Nat × List Nat) : ((wcells q).toArray).all (·.oneCell') = true := all_oneCell_toArray (by
  intro v hv
  rcases List.mem_cons.1 hv with rfl | hv
  · rfl
  · exact u8_one _ v hv)
theorem op_store_sector (hgd : o.guard = none) (x y : Operand) (ho : o.op = .store 112 x y) (g : Nat) (hg : g = w.heap.size) (l : List Nat) (hl : l.length = 128) (hx : a.eval x = .pointer (some ⟨g, 0, none⟩)) (hy : a.eval y = .agg (l.map u8).toArray)
    (h : wpList Tryz.prog ops Q rest (a.put o.dst undef) (w.alloc (.cells (l.map u8).toArray 112))) : wpList Tryz.prog ops Q (o :: rest) a (w.alloc (.cells zS 112)) :=
  op_store_new hgd x y ho g hg hx hy sizeSector (by simpa using hl) zS_size (one_u8 l) h
theorem op_store_write (hgd : o.guard = none) (x y : Operand) (ho : o.op = .store 114 x y) (g : Nat) (hg : g = w.heap.size) (q : Nat × List Nat) (hl : q.2.length = 128) (hx : a.eval x = .pointer (some ⟨g, 0, none⟩)) (hy : a.eval y = .agg (wcells q).toArray)
    (h : wpList Tryz.prog ops Q rest (a.put o.dst undef) (w.alloc (.cells (wcells q).toArray 114))) : wpList Tryz.prog ops Q (o :: rest) a (w.alloc (.cells zW 114)) :=
  op_store_new hgd x y ho g hg hx hy sizeWrite (by simpa using wcells_length hl) zW_size (one_wcells q) h
theorem op_load_sector (hgd : o.guard = none) (x : Operand) (ho : o.op = .load 112 x) (b off : Nat) (l : List Nat) (hl : l.length = 128) (hc : w.rangeAt b off (l.map u8)) (hx : a.eval x = .pointer (some ⟨b, off, none⟩))
    (h : wpList Tryz.prog ops Q rest (a.put o.dst (.agg (l.map u8).toArray)) w) : wpList Tryz.prog ops Q (o :: rest) a w :=
  wpList_load_mid hgd 112 x ho b off hx (l.map u8) _ hc Tryz.underlying112 rfl (by rw [sizeSector, List.length_map, hl]) h
theorem op_load_write (hgd : o.guard = none) (x : Operand) (ho : o.op = .load 114 x) (b off : Nat) (q : Nat × List Nat) (hl : q.2.length = 128) (hc : w.rangeAt b off (wcells q)) (hx : a.eval x = .pointer (some ⟨b, off, none⟩))
    (h : wpList Tryz.prog ops Q rest (a.put o.dst (.agg (wcells q).toArray)) w) : wpList Tryz.prog ops Q (o :: rest) a w :=
  wpList_load_mid hgd 114 x ho b off hx (wcells q) _ hc Tryz.underlying114 rfl (by rw [sizeWrite, wcells_length hl]) h
theorem op_s2a (hgd : o.guard = none) (x : Operand) (ho : o.op = .sliceToArrayPointer 112 x) (A : Option Addr) (c : Nat) (hx : a.eval x = .slice A 128 c)
    (h : wpList Tryz.prog ops Q rest (a.put o.dst (.pointer A)) w) : wpList Tryz.prog ops Q (o :: rest) a w := by
  refine wpList_plain hgd fun K hK => ?_
  unfold Oper.wp execOp
  simp [ho, hx, Instr.arrayAt, run_underlying Tryz.underlying112, Result.andThen]
  exact hK _ _ h
set_option maxRecDepth 10000 in
theorem built_write (i : Nat) (l : List Nat) (hl : l.length = 128) : Tryz.prog.built 114 [(0, .int .i64 (i : Int)), (1, .agg (l.map u8).toArray)] = some (wcells (i, l)).toArray := by
  have h0 : Tryz.prog.built 114 [(0, .int .i64 (i : Int)), (1, .agg (l.map u8).toArray)] = Instr.fill ((#[(0, 1), (1, 128)] : Array (Nat × Nat))[·]?) zW [(0, .int .i64 (i : Int)), (1, .agg (l.map u8).toArray)] := by
    unfold Program.built
    have h1 : (Tryz.prog.info? 114).map (·.zero) = some (some (.agg zW)) := by kernel_rfl
    obtain ⟨it, hi, hz⟩ := Option.map_eq_some_iff.1 h1
    rw [hi, Tryz.underlying114]
    simp only [hz]
    rfl
  rw [h0]
  have e2 : (l.map u8).toArray.size = 128 := by simpa using hl
  have hzw := zW_size
  clear h0
  generalize zW = ZW at hzw ⊢
  have hZ1 : ∀ k, (ZW.setIfInBounds 0 (.int .i64 (i : Int)))[k]? = if k = 0 then some (.int .i64 (i : Int)) else ZW[k]? := fun k => by
    rw [Array.getElem?_setIfInBounds]
    by_cases hk : 0 = k
    · rw [if_pos hk, if_pos (by omega), if_pos hk.symm]
    · rw [if_neg hk, if_neg (fun h => hk h.symm)]
  have e4 : Instr.fill ((#[(0, 1), (1, 128)] : Array (Nat × Nat))[·]?) ZW [(0, .int .i64 (i : Int)), (1, .agg (l.map u8).toArray)] = some ((l.map u8).toArray.zipIdx.foldl (fun cs (x : Value × Nat) => cs.setIfInBounds (1 + x.2) x.1) (ZW.setIfInBounds 0 (.int .i64 (i : Int)))) := by
    simp [Instr.fill, Value.cells, hzw, hl]
  rw [e4]
  congr 1
  rw [← Array.foldl_toList, Array.toList_zipIdx]
  obtain ⟨h3, h4⟩ := Great.foldl_set 1 ((l.map u8).toArray).toList 0 (ZW.setIfInBounds 0 (.int .i64 (i : Int)))
  apply Array.ext_getElem?
  intro k
  rw [h4 k, hZ1 k, Array.size_setIfInBounds, hzw]
  simp only [List.length_map, hl, List.getElem?_toArray, wcells]
  rcases k with _ | k
  · rw [if_neg (by omega), if_pos rfl]; rfl
  · by_cases hk : k < 128
    · rw [if_pos (by omega), List.getElem?_cons_succ, show k + 1 - (1 + 0) = k by omega]
    · rw [if_neg (by omega), if_neg (by omega), List.getElem?_cons_succ, List.getElem?_eq_none (by simp; omega), Array.getElem?_eq_none (by rw [hzw]; omega)]
theorem op_build_write (hgd : o.guard = none) (x y : Operand) (ho : o.op = .build 114 #[(0, x), (1, y)]) (i : Nat) (l : List Nat) (hl : l.length = 128) (hx : a.eval x = .int .i64 (i : Int)) (hy : a.eval y = .agg (l.map u8).toArray)
    (h : wpList Tryz.prog ops Q rest (a.put o.dst (.agg (wcells (i, l)).toArray)) w) : wpList Tryz.prog ops Q (o :: rest) a w := by
  have e : ((#[(0, x), (1, y)] : Array (Nat × Operand)).map fun (i, x) => (i, a.eval x)).toList = [(0, .int .i64 (i : Int)), (1, .agg (l.map u8).toArray)] := by simp [hx, hy]
  refine wpList_build hgd 114 _ ho (by rw [e, built_write i l hl]; rfl) ?_
  rw [e, built_write i l hl]
  exact h
theorem run_buildSlice_write (q : Nat × List Nat) (hl : q.2.length = 128) : (Instr.buildSlice 65 1 #[(0, .agg (wcells q).toArray)]).run Tryz.prog w = .ok (.slice (some ⟨w.heap.size, 0, none⟩) 1 1) (w.alloc (.cells (wcells q).toArray 114)) := by
  obtain ⟨ie, hie, hz, hs, _⟩ := info_parts infoWrite
  refine run_buildSlice w 65 114 1 _ _ ie _ Tryz.underlying65 hie hz (by rw [hs]; decide) (by rw [hs]; decide) ?_
  rw [hs]
  have h := Great.fill_whole (s := 129) (by decide) [Value.agg (wcells q).toArray] ((Array.range (1 * 129)).map ((Value.agg zW).cells[· % (Value.agg zW).cells.size]!)) (fun v hv => by
    rw [List.mem_singleton] at hv
    subst hv
    simpa [Value.cells] using wcells_length hl) (by simp)
  simpa [Value.cells] using h
end
end Go.Proofs.YtolcnbiaiolcoaaGreat
namespace Go.Proofs.YtolcnbiaiolcoaaGreat
open Go.RowKit

theorem step_append_own {w : World} {ops : Array Oper} {o : Oper} {a : Act} {K : Act → World → Prop} {Q : Exit → Act → World → Prop} {E : Prop} (hgd : o.guard = none) (s x : Operand) (t e : TypeId)
    (ho : o.op = .call { callee := .builtin .append, args := #[s, x], argTypes := #[t, t] }) (ht : Tryz.prog.underlying t = some (.slice e)) {z : Value} {size bytes : Nat} (hi : (Tryz.prog.info? e).map (fun i => (i.zero, i.size, i.bytes)) = some (some z, size, bytes)) (hzs : z.cells.size = size) (hsz : 0 < size)
    {v : Value} {n : Nat} {xs : List Value} (hs : a.eval s = v) (hown : w.ownsRow 0 e size v n xs) (ad : Addr) (m c : Nat) (hx : a.eval x = .slice (some ad) m c) (news : List Value) (hl : news.length = m * size) (hnews : ∀ j u, news[j]? = some u → w.cell? (ad.add j) = some u) (h1 : ∀ u ∈ news, u.oneCell' = true)
    (h63 : n + m ≤ maxLen) (hb : (n + m) * bytes ≤ 140737488355328)
    (h : ∀ v' w', w'.ownsRow 0 e size v' (n + m) (xs ++ news) → w.grownBy w' v.ownBlock → (v'.ownBlock = v.ownBlock ∨ v'.ownBlock = some w.heap.size) → K (a.put o.dst v') w') :
    if Region.wanted o (yielded ops a.tmps) = true then Oper.wp Tryz.prog o a w K Q else E := by
  rw [if_pos (by simp [Region.wanted, hgd])]
  obtain ⟨i0, hi0, hz0, hz1, hz2⟩ := info_parts hi
  obtain ⟨v', w', hrun, h2, h3, _, h5⟩ := run_append_own_at (P := Tryz.prog) w 0 t o.type e i0 z size bytes ht hi0 hz0 hz1 hz2 hzs hsz v n xs hown ad m c news hl hnews h1 h63 hb (Nat.zero_le _)
  unfold Oper.wp execOp
  simp only [ho, resolve, invoke, builtin, Sem.run_bind, Sem.run_pure, Result.andThen_ok, List.map_toArray, List.map_cons, List.map_nil, hs, hx, hrun]
  exact h v' w' h2 h3 h5
theorem op_append_own {w : World} {ops : Array Oper} {rest : List Oper} {o : Oper} {a : Act} {Q : Exit → Act → World → Prop} (hgd : o.guard = none) (s x : Operand) (t e : TypeId)
    (ho : o.op = .call { callee := .builtin .append, args := #[s, x], argTypes := #[t, t] }) (ht : Tryz.prog.underlying t = some (.slice e)) {z : Value} {size bytes : Nat} (hi : (Tryz.prog.info? e).map (fun i => (i.zero, i.size, i.bytes)) = some (some z, size, bytes)) (hzs : z.cells.size = size) (hsz : 0 < size)
    {v : Value} {n : Nat} {xs : List Value} (hs : a.eval s = v) (hown : w.ownsRow 0 e size v n xs) (ad : Addr) (m c : Nat) (hx : a.eval x = .slice (some ad) m c) (news : List Value) (hl : news.length = m * size) (hnews : ∀ j u, news[j]? = some u → w.cell? (ad.add j) = some u) (h1 : ∀ u ∈ news, u.oneCell' = true)
    (h63 : n + m ≤ maxLen) (hb : (n + m) * bytes ≤ 140737488355328)
    (h : ∀ v' w', w'.ownsRow 0 e size v' (n + m) (xs ++ news) → w.grownBy w' v.ownBlock → (v'.ownBlock = v.ownBlock ∨ v'.ownBlock = some w.heap.size) → wpList Tryz.prog ops Q rest (a.put o.dst v') w') : wpList Tryz.prog ops Q (o :: rest) a w := by
  refine wpList_plain hgd fun K hK => ?_
  have h0 := step_append_own (ops := ops) (K := K) (Q := Q) (E := True) hgd s x t e ho ht hi hzs hsz hs hown ad m c hx news hl hnews h1 h63 hb (fun v' w' h1 h2 h3 => hK _ _ (h v' w' h1 h2 h3))
  rwa [if_pos (by simp [Region.wanted, hgd])] at h0

section
variable {ops : Array Oper} {o : Oper} {a : Act} {w : World} {Q : Exit → Act → World → Prop} {K : Act → World → Prop} {E : Prop}
theorem st_load_sector (hgd : o.guard = none) (x : Operand) (ho : o.op = .load 112 x) (b off : Nat) (l : List Nat) (hl : l.length = 128) (hc : w.rangeAt b off (l.map u8)) (hx : a.eval x = .pointer (some ⟨b, off, none⟩))
    (h : K (a.put o.dst (.agg (l.map u8).toArray)) w) : if Region.wanted o (yielded ops a.tmps) = true then Oper.wp Tryz.prog o a w K Q else E := by
  rw [if_pos (by simp [Region.wanted, hgd])]
  exact wp_load_mid 112 x ho b off hx (l.map u8) _ hc Tryz.underlying112 rfl (by rw [sizeSector, List.length_map, hl]) h
theorem st_load_write (hgd : o.guard = none) (x : Operand) (ho : o.op = .load 114 x) (b off : Nat) (q : Nat × List Nat) (hl : q.2.length = 128) (hc : w.rangeAt b off (wcells q)) (hx : a.eval x = .pointer (some ⟨b, off, none⟩))
    (h : K (a.put o.dst (.agg (wcells q).toArray)) w) : if Region.wanted o (yielded ops a.tmps) = true then Oper.wp Tryz.prog o a w K Q else E := by
  rw [if_pos (by simp [Region.wanted, hgd])]
  exact wp_load_mid 114 x ho b off hx (wcells q) _ hc Tryz.underlying114 rfl (by rw [sizeWrite, wcells_length hl]) h
theorem st_store_sector (hgd : o.guard = none) (x y : Operand) (ho : o.op = .store 112 x y) (b off : Nat) (l : List Nat) (hl : l.length = 128) (ht : w.there b off 128) (hx : a.eval x = .pointer (some ⟨b, off, none⟩)) (hy : a.eval y = .agg (l.map u8).toArray)
    (h : K (a.put o.dst undef) (w.setCells b off (l.map u8))) : if Region.wanted o (yielded ops a.tmps) = true then Oper.wp Tryz.prog o a w K Q else E := by
  rw [if_pos (by simp [Region.wanted, hgd])]
  exact wp_store_mid 112 x y ho b off _ hx hy (by simpa [hl] using ht) (by rw [sizeSector]; simp [hl]) (one_u8 l) (by simpa using h)
theorem st_buildSlice_write (hgd : o.guard = none) (x : Operand) (ho : o.op = .buildSlice 65 1 #[(0, x)]) (q : Nat × List Nat) (hl : q.2.length = 128) (hx : a.eval x = .agg (wcells q).toArray)
    (h : K (a.put o.dst (.slice (some ⟨w.heap.size, 0, none⟩) 1 1)) (w.alloc (.cells (wcells q).toArray 114))) : if Region.wanted o (yielded ops a.tmps) = true then Oper.wp Tryz.prog o a w K Q else E := by
  rw [if_pos (by simp [Region.wanted, hgd])]
  unfold Oper.wp execOp
  simp only [ho, List.map_toArray, List.map_cons, List.map_nil, hx, Sem.run_bind, run_buildSlice_write q hl, Result.andThen_ok]
  exact h
end

theorem made_sectors (n : Nat) (hn : n ≤ 4096) (w : World) : (Instr.makeSlice 64 (.int .i64 (n : Int)) (.int .i64 (n : Int))).run Tryz.prog w = .ok (.slice (some ⟨w.heap.size, 0, none⟩) n n) (w.alloc (.cells (madeCells zS (n * 128)) 112)) := by
  obtain ⟨ie, hie, hz, hs, hb⟩ := info_parts infoSector
  have h := run_make (P := Tryz.prog) w 64 112 ie _ Tryz.underlying64 hie hz .i64 .i64 n n (by omega) (Int.le_refl _) (by rw [hb]; omega) (by omega)
  simpa [hs, Value.cells] using h
theorem zS_at (k : Nat) (hk : k < 128) : zS[k]! = u8 0 := by
  have h : zS[k]? = some (u8 0) := by
    simp only [zS, List.getElem?_toArray, List.getElem?_replicate, if_pos hk]
  rw [getElem!_def, h]
theorem made_at (m k : Nat) (hk : k < m) : (madeCells zS m)[k]? = some (u8 0) := by
  have h1 : (Array.range m)[k]? = some k := by rw [Array.getElem?_eq_getElem (by simpa using hk)]; simp
  simp only [madeCells, Array.getElem?_map, h1, Option.map_some]
  rw [zS_size, zS_at _ (Nat.mod_lt _ (by decide))]
theorem made_rows {w : World} {g n : Nat} (h : Blk w g 112 (madeCells zS (n * 128))) : Rows w g 112 (List.replicate n (List.replicate 128 0)) := by
  refine ⟨⟨_, h, by rw [size_madeCells]; simp⟩, fun i r hr => ?_⟩
  have hi : i < n := by
    have := (List.getElem?_eq_some_iff.1 hr).1
    simpa using this
  rw [List.getElem?_replicate, if_pos hi] at hr
  injection hr with hr
  subst hr
  refine ⟨by simp, fun j v hv => ?_⟩
  rw [List.map_replicate, List.getElem?_replicate] at hv
  split at hv
  · injection hv with hv
    subst hv
    rw [h.cell]
    refine made_at _ _ ?_
    have : (i + 1) * 128 ≤ n * 128 := Nat.mul_le_mul_right _ hi
    rw [Nat.succ_mul] at this
    omega
  · cases hv

/-- New, where there may be so many -/
theorem new_dk (n : Nat) (hn : 1 ≤ n) (hn2 : n ≤ 4096) (w : World) (z gl gr : Nat) (hz : z = w.heap.size) (hg : (gl = z ∧ gr = z + 1) ∨ (gl = z + 1 ∧ gr = z)) :
    Dk (((w.alloc (.cells (madeCells zS (n * 128)) 112)).alloc (.cells (madeCells zS (n * 128)) 112)).alloc (.cells #[.slice (some ⟨gl, 0, none⟩) n n, .slice (some ⟨gr, 0, none⟩) n n, .slice none 0 0, .bool false, .bool false, .int .i64 0] 67))
      (fun k => z ≤ k ∧ k < z + 3) (z + 2) n (newS n) ∧
    Adv Nul w (fun k => z ≤ k ∧ k < z + 3) (((w.alloc (.cells (madeCells zS (n * 128)) 112)).alloc (.cells (madeCells zS (n * 128)) 112)).alloc (.cells #[.slice (some ⟨gl, 0, none⟩) n n, .slice (some ⟨gr, 0, none⟩) n n, .slice none 0 0, .bool false, .bool false, .int .i64 0] 67)) := by
  subst hz
  obtain ⟨C, hC⟩ : ∃ C, C = madeCells zS (n * 128) := ⟨_, rfl⟩
  have hb0 : Blk (w.alloc (.cells C 112)) w.heap.size 112 C := Blk.new _ _ _
  have hb1 : Blk ((w.alloc (.cells C 112)).alloc (.cells C 112)) (w.heap.size + 1) 112 C := by
    have := Blk.new (w.alloc (.cells C 112)) 112 C
    simpa using this
  have hb2 : ∀ D, Blk (((w.alloc (.cells C 112)).alloc (.cells C 112)).alloc (.cells D 67)) (w.heap.size + 2) 67 D := fun D => by
    have := Blk.new ((w.alloc (.cells C 112)).alloc (.cells C 112)) 67 D
    simpa using this
  rw [← hC]
  refine ⟨⟨newS_ok n, gl, gr, .slice none 0 0, hb2 _, hn, hn2, by simp [newS], by simp [newS, lays], fun q hq => by simp [newS] at hq, ?_, ?_, ?_, by omega, by omega, by omega, by omega, ⟨_, hb2 _⟩⟩, ?_⟩
  · have h0 := made_rows (hC ▸ (hb0.alloc (.cells C 112)).alloc (.cells #[.slice (some ⟨gl, 0, none⟩) n n, .slice (some ⟨gr, 0, none⟩) n n, .slice none 0 0, .bool false, .bool false, .int .i64 0] 67))
    have h1 := made_rows (hC ▸ hb1.alloc (.cells #[.slice (some ⟨gl, 0, none⟩) n n, .slice (some ⟨gr, 0, none⟩) n n, .slice none 0 0, .bool false, .bool false, .int .i64 0] 67))
    rw [← hC] at h0 h1
    rcases hg with ⟨rfl, rfl⟩ | ⟨rfl, rfl⟩
    · exact h0
    · exact h1
  · have h0 := made_rows (hC ▸ (hb0.alloc (.cells C 112)).alloc (.cells #[.slice (some ⟨gl, 0, none⟩) n n, .slice (some ⟨gr, 0, none⟩) n n, .slice none 0 0, .bool false, .bool false, .int .i64 0] 67))
    have h1 := made_rows (hC ▸ hb1.alloc (.cells #[.slice (some ⟨gl, 0, none⟩) n n, .slice (some ⟨gr, 0, none⟩) n n, .slice none 0 0, .bool false, .bool false, .int .i64 0] 67))
    rw [← hC] at h0 h1
    rcases hg with ⟨rfl, rfl⟩ | ⟨rfl, rfl⟩
    · exact h1
    · exact h0
  · exact Sl.nilF _ _ (fun k hk => by simp; omega) _ _
  · exact ⟨rfl, rfl, rfl, by simp; omega, fun k hk _ => by rw [Below.heap_alloc _ _ _ (by simp; omega), Below.heap_alloc _ _ _ (by simp; omega), Below.heap_alloc _ _ _ hk], fun k hk => .inr hk.1⟩

set_option maxRecDepth 3000 in
set_option maxHeartbeats 400000 in
theorem new_r (n : Nat) (hn : 1 ≤ n) (hn2 : n ≤ 4096) (w : World) :
    Calls Tryz.prog 6 #[.int .i64 (n : Int)] w fun e w' => ∃ d F, e = .returned (.tuple #[.pointer (some ⟨d, 0, none⟩), .int .i64 0]) ∧ Dk w' F d n (newS n) ∧ Adv Nul w F w' := by
  have h1 : (1 : Int) ≤ (n : Int) := by omega
  have h2 : (n : Int) ≤ 4096 := by omega
  obtain ⟨C, hC⟩ : ∃ C, C = madeCells zS (n * 128) := ⟨_, rfl⟩
  have hmk := made_sectors n hn2
  rw [← hC] at hmk
  have hfin : ∀ w : World, ∀ z gl gr : Nat, z = w.heap.size → ((gl = z ∧ gr = z + 1) ∨ (gl = z + 1 ∧ gr = z)) → _ := fun w z gl gr => new_dk n hn hn2 w z gl gr
  rw [← hC] at hfin
  have HF := Lib.hid hfin
  clear hfin hC
  go_enter Tryz.func6, Tryz.ntmps6
  go_wp2_with fail
  go_region
  · go_wp2
    go_ret2
    obtain ⟨k1, k2⟩ := HF.out w _ _ _ rfl (.inl ⟨rfl, rfl⟩)
    exact ⟨_, _, rfl, k1.drewN 1, k2.drew⟩
  · go_wp2
    go_ret2
    obtain ⟨k1, k2⟩ := HF.out w _ _ _ rfl (.inr ⟨rfl, rfl⟩)
    exact ⟨_, _, rfl, k1.drewN 1, k2.drew⟩

set_option maxRecDepth 3000 in
set_option maxHeartbeats 800000 in
theorem read_r (d gl gr n : Nat) (vQ : Value) (F : Nat → Prop) (R : List (List Nat)) (s : DS) (i : Nat) (w : World) (h : DkR w F d gl gr vQ n R s) (hi : i < n) :
    Calls Tryz.prog 24 #[.pointer (some ⟨d, 0, none⟩), .int .i64 (i : Int)] w fun e w' => ∃ z, e = .returned (.tuple #[.slice (some ⟨z, 0, none⟩) 128 128, .int .i64 0]) ∧ Blk w' z 112 ((R.getD i []).map u8).toArray ∧ (R.getD i []).length = 128 ∧ Adv Nul w (fun k => k = z) w' := by
  have c0 := h.c0
  have c1 := h.c1
  have hi0 : (0 : Int) ≤ (i : Int) := by omega
  have hin : (i : Int) < (n : Int) := by omega
  have hiR : i < R.length := by rw [h.b.lenR]; exact hi
  have hr := h.b.reads.at_ hiR
  have hl : (R.getD i []).length = 128 := by
    rw [List.getD_eq_getElem?_getD, List.getElem?_eq_getElem hiR]
    exact (h.b.reads.row i _ (List.getElem?_eq_getElem hiR)).1
  obtain ⟨r, hre⟩ : ∃ r, r = R.getD i [] := ⟨_, rfl⟩
  rw [← hre] at hr hl ⊢
  have HR := Lib.hid hr
  have HL := Lib.hid hl
  have hz : Blk (w.alloc (.cells (r.map u8).toArray 112)) w.heap.size 112 (r.map u8).toArray := Blk.new _ _ _
  have ha : Adv Nul w (fun k => k = w.heap.size) (w.alloc (.cells (r.map u8).toArray 112)) :=
    ⟨rfl, rfl, rfl, by simp, fun k hk _ => Below.heap_alloc _ _ _ hk, fun k hk => .inr (by omega)⟩
  have HZ := Lib.hid hz
  have HA := Lib.hid ha
  clear h hr hl hre hiR hz ha
  go_enter Tryz.func24, Tryz.ntmps24
  go_wp2_with (first
    | (go_at_call 63; refine (made_r _ _ _ _ c0).mono ?_; rintro e w1 ⟨rfl, rfl⟩)
    | (go_at_call 67; refine (has_r _ _ _ _ _ c0).mono ?_; rintro e w1 ⟨rfl, rfl⟩; rw [decide_eq_true (show 0 ≤ (i : Int) ∧ (i : Int) < (n : Int) from ⟨hi0, hin⟩)])
    | (refine op_load_sector rfl _ rfl gr (i * 128) r HL.out HR.out rfl ?_)
    | (refine op_alloc_sector rfl rfl ?_)
    | (refine op_store_sector rfl _ _ rfl _ rfl r HL.out rfl rfl ?_)
    | fail)
  go_ret2
  exact ⟨_, rfl, HZ.out, HL.out, HA.out⟩

set_option maxRecDepth 3000 in
theorem new_bad (n : Int) (hn : n < 1 ∨ 4096 < n) (w : World) :
    Calls Tryz.prog 6 #[.int .i64 n] w fun e w' => e = .returned (.tuple #[.pointer none, .int .i64 2]) ∧ w = w' := by
  rcases hn with h1 | h1
  · go_enter Tryz.func6, Tryz.ntmps6
    go_wp2_with fail
    go_ret2
    exact ⟨rfl, rfl⟩
  · have h2 : (1 : Int) ≤ n := by omega
    go_enter Tryz.func6, Tryz.ntmps6
    go_wp2_with fail
    go_ret2
    exact ⟨rfl, rfl⟩

set_option maxRecDepth 3000 in
theorem read_bad (d gl n : Nat) (i : Int) (w : World) (c0 : w.cell? ⟨d, 0, none⟩ = some (.slice (some ⟨gl, 0, none⟩) n n)) (hi : ¬ (0 ≤ i ∧ i < (n : Int))) :
    Calls Tryz.prog 24 #[.pointer (some ⟨d, 0, none⟩), .int .i64 i] w fun e w' => e = .returned (.tuple #[.slice none 0 0, .int .i64 2]) ∧ w = w' := by
  have HI := Lib.hid hi
  clear hi
  go_enter Tryz.func24, Tryz.ntmps24
  go_wp2_with (first
    | (go_at_call 63; refine (made_r _ _ _ _ c0).mono ?_; rintro e w1 ⟨rfl, rfl⟩)
    | (go_at_call 67; refine (has_r _ _ _ _ _ c0).mono ?_; rintro e w1 ⟨rfl, rfl⟩; rw [decide_eq_false HI.out])
    | fail)
  go_ret2
  exact ⟨rfl, rfl⟩

set_option maxRecDepth 3000 in
theorem fuse_r (d n : Nat) (F : Nat → Prop) (s : DS) (k : Int) (w : World) (h : Dk w F d n s) (hk : k < 9223372036854775808) :
    Calls Tryz.prog 17 #[.pointer (some ⟨d, 0, none⟩), .int .i64 k] w fun e w' => e = .returned (.int .i64 (fuseS s k).2) ∧ Dk w' F d n (fuseS s k).1 ∧ Adv F w F w' := by
  obtain ⟨ho, gl, gr, vQ, h⟩ := h
  have c0 := h.c0
  have c3 := h.c3
  have ho' := fuseS_ok ho k hk
  have c4 := h.c4
  have c5 := h.c5
  have f4 := h.blk.frozen 4
  have f5 : (w.setCell ⟨d, 4, none⟩ (.bool true)).frozen? ⟨d, 5, none⟩ = false := (h.blk.set_ 4 _).frozen 5
  have H := Lib.hid h
  have HO := Lib.hid ho
  have HO' := Lib.hid ho'
  clear h ho ho'
  unfold fuseS at HO' ⊢
  by_cases h1 : k < 0
  · simp only [if_pos h1]
    go_enter Tryz.func17, Tryz.ntmps17
    go_wp2_with (first
      | (go_at_call 63; refine (made_r _ _ _ _ c0).mono ?_; rintro e w1 ⟨rfl, rfl⟩)
      | fail)
    go_ret
    exact ⟨rfl, ⟨HO.out, gl, gr, vQ, H.out⟩, Adv.refl _ _⟩
  · simp only [if_neg h1] at HO' ⊢
    cases hd : s.dead with
    | true =>
      rw [hd] at c3
      simp only [if_true]
      have HD := Lib.hid hd
      clear hd HO'
      go_enter Tryz.func17, Tryz.ntmps17
      go_wp2_with (first
        | (go_at_call 63; refine (made_r _ _ _ _ c0).mono ?_; rintro e w1 ⟨rfl, rfl⟩)
        | fail)
      go_ret
      exact ⟨rfl, ⟨HO.out, gl, gr, vQ, H.out⟩, Adv.refl _ _⟩
    | false =>
      rw [hd] at c3 HO'
      simp only [Bool.false_eq_true, if_false] at HO' ⊢
      have HD := Lib.hid hd
      have hk0 : (0 : Int) ≤ k := by omega
      clear hd
      go_enter Tryz.func17, Tryz.ntmps17
      go_wp2_with (first
        | (go_at_call 63; refine (made_r _ _ _ _ c0).mono ?_; rintro e w1 ⟨rfl, rfl⟩)
        | fail)
      go_ret
      refine ⟨rfl, ⟨HO'.out, gl, gr, vQ, ?_, (H.out.b.set_ 4 _).set_ 5 _⟩, ((Adv.refl F w).setCell (.inl H.out.b.inD) _).setCell (.inl H.out.b.inD) _⟩
      have hb := (H.out.blk.set_ 4 (.bool true)).set_ 5 (.int .i64 k)
      rw [show k = ((k.toNat : Nat) : Int) by omega] at hb ⊢
      simpa [dhead, HD.out] using hb
end Go.Proofs.YtolcnbiaiolcoaaGreat
