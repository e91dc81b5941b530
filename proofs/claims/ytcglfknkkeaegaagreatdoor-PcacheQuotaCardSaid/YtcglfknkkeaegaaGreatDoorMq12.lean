/- Checkpoint: the program's. What a write comes to where a full ring is brought home ahead. The greatest epoch; a list of pieces that grows. pieces: the ring's pieces from the next count on. -/
import Derived.Test.YtcglfknkkeaegaaGreatDoorMq11
namespace Go.Proofs.YtcglfknkkeaegaaGreatDoor
open Go.RowKit Go.Maps

theorem few_put (n : Nat) : ∀ (T : List (Nat × List Nat)) (s : DS), (putHomes s n T).1.Q.length ≤ s.Q.length + T.length
  | [], s => by simp [putHomes]
  | q :: qs, s => by
    unfold putHomes
    have h1 := few_write s ((2 + n + q.1 : Nat) : Int) q.2
    have h2 := few_put n qs (writeS s ((2 + n + q.1 : Nat) : Int) q.2).1
    split
    · simp only [List.length_cons]; omega
    · simp only [List.length_cons]; omega
theorem few_bring (s : DS) (n M : Nat) (A : Nat → Option (List Nat)) : (bringS s n M A).1.Q.length ≤ s.Q.length + M := by
  have h1 := few_flush s
  have h2 := few_put n (awayL A M) (flushS s).1
  have h3 : (awayL A M).length ≤ M := by unfold awayL; rw [List.length_map]; exact keysL_len A M
  have h4 := few_flush (putHomes (flushS s).1 n (awayL A M)).1
  unfold bringS
  split
  · split <;> omega
  · omega
theorem op_clear {ops : Array Oper} {rest : List Oper} {o : Oper} {a : Act} {w : World} {Q : Exit → Act → World → Prop} (hgd : o.guard = none) (m : Operand) (ho : o.op = Op.call { callee := Callee.builtin Builtin.clear, args := #[m], argTypes := #[143] }) (b N : Nat) (A : Nat → Option (List Nat)) (hM : Mp w b N A) (hm : a.eval m = .map (some b))
    (hK : ∀ w', Mp w' b N (fun _ => none) → w.grownBy w' (some b) → wpList Tryz.prog ops Q rest (a.put o.dst (.tuple #[])) w') : wpList Tryz.prog ops Q (o :: rest) a w := by
  obtain ⟨D, ⟨es, clock, hb, hF⟩, d⟩ := hM
  refine wpList_plain hgd fun K' hK' => ?_
  have hrun : (Builtin.clear_ #[143] o.type #[.map (some b)]).run Tryz.prog w = .ok (.tuple #[]) (ChangeMaps.setBlock w b (.map #[] clock)) := by
    simp [Builtin.clear_, run_underlying Tryz.underlying143, MapKept.run_getObj_map hb, MapKept.run_setObj_map _ hb, Result.andThen, ChangeMaps.setBlock]
  unfold Oper.wp
  simp [execOp, ho, resolve, invoke, builtin, hm, hrun, Result.andThen]
  refine hK' _ _ (hK _ ⟨.map [], ?_, MpD.empty N⟩ ⟨rfl, rfl, rfl, by simp [ChangeMaps.setBlock], fun i _ hi => ChangeMaps.heap_setBlock_other hb _ (fun e => hi (by rw [e]))⟩)
  rw [cnt_none]
  exact ⟨#[], clock, ChangeMaps.heap_setBlock_same hb _, ⟨by simp, MapKept.stamped_empty clock, by simp⟩, Nat.le_refl _, rfl⟩

def hNew (g : LS) : Hd := ⟨g.h.g + 1, g.next, g.ep⟩
def checkG (s : DS) (n N : Nat) (g : LS) : (DS × LS) × Int :=
  if g.err = 0 then
    if (bringS s n (N - 2 - n) g.A).2 = 0 then
      if (saveG (bringS s n (N - 2 - n) g.A).1 N g.ep (hNew g)).2 = 0 then (((saveG (bringS s n (N - 2 - n) g.A).1 N g.ep (hNew g)).1, { g with h := hNew g, A := fun _ => none }), 0)
      else (((saveG (bringS s n (N - 2 - n) g.A).1 N g.ep (hNew g)).1, { g with err := (saveG (bringS s n (N - 2 - n) g.A).1 N g.ep (hNew g)).2 }), (saveG (bringS s n (N - 2 - n) g.A).1 N g.ep (hNew g)).2)
    else (((bringS s n (N - 2 - n) g.A).1, { g with err := (bringS s n (N - 2 - n) g.A).2 }), (bringS s n (N - 2 - n) g.A).2)
  else ((s, g), g.err)
def CkC (w : World) (l g t f : Nat) : Prop := w.cell? ⟨l, 2, none⟩ = some (.int .u64 (g : Int)) ∧ w.cell? ⟨l, 5, none⟩ = some (.int .u64 (t : Int)) ∧ w.cell? ⟨l, 6, none⟩ = some (.int .u64 (f : Int))
theorem Lg.ckc {w : World} {l b d n N : Nat} {g : LS} (h : Lg w l b d n N g) : CkC w l g.h.g g.next g.ep := ⟨h.cells.2.2.1, h.cells.2.2.2.2.2.1, h.cells.2.2.2.2.2.2.1⟩
theorem Lg.there2 {w : World} {l b d n N : Nat} {g : LS} (h : Lg w l b d n N g) : w.there l 2 3 := fun j hj => by
  obtain ⟨-, -, c2, c3, c4, -⟩ := h.cells
  match j, hj with
  | 0, _ => exact ⟨by rw [show 2 + 0 = 2 from rfl, c2]; rfl, h.blk.frozen 2⟩
  | 1, _ => exact ⟨by rw [show 2 + 1 = 3 from rfl, c3]; rfl, h.blk.frozen 3⟩
  | 2, _ => exact ⟨by rw [show 2 + 2 = 4 from rfl, c4]; rfl, h.blk.frozen 4⟩
theorem Lg.setHead {w : World} {l b d n N : Nat} {g : LS} (h : Lg w l b d n N g) (x : Hd) : Lg (w.setCells l 2 (h3 (x.g : Int) (x.t : Int) (x.f : Int)).toList) l b d n N { g with h := x } :=
  ⟨show Blk (((w.setCell ⟨l, 2, none⟩ (.int .u64 (x.g : Int))).setCell ⟨l, 3, none⟩ (.int .u64 (x.t : Int))).setCell ⟨l, 4, none⟩ (.int .u64 (x.f : Int))) l 145 _ from ((h.blk.set_ 2 _).set_ 3 _).set_ 4 _,
   h.mp.keep (setCells_heap l (fun e => h.ne e.symm) _ 2 w)⟩
theorem Lg.cleared {w w' : World} {l b d n N : Nat} {g : LS} (h : Lg w l b d n N g) (hm : Mp w' b (N - 2 - n) (fun _ => none)) (hg : w.grownBy w' (some b)) : Lg w' l b d n N { g with A := fun _ => none } :=
  ⟨h.blk.keep (hg.block l h.blk.lt (fun e => h.ne (by injection e))), hm⟩
theorem adv_grown {w w' : World} {l b : Nat} (hg : w.grownBy w' (some b)) : Adv (LF l b) w (LF l b) w' :=
  ⟨hg.os, hg.tape, hg.output, hg.size, fun k hk hn => hg.block k hk (fun e => hn (.inr (by injection e))), fun _ hk => .inl hk⟩

set_option maxRecDepth 3000 in
set_option maxHeartbeats 6400000 in
theorem gcheck_lg (l b d n N : Nat) (g : LS) (F : Nat → Prop) (s : DS) (w : World) (h : Rs w F d l b n N s g) (hn : 2 ≤ n ∧ n + 3 ≤ N ∧ N ≤ 4096) (hA : AOk (N - 2 - n) g.A) (hq : s.Q.length ≤ 800000) (hgg : g.h.g ≤ 1099511627776) (hnx : g.next < 18446744073709551616) (hep : g.ep < 18446744073709551616) :
    Calls Tryz.prog 101 #[.pointer (some ⟨l, 0, none⟩)] w (WrR w F d l b n N (checkG s n N g)) := by
  obtain ⟨R, hR⟩ : ∃ R, R = checkG s n N g := ⟨_, rfl⟩
  rw [← hR]
  have HR := Lib.hid hR
  have HS := Lib.hid h
  have HST := Lib.hid (gstays_lg h.lg)
  obtain ⟨E, hE⟩ : ∃ E, E = g.err := ⟨_, rfl⟩
  rw [← hE] at HST
  have HE := Lib.hid hE
  have HBR := Lib.hid (gbring_lg l b d n N g F s w h hn hA (by omega))
  obtain ⟨X, hX⟩ : ∃ x, x = bringS s n (N - 2 - n) g.A := ⟨_, rfl⟩
  have HXQ := Lib.hid (show X.1.Q.length ≤ 900000 by rw [hX]; exact Nat.le_trans (few_bring s n _ _) (by omega))
  rw [← hX] at HBR
  have HX := Lib.hid hX
  obtain ⟨XE, hXE⟩ : ∃ x, x = X.2 := ⟨_, rfl⟩
  rw [show BrR w F d l b n N g X = fun e w' => e = .returned (.int .i64 XE) ∧ ∃ F', Rs w' F' d l b n N X.1 g ∧ Adv (UF F l b) w (UF F' l b) w' by rw [hXE]; rfl] at HBR
  have HXE := Lib.hid hXE
  obtain ⟨gg, hgg'⟩ : ∃ x, x = g.h.g := ⟨_, rfl⟩
  obtain ⟨nx, hnx'⟩ : ∃ x, x = g.next := ⟨_, rfl⟩
  obtain ⟨ep, hep'⟩ : ∃ x, x = g.ep := ⟨_, rfl⟩
  obtain ⟨gN, hgN⟩ : ∃ x, x = gg + 1 := ⟨_, rfl⟩
  have hNE : hNew g = ⟨gN, nx, ep⟩ := by rw [hgN, hgg', hnx', hep']; rfl
  have HNE := Lib.hid hNE
  rw [← hgg'] at hgg
  rw [← hnx'] at hnx
  rw [← hep'] at hep
  have HGG := Lib.hid hgg
  have HNX := Lib.hid hnx
  have HEP := Lib.hid hep
  have HN := Lib.hid hn
  have HCK := Lib.hid (show ∀ (w' : World) (F' : Nat → Prop) (s' : DS), Rs w' F' d l b n N s' g → CkC w' l gg nx ep from fun _ _ _ h => by rw [hgg', hnx', hep']; exact h.lg.ckc)
  have HEQ := Lib.hid (show ep = g.ep from hep')
  have hwr : IntKind.u64.wrap ((gg : Int) + 1) = (gN : Int) := by
    rw [show (gg : Int) + 1 = (gN : Int) by omega]
    exact wrapU (by omega)
  have HGN := Lib.hid (show gN < 18446744073709551616 by omega)
  clear h hn hA hq hgg hnx hep hR hE hX hXE hgg' hnx' hep' hNE hgN
  by_cases h0 : E = 0
  · subst h0
    go_enter Tryz.func101, Tryz.ntmps101
    go_wp2_with fail
    refine HST.out.mono ?_
    rintro x w1 ⟨rfl, rfl⟩
    go_wp2_with fail
    refine HBR.out.mono ?_
    rintro x w1 ⟨rfl, F1, r1, a1⟩
    have HS1 := Lib.hid r1
    have HA1 := Lib.hid a1
    clear r1 a1
    by_cases hz : XE = 0
    · subst hz
      have HC0 := Lib.hid (HCK.out _ _ _ HS1.out)
      have HC1 := Lib.hid (show CkC w1.drew l gg nx ep from HC0.out)
      obtain ⟨z, hz⟩ : ∃ z, z = w1.heap.size := ⟨_, rfl⟩
      have HZ := Lib.hid hz
      obtain ⟨c2, c5, c6⟩ := HC0.out
      clear hz
      go_wp2_with fail
      refine rstart (S := (fun w' => CkC w' l gg nx ep)) (by first | with_reducible exact HC3.out | with_reducible exact HC2.out | with_reducible exact HC1.out | with_reducible exact HC0.out) (fun hH => ?_)
      refine tk (i := 0) (oi := ⟨some 19, .move (.tmp 0), 72, "redo.go:122", #[], none⟩) hH.out (by rintro w ⟨s0, s1, s2⟩; go_simp <;> with_reducible rfl) ?_
      simp only [Act.put, sA, sB, sC]
      refine tk (i := 1) (oi := ⟨some 20, .nilCheck (.tmp 19), 0, "redo.go:122", #[⟨0, .data⟩], none⟩) hH.out (by rintro w ⟨s0, s1, s2⟩; go_simp <;> with_reducible rfl) ?_
      simp only [Act.put, sA, sB, sC]
      refine tk (i := 2) (oi := ⟨some 21, .fieldAddr 145 (.tmp 20) 2, 0, "redo.go:122", #[⟨1, .data⟩], none⟩) hH.out (by rintro w ⟨s0, s1, s2⟩; go_simp <;> with_reducible rfl) ?_
      simp only [Act.put, sA, sB, sC]
      refine tk (i := 3) (oi := ⟨some 22, .fieldAddr 140 (.tmp 21) 0, 0, "redo.go:122", #[⟨2, .data⟩], none⟩) hH.out (by rintro w ⟨s0, s1, s2⟩; go_simp <;> with_reducible rfl) ?_
      simp only [Act.put, sA, sB, sC]
      refine tk (i := 4) (oi := ⟨some 23, .load 38 (.tmp 22), 38, "redo.go:122", #[⟨3, .data⟩], none⟩) hH.out (by rintro w ⟨s0, s1, s2⟩; go_simp <;> with_reducible rfl) ?_
      simp only [Act.put, sA, sB, sC]
      refine tk (i := 5) (oi := ⟨some 24, .binOp .add 38 (.tmp 23) (.const (Go.Value.int Go.IntKind.u64 1)) 38, 38, "redo.go:122", #[⟨4, .data⟩], none⟩) hH.out (by rintro w ⟨s0, s1, s2⟩; go_simp <;> with_reducible rfl) ?_
      simp only [Act.put, sA, sB, sC]
      refine tk (i := 6) (oi := ⟨some 25, .move (.tmp 0), 72, "redo.go:122", #[], none⟩) hH.out (by rintro w ⟨s0, s1, s2⟩; go_simp <;> with_reducible rfl) ?_
      simp only [Act.put, sA, sB, sC]
      refine tk (i := 7) (oi := ⟨some 26, .nilCheck (.tmp 25), 0, "redo.go:122", #[⟨6, .data⟩], none⟩) hH.out (by rintro w ⟨s0, s1, s2⟩; go_simp <;> with_reducible rfl) ?_
      simp only [Act.put, sA, sB, sC]
      refine tk (i := 8) (oi := ⟨some 27, .fieldAddr 145 (.tmp 26) 3, 0, "redo.go:122", #[⟨7, .data⟩], none⟩) hH.out (by rintro w ⟨s0, s1, s2⟩; go_simp <;> with_reducible rfl) ?_
      simp only [Act.put, sA, sB, sC]
      refine tk (i := 9) (oi := ⟨some 28, .load 38 (.tmp 27), 38, "redo.go:122", #[⟨8, .data⟩], none⟩) hH.out (by rintro w ⟨s0, s1, s2⟩; go_simp <;> with_reducible rfl) ?_
      simp only [Act.put, sA, sB, sC]
      refine tk (i := 10) (oi := ⟨some 29, .move (.tmp 0), 72, "redo.go:122", #[], none⟩) hH.out (by rintro w ⟨s0, s1, s2⟩; go_simp <;> with_reducible rfl) ?_
      simp only [Act.put, sA, sB, sC]
      refine tk (i := 11) (oi := ⟨some 30, .nilCheck (.tmp 29), 0, "redo.go:122", #[⟨10, .data⟩], none⟩) hH.out (by rintro w ⟨s0, s1, s2⟩; go_simp <;> with_reducible rfl) ?_
      simp only [Act.put, sA, sB, sC]
      refine tk (i := 12) (oi := ⟨some 31, .fieldAddr 145 (.tmp 30) 4, 0, "redo.go:122", #[⟨11, .data⟩], none⟩) hH.out (by rintro w ⟨s0, s1, s2⟩; go_simp <;> with_reducible rfl) ?_
      simp only [Act.put, sA, sB, sC]
      refine tk (i := 13) (oi := ⟨some 32, .load 38 (.tmp 31), 38, "redo.go:122", #[⟨12, .data⟩], none⟩) hH.out (by rintro w ⟨s0, s1, s2⟩; go_simp <;> with_reducible rfl) ?_
      simp only [Act.put, sA, sB, sC]
      refine tk (i := 14) (oi := ⟨some 33, .build 140 #[(0, .tmp 24), (1, .tmp 28), (2, .tmp 32)], 140, "redo.go:122", #[⟨5, .data⟩, ⟨9, .data⟩, ⟨13, .data⟩], none⟩) hH.out (by rintro w ⟨s0, s1, s2⟩; go_simp <;> with_reducible rfl) ?_
      simp only [Act.put, sA, sB, sC]
      refine rdy (i := 15) (oi := ⟨some 5, .alloc 140, 0, "redo.go:122", #[], none⟩) (fun K hK => ?_)
      go_simp
      have HB0 := Lib.hid (Blk.drew (Blk.new w1 140 #[.int .u64 0, .int .u64 0, .int .u64 0]))
      have HAV0 := Lib.hid (((Adv.refl Nul w1).alloc (.cells #[.int .u64 0, .int .u64 0, .int .u64 0] 140)).drew)
      have HC2 := Lib.hid (HCK.out _ _ _ (HS1.out.over HAV0.out))
      refine hK.out _ _ (by first | with_reducible exact HC3.out | with_reducible exact HC2.out | with_reducible exact HC1.out | with_reducible exact HC0.out) (fun hHeld => ?_)
      replace hH := Lib.hid hHeld
      clear hK K hHeld
      try simp only [Act.put, sA, sB, sC]
      refine rdy (i := 16) (oi := ⟨none, .store 140 (.tmp 5) (.tmp 33), 0, "redo.go:122", #[⟨15, .data⟩, ⟨14, .data⟩, ⟨0, .phase⟩, ⟨1, .phase⟩, ⟨2, .phase⟩, ⟨3, .phase⟩, ⟨4, .phase⟩, ⟨5, .phase⟩, ⟨6, .phase⟩, ⟨7, .phase⟩, ⟨8, .phase⟩, ⟨9, .phase⟩, ⟨10, .phase⟩, ⟨11, .phase⟩, ⟨12, .phase⟩, ⟨13, .phase⟩, ⟨14, .phase⟩, ⟨15, .phase⟩], none⟩) (fun K hK => ?_)
      refine st_store3 sizeHead rfl (.tmp 5) (.tmp 33) rfl _ _ (h3 (gN : Int) (nx : Int) (ep : Int)) HB0.out rfl rfl (h3_one _ _ _) rfl rfl ?_
      have HBV := Lib.hid (HB0.out.putAll (D := h3 (gN : Int) (nx : Int) (ep : Int)) rfl)
      have HAV := Lib.hid (Adv.lsetCells (h3 (gN : Int) (nx : Int) (ep : Int)).toList 0 _ HAV0.out (.inr (Nat.le_refl w1.heap.size)))
      have HC3 := Lib.hid (HCK.out _ _ _ (HS1.out.over HAV.out))
      refine hK.out _ _ (by first | with_reducible exact HC3.out | with_reducible exact HC2.out | with_reducible exact HC1.out | with_reducible exact HC0.out) (fun hHeld => ?_)
      replace hH := Lib.hid hHeld
      clear hK K hHeld
      try simp only [Act.put]
      refine wpAnyH_done (by kernel_rfl) ?_ _
      obtain ⟨V, hV⟩ : ∃ V, V = ((w1.alloc (.cells #[.int .u64 0, .int .u64 0, .int .u64 0] 140)).drew.setCells w1.heap.size 0 (h3 (gN : Int) (nx : Int) (ep : Int)).toList) := ⟨_, rfl⟩
      rw [← hV] at HBV HAV ⊢
      rw [← HZ.out] at HBV ⊢
      have HS2 := Lib.hid (HS1.out.over HAV.out)
      obtain ⟨Y, hY⟩ : ∃ x, x = saveG X.1 N ep ⟨gN, nx, ep⟩ := ⟨_, rfl⟩
      obtain ⟨YE, hYE⟩ : ∃ x, x = Y.2 := ⟨_, rfl⟩
      have HSAVE := Lib.hid (show Calls Tryz.prog 136 #[.pointer (some ⟨l, 0, none⟩), .agg #[.int .u64 (gN : Int), .int .u64 (nx : Int), .int .u64 (ep : Int)]] V fun e w' => e = .returned (.int .i64 YE) ∧ ∃ F', Rs w' F' d l b n N Y.1 g ∧ Adv (UF F1 l b) V (UF F' l b) w' by
        have h := gsave_lg l b d n N g F1 X.1 ⟨gN, nx, ep⟩ V HS2.out HXQ.out (by have := HN.out; omega) HGN.out HNX.out HEP.out
        rw [← HEQ.out, ← hY] at h
        rw [hYE]
        exact h)
      have HY := Lib.hid (show saveG X.1 N g.ep (hNew g) = Y by rw [HNE.out, ← HEQ.out, hY])
      have HYE := Lib.hid hYE
      have HZF := Lib.hid (show ¬ UF F1 l b z from fun hz => by have := HS1.out.bd z hz; rw [HZ.out] at this; omega)
      obtain ⟨z0, z1, z2⟩ := (show Blk V z 140 #[.int .u64 (gN : Int), .int .u64 (nx : Int), .int .u64 (ep : Int)] from HBV.out).three
      clear hV hY hYE c2 c5 c6
      go_wp2_with fail
      refine HSAVE.out.mono ?_
      rintro x w2 ⟨rfl, F2, r2, a2⟩
      have HS3 := Lib.hid r2
      have HA3 := Lib.hid (HA1.out.trans ((adv_nul (F := F1) (l := l) (b := b) HAV.out).trans a2))
      obtain ⟨y0, y1, y2⟩ := (show Blk w2 z 140 #[.int .u64 (gN : Int), .int .u64 (nx : Int), .int .u64 (ep : Int)] from (show Blk V z 140 #[.int .u64 (gN : Int), .int .u64 (nx : Int), .int .u64 (ep : Int)] from HBV.out).keep (a2.block z HBV.out.lt HZF.out)).three
      clear r2 a2 z0 z1 z2
      by_cases hz : YE = 0
      · subst hz
        obtain ⟨W3, hW3⟩ : ∃ W, W = w2.setCells l 2 (h3 (gN : Int) (nx : Int) (ep : Int)).toList := ⟨_, rfl⟩
        have HW3 := Lib.hid hW3
        have HL3 := Lib.hid (show Lg W3 l b d n N { g with h := ⟨gN, nx, ep⟩ } by rw [hW3]; exact HS3.out.lg.setHead ⟨gN, nx, ep⟩)
        have HA4 := Lib.hid (show Adv (LF l b) w2 (LF l b) W3 by rw [hW3]; exact Adv.lsetCells _ 2 _ (Adv.refl _ w2) (.inl (.inl rfl)))
        have HTH := Lib.hid HS3.out.lg.there2
        have HMP := Lib.hid (show Mp W3 b (N - 2 - n) g.A from HL3.out.mp)
        have c7 := HL3.out.cells.2.2.2.2.2.2.2.1
        clear hW3
        go_wp2_with (first
          | (refine wpList_store_mid rfl 140 (.tmp 45) (.tmp 43) rfl l 2 (h3 (gN : Int) (nx : Int) (ep : Int)) rfl rfl HTH.out sizeHead (h3_one _ _ _) ?_; rw [← HW3.out])
          | (refine op_clear rfl (.tmp 49) rfl b (N - 2 - n) g.A HMP.out rfl (fun w4 hm4 hg4 => ?_))
          | fail)
        go_ret
        have hl4 := HL3.out.cleared hm4 hg4
        have ha4 := HA4.out.trans (adv_grown (l := l) hg4)
        rw [HR.out]
        unfold checkG
        rw [if_pos HE.out.symm, ← HX.out, if_pos HXE.out.symm, HY.out, if_pos HYE.out.symm, HNE.out]
        exact ⟨rfl, F2, HS3.out.log ha4 hl4, HA3.out.trans (adv_log ha4)⟩
      · have hb : ((YE : Int) != 0) = true := by rw [bne_iff_ne]; exact hz
        have hb2 : ((YE : Int) == 0) = false := by rw [beq_eq_false_iff_ne]; exact hz
        have HKP := Lib.hid (gkeep_lg YE HS3.out.lg)
        have HNZ := Lib.hid hz
        clear hz
        go_wp2_with fail
        refine HKP.out.mono ?_
        rintro x w3 ⟨rfl, l3, a3⟩
        have HF := Lib.hid (show WrR w F d l b n N R (.returned (.int .i64 YE)) w3 by
          rw [HR.out]
          unfold checkG
          rw [if_pos HE.out.symm, ← HX.out, if_pos HXE.out.symm, HY.out, if_neg (by rw [← HYE.out]; exact HNZ.out), ← HYE.out]
          exact ⟨rfl, F2, HS3.out.log a3 l3, HA3.out.trans (adv_log a3)⟩)
        clear l3 a3
        go_wp2_with fail
        go_ret
        exact HF.out
    · have hb : ((XE : Int) != 0) = true := by rw [bne_iff_ne]; exact hz
      have hb2 : ((XE : Int) == 0) = false := by rw [beq_eq_false_iff_ne]; exact hz
      have HKP := Lib.hid (gkeep_lg XE HS1.out.lg)
      have HNZ := Lib.hid hz
      clear hz
      go_wp2_with fail
      refine HKP.out.mono ?_
      rintro x w3 ⟨rfl, l3, a3⟩
      have HF := Lib.hid (show WrR w F d l b n N R (.returned (.int .i64 XE)) w3 by
        rw [HR.out]
        unfold checkG
        rw [if_pos HE.out.symm, ← HX.out, if_neg (by rw [← HXE.out]; exact HNZ.out), ← HXE.out]
        exact ⟨rfl, F1, HS1.out.log a3 l3, HA1.out.trans (adv_log a3)⟩)
      clear l3 a3
      go_wp2_with fail
      go_ret
      exact HF.out
  · have hb : ((E : Int) != 0) = true := by rw [bne_iff_ne]; exact h0
    have hb2 : ((E : Int) == 0) = false := by rw [beq_eq_false_iff_ne]; exact h0
    have HF := Lib.hid (show WrR w F d l b n N R (.returned (.int .i64 E)) w by
      rw [HR.out]
      unfold checkG
      rw [if_neg (by rw [← HE.out]; exact h0), ← HE.out]
      exact ⟨rfl, F, HS.out, Adv.refl _ _⟩)
    clear h0
    go_enter Tryz.func101, Tryz.ntmps101
    go_wp2_with fail
    refine HST.out.mono ?_
    rintro x w1 ⟨rfl, rfl⟩
    go_wp2_with fail
    go_ret
    exact HF.out
end Go.Proofs.YtcglfknkkeaegaaGreatDoor
namespace Go.Proofs.YtcglfknkkeaegaaGreatDoor
open Go.RowKit Go.Maps
/-- puts written as one; where the ring is full all is brought home ahead -/
def wrtG (s : DS) (n N : Nat) (g : LS) (ps : List Pt) : (DS × LS) × Int :=
  if ps.length = 0 then ((s, g), 0) else
    if (writeG s n N g ps).2 = 8 then
      if (checkG s n N g).2 = 0 then writeG (checkG s n N g).1.1 n N (checkG s n N g).1.2 ps else checkG s n N g
    else writeG s n N g ps
set_option maxRecDepth 3000 in
theorem writeS_2 (s : DS) (i : Int) (l : List Nat) : (writeS s i l).2 ≠ 8 := by
  unfold writeS
  (repeat' split) <;> simp
set_option maxRecDepth 3000 in
theorem layAll_8 : ∀ (P : List Pc) (s : DS) (n : Nat), (layAll s n P).2 ≠ 8
  | [], s, n => by simp [layAll]
  | p :: ps, s, n => by
    unfold layAll
    split
    · exact layAll_8 ps _ n
    · exact writeS_2 _ _ _
set_option maxRecDepth 3000 in
theorem writeG_8 {s : DS} {n N : Nat} {g : LS} {ps : List Pt} (h : (writeG s n N g ps).2 = 8) : (writeG s n N g ps).1 = (s, g) := by
  unfold writeG at h ⊢
  split at h
  · rename_i h1
    rw [if_pos h1]
    split at h
    · rename_i h2
      rw [if_pos h2]
      split at h
      · rename_i h3
        rw [if_pos h3]
        split at h
        · cases h
        · exact absurd h (layAll_8 _ _ _)
      · rename_i h3
        rw [if_neg h3]
    · rename_i h2
      rw [if_neg h2]
  · rename_i h1
    rw [if_neg h1]
structure WOk (n N : Nat) (s : DS) (g : LS) : Prop where
  ok : GOk n N s g
  q : s.Q.length ≤ 800000
  hg : g.h.g ≤ 1099511627776
  A : AOk (N - 2 - n) g.A
  ok2 : (checkG s n N g).2 = 0 → GOk n N (checkG s n N g).1.1 (checkG s n N g).1.2
end Go.Proofs.YtcglfknkkeaegaaGreatDoor
namespace Go.Proofs.YtcglfknkkeaegaaGreatDoor
open Go.RowKit Go.Maps

def endX (l : List Nat) : Nat := val (l.take 3)
def endY (l : List Nat) : Nat := val ((l.drop 120).take 3)
theorem ends_at (v : Value) (l : List Nat) (w : World) (h : Rd w 1 v 128 (l.map u8)) (hl : ∀ x ∈ l, x < 256) :
    Calls Tryz.prog 106 #[v] w fun x w' => x = .returned (.tuple #[.int .u64 (endX l : Int), .int .u64 (endY l : Int)]) ∧ ∃ k, w' = w.drewN k := by
  have hll := h.len8
  have e1 : val (l.take 8) / 1099511627776 = endX l := by
    rw [endX, val3 (by rw [List.length_take]; omega) (fun x hx => hl x (List.mem_of_mem_take hx)), List.take_take]; rfl
  have e2 : val (l.drop 120) / 1099511627776 = endY l := by
    rw [endY, val3 (by rw [List.length_drop]; omega) (fun x hx => hl x (List.mem_of_mem_drop hx))]
  have h1 := ends_any v l w h hl
  rw [e1, e2] at h1
  exact h1
def topE (s : DS) : Nat → Nat
  | 0 => 0
  | k + 1 => max (max (topE s k) (endX (isS s k))) (endY (isS s k))
theorem end_lt {l : List Nat} (h : ∀ x ∈ l, x < 256) : endX l < 16777216 ∧ endY l < 16777216 := by
  have hv : ∀ m : List Nat, (∀ x ∈ m, x < 256) → m.length ≤ 3 → val m < 16777216 := fun m hm hl => by
    have h1 := val_lt _ m rfl hm
    have h2 : (256 : Nat) ^ m.length ≤ 256 ^ 3 := Nat.pow_le_pow_right (by decide) hl
    have h3 : (256 : Nat) ^ 3 = 16777216 := rfl
    omega
  unfold endX endY
  exact ⟨hv _ (fun x hx => h x (List.mem_of_mem_take hx)) (by rw [List.length_take]; omega), hv _ (fun x hx => h x (List.mem_of_mem_drop (List.mem_of_mem_take hx))) (by rw [List.length_take]; omega)⟩
theorem topE_lt {s : DS} {N : Nat} (h : SB s N) : ∀ k, k ≤ N → topE s k < 16777216
  | 0, _ => by unfold topE; decide
  | k + 1, hk => by
    have h1 := topE_lt h k (by omega)
    have h2 := end_lt (h k (by omega))
    unfold topE
    omega
def TpL (w : World) (s : DS) (m : Nat) (t12 t5 : Value) (wr : World) : Prop := ∃ k : Nat, k ≤ m ∧ t12 = .int .i64 (k : Int) ∧ t5 = .int .u64 (topE s k : Int) ∧ Adv Nul w Nul wr

set_option maxRecDepth 3000 in
set_option maxHeartbeats 3200000 in
theorem gtop_dk (d N m : Nat) (F : Nat → Prop) (s : DS) (w : World) (h : Dk w F d N s) (hsb : SB s N) (hm : m ≤ N) (hN : N ≤ 4096) :
    Calls Tryz.prog 74 #[.pointer (some ⟨d, 0, none⟩), .int .i64 (m : Int)] w fun e w' => e = .returned (.int .u64 (topE s m : Int)) ∧ Adv Nul w Nul w' := by
  have HD := Lib.hid h
  have HSB := Lib.hid hsb
  have hmI : (m : Int) ≤ 4096 := by omega
  have HM := Lib.hid hm
  clear h hsb hm hN
  go_enter Tryz.func74, Tryz.ntmps74
  go_wp2_with fail
  go_loopw [12, 5] (TpL w s m) (fun t _ _ => m - (intOf t).toNat)
  case atStart => exact ⟨0, Nat.zero_le _, rfl, rfl, Adv.refl _ _⟩
  case round =>
    obtain ⟨k, hk, rfl, rfl, ha⟩ := hrel
    have HA := Lib.hid ha
    by_cases hlt : k < m
    · have hki : (k : Int) < (m : Int) := by omega
      have HRD := Lib.hid (read_dk d N F s k wr (HD.out.far ha (fun _ x _ => x)) (by have := HM.out; omega))
      have HL8 := Lib.hid (HSB.out k (by have := HM.out; omega))
      have HLT := Lib.hid hlt
      have HNX := Lib.hid (show topE s (k + 1) = max (max (topE s k) (endX (isS s k))) (endY (isS s k)) from rfl)
      obtain ⟨l, hl⟩ : ∃ l, l = isS s k := ⟨_, rfl⟩
      rw [← hl] at HRD HL8 HNX
      obtain ⟨T, hT⟩ : ∃ T, T = topE s k := ⟨_, rfl⟩
      rw [← hT] at HNX ⊢
      clear ha hlt hk hl hT
      go_wp2_with fail
      refine HRD.out.mono ?_
      rintro x w1 ⟨z, rfl, b1, l1, a1⟩
      have HEN := Lib.hid (ends_at (.slice (some ⟨z, 0, none⟩) 128 128) l w1 (b1.rdS8 l1) HL8.out)
      have HA1 := Lib.hid (HA.out.trans (a1.sub (G := Nul) (fun _ x => x.elim)))
      obtain ⟨X, hX⟩ : ∃ X, X = endX l := ⟨_, rfl⟩
      obtain ⟨Y, hY⟩ : ∃ Y, Y = endY l := ⟨_, rfl⟩
      rw [← hX, ← hY] at HEN HNX
      clear b1 l1 a1 hX hY
      go_wp2_with fail
      refine HEN.out.mono ?_
      rintro x w2 ⟨rfl, k2, rfl⟩
      have HA2 := Lib.hid (HA1.out.drewN k2)
      go_wp2_with fail
      have hlt := HLT.out
      refine ⟨⟨k + 1, by omega, by go_num, ?_, HA2.out⟩, by simp [intOf] <;> omega⟩
      rw [HNX.out]
      congr 1
      by_cases h1 : T < X
      · rw [if_pos h1]
        split <;> omega
      · rw [if_neg h1]
        split <;> omega
    · obtain rfl : k = m := by omega
      clear ha hlt hk
      go_wp2_with fail
      go_ret
      exact ⟨rfl, HA.out⟩

/-- pieces in a slice of one's own, T the type of its elements -/
structure PW (T : TypeId) (W : World) (P : Nat → Pc) (k : Nat) (vo : Value) (F : Nat → Prop) (qs : List (Pc × Value)) (w : World) : Prop where
  len : qs.length = k
  sl : Sl w F T 5 vo k (qs.flatMap rcells)
  at_ : ∀ i (h : i < qs.length), qs[i].1 = P i ∧ ∃ a q, qs[i].2 = .slice a (P i).d.length q ∧ Rd w 1 (.slice a (P i).d.length q) (P i).d.length ((P i).d.map u8) ∧ ∀ g, (Value.slice a (P i).d.length q).ownBlock = some g → 0 < (P i).d.length → ¬ F g
  adv : Adv Nul W F w
section
variable {T : TypeId} {W w w' : World} {P : Nat → Pc} {k : Nat} {vo : Value}
theorem PW.nil (T : TypeId) (W : World) (P : Nat → Pc) : PW T W P 0 (.slice none 0 0) Nul [] W := ⟨rfl, Sl.nil _ _ _, fun i h => absurd h (by simp), Adv.refl _ _⟩
theorem PW.step {F F' : Nat → Prop} {qs : List (Pc × Value)} (h : PW T W P k vo F qs w) (ha : Adv Nul w F' w') : PW T W P k vo F qs w' :=
  ⟨h.len, h.sl.far ha (fun _ h _ => h), fun i hi => by
    obtain ⟨e, a, q, e2, hr, hn⟩ := h.at_ i hi
    exact ⟨e, a, q, e2, hr.far (fun _ _ _ hl => ha.block _ hl (fun x => x)) ha.size, hn⟩, h.adv.over ha⟩
theorem PW.push {F : Nat → Prop} {qs : List (Pc × Value)} {vo' : Value} {a : Option Addr} {q : Nat} (h : PW T W P k vo F qs w) (hr : Rd w 1 (.slice a (P k).d.length q) (P k).d.length ((P k).d.map u8)) (hnF : ∀ g, (Value.slice a (P k).d.length q).ownBlock = some g → 0 < (P k).d.length → ¬ F g)
    (hown : w'.ownsRow 0 T 5 vo' (k + 1) (qs.flatMap rcells ++ rcells (P k, .slice a (P k).d.length q))) (hg : w.grownBy w' vo.ownBlock) (hat : vo'.ownBlock = vo.ownBlock ∨ vo'.ownBlock = some w.heap.size) : ∃ F' qs', PW T W P (k + 1) vo' F' qs' w' := by
  obtain ⟨g1, g2⟩ := lsl_grown h.sl hown hg hat (Nat.le_refl _)
  have hF' : ∀ g, g < w.heap.size → ¬ F g → ¬ (F g ∨ vo'.ownBlock = some g) := fun g hlt hn hor => by
    rcases hor with h1 | h1
    · exact hn h1
    · rcases hat with e | e
      · exact hn (h.sl.inF g (by rw [← e]; exact h1))
      · rw [e] at h1; injection h1 with h1; omega
  have hblt : ∀ {a : Option Addr} {d q : Nat} {l : List Nat}, Rd w 1 (.slice a d q) d (l.map u8) → ∀ g, (Value.slice a d q).ownBlock = some g → 0 < d → g < w.heap.size := fun hr g hg hd => hr.lt hg hd
  have keep : ∀ {a : Option Addr} {d q : Nat} {l : List Nat}, Rd w 1 (.slice a d q) d (l.map u8) → (∀ g, (Value.slice a d q).ownBlock = some g → 0 < d → ¬ F g) → Rd w' 1 (.slice a d q) d (l.map u8) ∧ ∀ g, (Value.slice a d q).ownBlock = some g → 0 < d → ¬ (F g ∨ vo'.ownBlock = some g) := fun hr hn =>
    ⟨hr.far (fun g hg hd hl => g2.block g hl (hn g hg hd)) g2.size, fun g hg hd => hF' g (hblt hr g hg hd) (hn g hg hd)⟩
  have hl := h.len
  refine ⟨_, qs ++ [(P k, .slice a (P k).d.length q)], by simp [hl], by simpa using g1, fun i hi => ?_, h.adv.trans g2⟩
  rw [List.length_append, List.length_singleton] at hi
  by_cases hik : i < qs.length
  · rw [List.getElem_append_left hik]
    obtain ⟨e, a', q', e2, hr', hn'⟩ := h.at_ i hik
    obtain ⟨k1, k2⟩ := keep hr' hn'
    exact ⟨e, a', q', e2, k1, k2⟩
  · obtain rfl : i = qs.length := by omega
    rw [List.getElem_append_right (Nat.le_refl _)]
    simp only [Nat.sub_self, List.getElem_cons_zero, hl]
    obtain ⟨k1, k2⟩ := keep hr hnF
    exact ⟨trivial, a, q, rfl, k1, k2⟩
theorem PW.prd {F : Nat → Prop} {qs : List (Pc × Value)} (h : PW T W P k vo F qs w) (hk : 0 < k) : PRd w vo ((List.range k).map P) := by
  have hl := h.len
  obtain ⟨g, c, rfl, hFg, hkc⟩ := h.sl.form hk
  obtain ⟨_, _, e, _, hcm⟩ := h.sl.form0
  injection e with _ _ e3
  subst e3
  refine ⟨_, c, by simp, by simpa using hkc, hcm, fun _ => ⟨g, 0, rfl, h.sl.bd g hFg, fun i hi => ?_⟩⟩
  have hi' : i < k := by simpa using hi
  obtain ⟨e, a, q, e2, hr, _⟩ := h.at_ i (by omega)
  have e3 : ((List.range k).map P)[i]'hi = P i := by simp
  rw [e3]
  have H : ∀ j u, j < 5 → (rcells (qs[i]'(by omega)))[j]? = some u → w.cell? ⟨g, 0 + (i * 5 + j), none⟩ = some u := fun j u hj hu => by
    rw [Nat.zero_add, h.sl.own.cellAt (i * 5 + j) (by omega), flat5 rcells (fun _ => rfl) qs i j (by omega) hj]
    exact hu
  refine ⟨a, q, H 0 _ (by decide) ?_, H 1 _ (by decide) ?_, H 2 _ (by decide) ?_, H 3 _ (by decide) ?_, H 4 _ (by decide) ?_, hr⟩ <;> simp [rcells, e, e2]
end
theorem pw_new {T : TypeId} {W w wc : World} {P : Nat → Pc} {k : Nat} {vo v : Value} {F Fc : Nat → Prop} {qs : List (Pc × Value)} {e : TypeId} {size d : Nat} {xs : List Value} (h : PW T W P k vo F qs w) (hc : Sl wc Fc e size v d xs) (ac : Adv Nul w Fc wc) : ∀ g, v.ownBlock = some g → 0 < d → ¬ F g := fun g hg _ hF => by
  have := h.sl.bd g hF
  rcases ac.into g (hc.inF g hg) with h1 | h1
  · exact h1
  · omega
theorem pnew_at {T : TypeId} {w : World} {e : Nat} {cI : Int} {f g : Bool} {v : Value} (j : Nat) (u : Value) (h : [Value.int .u64 (e : Int), .int .u64 cI, .bool f, .bool g, v][j]? = some u) :
    (w.alloc (.cells #[.int .u64 (e : Int), .int .u64 cI, .bool f, .bool g, v] T)).cell? ((⟨w.heap.size, 0, none⟩ : Addr).add j) = some u := by
  rw [add_none, Nat.zero_add, (Blk.new w T #[.int .u64 (e : Int), .int .u64 cI, .bool f, .bool g, v]).cell j, List.getElem?_toArray]
  exact h
end Go.Proofs.YtcglfknkkeaegaaGreatDoor
namespace Go.Proofs.YtcglfknkkeaegaaGreatDoor
open Go.RowKit Go.Maps

/-- the sector of the piece of count c -/
def rdP (s : DS) (n c : Nat) : List Nat := isS s (2 + c % n)
def goodP (s : DS) (n c : Nat) : Prop := Whole (rdP s n c) ∧ (dec (rdP s n c)).c = c
instance (s : DS) (n c : Nat) : Decidable (goodP s n c) := by unfold goodP; exact inferInstance
/-- the pieces from count c on up to one that is last -/
def scan (s : DS) (n : Nat) : Nat → Nat → Option (List Pc)
  | 0, _ => none
  | f + 1, c => if goodP s n c then (if (dec (rdP s n c)).g then some [dec (rdP s n c)] else (scan s n f (c + 1)).map (dec (rdP s n c) :: ·)) else none
def scanV (s : DS) (n c : Nat) : List Pc := (scan s n (n + 1) c).getD []
def preP (s : DS) (n c k : Nat) : List Pc := (List.range k).map (fun i => dec (rdP s n (c + i)))
theorem preP_succ (s : DS) (n c k : Nat) : preP s n c (k + 1) = preP s n c k ++ [dec (rdP s n (c + k))] := by simp [preP, List.range_succ]
theorem scan_no {s : DS} {n c f : Nat} (h : ¬ goodP s n c) : scan s n f c = none := by
  cases f with
  | zero => rfl
  | succ f => unfold scan; rw [if_neg h]
theorem scan_last {s : DS} {n c f : Nat} (h : goodP s n c) (hg : (dec (rdP s n c)).g = true) : scan s n (f + 1) c = some [dec (rdP s n c)] := by unfold scan; rw [if_pos h, if_pos hg]
theorem scan_more {s : DS} {n c f : Nat} (h : goodP s n c) (hg : (dec (rdP s n c)).g = false) : scan s n (f + 1) c = (scan s n f (c + 1)).map (dec (rdP s n c) :: ·) := by rw [scan, if_pos h, if_neg (by rw [hg]; decide)]
/-- where k pieces are there -/
structure Pre (s : DS) (n c k : Nat) : Prop where
  le : k ≤ n
  good : ∀ i, i < k → goodP s n (c + i)
  res : scan s n (n + 1) c = (scan s n (n + 1 - k) (c + k)).map (preP s n c k ++ ·)
theorem Pre.zero (s : DS) (n c : Nat) : Pre s n c 0 := ⟨Nat.zero_le _, fun i h => absurd h (Nat.not_lt_zero _), by simp [preP]⟩
theorem Pre.lt {s : DS} {n c k : Nat} (h : Pre s n c k) (hn : 1 ≤ n) (hg : goodP s n (c + k)) : k < n := by
  rcases Nat.lt_or_ge k n with h1 | h1
  · exact h1
  · have e : k = n := Nat.le_antisymm h.le h1
    subst e
    have h0 := h.good 0 hn
    have e2 : rdP s k (c + k) = rdP s k (c + 0) := by unfold rdP; rw [Nat.add_mod_right, Nat.add_zero]
    have h1 := hg.2
    rw [e2, h0.2] at h1
    omega
theorem Pre.no {s : DS} {n c k : Nat} (h : Pre s n c k) (hg : ¬ goodP s n (c + k)) : scanV s n c = [] := by
  unfold scanV
  rw [h.res, scan_no hg]; rfl
theorem Pre.last {s : DS} {n c k : Nat} (h : Pre s n c k) (hg : goodP s n (c + k)) (hl : (dec (rdP s n (c + k))).g = true) : scanV s n c = preP s n c (k + 1) := by
  unfold scanV
  rw [h.res, show n + 1 - k = (n - k) + 1 by have := h.le; omega, scan_last hg hl, preP_succ]; rfl
theorem Pre.more {s : DS} {n c k : Nat} (h : Pre s n c k) (hn : 1 ≤ n) (hg : goodP s n (c + k)) (hl : (dec (rdP s n (c + k))).g = false) : Pre s n c (k + 1) := by
  have hlt := h.lt hn hg
  refine ⟨hlt, fun i hi => ?_, ?_⟩
  · by_cases e : i = k
    · subst e; exact hg
    · exact h.good i (by omega)
  · rw [h.res, show n + 1 - k = (n - k) + 1 by omega, scan_more hg hl, preP_succ, show n + 1 - (k + 1) = n - k by omega, ← Nat.add_assoc]
    cases scan s n (n - k) (c + k + 1) <;> simp
theorem unseal_whole {l : List Nat} (h : Whole l) : unsealP l = dec l ∧ unsealE l = 0 := ⟨if_pos h, if_pos h⟩
theorem unseal_not {l : List Nat} (h : ¬ Whole l) : unsealE l = 4 := if_neg h

theorem pw_push {T : TypeId} {W w w' : World} {P : Nat → Pc} {k : Nat} {vo vo' : Value} {F : Nat → Prop} {qs : List (Pc × Value)} {a : Option Addr} {q : Nat} {p : Pc} (h : PW T W P k vo F qs w) (hp : P k = p) (hr : Rd w 1 (.slice a p.d.length q) p.d.length (p.d.map u8)) (hnF : ∀ g, (Value.slice a p.d.length q).ownBlock = some g → 0 < p.d.length → ¬ F g)
    (hown : w'.ownsRow 0 T 5 vo' (k + 1) (qs.flatMap rcells ++ [.int .u64 (p.e : Int), .int .u64 (p.c : Int), .bool p.f, .bool p.g, .slice a p.d.length q])) (hg : w.grownBy w' vo.ownBlock) (hat : vo'.ownBlock = vo.ownBlock ∨ vo'.ownBlock = some w.heap.size) : ∃ F' qs', PW T W P (k + 1) vo' F' qs' w' := by
  subst hp
  exact h.push hr hnF hown hg hat
def PcsR (w : World) (ps : List Pc) (e : Ending) (w' : World) : Prop := ∃ A k, e = .returned (.slice A ps.length k) ∧ PRd w' (.slice A ps.length k) ps ∧ (∀ j, (Value.slice A ps.length k).ownBlock = some j → w.heap.size ≤ j) ∧ Adv Nul w Nul w'
def PcL (w : World) (s : DS) (n c : Nat) (t4 t3 : Value) (wr : World) : Prop :=
  ∃ k A q F qs, t4 = .int .u64 ((c + k : Nat) : Int) ∧ t3 = .slice A k q ∧ Pre s n c k ∧ PW 177 w (fun i => dec (rdP s n (c + i))) k (.slice A k q) F qs wr
set_option maxRecDepth 3000 in
set_option maxHeartbeats 6400000 in
theorem gpieces_lg (l b d n N : Nat) (g : LS) (F : Nat → Prop) (s : DS) (w : World) (h : Rs w F d l b n N s g) (hsb : SB s N) (hn : 2 ≤ n ∧ n + 3 ≤ N ∧ N ≤ 4096) (hnx : g.next ≤ 2199023255552) :
    Calls Tryz.prog 109 #[.pointer (some ⟨l, 0, none⟩)] w (PcsR w (scanV s n g.next)) := by
  obtain ⟨c, hc⟩ : ∃ c, c = g.next := ⟨_, rfl⟩
  have c5 := h.lg.cells.2.2.2.2.2.1
  rw [← hc] at c5 hnx ⊢
  have HS := Lib.hid h
  have HSB := Lib.hid hsb
  have HN := Lib.hid hn
  have HC := Lib.hid hnx
  clear h hsb hn hnx hc
  go_enter Tryz.func109, Tryz.ntmps109
  go_wp2_with fail
  go_loopw [4, 3] (PcL w s n c) (fun t _ _ => c + n + 1 - (intOf t).toNat)
  case atStart => exact ⟨0, none, 0, Nul, [], by simp, rfl, Pre.zero s n c, PW.nil _ _ _⟩
  case round =>
    obtain ⟨k, A, q, Fq, qs, rfl, rfl, hpre, hpw⟩ := hrel
    have hav := hpw.adv.sub (G := Nul) (fun _ x => x.elim)
    have hs := HS.out.over hav
    have c0 := hs.lg.cells.1
    obtain ⟨x, hx⟩ : ∃ x, x = c + k := ⟨_, rfl⟩
    have hxk : x < 18446744073709551616 := by have := HC.out; have := hpre.le; have := HN.out; omega
    have hpl : 2 + x % n < N := by have := Nat.mod_lt x (show 0 < n by have := HN.out; omega); have := HN.out; omega
    have HPL := Lib.hid (gplace_lg (w := wr.drew) x (show Lg wr.drew l b d n N g from ⟨hs.lg.blk, hs.lg.mp⟩) (by have := HN.out; omega))
    have HRD := Lib.hid (read_dk d N F s (2 + x % n) wr.drew (hs.dk.far ((Adv.refl Nul wr).drew) (fun _ x _ => x)) hpl)
    have HL8 := Lib.hid (HSB.out _ hpl)
    have HKEEP := Lib.hid (show ∀ w', Adv Nul wr.drew Nul w' → w'.cell? ⟨l, 0, none⟩ = some (.pointer (some ⟨d, 0, none⟩)) from fun w' a => (hs.over (Adv.of_drew a)).lg.cells.1)
    have HCC := Lib.hid c0
    have HCD := Lib.hid (show wr.drew.cell? ⟨l, 0, none⟩ = some (.pointer (some ⟨d, 0, none⟩)) from c0)
    have HPRE := Lib.hid hpre
    have HPW := Lib.hid hpw
    have hle := hpre.le
    have hm := show c + n + 1 - (c + k) > 0 by omega
    obtain ⟨L, hL⟩ : ∃ L, L = rdP s n x := ⟨_, rfl⟩
    have hL' : isS s (2 + x % n) = L := by rw [hL]; rfl
    rw [hL'] at HRD HL8
    obtain ⟨pl, hplx⟩ : ∃ y, y = 2 + x % n := ⟨_, rfl⟩
    rw [← hplx] at HPL HRD
    rw [← hx]
    have HX := Lib.hid hx
    have HL := Lib.hid hL
    have HLE := Lib.hid hle
    clear hav hs hx hxk hpl hpre hpw hle hm hL hL' hplx
    go_wp2_with fail
    refine rstart (S := (fun w' => w'.cell? ⟨l, 0, none⟩ = some (.pointer (some ⟨d, 0, none⟩)))) (by first | with_reducible exact HC7.out | with_reducible exact HCD.out | with_reducible exact HCC.out) (fun hH => ?_)
    refine tk (i := 0) (oi := ⟨some 16, .move (.tmp 0), 72, "ring.go:43", #[], none⟩) hH.out (by rintro w s0; go_simp <;> with_reducible rfl) ?_
    simp only [Act.put, sA, sB, sC]
    refine tk (i := 1) (oi := ⟨some 17, .nilCheck (.tmp 16), 0, "ring.go:43", #[⟨0, .data⟩], none⟩) hH.out (by rintro w s0; go_simp <;> with_reducible rfl) ?_
    simp only [Act.put, sA, sB, sC]
    refine tk (i := 2) (oi := ⟨some 18, .fieldAddr 145 (.tmp 17) 0, 0, "ring.go:43", #[⟨1, .data⟩], none⟩) hH.out (by rintro w s0; go_simp <;> with_reducible rfl) ?_
    simp only [Act.put, sA, sB, sC]
    refine tk (i := 3) (oi := ⟨some 19, .load 25 (.tmp 18), 25, "ring.go:43", #[⟨2, .data⟩], none⟩) hH.out (by rintro w s0; go_simp <;> with_reducible rfl) ?_
    simp only [Act.put, sA, sB, sC]
    refine tk (i := 4) (oi := ⟨some 20, .move (.tmp 0), 72, "ring.go:43", #[], none⟩) hH.out (by rintro w s0; go_simp <;> with_reducible rfl) ?_
    simp only [Act.put, sA, sB, sC]
    refine tk (i := 5) (oi := ⟨some 21, .move (.tmp 4), 38, "ring.go:43", #[], none⟩) hH.out (by rintro w s0; go_simp <;> with_reducible rfl) ?_
    simp only [Act.put, sA, sB, sC]
    refine rdy (i := 6) (oi := ⟨some 22, .call ⟨.value (.func 145), #[.tmp 20, .tmp 21], #[72, 38]⟩, 3, "ring.go:43", #[⟨4, .data⟩, ⟨5, .data⟩], none⟩) (fun K hK => ?_)
    go_simp
    refine HPL.out.mono ?_
    rintro e w6 ⟨rfl, rfl⟩
    go_wp2_with fail
    refine hK.out _ _ (by first | with_reducible exact HC7.out | with_reducible exact HCD.out | with_reducible exact HCC.out) (fun hHeld => ?_)
    replace hH := Lib.hid hHeld
    clear hK K hHeld
    try simp only [Act.put, sA, sB, sC]
    refine rdy (i := 7) (oi := ⟨some 23, .call ⟨.value (.func 105), #[.tmp 19, .tmp 22], #[25, 3]⟩, 119, "ring.go:43", #[⟨3, .data⟩, ⟨6, .data⟩, ⟨6, .chain⟩], none⟩) (fun K hK => ?_)
    go_simp
    refine HRD.out.mono ?_
    rintro e w7 ⟨y, rfl, b7, l7, a7⟩
    have HC7 := Lib.hid (HKEEP.out w7 (a7.sub (G := Nul) (fun _ x => x.elim)))
    have HA7 := Lib.hid (Adv.of_drew (a7.sub (G := Nul) (fun _ x => x.elim)))
    have HUN := Lib.hid (unseal_any _ 128 L w7 (b7.rdS8 l7) HL8.out)
    clear b7 l7 a7
    go_wp2_with fail
    refine hK.out _ _ (by first | with_reducible exact HC7.out | with_reducible exact HCD.out | with_reducible exact HCC.out) (fun hHeld => ?_)
    replace hH := Lib.hid hHeld
    clear hK K hHeld
    try simp only [Act.put, sA, sB, sC]
    refine tk (i := 8) (oi := ⟨some 15, .move (.tmp 23), 119, "ring.go:43", #[⟨7, .data⟩], none⟩) hH.out (by rintro w s0; go_simp <;> with_reducible rfl) ?_
    simp only [Act.put, sA, sB, sC]
    refine tk (i := 9) (oi := ⟨some 24, .extract (.tmp 15) 0, 118, "ring.go:43", #[⟨8, .data⟩], none⟩) hH.out (by rintro w s0; go_simp <;> with_reducible rfl) ?_
    simp only [Act.put, sA, sB, sC]
    refine tk (i := 10) (oi := ⟨some 25, .extract (.tmp 15) 1, 26, "ring.go:43", #[⟨8, .data⟩, { on := 11, ground := Go.Ground.gcOnly Go.Departure.lateStores }], none⟩) hH.out (by rintro w s0; go_simp <;> with_reducible rfl) ?_
    simp only [Act.put, sA, sB, sC]
    refine tk (i := 11) (oi := ⟨some 5, .assign (.tmp 24), 118, "ring.go:43", #[⟨9, .data⟩, ⟨7, .chain⟩, ⟨0, .phase⟩, ⟨1, .phase⟩, ⟨2, .phase⟩, ⟨3, .phase⟩, ⟨4, .phase⟩, ⟨5, .phase⟩, ⟨6, .phase⟩, ⟨7, .phase⟩, ⟨8, .phase⟩, ⟨9, .phase⟩, { on := 10, ground := Go.Ground.textOnly Go.Departure.lateStores }], none⟩) hH.out (by rintro w s0; go_simp <;> with_reducible rfl) ?_
    simp only [Act.put, sA, sB, sC]
    refine tk (i := 12) (oi := ⟨some 6, .assign (.tmp 25), 26, "ring.go:43", #[⟨10, .data⟩, ⟨11, .chain⟩, ⟨0, .phase⟩, ⟨1, .phase⟩, ⟨2, .phase⟩, ⟨3, .phase⟩, ⟨4, .phase⟩, ⟨5, .phase⟩, ⟨6, .phase⟩, ⟨7, .phase⟩, ⟨8, .phase⟩, ⟨9, .phase⟩, ⟨10, .phase⟩, ⟨11, .phase⟩], none⟩) hH.out (by rintro w s0; go_simp <;> with_reducible rfl) ?_
    simp only [Act.put, sA, sB, sC]
    refine wpAnyH_done (by kernel_rfl) ?_ _
    go_wp2_with fail
    refine HUN.out.mono ?_
    rintro e w8 ⟨a8, q8, F8, rfl, s8, t8⟩
    obtain ⟨p, hp⟩ : ∃ p, p = unsealP L := ⟨_, rfl⟩
    obtain ⟨E, hE⟩ : ∃ E, E = unsealE L := ⟨_, rfl⟩
    rw [← hp] at s8 ⊢
    rw [← hE]
    obtain ⟨pe, pc, pf, pg, D⟩ := p
    simp only at s8 ⊢
    obtain ⟨m, hm⟩ : ∃ m, m = D.length := ⟨_, rfl⟩
    rw [← hm] at s8 ⊢
    obtain ⟨V, hV⟩ : ∃ V, V = w8.alloc (.cells #[.int .u64 (pe : Int), .int .u64 (pc : Int), .bool pf, .bool pg, .slice a8 m q8] 177) := ⟨_, rfl⟩
    obtain ⟨z, hz⟩ : ∃ z, z = w8.heap.size := ⟨_, rfl⟩
    have hav : Adv Nul w8 Nul V := by rw [hV]; exact (Adv.refl _ _).alloc _
    have hpw7 := HPW.out.step (HA7.out)
    have HNF := Lib.hid (pw_new hpw7 s8 t8)
    have hpwV := (hpw7.step t8).step hav
    have HPWV := Lib.hid hpwV
    have HRV := Lib.hid (s8.rd.far (fun _ _ _ h => hav.block _ h (fun h => h)) hav.size)
    have HZB := Lib.hid (show Blk V z 177 #[.int .u64 (pe : Int), .int .u64 (pc : Int), .bool pf, .bool pg, .slice a8 m q8] by rw [hV, hz]; exact Blk.new _ _ _)
    have HAV := Lib.hid ((HPW.out.adv.sub (G := Nul) (fun _ x => x.elim)).trans (HA7.out.trans ((t8.sub (G := Nul) (fun _ x => x.elim)).trans hav)))
    have HNZ := Lib.hid (show ∀ j, (Value.slice A k q).ownBlock = some j → j ≠ z from fun j hj e => by
      have := (hpw7.step t8).sl.bd j (hpw7.sl.inF j hj)
      omega)
    have HP := Lib.hid hp
    have HE := Lib.hid hE
    have HV := Lib.hid hV
    have HZ := Lib.hid hz
    have HMM := Lib.hid hm
    clear s8 t8 hp hE hV hz hav hpw7 hpwV hm
    go_upto_region 6 with (fail)
    rw [← HV.out, ← HZ.out]
    obtain ⟨z0, z1, z2, z3, z4⟩ := pcell5 HZB.out
    have HBAD := Lib.hid (show ¬ goodP s n (c + k) → PcsR w (scanV s n c) (.returned (.slice none 0 0)) V from fun k' => by
      rw [HPRE.out.no k']
      exact ⟨none, 0, rfl, PRd.nil _, fun j hj => by simp [Value.ownBlock] at hj, HAV.out⟩)
    by_cases hw : Whole L
    · obtain ⟨u1, u2⟩ := unseal_whole hw
      obtain rfl : E = 0 := by rw [HE.out, u2]
      have HW := Lib.hid hw
      have HPD := Lib.hid (show (⟨pe, pc, pf, pg, D⟩ : Pc) = dec L by rw [HP.out, u1])
      clear hw u1 u2
      by_cases hcx : pc = x
      · subst hcx
        have hgood : goodP s n (c + k) := by
          rw [← HX.out]
          unfold goodP
          rw [← HL.out]
          exact ⟨HW.out, by rw [← HPD.out]⟩
        have hkn := HPRE.out.lt (by have := HN.out; omega) hgood
        have HGOOD := Lib.hid hgood
        have HKN := Lib.hid hkn
        have HK1 := Lib.hid (show k + 1 ≤ maxLen by have := HN.out; unfold maxLen; omega)
        have HK2 := Lib.hid (show (k + 1) * 48 ≤ 140737488355328 by have := HN.out; omega)
        have HPK := Lib.hid (show (fun i => dec (rdP s n (c + i))) k = (⟨pe, pc, pf, pg, D⟩ : Pc) by rw [HPD.out, HL.out, HX.out])
        have HU2 := Lib.hid (HPWV.out.step ((Adv.refl Nul V).alloc (.cells #[.int .u64 (pe : Int), .int .u64 (pc : Int), .bool pf, .bool pg, .slice a8 m q8] 177)))
        have HR2 := Lib.hid (HRV.out.up (.cells #[.int .u64 (pe : Int), .int .u64 (pc : Int), .bool pf, .bool pg, .slice a8 m q8] 177))
        have hgi : (dec (rdP s n (c + k))).g = pg := by rw [← HX.out, ← HL.out, ← HPD.out]
        have HGI := Lib.hid hgi
        clear hgood hkn hgi
        go_upto_region 9 with (first
          | (at_builtin; refine lop_append_own rfl (.tmp 39) (.tmp 41) 173 177 rfl Tryz.underlying173 infoPiece rfl (by decide) rfl HU2.out.sl.own ⟨V.heap.size, 0, none⟩ 1 1 rfl [.int .u64 (pe : Int), .int .u64 (pc : Int), .bool pf, .bool pg, .slice a8 m q8] rfl pnew_at rone HK1.out HK2.out ?_; intro v' w2 hown hg2 hat; obtain ⟨a9, k9, rfl⟩ := (slice_of hown); have HOWN := Lib.hid hown; have HG2 := Lib.hid hg2; have HAT := Lib.hid hat; have z3' : w2.cell? ⟨z, 3, none⟩ = some (.bool pg) := ((HZB.out.alloc _).keep (hg2.block z (by have := HZB.out.lt; simp; omega) (fun e => HNZ.out _ e.symm rfl))).cell 3; clear hown hg2 hat z0 z1 z2 z3 z4)
          | fail)
        obtain ⟨F9, qs9, hpu⟩ := pw_push (p := ⟨pe, pc, pf, pg, D⟩) HU2.out HPK.out (by simp only; rw [← HMM.out]; exact HR2.out) (by simp only; rw [← HMM.out]; exact HNF.out) (by simp only; rw [← HMM.out]; exact HOWN.out) HG2.out HAT.out
        have HPU := Lib.hid hpu
        have hwx : IntKind.u64.wrap ((pc : Int) + 1) = (pc : Int) + 1 := by
          have := wrapU (x := pc + 1) (by have := HX.out; have := HC.out; have := HKN.out; have := HN.out; omega)
          rw [Int.natCast_add] at this
          exact this
        clear hpu
        cases pg with
        | true =>
          have HF := Lib.hid (show PcsR w (scanV s n c) (.returned (.slice a9 (k + 1) k9)) w2 by
            have e1 := HPRE.out.last HGOOD.out HGI.out
            have e2 : (preP s n c (k + 1)).length = k + 1 := by simp [preP]
            rw [e1]
            refine ⟨a9, k9, by rw [e2], ?_, fun j hj => ?_, HPU.out.adv.sub (fun _ x => x.elim)⟩
            · rw [e2]
              exact HPU.out.prd (by omega)
            · rw [e2] at hj
              rcases HPU.out.adv.into j (HPU.out.sl.inF j hj) with h | h
              · exact h.elim
              · exact h)
          go_wp2_with fail
          go_ret
          exact HF.out
        | false =>
          go_wp2_with fail
          refine ⟨⟨k + 1, a9, k9, F9, qs9, ?_, rfl, HPRE.out.more (by have := HN.out; omega) HGOOD.out HGI.out, HPU.out⟩, ?_⟩
          · rw [HX.out]; go_num
          · have h1 := HX.out
            have h2 := HKN.out
            simp [intOf]
            omega
      · have hno : ¬ goodP s n (c + k) := by
          rw [← HX.out]
          unfold goodP
          rw [← HL.out]
          intro h
          exact hcx (by rw [← h.2, ← HPD.out])
        have HF := Lib.hid (HBAD.out hno)
        have hb : ((pc : Int) != (x : Int)) = true := by rw [bne_iff_ne]; omega
        have hb2 : ((pc : Int) == (x : Int)) = false := by rw [beq_eq_false_iff_ne]; omega
        clear hno hcx
        go_wp2_with fail
        go_ret
        exact HF.out
    · obtain rfl : E = 4 := by rw [HE.out, unseal_not hw]
      have HF := Lib.hid (HBAD.out (fun h => hw (by have := h.1; rw [← HX.out, ← HL.out] at this; exact this)))
      clear hw
      go_wp2_with fail
      go_ret
      exact HF.out
end Go.Proofs.YtcglfknkkeaegaaGreatDoor
