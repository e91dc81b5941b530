/- save: a head is saved. Checkpoint: the program's. The newest of two heads: words. The document's own answers: Fits. -/
import Derived.Test.YtbdjlmdbnoghnaaGreatMh30
import Derived.Test.YtbdjlmdbnoghnaaGreatMh16
import Derived.Test.YtbdjlmdbnoghnaaGreatMh27
namespace Go.Proofs.YtbdjlmdbnoghnaaGreat
open Go.RowKit Go.Maps

def saveG (s : DS) (N ep : Nat) (h : Hd) : DS × Int := if 1099511627775 < h.g then (s, 8) else saveS s N 0 ep h
def SvC (w : World) (l d z ep g t f : Nat) : Prop := w.cell? ⟨l, 0, none⟩ = some (.pointer (some ⟨d, 0, none⟩)) ∧ w.cell? ⟨l, 6, none⟩ = some (.int .u64 (ep : Int)) ∧ w.cell? ⟨z, 0, none⟩ = some (.int .u64 (g : Int)) ∧ w.cell? ⟨z, 1, none⟩ = some (.int .u64 (t : Int)) ∧ w.cell? ⟨z, 2, none⟩ = some (.int .u64 (f : Int))

set_option maxRecDepth 3000 in
set_option maxHeartbeats 6400000 in
theorem gsave_lg (l b d n N : Nat) (g : LS) (F : Nat → Prop) (s : DS) (h : Hd) (w : World) (hr : Rs w F d l b n N s g) (hq : s.Q.length ≤ 900000) (hN : 2 ≤ N ∧ N ≤ 4096) (hg : h.g < 18446744073709551616) (ht : h.t < 18446744073709551616) (hf : h.f < 18446744073709551616) :
    Calls Tryz.prog 56 #[.pointer (some ⟨l, 0, none⟩), .agg #[.int .u64 (h.g : Int), .int .u64 (h.t : Int), .int .u64 (h.f : Int)]] w (BrR w F d l b n N g (saveG s N g.ep h)) := by
  obtain ⟨R, hR⟩ : ∃ R, R = saveG s N g.ep h := ⟨_, rfl⟩
  rw [← hR]
  obtain ⟨x, t, f⟩ := h
  simp only at hg ht hf ⊢
  obtain ⟨V, hV⟩ : ∃ V, V = w.alloc (.cells #[.int .u64 (x : Int), .int .u64 (t : Int), .int .u64 (f : Int)] 69) := ⟨_, rfl⟩
  obtain ⟨z, hz⟩ : ∃ z, z = w.heap.size := ⟨_, rfl⟩
  have hav : Adv Nul w Nul V := by rw [hV]; exact (Adv.refl _ _).alloc _
  have HZB := Lib.hid (show Blk V z 69 #[.int .u64 (x : Int), .int .u64 (t : Int), .int .u64 (f : Int)] by rw [hV, hz]; exact Blk.new _ _ _)
  have HSV := Lib.hid (hr.over hav)
  have HAV := Lib.hid hav
  have hzf : ¬ F z := fun y => by have := hr.dk.bd z y; omega
  obtain ⟨ep, hep⟩ : ∃ y, y = g.ep := ⟨_, rfl⟩
  rw [← hep] at hR
  have HC := Lib.hid (show SvC V l d z ep x t f from ⟨HSV.out.lg.cells.1, by rw [hep]; exact HSV.out.lg.cells.2.2.2.2.2.2.1, HZB.out.three.1, HZB.out.three.2.1, HZB.out.three.2.2⟩)
  have HCD := Lib.hid (show SvC V.drew l d z ep x t f from HC.out)
  have HFR := Lib.hid (show ∀ (F' : Nat → Prop) (w' : World), Adv F V.drew F' w' → SvC w' l d z ep x t f from fun F' w' a => by
    have hb := HSV.out.lg.blk.keep (a.block l HSV.out.lg.blk.lt (fun y => HSV.out.sep l y (.inl rfl)))
    have hb2 := (HZB.out.keep (a.block z HZB.out.lt hzf)).three
    exact ⟨hb.cell 0, by rw [hep]; exact hb.cell 6, hb2.1, hb2.2.1, hb2.2.2⟩)
  have HV := Lib.hid hV
  have HZ := Lib.hid hz
  have HR := Lib.hid hR
  by_cases hx : 1099511627775 < x
  · have HF := Lib.hid (show BrR w F d l b n N g R (.returned (.int .i64 8)) V by
      rw [hR]
      unfold saveG
      rw [if_pos hx]
      exact ⟨rfl, F, HSV.out, adv_nul hav⟩)
    have hxI : (1099511627775 : Int) < (x : Int) := by omega
    obtain ⟨c0, c6, z0, z1, z2⟩ := HC.out
    clear hr hq hN hg ht hf hV hz hav hzf hep hx hR
    go_enter Tryz.func56, Tryz.ntmps56
    go_upto_region 1 with (fail)
    rw [← HV.out, ← HZ.out]
    go_wp2_with fail
    go_ret
    exact HF.out
  · have hRS : R = saveS s N 0 ep ⟨x, t, f⟩ := by rw [hR]; unfold saveG; rw [if_neg hx]
    have HSAVE := Lib.hid (show Calls Tryz.prog 90 #[.pointer (some ⟨d, 0, none⟩), .int .i64 0, .int .u64 (ep : Int), .agg #[.int .u64 (x : Int), .int .u64 (t : Int), .int .u64 (f : Int)]] V.drew (PSaved V.drew F d N R) by
      rw [hRS]
      exact hsave_dk d N F s 0 ep ⟨x, t, f⟩ V.drew (HSV.out.dk.far ((Adv.refl Nul V).drew) (fun _ x _ => x)) hq hN.2 hN.1 ht hf)
    have hxI : ¬ (1099511627775 : Int) < (x : Int) := by omega
    have hxf : ((1099511627775 : Int) < (x : Int)) = False := eq_false hxI
    obtain ⟨c0, c6, z0, z1, z2⟩ := HC.out
    obtain ⟨RE, hRE⟩ : ∃ y, y = R.2 := ⟨_, rfl⟩
    rw [show PSaved V.drew F d N R = fun e w' => e = .returned (.int .i64 RE) ∧ ∃ F', Dk w' F' d N R.1 ∧ Adv F V.drew F' w' by rw [hRE]; rfl] at HSAVE
    have HRE := Lib.hid hRE
    clear hr hq hN hg ht hf hV hz hav hzf hep hx hR hRS hRE hxI
    go_enter Tryz.func56, Tryz.ntmps56
    go_upto_region 1 with (fail)
    rw [← HV.out, ← HZ.out]
    go_wp2_with fail
    refine rstart (S := (fun w' => SvC w' l d z ep x t f)) (by first | with_reducible exact HC9.out | with_reducible exact HCD.out | with_reducible exact HC.out) (fun hH => ?_)
    refine tk (i := 0) (oi := ⟨some 8, .move (.tmp 0), 31, "redo.go:186", #[], none⟩) hH.out (by rintro w ⟨s0, s1, s2, s3, s4⟩; go_simp <;> with_reducible rfl) ?_
    simp only [Act.put, sA, sB, sC]
    refine tk (i := 1) (oi := ⟨some 9, .nilCheck (.tmp 8), 0, "redo.go:186", #[⟨0, .data⟩], none⟩) hH.out (by rintro w ⟨s0, s1, s2, s3, s4⟩; go_simp <;> with_reducible rfl) ?_
    simp only [Act.put, sA, sB, sC]
    refine tk (i := 2) (oi := ⟨some 10, .fieldAddr 74 (.tmp 9) 0, 0, "redo.go:186", #[⟨1, .data⟩], none⟩) hH.out (by rintro w ⟨s0, s1, s2, s3, s4⟩; go_simp <;> with_reducible rfl) ?_
    simp only [Act.put, sA, sB, sC]
    refine tk (i := 3) (oi := ⟨some 11, .load 24 (.tmp 10), 24, "redo.go:186", #[⟨2, .data⟩], none⟩) hH.out (by rintro w ⟨s0, s1, s2, s3, s4⟩; go_simp <;> with_reducible rfl) ?_
    simp only [Act.put, sA, sB, sC]
    refine tk (i := 4) (oi := ⟨some 12, .move (.tmp 0), 31, "redo.go:186", #[], none⟩) hH.out (by rintro w ⟨s0, s1, s2, s3, s4⟩; go_simp <;> with_reducible rfl) ?_
    simp only [Act.put, sA, sB, sC]
    refine tk (i := 5) (oi := ⟨some 13, .nilCheck (.tmp 12), 0, "redo.go:186", #[⟨4, .data⟩], none⟩) hH.out (by rintro w ⟨s0, s1, s2, s3, s4⟩; go_simp <;> with_reducible rfl) ?_
    simp only [Act.put, sA, sB, sC]
    refine tk (i := 6) (oi := ⟨some 14, .fieldAddr 74 (.tmp 13) 4, 0, "redo.go:186", #[⟨5, .data⟩], none⟩) hH.out (by rintro w ⟨s0, s1, s2, s3, s4⟩; go_simp <;> with_reducible rfl) ?_
    simp only [Act.put, sA, sB, sC]
    refine tk (i := 7) (oi := ⟨some 15, .load 49 (.tmp 14), 49, "redo.go:186", #[⟨6, .data⟩], none⟩) hH.out (by rintro w ⟨s0, s1, s2, s3, s4⟩; go_simp <;> with_reducible rfl) ?_
    simp only [Act.put, sA, sB, sC]
    refine tk (i := 8) (oi := ⟨some 16, .load 69 (.tmp 3), 69, "redo.go:186", #[], none⟩) hH.out (by rintro w ⟨s0, s1, s2, s3, s4⟩; go_simp <;> with_reducible rfl) ?_
    simp only [Act.put, sA, sB, sC]
    refine rdy (i := 9) (oi := ⟨some 17, .call ⟨.value (.func 90), #[.tmp 11, .const (Go.Value.int Go.IntKind.i64 0), .tmp 15, .tmp 16], #[24, 3, 49, 69]⟩, 25, "redo.go:186", #[⟨3, .data⟩, ⟨7, .data⟩, ⟨8, .data⟩], none⟩) (fun K hK => ?_)
    go_simp
    refine HSAVE.out.mono ?_
    rintro x w9 ⟨rfl, F9, k9, a9⟩
    have HC9 := Lib.hid (HFR.out F9 w9 a9)
    have HK9 := Lib.hid k9
    have HA9 := Lib.hid (Adv.of_drew a9)
    clear k9 a9
    go_wp2_with fail
    refine hK.out _ _ (by first | with_reducible exact HC9.out | with_reducible exact HCD.out | with_reducible exact HC.out) (fun hHeld => ?_)
    replace hH := Lib.hid hHeld
    clear hK K hHeld
    try simp only [Act.put, sA, sB, sC]
    refine tk (i := 10) (oi := ⟨some 4, .assign (.tmp 17), 25, "redo.go:186", #[⟨9, .data⟩, ⟨9, .chain⟩, ⟨0, .phase⟩, ⟨1, .phase⟩, ⟨2, .phase⟩, ⟨3, .phase⟩, ⟨4, .phase⟩, ⟨5, .phase⟩, ⟨6, .phase⟩, ⟨7, .phase⟩, ⟨8, .phase⟩, ⟨9, .phase⟩], none⟩) hH.out (by rintro w ⟨s0, s1, s2, s3, s4⟩; go_simp <;> with_reducible rfl) ?_
    simp only [Act.put, sA, sB, sC]
    refine wpAnyH_done (by kernel_rfl) ?_ _
    have HF := Lib.hid (show BrR w F d l b n N g R (.returned (.int .i64 RE)) w9 from ⟨by rw [HRE.out], F9, HSV.out.disk HA9.out HK9.out, (adv_nul HAV.out).trans (adv_disk (l := l) (b := b) HA9.out)⟩)
    clear c0 c6 z0 z1 z2
    go_wp2_with fail
    go_ret
    exact HF.out
end Go.Proofs.YtbdjlmdbnoghnaaGreat
namespace Go.Proofs.YtbdjlmdbnoghnaaGreat
open Go.RowKit Go.Maps

theorem few_put (n : Nat) : ∀ (T : List (Nat × List Nat)) (s : DS), (putHomes s n T).1.Q.length ≤ s.Q.length + T.length
  | [], s => by simp [putHomes]
  | q :: qs, s => by
    unfold putHomes
    have h1 := few_write s ((2 + n + q.1 : Nat) : Int) q.2
    have h2 := few_put n qs (writeS s ((2 + n + q.1 : Nat) : Int) q.2).1
    split
    · simp only [List.length_cons]; omega
    · simp only [List.length_cons]; omega
theorem few_bring (s : DS) (n M : Nat) (A : Nat → Option (List Nat)) : (bringS s n M A).1.Q.length ≤ s.Q.length + M := by
  have h1 := few_flush s
  have h2 := few_put n (awayL A M) (flushS s).1
  have h3 : (awayL A M).length ≤ M := by unfold awayL; rw [List.length_map]; exact keysL_len A M
  have h4 := few_flush (putHomes (flushS s).1 n (awayL A M)).1
  unfold bringS
  split
  · split <;> omega
  · omega
theorem op_clear {ops : Array Oper} {rest : List Oper} {o : Oper} {a : Act} {w : World} {Q : Exit → Act → World → Prop} (hgd : o.guard = none) (m : Operand) (ho : o.op = Op.call { callee := Callee.builtin Builtin.clear, args := #[m], argTypes := #[72] }) (b N : Nat) (A : Nat → Option (List Nat)) (hM : Mp w b N A) (hm : a.eval m = .map (some b))
    (hK : ∀ w', Mp w' b N (fun _ => none) → w.grownBy w' (some b) → wpList Tryz.prog ops Q rest (a.put o.dst (.tuple #[])) w') : wpList Tryz.prog ops Q (o :: rest) a w := by
  obtain ⟨D, ⟨es, clock, hb, hF⟩, d⟩ := hM
  refine wpList_plain hgd fun K' hK' => ?_
  have hrun : (Builtin.clear_ #[72] o.type #[.map (some b)]).run Tryz.prog w = .ok (.tuple #[]) (ChangeMaps.setBlock w b (.map #[] clock)) := by
    simp [Builtin.clear_, run_underlying Tryz.underlying72, MapKept.run_getObj_map hb, MapKept.run_setObj_map _ hb, Result.andThen, ChangeMaps.setBlock]
  unfold Oper.wp
  simp [execOp, ho, resolve, invoke, builtin, hm, hrun, Result.andThen]
  refine hK' _ _ (hK _ ⟨.map [], ?_, MpD.empty N⟩ ⟨rfl, rfl, rfl, by simp [ChangeMaps.setBlock], fun i _ hi => ChangeMaps.heap_setBlock_other hb _ (fun e => hi (by rw [e]))⟩)
  rw [cnt_none]
  exact ⟨#[], clock, ChangeMaps.heap_setBlock_same hb _, ⟨by simp, MapKept.stamped_empty clock, by simp⟩, Nat.le_refl _, rfl⟩

def hNew (g : LS) : Hd := ⟨g.h.g + 1, g.next, g.ep⟩
def checkG (s : DS) (n N : Nat) (g : LS) : (DS × LS) × Int :=
  if g.err = 0 then
    if (bringS s n (N - 2 - n) g.A).2 = 0 then
      if (saveG (bringS s n (N - 2 - n) g.A).1 N g.ep (hNew g)).2 = 0 then (((saveG (bringS s n (N - 2 - n) g.A).1 N g.ep (hNew g)).1, { g with h := hNew g, A := fun _ => none }), 0)
      else (((saveG (bringS s n (N - 2 - n) g.A).1 N g.ep (hNew g)).1, { g with err := (saveG (bringS s n (N - 2 - n) g.A).1 N g.ep (hNew g)).2 }), (saveG (bringS s n (N - 2 - n) g.A).1 N g.ep (hNew g)).2)
    else (((bringS s n (N - 2 - n) g.A).1, { g with err := (bringS s n (N - 2 - n) g.A).2 }), (bringS s n (N - 2 - n) g.A).2)
  else ((s, g), g.err)
def CkC (w : World) (l g t f : Nat) : Prop := w.cell? ⟨l, 2, none⟩ = some (.int .u64 (g : Int)) ∧ w.cell? ⟨l, 5, none⟩ = some (.int .u64 (t : Int)) ∧ w.cell? ⟨l, 6, none⟩ = some (.int .u64 (f : Int))
theorem Lg.ckc {w : World} {l b d n N : Nat} {g : LS} (h : Lg w l b d n N g) : CkC w l g.h.g g.next g.ep := ⟨h.cells.2.2.1, h.cells.2.2.2.2.2.1, h.cells.2.2.2.2.2.2.1⟩
theorem Lg.there2 {w : World} {l b d n N : Nat} {g : LS} (h : Lg w l b d n N g) : w.there l 2 3 := fun j hj => by
  obtain ⟨-, -, c2, c3, c4, -⟩ := h.cells
  match j, hj with
  | 0, _ => exact ⟨by rw [show 2 + 0 = 2 from rfl, c2]; rfl, h.blk.frozen 2⟩
  | 1, _ => exact ⟨by rw [show 2 + 1 = 3 from rfl, c3]; rfl, h.blk.frozen 3⟩
  | 2, _ => exact ⟨by rw [show 2 + 2 = 4 from rfl, c4]; rfl, h.blk.frozen 4⟩
theorem Lg.setHead {w : World} {l b d n N : Nat} {g : LS} (h : Lg w l b d n N g) (x : Hd) : Lg (w.setCells l 2 (h3 (x.g : Int) (x.t : Int) (x.f : Int)).toList) l b d n N { g with h := x } :=
  ⟨show Blk (((w.setCell ⟨l, 2, none⟩ (.int .u64 (x.g : Int))).setCell ⟨l, 3, none⟩ (.int .u64 (x.t : Int))).setCell ⟨l, 4, none⟩ (.int .u64 (x.f : Int))) l 74 _ from ((h.blk.set_ 2 _).set_ 3 _).set_ 4 _,
   h.mp.keep (setCells_heap l (fun e => h.ne e.symm) _ 2 w)⟩
theorem Lg.cleared {w w' : World} {l b d n N : Nat} {g : LS} (h : Lg w l b d n N g) (hm : Mp w' b (N - 2 - n) (fun _ => none)) (hg : w.grownBy w' (some b)) : Lg w' l b d n N { g with A := fun _ => none } :=
  ⟨h.blk.keep (hg.block l h.blk.lt (fun e => h.ne (by injection e))), hm⟩
theorem adv_grown {w w' : World} {l b : Nat} (hg : w.grownBy w' (some b)) : Adv (LF l b) w (LF l b) w' :=
  ⟨hg.os, hg.tape, hg.output, hg.size, fun k hk hn => hg.block k hk (fun e => hn (.inr (by injection e))), fun _ hk => .inl hk⟩

set_option maxRecDepth 3000 in
set_option maxHeartbeats 6400000 in
theorem gcheck_lg (l b d n N : Nat) (g : LS) (F : Nat → Prop) (s : DS) (w : World) (h : Rs w F d l b n N s g) (hn : 2 ≤ n ∧ n + 3 ≤ N ∧ N ≤ 4096) (hA : AOk (N - 2 - n) g.A) (hq : s.Q.length ≤ 800000) (hgg : g.h.g ≤ 1099511627776) (hnx : g.next < 18446744073709551616) (hep : g.ep < 18446744073709551616) :
    Calls Tryz.prog 14 #[.pointer (some ⟨l, 0, none⟩)] w (WrR w F d l b n N (checkG s n N g)) := by
  obtain ⟨R, hR⟩ : ∃ R, R = checkG s n N g := ⟨_, rfl⟩
  rw [← hR]
  have HR := Lib.hid hR
  have HS := Lib.hid h
  have HST := Lib.hid (gstays_lg h.lg)
  obtain ⟨E, hE⟩ : ∃ E, E = g.err := ⟨_, rfl⟩
  rw [← hE] at HST
  have HE := Lib.hid hE
  have HBR := Lib.hid (gbring_lg l b d n N g F s w h hn hA (by omega))
  obtain ⟨X, hX⟩ : ∃ x, x = bringS s n (N - 2 - n) g.A := ⟨_, rfl⟩
  have HXQ := Lib.hid (show X.1.Q.length ≤ 900000 by rw [hX]; exact Nat.le_trans (few_bring s n _ _) (by omega))
  rw [← hX] at HBR
  have HX := Lib.hid hX
  obtain ⟨XE, hXE⟩ : ∃ x, x = X.2 := ⟨_, rfl⟩
  rw [show BrR w F d l b n N g X = fun e w' => e = .returned (.int .i64 XE) ∧ ∃ F', Rs w' F' d l b n N X.1 g ∧ Adv (UF F l b) w (UF F' l b) w' by rw [hXE]; rfl] at HBR
  have HXE := Lib.hid hXE
  obtain ⟨gg, hgg'⟩ : ∃ x, x = g.h.g := ⟨_, rfl⟩
  obtain ⟨nx, hnx'⟩ : ∃ x, x = g.next := ⟨_, rfl⟩
  obtain ⟨ep, hep'⟩ : ∃ x, x = g.ep := ⟨_, rfl⟩
  obtain ⟨gN, hgN⟩ : ∃ x, x = gg + 1 := ⟨_, rfl⟩
  have hNE : hNew g = ⟨gN, nx, ep⟩ := by rw [hgN, hgg', hnx', hep']; rfl
  have HNE := Lib.hid hNE
  rw [← hgg'] at hgg
  rw [← hnx'] at hnx
  rw [← hep'] at hep
  have HGG := Lib.hid hgg
  have HNX := Lib.hid hnx
  have HEP := Lib.hid hep
  have HN := Lib.hid hn
  have HCK := Lib.hid (show ∀ (w' : World) (F' : Nat → Prop) (s' : DS), Rs w' F' d l b n N s' g → CkC w' l gg nx ep from fun _ _ _ h => by rw [hgg', hnx', hep']; exact h.lg.ckc)
  have HEQ := Lib.hid (show ep = g.ep from hep')
  have hwr : IntKind.u64.wrap ((gg : Int) + 1) = (gN : Int) := by
    rw [show (gg : Int) + 1 = (gN : Int) by omega]
    exact wrapU (by omega)
  have HGN := Lib.hid (show gN < 18446744073709551616 by omega)
  clear h hn hA hq hgg hnx hep hR hE hX hXE hgg' hnx' hep' hNE hgN
  by_cases h0 : E = 0
  · subst h0
    go_enter Tryz.func14, Tryz.ntmps14
    go_wp2_with fail
    refine HST.out.mono ?_
    rintro x w1 ⟨rfl, rfl⟩
    go_wp2_with fail
    refine HBR.out.mono ?_
    rintro x w1 ⟨rfl, F1, r1, a1⟩
    have HS1 := Lib.hid r1
    have HA1 := Lib.hid a1
    clear r1 a1
    by_cases hz : XE = 0
    · subst hz
      have HC0 := Lib.hid (HCK.out _ _ _ HS1.out)
      have HC1 := Lib.hid (show CkC w1.drew l gg nx ep from HC0.out)
      obtain ⟨z, hz⟩ : ∃ z, z = w1.heap.size := ⟨_, rfl⟩
      have HZ := Lib.hid hz
      obtain ⟨c2, c5, c6⟩ := HC0.out
      clear hz
      go_wp2_with fail
      refine rstart (S := (fun w' => CkC w' l gg nx ep)) (by first | with_reducible exact HC3.out | with_reducible exact HC2.out | with_reducible exact HC1.out | with_reducible exact HC0.out) (fun hH => ?_)
      refine tk (i := 0) (oi := ⟨some 19, .move (.tmp 0), 31, "redo.go:122", #[], none⟩) hH.out (by rintro w ⟨s0, s1, s2⟩; go_simp <;> with_reducible rfl) ?_
      simp only [Act.put, sA, sB, sC]
      refine tk (i := 1) (oi := ⟨some 20, .nilCheck (.tmp 19), 0, "redo.go:122", #[⟨0, .data⟩], none⟩) hH.out (by rintro w ⟨s0, s1, s2⟩; go_simp <;> with_reducible rfl) ?_
      simp only [Act.put, sA, sB, sC]
      refine tk (i := 2) (oi := ⟨some 21, .fieldAddr 74 (.tmp 20) 2, 0, "redo.go:122", #[⟨1, .data⟩], none⟩) hH.out (by rintro w ⟨s0, s1, s2⟩; go_simp <;> with_reducible rfl) ?_
      simp only [Act.put, sA, sB, sC]
      refine tk (i := 3) (oi := ⟨some 22, .fieldAddr 69 (.tmp 21) 0, 0, "redo.go:122", #[⟨2, .data⟩], none⟩) hH.out (by rintro w ⟨s0, s1, s2⟩; go_simp <;> with_reducible rfl) ?_
      simp only [Act.put, sA, sB, sC]
      refine tk (i := 4) (oi := ⟨some 23, .load 49 (.tmp 22), 49, "redo.go:122", #[⟨3, .data⟩], none⟩) hH.out (by rintro w ⟨s0, s1, s2⟩; go_simp <;> with_reducible rfl) ?_
      simp only [Act.put, sA, sB, sC]
      refine tk (i := 5) (oi := ⟨some 24, .binOp .add 49 (.tmp 23) (.const (Go.Value.int Go.IntKind.u64 1)) 49, 49, "redo.go:122", #[⟨4, .data⟩], none⟩) hH.out (by rintro w ⟨s0, s1, s2⟩; go_simp <;> with_reducible rfl) ?_
      simp only [Act.put, sA, sB, sC]
      refine tk (i := 6) (oi := ⟨some 25, .move (.tmp 0), 31, "redo.go:122", #[], none⟩) hH.out (by rintro w ⟨s0, s1, s2⟩; go_simp <;> with_reducible rfl) ?_
      simp only [Act.put, sA, sB, sC]
      refine tk (i := 7) (oi := ⟨some 26, .nilCheck (.tmp 25), 0, "redo.go:122", #[⟨6, .data⟩], none⟩) hH.out (by rintro w ⟨s0, s1, s2⟩; go_simp <;> with_reducible rfl) ?_
      simp only [Act.put, sA, sB, sC]
      refine tk (i := 8) (oi := ⟨some 27, .fieldAddr 74 (.tmp 26) 3, 0, "redo.go:122", #[⟨7, .data⟩], none⟩) hH.out (by rintro w ⟨s0, s1, s2⟩; go_simp <;> with_reducible rfl) ?_
      simp only [Act.put, sA, sB, sC]
      refine tk (i := 9) (oi := ⟨some 28, .load 49 (.tmp 27), 49, "redo.go:122", #[⟨8, .data⟩], none⟩) hH.out (by rintro w ⟨s0, s1, s2⟩; go_simp <;> with_reducible rfl) ?_
      simp only [Act.put, sA, sB, sC]
      refine tk (i := 10) (oi := ⟨some 29, .move (.tmp 0), 31, "redo.go:122", #[], none⟩) hH.out (by rintro w ⟨s0, s1, s2⟩; go_simp <;> with_reducible rfl) ?_
      simp only [Act.put, sA, sB, sC]
      refine tk (i := 11) (oi := ⟨some 30, .nilCheck (.tmp 29), 0, "redo.go:122", #[⟨10, .data⟩], none⟩) hH.out (by rintro w ⟨s0, s1, s2⟩; go_simp <;> with_reducible rfl) ?_
      simp only [Act.put, sA, sB, sC]
      refine tk (i := 12) (oi := ⟨some 31, .fieldAddr 74 (.tmp 30) 4, 0, "redo.go:122", #[⟨11, .data⟩], none⟩) hH.out (by rintro w ⟨s0, s1, s2⟩; go_simp <;> with_reducible rfl) ?_
      simp only [Act.put, sA, sB, sC]
      refine tk (i := 13) (oi := ⟨some 32, .load 49 (.tmp 31), 49, "redo.go:122", #[⟨12, .data⟩], none⟩) hH.out (by rintro w ⟨s0, s1, s2⟩; go_simp <;> with_reducible rfl) ?_
      simp only [Act.put, sA, sB, sC]
      refine tk (i := 14) (oi := ⟨some 33, .build 69 #[(0, .tmp 24), (1, .tmp 28), (2, .tmp 32)], 69, "redo.go:122", #[⟨5, .data⟩, ⟨9, .data⟩, ⟨13, .data⟩], none⟩) hH.out (by rintro w ⟨s0, s1, s2⟩; go_simp <;> with_reducible rfl) ?_
      simp only [Act.put, sA, sB, sC]
      refine rdy (i := 15) (oi := ⟨some 5, .alloc 69, 0, "redo.go:122", #[], none⟩) (fun K hK => ?_)
      go_simp
      have HB0 := Lib.hid (Blk.drew (Blk.new w1 69 #[.int .u64 0, .int .u64 0, .int .u64 0]))
      have HAV0 := Lib.hid (((Adv.refl Nul w1).alloc (.cells #[.int .u64 0, .int .u64 0, .int .u64 0] 69)).drew)
      have HC2 := Lib.hid (HCK.out _ _ _ (HS1.out.over HAV0.out))
      refine hK.out _ _ (by first | with_reducible exact HC3.out | with_reducible exact HC2.out | with_reducible exact HC1.out | with_reducible exact HC0.out) (fun hHeld => ?_)
      replace hH := Lib.hid hHeld
      clear hK K hHeld
      try simp only [Act.put, sA, sB, sC]
      refine rdy (i := 16) (oi := ⟨none, .store 69 (.tmp 5) (.tmp 33), 0, "redo.go:122", #[⟨15, .data⟩, ⟨14, .data⟩, ⟨0, .phase⟩, ⟨1, .phase⟩, ⟨2, .phase⟩, ⟨3, .phase⟩, ⟨4, .phase⟩, ⟨5, .phase⟩, ⟨6, .phase⟩, ⟨7, .phase⟩, ⟨8, .phase⟩, ⟨9, .phase⟩, ⟨10, .phase⟩, ⟨11, .phase⟩, ⟨12, .phase⟩, ⟨13, .phase⟩, ⟨14, .phase⟩, ⟨15, .phase⟩], none⟩) (fun K hK => ?_)
      refine st_store3 sizeHead rfl (.tmp 5) (.tmp 33) rfl _ _ (h3 (gN : Int) (nx : Int) (ep : Int)) HB0.out rfl rfl (h3_one _ _ _) rfl rfl ?_
      have HBV := Lib.hid (HB0.out.putAll (D := h3 (gN : Int) (nx : Int) (ep : Int)) rfl)
      have HAV := Lib.hid (Adv.lsetCells (h3 (gN : Int) (nx : Int) (ep : Int)).toList 0 _ HAV0.out (.inr (Nat.le_refl w1.heap.size)))
      have HC3 := Lib.hid (HCK.out _ _ _ (HS1.out.over HAV.out))
      refine hK.out _ _ (by first | with_reducible exact HC3.out | with_reducible exact HC2.out | with_reducible exact HC1.out | with_reducible exact HC0.out) (fun hHeld => ?_)
      replace hH := Lib.hid hHeld
      clear hK K hHeld
      try simp only [Act.put]
      refine wpAnyH_done (by kernel_rfl) ?_ _
      obtain ⟨V, hV⟩ : ∃ V, V = ((w1.alloc (.cells #[.int .u64 0, .int .u64 0, .int .u64 0] 69)).drew.setCells w1.heap.size 0 (h3 (gN : Int) (nx : Int) (ep : Int)).toList) := ⟨_, rfl⟩
      rw [← hV] at HBV HAV ⊢
      rw [← HZ.out] at HBV ⊢
      have HS2 := Lib.hid (HS1.out.over HAV.out)
      obtain ⟨Y, hY⟩ : ∃ x, x = saveG X.1 N ep ⟨gN, nx, ep⟩ := ⟨_, rfl⟩
      obtain ⟨YE, hYE⟩ : ∃ x, x = Y.2 := ⟨_, rfl⟩
      have HSAVE := Lib.hid (show Calls Tryz.prog 56 #[.pointer (some ⟨l, 0, none⟩), .agg #[.int .u64 (gN : Int), .int .u64 (nx : Int), .int .u64 (ep : Int)]] V fun e w' => e = .returned (.int .i64 YE) ∧ ∃ F', Rs w' F' d l b n N Y.1 g ∧ Adv (UF F1 l b) V (UF F' l b) w' by
        have h := gsave_lg l b d n N g F1 X.1 ⟨gN, nx, ep⟩ V HS2.out HXQ.out (by have := HN.out; omega) HGN.out HNX.out HEP.out
        rw [← HEQ.out, ← hY] at h
        rw [hYE]
        exact h)
      have HY := Lib.hid (show saveG X.1 N g.ep (hNew g) = Y by rw [HNE.out, ← HEQ.out, hY])
      have HYE := Lib.hid hYE
      have HZF := Lib.hid (show ¬ UF F1 l b z from fun hz => by have := HS1.out.bd z hz; rw [HZ.out] at this; omega)
      obtain ⟨z0, z1, z2⟩ := (show Blk V z 69 #[.int .u64 (gN : Int), .int .u64 (nx : Int), .int .u64 (ep : Int)] from HBV.out).three
      clear hV hY hYE c2 c5 c6
      go_wp2_with fail
      refine HSAVE.out.mono ?_
      rintro x w2 ⟨rfl, F2, r2, a2⟩
      have HS3 := Lib.hid r2
      have HA3 := Lib.hid (HA1.out.trans ((adv_nul (F := F1) (l := l) (b := b) HAV.out).trans a2))
      obtain ⟨y0, y1, y2⟩ := (show Blk w2 z 69 #[.int .u64 (gN : Int), .int .u64 (nx : Int), .int .u64 (ep : Int)] from (show Blk V z 69 #[.int .u64 (gN : Int), .int .u64 (nx : Int), .int .u64 (ep : Int)] from HBV.out).keep (a2.block z HBV.out.lt HZF.out)).three
      clear r2 a2 z0 z1 z2
      by_cases hz : YE = 0
      · subst hz
        obtain ⟨W3, hW3⟩ : ∃ W, W = w2.setCells l 2 (h3 (gN : Int) (nx : Int) (ep : Int)).toList := ⟨_, rfl⟩
        have HW3 := Lib.hid hW3
        have HL3 := Lib.hid (show Lg W3 l b d n N { g with h := ⟨gN, nx, ep⟩ } by rw [hW3]; exact HS3.out.lg.setHead ⟨gN, nx, ep⟩)
        have HA4 := Lib.hid (show Adv (LF l b) w2 (LF l b) W3 by rw [hW3]; exact Adv.lsetCells _ 2 _ (Adv.refl _ w2) (.inl (.inl rfl)))
        have HTH := Lib.hid HS3.out.lg.there2
        have HMP := Lib.hid (show Mp W3 b (N - 2 - n) g.A from HL3.out.mp)
        have c7 := HL3.out.cells.2.2.2.2.2.2.2.1
        clear hW3
        go_wp2_with (first
          | (refine wpList_store_mid rfl 69 (.tmp 45) (.tmp 43) rfl l 2 (h3 (gN : Int) (nx : Int) (ep : Int)) rfl rfl HTH.out sizeHead (h3_one _ _ _) ?_; rw [← HW3.out])
          | (refine op_clear rfl (.tmp 49) rfl b (N - 2 - n) g.A HMP.out rfl (fun w4 hm4 hg4 => ?_))
          | fail)
        go_ret
        have hl4 := HL3.out.cleared hm4 hg4
        have ha4 := HA4.out.trans (adv_grown (l := l) hg4)
        rw [HR.out]
        unfold checkG
        rw [if_pos HE.out.symm, ← HX.out, if_pos HXE.out.symm, HY.out, if_pos HYE.out.symm, HNE.out]
        exact ⟨rfl, F2, HS3.out.log ha4 hl4, HA3.out.trans (adv_log ha4)⟩
      · have hb : ((YE : Int) != 0) = true := by rw [bne_iff_ne]; exact hz
        have hb2 : ((YE : Int) == 0) = false := by rw [beq_eq_false_iff_ne]; exact hz
        have HKP := Lib.hid (gkeep_lg YE HS3.out.lg)
        have HNZ := Lib.hid hz
        clear hz
        go_wp2_with fail
        refine HKP.out.mono ?_
        rintro x w3 ⟨rfl, l3, a3⟩
        have HF := Lib.hid (show WrR w F d l b n N R (.returned (.int .i64 YE)) w3 by
          rw [HR.out]
          unfold checkG
          rw [if_pos HE.out.symm, ← HX.out, if_pos HXE.out.symm, HY.out, if_neg (by rw [← HYE.out]; exact HNZ.out), ← HYE.out]
          exact ⟨rfl, F2, HS3.out.log a3 l3, HA3.out.trans (adv_log a3)⟩)
        clear l3 a3
        go_wp2_with fail
        go_ret
        exact HF.out
    · have hb : ((XE : Int) != 0) = true := by rw [bne_iff_ne]; exact hz
      have hb2 : ((XE : Int) == 0) = false := by rw [beq_eq_false_iff_ne]; exact hz
      have HKP := Lib.hid (gkeep_lg XE HS1.out.lg)
      have HNZ := Lib.hid hz
      clear hz
      go_wp2_with fail
      refine HKP.out.mono ?_
      rintro x w3 ⟨rfl, l3, a3⟩
      have HF := Lib.hid (show WrR w F d l b n N R (.returned (.int .i64 XE)) w3 by
        rw [HR.out]
        unfold checkG
        rw [if_pos HE.out.symm, ← HX.out, if_neg (by rw [← HXE.out]; exact HNZ.out), ← HXE.out]
        exact ⟨rfl, F1, HS1.out.log a3 l3, HA1.out.trans (adv_log a3)⟩)
      clear l3 a3
      go_wp2_with fail
      go_ret
      exact HF.out
  · have hb : ((E : Int) != 0) = true := by rw [bne_iff_ne]; exact h0
    have hb2 : ((E : Int) == 0) = false := by rw [beq_eq_false_iff_ne]; exact h0
    have HF := Lib.hid (show WrR w F d l b n N R (.returned (.int .i64 E)) w by
      rw [HR.out]
      unfold checkG
      rw [if_neg (by rw [← HE.out]; exact h0), ← HE.out]
      exact ⟨rfl, F, HS.out, Adv.refl _ _⟩)
    clear h0
    go_enter Tryz.func14, Tryz.ntmps14
    go_wp2_with fail
    refine HST.out.mono ?_
    rintro x w1 ⟨rfl, rfl⟩
    go_wp2_with fail
    go_ret
    exact HF.out
end Go.Proofs.YtbdjlmdbnoghnaaGreat
namespace Go.Proofs.YtbdjlmdbnoghnaaGreat
open Go.RowKit

theorem unO_odd {l : List Nat} {k : Nat} {h : Hd} (e : unO l k = some h) : h.g % 2 = k := by
  unfold unO at e
  cases hl : unHd l with
  | none => rw [hl] at e; simp at e
  | some h' =>
    rw [hl] at e
    simp only [Option.bind_some] at e
    split at e
    · next hh => injection e with e; rw [← e]; exact hh
    · simp at e
theorem nx_none (o : Option Hd) : nx none o = o := by
  cases o with
  | none => rfl
  | some h =>
    show (if hZ.g ≤ h.g then some h else none) = some h
    exact if_pos (Nat.zero_le _)
theorem curAt2 (s : DS) (p : Nat) : curAt s p 2 = nx (unO (isS s p) 0) (unO (isS s (p + 1)) 1) := by
  rw [curAt_succ, curAt_succ]
  show nx (nx none _) _ = _
  rw [nx_none, Nat.add_zero]
end Go.Proofs.YtbdjlmdbnoghnaaGreat
namespace Go.Proofs.YtbdjlmdbnoghnaaGreat
open Go.RowKit

set_option maxRecDepth 3000 in
theorem fits_any (x : Nat) (n : Int) (w : World) (hx : x < 18446744073709551616) :
    Calls Tryz.prog 115 #[.int .u64 x, .int .i64 n] w fun e w' => e = .returned (.bool (decide (0 ≤ n ∧ n ≤ 64 ∧ x < 2 ^ n.toNat))) ∧ w = w' := by
  by_cases h0 : n < 0
  · rw [decide_eq_false (by omega)]
    go_enter Tryz.func115, Tryz.ntmps115
    go_wp2
    go_ret
    exact ⟨rfl, rfl⟩
  by_cases h1 : 64 < n
  · rw [decide_eq_false (by omega)]
    go_enter Tryz.func115, Tryz.ntmps115
    go_wp2
    go_ret
    exact ⟨rfl, rfl⟩
  obtain ⟨k, rfl⟩ := Int.eq_ofNat_of_zero_le (show 0 ≤ n by omega)
  by_cases h64 : k = 64
  · subst h64
    rw [decide_eq_true (by simp only [Int.toNat_natCast]; exact ⟨by omega, by omega, by simpa using hx⟩)]
    go_enter Tryz.func115, Tryz.ntmps115
    go_wp2
    go_ret
    exact ⟨rfl, rfl⟩
  have hk : ((k : Int) == 64) = false := by simp; omega
  have hp : 2 ^ k < 2 ^ 64 := Nat.pow_lt_pow_right (by decide) (by omega)
  have hp0 : 0 < 2 ^ k := Nat.two_pow_pos k
  have e1 : IntKind.u64.wrap (2 ^ k) = ((2 ^ k : Nat) : Int) := by
    rw [IntKind.wrap_u64, show ((2 : Int) ^ k) = ((2 ^ k : Nat) : Int) from by simp]
    omega
  obtain ⟨p, hpe⟩ : ∃ p, p = 2 ^ k := ⟨_, rfl⟩
  rw [← hpe] at e1
  by_cases hf : x < 2 ^ k
  · rw [decide_eq_true ⟨by omega, by omega, by simpa using hf⟩]
    have hf' : (x : Int) < p := by omega
    clear hp hp0 hpe
    go_enter Tryz.func115, Tryz.ntmps115
    go_wp2
    go_ret
    exact ⟨rfl, rfl⟩
  · rw [decide_eq_false (by simp only [Int.toNat_natCast]; omega)]
    have hf' : decide (x < p) = false := by simp only [decide_eq_false_iff_not]; omega
    clear hp hp0 hpe
    go_enter Tryz.func115, Tryz.ntmps115
    go_wp2
    go_ret
    exact ⟨rfl, rfl⟩
end Go.Proofs.YtbdjlmdbnoghnaaGreat
