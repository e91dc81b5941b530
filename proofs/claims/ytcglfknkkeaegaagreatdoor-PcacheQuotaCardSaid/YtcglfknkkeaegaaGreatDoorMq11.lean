/- What is not home is brought home: words, keys in their order. Read. What is not home is brought home: the walk. Save, the program's. save: a head is saved. -/
import Derived.Test.YtcglfknkkeaegaaGreatDoorMq10
import Derived.Maps.Range
import Derived.Test.YtcglfknkkeaegaaGreatDoorMq07
import Derived.Test.YtcglfknkkeaegaaGreatDoorMq09
import Derived.Test.YtcglfknkkeaegaaGreatDoorMq08
namespace Go.Proofs.YtcglfknkkeaegaaGreatDoor
open Go.RowKit Go.Maps Go.Sort

def keysL (A : Nat → Option (List Nat)) (M : Nat) : List Nat := (List.range M).filter (fun i => (A i).isSome)
def awayL (A : Nat → Option (List Nat)) (M : Nat) : List (Nat × List Nat) := (keysL A M).map (fun i => (i, (A i).getD (List.replicate 128 0)))
def putHomes (s : DS) (n : Nat) : List (Nat × List Nat) → DS × Int
  | [] => (s, 0)
  | q :: qs => if (writeS s ((2 + n + q.1 : Nat) : Int) q.2).2 = 0 then putHomes (writeS s ((2 + n + q.1 : Nat) : Int) q.2).1 n qs else writeS s ((2 + n + q.1 : Nat) : Int) q.2
def bringS (s : DS) (n M : Nat) (A : Nat → Option (List Nat)) : DS × Int :=
  if (flushS s).2 = 0 then (if (putHomes (flushS s).1 n (awayL A M)).2 = 0 then flushS (putHomes (flushS s).1 n (awayL A M)).1 else putHomes (flushS s).1 n (awayL A M)) else flushS s
theorem strict_eq : ∀ {l1 l2 : List Int}, l1.Pairwise (· < ·) → l2.Pairwise (· < ·) → (∀ x, x ∈ l1 ↔ x ∈ l2) → l1 = l2
  | [], [], _, _, _ => rfl
  | [], y :: _, _, _, h => absurd ((h y).mpr (by simp)) (by simp)
  | x :: _, [], _, _, h => absurd ((h x).mp (by simp)) (by simp)
  | x :: l1, y :: l2, h1, h2, h => by
    obtain ⟨a1, b1⟩ := List.pairwise_cons.mp h1
    obtain ⟨a2, b2⟩ := List.pairwise_cons.mp h2
    have hxy : x = y := by
      rcases List.mem_cons.mp ((h x).mp (by simp)) with e | e
      · exact e
      · rcases List.mem_cons.mp ((h y).mpr (by simp)) with e' | e'
        · exact e'.symm
        · have := a2 x e; have := a1 y e'; omega
    subst hxy
    congr 1
    refine strict_eq b1 b2 (fun z => ⟨fun hz => ?_, fun hz => ?_⟩)
    · rcases List.mem_cons.mp ((h z).mp (by simp [hz])) with e | e
      · have := a1 z hz; omega
      · exact e
    · rcases List.mem_cons.mp ((h z).mpr (by simp [hz])) with e | e
      · have := a2 z hz; omega
      · exact e
theorem keysL_strict (A : Nat → Option (List Nat)) (M : Nat) : ((keysL A M).map (fun i : Nat => (i : Int))).Pairwise (· < ·) := by
  rw [List.pairwise_map]
  have h : (List.range M).Pairwise (· < ·) := List.pairwise_lt_range
  exact (h.sublist List.filter_sublist).imp (fun {a b} (h : a < b) => by omega)
/-- the keys, sorted -/
theorem keys_sorted {M : Nat} {A : Nat → Option (List Nat)} {D : DU} {ss : List Int} (h : MpD M A D) (ho : ∃ es, D = .map es ∧ es.Pairwise (fun p q => p.1 ≠ q.1) ∧ ∀ p ∈ es, WideAt.IsKeyLit p.1) (hp : ss.Perm (intKeys D)) : ss.mergeSort (fun x y => decide (x ≤ y)) = (keysL A M).map (fun i : Nat => (i : Int)) := by
  obtain ⟨es, rfl, hd, hkl⟩ := ho
  have hk : ∀ p ∈ es, ∃ i, i < M ∧ p.1 = ik i := fun p hpm => by
    exact h.keys p.1 (hkl p hpm) (by rw [has_eq, List.any_eq_true]; exact ⟨p, hpm, WideAt.sameKey_self (hkl p hpm)⟩)
  have hnd : (intKeys (DataW.map es)).Nodup := by
    unfold intKeys
    rw [List.Nodup, List.pairwise_map]
    refine hd.imp_of_mem (fun {p q} hp hq hne e => ?_)
    obtain ⟨i, _, hi⟩ := hk p hp
    obtain ⟨j, _, hj⟩ := hk q hq
    rw [hi, hj] at e hne
    apply hne
    have : (i : Int) = (j : Int) := e
    have : i = j := by omega
    rw [this]
  have hmem : ∀ x : Int, x ∈ intKeys (DataW.map es) ↔ ∃ i : Nat, i < M ∧ (A i).isSome = true ∧ x = (i : Int) := fun x => by
    unfold intKeys
    rw [List.mem_map]
    constructor
    · rintro ⟨p, hp, rfl⟩
      obtain ⟨i, hi, e⟩ := hk p hp
      refine ⟨i, hi, ?_, by rw [e]; rfl⟩
      rw [← h.has i hi, has_eq, List.any_eq_true]
      exact ⟨p, hp, by rw [e]; exact WideAt.sameKey_self (ik_key i)⟩
    · rintro ⟨i, hi, hs, rfl⟩
      rw [← h.has i hi, has_eq, List.any_eq_true] at hs
      obtain ⟨p, hp, hk'⟩ := hs
      have := WideAt.sameKey_eq hk'
      exact ⟨p, hp, by rw [this]; rfl⟩
  refine strict_eq ?_ (keysL_strict A M) (fun x => ?_)
  · have h1 : (ss.mergeSort (fun x y => decide (x ≤ y))).Pairwise (fun x y => decide (x ≤ y) = true) := List.pairwise_mergeSort (fun a b c => by simp; omega) (fun a b => by simp; omega) ss
    have h2 : (ss.mergeSort (fun x y => decide (x ≤ y))).Nodup := ((List.mergeSort_perm ss _).trans hp).nodup_iff.mpr hnd
    exact (h1.and h2).imp (fun {a b} hab => by have := of_decide_eq_true hab.1; have := hab.2; omega)
  · rw [((List.mergeSort_perm ss _).trans hp).mem_iff, hmem]
    unfold keysL
    simp only [List.mem_map, List.mem_filter, List.mem_range]
    constructor
    · rintro ⟨i, hi, hs, rfl⟩; exact ⟨i, ⟨hi, hs⟩, rfl⟩
    · rintro ⟨i, ⟨hi, hs⟩, rfl⟩; exact ⟨i, hi, hs, rfl⟩
theorem op_look1 {ops : Array Oper} {rest : List Oper} {o : Oper} {a : Act} {w : World} {Q : Exit → Act → World → Prop} (hgd : o.guard = none) (m x : Operand) (ho : o.op = Op.lookup 143 m x false) (b N i : Nat) (A : Nat → Option (List Nat)) (hM : Mp w b N A) (hm : a.eval m = .map (some b)) (hx : a.eval x = .int .i64 (i : Int)) (hi : i < N) (hN : N ≤ 4096)
    {X : List Nat} (hX : X = (A i).getD (List.replicate 128 0))
    (hK : wpList Tryz.prog ops Q rest (a.put o.dst (.agg ((X.map u8).toArray))) w) : wpList Tryz.prog ops Q (o :: rest) a w := by
  subst hX
  obtain ⟨D, h, d⟩ := hM
  refine wpList_plain hgd fun K' hK' => ?_
  obtain ⟨v, ps, hrun, hv⟩ := h.lookup keyed_int Tryz.underlying143 (zero_run infoSec) (zd := secD (List.replicate 128 0)) (zp := []) (by rw [zS, ← List.map_replicate]; exact secR_mk _) (key_ik (i := i) (by omega))
  rw [d.at_ i hi] at hv
  have e : ((A i).map secD).getD (secD (List.replicate 128 0)) = secD ((A i).getD (List.replicate 128 0)) := by cases A i <;> rfl
  rw [e] at hv
  rw [secR_inv hv] at hrun
  unfold Oper.wp
  simp [execOp, ho, hm, hx, hrun, Result.andThen]
  exact hK' _ _ hK
end Go.Proofs.YtcglfknkkeaegaaGreatDoor
namespace Go.Proofs.YtcglfknkkeaegaaGreatDoor
open Go.RowKit Go.Maps

def homeG (s : DS) (n : Nat) (g : LS) (i : Nat) : List Nat := (g.A i).getD (isS s (2 + n + i))
/-- what is not home is a sector of a home -/
def AOk (M : Nat) (A : Nat → Option (List Nat)) : Prop := ∀ i x, A i = some x → i < M ∧ x.length = 128 ∧ ∀ y ∈ x, y < 256
theorem AOk.none (M : Nat) : AOk M (fun _ => none) := fun _ _ h => by cases h
theorem AOk.set {M i : Nat} {A : Nat → Option (List Nat)} {x : List Nat} (h : AOk M A) (hi : i < M) (hl : x.length = 128) (h8 : ∀ y ∈ x, y < 256) : AOk M (setA A i x) := fun j y hy => by
  unfold setA at hy
  split at hy
  · injection hy with hy; subst hy; rename_i e; rw [e]; exact ⟨hi, hl, h8⟩
  · exact h j y hy
theorem op_look2 {ops : Array Oper} {rest : List Oper} {o : Oper} {a : Act} {w : World} {Q : Exit → Act → World → Prop} (hgd : o.guard = none) (m x : Operand) (ho : o.op = Op.lookup 143 m x true) (b N i : Nat) (A : Nat → Option (List Nat)) (hM : Mp w b N A) (hm : a.eval m = .map (some b)) (hx : a.eval x = .int .i64 (i : Int)) (hi : i < N) (hN : N ≤ 4096)
    {X : List Nat} {B : Bool} (hX : X = (A i).getD (List.replicate 128 0)) (hB : B = (A i).isSome)
    (hK : wpList Tryz.prog ops Q rest (a.put o.dst (.tuple #[.agg ((X.map u8).toArray), .bool B])) w) : wpList Tryz.prog ops Q (o :: rest) a w := by
  subst hX hB
  exact op_look hgd m x ho b N i A hM hm hx hi hN hK
def RdR (w : World) (X : List Nat) (e : Ending) (w' : World) : Prop := ∃ z, e = .returned (.tuple #[.slice (some ⟨z, 0, none⟩) 128 128, .int .i64 0]) ∧ w.heap.size ≤ z ∧ z < w'.heap.size ∧ Rd w' 1 (.slice (some ⟨z, 0, none⟩) 128 128) 128 (X.map u8) ∧ X.length = 128 ∧ Adv Nul w Nul w'
theorem Blk.rdS8 {w : World} {z : Nat} {t : TypeId} {X : List Nat} (h : Blk w z t (X.map u8).toArray) (hl : X.length = 128) : Rd w 1 (.slice (some ⟨z, 0, none⟩) 128 128) 128 (X.map u8) :=
  ⟨_, 128, rfl, Nat.le_refl _, by unfold maxLen; omega, by simpa using hl, fun e => (by cases e), fun _ => ⟨_, rfl, h.lt, fun j u hu => by
    have e : (⟨z, 0, none⟩ : Addr).add j = ⟨z, j, none⟩ := by rw [add_none, Nat.zero_add]
    rw [e, h.cell]
    simpa using hu⟩⟩

set_option maxRecDepth 3000 in
set_option maxHeartbeats 6400000 in
theorem gread_lg (l b d n N i : Nat) (g : LS) (F : Nat → Prop) (s : DS) (w : World) (h : Rs w F d l b n N s g) (hn : 2 ≤ n ∧ n + 3 ≤ N ∧ N ≤ 4096) (hA : AOk (N - 2 - n) g.A) (hi : i < N - 2 - n) :
    Calls Tryz.prog 77 #[.pointer (some ⟨l, 0, none⟩), .int .i64 (i : Int)] w (RdR w (homeG s n g i)) := by
  have HMD := Lib.hid (gmade_lg h.lg)
  have HHM := Lib.hid (ghomes_lg h.lg h.dk hn.2.2 (by omega))
  obtain ⟨Hm, hHm⟩ : ∃ x, x = N - 2 - n := ⟨_, rfl⟩
  rw [← hHm] at HHM hA hi
  have hiI : (i : Int) < (Hm : Int) := by omega
  have hi0 : (0 : Int) ≤ (i : Int) := by omega
  obtain ⟨X, hX⟩ : ∃ X, X = (g.A i).getD (List.replicate 128 0) := ⟨_, rfl⟩
  obtain ⟨B, hB⟩ : ∃ B, B = (g.A i).isSome := ⟨_, rfl⟩
  have hXl : X.length = 128 := by
    rw [hX]
    cases e : g.A i with
    | none => simp
    | some x => exact (hA i x e).2.1
  have HXL := Lib.hid hXl
  have HX := Lib.hid hX
  have HB := Lib.hid hB
  have HS := Lib.hid h
  have HI := Lib.hid hi
  have HHm := Lib.hid hHm
  have HN := Lib.hid hn
  have c7 := h.lg.cells.2.2.2.2.2.2.2.1
  have c0 := h.lg.cells.1
  clear h hn hA hi hHm hX hB hXl
  go_enter Tryz.func77, Tryz.ntmps77
  go_wp2_with fail
  refine HMD.out.mono ?_
  rintro x w1 ⟨rfl, rfl⟩
  go_wp2_with fail
  refine HHM.out.mono ?_
  rintro x w1 ⟨rfl, k1, rfl⟩
  obtain ⟨w1, hw1⟩ : ∃ W, W = w.drewN k1 := ⟨_, rfl⟩
  rw [← hw1]
  have ha1 : Adv Nul w Nul w1 := by rw [hw1]; exact (Adv.refl Nul w).drewN k1
  have HS1 := Lib.hid (HS.out.over ha1)
  have HA1 := Lib.hid ha1
  have c7' := HS1.out.lg.cells.2.2.2.2.2.2.2.1
  have c0' := HS1.out.lg.cells.1
  have HMP := Lib.hid (show Mp w1 b Hm g.A by rw [HHm.out]; exact HS1.out.lg.mp)
  have HN4 := Lib.hid (show Hm ≤ 4096 by have := HHm.out; have := HN.out; omega)
  clear ha1 c7 c0 hw1
  go_upto_region 6 with (first
    | (refine op_look2 rfl _ _ rfl b Hm i g.A HMP.out rfl rfl HI.out HN4.out HX.out HB.out ?_)
    | (refine op_alloc_sec rfl rfl ?_)
    | (refine op_store_sec rfl _ _ rfl _ rfl X HXL.out rfl rfl ?_)
    | fail)
  obtain ⟨z, hz⟩ : ∃ z, z = w1.heap.size := ⟨_, rfl⟩
  obtain ⟨V, hV⟩ : ∃ V, V = w1.alloc (.cells (X.map u8).toArray 182) := ⟨_, rfl⟩
  rw [← hV, ← hz]
  have hav : Adv Nul w1 Nul V := by rw [hV]; exact (Adv.refl _ _).alloc _
  have HZB := Lib.hid (show Blk V z 182 (X.map u8).toArray by rw [hV, hz]; exact Blk.new _ _ _)
  have HSV := Lib.hid (HS1.out.over hav)
  have HAV := Lib.hid (HA1.out.trans hav)
  have HZ := Lib.hid (show w.heap.size ≤ z by rw [hz]; exact HA1.out.size)
  clear hV hz hav c7' c0'
  cases B with
  | true =>
    have HF := Lib.hid (show RdR w (homeG s n g i) (.returned (.tuple #[.slice (some ⟨z, 0, none⟩) 128 128, .int .i64 0])) V by
      have e : homeG s n g i = X := by
        rw [HX.out]
        unfold homeG
        obtain ⟨x, hx⟩ := Option.isSome_iff_exists.1 HB.out.symm
        rw [hx]; rfl
      rw [e]
      exact ⟨z, rfl, HZ.out, HZB.out.lt, HZB.out.rdS8 HXL.out, HXL.out, HAV.out⟩)
    go_wp2_with fail
    exact bodyPost_ret (v := .tuple #[.slice (some ⟨z, 0, none⟩) 128 128, .int .i64 0]) (by simp [results, Tryz.results77, go_sem]) rfl HF.out
  | false =>
    have c0 := HSV.out.lg.cells.1
    have HC := Lib.hid c0
    have HCD := Lib.hid (show V.drew.cell? ⟨l, 0, none⟩ = some (.pointer (some ⟨d, 0, none⟩)) from c0)
    have HHO := Lib.hid (ghome_lg (w := V.drew) i (show Lg V.drew l b d n N g from ⟨HSV.out.lg.blk, HSV.out.lg.mp⟩) (by have := HI.out; have := HN4.out; omega) (by have := HN.out; omega))
    have HRD := Lib.hid (read_dk d N F s (2 + n + i) V.drew (HSV.out.dk.far ((Adv.refl Nul V).drew) (fun _ x _ => x)) (by have := HI.out; have := HHm.out; omega))
    have HKEEP := Lib.hid (show ∀ w', Adv Nul V.drew Nul w' → w'.cell? ⟨l, 0, none⟩ = some (.pointer (some ⟨d, 0, none⟩)) from fun w' a => (HSV.out.over (Adv.of_drew a)).lg.cells.1)
    obtain ⟨hm, hhm⟩ : ∃ x, x = 2 + n + i := ⟨_, rfl⟩
    rw [← hhm] at HHO HRD
    have HHMM := Lib.hid hhm
    clear hhm
    go_wp2_with fail
    refine rstart (S := (fun w' => w'.cell? ⟨l, 0, none⟩ = some (.pointer (some ⟨d, 0, none⟩)))) (by first | with_reducible exact HC7.out | with_reducible exact HCD.out | with_reducible exact HC.out) (fun hH => ?_)
    refine tk (i := 0) (oi := ⟨some 30, .move (.tmp 0), 72, "redo.go:81", #[], none⟩) hH.out (by rintro w s0; go_simp <;> with_reducible rfl) ?_
    simp only [Act.put, sA, sB, sC]
    refine tk (i := 1) (oi := ⟨some 31, .nilCheck (.tmp 30), 0, "redo.go:81", #[⟨0, .data⟩], none⟩) hH.out (by rintro w s0; go_simp <;> with_reducible rfl) ?_
    simp only [Act.put, sA, sB, sC]
    refine tk (i := 2) (oi := ⟨some 32, .fieldAddr 145 (.tmp 31) 0, 0, "redo.go:81", #[⟨1, .data⟩], none⟩) hH.out (by rintro w s0; go_simp <;> with_reducible rfl) ?_
    simp only [Act.put, sA, sB, sC]
    refine tk (i := 3) (oi := ⟨some 33, .load 25 (.tmp 32), 25, "redo.go:81", #[⟨2, .data⟩], none⟩) hH.out (by rintro w s0; go_simp <;> with_reducible rfl) ?_
    simp only [Act.put, sA, sB, sC]
    refine tk (i := 4) (oi := ⟨some 34, .move (.tmp 0), 72, "redo.go:81", #[], none⟩) hH.out (by rintro w s0; go_simp <;> with_reducible rfl) ?_
    simp only [Act.put, sA, sB, sC]
    refine tk (i := 5) (oi := ⟨some 35, .move (.tmp 1), 3, "redo.go:81", #[], none⟩) hH.out (by rintro w s0; go_simp <;> with_reducible rfl) ?_
    simp only [Act.put, sA, sB, sC]
    refine rdy (i := 6) (oi := ⟨some 36, .call ⟨.value (.func 116), #[.tmp 34, .tmp 35], #[72, 3]⟩, 3, "redo.go:81", #[⟨4, .data⟩, ⟨5, .data⟩], none⟩) (fun K hK => ?_)
    go_simp
    refine HHO.out.mono ?_
    rintro x w6 ⟨rfl, rfl⟩
    go_wp2_with fail
    refine hK.out _ _ (by first | with_reducible exact HC7.out | with_reducible exact HCD.out | with_reducible exact HC.out) (fun hHeld => ?_)
    replace hH := Lib.hid hHeld
    clear hK K hHeld
    try simp only [Act.put, sA, sB, sC]
    refine rdy (i := 7) (oi := ⟨some 37, .call ⟨.value (.func 105), #[.tmp 33, .tmp 36], #[25, 3]⟩, 119, "redo.go:81", #[⟨3, .data⟩, ⟨6, .data⟩, ⟨6, .chain⟩], none⟩) (fun K hK => ?_)
    go_simp
    refine HRD.out.mono ?_
    rintro x w7 ⟨y, rfl, b7, l7, a7⟩
    have HC7 := Lib.hid (HKEEP.out w7 (a7.sub (G := Nul) (fun _ x => x.elim)))
    have HF := Lib.hid (show RdR w (homeG s n g i) (.returned (.tuple #[.slice (some ⟨y, 0, none⟩) 128 128, .int .i64 0])) w7 by
      have e : homeG s n g i = isS s hm := by
        unfold homeG
        have : g.A i = none := by
          cases h : g.A i with
          | none => rfl
          | some x => have := HB.out; rw [h] at this; cases this
        rw [this, HHMM.out]; rfl
      rw [e]
      exact ⟨y, rfl, Nat.le_trans HAV.out.size (by rcases a7.into y rfl with h | h; exact h.elim; exact h), b7.lt, b7.rdS8 l7, l7, HAV.out.trans (Adv.of_drew (a7.sub (G := Nul) (fun _ x => x.elim)))⟩)
    clear b7 l7 a7
    go_wp2_with fail
    refine hK.out _ _ (by first | with_reducible exact HC7.out | with_reducible exact HCD.out | with_reducible exact HC.out) (fun hHeld => ?_)
    replace hH := Lib.hid hHeld
    clear hK K hHeld
    try simp only [Act.put, sA, sB, sC]
    refine tk (i := 8) (oi := ⟨some 38, .extract (.tmp 37) 0, 118, "redo.go:81", #[⟨7, .data⟩], none⟩) hH.out (by rintro w s0; go_simp <;> with_reducible rfl) ?_
    simp only [Act.put, sA, sB, sC]
    refine tk (i := 9) (oi := ⟨some 39, .extract (.tmp 37) 1, 26, "redo.go:81", #[⟨7, .data⟩], none⟩) hH.out (by rintro w s0; go_simp <;> with_reducible rfl) ?_
    simp only [Act.put, sA, sB, sC]
    refine tk (i := 10) (oi := ⟨some 4, .assign (.tmp 38), 118, "redo.go:81", #[⟨8, .data⟩, ⟨7, .chain⟩, ⟨0, .phase⟩, ⟨1, .phase⟩, ⟨2, .phase⟩, ⟨3, .phase⟩, ⟨4, .phase⟩, ⟨5, .phase⟩, ⟨6, .phase⟩, ⟨7, .phase⟩, ⟨8, .phase⟩, ⟨9, .phase⟩], none⟩) hH.out (by rintro w s0; go_simp <;> with_reducible rfl) ?_
    simp only [Act.put, sA, sB, sC]
    refine tk (i := 11) (oi := ⟨some 5, .assign (.tmp 39), 26, "redo.go:81", #[⟨9, .data⟩, ⟨10, .chain⟩, ⟨0, .phase⟩, ⟨1, .phase⟩, ⟨2, .phase⟩, ⟨3, .phase⟩, ⟨4, .phase⟩, ⟨5, .phase⟩, ⟨6, .phase⟩, ⟨7, .phase⟩, ⟨8, .phase⟩, ⟨9, .phase⟩, ⟨10, .phase⟩], none⟩) hH.out (by rintro w s0; go_simp <;> with_reducible rfl) ?_
    simp only [Act.put, sA, sB, sC]
    refine wpAnyH_done (by kernel_rfl) ?_ _
    go_wp2_with fail
    exact bodyPost_ret (v := .tuple #[.slice (some ⟨y, 0, none⟩) 128 128, .int .i64 0]) (by simp [results, Tryz.results77, go_sem]) rfl HF.out
end Go.Proofs.YtcglfknkkeaegaaGreatDoor
namespace Go.Proofs.YtcglfknkkeaegaaGreatDoor
open Go.RowKit Go.Maps Go.Sort

/-- the keys' row -/
def KRow (w : World) (G : Nat → Prop) (A : Option Addr) (ks : List Nat) : Prop := 0 < ks.length → ∃ g, A = some ⟨g, 0, none⟩ ∧ g < w.heap.size ∧ ¬ G g ∧ ∀ i (hi : i < ks.length), w.cell? ⟨g, i, none⟩ = some (.int .i64 (ks[i] : Int))
theorem KRow.at_ {w w' : World} {G G' : Nat → Prop} {A : Option Addr} {ks : List Nat} {k : Nat} (h : KRow w G A ks) (ha : Adv G w G' w') (hk : k < ks.length) : ∃ g, A = some ⟨g, 0, none⟩ ∧ w'.cell? ⟨g, k, none⟩ = some (.int .i64 (ks[k] : Int)) := by
  obtain ⟨g, rfl, hl, hg, hc⟩ := h (by omega)
  exact ⟨g, rfl, (World.cell?_of_block (ha.block g hl hg)).trans (hc k hk)⟩
theorem keysL_len (A : Nat → Option (List Nat)) (M : Nat) : (keysL A M).length ≤ M := by
  unfold keysL
  exact Nat.le_trans (List.length_filter_le _ _) (by simp)
theorem keysL_lt {A : Nat → Option (List Nat)} {M k : Nat} (hk : k < (keysL A M).length) : (keysL A M)[k] < M := by
  have := List.getElem_mem hk
  unfold keysL at this
  exact List.mem_range.1 (List.mem_filter.1 this).1
theorem srt_lg {w : World} {l b d n N : Nat} {g : LS} (h : Lg w l b d n N g) (hN : N - 2 - n ≤ 4096) (G : Nat → Prop) (hG : Bd G w) :
    Calls Tryz.prog 166 #[.func (.func 188) #[] #[.pointer (some ⟨w.heap.size, 0, none⟩)]] (w.alloc (.cells #[.map (some b)] 143)) fun e w' => ∃ (A : Option Addr) (c : Nat), e = .returned (.slice A (keysL g.A (N - 2 - n)).length c) ∧ KRow w' G A (keysL g.A (N - 2 - n)) ∧ Adv Nul w Nul w' := by
  obtain ⟨D, ho, hd⟩ := h.mp
  have hsz : Maps.size D ≤ 4096 := by rw [hd.size]; exact Nat.le_trans (cnt_le _ _) hN
  refine (sorted_call b _ D secR w ho (by unfold maxLen; omega) (by omega)).mono ?_
  rintro e w' ⟨v, ss, rfl, hp, hrow, hb⟩
  have hk := keys_sorted hd (ho.entries keyed_int) hp
  have hl : ss.length = (keysL g.A (N - 2 - n)).length := by
    have := congrArg List.length hk
    simpa using this
  rw [hk, hl] at hrow
  obtain ⟨hlen, hr⟩ := hrow
  rcases hr with ⟨rfl, h0⟩ | ⟨q, cap, cur, rfl, hq, hblk, hcap, hmax, hcs, htake⟩
  · rw [h0]
    exact ⟨none, 0, rfl, fun hp => by omega, Adv.of_below hb⟩
  · refine ⟨_, cap, rfl, fun hp => ⟨q, rfl, ?_, fun hg => ?_, fun i hi => ?_⟩, Adv.of_below hb⟩
    · exact (Array.getElem?_eq_some_iff.1 hblk).1
    · have := hG q hg; omega
    · have hc : cur.toList[i]? = some (.int .i64 ((keysL g.A (N - 2 - n))[i] : Int)) := by
        have h1 : (cur.toList.take ((keysL g.A (N - 2 - n)).length * 1))[i]? = some (.int .i64 ((keysL g.A (N - 2 - n))[i] : Int)) := by
          rw [htake]
          simp [encZ, hi]
        rw [List.getElem?_take] at h1
        split at h1
        · exact h1
        · cases h1
      rw [show w'.cell? ⟨q, i, none⟩ = cur[i]? by simp [World.cell?, hblk]]
      simpa using hc

def BrR (w : World) (F : Nat → Prop) (d l b n N : Nat) (g : LS) (r : DS × Int) (e : Ending) (w' : World) : Prop := e = .returned (.int .i64 r.2) ∧ ∃ F', Rs w' F' d l b n N r.1 g ∧ Adv (UF F l b) w (UF F' l b) w'
def BgL (W : World) (F0 : Nat → Prop) (d l b n N : Nat) (s0 : DS) (g : LS) (T : List (Nat × List Nat)) (t : Value) (wr : World) : Prop :=
  ∃ (k : Nat) (sk : DS) (Fk : Nat → Prop), k ≤ T.length ∧ t = .int .i64 (k : Int) ∧ putHomes s0 n T = putHomes sk n (T.drop k) ∧ sk.Q.length ≤ s0.Q.length + k ∧ Rs wr Fk d l b n N sk g ∧ Adv (UF F0 l b) W (UF Fk l b) wr

set_option maxRecDepth 3000 in
set_option maxHeartbeats 6400000 in
theorem gbring_lg (l b d n N : Nat) (g : LS) (F : Nat → Prop) (s : DS) (w : World) (h : Rs w F d l b n N s g) (hn : 2 ≤ n ∧ n + 3 ≤ N ∧ N ≤ 4096) (hA : AOk (N - 2 - n) g.A) (hq : s.Q.length ≤ 900000) :
    Calls Tryz.prog 135 #[.pointer (some ⟨l, 0, none⟩)] w (BrR w F d l b n N g (bringS s n (N - 2 - n) g.A)) := by
  obtain ⟨R, hR⟩ : ∃ R, R = bringS s n (N - 2 - n) g.A := ⟨_, rfl⟩
  rw [← hR]
  have HR := Lib.hid hR
  have HS := Lib.hid h
  have HN := Lib.hid hn
  have HAA := Lib.hid hA
  have HQ := Lib.hid hq
  obtain ⟨X, hX⟩ : ∃ x, x = flushS s := ⟨_, rfl⟩
  have HFL := Lib.hid (flush_dk d N F s w h.dk)
  rw [← hX] at HFL
  have HX := Lib.hid hX
  obtain ⟨XE, hXE⟩ : ∃ x, x = X.2 := ⟨_, rfl⟩
  rw [← hXE] at HFL
  have HXE := Lib.hid hXE
  have HXQ := Lib.hid (show X.1.Q.length ≤ 900000 by rw [hX]; exact Nat.le_trans (few_flush s) hq)
  have c0 := h.lg.cells.1
  clear h hn hA hq hR hX hXE
  go_enter Tryz.func135, Tryz.ntmps135
  go_wp2_with fail
  refine HFL.out.mono ?_
  rintro x w1 ⟨rfl, k1, a1⟩
  have HS1 := Lib.hid (HS.out.disk a1 k1)
  have HA1 := Lib.hid (adv_disk (l := l) (b := b) a1)
  clear a1 k1 c0
  by_cases hz : XE = 0
  · subst hz
    have HKY := Lib.hid (keys_call (some b) w1)
    have HSR := Lib.hid (srt_lg HS1.out.lg (by have := HN.out; omega) (UF F l b) HS1.out.bd)
    have c7 := HS1.out.lg.cells.2.2.2.2.2.2.2.1
    obtain ⟨ks, hks⟩ : ∃ ks, ks = keysL g.A (N - 2 - n) := ⟨_, rfl⟩
    rw [← hks] at HSR
    have HKS := Lib.hid hks
    obtain ⟨m, hm⟩ : ∃ m, m = ks.length := ⟨_, rfl⟩
    rw [← hm] at HSR
    have HM := Lib.hid hm
    have HM4 := Lib.hid (show m ≤ 4096 by rw [hm, hks]; exact Nat.le_trans (keysL_len _ _) (by have := HN.out; omega))
    obtain ⟨T, hT⟩ : ∃ T, T = awayL g.A (N - 2 - n) := ⟨_, rfl⟩
    have HT := Lib.hid hT
    have HTL := Lib.hid (show T.length = m by rw [hT, hm, hks]; simp [awayL])
    have HTK := Lib.hid (show ∀ k (hk : k < ks.length) (hk' : k < T.length), T[k] = (ks[k], (g.A ks[k]).getD (List.replicate 128 0)) from fun k hk hk' => by subst hT hks; simp [awayL])
    have HKL := Lib.hid (show ∀ k (hk : k < ks.length), ks[k] < N - 2 - n from fun k hk => by subst hks; exact keysL_lt hk)
    clear hks hm hT
    go_wp2_with fail
    refine HKY.out.mono ?_
    rintro x w2 ⟨rfl, rfl⟩
    go_wp2_with fail
    refine HSR.out.mono ?_
    rintro x w3 ⟨A, c, rfl, hk3, a3⟩
    have HK3 := Lib.hid hk3
    have HS3 := Lib.hid (HS1.out.over a3)
    have HA3 := Lib.hid (HA1.out.trans (adv_nul (F := F) (l := l) (b := b) a3))
    have hmI : (m : Int) ≤ 4096 := by have := HM4.out; omega
    clear hk3 a3 c7
    go_wp2_with fail
    go_loopw [23] (BgL w3 F d l b n N X.1 g T) (fun t _ => m - (intOf t).toNat)
    case atStart => exact ⟨0, X.1, F, Nat.zero_le _, rfl, by rw [List.drop_zero], Nat.le_refl _, HS3.out, Adv.refl _ _⟩
    case round =>
      obtain ⟨k, sk, Fk, hk, rfl, hput, hqk, hrs, had⟩ := hrel
      by_cases hlt : k < m
      · have hki : (k : Int) < (m : Int) := by omega
        have hkl : k < ks.length := by rw [← HM.out]; exact hlt
        have hkt : k < T.length := by rw [HTL.out]; exact hlt
        obtain ⟨g0, rfl, hcell⟩ := HK3.out.at_ had hkl
        have hdr : T.drop k = T[k] :: T.drop (k + 1) := (List.getElem_cons_drop hkt).symm
        rw [HTK.out k hkl hkt] at hdr
        have hlt2 := HKL.out k hkl
        obtain ⟨i, hi⟩ : ∃ i, i = ks[k] := ⟨_, rfl⟩
        rw [← hi] at hcell hdr hlt2
        clear hi
        obtain ⟨X0, hX0⟩ : ∃ X0, X0 = (g.A i).getD (List.replicate 128 0) := ⟨_, rfl⟩
        rw [← hX0] at hdr
        have hXl : X0.length = 128 := by
          rw [hX0]
          cases e : g.A i with
          | none => simp
          | some x => exact (HAA.out i x e).2.1
        obtain ⟨Wr, hWr⟩ : ∃ x, x = writeS sk ((2 + n + i : Nat) : Int) X0 := ⟨_, rfl⟩
        have hput2 : putHomes X.1 n T = if Wr.2 = 0 then putHomes Wr.1 n (T.drop (k + 1)) else Wr := by rw [hput, hdr, hWr]; rfl
        have hqw : Wr.1.Q.length ≤ X.1.Q.length + (k + 1) := by rw [hWr]; exact Nat.le_trans (few_write sk _ _) (by omega)
        have HPUT2 := Lib.hid hput2
        have HQW := Lib.hid hqw
        have HQK := Lib.hid hqk
        have HXL := Lib.hid hXl
        have HX0 := Lib.hid hX0
        have HRS := Lib.hid hrs
        have HAD := Lib.hid had
        have HI := Lib.hid hlt2
        have HLT := Lib.hid hlt
        have HMP := Lib.hid hrs.lg.mp
        have HN4 := Lib.hid (show N - 2 - n ≤ 4096 by have := HN.out; omega)
        have HWR0 := Lib.hid hWr
        have c7 := hrs.lg.cells.2.2.2.2.2.2.2.1
        clear hk hput hqk hrs had hlt hkl hkt hdr hX0 hXl hput2 hqw hlt2 hWr
        go_upto_region 8 with (first
          | (refine op_look1 rfl _ _ rfl b (N - 2 - n) i g.A HMP.out rfl rfl HI.out HN4.out HX0.out ?_)
          | (refine op_alloc_sec rfl rfl ?_)
          | (refine op_store_sec rfl _ _ rfl _ rfl X0 HXL.out rfl rfl ?_)
          | fail)
        obtain ⟨z, hz⟩ : ∃ z, z = wr.heap.size := ⟨_, rfl⟩
        obtain ⟨V, hV⟩ : ∃ V, V = wr.alloc (.cells (X0.map u8).toArray 182) := ⟨_, rfl⟩
        rw [← hV, ← hz]
        have hav : Adv Nul wr Nul V := by rw [hV]; exact (Adv.refl _ _).alloc _
        have HZB := Lib.hid (show Blk V z 182 (X0.map u8).toArray by rw [hV, hz]; exact Blk.new _ _ _)
        have HSV := Lib.hid (HRS.out.over hav)
        have HAV := Lib.hid (HAD.out.trans (adv_nul (F := Fk) (l := l) (b := b) hav))
        have hzf : ¬ Fk z := fun x => by have := HRS.out.dk.bd z x; omega
        have HZF := Lib.hid hzf
        have c0 := HSV.out.lg.cells.1
        have HC := Lib.hid c0
        have HCD := Lib.hid (show V.drew.cell? ⟨l, 0, none⟩ = some (.pointer (some ⟨d, 0, none⟩)) from c0)
        have HHO := Lib.hid (ghome_lg (w := V.drew) i (show Lg V.drew l b d n N g from ⟨HSV.out.lg.blk, HSV.out.lg.mp⟩) (by have := HI.out; have := HN4.out; omega) (by have := HN.out; omega))
        have HWR := Lib.hid (show Calls Tryz.prog 165 #[.pointer (some ⟨d, 0, none⟩), .int .i64 ((2 + n + i : Nat) : Int), .slice (some ⟨z, 0, none⟩) 128 128] V.drew fun e w' => e = .returned (.int .i64 Wr.2) ∧ ∃ F', Dk w' F' d N Wr.1 ∧ Adv Fk V.drew F' w' by
          rw [HWR0.out]
          exact write_dk d N 128 _ _ Fk sk X0 V.drew (HSV.out.dk.far ((Adv.refl Nul V).drew) (fun _ x _ => x)) (show Rd V.drew 1 (.slice (some ⟨z, 0, none⟩) 128 128) 128 (X0.map u8) from (show Blk V.drew z 182 (X0.map u8).toArray from HZB.out).rdS8 HXL.out) (fun j hj hf => by
            have : z = j := by injection hj
            exact HZF.out (this ▸ hf)) (by have := HQK.out; have := HXQ.out; have := HM4.out; have := HLT.out; omega))
        have HFR := Lib.hid (show ∀ (F' : Nat → Prop) (w' : World), Adv Fk V.drew F' w' → w'.cell? ⟨l, 0, none⟩ = some (.pointer (some ⟨d, 0, none⟩)) from fun F' w' a => (HSV.out.lg.blk.keep (a.block l HSV.out.lg.blk.lt (fun x => HSV.out.sep l x (.inl rfl)))).cell 0)
        obtain ⟨hm', hhm⟩ : ∃ x, x = 2 + n + i := ⟨_, rfl⟩
        rw [← hhm] at HHO HWR
        obtain ⟨WE, hWE⟩ : ∃ x, x = Wr.2 := ⟨_, rfl⟩
        rw [← hWE] at HWR
        have HWE := Lib.hid hWE
        clear hV hz hav hzf c7 hcell hhm hWE
        go_wp2_with fail
        refine rstart (S := (fun w' => w'.cell? ⟨l, 0, none⟩ = some (.pointer (some ⟨d, 0, none⟩)))) (by first | with_reducible exact HC9.out | with_reducible exact HCD.out | with_reducible exact HC.out) (fun hH => ?_)
        refine tk (i := 0) (oi := ⟨some 33, .move (.tmp 0), 72, "redo.go:174", #[], none⟩) hH.out (by rintro w s0; go_simp <;> with_reducible rfl) ?_
        simp only [Act.put, sA, sB, sC]
        refine tk (i := 1) (oi := ⟨some 34, .nilCheck (.tmp 33), 0, "redo.go:174", #[⟨0, .data⟩], none⟩) hH.out (by rintro w s0; go_simp <;> with_reducible rfl) ?_
        simp only [Act.put, sA, sB, sC]
        refine tk (i := 2) (oi := ⟨some 35, .fieldAddr 145 (.tmp 34) 0, 0, "redo.go:174", #[⟨1, .data⟩], none⟩) hH.out (by rintro w s0; go_simp <;> with_reducible rfl) ?_
        simp only [Act.put, sA, sB, sC]
        refine tk (i := 3) (oi := ⟨some 36, .load 25 (.tmp 35), 25, "redo.go:174", #[⟨2, .data⟩], none⟩) hH.out (by rintro w s0; go_simp <;> with_reducible rfl) ?_
        simp only [Act.put, sA, sB, sC]
        refine tk (i := 4) (oi := ⟨some 37, .move (.tmp 0), 72, "redo.go:174", #[], none⟩) hH.out (by rintro w s0; go_simp <;> with_reducible rfl) ?_
        simp only [Act.put, sA, sB, sC]
        refine tk (i := 5) (oi := ⟨some 38, .move (.tmp 5), 3, "redo.go:174", #[], none⟩) hH.out (by rintro w s0; go_simp <;> with_reducible rfl) ?_
        simp only [Act.put, sA, sB, sC]
        refine tk (i := 7) (oi := ⟨some 40, .slice 182 (.tmp 6) none none none, 118, "redo.go:174", #[], none⟩) hH.out (by rintro w s0; go_simp <;> with_reducible rfl) ?_
        simp only [Act.put, sA, sB, sC]
        refine rdy (i := 6) (oi := ⟨some 39, .call ⟨.value (.func 116), #[.tmp 37, .tmp 38], #[72, 3]⟩, 3, "redo.go:174", #[⟨4, .data⟩, ⟨5, .data⟩], none⟩) (fun K hK => ?_)
        go_simp
        refine HHO.out.mono ?_
        rintro x w6 ⟨rfl, rfl⟩
        go_wp2_with fail
        refine hK.out _ _ (by first | with_reducible exact HC9.out | with_reducible exact HCD.out | with_reducible exact HC.out) (fun hHeld => ?_)
        replace hH := Lib.hid hHeld
        clear hK K hHeld
        try simp only [Act.put, sA, sB, sC]
        refine rdy (i := 8) (oi := ⟨some 41, .call ⟨.value (.func 165), #[.tmp 36, .tmp 39, .tmp 40], #[25, 3, 118]⟩, 26, "redo.go:174", #[⟨3, .data⟩, ⟨6, .data⟩, ⟨7, .data⟩, ⟨6, .chain⟩], none⟩) (fun K hK => ?_)
        go_simp
        refine HWR.out.mono ?_
        rintro x w9 ⟨rfl, F9, k9, a9⟩
        have HC9 := Lib.hid (HFR.out F9 w9 a9)
        have HK9 := Lib.hid k9
        have HA9 := Lib.hid (Adv.of_drew a9)
        clear k9 a9
        go_wp2_with fail
        refine hK.out _ _ (by first | with_reducible exact HC9.out | with_reducible exact HCD.out | with_reducible exact HC.out) (fun hHeld => ?_)
        replace hH := Lib.hid hHeld
        clear hK K hHeld
        try simp only [Act.put, sA, sB, sC]
        refine tk (i := 9) (oi := ⟨some 7, .assign (.tmp 41), 26, "redo.go:174", #[⟨8, .data⟩, ⟨8, .chain⟩, ⟨0, .phase⟩, ⟨1, .phase⟩, ⟨2, .phase⟩, ⟨3, .phase⟩, ⟨4, .phase⟩, ⟨5, .phase⟩, ⟨6, .phase⟩, ⟨7, .phase⟩, ⟨8, .phase⟩], none⟩) hH.out (by rintro w s0; go_simp <;> with_reducible rfl) ?_
        simp only [Act.put, sA, sB, sC]
        refine wpAnyH_done (by kernel_rfl) ?_ _
        have HS9 := Lib.hid (HSV.out.disk HA9.out HK9.out)
        have HAD9 := Lib.hid (HAV.out.trans (adv_disk (l := l) (b := b) HA9.out))
        clear c0
        by_cases hwe : WE = 0
        · subst hwe
          go_wp2_with fail
          have hlt := HLT.out
          refine ⟨⟨k + 1, Wr.1, F9, by have := HTL.out; omega, by go_num, ?_, HQW.out, HS9.out, HAD9.out⟩, by simp [intOf] <;> omega⟩
          rw [HPUT2.out, if_pos HWE.out.symm]
        · have hb : ((WE : Int) != 0) = true := by rw [bne_iff_ne]; exact hwe
          have hb2 : ((WE : Int) == 0) = false := by rw [beq_eq_false_iff_ne]; exact hwe
          have HNE := Lib.hid hwe
          have HF := Lib.hid (show BrR w F d l b n N g R (.returned (.int .i64 WE)) w9 by
            have e1 : putHomes X.1 n T = Wr := by rw [HPUT2.out, if_neg (by rw [← HWE.out]; exact hwe)]
            rw [HR.out]
            unfold bringS
            rw [← HX.out, if_pos HXE.out.symm, ← HT.out, e1, if_neg (by rw [← HWE.out]; exact hwe)]
            exact ⟨by rw [HWE.out], F9, HS9.out, HA3.out.trans HAD9.out⟩)
          clear hwe
          go_wp2_with fail
          go_ret
          exact HF.out
      · obtain rfl : k = m := by have := HTL.out; omega
        have e0 : T.drop k = [] := List.drop_eq_nil_of_le (by have := HTL.out; omega)
        rw [e0] at hput
        have hput2 : putHomes X.1 n T = (sk, 0) := hput
        obtain ⟨Y, hY⟩ : ∃ x, x = flushS sk := ⟨_, rfl⟩
        have HF2 := Lib.hid (flush_dk d N Fk sk wr hrs.dk)
        rw [← hY] at HF2
        have HRES := Lib.hid (show R = Y by
          rw [HR.out]
          unfold bringS
          rw [← HX.out, if_pos HXE.out.symm, ← HT.out, hput2, if_pos rfl, hY])
        obtain ⟨YE, hYE⟩ : ∃ x, x = Y.2 := ⟨_, rfl⟩
        rw [← hYE] at HF2
        have HYE := Lib.hid hYE
        have HRS := Lib.hid hrs
        have HAD := Lib.hid had
        have c0 := hrs.lg.cells.1
        clear hk hput hput2 e0 hqk hrs had hlt hY hYE
        go_wp2_with fail
        refine HF2.out.mono ?_
        rintro x w9 ⟨rfl, k9, a9⟩
        have HF := Lib.hid (show BrR w F d l b n N g R (.returned (.int .i64 YE)) w9 by
          rw [HRES.out]
          exact ⟨by rw [HYE.out], Fk, HRS.out.disk a9 k9, HA3.out.trans (HAD.out.trans (adv_disk (l := l) (b := b) a9))⟩)
        clear k9 a9 c0
        go_wp2_with fail
        go_ret
        exact HF.out
  · have hb : ((XE : Int) != 0) = true := by rw [bne_iff_ne]; exact hz
    have hb2 : ((XE : Int) == 0) = false := by rw [beq_eq_false_iff_ne]; exact hz
    have HF := Lib.hid (show BrR w F d l b n N g R (.returned (.int .i64 XE)) w1 by
      rw [HR.out]
      unfold bringS
      rw [← HX.out, if_neg (by rw [← HXE.out]; exact hz)]
      exact ⟨by rw [HXE.out], F, HS1.out, HA1.out⟩)
    clear hz
    go_wp2_with fail
    go_ret
    exact HF.out
end Go.Proofs.YtcglfknkkeaegaaGreatDoor
namespace Go.Proofs.YtcglfknkkeaegaaGreatDoor
open Go.RowKit

def saveS (s : DS) (n : Nat) (at_ : Int) (e : Nat) (h : Hd) : DS × Int :=
  if (0 ≤ at_ ∧ at_ + 1 < (n : Int)) ∧ hOk e h then (if (writeS s (at_ + ((h.g % 2 : Nat) : Int)) (hSec e h)).2 = 0 then flushS (writeS s (at_ + ((h.g % 2 : Nat) : Int)) (hSec e h)).1 else writeS s (at_ + ((h.g % 2 : Nat) : Int)) (hSec e h)) else (s, 2)
theorem saveS_no {s : DS} {n : Nat} {at_ : Int} {e : Nat} {h : Hd} (k : ¬ ((0 ≤ at_ ∧ at_ + 1 < (n : Int)) ∧ hOk e h)) : saveS s n at_ e h = (s, 2) := if_neg k
def PSaved (w : World) (F : Nat → Prop) (d n : Nat) (r : DS × Int) (x : Ending) (w' : World) : Prop := x = .returned (.int .i64 r.2) ∧ ∃ F', Dk w' F' d n r.1 ∧ Adv F w F' w'
theorem adv_after {F F' : Nat → Prop} {w w1 w2 : World} (h : Adv Nul w Nul w1) (k : Adv F w1 F' w2) : Adv F w F' w2 :=
  ⟨k.os.trans h.os, k.tape.trans h.tape, k.output.trans h.output, Nat.le_trans h.size k.size, fun j hj hn => (k.block j (Nat.lt_of_lt_of_le hj h.size) hn).trans (h.block j hj (fun x => x)), fun j hj => by
    rcases k.into j hj with h1 | h1
    · exact .inl h1
    · right; have := h.size; omega⟩
theorem save_at {at_ : Int} {n g : Nat} (h : 0 ≤ at_ ∧ at_ + 1 < (n : Int)) (hn : n ≤ 4096) : IntKind.i64.wrap (at_ + ((g % 2 : Nat) : Int)) = at_ + ((g % 2 : Nat) : Int) := by
  rw [IntKind.wrap_i64]; omega

set_option maxRecDepth 3000 in
set_option maxHeartbeats 6400000 in
theorem hsave_dk (d n : Nat) (F : Nat → Prop) (s : DS) (at_ : Int) (e : Nat) (h : Hd) (w : World) (hr : Dk w F d n s) (hq : s.Q.length ≤ 900000) (hn : n ≤ 4096) (hn1 : 2 ≤ n) (ht : h.t < 18446744073709551616) (hf : h.f < 18446744073709551616) :
    Calls Tryz.prog 168 #[.pointer (some ⟨d, 0, none⟩), .int .i64 at_, .int .u64 (e : Int), .agg #[.int .u64 (h.g : Int), .int .u64 (h.t : Int), .int .u64 (h.f : Int)]] w (PSaved w F d n (saveS s n at_ e h)) := by
  obtain ⟨g, t, f⟩ := h
  simp only at ht hf ⊢
  obtain ⟨y, hy⟩ : ∃ y, y = w.heap.size := ⟨_, rfl⟩
  obtain ⟨V, hV⟩ : ∃ V, V = w.alloc (.cells #[.int .u64 (g : Int), .int .u64 (t : Int), .int .u64 (f : Int)] 140) := ⟨_, rfl⟩
  have HY := Lib.hid (show Blk V y 140 #[.int .u64 (g : Int), .int .u64 (t : Int), .int .u64 (f : Int)] by rw [hV, hy]; exact Blk.new _ _ _)
  have HA := Lib.hid (show Adv Nul w Nul V by rw [hV]; exact (Adv.refl _ _).alloc _)
  have HR := Lib.hid (hr.far HA.out (fun _ h _ => h))
  have HV := Lib.hid hV
  have HYY := Lib.hid hy
  have HQ := Lib.hid hq
  have HSEC := Lib.hid (hseal_any e ⟨g, t, f⟩ V ht hf)
  have HN := Lib.hid hn
  have hw1 : IntKind.i64.wrap ((n : Int) - 2) = (n : Int) - 2 := by rw [IntKind.wrap_i64]; omega
  have hnz : ((n : Int) == 0) = false := by rw [beq_eq_false_iff_ne]; omega
  obtain ⟨s0, s1, s2⟩ := HY.out.three
  have hno : ∀ w1, Adv Nul V Nul w1 → ¬ ((0 ≤ at_ ∧ at_ + 1 < (n : Int)) ∧ hOk e ⟨g, t, f⟩) → PSaved w F d n (saveS s n at_ e ⟨g, t, f⟩) (.returned (.int .i64 2)) w1 := fun w1 ha hk => by
    rw [saveS_no hk]
    exact ⟨rfl, F, HR.out.far ha (fun _ h _ => h), (HA.out.trans ha).same (fun _ x => x.elim)⟩
  have HNO := Lib.hid hno
  have hsz := size_dk d n F s V HR.out
  have HSZ := Lib.hid hsz
  clear hr hV hy hq ht hf hn hn1 hno hsz
  go_enter Tryz.func168, Tryz.ntmps168
  go_upto_region 1 with (fail)
  rw [← HV.out, ← HYY.out]
  by_cases h0 : at_ < 0
  · have HF := Lib.hid (HNO.out V (Adv.refl _ _) (fun k => by omega))
    go_wp2_with fail
    refine HSZ.out.mono ?_
    rintro x w9 ⟨rfl, rfl⟩
    go_wp2_with fail
    go_ret
    exact HF.out
  · have h0' : 0 ≤ at_ := by omega
    clear h0
    by_cases h1 : (n : Int) - 2 < at_
    · have HF := Lib.hid (HNO.out V (Adv.refl _ _) (fun k => by omega))
      go_wp2_with fail
      refine HSZ.out.mono ?_
      rintro x w8 ⟨rfl, rfl⟩
      go_wp2_with fail
      refine HSZ.out.mono ?_
      rintro x w9 ⟨rfl, rfl⟩
      go_wp2_with fail
      go_ret
      exact HF.out
    · have h1' : at_ ≤ (n : Int) - 2 := by omega
      have HIN := Lib.hid (show 0 ≤ at_ ∧ at_ + 1 < (n : Int) by omega)
      clear h1
      go_wp2_with fail
      refine HSZ.out.mono ?_
      rintro x w8 ⟨rfl, rfl⟩
      go_wp2_with fail
      refine HSZ.out.mono ?_
      rintro x w9 ⟨rfl, rfl⟩
      go_wp2_with fail
      refine HSEC.out.mono ?_
      intro x w1 h1
      obtain ⟨A, m, k, F1, rfl, a1, p1, n1⟩ := h1
      obtain ⟨E, hE⟩ : ∃ E : Int, E = if hOk e ⟨g, t, f⟩ then 0 else 2 := ⟨_, rfl⟩
      rw [← hE]
      have HE := Lib.hid hE
      have HA1 := Lib.hid a1
      have HP1 := Lib.hid p1
      have HY1 := Lib.hid (HY.out.keep (a1.block y HY.out.lt (fun h => h)))
      have HSEP := Lib.hid (show ∀ j, (Value.slice A m k).ownBlock = some j → (hOk e ⟨g, t, f⟩) → ¬ F j from fun j hj ho hg => by
        obtain ⟨rfl, hs⟩ := p1 ho
        rcases a1.into j (hs.inF j hj) with h | h
        · exact h
        · have := HR.out.bd j hg; omega)
      have HAV := Lib.hid (HA.out.trans (a1.sub (G := Nul) (fun _ h => h.elim)))
      have HR1 := Lib.hid (HR.out.far a1 (fun _ h _ => h))
      obtain ⟨z0, z1, z2⟩ := HY1.out.three
      clear hE a1 p1 n1 s0 s1 s2
      by_cases hok : hOk e ⟨g, t, f⟩
      · obtain rfl : E = 0 := by rw [HE.out, if_pos hok]
        obtain ⟨rfl, hs⟩ := HP1.out hok
        have HOK := Lib.hid hok
        have HS := Lib.hid hs
        obtain ⟨r, hr⟩ : ∃ r, r = g % 2 := ⟨_, rfl⟩
        have hr3 : IntKind.i64.wrap (at_ + (r : Int)) = at_ + (r : Int) := by rw [hr]; exact save_at HIN.out HN.out
        obtain ⟨W, hW⟩ : ∃ W, W = writeS s (at_ + (r : Int)) (hSec e ⟨g, t, f⟩) := ⟨_, rfl⟩
        have hsv : saveS s n at_ e ⟨g, t, f⟩ = if W.2 = 0 then flushS W.1 else W := by
          unfold saveS
          rw [if_pos ⟨HIN.out, hok⟩, hW, hr]
        have HSV := Lib.hid hsv
        have hwr : ∀ v, Adv Nul w1 Nul v → Calls Tryz.prog 165 #[.pointer (some ⟨d, 0, none⟩), .int .i64 (at_ + (r : Int)), .slice A 128 k] v fun e w' => e = .returned (.int .i64 W.2) ∧ ∃ G', Dk w' G' d n W.1 ∧ Adv F v G' w' := fun v hv => by
          rw [hW]
          exact write_dk d n 128 _ _ F s _ v (HR1.out.far hv (fun _ h _ => h)) (hs.rd.far (fun _ _ _ h => hv.block _ h (fun h => h)) hv.size) (fun j hj hg => HSEP.out j hj hok hg) (by have := HQ.out; omega)
        have HWR := Lib.hid hwr
        obtain ⟨WE, hWE⟩ : ∃ E, E = W.2 := ⟨_, rfl⟩
        rw [← hWE] at HWR
        have HWE := Lib.hid hWE
        have HRR := Lib.hid hr
        clear hok hs hr hW hsv hwr hWE
        go_wp2_with fail
        refine (place_any g t f _).mono ?_
        rintro x w5 ⟨rfl, a5⟩
        rw [← HRR.out]
        have HA5 := Lib.hid a5
        clear a5
        go_wp2_with fail
        refine (HWR.out w5 HA5.out).mono ?_
        rintro x w2 ⟨rfl, G2, k2, t2⟩
        have HR2 := Lib.hid k2
        have HT2 := Lib.hid (adv_after HA5.out t2)
        clear k2 t2
        by_cases hz : WE = 0
        · subst hz
          go_wp2_with fail
          refine (flush_dk d n G2 W.1 w2 HR2.out).mono ?_
          rintro x w3 ⟨rfl, k3, t3⟩
          have HF := Lib.hid (show PSaved w F d n (saveS s n at_ e ⟨g, t, f⟩) (.returned (.int .i64 (flushS W.1).2)) w3 from by
            rw [HSV.out, if_pos HWE.out.symm]
            exact ⟨rfl, G2, k3, adv_after HAV.out (HT2.out.trans t3)⟩)
          obtain ⟨E3, hE3⟩ : ∃ E, E = (flushS W.1).2 := ⟨_, rfl⟩
          rw [← hE3] at HF ⊢
          clear k3 t3 hE3
          go_wp2_with fail
          go_ret
          exact HF.out
        · have hzb : (WE == 0) = false := by rw [beq_eq_false_iff_ne]; exact hz
          have HF := Lib.hid (show PSaved w F d n (saveS s n at_ e ⟨g, t, f⟩) (.returned (.int .i64 WE)) w2 from by
            rw [HSV.out, if_neg (by rw [← HWE.out]; exact hz)]
            exact ⟨by rw [HWE.out], G2, HR2.out, adv_after HAV.out HT2.out⟩)
          clear hz
          go_wp2_with fail
          go_ret
          exact HF.out
      · obtain rfl : E = 2 := by rw [HE.out, if_neg hok]
        have HF := Lib.hid (HNO.out w1 (HA1.out.sub (fun _ h => h.elim)) (fun k => hok k.2))
        clear hok
        go_wp2_with fail
        go_ret
        exact HF.out
end Go.Proofs.YtcglfknkkeaegaaGreatDoor
namespace Go.Proofs.YtcglfknkkeaegaaGreatDoor
open Go.RowKit Go.Maps

def saveG (s : DS) (N ep : Nat) (h : Hd) : DS × Int := if 1099511627775 < h.g then (s, 8) else saveS s N 0 ep h
def SvC (w : World) (l d z ep g t f : Nat) : Prop := w.cell? ⟨l, 0, none⟩ = some (.pointer (some ⟨d, 0, none⟩)) ∧ w.cell? ⟨l, 6, none⟩ = some (.int .u64 (ep : Int)) ∧ w.cell? ⟨z, 0, none⟩ = some (.int .u64 (g : Int)) ∧ w.cell? ⟨z, 1, none⟩ = some (.int .u64 (t : Int)) ∧ w.cell? ⟨z, 2, none⟩ = some (.int .u64 (f : Int))

set_option maxRecDepth 3000 in
set_option maxHeartbeats 6400000 in
theorem gsave_lg (l b d n N : Nat) (g : LS) (F : Nat → Prop) (s : DS) (h : Hd) (w : World) (hr : Rs w F d l b n N s g) (hq : s.Q.length ≤ 900000) (hN : 2 ≤ N ∧ N ≤ 4096) (hg : h.g < 18446744073709551616) (ht : h.t < 18446744073709551616) (hf : h.f < 18446744073709551616) :
    Calls Tryz.prog 136 #[.pointer (some ⟨l, 0, none⟩), .agg #[.int .u64 (h.g : Int), .int .u64 (h.t : Int), .int .u64 (h.f : Int)]] w (BrR w F d l b n N g (saveG s N g.ep h)) := by
  obtain ⟨R, hR⟩ : ∃ R, R = saveG s N g.ep h := ⟨_, rfl⟩
  rw [← hR]
  obtain ⟨x, t, f⟩ := h
  simp only at hg ht hf ⊢
  obtain ⟨V, hV⟩ : ∃ V, V = w.alloc (.cells #[.int .u64 (x : Int), .int .u64 (t : Int), .int .u64 (f : Int)] 140) := ⟨_, rfl⟩
  obtain ⟨z, hz⟩ : ∃ z, z = w.heap.size := ⟨_, rfl⟩
  have hav : Adv Nul w Nul V := by rw [hV]; exact (Adv.refl _ _).alloc _
  have HZB := Lib.hid (show Blk V z 140 #[.int .u64 (x : Int), .int .u64 (t : Int), .int .u64 (f : Int)] by rw [hV, hz]; exact Blk.new _ _ _)
  have HSV := Lib.hid (hr.over hav)
  have HAV := Lib.hid hav
  have hzf : ¬ F z := fun y => by have := hr.dk.bd z y; omega
  obtain ⟨ep, hep⟩ : ∃ y, y = g.ep := ⟨_, rfl⟩
  rw [← hep] at hR
  have HC := Lib.hid (show SvC V l d z ep x t f from ⟨HSV.out.lg.cells.1, by rw [hep]; exact HSV.out.lg.cells.2.2.2.2.2.2.1, HZB.out.three.1, HZB.out.three.2.1, HZB.out.three.2.2⟩)
  have HCD := Lib.hid (show SvC V.drew l d z ep x t f from HC.out)
  have HFR := Lib.hid (show ∀ (F' : Nat → Prop) (w' : World), Adv F V.drew F' w' → SvC w' l d z ep x t f from fun F' w' a => by
    have hb := HSV.out.lg.blk.keep (a.block l HSV.out.lg.blk.lt (fun y => HSV.out.sep l y (.inl rfl)))
    have hb2 := (HZB.out.keep (a.block z HZB.out.lt hzf)).three
    exact ⟨hb.cell 0, by rw [hep]; exact hb.cell 6, hb2.1, hb2.2.1, hb2.2.2⟩)
  have HV := Lib.hid hV
  have HZ := Lib.hid hz
  have HR := Lib.hid hR
  by_cases hx : 1099511627775 < x
  · have HF := Lib.hid (show BrR w F d l b n N g R (.returned (.int .i64 8)) V by
      rw [hR]
      unfold saveG
      rw [if_pos hx]
      exact ⟨rfl, F, HSV.out, adv_nul hav⟩)
    have hxI : (1099511627775 : Int) < (x : Int) := by omega
    obtain ⟨c0, c6, z0, z1, z2⟩ := HC.out
    clear hr hq hN hg ht hf hV hz hav hzf hep hx hR
    go_enter Tryz.func136, Tryz.ntmps136
    go_upto_region 1 with (fail)
    rw [← HV.out, ← HZ.out]
    go_wp2_with fail
    go_ret
    exact HF.out
  · have hRS : R = saveS s N 0 ep ⟨x, t, f⟩ := by rw [hR]; unfold saveG; rw [if_neg hx]
    have HSAVE := Lib.hid (show Calls Tryz.prog 168 #[.pointer (some ⟨d, 0, none⟩), .int .i64 0, .int .u64 (ep : Int), .agg #[.int .u64 (x : Int), .int .u64 (t : Int), .int .u64 (f : Int)]] V.drew (PSaved V.drew F d N R) by
      rw [hRS]
      exact hsave_dk d N F s 0 ep ⟨x, t, f⟩ V.drew (HSV.out.dk.far ((Adv.refl Nul V).drew) (fun _ x _ => x)) hq hN.2 hN.1 ht hf)
    have hxI : ¬ (1099511627775 : Int) < (x : Int) := by omega
    have hxf : ((1099511627775 : Int) < (x : Int)) = False := eq_false hxI
    obtain ⟨c0, c6, z0, z1, z2⟩ := HC.out
    obtain ⟨RE, hRE⟩ : ∃ y, y = R.2 := ⟨_, rfl⟩
    rw [show PSaved V.drew F d N R = fun e w' => e = .returned (.int .i64 RE) ∧ ∃ F', Dk w' F' d N R.1 ∧ Adv F V.drew F' w' by rw [hRE]; rfl] at HSAVE
    have HRE := Lib.hid hRE
    clear hr hq hN hg ht hf hV hz hav hzf hep hx hR hRS hRE hxI
    go_enter Tryz.func136, Tryz.ntmps136
    go_upto_region 1 with (fail)
    rw [← HV.out, ← HZ.out]
    go_wp2_with fail
    refine rstart (S := (fun w' => SvC w' l d z ep x t f)) (by first | with_reducible exact HC9.out | with_reducible exact HCD.out | with_reducible exact HC.out) (fun hH => ?_)
    refine tk (i := 0) (oi := ⟨some 8, .move (.tmp 0), 72, "redo.go:186", #[], none⟩) hH.out (by rintro w ⟨s0, s1, s2, s3, s4⟩; go_simp <;> with_reducible rfl) ?_
    simp only [Act.put, sA, sB, sC]
    refine tk (i := 1) (oi := ⟨some 9, .nilCheck (.tmp 8), 0, "redo.go:186", #[⟨0, .data⟩], none⟩) hH.out (by rintro w ⟨s0, s1, s2, s3, s4⟩; go_simp <;> with_reducible rfl) ?_
    simp only [Act.put, sA, sB, sC]
    refine tk (i := 2) (oi := ⟨some 10, .fieldAddr 145 (.tmp 9) 0, 0, "redo.go:186", #[⟨1, .data⟩], none⟩) hH.out (by rintro w ⟨s0, s1, s2, s3, s4⟩; go_simp <;> with_reducible rfl) ?_
    simp only [Act.put, sA, sB, sC]
    refine tk (i := 3) (oi := ⟨some 11, .load 25 (.tmp 10), 25, "redo.go:186", #[⟨2, .data⟩], none⟩) hH.out (by rintro w ⟨s0, s1, s2, s3, s4⟩; go_simp <;> with_reducible rfl) ?_
    simp only [Act.put, sA, sB, sC]
    refine tk (i := 4) (oi := ⟨some 12, .move (.tmp 0), 72, "redo.go:186", #[], none⟩) hH.out (by rintro w ⟨s0, s1, s2, s3, s4⟩; go_simp <;> with_reducible rfl) ?_
    simp only [Act.put, sA, sB, sC]
    refine tk (i := 5) (oi := ⟨some 13, .nilCheck (.tmp 12), 0, "redo.go:186", #[⟨4, .data⟩], none⟩) hH.out (by rintro w ⟨s0, s1, s2, s3, s4⟩; go_simp <;> with_reducible rfl) ?_
    simp only [Act.put, sA, sB, sC]
    refine tk (i := 6) (oi := ⟨some 14, .fieldAddr 145 (.tmp 13) 4, 0, "redo.go:186", #[⟨5, .data⟩], none⟩) hH.out (by rintro w ⟨s0, s1, s2, s3, s4⟩; go_simp <;> with_reducible rfl) ?_
    simp only [Act.put, sA, sB, sC]
    refine tk (i := 7) (oi := ⟨some 15, .load 38 (.tmp 14), 38, "redo.go:186", #[⟨6, .data⟩], none⟩) hH.out (by rintro w ⟨s0, s1, s2, s3, s4⟩; go_simp <;> with_reducible rfl) ?_
    simp only [Act.put, sA, sB, sC]
    refine tk (i := 8) (oi := ⟨some 16, .load 140 (.tmp 3), 140, "redo.go:186", #[], none⟩) hH.out (by rintro w ⟨s0, s1, s2, s3, s4⟩; go_simp <;> with_reducible rfl) ?_
    simp only [Act.put, sA, sB, sC]
    refine rdy (i := 9) (oi := ⟨some 17, .call ⟨.value (.func 168), #[.tmp 11, .const (Go.Value.int Go.IntKind.i64 0), .tmp 15, .tmp 16], #[25, 3, 38, 140]⟩, 26, "redo.go:186", #[⟨3, .data⟩, ⟨7, .data⟩, ⟨8, .data⟩], none⟩) (fun K hK => ?_)
    go_simp
    refine HSAVE.out.mono ?_
    rintro x w9 ⟨rfl, F9, k9, a9⟩
    have HC9 := Lib.hid (HFR.out F9 w9 a9)
    have HK9 := Lib.hid k9
    have HA9 := Lib.hid (Adv.of_drew a9)
    clear k9 a9
    go_wp2_with fail
    refine hK.out _ _ (by first | with_reducible exact HC9.out | with_reducible exact HCD.out | with_reducible exact HC.out) (fun hHeld => ?_)
    replace hH := Lib.hid hHeld
    clear hK K hHeld
    try simp only [Act.put, sA, sB, sC]
    refine tk (i := 10) (oi := ⟨some 4, .assign (.tmp 17), 26, "redo.go:186", #[⟨9, .data⟩, ⟨9, .chain⟩, ⟨0, .phase⟩, ⟨1, .phase⟩, ⟨2, .phase⟩, ⟨3, .phase⟩, ⟨4, .phase⟩, ⟨5, .phase⟩, ⟨6, .phase⟩, ⟨7, .phase⟩, ⟨8, .phase⟩, ⟨9, .phase⟩], none⟩) hH.out (by rintro w ⟨s0, s1, s2, s3, s4⟩; go_simp <;> with_reducible rfl) ?_
    simp only [Act.put, sA, sB, sC]
    refine wpAnyH_done (by kernel_rfl) ?_ _
    have HF := Lib.hid (show BrR w F d l b n N g R (.returned (.int .i64 RE)) w9 from ⟨by rw [HRE.out], F9, HSV.out.disk HA9.out HK9.out, (adv_nul HAV.out).trans (adv_disk (l := l) (b := b) HA9.out)⟩)
    clear c0 c6 z0 z1 z2
    go_wp2_with fail
    go_ret
    exact HF.out
end Go.Proofs.YtcglfknkkeaegaaGreatDoor
