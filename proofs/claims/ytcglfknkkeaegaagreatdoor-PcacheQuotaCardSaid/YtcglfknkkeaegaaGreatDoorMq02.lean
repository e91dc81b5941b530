/- Variables of many cells: made, stored, loaded, handed back as one; the world that is left has a name. Blocks in order: the program's Order, the document's Less. Places that are given up by turns: sets as numbers, a hand that goes around. A cache (arithmetic): slots, a ring, a number; where a block is kept; what is listed. -/
import Derived.Test.YtcglfknkkeaegaaGreatDoorMq01
import Derived.Deep.MidRow
import Derived.Great.BuildSlice
import Derived.Deep.QuietTactic
import Derived.BigQuiet
import Derived.Deep.RegionHeld3
import Derived.Deep.RegionWith
import Derived.Deep.DeepCutAuto
import Derived.Lib.TrailingZeros
namespace Go.Proofs.YtcglfknkkeaegaaGreatDoor
open Go.ChangeShapes Go.WideShapes Go.ChangeAt Go.RowKit

set_option maxRecDepth 3000 in
theorem Adv.isetCells {F F' : Nat → Prop} {w : World} {g : Nat} : ∀ (vs : List Value) (o : Nat) (w' : World), Adv F w F' w' → (F g ∨ w.heap.size ≤ g) → Adv F w F' (w'.setCells g o vs)
  | [], _, _, h, _ => h
  | v :: r, o, w', h, hg => by
    rw [World.setCells]
    exact Adv.isetCells r (o + 1) _ (h.setCell (p := ⟨g, o, none⟩) hg v) hg
set_option maxRecDepth 3000 in
theorem Blk.isetCells {g : Nat} {t : TypeId} : ∀ (vs : List Value) (o : Nat) (w : World) (cs : Array Value), Blk w g t cs → ∃ cs', Blk (w.setCells g o vs) g t cs' ∧ cs'.size = cs.size
  | [], _, _, cs, h => ⟨cs, h, rfl⟩
  | v :: r, o, w, cs, h => by
    rw [World.setCells]
    obtain ⟨cs', h1, h2⟩ := Blk.isetCells r (o + 1) _ _ (h.set_ o v)
    exact ⟨cs', h1, by rw [h2]; simp⟩


set_option maxRecDepth 3000 in
theorem Blk.iputAll {w : World} {g : Nat} {t : TypeId} {C D : Array Value} (h : Blk w g t C) (hs : D.size = C.size) : Blk (w.setCells g 0 D.toList) g t D := by
  obtain ⟨C', h1, h2⟩ := Blk.isetCells D.toList 0 w C h
  have e : C' = D := by
    apply Array.ext (by omega)
    intro k hk1 hk2
    have hin := World.cell?_setCells_in g D.toList 0 w (fun j hj => by
      rw [h.cell (0 + j), Nat.zero_add, Array.getElem?_eq_getElem (by simp at hj; omega)]; rfl) k (by simpa using hk2)
    rw [Nat.zero_add, h1.cell k, Array.getElem?_eq_getElem hk1] at hin
    simpa using hin
  rw [← e]; rw [e] at h1 ⊢; exact h1
set_option maxRecDepth 3000 in
theorem Blk.ithere {w : World} {g : Nat} {t : TypeId} {C : Array Value} (h : Blk w g t C) : w.there g 0 C.size := fun j hj =>
  ⟨by rw [h.cell (0 + j), Nat.zero_add, Array.getElem?_eq_getElem hj]; rfl, h.frozen (0 + j)⟩
set_option maxRecDepth 3000 in
theorem Blk.range {w : World} {z : Nat} {t : TypeId} {C : Array Value} (h : Blk w z t C) : w.rangeAt z 0 C.toList := fun j v hv => by
  rw [Nat.zero_add, h.cell]
  simpa using hv
section
variable {ops : Array Oper} {rest : List Oper} {o : Oper} {a : Act} {w : World} {Q : Exit → Act → World → Prop}
set_option maxRecDepth 3000 in
theorem aop_alloc {t : TypeId} {C : Array Value} {s b : Nat} (hgd : o.guard = none) (ho : o.op = .alloc t) (hz : (Tryz.prog.info? t).map (fun i => (i.zero, i.size, i.bytes)) = some (some (.agg C), s, b))
    (h : wpList Tryz.prog ops Q rest (a.put o.dst (.pointer (some ⟨w.heap.size, 0, none⟩))) (w.alloc (.cells C t))) : wpList Tryz.prog ops Q (o :: rest) a w := by
  refine wpList_plain hgd fun K hK => ?_
  obtain ⟨i, hi, hz, _⟩ := info_parts hz
  have hr : (zeroValue t).run Tryz.prog w = .ok (.agg C) w := by simp [zeroValue, typeInfo, hi, hz]
  unfold Oper.wp execOp
  simp [ho, Instr.alloc, hr, newVar, newRow, Value.cells, Result.andThen]
  exact hK _ _ h
end
set_option maxRecDepth 3000 in
theorem Adv.fresh {F' : Nat → Prop} {w w1 w2 : World} {z : Nat} (h : Adv Nul w Nul w1) (hz : w.heap.size ≤ z) (k : Adv (One z) w1 F' w2) : Adv Nul w Nul w2 :=
  ⟨k.os.trans h.os, k.tape.trans h.tape, k.output.trans h.output, Nat.le_trans h.size k.size, fun i hi hn => (k.block i (Nat.lt_of_lt_of_le hi h.size) (fun e => by unfold One at e; omega)).trans (h.block i hi hn), fun _ x => x.elim⟩
set_option maxRecDepth 3000 in
theorem Adv.nul {F' : Nat → Prop} {w w1 : World} (h : Adv Nul w F' w1) : Adv Nul w Nul w1 := h.sub (fun _ x => x.elim)
set_option maxRecDepth 3000 in
theorem Blk.far1 {w w' : World} {y z : Nat} {F' : Nat → Prop} {t : TypeId} {C : Array Value} (h : Blk w y t C) (k : Adv (One z) w F' w') (hne : y ≠ z) : Blk w' y t C := h.keep (k.block y h.lt hne)
set_option maxRecDepth 3000 in
theorem Blk.over {w w' : World} {y : Nat} {F' : Nat → Prop} {t : TypeId} {C : Array Value} (h : Blk w y t C) (k : Adv Nul w F' w') : Blk w' y t C := h.keep (k.block y h.lt (fun x => x))
section
variable {ops : Array Oper} {rest : List Oper} {o : Oper} {a : Act} {w : World} {Q : Exit → Act → World → Prop}
set_option maxRecDepth 3000 in
theorem kop_alloc {t : TypeId} {C : Array Value} {s b : Nat} (hgd : o.guard = none) (ho : o.op = .alloc t) (hz : (Tryz.prog.info? t).map (fun i => (i.zero, i.size, i.bytes)) = some (some (.agg C), s, b))
    (h : ∀ z w', w.heap.size ≤ z → Blk w' z t C → Adv Nul w Nul w' → wpList Tryz.prog ops Q rest (a.put o.dst (.pointer (some ⟨z, 0, none⟩))) w') : wpList Tryz.prog ops Q (o :: rest) a w :=
  aop_alloc hgd ho hz (h _ _ (Nat.le_refl _) (Blk.new _ _ _) ((Adv.refl _ _).alloc _))
set_option maxRecDepth 3000 in
theorem kop_store {t t' : TypeId} {C D : Array Value} {s : Nat} (hgd : o.guard = none) (x y : Operand) (ho : o.op = .store t x y) (z : Nat) (hB : Blk w z t' C) (hx : a.eval x = .pointer (some ⟨z, 0, none⟩)) (hy : a.eval y = .agg D)
    (hs : (Tryz.prog.info? t).map (·.size) = some s) (hD : D.size = s) (hC : C.size = s) (h1 : D.all (·.oneCell') = true)
    (h : ∀ w', Blk w' z t' D → Adv (One z) w (One z) w' → wpList Tryz.prog ops Q rest (a.put o.dst undef) w') : wpList Tryz.prog ops Q (o :: rest) a w :=
  wpList_store_mid hgd t x y ho z 0 D hx hy (by rw [hD, ← hC]; exact hB.ithere) (by rw [hs, hD]) h1 (h _ (hB.iputAll (by rw [hC, hD])) (Adv.isetCells D.toList 0 _ (Adv.refl _ _) (.inl rfl)))
set_option maxRecDepth 3000 in
theorem kop_box {t : TypeId} {C : Array Value} (hgd : o.guard = none) (x : Operand) (ho : o.op = .box t x) (hx : a.eval x = .agg C)
    (h : ∀ z w', w.heap.size ≤ z → Blk w' z t C → Adv Nul w Nul w' → wpList Tryz.prog ops Q rest (a.put o.dst (.pointer (some ⟨z, 0, none⟩))) w') : wpList Tryz.prog ops Q (o :: rest) a w := by
  refine wpList_plain hgd fun K hK => ?_
  unfold Oper.wp execOp
  simp [ho, hx, Result.andThen]
  exact hK _ _ (h _ _ (Nat.le_refl _) (Blk.new _ _ _) ((Adv.refl _ _).alloc _))
set_option maxRecDepth 3000 in
theorem kop_load {t t' : TypeId} {C : Array Value} {s : Nat} {d : TypeDesc} (hgd : o.guard = none) (x : Operand) (ho : o.op = .load t x) (z : Nat) (hB : Blk w z t' C) (hx : a.eval x = .pointer (some ⟨z, 0, none⟩))
    (hu : Tryz.prog.underlying t = some d) (hd : d.isRow = true) (hs : (Tryz.prog.info? t).map (·.size) = some s) (hC : C.size = s)
    (h : wpList Tryz.prog ops Q rest (a.put o.dst (.agg C)) w) : wpList Tryz.prog ops Q (o :: rest) a w := by
  refine wpList_load_mid hgd t x ho z 0 hx C.toList d (Blk.range hB) hu hd (by rw [hs, Array.length_toList, hC]) ?_
  rw [Array.toArray_toList]
  exact h
end
section
variable {ops : Array Oper} {o : Oper} {a : Act} {w : World} {K : Act → World → Prop} {Q : Exit → Act → World → Prop} {E : Prop}
end
set_option maxRecDepth 3000 in
theorem kyl_load {ops : Array Oper} {S : World → Prop} {op : Oper} {a : Act} {t t' : TypeId} {C : Array Value} {n : Nat} {d : TypeDesc} (hw : Region.wanted op (yielded ops a.tmps) = true) (x : Operand) (ho : op.op = .load t x) (z : Nat) (hx : a.eval x = .pointer (some ⟨z, 0, none⟩)) (hS : ∀ w, S w → Blk w z t' C)
    (hu : Tryz.prog.underlying t = some d) (hd : d.isRow = true) (hs : (Tryz.prog.info? t).map (·.size) = some n) (hC : C.size = n) : YieldsIf Tryz.prog ops S op (.agg C) a := by
  have := yieldsIf_load_mid (P := Tryz.prog) (S := S) hw t x ho z 0 hx C.toList d (fun w h => Blk.range (hS w h)) hu hd (by rw [hs, Array.length_toList, hC])
  rwa [Array.toArray_toList] at this
set_option maxRecDepth 3000 in
theorem kres2 {fn : Func} {p q : Tmp} {ty : TypeId} (h : fn.results = #[.cell p ty, .tmp q]) (tmps : Array Value) (w : World) {z : Nat} {t : TypeId} {C : Array Value} {d : TypeDesc} {v : Value} (hp : tmps.getD p undef = .pointer (some ⟨z, 0, none⟩)) (hq : tmps.getD q undef = v) (hB : Blk w z t C)
    (hu : Tryz.prog.underlying ty = some d) (hd : d.isRow = true) (hi : (Tryz.prog.info? ty).map (·.size) = some C.size) : (results fn tmps).run Tryz.prog w = .ok (.tuple #[.agg C, v]) w := by
  have hp' : tmps[p]?.getD undef = .pointer (some ⟨z, 0, none⟩) := by simpa using hp
  have hq' : tmps[q]?.getD undef = v := by simpa using hq
  have hl := run_loadVar_mid (P := Tryz.prog) w z 0 ty C.toList d (Blk.range hB) hu hd (by rw [hi, Array.length_toList])
  rw [Array.toArray_toList] at hl
  simp only [results, h]
  simp [hp', hq', asAddr, hl]
end Go.Proofs.YtcglfknkkeaegaaGreatDoor
namespace Go.Proofs.YtcglfknkkeaegaaGreatDoor
open Go.ChangeShapes Go.WideShapes Go.ChangeAt Go.RowKit

structure Bk where
  i : Int
  g : Int
  a : Int
def bkc (x : Bk) : Array Value := #[.int .i64 x.i, .int .i64 x.g, .int .i64 x.a]
def cmpI (x y : Int) : Int := if x < y then -1 else if y < x then 1 else 0
def ordB (x y : Bk) : Int := if cmpI x.i y.i ≠ 0 then cmpI x.i y.i else if cmpI x.g y.g ≠ 0 then cmpI x.g y.g else cmpI x.a y.a
def lessB (x y : Bk) : Prop := if x.i ≠ y.i then x.i < y.i else if x.g ≠ y.g then x.g < y.g else x.a < y.a
instance (x y : Bk) : Decidable (lessB x y) := by unfold lessB; exact inferInstance
set_option maxRecDepth 3000 in
theorem cmpI_neg (x y : Int) : cmpI y x = -cmpI x y := by unfold cmpI; split <;> (try split) <;> (try split) <;> omega
set_option maxRecDepth 3000 in
theorem isnan_any (x : Int) (w : World) : Calls Tryz.prog 88 #[.int .i64 x] w fun e w' => e = .returned (.bool false) ∧ w' = w := by
  go_enter Tryz.func88, Tryz.ntmps88
  go_wp2_with fail
  go_ret
  exact ⟨by simp, rfl⟩
set_option maxRecDepth 3000 in
theorem compare_any (x y : Int) (w : World) : Calls Tryz.prog 64 #[.int .i64 x, .int .i64 y] w fun e w' => e = .returned (.int .i64 (cmpI x y)) ∧ w' = w := by
  obtain ⟨C, hC⟩ : ∃ C, C = cmpI x y := ⟨_, rfl⟩
  rw [← hC]
  by_cases h1 : x < y
  · obtain rfl : C = -1 := by rw [hC, cmpI, if_pos h1]
    clear hC
    go_enter Tryz.func64, Tryz.ntmps64
    go_wp2_with (first
      | (go_at_call 88; refine (isnan_any _ _).mono ?_; rintro e w1 ⟨rfl, rfl⟩)
      | fail)
    go_ret
    exact ⟨rfl, rfl⟩
  · by_cases h2 : y < x
    · obtain rfl : C = 1 := by rw [hC, cmpI, if_neg h1, if_pos h2]
      clear hC
      go_enter Tryz.func64, Tryz.ntmps64
      go_wp2_with (first
        | (go_at_call 88; refine (isnan_any _ _).mono ?_; rintro e w1 ⟨rfl, rfl⟩)
        | fail)
      go_ret
      exact ⟨rfl, rfl⟩
    · obtain rfl : C = 0 := by rw [hC, cmpI, if_neg h1, if_neg h2]
      clear hC
      go_enter Tryz.func64, Tryz.ntmps64
      go_wp2_with (first
        | (go_at_call 88; refine (isnan_any _ _).mono ?_; rintro e w1 ⟨rfl, rfl⟩)
        | fail)
      go_ret
      exact ⟨rfl, rfl⟩
/-- the first of three that is not 0 -/
def firstN (x y z : Int) : Int := if x ≠ 0 then x else if y ≠ 0 then y else z
def OrL (w : World) (L : List Int) (t8 : Value) (wr : World) : Prop := ∃ k : Nat, t8 = .int .i64 (k : Int) ∧ k ≤ 3 ∧ (∀ j, j < k → L.getD j 0 = 0) ∧ wr = w
set_option maxRecDepth 3000 in
theorem or_any (b : Nat) (x y z : Int) (w : World) (c0 : w.cell? ⟨b, 0, none⟩ = some (.int .i64 x)) (c1 : w.cell? ⟨b, 1, none⟩ = some (.int .i64 y)) (c2 : w.cell? ⟨b, 2, none⟩ = some (.int .i64 z)) :
    Calls Tryz.prog 63 #[.slice (some ⟨b, 0, none⟩) 3 3] w fun e w' => e = .returned (.int .i64 (firstN x y z)) ∧ w' = w := by
  obtain ⟨C, hC⟩ : ∃ C, C = firstN x y z := ⟨_, rfl⟩
  rw [← hC]
  have HC := Lib.hid hC
  clear hC
  have hcell : ∀ k : Nat, k < 3 → w.cell? ⟨b, k, none⟩ = some (.int .i64 ([x, y, z].getD k 0)) := fun k hk => by
    match k, hk with
    | 0, _ => exact c0
    | 1, _ => exact c1
    | 2, _ => exact c2
  have HL := Lib.hid hcell
  clear c0 c1 c2 hcell
  go_enter Tryz.func63, Tryz.ntmps63
  go_wp2_with fail
  go_loopw [8] (OrL w [x, y, z]) (fun t _ => 3 - (intOf t).toNat)
  case atStart => exact ⟨0, rfl, Nat.zero_le _, fun j hj => absurd hj (Nat.not_lt_zero _), rfl⟩
  case round =>
    obtain ⟨k, rfl, hk, hz, rfl⟩ := hrel
    have HZ := Lib.hid hz
    clear hz
    by_cases hlt : k < 3
    · have ck := HL.out k hlt
      have HLT := Lib.hid hlt
      obtain ⟨p, hp⟩ : ∃ p, p = [x, y, z].getD k 0 := ⟨_, rfl⟩
      rw [← hp] at ck
      have HP := Lib.hid hp
      clear hp
      by_cases h0 : p = 0
      · subst h0
        go_wp2_with fail
        exact ⟨⟨k + 1, by simp, HLT.out, fun j hj => by by_cases e : j = k; rw [e]; exact HP.out.symm; exact HZ.out j (by omega), rfl⟩, by have := HLT.out; simp [intOf] <;> omega⟩
      · have h0' : (p != 0) = true := by simp [h0]
        have HC2 := Lib.hid (show C = p by
          rw [HC.out, firstN]
          have := HZ.out
          match k, hlt with
          | 0, _ => have e : p = x := HP.out; subst e; rw [if_pos h0]
          | 1, _ => have e : p = y := HP.out; have e0 : x = 0 := this 0 (by decide); subst e; rw [e0, if_neg (by simp), if_pos h0]
          | 2, _ => have e : p = z := HP.out; have e0 : x = 0 := this 0 (by decide); have e1 : y = 0 := this 1 (by decide); subst e; rw [e0, e1, if_neg (by simp), if_neg (by simp)])
        clear hk
        go_wp2_with fail
        go_ret
        exact ⟨by rw [HC2.out]; rfl, rfl⟩
    · obtain rfl : k = 3 := by omega
      have HC2 := Lib.hid (show C = 0 by
        rw [HC.out, firstN]
        have e0 : x = 0 := HZ.out 0 (by decide)
        have e1 : y = 0 := HZ.out 1 (by decide)
        have e2 : z = 0 := HZ.out 2 (by decide)
        rw [e0, e1, e2]; rfl)
      clear hlt hk
      go_wp2_with fail
      go_ret
      exact ⟨by rw [HC2.out]; rfl, rfl⟩
set_option maxRecDepth 3000 in
theorem ordB_first (x y : Bk) : ordB x y = firstN (cmpI x.i y.i) (cmpI x.g y.g) (cmpI x.a y.a) := rfl
set_option maxRecDepth 3000 in
theorem lessB_iff (x y : Bk) : lessB x y ↔ ordB x y = -1 := by
  unfold lessB ordB cmpI
  by_cases h1 : x.i = y.i <;> by_cases h2 : x.g = y.g <;> simp only [h1, h2, ne_eq, not_true_eq_false, not_false_eq_true, if_true, if_false, Int.lt_irrefl] <;> (repeat' split) <;> omega
set_option maxRecDepth 3000 in
set_option maxHeartbeats 1600000 in
theorem order_any (x y : Bk) (w : World) : Calls Tryz.prog 31 #[.agg (bkc x), .agg (bkc y)] w fun e w' => e = .returned (.int .i64 (ordB x y)) ∧ Adv Nul w Nul w' := by
  rw [ordB_first]
  obtain ⟨i, g, a⟩ := x
  obtain ⟨i2, g2, a2⟩ := y
  obtain ⟨C, hC⟩ : ∃ C, C = firstN (cmpI i i2) (cmpI g g2) (cmpI a a2) := ⟨_, rfl⟩
  have HC := Lib.hid hC
  simp only [bkc]
  rw [← hC]
  clear hC
  go_enter Tryz.func31, Tryz.ntmps31
  go_upto_region 1 with (first
    | (refine kop_box rfl _ rfl rfl ?_; intro p w1 hz hb ha; have HBP := Lib.hid hb; have HA1 := Lib.hid ((Adv.refl Nul w).trans ha); clear hz hb ha)
    | (refine kop_box rfl _ rfl rfl ?_; intro q w2 hz hb ha; have HBQ := Lib.hid hb; have HB2 := Lib.hid (HBP.out.over ha); have HA2 := Lib.hid (HA1.out.trans ha); clear hz hb ha)
    | fail)
  have K0 := Lib.hid (show ((World.drew w2).cell? ⟨p, 0, none⟩ = some (.int .i64 i) ∧ (World.drew w2).cell? ⟨p, 1, none⟩ = some (.int .i64 g) ∧ (World.drew w2).cell? ⟨p, 2, none⟩ = some (.int .i64 a)) ∧ ((World.drew w2).cell? ⟨q, 0, none⟩ = some (.int .i64 i2) ∧ (World.drew w2).cell? ⟨q, 1, none⟩ = some (.int .i64 g2) ∧ (World.drew w2).cell? ⟨q, 2, none⟩ = some (.int .i64 a2)) from ⟨⟨HB2.out.cell 0, HB2.out.cell 1, HB2.out.cell 2⟩, ⟨HBQ.out.cell 0, HBQ.out.cell 1, HBQ.out.cell 2⟩⟩)
  have K1 := Lib.hid (fun (o : Obj) => show ((World.drew (w2.alloc o)).cell? ⟨p, 0, none⟩ = some (.int .i64 i) ∧ (World.drew (w2.alloc o)).cell? ⟨p, 1, none⟩ = some (.int .i64 g) ∧ (World.drew (w2.alloc o)).cell? ⟨p, 2, none⟩ = some (.int .i64 a)) ∧ ((World.drew (w2.alloc o)).cell? ⟨q, 0, none⟩ = some (.int .i64 i2) ∧ (World.drew (w2.alloc o)).cell? ⟨q, 1, none⟩ = some (.int .i64 g2) ∧ (World.drew (w2.alloc o)).cell? ⟨q, 2, none⟩ = some (.int .i64 a2)) from ⟨⟨(HB2.out.alloc o).cell 0, (HB2.out.alloc o).cell 1, (HB2.out.alloc o).cell 2⟩, ⟨(HBQ.out.alloc o).cell 0, (HBQ.out.alloc o).cell 1, (HBQ.out.alloc o).cell 2⟩⟩)
  refine rstart (S := (fun w' => (w'.cell? ⟨p, 0, none⟩ = some (.int .i64 i) ∧ w'.cell? ⟨p, 1, none⟩ = some (.int .i64 g) ∧ w'.cell? ⟨p, 2, none⟩ = some (.int .i64 a)) ∧ (w'.cell? ⟨q, 0, none⟩ = some (.int .i64 i2) ∧ w'.cell? ⟨q, 1, none⟩ = some (.int .i64 g2) ∧ w'.cell? ⟨q, 2, none⟩ = some (.int .i64 a2)))) (by first | with_reducible exact K1.out _ | with_reducible exact K0.out) (fun hH => ?_)
  refine tk (i := 0) (oi := ⟨some 5, .fieldAddr 37 (.tmp 2) 0, 0, "slot.go:93", #[], none⟩) hH.out (by rintro w ⟨⟨s0, s1, s2⟩, ⟨q0, q1, q2⟩⟩; go_simp <;> with_reducible rfl) ?_
  simp only [Act.put, sA, sB, sC]
  refine tk (i := 1) (oi := ⟨some 6, .fieldAddr 35 (.tmp 5) 0, 0, "slot.go:93", #[⟨0, .data⟩], none⟩) hH.out (by rintro w ⟨⟨s0, s1, s2⟩, ⟨q0, q1, q2⟩⟩; go_simp <;> with_reducible rfl) ?_
  simp only [Act.put, sA, sB, sC]
  refine tk (i := 2) (oi := ⟨some 7, .load 3 (.tmp 6), 3, "slot.go:93", #[⟨1, .data⟩], none⟩) hH.out (by rintro w ⟨⟨s0, s1, s2⟩, ⟨q0, q1, q2⟩⟩; go_simp <;> with_reducible rfl) ?_
  simp only [Act.put, sA, sB, sC]
  refine tk (i := 3) (oi := ⟨some 8, .fieldAddr 37 (.tmp 3) 0, 0, "slot.go:93", #[], none⟩) hH.out (by rintro w ⟨⟨s0, s1, s2⟩, ⟨q0, q1, q2⟩⟩; go_simp <;> with_reducible rfl) ?_
  simp only [Act.put, sA, sB, sC]
  refine tk (i := 4) (oi := ⟨some 9, .fieldAddr 35 (.tmp 8) 0, 0, "slot.go:93", #[⟨3, .data⟩], none⟩) hH.out (by rintro w ⟨⟨s0, s1, s2⟩, ⟨q0, q1, q2⟩⟩; go_simp <;> with_reducible rfl) ?_
  simp only [Act.put, sA, sB, sC]
  refine tk (i := 5) (oi := ⟨some 10, .load 3 (.tmp 9), 3, "slot.go:93", #[⟨4, .data⟩], none⟩) hH.out (by rintro w ⟨⟨s0, s1, s2⟩, ⟨q0, q1, q2⟩⟩; go_simp <;> with_reducible rfl) ?_
  simp only [Act.put, sA, sB, sC]
  refine tk (i := 7) (oi := ⟨some 12, .fieldAddr 37 (.tmp 2) 0, 0, "slot.go:93", #[], none⟩) hH.out (by rintro w ⟨⟨s0, s1, s2⟩, ⟨q0, q1, q2⟩⟩; go_simp <;> with_reducible rfl) ?_
  simp only [Act.put, sA, sB, sC]
  refine tk (i := 8) (oi := ⟨some 13, .fieldAddr 35 (.tmp 12) 1, 0, "slot.go:93", #[⟨7, .data⟩], none⟩) hH.out (by rintro w ⟨⟨s0, s1, s2⟩, ⟨q0, q1, q2⟩⟩; go_simp <;> with_reducible rfl) ?_
  simp only [Act.put, sA, sB, sC]
  refine tk (i := 9) (oi := ⟨some 14, .load 3 (.tmp 13), 3, "slot.go:93", #[⟨8, .data⟩], none⟩) hH.out (by rintro w ⟨⟨s0, s1, s2⟩, ⟨q0, q1, q2⟩⟩; go_simp <;> with_reducible rfl) ?_
  simp only [Act.put, sA, sB, sC]
  refine tk (i := 10) (oi := ⟨some 15, .fieldAddr 37 (.tmp 3) 0, 0, "slot.go:93", #[], none⟩) hH.out (by rintro w ⟨⟨s0, s1, s2⟩, ⟨q0, q1, q2⟩⟩; go_simp <;> with_reducible rfl) ?_
  simp only [Act.put, sA, sB, sC]
  refine tk (i := 11) (oi := ⟨some 16, .fieldAddr 35 (.tmp 15) 1, 0, "slot.go:93", #[⟨10, .data⟩], none⟩) hH.out (by rintro w ⟨⟨s0, s1, s2⟩, ⟨q0, q1, q2⟩⟩; go_simp <;> with_reducible rfl) ?_
  simp only [Act.put, sA, sB, sC]
  refine tk (i := 12) (oi := ⟨some 17, .load 3 (.tmp 16), 3, "slot.go:93", #[⟨11, .data⟩], none⟩) hH.out (by rintro w ⟨⟨s0, s1, s2⟩, ⟨q0, q1, q2⟩⟩; go_simp <;> with_reducible rfl) ?_
  simp only [Act.put, sA, sB, sC]
  refine tk (i := 14) (oi := ⟨some 19, .fieldAddr 37 (.tmp 2) 1, 0, "slot.go:93", #[], none⟩) hH.out (by rintro w ⟨⟨s0, s1, s2⟩, ⟨q0, q1, q2⟩⟩; go_simp <;> with_reducible rfl) ?_
  simp only [Act.put, sA, sB, sC]
  refine tk (i := 15) (oi := ⟨some 20, .load 3 (.tmp 19), 3, "slot.go:93", #[⟨14, .data⟩], none⟩) hH.out (by rintro w ⟨⟨s0, s1, s2⟩, ⟨q0, q1, q2⟩⟩; go_simp <;> with_reducible rfl) ?_
  simp only [Act.put, sA, sB, sC]
  refine tk (i := 16) (oi := ⟨some 21, .fieldAddr 37 (.tmp 3) 1, 0, "slot.go:93", #[], none⟩) hH.out (by rintro w ⟨⟨s0, s1, s2⟩, ⟨q0, q1, q2⟩⟩; go_simp <;> with_reducible rfl) ?_
  simp only [Act.put, sA, sB, sC]
  refine tk (i := 17) (oi := ⟨some 22, .load 3 (.tmp 21), 3, "slot.go:93", #[⟨16, .data⟩], none⟩) hH.out (by rintro w ⟨⟨s0, s1, s2⟩, ⟨q0, q1, q2⟩⟩; go_simp <;> with_reducible rfl) ?_
  simp only [Act.put, sA, sB, sC]
  refine rdy (i := 6) (oi := ⟨some 11, .call ⟨.value (.func 64), #[.tmp 7, .tmp 10], #[3, 3]⟩, 3, "slot.go:94", #[⟨2, .data⟩, ⟨5, .data⟩], none⟩) (fun K hK => ?_)
  go_simp
  refine (compare_any _ _ _).mono ?_
  rintro e w9 ⟨rfl, rfl⟩
  go_wp2_with fail
  refine hK.out _ _ (by first | with_reducible exact K1.out _ | with_reducible exact K0.out) (fun hHeld => ?_)
  replace hH := Lib.hid hHeld
  clear hK K hHeld
  try simp only [Act.put, sA, sB, sC]
  refine rdy (i := 13) (oi := ⟨some 18, .call ⟨.value (.func 64), #[.tmp 14, .tmp 17], #[3, 3]⟩, 3, "slot.go:95", #[⟨9, .data⟩, ⟨12, .data⟩, ⟨6, .chain⟩], none⟩) (fun K hK => ?_)
  go_simp
  refine (compare_any _ _ _).mono ?_
  rintro e w9 ⟨rfl, rfl⟩
  go_wp2_with fail
  refine hK.out _ _ (by first | with_reducible exact K1.out _ | with_reducible exact K0.out) (fun hHeld => ?_)
  replace hH := Lib.hid hHeld
  clear hK K hHeld
  try simp only [Act.put, sA, sB, sC]
  refine rdy (i := 18) (oi := ⟨some 23, .call ⟨.value (.func 64), #[.tmp 20, .tmp 22], #[3, 3]⟩, 3, "slot.go:96", #[⟨15, .data⟩, ⟨17, .data⟩, ⟨13, .chain⟩], none⟩) (fun K hK => ?_)
  go_simp
  refine (compare_any _ _ _).mono ?_
  rintro e w9 ⟨rfl, rfl⟩
  go_wp2_with fail
  refine hK.out _ _ (by first | with_reducible exact K1.out _ | with_reducible exact K0.out) (fun hHeld => ?_)
  replace hH := Lib.hid hHeld
  clear hK K hHeld
  try simp only [Act.put, sA, sB, sC]
  refine rdy (i := 19) (oi := ⟨some 24, .buildSlice 41 3 #[(0, .tmp 11), (1, .tmp 18), (2, .tmp 23)], 41, "slot.go:93", #[⟨6, .data⟩, ⟨13, .data⟩, ⟨18, .data⟩], none⟩) (fun K hK => ?_)
  go_simp
  refine hK.out _ _ (by first | with_reducible exact K1.out _ | with_reducible exact K0.out) (fun hHeld => ?_)
  replace hH := Lib.hid hHeld
  clear hK K hHeld
  try simp only [Act.put, sA, sB, sC]
  refine rdy (i := 20) (oi := ⟨some 25, .call ⟨.value (.func 63), #[.tmp 24], #[41]⟩, 3, "slot.go:93", #[⟨19, .data⟩, ⟨18, .chain⟩], none⟩) (fun K hK => ?_)
  go_simp
  refine (or_any _ (cmpI i i2) (cmpI g g2) (cmpI a a2) _ ((Blk.new w2 3 #[.int .i64 (cmpI i i2), .int .i64 (cmpI g g2), .int .i64 (cmpI a a2)]).drew.cell 0) ((Blk.new w2 3 #[.int .i64 (cmpI i i2), .int .i64 (cmpI g g2), .int .i64 (cmpI a a2)]).drew.cell 1) ((Blk.new w2 3 #[.int .i64 (cmpI i i2), .int .i64 (cmpI g g2), .int .i64 (cmpI a a2)]).drew.cell 2)).mono ?_
  rintro e w9 ⟨rfl, rfl⟩
  go_wp2_with fail
  refine hK.out _ _ (by first | with_reducible exact K1.out _ | with_reducible exact K0.out) (fun hHeld => ?_)
  replace hH := Lib.hid hHeld
  clear hK K hHeld
  try simp only [Act.put, sA, sB, sC]
  refine tk (i := 21) (oi := ⟨some 4, .assign (.tmp 25), 3, "slot.go:93", #[⟨20, .data⟩, ⟨20, .chain⟩, ⟨0, .phase⟩, ⟨1, .phase⟩, ⟨2, .phase⟩, ⟨3, .phase⟩, ⟨4, .phase⟩, ⟨5, .phase⟩, ⟨6, .phase⟩, ⟨7, .phase⟩, ⟨8, .phase⟩, ⟨9, .phase⟩, ⟨10, .phase⟩, ⟨11, .phase⟩, ⟨12, .phase⟩, ⟨13, .phase⟩, ⟨14, .phase⟩, ⟨15, .phase⟩, ⟨16, .phase⟩, ⟨17, .phase⟩, ⟨18, .phase⟩, ⟨19, .phase⟩, ⟨20, .phase⟩], none⟩) hH.out (by rintro w ⟨⟨s0, s1, s2⟩, ⟨q0, q1, q2⟩⟩; go_simp <;> with_reducible rfl) ?_
  simp only [Act.put, sA, sB, sC]
  refine wpAnyH_done (by kernel_rfl) ?_ _
  go_wp2_with fail
  go_ret
  exact ⟨by rw [HC.out]; rfl, (HA2.out.alloc _).drew⟩
/-- whether two blocks are the same -/
def eqBk (x y : Bk) : Prop := x.i = y.i ∧ x.g = y.g ∧ x.a = y.a
instance (x y : Bk) : Decidable (eqBk x y) := by unfold eqBk; exact inferInstance
set_option maxRecDepth 3000 in
theorem ordB_vals (x y : Bk) : ordB x y = if lessB x y then -1 else if eqBk x y then 0 else 1 := by
  unfold lessB ordB cmpI eqBk
  by_cases h1 : x.i = y.i <;> by_cases h2 : x.g = y.g <;> simp only [h1, h2, ne_eq, not_true_eq_false, not_false_eq_true, if_true, if_false, Int.lt_irrefl, true_and, false_and, if_false] <;> (repeat' split) <;> omega
set_option maxRecDepth 3000 in
theorem lessB_trans {x y z : Bk} (h1 : lessB x y) (h2 : lessB y z) : lessB x z := by
  unfold lessB at *
  split at h1 <;> split at h2 <;> split <;> (try split at h1) <;> (try split at h2) <;> (try split) <;> omega
end Go.Proofs.YtcglfknkkeaegaaGreatDoor
namespace Go.Proofs.YtcglfknkkeaegaaGreatDoor

def pput (x i : Nat) : Nat := x ||| 2 ^ i
def ddrop (x i : Nat) : Nat := x &&& (18446744073709551615 - 2 ^ i)
theorem pput_bit (x i j : Nat) : (pput x i).testBit j = (x.testBit j || decide (j = i)) := by
  unfold pput
  rw [Nat.testBit_or, Nat.testBit_two_pow]
  by_cases h : i = j
  · simp [h]
  · rw [decide_eq_false h, decide_eq_false (Ne.symm h)]
theorem ddrop_bit {x i : Nat} (hx : x < 18446744073709551616) (hi : i < 64) (j : Nat) : (ddrop x i).testBit j = (x.testBit j && !decide (j = i)) := by
  unfold ddrop
  have h1 : 2 ^ i < 2 ^ 64 := Nat.pow_lt_pow_right (by decide) hi
  rw [Nat.testBit_and, show 18446744073709551615 - 2 ^ i = 2 ^ 64 - (2 ^ i + 1) by omega, Nat.testBit_two_pow_sub_succ h1, Nat.testBit_two_pow]
  rcases Nat.lt_or_ge j 64 with hj | hj
  · rw [decide_eq_true hj]
    by_cases h : i = j
    · simp [h]
    · rw [decide_eq_false h, decide_eq_false (Ne.symm h)]; simp
  · have : x.testBit j = false := Nat.testBit_lt_two_pow (Nat.lt_of_lt_of_le hx (show 2 ^ 64 ≤ 2 ^ j from Nat.pow_le_pow_right (by decide) hj))
    rw [this]; simp
theorem pput_lt {x i n : Nat} (hx : x < 2 ^ n) (hi : i < n) : pput x i < 2 ^ n := Nat.or_lt_two_pow hx (Nat.pow_lt_pow_right (by decide) hi)
theorem ddrop_lt {x i n : Nat} (hx : x < 2 ^ n) : ddrop x i < 2 ^ n := Nat.lt_of_le_of_lt Nat.and_le_left hx
theorem lt64 {x n : Nat} (h : x < 2 ^ n) (hn : n ≤ 64) : x < 18446744073709551616 := Nat.lt_of_lt_of_le h (show 2 ^ n ≤ 2 ^ 64 from Nat.pow_le_pow_right (by decide) hn)
theorem bit_out {x n i : Nat} (h : x < 2 ^ n) (hi : n ≤ i) : x.testBit i = false := Nat.testBit_lt_two_pow (Nat.lt_of_lt_of_le h (Nat.pow_le_pow_right (by decide) hi))

/-- the lowest bit -/
theorem ctz_bit {x : Nat} (h0 : x ≠ 0) (h : x < 18446744073709551616) : x.testBit (Lib.ctz 64 x) = true ∧ (∀ j, j < Lib.ctz 64 x → x.testBit j = false) ∧ Lib.ctz 64 x < 64 := by
  obtain ⟨m, hm, hk⟩ := Lib.ctzFrom_spec 64 x (by omega) h
  have e : Lib.ctz 64 x = Lib.ctzFrom 64 x := by simp [Lib.ctz, h0]
  rw [e]
  generalize Lib.ctzFrom 64 x = k at hm hk
  subst hm
  refine ⟨?_, fun j hj => ?_, hk⟩
  · rw [Nat.mul_comm, Nat.testBit_mul_two_pow]; simp
  · rw [Nat.mul_comm, Nat.testBit_mul_two_pow, decide_eq_false (by omega)]; rfl

theorem filt_more {f : Nat → Bool} {n : Nat} (h : ∀ j, n ≤ j → f j = false) : ∀ k, (List.range (n + k)).filter f = (List.range n).filter f
  | 0 => rfl
  | k + 1 => by rw [← Nat.add_assoc, List.range_succ, List.filter_append, filt_more h k]; simp [h (n + k) (by omega)]
theorem every_bit (n j : Nat) : (2 ^ n - 1).testBit j = decide (j < n) := Nat.testBit_two_pow_sub_one ..
theorem every_iff {x n : Nat} (h : x < 2 ^ n) : x = 2 ^ n - 1 ↔ ∀ i, i < n → x.testBit i = true := by
  constructor
  · rintro e i hi; rw [e, every_bit, decide_eq_true hi]
  · intro k
    apply Nat.eq_of_testBit_eq
    intro i
    rw [every_bit]
    rcases Nat.lt_or_ge i n with hi | hi
    · rw [k i hi, decide_eq_true hi]
    · rw [bit_out h hi, decide_eq_false (by omega)]

/-- a ring: places, used ones, pinned ones, marked ones, the hand -/
structure RgS where
  n : Nat
  u : Nat
  p : Nat
  m : Nat
  h : Nat
structure COk (s : RgS) : Prop where
  lo : 1 ≤ s.n
  hi : s.n ≤ 64
  u : s.u < 2 ^ s.n
  p : s.p < 2 ^ s.n
  m : s.m < 2 ^ s.n
  h : s.h < s.n
  sub : ∀ i, s.p.testBit i = true → s.u.testBit i = true
theorem COk.u64 {s : RgS} (h : COk s) : s.u < 18446744073709551616 := lt64 h.u h.hi
theorem COk.p64 {s : RgS} (h : COk s) : s.p < 18446744073709551616 := lt64 h.p h.hi
theorem COk.m64 {s : RgS} (h : COk s) : s.m < 18446744073709551616 := lt64 h.m h.hi
def cNew (n : Nat) : RgS := ⟨n, 0, 0, 0, 0⟩
theorem COk.new {n : Nat} (h1 : 1 ≤ n) (h2 : n ≤ 64) : COk (cNew n) := ⟨h1, h2, Nat.two_pow_pos n, Nat.two_pow_pos n, Nat.two_pow_pos n, h1, fun i h => by rw [show (cNew n).p = 0 from rfl, Nat.zero_testBit] at h; cases h⟩

/-- a call that names a place that is there -/
def doS (k : Int) (s : RgS) (i : Nat) : RgS :=
  if k = 0 then { s with u := pput s.u i, p := ddrop s.p i, m := pput s.m i }
  else if k = 1 then { s with u := ddrop s.u i, p := ddrop s.p i, m := ddrop s.m i }
  else if k = 2 then (if s.u.testBit i then { s with m := pput s.m i } else s)
  else if k = 3 then (if s.u.testBit i then { s with p := pput s.p i } else s)
  else { s with p := ddrop s.p i }
def hereC (s : RgS) (i : Int) : Prop := 0 ≤ i ∧ i < (s.n : Int)
instance (s : RgS) (i : Int) : Decidable (hereC s i) := by unfold hereC; infer_instance
def doC (k : Int) (s : RgS) (i : Int) : RgS := if hereC s i then doS k s i.toNat else s
def doE (k : Int) (s : RgS) (i : Int) : Int := if hereC s i then (if (k = 2 ∨ k = 3) ∧ s.u.testBit i.toNat = false then 11 else 0) else 2
theorem doS_ok {k : Int} {s : RgS} (h : COk s) {i : Nat} (hi : i < s.n) : COk (doS k s i) := by
  have hi64 : i < 64 := Nat.lt_of_lt_of_le hi h.hi
  unfold doS
  split
  · refine ⟨h.lo, h.hi, pput_lt h.u hi, ddrop_lt h.p, pput_lt h.m hi, h.h, fun j hj => ?_⟩
    rw [ddrop_bit h.p64 hi64] at hj
    rw [pput_bit, h.sub j (by revert hj; cases s.p.testBit j <;> simp)]; rfl
  split
  · refine ⟨h.lo, h.hi, ddrop_lt h.u, ddrop_lt h.p, ddrop_lt h.m, h.h, fun j hj => ?_⟩
    rw [ddrop_bit h.p64 hi64, Bool.and_eq_true] at hj
    rw [ddrop_bit h.u64 hi64, h.sub j hj.1, hj.2]; rfl
  split
  · split
    · exact ⟨h.lo, h.hi, h.u, h.p, pput_lt h.m hi, h.h, h.sub⟩
    · exact h
  split
  · split
    · rename_i hu
      refine ⟨h.lo, h.hi, h.u, pput_lt h.p hi, h.m, h.h, fun j hj => ?_⟩
      rw [pput_bit] at hj
      by_cases e : j = i
      · rw [e]; exact hu
      · rw [decide_eq_false e, Bool.or_false] at hj; exact h.sub j hj
    · exact h
  · refine ⟨h.lo, h.hi, h.u, ddrop_lt h.p, h.m, h.h, fun j hj => ?_⟩
    rw [ddrop_bit h.p64 hi64, Bool.and_eq_true] at hj
    exact h.sub j hj.1
theorem doC_ok {k : Int} {s : RgS} (h : COk s) (i : Int) : COk (doC k s i) := by
  unfold doC
  split
  · rename_i e
    obtain ⟨e1, e2⟩ := e
    exact doS_ok h (by omega)
  · exact h

/-! The hand. -/
def nxt (s : RgS) : Nat := if s.h + 1 = s.n then 0 else s.h + 1
theorem nxt_lt {s : RgS} (h : COk s) : nxt s < s.n := by
  have := h.h; have := h.lo
  unfold nxt; split <;> omega
theorem nxt_mod {s : RgS} (h : COk s) : (s.h + 1) % s.n = nxt s := by
  have := h.h
  unfold nxt
  split
  · rename_i e; rw [e, Nat.mod_self]
  · exact Nat.mod_eq_of_lt (by omega)
def stepP (s : RgS) : RgS := { s with h := nxt s }
def stepM (s : RgS) : RgS := { s with h := nxt s, m := ddrop s.m s.h }
def turnF : Nat → RgS → Option (Nat × RgS)
  | 0, _ => none
  | k + 1, s => if s.p.testBit s.h = true then turnF k (stepP s) else if s.m.testBit s.h = true then turnF k (stepM s) else some (s.h, stepP s)
theorem COk.stepP {s : RgS} (h : COk s) : COk (stepP s) := ⟨h.lo, h.hi, h.u, h.p, h.m, nxt_lt h, h.sub⟩
theorem COk.stepM {s : RgS} (h : COk s) : COk (stepM s) := ⟨h.lo, h.hi, h.u, h.p, ddrop_lt h.m, nxt_lt h, h.sub⟩
theorem turn_mono : ∀ (k : Nat) (s : RgS) (r : Nat × RgS), turnF k s = some r → turnF (k + 1) s = some r
  | 0, _, _, h => by cases h
  | k + 1, s, r, h => by
    unfold turnF at h ⊢
    split
    · rename_i e; rw [if_pos e] at h; exact turn_mono k _ r h
    · rename_i e
      rw [if_neg e] at h
      split
      · rename_i e2; rw [if_pos e2] at h; exact turn_mono k _ r h
      · rename_i e2; rw [if_neg e2] at h; exact h
theorem turn_more {k : Nat} {s : RgS} {r : Nat × RgS} (h : turnF k s = some r) : ∀ j, turnF (k + j) s = some r
  | 0 => h
  | j + 1 => turn_mono _ _ _ (turn_more h j)
def dist (s : RgS) (j : Nat) : Nat := if s.h ≤ j then j - s.h else j + s.n - s.h
theorem dist_zero {s : RgS} {j : Nat} (h : COk s) : dist s j = 0 ↔ j = s.h := by
  have := h.h
  unfold dist; split <;> omega
theorem dist_lt {s : RgS} {j : Nat} (h : COk s) (hj : j < s.n) : dist s j < s.n := by
  have := h.h
  unfold dist; split <;> omega
theorem dist_step {s t : RgS} {j d : Nat} (h : COk s) (hj : j < s.n) (hd : dist s j = d + 1) (hn : t.n = s.n) (ht : t.h = nxt s) : dist t j = d := by
  have := h.h
  unfold dist at hd ⊢
  unfold nxt at ht
  rw [hn, ht]
  split at hd <;> split <;> split <;> omega
theorem dist_round {s t : RgS} (h : COk s) (hn : t.n = s.n) (ht : t.h = nxt s) : dist t s.h = s.n - 1 := by
  have := h.h
  unfold dist
  unfold nxt at ht
  rw [hn, ht]
  split <;> split <;> omega
theorem turnA : ∀ (d : Nat) (s : RgS) (j : Nat), COk s → j < s.n → dist s j = d → s.p.testBit j = false → s.m.testBit j = false → ∃ r, turnF (d + 1) s = some r
  | 0, s, j, h, hj, hd, hp, hm => by
    obtain rfl := (dist_zero h).1 hd
    unfold turnF
    rw [if_neg (by rw [hp]; decide), if_neg (by rw [hm]; decide)]
    exact ⟨_, rfl⟩
  | d + 1, s, j, h, hj, hd, hp, hm => by
    have hne : j ≠ s.h := fun e => by rw [(dist_zero h).2 e] at hd; omega
    unfold turnF
    split
    · exact turnA d (stepP s) j h.stepP hj (dist_step h hj hd rfl rfl) hp hm
    split
    · refine turnA d (stepM s) j h.stepM hj (dist_step h hj hd rfl rfl) hp ?_
      show (ddrop s.m s.h).testBit j = false
      rw [ddrop_bit h.m64 (Nat.lt_of_lt_of_le h.h h.hi), hm]; rfl
    · exact ⟨_, rfl⟩
theorem turnB : ∀ (d : Nat) (s : RgS) (j : Nat), COk s → j < s.n → dist s j = d → s.p.testBit j = false → ∃ r, turnF (d + 1 + s.n) s = some r
  | 0, s, j, h, hj, hd, hp => by
    have hlo := h.lo
    by_cases hm : s.m.testBit j = false
    · obtain ⟨r, hr⟩ := turnA 0 s j h hj hd hp hm
      exact ⟨r, turn_more hr s.n⟩
    · obtain rfl := (dist_zero h).1 hd
      rw [show 0 + 1 + s.n = s.n + 1 by omega]
      unfold turnF
      rw [if_neg (by rw [hp]; decide), if_pos (by revert hm; cases s.m.testBit s.h <;> simp)]
      obtain ⟨r, hr⟩ := turnA (s.n - 1) (stepM s) s.h h.stepM hj (dist_round h rfl rfl) hp (by
        show (ddrop s.m s.h).testBit s.h = false
        rw [ddrop_bit h.m64 (Nat.lt_of_lt_of_le h.h h.hi)]; simp)
      rw [show s.n - 1 + 1 = s.n by omega] at hr
      exact ⟨r, hr⟩
  | d + 1, s, j, h, hj, hd, hp => by
    have hne : j ≠ s.h := fun e => by rw [(dist_zero h).2 e] at hd; omega
    rw [show d + 1 + 1 + s.n = (d + 1 + s.n) + 1 by omega]
    unfold turnF
    split
    · exact turnB d (stepP s) j h.stepP hj (dist_step h hj hd rfl rfl) hp
    split
    · exact turnB d (stepM s) j h.stepM hj (dist_step h hj hd rfl rfl) hp
    · exact ⟨_, rfl⟩
theorem turn_ends {s : RgS} (h : COk s) (hp : s.p ≠ 2 ^ s.n - 1) : ∃ r, turnF (2 * s.n) s = some r := by
  have : ∃ j, j < s.n ∧ s.p.testBit j = false := by
    apply Classical.byContradiction
    intro hn
    apply hp
    refine (every_iff h.p).2 fun i hi => ?_
    cases e : s.p.testBit i
    · exact (hn ⟨i, hi, e⟩).elim
    · rfl
  obtain ⟨j, hj, hb⟩ := this
  obtain ⟨r, hr⟩ := turnB (dist s j) s j h hj rfl hb
  have := dist_lt h hj
  have hm := turn_more hr (2 * s.n - (dist s j + 1 + s.n))
  rw [show dist s j + 1 + s.n + (2 * s.n - (dist s j + 1 + s.n)) = 2 * s.n by omega] at hm
  exact ⟨r, hm⟩
/-- what the hand leaves -/
theorem turn_keep : ∀ (k : Nat) (s : RgS) (i : Nat) (t : RgS), COk s → turnF k s = some (i, t) → i < s.n ∧ s.p.testBit i = false ∧ COk t ∧ t.n = s.n ∧ t.u = s.u ∧ t.p = s.p
  | 0, _, _, _, _, h => by cases h
  | k + 1, s, i, t, h, e => by
    unfold turnF at e
    split at e
    · exact turn_keep k (stepP s) i t h.stepP e
    rename_i hp
    split at e
    · exact turn_keep k (stepM s) i t h.stepM e
    · injection e with e
      injection e with e1 e2
      subst e1 e2
      exact ⟨h.h, by revert hp; cases s.p.testBit s.h <;> simp, h.stepP, rfl, rfl, rfl⟩
def freeL (s : RgS) : Option Nat := (List.range s.n).find? (fun i => !s.u.testBit i)
theorem freeL_some {s : RgS} {i : Nat} (h1 : i < s.n) (h2 : s.u.testBit i = false) (h3 : ∀ j, j < i → s.u.testBit j = true) : freeL s = some i := by
  unfold freeL
  rw [List.find?_range_eq_some]
  exact ⟨by simp [h2], by simpa using h1, fun j hj => by simp [h3 j hj]⟩
theorem freeL_none {s : RgS} (h : ∀ i, i < s.n → s.u.testBit i = true) : freeL s = none := by
  unfold freeL
  rw [List.find?_eq_none]
  intro i hi
  rw [h i (by simpa using hi)]
  decide
structure NR where
  i : Int
  e : Int
  s : RgS
def nextS (s : RgS) : NR := match freeL s with
  | some i => ⟨(i : Int), 0, s⟩
  | none => if s.p = 2 ^ s.n - 1 then ⟨-1, 8, s⟩ else match turnF (2 * s.n) s with
    | some (i, t) => ⟨(i : Int), 0, t⟩
    | none => ⟨-1, 8, s⟩
/-- the free ones as a number -/
def freeN (s : RgS) : Nat := (2 ^ s.n - 1) &&& (18446744073709551615 - s.u)
theorem freeN_bit {s : RgS} (h : COk s) (j : Nat) : (freeN s).testBit j = (decide (j < s.n) && !s.u.testBit j) := by
  unfold freeN
  have hu := h.u64
  rw [Nat.testBit_and, every_bit, show 18446744073709551615 - s.u = 2 ^ 64 - (s.u + 1) by omega, Nat.testBit_two_pow_sub_succ (by exact hu)]
  rcases Nat.lt_or_ge j s.n with hj | hj
  · rw [decide_eq_true (show j < 64 from Nat.lt_of_lt_of_le hj h.hi)]; simp
  · rw [decide_eq_false (by omega)]; simp
theorem freeN_lt (s : RgS) (h : COk s) : freeN s < 18446744073709551616 := by
  have := h.lo
  exact Nat.lt_of_le_of_lt Nat.and_le_left (lt64 (n := s.n) (by have := Nat.two_pow_pos s.n; omega) h.hi)
theorem next_free {s : RgS} (h : COk s) (h0 : freeN s ≠ 0) : nextS s = ⟨(Lib.ctz 64 (freeN s) : Int), 0, s⟩ ∧ Lib.ctz 64 (freeN s) < s.n := by
  obtain ⟨h1, h2, h3⟩ := ctz_bit h0 (freeN_lt s h)
  rw [freeN_bit h, Bool.and_eq_true, decide_eq_true_eq] at h1
  refine ⟨?_, h1.1⟩
  unfold nextS
  rw [freeL_some h1.1 (by simpa using h1.2) (fun j hj => by
    have := h2 j hj
    rw [freeN_bit h, decide_eq_true (by omega)] at this
    simpa using this)]
theorem all_used {s : RgS} (h : COk s) (h0 : freeN s = 0) : ∀ i, i < s.n → s.u.testBit i = true := fun i hi => by
  have := freeN_bit h i
  rw [h0, Nat.zero_testBit, decide_eq_true hi] at this
  simpa using this.symm
theorem next_all {s : RgS} (h0 : ∀ i, i < s.n → s.u.testBit i = true) (hp : s.p = 2 ^ s.n - 1) : nextS s = ⟨-1, 8, s⟩ := by
  unfold nextS
  rw [freeL_none h0]
  simp only [if_pos hp]
theorem next_turn {s : RgS} (h : COk s) (h0 : ∀ i, i < s.n → s.u.testBit i = true) (hp : s.p ≠ 2 ^ s.n - 1) : ∃ i t, turnF (2 * s.n) s = some (i, t) ∧ nextS s = ⟨(i : Int), 0, t⟩ := by
  obtain ⟨⟨i, t⟩, hr⟩ := turn_ends h hp
  refine ⟨i, t, hr, ?_⟩
  unfold nextS
  rw [freeL_none h0]
  simp only [if_neg hp, hr]
theorem next_ok {s : RgS} (h : COk s) : COk (nextS s).s := by
  by_cases h0 : freeN s = 0
  · by_cases hp : s.p = 2 ^ s.n - 1
    · rw [next_all (all_used h h0) hp]; exact h
    · obtain ⟨i, t, e, e2⟩ := next_turn h (all_used h h0) hp
      rw [e2]
      exact (turn_keep _ _ _ _ h e).2.2.1
  · rw [(next_free h h0).1]; exact h
end Go.Proofs.YtcglfknkkeaegaaGreatDoor
namespace Go.Proofs.YtcglfknkkeaegaaGreatDoor
open Go.RowKit

theorem Bk.ext_ {x y : Bk} (h : eqBk x y) : x = y := by
  obtain ⟨a, b, c⟩ := x
  obtain ⟨d, e, f⟩ := y
  obtain ⟨h1, h2, h3⟩ := h
  simp only at h1 h2 h3
  subst h1 h2 h3
  rfl
instance : DecidableEq Bk := fun x y => decidable_of_iff (eqBk x y) ⟨Bk.ext_, fun h => by subst h; exact ⟨rfl, rfl, rfl⟩⟩
def bkT (x : Slt) : Bk := ⟨x.i, x.g, x.a⟩
/-- where a block is kept -/
def atL (L : List Slt) (b : Bk) : Option Nat := L.findIdx? (fun x => x.u && decide (bkT x = b))
structure WL (L : List Slt) : Prop where
  is : ∀ x ∈ L, isT x
  un : ∀ i j (hi : i < L.length) (hj : j < L.length), L[i].u = true → L[j].u = true → bkT L[i] = bkT L[j] → i = j
theorem atL_some {L : List Slt} (h : WL L) {b : Bk} {i : Nat} : atL L b = some i ↔ ∃ hi : i < L.length, L[i].u = true ∧ bkT L[i] = b := by
  unfold atL
  rw [List.findIdx?_eq_some_iff_getElem]
  constructor
  · rintro ⟨hi, h1, _⟩
    simp only [Bool.and_eq_true, decide_eq_true_eq] at h1
    exact ⟨hi, h1⟩
  · rintro ⟨hi, h1, h2⟩
    refine ⟨hi, by simp [h1, h2], fun j hj => ?_⟩
    simp only [Bool.and_eq_true, decide_eq_true_eq]
    rintro ⟨h3, h4⟩
    exact absurd (h.un j i (by omega) hi h3 h1 (h4.trans h2.symm)) (by omega)
theorem atL_none {L : List Slt} {b : Bk} : atL L b = none ↔ ∀ (i : Nat) (hi : i < L.length), L[i].u = true → bkT L[i] ≠ b := by
  unfold atL
  rw [List.findIdx?_eq_none_iff]
  constructor
  · intro h i hi h1 h2
    have := h _ (List.getElem_mem hi)
    simp [h1, h2] at this
  · intro h x hx
    obtain ⟨i, hi, rfl⟩ := List.getElem_of_mem hx
    have := h i hi
    cases hu : L[i].u
    · rfl
    · simp only [Bool.true_and, decide_eq_false_iff_not]; exact this hu
theorem atL_lt {L : List Slt} {b : Bk} {i : Nat} (h : atL L b = some i) : i < L.length := by
  unfold atL at h
  rw [List.findIdx?_eq_some_iff_getElem] at h
  exact h.1
theorem opt_ext {a b : Option Nat} (h : ∀ i, a = some i ↔ b = some i) : a = b := by
  cases a with
  | none =>
    cases b with
    | none => rfl
    | some j => exact absurd ((h j).2 rfl) (by simp)
  | some i => exact ((h i).1 rfl).symm
theorem isT_zero : isT zeroT := .inl rfl
theorem isT_u {x : Slt} (h : isT x) (hu : x.u = false) : x = zeroT := by
  rcases h with h | h
  · exact h
  · rw [h.1] at hu; cases hu
theorem isT_ne {x : Slt} (h : isT x) (hn : x ≠ zeroT) : okT x := h.resolve_left hn
theorem isT_wf {x : Slt} (h : isT x) : WfT x := by
  rcases h with rfl | ⟨_, h1, h2, h3, h4, h5⟩
  · exact zeroT_wf
  · exact ⟨by omega, by omega, by omega, by omega, by omega⟩
theorem u_zero : zeroT.u = false := rfl
theorem WL.set0 {L : List Slt} (h : WL L) (i : Nat) : WL (L.set i zeroT) := by
  refine ⟨fun x hx => ?_, fun a b ha hb h1 h2 h3 => ?_⟩
  · rcases List.mem_or_eq_of_mem_set hx with e | e
    · exact h.is x e
    · rw [e]; exact isT_zero
  · rw [List.length_set] at ha hb
    rw [List.getElem_set] at h1 h2 h3
    split at h1
    · exact absurd h1 (by decide)
    · rename_i n1
      rw [if_neg n1, List.getElem_set] at h3
      split at h2
      · exact absurd h2 (by decide)
      · rename_i n2
        rw [if_neg n2] at h3
        exact h.un a b ha hb h1 h2 h3
theorem atL_set0 {L : List Slt} (h : WL L) {i : Nat} (hi : i < L.length) (b : Bk) : atL (L.set i zeroT) b = if L[i].u = true ∧ bkT L[i] = b then none else atL L b := by
  split
  · rename_i hc
    rw [atL_none]
    intro j hj h1 h2
    rw [List.length_set] at hj
    rw [List.getElem_set] at h1 h2
    split at h1
    · exact absurd h1 (by decide)
    · rename_i n1
      rw [if_neg n1] at h2
      exact n1 (h.un i j hi hj hc.1 h1 (hc.2.trans h2.symm))
  · rename_i hc
    refine opt_ext fun j => ?_
    rw [atL_some (h.set0 i), atL_some h]
    constructor
    · rintro ⟨hj, h1, h2⟩
      have hj' : j < L.length := by simpa using hj
      rw [List.getElem_set] at h1 h2
      split at h1
      · exact absurd h1 (by decide)
      · rename_i n1
        rw [if_neg n1] at h2
        exact ⟨hj', h1, h2⟩
    · rintro ⟨hj, h1, h2⟩
      have n1 : i ≠ j := fun e => by subst e; exact hc ⟨h1, h2⟩
      refine ⟨by simpa using hj, ?_⟩
      rw [List.getElem_set, if_neg n1]
      exact ⟨h1, h2⟩
/-- a slot may be laid at a place -/
structure LayOk (L : List Slt) (i : Nat) (x : Slt) : Prop where
  lt : i < L.length
  is : isT x
  no : x = zeroT ∨ atL (L.set i zeroT) (bkT x) = none
theorem set_twice (L : List Slt) (i : Nat) (x : Slt) : (L.set i zeroT).set i x = L.set i x := List.set_set ..
theorem WL.lay {L : List Slt} (h : WL L) {i : Nat} {x : Slt} (k : LayOk L i x) : WL (L.set i x) := by
  rcases k.no with e | e
  · rw [e]; exact h.set0 i
  · have h0 := h.set0 i
    rw [atL_none] at e
    rw [← set_twice]
    obtain ⟨M, hM⟩ : ∃ M, M = L.set i zeroT := ⟨_, rfl⟩
    rw [← hM] at h0 e ⊢
    refine ⟨fun y hy => ?_, fun a b ha hb h1 h2 h3 => ?_⟩
    · rcases List.mem_or_eq_of_mem_set hy with e | e
      · exact h0.is y e
      · rw [e]; exact k.is
    · rw [List.length_set] at ha hb
      rw [List.getElem_set] at h1 h2 h3
      rw [List.getElem_set] at h3
      by_cases n1 : i = a
      · rw [if_pos n1] at h1 h3
        by_cases n2 : i = b
        · exact n1.symm.trans n2
        · rw [if_neg n2] at h2 h3
          exact absurd h3.symm (e b hb h2)
      · rw [if_neg n1] at h1 h3
        by_cases n2 : i = b
        · rw [if_pos n2] at h2 h3
          exact absurd h3 (e a ha h1)
        · rw [if_neg n2] at h2 h3
          exact h0.un a b ha hb h1 h2 h3
theorem atL_lay {L : List Slt} (h : WL L) {i : Nat} {x : Slt} (k : LayOk L i x) (hx : x ≠ zeroT) (b : Bk) : atL (L.set i x) b = if bkT x = b then some i else atL (L.set i zeroT) b := by
  have hu : x.u = true := (isT_ne k.is hx).1
  have h0 := h.set0 i
  refine opt_ext fun j => ?_
  rw [atL_some (h.lay k)]
  split
  · rename_i e
    constructor
    · rintro ⟨hj, h1, h2⟩
      have h3 : (L.set i x)[i]'(by rw [List.length_set]; exact k.lt) = x := by rw [List.getElem_set, if_pos rfl]
      have := (h.lay k).un i j (by rw [List.length_set]; exact k.lt) hj (by rw [h3]; exact hu) h1 (by rw [h3, h2]; exact e)
      rw [this]
    · intro e2
      injection e2 with e2
      subst e2
      refine ⟨by simpa using k.lt, ?_⟩
      rw [List.getElem_set, if_pos rfl]
      exact ⟨hu, e⟩
  · rename_i e
    rw [atL_some h0]
    constructor
    · rintro ⟨hj, h1, h2⟩
      have hj' : j < L.length := by simpa using hj
      rw [List.getElem_set] at h1 h2
      by_cases n1 : i = j
      · rw [if_pos n1] at h2; exact absurd h2 e
      · rw [if_neg n1] at h1 h2
        refine ⟨by simpa using hj', ?_⟩
        rw [List.getElem_set, if_neg n1]
        exact ⟨h1, h2⟩
    · rintro ⟨hj, h1, h2⟩
      have hj' : j < L.length := by simpa using hj
      rw [List.getElem_set] at h1 h2
      by_cases n1 : i = j
      · rw [if_pos n1] at h1; exact absurd h1 (by decide)
      · rw [if_neg n1] at h1 h2
        refine ⟨by simpa using hj', ?_⟩
        rw [List.getElem_set, if_neg n1]
        exact ⟨h1, h2⟩
/-- how many are used -/
def usedL (L : List Slt) : Nat := L.countP (fun x => x.u)
theorem usedL_le (L : List Slt) : usedL L ≤ L.length := List.countP_le_length
theorem usedL_set {L : List Slt} {i : Nat} (hi : i < L.length) (x : Slt) : usedL (L.set i x) + (if L[i].u = true then 1 else 0) = usedL L + (if x.u = true then 1 else 0) := by
  unfold usedL
  rw [List.countP_set hi]
  have : (if L[i].u = true then 1 else 0) ≤ List.countP (fun x => x.u) L := by
    split
    · rename_i h
      exact List.countP_pos_iff.2 ⟨L[i], List.getElem_mem hi, h⟩
    · exact Nat.zero_le _
  omega
/-! Places and what they are to be. -/
abbrev Plc := Nat × Slt
def setsL (L : List Slt) (ps : List Plc) : List Slt := ps.foldl (fun L p => L.set p.1 p.2) L
def LayAll : List Slt → List Plc → Prop
  | _, [] => True
  | L, p :: ps => LayOk L p.1 p.2 ∧ LayAll (L.set p.1 p.2) ps
theorem setsL_length : ∀ (ps : List Plc) (L : List Slt), (setsL L ps).length = L.length
  | [], _ => rfl
  | p :: ps, L => by
    show (setsL (L.set p.1 p.2) ps).length = _
    rw [setsL_length ps, List.length_set]
structure PRg (L : List Slt) (R : RgS) : Prop where
  wl : WL L
  ck : COk R
  n : R.n = L.length
  u : ∀ i (h : i < L.length), R.u.testBit i = L[i].u
  p : ∀ i (h : i < L.length), R.p.testBit i = L[i].d
def useR (R : RgS) (i : Nat) (d : Bool) : RgS := if d = true then doS 3 (doS 0 R i) i else doS 0 R i
theorem doS_n (k : Int) (R : RgS) (i : Nat) : (doS k R i).n = R.n := by
  unfold doS
  (repeat' split) <;> rfl
theorem useR_n (R : RgS) (i : Nat) (d : Bool) : (useR R i d).n = R.n := by
  unfold useR
  split
  · rw [doS_n, doS_n]
  · exact doS_n _ _ _
theorem doS0_u {R : RgS} (i j : Nat) : (doS 0 R i).u.testBit j = (R.u.testBit j || decide (j = i)) := by
  unfold doS
  rw [if_pos rfl]
  exact pput_bit _ _ _
theorem doS0_p {R : RgS} (h : COk R) {i : Nat} (hi : i < R.n) (j : Nat) : (doS 0 R i).p.testBit j = (R.p.testBit j && !decide (j = i)) := by
  unfold doS
  rw [if_pos rfl]
  exact ddrop_bit h.p64 (Nat.lt_of_lt_of_le hi h.hi) _
theorem doS2_up (R : RgS) (i : Nat) : (doS 2 R i).u = R.u ∧ (doS 2 R i).p = R.p := by
  unfold doS
  rw [if_neg (by decide), if_neg (by decide), if_pos rfl]
  split <;> exact ⟨rfl, rfl⟩
theorem doS3_u (R : RgS) (i : Nat) : (doS 3 R i).u = R.u := by
  unfold doS
  rw [if_neg (by decide), if_neg (by decide), if_neg (by decide), if_pos rfl]
  split <;> rfl
theorem doS3_p {R : RgS} {i : Nat} (hu : R.u.testBit i = true) (j : Nat) : (doS 3 R i).p.testBit j = (R.p.testBit j || decide (j = i)) := by
  unfold doS
  rw [if_neg (by decide), if_neg (by decide), if_neg (by decide), if_pos rfl, if_pos hu]
  exact pput_bit _ _ _
theorem useR_u {R : RgS} (i j : Nat) (d : Bool) : (useR R i d).u.testBit j = (R.u.testBit j || decide (j = i)) := by
  unfold useR
  split
  · rw [doS3_u]; exact doS0_u i j
  · exact doS0_u i j
theorem useR_p {R : RgS} (h : COk R) {i : Nat} (hi : i < R.n) (j : Nat) (d : Bool) : (useR R i d).p.testBit j = if j = i then d else R.p.testBit j := by
  unfold useR
  by_cases hd : d = true
  · rw [if_pos hd, doS3_p (by rw [doS0_u, decide_eq_true rfl, Bool.or_true]), doS0_p h hi, hd]
    by_cases e : j = i
    · rw [if_pos e, decide_eq_true e, Bool.or_true]
    · rw [if_neg e, decide_eq_false e, Bool.or_false, Bool.not_false, Bool.and_true]
  · rw [if_neg hd, doS0_p h hi]
    by_cases e : j = i
    · rw [if_pos e, decide_eq_true e, Bool.not_true, Bool.and_false]; cases d; rfl; exact absurd rfl hd
    · rw [if_neg e, decide_eq_false e, Bool.not_false, Bool.and_true]
theorem useR_ok {R : RgS} (h : COk R) {i : Nat} (hi : i < R.n) (d : Bool) : COk (useR R i d) := by
  unfold useR
  split
  · exact doS_ok (doS_ok h hi) (by rw [doS_n]; exact hi)
  · exact doS_ok h hi
section
variable {L : List Slt} {R : RgS}
/-- used, pinned just if it is dirty -/
theorem PRg.use (h : PRg L R) {i : Nat} {x : Slt} (k : LayOk L i x) (hu : x.u = true) : PRg (L.set i x) (useR R i x.d) := by
  have hi : i < R.n := by rw [h.n]; exact k.lt
  refine ⟨h.wl.lay k, useR_ok h.ck hi _, by rw [useR_n, h.n, List.length_set], fun j hj => ?_, fun j hj => ?_⟩
  · rw [List.length_set] at hj
    rw [useR_u, h.u j hj, List.getElem_set]
    by_cases e : i = j
    · rw [if_pos e, decide_eq_true e.symm, Bool.or_true, hu]
    · rw [if_neg e, decide_eq_false (fun x => e x.symm), Bool.or_false]
  · rw [List.length_set] at hj
    rw [useR_p h.ck hi, List.getElem_set]
    by_cases e : i = j
    · rw [if_pos e, if_pos e.symm]
    · rw [if_neg e, if_neg (fun x => e x.symm), h.p j hj]
theorem PRg.touch (h : PRg L R) {i : Nat} (hi : i < L.length) : PRg L (doS 2 R i) :=
  ⟨h.wl, doS_ok h.ck (by rw [h.n]; exact hi), by rw [doS_n, h.n], fun j hj => by rw [(doS2_up R i).1]; exact h.u j hj, fun j hj => by rw [(doS2_up R i).2]; exact h.p j hj⟩
end
theorem PRg.new {n : Nat} (h1 : 1 ≤ n) (h2 : n ≤ 64) : PRg (List.replicate n zeroT) (cNew n) := by
  refine ⟨⟨fun x hx => by rw [List.eq_of_mem_replicate hx]; exact isT_zero, fun i j hi hj h => ?_⟩, COk.new h1 h2, by rw [List.length_replicate]; rfl, fun i hi => ?_, fun i hi => ?_⟩
  · rw [List.getElem_replicate] at h; cases h
  · rw [List.getElem_replicate]; exact Nat.zero_testBit i
  · rw [List.getElem_replicate]; exact Nat.zero_testBit i
/-! What is listed: by blocks. -/
def lessT (x y : Slt) : Prop := lessB (bkT x) (bkT y)
instance (x y : Slt) : Decidable (lessT x y) := by unfold lessT; exact inferInstance
def insT (x : Slt) : List Slt → List Slt
  | [] => [x]
  | y :: A => if lessT x y then x :: y :: A else y :: insT x A
def srtT (l : List Slt) : List Slt := l.foldl (fun A x => insT x A) []
theorem insT_length (x : Slt) : ∀ A, (insT x A).length = A.length + 1
  | [] => rfl
  | y :: A => by
    unfold insT
    split
    · rfl
    · simp [insT_length x A]
theorem insT_mem {x z : Slt} : ∀ {A : List Slt}, z ∈ insT x A ↔ z = x ∨ z ∈ A
  | [] => by simp [insT]
  | y :: A => by
    unfold insT
    split
    · simp
    · rw [List.mem_cons, insT_mem, List.mem_cons]
      constructor
      · rintro (h | h | h)
        · exact .inr (.inl h)
        · exact .inl h
        · exact .inr (.inr h)
      · rintro (h | h | h)
        · exact .inr (.inl h)
        · exact .inl h
        · exact .inr (.inr h)
theorem lessT_trans {x y z : Slt} (h : lessT x y) (k : lessT y z) : lessT x z := lessB_trans h k
theorem lessT_tot {x y : Slt} (h : bkT x ≠ bkT y) : lessT x y ∨ lessT y x := by
  unfold lessT lessB
  by_cases h1 : (bkT x).i = (bkT y).i
  · by_cases h2 : (bkT x).g = (bkT y).g
    · by_cases h3 : (bkT x).a = (bkT y).a
      · exact absurd (Bk.ext_ ⟨h1, h2, h3⟩) h
      · rw [if_neg (by simp [h1]), if_neg (by simp [h2]), if_neg (by simp [h1]), if_neg (by simp [h2])]; omega
    · rw [if_neg (by simp [h1]), if_pos h2, if_neg (by simp [h1]), if_pos (fun e => h2 e.symm)]; omega
  · rw [if_pos h1, if_pos (fun e => h1 e.symm)]; omega
def SrtT (l : List Slt) : Prop := l.Pairwise lessT
theorem insT_srt {x : Slt} : ∀ {A : List Slt}, SrtT A → (∀ y ∈ A, bkT x ≠ bkT y) → SrtT (insT x A)
  | [], _, _ => List.pairwise_singleton _ _
  | y :: A, h, hx => by
    obtain ⟨h1, h2⟩ := List.pairwise_cons.1 h
    unfold insT
    split
    · rename_i c
      exact List.pairwise_cons.2 ⟨fun z hz => by
        rcases List.mem_cons.1 hz with e | e
        · rw [e]; exact c
        · exact lessT_trans c (h1 z e), h⟩
    · rename_i c
      refine List.pairwise_cons.2 ⟨fun z hz => ?_, insT_srt h2 (fun z hz => hx z (List.mem_cons_of_mem _ hz))⟩
      rcases insT_mem.1 hz with e | e
      · rw [e]
        exact (lessT_tot (hx y List.mem_cons_self)).resolve_left c
      · exact h1 z e
/-- behind those that are not greater, ahead of those that are -/
theorem insT_at {x : Slt} : ∀ {A B : List Slt}, (∀ y ∈ A, ¬ lessT x y) → (∀ y ∈ B, lessT x y) → insT x (A ++ B) = A ++ x :: B
  | [], [], _, _ => rfl
  | [], y :: B, _, h => by
    show insT x (y :: B) = _
    unfold insT
    rw [if_pos (h y List.mem_cons_self)]
    rfl
  | a :: A, B, h1, h2 => by
    show insT x (a :: (A ++ B)) = _
    unfold insT
    rw [if_neg (h1 a List.mem_cons_self), insT_at (fun y hy => h1 y (List.mem_cons_of_mem _ hy)) h2]
    rfl
def AprT (l : List Slt) : Prop := l.Pairwise (fun x y => bkT x ≠ bkT y)
theorem srt_fold : ∀ {l A : List Slt}, SrtT A → (∀ x ∈ l, ∀ y ∈ A, bkT x ≠ bkT y) → AprT l → SrtT (l.foldl (fun A x => insT x A) A) ∧ ∀ z, z ∈ l.foldl (fun A x => insT x A) A ↔ z ∈ l ∨ z ∈ A
  | [], A, h, _, _ => ⟨h, fun z => by simp⟩
  | x :: l, A, h, hx, hl => by
    obtain ⟨h1, h2⟩ := List.pairwise_cons.1 hl
    obtain ⟨a1, a2⟩ := srt_fold (l := l) (A := insT x A) (insT_srt h (hx x List.mem_cons_self)) (fun z hz y hy => by
      rcases insT_mem.1 hy with e | e
      · rw [e]; exact (h1 z hz).symm
      · exact hx z (List.mem_cons_of_mem _ hz) y e) h2
    refine ⟨a1, fun z => ?_⟩
    rw [List.foldl_cons, a2, insT_mem, List.mem_cons]
    constructor
    · rintro (k | k | k)
      · exact .inl (.inr k)
      · exact .inl (.inl k)
      · exact .inr k
    · rintro ((k | k) | k)
      · exact .inr (.inl k)
      · exact .inl k
      · exact .inr (.inr k)
theorem srt_len : ∀ (l A : List Slt), (l.foldl (fun A x => insT x A) A).length = l.length + A.length
  | [], A => by simp
  | x :: l, A => by
    rw [List.foldl_cons, srt_len l, insT_length, List.length_cons]
    omega
theorem srtT_srt {l : List Slt} (h : AprT l) : SrtT (srtT l) := (srt_fold List.Pairwise.nil (fun _ _ y hy => absurd hy (by simp)) h).1
theorem srtT_mem {l : List Slt} (h : AprT l) {z : Slt} : z ∈ srtT l ↔ z ∈ l := by
  have := (srt_fold (A := []) (l := l) List.Pairwise.nil (fun _ _ y hy => absurd hy (by simp)) h).2 z
  simpa [srtT] using this
theorem srtT_len (l : List Slt) : (srtT l).length = l.length := by unfold srtT; rw [srt_len]; rfl
/-- those that are used and such -/
def thoL (L : List Slt) (f : Slt → Bool) : List Nat := (List.range L.length).filter (fun i => (L.getD i zeroT).u && f (L.getD i zeroT))
def selL (L : List Slt) (f : Slt → Bool) : List Slt := L.filter (fun x => x.u && f x)
def allL (L : List Slt) (f : Slt → Bool) : List Slt := srtT (selL L f)
theorem tho_sel (f : Slt → Bool) : ∀ (L : List Slt), (thoL L f).map (fun i => L.getD i zeroT) = selL L f := by
  intro L
  unfold thoL selL
  have : L = (List.range L.length).map (fun i => L.getD i zeroT) := by
    apply List.ext_getElem
    · simp
    · intro i h1 h2
      rw [List.getElem_map, List.getElem_range, List.getD_eq_getElem?_getD, List.getElem?_eq_getElem h1]
      rfl
  conv => rhs; rw [this]
  rw [List.filter_map]
  rfl
theorem sel_apr {L : List Slt} (h : WL L) (f : Slt → Bool) : AprT (selL L f) := by
  unfold AprT selL
  rw [List.pairwise_filter]
  rw [List.pairwise_iff_getElem]
  intro i j hi hj hij h1 h2 e
  simp only [Bool.and_eq_true] at h1 h2
  exact absurd (h.un i j hi hj h1.1 h2.1 e) (by omega)
theorem sel_mem {L : List Slt} {f : Slt → Bool} {x : Slt} : x ∈ selL L f ↔ x ∈ L ∧ x.u = true ∧ f x = true := by
  unfold selL
  rw [List.mem_filter, Bool.and_eq_true]
theorem all_mem {L : List Slt} (h : WL L) {f : Slt → Bool} {x : Slt} : x ∈ allL L f ↔ x ∈ L ∧ x.u = true ∧ f x = true := by
  unfold allL
  rw [srtT_mem (sel_apr h f), sel_mem]
theorem all_srt {L : List Slt} (h : WL L) (f : Slt → Bool) : SrtT (allL L f) := srtT_srt (sel_apr h f)
theorem all_len (L : List Slt) (f : Slt → Bool) : (allL L f).length ≤ L.length := by
  unfold allL selL
  rw [srtT_len]
  exact List.length_filter_le ..
end Go.Proofs.YtcglfknkkeaegaaGreatDoor
