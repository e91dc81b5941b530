/- Slots: cells, two of them held against each other; the program's Free, mayKeep, flag. -/
import Derived.Test.YtbjenpkgcdppaaaStM
import Derived.Test.YtbjenpkgcdppaaaDone
import Derived.Test.YtbjenpkgcdppaaaKop
import Derived.DeepKeys
namespace Go.Proofs.Ytbjenpkgcdppaaa
open Go.ChangeShapes Go.WideShapes Go.ChangeAt Go.RowKit

/-- the cells of a slot in a block -/
structure C7 (w : World) (y : Nat) (x : Slt) : Prop where
  all : w.cell? ⟨y, 0, none⟩ = some (.bool x.u) ∧ w.cell? ⟨y, 1, none⟩ = some (.int .i64 x.i) ∧ w.cell? ⟨y, 2, none⟩ = some (.int .i64 x.g) ∧ w.cell? ⟨y, 3, none⟩ = some (.int .i64 x.a) ∧ w.cell? ⟨y, 4, none⟩ = some (.int .u64 (x.v : Int)) ∧ w.cell? ⟨y, 5, none⟩ = some (.bool x.d) ∧ w.cell? ⟨y, 6, none⟩ = some (.string x.s)
set_option maxRecDepth 3000 in
theorem Blk.c7 {w : World} {y : Nat} {t : TypeId} {x : Slt} (h : Blk w y t (tc x)) : C7 w y x :=
  ⟨h.cell 0, h.cell 1, h.cell 2, h.cell 3, h.cell 4, h.cell 5, h.cell 6⟩
set_option maxRecDepth 3000 in
theorem tc_one (x : Slt) : (tc x).all (·.oneCell') = true := by simp [tc, Value.oneCell']
set_option maxRecDepth 3000 in
theorem tc_size (x : Slt) : (tc x).size = 7 := rfl
set_option maxRecDepth 3000 in
theorem tc_inj {x y : Slt} (h : tc x = tc y) : x = y := by
  obtain ⟨u, i, g, a, v, d, s⟩ := x
  obtain ⟨u', i', g', a', v', d', s'⟩ := y
  simp [tc] at h
  obtain ⟨rfl, rfl, rfl, rfl, h, rfl, rfl⟩ := h
  obtain rfl : v = v' := by omega
  rfl
/-- a slot's parts as plain letters -/
def lits (x : Slt) : List Lit := [.bool x.u, .int .i64 x.i, .int .i64 x.g, .int .i64 x.a, .int .u64 (x.v : Int), .bool x.d, .string x.s.data.toList]
set_option maxRecDepth 3000 in
theorem lits_inj {x y : Slt} (h : lits x = lits y) : x = y := by
  obtain ⟨u, i, g, a, v, d, s⟩ := x
  obtain ⟨u', i', g', a', v', d', s'⟩ := y
  simp [lits] at h
  obtain ⟨rfl, rfl, rfl, rfl, h, rfl, h2⟩ := h
  obtain rfl : v = v' := by omega
  obtain rfl : s = s' := ByteArray.ext h2
  rfl
set_option maxRecDepth 3000 in
theorem cellsT : Try.prog.cellsOf 34 = 7 := by kernel_rfl
set_option maxRecDepth 3000 in
theorem cellsQT : Try.prog.cellsOf 28 = 7 := by kernel_rfl
set_option maxRecDepth 3000 in
theorem cellsB_ : Try.prog.cellsOf 25 = 3 := by kernel_rfl
set_option maxRecDepth 3000 in
theorem cellsF_ : Try.prog.cellsOf 23 = 2 := by kernel_rfl
set_option maxRecDepth 3000 in
theorem cellsI_ : Try.prog.cellsOf 3 = 1 := by kernel_rfl
set_option maxRecDepth 3000 in
theorem cellsO_ : Try.prog.cellsOf 4 = 1 := by kernel_rfl
set_option maxRecDepth 3000 in
theorem cellsU_ : Try.prog.cellsOf 26 = 1 := by kernel_rfl
set_option maxRecDepth 3000 in
theorem cellsS_ : Try.prog.cellsOf 9 = 1 := by kernel_rfl
set_option maxRecDepth 3000 in
theorem tkey_bool (d : Nat) (b : Bool) : Try.prog.keyLits (d + 1) 4 [.bool b] = some [.bool b] := by
  unfold Program.keyLits
  rw [Try.underlying4]
set_option maxRecDepth 3000 in
theorem tkey_int (d : Nat) (z : Int) (h : (Lit.int .i64 z).wf = true) : Try.prog.keyLits (d + 1) 3 [.int .i64 z] = some [.int .i64 z] := by
  unfold Program.keyLits
  rw [Try.underlying3]
  simp [h]
set_option maxRecDepth 3000 in
theorem tkey_u64 (d : Nat) (z : Int) (h : (Lit.int .u64 z).wf = true) : Try.prog.keyLits (d + 1) 26 [.int .u64 z] = some [.int .u64 z] := by
  unfold Program.keyLits
  rw [Try.underlying26]
  simp [h]
set_option maxRecDepth 3000 in
theorem tkey_str (d : Nat) (s : ByteArray) (h : s.size ≤ maxLen) : Try.prog.keyLits (d + 1) 9 [.string s] = some [.string s.data.toList] := by
  unfold Program.keyLits
  rw [Try.underlying9]
  simp [h]
set_option maxRecDepth 3000 in
theorem twf_i64 {z : Int} (h : -9223372036854775808 ≤ z ∧ z < 9223372036854775808) : (Lit.int .i64 z).wf = true := by
  simp [Lit.wf, IntKind.min, IntKind.max, IntKind.signed, IntKind.bits]; omega
set_option maxRecDepth 3000 in
theorem twf_u64 {z : Nat} (h : z < 18446744073709551616) : (Lit.int .u64 (z : Int)).wf = true := by
  simp [Lit.wf, IntKind.min, IntKind.max, IntKind.signed, IntKind.bits]; omega
set_option maxRecDepth 3000 in
theorem tkey_file (d : Nat) (i g : Int) (h1 : (Lit.int .i64 i).wf = true) (h2 : (Lit.int .i64 g).wf = true) : Try.prog.keyLits (d + 2) 23 [.int .i64 i, .int .i64 g] = some [.int .i64 i, .int .i64 g] := by
  unfold Program.keyLits
  rw [Try.underlying23]
  simp [cellsF_, cellsI_, tkey_int d _ h1, tkey_int d _ h2]
set_option maxRecDepth 3000 in
theorem tkey_block (d : Nat) (i g a : Int) (h1 : (Lit.int .i64 i).wf = true) (h2 : (Lit.int .i64 g).wf = true) (h3 : (Lit.int .i64 a).wf = true) : Try.prog.keyLits (d + 3) 25 [.int .i64 i, .int .i64 g, .int .i64 a] = some [.int .i64 i, .int .i64 g, .int .i64 a] := by
  unfold Program.keyLits
  rw [Try.underlying25]
  simp [cellsB_, cellsF_, cellsI_, tkey_file d _ _ h1 h2, tkey_int (d + 1) _ h3]
set_option maxRecDepth 3000 in
theorem tkey_slot (x : Slt) (h : WfT x) : Try.prog.keyLits 5 34 (tc x).toList = some (lits x) := by
  unfold Program.keyLits
  rw [Try.underlying34]
  simp [tc, lits, cellsT, cellsB_, cellsU_, cellsO_, cellsS_, tkey_bool 3, tkey_block 1 _ _ _ (twf_i64 h.i) (twf_i64 h.g) (twf_i64 h.a), tkey_u64 3 _ (twf_u64 h.v), tkey_str 3 _ (show x.s.size ≤ maxLen by have := h.s; unfold maxLen; omega)]
set_option maxRecDepth 3000 in
theorem tkey_qslot (x : Slt) (h : WfT x) : Try.prog.keyLits 5 28 (tc x).toList = some (lits x) := by
  unfold Program.keyLits
  rw [Try.underlying28]
  simp [tc, lits, cellsQT, cellsB_, cellsU_, cellsO_, cellsS_, tkey_bool 3, tkey_block 1 _ _ _ (twf_i64 h.i) (twf_i64 h.g) (twf_i64 h.a), tkey_u64 3 _ (twf_u64 h.v), tkey_str 3 _ (show x.s.size ≤ maxLen by have := h.s; unfold maxLen; omega)]
set_option maxRecDepth 3000 in
theorem eq_slots {t : TypeId} (hk : Try.prog.keyTypeAt 4 t = true) (x y : Slt) (fx : (Value.agg (tc x)).formed Try.prog t = true) (fy : (Value.agg (tc y)).formed Try.prog t = true) (kx : Try.prog.keyLits 5 t (tc x).toList = some (lits x)) (ky : Try.prog.keyLits 5 t (tc y).toList = some (lits y)) :
    ∀ w, (Op.equalIn 10000 t (.agg (tc x)) (.agg (tc y))).run Try.prog w = .ok (decide (x = y)) w := by
  intro w
  obtain ⟨c, h1, h2⟩ := run_equalIn_deep (P := Try.prog) 9996 4 t hk w 5 5 (.agg (tc x)) (.agg (tc y)) _ _ fx fy kx ky
  rw [h1]
  congr 1
  by_cases e : x = y
  · rw [decide_eq_true e, h2.2 (by rw [e])]
  · rw [decide_eq_false e]
    cases c
    · rfl
    · exact absurd (lits_inj (h2.1 rfl)) e
set_option maxRecDepth 3000 in
theorem formedT (x : Slt) : (Value.agg (tc x)).formed Try.prog 34 = true := by
  unfold Value.formed
  simp only [Try.underlying34, cellsT]
  rfl
set_option maxRecDepth 3000 in
theorem formedQT (x : Slt) : (Value.agg (tc x)).formed Try.prog 28 = true := by
  unfold Value.formed
  simp only [Try.underlying28, cellsQT]
  rfl
set_option maxRecDepth 3000 in
theorem eq_tslot (x y : Slt) (hx : WfT x) (hy : WfT y) : ∀ w, (Op.equalIn 10000 34 (.agg (tc x)) (.agg (tc y))).run Try.prog w = .ok (decide (x = y)) w :=
  eq_slots (by kernel_rfl) x y (formedT x) (formedT y) (tkey_slot x hx) (tkey_slot y hy)
set_option maxRecDepth 3000 in
theorem eq_qslot (x y : Slt) (hx : WfT x) (hy : WfT y) : ∀ w, (Op.equalIn 10000 28 (.agg (tc x)) (.agg (tc y))).run Try.prog w = .ok (decide (x = y)) w :=
  eq_slots (by kernel_rfl) x y (formedQT x) (formedQT y) (tkey_qslot x hx) (tkey_qslot y hy)
set_option maxRecDepth 3000 in
theorem sizeT : (Try.prog.info? 34).map (·.size) = some 7 := by kernel_rfl
set_option maxRecDepth 3000 in
theorem sizeQT : (Try.prog.info? 28).map (·.size) = some 7 := by kernel_rfl
set_option maxRecDepth 3000 in
theorem infoT : (Try.prog.info? 34).map (fun i => (i.zero, i.size, i.bytes)) = some (some (.agg (tc zeroT)), 7, 64) := by kernel_rfl
set_option maxRecDepth 3000 in
theorem infoQT : (Try.prog.info? 28).map (fun i => (i.zero, i.size, i.bytes)) = some (some (.agg (tc zeroT)), 7, 64) := by kernel_rfl
set_option maxRecDepth 3000 in
theorem builtT : Try.prog.built 34 [] = some (tc zeroT) := by kernel_rfl
set_option maxRecDepth 3000 in
theorem builtQT : Try.prog.built 28 [] = some (tc zeroT) := by kernel_rfl
set_option maxRecDepth 3000 in
theorem kop_zero {t : TypeId} {C : Array Value} {ops : Array Oper} {rest : List Oper} {o : Oper} {a : Act} {w : World} {Q : Exit → Act → World → Prop} (hb : Try.prog.built t [] = some C) (hgd : o.guard = none) (ho : o.op = .build t #[])
    (h : wpList Try.prog ops Q rest (a.put o.dst (.agg C)) w) : wpList Try.prog ops Q (o :: rest) a w := by
  refine wpList_build hgd t #[] ho (by simp [hb]) ?_
  simpa [hb] using h
set_option maxRecDepth 3000 in
theorem kop_eqs {t ty : TypeId} {C D : Array Value} {c : Bool} {ops : Array Oper} {rest : List Oper} {o : Oper} {a : Act} {w : World} {Q : Exit → Act → World → Prop} (hE : ∀ w, (Op.equalIn 10000 t (.agg C) (.agg D)).run Try.prog w = .ok c w) (hg : Try.prog.eqGuardType Try.prog.depth t = false) (hgd : o.guard = none) (x y : Operand) (ho : o.op = .binOp .eql t x y ty) (hx : a.eval x = .agg C) (hy : a.eval y = .agg D)
    (h : wpList Try.prog ops Q rest (a.put o.dst (.bool c)) w) : wpList Try.prog ops Q (o :: rest) a w := by
  refine wpList_plain hgd fun K hK => ?_
  have h1 := run_eqGuard_agg (P := Try.prog) w .eql t x y C D hg
  have h2 := run_eql_struct (P := Try.prog) w t C D
  rw [hE] at h2
  unfold Oper.wp execOp
  simp only [ho, hx, hy, Sem.run_bind, Sem.run_pure, Result.andThen_ok, h1, h2]
  exact hK _ _ h
set_option maxRecDepth 3000 in
theorem kop_neqs {t ty : TypeId} {C D : Array Value} {c : Bool} {ops : Array Oper} {rest : List Oper} {o : Oper} {a : Act} {w : World} {Q : Exit → Act → World → Prop} (hE : ∀ w, (Op.equalIn 10000 t (.agg C) (.agg D)).run Try.prog w = .ok c w) (hg : Try.prog.eqGuardType Try.prog.depth t = false) (hgd : o.guard = none) (x y : Operand) (ho : o.op = .binOp .neq t x y ty) (hx : a.eval x = .agg C) (hy : a.eval y = .agg D)
    (h : wpList Try.prog ops Q rest (a.put o.dst (.bool (!c))) w) : wpList Try.prog ops Q (o :: rest) a w := by
  refine wpList_plain hgd fun K hK => ?_
  have h1 := run_eqGuard_agg (P := Try.prog) w .neq t x y C D hg
  have h2 := run_neq_struct (P := Try.prog) w t C D
  rw [hE] at h2
  unfold Oper.wp execOp
  simp only [ho, hx, hy, Sem.run_bind, Sem.run_pure, Result.andThen_ok, h1, h2]
  exact hK _ _ h
set_option maxRecDepth 3000 in
theorem kyl_eqs {t ty : TypeId} {C D : Array Value} {c : Bool} {ops : Array Oper} {S : World → Prop} {o : Oper} {a : Act} (hE : ∀ w, (Op.equalIn 10000 t (.agg C) (.agg D)).run Try.prog w = .ok c w) (hg : Try.prog.eqGuardType Try.prog.depth t = false) (hw : Region.wanted o (yielded ops a.tmps) = true) (x y : Operand) (ho : o.op = .binOp .eql t x y ty) (hx : a.eval x = .agg C) (hy : a.eval y = .agg D) : YieldsIf Try.prog ops S o (.bool c) a := .inl ⟨hw, fun w _ => by
  have h1 := run_eqGuard_agg (P := Try.prog) w .eql t x y C D hg
  have h2 := run_eql_struct (P := Try.prog) w t C D
  rw [hE] at h2
  unfold execOp
  simp only [ho, hx, hy, Sem.run_bind, Sem.run_pure, Result.andThen_ok, h1, h2]⟩
set_option maxRecDepth 3000 in
theorem kyl_neqs {t ty : TypeId} {C D : Array Value} {c : Bool} {ops : Array Oper} {S : World → Prop} {o : Oper} {a : Act} (hE : ∀ w, (Op.equalIn 10000 t (.agg C) (.agg D)).run Try.prog w = .ok c w) (hg : Try.prog.eqGuardType Try.prog.depth t = false) (hw : Region.wanted o (yielded ops a.tmps) = true) (x y : Operand) (ho : o.op = .binOp .neq t x y ty) (hx : a.eval x = .agg C) (hy : a.eval y = .agg D) : YieldsIf Try.prog ops S o (.bool (!c)) a := .inl ⟨hw, fun w _ => by
  have h1 := run_eqGuard_agg (P := Try.prog) w .neq t x y C D hg
  have h2 := run_neq_struct (P := Try.prog) w t C D
  rw [hE] at h2
  unfold execOp
  simp only [ho, hx, hy, Sem.run_bind, Sem.run_pure, Result.andThen_ok, h1, h2]⟩
set_option maxRecDepth 3000 in
theorem kyl_zero {t : TypeId} {C : Array Value} {ops : Array Oper} {S : World → Prop} {o : Oper} {a : Act} (hb : Try.prog.built t [] = some C) (hw : Region.wanted o (yielded ops a.tmps) = true) (ho : o.op = .build t #[]) : YieldsIf Try.prog ops S o (.agg C) a := .inl ⟨hw, fun w _ => by
  unfold execOp
  rw [ho]
  simp [run_build, hb, Result.andThen]⟩
set_option maxRecDepth 3000 in
theorem guardT : Try.prog.eqGuardType Try.prog.depth 34 = false := by kernel_rfl
set_option maxRecDepth 3000 in
theorem guardQT : Try.prog.eqGuardType Try.prog.depth 28 = false := by kernel_rfl
set_option maxRecDepth 3000 in
set_option maxHeartbeats 1000000 in
theorem free_any (x : Slt) (hx : WfT x) (w : World) : Calls Try.prog 12 #[.agg (tc x)] w fun e w' => e = .returned (.bool (decide (x = zeroT))) ∧ Adv Nul w Nul w' := by
  have hE := eq_tslot x zeroT hx zeroT_wf
  obtain ⟨B, hB⟩ : ∃ B, B = decide (x = zeroT) := ⟨_, rfl⟩
  rw [← hB] at hE ⊢
  obtain ⟨C, hC⟩ : ∃ C, C = tc x := ⟨_, rfl⟩
  obtain ⟨Z, hZ⟩ : ∃ C, C = tc zeroT := ⟨_, rfl⟩
  have HS := Lib.hid (show C.size = 7 by rw [hC]; rfl)
  have HB0 := Lib.hid builtT
  rw [← hC] at hE ⊢
  rw [← hZ] at hE HB0
  clear hB hx hC hZ
  go_enter Try.func12, Try.ntmps12
  go_wp2_with (first
    | (refine kop_box rfl _ rfl rfl ?_; intro z w1 hz hb ha; have HB := Lib.hid hb; have HA := Lib.hid ha; clear hz hb ha)
    | (refine kop_load rfl _ rfl z HB.out rfl Try.underlying34 rfl sizeT HS.out ?_)
    | (refine kop_zero HB0.out rfl rfl ?_)
    | fail)
  go_ret
  exact ⟨rfl, HA.out⟩
set_option maxRecDepth 3000 in
theorem flag_any (b : Bool) (w : World) : Calls Try.prog 22 #[.bool b] w fun e w' => e = .returned (.int .u64 (b.toNat : Int)) ∧ w' = w := by
  cases b
  all_goals
    go_enter Try.func22, Try.ntmps22
    go_wp2_with fail
    go_ret
    exact ⟨rfl, rfl⟩
def kpT (x : Slt) : Prop := x.u = true ∧ (0 < x.i ∧ x.i < 41) ∧ x.s.size ≤ 64
instance (x : Slt) : Decidable (kpT x) := by unfold kpT; exact inferInstance
set_option maxRecDepth 3000 in
set_option maxHeartbeats 1000000 in
theorem maykeep_any (x : Slt) (w : World) : Calls Try.prog 19 #[.agg (tc x)] w fun e w' => e = .returned (.bool (decide (kpT x))) ∧ Adv Nul w Nul w' := by
  obtain ⟨B, hB⟩ : ∃ B, B = decide (kpT x) := ⟨_, rfl⟩
  rw [← hB]
  have HB := Lib.hid hB
  clear hB
  obtain ⟨u, i, g, a, v, d, s⟩ := x
  simp only [tc]
  by_cases hk : u = true ∧ (0 < i ∧ i < 41) ∧ s.size ≤ 64
  · obtain rfl : B = true := HB.out.trans (decide_eq_true hk)
    obtain ⟨rfl, ⟨h1, h2⟩, h3⟩ := hk
    have h1' : 1 ≤ i := by omega
    have h2' : i ≤ 40 := by omega
    have h3' : (s.size : Int) ≤ 64 := by omega
    clear h1 h2 h3
    go_enter Try.func19, Try.ntmps19
    go_wp2_with fail
    go_ret
    exact ⟨by simp, (Adv.refl _ _).alloc _⟩
  · obtain rfl : B = false := HB.out.trans (decide_eq_false hk)
    cases u with
    | false =>
      clear hk
      go_enter Try.func19, Try.ntmps19
      go_wp2_with fail
      go_ret
      exact ⟨rfl, (Adv.refl _ _).alloc _⟩
    | true =>
      by_cases h1 : 0 < i
      · by_cases h2 : i < 41
        · have h3 : ¬ (s.size : Int) ≤ 64 := fun h => hk ⟨rfl, ⟨h1, h2⟩, by omega⟩
          have h1' : 1 ≤ i := by omega
          have h2' : i ≤ 40 := by omega
          clear h1 h2 hk
          go_enter Try.func19, Try.ntmps19
          go_wp2_with fail
          go_ret
          exact ⟨by simp, (Adv.refl _ _).alloc _⟩
        · have h1' : 1 ≤ i := by omega
          have h2' : ¬ i ≤ 40 := by omega
          clear h1 h2 hk
          go_enter Try.func19, Try.ntmps19
          go_wp2_with fail
          go_ret
          exact ⟨rfl, (Adv.refl _ _).alloc _⟩
      · have h1' : ¬ 1 ≤ i := by omega
        clear h1 hk
        go_enter Try.func19, Try.ntmps19
        go_wp2_with fail
        go_ret
        exact ⟨rfl, (Adv.refl _ _).alloc _⟩
set_option maxRecDepth 3000 in
set_option maxHeartbeats 800000 in
theorem mine14_any (x : Slt) (w : World) : Calls Try.prog 9 #[.agg (tc x)] w fun e w' => e = .returned (.agg (tc x)) ∧ Adv Nul w Nul w' := by
  obtain ⟨u, i, g, a, v, d, s⟩ := x
  simp only [tc]
  go_enter Try.func9, Try.ntmps9
  go_wp2_with fail
  exact bodyPost_ret (v := .agg #[.bool u, .int .i64 i, .int .i64 g, .int .i64 a, .int .u64 (v : Int), .bool d, .string s]) (by simp [results, Try.results9, go_sem]) rfl ⟨rfl, ((Adv.refl _ _).alloc _).alloc _⟩
end Go.Proofs.Ytbjenpkgcdppaaa
