/- Messages: cells; fieldsOf, Answer; the document's Fields, has. -/
import Derived.Test.YtpgeebhepegpaaaMsA
import Derived.Great.BuildSlice
namespace Go.Proofs.Ytpgeebhepegpaaa
open Go.ChangeShapes Go.WideShapes Go.ChangeAt Go.RowKit

def nilV : Value := .slice none 0 0
def ms0 : Ms := ⟨0, 0, 0, 0, 0, 0, 0, 0, 0, 0, 0, ⟨#[]⟩, ⟨#[]⟩, 0, 0, ⟨#[]⟩, 0, []⟩
set_option maxRecDepth 3000 in
theorem mc_size (m : Ms) (v : Value) : (mc m v).size = 18 := rfl
set_option maxRecDepth 3000 in
theorem infoM : (Try.prog.info? 28).map (fun i => (i.zero, i.size, i.bytes)) = some (some (.agg (mc ms0 nilV)), 18, 184) := by kernel_rfl
set_option maxRecDepth 3000 in
theorem sizeM : (Try.prog.info? 28).map (·.size) = some 18 := by kernel_rfl
set_option maxRecDepth 3000 in
theorem mc_one (m : Ms) (A : Option Addr) (n c : Nat) : (mc m (.slice A n c)).all (·.oneCell') = true := by simp [mc, Value.oneCell']
/-- the cells of a message in a block -/
structure C18 (w : World) (z : Nat) (m : Ms) (v : Value) : Prop where
  a : w.cell? ⟨z, 0, none⟩ = some (.int .i64 m.ty) ∧ w.cell? ⟨z, 1, none⟩ = some (.int .i64 m.cl) ∧ w.cell? ⟨z, 2, none⟩ = some (.int .u64 (m.ss : Int)) ∧ w.cell? ⟨z, 3, none⟩ = some (.int .u64 (m.sq : Int)) ∧ w.cell? ⟨z, 4, none⟩ = some (.int .u64 (m.bo : Int)) ∧ w.cell? ⟨z, 5, none⟩ = some (.int .i64 m.kd) ∧ w.cell? ⟨z, 6, none⟩ = some (.int .i64 m.er)
  b : w.cell? ⟨z, 7, none⟩ = some (.int .i64 m.fi) ∧ w.cell? ⟨z, 8, none⟩ = some (.int .i64 m.fg) ∧ w.cell? ⟨z, 9, none⟩ = some (.int .i64 m.di) ∧ w.cell? ⟨z, 10, none⟩ = some (.int .i64 m.dg)
  c : w.cell? ⟨z, 11, none⟩ = some (.string m.nm) ∧ w.cell? ⟨z, 12, none⟩ = some (.string m.ot) ∧ w.cell? ⟨z, 13, none⟩ = some (.int .i64 m.mo) ∧ w.cell? ⟨z, 14, none⟩ = some (.int .i64 m.at_) ∧ w.cell? ⟨z, 15, none⟩ = some (.string m.da) ∧ w.cell? ⟨z, 16, none⟩ = some (.int .u64 (m.ve : Int)) ∧ w.cell? ⟨z, 17, none⟩ = some v
set_option maxRecDepth 3000 in
theorem Blk.c18 {w : World} {z : Nat} {t : TypeId} {m : Ms} {v : Value} (h : Blk w z t (mc m v)) : C18 w z m v :=
  ⟨⟨h.cell 0, h.cell 1, h.cell 2, h.cell 3, h.cell 4, h.cell 5, h.cell 6⟩, ⟨h.cell 7, h.cell 8, h.cell 9, h.cell 10⟩, ⟨h.cell 11, h.cell 12, h.cell 13, h.cell 14, h.cell 15, h.cell 16, h.cell 17⟩⟩
set_option maxRecDepth 3000 in
theorem i64_and_nat (a b : Nat) (ha : a < 9223372036854775808) (hb : b < 9223372036854775808) : bits .and .i64 (a : Int) (b : Int) = ((a &&& b : Nat) : Int) := by
  have hx : a &&& b < 2 ^ 63 := Nat.and_lt_two_pow _ (by omega)
  show IntKind.i64.wrap ((BitVec.ofInt 64 (a : Int) &&& BitVec.ofInt 64 (b : Int)).toNat : Int) = _
  rw [BitVec.toNat_and, ofInt_u64 a (by omega), ofInt_u64 b (by omega), IntKind.wrap_i64]
  omega
set_option maxRecDepth 3000 in
theorem i64_or_nat (a b : Nat) (ha : a < 9223372036854775808) (hb : b < 9223372036854775808) : bits .or .i64 (a : Int) (b : Int) = ((a ||| b : Nat) : Int) := by
  have hx : a ||| b < 2 ^ 63 := Nat.or_lt_two_pow (by omega) (by omega)
  show IntKind.i64.wrap ((BitVec.ofInt 64 (a : Int) ||| BitVec.ofInt 64 (b : Int)).toNat : Int) = _
  rw [BitVec.toNat_or, ofInt_u64 a (by omega), ofInt_u64 b (by omega), IntKind.wrap_i64]
  omega
set_option maxRecDepth 3000 in
theorem askM_lt (k : Int) : askM k < 8192 := by
  unfold askM
  repeat' split
  all_goals decide
set_option maxRecDepth 3000 in
theorem tolM_lt (k : Int) : tolM k < 8192 := by
  unfold tolM
  repeat' split
  all_goals decide
set_option maxRecDepth 3000 in
theorem or7_ask (k : Int) : bits .or .i64 7 (askM k : Int) = ((7 ||| askM k : Nat) : Int) := i64_or_nat 7 _ (by decide) (by have := askM_lt k; omega)
set_option maxRecDepth 3000 in
theorem or7_tol (k : Int) : bits .or .i64 7 (tolM k : Int) = ((7 ||| tolM k : Nat) : Int) := i64_or_nat 7 _ (by decide) (by have := tolM_lt k; omega)
set_option maxRecDepth 3000 in
theorem fldM_lt (t k e : Int) : (fldM t k e).1 < 8192 := by
  unfold fldM
  split
  · split
    · show 5 < 8192; decide
    · exact Nat.or_lt_two_pow (n := 13) (by decide) (askM_lt k)
  · split
    · split
      · exact Nat.or_lt_two_pow (n := 13) (by decide) (tolM_lt k)
      · show 15 < 8192; decide
    · split
      · show 18 < 8192; decide
      · show 0 < 8192; decide
set_option maxRecDepth 3000 in
theorem fieldsof_any (m : Ms) (v : Value) (w : World) : Calls Try.prog 30 #[.agg (mc m v)] w fun e w' => e = .returned (.tuple #[.int .i64 ((fldM m.ty m.kd m.er).1 : Int), .bool (fldM m.ty m.kd m.er).2]) ∧ Adv Nul w Nul w' := by
  obtain ⟨C, hC⟩ : ∃ C, C = mc m v := ⟨_, rfl⟩
  have HC := Lib.hid (fun (z : Nat) (w' : World) (h : Blk w' z 28 C) => (show Blk w' z 28 (mc m v) by rw [← hC]; exact h).c18.a)
  rw [← hC]
  clear hC
  obtain ⟨ty, cl, ss, sq, bo, kd, er, fi, fg, di, dg, nm, ot, mo, at_, da, ve, en⟩ := m
  simp only at HC ⊢
  have HASK := Lib.hid (asked_any kd)
  have HTOL := Lib.hid (told_any kd)
  obtain ⟨A, hA⟩ : ∃ A : Int, A = (askM kd : Int) := ⟨_, rfl⟩
  obtain ⟨T, hT⟩ : ∃ A : Int, A = (tolM kd : Int) := ⟨_, rfl⟩
  have HOA := Lib.hid (or7_ask kd)
  have HOT := Lib.hid (or7_tol kd)
  rw [← hA] at HASK HOA
  rw [← hT] at HTOL HOT
  clear hA hT
  have hcase : (ty = 1 ∧ kd = 1) ∨ (ty = 1 ∧ kd ≠ 1) ∨ (ty = 2 ∧ er = 0) ∨ (ty = 2 ∧ er ≠ 0) ∨ ty = 3 ∨ (ty ≠ 1 ∧ ty ≠ 2 ∧ ty ≠ 3) := by omega
  rcases hcase with ⟨rfl, rfl⟩ | ⟨rfl, h2⟩ | ⟨rfl, rfl⟩ | ⟨rfl, h2⟩ | rfl | ⟨h1, h2, h3⟩
  · go_enter Try.func30, Try.ntmps30
    go_wp2_with (first
      | (refine kop_box rfl _ rfl rfl ?_; intro z w1 hz hb ha; have HA := Lib.hid ha; obtain ⟨s0, s1, s2, s3, s4, s5, s6⟩ := HC.out _ _ hb; clear hz hb ha)
      | fail)
    refine bodyPost_ret (results_tmp2 rfl _ _ _) rfl ?_
    exact ⟨rfl, HA.out⟩
  · have HE := Lib.hid (show fldM 1 kd er = (7 ||| askM kd, true) from by unfold fldM; rw [if_pos rfl, if_neg h2])
    have hb : (kd == 1) = false := by rw [beq_eq_false_iff_ne]; exact h2
    clear h2
    go_enter Try.func30, Try.ntmps30
    go_wp2_with (first
      | (refine kop_box rfl _ rfl rfl ?_; intro z w1 hz hb ha; have HA := Lib.hid ha; obtain ⟨s0, s1, s2, s3, s4, s5, s6⟩ := HC.out _ _ hb; clear hz hb ha)
      | (go_at_call 57; refine (HASK.out _).mono ?_; rintro x w2 ⟨rfl, rfl⟩)
      | fail)
    refine bodyPost_ret (results_tmp2 rfl _ _ _) rfl ?_
    exact ⟨by rw [HE.out, HOA.out]; rfl, HA.out⟩
  · have HE := Lib.hid (show fldM 2 kd 0 = (7 ||| tolM kd, true) from rfl)
    go_enter Try.func30, Try.ntmps30
    go_wp2_with (first
      | (refine kop_box rfl _ rfl rfl ?_; intro z w1 hz hb ha; have HA := Lib.hid ha; obtain ⟨s0, s1, s2, s3, s4, s5, s6⟩ := HC.out _ _ hb; clear hz hb ha)
      | (go_at_call 58; refine (HTOL.out _).mono ?_; rintro x w2 ⟨rfl, rfl⟩)
      | fail)
    refine bodyPost_ret (results_tmp2 rfl _ _ _) rfl ?_
    exact ⟨by rw [HE.out, HOT.out]; rfl, HA.out⟩
  · have HE := Lib.hid (show fldM 2 kd er = (15, true) from by unfold fldM; rw [if_neg (by decide), if_pos rfl, if_neg h2])
    have hb : (er == 0) = false := by rw [beq_eq_false_iff_ne]; exact h2
    clear h2
    go_enter Try.func30, Try.ntmps30
    go_wp2_with (first
      | (refine kop_box rfl _ rfl rfl ?_; intro z w1 hz hb ha; have HA := Lib.hid ha; obtain ⟨s0, s1, s2, s3, s4, s5, s6⟩ := HC.out _ _ hb; clear hz hb ha)
      | fail)
    refine bodyPost_ret (results_tmp2 rfl _ _ _) rfl ?_
    exact ⟨by rw [HE.out]; rfl, HA.out⟩
  · have HE := Lib.hid (show fldM 3 kd er = (18, true) from rfl)
    go_enter Try.func30, Try.ntmps30
    go_wp2_with (first
      | (refine kop_box rfl _ rfl rfl ?_; intro z w1 hz hb ha; have HA := Lib.hid ha; obtain ⟨s0, s1, s2, s3, s4, s5, s6⟩ := HC.out _ _ hb; clear hz hb ha)
      | fail)
    refine bodyPost_ret (results_tmp2 rfl _ _ _) rfl ?_
    exact ⟨by rw [HE.out]; rfl, HA.out⟩
  · have HE := Lib.hid (show fldM ty kd er = (0, false) from by unfold fldM; rw [if_neg h1, if_neg h2, if_neg h3])
    have b1 : (ty == 1) = false := by rw [beq_eq_false_iff_ne]; exact h1
    have b2 : (ty == 2) = false := by rw [beq_eq_false_iff_ne]; exact h2
    have b3 : (ty == 3) = false := by rw [beq_eq_false_iff_ne]; exact h3
    clear h1 h2 h3
    go_enter Try.func30, Try.ntmps30
    go_wp2_with (first
      | (refine kop_box rfl _ rfl rfl ?_; intro z w1 hz hb ha; have HA := Lib.hid ha; obtain ⟨s0, s1, s2, s3, s4, s5, s6⟩ := HC.out _ _ hb; clear hz hb ha)
      | fail)
    refine bodyPost_ret (results_tmp2 rfl _ _ _) rfl ?_
    exact ⟨by rw [HE.out]; rfl, HA.out⟩
set_option maxRecDepth 3000 in
theorem kresM {fn : Func} {p : Tmp} {ty : TypeId} (h : fn.results = #[.cell p ty]) (tmps : Array Value) (w : World) {z : Nat} {t : TypeId} {C : Array Value} {d : TypeDesc} (hp : tmps.getD p undef = .pointer (some ⟨z, 0, none⟩)) (hB : Blk w z t C)
    (hu : Try.prog.underlying ty = some d) (hd : d.isRow = true) (hi : (Try.prog.info? ty).map (·.size) = some C.size) : (results fn tmps).run Try.prog w = .ok (.agg C) w := by
  have hp' : tmps[p]?.getD undef = .pointer (some ⟨z, 0, none⟩) := by simpa using hp
  have hl := run_loadVar_mid (P := Try.prog) w z 0 ty C.toList d (Blk.range hB) hu hd (by rw [hi, Array.length_toList])
  rw [Array.toArray_toList] at hl
  simp only [results, h]
  simp [hp', asAddr, hl]
section
variable {ops : Array Oper} {rest : List Oper} {o : Oper} {a : Act} {w : World} {Q : Exit → Act → World → Prop}
set_option maxRecDepth 3000 in
theorem kop_built {t : TypeId} {parts : Array (Nat × Operand)} {L : List (Nat × Value)} {C : Array Value} (hgd : o.guard = none) (ho : o.op = .build t parts) (he : (parts.map fun (i, x) => (i, a.eval x)).toList = L) (hb : Try.prog.built t L = some C)
    (h : wpList Try.prog ops Q rest (a.put o.dst (.agg C)) w) : wpList Try.prog ops Q (o :: rest) a w := by
  refine wpList_build hgd t _ ho (by rw [he, hb]; rfl) ?_
  rw [he, hb]
  exact h
set_option maxRecDepth 3000 in
theorem kop_bcells {T e : TypeId} {n s by_ : Nat} {z : Value} {parts : Array (Nat × Operand)} {C : Array Value} (hgd : o.guard = none) (ho : o.op = .buildSlice T n parts) (hu : Try.prog.underlying T = some (.slice e)) (hi : (Try.prog.info? e).map (fun i => (i.zero, i.size, i.bytes)) = some (some z, s, by_)) (h1 : ¬ n * s > 2 ^ 24) (h2 : ¬ n * s = 0)
    (hf : Instr.fill (fun i => some (i * s, s)) ((Array.range (n * s)).map (z.cells[· % z.cells.size]!)) (parts.map fun (i, x) => (i, a.eval x)).toList = some C)
    (h : ∀ b w', w.heap.size ≤ b → Blk w' b e C → Adv Nul w Nul w' → wpList Try.prog ops Q rest (a.put o.dst (.slice (some ⟨b, 0, none⟩) n n)) w') : wpList Try.prog ops Q (o :: rest) a w := by
  obtain ⟨ie, hie, hz, hsz, _⟩ := info_parts hi
  exact wpList_buildSlice hgd T e n parts ho C ie z hu hie hz (by rw [hsz]; exact h1) (by rw [hsz]; exact h2) (by rw [hsz]; exact hf) (h _ _ (Nat.le_refl _) (Blk.new _ _ _) ((Adv.refl _ _).alloc _))
end
/-- the reply that a request is to have -/
def ansM (m : Ms) : Ms := { ms0 with ty := 2, cl := m.cl, ss := m.ss, sq := m.sq, bo := m.bo, kd := m.kd }
set_option maxRecDepth 3000 in
theorem built_ans (cl ss sq bo kd : Int) : Try.prog.built 28 [(0, .int .i64 2), (1, .int .i64 cl), (2, .int .u64 ss), (3, .int .u64 sq), (4, .int .u64 bo), (5, .int .i64 kd)] = some #[.int .i64 2, .int .i64 cl, .int .u64 ss, .int .u64 sq, .int .u64 bo, .int .i64 kd, .int .i64 0, .int .i64 0, .int .i64 0, .int .i64 0, .int .i64 0, .string ⟨#[]⟩, .string ⟨#[]⟩, .int .i64 0, .int .i64 0, .string ⟨#[]⟩, .int .u64 0, nilV] := by kernel_rfl
set_option maxRecDepth 3000 in
theorem built_ansM (m : Ms) : Try.prog.built 28 [(0, .int .i64 2), (1, .int .i64 m.cl), (2, .int .u64 (m.ss : Int)), (3, .int .u64 (m.sq : Int)), (4, .int .u64 (m.bo : Int)), (5, .int .i64 m.kd)] = some (mc (ansM m) nilV) := (built_ans _ _ _ _ _).trans rfl
set_option maxRecDepth 3000 in
set_option maxHeartbeats 1600000 in
theorem answer_any (m : Ms) (v : Value) (w : World) : Calls Try.prog 18 #[.agg (mc m v)] w fun e w' => e = .returned (.agg (mc (ansM m) nilV)) ∧ Adv Nul w Nul w' := by
  have HBA := Lib.hid (built_ansM m)
  have HI := Lib.hid infoM
  obtain ⟨C, hC⟩ : ∃ C, C = mc m v := ⟨_, rfl⟩
  have HC := Lib.hid (fun (z : Nat) (w' : World) (h : Blk w' z 28 C) => (show Blk w' z 28 (mc m v) by rw [← hC]; exact h).c18.a)
  obtain ⟨Z, hZ⟩ : ∃ C, C = mc ms0 nilV := ⟨_, rfl⟩
  have HZS := Lib.hid (show Z.size = 18 by rw [hZ]; rfl)
  obtain ⟨D, hD⟩ : ∃ C, C = mc (ansM m) nilV := ⟨_, rfl⟩
  have HDS := Lib.hid (show D.size = 18 by rw [hD]; rfl)
  have HD1 := Lib.hid (show D.all (·.oneCell') = true by rw [hD]; exact mc_one _ _ _ _)
  rw [← hD] at HBA ⊢
  rw [← hZ] at HI
  rw [← hC]
  clear hC hZ hD
  obtain ⟨ty, cl, ss, sq, bo, kd, er, fi, fg, di, dg, nm, ot, mo, at_, da, ve, en⟩ := m
  simp only at HC HBA
  go_enter Try.func18, Try.ntmps18
  go_wp2_with (first
    | (refine kop_box rfl _ rfl rfl ?_; intro z w1 hz hb ha; have HA1 := Lib.hid ha; have HB1 := Lib.hid hb; clear hz hb ha)
    | (refine kop_alloc rfl rfl HI.out ?_; intro u w2 hz hb ha; have HU2 := Lib.hid (Nat.le_trans HA1.out.size hz); have HBU := Lib.hid hb; have HA2 := Lib.hid (HA1.out.trans ha); obtain ⟨s0, s1, s2, s3, s4, s5, s6⟩ := HC.out _ _ (HB1.out.over ha); clear hz hb ha)
    | (refine kop_built rfl rfl (by kernel_rfl) HBA.out ?_)
    | (refine kop_store rfl _ _ rfl u HBU.out rfl rfl sizeM HDS.out HZS.out HD1.out ?_; intro w3 hb ha; have HB3 := Lib.hid hb; have HA3 := Lib.hid (HA2.out.fresh HU2.out ha); clear hb ha s0 s1 s2 s3 s4 s5 s6)
    | fail)
  exact bodyPost_ret (kresM rfl _ _ rfl HB3.out Try.underlying28 rfl (by rw [sizeM, HDS.out])) rfl ⟨rfl, HA3.out⟩
end Go.Proofs.Ytpgeebhepegpaaa
