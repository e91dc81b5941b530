/- The homes that are not home: a map in memory; the log. The log's small methods. take: homes are as a transaction has them. lay: a piece is written at its place. -/
import Derived.Test.YtbdjlmdbnoghnaaGreatMh12
import Derived.Test.YtbdjlmdbnoghnaaGreatMh16
import Derived.Test.YtbdjlmdbnoghnaaGreatMh13
import Derived.Maps.OwnSet
namespace Go.Proofs.YtbdjlmdbnoghnaaGreat
open Go.RowKit Go.Maps

abbrev DU := DataW Unit
def u8D : Value → DU
  | .int .u8 x => .lit (.int .u8 x)
  | _ => .nil
def litD (x : Nat) : DU := .lit (.int .u8 (x : Int))
def secD (l : List Nat) : DU := .agg (l.map litD)
/-- how a sector reads -/
def secR : Value → Option (DU × List MemPlace)
  | .agg cs => some (.agg (cs.toList.map u8D), [])
  | _ => none
theorem secR_mk (l : List Nat) : secR (.agg (l.map u8).toArray) = some (secD l, []) := by
  have e : (l.map u8).map u8D = l.map litD := by rw [List.map_map]; rfl
  simp [secR, secD, e]
theorem u8D_inv : ∀ {cs : List Value} {l : List Nat}, cs.map u8D = l.map litD → cs = l.map u8
  | [], [], _ => rfl
  | [], _ :: _, h => by simp at h
  | _ :: _, [], h => by simp at h
  | c :: cs, x :: l, h => by
    rw [List.map_cons, List.map_cons, List.cons.injEq] at h
    have h2 := u8D_inv h.2
    have h1 : c = u8 x := by
      have h3 := h.1
      unfold u8D litD at h3
      split at h3
      · injection h3 with h3; injection h3 with _ h3; subst h3; rfl
      · cases h3
    rw [h1, h2]; rfl
theorem secR_inv {v : Value} {ps : List MemPlace} {l : List Nat} (h : secR v = some (secD l, ps)) : v = .agg (l.map u8).toArray := by
  unfold secR at h
  split at h
  · injection h with h
    injection h with h _
    unfold secD at h
    injection h with h
    have := u8D_inv h
    rw [← this]
  · cases h
def ik (i : Nat) : Lit := .int .i64 (i : Int)
theorem ik_ne {i j : Nat} (h : i ≠ j) : ik i ≠ ik j := fun e => h (by unfold ik at e; injection e with _ e; omega)
theorem ik_wf {i : Nat} (h : i < 1000000000) : (Lit.int .i64 (i : Int)).wf = true := by
  have h0 : IntKind.i64.min = -9223372036854775808 := rfl
  have h1 : IntKind.i64.max = 9223372036854775807 := rfl
  simp [Lit.wf]
  omega
def cnt (A : Nat → Option (List Nat)) (N : Nat) : Nat := ((List.range N).filter (fun i => (A i).isSome)).length
theorem cnt_succ (A : Nat → Option (List Nat)) (N : Nat) : cnt A (N + 1) = cnt A N + (if (A N).isSome then 1 else 0) := by
  unfold cnt
  rw [List.range_succ, List.filter_append, List.length_append]
  congr 1
  cases h : (A N).isSome <;> simp [h]
def setA (A : Nat → Option (List Nat)) (i : Nat) (l : List Nat) : Nat → Option (List Nat) := fun j => if j = i then some l else A j
theorem cnt_le (A : Nat → Option (List Nat)) (N : Nat) : cnt A N ≤ N := by
  have := List.length_filter_le (fun i => (A i).isSome) (List.range N)
  rwa [List.length_range] at this
theorem cnt_far {A B : Nat → Option (List Nat)} : ∀ {N : Nat}, (∀ j, j < N → A j = B j) → cnt A N = cnt B N
  | 0, _ => rfl
  | N + 1, h => by rw [cnt_succ, cnt_succ, cnt_far (N := N) (fun j hj => h j (by omega)), h N (by omega)]
theorem cnt_set {A : Nat → Option (List Nat)} {i : Nat} {l : List Nat} : ∀ {N : Nat}, i < N → cnt (setA A i l) N = if (A i).isSome then cnt A N else cnt A N + 1
  | 0, h => by omega
  | N + 1, h => by
    rw [cnt_succ, cnt_succ]
    by_cases e : i = N
    · subst e
      rw [cnt_far (A := setA A i l) (B := A) (fun j hj => by unfold setA; rw [if_neg (by omega)])]
      have : (setA A i l i).isSome = true := by unfold setA; rw [if_pos rfl]; rfl
      rw [this]
      cases (A i).isSome <;> simp
    · rw [cnt_set (N := N) (by omega)]
      have : setA A i l N = A N := by unfold setA; rw [if_neg (by omega)]
      rw [this]
      cases (A i).isSome <;> simp <;> omega

/-- the datum of a map of homes -/
structure MpD (N : Nat) (A : Nat → Option (List Nat)) (D : DU) : Prop where
  tidy : Tidy D
  size : Maps.size D = cnt A N
  has : ∀ i, i < N → Maps.has D (ik i) = (A i).isSome
  at_ : ∀ i, i < N → ∀ z, D.atKey (ik i) z = ((A i).map secD).getD z
  keys : ∀ k : Lit, WideAt.IsKeyLit k → Maps.has D k = true → ∃ i, i < N ∧ k = ik i
theorem ik_key (i : Nat) : WideAt.IsKeyLit (ik i) := trivial
theorem cnt_none (N : Nat) : cnt (fun _ => none) N = 0 := by unfold cnt; simp
theorem MpD.empty (N : Nat) : MpD N (fun _ => none) (.map []) :=
  ⟨tidy_empty, by rw [cnt_none]; rfl, fun _ _ => rfl, fun _ _ _ => rfl, fun _ _ h => by simp [Maps.has_eq] at h⟩
theorem MpD.put {N i : Nat} {A : Nat → Option (List Nat)} {D : DU} {l : List Nat} (h : MpD N A D) (hi : i < N) : MpD N (setA A i l) (D.put (ik i) (secD l)) where
  tidy := h.tidy.put (ik_key i) _
  size := by rw [size_put h.tidy, h.has i hi, cnt_set hi, h.size]
  has j hj := by
    by_cases e : j = i
    · subst e; rw [has_put_same h.tidy.isMap (ik_key j)]; unfold setA; rw [if_pos rfl]; rfl
    · rw [has_put_other (ik_ne e), h.has j hj]; unfold setA; rw [if_neg e]
  at_ j hj z := by
    by_cases e : j = i
    · subst e; rw [atKey_put_same h.tidy.isMap (ik_key j)]; unfold setA; rw [if_pos rfl]; rfl
    · rw [atKey_put_other (ik_ne e), h.at_ j hj]; unfold setA; rw [if_neg e]
  keys k hk hh := by
    by_cases e : k = ik i
    · exact ⟨i, hi, e⟩
    · rw [has_put_other e] at hh
      exact h.keys k hk hh

/-- block b is a map of homes -/
def Mp (w : World) (b N : Nat) (A : Nat → Option (List Nat)) : Prop := ∃ D : DU, w.ownsMap Tryz.prog 3 secR b (cnt A N) D ∧ MpD N A D
theorem keyed_int : Keyed Tryz.prog 3 := int_keyed Tryz.underlying3
theorem key_ik {i : Nat} (h : i < 1000000000) : keyOf Tryz.prog 3 (.int .i64 (i : Int)) = some (ik i) := keyOf_int_mk Tryz.underlying3 (ik_wf h)
theorem infoSec : (Tryz.prog.info? 114).map (fun i => (i.zero, i.size, i.bytes)) = some (some (.agg zS), 128, 128) := by kernel_rfl
theorem sizeSec : (Tryz.prog.info? 114).map (·.size) = some 128 := by kernel_rfl
theorem Mp.lt {w : World} {b N : Nat} {A : Nat → Option (List Nat)} (h : Mp w b N A) : b < w.heap.size := by obtain ⟨D, h, _⟩ := h; exact h.lt
theorem Mp.keep {w w' : World} {b N : Nat} {A : Nat → Option (List Nat)} (h : Mp w b N A) (hk : w'.heap[b]? = w.heap[b]?) : Mp w' b N A := by
  obtain ⟨D, ⟨es, c, h1, h2⟩, h3⟩ := h
  exact ⟨D, ⟨es, c, hk.trans h1, h2⟩, h3⟩
theorem Mp.new (w : World) (N : Nat) : Mp (w.alloc (.map #[] 0)) w.heap.size N (fun _ => none) := ⟨_, by rw [cnt_none]; exact World.ownsMap_made _ _ _ _, MpD.empty N⟩
theorem Mp.ne {w : World} {b g N : Nat} {t : TypeId} {cs : Array Value} {A : Nat → Option (List Nat)} (h : Mp w b N A) (hg : Blk w g t cs) : g ≠ b := by
  rintro rfl
  obtain ⟨D, ⟨es, c, h1, h2⟩, h3⟩ := h
  unfold Blk at hg
  rw [h1] at hg
  cases hg

section
variable {ops : Array Oper} {rest : List Oper} {o : Oper} {a : Act} {w : World} {Q : Exit → Act → World → Prop}
theorem op_look (hgd : o.guard = none) (m x : Operand) (ho : o.op = Op.lookup 72 m x true) (b N i : Nat) (A : Nat → Option (List Nat)) (hM : Mp w b N A) (hm : a.eval m = .map (some b)) (hx : a.eval x = .int .i64 (i : Int)) (hi : i < N) (hN : N ≤ 4096)
    (hK : wpList Tryz.prog ops Q rest (a.put o.dst (.tuple #[.agg ((((A i).getD (List.replicate 128 0)).map u8).toArray), .bool (A i).isSome])) w) : wpList Tryz.prog ops Q (o :: rest) a w := by
  obtain ⟨D, h, d⟩ := hM
  refine wpList_lookup_own_ok w hgd m x 72 ho 3 114 keyed_int Tryz.underlying72 secR (zero_run infoSec) (secD (List.replicate 128 0)) [] (by rw [zS, ← List.map_replicate]; exact secR_mk _) b _ D hm h _ (ik i) hx (key_ik (by omega)) (fun v ps hv => ?_)
  rw [d.at_ i hi] at hv
  rw [d.has i hi]
  have e : ((A i).map secD).getD (secD (List.replicate 128 0)) = secD ((A i).getD (List.replicate 128 0)) := by cases A i <;> rfl
  rw [e] at hv
  rw [secR_inv hv]
  exact hK
theorem op_alloc_sec (hgd : o.guard = none) (ho : o.op = .alloc 114) (h : wpList Tryz.prog ops Q rest (a.put o.dst (.pointer (some ⟨w.heap.size, 0, none⟩))) (w.alloc (.cells zS 114))) : wpList Tryz.prog ops Q (o :: rest) a w :=
  op_alloc hgd ho infoSec h
theorem op_store_sec (hgd : o.guard = none) (x y : Operand) (ho : o.op = .store 114 x y) (g : Nat) (hg : g = w.heap.size) (l : List Nat) (hl : l.length = 128) (hx : a.eval x = .pointer (some ⟨g, 0, none⟩)) (hy : a.eval y = .agg (l.map u8).toArray)
    (h : wpList Tryz.prog ops Q rest (a.put o.dst undef) (w.alloc (.cells (l.map u8).toArray 114))) : wpList Tryz.prog ops Q (o :: rest) a (w.alloc (.cells zS 114)) :=
  op_store_new hgd x y ho g hg hx hy sizeSec (by simpa using hl) zS_size (one_u8 l) h
end

/-- The log: the head, the next count, its epoch, what is not home, the error that stays. -/
structure LS where
  h : Hd
  next : Nat
  ep : Nat
  A : Nat → Option (List Nat)
  err : Int
def lcells (d n b : Nat) (g : LS) : Array Value := #[.pointer (some ⟨d, 0, none⟩), .int .i64 (n : Int), .int .u64 (g.h.g : Int), .int .u64 (g.h.t : Int), .int .u64 (g.h.f : Int), .int .u64 (g.next : Int), .int .u64 (g.ep : Int), .map (some b), .int .i64 g.err]
structure Lg (w : World) (l b d n N : Nat) (g : LS) : Prop where
  blk : Blk w l 74 (lcells d n b g)
  mp : Mp w b (N - 2 - n) g.A
def LF (l b : Nat) : Nat → Prop := fun k => k = l ∨ k = b
theorem Lg.bd {w : World} {l b d n N : Nat} {g : LS} (h : Lg w l b d n N g) : Bd (LF l b) w := fun k hk => by
  rcases hk with rfl | rfl
  · exact h.blk.lt
  · exact h.mp.lt
theorem Lg.far {w w' : World} {F F' : Nat → Prop} {l b d n N : Nat} {g : LS} (h : Lg w l b d n N g) (ha : Adv F w F' w') (hs : Sep F (LF l b)) : Lg w' l b d n N g :=
  ⟨h.blk.keep (ha.block l h.blk.lt (fun x => hs l x (.inl rfl))), h.mp.keep (ha.block b h.mp.lt (fun x => hs b x (.inr rfl)))⟩
theorem Lg.ne {w : World} {l b d n N : Nat} {g : LS} (h : Lg w l b d n N g) : l ≠ b := h.mp.ne h.blk
theorem Lg.cells {w : World} {l b d n N : Nat} {g : LS} (h : Lg w l b d n N g) : w.cell? ⟨l, 0, none⟩ = some (.pointer (some ⟨d, 0, none⟩)) ∧ w.cell? ⟨l, 1, none⟩ = some (.int .i64 (n : Int)) ∧ w.cell? ⟨l, 2, none⟩ = some (.int .u64 (g.h.g : Int)) ∧
    w.cell? ⟨l, 3, none⟩ = some (.int .u64 (g.h.t : Int)) ∧ w.cell? ⟨l, 4, none⟩ = some (.int .u64 (g.h.f : Int)) ∧ w.cell? ⟨l, 5, none⟩ = some (.int .u64 (g.next : Int)) ∧ w.cell? ⟨l, 6, none⟩ = some (.int .u64 (g.ep : Int)) ∧ w.cell? ⟨l, 7, none⟩ = some (.map (some b)) ∧ w.cell? ⟨l, 8, none⟩ = some (.int .i64 g.err) :=
  ⟨h.blk.cell 0, h.blk.cell 1, h.blk.cell 2, h.blk.cell 3, h.blk.cell 4, h.blk.cell 5, h.blk.cell 6, h.blk.cell 7, h.blk.cell 8⟩
end Go.Proofs.YtbdjlmdbnoghnaaGreat
namespace Go.Proofs.YtbdjlmdbnoghnaaGreat
open Go.RowKit Go.Maps

section
variable {w : World} {l b d n N : Nat} {g : LS}
set_option maxRecDepth 3000 in
theorem gmade_lg (h : Lg w l b d n N g) : Calls Tryz.prog 61 #[.pointer (some ⟨l, 0, none⟩)] w fun e w' => e = .returned (.bool true) ∧ w = w' := by
  have c0 := h.cells.1
  clear h
  go_enter Tryz.func61, Tryz.ntmps61
  go_wp2_with fail
  go_ret
  exact ⟨rfl, rfl⟩
set_option maxRecDepth 3000 in
theorem gstays_lg (h : Lg w l b d n N g) : Calls Tryz.prog 42 #[.pointer (some ⟨l, 0, none⟩)] w fun e w' => e = .returned (.int .i64 g.err) ∧ w = w' := by
  obtain ⟨c0, -, -, -, -, -, -, -, c8⟩ := h.cells
  have HM := Lib.hid (gmade_lg h)
  obtain ⟨E, hE⟩ : ∃ E, E = g.err := ⟨_, rfl⟩
  rw [← hE] at c8 ⊢
  clear h hE
  go_enter Tryz.func42, Tryz.ntmps42
  go_wp2_with fail
  refine HM.out.mono ?_
  rintro e w1 ⟨rfl, rfl⟩
  go_wp2_with fail
  go_ret
  exact ⟨rfl, rfl⟩
theorem Lg.setErr (h : Lg w l b d n N g) (E : Int) : Lg (w.setCell ⟨l, 8, none⟩ (.int .i64 E)) l b d n N { g with err := E } :=
  ⟨h.blk.set_ 8 _, h.mp.keep (Below.heap_setCell w _ _ b (fun e => h.ne e.symm))⟩
set_option maxRecDepth 3000 in
theorem gkeep_lg (E : Int) (h : Lg w l b d n N g) : Calls Tryz.prog 46 #[.pointer (some ⟨l, 0, none⟩), .int .i64 E] w fun e w' => e = .returned (.int .i64 E) ∧ Lg w' l b d n N { g with err := E } ∧ Adv (LF l b) w (LF l b) w' := by
  have c8 := h.cells.2.2.2.2.2.2.2.2
  have HF := Lib.hid (h.blk.frozen 8)
  have HS := Lib.hid (h.setErr E)
  have HA := Lib.hid ((Adv.refl (LF l b) w).setCell (p := ⟨l, 8, none⟩) (.inl (.inl rfl)) (.int .i64 E))
  have hf := HF.out
  clear h
  go_enter Tryz.func46, Tryz.ntmps46
  go_wp2_with fail
  go_ret
  exact ⟨rfl, HS.out, HA.out⟩
set_option maxRecDepth 3000 in
theorem ghome_lg (i : Nat) (h : Lg w l b d n N g) (hi : i ≤ 100000) (hn : n ≤ 100000) : Calls Tryz.prog 63 #[.pointer (some ⟨l, 0, none⟩), .int .i64 (i : Int)] w fun e w' => e = .returned (.int .i64 ((2 + n + i : Nat) : Int)) ∧ w = w' := by
  have c1 := h.cells.2.1
  have e : ((2 + n + i : Nat) : Int) = 2 + (n : Int) + (i : Int) := by omega
  rw [e]
  have hiI : (i : Int) ≤ 100000 := by omega
  have hnI : (n : Int) ≤ 100000 := by omega
  clear h e hi hn
  go_enter Tryz.func63, Tryz.ntmps63
  go_wp2_with fail
  go_ret
  exact ⟨rfl, rfl⟩
set_option maxRecDepth 3000 in
theorem gplace_lg (c : Nat) (h : Lg w l b d n N g) (hn : 1 ≤ n ∧ n ≤ 100000) : Calls Tryz.prog 81 #[.pointer (some ⟨l, 0, none⟩), .int .u64 (c : Int)] w fun e w' => e = .returned (.int .i64 ((2 + c % n : Nat) : Int)) ∧ w = w' := by
  have c1 := h.cells.2.1
  obtain ⟨r, hr⟩ : ∃ r, r = c % n := ⟨_, rfl⟩
  have hrn : r < n := by rw [hr]; exact Nat.mod_lt _ hn.1
  have e : ((2 + r : Nat) : Int) = 2 + (r : Int) := by omega
  rw [← hr, e]
  have h1 : IntKind.u64.wrap (n : Int) = (n : Int) := wrapU (by omega)
  have h2 : (c : Int).tmod (n : Int) = (r : Int) := by rw [hr]; rfl
  have h2' : (c : Int) % (n : Int) = (r : Int) := by rw [hr]; rfl
  have h3 : IntKind.u64.wrap (r : Int) = (r : Int) := wrapU (by omega)
  have h4 : IntKind.i64.wrap (r : Int) = (r : Int) := by rw [IntKind.wrap_i64]; omega
  have h5 : IntKind.i64.wrap (2 + (r : Int)) = 2 + (r : Int) := by rw [IntKind.wrap_i64]; omega
  have h6 : ((n : Int) == 0) = false := by rw [beq_eq_false_iff_ne]; omega
  have h7 : (n : Int) ≠ 0 := by omega
  clear h e hn hr hrn
  go_enter Tryz.func81, Tryz.ntmps81
  go_wp2_with fail
  go_ret
  exact ⟨rfl, rfl⟩
set_option maxRecDepth 3000 in
set_option maxHeartbeats 1600000 in
theorem ghomes_lg {F : Nat → Prop} {s : DS} (h : Lg w l b d n N g) (hd : Dk w F d N s) (hN : N ≤ 4096) (hn : n + 2 ≤ N) : Calls Tryz.prog 20 #[.pointer (some ⟨l, 0, none⟩)] w fun e w' => e = .returned (.int .i64 ((N - 2 - n : Nat) : Int)) ∧ ∃ k, w' = w.drewN k := by
  obtain ⟨c0, c1, -⟩ := h.cells
  have HM := Lib.hid (gmade_lg h)
  have HS := Lib.hid (fun (k : Nat) => (size_dk d N F s (w.drewN k) (hd.far ((Adv.refl Nul w).drewN k) (fun _ h _ => h))).mono (R' := fun e w' => e = .returned (.int .i64 (N : Int)) ∧ w' = w.drewN k) (fun _ _ ⟨a, b⟩ => ⟨a, b.symm⟩))
  have e : ((N - 2 - n : Nat) : Int) = (N : Int) - 2 - (n : Int) := by omega
  have h1 : IntKind.i64.wrap ((N : Int) - 2) = (N : Int) - 2 := by rw [IntKind.wrap_i64]; omega
  have h2 : IntKind.i64.wrap ((N : Int) - 2 - (n : Int)) = (N : Int) - 2 - (n : Int) := by rw [IntKind.wrap_i64]; omega
  rw [e]
  clear h hd e hN hn
  go_enter Tryz.func20, Tryz.ntmps20
  go_wp2_with fail
  refine HM.out.mono ?_
  rintro e w1 ⟨rfl, rfl⟩
  go_wp2_with fail
  go_quiet (exact Calls.quiet_of_same (HS.out _))
  go_wp2
  go_ret
  exact ⟨rfl, _, rfl⟩
set_option maxRecDepth 3000 in
theorem gfree_lg (h : Lg w l b d n N g) (hn : n ≤ 100000) (h1 : g.h.t ≤ g.next) (h2 : g.next - g.h.t ≤ n) : Calls Tryz.prog 21 #[.pointer (some ⟨l, 0, none⟩)] w fun e w' => e = .returned (.int .i64 ((n - (g.next - g.h.t) : Nat) : Int)) ∧ ∃ k, w' = w.drewN k := by
  obtain ⟨-, c1, -, c3, -, c5, -⟩ := h.cells
  have HM := Lib.hid (gmade_lg h)
  obtain ⟨u, hu⟩ : ∃ u, u = g.next - g.h.t := ⟨_, rfl⟩
  have e : ((n - (g.next - g.h.t) : Nat) : Int) = (n : Int) - (u : Int) := by omega
  have e2 : (g.next : Int) - (g.h.t : Int) = (u : Int) := by omega
  have h3 : IntKind.u64.wrap ((g.next : Int) - (g.h.t : Int)) = (u : Int) := by rw [e2]; exact wrapU (by omega)
  have h4 : IntKind.i64.wrap (u : Int) = (u : Int) := by rw [IntKind.wrap_i64]; omega
  have h5 : IntKind.i64.wrap ((n : Int) - (u : Int)) = (n : Int) - (u : Int) := by rw [IntKind.wrap_i64]; omega
  rw [e]
  have c0 := h.cells.1
  clear h e hn h1 h2 hu e2
  go_enter Tryz.func21, Tryz.ntmps21
  go_wp2_with fail
  refine HM.out.mono ?_
  rintro e w1 ⟨rfl, rfl⟩
  go_wp2_with fail
  go_quiet (fail)
  go_wp2
  go_ret
  exact ⟨rfl, _, rfl⟩
end
end Go.Proofs.YtbdjlmdbnoghnaaGreat
namespace Go.Proofs.YtbdjlmdbnoghnaaGreat
open Go.RowKit Go.Maps

section
variable {ops : Array Oper} {o : Oper} {a : Act} {w : World} {Q : Exit → Act → World → Prop} {K : Act → World → Prop} {E : Prop}
theorem st_load_sec (hgd : o.guard = none) (x : Operand) (ho : o.op = .load 114 x) (b off : Nat) (l : List Nat) (hl : l.length = 128) (hc : w.rangeAt b off (l.map u8)) (hx : a.eval x = .pointer (some ⟨b, off, none⟩))
    (h : K (a.put o.dst (.agg (l.map u8).toArray)) w) : if Region.wanted o (yielded ops a.tmps) = true then Oper.wp Tryz.prog o a w K Q else E := by
  rw [if_pos (by simp [Region.wanted, hgd])]
  exact wp_load_mid 114 x ho b off hx (l.map u8) _ hc Tryz.underlying114 rfl (by rw [sizeSec, List.length_map, hl]) h
theorem st_s2a_sec (hgd : o.guard = none) (x : Operand) (ho : o.op = .sliceToArrayPointer 114 x) (A : Option Addr) (c : Nat) (hx : a.eval x = .slice A 128 c)
    (h : K (a.put o.dst (.pointer A)) w) : if Region.wanted o (yielded ops a.tmps) = true then Oper.wp Tryz.prog o a w K Q else E := by
  rw [if_pos (by simp [Region.wanted, hgd])]
  unfold Oper.wp execOp
  simp [ho, hx, Instr.arrayAt, run_underlying Tryz.underlying114, Result.andThen]
  exact h
theorem st_upd (hgd : o.guard = none) (m x v : Operand) (ho : o.op = Op.mapUpdate 72 m x v) (b N i : Nat) (A : Nat → Option (List Nat)) (l : List Nat) (hM : Mp w b N A) (hm : a.eval m = .map (some b)) (hx : a.eval x = .int .i64 (i : Int)) (hv : a.eval v = .agg (l.map u8).toArray) (hi : i < N) (hN : N ≤ 4096)
    (hK : ∀ w', Mp w' b N (setA A i l) → w.grownBy w' (some b) → K (a.put o.dst undef) w') : if Region.wanted o (yielded ops a.tmps) = true then Oper.wp Tryz.prog o a w K Q else E := by
  rw [if_pos (by simp [Region.wanted, hgd])]
  obtain ⟨D, h, d⟩ := hM
  obtain ⟨w', hrun, r1, r2⟩ := h.update keyed_int Tryz.underlying72 (by have := cnt_le A N; unfold maxLen; omega) (key_ik (i := i) (by omega)) (secR_mk l)
  unfold Oper.wp
  simp [execOp, ho, hm, hx, hv, hrun, Result.andThen]
  refine hK w' ⟨_, ?_, d.put hi⟩ r2
  obtain ⟨es, c, h1, h2, h3, h4⟩ := r1
  refine ⟨es, c, h1, h2, ?_, h4⟩
  have e1 := (d.put (l := l) hi).size
  rw [h4] at e1
  rw [← e1]
  simp [Maps.size, length_sorted]
end

def putA (A : Nat → Option (List Nat)) (ps : List Pt) : Nat → Option (List Nat) := ps.foldl (fun A p => setA A p.a.toNat p.d) A
theorem putA_next (A : Nat → Option (List Nat)) (ps : List Pt) {k : Nat} (h : k < ps.length) : putA A (ps.take (k + 1)) = setA (putA A (ps.take k)) ps[k].a.toNat ps[k].d := by
  unfold putA
  rw [List.take_succ_eq_append_getElem h, List.foldl_append]
  rfl
def LS.putAll (g : LS) (ps : List Pt) (m : Nat) : LS := { g with next := g.next + m, A := putA g.A ps }
def TkL (w : World) (l b d n N : Nat) (g : LS) (ps : List Pt) (t : Value) (wr : World) : Prop := ∃ k : Nat, k ≤ ps.length ∧ t = .int .i64 (k : Int) ∧ Lg wr l b d n N { g with A := putA g.A (ps.take k) } ∧ Adv (LF l b) w (LF l b) wr
theorem Lg.setNext {w : World} {l b d n N : Nat} {g : LS} (h : Lg w l b d n N g) (m : Nat) : Lg (w.setCell ⟨l, 5, none⟩ (.int .u64 (m : Int))) l b d n N { g with next := m } :=
  ⟨h.blk.set_ 5 _, h.mp.keep (Below.heap_setCell w _ _ b (fun e => h.ne e.symm))⟩
theorem take_cells {w : World} {l z : Nat} {m u v : Value} {t : TypeId} (h1 : w.cell? ⟨l, 7, none⟩ = some m) (h2 : Blk w z t #[u, v]) : w.cell? ⟨l, 7, none⟩ = some m ∧ w.cell? ⟨z, 0, none⟩ = some u ∧ w.cell? ⟨z, 1, none⟩ = some v := ⟨h1, h2.cell 0, h2.cell 1⟩

set_option maxRecDepth 3000 in
set_option maxHeartbeats 6400000 in
theorem gtake_lg (l b d n N m : Nat) (g : LS) (A0 : Option Addr) (M k0 : Nat) (ps : List Pt) (w : World) (h : Lg w l b d n N g) (hq : QRd w (LF l b) (.slice A0 M k0) ps) (ht : isTx ps ((N - 2 - n : Nat) : Int)) (hN : N ≤ 4096) (hm : g.next + m < 18446744073709551616) :
    Calls Tryz.prog 47 #[.pointer (some ⟨l, 0, none⟩), .slice A0 M k0, .int .i64 (m : Int)] w fun e w' => e = .returned (.tuple #[]) ∧ Lg w' l b d n N (g.putAll ps m) ∧ Adv (LF l b) w (LF l b) w' := by
  have hM := hq.len.1
  have hM24 : M ≤ 24 := by have := ht.1.2; omega
  have hMI : (M : Int) ≤ 24 := by omega
  have HQ := Lib.hid hq
  have HM := Lib.hid hM
  have HT := Lib.hid ht
  have HN := Lib.hid hN
  have HL := Lib.hid h
  have HMM := Lib.hid hm
  clear h hq ht hN hm hM hM24
  go_enter Tryz.func47, Tryz.ntmps47
  go_wp2_with fail
  go_loopw [10] (TkL w l b d n N g ps) (fun t _ => M - (intOf t).toNat)
  case atStart => exact ⟨0, Nat.zero_le _, rfl, HL.out, Adv.refl _ _⟩
  case round =>
    obtain ⟨k, hk, rfl, hl, ha⟩ := hrel
    by_cases hlt : k < M
    · have hki : (k : Int) < (M : Int) := by omega
      have hkp : k < ps.length := by rw [← HM.out]; exact hlt
      obtain ⟨b1, o, a, q, rfl, hb1, ⟨c0, c1⟩, hr, hsep⟩ := (HQ.out.adv ha (fun _ x => x) (fun _ x => .inl x)).row hkp
      have hrow := HT.out.row _ (List.getElem_mem hkp)
      have hnx := putA_next g.A ps hkp
      obtain ⟨p, hp⟩ : ∃ p, p = ps[k] := ⟨_, rfl⟩
      rw [← hp] at c0 c1 hr hsep hrow hnx
      clear hp
      obtain ⟨pa, pd⟩ := p
      simp only at c0 c1 hr hsep hrow hnx
      obtain ⟨⟨hr0, hr1⟩, hdl⟩ := hrow
      obtain ⟨x, rfl⟩ := Int.eq_ofNat_of_zero_le hr0
      rw [hdl] at c1 hr hsep
      have hnx' : putA g.A (ps.take (k + 1)) = setA (putA g.A (ps.take k)) x pd := hnx
      obtain ⟨A', hA'⟩ : ∃ A', A' = putA g.A (ps.take k) := ⟨_, rfl⟩
      rw [← hA'] at hl hnx'
      obtain ⟨V, hV⟩ : ∃ V, V = wr.alloc (.cells #[.int .i64 (x : Int), .slice a 128 q] 90) := ⟨_, rfl⟩
      obtain ⟨z, hz⟩ : ∃ z, z = wr.heap.size := ⟨_, rfl⟩
      have hav : Adv Nul wr Nul V := by rw [hV]; exact (Adv.refl _ _).alloc _
      have hlv := hl.far hav (fun _ x _ => x)
      have hzb : Blk V z 90 #[.int .i64 (x : Int), .slice a 128 q] := by rw [hV, hz]; exact Blk.new _ _ _
      have hrv := hr.far (fun _ _ _ h => hav.block _ h (fun h => h)) hav.size
      obtain ⟨b2, o2, rfl, hb2, hcs⟩ := hrv.cells (by decide) (by decide)
      have hzl : z ≠ b := by rw [hz]; have := hl.mp.lt; omega
      have HC := Lib.hid (take_cells hlv.cells.2.2.2.2.2.2.2.1 hzb)
      have HCD := Lib.hid (take_cells (w := V.drew) hlv.cells.2.2.2.2.2.2.2.1 hzb)
      have HRNG := Lib.hid (show V.drew.rangeAt b2 o2 (pd.map u8) from hcs)
      have HMP := Lib.hid (show Mp V.drew b (N - 2 - n) A' from hlv.mp)
      have HLV := Lib.hid hlv
      have HZB := Lib.hid hzb
      have HZL := Lib.hid hzl
      have HAV := Lib.hid (show Adv (LF l b) w (LF l b) V by rw [hV]; exact ha.alloc _)
      have HDL := Lib.hid hdl
      have HX := Lib.hid (show x < N - 2 - n by omega)
      have HN2 := Lib.hid (show N - 2 - n ≤ 4096 by have := HN.out; omega)
      have HNX := Lib.hid hnx'
      have HV := Lib.hid hV
      have HZ := Lib.hid hz
      have HLT := Lib.hid hlt
      have HKP := Lib.hid hkp
      clear hlt hr hr0 hr1 hdl hnx hnx' hA' hav hlv hzb hrv hb2 hcs hzl hsep hb1 hl ha hV hz hkp hk
      go_upto_region 3 with (fail)
      rw [← HV.out, ← HZ.out]
      clear c0 c1
      obtain ⟨c7, z0, z1⟩ := HC.out
      refine rstart (S := (fun w' => w'.cell? ⟨l, 7, none⟩ = some (.map (some b)) ∧ w'.cell? ⟨z, 0, none⟩ = some (.int .i64 (x : Int)) ∧ w'.cell? ⟨z, 1, none⟩ = some (.slice (some ⟨b2, o2, none⟩) 128 q))) (by first | with_reducible exact HC6.out | with_reducible exact HCD.out | with_reducible exact HC.out) (fun hH => ?_)
      refine tk (i := 0) (oi := ⟨some 14, .move (.tmp 0), 31, "redo.go:162", #[], none⟩) hH.out (by rintro w ⟨s0, s1, s2⟩; go_simp <;> with_reducible rfl) ?_
      simp only [Act.put, sA, sB, sC]
      refine tk (i := 1) (oi := ⟨some 15, .nilCheck (.tmp 14), 0, "redo.go:162", #[⟨0, .data⟩], none⟩) hH.out (by rintro w ⟨s0, s1, s2⟩; go_simp <;> with_reducible rfl) ?_
      simp only [Act.put, sA, sB, sC]
      refine tk (i := 2) (oi := ⟨some 16, .fieldAddr 74 (.tmp 15) 5, 0, "redo.go:162", #[⟨1, .data⟩], none⟩) hH.out (by rintro w ⟨s0, s1, s2⟩; go_simp <;> with_reducible rfl) ?_
      simp only [Act.put, sA, sB, sC]
      refine tk (i := 3) (oi := ⟨some 17, .load 72 (.tmp 16), 72, "redo.go:162", #[⟨2, .data⟩], none⟩) hH.out (by rintro w ⟨s0, s1, s2⟩; go_simp <;> with_reducible rfl) ?_
      simp only [Act.put, sA, sB, sC]
      refine tk (i := 4) (oi := ⟨some 18, .fieldAddr 90 (.tmp 7) 0, 0, "redo.go:162", #[], none⟩) hH.out (by rintro w ⟨s0, s1, s2⟩; go_simp <;> with_reducible rfl) ?_
      simp only [Act.put, sA, sB, sC]
      refine tk (i := 5) (oi := ⟨some 19, .load 3 (.tmp 18), 3, "redo.go:162", #[⟨4, .data⟩], none⟩) hH.out (by rintro w ⟨s0, s1, s2⟩; go_simp <;> with_reducible rfl) ?_
      simp only [Act.put, sA, sB, sC]
      refine tk (i := 6) (oi := ⟨some 20, .fieldAddr 90 (.tmp 7) 1, 0, "redo.go:162", #[], none⟩) hH.out (by rintro w ⟨s0, s1, s2⟩; go_simp <;> with_reducible rfl) ?_
      simp only [Act.put, sA, sB, sC]
      refine tk (i := 7) (oi := ⟨some 21, .load 53 (.tmp 20), 53, "redo.go:162", #[⟨6, .data⟩], none⟩) hH.out (by rintro w ⟨s0, s1, s2⟩; go_simp <;> with_reducible rfl) ?_
      simp only [Act.put, sA, sB, sC]
      refine rdy (i := 8) (oi := ⟨some 22, .sliceToArrayPointer 114 (.tmp 21), 0, "redo.go:162", #[⟨7, .data⟩], none⟩) (fun K hK => ?_)
      refine st_s2a_sec rfl _ rfl (some ⟨b2, o2, none⟩) q rfl ?_
      refine hK.out _ _ (by first | with_reducible exact HC6.out | with_reducible exact HCD.out | with_reducible exact HC.out) (fun hHeld => ?_)
      replace hH := Lib.hid hHeld
      clear hK K hHeld
      try simp only [Act.put, sA, sB, sC]
      refine rdy (i := 9) (oi := ⟨some 23, .load 114 (.tmp 22), 114, "redo.go:162", #[⟨8, .data⟩], none⟩) (fun K hK => ?_)
      refine st_load_sec rfl _ rfl b2 o2 pd HDL.out HRNG.out rfl ?_
      refine hK.out _ _ (by first | with_reducible exact HC6.out | with_reducible exact HCD.out | with_reducible exact HC.out) (fun hHeld => ?_)
      replace hH := Lib.hid hHeld
      clear hK K hHeld
      try simp only [Act.put, sA, sB, sC]
      refine rdy (i := 10) (oi := ⟨none, .mapUpdate 72 (.tmp 17) (.tmp 19) (.tmp 23), 0, "redo.go:162", #[⟨3, .data⟩, ⟨5, .data⟩, ⟨9, .data⟩, ⟨0, .phase⟩, ⟨1, .phase⟩, ⟨2, .phase⟩, ⟨3, .phase⟩, ⟨4, .phase⟩, ⟨5, .phase⟩, ⟨6, .phase⟩, ⟨7, .phase⟩, ⟨8, .phase⟩, ⟨9, .phase⟩], none⟩) (fun K hK => ?_)
      refine st_upd rfl _ _ _ rfl b (N - 2 - n) x A' pd HMP.out rfl rfl rfl HX.out HN2.out ?_
      intro w6 hM6 hg6
      have hl6 : Lg w6 l b d n N { g with A := setA A' x pd } := ⟨HLV.out.blk.keep (hg6.block l HLV.out.blk.lt (fun e => HLV.out.ne (Option.some.inj e))), hM6⟩
      have HC6 := Lib.hid (take_cells hl6.cells.2.2.2.2.2.2.2.1 (HZB.out.keep (hg6.block z HZB.out.lt (fun e => HZL.out (Option.some.inj e)))))
      have HL6 := Lib.hid hl6
      have HA6 := Lib.hid (HAV.out.drew.grown hg6 (fun k e => .inl (.inr (Option.some.inj e).symm)))
      clear hM6 hg6 hl6
      refine hK.out _ _ (by first | with_reducible exact HC6.out | with_reducible exact HCD.out | with_reducible exact HC.out) (fun hHeld => ?_)
      replace hH := Lib.hid hHeld
      clear hK K hHeld
      try simp only [Act.put]
      refine wpAnyH_done (by kernel_rfl) ?_ _
      go_wp2_with fail
      have hlt := HLT.out
      have hkp := HKP.out
      exact ⟨⟨k + 1, by omega, by go_num, by rw [HNX.out]; exact HL6.out, HA6.out⟩, by simp [intOf] <;> omega⟩
    · obtain rfl : k = M := by have := HM.out; omega
      have e1 : ps.take k = ps := by rw [HM.out, List.take_length]
      rw [e1] at hl
      have c5 := hl.cells.2.2.2.2.2.1
      have hf := hl.blk.frozen 5
      obtain ⟨X, hX⟩ : ∃ X, X = g.next := ⟨_, rfl⟩
      have c5' : wr.cell? ⟨l, 5, none⟩ = some (.int .u64 (X : Int)) := by rw [hX]; exact c5
      have hw1 : IntKind.u64.wrap (m : Int) = (m : Int) := wrapU (by have := HMM.out; omega)
      have hw2 : IntKind.u64.wrap ((X : Int) + (m : Int)) = (X : Int) + (m : Int) := by
        have := wrapU (x := X + m) (by rw [hX]; exact HMM.out)
        rw [Int.natCast_add] at this
        exact this
      have HLS := Lib.hid (show Lg (wr.setCell ⟨l, 5, none⟩ (.int .u64 ((X : Int) + (m : Int)))) l b d n N (g.putAll ps m) by
        have := hl.setNext (g.next + m)
        rw [Int.natCast_add] at this
        rw [hX]
        exact this)
      have HAS := Lib.hid (ha.setCell (p := ⟨l, 5, none⟩) (.inl (.inl rfl)) (.int .u64 ((X : Int) + (m : Int))))
      clear hk hlt hl ha c5 e1 hX
      go_wp2_with fail
      go_end0
      exact ⟨rfl, HLS.out, HAS.out⟩
end Go.Proofs.YtbdjlmdbnoghnaaGreat
namespace Go.Proofs.YtbdjlmdbnoghnaaGreat
open Go.RowKit Go.Maps

theorem pcell5 {w : World} {z : Nat} {t : TypeId} {u0 u1 u2 u3 u4 : Value} (h : Blk w z t #[u0, u1, u2, u3, u4]) : w.cell? ⟨z, 0, none⟩ = some u0 ∧ w.cell? ⟨z, 1, none⟩ = some u1 ∧ w.cell? ⟨z, 2, none⟩ = some u2 ∧ w.cell? ⟨z, 3, none⟩ = some u3 ∧ w.cell? ⟨z, 4, none⟩ = some u4 := ⟨h.cell 0, h.cell 1, h.cell 2, h.cell 3, h.cell 4⟩
def LayR (w : World) (F : Nat → Prop) (d N : Nat) (r : DS × Int) (e : Ending) (w' : World) : Prop := e = .returned (.int .i64 r.2) ∧ ∃ F', Dk w' F' d N r.1 ∧ Adv F w F' w'

set_option maxRecDepth 3000 in
set_option maxHeartbeats 6400000 in
theorem glay_lg (l b d n N : Nat) (g : LS) (F : Nat → Prop) (s : DS) (p : Pc) (A : Option Addr) (k : Nat) (w : World) (h : Lg w l b d n N g) (hd : Dk w F d N s) (hsep : Sep F (LF l b)) (hok : p.ok) (hr : Rd w 1 (.slice A p.d.length k) p.d.length (p.d.map u8)) (h8 : ∀ x ∈ p.d, x < 256) (hq : s.Q.length ≤ 1000000) (hn : 1 ≤ n ∧ n ≤ 100000) :
    Calls Tryz.prog 45 #[.pointer (some ⟨l, 0, none⟩), .agg #[.int .u64 (p.e : Int), .int .u64 (p.c : Int), .bool p.f, .bool p.g, .slice A p.d.length k]] w (LayR w F d N (writeS s ((2 + p.c % n : Nat) : Int) (sealL p))) := by
  obtain ⟨V, hV⟩ : ∃ V, V = w.alloc (.cells #[.int .u64 (p.e : Int), .int .u64 (p.c : Int), .bool p.f, .bool p.g, .slice A p.d.length k] 96) := ⟨_, rfl⟩
  obtain ⟨z, hz⟩ : ∃ z, z = w.heap.size := ⟨_, rfl⟩
  have hav : Adv Nul w Nul V := by rw [hV]; exact (Adv.refl _ _).alloc _
  have hzb : Blk V z 96 #[.int .u64 (p.e : Int), .int .u64 (p.c : Int), .bool p.f, .bool p.g, .slice A p.d.length k] := by rw [hV, hz]; exact Blk.new _ _ _
  have HSEAL := Lib.hid (seal_any p (.slice A p.d.length k) V (hr.far (fun _ _ _ h => hav.block _ h (fun h => h)) hav.size) h8)
  have HLG := Lib.hid (h.far hav (fun _ x _ => x))
  have HDK := Lib.hid (hd.far hav (fun _ x _ => x))
  have HZB := Lib.hid hzb
  have HAV := Lib.hid hav
  have HSEP := Lib.hid hsep
  have HOK := Lib.hid hok
  have HQ := Lib.hid hq
  have HN := Lib.hid hn
  have HV := Lib.hid hV
  have HZ := Lib.hid hz
  have hzf : ¬ F z := fun x => by have := hd.bd z x; omega
  have HZF := Lib.hid hzf
  obtain ⟨R, hR⟩ : ∃ R, R = writeS s ((2 + p.c % n : Nat) : Int) (sealL p) := ⟨_, rfl⟩
  rw [← hR]
  have HR := Lib.hid hR
  obtain ⟨⟨e, c, f, gg, D⟩, hp⟩ : ∃ q, q = p := ⟨_, rfl⟩
  have HP := Lib.hid hp
  obtain ⟨m, hm⟩ : ∃ m, m = D.length := ⟨_, rfl⟩
  have hpm : p.d.length = m := by rw [← hp, hm]
  have hpe : p.e = e := by rw [← hp]
  have hpc : p.c = c := by rw [← hp]
  have hpf : p.f = f := by rw [← hp]
  have hpg : p.g = gg := by rw [← hp]
  rw [hpm, hpe, hpc, hpf, hpg] at HSEAL HZB HV ⊢
  rw [hpc] at HR
  have HRC := Lib.hid (show R = writeS s ((2 + c % n : Nat) : Int) (sealL p) from HR.out)
  obtain ⟨z0, z1, z2, z3, z4⟩ := pcell5 HZB.out
  clear h hd hsep hok hr h8 hq hn hV hz hav hzb hzf hR hp hm hpm hpe hpc hpf hpg HR
  go_enter Tryz.func45, Tryz.ntmps45
  go_upto_region 1 with (fail)
  rw [← HV.out, ← HZ.out]
  go_wp2_with fail
  refine HSEAL.out.mono ?_
  intro x w1 h1
  obtain ⟨A1, m1, k1, F1, rfl, a1, p1, -⟩ := h1
  obtain ⟨rfl, hs⟩ := p1 HOK.out
  have he : sealE p = 0 := by rw [sealE, if_pos HOK.out]
  rw [he]
  have a1' := a1.sub (G := Nul) (fun _ x => x.elim)
  have HL1 := Lib.hid (HLG.out.far a1' (fun _ x _ => x))
  have hd1 := HDK.out.far a1' (fun _ x _ => x)
  have HA1 := Lib.hid (HAV.out.trans a1')
  have HC := Lib.hid (show w1.cell? ⟨l, 0, none⟩ = some (.pointer (some ⟨d, 0, none⟩)) ∧ w1.cell? ⟨z, 1, none⟩ = some (.int .u64 (c : Int)) from ⟨HL1.out.cells.1, (HZB.out.keep (a1.block z HZB.out.lt (fun x => x))).cell 1⟩)
  have HCD := Lib.hid (show w1.drew.cell? ⟨l, 0, none⟩ = some (.pointer (some ⟨d, 0, none⟩)) ∧ w1.drew.cell? ⟨z, 1, none⟩ = some (.int .u64 (c : Int)) from HC.out)
  have HPL := Lib.hid (gplace_lg (w := w1.drew) c (show Lg w1.drew l b d n N g from ⟨HL1.out.blk, HL1.out.mp⟩) HN.out)
  have HWR := Lib.hid (show Calls Tryz.prog 80 #[.pointer (some ⟨d, 0, none⟩), .int .i64 ((2 + c % n : Nat) : Int), .slice A1 128 k1] w1.drew fun e w' => e = .returned (.int .i64 R.2) ∧ ∃ F', Dk w' F' d N R.1 ∧ Adv F w1.drew F' w' by
    rw [HRC.out]
    exact write_dk d N 128 _ _ F s (sealL p) w1.drew (hd1.far ((Adv.refl Nul w1).drew) (fun _ x _ => x)) hs.drew.rd (fun j hj hf => by
      rcases a1.into j (hs.inF j hj) with h | h
      · exact h
      · have := HDK.out.bd j hf; omega) HQ.out)
  have HFR := Lib.hid (show ∀ (F' : Nat → Prop) (w' : World), Adv F w1.drew F' w' → w'.cell? ⟨l, 0, none⟩ = some (.pointer (some ⟨d, 0, none⟩)) ∧ w'.cell? ⟨z, 1, none⟩ = some (.int .u64 (c : Int)) from fun F' w' a => by
    have hb : ∀ j, j < w1.heap.size → ¬ F j → w'.heap[j]? = w1.heap[j]? := a.block
    exact ⟨(HL1.out.blk.keep (hb l HL1.out.blk.lt (fun x => HSEP.out l x (.inl rfl)))).cell 0, (((HZB.out.keep (a1.block z HZB.out.lt (fun x => x))).keep (hb z (Nat.lt_of_lt_of_le HZB.out.lt a1.size) HZF.out))).cell 1⟩)
  obtain ⟨RE, hRE⟩ : ∃ E, E = R.2 := ⟨_, rfl⟩
  rw [← hRE] at HWR
  have HRE := Lib.hid hRE
  obtain ⟨pl, hpl⟩ : ∃ x, x = 2 + c % n := ⟨_, rfl⟩
  rw [← hpl] at HPL HWR
  clear a1 a1' hs p1 hd1 he hRE hpl z0 z1 z2 z3 z4
  obtain ⟨c0, z1⟩ := HC.out
  go_wp2_with fail
  refine rstart (S := (fun w' => w'.cell? ⟨l, 0, none⟩ = some (.pointer (some ⟨d, 0, none⟩)) ∧ w'.cell? ⟨z, 1, none⟩ = some (.int .u64 (c : Int)))) (by first | with_reducible exact HC9.out | with_reducible exact HCD.out | with_reducible exact HC.out) (fun hH => ?_)
  refine tk (i := 0) (oi := ⟨some 15, .move (.tmp 0), 31, "ring.go:61", #[], none⟩) hH.out (by rintro w ⟨s0, s1⟩; go_simp <;> with_reducible rfl) ?_
  simp only [Act.put, sA, sB, sC]
  refine tk (i := 1) (oi := ⟨some 16, .nilCheck (.tmp 15), 0, "ring.go:61", #[⟨0, .data⟩], none⟩) hH.out (by rintro w ⟨s0, s1⟩; go_simp <;> with_reducible rfl) ?_
  simp only [Act.put, sA, sB, sC]
  refine tk (i := 2) (oi := ⟨some 17, .fieldAddr 74 (.tmp 16) 0, 0, "ring.go:61", #[⟨1, .data⟩], none⟩) hH.out (by rintro w ⟨s0, s1⟩; go_simp <;> with_reducible rfl) ?_
  simp only [Act.put, sA, sB, sC]
  refine tk (i := 3) (oi := ⟨some 18, .load 24 (.tmp 17), 24, "ring.go:61", #[⟨2, .data⟩], none⟩) hH.out (by rintro w ⟨s0, s1⟩; go_simp <;> with_reducible rfl) ?_
  simp only [Act.put, sA, sB, sC]
  refine tk (i := 4) (oi := ⟨some 19, .move (.tmp 0), 31, "ring.go:61", #[], none⟩) hH.out (by rintro w ⟨s0, s1⟩; go_simp <;> with_reducible rfl) ?_
  simp only [Act.put, sA, sB, sC]
  refine tk (i := 5) (oi := ⟨some 20, .fieldAddr 96 (.tmp 3) 1, 0, "ring.go:61", #[], none⟩) hH.out (by rintro w ⟨s0, s1⟩; go_simp <;> with_reducible rfl) ?_
  simp only [Act.put, sA, sB, sC]
  refine tk (i := 6) (oi := ⟨some 21, .load 49 (.tmp 20), 49, "ring.go:61", #[⟨5, .data⟩], none⟩) hH.out (by rintro w ⟨s0, s1⟩; go_simp <;> with_reducible rfl) ?_
  simp only [Act.put, sA, sB, sC]
  refine tk (i := 8) (oi := ⟨some 23, .move (.tmp 5), 53, "ring.go:61", #[], none⟩) hH.out (by rintro w ⟨s0, s1⟩; go_simp <;> with_reducible rfl) ?_
  simp only [Act.put, sA, sB, sC]
  refine rdy (i := 7) (oi := ⟨some 22, .call ⟨.value (.func 81), #[.tmp 19, .tmp 21], #[31, 49]⟩, 3, "ring.go:61", #[⟨4, .data⟩, ⟨6, .data⟩], none⟩) (fun K hK => ?_)
  go_simp
  refine HPL.out.mono ?_
  rintro x w2 ⟨rfl, rfl⟩
  go_wp2_with fail
  refine hK.out _ _ (by first | with_reducible exact HC9.out | with_reducible exact HCD.out | with_reducible exact HC.out) (fun hHeld => ?_)
  replace hH := Lib.hid hHeld
  clear hK K hHeld
  try simp only [Act.put, sA, sB, sC]
  refine rdy (i := 9) (oi := ⟨some 24, .call ⟨.value (.func 80), #[.tmp 18, .tmp 22, .tmp 23], #[24, 3, 53]⟩, 25, "ring.go:61", #[⟨3, .data⟩, ⟨7, .data⟩, ⟨8, .data⟩, ⟨7, .chain⟩], none⟩) (fun K hK => ?_)
  go_simp
  refine HWR.out.mono ?_
  rintro x w9 ⟨rfl, F9, k9, a9⟩
  have HC9 := Lib.hid (HFR.out F9 w9 a9)
  have HK9 := Lib.hid k9
  have HA9 := Lib.hid a9
  clear k9 a9
  go_wp2_with fail
  refine hK.out _ _ (by first | with_reducible exact HC9.out | with_reducible exact HCD.out | with_reducible exact HC.out) (fun hHeld => ?_)
  replace hH := Lib.hid hHeld
  clear hK K hHeld
  try simp only [Act.put, sA, sB, sC]
  refine tk (i := 10) (oi := ⟨some 4, .assign (.tmp 24), 25, "ring.go:61", #[⟨9, .data⟩, ⟨9, .chain⟩, ⟨0, .phase⟩, ⟨1, .phase⟩, ⟨2, .phase⟩, ⟨3, .phase⟩, ⟨4, .phase⟩, ⟨5, .phase⟩, ⟨6, .phase⟩, ⟨7, .phase⟩, ⟨8, .phase⟩, ⟨9, .phase⟩], none⟩) hH.out (by rintro w ⟨s0, s1⟩; go_simp <;> with_reducible rfl) ?_
  simp only [Act.put, sA, sB, sC]
  refine wpAnyH_done (by kernel_rfl) ?_ _
  go_wp2_with fail
  go_ret
  refine ⟨by rw [HRE.out]; rfl, F9, HK9.out, ?_⟩
  have := HA1.out
  exact ⟨HA9.out.os.trans this.os, HA9.out.tape.trans this.tape, HA9.out.output.trans this.output, Nat.le_trans this.size HA9.out.size, fun j hj hn => (HA9.out.block j (Nat.lt_of_lt_of_le hj this.size) hn).trans (this.block j hj (fun x => x)), fun j hj => (HA9.out.into j hj).imp id (fun h => Nat.le_trans this.size h)⟩
end Go.Proofs.YtbdjlmdbnoghnaaGreat
