/- The document's log: its memory; Free, Home, Sync. take, of the document's log. The document's next. -/
import Derived.Test.YtbdjlmdbnoghnaaGreatMh23
import Derived.Test.YtbdjlmdbnoghnaaGreatMh25
import Derived.Test.YtbdjlmdbnoghnaaGreatMh05
namespace Go.Proofs.YtbdjlmdbnoghnaaGreat
open Go.RowKit Go.Maps

def ycells (x n b M : Nat) (g : LS) : Array Value := #[.pointer (some ⟨x, 0, none⟩), .int .i64 (n : Int), .int .u64 (g.ep : Int), .int .u64 (g.h.g : Int), .int .u64 (g.h.t : Int), .int .u64 (g.next : Int), .slice (some ⟨b, 0, none⟩) M M, .int .i64 g.err]
/-- a home's cell: none, or a sector that no step on K turns -/
def HCell (w : World) (K : Nat → Prop) (o : Option (List Nat)) (v : Value) : Prop := match o with
  | none => v = .slice none 0 0
  | some l => l.length = 128 ∧ ∃ A q, v = .slice A 128 q ∧ Rd w 1 (.slice A 128 q) 128 (l.map u8) ∧ ∀ k, (Value.slice A 128 q).ownBlock = some k → ¬ K k
structure Yg (w : World) (y x b n M : Nat) (K : Nat → Prop) (g : LS) : Prop where
  blk : Blk w y 52 (ycells x n b M g)
  hb : ∃ C, Blk w b 53 C ∧ C.size = M
  at_ : ∀ i, i < M → ∃ v, w.cell? ⟨b, i, none⟩ = some v ∧ HCell w K (g.A i) v
  aok : AOk M g.A
section
variable {w w' : World} {y x b n M : Nat} {K K' F F' : Nat → Prop} {g g' : LS}
theorem HCell.adv {o : Option (List Nat)} {v : Value} (h : HCell w K o v) (ha : Adv F w F' w') (hF : ∀ k, F k → K k) (hK : ∀ k, K' k → K k ∨ w.heap.size ≤ k) : HCell w' K' o v := by
  cases o with
  | none => exact h
  | some l =>
    obtain ⟨hl, A, q, rfl, hr, hn⟩ := h
    refine ⟨hl, A, q, rfl, hr.far (fun k hk _ hlt => ha.block k hlt (fun f => hn k hk (hF k f))) ha.size, fun k hk f => ?_⟩
    rcases hK k f with h1 | h1
    · exact hn k hk h1
    · have := hr.lt hk (by omega); omega
theorem Yg.ne (h : Yg w y x b n M K g) : b ≠ y := by
  obtain ⟨C, hC, -⟩ := h.hb
  exact hC.ne_ h.blk (by decide)
theorem Yg.adv (h : Yg w y x b n M K g) (ha : Adv F w F' w') (hF : ∀ k, F k → K k) (hy : ¬ F y) (hb : ¬ F b) (hK : ∀ k, K' k → K k ∨ w.heap.size ≤ k) : Yg w' y x b n M K' g := by
  obtain ⟨C, hC, hs⟩ := h.hb
  have kb := ha.block b hC.lt hb
  refine ⟨h.blk.keep (ha.block y h.blk.lt hy), ⟨C, hC.keep kb, hs⟩, fun i hi => ?_, h.aok⟩
  obtain ⟨v, hv, hc⟩ := h.at_ i hi
  refine ⟨v, ?_, hc.adv ha hF hK⟩
  rw [(hC.keep kb).cell, ← hC.cell]
  exact hv
theorem Yg.frz (h : Yg w y x b n M K g) (i : Nat) : w.frozen? ⟨b, i, none⟩ = false := by
  obtain ⟨C, hC, -⟩ := h.hb
  exact hC.frozen i
theorem Yg.cells (h : Yg w y x b n M K g) : w.cell? ⟨y, 0, none⟩ = some (.pointer (some ⟨x, 0, none⟩)) ∧ w.cell? ⟨y, 1, none⟩ = some (.int .i64 (n : Int)) ∧ w.cell? ⟨y, 2, none⟩ = some (.int .u64 (g.ep : Int)) ∧ w.cell? ⟨y, 3, none⟩ = some (.int .u64 (g.h.g : Int)) ∧ w.cell? ⟨y, 4, none⟩ = some (.int .u64 (g.h.t : Int)) ∧ w.cell? ⟨y, 5, none⟩ = some (.int .u64 (g.next : Int)) ∧ w.cell? ⟨y, 6, none⟩ = some (.slice (some ⟨b, 0, none⟩) M M) ∧ w.cell? ⟨y, 7, none⟩ = some (.int .i64 g.err) :=
  ⟨h.blk.cell 0, h.blk.cell 1, h.blk.cell 2, h.blk.cell 3, h.blk.cell 4, h.blk.cell 5, h.blk.cell 6, h.blk.cell 7⟩
theorem HCell.setFar {o : Option (List Nat)} {v : Value} (h : HCell w K o v) {p : Addr} (hp : K p.block) (u : Value) : HCell (w.setCell p u) K o v :=
  h.adv (F := fun k => k = p.block) (F' := fun k => k = p.block) ((Adv.refl (fun k => k = p.block) w).setCell (p := p) (.inl rfl) u) (fun _ e => e ▸ hp) (fun _ x => .inl x)
/-- one of its numbers is set -/
theorem Yg.setc (h : Yg w y x b n M K g) (hy : K y) (i : Nat) (u : Value) (hA : g'.A = g.A) (hc : (ycells x n b M g).setIfInBounds i u = ycells x n b M g') : Yg (w.setCell ⟨y, i, none⟩ u) y x b n M K g' := by
  obtain ⟨C, hC, hs⟩ := h.hb
  have hC' := hC.far (p := ⟨y, i, none⟩) h.ne u
  refine ⟨hc ▸ h.blk.set_ i u, ⟨C, hC', hs⟩, fun j hj => ?_, by rw [hA]; exact h.aok⟩
  obtain ⟨v, hv, hcc⟩ := h.at_ j hj
  refine ⟨v, ?_, by rw [hA]; exact hcc.setFar (p := ⟨y, i, none⟩) hy u⟩
  rw [hC'.cell, ← hC.cell]
  exact hv
theorem Yg.setErr (h : Yg w y x b n M K g) (hy : K y) (E : Int) : Yg (w.setCell ⟨y, 7, none⟩ (.int .i64 E)) y x b n M K { g with err := E } := h.setc hy 7 _ rfl rfl
theorem Yg.setNext (h : Yg w y x b n M K g) (hy : K y) (m : Nat) : Yg (w.setCell ⟨y, 5, none⟩ (.int .u64 (m : Int))) y x b n M K { g with next := m } := h.setc hy 5 _ rfl rfl
theorem Yg.setGen (h : Yg w y x b n M K g) (hy : K y) (m : Nat) : Yg (w.setCell ⟨y, 3, none⟩ (.int .u64 (m : Int))) y x b n M K { g with h := ⟨m, g.h.t, g.h.f⟩ } := h.setc hy 3 _ rfl rfl
theorem Yg.setTail (h : Yg w y x b n M K g) (hy : K y) (m : Nat) : Yg (w.setCell ⟨y, 4, none⟩ (.int .u64 (m : Int))) y x b n M K { g with h := ⟨g.h.g, m, g.h.f⟩ } := h.setc hy 4 _ rfl rfl
/-- the floor is nobody's -/
theorem Yg.floor (h : Yg w y x b n M K g) (f : Nat) : Yg w y x b n M K { g with h := ⟨g.h.g, g.h.t, f⟩ } := ⟨h.blk, h.hb, h.at_, h.aok⟩
/-- a home is set -/
theorem Yg.put (h : Yg w y x b n M K g) (hb : K b) {i : Nat} (hi : i < M) {l : List Nat} (hl : l.length = 128) (h8 : ∀ z ∈ l, z < 256) {A : Option Addr} {q : Nat} (hr : Rd w 1 (.slice A 128 q) 128 (l.map u8)) (hn : ∀ k, (Value.slice A 128 q).ownBlock = some k → ¬ K k) : Yg (w.setCell ⟨b, i, none⟩ (.slice A 128 q)) y x b n M K { g with A := setA g.A i l } := by
  obtain ⟨C, hC, hs⟩ := h.hb
  have hC' := hC.set_ i (.slice A 128 q)
  refine ⟨h.blk.far (p := ⟨b, i, none⟩) (fun e => h.ne e.symm) _, ⟨_, hC', by rw [Array.size_setIfInBounds]; exact hs⟩, fun j hj => ?_, h.aok.set hi hl h8⟩
  obtain ⟨v, hv, hcc⟩ := h.at_ j hj
  by_cases hji : j = i
  · subst hji
    refine ⟨.slice A 128 q, ?_, ?_⟩
    · rw [hC'.cell, Array.getElem?_setIfInBounds, if_pos rfl, if_pos (by rw [hs]; exact hi)]
    · have e : setA g.A j l j = some l := if_pos rfl
      show HCell _ K (setA g.A j l j) _
      rw [e]
      exact HCell.setFar (o := some l) ⟨hl, A, q, rfl, hr, hn⟩ (p := ⟨b, j, none⟩) hb _
  · refine ⟨v, ?_, ?_⟩
    · rw [hC'.cell, Array.getElem?_setIfInBounds, if_neg (fun e => hji e.symm), ← hC.cell]
      exact hv
    · have e : setA g.A i l j = g.A j := if_neg hji
      show HCell _ K (setA g.A i l j) _
      rw [e]
      exact hcc.setFar (p := ⟨b, i, none⟩) hb _
end
def YF (G : Nat → Prop) (y b : Nat) : Nat → Prop := fun k => G k ∨ LF y b k
/-- the blocks that no home lies in: the log's, its disk's, and others' (Z) -/
def YK (Z G : Nat → Prop) (y b : Nat) : Nat → Prop := fun k => YF G y b k ∨ Z k
/-- The document's log and its disk. -/
structure Ys (Z : Nat → Prop) (w : World) (G : Nat → Prop) (x y b n N : Nat) (s : DS) (g : LS) : Prop where
  dk : Rk w G x N s
  lg : Yg w y x b n (N - 2 - n) (YK Z G y b) g
  sep : Sep G (LF y b)
  zb : Bd Z w
section
variable {w w' : World} {Z Z' G G' F F' : Nat → Prop} {x y b n N : Nat} {s s' : DS} {g g' : LS}
theorem YF.iny : YF G y b y := .inr (.inl rfl)
theorem YF.inb : YF G y b b := .inr (.inr rfl)
theorem YK.iny : YK Z G y b y := .inl YF.iny
theorem YK.inb : YK Z G y b b := .inl YF.inb
theorem Yg.bd {M : Nat} {K : Nat → Prop} (h : Yg w y x b n M K g) : Bd (LF y b) w := by
  obtain ⟨C, hC, -⟩ := h.hb
  rintro k (rfl | rfl)
  · exact h.blk.lt
  · exact hC.lt
theorem Ys.bd (h : Ys Z w G x y b n N s g) : Bd (YF G y b) w := fun k => fun
  | .inl f => h.dk.bd k f
  | .inr f => h.lg.bd k f
theorem Ys.bdk (h : Ys Z w G x y b n N s g) : Bd (YK Z G y b) w := fun k => fun
  | .inl f => h.bd k f
  | .inr f => h.zb k f
theorem Ys.over (h : Ys Z w G x y b n N s g) (ha : Adv Nul w F' w') : Ys Z w' G x y b n N s g :=
  ⟨h.dk.far ha (fun _ e _ => e), h.lg.adv ha (fun _ e => e.elim) (fun e => e) (fun e => e) (fun _ e => .inl e), h.sep, fun k e => Nat.lt_of_lt_of_le (h.zb k e) ha.size⟩
theorem Ys.disk (h : Ys Z w G x y b n N s g) (ha : Adv G w G' w') (k : Rk w' G' x N s') : Ys Z w' G' x y b n N s' g := by
  refine ⟨k, h.lg.adv ha (fun _ e => .inl (.inl e)) (fun e => h.sep y e (.inl rfl)) (fun e => h.sep b e (.inr rfl)) ?_, ?_, fun k e => Nat.lt_of_lt_of_le (h.zb k e) ha.size⟩
  · rintro j ((e | e) | e)
    · exact (ha.into j e).imp (fun x => .inl (.inl x)) id
    · exact .inl (.inl (.inr e))
    · exact .inl (.inr e)
  · intro j e f
    rcases ha.into j e with e | e
    · exact h.sep j e f
    · have := h.lg.bd j f; omega
theorem Ys.log (h : Ys Z w G x y b n N s g) (ha : Adv (LF y b) w (LF y b) w') (k : Yg w' y x b n (N - 2 - n) (YK Z G y b) g') : Ys Z w' G x y b n N s g' :=
  ⟨h.dk.far ha (fun j e f => h.sep j f e), k, h.sep, fun k e => Nat.lt_of_lt_of_le (h.zb k e) ha.size⟩
/-- the others go on -/
theorem Ys.other (h : Ys Z w G x y b n N s g) (ha : Adv Z w Z' w') (hs : Sep Z (YF G y b)) (hb : Bd Z' w') : Ys Z' w' G x y b n N s g := by
  refine ⟨h.dk.far ha (fun j e f => hs j e (.inl f)), h.lg.adv ha (fun _ e => .inr e) (fun e => hs y e YF.iny) (fun e => hs b e YF.inb) ?_, h.sep, hb⟩
  rintro j (e | e)
  · exact .inl (.inl e)
  · exact (ha.into j e).imp .inr id
theorem yadv_disk (ha : Adv G w G' w') : Adv (YF G y b) w (YF G' y b) w' :=
  ⟨ha.os, ha.tape, ha.output, ha.size, fun k hk hn => ha.block k hk (fun e => hn (.inl e)), fun k => fun
    | .inl e => (ha.into k e).imp .inl id
    | .inr e => .inl (.inr e)⟩
theorem yadv_log (ha : Adv (LF y b) w (LF y b) w') : Adv (YF G y b) w (YF G y b) w' :=
  ⟨ha.os, ha.tape, ha.output, ha.size, fun k hk hn => ha.block k hk (fun e => hn (.inr e)), fun _ e => .inl e⟩
theorem yadv_nul (ha : Adv Nul w F' w') : Adv (YF G y b) w (YF G y b) w' :=
  ⟨ha.os, ha.tape, ha.output, ha.size, fun k hk _ => ha.block k hk (fun e => e), fun _ e => .inl e⟩
end

set_option maxRecDepth 3000 in
theorem yfree_lg {w : World} {y x b n M : Nat} {K : Nat → Prop} {g : LS} (h : Yg w y x b n M K g) (hn : n ≤ 100000) (h1 : g.h.t ≤ g.next) (h2 : g.next - g.h.t ≤ n) : Calls Tryz.prog 22 #[.pointer (some ⟨y, 0, none⟩)] w fun e w' => e = .returned (.int .i64 ((n - (g.next - g.h.t) : Nat) : Int)) ∧ ∃ k, w' = w.drewN k := by
  obtain ⟨-, c1, -, -, c3, c5, -⟩ := h.cells
  obtain ⟨u, hu⟩ : ∃ u, u = g.next - g.h.t := ⟨_, rfl⟩
  have e : ((n - (g.next - g.h.t) : Nat) : Int) = (n : Int) - (u : Int) := by omega
  have e2 : (g.next : Int) - (g.h.t : Int) = (u : Int) := by omega
  have h3 : IntKind.u64.wrap ((g.next : Int) - (g.h.t : Int)) = (u : Int) := by rw [e2]; exact wrapU (by omega)
  have h4 : IntKind.i64.wrap (u : Int) = (u : Int) := by rw [IntKind.wrap_i64]; omega
  have h5 : IntKind.i64.wrap ((n : Int) - (u : Int)) = (n : Int) - (u : Int) := by rw [IntKind.wrap_i64]; omega
  rw [e]
  clear h e hn h1 h2 hu e2
  go_enter Tryz.func22, Tryz.ntmps22
  go_wp2_with fail
  go_quiet (fail)
  go_wp2
  go_ret
  exact ⟨rfl, _, rfl⟩

def HomeR (w : World) (X : List Nat) (e : Ending) (w' : World) : Prop := ∃ A q, e = .returned (.slice A 128 q) ∧ Rd w' 1 (.slice A 128 q) 128 (X.map u8) ∧ X.length = 128 ∧ Adv Nul w Nul w'
set_option maxRecDepth 3000 in
set_option maxHeartbeats 1600000 in
theorem yhome_lg {Z : Nat → Prop} (x y b n N i : Nat) (g : LS) (G : Nat → Prop) (s : DS) (w : World) (h : Ys Z w G x y b n N s g) (hn : 2 ≤ n ∧ n + 3 ≤ N ∧ N ≤ 4096) (hq : s.Q.length ≤ 1000000) (hi : i < N - 2 - n) :
    Calls Tryz.prog 27 #[.pointer (some ⟨y, 0, none⟩), .int .i64 (i : Int)] w (HomeR w (homeG s n g i)) := by
  obtain ⟨c0, c1, -, -, -, -, c6, -⟩ := h.lg.cells
  obtain ⟨v, hv, hc⟩ := h.lg.at_ i hi
  obtain ⟨M, hM⟩ : ∃ M, M = N - 2 - n := ⟨_, rfl⟩
  rw [← hM] at c6 hi
  obtain ⟨X, hX⟩ : ∃ X, X = homeG s n g i := ⟨_, rfl⟩
  rw [← hX]
  have hiM : (i : Int) < (M : Int) := by omega
  have hm : (M : Int) ≤ 4096 := by omega
  cases hA : g.A i with
  | none =>
    rw [hA] at hc
    have hc' : v = .slice none 0 0 := hc
    subst hc'
    have e : X = isS s (2 + n + i) := by rw [hX, homeG, hA]; rfl
    have HIS := Lib.hid (show ∀ k, Calls Tryz.prog 25 #[.pointer (some ⟨x, 0, none⟩), .int .i64 ((2 : Int) + n + i)] (w.drewN k) fun e w' => ∃ v, e = .returned v ∧ Sl (w.drewN k) G 5 1 v 128 ((isS s (2 + n + i)).map u8) ∧ (w.drewN k) = w' from fun k => by
      have := ris_r x N (2 + n + i) G s (w.drewN k) (h.dk.drewN k) (by omega) hq
      rw [show ((2 + n + i : Nat) : Int) = (2 : Int) + n + i by omega] at this
      exact this)
    have HX := Lib.hid e
    have hnI : (n : Int) ≤ 4096 := by omega
    clear h hn hq hM hX hA hc e hi
    have HC := Lib.hid (show w.drew.cell? ⟨y, 0, none⟩ = some (.pointer (some ⟨x, 0, none⟩)) ∧ w.drew.cell? ⟨y, 1, none⟩ = some (.int .i64 (n : Int)) from ⟨c0, c1⟩)
    have HC1 := Lib.hid (show (w.drewN 1).cell? ⟨y, 0, none⟩ = some (.pointer (some ⟨x, 0, none⟩)) ∧ (w.drewN 1).cell? ⟨y, 1, none⟩ = some (.int .i64 (n : Int)) from ⟨c0, c1⟩)
    have HC0 := Lib.hid (show w.cell? ⟨y, 0, none⟩ = some (.pointer (some ⟨x, 0, none⟩)) ∧ w.cell? ⟨y, 1, none⟩ = some (.int .i64 (n : Int)) from ⟨c0, c1⟩)
    have HIS1 := Lib.hid (HIS.out 1)
    obtain ⟨P, hP⟩ : ∃ P : Int, P = (2 : Int) + n + i := ⟨_, rfl⟩
    rw [← hP] at HIS1
    have w1 : IntKind.i64.wrap ((2 : Int) + n) = (2 : Int) + n := by rw [IntKind.wrap_i64]; omega
    have w2 : IntKind.i64.wrap ((2 : Int) + n + i) = P := by rw [IntKind.wrap_i64]; omega
    obtain ⟨Y, hY⟩ : ∃ Y, Y = isS s (2 + n + i) := ⟨_, rfl⟩
    rw [← hY] at HIS1 HX
    have HY := Lib.hid hY
    clear hY hP
    go_enter Tryz.func27, Tryz.ntmps27
    go_wp2_with fail
    refine rstart (S := (fun w' => w'.cell? ⟨y, 0, none⟩ = some (.pointer (some ⟨x, 0, none⟩)) ∧ w'.cell? ⟨y, 1, none⟩ = some (.int .i64 (n : Int)))) (by first | with_reducible exact HC1.out | with_reducible exact HC.out | with_reducible exact HC0.out) (fun hH => ?_)
    refine tk (i := 0) (oi := ⟨some 21, .move (.tmp 0), 34, "ref.go:144", #[], none⟩) hH.out (by rintro w ⟨s0, s1⟩; go_simp <;> with_reducible rfl) ?_
    simp only [Act.put, sA, sB, sC]
    refine tk (i := 1) (oi := ⟨some 22, .nilCheck (.tmp 21), 0, "ref.go:144", #[⟨0, .data⟩], none⟩) hH.out (by rintro w ⟨s0, s1⟩; go_simp <;> with_reducible rfl) ?_
    simp only [Act.put, sA, sB, sC]
    refine tk (i := 2) (oi := ⟨some 23, .fieldAddr 52 (.tmp 22) 0, 0, "ref.go:144", #[⟨1, .data⟩], none⟩) hH.out (by rintro w ⟨s0, s1⟩; go_simp <;> with_reducible rfl) ?_
    simp only [Act.put, sA, sB, sC]
    refine tk (i := 3) (oi := ⟨some 24, .load 28 (.tmp 23), 28, "ref.go:144", #[⟨2, .data⟩], none⟩) hH.out (by rintro w ⟨s0, s1⟩; go_simp <;> with_reducible rfl) ?_
    simp only [Act.put, sA, sB, sC]
    refine tk (i := 4) (oi := ⟨some 25, .move (.tmp 0), 34, "ref.go:144", #[], none⟩) hH.out (by rintro w ⟨s0, s1⟩; go_simp <;> with_reducible rfl) ?_
    simp only [Act.put, sA, sB, sC]
    refine tk (i := 5) (oi := ⟨some 26, .nilCheck (.tmp 25), 0, "ref.go:144", #[⟨4, .data⟩], none⟩) hH.out (by rintro w ⟨s0, s1⟩; go_simp <;> with_reducible rfl) ?_
    simp only [Act.put, sA, sB, sC]
    refine tk (i := 6) (oi := ⟨some 27, .fieldAddr 52 (.tmp 26) 1, 0, "ref.go:144", #[⟨5, .data⟩], none⟩) hH.out (by rintro w ⟨s0, s1⟩; go_simp <;> with_reducible rfl) ?_
    simp only [Act.put, sA, sB, sC]
    refine tk (i := 7) (oi := ⟨some 28, .load 3 (.tmp 27), 3, "ref.go:144", #[⟨6, .data⟩], none⟩) hH.out (by rintro w ⟨s0, s1⟩; go_simp <;> with_reducible rfl) ?_
    simp only [Act.put, sA, sB, sC]
    refine tk (i := 8) (oi := ⟨some 29, .binOp .add 3 (.const (Go.Value.int Go.IntKind.i64 2)) (.tmp 28) 3, 3, "ref.go:144", #[⟨7, .data⟩], none⟩) hH.out (by rintro w ⟨s0, s1⟩; go_simp <;> with_reducible rfl) ?_
    simp only [Act.put, sA, sB, sC]
    refine tk (i := 9) (oi := ⟨some 30, .move (.tmp 1), 3, "ref.go:144", #[], none⟩) hH.out (by rintro w ⟨s0, s1⟩; go_simp <;> with_reducible rfl) ?_
    simp only [Act.put, sA, sB, sC]
    refine tk (i := 10) (oi := ⟨some 31, .binOp .add 3 (.tmp 29) (.tmp 30) 3, 3, "ref.go:144", #[⟨8, .data⟩, ⟨9, .data⟩], none⟩) hH.out (by rintro w ⟨s0, s1⟩; go_simp <;> with_reducible rfl) ?_
    simp only [Act.put, sA, sB, sC]
    refine rdy (i := 11) (oi := ⟨some 32, .call ⟨.value (.func 25), #[.tmp 24, .tmp 31], #[28, 3]⟩, 53, "ref.go:144", #[⟨3, .data⟩, ⟨10, .data⟩], none⟩) (fun K hK => ?_)
    go_simp
    refine HIS1.out.mono ?_
    rintro e w9 ⟨v, rfl, hs, rfl⟩
    have HS9 := Lib.hid hs
    clear hs
    go_wp2_with fail
    refine hK.out _ _ (by first | with_reducible exact HC1.out | with_reducible exact HC.out | with_reducible exact HC0.out) (fun hHeld => ?_)
    replace hH := Lib.hid hHeld
    clear hK K hHeld
    try simp only [Act.put, sA, sB, sC]
    refine tk (i := 12) (oi := ⟨some 4, .assign (.tmp 32), 53, "ref.go:144", #[⟨11, .data⟩, ⟨11, .chain⟩, ⟨0, .phase⟩, ⟨1, .phase⟩, ⟨2, .phase⟩, ⟨3, .phase⟩, ⟨4, .phase⟩, ⟨5, .phase⟩, ⟨6, .phase⟩, ⟨7, .phase⟩, ⟨8, .phase⟩, ⟨9, .phase⟩, ⟨10, .phase⟩, ⟨11, .phase⟩], none⟩) hH.out (by rintro w ⟨s0, s1⟩; go_simp <;> with_reducible rfl) ?_
    simp only [Act.put, sA, sB, sC]
    refine wpAnyH_done (by kernel_rfl) ?_ _
    go_wp2_with fail
    go_ret
    obtain ⟨A, q, rfl, -, -⟩ := HS9.out.form0
    have hl := HS9.out.own.1
    rw [HX.out]
    exact ⟨A, q, rfl, HS9.out.rd, by simpa using hl, (Adv.refl _ _).drewN _⟩
  | some l =>
    rw [hA] at hc
    obtain ⟨hl, A, q, rfl, hr, -⟩ := hc
    have e : X = l := by rw [hX, homeG, hA]; rfl
    rw [e]
    clear h hn hq hM hX hA e
    go_enter Tryz.func27, Tryz.ntmps27
    go_wp2_with fail
    go_ret
    exact ⟨A, q, rfl, hr, hl, Adv.refl _ _⟩
end Go.Proofs.YtbdjlmdbnoghnaaGreat
namespace Go.Proofs.YtbdjlmdbnoghnaaGreat
open Go.RowKit Go.Maps

def YtL (w : World) (y x b n M : Nat) (K : Nat → Prop) (g : LS) (ps : List Pt) (t : Value) (wr : World) : Prop := ∃ k : Nat, k ≤ ps.length ∧ t = .int .i64 (k : Int) ∧ Yg wr y x b n M K { g with A := putA g.A (ps.take k) } ∧ Adv (LF y b) w (LF y b) wr
def TkC (w : World) (y b M b1 o : Nat) (x : Nat) (A : Option Addr) (q : Nat) : Prop := w.cell? ⟨y, 6, none⟩ = some (.slice (some ⟨b, 0, none⟩) M M) ∧ w.cell? ⟨b1, o, none⟩ = some (.int .i64 (x : Int)) ∧ w.cell? ⟨b1, o + 1, none⟩ = some (.slice A 128 q)

set_option maxRecDepth 3000 in
set_option maxHeartbeats 6400000 in
theorem ytake_lg (y x b n M : Nat) (K : Nat → Prop) (g : LS) (A0 : Option Addr) (N0 k0 : Nat) (ps : List Pt) (w : World) (h : Yg w y x b n M K g) (hK : Bd K w) (hy : K y) (hb : K b) (hq : QRd w K (.slice A0 N0 k0) ps) (ht : isTx ps (M : Int)) (h8 : ∀ p ∈ ps, ∀ z ∈ p.d, z < 256) (hM : M ≤ 4096) :
    Calls Tryz.prog 38 #[.pointer (some ⟨y, 0, none⟩), .slice A0 N0 k0] w fun e w' => e = .returned (.tuple #[]) ∧ Yg w' y x b n M K { g with A := putA g.A ps } ∧ Adv (LF y b) w (LF y b) w' := by
  obtain ⟨hm, -, -⟩ := hq.len
  have HM := Lib.hid hm
  have hM24 : N0 ≤ 24 := by rw [hm]; exact ht.1.2
  have hmi : (N0 : Int) ≤ 24 := by omega
  have HT := Lib.hid ht
  have HQ := Lib.hid hq
  have HL := Lib.hid h
  have H8 := Lib.hid h8
  have HMM := Lib.hid hM
  have HK := Lib.hid hK
  have HYK := Lib.hid hy
  have HBK := Lib.hid hb
  clear h hq ht hm hM24 h8 hM hK hy hb
  go_enter Tryz.func38, Tryz.ntmps38
  go_wp2_with fail
  go_loopw [4] (YtL w y x b n M K g ps) (fun t _ => N0 - (intOf t).toNat)
  case atStart => exact ⟨0, Nat.zero_le _, rfl, HL.out, Adv.refl _ _⟩
  case round =>
    obtain ⟨k, hk, rfl, hl, ha⟩ := hrel
    by_cases hlt : k < N0
    · have hki : (k : Int) < (N0 : Int) := by omega
      have hkp : k < ps.length := by rw [← HM.out]; exact hlt
      obtain ⟨b1, o, a, q, rfl, hb1, ⟨c0, c1⟩, hr, hsep⟩ := (HQ.out.adv ha (fun j x => x.elim (fun e => e ▸ HYK.out) (fun e => e ▸ HBK.out)) (fun _ x => .inl x)).row hkp
      have hrow := HT.out.row _ (List.getElem_mem hkp)
      have h8r := H8.out _ (List.getElem_mem hkp)
      have hnx := putA_next g.A ps hkp
      obtain ⟨p, hp⟩ : ∃ p, p = ps[k] := ⟨_, rfl⟩
      rw [← hp] at c0 c1 hr hsep hrow hnx h8r
      clear hp
      obtain ⟨pa, pd⟩ := p
      simp only at c0 c1 hr hsep hrow hnx h8r
      obtain ⟨⟨hr0, hr1⟩, hdl⟩ := hrow
      obtain ⟨xa, rfl⟩ := Int.eq_ofNat_of_zero_le hr0
      rw [hdl] at c1 hr hsep
      have hnx' : putA g.A (ps.take (k + 1)) = setA (putA g.A (ps.take k)) xa pd := hnx
      obtain ⟨A', hA'⟩ : ∃ A', A' = putA g.A (ps.take k) := ⟨_, rfl⟩
      rw [← hA'] at hl hnx'
      have hxM : xa < M := by omega
      have hKr : Bd K wr := ha.bd HK.out
      have HL1 := Lib.hid hl
      have HA1 := Lib.hid ha
      have HKR := Lib.hid hKr
      have HC0 := Lib.hid (show TkC wr y b M b1 (o + k * 2) xa a q from ⟨hl.cells.2.2.2.2.2.2.1, c0, c1⟩)
      have HC := Lib.hid (show TkC wr.drew y b M b1 (o + k * 2) xa a q from HC0.out)
      have HCP := Lib.hid (copy_any (.slice a 128 q) 128 pd wr.drew hr (by decide))
      have HFR := Lib.hid (show ∀ (F' : Nat → Prop) (w' : World), Adv Nul wr.drew F' w' → TkC w' y b M b1 (o + k * 2) xa a q ∧ Yg w' y x b n M K { g with A := A' } from fun F' w' a' => by
        have hY := hl.adv (K' := K) (F := Nul) (show Adv Nul wr F' w' from a'.of_drew) (fun _ e => e.elim) (fun e => e) (fun e => e) (fun _ e => .inl e)
        have hbk : ∀ (j : Nat), w'.cell? ⟨b1, j, none⟩ = wr.cell? ⟨b1, j, none⟩ := fun j => World.cell?_of_block (a'.of_drew.block b1 hb1.1 (fun e => e))
        exact ⟨⟨hY.cells.2.2.2.2.2.2.1, by rw [hbk]; exact c0, by rw [hbk]; exact c1⟩, hY⟩)
      have HNB := Lib.hid (show ∀ (w' : World), TkC w' y b M b1 (o + k * 2) xa a q → Yg w' y x b n M K { g with A := A' } → ∀ u, TkC (w'.setCell ⟨b, xa, none⟩ u) y b M b1 (o + k * 2) xa a q from fun w' hc hY u => by
        have hne : b1 ≠ b := fun e => hb1.2 (e ▸ HBK.out)
        have e1 : ∀ (j : Nat), (w'.setCell ⟨b, xa, none⟩ u).cell? ⟨b1, j, none⟩ = w'.cell? ⟨b1, j, none⟩ := fun j => World.cell?_of_block (heap_setCell_other w' _ b1 _ hne)
        have e2 : ∀ (j : Nat), (w'.setCell ⟨b, xa, none⟩ u).cell? ⟨y, j, none⟩ = w'.cell? ⟨y, j, none⟩ := fun j => World.cell?_of_block (heap_setCell_other w' _ y _ (fun e => hY.ne e.symm))
        exact ⟨by rw [e2]; exact hc.1, by rw [e1]; exact hc.2.1, by rw [e1]; exact hc.2.2⟩)
      have hxi : (xa : Int) < (M : Int) := by omega
      have hMi : (M : Int) ≤ 4096 := by have := HMM.out; omega
      have HDL := Lib.hid hdl
      have HX := Lib.hid hxM
      have HNX := Lib.hid hnx'
      have HLT := Lib.hid hlt
      have HKP := Lib.hid hkp
      have H8R := Lib.hid h8r
      clear hlt hr hr0 hr1 hdl hnx hnx' hA' hsep hb1 hl ha hkp hk h8r hxM hKr c0 c1
      go_upto_region 3 with (fail)
      obtain ⟨c6, z0, z1⟩ := HC0.out
      refine rstart (S := (fun w' => TkC w' y b M b1 (o + k * 2) xa a q)) (by first | with_reducible exact HC9.out | with_reducible exact HC8.out | with_reducible exact HC.out | with_reducible exact HC0.out) (fun hH => ?_)
      refine tk (i := 0) (oi := ⟨some 11, .move (.tmp 0), 34, "ref.go:135", #[], none⟩) hH.out (by rintro w ⟨s0, s1, s2⟩; go_simp <;> with_reducible rfl) ?_
      simp only [Act.put, sA, sB, sC]
      refine tk (i := 1) (oi := ⟨some 12, .nilCheck (.tmp 11), 0, "ref.go:135", #[⟨0, .data⟩], none⟩) hH.out (by rintro w ⟨s0, s1, s2⟩; go_simp <;> with_reducible rfl) ?_
      simp only [Act.put, sA, sB, sC]
      refine tk (i := 2) (oi := ⟨some 13, .fieldAddr 52 (.tmp 12) 6, 0, "ref.go:135", #[⟨1, .data⟩], none⟩) hH.out (by rintro w ⟨s0, s1, s2⟩; go_simp <;> with_reducible rfl) ?_
      simp only [Act.put, sA, sB, sC]
      refine tk (i := 3) (oi := ⟨some 14, .load 50 (.tmp 13), 50, "ref.go:135", #[⟨2, .data⟩], none⟩) hH.out (by rintro w ⟨s0, s1, s2⟩; go_simp <;> with_reducible rfl) ?_
      simp only [Act.put, sA, sB, sC]
      refine tk (i := 4) (oi := ⟨some 15, .move (.tmp 1), 37, "ref.go:135", #[], none⟩) hH.out (by rintro w ⟨s0, s1, s2⟩; go_simp <;> with_reducible rfl) ?_
      simp only [Act.put, sA, sB, sC]
      refine tk (i := 5) (oi := ⟨some 16, .move (.tmp 4), 3, "ref.go:135", #[], none⟩) hH.out (by rintro w ⟨s0, s1, s2⟩; go_simp <;> with_reducible rfl) ?_
      simp only [Act.put, sA, sB, sC]
      refine tk (i := 6) (oi := ⟨some 17, .indexAddr 37 (.tmp 15) (.tmp 16), 0, "ref.go:135", #[⟨4, .data⟩, ⟨5, .data⟩], none⟩) hH.out (by rintro w ⟨s0, s1, s2⟩; go_simp <;> with_reducible rfl) ?_
      simp only [Act.put, sA, sB, sC]
      refine tk (i := 7) (oi := ⟨some 18, .fieldAddr 90 (.tmp 17) 0, 0, "ref.go:135", #[⟨6, .data⟩], none⟩) hH.out (by rintro w ⟨s0, s1, s2⟩; go_simp <;> with_reducible rfl) ?_
      simp only [Act.put, sA, sB, sC]
      refine tk (i := 8) (oi := ⟨some 19, .load 3 (.tmp 18), 3, "ref.go:135", #[⟨7, .data⟩], none⟩) hH.out (by rintro w ⟨s0, s1, s2⟩; go_simp <;> with_reducible rfl) ?_
      simp only [Act.put, sA, sB, sC]
      refine tk (i := 9) (oi := ⟨some 20, .move (.tmp 1), 37, "ref.go:135", #[], none⟩) hH.out (by rintro w ⟨s0, s1, s2⟩; go_simp <;> with_reducible rfl) ?_
      simp only [Act.put, sA, sB, sC]
      refine tk (i := 10) (oi := ⟨some 21, .move (.tmp 4), 3, "ref.go:135", #[], none⟩) hH.out (by rintro w ⟨s0, s1, s2⟩; go_simp <;> with_reducible rfl) ?_
      simp only [Act.put, sA, sB, sC]
      refine tk (i := 11) (oi := ⟨some 22, .indexAddr 37 (.tmp 20) (.tmp 21), 0, "ref.go:135", #[⟨9, .data⟩, ⟨10, .data⟩], none⟩) hH.out (by rintro w ⟨s0, s1, s2⟩; go_simp <;> with_reducible rfl) ?_
      simp only [Act.put, sA, sB, sC]
      refine tk (i := 12) (oi := ⟨some 23, .fieldAddr 90 (.tmp 22) 1, 0, "ref.go:135", #[⟨11, .data⟩], none⟩) hH.out (by rintro w ⟨s0, s1, s2⟩; go_simp <;> with_reducible rfl) ?_
      simp only [Act.put, sA, sB, sC]
      refine tk (i := 13) (oi := ⟨some 24, .load 53 (.tmp 23), 53, "ref.go:135", #[⟨12, .data⟩], none⟩) hH.out (by rintro w ⟨s0, s1, s2⟩; go_simp <;> with_reducible rfl) ?_
      simp only [Act.put, sA, sB, sC]
      refine rdy (i := 14) (oi := ⟨some 25, .call ⟨.value (.func 40), #[.tmp 24], #[53]⟩, 53, "ref.go:135", #[⟨13, .data⟩], none⟩) (fun K hK => ?_)
      go_simp
      refine HCP.out.mono ?_
      rintro e w8 ⟨v8, F8, rfl, hs8, a8⟩
      obtain ⟨hc8, hy8⟩ := HFR.out F8 w8 a8
      have HC8 := Lib.hid hc8
      have HY8 := Lib.hid hy8
      have HS8 := Lib.hid hs8
      have HA8 := Lib.hid (HA1.out.drew.over a8)
      obtain ⟨A8, q8, rfl, -, -⟩ := hs8.form0
      obtain ⟨uo, ho, -⟩ := hy8.at_ xa HX.out
      have hf : w8.frozen? ⟨b, xa, none⟩ = false := hy8.frz xa
      have HY9 := Lib.hid (hy8.put HBK.out HX.out HDL.out H8R.out hs8.rd (fun j hj e => (a8.into j (hs8.inF j hj)).elim (fun f => f) (fun f => by have := HKR.out j e; have : wr.drew.heap.size = wr.heap.size := rfl; omega)))
      have HC9 := Lib.hid (show TkC (w8.setCell ⟨b, xa, none⟩ (.slice A8 128 q8)) y b M b1 (o + k * 2) xa a q from HNB.out w8 hc8 hy8 _)
      obtain ⟨c6, z0, z1⟩ := hc8
      clear hy8 hs8 a8
      go_wp2_with fail
      refine hK.out _ _ (by first | with_reducible exact HC9.out | with_reducible exact HC8.out | with_reducible exact HC.out | with_reducible exact HC0.out) (fun hHeld => ?_)
      replace hH := Lib.hid hHeld
      clear hK K hHeld
      try simp only [Act.put, sA, sB, sC]
      refine tk (i := 15) (oi := ⟨some 26, .indexAddr 50 (.tmp 14) (.tmp 19), 0, "ref.go:135", #[⟨3, .data⟩, ⟨8, .data⟩, ⟨0, .phase⟩, ⟨1, .phase⟩, ⟨2, .phase⟩, ⟨3, .phase⟩, ⟨4, .phase⟩, ⟨5, .phase⟩, ⟨6, .phase⟩, ⟨7, .phase⟩, ⟨8, .phase⟩, ⟨9, .phase⟩, ⟨10, .phase⟩, ⟨11, .phase⟩, ⟨12, .phase⟩, ⟨13, .phase⟩, ⟨14, .phase⟩], none⟩) hH.out (by rintro w ⟨s0, s1, s2⟩; go_simp <;> with_reducible rfl) ?_
      simp only [Act.put, sA, sB, sC]
      refine rdy (i := 16) (oi := ⟨none, .store 53 (.tmp 26) (.tmp 25), 0, "ref.go:135", #[⟨15, .data⟩, ⟨14, .data⟩, ⟨14, .chain⟩, ⟨0, .phase⟩, ⟨1, .phase⟩, ⟨2, .phase⟩, ⟨3, .phase⟩, ⟨4, .phase⟩, ⟨5, .phase⟩, ⟨6, .phase⟩, ⟨7, .phase⟩, ⟨8, .phase⟩, ⟨9, .phase⟩, ⟨10, .phase⟩, ⟨11, .phase⟩, ⟨12, .phase⟩, ⟨13, .phase⟩, ⟨14, .phase⟩], none⟩) (fun K hK => ?_)
      go_simp
      refine hK.out _ _ (by first | with_reducible exact HC9.out | with_reducible exact HC8.out | with_reducible exact HC.out | with_reducible exact HC0.out) (fun hHeld => ?_)
      replace hH := Lib.hid hHeld
      clear hK K hHeld
      try simp only [Act.put]
      refine wpAnyH_done (by kernel_rfl) ?_ _
      go_wp2_with fail
      have hlt := HLT.out
      have hkp := HKP.out
      exact ⟨⟨k + 1, by omega, by go_num, by rw [HNX.out]; exact HY9.out, HA8.out.setCell (.inl (.inr rfl)) _⟩, by simp [intOf] <;> omega⟩
    · obtain rfl : k = N0 := by have := HM.out; omega
      have e1 : ps.take k = ps := by rw [HM.out, List.take_length]
      rw [e1] at hl
      have HL1 := Lib.hid hl
      have HA1 := Lib.hid ha
      clear hk hlt hl ha e1
      go_wp2_with fail
      go_end0
      exact ⟨rfl, HL1.out, HA1.out⟩
end Go.Proofs.YtbdjlmdbnoghnaaGreat
namespace Go.Proofs.YtbdjlmdbnoghnaaGreat
open Go.RowKit Go.Maps

theorem Pre.in_ {s : DS} {n c k : Nat} (h : Pre s n c k) (hJ : JoinOk (scanV s n c)) : k < (scanV s n c).length := by
  have pos := hJ.pos
  unfold scanV at pos ⊢
  cases hs : scan s n (n + 1 - k) (c + k) with
  | none => rw [h.res, hs] at pos; simp at pos
  | some rest =>
    obtain ⟨-, -, h1, -⟩ := scan_some hs
    rw [h.res, hs]
    simp [preP]
    omega
theorem scanV_at {s : DS} {n c k : Nat} (hk : k < (scanV s n c).length) : (scanV s n c)[k] = dec (rdP s n (c + k)) := by
  obtain ⟨m, hm⟩ : ∃ m, m = (scanV s n c).length := ⟨_, rfl⟩
  have e : scanV s n c = preP s n c m := by rw [hm]; exact scanV_good.1
  have hkm : k < m := by omega
  have h2 : (scanV s n c)[k]? = some (dec (rdP s n (c + k))) := by
    rw [e]
    simp [preP, hkm]
  rw [List.getElem?_eq_getElem hk] at h2
  exact Option.some.inj h2
theorem hdP_scan {s : DS} {n c : Nat} (h : 0 < (scanV s n c).length) : hdP (scanV s n c) = dec (rdP s n c) := by
  rw [← hd0 h]
  exact scanV_at h
/-- what next answers -/
def NextOf (s : DS) (n c T floor : Nat) (ps : List Pc) : Prop := (ps = [] ∨ (ps = scanV s n c ∧ floor ≤ (hdP ps).e)) ∧ (JoinOk (scanV s n c) → floor ≤ (hdP (scanV s n c)).e → c + (scanV s n c).length ≤ T → ps = scanV s n c)
/-- where it stops -/
theorem NextOf.stop {s : DS} {n c T floor k : Nat} (h : Pre s n c k) (hno : ∀ p, p = dec (rdP s n (c + k)) → c + k < T → goodP s n (c + k) → p.f = (k == 0) → floor ≤ p.e → (0 < k → p.e = (dec (rdP s n c)).e) → False) : NextOf s n c T floor [] := by
  refine ⟨.inl rfl, fun hJ hf hT => ?_⟩
  exfalso
  have hk := h.in_ hJ
  have hat := scanV_at hk
  have hg := scanV_good.2 k hk
  have h0 := hdP_scan hJ.pos
  obtain ⟨-, he, -, -, hff, -⟩ := hJ.2.1 k hk
  rw [hat] at he hff
  exact hno _ rfl (by omega) hg hff (by rw [he]; exact hf) (fun _ => by rw [he, h0])
theorem NextOf.all {s : DS} {n c T floor k : Nat} (h : Pre s n c k) (hg : goodP s n (c + k)) (hl : (dec (rdP s n (c + k))).g = true) (hf : floor ≤ (dec (rdP s n c)).e) : NextOf s n c T floor (preP s n c (k + 1)) := by
  have e := h.last hg hl
  have hp : 0 < (scanV s n c).length := by rw [e]; simp [preP]
  rw [← e]
  exact ⟨.inr ⟨rfl, by rw [hdP_scan hp]; exact hf⟩, fun _ _ _ => rfl⟩
theorem PW.first {T : TypeId} {W w : World} {P : Nat → Pc} {k : Nat} {vo : Value} {F : Nat → Prop} {qs : List (Pc × Value)} (h : PW T W P k vo F qs w) (hk : 0 < k) : ∃ g cap, vo = .slice (some ⟨g, 0, none⟩) k cap ∧ w.cell? ⟨g, 0, none⟩ = some (.int .u64 ((P 0).e : Int)) := by
  obtain ⟨g, cap, rfl, hF, hc⟩ := h.sl.form hk
  obtain ⟨A, c', e, -, -, -, -, h6⟩ := h.sl.rd
  obtain ⟨ad, rfl, -, hcell⟩ := h6 hk
  injection e with e1 e2 e3
  obtain rfl := Option.some.inj e1
  have hl := h.len
  refine ⟨g, cap, rfl, ?_⟩
  cases qs with
  | nil => simp at hl; omega
  | cons q qs =>
    obtain ⟨e0, -⟩ := h.at_ 0 (by simp)
    have := hcell 0 (.int .u64 (q.1.e : Int)) (by simp [rcells])
    simp only [List.getElem_cons_zero] at e0
    rw [← e0]
    simpa [Addr.add] using this
def NxR (w : World) (Pd : List Pc → Prop) (e : Ending) (w' : World) : Prop := ∃ ps A q, e = .returned (.slice A ps.length q) ∧ PRd w' (.slice A ps.length q) ps ∧ Pd ps ∧ (∀ j, (Value.slice A ps.length q).ownBlock = some j → w.heap.size ≤ j) ∧ Adv Nul w Nul w'
theorem NxR.no {w w' : World} {Pd : List Pc → Prop} (h : Pd []) (ha : Adv Nul w Nul w') : NxR w Pd (.returned (.slice none 0 0)) w' :=
  ⟨[], Option.none, 0, rfl, PRd.nil _, h, fun j hj => by simp [Value.ownBlock] at hj, ha⟩
def NxL (w : World) (s : DS) (n c fl : Nat) (t6 t5 : Value) (wr : World) : Prop :=
  ∃ k A q F qs, t6 = .int .u64 ((k : Nat) : Int) ∧ t5 = .slice A k q ∧ Pre s n c k ∧ (0 < k → fl ≤ (dec (rdP s n c)).e) ∧ PW 87 w (fun i => dec (rdP s n (c + i))) k (.slice A k q) F qs wr
def NxC (w : World) (y x n c : Nat) : Prop := w.cell? ⟨y, 0, none⟩ = some (.pointer (some ⟨x, 0, none⟩)) ∧ w.cell? ⟨y, 1, none⟩ = some (.int .i64 (n : Int)) ∧ w.cell? ⟨y, 5, none⟩ = some (.int .u64 (c : Int))

def IsU (w : World) (G : Nat → Prop) (L : List Nat) (v : Value) : Prop := Sl w G 5 1 v 128 (L.map u8)
def RdU (w : World) (L : List Nat) (v : Value) : Prop := Rd w 1 v 128 (L.map u8)
theorem IsU.form {w : World} {G : Nat → Prop} {L : List Nat} {v : Value} (h : IsU w G L v) : ∃ A c, v = .slice A 128 c := by
  obtain ⟨A, c, e, -, -⟩ := Sl.form0 h
  exact ⟨A, c, e⟩
theorem IsU.rd {w : World} {G : Nat → Prop} {L : List Nat} {v : Value} (h : IsU w G L v) : RdU w L v := Sl.rd h
theorem RdU.up {w : World} {L : List Nat} {v : Value} (h : RdU w.drew L v) (o : Obj) : RdU (w.alloc o).drew L v :=
  Rd.far (w := w.drew) h (fun _ _ _ hl => Below.heap_alloc _ _ _ hl) (by show w.heap.size ≤ (w.alloc o).heap.size; simp)
theorem nis_any {x N i : Nat} {G : Nat → Prop} {s : DS} {w : World} {L : List Nat} (h : Rk w G x N s) (hi : i < N) (hq : s.Q.length ≤ 1000000) (hL : isS s i = L) {X : Int} (hX : X = (i : Int)) : Calls Tryz.prog 25 #[.pointer (some ⟨x, 0, none⟩), .int .i64 X] w fun e w' => ∃ v, e = .returned v ∧ IsU w G L v ∧ w = w' := by
  subst hX hL
  exact ris_r x N i G s w h hi hq
theorem nun_any {w : World} {L : List Nat} {v : Value} (h : RdU w L v) (h8 : ∀ x ∈ L, x < 256) : Calls Tryz.prog 71 #[v] w (UnR w L) := runseal_any v 128 L w h h8
def RdD (w : World) (v : Value) (m : Nat) (D : List Nat) : Prop := Rd w 1 v m (D.map u8)
theorem RdD.of_sl {w : World} {F : Nat → Prop} {v : Value} {m : Nat} {D : List Nat} (h : Sl w F 5 1 v m (D.map u8)) : RdD w v m D := h.rd
theorem RdD.adv {w w' : World} {F' : Nat → Prop} {v : Value} {m : Nat} {D : List Nat} (h : RdD w v m D) (ha : Adv Nul w F' w') : RdD w' v m D := Rd.far h (fun _ _ _ hl => ha.block _ hl (fun e => e)) ha.size
theorem RdD.up {w : World} {v : Value} {m : Nat} {D : List Nat} (h : RdD w v m D) (o : Obj) : RdD (w.alloc o) v m D := h.adv ((Adv.refl Nul w).alloc o)
/-- the piece that is read -/
def NxB (U : World) (p : Pc) (E : Int) (t7 t8 : Value) (wr : World) : Prop := t8 = .int .i64 E ∧ ∃ z a k F, t7 = .pointer (some ⟨z, 0, none⟩) ∧ U.heap.size ≤ z ∧ Blk wr z 87 #[.int .u64 (p.e : Int), .int .u64 (p.c : Int), .bool p.f, .bool p.g, .slice a p.d.length k] ∧ Sl wr F 5 1 (.slice a p.d.length k) p.d.length (p.d.map u8) ∧ Adv Nul U F wr
theorem nx_fin {U w' : World} {z m pe pc k : Nat} {C : Array Value} {F : Nat → Prop} {a : Option Addr} {pf pg : Bool} {D : List Nat} (hB : Blk w' z 87 C) (hC : C.size = 5) (hS : Sl w' F 5 1 (.slice a m k) m (D.map u8)) (hm : m = D.length) (hA : Adv Nul U F w') (hz : U.heap.size ≤ z) (hF : ∀ k, F k → k ≠ z) :
    (∃ z' a' k' F', Value.pointer (some ⟨z, 0, none⟩) = .pointer (some ⟨z', 0, none⟩) ∧ U.heap.size ≤ z' ∧ Blk (w'.setCells z 0 (pc5 (pe : Int) (pc : Int) pf pg (.slice a m k)).toList) z' 87 #[.int .u64 (pe : Int), .int .u64 (pc : Int), .bool pf, .bool pg, .slice a' D.length k'] ∧ Sl (w'.setCells z 0 (pc5 (pe : Int) (pc : Int) pf pg (.slice a m k)).toList) F' 5 1 (.slice a' D.length k') D.length (D.map u8) ∧ Adv Nul U F' (w'.setCells z 0 (pc5 (pe : Int) (pc : Int) pf pg (.slice a m k)).toList)) ∧ Adv Nul U F (w'.setCells z 0 (pc5 (pe : Int) (pc : Int) pf pg (.slice a m k)).toList) := by
  subst hm
  obtain ⟨z', a', k', F', e, h1, h2, h3⟩ := made_fin (t := 87) (P := ⟨pe, pc, pf, pg, D⟩) hB hC hS rfl hA hz hF rfl rfl rfl rfl
  refine ⟨⟨z', a', k', F', e, ?_, h1, h2, h3⟩, ?_⟩
  · injection e with e
    injection e with e
    injection e with e _ _
    omega
  · exact Adv.lsetCells (pc5 (pe : Int) (pc : Int) pf pg (.slice a D.length k)).toList 0 _ hA (.inr hz)
end Go.Proofs.YtbdjlmdbnoghnaaGreat
