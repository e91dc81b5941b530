/- The program's cache: its memory; rows of slots. The program's cache: lay, use. The program's cache: write. -/
import Derived.Test.YtcglfknkkeaegaaGreatDoorMq09
import Derived.Test.YtcglfknkkeaegaaGreatDoorMq17
import Derived.Test.YtcglfknkkeaegaaGreatDoorMq10
import Derived.Test.YtcglfknkkeaegaaGreatDoorMq12
namespace Go.Proofs.YtcglfknkkeaegaaGreatDoor
open Go.ChangeShapes Go.WideShapes Go.ChangeAt Go.RowKit Go.Maps

def tcs (L : List Slt) : Array Value := (L.flatMap (fun x => (tc x).toList)).toArray
set_option maxRecDepth 3000 in
theorem tcs_size : ∀ L : List Slt, (tcs L).size = L.length * 7
  | [] => rfl
  | x :: L => by
    have h := tcs_size L
    simp only [tcs, List.size_toArray] at h
    simp only [tcs, List.flatMap_cons, List.size_toArray, List.length_append, h, Array.length_toList, tc_size, List.length_cons]
    omega
set_option maxRecDepth 3000 in
theorem tcs_at (L : List Slt) (k j : Nat) (hj : j < 7) (hk : k < L.length) : (tcs L)[k * 7 + j]? = (tc L[k])[j]? := by
  induction L generalizing k with
  | nil => simp at hk
  | cons d l ih =>
    cases k with
    | zero =>
      simp only [tcs, List.flatMap_cons, Nat.zero_mul, Nat.zero_add, List.getElem_cons_zero, List.getElem?_toArray]
      rw [List.getElem?_append_left (by simpa [tc] using hj), Array.getElem?_toList]
    | succ k =>
      have h := ih k (by simpa using hk)
      simp only [tcs, List.flatMap_cons, List.getElem_cons_succ, List.getElem?_toArray] at h ⊢
      rw [List.getElem?_append_right (by simp [tc]; omega), ← h]
      congr 1
      simp [tc]
      omega
set_option maxRecDepth 3000 in
theorem tcs_ext {C : Array Value} {L : List Slt} (hs : C.size = L.length * 7) (h : ∀ k (hk : k < L.length) j, j < 7 → C[k * 7 + j]? = (tc L[k])[j]?) : C = tcs L := by
  apply Array.ext_getElem?
  intro i
  by_cases hi : i < L.length * 7
  · have hk : i / 7 < L.length := by omega
    have := h (i / 7) hk (i % 7) (by omega)
    rw [show i / 7 * 7 + i % 7 = i by omega] at this
    rw [this, ← tcs_at L (i / 7) (i % 7) (by omega) hk, show i / 7 * 7 + i % 7 = i by omega]
  · rw [Array.getElem?_eq_none (by omega), Array.getElem?_eq_none (by rw [tcs_size]; omega)]
set_option maxRecDepth 3000 in
/-- some cells in the midst of a block -/
theorem Blk.putMid {g : Nat} {t : TypeId} : ∀ (D : List Value) (o : Nat) (w : World) (C : Array Value), Blk w g t C → o + D.length ≤ C.size →
    ∃ C', Blk (w.setCells g o D) g t C' ∧ C'.size = C.size ∧ (∀ k, k < o ∨ o + D.length ≤ k → C'[k]? = C[k]?) ∧ ∀ j, j < D.length → C'[o + j]? = D[j]?
  | [], o, w, C, h, _ => ⟨C, h, rfl, fun _ _ => rfl, fun j hj => absurd hj (Nat.not_lt_zero _)⟩
  | v :: D, o, w, C, h, hs => by
    have hs' : o + 1 + D.length ≤ C.size := by simp only [List.length_cons] at hs; omega
    rw [World.setCells]
    obtain ⟨C', h1, h2, h3, h4⟩ := Blk.putMid D (o + 1) _ _ (h.set_ o v) (by simpa using hs')
    refine ⟨C', h1, by rw [h2]; simp, fun k hk => ?_, fun j hj => ?_⟩
    · rw [h3 k (by simp only [List.length_cons] at hk; omega), Array.getElem?_setIfInBounds, if_neg (by simp only [List.length_cons] at hk; omega)]
    · match j with
      | 0 =>
        rw [Nat.add_zero, h3 o (by omega), Array.getElem?_setIfInBounds, if_pos rfl, if_pos (by omega)]
        rfl
      | j + 1 =>
        have := h4 j (by simp only [List.length_cons] at hj; omega)
        rw [show o + (j + 1) = o + 1 + j by omega, this]
        rfl
set_option maxRecDepth 3000 in
theorem Blk.putRow {g : Nat} {t : TypeId} {w : World} {L : List Slt} {i : Nat} (h : Blk w g t (tcs L)) (hi : i < L.length) (x : Slt) : Blk (w.setCells g (i * 7) (tc x).toList) g t (tcs (L.set i x)) := by
  have hl : ((tc x).toList).length = 7 := rfl
  obtain ⟨C', h1, h2, h3, h4⟩ := Blk.putMid (tc x).toList (i * 7) w (tcs L) h (by rw [tcs_size, hl]; omega)
  rw [hl] at h3 h4
  have e : C' = tcs (L.set i x) := by
    refine tcs_ext (by rw [h2, tcs_size, List.length_set]) fun k hk j hj => ?_
    rw [List.length_set] at hk
    rw [List.getElem_set]
    by_cases c : i = k
    · subst c
      rw [if_pos rfl, h4 j hj, Array.getElem?_toList]
    · rw [if_neg c, h3 _ (by omega), tcs_at L k j hj hk]
  rw [← e]
  exact h1
set_option maxRecDepth 3000 in
theorem Blk.row7 {g : Nat} {t : TypeId} {w : World} {L : List Slt} {i : Nat} (h : Blk w g t (tcs L)) (hi : i < L.length) : w.rangeAt g (i * 7) (tc L[i]).toList := fun j v hv => by
  have hj : j < 7 := (List.getElem?_eq_some_iff.1 hv).1
  rw [h.cell, tcs_at L i j hj hi, ← Array.getElem?_toList]
  exact hv
set_option maxRecDepth 3000 in
theorem Blk.bk7 {g : Nat} {t : TypeId} {w : World} {L : List Slt} {i : Nat} (h : Blk w g t (tcs L)) (hi : i < L.length) : w.rangeAt g (i * 7 + 1) (bkc (bkT L[i])).toList := fun j v hv => by
  have hj : j < 3 := (List.getElem?_eq_some_iff.1 hv).1
  rw [h.cell, Nat.add_assoc, tcs_at L i (1 + j) (by omega) hi]
  match j, hj with
  | 0, _ => exact hv
  | 1, _ => exact hv
  | 2, _ => exact hv
set_option maxRecDepth 3000 in
theorem Blk.d7 {g : Nat} {t : TypeId} {w : World} {L : List Slt} {i : Nat} (h : Blk w g t (tcs L)) (hi : i < L.length) : w.cell? ⟨g, i * 7 + 5, none⟩ = some (.bool L[i].d) := by
  rw [h.cell, tcs_at L i 5 (by decide) hi]
  rfl
set_option maxRecDepth 3000 in
theorem Blk.there7 {g : Nat} {t : TypeId} {w : World} {L : List Slt} {i : Nat} (h : Blk w g t (tcs L)) (hi : i < L.length) : w.there g (i * 7) 7 := fun j hj =>
  ⟨by rw [h.cell, tcs_at L i j hj hi]; have : j < (tc L[i]).size := hj; rw [Array.getElem?_eq_getElem this]; rfl, h.frozen _⟩
set_option maxRecDepth 3000 in
theorem sizeBk : (Tryz.prog.info? 37).map (·.size) = some 3 := by kernel_rfl
section
variable {ops : Array Oper} {rest : List Oper} {o : Oper} {a : Act} {w : World} {Q : Exit → Act → World → Prop}
set_option maxRecDepth 3000 in
/-- one slot of a row of them -/
theorem rop_load (hgd : o.guard = none) (x : Operand) (ho : o.op = .load 44 x) (z i : Nat) {t : TypeId} {L : List Slt} (hB : Blk w z t (tcs L)) (hi : i < L.length) (hx : a.eval x = .pointer (some ⟨z, i * 7, none⟩))
    (h : wpList Tryz.prog ops Q rest (a.put o.dst (.agg (tc L[i]))) w) : wpList Tryz.prog ops Q (o :: rest) a w := by
  refine wpList_load_mid hgd 44 x ho z (i * 7) hx (tc L[i]).toList _ (hB.row7 hi) Tryz.underlying44 rfl (by rw [sizeT]; rfl) ?_
  rw [Array.toArray_toList]
  exact h
end

/-- A cache and what it stands on. -/
structure PE where
  F : Nat → Prop
  d : Nat
  l : Nat
  b : Nat
  n : Nat
  N : Nat
  s : DS
  g : LS
  c : Nat
  r : Nat
  q : Nat
  m : Nat
  L : List Slt
  R : RgS
  num : Nat
def PE.U (E : PE) : Nat → Prop := UF E.F E.l E.b
def PE.V (E : PE) : Nat → Prop := fun k => E.U k ∨ k = E.c ∨ k = E.r ∨ k = E.q ∨ k = E.m
def PE.log (E : PE) (F : Nat → Prop) (s : DS) (g : LS) : PE := { E with F := F, s := s, g := g }
def PE.setL (E : PE) (L : List Slt) : PE := { E with L := L }
def PE.setR (E : PE) (R : RgS) : PE := { E with R := R }
def PE.setN (E : PE) (x : Nat) : PE := { E with num := x }
def pcells (E : PE) : Array Value := #[.pointer (some ⟨E.l, 0, none⟩), .pointer (some ⟨E.r, 0, none⟩), .int .u64 (E.num : Int), .slice (some ⟨E.q, 0, none⟩) E.L.length E.L.length, .map (some E.m)]
structure Pk (w : World) (E : PE) : Prop where
  rs : Rs w E.F E.d E.l E.b E.n E.N E.s E.g
  blk : Blk w E.c 76 (pcells E)
  cl : Cl w E.r E.R
  sl : Blk w E.q 44 (tcs E.L)
  mp : Mb w E.m E.L
  wl : WL E.L
  ln : 1 ≤ E.L.length ∧ E.L.length ≤ 64 ∧ E.R.n = E.L.length
  tz : Tz w
  uc : ¬ E.U E.c
  ur : ¬ E.U E.r
  uq : ¬ E.U E.q
  um : ¬ E.U E.m
  u0 : ¬ E.V 0
section
variable {w w' : World} {E : PE} {F' : Nat → Prop}
set_option maxRecDepth 3000 in
theorem Pk.cr (h : Pk w E) : E.c ≠ E.r := Blk.ne_ h.blk h.cl.blk (by decide)
set_option maxRecDepth 3000 in
theorem Pk.cq (h : Pk w E) : E.c ≠ E.q := Blk.ne_ h.blk h.sl (by decide)
set_option maxRecDepth 3000 in
theorem Pk.rq (h : Pk w E) : E.r ≠ E.q := Blk.ne_ h.cl.blk h.sl (by decide)
set_option maxRecDepth 3000 in
theorem Pk.cm (h : Pk w E) : E.c ≠ E.m := h.mp.ne h.blk
set_option maxRecDepth 3000 in
theorem Pk.rm (h : Pk w E) : E.r ≠ E.m := h.mp.ne h.cl.blk
set_option maxRecDepth 3000 in
theorem Pk.qm (h : Pk w E) : E.q ≠ E.m := h.mp.ne h.sl
set_option maxRecDepth 3000 in
theorem Pk.bd (h : Pk w E) : Bd E.V w := fun k hk => by
  rcases hk with hk | rfl | rfl | rfl | rfl
  · exact h.rs.bd k hk
  · exact h.blk.lt
  · exact h.cl.lt
  · exact h.sl.lt
  · exact h.mp.lt
set_option maxRecDepth 3000 in
theorem Pk.far {G G' : Nat → Prop} (h : Pk w E) (ha : Adv G w G' w') (hs : ∀ k, G k → ¬ E.V k) (h0 : ¬ G 0) : Pk w' E := by
  have hl : ∀ k, E.V k → w'.heap[k]? = w.heap[k]? := fun k hk => ha.block k (h.bd k hk) (fun x => hs k x hk)
  refine ⟨⟨h.rs.dk.far ha (fun k a b => hs k a (.inl (.inl b))), h.rs.lg.far ha (fun k a b => hs k a (.inl (.inr b))), h.rs.sep⟩, h.blk.keep (hl _ (.inr (.inl rfl))), h.cl.keep (hl _ (.inr (.inr (.inl rfl)))), h.sl.keep (hl _ (.inr (.inr (.inr (.inl rfl))))), h.mp.keep (hl _ (.inr (.inr (.inr (.inr rfl))))), h.wl, h.ln, h.tz.far ha h0, h.uc, h.ur, h.uq, h.um, h.u0⟩
set_option maxRecDepth 3000 in
theorem Pk.step (h : Pk w E) (ha : Adv Nul w F' w') : Pk w' E := h.far ha (fun _ x => x.elim) (fun x => x)
set_option maxRecDepth 3000 in
theorem Pk.c0 (h : Pk w E) : w.cell? ⟨E.c, 0, none⟩ = some (.pointer (some ⟨E.l, 0, none⟩)) := h.blk.cell 0
set_option maxRecDepth 3000 in
theorem Pk.c1 (h : Pk w E) : w.cell? ⟨E.c, 1, none⟩ = some (.pointer (some ⟨E.r, 0, none⟩)) := h.blk.cell 1
set_option maxRecDepth 3000 in
theorem Pk.c2 (h : Pk w E) : w.cell? ⟨E.c, 2, none⟩ = some (.int .u64 (E.num : Int)) := h.blk.cell 2
set_option maxRecDepth 3000 in
theorem Pk.c3 (h : Pk w E) : w.cell? ⟨E.c, 3, none⟩ = some (.slice (some ⟨E.q, 0, none⟩) E.L.length E.L.length) := h.blk.cell 3
set_option maxRecDepth 3000 in
theorem Pk.c4 (h : Pk w E) : w.cell? ⟨E.c, 4, none⟩ = some (.map (some E.m)) := h.blk.cell 4
set_option maxRecDepth 3000 in
/-- the log has changed -/
theorem Pk.log (h : Pk w E) {s : DS} {g : LS} (hr : Rs w' F' E.d E.l E.b E.n E.N s g) (ha : Adv E.U w (UF F' E.l E.b) w') : Pk w' (E.log F' s g) ∧ Adv E.V w (E.log F' s g).V w' := by
  have hn : ∀ k, k < w.heap.size → ¬ E.U k → ¬ UF F' E.l E.b k := fun k hk hu x => by
    rcases ha.into k x with y | y
    · exact hu y
    · omega
  have hk : ∀ k, k < w.heap.size → ¬ E.U k → w'.heap[k]? = w.heap[k]? := fun k hk hu => ha.block k hk hu
  have h0 : ¬ E.U 0 := fun x => h.u0 (.inl x)
  refine ⟨⟨hr, h.blk.keep (hk _ h.blk.lt h.uc), h.cl.keep (hk _ h.cl.lt h.ur), h.sl.keep (hk _ h.sl.lt h.uq), h.mp.keep (hk _ h.mp.lt h.um), h.wl, h.ln, h.tz.far ha h0, hn _ h.blk.lt h.uc, hn _ h.cl.lt h.ur, hn _ h.sl.lt h.uq, hn _ h.mp.lt h.um, fun x => ?_⟩, ?_⟩
  · rcases x with x | x
    · exact hn 0 h.tz.lt h0 x
    · exact h.u0 (.inr x)
  · refine ⟨ha.os, ha.tape, ha.output, ha.size, fun k hk hv => ha.block k hk (fun x => hv (.inl x)), fun k hk => ?_⟩
    rcases hk with hk | hk
    · rcases ha.into k hk with y | y
      · exact .inl (.inl y)
      · exact .inr y
    · exact .inl (.inr hk)
set_option maxRecDepth 3000 in
theorem adv_V (E : PE) {k : Nat} (hk : k = E.c ∨ k = E.r ∨ k = E.q ∨ k = E.m) (ha : Adv (One k) w (One k) w') : Adv E.V w E.V w' :=
  ⟨ha.os, ha.tape, ha.output, ha.size, fun j hj hv => ha.block j hj (fun e => hv (by rw [show j = k from e]; exact .inr hk)), fun _ hj => .inl hj⟩
set_option maxRecDepth 3000 in
/-- the ring has changed -/
theorem Pk.ring (h : Pk w E) {R : RgS} (hc : Cl w' E.r R) (hn : R.n = E.R.n) (ha : Adv (One E.r) w (One E.r) w') : Pk w' (E.setR R) ∧ Adv E.V w E.V w' := by
  have hk : ∀ k, k < w.heap.size → k ≠ E.r → w'.heap[k]? = w.heap[k]? := fun k hk he => ha.block k hk he
  have hu : ∀ k, E.U k → w'.heap[k]? = w.heap[k]? := fun k hx => hk k (h.rs.bd k hx) (fun e => h.ur (by rw [← e]; exact hx))
  refine ⟨⟨⟨h.rs.dk.far ha (fun k a b => h.ur (by rw [← show k = E.r from a]; exact .inl b)), h.rs.lg.far ha (fun k a b => h.ur (by rw [← show k = E.r from a]; exact .inr b)), h.rs.sep⟩, h.blk.keep (hk _ h.blk.lt h.cr), hc, h.sl.keep (hk _ h.sl.lt h.rq.symm), h.mp.keep (hk _ h.mp.lt h.rm.symm), h.wl, ⟨h.ln.1, h.ln.2.1, hn.trans h.ln.2.2⟩, h.tz.far ha (fun x => h.u0 (.inr (.inr (.inl x)))), h.uc, h.ur, h.uq, h.um, h.u0⟩, adv_V E (.inr (.inl rfl)) ha⟩
set_option maxRecDepth 3000 in
/-- the number has -/
theorem Pk.numb (h : Pk w E) (x : Nat) : Pk (w.setCell ⟨E.c, 2, none⟩ (.int .u64 (x : Int))) (E.setN x) ∧ Adv E.V w E.V (w.setCell ⟨E.c, 2, none⟩ (.int .u64 (x : Int))) := by
  have ha : Adv (One E.c) w (One E.c) (w.setCell ⟨E.c, 2, none⟩ (.int .u64 (x : Int))) := (Adv.refl (One E.c) w).setCell (p := ⟨E.c, 2, none⟩) (.inl rfl) _
  have hk : ∀ k, k < w.heap.size → k ≠ E.c → (w.setCell ⟨E.c, 2, none⟩ (.int .u64 (x : Int))).heap[k]? = w.heap[k]? := fun k hk he => ha.block k hk he
  refine ⟨⟨⟨h.rs.dk.far ha (fun k a b => h.uc (by rw [← show k = E.c from a]; exact .inl b)), h.rs.lg.far ha (fun k a b => h.uc (by rw [← show k = E.c from a]; exact .inr b)), h.rs.sep⟩, h.blk.set_ 2 _, h.cl.keep (hk _ h.cl.lt h.cr.symm), h.sl.keep (hk _ h.sl.lt h.cq.symm), h.mp.keep (hk _ h.mp.lt h.cm.symm), h.wl, h.ln, h.tz.far ha (fun x => h.u0 (.inr (.inl x))), h.uc, h.ur, h.uq, h.um, h.u0⟩, adv_V E (.inl rfl) ha⟩
def QM (E : PE) : Nat → Prop := fun k => k = E.q ∨ k = E.m
set_option maxRecDepth 3000 in
/-- the slots and their map have -/
theorem Pk.slots (h : Pk w E) {L : List Slt} (hl : L.length = E.L.length) (hw : WL L) (hs : Blk w' E.q 44 (tcs L)) (hm : Mb w' E.m L) (ha : Adv (QM E) w (QM E) w') : Pk w' (E.setL L) ∧ Adv E.V w E.V w' := by
  have hk : ∀ k, k < w.heap.size → k ≠ E.q → k ≠ E.m → w'.heap[k]? = w.heap[k]? := fun k hk h1 h2 => ha.block k hk (fun e => e.elim h1 h2)
  have hb := hk _ h.blk.lt h.cq h.cm
  have e : pcells (E.setL L) = pcells E := by unfold pcells PE.setL; rw [hl]
  refine ⟨⟨⟨h.rs.dk.far ha (fun k a b => ?_), h.rs.lg.far ha (fun k a b => ?_), h.rs.sep⟩, ?_, h.cl.keep (hk _ h.cl.lt h.rq h.rm), hs, hm, hw, ⟨by show 1 ≤ L.length; rw [hl]; exact h.ln.1, by show L.length ≤ 64; rw [hl]; exact h.ln.2.1, by show E.R.n = L.length; rw [hl]; exact h.ln.2.2⟩, h.tz.far ha (fun x => h.u0 (.inr (.inr (.inr x)))), h.uc, h.ur, h.uq, h.um, h.u0⟩, ?_⟩
  · rcases a with rfl | rfl
    · exact h.uq (.inl b)
    · exact h.um (.inl b)
  · rcases a with rfl | rfl
    · exact h.uq (.inr b)
    · exact h.um (.inr b)
  · rw [e]; exact h.blk.keep hb
  · exact ⟨ha.os, ha.tape, ha.output, ha.size, fun j hj hv => ha.block j hj (fun x => hv (.inr (.inr (.inr x)))), fun _ hj => .inl hj⟩
end
set_option maxRecDepth 3000 in
theorem pmade_any (w : World) (E : PE) (h : Pk w E) : Calls Tryz.prog 46 #[.pointer (some ⟨E.c, 0, none⟩)] w fun e w' => e = .returned (.bool true) ∧ w = w' := by
  have c := h.c0
  generalize E.c = c0 at c ⊢
  generalize E.l = l0 at c
  clear h
  go_enter Tryz.func46, Tryz.ntmps46
  go_wp2
  go_ret
  exact ⟨rfl, rfl⟩
end Go.Proofs.YtcglfknkkeaegaaGreatDoor
namespace Go.Proofs.YtcglfknkkeaegaaGreatDoor
open Go.ChangeShapes Go.WideShapes Go.ChangeAt Go.RowKit Go.Maps

/-- a place's cells -/
def plcA (i : Nat) (x : Slt) : Array Value := (.int .i64 (i : Int) :: (tc x).toList).toArray
set_option maxRecDepth 3000 in
theorem plcA_size (i : Nat) (x : Slt) : (plcA i x).size = 8 := rfl
set_option maxRecDepth 3000 in
theorem plcA_one (i : Nat) (x : Slt) : (plcA i x).all (·.oneCell') = true := by simp [plcA, tc, Value.oneCell']
set_option maxRecDepth 3000 in
theorem sizePl : (Tryz.prog.info? 125).map (·.size) = some 8 := by kernel_rfl
set_option maxRecDepth 3000 in
theorem infoPl : (Tryz.prog.info? 125).map (fun i => (i.zero, i.size, i.bytes)) = some (some (.agg (plcA 0 zeroT)), 8, 72) := by kernel_rfl
set_option maxRecDepth 3000 in
theorem Blk.pl0 {w : World} {z : Nat} {t : TypeId} {i : Nat} {x : Slt} (h : Blk w z t (plcA i x)) : w.cell? ⟨z, 0, none⟩ = some (.int .i64 (i : Int)) := h.cell 0
set_option maxRecDepth 3000 in
theorem Blk.pl1 {w : World} {z : Nat} {t : TypeId} {i : Nat} {x : Slt} (h : Blk w z t (plcA i x)) : w.rangeAt z 1 (tc x).toList := fun j v hv => by
  have hj : j < 7 := (List.getElem?_eq_some_iff.1 hv).1
  rw [h.cell]
  match j, hj with
  | 0, _ => exact hv
  | 1, _ => exact hv
  | 2, _ => exact hv
  | 3, _ => exact hv
  | 4, _ => exact hv
  | 5, _ => exact hv
  | 6, _ => exact hv
set_option maxRecDepth 3000 in
theorem Blk.pl2 {w : World} {z : Nat} {t : TypeId} {i : Nat} {x : Slt} (h : Blk w z t (plcA i x)) : w.rangeAt z 2 (bkc (bkT x)).toList := fun j v hv => by
  have hj : j < 3 := (List.getElem?_eq_some_iff.1 hv).1
  rw [h.cell]
  match j, hj with
  | 0, _ => exact hv
  | 1, _ => exact hv
  | 2, _ => exact hv
/-! Loads from the midst of a block, told by its cells. -/
set_option maxRecDepth 3000 in
theorem gyl_load {ops : Array Oper} {S : World → Prop} {op : Oper} {a : Act} {t : TypeId} {C : Array Value} {n off : Nat} {d : TypeDesc} (hw : Region.wanted op (yielded ops a.tmps) = true) (x : Operand) (ho : op.op = .load t x) (z : Nat) (hx : a.eval x = .pointer (some ⟨z, off, none⟩)) (hS : ∀ w, S w → w.rangeAt z off C.toList)
    (hu : Tryz.prog.underlying t = some d) (hd : d.isRow = true) (hs : (Tryz.prog.info? t).map (·.size) = some n) (hC : C.size = n) : YieldsIf Tryz.prog ops S op (.agg C) a := by
  have := yieldsIf_load_mid (P := Tryz.prog) (S := S) hw t x ho z off hx C.toList d hS hu hd (by rw [hs, Array.length_toList, hC])
  rwa [Array.toArray_toList] at this
set_option maxRecDepth 3000 in
theorem gop_load {ops : Array Oper} {rest : List Oper} {o : Oper} {a : Act} {w : World} {Q : Exit → Act → World → Prop} {t : TypeId} {C : Array Value} {n off : Nat} {d : TypeDesc} (hgd : o.guard = none) (x : Operand) (ho : o.op = .load t x) (z : Nat) (hR : w.rangeAt z off C.toList) (hx : a.eval x = .pointer (some ⟨z, off, none⟩))
    (hu : Tryz.prog.underlying t = some d) (hd : d.isRow = true) (hs : (Tryz.prog.info? t).map (·.size) = some n) (hC : C.size = n)
    (h : wpList Tryz.prog ops Q rest (a.put o.dst (.agg C)) w) : wpList Tryz.prog ops Q (o :: rest) a w := by
  refine wpList_load_mid hgd t x ho z off hx C.toList d hR hu hd (by rw [hs, Array.length_toList, hC]) ?_
  rw [Array.toArray_toList]
  exact h
section
variable {ops : Array Oper} {o : Oper} {a : Act} {w : World} {K : Act → World → Prop} {Q : Exit → Act → World → Prop} {E : Prop}
set_option maxRecDepth 3000 in
theorem pst_del (hgd : o.guard = none) (m x : Operand) (ho : o.op = Op.call { callee := Callee.builtin Builtin.delete, args := #[m, x], argTypes := #[74, 37] }) (mb i : Nat) (L : List Slt) (hM : Mb w mb L) (hw : WL L) (hi : i < L.length) (hm : a.eval m = .map (some mb)) (hx : a.eval x = .agg (bkc (bkT L[i])))
    (hK : ∀ w', Mb w' mb (L.set i zeroT) → Adv (One mb) w (One mb) w' → K (a.put o.dst (.tuple #[])) w') : if Region.wanted o (yielded ops a.tmps) = true then Oper.wp Tryz.prog o a w K Q else E := by
  rw [if_pos (by simp [Region.wanted, hgd])]
  obtain ⟨D, h, d⟩ := hM
  obtain ⟨w', hrun, r1, r2⟩ := h.drop keyed_blk Tryz.underlying74 (key_kb (isT_wf (hw.is _ (List.getElem_mem hi))).b) o.type
  unfold Oper.wp
  simp [execOp, ho, resolve, invoke, builtin, hm, hx, hrun, Result.andThen]
  exact hK w' ⟨_, Mb.size r1 (d.drop hw hi), d.drop hw hi⟩ (adv_one r2.grown)
set_option maxRecDepth 3000 in
theorem pst_upd (hgd : o.guard = none) (m x v : Operand) (ho : o.op = Op.mapUpdate 74 m x v) (mb i : Nat) (L : List Slt) (y : Slt) (hM : Mb w mb (L.set i zeroT)) (hw : WL L) (k : LayOk L i y) (hy : y ≠ zeroT) (hn : L.length ≤ 64) (hm : a.eval m = .map (some mb)) (hx : a.eval x = .agg (bkc (bkT y))) (hv : a.eval v = .int .i64 (i : Int))
    (hK : ∀ w', Mb w' mb (L.set i y) → Adv (One mb) w (One mb) w' → K (a.put o.dst undef) w') : if Region.wanted o (yielded ops a.tmps) = true then Oper.wp Tryz.prog o a w K Q else E := by
  rw [if_pos (by simp [Region.wanted, hgd])]
  obtain ⟨D, h, d⟩ := hM
  have hle := usedL_le (L.set i zeroT)
  rw [List.length_set] at hle
  obtain ⟨w', hrun, r1, r2⟩ := h.update keyed_blk Tryz.underlying74 (by unfold maxLen; omega) (key_kb (isT_wf k.is).b) (plain_id (i := i) (by have := k.lt; omega))
  unfold Oper.wp
  simp [execOp, ho, hm, hx, hv, hrun, Result.andThen]
  exact hK w' ⟨_, Mb.size r1 (d.put hw k hy), d.put hw k hy⟩ (adv_one r2)
set_option maxRecDepth 3000 in
theorem rst_store (hgd : o.guard = none) (x y : Operand) (ho : o.op = .store 44 x y) (z i : Nat) {t : TypeId} {L : List Slt} (s : Slt) (hB : Blk w z t (tcs L)) (hi : i < L.length) (hx : a.eval x = .pointer (some ⟨z, i * 7, none⟩)) (hy : a.eval y = .agg (tc s))
    (h : ∀ w', Blk w' z t (tcs (L.set i s)) → Adv (One z) w (One z) w' → K (a.put o.dst undef) w') : if Region.wanted o (yielded ops a.tmps) = true then Oper.wp Tryz.prog o a w K Q else E := by
  rw [if_pos (by simp [Region.wanted, hgd])]
  exact wp_store_mid 44 x y ho z (i * 7) (tc s) hx hy (by rw [tc_size]; exact hB.there7 hi) (by rw [sizeT]; rfl) (tc_one s) (h _ (hB.putRow hi s) (Adv.isetCells (tc s).toList (i * 7) _ (Adv.refl _ _) (.inl rfl)))
end
set_option maxRecDepth 3000 in
theorem pyl_look {ops : Array Oper} {S : World → Prop} {o : Oper} {a : Act} (hw : Region.wanted o (yielded ops a.tmps) = true) (m x : Operand) (ho : o.op = Op.lookup 74 m x true) (mb : Nat) (b : Bk) (L : List Slt) (hS : ∀ w, S w → Mb w mb L) (hm : a.eval m = .map (some mb)) (hx : a.eval x = .agg (bkc b)) (hb : WfB b) :
    YieldsIf Tryz.prog ops S o (.tuple #[.int .i64 (((atL L b).getD 0 : Nat) : Int), .bool (atL L b).isSome]) a := .inl ⟨hw, fun w hw' => by
  obtain ⟨D, h, d⟩ := hS w hw'
  obtain ⟨v, ps, hrun, hv⟩ := h.look_ok keyed_blk Tryz.underlying74 (zero_int w) (plainElem_int Tryz.underlying3 (by decide)) (key_kb hb)
  obtain ⟨c, rfl, hc, _⟩ := plainElem_int_inv Tryz.underlying3 hv
  have hc : D.atKey (kb b) (.lit (.int .i64 0)) = .lit (.int .i64 c) := congrArg Prod.fst hc
  rw [d.at_ b hb] at hc
  rw [d.has b hb] at hrun
  have e : c = (((atL L b).getD 0 : Nat) : Int) := by
    cases h : atL L b with
    | none =>
      rw [h] at hc
      simp only [Option.map_none, Option.getD_none] at hc
      injection hc with hc
      injection hc with _ hc
      rw [← hc]; rfl
    | some i =>
      rw [h] at hc
      simp only [Option.map_some, Option.getD_some, idD] at hc
      injection hc with hc
      injection hc with _ hc
      rw [← hc]; rfl
  rw [e] at hrun
  unfold execOp
  simp only [ho, hm, hx]
  simp [hrun, Result.andThen]⟩
set_option maxRecDepth 3000 in
theorem adv_Q1 {w w' : World} (E : PE) {k : Nat} (hk : QM E k) (ha : Adv (One k) w (One k) w') : Adv (QM E) w (QM E) w' :=
  ⟨ha.os, ha.tape, ha.output, ha.size, fun j hj hv => ha.block j hj (fun e => hv (by rw [show j = k from e]; exact hk)), fun _ hj => .inl hj⟩
set_option maxRecDepth 3000 in
theorem adv_wk {w w' : World} {F' G : Nat → Prop} (ha : Adv Nul w F' w') : Adv G w G w' := (ha.sub (G := Nul) (fun _ x => x.elim)).same (fun _ x => x.elim)
set_option maxRecDepth 3000 in
set_option maxHeartbeats 3200000 in
theorem lay_p {w : World} {E : PE} (h : Pk w E) {i : Nat} {x : Slt} (k : LayOk E.L i x) : Calls Tryz.prog 96 #[.pointer (some ⟨E.c, 0, none⟩), .agg (plcA i x)] w fun e w' => e = .returned (.tuple #[]) ∧ Pk w' (E.setL (E.L.set i x)) ∧ Adv E.V w E.V w' := by
  have HP := Lib.hid h
  have HK := Lib.hid k
  have HFR := Lib.hid (free_any x (isT_wf k.is))
  have HFIN := Lib.hid (fun (w' : World) (hs : Blk w' E.q 44 (tcs (E.L.set i x))) (hm : Mb w' E.m (E.L.set i x)) (ha : Adv (QM E) w (QM E) w') => h.slots (List.length_set ..) (h.wl.lay k) hs hm ha)
  obtain ⟨c, hc⟩ : ∃ c, c = E.c := ⟨_, rfl⟩
  obtain ⟨q, hq⟩ : ∃ c, c = E.q := ⟨_, rfl⟩
  obtain ⟨m, hm⟩ : ∃ c, c = E.m := ⟨_, rfl⟩
  obtain ⟨L, hL⟩ : ∃ c, c = E.L := ⟨_, rfl⟩
  obtain ⟨n, hn⟩ : ∃ n, n = L.length := ⟨_, rfl⟩
  have HB := Lib.hid (show Blk w c 76 (pcells E) by rw [hc]; exact h.blk)
  have c3 : (pcells E)[3]? = some (.slice (some ⟨q, 0, none⟩) n n) := by rw [hq, hn, hL]; rfl
  have c4 : (pcells E)[4]? = some (.map (some m)) := by rw [hm]; rfl
  have HC3 := Lib.hid c3
  have HC4 := Lib.hid c4
  have HQ := Lib.hid (show Blk w q 44 (tcs L) by rw [hq, hL]; exact h.sl)
  have HM := Lib.hid (show Mb w m L by rw [hm, hL]; exact h.mp)
  have HWL := Lib.hid (show WL L by rw [hL]; exact h.wl)
  have HQM := Lib.hid (show QM E q ∧ QM E m by rw [hq, hm]; exact ⟨.inl rfl, .inr rfl⟩)
  have HNE := Lib.hid (show c ≠ q ∧ c ≠ m ∧ q ≠ m by rw [hc, hq, hm]; exact ⟨h.cq, h.cm, h.qm⟩)
  have HLN := Lib.hid (show L.length ≤ 64 by rw [hL]; exact h.ln.2.1)
  rw [← hL] at HK
  have HI := Lib.hid (show i < L.length from HK.out.lt)
  have hin : (i : Int) < (n : Int) := by have := HI.out; omega
  have hn64 : (n : Int) ≤ 64 := by have := HLN.out; omega
  rw [← hc, ← hL]
  rw [← hq, ← hm, ← hL] at HFIN
  clear h k hc hq hm hL hn c3 c4
  go_enter Tryz.func96, Tryz.ntmps96
  go_upto_region 1 with (first
    | (refine kop_box rfl _ rfl rfl ?_; intro z w1 hz hb ha; have HZ := Lib.hid hz; have HZB := Lib.hid hb; have HA1 := Lib.hid ha; clear hz hb ha)
    | fail)
  have HZL := Lib.hid (show c < z ∧ q < z ∧ m < z from ⟨Nat.lt_of_lt_of_le HB.out.lt HZ.out, Nat.lt_of_lt_of_le HQ.out.lt HZ.out, Nat.lt_of_lt_of_le HM.out.lt HZ.out⟩)
  have HM1 := Lib.hid (show Mb w1.drew m L from HM.out.keep (HA1.out.block m HM.out.lt (fun x => x)))
  have K0 := Lib.hid (show (w1.drew.cell? ⟨c, 3, none⟩ = some (.slice (some ⟨q, 0, none⟩) n n) ∧ w1.drew.cell? ⟨c, 4, none⟩ = some (.map (some m)) ∧ w1.drew.cell? ⟨z, 0, none⟩ = some (.int .i64 (i : Int))) ∧ Blk w1.drew q 44 (tcs L) ∧ Blk w1.drew z 125 (plcA i x) ∧ Blk w1.drew c 76 (pcells E) from
    ⟨⟨((HB.out.over HA1.out.drew).cell 3).trans HC3.out, ((HB.out.over HA1.out.drew).cell 4).trans HC4.out, HZB.out.drew.pl0⟩, HQ.out.over HA1.out.drew, HZB.out.drew, HB.out.over HA1.out.drew⟩)
  refine rstart (S := (fun w' => (w'.cell? ⟨c, 3, none⟩ = some (.slice (some ⟨q, 0, none⟩) n n) ∧ w'.cell? ⟨c, 4, none⟩ = some (.map (some m)) ∧ w'.cell? ⟨z, 0, none⟩ = some (.int .i64 (i : Int))) ∧ Blk w' q 44 (tcs L) ∧ Blk w' z 125 (plcA i x) ∧ Blk w' c 76 (pcells E))) (by first | with_reducible exact K2.out | with_reducible exact K0.out) (fun hH => ?_)
  refine tk (i := 0) (oi := ⟨some 4, .move (.tmp 0), 29, "change.go:57", #[], none⟩) hH.out (by rintro w ⟨⟨s3, s4, s0⟩, hq7, hz7, hc7⟩; go_simp <;> with_reducible rfl) ?_
  simp only [Act.put, sA, sB, sC]
  refine tk (i := 1) (oi := ⟨some 5, .nilCheck (.tmp 4), 0, "change.go:57", #[⟨0, .data⟩], none⟩) hH.out (by rintro w ⟨⟨s3, s4, s0⟩, hq7, hz7, hc7⟩; go_simp <;> with_reducible rfl) ?_
  simp only [Act.put, sA, sB, sC]
  refine tk (i := 2) (oi := ⟨some 6, .fieldAddr 76 (.tmp 5) 4, 0, "change.go:57", #[⟨1, .data⟩], none⟩) hH.out (by rintro w ⟨⟨s3, s4, s0⟩, hq7, hz7, hc7⟩; go_simp <;> with_reducible rfl) ?_
  simp only [Act.put, sA, sB, sC]
  refine tk (i := 3) (oi := ⟨some 7, .load 74 (.tmp 6), 74, "change.go:57", #[⟨2, .data⟩], none⟩) hH.out (by rintro w ⟨⟨s3, s4, s0⟩, hq7, hz7, hc7⟩; go_simp <;> with_reducible rfl) ?_
  simp only [Act.put, sA, sB, sC]
  refine tk (i := 4) (oi := ⟨some 8, .move (.tmp 0), 29, "change.go:57", #[], none⟩) hH.out (by rintro w ⟨⟨s3, s4, s0⟩, hq7, hz7, hc7⟩; go_simp <;> with_reducible rfl) ?_
  simp only [Act.put, sA, sB, sC]
  refine tk (i := 5) (oi := ⟨some 9, .nilCheck (.tmp 8), 0, "change.go:57", #[⟨4, .data⟩], none⟩) hH.out (by rintro w ⟨⟨s3, s4, s0⟩, hq7, hz7, hc7⟩; go_simp <;> with_reducible rfl) ?_
  simp only [Act.put, sA, sB, sC]
  refine tk (i := 6) (oi := ⟨some 10, .fieldAddr 76 (.tmp 9) 3, 0, "change.go:57", #[⟨5, .data⟩], none⟩) hH.out (by rintro w ⟨⟨s3, s4, s0⟩, hq7, hz7, hc7⟩; go_simp <;> with_reducible rfl) ?_
  simp only [Act.put, sA, sB, sC]
  refine tk (i := 7) (oi := ⟨some 11, .load 57 (.tmp 10), 57, "change.go:57", #[⟨6, .data⟩], none⟩) hH.out (by rintro w ⟨⟨s3, s4, s0⟩, hq7, hz7, hc7⟩; go_simp <;> with_reducible rfl) ?_
  simp only [Act.put, sA, sB, sC]
  refine tk (i := 8) (oi := ⟨some 12, .fieldAddr 125 (.tmp 3) 0, 0, "change.go:57", #[], none⟩) hH.out (by rintro w ⟨⟨s3, s4, s0⟩, hq7, hz7, hc7⟩; go_simp <;> with_reducible rfl) ?_
  simp only [Act.put, sA, sB, sC]
  refine tk (i := 9) (oi := ⟨some 13, .load 3 (.tmp 12), 3, "change.go:57", #[⟨8, .data⟩], none⟩) hH.out (by rintro w ⟨⟨s3, s4, s0⟩, hq7, hz7, hc7⟩; go_simp <;> with_reducible rfl) ?_
  simp only [Act.put, sA, sB, sC]
  refine tk (i := 10) (oi := ⟨some 14, .indexAddr 57 (.tmp 11) (.tmp 13), 0, "change.go:57", #[⟨7, .data⟩, ⟨9, .data⟩], none⟩) hH.out (by rintro w ⟨⟨s3, s4, s0⟩, hq7, hz7, hc7⟩; go_simp <;> with_reducible rfl) ?_
  simp only [Act.put, sA, sB, sC]
  refine tk (i := 11) (oi := ⟨some 15, .fieldAddr 44 (.tmp 14) 1, 0, "change.go:57", #[⟨10, .data⟩], none⟩) hH.out (by rintro w ⟨⟨s3, s4, s0⟩, hq7, hz7, hc7⟩; go_simp <;> with_reducible rfl) ?_
  simp only [Act.put, sA, sB, sC]
  refine wpAnyH_take (i := 12) (oi := ⟨some 16, .load 37 (.tmp 15), 37, "change.go:57", #[⟨11, .data⟩], none⟩) (v := .agg (bkc (bkT (L[i]'HI.out)))) rfl (by kernel_rfl) (by kernel_rfl) (by kernel_rfl) (fun _ _ _ h => h) (gyl_load rfl (.tmp 15) rfl q rfl (fun _ h => h.2.1.bk7 HI.out) Tryz.underlying37 rfl sizeBk rfl) hH.out ?_
  simp only [Act.put, sA, sB, sC]
  refine rdy (i := 13) (oi := ⟨none, .call ⟨.builtin .delete, #[.tmp 7, .tmp 16], #[74, 37]⟩, 0, "change.go:57", #[⟨3, .data⟩, ⟨12, .data⟩], none⟩) (fun K hK => ?_)
  refine pst_del rfl _ _ rfl m i L HM1.out HWL.out HI.out rfl rfl ?_
  intro w2 hm2 ha2
  have HM2 := Lib.hid hm2
  have HA2 := Lib.hid ha2
  have K2 := Lib.hid (show (w2.cell? ⟨c, 3, none⟩ = some (.slice (some ⟨q, 0, none⟩) n n) ∧ w2.cell? ⟨c, 4, none⟩ = some (.map (some m)) ∧ w2.cell? ⟨z, 0, none⟩ = some (.int .i64 (i : Int))) ∧ Blk w2 q 44 (tcs L) ∧ Blk w2 z 125 (plcA i x) ∧ Blk w2 c 76 (pcells E) from (fun k => ⟨⟨((K0.out.2.2.2.far1 ha2 HNE.out.2.1).cell 3).trans HC3.out, ((K0.out.2.2.2.far1 ha2 HNE.out.2.1).cell 4).trans HC4.out, (K0.out.2.2.1.far1 ha2 k).pl0⟩, K0.out.2.1.far1 ha2 HNE.out.2.2, K0.out.2.2.1.far1 ha2 k, K0.out.2.2.2.far1 ha2 HNE.out.2.1⟩) (by have := HZL.out; omega))
  clear hm2 ha2
  refine hK.out _ _ (by first | with_reducible exact K2.out | with_reducible exact K0.out) (fun hHeld => ?_)
  replace hH := Lib.hid hHeld
  clear hK K hHeld
  try simp only [Act.put]
  refine wpAnyH_done (by kernel_rfl) ?_ _
  go_upto_region 2 with (fail)
  have K3 := Lib.hid (show (w2.drew.cell? ⟨c, 3, none⟩ = some (.slice (some ⟨q, 0, none⟩) n n) ∧ w2.drew.cell? ⟨c, 4, none⟩ = some (.map (some m)) ∧ w2.drew.cell? ⟨z, 0, none⟩ = some (.int .i64 (i : Int))) ∧ Blk w2.drew q 44 (tcs L) ∧ Blk w2.drew z 125 (plcA i x) ∧ Blk w2.drew c 76 (pcells E) from K2.out)
  refine rstart (S := (fun w' => (w'.cell? ⟨c, 3, none⟩ = some (.slice (some ⟨q, 0, none⟩) n n) ∧ w'.cell? ⟨c, 4, none⟩ = some (.map (some m)) ∧ w'.cell? ⟨z, 0, none⟩ = some (.int .i64 (i : Int))) ∧ (∃ L', Blk w' q 44 (tcs L')) ∧ Blk w' z 125 (plcA i x) ∧ Blk w' c 76 (pcells E))) (by first | with_reducible exact K4.out | with_reducible exact ⟨K3.out.1, ⟨_, K3.out.2.1⟩, K3.out.2.2⟩) (fun hH => ?_)
  refine tk (i := 0) (oi := ⟨some 17, .move (.tmp 0), 29, "change.go:58", #[], none⟩) hH.out (by rintro w ⟨⟨s3, s4, s0⟩, hq7, hz7, hc7⟩; go_simp <;> with_reducible rfl) ?_
  simp only [Act.put, sA, sB, sC]
  refine tk (i := 1) (oi := ⟨some 18, .nilCheck (.tmp 17), 0, "change.go:58", #[⟨0, .data⟩], none⟩) hH.out (by rintro w ⟨⟨s3, s4, s0⟩, hq7, hz7, hc7⟩; go_simp <;> with_reducible rfl) ?_
  simp only [Act.put, sA, sB, sC]
  refine tk (i := 2) (oi := ⟨some 19, .fieldAddr 76 (.tmp 18) 3, 0, "change.go:58", #[⟨1, .data⟩], none⟩) hH.out (by rintro w ⟨⟨s3, s4, s0⟩, hq7, hz7, hc7⟩; go_simp <;> with_reducible rfl) ?_
  simp only [Act.put, sA, sB, sC]
  refine tk (i := 3) (oi := ⟨some 20, .load 57 (.tmp 19), 57, "change.go:58", #[⟨2, .data⟩], none⟩) hH.out (by rintro w ⟨⟨s3, s4, s0⟩, hq7, hz7, hc7⟩; go_simp <;> with_reducible rfl) ?_
  simp only [Act.put, sA, sB, sC]
  refine tk (i := 4) (oi := ⟨some 21, .fieldAddr 125 (.tmp 3) 0, 0, "change.go:58", #[], none⟩) hH.out (by rintro w ⟨⟨s3, s4, s0⟩, hq7, hz7, hc7⟩; go_simp <;> with_reducible rfl) ?_
  simp only [Act.put, sA, sB, sC]
  refine tk (i := 5) (oi := ⟨some 22, .load 3 (.tmp 21), 3, "change.go:58", #[⟨4, .data⟩], none⟩) hH.out (by rintro w ⟨⟨s3, s4, s0⟩, hq7, hz7, hc7⟩; go_simp <;> with_reducible rfl) ?_
  simp only [Act.put, sA, sB, sC]
  refine tk (i := 6) (oi := ⟨some 23, .fieldAddr 125 (.tmp 3) 1, 0, "change.go:58", #[], none⟩) hH.out (by rintro w ⟨⟨s3, s4, s0⟩, hq7, hz7, hc7⟩; go_simp <;> with_reducible rfl) ?_
  simp only [Act.put, sA, sB, sC]
  refine wpAnyH_take (i := 7) (oi := ⟨some 24, .load 44 (.tmp 23), 44, "change.go:58", #[⟨6, .data⟩], none⟩) (v := .agg (tc x)) rfl (by kernel_rfl) (by kernel_rfl) (by kernel_rfl) (fun _ _ _ h => h) (gyl_load rfl (.tmp 23) rfl z rfl (fun _ h => h.2.2.1.pl1) Tryz.underlying44 rfl sizeT (tc_size x)) hH.out ?_
  simp only [Act.put, sA, sB, sC]
  refine tk (i := 8) (oi := ⟨some 25, .indexAddr 57 (.tmp 20) (.tmp 22), 0, "change.go:58", #[⟨3, .data⟩, ⟨5, .data⟩, ⟨0, .phase⟩, ⟨1, .phase⟩, ⟨2, .phase⟩, ⟨3, .phase⟩, ⟨4, .phase⟩, ⟨5, .phase⟩, ⟨6, .phase⟩, ⟨7, .phase⟩], none⟩) hH.out (by rintro w ⟨⟨s3, s4, s0⟩, hq7, hz7, hc7⟩; go_simp <;> with_reducible rfl) ?_
  simp only [Act.put, sA, sB, sC]
  refine rdy (i := 9) (oi := ⟨none, .store 44 (.tmp 25) (.tmp 24), 0, "change.go:58", #[⟨8, .data⟩, ⟨7, .data⟩, ⟨0, .phase⟩, ⟨1, .phase⟩, ⟨2, .phase⟩, ⟨3, .phase⟩, ⟨4, .phase⟩, ⟨5, .phase⟩, ⟨6, .phase⟩, ⟨7, .phase⟩], none⟩) (fun K hK => ?_)
  refine rst_store rfl _ _ rfl q i x K3.out.2.1 HI.out rfl rfl ?_
  intro w4 hb4 ha4
  have HQ4 := Lib.hid hb4
  have HA4 := Lib.hid ha4
  have HM4 := Lib.hid (show Mb w4 m (L.set i zeroT) from HM2.out.keep (ha4.block m HM2.out.lt HNE.out.2.2.symm))
  have K4 := Lib.hid (show (w4.cell? ⟨c, 3, none⟩ = some (.slice (some ⟨q, 0, none⟩) n n) ∧ w4.cell? ⟨c, 4, none⟩ = some (.map (some m)) ∧ w4.cell? ⟨z, 0, none⟩ = some (.int .i64 (i : Int))) ∧ (∃ L', Blk w4 q 44 (tcs L')) ∧ Blk w4 z 125 (plcA i x) ∧ Blk w4 c 76 (pcells E) from (fun k => ⟨⟨((K3.out.2.2.2.far1 ha4 HNE.out.1).cell 3).trans HC3.out, ((K3.out.2.2.2.far1 ha4 HNE.out.1).cell 4).trans HC4.out, (K3.out.2.2.1.far1 ha4 k).pl0⟩, ⟨_, hb4⟩, K3.out.2.2.1.far1 ha4 k, K3.out.2.2.2.far1 ha4 HNE.out.1⟩) (by have := HZL.out; omega))
  clear hb4 ha4
  refine hK.out _ _ (by first | with_reducible exact K4.out | with_reducible exact ⟨K3.out.1, ⟨_, K3.out.2.1⟩, K3.out.2.2⟩) (fun hHeld => ?_)
  replace hH := Lib.hid hHeld
  clear hK K hHeld
  try simp only [Act.put]
  refine wpAnyH_done (by kernel_rfl) ?_ _
  have HA24 := Lib.hid ((((adv_wk (G := QM E) HA1.out).drew.trans (adv_Q1 E HQM.out.2 HA2.out)).drew).trans (adv_Q1 E HQM.out.1 HA4.out))
  by_cases hx : x = zeroT
  · have HX := Lib.hid hx
    rw [decide_eq_true hx] at HFR
    clear hx
    go_wp2_with (first
      | (refine gop_load rfl _ rfl z K4.out.2.2.1.pl1 rfl Tryz.underlying44 rfl sizeT (tc_size x) ?_)
      | (go_at_call 33; refine (HFR.out _).mono ?_; rintro e w5 ⟨rfl, a5⟩; have HA5 := Lib.hid a5; clear a5)
      | fail)
    exact bodyPost_end (results_none rfl _ _ _) rfl ⟨rfl, HFIN.out _ (HQ4.out.over HA5.out) (by have := HM4.out.keep (HA5.out.block m HM4.out.lt (fun x => x)); rw [HX.out]; exact this) (HA24.out.trans (adv_wk HA5.out))⟩
  · have HX := Lib.hid hx
    rw [decide_eq_false hx] at HFR
    clear hx
    go_upto_region 4 with (first
      | (refine gop_load rfl _ rfl z K4.out.2.2.1.pl1 rfl Tryz.underlying44 rfl sizeT (tc_size x) ?_)
      | (go_at_call 33; refine (HFR.out _).mono ?_; rintro e w5 ⟨rfl, a5⟩; have HA5 := Lib.hid a5; clear a5)
      | fail)
    have HM5 := Lib.hid (show Mb w5.drew m (L.set i zeroT) from HM4.out.keep (HA5.out.block m HM4.out.lt (fun x => x)))
    have HQ5 := Lib.hid (show Blk w5.drew q 44 (tcs (L.set i x)) from HQ4.out.over HA5.out.drew)
    have K5 := Lib.hid (show (w5.drew.cell? ⟨c, 4, none⟩ = some (.map (some m)) ∧ w5.drew.cell? ⟨z, 0, none⟩ = some (.int .i64 (i : Int))) ∧ Blk w5.drew z 125 (plcA i x) ∧ Blk w5.drew c 76 (pcells E) from
      ⟨⟨((K4.out.2.2.2.over HA5.out.drew).cell 4).trans HC4.out, (K4.out.2.2.1.over HA5.out.drew).pl0⟩, K4.out.2.2.1.over HA5.out.drew, K4.out.2.2.2.over HA5.out.drew⟩)
    refine rstart (S := (fun w' => (w'.cell? ⟨c, 4, none⟩ = some (.map (some m)) ∧ w'.cell? ⟨z, 0, none⟩ = some (.int .i64 (i : Int))) ∧ Blk w' z 125 (plcA i x) ∧ Blk w' c 76 (pcells E))) (by first | with_reducible exact K6.out | with_reducible exact K5.out) (fun hH => ?_)
    refine tk (i := 0) (oi := ⟨some 30, .move (.tmp 0), 29, "change.go:60", #[], none⟩) hH.out (by rintro w ⟨⟨s4, s0⟩, hz7, hc7⟩; go_simp <;> with_reducible rfl) ?_
    simp only [Act.put, sA, sB, sC]
    refine tk (i := 1) (oi := ⟨some 31, .nilCheck (.tmp 30), 0, "change.go:60", #[⟨0, .data⟩], none⟩) hH.out (by rintro w ⟨⟨s4, s0⟩, hz7, hc7⟩; go_simp <;> with_reducible rfl) ?_
    simp only [Act.put, sA, sB, sC]
    refine tk (i := 2) (oi := ⟨some 32, .fieldAddr 76 (.tmp 31) 4, 0, "change.go:60", #[⟨1, .data⟩], none⟩) hH.out (by rintro w ⟨⟨s4, s0⟩, hz7, hc7⟩; go_simp <;> with_reducible rfl) ?_
    simp only [Act.put, sA, sB, sC]
    refine tk (i := 3) (oi := ⟨some 33, .load 74 (.tmp 32), 74, "change.go:60", #[⟨2, .data⟩], none⟩) hH.out (by rintro w ⟨⟨s4, s0⟩, hz7, hc7⟩; go_simp <;> with_reducible rfl) ?_
    simp only [Act.put, sA, sB, sC]
    refine tk (i := 4) (oi := ⟨some 34, .fieldAddr 125 (.tmp 3) 1, 0, "change.go:60", #[], none⟩) hH.out (by rintro w ⟨⟨s4, s0⟩, hz7, hc7⟩; go_simp <;> with_reducible rfl) ?_
    simp only [Act.put, sA, sB, sC]
    refine tk (i := 5) (oi := ⟨some 35, .fieldAddr 44 (.tmp 34) 1, 0, "change.go:60", #[⟨4, .data⟩], none⟩) hH.out (by rintro w ⟨⟨s4, s0⟩, hz7, hc7⟩; go_simp <;> with_reducible rfl) ?_
    simp only [Act.put, sA, sB, sC]
    refine wpAnyH_take (i := 6) (oi := ⟨some 36, .load 37 (.tmp 35), 37, "change.go:60", #[⟨5, .data⟩], none⟩) (v := .agg (bkc (bkT x))) rfl (by kernel_rfl) (by kernel_rfl) (by kernel_rfl) (fun _ _ _ h => h) (gyl_load rfl (.tmp 35) rfl z rfl (fun _ h => h.2.1.pl2) Tryz.underlying37 rfl sizeBk rfl) hH.out ?_
    simp only [Act.put, sA, sB, sC]
    refine tk (i := 7) (oi := ⟨some 37, .fieldAddr 125 (.tmp 3) 0, 0, "change.go:60", #[], none⟩) hH.out (by rintro w ⟨⟨s4, s0⟩, hz7, hc7⟩; go_simp <;> with_reducible rfl) ?_
    simp only [Act.put, sA, sB, sC]
    refine tk (i := 8) (oi := ⟨some 38, .load 3 (.tmp 37), 3, "change.go:60", #[⟨7, .data⟩], none⟩) hH.out (by rintro w ⟨⟨s4, s0⟩, hz7, hc7⟩; go_simp <;> with_reducible rfl) ?_
    simp only [Act.put, sA, sB, sC]
    refine rdy (i := 9) (oi := ⟨none, .mapUpdate 74 (.tmp 33) (.tmp 36) (.tmp 38), 0, "change.go:60", #[⟨3, .data⟩, ⟨6, .data⟩, ⟨8, .data⟩, ⟨0, .phase⟩, ⟨1, .phase⟩, ⟨2, .phase⟩, ⟨3, .phase⟩, ⟨4, .phase⟩, ⟨5, .phase⟩, ⟨6, .phase⟩, ⟨7, .phase⟩, ⟨8, .phase⟩], none⟩) (fun K hK => ?_)
    refine pst_upd rfl _ _ _ rfl m i L x HM5.out HWL.out HK.out HX.out HLN.out rfl rfl rfl ?_
    intro w6 hm6 ha6
    have HM6 := Lib.hid hm6
    have HA6 := Lib.hid ha6
    have K6 := Lib.hid (show (w6.cell? ⟨c, 4, none⟩ = some (.map (some m)) ∧ w6.cell? ⟨z, 0, none⟩ = some (.int .i64 (i : Int))) ∧ Blk w6 z 125 (plcA i x) ∧ Blk w6 c 76 (pcells E) from (fun k => ⟨⟨((K5.out.2.2.far1 ha6 HNE.out.2.1).cell 4).trans HC4.out, (K5.out.2.1.far1 ha6 k).pl0⟩, K5.out.2.1.far1 ha6 k, K5.out.2.2.far1 ha6 HNE.out.2.1⟩) (by have := HZL.out; omega))
    clear hm6 ha6
    refine hK.out _ _ (by first | with_reducible exact K6.out | with_reducible exact K5.out) (fun hHeld => ?_)
    replace hH := Lib.hid hHeld
    clear hK K hHeld
    try simp only [Act.put]
    refine wpAnyH_done (by kernel_rfl) ?_ _
    go_wp2_with fail
    exact bodyPost_end (results_none rfl _ _ _) rfl ⟨rfl, HFIN.out _ (HQ5.out.far1 HA6.out HNE.out.2.2) HM6.out (((HA24.out.trans (adv_wk HA5.out)).drew).trans (adv_Q1 E HQM.out.2 HA6.out))⟩
set_option maxRecDepth 3000 in
set_option maxHeartbeats 1600000 in
theorem use_p {w : World} {E : PE} (h : Pk w E) {i : Nat} (hi : i < E.L.length) : Calls Tryz.prog 68 #[.pointer (some ⟨E.c, 0, none⟩), .int .i64 (i : Int)] w fun e w' => e = .returned (.tuple #[]) ∧ Pk w' (E.setR (useR E.R i E.L[i].d)) ∧ Adv E.V w E.V w' := by
  have hr : hereC E.R (i : Int) := ⟨by omega, by rw [h.ln.2.2]; omega⟩
  have e0 : doC 0 E.R (i : Int) = doS 0 E.R i := by unfold doC; rw [if_pos hr, Int.toNat_natCast]
  have hr2 : hereC (doS 0 E.R i) (i : Int) := ⟨by omega, by rw [doS_n, h.ln.2.2]; omega⟩
  have e3 : doC 3 (doS 0 E.R i) (i : Int) = doS 3 (doS 0 E.R i) i := by unfold doC; rw [if_pos hr2, Int.toNat_natCast]
  have HU := Lib.hid ((cuse_any (i : Int) w E.r E.R h.cl).mono (R' := fun e w' => e = .returned (.int .i64 (doE 0 E.R (i : Int))) ∧ Pk w' (E.setR (doS 0 E.R i)) ∧ Adv E.V w E.V w') fun e w' ⟨a, b, c⟩ => ⟨a, by rw [e0] at b; exact h.ring b (doS_n _ _ _) c⟩)
  have HP := Lib.hid (fun w1 (k : Pk w1 (E.setR (doS 0 E.R i))) => (cpin_any (i : Int) w1 E.r (doS 0 E.R i) k.cl).mono (R' := fun e w' => e = .returned (.int .i64 (doE 3 (doS 0 E.R i) (i : Int))) ∧ Pk w' (E.setR (doS 3 (doS 0 E.R i) i)) ∧ Adv E.V w1 E.V w') fun e w' ⟨a, b, c⟩ => ⟨a, by rw [e3] at b; exact k.ring b (by rw [doS_n]; rfl) c⟩)
  have HC := Lib.hid (fun w1 (k : Pk w1 (E.setR (doS 0 E.R i))) => And.intro k.c1 (And.intro k.c3 (show w1.cell? ⟨E.q, i * 7 + 5, none⟩ = some (.bool (E.L[i]'hi).d) from k.sl.d7 hi)))
  have c1 := h.c1
  have hn64 : (E.L.length : Int) ≤ 64 := by have := h.ln; omega
  have hin : (i : Int) < (E.L.length : Int) := by omega
  unfold useR
  generalize doE 0 E.R (i : Int) = e1 at HU
  generalize doE 3 (doS 0 E.R i) (i : Int) = e2 at HP
  obtain ⟨dd, hdd⟩ : ∃ dd, dd = (E.L[i]'hi).d := ⟨_, rfl⟩
  rw [← hdd] at HC ⊢
  obtain ⟨E1, hE1⟩ : ∃ E1, E1 = E.setR (doS 0 E.R i) := ⟨_, rfl⟩
  obtain ⟨E2, hE2⟩ : ∃ E2, E2 = E.setR (doS 3 (doS 0 E.R i) i) := ⟨_, rfl⟩
  have HE1 := Lib.hid hE1
  have HE2 := Lib.hid hE2
  rw [← hE1] at HU HP HC
  rw [← hE2] at HP
  have HC1 := Lib.hid (fun w1 (k : Pk w1 E1) => show w1.cell? ⟨E.c, 1, none⟩ = some (.pointer (some ⟨E.r, 0, none⟩)) by have := (HC.out w1 k).1; rw [HE1.out] at this; exact this)
  have HC3 := Lib.hid (fun w1 (k : Pk w1 E1) => show w1.cell? ⟨E.c, 3, none⟩ = some (.slice (some ⟨E.q, 0, none⟩) E.L.length E.L.length) by have := (HC.out w1 k).2.1; rw [HE1.out] at this; exact this)
  generalize E.L.length = n at HC3 hn64 hin
  generalize E.c = c at c1 HC1 HC3 ⊢
  generalize E.r = r at c1 HC1 HU HP
  clear hr e0 hr2 e3 hdd hE1 hE2 h hi
  cases dd with
  | true =>
    rw [if_pos rfl, ← HE2.out]
    go_enter Tryz.func68, Tryz.ntmps68
    go_wp2_with (first
      | (go_at_call 97; refine HU.out.mono ?_; rintro e w1 ⟨rfl, k1, a1⟩; have HK1 := Lib.hid k1; have HA1 := Lib.hid a1; have d1 := HC1.out w1 k1; have d3 := HC3.out w1 k1; have d5 := (HC.out w1 k1).2.2; clear k1 a1 c1)
      | (go_at_call 98; refine (HP.out w1 HK1.out).mono ?_; rintro e w2 ⟨rfl, k2, a2⟩; have HK2 := Lib.hid k2; have HA2 := Lib.hid (HA1.out.trans a2); clear k2 a2)
      | fail)
    exact bodyPost_end (results_none rfl _ _ _) rfl ⟨rfl, HK2.out, HA2.out⟩
  | false =>
    rw [if_neg (by decide), ← HE1.out]
    go_enter Tryz.func68, Tryz.ntmps68
    go_wp2_with (first
      | (go_at_call 97; refine HU.out.mono ?_; rintro e w1 ⟨rfl, k1, a1⟩; have HK1 := Lib.hid k1; have HA1 := Lib.hid a1; have d1 := HC1.out w1 k1; have d3 := HC3.out w1 k1; have d5 := (HC.out w1 k1).2.2; clear k1 a1 c1)
      | fail)
    exact bodyPost_end (results_none rfl _ _ _) rfl ⟨rfl, HK1.out, HA1.out⟩
end Go.Proofs.YtcglfknkkeaegaaGreatDoor
namespace Go.Proofs.YtcglfknkkeaegaaGreatDoor
open Go.RowKit Go.Maps
/-- what the log answers, what it leaves -/
def PWr (w : World) (E : PE) (r : (DS × LS) × Int) (e : Ending) (w' : World) : Prop := e = .returned (.int .i64 r.2) ∧ ∃ F', Pk w' (E.log F' r.1.1 r.1.2) ∧ Adv E.V w (E.log F' r.1.1 r.1.2).V w'
set_option maxRecDepth 3000 in
theorem Pk.wrR {w w' : World} {E : PE} {r : (DS × LS) × Int} {e : Ending} (h : Pk w E) (k : WrR w E.F E.d E.l E.b E.n E.N r e w') : PWr w E r e w' := by
  obtain ⟨h1, F', h2, h3⟩ := k
  exact ⟨h1, F', h.log h2 h3⟩
set_option maxRecDepth 3000 in
theorem QRd.advV {w w' : World} {E E' : PE} {v : Value} {ps : List Pt} (h : QRd w E.V v ps) (ha : Adv E.V w E'.V w') : QRd w' E'.V v ps := h.adv ha (fun _ x => x) (fun k hk => ha.into k hk)
set_option maxRecDepth 3000 in
theorem QRd.toU {w : World} {E : PE} {v : Value} {ps : List Pt} (h : QRd w E.V v ps) : QRd w E.U v ps := by
  obtain ⟨A, k, e, h1, h2, h3⟩ := h
  refine ⟨A, k, e, h1, h2, fun hn => ?_⟩
  obtain ⟨b, o, e2, ⟨h4, h5⟩, h6⟩ := h3 hn
  refine ⟨b, o, e2, ⟨h4, fun x => h5 (.inl x)⟩, fun i hi => ?_⟩
  obtain ⟨a, q, c0, c1, c2, c3⟩ := h6 i hi
  exact ⟨a, q, c0, c1, c2, fun k hk hn x => c3 k hk hn (.inl x)⟩
set_option maxRecDepth 3000 in
set_option maxHeartbeats 3200000 in
theorem write_p {w : World} {E : PE} {ps : List Pt} {A0 : Option Addr} {M k0 : Nat} (h : Pk w E) (hw : WOk E.n E.N E.s E.g) (hq : QRd w E.V (.slice A0 M k0) ps) (h8 : ∀ p ∈ ps, ∀ x ∈ p.d, x < 256) :
    Calls Tryz.prog 71 #[.pointer (some ⟨E.c, 0, none⟩), .slice A0 M k0] w (PWr w E (wrtG E.s E.n E.N E.g ps)) := by
  obtain ⟨AA, kk, eq1, hk1, hk2, _⟩ := id hq
  obtain rfl : M = ps.length := by injection eq1
  have HE := Lib.hid h
  have HQ := Lib.hid hq
  have HW := Lib.hid hw
  obtain ⟨M, hk⟩ : ∃ M, M = ps.length := ⟨_, rfl⟩
  rw [← hk] at HQ ⊢
  have HK := Lib.hid hk
  have hk9 : (M : Int) ≤ 9223372036854775807 := by rw [hk]; injection eq1 with _ _ e3; unfold maxLen at hk2; omega
  have HWR := Lib.hid (fun W E1 (r : Pk W E1) (ok : GOk E1.n E1.N E1.s E1.g) (q : QRd W E1.V (.slice A0 M k0) ps) => (gwrite_lg E1.l E1.b E1.d E1.n E1.N E1.g E1.F E1.s A0 M k0 ps W r.rs ok q.toU h8).mono (R' := PWr W E1 (writeG E1.s E1.n E1.N E1.g ps)) fun e w' k => r.wrR k)
  have HC0 := Lib.hid (fun W E1 (r : Pk W E1) => r.c0)
  have c0 := h.c0
  clear h hw hq h8 eq1 hk1 hk2 hk
  obtain ⟨c, hc⟩ : ∃ c, c = E.c := ⟨_, rfl⟩
  obtain ⟨l, hl⟩ : ∃ c, c = E.l := ⟨_, rfl⟩
  have HCC := Lib.hid (fun W F s g (r : Pk W (E.log F s g)) => show W.cell? ⟨c, 0, none⟩ = some (.pointer (some ⟨l, 0, none⟩)) by rw [hc, hl]; exact r.c0)
  rw [← hc, ← hl] at c0
  rw [← hc]
  have HLL := Lib.hid hl
  clear hc hl
  by_cases hk0 : M = 0
  · have HG := Lib.hid (show wrtG E.s E.n E.N E.g ps = ((E.s, E.g), 0) by unfold wrtG; rw [if_pos (by rw [← HK.out]; exact hk0)])
    rw [HG.out]
    subst hk0
    clear HWR c0
    go_enter Tryz.func71, Tryz.ntmps71
    go_wp2_with fail
    go_ret
    exact ⟨rfl, E.F, HE.out, Adv.refl _ _⟩
  · have hkb : ((M : Int) == 0) = false := by rw [beq_eq_false_iff_ne]; omega
    have HG := Lib.hid (show wrtG E.s E.n E.N E.g ps = (if (writeG E.s E.n E.N E.g ps).2 = 8 then (if (checkG E.s E.n E.N E.g).2 = 0 then writeG (checkG E.s E.n E.N E.g).1.1 E.n E.N (checkG E.s E.n E.N E.g).1.2 ps else checkG E.s E.n E.N E.g) else writeG E.s E.n E.N E.g ps) by unfold wrtG; rw [if_neg (by rw [← HK.out]; exact hk0)])
    rw [HG.out]
    clear hk0
    by_cases h8 : (writeG E.s E.n E.N E.g ps).2 = 8
    · rw [if_pos h8]
      have e1 := writeG_8 h8
      have HW1 := Lib.hid ((HWR.out w E HE.out HW.out.ok HQ.out).mono (R' := fun e w' => e = .returned (.int .i64 8) ∧ ∃ F', Pk w' (E.log F' E.s E.g) ∧ Adv E.V w (E.log F' E.s E.g).V w') fun e w' ⟨x1, F', x2, x3⟩ => ⟨by rw [x1, h8], F', by rw [e1] at x2; exact x2, by rw [e1] at x3; exact x3⟩)
      have HCK := Lib.hid (fun W F1 (r : Pk W (E.log F1 E.s E.g)) => (gcheck_lg E.l E.b E.d E.n E.N E.g F1 E.s W r.rs ⟨HW.out.ok.hn.1, HW.out.ok.hn.2.1, HW.out.ok.hn.2.2⟩ HW.out.A HW.out.q HW.out.hg (by have := HW.out.ok.nx; omega) (by have := HW.out.ok.ep; omega)).mono (R' := PWr W (E.log F1 E.s E.g) (checkG E.s E.n E.N E.g)) fun e w' k => r.wrR k)
      clear h8 e1
      by_cases hc0 : (checkG E.s E.n E.N E.g).2 = 0
      · rw [if_pos hc0]
        have HOK2 := Lib.hid (HW.out.ok2 hc0)
        obtain ⟨s2, hs2⟩ : ∃ s2, s2 = (checkG E.s E.n E.N E.g).1.1 := ⟨_, rfl⟩
        obtain ⟨g2, hg2⟩ : ∃ g2, g2 = (checkG E.s E.n E.N E.g).1.2 := ⟨_, rfl⟩
        have HCK2 := Lib.hid (fun W F1 (r : Pk W (E.log F1 E.s E.g)) => (HCK.out W F1 r).mono (R' := fun e w' => e = .returned (.int .i64 0) ∧ ∃ F', Pk w' (E.log F' s2 g2) ∧ Adv (E.log F1 E.s E.g).V W (E.log F' s2 g2).V w') fun e w' ⟨x1, F', x2, x3⟩ => ⟨by rw [x1, hc0], F', by rw [hs2, hg2]; exact x2, by rw [hs2, hg2]; exact x3⟩)
        rw [← hs2, ← hg2] at HOK2 ⊢
        have HWR2 := Lib.hid (fun W F1 (r : Pk W (E.log F1 s2 g2)) (q : QRd W (E.log F1 s2 g2).V (.slice A0 M k0) ps) => HWR.out W (E.log F1 s2 g2) r HOK2.out q)
        obtain ⟨R, hR⟩ : ∃ R, R = writeG s2 E.n E.N g2 ps := ⟨_, rfl⟩
        have HWR3 := Lib.hid (fun W F1 (r : Pk W (E.log F1 s2 g2)) (q : QRd W (E.log F1 s2 g2).V (.slice A0 M k0) ps) => (HWR2.out W F1 r q).mono (R' := fun e w' => e = .returned (.int .i64 R.2) ∧ ∃ F', Pk w' (E.log F' R.1.1 R.1.2) ∧ Adv (E.log F1 s2 g2).V W (E.log F' R.1.1 R.1.2).V w') fun e w' ⟨x1, F', x2, x3⟩ => ⟨by rw [hR]; exact x1, F', by rw [hR]; exact x2, by rw [hR]; exact x3⟩)
        rw [← hR]
        clear hc0 hs2 hg2 HCK hR HWR HWR2
        rw [HLL.out] at c0
        have HCC2 := Lib.hid (fun W F s g (r : Pk W (E.log F s g)) => show W.cell? ⟨c, 0, none⟩ = some (.pointer (some ⟨E.l, 0, none⟩)) by have := HCC.out W F s g r; rw [HLL.out] at this; exact this)
        go_enter Tryz.func71, Tryz.ntmps71
        go_wp2_with (first
          | (go_at_call 100; refine HW1.out.mono ?_; rintro r w2 ⟨rfl, F2, hr2, ha2⟩; have HR2 := Lib.hid hr2; have HA2 := Lib.hid ha2; have HQ2 := Lib.hid (HQ.out.advV ha2); have c02 := HCC2.out w2 _ _ _ hr2; clear hr2 ha2 HW1)
          | (go_at_call 101; refine (HCK2.out w2 F2 HR2.out).mono ?_; rintro r w3 ⟨rfl, F3, hr3, ha3⟩; have HR3 := Lib.hid hr3; have HA3 := Lib.hid ha3; have HQ3 := Lib.hid (HQ2.out.advV ha3); have c03 := HCC2.out w3 _ _ _ hr3; clear hr3 ha3)
          | (go_at_call 100; refine (HWR3.out w3 F3 HR3.out HQ3.out).mono ?_; rintro r w4 ⟨rfl, F4, hr4, ha4⟩; have HR4 := Lib.hid hr4; have HA4 := Lib.hid ha4; clear hr4 ha4)
          | fail)
        go_ret
        exact ⟨rfl, F4, HR4.out, (HA2.out.trans HA3.out).trans HA4.out⟩
      · rw [if_neg hc0]
        have hcb : ((checkG E.s E.n E.N E.g).2 != 0) = true := by rw [bne_iff_ne]; exact hc0
        obtain ⟨R, hR⟩ : ∃ R, R = checkG E.s E.n E.N E.g := ⟨_, rfl⟩
        unfold PWr at HCK
        rw [← hR] at HCK hcb ⊢
        obtain ⟨⟨s2, g2⟩, er⟩ := R
        simp only at HCK hcb ⊢
        clear hc0 hR HWR
        rw [HLL.out] at c0
        have HCC2 := Lib.hid (fun W F s g (r : Pk W (E.log F s g)) => show W.cell? ⟨c, 0, none⟩ = some (.pointer (some ⟨E.l, 0, none⟩)) by have := HCC.out W F s g r; rw [HLL.out] at this; exact this)
        go_enter Tryz.func71, Tryz.ntmps71
        go_wp2_with (first
          | (go_at_call 100; refine HW1.out.mono ?_; rintro r w2 ⟨rfl, F2, hr2, ha2⟩; have HR2 := Lib.hid hr2; have HA2 := Lib.hid ha2; have c02 := HCC2.out w2 _ _ _ hr2; clear hr2 ha2 HW1)
          | (go_at_call 101; refine (HCK.out w2 F2 HR2.out).mono ?_; rintro r w3 ⟨rfl, F3, hr3, ha3⟩; have HR3 := Lib.hid hr3; have HA3 := Lib.hid ha3; clear hr3 ha3)
          | fail)
        go_ret
        exact ⟨rfl, F3, HR3.out, HA2.out.trans HA3.out⟩
    · rw [if_neg h8]
      have h8b : ((writeG E.s E.n E.N E.g ps).2 != 8) = true := by rw [bne_iff_ne]; exact h8
      have HW1 := Lib.hid (HWR.out w E HE.out HW.out.ok HQ.out)
      obtain ⟨R, hR⟩ : ∃ R, R = writeG E.s E.n E.N E.g ps := ⟨_, rfl⟩
      unfold PWr at HW1
      rw [← hR] at HW1 h8b ⊢
      obtain ⟨⟨s2, g2⟩, er⟩ := R
      simp only at HW1 h8b ⊢
      clear h8 hR HWR
      rw [HLL.out] at c0
      go_enter Tryz.func71, Tryz.ntmps71
      go_wp2_with (first
        | (go_at_call 100; refine HW1.out.mono ?_; rintro r w2 ⟨rfl, F2, hr2, ha2⟩; have HR2 := Lib.hid hr2; have HA2 := Lib.hid ha2; clear hr2 ha2)
        | fail)
      go_ret
      exact ⟨rfl, F2, HR2.out, HA2.out⟩
end Go.Proofs.YtcglfknkkeaegaaGreatDoor
