/- Footprints: which blocks an object has, and that a call changes no others. Over any program. -/
import Derived.Below
import Derived.OwnWalk
import Derived.Laws.OwnMore
import Derived.Laws.Rows
import Derived.Deep.Draws
import Derived.Maps.AppendAt
import Derived.Deep.AppendLies
import Derived.Deep.RegionHeld
import Derived.Lib.Hide
namespace Go.Proofs.Ytpgeebhepegpaaa
open Go.RowKit

/-! A region that draws its order, step by step: what is given by program each time stands in the laws. -/
section
variable {P : Program} {ops : Array Oper} {Q : Exit → Act → World → Prop} {md : Region.Mode} {S : World → Prop} {i : Nat} {fuel : Nat} {listed : Array Bool} {a : Act} {w : World} {oi : Oper}
theorem sA {α : Type _} (l : List α) (i : Nat) (x : α) : l.toArray.setIfInBounds i x = (l.set i x).toArray := List.setIfInBounds_toArray l i x
theorem sB {α : Type _} (x y : α) (l : List α) : (x :: l).set 0 y = y :: l := rfl
theorem sC {α : Type _} (x y : α) (l : List α) (n : Nat) : (x :: l).set (n + 1) y = x :: l.set n y := rfl
theorem rstart {id : Nat} (hS : S w.drew) (h : Hid (S w.drew) → wpAnyH P .any ops Q S ops.size (Array.replicate ops.size false) a w.drew) (hm : P.follows .mixedOrders = true := by kernel_rfl) : (Code.region id ops true).wp P Q a w := wp_region_held_drew hm hS (fun x => h (Lib.hid x))
theorem tk {v : Value} (hS : S w) (hy : ∀ w, S w → (execOp a.eval oi).run P w = .ok (.value v) w) (h : wpAnyH P md ops Q S fuel (listed.setIfInBounds i true) (a.put oi.dst v) w) (hi : ops[i]? = some oi := by exact rfl)
    (hs : Region.noSelect ops = true := by kernel_rfl) (hf : Region.free md ops listed i = true := by kernel_rfl) (hr : (Region.ready md ops listed).contains i = true := by kernel_rfl) (hQ : ∀ c a w, Q (.panic c) (a.put oi.dst v) w → Q (.panic c) a w := by exact fun _ _ _ h => h)
    (hg : Region.wanted oi (yielded ops a.tmps) = true := by rfl) : wpAnyH P md ops Q S (fuel + 1) listed a w := wpAnyH_take hi hs hf hr hQ (.inl ⟨hg, hy⟩) hS h
theorem tks (hS : S w) (h : wpAnyH P md ops Q S fuel (listed.setIfInBounds i true) (a.put oi.dst undef) w) (hi : ops[i]? = some oi := by exact rfl)
    (hs : Region.noSelect ops = true := by kernel_rfl) (hf : Region.free md ops listed i = true := by kernel_rfl) (hr : (Region.ready md ops listed).contains i = true := by kernel_rfl) (hQ : ∀ c a w, Q (.panic c) (a.put oi.dst undef) w → Q (.panic c) a w := by exact fun _ _ _ h => h)
    (hg : Region.wanted oi (yielded ops a.tmps) = false := by rfl) : wpAnyH P md ops Q S (fuel + 1) listed a w := wpAnyH_take hi hs hf hr hQ (.inr ⟨hg, rfl⟩) hS h
theorem rdy (h : ∀ K' : Act → World → Prop, Shut (∀ a w, S w → (S w → wpAnyH P md ops Q S fuel (listed.setIfInBounds i true) a w) → K' a w) → if Region.wanted oi (yielded ops a.tmps) = true then Oper.wp P oi a w K' Q else K' (a.put oi.dst undef) w)
    (ho : ops[i]? = some oi := by exact rfl) (hr : Region.ready md ops listed = [i] := by kernel_rfl) : wpAnyH P md ops Q S (fuel + 1) listed a w := wpAnyH_ready hr (by simp) (AllReadyH.cons ho h AllReadyH.nil)
end

/-- The block g is just the cells cs of type t, none frozen. -/
def Blk (w : World) (g : Nat) (t : TypeId) (cs : Array Value) : Prop := w.heap[g]? = some (.cells cs t (0, 0))

section
variable {w w' : World} {g : Nat} {t : TypeId} {cs : Array Value}
theorem Blk.lt (h : Blk w g t cs) : g < w.heap.size := by
  rcases Nat.lt_or_ge g w.heap.size with hlt | hge
  · exact hlt
  · unfold Blk at h; rw [Array.getElem?_eq_none hge] at h; cases h
theorem Blk.cell (h : Blk w g t cs) (i : Nat) : w.cell? ⟨g, i, none⟩ = cs[i]? := cell_of_row w g i cs t (0, 0) h
theorem Blk.frozen (h : Blk w g t cs) (i : Nat) : w.frozen? ⟨g, i, none⟩ = false := by
  unfold Blk at h
  simp [World.frozen?, h]
theorem Blk.new (w : World) (t : TypeId) (cs : Array Value) : Blk (w.alloc (.cells cs t)) w.heap.size t cs := heap_alloc_new w _
theorem Blk.set_ (h : Blk w g t cs) (i : Nat) (u : Value) : Blk (w.setCell ⟨g, i, none⟩ u) g t (cs.setIfInBounds i u) := by
  unfold Blk at h ⊢
  simp [World.setCell, Array.getElem?_modify, h]
theorem Blk.far (h : Blk w g t cs) {p : Addr} (hp : g ≠ p.block) (u : Value) : Blk (w.setCell p u) g t cs := (Below.heap_setCell w p u g hp).trans h
theorem Blk.alloc (h : Blk w g t cs) (o : Obj) : Blk (w.alloc o) g t cs := (Below.heap_alloc w o g h.lt).trans h
theorem Blk.keep (h : Blk w g t cs) (hb : w'.heap[g]? = w.heap[g]?) : Blk w' g t cs := hb.trans h
theorem Blk.drew (h : Blk w g t cs) : Blk w.drew g t cs := h
theorem Blk.ne_ {g' : Nat} {t' : TypeId} {cs' : Array Value} (h : Blk w g t cs) (h' : Blk w g' t' cs') (hne : t ≠ t') : g ≠ g' := by
  rintro rfl
  unfold Blk at h h'
  rw [h] at h'
  injection h' with h'
  injection h' with _ ht
  exact hne ht
theorem own_blk_ne {base : Nat} {e : TypeId} {size n : Nat} {v : Value} {xs : List Value} (h : w.ownsRow base e size v n xs) (hg : Blk w g t cs) (hne : e ≠ t) : v.ownBlock ≠ some g := by
  rcases h.2 with ⟨rfl, _⟩ | ⟨g', cap, cur, rfl, _, hh, _⟩
  · simp [Value.ownBlock]
  · intro he
    have : g' = g := by simpa [Value.ownBlock] using he
    subst this
    exact Blk.ne_ (t := e) hh hg hne rfl
end

/-- From w to w' nothing but the blocks of F has changed; F' are the blocks that the object has behind it: such as it had, or new ones. -/
structure Adv (F : Nat → Prop) (w : World) (F' : Nat → Prop) (w' : World) : Prop where
  os : w'.os = w.os
  tape : w'.tape = w.tape
  output : w'.output = w.output
  size : w.heap.size ≤ w'.heap.size
  block : ∀ k, k < w.heap.size → ¬ F k → w'.heap[k]? = w.heap[k]?
  into : ∀ k, F' k → F k ∨ w.heap.size ≤ k

/-- Two objects share no block. -/
def Sep (F G : Nat → Prop) : Prop := ∀ k, F k → G k → False
/-- The blocks of an object are there. -/
def Bd (F : Nat → Prop) (w : World) : Prop := ∀ k, F k → k < w.heap.size
def Nul : Nat → Prop := fun _ => False

section
variable {F F' F'' G : Nat → Prop} {w w' w'' : World}
theorem Adv.refl (F : Nat → Prop) (w : World) : Adv F w F w := ⟨rfl, rfl, rfl, Nat.le_refl _, fun _ _ _ => rfl, fun _ h => .inl h⟩
theorem Adv.trans (h : Adv F w F' w') (k : Adv F' w' F'' w'') : Adv F w F'' w'' :=
  ⟨k.os.trans h.os, k.tape.trans h.tape, k.output.trans h.output, Nat.le_trans h.size k.size,
   fun i hi hn => (k.block i (Nat.lt_of_lt_of_le hi h.size) (fun hf => by rcases h.into i hf with h1 | h1; exact hn h1; omega)).trans (h.block i hi hn),
   fun i hi => by
     rcases k.into i hi with h1 | h1
     · exact h.into i h1
     · exact .inr (Nat.le_trans h.size h1)⟩
theorem Adv.sep (h : Adv F w F' w') (hs : Sep F G) (hb : Bd G w) : Sep F' G := fun k h1 h2 => by
  rcases h.into k h1 with h3 | h3
  · exact hs k h3 h2
  · exact absurd (hb k h2) (by omega)
theorem Sep.symm (h : Sep F G) : Sep G F := fun k a b => h k b a
theorem Adv.bd (h : Adv F w F' w') (hb : Bd G w) : Bd G w' := fun k hk => Nat.lt_of_lt_of_le (hb k hk) h.size
theorem Adv.far (h : Adv F w F' w') (hs : Sep F G) (hb : Bd G w) : ∀ k, G k → w'.heap[k]? = w.heap[k]? := fun k hk => h.block k (hb k hk) (fun hf => hs k hf hk)
theorem Adv.below {B : Nat} {w0 : World} (hb : Below B w0 w) (h : Adv F w F' w') (hf : ∀ k, F k → B ≤ k) (hB : B ≤ w.heap.size) : Below B w0 w' :=
  hb.trans ⟨h.os, h.tape, h.output, h.size, fun k hk => h.block k (by omega) (fun hF => by have := hf k hF; omega)⟩
theorem Adv.from_ {B : Nat} (h : Adv F w F' w') (hf : ∀ k, F k → B ≤ k) (hB : B ≤ w.heap.size) : ∀ k, F' k → B ≤ k := fun k hk => by
  rcases h.into k hk with h1 | h1
  · exact hf k h1
  · omega
theorem Adv.of_below (h : Below w.heap.size w w') : Adv F w F w' := ⟨h.os, h.tape, h.output, h.size, fun k hk _ => h.block k hk, fun _ hk => .inl hk⟩
/-- new blocks alone -/
theorem Adv.new_ (h : Below w.heap.size w w') (hn : ∀ k, F' k → w.heap.size ≤ k) : Adv Nul w F' w' := ⟨h.os, h.tape, h.output, h.size, fun k hk _ => h.block k hk, fun k hk => .inr (hn k hk)⟩
theorem Adv.toBelow (h : Adv Nul w F' w') : Below w.heap.size w w' := ⟨h.os, h.tape, h.output, h.size, fun k hk => h.block k hk (fun x => x)⟩
theorem Adv.weak (h : Adv F w F' w') (hG : ∀ k, F k → G k) : Adv G w F' w' := ⟨h.os, h.tape, h.output, h.size, fun k hk hn => h.block k hk (fun hf => hn (hG k hf)), fun k hk => (h.into k hk).imp (hG k) id⟩
theorem Adv.sub (h : Adv F w F' w') (hG : ∀ k, G k → F' k) : Adv F w G w' := ⟨h.os, h.tape, h.output, h.size, h.block, fun k hk => h.into k (hG k hk)⟩
theorem Adv.drew (h : Adv F w F' w') : Adv F w F' w'.drew := ⟨h.os, h.tape, h.output, h.size, h.block, h.into⟩
theorem Adv.drewN (h : Adv F w F' w') (n : Nat) : Adv F w F' (w'.drewN n) := ⟨h.os, h.tape, h.output, h.size, h.block, h.into⟩
theorem Adv.alloc (h : Adv F w F' w') (o : Obj) : Adv F w F' (w'.alloc o) :=
  h.trans ⟨rfl, rfl, rfl, by simp, fun k hk _ => Below.heap_alloc _ _ _ hk, fun _ hk => .inl hk⟩
theorem Adv.setCell (h : Adv F w F' w') {p : Addr} (hp : F p.block ∨ w.heap.size ≤ p.block) (u : Value) : Adv F w F' (w'.setCell p u) :=
  ⟨h.os, h.tape, h.output, by simpa [World.setCell] using h.size, fun k hk hn => (Below.heap_setCell _ _ _ _ (by
    rintro rfl
    rcases hp with hp | hp
    · exact hn hp
    · omega)).trans (h.block k hk hn), h.into⟩
theorem Adv.grown {row : Option Nat} (h : Adv F w F' w') (hg : w'.grownBy w'' row) (hr : ∀ k, row = some k → F k ∨ w.heap.size ≤ k) : Adv F w F' w'' :=
  ⟨hg.os.trans h.os, hg.tape.trans h.tape, hg.output.trans h.output, Nat.le_trans h.size hg.size, fun k hk hn => (hg.block k (Nat.lt_of_lt_of_le hk h.size) (fun e => by
    rcases hr k e.symm with h1 | h1
    · exact hn h1
    · omega)).trans (h.block k hk hn), h.into⟩
end

/-- A slice value over a row of the object's own: n elements of type e, their cells xs. -/
structure Sl (w : World) (F : Nat → Prop) (e : TypeId) (size : Nat) (v : Value) (n : Nat) (xs : List Value) : Prop where
  own : w.ownsRow 0 e size v n xs
  inF : ∀ k, v.ownBlock = some k → F k
  bd : Bd F w

section
variable {F F' G : Nat → Prop} {w w' : World} {e : TypeId} {size n : Nat} {v : Value} {xs : List Value}
theorem own_keep {base : Nat} (h : w.ownsRow base e size v n xs) (hk : ∀ k, v.ownBlock = some k → w'.heap[k]? = w.heap[k]?) : w'.ownsRow base e size v n xs := by
  refine ⟨h.1, ?_⟩
  rcases h.2 with hn | ⟨g, cap, cur, rfl, hb, hgg, rest⟩
  · exact .inl hn
  · exact .inr ⟨g, cap, cur, rfl, hb, (hk g rfl).trans hgg, rest⟩
theorem own_base {base : Nat} (h : w.ownsRow base e size v n xs) : w.ownsRow 0 e size v n xs := by
  refine ⟨h.1, ?_⟩
  rcases h.2 with hn | ⟨g, cap, cur, rfl, hb, rest⟩
  · exact .inl hn
  · exact .inr ⟨g, cap, cur, rfl, Nat.zero_le _, rest⟩
theorem Sl.keep (h : Sl w F e size v n xs) (ha : Adv G w G w') (hs : Sep G F) : Sl w' F e size v n xs :=
  ⟨own_keep h.own fun k hk => ha.far hs h.bd k (h.inF k hk), h.inF, ha.bd h.bd⟩
theorem Sl.far (h : Sl w F e size v n xs) (ha : Adv G w F' w') (hs : Sep G F) : Sl w' F e size v n xs :=
  ⟨own_keep h.own fun k hk => ha.far hs h.bd k (h.inF k hk), h.inF, ha.bd h.bd⟩
theorem Sl.drew (h : Sl w F e size v n xs) : Sl w.drew F e size v n xs := ⟨h.own, h.inF, h.bd⟩
theorem Sl.nil (w : World) (e : TypeId) (size : Nat) : Sl w Nul e size (.slice none 0 0) 0 [] :=
  ⟨World.ownsRow_nil _ _ _ _, by simp [Value.ownBlock], fun _ h => h.elim⟩
theorem Sl.nilF (w : World) (F : Nat → Prop) (hb : Bd F w) (e : TypeId) (size : Nat) : Sl w F e size (.slice none 0 0) 0 [] :=
  ⟨World.ownsRow_nil _ _ _ _, by simp [Value.ownBlock], hb⟩
/-- what an owned slice that is not empty looks like -/
theorem Sl.form (h : Sl w F e size v n xs) (hn : 0 < n) : ∃ g cap, v = .slice (some ⟨g, 0, none⟩) n cap ∧ F g ∧ n ≤ cap := by
  obtain ⟨g, cap, hv, _, _⟩ := h.own.form hn
  subst hv
  refine ⟨g, cap, rfl, h.inF g rfl, ?_⟩
  rcases h.own.2 with ⟨hv, _⟩ | ⟨g', cap', cur, hv, _, _, hc, _⟩
  · cases hv
  · injection hv with _ _ h3; omega
theorem Sl.form0 (h : Sl w F e size v n xs) : ∃ a cap, v = .slice a n cap ∧ n ≤ cap ∧ cap ≤ maxLen := by
  rcases h.own.2 with ⟨rfl, rfl⟩ | ⟨g', cap', cur, rfl, _, _, hc, hc2, _⟩
  · exact ⟨_, _, rfl, Nat.le_refl _, Nat.zero_le _⟩
  · exact ⟨_, _, rfl, hc, hc2⟩
end

/-- A slice value that can be read: n elements, their cells xs. -/
def Rd (w : World) (size : Nat) (v : Value) (n : Nat) (xs : List Value) : Prop :=
  ∃ A c, v = .slice A n c ∧ n ≤ c ∧ c ≤ maxLen ∧ xs.length = n * size ∧ (A = none → c = 0) ∧ (0 < n → ∃ ad, A = some ad ∧ ad.block < w.heap.size ∧ ∀ j u, xs[j]? = some u → w.cell? (ad.add j) = some u)

section
variable {F F' G : Nat → Prop} {w w' : World} {e : TypeId} {size n : Nat} {v : Value} {xs : List Value}
theorem add_block (a : Addr) (j : Nat) : (a.add j).block = a.block := by unfold Addr.add; split <;> rfl
theorem Sl.rd (h : Sl w F e size v n xs) : Rd w size v n xs := by
  rcases h.own.2 with ⟨rfl, rfl⟩ | ⟨g, cap, cur, rfl, _, hg, hnc, hcm, _, _⟩
  · exact ⟨none, 0, rfl, Nat.le_refl _, Nat.zero_le _, h.own.1, fun _ => rfl, fun hn => absurd hn (by omega)⟩
  · exact ⟨_, _, rfl, hnc, hcm, h.own.1, fun hn => by (cases hn), fun _ => ⟨_, rfl, h.bd g (h.inF g rfl), h.own.cells (g := g) rfl⟩⟩
/-- The block of a slice that can be read, if it has elements. -/
theorem Rd.far (h : Rd w size v n xs) (hk : ∀ k, v.ownBlock = some k → 0 < n → k < w.heap.size → w'.heap[k]? = w.heap[k]?) (hs : w.heap.size ≤ w'.heap.size) : Rd w' size v n xs := by
  obtain ⟨A, c, rfl, h1, h2, h3, h4, h5⟩ := h
  refine ⟨A, c, rfl, h1, h2, h3, h4, fun hn => ?_⟩
  obtain ⟨ad, rfl, hb, hc⟩ := h5 hn
  refine ⟨ad, rfl, Nat.lt_of_lt_of_le hb hs, fun j u hu => ?_⟩
  rw [← hc j u hu]
  exact World.cell?_of_block (by rw [add_block]; exact hk _ rfl hn hb)
theorem Rd.below {B : Nat} (h : Rd w size v n xs) (hb : Below B w w') (hB : ∀ k, v.ownBlock = some k → 0 < n → k < w.heap.size → k < B) : Rd w' size v n xs :=
  h.far (fun k hk hn hl => hb.block k (hB k hk hn hl)) hb.size
end

theorem Adv.of_drewN {F F' : Nat → Prop} {w w' : World} {n : Nat} (h : Adv F (w.drewN n) F' w') : Adv F w F' w' := ⟨h.os, h.tape, h.output, h.size, h.block, h.into⟩
theorem Adv.same {F F' G : Nat → Prop} {w w' : World} (h : Adv F w F' w') (hG : ∀ k, F k → G k) : Adv G w G w' := ⟨h.os, h.tape, h.output, h.size, fun k hk hn => h.block k hk (fun hf => hn (hG k hf)), fun _ hk => .inl hk⟩
theorem Adv.of_drew {F F' : Nat → Prop} {w w' : World} (h : Adv F w.drew F' w') : Adv F w F' w' := ⟨h.os, h.tape, h.output, h.size, h.block, h.into⟩

theorem Adv.over {F F' G : Nat → Prop} {w w1 w2 : World} (h : Adv F w G w1) (k : Adv Nul w1 F' w2) : Adv F w G w2 := h.trans (k.same (fun _ x => x.elim))
end Go.Proofs.Ytpgeebhepegpaaa
