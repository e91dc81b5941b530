/- The disk's memory, and its small calls. -/
import Derived.Test.YtolcnbiaiolcoaaGreatDkM
import Derived.Test.YtolcnbiaiolcoaaGreatR01
import Derived.Deep.MidRow
import Derived.Deep.RegionHeld3
namespace Go.Proofs.YtolcnbiaiolcoaaGreat
open Go.RowKit

/-! ### many cells at once -/
theorem setCells_heap (b : Nat) {k : Nat} (hk : k ≠ b) : ∀ (vs : List Value) (o : Nat) (w : World), (w.setCells b o vs).heap[k]? = w.heap[k]?
  | [], _, _ => rfl
  | v :: r, o, w => by
    rw [World.setCells, setCells_heap b hk r]
    exact heap_setCell_other w ⟨b, o, none⟩ k v hk
theorem Adv.setCells {F F' : Nat → Prop} {w : World} {g : Nat} : ∀ (vs : List Value) (o : Nat) (w' : World), Adv F w F' w' → (F g ∨ w.heap.size ≤ g) → Adv F w F' (w'.setCells g o vs)
  | [], _, _, h, _ => h
  | v :: r, o, w', h, hg => by
    rw [World.setCells]
    exact Adv.setCells r (o + 1) _ (h.setCell (p := ⟨g, o, none⟩) hg v) hg
theorem Blk.setCells {g : Nat} {t : TypeId} : ∀ (vs : List Value) (o : Nat) (w : World) (cs : Array Value), Blk w g t cs → ∃ cs', Blk (w.setCells g o vs) g t cs' ∧ cs'.size = cs.size
  | [], _, _, cs, h => ⟨cs, h, rfl⟩
  | v :: r, o, w, cs, h => by
    rw [World.setCells]
    obtain ⟨cs', h1, h2⟩ := Blk.setCells r (o + 1) _ _ (h.set_ o v)
    exact ⟨cs', h1, by rw [h2]; simp⟩

/-- A block of sectors. -/
structure Rows (w : World) (g : Nat) (t : TypeId) (L : List (List Nat)) : Prop where
  blk : ∃ cs, Blk w g t cs ∧ cs.size = L.length * 128
  row : ∀ i r, L[i]? = some r → r.length = 128 ∧ w.rangeAt g (i * 128) (r.map u8)

section
variable {w w' : World} {g : Nat} {t : TypeId} {L : List (List Nat)}
theorem Rows.keep (h : Rows w g t L) (hk : w'.heap[g]? = w.heap[g]?) : Rows w' g t L := by
  obtain ⟨cs, hb, hs⟩ := h.blk
  refine ⟨⟨cs, hb.keep hk, hs⟩, fun i r hr => ⟨(h.row i r hr).1, fun j v hv => ?_⟩⟩
  rw [← (h.row i r hr).2 j v hv]
  exact World.cell?_of_block hk
theorem Rows.lt (h : Rows w g t L) : g < w.heap.size := by
  obtain ⟨cs, hb, _⟩ := h.blk
  exact hb.lt
theorem Rows.there (h : Rows w g t L) {i m : Nat} (hi : i < L.length) (hm : m ≤ 128) : w.there g (i * 128) m := fun j hj => by
  obtain ⟨cs, hb, hs⟩ := h.blk
  refine ⟨?_, hb.frozen _⟩
  rw [hb.cell]
  have : i * 128 + j < cs.size := by
    have : (i + 1) * 128 ≤ L.length * 128 := Nat.mul_le_mul_right _ hi
    rw [Nat.succ_mul] at this
    omega
  rw [Array.getElem?_eq_getElem this]; rfl
theorem Rows.put (h : Rows w g t L) {i : Nat} (hi : i < L.length) (x : List Nat) (hx : x.length ≤ 128) : Rows (w.setCells g (i * 128) (x.map u8)) g t (L.set i (x ++ (L.getD i []).drop x.length)) := by
  obtain ⟨cs, hb, hs⟩ := h.blk
  obtain ⟨cs', hb', hs'⟩ := Blk.setCells (x.map u8) (i * 128) w cs hb
  have ht := h.there hi hx
  refine ⟨⟨cs', hb', by rw [hs', hs]; simp⟩, fun k r hr => ?_⟩
  by_cases hk : i = k
  · subst hk
    rw [List.getElem?_set_self hi] at hr
    injection hr with hr
    have hold := h.row i _ (List.getElem?_eq_getElem hi)
    have e : L.getD i [] = L[i] := by rw [List.getD_eq_getElem?_getD, List.getElem?_eq_getElem hi]; rfl
    rw [e] at hr
    subst hr
    refine ⟨by rw [List.length_append, List.length_drop, hold.1]; omega, fun j v hv => ?_⟩
    by_cases hj : j < x.length
    · rw [List.map_append, List.getElem?_append_left (by simpa using hj)] at hv
      exact World.rangeAt_setCells_same w g (i * 128) (x.map u8) (by rw [List.length_map]; exact ht) j v hv
    · rw [List.map_append, List.getElem?_append_right (by simpa using Nat.le_of_not_lt hj), List.length_map, List.map_drop, List.getElem?_drop, show x.length + (j - x.length) = j by omega] at hv
      rw [World.cell?_setCells_out g _ _ _ _ (fun _ _ => Or.inr (by simp; omega))]
      exact hold.2 j v hv
  · rw [List.getElem?_set_ne hk] at hr
    refine ⟨(h.row k r hr).1, World.rangeAt_setCells_apart (h.row k r hr).2 _ _ _ (Or.inr ?_)⟩
    rw [List.length_map, List.length_map, (h.row k r hr).1]
    rcases Nat.lt_or_gt_of_ne hk with h1 | h1
    · right
      have : (i + 1) * 128 ≤ k * 128 := Nat.mul_le_mul_right _ h1
      rw [Nat.succ_mul] at this
      omega
    · left
      have : (k + 1) * 128 ≤ i * 128 := Nat.mul_le_mul_right _ h1
      rw [Nat.succ_mul] at this
      omega
theorem Rows.putN (h : Rows w g t L) {q : Nat × List Nat} (hq : q.1 < L.length) (hl : q.2.length = 128) {m : Nat} (hm : m ≤ 128) : Rows (w.setCells g (q.1 * 128) ((q.2.take m).map u8)) g t (layN L q m) := by
  have h1 := h.put hq (q.2.take m) (by simp; omega)
  rw [List.length_take, hl, Nat.min_eq_left hm] at h1
  exact h1
theorem Rows.putAll (h : Rows w g t L) {i : Nat} (hi : i < L.length) (x : List Nat) (hx : x.length = 128) : Rows (w.setCells g (i * 128) (x.map u8)) g t (L.set i x) := by
  have h1 := h.put hi x (by omega)
  have e : (L.getD i []).drop x.length = [] := by
    apply List.drop_eq_nil_of_le
    rw [List.getD_eq_getElem?_getD, List.getElem?_eq_getElem hi, hx]
    exact Nat.le_of_eq (h.row i _ (List.getElem?_eq_getElem hi)).1
  rw [e, List.append_nil] at h1
  exact h1
theorem Rows.at_ (h : Rows w g t L) {i : Nat} (hi : i < L.length) : w.rangeAt g (i * 128) ((L.getD i []).map u8) := by
  rw [List.getD_eq_getElem?_getD, List.getElem?_eq_getElem hi]
  exact (h.row i _ (List.getElem?_eq_getElem hi)).2
end

theorem Sl.keepH {F : Nat → Prop} {w w' : World} {e : TypeId} {size n : Nat} {v : Value} {xs : List Value} (h : Sl w F e size v n xs) (hk : ∀ k, F k → w'.heap[k]? = w.heap[k]?) (hs : w.heap.size ≤ w'.heap.size) : Sl w' F e size v n xs :=
  ⟨own_keep h.own fun k hk' => hk k (h.inF k hk'), h.inF, fun k hk' => Nat.lt_of_lt_of_le (h.bd k hk') hs⟩
theorem Sl.keepB {F : Nat → Prop} {w w' : World} {e : TypeId} {size n : Nat} {v : Value} {xs : List Value} (h : Sl w F e size v n xs) (hk : ∀ k, v.ownBlock = some k → w'.heap[k]? = w.heap[k]?) (hs : w.heap.size ≤ w'.heap.size) : Sl w' F e size v n xs :=
  ⟨own_keep h.own hk, h.inF, fun k hk' => Nat.lt_of_lt_of_le (h.bd k hk') hs⟩

/-! ### the disk -/
structure DkB (w : World) (F : Nat → Prop) (d gl gr : Nat) (vQ : Value) (n : Nat) (L R : List (List Nat)) (Q : List (Nat × List Nat)) : Prop where
  lo : 1 ≤ n
  hi : n ≤ 4096
  lenL : L.length = n
  lenR : R.length = n
  qs : ∀ q ∈ Q, q.1 < n ∧ q.2.length = 128
  lasts : Rows w gl 112 L
  reads : Rows w gr 112 R
  waits : Sl w F 114 129 vQ Q.length (Q.flatMap wcells)
  ne : gl ≠ gr
  inD : F d
  inL : F gl
  inR : F gr
  head : ∃ cs, Blk w d 67 cs

def dhead (gl gr : Nat) (vQ : Value) (n : Nat) (s : DS) : Array Value := #[.slice (some ⟨gl, 0, none⟩) n n, .slice (some ⟨gr, 0, none⟩) n n, vQ, .bool s.dead, .bool s.fuse.isSome, .int .i64 ((s.fuse.getD 0 : Nat) : Int)]

structure DkR (w : World) (F : Nat → Prop) (d gl gr : Nat) (vQ : Value) (n : Nat) (R : List (List Nat)) (s : DS) : Prop where
  blk : Blk w d 67 (dhead gl gr vQ n s)
  b : DkB w F d gl gr vQ n s.L R s.Q

/-- The disk at block d, with the blocks F: n sectors, in the state s. -/
def Dk (w : World) (F : Nat → Prop) (d n : Nat) (s : DS) : Prop := s.ok n ∧ ∃ gl gr vQ, DkR w F d gl gr vQ n (lays s.L s.Q) s

section
variable {w w' : World} {F F' G : Nat → Prop} {d gl gr n : Nat} {vQ : Value} {L R : List (List Nat)} {Q : List (Nat × List Nat)} {s : DS}
theorem DkB.bd (h : DkB w F d gl gr vQ n L R Q) : Bd F w := h.waits.bd
theorem DkB.keep (h : DkB w F d gl gr vQ n L R Q) (hk : ∀ k, F k → w'.heap[k]? = w.heap[k]?) (hs : w.heap.size ≤ w'.heap.size) : DkB w' F d gl gr vQ n L R Q := by
  obtain ⟨cs, hc⟩ := h.head
  exact ⟨h.lo, h.hi, h.lenL, h.lenR, h.qs, h.lasts.keep (hk _ h.inL), h.reads.keep (hk _ h.inR), h.waits.keepH hk hs, h.ne, h.inD, h.inL, h.inR, ⟨cs, hc.keep (hk _ h.inD)⟩⟩
theorem DkR.keep (h : DkR w F d gl gr vQ n R s) (hk : ∀ k, F k → w'.heap[k]? = w.heap[k]?) (hs : w.heap.size ≤ w'.heap.size) : DkR w' F d gl gr vQ n R s := ⟨h.blk.keep (hk _ h.b.inD), h.b.keep hk hs⟩
theorem DkR.far (h : DkR w F d gl gr vQ n R s) (ha : Adv G w F' w') (hs : Sep G F) : DkR w' F d gl gr vQ n R s := h.keep (ha.far hs h.b.bd) ha.size
theorem Dk.bd (h : Dk w F d n s) : Bd F w := by
  obtain ⟨_, _, _, _, h⟩ := h
  exact h.b.bd
theorem Dk.far (h : Dk w F d n s) (ha : Adv G w F' w') (hs : Sep G F) : Dk w' F d n s := by
  obtain ⟨ho, gl, gr, vQ, h⟩ := h
  exact ⟨ho, gl, gr, vQ, h.far ha hs⟩
theorem Dk.drewN (h : Dk w F d n s) (k : Nat) : Dk (w.drewN k) F d n s := by
  obtain ⟨ho, gl, gr, vQ, h⟩ := h
  exact ⟨ho, gl, gr, vQ, h.keep (fun _ _ => rfl) (Nat.le_refl _)⟩
theorem DkB.gl_ne (h : DkB w F d gl gr vQ n L R Q) : gl ≠ d := by
  obtain ⟨cs, hc⟩ := h.head
  obtain ⟨cl, hl, _⟩ := h.lasts.blk
  exact hl.ne_ hc (by decide)
theorem DkB.gr_ne (h : DkB w F d gl gr vQ n L R Q) : gr ≠ d := by
  obtain ⟨cs, hc⟩ := h.head
  obtain ⟨cl, hl, _⟩ := h.reads.blk
  exact hl.ne_ hc (by decide)
/-- a cell of the head is stored -/
theorem DkB.set_ (h : DkB w F d gl gr vQ n L R Q) (i : Nat) (u : Value) : DkB (w.setCell ⟨d, i, none⟩ u) F d gl gr vQ n L R Q := by
  obtain ⟨cs, hc⟩ := h.head
  have hf : ∀ k, k ≠ d → (w.setCell ⟨d, i, none⟩ u).heap[k]? = w.heap[k]? := fun k hk => heap_setCell_other w _ k u hk
  have hz : w.heap.size ≤ (w.setCell ⟨d, i, none⟩ u).heap.size := by simp [World.setCell]
  exact ⟨h.lo, h.hi, h.lenL, h.lenR, h.qs, h.lasts.keep (hf _ h.gl_ne), h.reads.keep (hf _ h.gr_ne), h.waits.keepB (fun k hk => hf k (fun e => own_blk_ne h.waits.own hc (by decide) (by rw [hk, e]))) hz, h.ne, h.inD, h.inL, h.inR, ⟨_, hc.set_ i u⟩⟩
/-- sectors of what lasts are stored -/
theorem DkB.setL (h : DkB w F d gl gr vQ n L R Q) (o : Nat) (vs : List Value) {L' : List (List Nat)} (hl : L'.length = n) (hr : Rows (w.setCells gl o vs) gl 112 L') : DkB (w.setCells gl o vs) F d gl gr vQ n L' R Q := by
  obtain ⟨cs, hc⟩ := h.head
  obtain ⟨cl, hcl, _⟩ := h.lasts.blk
  have hf : ∀ k, k ≠ gl → (w.setCells gl o vs).heap[k]? = w.heap[k]? := fun k hk => setCells_heap gl hk vs o w
  have hz := (Adv.setCells vs o w (Adv.refl F w) (.inl h.inL)).size
  exact ⟨h.lo, h.hi, hl, h.lenR, h.qs, hr, h.reads.keep (hf _ h.ne.symm), h.waits.keepB (fun k hk => hf k (fun e => own_blk_ne h.waits.own hcl (by decide) (by rw [hk, e]))) hz, h.ne, h.inD, h.inL, h.inR, ⟨cs, hc.keep (hf _ h.gl_ne.symm)⟩⟩
theorem DkB.setR (h : DkB w F d gl gr vQ n L R Q) (o : Nat) (vs : List Value) {R' : List (List Nat)} (hl : R'.length = n) (hr : Rows (w.setCells gr o vs) gr 112 R') : DkB (w.setCells gr o vs) F d gl gr vQ n L R' Q := by
  obtain ⟨cs, hc⟩ := h.head
  obtain ⟨cl, hcl, _⟩ := h.reads.blk
  have hf : ∀ k, k ≠ gr → (w.setCells gr o vs).heap[k]? = w.heap[k]? := fun k hk => setCells_heap gr hk vs o w
  have hz := (Adv.setCells vs o w (Adv.refl F w) (.inl h.inR)).size
  exact ⟨h.lo, h.hi, h.lenL, hl, h.qs, h.lasts.keep (hf _ h.ne), hr, h.waits.keepB (fun k hk => hf k (fun e => own_blk_ne h.waits.own hcl (by decide) (by rw [hk, e]))) hz, h.ne, h.inD, h.inL, h.inR, ⟨cs, hc.keep (hf _ h.gr_ne.symm)⟩⟩
theorem DkR.c0 (h : DkR w F d gl gr vQ n R s) : w.cell? ⟨d, 0, none⟩ = some (.slice (some ⟨gl, 0, none⟩) n n) := h.blk.cell 0
theorem DkR.c1 (h : DkR w F d gl gr vQ n R s) : w.cell? ⟨d, 1, none⟩ = some (.slice (some ⟨gr, 0, none⟩) n n) := h.blk.cell 1
theorem DkR.c2 (h : DkR w F d gl gr vQ n R s) : w.cell? ⟨d, 2, none⟩ = some vQ := h.blk.cell 2
theorem DkR.c3 (h : DkR w F d gl gr vQ n R s) : w.cell? ⟨d, 3, none⟩ = some (.bool s.dead) := h.blk.cell 3
theorem DkR.c4 (h : DkR w F d gl gr vQ n R s) : w.cell? ⟨d, 4, none⟩ = some (.bool s.fuse.isSome) := h.blk.cell 4
theorem DkR.c5 (h : DkR w F d gl gr vQ n R s) : w.cell? ⟨d, 5, none⟩ = some (.int .i64 ((s.fuse.getD 0 : Nat) : Int)) := h.blk.cell 5
end

set_option maxRecDepth 3000 in
theorem made_r (d gl n : Nat) (w : World) (c0 : w.cell? ⟨d, 0, none⟩ = some (.slice (some ⟨gl, 0, none⟩) n n)) :
    Calls Tryz.prog 63 #[.pointer (some ⟨d, 0, none⟩)] w fun e w' => e = .returned (.bool true) ∧ w = w' := by
  go_enter Tryz.func63, Tryz.ntmps63
  go_wp2
  go_ret
  exact ⟨rfl, rfl⟩

set_option maxRecDepth 3000 in
theorem has_r (d gl n : Nat) (i : Int) (w : World) (c0 : w.cell? ⟨d, 0, none⟩ = some (.slice (some ⟨gl, 0, none⟩) n n)) :
    Calls Tryz.prog 67 #[.pointer (some ⟨d, 0, none⟩), .int .i64 i] w fun e w' => e = .returned (.bool (decide (0 ≤ i ∧ i < (n : Int)))) ∧ w = w' := by
  by_cases h1 : 0 ≤ i
  · by_cases h2 : i < (n : Int)
    · rw [decide_eq_true (show 0 ≤ i ∧ i < (n : Int) from ⟨h1, h2⟩)]
      go_enter Tryz.func67, Tryz.ntmps67
      go_wp2
      go_ret
      exact ⟨rfl, rfl⟩
    · rw [decide_eq_false (fun h => h2 h.2)]
      go_enter Tryz.func67, Tryz.ntmps67
      go_wp2
      go_ret
      exact ⟨rfl, rfl⟩
  · rw [decide_eq_false (fun h => h1 h.1)]
    go_enter Tryz.func67, Tryz.ntmps67
    go_wp2
    go_ret
    exact ⟨rfl, rfl⟩

set_option maxRecDepth 3000 in
theorem size_r (d gl n : Nat) (w : World) (c0 : w.cell? ⟨d, 0, none⟩ = some (.slice (some ⟨gl, 0, none⟩) n n)) :
    Calls Tryz.prog 34 #[.pointer (some ⟨d, 0, none⟩)] w fun e w' => e = .returned (.int .i64 (n : Int)) ∧ w = w' := by
  go_enter Tryz.func34, Tryz.ntmps34
  go_wp2_with (first
    | (go_at_call 63; refine (made_r _ _ _ _ c0).mono ?_; rintro e w1 ⟨rfl, rfl⟩)
    | fail)
  go_ret
  exact ⟨rfl, rfl⟩

set_option maxRecDepth 3000 in
theorem live_r (d gl n : Nat) (b : Bool) (w : World) (c0 : w.cell? ⟨d, 0, none⟩ = some (.slice (some ⟨gl, 0, none⟩) n n)) (c3 : w.cell? ⟨d, 3, none⟩ = some (.bool b)) :
    Calls Tryz.prog 31 #[.pointer (some ⟨d, 0, none⟩)] w fun e w' => e = .returned (.bool (!b)) ∧ w = w' := by
  go_enter Tryz.func31, Tryz.ntmps31
  go_wp2_with (first
    | (go_at_call 63; refine (made_r _ _ _ _ c0).mono ?_; rintro e w1 ⟨rfl, rfl⟩)
    | fail)
  go_ret
  exact ⟨rfl, rfl⟩

set_option maxRecDepth 3000 in
theorem step_none (d : Nat) (w : World) (c3 : w.cell? ⟨d, 3, none⟩ = some (.bool false)) (c4 : w.cell? ⟨d, 4, none⟩ = some (.bool false)) :
    Calls Tryz.prog 92 #[.pointer (some ⟨d, 0, none⟩)] w fun e w' => e = .returned (.int .i64 0) ∧ w = w' := by
  go_enter Tryz.func92, Tryz.ntmps92
  go_wp2
  go_ret
  exact ⟨rfl, rfl⟩
set_option maxRecDepth 3000 in
theorem step_out (d : Nat) (b0 : Bool) (w : World) (c3 : w.cell? ⟨d, 3, none⟩ = some (.bool b0)) (c4 : w.cell? ⟨d, 4, none⟩ = some (.bool true)) (c5 : w.cell? ⟨d, 5, none⟩ = some (.int .i64 0)) (hfr : w.frozen? ⟨d, 3, none⟩ = false) :
    Calls Tryz.prog 92 #[.pointer (some ⟨d, 0, none⟩)] w fun e w' => e = .returned (.int .i64 7) ∧ w' = w.setCell ⟨d, 3, none⟩ (.bool true) := by
  go_enter Tryz.func92, Tryz.ntmps92
  go_wp2
  go_ret
  exact ⟨rfl, rfl⟩
set_option maxRecDepth 3000 in
theorem step_left (d : Nat) (K k : Int) (w : World) (c3 : w.cell? ⟨d, 3, none⟩ = some (.bool false)) (c4 : w.cell? ⟨d, 4, none⟩ = some (.bool true)) (c5 : w.cell? ⟨d, 5, none⟩ = some (.int .i64 K)) (hfr : w.frozen? ⟨d, 5, none⟩ = false) (hK : (K == 0) = false)
    (hw : IntKind.i64.wrap (K - 1) = k) :
    Calls Tryz.prog 92 #[.pointer (some ⟨d, 0, none⟩)] w fun e w' => e = .returned (.int .i64 0) ∧ w' = w.setCell ⟨d, 5, none⟩ (.int .i64 k) := by
  go_enter Tryz.func92, Tryz.ntmps92
  go_wp2
  go_ret
  exact ⟨rfl, rfl⟩

/-- step, at the head's cells -/
theorem step_r (d gl gr n : Nat) (vQ : Value) (F : Nat → Prop) (R : List (List Nat)) (s : DS) (w : World) (h : DkR w F d gl gr vQ n R s) (ho : s.ok n) :
    Calls Tryz.prog 92 #[.pointer (some ⟨d, 0, none⟩)] w fun e w' => e = .returned (.int .i64 (if (stepS s).2 then 0 else 7)) ∧ DkR w' F d gl gr vQ n R (stepS s).1 ∧ Adv F w F w' := by
  obtain ⟨L, Q, dead, fuse⟩ := s
  have hdd := ho.dd
  have hfz := ho.fz
  rcases fuse with _ | _ | k
  · have hd : dead = false := by
      cases dead with
      | false => rfl
      | true => have := hdd rfl; simp at this
    subst hd
    refine (step_none d w h.c3 h.c4).mono ?_
    rintro e w' ⟨rfl, rfl⟩
    exact ⟨rfl, h, Adv.refl _ _⟩
  · refine (step_out d dead w h.c3 h.c4 h.c5 (h.blk.frozen 3)).mono ?_
    rintro e w' ⟨rfl, rfl⟩
    exact ⟨rfl, ⟨h.blk.set_ 3 _, h.b.set_ 3 _⟩, (Adv.refl F w).setCell (.inl h.b.inD) _⟩
  · have hd : dead = false := by
      cases dead with
      | false => rfl
      | true => have := hdd rfl; simp at this
    subst hd
    have hk := hfz _ rfl
    refine (step_left d _ (k : Int) w h.c3 h.c4 h.c5 (h.blk.frozen 5) (by simp; omega) (by simp only [Option.getD_some]; rw [IntKind.wrap_i64]; omega)).mono ?_
    rintro e w' ⟨rfl, rfl⟩
    exact ⟨rfl, ⟨h.blk.set_ 5 _, h.b.set_ 5 _⟩, (Adv.refl F w).setCell (.inl h.b.inD) _⟩
end Go.Proofs.YtolcnbiaiolcoaaGreat
