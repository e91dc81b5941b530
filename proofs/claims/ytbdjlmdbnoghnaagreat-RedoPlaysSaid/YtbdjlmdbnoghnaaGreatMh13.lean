/- The disk's memory, and its small calls. The disk: lay. Operations on sectors and writes: many cells at once. -/
import Derived.Test.YtbdjlmdbnoghnaaGreatMh12
import Derived.Test.YtbdjlmdbnoghnaaGreatMh01
import Derived.Deep.MidRow
import Derived.Deep.RegionHeld3
import Derived.Deep.WholeRow
import Derived.Great.BuildSlice
import Derived.Great.FillDense
namespace Go.Proofs.YtbdjlmdbnoghnaaGreat
open Go.RowKit

/-! ### many cells at once -/
theorem setCells_heap (b : Nat) {k : Nat} (hk : k ≠ b) : ∀ (vs : List Value) (o : Nat) (w : World), (w.setCells b o vs).heap[k]? = w.heap[k]?
  | [], _, _ => rfl
  | v :: r, o, w => by
    rw [World.setCells, setCells_heap b hk r]
    exact heap_setCell_other w ⟨b, o, none⟩ k v hk
theorem Adv.setCells {F F' : Nat → Prop} {w : World} {g : Nat} : ∀ (vs : List Value) (o : Nat) (w' : World), Adv F w F' w' → (F g ∨ w.heap.size ≤ g) → Adv F w F' (w'.setCells g o vs)
  | [], _, _, h, _ => h
  | v :: r, o, w', h, hg => by
    rw [World.setCells]
    exact Adv.setCells r (o + 1) _ (h.setCell (p := ⟨g, o, none⟩) hg v) hg
theorem Blk.setCells {g : Nat} {t : TypeId} : ∀ (vs : List Value) (o : Nat) (w : World) (cs : Array Value), Blk w g t cs → ∃ cs', Blk (w.setCells g o vs) g t cs' ∧ cs'.size = cs.size
  | [], _, _, cs, h => ⟨cs, h, rfl⟩
  | v :: r, o, w, cs, h => by
    rw [World.setCells]
    obtain ⟨cs', h1, h2⟩ := Blk.setCells r (o + 1) _ _ (h.set_ o v)
    exact ⟨cs', h1, by rw [h2]; simp⟩

/-- A block of sectors. -/
structure Rows (w : World) (g : Nat) (t : TypeId) (L : List (List Nat)) : Prop where
  blk : ∃ cs, Blk w g t cs ∧ cs.size = L.length * 128
  row : ∀ i r, L[i]? = some r → r.length = 128 ∧ w.rangeAt g (i * 128) (r.map u8)

section
variable {w w' : World} {g : Nat} {t : TypeId} {L : List (List Nat)}
theorem Rows.keep (h : Rows w g t L) (hk : w'.heap[g]? = w.heap[g]?) : Rows w' g t L := by
  obtain ⟨cs, hb, hs⟩ := h.blk
  refine ⟨⟨cs, hb.keep hk, hs⟩, fun i r hr => ⟨(h.row i r hr).1, fun j v hv => ?_⟩⟩
  rw [← (h.row i r hr).2 j v hv]
  exact World.cell?_of_block hk
theorem Rows.there (h : Rows w g t L) {i m : Nat} (hi : i < L.length) (hm : m ≤ 128) : w.there g (i * 128) m := fun j hj => by
  obtain ⟨cs, hb, hs⟩ := h.blk
  refine ⟨?_, hb.frozen _⟩
  rw [hb.cell]
  have : i * 128 + j < cs.size := by
    have : (i + 1) * 128 ≤ L.length * 128 := Nat.mul_le_mul_right _ hi
    rw [Nat.succ_mul] at this
    omega
  rw [Array.getElem?_eq_getElem this]; rfl
theorem Rows.put (h : Rows w g t L) {i : Nat} (hi : i < L.length) (x : List Nat) (hx : x.length ≤ 128) : Rows (w.setCells g (i * 128) (x.map u8)) g t (L.set i (x ++ (L.getD i []).drop x.length)) := by
  obtain ⟨cs, hb, hs⟩ := h.blk
  obtain ⟨cs', hb', hs'⟩ := Blk.setCells (x.map u8) (i * 128) w cs hb
  have ht := h.there hi hx
  refine ⟨⟨cs', hb', by rw [hs', hs]; simp⟩, fun k r hr => ?_⟩
  by_cases hk : i = k
  · subst hk
    rw [List.getElem?_set_self hi] at hr
    injection hr with hr
    have hold := h.row i _ (List.getElem?_eq_getElem hi)
    have e : L.getD i [] = L[i] := by rw [List.getD_eq_getElem?_getD, List.getElem?_eq_getElem hi]; rfl
    rw [e] at hr
    subst hr
    refine ⟨by rw [List.length_append, List.length_drop, hold.1]; omega, fun j v hv => ?_⟩
    by_cases hj : j < x.length
    · rw [List.map_append, List.getElem?_append_left (by simpa using hj)] at hv
      exact World.rangeAt_setCells_same w g (i * 128) (x.map u8) (by rw [List.length_map]; exact ht) j v hv
    · rw [List.map_append, List.getElem?_append_right (by simpa using Nat.le_of_not_lt hj), List.length_map, List.map_drop, List.getElem?_drop, show x.length + (j - x.length) = j by omega] at hv
      rw [World.cell?_setCells_out g _ _ _ _ (fun _ _ => Or.inr (by simp; omega))]
      exact hold.2 j v hv
  · rw [List.getElem?_set_ne hk] at hr
    refine ⟨(h.row k r hr).1, World.rangeAt_setCells_apart (h.row k r hr).2 _ _ _ (Or.inr ?_)⟩
    rw [List.length_map, List.length_map, (h.row k r hr).1]
    rcases Nat.lt_or_gt_of_ne hk with h1 | h1
    · right
      have : (i + 1) * 128 ≤ k * 128 := Nat.mul_le_mul_right _ h1
      rw [Nat.succ_mul] at this
      omega
    · left
      have : (k + 1) * 128 ≤ i * 128 := Nat.mul_le_mul_right _ h1
      rw [Nat.succ_mul] at this
      omega
theorem Rows.putN (h : Rows w g t L) {q : Nat × List Nat} (hq : q.1 < L.length) (hl : q.2.length = 128) {m : Nat} (hm : m ≤ 128) : Rows (w.setCells g (q.1 * 128) ((q.2.take m).map u8)) g t (layN L q m) := by
  have h1 := h.put hq (q.2.take m) (by simp; omega)
  rw [List.length_take, hl, Nat.min_eq_left hm] at h1
  exact h1
theorem Rows.putAll (h : Rows w g t L) {i : Nat} (hi : i < L.length) (x : List Nat) (hx : x.length = 128) : Rows (w.setCells g (i * 128) (x.map u8)) g t (L.set i x) := by
  have h1 := h.put hi x (by omega)
  have e : (L.getD i []).drop x.length = [] := by
    apply List.drop_eq_nil_of_le
    rw [List.getD_eq_getElem?_getD, List.getElem?_eq_getElem hi, hx]
    exact Nat.le_of_eq (h.row i _ (List.getElem?_eq_getElem hi)).1
  rw [e, List.append_nil] at h1
  exact h1
theorem Rows.at_ (h : Rows w g t L) {i : Nat} (hi : i < L.length) : w.rangeAt g (i * 128) ((L.getD i []).map u8) := by
  rw [List.getD_eq_getElem?_getD, List.getElem?_eq_getElem hi]
  exact (h.row i _ (List.getElem?_eq_getElem hi)).2
end

theorem Sl.keepH {F : Nat → Prop} {w w' : World} {e : TypeId} {size n : Nat} {v : Value} {xs : List Value} (h : Sl w F e size v n xs) (hk : ∀ k, F k → w'.heap[k]? = w.heap[k]?) (hs : w.heap.size ≤ w'.heap.size) : Sl w' F e size v n xs :=
  ⟨own_keep h.own fun k hk' => hk k (h.inF k hk'), h.inF, fun k hk' => Nat.lt_of_lt_of_le (h.bd k hk') hs⟩
theorem Sl.keepB {F : Nat → Prop} {w w' : World} {e : TypeId} {size n : Nat} {v : Value} {xs : List Value} (h : Sl w F e size v n xs) (hk : ∀ k, v.ownBlock = some k → w'.heap[k]? = w.heap[k]?) (hs : w.heap.size ≤ w'.heap.size) : Sl w' F e size v n xs :=
  ⟨own_keep h.own hk, h.inF, fun k hk' => Nat.lt_of_lt_of_le (h.bd k hk') hs⟩

/-! ### the disk -/
structure DkB (w : World) (F : Nat → Prop) (d gl gr : Nat) (vQ : Value) (n : Nat) (L R : List (List Nat)) (Q : List (Nat × List Nat)) : Prop where
  lo : 1 ≤ n
  hi : n ≤ 4096
  lenL : L.length = n
  lenR : R.length = n
  qs : ∀ q ∈ Q, q.1 < n ∧ q.2.length = 128
  lasts : Rows w gl 108 L
  reads : Rows w gr 108 R
  waits : Sl w F 110 129 vQ Q.length (Q.flatMap wcells)
  ne : gl ≠ gr
  inD : F d
  inL : F gl
  inR : F gr
  head : ∃ cs, Blk w d 63 cs

def dhead (gl gr : Nat) (vQ : Value) (n : Nat) (s : DS) : Array Value := #[.slice (some ⟨gl, 0, none⟩) n n, .slice (some ⟨gr, 0, none⟩) n n, vQ, .bool s.dead, .bool s.fuse.isSome, .int .i64 ((s.fuse.getD 0 : Nat) : Int)]

structure DkR (w : World) (F : Nat → Prop) (d gl gr : Nat) (vQ : Value) (n : Nat) (R : List (List Nat)) (s : DS) : Prop where
  blk : Blk w d 63 (dhead gl gr vQ n s)
  b : DkB w F d gl gr vQ n s.L R s.Q

/-- The disk at block d, with the blocks F: n sectors, in the state s. -/
def Dk (w : World) (F : Nat → Prop) (d n : Nat) (s : DS) : Prop := s.ok n ∧ ∃ gl gr vQ, DkR w F d gl gr vQ n (lays s.L s.Q) s

section
variable {w w' : World} {F F' G : Nat → Prop} {d gl gr n : Nat} {vQ : Value} {L R : List (List Nat)} {Q : List (Nat × List Nat)} {s : DS}
theorem DkB.bd (h : DkB w F d gl gr vQ n L R Q) : Bd F w := h.waits.bd
theorem DkB.keep (h : DkB w F d gl gr vQ n L R Q) (hk : ∀ k, F k → w'.heap[k]? = w.heap[k]?) (hs : w.heap.size ≤ w'.heap.size) : DkB w' F d gl gr vQ n L R Q := by
  obtain ⟨cs, hc⟩ := h.head
  exact ⟨h.lo, h.hi, h.lenL, h.lenR, h.qs, h.lasts.keep (hk _ h.inL), h.reads.keep (hk _ h.inR), h.waits.keepH hk hs, h.ne, h.inD, h.inL, h.inR, ⟨cs, hc.keep (hk _ h.inD)⟩⟩
theorem DkR.keep (h : DkR w F d gl gr vQ n R s) (hk : ∀ k, F k → w'.heap[k]? = w.heap[k]?) (hs : w.heap.size ≤ w'.heap.size) : DkR w' F d gl gr vQ n R s := ⟨h.blk.keep (hk _ h.b.inD), h.b.keep hk hs⟩
theorem DkR.far (h : DkR w F d gl gr vQ n R s) (ha : Adv G w F' w') (hs : Sep G F) : DkR w' F d gl gr vQ n R s := h.keep (ha.far hs h.b.bd) ha.size
theorem Dk.bd (h : Dk w F d n s) : Bd F w := by
  obtain ⟨_, _, _, _, h⟩ := h
  exact h.b.bd
theorem Dk.far (h : Dk w F d n s) (ha : Adv G w F' w') (hs : Sep G F) : Dk w' F d n s := by
  obtain ⟨ho, gl, gr, vQ, h⟩ := h
  exact ⟨ho, gl, gr, vQ, h.far ha hs⟩
theorem Dk.drewN (h : Dk w F d n s) (k : Nat) : Dk (w.drewN k) F d n s := by
  obtain ⟨ho, gl, gr, vQ, h⟩ := h
  exact ⟨ho, gl, gr, vQ, h.keep (fun _ _ => rfl) (Nat.le_refl _)⟩
theorem DkB.gl_ne (h : DkB w F d gl gr vQ n L R Q) : gl ≠ d := by
  obtain ⟨cs, hc⟩ := h.head
  obtain ⟨cl, hl, _⟩ := h.lasts.blk
  exact hl.ne_ hc (by decide)
theorem DkB.gr_ne (h : DkB w F d gl gr vQ n L R Q) : gr ≠ d := by
  obtain ⟨cs, hc⟩ := h.head
  obtain ⟨cl, hl, _⟩ := h.reads.blk
  exact hl.ne_ hc (by decide)
/-- a cell of the head is stored -/
theorem DkB.set_ (h : DkB w F d gl gr vQ n L R Q) (i : Nat) (u : Value) : DkB (w.setCell ⟨d, i, none⟩ u) F d gl gr vQ n L R Q := by
  obtain ⟨cs, hc⟩ := h.head
  have hf : ∀ k, k ≠ d → (w.setCell ⟨d, i, none⟩ u).heap[k]? = w.heap[k]? := fun k hk => heap_setCell_other w _ k u hk
  have hz : w.heap.size ≤ (w.setCell ⟨d, i, none⟩ u).heap.size := by simp [World.setCell]
  exact ⟨h.lo, h.hi, h.lenL, h.lenR, h.qs, h.lasts.keep (hf _ h.gl_ne), h.reads.keep (hf _ h.gr_ne), h.waits.keepB (fun k hk => hf k (fun e => own_blk_ne h.waits.own hc (by decide) (by rw [hk, e]))) hz, h.ne, h.inD, h.inL, h.inR, ⟨_, hc.set_ i u⟩⟩
/-- sectors of what lasts are stored -/
theorem DkB.setL (h : DkB w F d gl gr vQ n L R Q) (o : Nat) (vs : List Value) {L' : List (List Nat)} (hl : L'.length = n) (hr : Rows (w.setCells gl o vs) gl 108 L') : DkB (w.setCells gl o vs) F d gl gr vQ n L' R Q := by
  obtain ⟨cs, hc⟩ := h.head
  obtain ⟨cl, hcl, _⟩ := h.lasts.blk
  have hf : ∀ k, k ≠ gl → (w.setCells gl o vs).heap[k]? = w.heap[k]? := fun k hk => setCells_heap gl hk vs o w
  have hz := (Adv.setCells vs o w (Adv.refl F w) (.inl h.inL)).size
  exact ⟨h.lo, h.hi, hl, h.lenR, h.qs, hr, h.reads.keep (hf _ h.ne.symm), h.waits.keepB (fun k hk => hf k (fun e => own_blk_ne h.waits.own hcl (by decide) (by rw [hk, e]))) hz, h.ne, h.inD, h.inL, h.inR, ⟨cs, hc.keep (hf _ h.gl_ne.symm)⟩⟩
theorem DkB.setR (h : DkB w F d gl gr vQ n L R Q) (o : Nat) (vs : List Value) {R' : List (List Nat)} (hl : R'.length = n) (hr : Rows (w.setCells gr o vs) gr 108 R') : DkB (w.setCells gr o vs) F d gl gr vQ n L R' Q := by
  obtain ⟨cs, hc⟩ := h.head
  obtain ⟨cl, hcl, _⟩ := h.reads.blk
  have hf : ∀ k, k ≠ gr → (w.setCells gr o vs).heap[k]? = w.heap[k]? := fun k hk => setCells_heap gr hk vs o w
  have hz := (Adv.setCells vs o w (Adv.refl F w) (.inl h.inR)).size
  exact ⟨h.lo, h.hi, h.lenL, hl, h.qs, h.lasts.keep (hf _ h.ne), hr, h.waits.keepB (fun k hk => hf k (fun e => own_blk_ne h.waits.own hcl (by decide) (by rw [hk, e]))) hz, h.ne, h.inD, h.inL, h.inR, ⟨cs, hc.keep (hf _ h.gr_ne.symm)⟩⟩
theorem DkR.c0 (h : DkR w F d gl gr vQ n R s) : w.cell? ⟨d, 0, none⟩ = some (.slice (some ⟨gl, 0, none⟩) n n) := h.blk.cell 0
theorem DkR.c1 (h : DkR w F d gl gr vQ n R s) : w.cell? ⟨d, 1, none⟩ = some (.slice (some ⟨gr, 0, none⟩) n n) := h.blk.cell 1
theorem DkR.c2 (h : DkR w F d gl gr vQ n R s) : w.cell? ⟨d, 2, none⟩ = some vQ := h.blk.cell 2
theorem DkR.c3 (h : DkR w F d gl gr vQ n R s) : w.cell? ⟨d, 3, none⟩ = some (.bool s.dead) := h.blk.cell 3
theorem DkR.c4 (h : DkR w F d gl gr vQ n R s) : w.cell? ⟨d, 4, none⟩ = some (.bool s.fuse.isSome) := h.blk.cell 4
theorem DkR.c5 (h : DkR w F d gl gr vQ n R s) : w.cell? ⟨d, 5, none⟩ = some (.int .i64 ((s.fuse.getD 0 : Nat) : Int)) := h.blk.cell 5
end

set_option maxRecDepth 3000 in
theorem made_r (d gl n : Nat) (w : World) (c0 : w.cell? ⟨d, 0, none⟩ = some (.slice (some ⟨gl, 0, none⟩) n n)) :
    Calls Tryz.prog 58 #[.pointer (some ⟨d, 0, none⟩)] w fun e w' => e = .returned (.bool true) ∧ w = w' := by
  go_enter Tryz.func58, Tryz.ntmps58
  go_wp2
  go_ret
  exact ⟨rfl, rfl⟩

set_option maxRecDepth 3000 in
theorem has_r (d gl n : Nat) (i : Int) (w : World) (c0 : w.cell? ⟨d, 0, none⟩ = some (.slice (some ⟨gl, 0, none⟩) n n)) :
    Calls Tryz.prog 62 #[.pointer (some ⟨d, 0, none⟩), .int .i64 i] w fun e w' => e = .returned (.bool (decide (0 ≤ i ∧ i < (n : Int)))) ∧ w = w' := by
  by_cases h1 : 0 ≤ i
  · by_cases h2 : i < (n : Int)
    · rw [decide_eq_true (show 0 ≤ i ∧ i < (n : Int) from ⟨h1, h2⟩)]
      go_enter Tryz.func62, Tryz.ntmps62
      go_wp2
      go_ret
      exact ⟨rfl, rfl⟩
    · rw [decide_eq_false (fun h => h2 h.2)]
      go_enter Tryz.func62, Tryz.ntmps62
      go_wp2
      go_ret
      exact ⟨rfl, rfl⟩
  · rw [decide_eq_false (fun h => h1 h.1)]
    go_enter Tryz.func62, Tryz.ntmps62
    go_wp2
    go_ret
    exact ⟨rfl, rfl⟩

set_option maxRecDepth 3000 in
theorem size_r (d gl n : Nat) (w : World) (c0 : w.cell? ⟨d, 0, none⟩ = some (.slice (some ⟨gl, 0, none⟩) n n)) :
    Calls Tryz.prog 29 #[.pointer (some ⟨d, 0, none⟩)] w fun e w' => e = .returned (.int .i64 (n : Int)) ∧ w = w' := by
  go_enter Tryz.func29, Tryz.ntmps29
  go_wp2_with (first
    | (go_at_call 58; refine (made_r _ _ _ _ c0).mono ?_; rintro e w1 ⟨rfl, rfl⟩)
    | fail)
  go_ret
  exact ⟨rfl, rfl⟩

set_option maxRecDepth 3000 in
theorem step_none (d : Nat) (w : World) (c3 : w.cell? ⟨d, 3, none⟩ = some (.bool false)) (c4 : w.cell? ⟨d, 4, none⟩ = some (.bool false)) :
    Calls Tryz.prog 87 #[.pointer (some ⟨d, 0, none⟩)] w fun e w' => e = .returned (.int .i64 0) ∧ w = w' := by
  go_enter Tryz.func87, Tryz.ntmps87
  go_wp2
  go_ret
  exact ⟨rfl, rfl⟩
set_option maxRecDepth 3000 in
theorem step_out (d : Nat) (b0 : Bool) (w : World) (c3 : w.cell? ⟨d, 3, none⟩ = some (.bool b0)) (c4 : w.cell? ⟨d, 4, none⟩ = some (.bool true)) (c5 : w.cell? ⟨d, 5, none⟩ = some (.int .i64 0)) (hfr : w.frozen? ⟨d, 3, none⟩ = false) :
    Calls Tryz.prog 87 #[.pointer (some ⟨d, 0, none⟩)] w fun e w' => e = .returned (.int .i64 7) ∧ w' = w.setCell ⟨d, 3, none⟩ (.bool true) := by
  go_enter Tryz.func87, Tryz.ntmps87
  go_wp2
  go_ret
  exact ⟨rfl, rfl⟩
set_option maxRecDepth 3000 in
theorem step_left (d : Nat) (K k : Int) (w : World) (c3 : w.cell? ⟨d, 3, none⟩ = some (.bool false)) (c4 : w.cell? ⟨d, 4, none⟩ = some (.bool true)) (c5 : w.cell? ⟨d, 5, none⟩ = some (.int .i64 K)) (hfr : w.frozen? ⟨d, 5, none⟩ = false) (hK : (K == 0) = false)
    (hw : IntKind.i64.wrap (K - 1) = k) :
    Calls Tryz.prog 87 #[.pointer (some ⟨d, 0, none⟩)] w fun e w' => e = .returned (.int .i64 0) ∧ w' = w.setCell ⟨d, 5, none⟩ (.int .i64 k) := by
  go_enter Tryz.func87, Tryz.ntmps87
  go_wp2
  go_ret
  exact ⟨rfl, rfl⟩

/-- step, at the head's cells -/
theorem step_r (d gl gr n : Nat) (vQ : Value) (F : Nat → Prop) (R : List (List Nat)) (s : DS) (w : World) (h : DkR w F d gl gr vQ n R s) (ho : s.ok n) :
    Calls Tryz.prog 87 #[.pointer (some ⟨d, 0, none⟩)] w fun e w' => e = .returned (.int .i64 (if (stepS s).2 then 0 else 7)) ∧ DkR w' F d gl gr vQ n R (stepS s).1 ∧ Adv F w F w' := by
  obtain ⟨L, Q, dead, fuse⟩ := s
  have hdd := ho.dd
  have hfz := ho.fz
  rcases fuse with _ | _ | k
  · have hd : dead = false := by
      cases dead with
      | false => rfl
      | true => have := hdd rfl; simp at this
    subst hd
    refine (step_none d w h.c3 h.c4).mono ?_
    rintro e w' ⟨rfl, rfl⟩
    exact ⟨rfl, h, Adv.refl _ _⟩
  · refine (step_out d dead w h.c3 h.c4 h.c5 (h.blk.frozen 3)).mono ?_
    rintro e w' ⟨rfl, rfl⟩
    exact ⟨rfl, ⟨h.blk.set_ 3 _, h.b.set_ 3 _⟩, (Adv.refl F w).setCell (.inl h.b.inD) _⟩
  · have hd : dead = false := by
      cases dead with
      | false => rfl
      | true => have := hdd rfl; simp at this
    subst hd
    have hk := hfz _ rfl
    refine (step_left d _ (k : Int) w h.c3 h.c4 h.c5 (h.blk.frozen 5) (by simp; omega) (by simp only [Option.getD_some]; rw [IntKind.wrap_i64]; omega)).mono ?_
    rintro e w' ⟨rfl, rfl⟩
    exact ⟨rfl, ⟨h.blk.set_ 5 _, h.b.set_ 5 _⟩, (Adv.refl F w).setCell (.inl h.b.inD) _⟩
end Go.Proofs.YtbdjlmdbnoghnaaGreat
namespace Go.Proofs.YtbdjlmdbnoghnaaGreat
open Go.RowKit

theorem step_copy_cells {P : Program} {w : World} {ops : Array Oper} {o : Oper} {a : Act} {K : Act → World → Prop} {Q : Exit → Act → World → Prop} {E : Prop} (hgd : o.guard = none) (d s : Operand) (dT sT : TypeId)
    (ho : o.op = .call { callee := .builtin .copy, args := #[d, s], argTypes := #[dT, sT] }) (elem : TypeId) (hu : P.underlying dT = some (.slice elem)) (hsz : (P.info? elem).map (·.size) = some 1)
    (b off dLen dCap sLen sCap : Nat) (ad : Addr) (hd : a.eval d = .slice (some ⟨b, off, none⟩) dLen dCap) (hs : a.eval s = .slice (some ad) sLen sCap)
    (cs : List Value) (hn : cs.length = Nat.min sLen dLen) (hsrc : ∀ j v, cs[j]? = some v → w.cell? (ad.add j) = some v) (ht : w.there b off cs.length) (h1 : ∀ v ∈ cs, v.oneCell' = true)
    (h : K (a.put o.dst (goInt cs.length)) (w.setCells b off cs)) :
    if Region.wanted o (yielded ops a.tmps) = true then Oper.wp P o a w K Q else E := by
  have hw : Region.wanted o (yielded ops a.tmps) = true := by simp [Region.wanted, hgd]
  rw [if_pos hw]
  have hrun := run_copy_cells (P := P) w dT sT o.type elem b off dLen dCap ad sLen sCap cs hu hsz hn hsrc (fun j hj => (ht j hj).1) (fun j hj => (ht j hj).2) h1
  unfold Oper.wp
  simp [execOp, ho, resolve, invoke, builtin, hd, hs, hrun, Result.andThen]
  exact h

theorem infoU8s : (Tryz.prog.info? 5).map (·.size) = some 1 := by kernel_rfl

set_option maxRecDepth 3000 in
set_option maxHeartbeats 1000000 in
theorem lay_r (d gl gr n : Nat) (vQ : Value) (F : Nat → Prop) (R : List (List Nat)) (s : DS) (q : Nat × List Nat) (m : Nat) (w : World) (h : DkR w F d gl gr vQ n R s) (hq : q.1 < n) (hl : q.2.length = 128) (hm : m ≤ 128) :
    Calls Tryz.prog 59 #[.pointer (some ⟨d, 0, none⟩), .agg (wcells q).toArray, .int .i64 (m : Int)] w fun e w' => e = .returned (.tuple #[]) ∧ DkR w' F d gl gr vQ n R { s with L := layN s.L q m } ∧ Adv F w F w' := by
  obtain ⟨W, hW⟩ : ∃ W, W = w.alloc (.cells (wcells q).toArray 110) := ⟨_, rfl⟩
  have hb0 : Blk W.drew w.heap.size 110 (wcells q).toArray := by rw [hW]; exact Blk.new _ _ _
  have hA : Adv F w F W.drew := by rw [hW]; exact ((Adv.refl F w).alloc _).drew
  have hR : DkR W.drew F d gl gr vQ n R s := h.keep (fun k hk => by rw [hW]; exact Below.heap_alloc _ _ _ (h.b.bd k hk)) hA.size
  have c0 := hR.c0
  have k0 : W.drew.cell? ⟨w.heap.size, 0, none⟩ = some (.int .i64 (q.1 : Int)) := hb0.cell 0
  have hsrc : ∀ j v, ((q.2.take m).map u8)[j]? = some v → W.drew.cell? ((⟨w.heap.size, 1, none⟩ : Addr).add j) = some v := by
    intro j v hv
    have hj : j < m := by
      have := (List.getElem?_eq_some_iff.1 hv).1
      simp at this; omega
    rw [add_none, hb0.cell, ← hv]
    simp only [wcells, List.getElem?_toArray]
    rw [show 1 + j = j + 1 by omega, List.getElem?_cons_succ, List.map_take, List.getElem?_take, if_pos hj]
  have ht : W.drew.there gl (q.1 * 128) ((q.2.take m).map u8).length := hR.b.lasts.there (by rw [hR.b.lenL]; exact hq) (by simp; omega)
  have hlen : ((q.2.take m).map u8).length = m := by simp; omega
  have hq0 : (0 : Int) ≤ (q.1 : Int) := by omega
  have hqn : (q.1 : Int) < (n : Int) := by omega
  have hm0 : (0 : Int) ≤ (m : Int) := by omega
  have hmn : (m : Int) ≤ 128 := by omega
  have hfin : DkR (W.drew.setCells gl (q.1 * 128) ((q.2.take m).map u8)) F d gl gr vQ n R { s with L := layN s.L q m } ∧ Adv F w F (W.drew.setCells gl (q.1 * 128) ((q.2.take m).map u8)) :=
    ⟨⟨hR.blk.keep (setCells_heap _ hR.b.gl_ne.symm _ _ _), hR.b.setL _ _ (by rw [layN_length, hR.b.lenL]) (hR.b.lasts.putN (by rw [hR.b.lenL]; exact hq) hl hm)⟩, Adv.setCells _ _ _ hA (.inl hR.b.inL)⟩
  have k1 : (W.drew.setCells gl (q.1 * 128) ((q.2.take m).map u8)).cell? ⟨w.heap.size, 0, none⟩ = some (.int .i64 (q.1 : Int)) :=
    (hb0.keep (setCells_heap _ (by have := h.b.bd gl h.b.inL; omega) _ _ _)).cell 0
  have c1 := hfin.1.c0
  have HS := Lib.hid hsrc
  have HT := Lib.hid ht
  have HL := Lib.hid hlen
  have HF := Lib.hid hfin
  obtain ⟨A, hAq⟩ : ∃ A, A = (wcells q).toArray := ⟨_, rfl⟩
  obtain ⟨X, hX⟩ : ∃ X, X = (q.2.take m).map u8 := ⟨_, rfl⟩
  have H1 : Hid (∀ v ∈ X, v.oneCell' = true) := by rw [hX]; exact u8_one _
  rw [← hX] at HS HT HL HF c1 k1
  obtain ⟨at_, hat⟩ : ∃ x, x = q.1 := ⟨_, rfl⟩
  rw [← hat] at HT HF k0 hq0 hqn k1 c1
  obtain ⟨z, hz⟩ : ∃ z, z = w.heap.size := ⟨_, rfl⟩
  rw [← hz] at HS k0 k1
  rw [← hAq] at hW ⊢
  have HW := Lib.hid hW
  have HZ := Lib.hid hz
  have C1 := Lib.hid c1
  have K1 := Lib.hid k1
  clear hb0 hA hR hsrc ht hlen hfin hX hAq h hW hz hat c1 k1
  go_enter Tryz.func59, Tryz.ntmps59
  go_wp2_with fail
  rw [← HW.out, ← HZ.out]
  refine rstart (S := (fun w' => w'.cell? ⟨d, 0, none⟩ = some (.slice (some ⟨gl, 0, none⟩) n n) ∧ w'.cell? ⟨z, 0, none⟩ = some (.int .i64 (at_ : Int)))) (by first | exact ⟨c0, k0⟩ | exact ⟨C1.out, K1.out⟩) (fun hH => ?_)
  refine tk (i := 0) (oi := ⟨some 6, .move (.tmp 0), 24, "disk.go:153", #[], none⟩) hH.out (by rintro w ⟨s0, s1⟩; go_simp <;> with_reducible rfl) ?_
  simp only [Act.put, sA, sB, sC]
  refine tk (i := 1) (oi := ⟨some 7, .nilCheck (.tmp 6), 0, "disk.go:153", #[⟨0, .data⟩], none⟩) hH.out (by rintro w ⟨s0, s1⟩; go_simp <;> with_reducible rfl) ?_
  simp only [Act.put, sA, sB, sC]
  refine tk (i := 2) (oi := ⟨some 8, .fieldAddr 63 (.tmp 7) 0, 0, "disk.go:153", #[⟨1, .data⟩], none⟩) hH.out (by rintro w ⟨s0, s1⟩; go_simp <;> with_reducible rfl) ?_
  simp only [Act.put, sA, sB, sC]
  refine tk (i := 3) (oi := ⟨some 9, .load 60 (.tmp 8), 60, "disk.go:153", #[⟨2, .data⟩], none⟩) hH.out (by rintro w ⟨s0, s1⟩; go_simp <;> with_reducible rfl) ?_
  simp only [Act.put, sA, sB, sC]
  refine tk (i := 4) (oi := ⟨some 10, .fieldAddr 110 (.tmp 4) 0, 0, "disk.go:153", #[], none⟩) hH.out (by rintro w ⟨s0, s1⟩; go_simp <;> with_reducible rfl) ?_
  simp only [Act.put, sA, sB, sC]
  refine tk (i := 5) (oi := ⟨some 11, .load 3 (.tmp 10), 3, "disk.go:153", #[⟨4, .data⟩], none⟩) hH.out (by rintro w ⟨s0, s1⟩; go_simp <;> with_reducible rfl) ?_
  simp only [Act.put, sA, sB, sC]
  refine tk (i := 6) (oi := ⟨some 12, .indexAddr 60 (.tmp 9) (.tmp 11), 0, "disk.go:153", #[⟨3, .data⟩, ⟨5, .data⟩], none⟩) hH.out (by rintro w ⟨s0, s1⟩; go_simp <;> with_reducible rfl) ?_
  simp only [Act.put, sA, sB, sC]
  refine tk (i := 7) (oi := ⟨some 13, .move (.tmp 2), 3, "disk.go:153", #[], none⟩) hH.out (by rintro w ⟨s0, s1⟩; go_simp <;> with_reducible rfl) ?_
  simp only [Act.put, sA, sB, sC]
  refine tk (i := 8) (oi := ⟨some 14, .slice 108 (.tmp 12) none (some (.tmp 13)) none, 53, "disk.go:153", #[⟨6, .data⟩, ⟨7, .data⟩], none⟩) hH.out (by rintro w ⟨s0, s1⟩; go_simp <;> with_reducible rfl) ?_
  simp only [Act.put, sA, sB, sC]
  refine tk (i := 9) (oi := ⟨some 15, .fieldAddr 110 (.tmp 4) 1, 0, "disk.go:153", #[], none⟩) hH.out (by rintro w ⟨s0, s1⟩; go_simp <;> with_reducible rfl) ?_
  simp only [Act.put, sA, sB, sC]
  refine tk (i := 10) (oi := ⟨some 16, .move (.tmp 2), 3, "disk.go:153", #[], none⟩) hH.out (by rintro w ⟨s0, s1⟩; go_simp <;> with_reducible rfl) ?_
  simp only [Act.put, sA, sB, sC]
  refine tk (i := 11) (oi := ⟨some 17, .slice 108 (.tmp 15) none (some (.tmp 16)) none, 53, "disk.go:153", #[⟨9, .data⟩, ⟨10, .data⟩], none⟩) hH.out (by rintro w ⟨s0, s1⟩; go_simp <;> with_reducible rfl) ?_
  simp only [Act.put, sA, sB, sC]
  refine rdy (i := 12) (oi := ⟨some 18, .call ⟨.builtin .copy, #[.tmp 14, .tmp 17], #[53, 53]⟩, 3, "disk.go:153", #[⟨8, .data⟩, ⟨11, .data⟩], none⟩) (fun K hK => ?_)
  refine step_copy_cells rfl (.tmp 14) (.tmp 17) 53 53 rfl 5 Tryz.underlying53 infoU8s gl (at_ * 128) m 128 m 128 ⟨z, 1, none⟩ rfl rfl X (by rw [HL.out]; exact (Nat.min_self m).symm) HS.out HT.out H1.out ?_
  refine hK.out _ _ (by first | exact ⟨c0, k0⟩ | exact ⟨C1.out, K1.out⟩) (fun hHeld => ?_)
  replace hH := Lib.hid hHeld
  clear hK K hHeld
  try simp only [Act.put, sA, sB, sC]
  refine wpAnyH_done (by kernel_rfl) ?_ _
  go_wp2
  go_end0
  exact ⟨rfl, HF.out⟩
end Go.Proofs.YtbdjlmdbnoghnaaGreat
namespace Go.Proofs.YtbdjlmdbnoghnaaGreat
open Go.RowKit

def zS : Array Value := (List.replicate 128 (u8 0)).toArray
def zW : Array Value := (.int .i64 0 :: List.replicate 128 (u8 0)).toArray
theorem zS_size : zS.size = 128 := by simp [zS]
theorem zW_size : zW.size = 129 := by simp [zW]
theorem infoSector : (Tryz.prog.info? 108).map (fun i => (i.zero, i.size, i.bytes)) = some (some (.agg zS), 128, 128) := by kernel_rfl
theorem infoWrite : (Tryz.prog.info? 110).map (fun i => (i.zero, i.size, i.bytes)) = some (some (.agg zW), 129, 136) := by kernel_rfl
theorem sizeSector : (Tryz.prog.info? 108).map (·.size) = some 128 := by kernel_rfl
theorem sizeWrite : (Tryz.prog.info? 110).map (·.size) = some 129 := by kernel_rfl

section
variable {ops : Array Oper} {rest : List Oper} {o : Oper} {a : Act} {w : World} {Q : Exit → Act → World → Prop}
theorem zero_run {t : TypeId} {C : Array Value} {s b : Nat} (h : (Tryz.prog.info? t).map (fun i => (i.zero, i.size, i.bytes)) = some (some (.agg C), s, b)) : (zeroValue t).run Tryz.prog w = .ok (.agg C) w := by
  obtain ⟨i, hi, hz, _⟩ := info_parts h
  simp [zeroValue, typeInfo, hi, hz]
theorem op_alloc {t : TypeId} {C : Array Value} {s b : Nat} (hgd : o.guard = none) (ho : o.op = .alloc t) (hz : (Tryz.prog.info? t).map (fun i => (i.zero, i.size, i.bytes)) = some (some (.agg C), s, b))
    (h : wpList Tryz.prog ops Q rest (a.put o.dst (.pointer (some ⟨w.heap.size, 0, none⟩))) (w.alloc (.cells C t))) : wpList Tryz.prog ops Q (o :: rest) a w := by
  refine wpList_plain hgd fun K hK => ?_
  unfold Oper.wp execOp
  simp [ho, Instr.alloc, zero_run hz, newVar, newRow, Value.cells, Result.andThen]
  exact hK _ _ h
theorem op_alloc_sector (hgd : o.guard = none) (ho : o.op = .alloc 108) (h : wpList Tryz.prog ops Q rest (a.put o.dst (.pointer (some ⟨w.heap.size, 0, none⟩))) (w.alloc (.cells zS 108))) : wpList Tryz.prog ops Q (o :: rest) a w :=
  op_alloc hgd ho infoSector h
theorem op_alloc_write (hgd : o.guard = none) (ho : o.op = .alloc 110) (h : wpList Tryz.prog ops Q rest (a.put o.dst (.pointer (some ⟨w.heap.size, 0, none⟩))) (w.alloc (.cells zW 110))) : wpList Tryz.prog ops Q (o :: rest) a w :=
  op_alloc hgd ho infoWrite h
theorem op_store_new {t : TypeId} {C D : Array Value} {s : Nat} (hgd : o.guard = none) (x y : Operand) (ho : o.op = .store t x y) (g : Nat) (hg : g = w.heap.size) (hx : a.eval x = .pointer (some ⟨g, 0, none⟩)) (hy : a.eval y = .agg D)
    (hs : (Tryz.prog.info? t).map (·.size) = some s) (hD : D.size = s) (hC : C.size = s) (h1 : D.all (·.oneCell') = true)
    (h : wpList Tryz.prog ops Q rest (a.put o.dst undef) (w.alloc (.cells D t))) : wpList Tryz.prog ops Q (o :: rest) a (w.alloc (.cells C t)) := by
  subst hg
  refine wpList_store_row hgd t x y ho w.heap.size D hx hy t C (Go.heap_alloc_new w _) (by rw [hs, hD]) (by rw [hC, hD]) h1 ?_
  rw [World.setRow_alloc_new]
  exact h
theorem one_u8 (l : List Nat) : ((l.map u8).toArray).all (·.oneCell') = true := all_oneCell_toArray (u8_one l)
theorem one_wcells (q : Nat × List Nat) : ((wcells q).toArray).all (·.oneCell') = true := all_oneCell_toArray (by
  intro v hv
  rcases List.mem_cons.1 hv with rfl | hv
  · rfl
  · exact u8_one _ v hv)
theorem op_store_sector (hgd : o.guard = none) (x y : Operand) (ho : o.op = .store 108 x y) (g : Nat) (hg : g = w.heap.size) (l : List Nat) (hl : l.length = 128) (hx : a.eval x = .pointer (some ⟨g, 0, none⟩)) (hy : a.eval y = .agg (l.map u8).toArray)
    (h : wpList Tryz.prog ops Q rest (a.put o.dst undef) (w.alloc (.cells (l.map u8).toArray 108))) : wpList Tryz.prog ops Q (o :: rest) a (w.alloc (.cells zS 108)) :=
  op_store_new hgd x y ho g hg hx hy sizeSector (by simpa using hl) zS_size (one_u8 l) h
theorem op_store_write (hgd : o.guard = none) (x y : Operand) (ho : o.op = .store 110 x y) (g : Nat) (hg : g = w.heap.size) (q : Nat × List Nat) (hl : q.2.length = 128) (hx : a.eval x = .pointer (some ⟨g, 0, none⟩)) (hy : a.eval y = .agg (wcells q).toArray)
    (h : wpList Tryz.prog ops Q rest (a.put o.dst undef) (w.alloc (.cells (wcells q).toArray 110))) : wpList Tryz.prog ops Q (o :: rest) a (w.alloc (.cells zW 110)) :=
  op_store_new hgd x y ho g hg hx hy sizeWrite (by simpa using wcells_length hl) zW_size (one_wcells q) h
theorem op_load_sector (hgd : o.guard = none) (x : Operand) (ho : o.op = .load 108 x) (b off : Nat) (l : List Nat) (hl : l.length = 128) (hc : w.rangeAt b off (l.map u8)) (hx : a.eval x = .pointer (some ⟨b, off, none⟩))
    (h : wpList Tryz.prog ops Q rest (a.put o.dst (.agg (l.map u8).toArray)) w) : wpList Tryz.prog ops Q (o :: rest) a w :=
  wpList_load_mid hgd 108 x ho b off hx (l.map u8) _ hc Tryz.underlying108 rfl (by rw [sizeSector, List.length_map, hl]) h
theorem op_load_write (hgd : o.guard = none) (x : Operand) (ho : o.op = .load 110 x) (b off : Nat) (q : Nat × List Nat) (hl : q.2.length = 128) (hc : w.rangeAt b off (wcells q)) (hx : a.eval x = .pointer (some ⟨b, off, none⟩))
    (h : wpList Tryz.prog ops Q rest (a.put o.dst (.agg (wcells q).toArray)) w) : wpList Tryz.prog ops Q (o :: rest) a w :=
  wpList_load_mid hgd 110 x ho b off hx (wcells q) _ hc Tryz.underlying110 rfl (by rw [sizeWrite, wcells_length hl]) h
theorem op_s2a (hgd : o.guard = none) (x : Operand) (ho : o.op = .sliceToArrayPointer 108 x) (A : Option Addr) (c : Nat) (hx : a.eval x = .slice A 128 c)
    (h : wpList Tryz.prog ops Q rest (a.put o.dst (.pointer A)) w) : wpList Tryz.prog ops Q (o :: rest) a w := by
  refine wpList_plain hgd fun K hK => ?_
  unfold Oper.wp execOp
  simp [ho, hx, Instr.arrayAt, run_underlying Tryz.underlying108, Result.andThen]
  exact hK _ _ h
set_option maxRecDepth 10000 in
theorem built_write (i : Nat) (l : List Nat) (hl : l.length = 128) : Tryz.prog.built 110 [(0, .int .i64 (i : Int)), (1, .agg (l.map u8).toArray)] = some (wcells (i, l)).toArray := by
  have h0 : Tryz.prog.built 110 [(0, .int .i64 (i : Int)), (1, .agg (l.map u8).toArray)] = Instr.fill ((#[(0, 1), (1, 128)] : Array (Nat × Nat))[·]?) zW [(0, .int .i64 (i : Int)), (1, .agg (l.map u8).toArray)] := by
    unfold Program.built
    have h1 : (Tryz.prog.info? 110).map (·.zero) = some (some (.agg zW)) := by kernel_rfl
    obtain ⟨it, hi, hz⟩ := Option.map_eq_some_iff.1 h1
    rw [hi, Tryz.underlying110]
    simp only [hz]
    rfl
  rw [h0]
  have e2 : (l.map u8).toArray.size = 128 := by simpa using hl
  have hzw := zW_size
  clear h0
  generalize zW = ZW at hzw ⊢
  have hZ1 : ∀ k, (ZW.setIfInBounds 0 (.int .i64 (i : Int)))[k]? = if k = 0 then some (.int .i64 (i : Int)) else ZW[k]? := fun k => by
    rw [Array.getElem?_setIfInBounds]
    by_cases hk : 0 = k
    · rw [if_pos hk, if_pos (by omega), if_pos hk.symm]
    · rw [if_neg hk, if_neg (fun h => hk h.symm)]
  have e4 : Instr.fill ((#[(0, 1), (1, 128)] : Array (Nat × Nat))[·]?) ZW [(0, .int .i64 (i : Int)), (1, .agg (l.map u8).toArray)] = some ((l.map u8).toArray.zipIdx.foldl (fun cs (x : Value × Nat) => cs.setIfInBounds (1 + x.2) x.1) (ZW.setIfInBounds 0 (.int .i64 (i : Int)))) := by
    simp [Instr.fill, Value.cells, hzw, hl]
  rw [e4]
  congr 1
  rw [← Array.foldl_toList, Array.toList_zipIdx]
  obtain ⟨h3, h4⟩ := Great.foldl_set 1 ((l.map u8).toArray).toList 0 (ZW.setIfInBounds 0 (.int .i64 (i : Int)))
  apply Array.ext_getElem?
  intro k
  rw [h4 k, hZ1 k, Array.size_setIfInBounds, hzw]
  simp only [List.length_map, hl, List.getElem?_toArray, wcells]
  rcases k with _ | k
  · rw [if_neg (by omega), if_pos rfl]; rfl
  · by_cases hk : k < 128
    · rw [if_pos (by omega), List.getElem?_cons_succ, show k + 1 - (1 + 0) = k by omega]
    · rw [if_neg (by omega), if_neg (by omega), List.getElem?_cons_succ, List.getElem?_eq_none (by simp; omega), Array.getElem?_eq_none (by rw [hzw]; omega)]
theorem op_build_write (hgd : o.guard = none) (x y : Operand) (ho : o.op = .build 110 #[(0, x), (1, y)]) (i : Nat) (l : List Nat) (hl : l.length = 128) (hx : a.eval x = .int .i64 (i : Int)) (hy : a.eval y = .agg (l.map u8).toArray)
    (h : wpList Tryz.prog ops Q rest (a.put o.dst (.agg (wcells (i, l)).toArray)) w) : wpList Tryz.prog ops Q (o :: rest) a w := by
  have e : ((#[(0, x), (1, y)] : Array (Nat × Operand)).map fun (i, x) => (i, a.eval x)).toList = [(0, .int .i64 (i : Int)), (1, .agg (l.map u8).toArray)] := by simp [hx, hy]
  refine wpList_build hgd 110 _ ho (by rw [e, built_write i l hl]; rfl) ?_
  rw [e, built_write i l hl]
  exact h
theorem run_buildSlice_write (q : Nat × List Nat) (hl : q.2.length = 128) : (Instr.buildSlice 61 1 #[(0, .agg (wcells q).toArray)]).run Tryz.prog w = .ok (.slice (some ⟨w.heap.size, 0, none⟩) 1 1) (w.alloc (.cells (wcells q).toArray 110)) := by
  obtain ⟨ie, hie, hz, hs, _⟩ := info_parts infoWrite
  refine run_buildSlice w 61 110 1 _ _ ie _ Tryz.underlying61 hie hz (by rw [hs]; decide) (by rw [hs]; decide) ?_
  rw [hs]
  have h := Great.fill_whole (s := 129) (by decide) [Value.agg (wcells q).toArray] ((Array.range (1 * 129)).map ((Value.agg zW).cells[· % (Value.agg zW).cells.size]!)) (fun v hv => by
    rw [List.mem_singleton] at hv
    subst hv
    simpa [Value.cells] using wcells_length hl) (by simp)
  simpa [Value.cells] using h
end
end Go.Proofs.YtbdjlmdbnoghnaaGreat
