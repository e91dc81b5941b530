/- The program's parts: the entries that stand in a block. -/
import Derived.Test.YtpgeebhepegpaaaDrJ
namespace Go.Proofs.Ytpgeebhepegpaaa
open Go.ChangeShapes Go.WideShapes Go.ChangeAt Go.RowKit

set_option maxRecDepth 3000 in
theorem Adv.newF {W w w' : World} {F F' : Nat → Prop} (h : Adv Nul W Nul w) (ha : Adv F w F' w') (fn : ∀ q, F q → W.heap.size ≤ q) : Adv Nul W Nul w' :=
  ⟨ha.os.trans h.os, ha.tape.trans h.tape, ha.output.trans h.output, Nat.le_trans h.size ha.size, fun k hk _ => (ha.block k (Nat.lt_of_lt_of_le hk h.size) (fun hf => absurd (fn k hf) (by omega))).trans (h.block k hk (fun x => x)), fun k hk => hk.elim⟩
/-- between two entries that are read -/
structure PaS (W : World) (b V j : Nat) (F : Nat → Prop) (l : List En) (v : Value) (w : World) : Prop where
  rs : RSt w F b 128 V (172 * j)
  bd : Bd F w
  ex : ∃ F2, Sl w F2 54 4 v l.length (ecs l) ∧ Sep F F2 ∧ ∀ q, F2 q → W.heap.size ≤ q
  ad : Adv Nul W Nul w
  fn : ∀ q, F q → W.heap.size ≤ q
section
variable {W w w' : World} {b V j : Nat} {F : Nat → Prop} {l : List En} {v : Value}
set_option maxRecDepth 3000 in
theorem PaS.alloc (h : PaS W b V j F l v w) (o : Obj) : PaS W b V j F l v (w.alloc o) := by
  obtain ⟨F2, h1, h2, h3⟩ := h.ex
  exact ⟨h.rs.alloc h.bd o, fun q hq => Nat.lt_of_lt_of_le (h.bd q hq) (by simp), ⟨F2, h1.far (F' := Nul) ((Adv.refl Nul w).alloc o) (fun _ x _ => x), h2, h3⟩, h.ad.alloc o, h.fn⟩
set_option maxRecDepth 3000 in
theorem PaS.form (h : PaS W b V j F l v w) : ∃ A c, v = .slice A l.length c := by
  obtain ⟨F2, h1, _⟩ := h.ex
  obtain ⟨A, c, e, _⟩ := h1.form0
  exact ⟨A, c, e⟩
set_option maxRecDepth 3000 in
theorem PaS.read (h : PaS W b V j F l v w) (hr : RSt w' F b 128 V (172 * (j + 1))) (ha : Adv F w F w') (hb : Bd F w') : PaS W b V (j + 1) F l v w' := by
  obtain ⟨F2, h1, h2, h3⟩ := h.ex
  exact ⟨hr, hb, ⟨F2, h1.far ha h2, h2, h3⟩, h.ad.newF ha h.fn, h.fn⟩
set_option maxRecDepth 3000 in
theorem PaS.own (h : PaS W b V j F l v w) : w.ownsRow 0 54 4 v l.length (ecs l) := by
  obtain ⟨F2, h1, _⟩ := h.ex
  exact h1.own
set_option maxRecDepth 3000 in
theorem PaS.push {e : En} {v' : Value} (h : PaS W b V j F l v w) (hown : w'.ownsRow 0 54 4 v' (l.length + 1) (ecs l ++ ec e)) (hg : w.grownBy w' v.ownBlock) (hat : v'.ownBlock = v.ownBlock ∨ v'.ownBlock = some w.heap.size) : PaS W b V j F (l ++ [e]) v' w' := by
  obtain ⟨F2, h1, h2, h3⟩ := h.ex
  have hF' : ∀ q, (F2 q ∨ v'.ownBlock = some q) → F2 q ∨ w.heap.size ≤ q := by
    rintro q (h | h)
    · exact .inl h
    · rcases hat with e | e
      · exact .inl (h1.inF q (by rw [← e]; exact h))
      · rw [e] at h; injection h with h; right; omega
  have hA : Adv F2 w (fun q => F2 q ∨ v'.ownBlock = some q) w' := by
    have h5 := (Adv.refl F2 w).grown hg (fun q hq => .inl (h1.inF q hq))
    exact ⟨h5.os, h5.tape, h5.output, h5.size, h5.block, hF'⟩
  have hsep : Sep F (fun q => F2 q ∨ v'.ownBlock = some q) := fun q a c => by
    rcases hF' q c with d | d
    · exact h2 q a d
    · have := h.bd q a; omega
  obtain ⟨rv, hB, hS⟩ := h.rs.ex
  have hb := hA.block b hB.lt (fun f => h2 b h.rs.inF f)
  refine ⟨⟨⟨rv, hB.keep hb, hS.far hA h2.symm⟩, h.rs.inF, h.rs.le, h.rs.sm⟩, hA.bd h.bd, ⟨_, ⟨by rw [List.length_append, ecs_append, ecs_one_eq]; exact hown, fun q hq => .inr hq, ?_⟩, hsep, fun q hq => ?_⟩, h.ad.newF hA h3, h.fn⟩
  · rintro q (c | c)
    · exact Nat.lt_of_lt_of_le (h1.bd q c) hA.size
    · exact (hown.lt q c).2
  · rcases hF' q hq with d | d
    · exact h3 q d
    · exact Nat.le_trans h.ad.size d
end
set_option maxRecDepth 3000 in
theorem rd_one2 (w : World) (o : Obj) (e : En) : Rd ((w.alloc o).alloc (.cells (ea e) 54)) 4 (.slice (some ⟨w.heap.size + 1, 0, none⟩) 1 1) 1 (ec e) := by
  have := rd_one (w.alloc o) e
  rwa [World.size_alloc] at this
set_option maxRecDepth 3000 in
theorem rdE_size (V k : Nat) : (rdE V k (min (rdN V k) 16)).s.size = min (rdN V k) 16 := by
  show (bytesAt 128 V (172 * k + 44) (min (rdN V k) 16)).toArray.size = _
  rw [List.size_toArray, bytesAt_length]
set_option maxRecDepth 3000 in
theorem size0 {s : ByteArray} (h : s.size = 0) : s = ⟨#[]⟩ := by
  apply data_ext
  rw [List.eq_nil_of_length_eq_zero (show s.data.toList.length = 0 from h)]
set_option maxRecDepth 3000 in
theorem ne_nil {s : ByteArray} (h : s.size ≠ 0) : (s.toList == []) = false := by
  rw [beq_eq_false_iff_ne, ByteArray.toList_eq]
  intro e
  exact h (by show s.data.size = 0; rw [← Array.length_toList, e]; rfl)
def PaL (W : World) (b V : Nat) (F : Nat → Prop) (t4 t8 : Value) (wr : World) : Prop := ∃ j : Nat, t8 = .int .i64 (j : Int) ∧ j ≤ 5 ∧ PaS W b V j F (ptP V j) t4 wr
end Go.Proofs.Ytpgeebhepegpaaa
