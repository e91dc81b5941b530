/- Entries in a slice of one's own; what the program reads where an entry stands. -/
import Derived.Test.YtpgeebhepegpaaaDrD
import Derived.Test.YtpgeebhepegpaaaDrB
import Derived.Test.YtpgeebhepegpaaaItx
import Derived.Test.YtpgeebhepegpaaaGet
namespace Go.Proofs.Ytpgeebhepegpaaa
open Go.ChangeShapes Go.WideShapes Go.ChangeAt Go.RowKit

set_option maxRecDepth 3000 in
theorem infoEntry : (Try.prog.info? 54).map (fun i => (i.zero, i.size, i.bytes)) = some (some (.agg #[.string ⟨#[]⟩, .int .i64 0, .int .i64 0, .int .i64 0]), 4, 40) := by kernel_rfl
/-- entries in a slice of one's own, since W -/
structure EnO (W : World) (l : List En) (v : Value) (w : World) : Prop where
  ex : ∃ F, Sl w F 54 4 v l.length (ecs l) ∧ Adv Nul W F w
  sz : ∀ e ∈ l, e.s.size ≤ maxLen
section
variable {W w w' : World} {l : List En} {v : Value}
set_option maxRecDepth 3000 in
theorem EnO.nil (W : World) : EnO W [] (.slice none 0 0) W := ⟨⟨Nul, Sl.nil _ _ _, Adv.refl _ _⟩, fun _ h => by simp at h⟩
set_option maxRecDepth 3000 in
theorem EnO.adv (h : EnO W l v w) : Adv Nul W Nul w := by
  obtain ⟨F, _, h2⟩ := h.ex
  exact h2.sub (fun _ h => h.elim)
set_option maxRecDepth 3000 in
theorem EnO.step {F' : Nat → Prop} (h : EnO W l v w) (ha : Adv Nul w F' w') : EnO W l v w' := by
  obtain ⟨F, h1, h2⟩ := h.ex
  exact ⟨⟨F, h1.far ha (fun _ h _ => h), h2.over ha⟩, h.sz⟩
set_option maxRecDepth 3000 in
theorem EnO.form (h : EnO W l v w) : ∃ A c, v = .slice A l.length c := by
  obtain ⟨F, h1, _⟩ := h.ex
  obtain ⟨A, c, e, _⟩ := h1.form0
  exact ⟨A, c, e⟩
set_option maxRecDepth 3000 in
theorem EnO.rd (h : EnO W l v w) : EnR7 w v l := by
  obtain ⟨F, h1, _⟩ := h.ex
  exact ⟨h1.rd, h.sz⟩
set_option maxRecDepth 3000 in
/-- more of them behind -/
theorem EnO.more {m : List En} (h : EnO W l v w) (hm : ∀ e ∈ m, e.s.size ≤ maxLen) : w.ownsRow 0 54 4 v l.length (ecs l) ∧ ∀ (w0 : World) v' w3, Adv Nul w Nul w0 → w3.ownsRow 0 54 4 v' (l.length + m.length) (ecs l ++ ecs m) → w0.grownBy w3 v.ownBlock → (v'.ownBlock = v.ownBlock ∨ v'.ownBlock = some w0.heap.size) → EnO W (l ++ m) v' w3 := by
  obtain ⟨F, h1, h2⟩ := h.ex
  refine ⟨h1.own, fun w0 v' w3 h0 hown hg hat => ?_⟩
  have h1' := h1.far h0 (fun _ h _ => h)
  have hF' : ∀ j, (F j ∨ v'.ownBlock = some j) → F j ∨ w0.heap.size ≤ j := by
    rintro j (h | h)
    · exact .inl h
    · rcases hat with e | e
      · exact .inl (h1.inF j (by rw [← e]; exact h))
      · rw [e] at h; injection h with h; right; omega
  have hA : Adv F w0 (fun j => F j ∨ v'.ownBlock = some j) w3 := by
    have h5 := (Adv.refl F w0).grown hg (fun j hj => .inl (h1.inF j hj))
    exact ⟨h5.os, h5.tape, h5.output, h5.size, h5.block, hF'⟩
  refine ⟨⟨_, ⟨by rw [List.length_append, ecs_append]; exact hown, fun j hj => .inr hj, ?_⟩, (h2.over h0).trans hA⟩, fun e he => ?_⟩
  · rintro j (h | h)
    · exact Nat.lt_of_lt_of_le (h1'.bd j h) hA.size
    · exact (hown.lt j h).2
  · rcases List.mem_append.1 he with h' | h'
    · exact h.sz e h'
    · exact hm e h'
end
set_option maxRecDepth 3000 in
theorem run_append_en {w : World} {ty : TypeId} {v src : Value} {n m : Nat} {xs news : List Value} (hown : w.ownsRow 0 54 4 v n xs) (hr : Rd w 4 src m news) (h1 : ∀ u ∈ news, u.oneCell' = true) (hn : n + m ≤ 1000000) :
    ∃ v' w', (Builtin.append_ #[26, 26] ty #[v, src]).run Try.prog w = .ok v' w' ∧ w'.ownsRow 0 54 4 v' (n + m) (xs ++ news) ∧ w.grownBy w' v.ownBlock ∧ (v'.ownBlock = v.ownBlock ∨ v'.ownBlock = some w.heap.size) := by
  obtain ⟨i0, hi, hz0, hz1, hz2⟩ := info_parts infoEntry
  obtain ⟨A, c, rfl, hmc, _, hxl, hA, hc⟩ := hr
  rcases A with _ | ad
  · obtain rfl : c = 0 := hA rfl
    obtain rfl : m = 0 := by omega
    obtain rfl : news = [] := List.eq_nil_of_length_eq_zero (by simpa using hxl)
    exact ⟨v, w, run_append_owned_none (P := Try.prog) w 0 26 ty 54 i0 4 Try.underlying26 hi v n xs hown, by simpa using hown, World.grownBy.refl _ _, .inl rfl⟩
  · have hcells : ∀ j u, news[j]? = some u → w.cell? (ad.add j) = some u := by
      intro j u hu
      have hj : j < news.length := (List.getElem?_eq_some_iff.1 hu).1
      obtain ⟨ad', e, _, h⟩ := hc (by omega)
      have e := Option.some.inj e
      subst e
      exact h j u hu
    obtain ⟨v', w', hrun, h2, h3, _, h5⟩ := run_append_own_at (P := Try.prog) w 0 26 ty 54 i0 _ 4 40 Try.underlying26 hi hz0 hz1 hz2 rfl (by decide) v n xs hown ad m c news hxl hcells h1 (by unfold maxLen; omega) (by omega) (Nat.zero_le _)
    exact ⟨v', w', hrun, h2, h3, h5⟩
set_option maxRecDepth 3000 in
theorem wpList_append_en {w : World} {ops : Array Oper} {rest : List Oper} {o : Oper} {a : Act} {Q : Exit → Act → World → Prop} (hgd : o.guard = none) (s x : Operand)
    (ho : o.op = .call { callee := .builtin .append, args := #[s, x], argTypes := #[26, 26] })
    {v src : Value} {n m : Nat} {xs news : List Value} (hs : a.eval s = v) (hx : a.eval x = src) (hown : w.ownsRow 0 54 4 v n xs) (hr : Rd w 4 src m news) (h1 : ∀ u ∈ news, u.oneCell' = true) (hn : n + m ≤ 1000000)
    (h : ∀ v' w', w'.ownsRow 0 54 4 v' (n + m) (xs ++ news) → w.grownBy w' v.ownBlock → (v'.ownBlock = v.ownBlock ∨ v'.ownBlock = some w.heap.size) → wpList Try.prog ops Q rest (a.put o.dst v') w') : wpList Try.prog ops Q (o :: rest) a w := by
  refine wpList_plain hgd fun K hK => ?_
  obtain ⟨v', w', hrun, h2, h3, h4⟩ := run_append_en (ty := o.type) hown hr h1 hn
  unfold Oper.wp execOp
  simp only [ho, resolve, invoke, builtin, Sem.run_bind, Sem.run_pure, Result.andThen_ok, List.map_toArray, List.map_cons, List.map_nil, hs, hx, hrun]
  exact hK _ _ (h v' w' h2 h3 h4)
set_option maxRecDepth 3000 in
/-- one entry, made just now -/
theorem rd_one (w : World) (e : En) : Rd (w.alloc (.cells (ea e) 54)) 4 (.slice (some ⟨w.heap.size, 0, none⟩) 1 1) 1 (ec e) :=
  ⟨_, _, rfl, Nat.le_refl _, by decide, rfl, fun x => (by cases x), fun _ => ⟨_, rfl, by simp, fun j u hu => by
    rw [add_none, Nat.zero_add, (Blk.new w 54 (ea e)).cell, ← Array.getElem?_toList]; exact hu⟩⟩
set_option maxRecDepth 3000 in
theorem ecs_one_eq (e : En) : ecs [e] = ec e := by simp [ecs]

/-! Reading. -/
set_option maxRecDepth 3000 in
theorem itxt_rdS (V k n : Nat) : itxt ((List.range n).map fun j => bitsAt 128 V (172 * k + 44 + 8 * j) 8) = rdS V k n := by
  apply data_ext
  simp [itxt, strOfNums, rdS, bytesAt, byteAt, List.map_map, Function.comp]
/-- while a name's bytes are read -/
structure RdQ (W : World) (y u g b V k : Nat) (F : Nat → Prop) (E : En) (j : Nat) (w : World) : Prop where
  rs : RSt w F b 128 V (172 * k + 44 + 8 * j)
  bd : Bd F w
  bu : Blk w u 54 (ea E)
  by_ : Blk w y 54 (ea ⟨⟨#[]⟩, 0, 0, 0⟩)
  bg : Blk w g 122 (a16 fun i => if i < j then bitsAt 128 V (172 * k + 44 + 8 * i) 8 else 0)
  ad : Adv F W F w
  ne : ¬ F u ∧ ¬ F y ∧ ¬ F g ∧ u ≠ y ∧ u ≠ g ∧ y ≠ g
  new : W.heap.size ≤ u ∧ W.heap.size ≤ y ∧ W.heap.size ≤ g
set_option maxRecDepth 3000 in
theorem a16_set (f : Nat → Nat) (j x : Nat) (g : Nat → Nat) (h1 : g j = x) (h2 : ∀ i, i < 16 → i ≠ j → g i = f i) : (a16 f).setIfInBounds j (u8 x) = a16 g := by
  apply Array.ext (by simp [a16_size])
  intro i hi1 hi2
  have hi : i < 16 := by simpa [a16_size] using hi2
  have e1 := a16_at g i hi
  rw [Array.getElem?_eq_getElem hi2] at e1
  rw [Option.some.inj e1]
  rw [Array.getElem_setIfInBounds]
  split
  · rename_i h; subst h; rw [h1]
  · rename_i h
    have e2 := a16_at f i hi
    have hi3 : i < (a16 f).size := hi
    rw [Array.getElem?_eq_getElem hi3] at e2
    rw [h2 i hi (fun e => h e.symm)]
    exact Option.some.inj e2
  · exact hi
set_option maxRecDepth 3000 in
theorem RdQ.get {W w w' : World} {y u g b V k j : Nat} {F : Nat → Prop} {E : En} (h : RdQ W y u g b V k F E j w) (hr : RSt w' F b 128 V (172 * k + 44 + 8 * j + 8)) (ha : Adv F w F w') (hb : Bd F w') : RdQ W y u g b V k F E (j + 1) (w'.setCell ⟨g, j, none⟩ (u8 (bitsAt 128 V (172 * k + 44 + 8 * j) 8))) := by
  have n1 := h.ne
  have hbu := h.bu.keep (ha.block u h.bu.lt n1.1)
  have hby := h.by_.keep (ha.block y h.by_.lt n1.2.1)
  have hbg := h.bg.keep (ha.block g h.bg.lt n1.2.2.1)
  have hset := hbg.set_ j (u8 (bitsAt 128 V (172 * k + 44 + 8 * j) 8))
  rw [a16_set _ j _ (fun i => if i < j + 1 then bitsAt 128 V (172 * k + 44 + 8 * i) 8 else 0) (by rw [if_pos (by omega)]) (fun i _ hne => by
    by_cases h' : i < j
    · rw [if_pos h', if_pos (by omega)]
    · rw [if_neg h', if_neg (by omega)])] at hset
  refine ⟨?_, fun q hq => by simpa [World.setCell] using hb q hq, hbu.far (p := ⟨g, j, none⟩) n1.2.2.2.2.1 _, hby.far (p := ⟨g, j, none⟩) n1.2.2.2.2.2 _, hset, (h.ad.trans ha).setCell (p := ⟨g, j, none⟩) (.inr h.new.2.2) _, n1, h.new⟩
  rw [show 172 * k + 44 + 8 * (j + 1) = 172 * k + 44 + 8 * j + 8 by omega]
  exact hr.setCell hb (p := ⟨g, j, none⟩) n1.2.2.1 _

set_option maxRecDepth 3000 in
theorem wrap_b64 (q V a n : Nat) (hn : n ≤ 62) : wrap64 ((bitsAt q V a n : Nat) : Int) = ((bitsAt q V a n : Nat) : Int) := by
  have h := bitsAt_lt q V a n
  have h2 : 2 ^ n ≤ 2 ^ 62 := Nat.pow_le_pow_right (by decide) hn
  unfold wrap64; omega
def RdL (W : World) (y u g b V k : Nat) (E : En) (F : Nat → Prop) (t : Value) (wr : World) : Prop := ∃ j : Nat, t = .int .i64 (j : Int) ∧ j ≤ 16 ∧ RdQ W y u g b V k F E j wr
set_option maxRecDepth 3000 in
theorem sizeEntry : (Try.prog.info? 54).map (·.size) = some 4 := by kernel_rfl
set_option maxRecDepth 3000 in
theorem ea_one (e : En) : (ea e).all (·.oneCell') = true := by simp [ea, Value.oneCell']
set_option maxRecDepth 3000 in
theorem Blk.four {w : World} {y : Nat} {t : TypeId} {C : Array Value} (h : Blk w y t C) (hC : C.size = 4) : w.there y 0 4 := fun j hj => ⟨by rw [h.cell (0 + j), Nat.zero_add, Array.getElem?_eq_getElem (by omega)]; rfl, h.frozen _⟩
end Go.Proofs.Ytpgeebhepegpaaa
