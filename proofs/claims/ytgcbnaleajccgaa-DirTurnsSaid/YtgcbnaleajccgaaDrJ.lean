/- Entries in a slice of one's own; what the program reads where an entry stands. -/
import Derived.Test.YtgcbnaleajccgaaDrD
import Derived.Test.YtgcbnaleajccgaaDrB
import Derived.Test.YtgcbnaleajccgaaItx
import Derived.Test.YtgcbnaleajccgaaGet
namespace Go.Proofs.Ytgcbnaleajccgaa
open Go.ChangeShapes Go.WideShapes Go.ChangeAt Go.RowKit

theorem infoEntry : (Try.prog.info? 46).map (fun i => (i.zero, i.size, i.bytes)) = some (some (.agg #[.string ⟨#[]⟩, .int .i64 0, .int .i64 0, .int .i64 0]), 4, 40) := by kernel_rfl
/-- entries in a slice of one's own, since W -/
structure EnO (W : World) (l : List En) (v : Value) (w : World) : Prop where
  ex : ∃ F, Sl w F 46 4 v l.length (ecs l) ∧ Adv Nul W F w
  sz : ∀ e ∈ l, e.s.size ≤ maxLen
section
variable {W w w' : World} {l : List En} {v : Value}
theorem EnO.nil (W : World) : EnO W [] (.slice none 0 0) W := ⟨⟨Nul, Sl.nil _ _ _, Adv.refl _ _⟩, fun _ h => by simp at h⟩
theorem EnO.adv (h : EnO W l v w) : Adv Nul W Nul w := by
  obtain ⟨F, _, h2⟩ := h.ex
  exact h2.sub (fun _ h => h.elim)
theorem EnO.step {F' : Nat → Prop} (h : EnO W l v w) (ha : Adv Nul w F' w') : EnO W l v w' := by
  obtain ⟨F, h1, h2⟩ := h.ex
  exact ⟨⟨F, h1.far ha (fun _ h _ => h), h2.over ha⟩, h.sz⟩
theorem EnO.form (h : EnO W l v w) : ∃ A c, v = .slice A l.length c := by
  obtain ⟨F, h1, _⟩ := h.ex
  obtain ⟨A, c, e, _⟩ := h1.form0
  exact ⟨A, c, e⟩
theorem EnO.rd (h : EnO W l v w) : EnR w v l := by
  obtain ⟨F, h1, _⟩ := h.ex
  exact ⟨h1.rd, h.sz⟩
/-- more of them behind -/
theorem EnO.more {m : List En} (h : EnO W l v w) (hm : ∀ e ∈ m, e.s.size ≤ maxLen) : w.ownsRow 0 46 4 v l.length (ecs l) ∧ ∀ (w0 : World) v' w3, Adv Nul w Nul w0 → w3.ownsRow 0 46 4 v' (l.length + m.length) (ecs l ++ ecs m) → w0.grownBy w3 v.ownBlock → (v'.ownBlock = v.ownBlock ∨ v'.ownBlock = some w0.heap.size) → EnO W (l ++ m) v' w3 := by
  obtain ⟨F, h1, h2⟩ := h.ex
  refine ⟨h1.own, fun w0 v' w3 h0 hown hg hat => ?_⟩
  have h1' := h1.far h0 (fun _ h _ => h)
  have hF' : ∀ j, (F j ∨ v'.ownBlock = some j) → F j ∨ w0.heap.size ≤ j := by
    rintro j (h | h)
    · exact .inl h
    · rcases hat with e | e
      · exact .inl (h1.inF j (by rw [← e]; exact h))
      · rw [e] at h; injection h with h; right; omega
  have hA : Adv F w0 (fun j => F j ∨ v'.ownBlock = some j) w3 := by
    have h5 := (Adv.refl F w0).grown hg (fun j hj => .inl (h1.inF j hj))
    exact ⟨h5.os, h5.tape, h5.output, h5.size, h5.block, hF'⟩
  refine ⟨⟨_, ⟨by rw [List.length_append, ecs_append]; exact hown, fun j hj => .inr hj, ?_⟩, (h2.over h0).trans hA⟩, fun e he => ?_⟩
  · rintro j (h | h)
    · exact Nat.lt_of_lt_of_le (h1'.bd j h) hA.size
    · exact (hown.lt j h).2
  · rcases List.mem_append.1 he with h' | h'
    · exact h.sz e h'
    · exact hm e h'
end
theorem run_append_en {w : World} {ty : TypeId} {v src : Value} {n m : Nat} {xs news : List Value} (hown : w.ownsRow 0 46 4 v n xs) (hr : Rd w 4 src m news) (h1 : ∀ u ∈ news, u.oneCell' = true) (hn : n + m ≤ 1000000) :
    ∃ v' w', (Builtin.append_ #[22, 22] ty #[v, src]).run Try.prog w = .ok v' w' ∧ w'.ownsRow 0 46 4 v' (n + m) (xs ++ news) ∧ w.grownBy w' v.ownBlock ∧ (v'.ownBlock = v.ownBlock ∨ v'.ownBlock = some w.heap.size) := by
  obtain ⟨i0, hi, hz0, hz1, hz2⟩ := info_parts infoEntry
  obtain ⟨A, c, rfl, hmc, _, hxl, hA, hc⟩ := hr
  rcases A with _ | ad
  · obtain rfl : c = 0 := hA rfl
    obtain rfl : m = 0 := by omega
    obtain rfl : news = [] := List.eq_nil_of_length_eq_zero (by simpa using hxl)
    exact ⟨v, w, run_append_owned_none (P := Try.prog) w 0 22 ty 46 i0 4 Try.underlying22 hi v n xs hown, by simpa using hown, World.grownBy.refl _ _, .inl rfl⟩
  · have hcells : ∀ j u, news[j]? = some u → w.cell? (ad.add j) = some u := by
      intro j u hu
      have hj : j < news.length := (List.getElem?_eq_some_iff.1 hu).1
      obtain ⟨ad', e, _, h⟩ := hc (by omega)
      have e := Option.some.inj e
      subst e
      exact h j u hu
    obtain ⟨v', w', hrun, h2, h3, _, h5⟩ := run_append_own_at (P := Try.prog) w 0 22 ty 46 i0 _ 4 40 Try.underlying22 hi hz0 hz1 hz2 rfl (by decide) v n xs hown ad m c news hxl hcells h1 (by unfold maxLen; omega) (by omega) (Nat.zero_le _)
    exact ⟨v', w', hrun, h2, h3, h5⟩
theorem wpList_append_en {w : World} {ops : Array Oper} {rest : List Oper} {o : Oper} {a : Act} {Q : Exit → Act → World → Prop} (hgd : o.guard = none) (s x : Operand)
    (ho : o.op = .call { callee := .builtin .append, args := #[s, x], argTypes := #[22, 22] })
    {v src : Value} {n m : Nat} {xs news : List Value} (hs : a.eval s = v) (hx : a.eval x = src) (hown : w.ownsRow 0 46 4 v n xs) (hr : Rd w 4 src m news) (h1 : ∀ u ∈ news, u.oneCell' = true) (hn : n + m ≤ 1000000)
    (h : ∀ v' w', w'.ownsRow 0 46 4 v' (n + m) (xs ++ news) → w.grownBy w' v.ownBlock → (v'.ownBlock = v.ownBlock ∨ v'.ownBlock = some w.heap.size) → wpList Try.prog ops Q rest (a.put o.dst v') w') : wpList Try.prog ops Q (o :: rest) a w := by
  refine wpList_plain hgd fun K hK => ?_
  obtain ⟨v', w', hrun, h2, h3, h4⟩ := run_append_en (ty := o.type) hown hr h1 hn
  unfold Oper.wp execOp
  simp only [ho, resolve, invoke, builtin, Sem.run_bind, Sem.run_pure, Result.andThen_ok, List.map_toArray, List.map_cons, List.map_nil, hs, hx, hrun]
  exact hK _ _ (h v' w' h2 h3 h4)
/-- one entry, made just now -/
theorem rd_one (w : World) (e : En) : Rd (w.alloc (.cells (ea e) 46)) 4 (.slice (some ⟨w.heap.size, 0, none⟩) 1 1) 1 (ec e) :=
  ⟨_, _, rfl, Nat.le_refl _, by decide, rfl, fun x => (by cases x), fun _ => ⟨_, rfl, by simp, fun j u hu => by
    rw [add_none, Nat.zero_add, (Blk.new w 46 (ea e)).cell, ← Array.getElem?_toList]; exact hu⟩⟩
theorem ecs_one_eq (e : En) : ecs [e] = ec e := by simp [ecs]

/-! Reading. -/
theorem itxt_rdS (V k n : Nat) : itxt ((List.range n).map fun j => bitsAt 128 V (172 * k + 44 + 8 * j) 8) = rdS V k n := by
  apply data_ext
  simp [itxt, strOfNums, rdS, bytesAt, byteAt, List.map_map, Function.comp]
/-- while a name's bytes are read -/
structure RdQ (W : World) (y u g b V k : Nat) (F : Nat → Prop) (E : En) (j : Nat) (w : World) : Prop where
  rs : RSt w F b 128 V (172 * k + 44 + 8 * j)
  bd : Bd F w
  bu : Blk w u 46 (ea E)
  by_ : Blk w y 46 (ea ⟨⟨#[]⟩, 0, 0, 0⟩)
  bg : Blk w g 90 (a16 fun i => if i < j then bitsAt 128 V (172 * k + 44 + 8 * i) 8 else 0)
  ad : Adv F W F w
  ne : ¬ F u ∧ ¬ F y ∧ ¬ F g ∧ u ≠ y ∧ u ≠ g ∧ y ≠ g
  new : W.heap.size ≤ u ∧ W.heap.size ≤ y ∧ W.heap.size ≤ g
theorem a16_set (f : Nat → Nat) (j x : Nat) (g : Nat → Nat) (h1 : g j = x) (h2 : ∀ i, i < 16 → i ≠ j → g i = f i) : (a16 f).setIfInBounds j (u8 x) = a16 g := by
  apply Array.ext (by simp [a16_size])
  intro i hi1 hi2
  have hi : i < 16 := by simpa [a16_size] using hi2
  have e1 := a16_at g i hi
  rw [Array.getElem?_eq_getElem hi2] at e1
  rw [Option.some.inj e1]
  rw [Array.getElem_setIfInBounds]
  split
  · rename_i h; subst h; rw [h1]
  · rename_i h
    have e2 := a16_at f i hi
    have hi3 : i < (a16 f).size := hi
    rw [Array.getElem?_eq_getElem hi3] at e2
    rw [h2 i hi (fun e => h e.symm)]
    exact Option.some.inj e2
  · exact hi
theorem RdQ.get {W w w' : World} {y u g b V k j : Nat} {F : Nat → Prop} {E : En} (h : RdQ W y u g b V k F E j w) (hr : RSt w' F b 128 V (172 * k + 44 + 8 * j + 8)) (ha : Adv F w F w') (hb : Bd F w') : RdQ W y u g b V k F E (j + 1) (w'.setCell ⟨g, j, none⟩ (u8 (bitsAt 128 V (172 * k + 44 + 8 * j) 8))) := by
  have n1 := h.ne
  have hbu := h.bu.keep (ha.block u h.bu.lt n1.1)
  have hby := h.by_.keep (ha.block y h.by_.lt n1.2.1)
  have hbg := h.bg.keep (ha.block g h.bg.lt n1.2.2.1)
  have hset := hbg.set_ j (u8 (bitsAt 128 V (172 * k + 44 + 8 * j) 8))
  rw [a16_set _ j _ (fun i => if i < j + 1 then bitsAt 128 V (172 * k + 44 + 8 * i) 8 else 0) (by rw [if_pos (by omega)]) (fun i _ hne => by
    by_cases h' : i < j
    · rw [if_pos h', if_pos (by omega)]
    · rw [if_neg h', if_neg (by omega)])] at hset
  refine ⟨?_, fun q hq => by simpa [World.setCell] using hb q hq, hbu.far (p := ⟨g, j, none⟩) n1.2.2.2.2.1 _, hby.far (p := ⟨g, j, none⟩) n1.2.2.2.2.2 _, hset, (h.ad.trans ha).setCell (p := ⟨g, j, none⟩) (.inr h.new.2.2) _, n1, h.new⟩
  rw [show 172 * k + 44 + 8 * (j + 1) = 172 * k + 44 + 8 * j + 8 by omega]
  exact hr.setCell hb (p := ⟨g, j, none⟩) n1.2.2.1 _

theorem wrap_b64 (q V a n : Nat) (hn : n ≤ 62) : wrap64 ((bitsAt q V a n : Nat) : Int) = ((bitsAt q V a n : Nat) : Int) := by
  have h := bitsAt_lt q V a n
  have h2 : 2 ^ n ≤ 2 ^ 62 := Nat.pow_le_pow_right (by decide) hn
  unfold wrap64; omega
def RdL (W : World) (y u g b V k : Nat) (E : En) (F : Nat → Prop) (t : Value) (wr : World) : Prop := ∃ j : Nat, t = .int .i64 (j : Int) ∧ j ≤ 16 ∧ RdQ W y u g b V k F E j wr
theorem sizeEntry : (Try.prog.info? 46).map (·.size) = some 4 := by kernel_rfl
theorem ea_one (e : En) : (ea e).all (·.oneCell') = true := by simp [ea, Value.oneCell']
theorem Blk.four {w : World} {y : Nat} {t : TypeId} {C : Array Value} (h : Blk w y t C) (hC : C.size = 4) : w.there y 0 4 := fun j hj => ⟨by rw [h.cell (0 + j), Nat.zero_add, Array.getElem?_eq_getElem (by omega)]; rfl, h.frozen _⟩

set_option maxRecDepth 3000 in
set_option maxHeartbeats 6400000 in
theorem dread_any (b V k : Nat) (F : Nat → Prop) (w : World) (hr : RSt w F b 128 V (172 * k)) (hb : Bd F w) (hk : k < 5) :
    Calls Try.prog 49 #[.pointer (some ⟨b, 0, none⟩)] w fun x w' => x = .returned (.agg (ea (rdE V k (min (rdN V k) 16)))) ∧ RSt w' F b 128 V (172 * (k + 1)) ∧ Adv F w F w' ∧ Bd F w' := by
  obtain ⟨y, hy⟩ : ∃ y, y = w.heap.size := ⟨_, rfl⟩
  obtain ⟨V0, hV0⟩ : ∃ V, V = w.alloc (.cells (ea ⟨⟨#[]⟩, 0, 0, 0⟩) 46) := ⟨_, rfl⟩
  have HY := Lib.hid (show Blk V0 y 46 (ea ⟨⟨#[]⟩, 0, 0, 0⟩) by rw [hV0, hy]; exact Blk.new _ _ _)
  have HR0 := Lib.hid (show RSt V0 F b 128 V (172 * k) by rw [hV0]; exact hr.alloc hb _)
  have HB0 := Lib.hid (show Bd F V0 by rw [hV0]; exact fun q hq => Nat.lt_of_lt_of_le (hb q hq) (by simp))
  have HA0 := Lib.hid (show Adv F w F V0 by rw [hV0]; exact (Adv.refl F w).alloc _)
  have HFY := Lib.hid (show ¬ F y from fun h => by have := hb y h; omega)
  have HLY := Lib.hid (show w.heap.size ≤ y by omega)
  have HV0 := Lib.hid hV0
  have HYY := Lib.hid hy
  have HKL := Lib.hid hk
  clear hV0 hy hr hb hk
  simp only [ea] at HV0
  go_enter Try.func49, Try.ntmps49
  go_upto_region 1 with (fail)
  rw [← HV0.out, ← HYY.out]
  have e0 := wrap_b64 128 V (172 * k) 5 (by decide)
  have e1 := wrap_b64 128 V (172 * k + 5) 6 (by decide)
  have e2 := wrap_b64 128 V (172 * k + 11) 31 (by decide)
  have e3 := wrap_b64 128 V (172 * k + 42) 2 (by decide)
  go_wp2_with (first
    | (go_at_call 58; refine (get_ok b 128 V (172 * k) 5 F _ HR0.out HB0.out (by decide) (by have := HKL.out; omega)).mono ?_; rintro e w2 ⟨rfl, r2, a2, b2⟩; have HR2 := Lib.hid r2; have HA2 := Lib.hid (HA0.out.trans a2); have HB2 := Lib.hid b2; have HZ2 := Lib.hid (HY.out.keep (a2.block y HY.out.lt HFY.out)); clear r2 a2 b2 HR0)
    | (go_at_call 58; refine (get_ok b 128 V (172 * k + 5) 6 F _ HR2.out HB2.out (by decide) (by have := HKL.out; omega)).mono ?_; rintro e w3 ⟨rfl, r3, a3, b3⟩; have HR3 := Lib.hid r3; have HA3 := Lib.hid (HA2.out.trans a3); have HB3 := Lib.hid b3; have HZ3 := Lib.hid (HZ2.out.keep (a3.block y HZ2.out.lt HFY.out)); clear r3 a3 b3 HR2)
    | (go_at_call 58; refine (get_ok b 128 V (172 * k + 11) 31 F _ HR3.out HB3.out (by decide) (by have := HKL.out; omega)).mono ?_; rintro e w4 ⟨rfl, r4, a4, b4⟩; have HR4 := Lib.hid r4; have HA4 := Lib.hid (HA3.out.trans a4); have HB4 := Lib.hid b4; have HZ4 := Lib.hid (HZ3.out.keep (a4.block y HZ3.out.lt HFY.out)); clear r4 a4 b4 HR3)
    | (go_at_call 58; refine (get_ok b 128 V (172 * k + 42) 2 F _ HR4.out HB4.out (by decide) (by have := HKL.out; omega)).mono ?_; rintro e w5 ⟨rfl, r5, a5, b5⟩; have HR5 := Lib.hid r5; have HA5 := Lib.hid (HA4.out.trans a5); have HB5 := Lib.hid b5; have HZ5 := Lib.hid (HZ4.out.keep (a5.block y HZ4.out.lt HFY.out)); clear r5 a5 b5 HR4)
    | fail)
  have hx := HA5.out.size
  obtain ⟨E, hE⟩ : ∃ E, E = (⟨⟨#[]⟩, ((bitsAt 128 V (172 * k + 5) 6 : Nat) : Int), ((bitsAt 128 V (172 * k + 11) 31 : Nat) : Int), ((bitsAt 128 V (172 * k + 42) 2 : Nat) : Int)⟩ : En) := ⟨_, rfl⟩
  obtain ⟨u, hu⟩ : ∃ u, u = w5.heap.size := ⟨_, rfl⟩
  obtain ⟨g, hg⟩ : ∃ g, g = w5.heap.size + 1 := ⟨_, rfl⟩
  obtain ⟨W7, hW7⟩ : ∃ W, W = (w5.alloc (.cells (ea E) 46)).alloc (.cells (a16 fun _ => 0) 90) := ⟨_, rfl⟩
  have hq : RdQ w y u g b V k F E 0 W7 := by
    have hb5 := HB5.out
    have hz5 := HZ5.out
    have hbd : Bd F (w5.alloc (.cells (ea E) 46)) := fun q hq => Nat.lt_of_lt_of_le (hb5 q hq) (by simp)
    refine ⟨?_, ?_, ?_, ?_, ?_, ?_, ⟨?_, HFY.out, ?_, ?_, ?_, ?_⟩, ?_, HLY.out, ?_⟩
    · rw [hW7]; exact (HR5.out.alloc hb5 _).alloc hbd _
    · rw [hW7]; exact fun q hq => Nat.lt_of_lt_of_le (hbd q hq) (by simp)
    · rw [hW7, hu]; exact (Blk.new _ _ _).alloc _
    · rw [hW7]; exact (hz5.alloc _).alloc _
    · rw [hW7, hg]
      have := Blk.new (w5.alloc (.cells (ea E) 46)) 90 (a16 fun _ => 0)
      rw [World.size_alloc] at this
      exact this
    · rw [hW7]; exact (HA5.out.alloc _).alloc _
    · exact fun h => by have := hb5 u h; omega
    · exact fun h => by have := hb5 g h; omega
    · have := hz5.lt; omega
    · omega
    · have := hz5.lt; omega
    · omega
    · omega
  have HQ := Lib.hid hq
  have HE := Lib.hid hE
  have hW7' : W7 = (w5.alloc (.cells #[.string ⟨#[]⟩, .int .i64 ((bitsAt 128 V (172 * k + 5) 6 : Nat) : Int), .int .i64 ((bitsAt 128 V (172 * k + 11) 31 : Nat) : Int), .int .i64 ((bitsAt 128 V (172 * k + 42) 2 : Nat) : Int)] 46)).alloc (.cells #[.int .u8 0, .int .u8 0, .int .u8 0, .int .u8 0, .int .u8 0, .int .u8 0, .int .u8 0, .int .u8 0, .int .u8 0, .int .u8 0, .int .u8 0, .int .u8 0, .int .u8 0, .int .u8 0, .int .u8 0, .int .u8 0] 90) := by rw [hW7, hE]; rfl
  rw [← hW7', ← hg, ← hu]
  obtain ⟨n, hn⟩ : ∃ n, n = bitsAt 128 V (172 * k) 5 := ⟨_, rfl⟩
  have HNN := Lib.hid hn
  have HN5 := Lib.hid (show n < 32 by rw [hn]; exact bitsAt_lt _ _ _ _)
  rw [← hn]
  clear hq hE hW7 hW7' hg hu hx e0 e1 e2 e3 hn HR5 HA5 HB5 HZ5 HZ2 HZ3 HZ4 HB2 HB3 HB4 HA2 HA3 HA4
  go_loopw [21] (RdL w y u g b V k E F) (fun t _ => 16 - (intOf t).toNat)
  case atStart => exact ⟨0, rfl, Nat.zero_le _, HQ.out⟩
  case round =>
    obtain ⟨j, rfl, hj, hP⟩ := hrel
    have HP := Lib.hid hP
    clear hP
    by_cases hlt : j < 16
    · have HLT := Lib.hid hlt
      obtain ⟨p, hp⟩ : ∃ p, p = bitsAt 128 V (172 * k + 44 + 8 * j) 8 := ⟨_, rfl⟩
      have hp8 : p < 256 := by rw [hp]; exact bitsAt_lt _ _ _ _
      have ej : IntKind.u8.wrap (p : Int) = (p : Int) := by rw [IntKind.wrap_u8]; omega
      have HPP := Lib.hid hp
      have HQ2 := Lib.hid (fun (w' : World) (r : RSt w' F b 128 V (172 * k + 44 + 8 * j + 8)) (a : Adv F wr F w') (b' : Bd F w') => show RdQ w y u g b V k F E (j + 1) (w'.setCell ⟨g, j, none⟩ (.int .u8 (p : Int))) by rw [hp]; exact HP.out.get r a b')
      have hgc : ∀ w', Adv F wr F w' → w'.cell? ⟨g, j, none⟩ = some (.int .u8 0) ∧ w'.frozen? ⟨g, j, none⟩ = false := fun w' a => by
        have hB := HP.out.bg.keep (a.block g HP.out.bg.lt HP.out.ne.2.2.1)
        refine ⟨?_, hB.frozen j⟩
        rw [hB.cell j, a16_at _ _ hlt, if_neg (by omega)]; rfl
      have HGC := Lib.hid hgc
      clear hp hp8 hgc
      go_wp2_with (first
        | (go_at_call 58; refine (get_ok b 128 V (172 * k + 44 + 8 * j) 8 F _ HP.out.rs HP.out.bd (by decide) (by have := HLT.out; have := HKL.out; omega)).mono ?_; rintro e w6 ⟨rfl, r6, a6, b6⟩; rw [← HPP.out]; obtain ⟨c6, f6⟩ := HGC.out _ a6; have HPS := Lib.hid (HQ2.out _ r6 a6 b6); clear r6 a6 b6)
        | fail)
      exact ⟨⟨j + 1, by go_num, HLT.out, HPS.out⟩, by simp [intOf] <;> omega⟩
    · obtain rfl : j = 16 := by omega
      clear hj hlt
      obtain ⟨m, hm⟩ : ∃ m, m = min n 16 := ⟨_, rfl⟩
      have hmm : (min (n : Int) 16) = (m : Int) := by omega
      have HMM := Lib.hid hmm
      have hm16 : m ≤ 16 := by omega
      have HM16 := Lib.hid hm16
      have HNM := Lib.hid hm
      have hcv : ∀ w', Blk w' g 90 (a16 fun i => if i < 16 then bitsAt 128 V (172 * k + 44 + 8 * i) 8 else 0) → (convert 31 9 (.slice (some ⟨g, 0, none⟩) m 16)).run Try.prog w' = .ok (.string (rdS V k m)) w' := fun w' hB => by
        rw [← itxt_rdS]
        refine iconvert_rd ⟨_, _, rfl, hm16, by decide, by simp, fun x => (by cases x), fun _ => ⟨_, rfl, hB.lt, fun j u hu => ?_⟩⟩
        have hj : j < m := by have := (List.getElem?_eq_some_iff.1 hu).1; simpa using this
        rw [add_none, Nat.zero_add, hB.cell, a16_at _ _ (by omega), if_pos (by omega), ← hu]
        simp [hj]
      have hcw := hcv wr HP.out.bg
      have HCW := Lib.hid hcw
      obtain ⟨S, hS⟩ : ∃ S, S = rdS V k m := ⟨_, rfl⟩
      rw [← hS] at hcw
      have HS := Lib.hid hS
      have u0 : wr.cell? ⟨u, 0, none⟩ = some (.string ⟨#[]⟩) := (HP.out.bu.cell 0).trans (by rw [HE.out]; rfl)
      have uf := HP.out.bu.frozen 0
      have HU := Lib.hid (HP.out.bu.set_ 0 (.string S))
      have hmI : (m : Int) ≤ 16 := by omega
      clear hcv hm hS
      go_upto_region 10 with (fail)
      obtain ⟨W8, hW8⟩ : ∃ W8, W8 = wr.setCell ⟨u, 0, none⟩ (.string S) := ⟨_, rfl⟩
      rw [← hW8] at HU ⊢
      obtain ⟨Ei, Eg, Ek, hEi, hEg, hEk⟩ : ∃ a b c, a = E.i ∧ b = E.g ∧ c = E.k := ⟨_, _, _, rfl, rfl, rfl⟩
      have hU8 : Blk W8 u 46 (ea ⟨S, Ei, Eg, Ek⟩) := by rw [hEi, hEg, hEk]; exact HU.out
      obtain ⟨s0, s1, s2, s3⟩ := hU8.e4.all
      simp only at s0 s1 s2 s3
      have HY8 := Lib.hid (show Blk W8 y 46 (ea ⟨⟨#[]⟩, 0, 0, 0⟩) by rw [hW8]; exact HP.out.by_.far (p := ⟨u, 0, none⟩) HP.out.ne.2.2.2.1.symm _)
      have HR8 := Lib.hid (show RSt W8 F b 128 V (172 * (k + 1)) by rw [hW8, show 172 * (k + 1) = 172 * k + 44 + 8 * 16 by omega]; exact HP.out.rs.setCell HP.out.bd (p := ⟨u, 0, none⟩) HP.out.ne.1 _)
      have HB8 := Lib.hid (show Bd F W8 by rw [hW8]; exact fun q hq => by simpa [World.setCell] using HP.out.bd q hq)
      have HA8 := Lib.hid (show Adv F w F W8 by rw [hW8]; exact HP.out.ad.setCell (p := ⟨u, 0, none⟩) (.inr HP.out.new.1) _)
      have HFIN := Lib.hid (show (⟨S, Ei, Eg, Ek⟩ : En) = rdE V k (min (rdN V k) 16) by
        have h1 : rdN V k = n := HNN.out.symm
        rw [h1, ← HNM.out, hEi, hEg, hEk, HE.out, HS.out]
        rfl)
      clear hW8 hEi hEg hEk hU8 u0 uf hcw hmm hmI hm16
      go_wp2_with (first
        | (refine wpList_store_mid rfl 46 (.tmp 2) (.tmp 35) rfl y 0 (ea ⟨S, Ei, Eg, Ek⟩) rfl rfl (HY8.out.four rfl) sizeEntry (ea_one _) ?_)
        | fail)
      have hY9 := HY8.out.front (ea ⟨S, Ei, Eg, Ek⟩).toList (Nat.le_refl _) (ea ⟨S, Ei, Eg, Ek⟩) rfl (fun j _ => by simp) (fun j hj => by rw [Array.getElem?_eq_none (by simpa [ea] using hj), Array.getElem?_eq_none (by simpa [ea] using hj)])
      have hA9 := Adv.csetCells (ea ⟨S, Ei, Eg, Ek⟩).toList 0 _ HA8.out (.inr HLY.out)
      have hO9 := Adv.csetCells (F := (· = y)) (F' := (· = y)) (ea ⟨S, Ei, Eg, Ek⟩).toList 0 _ (Adv.refl _ W8) (.inl rfl)
      obtain ⟨W9, hW9⟩ : ∃ W9, W9 = W8.setCells y 0 (ea ⟨S, Ei, Eg, Ek⟩).toList := ⟨_, rfl⟩
      rw [← hW9] at hY9 hA9 hO9 ⊢
      obtain ⟨z0, z1, z2, z3⟩ := hY9.e4.all
      simp only at z0 z1 z2 z3
      have hr9 : RSt W9 F b 128 V (172 * (k + 1)) := by
        obtain ⟨rv, hB, hS9⟩ := HR8.out.ex
        have hsep : Sep (· = y) F := fun q h1 h2 => by subst h1; exact HFY.out h2
        exact ⟨⟨rv, hB.keep (hO9.block b hB.lt (fun e => hsep b e HR8.out.inF)), hS9.far hO9 hsep⟩, HR8.out.inF, HR8.out.le, HR8.out.sm⟩
      exact bodyPost_ret (v := .agg #[.string S, .int .i64 Ei, .int .i64 Eg, .int .i64 Ek]) (by simp [results, Try.results49, go_sem, z0, z1, z2, z3]) rfl ⟨by rw [← HFIN.out]; rfl, hr9, hA9, hO9.bd HB8.out⟩
end Go.Proofs.Ytgcbnaleajccgaa
