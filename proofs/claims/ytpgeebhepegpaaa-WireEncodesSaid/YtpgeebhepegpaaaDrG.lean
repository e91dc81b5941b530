/- The program's Blocks. -/
import Derived.Test.YtpgeebhepegpaaaDrE
import Derived.Test.YtpgeebhepegpaaaDrF
namespace Go.Proofs.Ytpgeebhepegpaaa
open Go.ChangeShapes Go.WideShapes Go.ChangeAt Go.RowKit Go.Shelf

attribute [local go_sem] Oper.semAt_some

/-- rows of 128 bytes in a slice of its own, each in one of its own -/
structure RwO (w : World) (v : Value) (rs : List (List Nat)) : Prop where
  ex : ∃ cs : List Value, w.ownsRow 0 38 1 v rs.length cs ∧ cs.length = rs.length ∧ ∀ (i : Nat) (c : Value) (r : List Nat), cs[i]? = some c → rs[i]? = some r → w.ownsRow 0 5 1 c 128 (r.map u8)
set_option maxRecDepth 3000 in
theorem own_set {w : World} {B : Nat} {t e : TypeId} {size n : Nat} {u v : Value} {xs : List Value} (h : w.ownsRow 0 e size v n xs) (hb : Boxed w B t u) (hte : t ≠ e) (u' : Value) : (w.setCell ⟨B, 0, none⟩ u').ownsRow 0 e size v n xs := h.kept (grownBy_setCell' _ _ _) (.inr (hb.not_row hte h).symm)
set_option maxRecDepth 3000 in
theorem RwO.set {w : World} {B : Nat} {t : TypeId} {u v : Value} {rs : List (List Nat)} (h : RwO w v rs) (hb : Boxed w B t u) (h1 : t ≠ 38) (h2 : t ≠ 5) (u' : Value) : RwO (w.setCell ⟨B, 0, none⟩ u') v rs := by
  obtain ⟨cs, k1, k2, k3⟩ := h.ex
  exact ⟨cs, own_set k1 hb h1 u', k2, fun i c r hc hr => own_set (k3 i c r hc hr) hb h2 u'⟩
set_option maxRecDepth 3000 in
theorem own_lt {w : World} {e : TypeId} {size n : Nat} {v : Value} {xs : List Value} (h : w.ownsRow 0 e size v n xs) : ∀ k, v.ownBlock = some k → k < w.heap.size := fun k hk => (h.lt k hk).2
set_option maxRecDepth 3000 in
theorem own_adv {w w' : World} {F : Nat → Prop} {e : TypeId} {size n : Nat} {v : Value} {xs : List Value} (h : w.ownsRow 0 e size v n xs) (ha : Adv Nul w F w') : w'.ownsRow 0 e size v n xs :=
  own_keep h fun k hk => ha.block k (own_lt h k hk) (fun x => x)
set_option maxRecDepth 3000 in
theorem RwO.nil (w : World) : RwO w (.slice none 0 0) [] := ⟨[], World.ownsRow_nil _ _ _ _, rfl, fun i c r h => by simp at h⟩
set_option maxRecDepth 3000 in
theorem RwO.step {w w' : World} {F : Nat → Prop} {v : Value} {rs : List (List Nat)} (h : RwO w v rs) (ha : Adv Nul w F w') : RwO w' v rs := by
  obtain ⟨cs, h1, h2, h3⟩ := h.ex
  exact ⟨cs, own_adv h1 ha, h2, fun i c r hc hr => own_adv (h3 i c r hc hr) ha⟩
set_option maxRecDepth 3000 in
/-- a block that is turned is no cells -/
theorem own_turn {w w' : World} {row : Option Nat} {e : TypeId} {size n : Nat} {v : Value} {xs : List Value} (h : w.ownsRow 0 e size v n xs) (hg : w.grownBy w' row) (hr : ∀ r, row = some r → ∃ o : Obj, w.heap[r]? = some o ∧ o.isCells = false) : w'.ownsRow 0 e size v n xs := by
  refine h.kept hg ?_
  rcases h.2 with ⟨rfl, _⟩ | ⟨g, cap, cur, rfl, _, hgb, _⟩
  · exact .inl rfl
  · refine .inr fun e' => ?_
    obtain ⟨o, ho, hc⟩ := hr g (by simpa [Value.ownBlock] using e'.symm)
    rw [hgb] at ho; cases ho; cases hc
set_option maxRecDepth 3000 in
theorem RwO.turn {w w' : World} {row : Option Nat} {v : Value} {rs : List (List Nat)} (h : RwO w v rs) (hg : w.grownBy w' row) (hr : ∀ r, row = some r → ∃ o : Obj, w.heap[r]? = some o ∧ o.isCells = false) : RwO w' v rs := by
  obtain ⟨cs, h1, h2, h3⟩ := h.ex
  exact ⟨cs, own_turn h1 hg hr, h2, fun i c r hc hr' => own_turn (h3 i c r hc hr') hg hr⟩
set_option maxRecDepth 3000 in
theorem boxed_turn {w w' : World} {row : Option Nat} {B : Nat} {t : TypeId} {v : Value} (h : Boxed w B t v) (hg : w.grownBy w' row) (hr : ∀ r, row = some r → ∃ o : Obj, w.heap[r]? = some o ∧ o.isCells = false) : Boxed w' B t v :=
  h.kept hg fun e => by
    obtain ⟨o, ho, hc⟩ := hr B e.symm
    rw [show w.heap[B]? = _ from h] at ho; cases ho; cases hc
set_option maxRecDepth 3000 in
theorem keeps_adv {w w' : World} {F : Nat → Prop} (ha : Adv Nul w F w') : KeepsOthers w w' := ⟨ha.size, fun k o h _ => by rw [ha.block k (Array.getElem?_eq_some_iff.1 h).1 (fun x => x)]; exact h⟩
set_option maxRecDepth 3000 in
/-- own rows of unlike elements lie in unlike blocks -/
theorem own_apart {w : World} {e e' : TypeId} {size n size' n' : Nat} {v v' : Value} {xs ys : List Value} (h : w.ownsRow 0 e size v n xs) (h' : w.ownsRow 0 e' size' v' n' ys) (hne : e ≠ e') : v.ownBlock = none ∨ v.ownBlock ≠ v'.ownBlock := by
  rcases h.2 with ⟨rfl, _⟩ | ⟨g, cap, cur, rfl, _, hgb, _⟩
  · exact .inl rfl
  · refine .inr fun e1 => ?_
    rcases h'.2 with ⟨rfl, _⟩ | ⟨g', cap', cur', rfl, _, hgb', _⟩
    · simp [Value.ownBlock] at e1
    · simp [Value.ownBlock] at e1
      subst e1
      rw [hgb] at hgb'
      injection hgb' with hgb'
      injection hgb' with _ e2
      exact hne e2
set_option maxRecDepth 3000 in
/-- a row more -/
theorem RwO.push {W w1 : World} {v v' c : Value} {rs : List (List Nat)} {r : List Nat} {cs : List Value} {tmp : Obj} (h1 : W.ownsRow 0 38 1 v rs.length cs) (h2 : cs.length = rs.length) (h3 : ∀ (i : Nat) (c : Value) (r : List Nat), cs[i]? = some c → rs[i]? = some r → W.ownsRow 0 5 1 c 128 (r.map u8)) (hc : W.ownsRow 0 5 1 c 128 (r.map u8))
    (hown : w1.ownsRow 0 38 1 v' (rs.length + 1) (cs ++ [c])) (hg : (W.alloc tmp).grownBy w1 v.ownBlock) : RwO w1 v' (rs ++ [r]) := by
  have up : ∀ c (r : List Nat), W.ownsRow 0 5 1 c 128 (r.map u8) → w1.ownsRow 0 5 1 c 128 (r.map u8) := fun c r h => (h.alloc tmp).kept hg (own_apart h h1 (by decide))
  refine ⟨cs ++ [c], by rw [List.length_append]; exact hown, by simp [h2], fun i x y hx hy => ?_⟩
  by_cases hi : i < cs.length
  · rw [List.getElem?_append_left hi] at hx
    rw [List.getElem?_append_left (by omega)] at hy
    exact up _ _ (h3 i x y hx hy)
  · rw [List.getElem?_append_right (by omega)] at hx hy
    have hi0 : i - cs.length = 0 := by
      have := (List.getElem?_eq_some_iff.1 hx).1
      simp at this; omega
    rw [hi0] at hx
    rw [← h2, hi0] at hy
    simp at hx hy
    subst hx hy
    exact up _ _ hc
/-- rows that can be read -/
structure RwD (w : World) (v : Value) (rs : List (List Nat)) : Prop where
  ex : ∃ cs : List Value, Rd w 1 v rs.length cs ∧ cs.length = rs.length ∧ ∀ (i : Nat) (c : Value) (r : List Nat), cs[i]? = some c → rs[i]? = some r → Rd w 1 c r.length (r.map u8)
set_option maxRecDepth 3000 in
theorem own_rd {w : World} {e : TypeId} {size n : Nat} {v : Value} {xs : List Value} (h : w.ownsRow 0 e size v n xs) : Rd w size v n xs :=
  (Sl.mk (F := fun k => v.ownBlock = some k) h (fun _ hk => hk) (fun k hk => own_lt h k hk)).rd
set_option maxRecDepth 3000 in
theorem RwO.rd {w : World} {v : Value} {rs : List (List Nat)} (h : RwO w v rs) (h128 : ∀ r ∈ rs, r.length = 128) : RwD w v rs := by
  obtain ⟨cs, h1, h2, h3⟩ := h.ex
  refine ⟨cs, own_rd h1, h2, fun i c r hc hr => ?_⟩
  rw [h128 r (List.mem_of_getElem? hr)]
  exact own_rd (h3 i c r hc hr)
set_option maxRecDepth 3000 in
theorem RwD.step {w w' : World} {F : Nat → Prop} {v : Value} {rs : List (List Nat)} (h : RwD w v rs) (ha : Adv Nul w F w') : RwD w' v rs := by
  obtain ⟨cs, h1, h2, h3⟩ := h.ex
  exact ⟨cs, h1.far (fun _ _ _ hl => ha.block _ hl (fun x => x)) ha.size, h2, fun i c r hc hr => (h3 i c r hc hr).far (fun _ _ _ hl => ha.block _ hl (fun x => x)) ha.size⟩
set_option maxRecDepth 3000 in
theorem infoBytes1 : (Try.prog.info? 38).map (fun i => (i.zero, i.size, i.bytes)) = some (some (.slice none 0 0), 1, 24) := by kernel_rfl
def BksR (w : World) (l : List En) (x : Ending) (w' : World) : Prop := ∃ A n c, x = .returned (.tuple #[.slice A n c, .int .i64 (bE l)]) ∧ RwD w' (.slice A n c) (bL l) ∧ Adv Nul w Nul w'
def BksO (w : World) (l : List En) (x : Ending) (w' : World) : Prop := ∃ A n c, x = .returned (.tuple #[.slice A n c, .int .i64 (bE l)]) ∧ RwO w' (.slice A n c) (bL l) ∧ Adv Nul w Nul w'

set_option maxRecDepth 3000 in
theorem EnR7.chunk {w : World} {b o N c : Nat} {l : List En} (h : EnR7 w (.slice (some ⟨b, o, none⟩) N c) l) (hN : N = l.length) (k : Nat) (hk : 5 * k < N) : EnR7 w (ckV b o N k) (chk l k) := by
  obtain ⟨b', o', e, hb, hc⟩ := (show Rd w 4 (.slice (some ⟨b, o, none⟩) N c) N (ecs l) by rw [hN]; have := h.rd; rwa [← hN] at this ⊢).cells (by omega) (by decide)
  injection e with e
  injection e with e1 e2 _
  subst e1 e2
  have hlen : (chk l k).length = min 5 (N - 5 * k) := by unfold chk; rw [List.length_take, List.length_drop, hN]
  obtain ⟨A', c', e', h1, h2, _⟩ := h.rd
  injection e' with _ _ e3
  refine ⟨⟨some ⟨b, o + 5 * k * 4, none⟩, min 5 (N - 5 * k), by rw [hlen]; rfl, by rw [hlen]; exact Nat.le_refl _, ?_, ecs_length _, fun x => (by cases x), fun hn => ⟨_, rfl, hb, fun j u hu => ?_⟩⟩, fun e he => h.sz e (List.mem_of_mem_drop (List.mem_of_mem_take he))⟩
  · omega
  · rw [add_none]
    rw [show o + 5 * k * 4 + j = o + (5 * k * 4 + j) by omega]
    refine hc _ _ ?_
    have hj := (List.getElem?_eq_some_iff.1 hu).1
    rw [ecs_length] at hj
    unfold chk at hu
    rw [ecs_take, ecs_drop, List.getElem?_take, List.getElem?_drop] at hu
    by_cases hlt : j < 5 * 4
    · rwa [if_pos hlt] at hu
    · rw [if_neg hlt] at hu; cases hu
set_option maxRecDepth 3000 in
theorem boxed_thru {W w6 : World} {B B4 n₀ k : Nat} {t : TypeId} {u v v' : Value} {xs : List Value} {tmp : Obj} (h : Boxed W B t u) (hte : t ≠ 38) (hrow : W.ownsRow n₀ 38 1 v k xs) (hgrow : (W.alloc tmp).grownBy w6 v.ownBlock) (hne : B ≠ B4) : Boxed (w6.setCell ⟨B4, 0, none⟩ v') B t u :=
  ((h.alloc tmp).kept hgrow (h.not_row hte hrow)).kept (grownBy_setCell' _ _ _) (fun e => hne (Option.some.inj e))
set_option maxRecDepth 3000 in
theorem inner_thru {W w6 : World} {B4 n₀ k : Nat} {v v' c : Value} {xs ys : List Value} {tmp : Obj} {u : Value} (h : W.ownsRow 0 5 1 c 128 ys) (hrow : W.ownsRow n₀ 38 1 v k xs) (hgrow : (W.alloc tmp).grownBy w6 v.ownBlock) (hb : Boxed w6 B4 109 u) : (w6.setCell ⟨B4, 0, none⟩ v').ownsRow 0 5 1 c 128 ys := by
  have h1 := (h.alloc tmp).kept hgrow (own_apart h (own_base hrow) (by decide))
  exact h1.kept (grownBy_setCell' _ _ _) (.inr (hb.not_row (by decide) h1).symm)
/-- between two rounds -/
structure BlI (w : World) (l : List En) (N B2 B3 B4 Bs Bn : Nat) (sv : Value) (pre : List (Fin (nCk N))) (W : World) : Prop where
  ex : ∃ v cs, Boxed W B4 109 v ∧ W.ownsRow w.heap.size 38 1 v pre.length cs ∧ cs.length = pre.length ∧ ∀ (i : Nat) (c : Value) (x : Fin (nCk N)), cs[i]? = some c → pre[i]? = some x → W.ownsRow 0 5 1 c 128 ((blockL (chk l x.1)).map u8)
  b2 : Boxed W B2 109 (.slice none 0 0)
  b3 : Boxed W B3 23 (.int .i64 0)
  bs : Boxed W Bs 26 sv
  bn : Boxed W Bn 3 (.int .i64 5)
  bl : Below w.heap.size w W
set_option maxRecDepth 3000 in
theorem BlI.own (w : World) (l : List En) (N B2 B3 B4 Bs Bn : Nat) (sv : Value) (B : Nat) (hB : w.heap.size ≤ B) : OwnFrom B (BlI w l N B2 B3 B4 Bs Bn sv) := by
  intro pre W W' row h hg hr
  have hr' := fun r e => (hr r e).2
  obtain ⟨v, cs, h1, h2, h3, h4⟩ := h.ex
  refine ⟨⟨v, cs, boxed_turn h1 hg hr', ?_, h3, fun i c x hc hx => own_turn (h4 i c x hc hx) hg hr'⟩, boxed_turn h.b2 hg hr', boxed_turn h.b3 hg hr', boxed_turn h.bs hg hr', boxed_turn h.bn hg hr', h.bl.grown hg (Nat.le_trans (Nat.le_refl _) h.bl.size) (fun k e => Nat.le_trans hB (hr k e).1)⟩
  refine h2.kept hg ?_
  rcases h2.2 with ⟨rfl, _⟩ | ⟨g, cap, cur, rfl, _, hgb, _⟩
  · exact .inl rfl
  · refine .inr fun e' => ?_
    obtain ⟨o, ho, hc⟩ := hr' g (by simpa [Value.ownBlock] using e'.symm)
    rw [hgb] at ho; cases ho; cases hc
set_option maxRecDepth 3000 in
theorem BlI.step {w W W' : World} {F : Nat → Prop} {l : List En} {N B2 B3 B4 Bs Bn : Nat} {sv : Value} {pre : List (Fin (nCk N))} (h : BlI w l N B2 B3 B4 Bs Bn sv pre W) (ha : Adv Nul W F W') : BlI w l N B2 B3 B4 Bs Bn sv pre W' := by
  obtain ⟨v, cs, h1, h2, h3, h4⟩ := h.ex
  have bx : ∀ {B t u}, Boxed W B t u → Boxed W' B t u := fun hb => (ha.block _ hb.lt (fun x => x)).trans hb
  exact ⟨⟨v, cs, bx h1, own_keep h2 (fun k hk => ha.block k (h2.lt k hk).2 (fun x => x)), h3, fun i c x hc hx => own_adv (h4 i c x hc hx) ha⟩, bx h.b2, bx h.b3, bx h.bs, bx h.bn, h.bl.trans (ha.toBelow.mono h.bl.size)⟩
set_option maxRecDepth 3000 in
theorem BlI.push {w W w6 : World} {l : List En} {N B2 B3 B4 Bs Bn : Nat} {sv v v' c : Value} {cs : List Value} {tmp : Obj} {pre : List (Fin (nCk N))} (h : BlI w l N B2 B3 B4 Bs Bn sv pre W) (x : Fin (nCk N)) (x4 : Boxed W B4 109 v) (hrow : W.ownsRow w.heap.size 38 1 v pre.length cs) (hl : cs.length = pre.length)
    (hin : ∀ (i : Nat) (c : Value) (x : Fin (nCk N)), cs[i]? = some c → pre[i]? = some x → W.ownsRow 0 5 1 c 128 ((blockL (chk l x.1)).map u8)) (hc : W.ownsRow 0 5 1 c 128 ((blockL (chk l x.1)).map u8))
    (hown : w6.ownsRow w.heap.size 38 1 v' (pre.length + 1) (cs ++ [c])) (hgrow : (W.alloc tmp).grownBy w6 v.ownBlock) (hlt : B2 < B4 ∧ B3 < B4 ∧ B4 < Bs ∧ Bs < Bn ∧ w.heap.size ≤ B4) :
    BlI w l N B2 B3 B4 Bs Bn sv (pre ++ [x]) (w6.setCell ⟨B4, 0, none⟩ v') := by
  obtain ⟨hv1, hv2, hr2, _, hb2⟩ := x4.appended (by decide) hrow h.bl.size hlt.2.2.2.2 hown hgrow
  refine ⟨⟨v', cs ++ [c], hv2, by rw [List.length_append]; exact hr2, by simp [hl], fun i a y ha hy => ?_⟩, boxed_thru h.b2 (by decide) hrow hgrow (by omega), boxed_thru h.b3 (by decide) hrow hgrow (by omega), boxed_thru h.bs (by decide) hrow hgrow (by omega), boxed_thru h.bn (by decide) hrow hgrow (by omega), h.bl.trans hb2⟩
  by_cases hi : i < cs.length
  · rw [List.getElem?_append_left hi] at ha
    rw [List.getElem?_append_left (by omega)] at hy
    exact inner_thru (hin i a y ha hy) hrow hgrow hv1
  · rw [List.getElem?_append_right (by omega)] at ha hy
    have hi0 : i - cs.length = 0 := by
      have := (List.getElem?_eq_some_iff.1 ha).1
      simp at this; omega
    rw [hi0] at ha
    rw [← hl, hi0] at hy
    simp at ha hy
    subst ha hy
    exact inner_thru hc hrow hgrow hv1
set_option maxRecDepth 3000 in
theorem BlI.kp {w W W' : World} {l : List En} {N B2 B3 B4 Bs Bn b : Nat} {sv : Value} {pre pre' : List (Fin (nCk N))} (h : BlI w l N B2 B3 B4 Bs Bn sv pre W) (h' : BlI w l N B2 B3 B4 Bs Bn sv pre' W') (hb : b < w.heap.size) : Kp3 b Bs Bn W W' :=
  ⟨(h'.bl.block b hb).trans (h.bl.block b hb).symm, (show W'.heap[Bs]? = _ from h'.bs).trans (show W.heap[Bs]? = _ from h.bs).symm, (show W'.heap[Bn]? = _ from h'.bn).trans (show W.heap[Bn]? = _ from h.bn).symm⟩
set_option maxRecDepth 3000 in
theorem bl_rows {w W : World} {l : List En} {N : Nat} (hN : N = l.length) {v : Value} {cs : List Value} (hrow : W.ownsRow w.heap.size 38 1 v (List.finRange (nCk N)).length cs) (hl : cs.length = (List.finRange (nCk N)).length)
    (hin : ∀ (i : Nat) (c : Value) (x : Fin (nCk N)), cs[i]? = some c → (List.finRange (nCk N))[i]? = some x → W.ownsRow 0 5 1 c 128 ((blockL (chk l x.1)).map u8)) : RwO W v (blocksL l) := by
  have hlen : (blocksL l).length = (List.finRange (nCk N)).length := by rw [blocksL_length, List.length_finRange, hN]; rfl
  refine ⟨cs, by rw [hlen]; exact own_base hrow, by rw [hlen]; exact hl, fun i c r hc hr => ?_⟩
  have hi : i < nCk N := by
    have := (List.getElem?_eq_some_iff.1 hr).1
    rw [hlen, List.length_finRange] at this; exact this
  have hx : (List.finRange (nCk N))[i]? = some ⟨i, hi⟩ := by rw [List.getElem?_eq_getElem (by simpa using hi)]; simp
  have := hin i c _ hc hx
  unfold blocksL at hr
  rw [List.getElem?_map, List.getElem?_range (by rw [hN] at hi; exact hi)] at hr
  rw [← Option.some.inj hr]; exact this

set_option maxRecDepth 100000 in
set_option maxHeartbeats 3200000 in
theorem dblocks_own (v : Value) (l : List En) (w : World) (h : EnR7 w v l) : Calls Try.prog 83 #[v] w (BksO w l) := by
  obtain ⟨A, c, rfl, hnc, hcm⟩ := h.form
  obtain ⟨N, hN⟩ : ∃ n, n = l.length := ⟨_, rfl⟩
  rw [← hN] at h hnc ⊢
  obtain ⟨X, hX⟩ : ∃ X, X = (w.alloc (.cells #[.slice none 0 0] 109)).alloc (.cells #[.int .i64 0] 23) := ⟨_, rfl⟩
  obtain ⟨B2, hB2⟩ : ∃ B, B = w.heap.size := ⟨_, rfl⟩
  obtain ⟨B3, hB3⟩ : ∃ B, B = w.heap.size + 1 := ⟨_, rfl⟩
  have hb2 : Boxed X B2 109 (.slice none 0 0) := by rw [hX, hB2]; exact (Boxed.new _ _ _).alloc _
  have hb3 : Boxed X B3 23 (.int .i64 0) := by rw [hX, hB3]; have := Boxed.new (w.alloc (.cells #[.slice none 0 0] 109)) 23 (.int .i64 0); rwa [World.size_alloc] at this
  have hxa : Adv Nul w Nul X := by rw [hX]; exact ((Adv.refl _ _).alloc _).alloc _
  have HAR := Lib.hid (areright_any (.slice A N c) l X (h.step hxa))
  have HX := Lib.hid hX
  have HB2 := Lib.hid hB2
  have HB3 := Lib.hid hB3
  have HXA := Lib.hid hxa
  have HH := Lib.hid h
  have HN := Lib.hid hN
  have HNC := Lib.hid hnc
  have HCM := Lib.hid (show (c : Int) ≤ 9223372036854775807 by unfold maxLen at hcm; omega)
  have HB := Lib.hid (And.intro hb2 hb3)
  have HN2 := Lib.hid (show B2 ≠ B3 by rw [hB2, hB3]; simp)
  clear hX hB2 hB3 hxa h hN hnc hcm hb2 hb3
  refine (callsIn_wide (n := 5)).1 ?_
  refine callsIn_of_wp_marks Try.func83 rfl trivial ?_ rfl
  simp only [Try.ntmps83, List.size_toArray, List.length_cons, List.length_nil, Nat.reduceAdd, Nat.reduceSub, Array.replicate_succ, Array.replicate_zero, List.push_toArray, List.append_toArray, List.nil_append, List.cons_append]
  have HGE := Lib.hid (show w.heap.size ≤ B2 ∧ w.heap.size ≤ B3 by rw [HB2.out, HB3.out]; omega)
  have hne : ¬ B2 = B3 := HN2.out
  have hne' : ¬ B3 = B2 := fun e => HN2.out e.symm
  have HBX := Lib.hid (fun (w' : World) (a : Adv Nul X Nul w') => show (Boxed w' B2 109 (.slice none 0 0) ∧ Boxed w' B3 23 (.int .i64 0)) from ⟨(a.block B2 HB.out.1.lt (fun x => x)).trans HB.out.1, (a.block B3 HB.out.2.lt (fun x => x)).trans HB.out.2⟩)
  by_cases hr : RiseL l
  · rw [decide_eq_true hr] at HAR
    have HRI := Lib.hid hr
    clear hr
    by_cases hN : N ≤ 24
    · gi_wp2_with (first
        | (refine ⟨trivial, ?_⟩; gi_at_call 89; rw [← HX.out, ← HB3.out, ← HB2.out]; refine (callsIn_wide.2 HAR.out).mono ?_; rintro e w1 ⟨rfl, a1⟩; have HA1 := Lib.hid a1; clear a1)
        | (refine ⟨trivial, ?_⟩; gi_at_call 90; refine (callsIn_wide.2 (chunk_any A N c _)).mono ?_; rintro e w2 ⟨rfl, rfl⟩)
        | fail)
      obtain ⟨b, o, hA, hb0⟩ : ∃ b o, (0 < N → A = some ⟨b, o, none⟩ ∧ b < w.heap.size) ∧ b ≤ w.heap.size := by
        by_cases h0 : 0 < N
        · obtain ⟨b, o, e, hb, _⟩ := HH.out.at_ HN.out (i := 0) (by rw [← HN.out]; exact h0)
          exact ⟨b, o, fun _ => ⟨e, hb⟩, Nat.le_of_lt hb⟩
        · exact ⟨0, 0, fun h => absurd h h0, Nat.zero_le _⟩
      obtain ⟨B4, hB4⟩ : ∃ B, B = w1.heap.size := ⟨_, rfl⟩
      obtain ⟨Bs, hBs⟩ : ∃ B, B = w1.heap.size + 1 := ⟨_, rfl⟩
      obtain ⟨Bn, hBn⟩ : ∃ B, B = w1.heap.size + 1 + 1 := ⟨_, rfl⟩
      obtain ⟨W0, hW0⟩ : ∃ W, W = ((w1.alloc (.cells #[.slice none 0 0] 109)).alloc (.cells #[.slice A N c] 26)).alloc (.cells #[.int .i64 5] 3) := ⟨_, rfl⟩
      have x4 : Boxed W0 B4 109 (.slice none 0 0) := by rw [hW0, hB4]; exact ((Boxed.new _ _ _).alloc _).alloc _
      have xs : Boxed W0 Bs 26 (.slice A N c) := by
        have := (Boxed.new (w1.alloc (.cells #[.slice none 0 0] 109)) 26 (.slice A N c)).alloc (.cells #[.int .i64 5] 3)
        rw [World.size_alloc] at this
        rw [hW0, hBs]; exact this
      have xn : Boxed W0 Bn 3 (.int .i64 5) := by
        have := Boxed.new ((w1.alloc (.cells #[.slice none 0 0] 109)).alloc (.cells #[.slice A N c] 26)) 3 (.int .i64 5)
        rw [World.size_alloc, World.size_alloc] at this
        rw [hW0, hBn]; exact this
      have ha0 : Adv Nul w1 Nul W0 := by rw [hW0]; exact (((Adv.refl _ _).alloc _).alloc _).alloc _
      have hxw := HXA.out.trans (HA1.out.trans ha0)
      obtain ⟨x2, x3⟩ := HBX.out _ (HA1.out.trans ha0)
      have hI0 : BlI w l N B2 B3 B4 Bs Bn (.slice A N c) [] W0 := ⟨⟨_, [], x4, World.ownsRow_nil _ _ _ _, rfl, fun i c x h => by simp at h⟩, x2, x3, xs, xn, hxw.toBelow⟩
      have hlt : B2 < B4 ∧ B3 < B4 ∧ B4 < Bs ∧ Bs < Bn ∧ w.heap.size ≤ B4 := by
        have h1 := (HBX.out _ HA1.out).1.lt
        have h2 := (HBX.out _ HA1.out).2.lt
        have h3 := (HXA.out.trans HA1.out).size
        omega
      have HLT := Lib.hid hlt
      have HAA := Lib.hid hA
      have HI0 := Lib.hid hI0
      have HSZ := Lib.hid (show w.heap.size ≤ W0.heap.size ∧ Bs < W0.heap.size ∧ Bn < W0.heap.size from ⟨hxw.size, xs.lt, xn.lt⟩)
      have HB0 := Lib.hid (show b < W0.heap.size by have := xs.lt; omega)
      rw [← hBn, ← hBs, ← hB4, ← hW0]
      clear hW0 hB4 hBs hBn x4 xs xn ha0 hxw x2 x3 hI0 hlt hA hb0
      refine wpIn_rangeFunc_ownF rfl (by decide) (gf := 95) (lb := #[.pointer (some ⟨Bs, 0, none⟩), .pointer (some ⟨Bn, 0, none⟩)]) rfl trivial (enters_of Try.func95 (by kernel_rfl) rfl)
        (chunk_stops Fence.wide 4 trivial rfl (by decide) A N c Bs Bn b o (fun h => (HAA.out h).1) HNC.out hN HCM.out W0 HSZ.out.2 HI0.out.bs.cell HI0.out.bn.cell) Kp3.trans
        (fun W k o' o'' hk h _ _ => ?_) (Below.refl _ _) (fun _ => rfl)
        (BlI w l N B2 B3 B4 Bs Bn (.slice A N c)) (fun _ _ _ => False) (BlI.own _ _ _ _ _ _ _ _ _ _ HSZ.out.1) (fun _ _ _ _ _ hs _ _ => hs) HI0.out
        (fun x => { tmps := #[.slice A N c, undef, .pointer (some ⟨B2, 0, none⟩), .pointer (some ⟨B3, 0, none⟩), .pointer (some ⟨B4, 0, none⟩), ckV b o N x.1, undef, undef, .slice A N c, .bool true, .bool false, .slice A N c, .int .i64 (N : Int), .bool (decide ((24 : Int) < (N : Int))), .slice A N c, .func (.func 95) #[] #[.pointer (some ⟨Bs, 0, none⟩), .pointer (some ⟨Bn, 0, none⟩)], ckV b o N x.1, undef, undef, undef, undef, undef, undef, undef, undef, undef, undef, undef, undef, undef], defers := [] }) ?assign ?body ?done ?stop
      · have hs := HSZ.out
        have hnk : ∀ j, j < W0.heap.size → (W.putObj k o'').heap[j]? = W.heap[j]? := fun j hj => World.putObj_heap_other (by omega)
        exact ⟨hnk b HB0.out, hnk Bs hs.2.1, hnk Bn hs.2.2⟩
      case assign =>
        intro lp x W K hK
        gi_wp2
        exact hK
      case body =>
        rintro lp pre x W hI hlp
        have hxN : 5 * x.1 < N := by have := x.2; unfold nCk at this; omega
        obtain ⟨rfl, hbw⟩ := HAA.out (by omega)
        have HEK := Lib.hid ((HH.out.step (nadv hI.bl)).chunk HN.out x.1 hxN)
        have hbk := dblock_any _ (chk l x.1) W HEK.out (chk_ok HRI.out.all x.1) (chk_le l x.1) (by unfold chk; rw [List.length_take, List.length_drop, ← HN.out]; omega)
        have HBK := Lib.hid hbk
        have HI := Lib.hid hI
        have HXN := Lib.hid hxN
        have HBW := Lib.hid hbw
        obtain ⟨i0, hi, hz0, hz1, hz2⟩ := info_parts infoBytes1
        have h5 : nCk N ≤ 5 := by unfold nCk; omega
        have HBD := Lib.hid (show pre.length + 1 ≤ maxLen ∧ (pre.length + 1) * 24 ≤ 140737488355328 by unfold maxLen; omega)
        clear h5
        clear hbk hI hxN hbw
        gi_wp2_with (first
          | (refine ⟨trivial, ?_⟩; gi_at_call 91; refine (CallsIn.inRound lp (callsIn_wide.2 HBK.out)).mono ?_; rintro e w5 ⟨A5, k5, F5, rfl, s5, a5⟩; have HA5 := Lib.hid a5; have HS5 := Lib.hid s5; have HI5 := Lib.hid (HI.out.step a5); obtain ⟨v, cs, x4, hrow, hl, hin⟩ := (HI.out.step a5).ex; have hc4 := x4.cell; have X4 := Lib.hid x4; have HROW := Lib.hid hrow; have HCL := Lib.hid hl; have HIN := Lib.hid hin; clear a5 s5 x4 hrow hl hin)
          | (gi_at_builtin; refine wpListIn_append_own_at _ rfl _ _ 109 rfl w.heap.size 38 i0 (.slice none 0 0) 1 24 Try.underlying109 hi hz0 hz1 hz2 rfl (by decide) v pre.length cs rfl (HROW.out.alloc _) ⟨w5.heap.size, 0, none⟩ 1 1 [.slice A5 128 k5] rfl rfl (cell_one_new _ _ _) (by simp [Value.oneCell']) HBD.out.1 HBD.out.2 (by have := HI5.out.bl.size; simp; omega) ?_; intro v' w6 hown' hgrow _ _; obtain ⟨g', cap', rfl⟩ := ownsRow_succ hown'; obtain ⟨hv1, hv2, hr2, hk2, hb2⟩ := X4.out.appended (by decide) HROW.out HI5.out.bl.size HLT.out.2.2.2.2 hown' hgrow; have hc1 := hv1.cell; have hf1 := hv1.frozen; have HKO := Lib.hid ((keeps_adv HA5.out).trans hk2); have HNEW := Lib.hid (HI5.out.push x X4.out HROW.out HCL.out HIN.out HS5.out.own hown' hgrow HLT.out); clear hv1 hv2 hr2 hk2 hb2 hown' hgrow)
          | fail)
        exact ⟨HKO.out, HI.out.kp HNEW.out HBW.out, HNEW.out⟩
      case done =>
        rintro D xs W hD rfl hI hK
        obtain ⟨v, cs, x4, hrow, hl, hin⟩ := hI.ex
        have hc4 := x4.cell
        have hc2 := hI.b2.cell
        have hf2 := hI.b2.frozen
        have hc3 := hI.b3.cell
        have hf3 := hI.b3.frozen
        have HI := Lib.hid hI
        have HRO := Lib.hid (bl_rows HN.out hrow hl hin)
        obtain ⟨a, k, rfl⟩ : ∃ a k, v = .slice a (List.finRange (nCk N)).length k := by
          obtain ⟨a, k, e, _⟩ := (own_rd (own_base hrow)).form
          exact ⟨a, k, e⟩
        have HK := Lib.hid hK
        clear x4 hrow hl hin hI hK
        gi_wp2
        have k2 := (KeepsOthers.setCell W ⟨B2, 0, none⟩ (.slice a (List.finRange (nCk N)).length k)).same D _ HK.out rfl
        have k3 := (KeepsOthers.setCell (W.setCell ⟨B2, 0, none⟩ (.slice a (List.finRange (nCk N)).length k)) ⟨B3, 0, none⟩ (.int .i64 0)).same D _ k2 rfl
        have y2 := boxed_turn ((HI.out.b2.set (.slice a (List.finRange (nCk N)).length k)).kept (grownBy_setCell' _ B3 (.int .i64 0)) (fun e => HN2.out (Option.some.inj e))) (grownBy_putObj' _ D (.deferred none)) (fun r e => by cases e; exact ⟨_, k3, rfl⟩)
        have y3' := HI.out.b3.kept (grownBy_setCell' _ B2 (.slice a (List.finRange (nCk N)).length k)) (fun e => HN2.out (Option.some.inj e).symm)
        have y3 := boxed_turn (y3'.set (.int .i64 0)) (grownBy_putObj' _ D (.deferred none)) (fun r e => by cases e; exact ⟨_, k3, rfl⟩)
        have hc2' := y2.cell
        have hc3' := y3.cell
        have hro := (((HRO.out.set HI.out.b2 (by decide) (by decide) (.slice a (List.finRange (nCk N)).length k)).set y3' (by decide) (by decide) (.int .i64 0)).turn (grownBy_putObj' _ D (.deferred none)) (fun r e => by cases e; exact ⟨_, k3, rfl⟩))
        have hbl := ((HI.out.bl.setCell (p := ⟨B2, 0, none⟩) HGE.out.1 (.slice a (List.finRange (nCk N)).length k)).setCell (p := ⟨B3, 0, none⟩) HGE.out.2 (.int .i64 0)).trans (belowK_b (w := W0) HSZ.out.1 _ D _ (.deferred none) hD k3 rfl rfl)
        have hE := bE_of HRI.out (by rw [← HN.out]; exact hN)
        simp only [List.length_finRange] at k3 hc2' hc3' hro hbl
        refine ⟨by simp, .inl ⟨_, _, rfl, run_takeDeferred k3, ?_⟩⟩
        refine ⟨.tuple #[.slice a (nCk N) k, .int .i64 0], by simp [results, Try.results83, go_sem, hc2', hc3'], a, nCk N, k, by rw [hE], ?_, nadv hbl⟩
        rw [bL_of hE]
        exact hro
      case stop =>
        rintro D c pre W _ _ h _
        exact h.elim
    · have hN' : (24 : Int) < (N : Int) := by omega
      have HN24 := Lib.hid (show 24 < l.length by rw [← HN.out]; omega)
      clear hN
      gi_wp2_with (first
        | (refine ⟨trivial, ?_⟩; gi_at_call 89; rw [← HX.out, ← HB3.out, ← HB2.out]; refine (callsIn_wide.2 HAR.out).mono ?_; rintro e w1 ⟨rfl, a1⟩; obtain ⟨x2, x3⟩ := HBX.out _ a1; have c2 := x2.cell; have f2 := x2.frozen; have c3 := x3.cell; have f3 := x3.frozen; have HA1 := Lib.hid a1; clear a1 x2 x3)
        | fail)
      have h2 : ((w1.setCell ⟨B2, 0, none⟩ (.slice none 0 0)).setCell ⟨B3, 0, none⟩ (.int .i64 8)).cell? ⟨B2, 0, none⟩ = some (.slice none 0 0) := (((HBX.out _ HA1.out).1.set _).kept (grownBy_setCell' _ _ _) (fun e => HN2.out (Option.some.inj e))).cell
      have h3 : ((w1.setCell ⟨B2, 0, none⟩ (.slice none 0 0)).setCell ⟨B3, 0, none⟩ (.int .i64 8)).cell? ⟨B3, 0, none⟩ = some (.int .i64 8) := (((HBX.out _ HA1.out).2.kept (grownBy_setCell' _ _ _) (fun e => HN2.out (Option.some.inj e).symm)).set _).cell
      refine ⟨.tuple #[.slice none 0 0, .int .i64 8], by simp [results, Try.results83, go_sem, h2, h3], none, 0, 0, ?_, ?_, ?_⟩
      · rw [bE_full HRI.out HN24.out]
      · rw [bL_no (by rw [bE_full HRI.out HN24.out]; decide)]; exact RwO.nil _
      · exact ((HXA.out.trans HA1.out).setCell (p := ⟨B2, 0, none⟩) (.inr HGE.out.1) _).setCell (p := ⟨B3, 0, none⟩) (.inr HGE.out.2) _
  · rw [decide_eq_false hr] at HAR
    have HRI := Lib.hid hr
    clear hr
    gi_wp2_with (first
      | (refine ⟨trivial, ?_⟩; gi_at_call 89; rw [← HX.out, ← HB3.out, ← HB2.out]; refine (callsIn_wide.2 HAR.out).mono ?_; rintro e w1 ⟨rfl, a1⟩; obtain ⟨x2, x3⟩ := HBX.out _ a1; have c2 := x2.cell; have f2 := x2.frozen; have c3 := x3.cell; have f3 := x3.frozen; have HA1 := Lib.hid a1; clear a1 x2 x3)
      | fail)
    have h2 : ((w1.setCell ⟨B2, 0, none⟩ (.slice none 0 0)).setCell ⟨B3, 0, none⟩ (.int .i64 2)).cell? ⟨B2, 0, none⟩ = some (.slice none 0 0) := (((HBX.out _ HA1.out).1.set _).kept (grownBy_setCell' _ _ _) (fun e => HN2.out (Option.some.inj e))).cell
    have h3 : ((w1.setCell ⟨B2, 0, none⟩ (.slice none 0 0)).setCell ⟨B3, 0, none⟩ (.int .i64 2)).cell? ⟨B3, 0, none⟩ = some (.int .i64 2) := (((HBX.out _ HA1.out).2.kept (grownBy_setCell' _ _ _) (fun e => HN2.out (Option.some.inj e).symm)).set _).cell
    refine ⟨.tuple #[.slice none 0 0, .int .i64 2], by simp [results, Try.results83, go_sem, h2, h3], none, 0, 0, ?_, ?_, ?_⟩
    · rw [bE_arg HRI.out]
    · rw [bL_no (by rw [bE_arg HRI.out]; decide)]; exact RwO.nil _
    · exact ((HXA.out.trans HA1.out).setCell (p := ⟨B2, 0, none⟩) (.inr HGE.out.1) _).setCell (p := ⟨B3, 0, none⟩) (.inr HGE.out.2) _
set_option maxRecDepth 3000 in
theorem dblocks_any (v : Value) (l : List En) (w : World) (h : EnR7 w v l) : Calls Try.prog 83 #[v] w (BksR w l) :=
  (dblocks_own v l w h).mono fun x w' k => by
    obtain ⟨A, n, c, rfl, h1, h2⟩ := k
    exact ⟨A, n, c, rfl, h1.rd (fun r hr => (bL_all l r hr).1), h2⟩
end Go.Proofs.Ytpgeebhepegpaaa
