/- Cut: the document's. -/
import Derived.Test.YtickabjhapghbaaLpKb
namespace Go.Proofs.Ytickabjhapghbaa
open Go.RowKit

theorem sl_grown {e : TypeId} {size : Nat} {w2 w3 : World} {F : Nat → Prop} {v v' : Value} {k n m : Nat} {xs ys : List Value} (hS : Sl w2 F e size v k xs) (hown : w3.ownsRow 0 e size v' n ys) (hg : w2.grownBy w3 v.ownBlock)
    (hat : v'.ownBlock = v.ownBlock ∨ v'.ownBlock = some m) (hm : w2.heap.size ≤ m) : Sl w3 (fun j => F j ∨ v'.ownBlock = some j) e size v' n ys ∧ Adv F w2 (fun j => F j ∨ v'.ownBlock = some j) w3 := by
  have hF' : ∀ j, (F j ∨ v'.ownBlock = some j) → F j ∨ w2.heap.size ≤ j := by
    rintro j (h | h)
    · exact .inl h
    · rcases hat with e | e
      · exact .inl (hS.inF j (by rw [← e]; exact h))
      · rw [e] at h; injection h with h; right; omega
  have hA : Adv F w2 (fun j => F j ∨ v'.ownBlock = some j) w3 := by
    have h1 := (Adv.refl F w2).grown hg (fun j hj => .inl (hS.inF j hj))
    exact ⟨h1.os, h1.tape, h1.output, h1.size, h1.block, hF'⟩
  refine ⟨⟨hown, fun j hj => .inr hj, ?_⟩, hA⟩
  rintro j (h | h)
  · exact Nat.lt_of_lt_of_le (hS.bd j h) hA.size
  · exact (hown.lt j h).2

def sv (z : Nat) : Value := .slice (some ⟨z, 0, none⟩) 128 128
/-- Sectors that were read, one behind the other. -/
structure Secs (w : World) (G : Nat → Prop) (v : Value) (L : List (List Nat)) : Prop where
  ex : ∃ zs : List Nat, zs.length = L.length ∧ Sl w G 30 1 v L.length (zs.map sv) ∧ ∀ i (h : i < zs.length), ∃ r, L[i]? = some r ∧ r.length = 128 ∧ Blk w zs[i] 92 (r.map u8).toArray ∧ G zs[i]

theorem step_append_own {w : World} {ops : Array Oper} {o : Oper} {a : Act} {K : Act → World → Prop} {Q : Exit → Act → World → Prop} {E : Prop} (hgd : o.guard = none) (s x : Operand) (t e : TypeId)
    (ho : o.op = .call { callee := .builtin .append, args := #[s, x], argTypes := #[t, t] }) (ht : Try.prog.underlying t = some (.slice e)) {z : Value} {size bytes : Nat} (hi : (Try.prog.info? e).map (fun i => (i.zero, i.size, i.bytes)) = some (some z, size, bytes)) (hzs : z.cells.size = size) (hsz : 0 < size)
    {v : Value} {n : Nat} {xs : List Value} (hs : a.eval s = v) (hown : w.ownsRow 0 e size v n xs) (ad : Addr) (m c : Nat) (hx : a.eval x = .slice (some ad) m c) (news : List Value) (hl : news.length = m * size) (hnews : ∀ j u, news[j]? = some u → w.cell? (ad.add j) = some u) (h1 : ∀ u ∈ news, u.oneCell' = true)
    (h63 : n + m ≤ maxLen) (hb : (n + m) * bytes ≤ 140737488355328)
    (h : ∀ v' w', w'.ownsRow 0 e size v' (n + m) (xs ++ news) → w.grownBy w' v.ownBlock → (v'.ownBlock = v.ownBlock ∨ v'.ownBlock = some w.heap.size) → K (a.put o.dst v') w') :
    if Region.wanted o (yielded ops a.tmps) = true then Oper.wp Try.prog o a w K Q else E := by
  rw [if_pos (by simp [Region.wanted, hgd])]
  obtain ⟨i0, hi0, hz0, hz1, hz2⟩ := info_parts hi
  obtain ⟨v', w', hrun, h2, h3, _, h5⟩ := run_append_own_at (P := Try.prog) w 0 t o.type e i0 z size bytes ht hi0 hz0 hz1 hz2 hzs hsz v n xs hown ad m c news hl hnews h1 h63 hb (Nat.zero_le _)
  unfold Oper.wp execOp
  simp only [ho, resolve, invoke, builtin, Sem.run_bind, Sem.run_pure, Result.andThen_ok, List.map_toArray, List.map_cons, List.map_nil, hs, hx, hrun]
  exact h v' w' h2 h3 h5
theorem op_append_own {w : World} {ops : Array Oper} {rest : List Oper} {o : Oper} {a : Act} {Q : Exit → Act → World → Prop} (hgd : o.guard = none) (s x : Operand) (t e : TypeId)
    (ho : o.op = .call { callee := .builtin .append, args := #[s, x], argTypes := #[t, t] }) (ht : Try.prog.underlying t = some (.slice e)) {z : Value} {size bytes : Nat} (hi : (Try.prog.info? e).map (fun i => (i.zero, i.size, i.bytes)) = some (some z, size, bytes)) (hzs : z.cells.size = size) (hsz : 0 < size)
    {v : Value} {n : Nat} {xs : List Value} (hs : a.eval s = v) (hown : w.ownsRow 0 e size v n xs) (ad : Addr) (m c : Nat) (hx : a.eval x = .slice (some ad) m c) (news : List Value) (hl : news.length = m * size) (hnews : ∀ j u, news[j]? = some u → w.cell? (ad.add j) = some u) (h1 : ∀ u ∈ news, u.oneCell' = true)
    (h63 : n + m ≤ maxLen) (hb : (n + m) * bytes ≤ 140737488355328)
    (h : ∀ v' w', w'.ownsRow 0 e size v' (n + m) (xs ++ news) → w.grownBy w' v.ownBlock → (v'.ownBlock = v.ownBlock ∨ v'.ownBlock = some w.heap.size) → wpList Try.prog ops Q rest (a.put o.dst v') w') : wpList Try.prog ops Q (o :: rest) a w := by
  refine wpList_plain hgd fun K hK => ?_
  have h0 := step_append_own (ops := ops) (K := K) (Q := Q) (E := True) hgd s x t e ho ht hi hzs hsz hs hown ad m c hx news hl hnews h1 h63 hb (fun v' w' h1 h2 h3 => hK _ _ (h v' w' h1 h2 h3))
  rwa [if_pos (by simp [Region.wanted, hgd])] at h0


theorem infoRPiece : (Try.prog.info? 61).map (fun i => (i.zero, i.size, i.bytes)) = some (some (.agg #[.int .u64 0, .int .u64 0, .bool false, .bool false, .slice none 0 0]), 5, 48) := by kernel_rfl
def rcells (q : Pc × Value) : List Value := [.int .u64 (q.1.e : Int), .int .u64 (q.1.c : Int), .bool q.1.f, .bool q.1.g, q.2]
theorem flat5 (f : Pc × Value → List Value) (hf : ∀ x, (f x).length = 5) : ∀ (l : List (Pc × Value)) (i j : Nat) (hi : i < l.length), j < 5 → (l.flatMap f)[i * 5 + j]? = (f l[i])[j]?
  | x :: l, 0, j, _, hj => by
    rw [List.flatMap_cons, List.getElem?_append_left (by rw [hf]; omega)]; simp
  | x :: l, i + 1, j, hi, hj => by
    have e : (i + 1) * 5 + j = 5 + (i * 5 + j) := by omega
    rw [List.flatMap_cons, List.getElem?_append_right (by rw [hf]; omega), e, hf, show 5 + (i * 5 + j) - 5 = i * 5 + j by omega]
    exact flat5 f hf l i j (by simpa using hi) hj
theorem flat5_len (f : Pc × Value → List Value) (hf : ∀ x, (f x).length = 5) : ∀ l : List (Pc × Value), (l.flatMap f).length = l.length * 5
  | [] => rfl
  | x :: l => by rw [List.flatMap_cons, List.length_append, hf, flat5_len f hf l, List.length_cons]; omega

structure RCutW (W : World) (P : Nat → Pc) (k : Nat) (vo : Value) (F : Nat → Prop) (qs : List (Pc × Value)) (w : World) : Prop where
  len : qs.length = k
  sl : Sl w F 61 5 vo k (qs.flatMap rcells)
  at_ : ∀ i (h : i < qs.length), qs[i].1 = P i ∧ ∃ a q, qs[i].2 = .slice a (P i).d.length q ∧ Rd w 1 (.slice a (P i).d.length q) (P i).d.length ((P i).d.map u8) ∧ ∀ g, (Value.slice a (P i).d.length q).ownBlock = some g → 0 < (P i).d.length → ¬ F g
  adv : Adv Nul W F w
def RCutI (W : World) (P : Nat → Pc) (k : Nat) (vo : Value) (w : World) : Prop := ∃ F qs, RCutW W P k vo F qs w
section
variable {W w w' : World} {P : Nat → Pc} {k : Nat} {vo : Value}
theorem RCutI.nil (W : World) (P : Nat → Pc) : RCutI W P 0 (.slice none 0 0) W := ⟨Nul, [], rfl, Sl.nil _ _ _, fun i h => absurd h (by simp), Adv.refl _ _⟩
theorem RCutW.step {F F' : Nat → Prop} {qs : List (Pc × Value)} (h : RCutW W P k vo F qs w) (ha : Adv Nul w F' w') : RCutW W P k vo F qs w' :=
  ⟨h.len, h.sl.far ha (fun _ h _ => h), fun i hi => by
    obtain ⟨e, a, q, e2, hr, hn⟩ := h.at_ i hi
    exact ⟨e, a, q, e2, hr.far (fun _ _ _ hl => ha.block _ hl (fun x => x)) ha.size, hn⟩, h.adv.over ha⟩
theorem RCutI.step {F' : Nat → Prop} (h : RCutI W P k vo w) (ha : Adv Nul w F' w') : RCutI W P k vo w' := by
  obtain ⟨F, qs, h⟩ := h
  exact ⟨F, qs, h.step ha⟩
theorem RCutW.push {F : Nat → Prop} {qs : List (Pc × Value)} {vo' : Value} {a : Option Addr} {q : Nat} (h : RCutW W P k vo F qs w) (hr : Rd w 1 (.slice a (P k).d.length q) (P k).d.length ((P k).d.map u8)) (hnF : ∀ g, (Value.slice a (P k).d.length q).ownBlock = some g → 0 < (P k).d.length → ¬ F g)
    (hown : w'.ownsRow 0 61 5 vo' (k + 1) (qs.flatMap rcells ++ rcells (P k, .slice a (P k).d.length q))) (hg : w.grownBy w' vo.ownBlock) (hat : vo'.ownBlock = vo.ownBlock ∨ vo'.ownBlock = some w.heap.size) : RCutI W P (k + 1) vo' w' := by
  obtain ⟨g1, g2⟩ := sl_grown h.sl hown hg hat (Nat.le_refl _)
  have hF' : ∀ g, g < w.heap.size → ¬ F g → ¬ (F g ∨ vo'.ownBlock = some g) := fun g hlt hn hor => by
    rcases hor with h1 | h1
    · exact hn h1
    · rcases hat with e | e
      · exact hn (h.sl.inF g (by rw [← e]; exact h1))
      · rw [e] at h1; injection h1 with h1; omega
  have hblt : ∀ {a : Option Addr} {d q : Nat} {l : List Nat}, Rd w 1 (.slice a d q) d (l.map u8) → ∀ g, (Value.slice a d q).ownBlock = some g → 0 < d → g < w.heap.size := fun hr g hg hd => by
    obtain ⟨b, o, c, e, hb, _, _⟩ := hr.adr hd
    injection e with e1 _ _
    subst e1
    simp [Value.ownBlock] at hg
    omega
  have keep : ∀ {a : Option Addr} {d q : Nat} {l : List Nat}, Rd w 1 (.slice a d q) d (l.map u8) → (∀ g, (Value.slice a d q).ownBlock = some g → 0 < d → ¬ F g) → Rd w' 1 (.slice a d q) d (l.map u8) ∧ ∀ g, (Value.slice a d q).ownBlock = some g → 0 < d → ¬ (F g ∨ vo'.ownBlock = some g) := fun hr hn =>
    ⟨hr.far (fun g hg hd hl => g2.block g hl (hn g hg hd)) g2.size, fun g hg hd => hF' g (hblt hr g hg hd) (hn g hg hd)⟩
  have hl := h.len
  refine ⟨_, qs ++ [(P k, .slice a (P k).d.length q)], by simp [hl], by simpa using g1, fun i hi => ?_, h.adv.trans g2⟩
  rw [List.length_append, List.length_singleton] at hi
  by_cases hik : i < qs.length
  · rw [List.getElem_append_left hik]
    obtain ⟨e, a', q', e2, hr', hn'⟩ := h.at_ i hik
    obtain ⟨k1, k2⟩ := keep hr' hn'
    exact ⟨e, a', q', e2, k1, k2⟩
  · obtain rfl : i = qs.length := by omega
    rw [List.getElem_append_right (Nat.le_refl _)]
    simp only [Nat.sub_self, List.getElem_cons_zero, hl]
    obtain ⟨k1, k2⟩ := keep hr hnF
    exact ⟨trivial, a, q, rfl, k1, k2⟩
theorem RCutI.prd (h : RCutI W P k vo w) (hk : 0 < k) : PRd w vo ((List.range k).map P) := by
  obtain ⟨F, qs, h⟩ := h
  have hl := h.len
  obtain ⟨g, c, rfl, hFg, hkc⟩ := h.sl.form hk
  obtain ⟨_, _, e, _, hcm⟩ := h.sl.form0
  injection e with _ _ e3
  subst e3
  refine ⟨_, c, by simp, by simpa using hkc, hcm, fun _ => ⟨g, 0, rfl, h.sl.bd g hFg, fun i hi => ?_⟩⟩
  have hi' : i < k := by simpa using hi
  obtain ⟨e, a, q, e2, hr, _⟩ := h.at_ i (by omega)
  have e3 : ((List.range k).map P)[i]'hi = P i := by simp
  rw [e3]
  have H : ∀ j u, j < 5 → (rcells (qs[i]'(by omega)))[j]? = some u → w.cell? ⟨g, 0 + (i * 5 + j), none⟩ = some u := fun j u hj hu => by
    rw [Nat.zero_add, h.sl.own.cellAt (i * 5 + j) (by omega), flat5 rcells (fun _ => rfl) qs i j (by omega) hj]
    exact hu
  refine ⟨a, q, H 0 _ (by decide) ?_, H 1 _ (by decide) ?_, H 2 _ (by decide) ?_, H 3 _ (by decide) ?_, H 4 _ (by decide) ?_, hr⟩ <;> simp [rcells, e, e2]
end
theorem In.of_rd {w : World} {v : Value} {l : List Nat} (h : Rd w 1 v l.length (l.map u8)) (hl : ∀ x ∈ l, x < 256) : In w v l :=
  ⟨h, fun b hb hn => by
    obtain ⟨b', o, c, e, hb', _, _⟩ := h.adr hn
    subst e
    simp [Value.ownBlock] at hb
    omega, hl⟩

def RcLoop (W : World) (e c : Nat) (l : List Nat) (n : Nat) (t2 t9 t10 : Value) (wr : World) : Prop :=
  ∃ k A q, k ≤ n ∧ t10 = .int .i64 ((k : Nat) : Int) ∧ t2 = .slice A (l.drop (k * 106)).length q ∧ Rd W 1 (.slice A (l.drop (k * 106)).length q) (l.drop (k * 106)).length ((l.drop (k * 106)).map u8) ∧ RCutI W (pieceAt e c l) k t9 wr ∧ ∃ a9 k9, t9 = .slice a9 k k9
def NRel (m : Nat) (t8 : Value) : Prop := ∃ k : Nat, 1 ≤ k ∧ k ≤ needN m ∧ t8 = .int .i64 (k : Int)
theorem rcut_close {W w : World} {e c n : Nat} {l : List Nat} {A : Option Addr} {j k : Nat} (hE : cutE e c l.length = 0) (hn : n = needN l.length) (h : RCutI W (pieceAt e c l) n (.slice A j k) w) : CutR W e c l (.returned (.tuple #[.slice A j k, .int .i64 0])) w := by
  obtain ⟨F, qs, hw⟩ := h
  have h : RCutI W (pieceAt e c l) n (.slice A j k) w := ⟨F, qs, hw⟩
  refine ⟨A, j, k, by rw [hE], ?_, hw.adv.sub (fun _ x => x.elim)⟩
  rw [cutV, if_pos hE, cutP, ← hn]
  exact h.prd (by rw [hn]; exact needN_pos _)

theorem rnew_at {w : World} {e : Nat} {cI : Int} {f g : Bool} {v : Value} (j : Nat) (u : Value) (h : [Value.int .u64 (e : Int), .int .u64 cI, .bool f, .bool g, v][j]? = some u) :
    (w.alloc (.cells #[.int .u64 (e : Int), .int .u64 cI, .bool f, .bool g, v] 61)).cell? ((⟨w.heap.size, 0, none⟩ : Addr).add j) = some u := by
  rw [add_none, Nat.zero_add, (Blk.new w 61 #[.int .u64 (e : Int), .int .u64 cI, .bool f, .bool g, v]).cell j, List.getElem?_toArray]
  exact h
theorem rone {e : Nat} {cI : Int} {f g : Bool} {a : Option Addr} {d q : Nat} : ∀ u ∈ [Value.int .u64 (e : Int), .int .u64 cI, .bool f, .bool g, .slice a d q], u.oneCell' = true := by
  intro u hu
  simp at hu
  rcases hu with rfl | rfl | rfl | rfl | rfl <;> rfl
theorem In.rd2 {w : World} {v : Value} {n : Nat} {l : List Nat} (h : In w v l) (hn : n = l.length := by assumption) : Rd w 1 v n (l.map u8) := by rw [hn]; exact h.rd
theorem rc_left {w : World} {A : Option Addr} {n k q : Nat} {D l : List Nat} (h : Rd w 1 (.slice A n q) (D.drop 106).length ((D.drop 106).map u8)) (hn : l.drop ((k + 1) * 106) = D.drop 106) :
    n = (l.drop ((k + 1) * 106)).length ∧ Rd w 1 (.slice A (l.drop ((k + 1) * 106)).length q) (l.drop ((k + 1) * 106)).length ((l.drop ((k + 1) * 106)).map u8) := by
  have hh := h
  obtain ⟨_, _, e, _⟩ := hh
  injection e with _ e2 _
  rw [hn]
  refine ⟨e2, ?_⟩
  rw [e2] at h
  exact h
theorem slice_of {w : World} {e : TypeId} {size n : Nat} {v : Value} {xs : List Value} (h : w.ownsRow 0 e size v n xs) : ∃ a k, v = .slice a n k := by
  rcases h.2 with ⟨rfl, rfl⟩ | ⟨_, _, _, rfl, _⟩ <;> exact ⟨_, _, rfl⟩
theorem rc_new {W w wc : World} {P : Nat → Pc} {k : Nat} {vo v : Value} {F Fc : Nat → Prop} {qs : List (Pc × Value)} {e : TypeId} {size d : Nat} {xs : List Value} (h : RCutW W P k vo F qs w) (hc : Sl wc Fc e size v d xs) (ac : Adv Nul w Fc wc) : ∀ g, v.ownBlock = some g → 0 < d → ¬ F g := fun g hg _ hF => by
  have := h.sl.bd g hF
  rcases ac.into g (hc.inF g hg) with h1 | h1
  · exact h1
  · omega
theorem rc_push {W w w' : World} {l D : List Nat} {e c k d q : Nat} {cI : Int} {f g : Bool} {a : Option Addr} {vo vo' : Value} {F : Nat → Prop} {qs : List (Pc × Value)} (h : RCutW W (pieceAt e c l) k vo F qs w) (hr : Rd w 1 (.slice a d q) d ((D.take 106).map u8)) (hnF : ∀ b, (Value.slice a d q).ownBlock = some b → 0 < d → ¬ F b)
    (hown : w'.ownsRow 0 61 5 vo' (k + 1) (qs.flatMap rcells ++ [.int .u64 (e : Int), .int .u64 cI, .bool f, .bool g, .slice a d q])) (hg : w.grownBy w' vo.ownBlock) (hat : vo'.ownBlock = vo.ownBlock ∨ vo'.ownBlock = some w.heap.size)
    (h1 : cI = ((pieceAt e c l k).c : Int)) (h2 : f = (pieceAt e c l k).f) (h3 : g = (pieceAt e c l k).g) (h4 : (pieceAt e c l k).d = D.take 106) (h5 : d = (D.take 106).length) : RCutI W (pieceAt e c l) (k + 1) vo' w' := by
  rw [← h4] at hr h5
  subst h1 h2 h3 h5
  exact h.push hr hnF hown hg hat
/-- what is left behind one more piece -/
theorem rest_rd {w : World} {A : Option Addr} {q d : Nat} {D : List Nat} (h : Rd w 1 (.slice A D.length q) D.length (D.map u8)) (hd : d = min 106 D.length) : Rd w 1 (.slice (cutAt A d q) (D.length - d) (q - d)) (D.drop 106).length ((D.drop 106).map u8) := by
  have h1 := h.back (n := d) (by omega)
  have e : D.drop d = D.drop 106 := by
    by_cases hl : D.length ≤ 106
    · rw [List.drop_of_length_le (by omega), List.drop_of_length_le (by omega)]
    · rw [hd, Nat.min_eq_left (by omega)]
  rw [e] at h1
  rw [show (D.drop 106).length = D.length - d by rw [List.length_drop]; omega]
  exact h1
end Go.Proofs.Ytickabjhapghbaa
