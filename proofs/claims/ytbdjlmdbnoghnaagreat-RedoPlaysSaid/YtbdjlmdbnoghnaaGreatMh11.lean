/- Cut: the document's. Which pieces any record has. -/
import Derived.Test.YtbdjlmdbnoghnaaGreatMh10
import Derived.Test.YtbdjlmdbnoghnaaGreatMh03
import Derived.Deep.DeepCutAuto
namespace Go.Proofs.YtbdjlmdbnoghnaaGreat
open Go.RowKit

theorem lsl_grown {e : TypeId} {size : Nat} {w2 w3 : World} {F : Nat → Prop} {v v' : Value} {k n m : Nat} {xs ys : List Value} (hS : Sl w2 F e size v k xs) (hown : w3.ownsRow 0 e size v' n ys) (hg : w2.grownBy w3 v.ownBlock)
    (hat : v'.ownBlock = v.ownBlock ∨ v'.ownBlock = some m) (hm : w2.heap.size ≤ m) : Sl w3 (fun j => F j ∨ v'.ownBlock = some j) e size v' n ys ∧ Adv F w2 (fun j => F j ∨ v'.ownBlock = some j) w3 := by
  have hF' : ∀ j, (F j ∨ v'.ownBlock = some j) → F j ∨ w2.heap.size ≤ j := by
    rintro j (h | h)
    · exact .inl h
    · rcases hat with e | e
      · exact .inl (hS.inF j (by rw [← e]; exact h))
      · rw [e] at h; injection h with h; right; omega
  have hA : Adv F w2 (fun j => F j ∨ v'.ownBlock = some j) w3 := by
    have h1 := (Adv.refl F w2).grown hg (fun j hj => .inl (hS.inF j hj))
    exact ⟨h1.os, h1.tape, h1.output, h1.size, h1.block, hF'⟩
  refine ⟨⟨hown, fun j hj => .inr hj, ?_⟩, hA⟩
  rintro j (h | h)
  · exact Nat.lt_of_lt_of_le (hS.bd j h) hA.size
  · exact (hown.lt j h).2

theorem lstep_append_own {w : World} {ops : Array Oper} {o : Oper} {a : Act} {K : Act → World → Prop} {Q : Exit → Act → World → Prop} {E : Prop} (hgd : o.guard = none) (s x : Operand) (t e : TypeId)
    (ho : o.op = .call { callee := .builtin .append, args := #[s, x], argTypes := #[t, t] }) (ht : Tryz.prog.underlying t = some (.slice e)) {z : Value} {size bytes : Nat} (hi : (Tryz.prog.info? e).map (fun i => (i.zero, i.size, i.bytes)) = some (some z, size, bytes)) (hzs : z.cells.size = size) (hsz : 0 < size)
    {v : Value} {n : Nat} {xs : List Value} (hs : a.eval s = v) (hown : w.ownsRow 0 e size v n xs) (ad : Addr) (m c : Nat) (hx : a.eval x = .slice (some ad) m c) (news : List Value) (hl : news.length = m * size) (hnews : ∀ j u, news[j]? = some u → w.cell? (ad.add j) = some u) (h1 : ∀ u ∈ news, u.oneCell' = true)
    (h63 : n + m ≤ maxLen) (hb : (n + m) * bytes ≤ 140737488355328)
    (h : ∀ v' w', w'.ownsRow 0 e size v' (n + m) (xs ++ news) → w.grownBy w' v.ownBlock → (v'.ownBlock = v.ownBlock ∨ v'.ownBlock = some w.heap.size) → K (a.put o.dst v') w') :
    if Region.wanted o (yielded ops a.tmps) = true then Oper.wp Tryz.prog o a w K Q else E := by
  rw [if_pos (by simp [Region.wanted, hgd])]
  obtain ⟨i0, hi0, hz0, hz1, hz2⟩ := info_parts hi
  obtain ⟨v', w', hrun, h2, h3, _, h5⟩ := run_append_own_at (P := Tryz.prog) w 0 t o.type e i0 z size bytes ht hi0 hz0 hz1 hz2 hzs hsz v n xs hown ad m c news hl hnews h1 h63 hb (Nat.zero_le _)
  unfold Oper.wp execOp
  simp only [ho, resolve, invoke, builtin, Sem.run_bind, Sem.run_pure, Result.andThen_ok, List.map_toArray, List.map_cons, List.map_nil, hs, hx, hrun]
  exact h v' w' h2 h3 h5
theorem lop_append_own {w : World} {ops : Array Oper} {rest : List Oper} {o : Oper} {a : Act} {Q : Exit → Act → World → Prop} (hgd : o.guard = none) (s x : Operand) (t e : TypeId)
    (ho : o.op = .call { callee := .builtin .append, args := #[s, x], argTypes := #[t, t] }) (ht : Tryz.prog.underlying t = some (.slice e)) {z : Value} {size bytes : Nat} (hi : (Tryz.prog.info? e).map (fun i => (i.zero, i.size, i.bytes)) = some (some z, size, bytes)) (hzs : z.cells.size = size) (hsz : 0 < size)
    {v : Value} {n : Nat} {xs : List Value} (hs : a.eval s = v) (hown : w.ownsRow 0 e size v n xs) (ad : Addr) (m c : Nat) (hx : a.eval x = .slice (some ad) m c) (news : List Value) (hl : news.length = m * size) (hnews : ∀ j u, news[j]? = some u → w.cell? (ad.add j) = some u) (h1 : ∀ u ∈ news, u.oneCell' = true)
    (h63 : n + m ≤ maxLen) (hb : (n + m) * bytes ≤ 140737488355328)
    (h : ∀ v' w', w'.ownsRow 0 e size v' (n + m) (xs ++ news) → w.grownBy w' v.ownBlock → (v'.ownBlock = v.ownBlock ∨ v'.ownBlock = some w.heap.size) → wpList Tryz.prog ops Q rest (a.put o.dst v') w') : wpList Tryz.prog ops Q (o :: rest) a w := by
  refine wpList_plain hgd fun K hK => ?_
  have h0 := lstep_append_own (ops := ops) (K := K) (Q := Q) (E := True) hgd s x t e ho ht hi hzs hsz hs hown ad m c hx news hl hnews h1 h63 hb (fun v' w' h1 h2 h3 => hK _ _ (h v' w' h1 h2 h3))
  rwa [if_pos (by simp [Region.wanted, hgd])] at h0


theorem infoRPiece : (Tryz.prog.info? 87).map (fun i => (i.zero, i.size, i.bytes)) = some (some (.agg #[.int .u64 0, .int .u64 0, .bool false, .bool false, .slice none 0 0]), 5, 48) := by kernel_rfl
def rcells (q : Pc × Value) : List Value := [.int .u64 (q.1.e : Int), .int .u64 (q.1.c : Int), .bool q.1.f, .bool q.1.g, q.2]
theorem flat5 (f : Pc × Value → List Value) (hf : ∀ x, (f x).length = 5) : ∀ (l : List (Pc × Value)) (i j : Nat) (hi : i < l.length), j < 5 → (l.flatMap f)[i * 5 + j]? = (f l[i])[j]?
  | x :: l, 0, j, _, hj => by
    rw [List.flatMap_cons, List.getElem?_append_left (by rw [hf]; omega)]; simp
  | x :: l, i + 1, j, hi, hj => by
    have e : (i + 1) * 5 + j = 5 + (i * 5 + j) := by omega
    rw [List.flatMap_cons, List.getElem?_append_right (by rw [hf]; omega), e, hf, show 5 + (i * 5 + j) - 5 = i * 5 + j by omega]
    exact flat5 f hf l i j (by simpa using hi) hj
structure RCutW (W : World) (P : Nat → Pc) (k : Nat) (vo : Value) (F : Nat → Prop) (qs : List (Pc × Value)) (w : World) : Prop where
  len : qs.length = k
  sl : Sl w F 87 5 vo k (qs.flatMap rcells)
  at_ : ∀ i (h : i < qs.length), qs[i].1 = P i ∧ ∃ a q, qs[i].2 = .slice a (P i).d.length q ∧ Rd w 1 (.slice a (P i).d.length q) (P i).d.length ((P i).d.map u8) ∧ ∀ g, (Value.slice a (P i).d.length q).ownBlock = some g → 0 < (P i).d.length → ¬ F g ∧ W.heap.size ≤ g
  adv : Adv Nul W F w
def RCutI (W : World) (P : Nat → Pc) (k : Nat) (vo : Value) (w : World) : Prop := ∃ F qs, RCutW W P k vo F qs w
section
variable {W w w' : World} {P : Nat → Pc} {k : Nat} {vo : Value}
theorem RCutI.nil (W : World) (P : Nat → Pc) : RCutI W P 0 (.slice none 0 0) W := ⟨Nul, [], rfl, Sl.nil _ _ _, fun i h => absurd h (by simp), Adv.refl _ _⟩
theorem RCutW.step {F F' : Nat → Prop} {qs : List (Pc × Value)} (h : RCutW W P k vo F qs w) (ha : Adv Nul w F' w') : RCutW W P k vo F qs w' :=
  ⟨h.len, h.sl.far ha (fun _ h _ => h), fun i hi => by
    obtain ⟨e, a, q, e2, hr, hn⟩ := h.at_ i hi
    exact ⟨e, a, q, e2, hr.far (fun _ _ _ hl => ha.block _ hl (fun x => x)) ha.size, hn⟩, h.adv.over ha⟩
theorem RCutW.push {F : Nat → Prop} {qs : List (Pc × Value)} {vo' : Value} {a : Option Addr} {q : Nat} (h : RCutW W P k vo F qs w) (hr : Rd w 1 (.slice a (P k).d.length q) (P k).d.length ((P k).d.map u8)) (hnF : ∀ g, (Value.slice a (P k).d.length q).ownBlock = some g → 0 < (P k).d.length → ¬ F g ∧ W.heap.size ≤ g)
    (hown : w'.ownsRow 0 87 5 vo' (k + 1) (qs.flatMap rcells ++ rcells (P k, .slice a (P k).d.length q))) (hg : w.grownBy w' vo.ownBlock) (hat : vo'.ownBlock = vo.ownBlock ∨ vo'.ownBlock = some w.heap.size) : RCutI W P (k + 1) vo' w' := by
  obtain ⟨g1, g2⟩ := lsl_grown h.sl hown hg hat (Nat.le_refl _)
  have hF' : ∀ g, g < w.heap.size → ¬ F g → ¬ (F g ∨ vo'.ownBlock = some g) := fun g hlt hn hor => by
    rcases hor with h1 | h1
    · exact hn h1
    · rcases hat with e | e
      · exact hn (h.sl.inF g (by rw [← e]; exact h1))
      · rw [e] at h1; injection h1 with h1; omega
  have hblt : ∀ {a : Option Addr} {d q : Nat} {l : List Nat}, Rd w 1 (.slice a d q) d (l.map u8) → ∀ g, (Value.slice a d q).ownBlock = some g → 0 < d → g < w.heap.size := fun hr g hg hd => by
    obtain ⟨b, o, c, e, hb, _, _⟩ := hr.adr hd
    injection e with e1 _ _
    subst e1
    simp [Value.ownBlock] at hg
    omega
  have keep : ∀ {a : Option Addr} {d q : Nat} {l : List Nat}, Rd w 1 (.slice a d q) d (l.map u8) → (∀ g, (Value.slice a d q).ownBlock = some g → 0 < d → ¬ F g ∧ W.heap.size ≤ g) → Rd w' 1 (.slice a d q) d (l.map u8) ∧ ∀ g, (Value.slice a d q).ownBlock = some g → 0 < d → ¬ (F g ∨ vo'.ownBlock = some g) ∧ W.heap.size ≤ g := fun hr hn =>
    ⟨hr.far (fun g hg hd hl => g2.block g hl (hn g hg hd).1) g2.size, fun g hg hd => ⟨hF' g (hblt hr g hg hd) (hn g hg hd).1, (hn g hg hd).2⟩⟩
  have hl := h.len
  refine ⟨_, qs ++ [(P k, .slice a (P k).d.length q)], by simp [hl], by simpa using g1, fun i hi => ?_, h.adv.trans g2⟩
  rw [List.length_append, List.length_singleton] at hi
  by_cases hik : i < qs.length
  · rw [List.getElem_append_left hik]
    obtain ⟨e, a', q', e2, hr', hn'⟩ := h.at_ i hik
    obtain ⟨k1, k2⟩ := keep hr' hn'
    exact ⟨e, a', q', e2, k1, k2⟩
  · obtain rfl : i = qs.length := by omega
    rw [List.getElem_append_right (Nat.le_refl _)]
    simp only [Nat.sub_self, List.getElem_cons_zero, hl]
    obtain ⟨k1, k2⟩ := keep hr hnF
    exact ⟨trivial, a, q, rfl, k1, k2⟩
theorem RCutI.prdg {G : Nat → Prop} (h : RCutI W P k vo w) (hk : 0 < k) (hG : Bd G W) : PRdG w G vo ((List.range k).map P) := by
  obtain ⟨F, qs, h⟩ := h
  have hl := h.len
  obtain ⟨g, c, rfl, hFg, hkc⟩ := h.sl.form hk
  obtain ⟨_, _, e, _, hcm⟩ := h.sl.form0
  injection e with _ _ e3
  subst e3
  have hgG : ¬ G g := fun x => by
    have := hG g x
    rcases h.adv.into g hFg with h1 | h1
    · exact h1
    · omega
  refine ⟨_, c, by simp, by simpa using hkc, hcm, fun _ => ⟨g, 0, rfl, ⟨h.sl.bd g hFg, hgG⟩, fun i hi => ?_⟩⟩
  have hi' : i < k := by simpa using hi
  obtain ⟨e, a, q, e2, hr, hn⟩ := h.at_ i (by omega)
  have e3 : ((List.range k).map P)[i]'hi = P i := by simp
  rw [e3]
  have H : ∀ j u, j < 5 → (rcells (qs[i]'(by omega)))[j]? = some u → w.cell? ⟨g, 0 + (i * 5 + j), none⟩ = some u := fun j u hj hu => by
    rw [Nat.zero_add, h.sl.own.cellAt (i * 5 + j) (by omega), flat5 rcells (fun _ => rfl) qs i j (by omega) hj]
    exact hu
  refine ⟨a, q, H 0 _ (by decide) ?_, H 1 _ (by decide) ?_, H 2 _ (by decide) ?_, H 3 _ (by decide) ?_, H 4 _ (by decide) ?_, hr, fun b hb hd x => ?_⟩
  · simp [rcells, e]
  · simp [rcells, e]
  · simp [rcells, e]
  · simp [rcells, e]
  · simp [rcells, e2]
  · have := hG b x
    have := (hn b hb hd).2
    omega
end
theorem In.of_rd {w : World} {v : Value} {l : List Nat} (h : Rd w 1 v l.length (l.map u8)) (hl : ∀ x ∈ l, x < 256) : In w v l :=
  ⟨h, fun b hb hn => by
    obtain ⟨b', o, c, e, hb', _, _⟩ := h.adr hn
    subst e
    simp [Value.ownBlock] at hb
    omega, hl⟩

def RcLoop (W : World) (e c : Nat) (l : List Nat) (n : Nat) (t2 t9 t10 : Value) (wr : World) : Prop :=
  ∃ k A q, k ≤ n ∧ t10 = .int .i64 ((k : Nat) : Int) ∧ t2 = .slice A (l.drop (k * 106)).length q ∧ Rd W 1 (.slice A (l.drop (k * 106)).length q) (l.drop (k * 106)).length ((l.drop (k * 106)).map u8) ∧ RCutI W (pieceAt e c l) k t9 wr ∧ ∃ a9 k9, t9 = .slice a9 k k9
def NRel (m : Nat) (t8 : Value) : Prop := ∃ k : Nat, 1 ≤ k ∧ k ≤ needN m ∧ t8 = .int .i64 (k : Int)
theorem rcut_close {W w : World} {e c n : Nat} {l : List Nat} {A : Option Addr} {j k : Nat} (hE : cutE e c l.length = 0) (hn : n = needN l.length) (h : RCutI W (pieceAt e c l) n (.slice A j k) w) : CutN W e c l (.returned (.tuple #[.slice A j k, .int .i64 0])) w := by
  obtain ⟨F, qs, hw⟩ := h
  have h : RCutI W (pieceAt e c l) n (.slice A j k) w := ⟨F, qs, hw⟩
  refine ⟨A, j, k, by rw [hE], fun G hG => ?_, hw.adv.sub (fun _ x => x.elim)⟩
  rw [cutV, if_pos hE, cutP, ← hn]
  exact h.prdg (by rw [hn]; exact needN_pos _) hG

theorem rnew_at {w : World} {e : Nat} {cI : Int} {f g : Bool} {v : Value} (j : Nat) (u : Value) (h : [Value.int .u64 (e : Int), .int .u64 cI, .bool f, .bool g, v][j]? = some u) :
    (w.alloc (.cells #[.int .u64 (e : Int), .int .u64 cI, .bool f, .bool g, v] 87)).cell? ((⟨w.heap.size, 0, none⟩ : Addr).add j) = some u := by
  rw [add_none, Nat.zero_add, (Blk.new w 87 #[.int .u64 (e : Int), .int .u64 cI, .bool f, .bool g, v]).cell j, List.getElem?_toArray]
  exact h
theorem rone {e : Nat} {cI : Int} {f g : Bool} {a : Option Addr} {d q : Nat} : ∀ u ∈ [Value.int .u64 (e : Int), .int .u64 cI, .bool f, .bool g, .slice a d q], u.oneCell' = true := by
  intro u hu
  simp at hu
  rcases hu with rfl | rfl | rfl | rfl | rfl <;> rfl
theorem In.rd2 {w : World} {v : Value} {n : Nat} {l : List Nat} (h : In w v l) (hn : n = l.length := by assumption) : Rd w 1 v n (l.map u8) := by rw [hn]; exact h.rd
theorem rc_left {w : World} {A : Option Addr} {n k q : Nat} {D l : List Nat} (h : Rd w 1 (.slice A n q) (D.drop 106).length ((D.drop 106).map u8)) (hn : l.drop ((k + 1) * 106) = D.drop 106) :
    n = (l.drop ((k + 1) * 106)).length ∧ Rd w 1 (.slice A (l.drop ((k + 1) * 106)).length q) (l.drop ((k + 1) * 106)).length ((l.drop ((k + 1) * 106)).map u8) := by
  have hh := h
  obtain ⟨_, _, e, _⟩ := hh
  injection e with _ e2 _
  rw [hn]
  refine ⟨e2, ?_⟩
  rw [e2] at h
  exact h
theorem slice_of {w : World} {e : TypeId} {size n : Nat} {v : Value} {xs : List Value} (h : w.ownsRow 0 e size v n xs) : ∃ a k, v = .slice a n k := by
  rcases h.2 with ⟨rfl, rfl⟩ | ⟨_, _, _, rfl, _⟩ <;> exact ⟨_, _, rfl⟩
theorem rc_new {W w wc : World} {P : Nat → Pc} {k : Nat} {vo v : Value} {F Fc : Nat → Prop} {qs : List (Pc × Value)} {e : TypeId} {size d : Nat} {xs : List Value} (h : RCutW W P k vo F qs w) (hc : Sl wc Fc e size v d xs) (ac : Adv Nul w Fc wc) : ∀ g, v.ownBlock = some g → 0 < d → ¬ F g ∧ W.heap.size ≤ g := fun g hg _ => by
  rcases ac.into g (hc.inF g hg) with h1 | h1
  · exact h1.elim
  · exact ⟨fun hF => by have := h.sl.bd g hF; omega, Nat.le_trans h.adv.size h1⟩
theorem rc_push {W w w' : World} {l D : List Nat} {e c k d q : Nat} {cI : Int} {f g : Bool} {a : Option Addr} {vo vo' : Value} {F : Nat → Prop} {qs : List (Pc × Value)} (h : RCutW W (pieceAt e c l) k vo F qs w) (hr : Rd w 1 (.slice a d q) d ((D.take 106).map u8)) (hnF : ∀ b, (Value.slice a d q).ownBlock = some b → 0 < d → ¬ F b ∧ W.heap.size ≤ b)
    (hown : w'.ownsRow 0 87 5 vo' (k + 1) (qs.flatMap rcells ++ [.int .u64 (e : Int), .int .u64 cI, .bool f, .bool g, .slice a d q])) (hg : w.grownBy w' vo.ownBlock) (hat : vo'.ownBlock = vo.ownBlock ∨ vo'.ownBlock = some w.heap.size)
    (h1 : cI = ((pieceAt e c l k).c : Int)) (h2 : f = (pieceAt e c l k).f) (h3 : g = (pieceAt e c l k).g) (h4 : (pieceAt e c l k).d = D.take 106) (h5 : d = (D.take 106).length) : RCutI W (pieceAt e c l) (k + 1) vo' w' := by
  rw [← h4] at hr h5
  subst h1 h2 h3 h5
  exact h.push hr hnF hown hg hat
/-- what is left behind one more piece -/
theorem rest_rd {w : World} {A : Option Addr} {q d : Nat} {D : List Nat} (h : Rd w 1 (.slice A D.length q) D.length (D.map u8)) (hd : d = min 106 D.length) : Rd w 1 (.slice (cutAt A d q) (D.length - d) (q - d)) (D.drop 106).length ((D.drop 106).map u8) := by
  have h1 := h.back (n := d) (by omega)
  have e : D.drop d = D.drop 106 := by
    by_cases hl : D.length ≤ 106
    · rw [List.drop_of_length_le (by omega), List.drop_of_length_le (by omega)]
    · rw [hd, Nat.min_eq_left (by omega)]
  rw [e] at h1
  rw [show (D.drop 106).length = D.length - d by rw [List.length_drop]; omega]
  exact h1

set_option maxRecDepth 3000 in
set_option maxHeartbeats 3200000 in
theorem rcut_n (e c : Nat) (v : Value) (l : List Nat) (w : World) (hv : Rd w 1 v l.length (l.map u8)) (hl : ∀ x ∈ l, x < 256) (hlen : l.length ≤ 100000) :
    Calls Tryz.prog 49 #[.int .u64 (e : Int), .int .u64 (c : Int), v] w (CutN w e c l) := by
  obtain ⟨A, q, rfl, hmq, hqm⟩ := hv.form
  obtain ⟨m, hm⟩ : ∃ m, m = l.length := ⟨_, rfl⟩
  obtain ⟨E, hE⟩ : ∃ E, E = cutE e c m := ⟨_, rfl⟩
  rw [← hm] at hv hlen ⊢
  have hmI : (m : Int) ≤ 100000 := by omega
  have HV := Lib.hid hv
  have HL := Lib.hid hl
  have HM := Lib.hid hm
  have HLEN := Lib.hid hlen
  have HEE := Lib.hid hE
  clear hv hl hm hlen hmq hqm hE
  go_enter Tryz.func49, Tryz.ntmps49
  go_wp2_with fail
  go_loop [8] (NRel m) (fun t => needN m - (intOf t).toNat)
  case atStart => exact ⟨1, Nat.le_refl _, needN_pos m, rfl⟩
  case round =>
    obtain ⟨k, hk1, hk2, rfl⟩ := hrel
    have hkb : k ≤ 10000 := by have := HLEN.out; have h : needN m ≤ 10000 := needN_le (by decide) (by omega); omega
    have hkI : (k : Int) ≤ 10000 := by omega
    have hk0 : (1 : Int) ≤ (k : Int) := by omega
    have HK1 := Lib.hid hk1
    have HK2 := Lib.hid hk2
    clear hk1 hk2 hkb
    by_cases hlt : k * 106 < m
    · have hltI : (k : Int) * 106 < (m : Int) := by omega
      have hge := needN_ge m
      have HN := Lib.hid (show k + 1 ≤ needN m by omega)
      clear hlt hge
      go_wp2_with fail
      go_round
      case rel => exact ⟨k + 1, by omega, HN.out, by go_num⟩
      case measure => have := HN.out; simp [intOf]; omega
    · have hleI : (m : Int) ≤ (k : Int) * 106 := by omega
      have HN := Lib.hid (show k = needN m by have := HK2.out; have := needN_le HK1.out (show m ≤ k * 106 by omega); omega)
      clear hlt
      by_cases h1 : e ≤ 16777215
      · by_cases h2 : c ≤ 1099511627775
        · by_cases h3 : k - 1 ≤ 1099511627775 - c
          · by_cases h4 : m ≤ 8192
            · have h1I : (e : Int) ≤ 16777215 := by omega
              have h2I : (c : Int) ≤ 1099511627775 := by omega
              have h3I : (k : Int) - 1 ≤ 1099511627775 - (c : Int) := by omega
              have h4I : (m : Int) ≤ 8192 := by omega
              have HE0 := Lib.hid (show cutE e c m = 0 by rw [cutE, if_pos ⟨h1, h2, by rw [← HN.out]; exact h3⟩, if_pos h4])
              have HCK := Lib.hid h3
              have HK100 := Lib.hid (show k ≤ 100 by rw [HN.out]; exact needN_le (by decide) (by omega))
              clear h1 h2 h3 h4
              go_wp2_with fail
              obtain ⟨n, rfl⟩ : ∃ n, n = k := ⟨_, rfl⟩
              have HST := Lib.hid (RCutI.nil w (pieceAt e c l))
              go_loopw [2, 9, 10] (RcLoop w e c l n) (fun _ _ t _ => n - (intOf t).toNat)
              case atStart => exact ⟨0, A, q, Nat.zero_le _, rfl, by rw [Nat.zero_mul, List.drop_zero, ← HM.out], by rw [Nat.zero_mul, List.drop_zero, ← HM.out]; exact HV.out, HST.out, _, _, rfl⟩
              case round =>
                obtain ⟨k, A', q', hk, rfl, rfl, hR, hI, a9, k9, rfl⟩ := hrel
                by_cases hlt : k < n
                · obtain ⟨D, hD⟩ : ∃ D, D = l.drop (k * 106) := ⟨_, rfl⟩
                  rw [← hD] at hR ⊢
                  obtain ⟨F, qs, hW⟩ := hI
                  have hki : (k : Int) < (n : Int) := by omega
                  have hckI : (c : Int) + (k : Int) ≤ 1099511627775 := by omega
                  have hrw := hR.far (fun b hb hm hl => hW.adv.block b hl (fun h => h)) hW.adv.size
                  have hin : In wr (.slice A' D.length q') D := In.of_rd hrw (by rw [hD]; exact fun x hx => HL.out x (List.mem_of_mem_drop hx))
                  obtain ⟨M, hM⟩ : ∃ M, M = D.length := ⟨_, rfl⟩
                  obtain ⟨d, hd⟩ : ∃ d, d = (D.take 106).length := ⟨_, rfl⟩
                  have hdM : d = min 106 M := by rw [hd, hM]; simp
                  have hPd : (pieceAt e c l k).d = D.take 106 := by show (l.drop (k * 106)).take 106 = _; rw [hD]
                  have hnext : l.drop ((k + 1) * 106) = D.drop 106 := by rw [hD, List.drop_drop, show (k + 1) * 106 = k * 106 + 106 by omega]
                  have hrest := rest_rd (d := d) hR (by rw [← hM]; exact hdM)
                  have hRf := hR.form
                  obtain ⟨f, hf⟩ : ∃ f, f = (k == 0) := ⟨_, rfl⟩
                  have hf0 : ((k : Int) == 0) = f := by rw [hf, Bool.eq_iff_iff, beq_iff_eq, beq_iff_eq]; omega
                  obtain ⟨g, hg⟩ : ∃ g, g = (k == n - 1) := ⟨_, rfl⟩
                  have hg0 : ((k : Int) == (n : Int) - 1) = g := by rw [hg, Bool.eq_iff_iff, beq_iff_eq, beq_iff_eq]; omega
                  have HP1 := Lib.hid (show ((c : Int) + (k : Int)) = ((pieceAt e c l k).c : Int) from cut_c e c l k)
                  have HP2 := Lib.hid (show f = (pieceAt e c l k).f from hf)
                  have HP3 := Lib.hid (show g = (pieceAt e c l k).g by rw [hg, HN.out, HM.out]; rfl)
                  have HIN := Lib.hid (show In wr (.slice A' M q') D by rw [hM]; exact hin)
                  have HPD := Lib.hid hPd
                  have HD := Lib.hid hd
                  have HDM := Lib.hid hdM
                  have HNX := Lib.hid hnext
                  rw [← hM] at hrest
                  have HRS := Lib.hid hrest
                  have HW := Lib.hid hW
                  have HMD := Lib.hid hM
                  have HLT := Lib.hid hlt
                  have HRR := Lib.hid hR
                  rw [← hM]
                  have hdI : (d : Int) ≤ 106 := by omega
                  have hdMI : (d : Int) ≤ (M : Int) := by omega
                  clear hR hW hrw hin hM hd hdM hPd hnext hrest hRf hf hg hD hlt hk
                  have HD2 := Lib.hid (show d = (D.take 106).length by rw [List.length_take, ← HMD.out]; exact HDM.out)
                  have HD1B := Lib.hid (show d ≤ 1000000000 by omega)
                  have HK1 := Lib.hid (show k + 1 ≤ maxLen by have := HLT.out; have := HK100.out; unfold maxLen; omega)
                  have HK2 := Lib.hid (show (k + 1) * 48 ≤ 140737488355328 by have := HLT.out; have := HK100.out; omega)
                  by_cases hM0 : M = 0
                  · obtain rfl : d = 0 := by have := HDM.out; omega
                    have hRS := HRS.out
                    cases A' with
                    | none =>
                      have hq0 : q' = 0 := by obtain ⟨_, _, e', _, _, _, hz, _⟩ := HRR.out; injection e' with e1 _ e3; rw [e3]; exact hz e1.symm
                      subst hq0
                      have HRS2 := Lib.hid (show Rd w 1 (.slice none (M - 0) (0 - 0)) (D.drop 106).length ((D.drop 106).map u8) from hRS)
                      clear hRS hM0
                      go_wp2_with fail
                      refine (cut_any _ D 106 _ HIN.out (by decide)).mono ?_
                      rintro x wq ⟨v1, rfl, h1, rfl⟩
                      obtain ⟨A1, c1, rfl, _, _⟩ := h1.rd.form
                      rw [← HD2.out] at h1 ⊢
                      have H1 := Lib.hid h1
                      clear h1
                      go_wp2_with fail
                      refine (copy_any _ 0 (D.take 106) _ (H1.out.rd2 HD2.out) HD1B.out).mono ?_
                      rintro x wc ⟨vc, Fc, rfl, hc, ac⟩
                      obtain ⟨Ac, cc, rfl, _, _⟩ := hc.form0
                      have hW2 := (HW.out.step ac).step ((Adv.refl Nul wc).alloc (.cells #[.int .u64 (e : Int), .int .u64 ((c : Int) + (k : Int)), .bool f, .bool g, .slice Ac 0 cc] 87))
                      have HW2 := Lib.hid hW2
                      have HC2 := Lib.hid (hc.rd.up (.cells #[.int .u64 (e : Int), .int .u64 ((c : Int) + (k : Int)), .bool f, .bool g, .slice Ac 0 cc] 87))
                      have HNF := Lib.hid (rc_new HW.out hc ac)
                      clear hc ac hW2
                      go_wp2_with (first
                        | (at_builtin; refine lop_append_own rfl (.tmp 43) (.tmp 58) 79 87 rfl Tryz.underlying79 infoRPiece rfl (by decide) rfl HW2.out.sl.own ⟨wc.heap.size, 0, none⟩ 1 1 rfl [.int .u64 (e : Int), .int .u64 ((c : Int) + (k : Int)), .bool f, .bool g, .slice Ac 0 cc] rfl rnew_at rone HK1.out HK2.out ?_; intro v' w2 hown hg2 hat; have hpush := rc_push HW2.out HC2.out HNF.out hown hg2 hat HP1.out HP2.out HP3.out HPD.out HD2.out; obtain ⟨a8, k8, rfl⟩ := (slice_of hown); have HPU := Lib.hid hpush; clear hown hg2 hat hpush)
                        | fail)
                      have hlt := HLT.out
                      obtain ⟨z1, z2⟩ := rc_left HRS2.out HNX.out
                      exact ⟨⟨k + 1, none, _, by omega, by go_num, by rw [← z1] <;> rfl, z2, HPU.out, _, _, rfl⟩, by simp [intOf]; omega⟩
                    | some ad =>
                      have HRS2 := Lib.hid (show Rd w 1 (.slice (some ad) (M - 0) (q' - 0)) (D.drop 106).length ((D.drop 106).map u8) from by
                        rw [cutAt] at hRS
                        split at hRS
                        · exact hRS
                        · simpa [Addr.add] using hRS)
                      clear hRS hM0
                      go_wp2_with fail
                      refine (cut_any _ D 106 _ HIN.out (by decide)).mono ?_
                      rintro x wq ⟨v1, rfl, h1, rfl⟩
                      obtain ⟨A1, c1, rfl, _, _⟩ := h1.rd.form
                      rw [← HD2.out] at h1 ⊢
                      have H1 := Lib.hid h1
                      clear h1
                      go_wp2_with fail
                      refine (copy_any _ 0 (D.take 106) _ (H1.out.rd2 HD2.out) HD1B.out).mono ?_
                      rintro x wc ⟨vc, Fc, rfl, hc, ac⟩
                      obtain ⟨Ac, cc, rfl, _, _⟩ := hc.form0
                      have hW2 := (HW.out.step ac).step ((Adv.refl Nul wc).alloc (.cells #[.int .u64 (e : Int), .int .u64 ((c : Int) + (k : Int)), .bool f, .bool g, .slice Ac 0 cc] 87))
                      have HW2 := Lib.hid hW2
                      have HC2 := Lib.hid (hc.rd.up (.cells #[.int .u64 (e : Int), .int .u64 ((c : Int) + (k : Int)), .bool f, .bool g, .slice Ac 0 cc] 87))
                      have HNF := Lib.hid (rc_new HW.out hc ac)
                      clear hc ac hW2
                      go_wp2_with (first
                        | (at_builtin; refine lop_append_own rfl (.tmp 43) (.tmp 58) 79 87 rfl Tryz.underlying79 infoRPiece rfl (by decide) rfl HW2.out.sl.own ⟨wc.heap.size, 0, none⟩ 1 1 rfl [.int .u64 (e : Int), .int .u64 ((c : Int) + (k : Int)), .bool f, .bool g, .slice Ac 0 cc] rfl rnew_at rone HK1.out HK2.out ?_; intro v' w2 hown hg2 hat; have hpush := rc_push HW2.out HC2.out HNF.out hown hg2 hat HP1.out HP2.out HP3.out HPD.out HD2.out; obtain ⟨a8, k8, rfl⟩ := (slice_of hown); have HPU := Lib.hid hpush; clear hown hg2 hat hpush)
                        | fail)
                      have hlt := HLT.out
                      obtain ⟨z1, z2⟩ := rc_left HRS2.out HNX.out
                      exact ⟨⟨k + 1, some ad, _, by omega, by go_num, by rw [← z1] <;> rfl, z2, HPU.out, _, _, rfl⟩, by simp [intOf]; omega⟩
                  · obtain ⟨b, o, q2, e2, hb, hMq, hqm⟩ := (show Rd wr 1 (.slice A' M q') M (D.map u8) by have h := HIN.out.rd; rwa [← HMD.out] at h).adr (by omega)
                    injection e2 with e21 _ e23
                    subst e21 e23
                    have hMI : (M : Int) ≤ (q' : Int) := by have := HMD.out; omega
                    have hRS := HRS.out
                    by_cases hqd : q' = d
                    · have hqt := eq_true hqd
                      rw [cutAt, if_pos hqd] at hRS
                      have HRS2 := Lib.hid hRS
                      clear hqd hRS hMq hqm hb hM0
                      go_wp2_with fail
                      refine (cut_any _ D 106 _ HIN.out (by decide)).mono ?_
                      rintro x wq ⟨v1, rfl, h1, rfl⟩
                      obtain ⟨A1, c1, rfl, _, _⟩ := h1.rd.form
                      rw [← HD2.out] at h1 ⊢
                      have H1 := Lib.hid h1
                      clear h1
                      go_wp2_with fail
                      refine (copy_any _ d (D.take 106) _ (H1.out.rd2 HD2.out) HD1B.out).mono ?_
                      rintro x wc ⟨vc, Fc, rfl, hc, ac⟩
                      obtain ⟨Ac, cc, rfl, _, _⟩ := hc.form0
                      have hW2 := (HW.out.step ac).step ((Adv.refl Nul wc).alloc (.cells #[.int .u64 (e : Int), .int .u64 ((c : Int) + (k : Int)), .bool f, .bool g, .slice Ac d cc] 87))
                      have HW2 := Lib.hid hW2
                      have HC2 := Lib.hid (hc.rd.up (.cells #[.int .u64 (e : Int), .int .u64 ((c : Int) + (k : Int)), .bool f, .bool g, .slice Ac d cc] 87))
                      have HNF := Lib.hid (rc_new HW.out hc ac)
                      clear hc ac hW2
                      go_wp2_with (first
                        | (at_builtin; refine lop_append_own rfl (.tmp 43) (.tmp 58) 79 87 rfl Tryz.underlying79 infoRPiece rfl (by decide) rfl HW2.out.sl.own ⟨wc.heap.size, 0, none⟩ 1 1 rfl [.int .u64 (e : Int), .int .u64 ((c : Int) + (k : Int)), .bool f, .bool g, .slice Ac d cc] rfl rnew_at rone HK1.out HK2.out ?_; intro v' w2 hown hg2 hat; have hpush := rc_push HW2.out HC2.out HNF.out hown hg2 hat HP1.out HP2.out HP3.out HPD.out HD2.out; obtain ⟨a8, k8, rfl⟩ := (slice_of hown); have HPU := Lib.hid hpush; clear hown hg2 hat hpush)
                        | fail)
                      have hlt := HLT.out
                      obtain ⟨z1, z2⟩ := rc_left HRS2.out HNX.out
                      exact ⟨⟨k + 1, some ⟨b, o, none⟩, _, by omega, by go_num, by rw [← z1] <;> rfl, z2, HPU.out, _, _, rfl⟩, by simp [intOf]; omega⟩
                    · have hqt := eq_false hqd
                      rw [cutAt, if_neg hqd] at hRS
                      simp only [Option.map_some, add_none, Nat.mul_one] at hRS
                      have HRS2 := Lib.hid hRS
                      clear hqd hRS hMq hqm hb hM0
                      go_wp2_with fail
                      refine (cut_any _ D 106 _ HIN.out (by decide)).mono ?_
                      rintro x wq ⟨v1, rfl, h1, rfl⟩
                      obtain ⟨A1, c1, rfl, _, _⟩ := h1.rd.form
                      rw [← HD2.out] at h1 ⊢
                      have H1 := Lib.hid h1
                      clear h1
                      go_wp2_with fail
                      refine (copy_any _ d (D.take 106) _ (H1.out.rd2 HD2.out) HD1B.out).mono ?_
                      rintro x wc ⟨vc, Fc, rfl, hc, ac⟩
                      obtain ⟨Ac, cc, rfl, _, _⟩ := hc.form0
                      have hW2 := (HW.out.step ac).step ((Adv.refl Nul wc).alloc (.cells #[.int .u64 (e : Int), .int .u64 ((c : Int) + (k : Int)), .bool f, .bool g, .slice Ac d cc] 87))
                      have HW2 := Lib.hid hW2
                      have HC2 := Lib.hid (hc.rd.up (.cells #[.int .u64 (e : Int), .int .u64 ((c : Int) + (k : Int)), .bool f, .bool g, .slice Ac d cc] 87))
                      have HNF := Lib.hid (rc_new HW.out hc ac)
                      clear hc ac hW2
                      go_wp2_with (first
                        | (at_builtin; refine lop_append_own rfl (.tmp 43) (.tmp 58) 79 87 rfl Tryz.underlying79 infoRPiece rfl (by decide) rfl HW2.out.sl.own ⟨wc.heap.size, 0, none⟩ 1 1 rfl [.int .u64 (e : Int), .int .u64 ((c : Int) + (k : Int)), .bool f, .bool g, .slice Ac d cc] rfl rnew_at rone HK1.out HK2.out ?_; intro v' w2 hown hg2 hat; have hpush := rc_push HW2.out HC2.out HNF.out hown hg2 hat HP1.out HP2.out HP3.out HPD.out HD2.out; obtain ⟨a8, k8, rfl⟩ := (slice_of hown); have HPU := Lib.hid hpush; clear hown hg2 hat hpush)
                        | fail)
                      have hlt := HLT.out
                      obtain ⟨z1, z2⟩ := rc_left HRS2.out HNX.out
                      exact ⟨⟨k + 1, some ⟨b, o + d, none⟩, _, by omega, by go_num, by rw [← z1] <;> rfl, z2, HPU.out, _, _, rfl⟩, by simp [intOf]; omega⟩
                · obtain rfl : k = n := by omega
                  have HFIN := Lib.hid (rcut_close (by rw [← HM.out]; exact HE0.out) (by rw [← HM.out]; exact HN.out) hI)
                  clear hI hR hlt hk
                  go_wp2_with fail
                  go_ret2
                  exact HFIN.out
            · have h1I : (e : Int) ≤ 16777215 := by omega
              have h2I : (c : Int) ≤ 1099511627775 := by omega
              have h3I : (k : Int) - 1 ≤ 1099511627775 - (c : Int) := by omega
              have h4I : 8192 < (m : Int) := by omega
              have HE5 := Lib.hid (show cutE e c l.length = 5 by rw [← HM.out, cutE, if_pos ⟨h1, h2, by rw [← HN.out]; exact h3⟩, if_neg h4])
              clear h1 h2 h3 h4
              go_wp2_with fail
              go_ret2
              exact CutN.none HE5.out (by decide) (Adv.refl _ _)
          · have h1I : (e : Int) ≤ 16777215 := by omega
            have h2I : (c : Int) ≤ 1099511627775 := by omega
            have h3I : 1099511627775 - (c : Int) < (k : Int) - 1 := by omega
            have HE2 := Lib.hid (show cutE e c l.length = 2 by rw [← HM.out, cutE, if_neg (fun h => h3 (by rw [HN.out]; exact h.2.2))])
            clear h1 h2 h3
            go_wp2_with fail
            go_ret2
            exact CutN.none HE2.out (by decide) (Adv.refl _ _)
        · have h1I : (e : Int) ≤ 16777215 := by omega
          have h2I : 1099511627775 < (c : Int) := by omega
          have HE2 := Lib.hid (show cutE e c l.length = 2 by rw [← HM.out, cutE, if_neg (fun h => h2 h.2.1)])
          clear h1 h2
          go_wp2_with fail
          go_ret2
          exact CutN.none HE2.out (by decide) (Adv.refl _ _)
      · have h1I : 16777215 < (e : Int) := by omega
        have HE2 := Lib.hid (show cutE e c l.length = 2 by rw [← HM.out, cutE, if_neg (fun h => h1 h.1)])
        clear h1
        go_wp2_with fail
        go_ret2
        exact CutN.none HE2.out (by decide) (Adv.refl _ _)
end Go.Proofs.YtbdjlmdbnoghnaaGreat
namespace Go.Proofs.YtbdjlmdbnoghnaaGreat
open Go.RowKit

theorem pcut_any (e c : Nat) (v : Value) (l : List Nat) (w : World) (hv : Rd w 1 v l.length (l.map u8)) (hl : l.length ≤ 100000) :
    Calls Tryz.prog 78 #[.int .u64 (e : Int), .int .u64 (c : Int), v] w (CutR w e c l) := by
  by_cases h : cutE e c l.length = 0
  · exact (pcut_ok e c v l w hv h).mono (fun _ _ h => h.cut)
  · exact (pcut_no e c v l w hv hl h).mono (fun _ _ h => h.cut)
theorem pcutn_any (e c : Nat) (v : Value) (l : List Nat) (w : World) (hv : Rd w 1 v l.length (l.map u8)) (hl : l.length ≤ 100000) :
    Calls Tryz.prog 78 #[.int .u64 (e : Int), .int .u64 (c : Int), v] w (CutN w e c l) := by
  by_cases h : cutE e c l.length = 0
  · exact pcut_ok e c v l w hv h
  · exact pcut_no e c v l w hv hl h
theorem CutR.opened {w w' : World} {e c : Nat} {l : List Nat} {x : Ending} (h : CutR w e c l x w') : ∃ A k, x = .returned (.tuple #[.slice A (cutV e c l).length k, .int .i64 (cutE e c l.length)]) ∧ PRd w' (.slice A (cutV e c l).length k) (cutV e c l) ∧ Adv Nul w Nul w' := by
  obtain ⟨A, n, k, rfl, hp, ha⟩ := h
  have hh := hp
  obtain ⟨A', k', e', _⟩ := hh
  injection e' with _ e2 _
  subst e2
  exact ⟨A, k, rfl, hp, ha⟩
/-- the cells of two pieces -/
def Cells5 (w : World) (b o : Nat) (p : Pc) (v : Value) : Prop :=
  w.cell? ⟨b, o, none⟩ = some (.int .u64 (p.e : Int)) ∧ w.cell? ⟨b, o + 1, none⟩ = some (.int .u64 (p.c : Int)) ∧ w.cell? ⟨b, o + 2, none⟩ = some (.bool p.f) ∧ w.cell? ⟨b, o + 3, none⟩ = some (.bool p.g) ∧ w.cell? ⟨b, o + 4, none⟩ = some v
theorem PRd.row {w : World} {A : Option Addr} {n k : Nat} {ps : List Pc} (h : PRd w (.slice A n k) ps) {i : Nat} (hi : i < ps.length) : ∃ b o a q, A = some ⟨b, o, none⟩ ∧ b < w.heap.size ∧ Cells5 w b (o + i * 5) ps[i] (.slice a ps[i].d.length q) ∧ Rd w 1 (.slice a ps[i].d.length q) ps[i].d.length (ps[i].d.map u8) := by
  obtain ⟨A', k', e, _, _, hc⟩ := h
  injection e with e1 _ _
  subst e1
  obtain ⟨b, o, rfl, hb, hr⟩ := hc (by omega)
  obtain ⟨a, q, c0, c1, c2, c3, c4, hd⟩ := hr i hi
  refine ⟨b, o, a, q, rfl, hb, ⟨by simpa using c0, ?_, ?_, ?_, ?_⟩, hd⟩
  · rw [Nat.add_assoc]; exact c1
  · rw [Nat.add_assoc]; exact c2
  · rw [Nat.add_assoc]; exact c3
  · rw [Nat.add_assoc]; exact c4
theorem Cells5.step {w w' : World} {b o : Nat} {p : Pc} {v : Value} {F : Nat → Prop} (h : Cells5 w b o p v) (hb : b < w.heap.size) (ha : Adv Nul w F w') : Cells5 w' b o p v := by
  have hk := ha.block b hb (fun h => h)
  have e : ∀ j, w'.cell? ⟨b, j, none⟩ = w.cell? ⟨b, j, none⟩ := fun j => World.cell?_of_block hk
  obtain ⟨c0, c1, c2, c3, c4⟩ := h
  exact ⟨by rw [e]; exact c0, by rw [e]; exact c1, by rw [e]; exact c2, by rw [e]; exact c3, by rw [e]; exact c4⟩
structure Two (w : World) (b1 o1 b2 o2 : Nat) (p : Pc) (v1 v2 : Value) : Prop where
  c1 : Cells5 w b1 o1 p v1
  c2 : Cells5 w b2 o2 p v2
  l1 : b1 < w.heap.size
  l2 : b2 < w.heap.size
end Go.Proofs.YtbdjlmdbnoghnaaGreat
