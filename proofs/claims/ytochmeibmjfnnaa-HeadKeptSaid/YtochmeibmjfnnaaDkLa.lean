/- The writes that DiskLasts remembers; tails. -/
import Derived.Test.YtochmeibmjfnnaaDkQ
import Derived.Test.YtochmeibmjfnnaaDkLm
namespace Go.Proofs.Ytochmeibmjfnnaa
open Go.RowKit

theorem own_ne {w : World} {e1 e2 : TypeId} {s1 s2 n1 n2 : Nat} {v1 v2 : Value} {x1 x2 : List Value} (h1 : w.ownsRow 0 e1 s1 v1 n1 x1) (h2 : w.ownsRow 0 e2 s2 v2 n2 x2) (hne : e1 ≠ e2) : ∀ k, v1.ownBlock = some k → v2.ownBlock ≠ some k := fun k hk => by
  rcases h1.2 with ⟨rfl, _⟩ | ⟨g, cap, cur, rfl, _, hg, _⟩
  · simp [Value.ownBlock] at hk
  · have : g = k := by simpa [Value.ownBlock] using hk
    subst this
    exact own_blk_ne h2 (t := e1) (show Blk w g e1 cur from hg) (fun e => hne e.symm)

/-- Numbers of sectors and their bytes, in two lists. -/
structure Dat (w : World) (G : Nat → Prop) (vA vD : Value) (Q : List (Nat × List Nat)) : Prop where
  a : Sl w G 3 1 vA Q.length (Q.map atOf)
  ex : ∃ vs : List Value, vs.length = Q.length ∧ Sl w G 33 1 vD Q.length vs ∧ ∀ k (h : k < vs.length), ∃ q, Q[k]? = some q ∧ q.2.length = 128 ∧ Sl w G 5 1 vs[k] 128 (q.2.map u8)

theorem Dat.bd {w : World} {G : Nat → Prop} {vA vD : Value} {Q : List (Nat × List Nat)} (h : Dat w G vA vD Q) : Bd G w := h.a.bd
theorem Dat.far {w w' : World} {F F' G : Nat → Prop} {vA vD : Value} {Q : List (Nat × List Nat)} (h : Dat w G vA vD Q) (ha : Adv F w F' w') (hs : Sep F G) : Dat w' G vA vD Q := by
  obtain ⟨vs, h1, h2, h3⟩ := h.ex
  refine ⟨h.a.far ha hs, vs, h1, h2.far ha hs, fun k hk => ?_⟩
  obtain ⟨q, k1, k2, k3⟩ := h3 k hk
  exact ⟨q, k1, k2, k3.far ha hs⟩
theorem Dat.nil (w : World) : Dat w Nul (.slice none 0 0) (.slice none 0 0) [] := ⟨Sl.nil _ _ _, [], rfl, Sl.nil _ _ _, fun k hk => absurd hk (by simp)⟩
theorem Dat.at_ {w : World} {G : Nat → Prop} {vA vD : Value} {Q : List (Nat × List Nat)} (h : Dat w G vA vD Q) {k : Nat} (hk : k < Q.length) :
    ∃ gA cA gD cD g c, vA = .slice (some ⟨gA, 0, none⟩) Q.length cA ∧ w.cell? ⟨gA, k, none⟩ = some (.int .i64 ((Q.getD k (0, [])).1 : Int)) ∧ vD = .slice (some ⟨gD, 0, none⟩) Q.length cD ∧ w.cell? ⟨gD, k, none⟩ = some (.slice (some ⟨g, 0, none⟩) 128 c) ∧ 128 ≤ c ∧
      Rd w 1 (.slice (some ⟨g, 0, none⟩) 128 c) 128 (((Q.getD k (0, [])).2).map u8) ∧ ((Q.getD k (0, [])).2).length = 128 := by
  obtain ⟨vs, h1, h2, h3⟩ := h.ex
  obtain ⟨gA, cA, rfl, _, _⟩ := h.a.form (by omega)
  obtain ⟨gD, cD, rfl, _, _⟩ := h2.form (by omega)
  obtain ⟨q, k1, k2, k3⟩ := h3 k (by omega)
  obtain ⟨g, c, hv, _, hc⟩ := k3.form (by decide)
  have e : Q.getD k (0, []) = q := by rw [List.getD_eq_getElem?_getD, k1]; rfl
  refine ⟨gA, cA, gD, cD, g, c, rfl, ?_, rfl, ?_, hc, ?_, by rw [e]; exact k2⟩
  · rw [h.a.own.cellAt k (by omega), List.getElem?_map, k1, e]; rfl
  · rw [h2.own.cellAt k (by omega), List.getElem?_eq_getElem (by omega), hv]
  · rw [e, ← hv]; exact k3.rd

theorem Sl.weak {w : World} {F G : Nat → Prop} {e : TypeId} {size n : Nat} {v : Value} {xs : List Value} (h : Sl w F e size v n xs) (hG : ∀ k, F k → G k) (hb : Bd G w) : Sl w G e size v n xs := ⟨h.own, fun k hk => hG k (h.inF k hk), hb⟩
theorem Sl.grown_other {w2 w3 : World} {F : Nat → Prop} {e e1 : TypeId} {size n s1 n1 : Nat} {v v1 : Value} {xs x1 : List Value} (h : Sl w2 F e size v n xs) (hg : w2.grownBy w3 v1.ownBlock) (h1 : w2.ownsRow 0 e1 s1 v1 n1 x1) (hne : e1 ≠ e) : Sl w3 F e size v n xs :=
  h.keepB (fun k hk => hg.block k (h.bd k (h.inF k hk)) (fun e => own_ne h1 h.own hne k e.symm hk)) hg.size

theorem Adv.join {G F : Nat → Prop} {w0 w1 w2 : World} (h : Adv Nul w0 G w1) (k : Adv Nul w1 F w2) : Adv Nul w0 (fun j => G j ∨ F j) w2 :=
  ⟨k.os.trans h.os, k.tape.trans h.tape, k.output.trans h.output, Nat.le_trans h.size k.size, fun j hj _ => (k.block j (Nat.lt_of_lt_of_le hj h.size) (fun x => x)).trans (h.block j hj (fun x => x)), fun j hj => by
    rcases hj with hj | hj
    · exact .inr (h.new_at hj)
    · have := k.new_at hj
      have := h.size
      exact .inr (by omega)⟩

/-- both lists have grown by one -/
theorem Dat.snoc {w w3 w5 : World} {G F5 : Nat → Prop} {vA vD vA' vD' v5 : Value} {Q : List (Nat × List Nat)} {y m1 m2 : Nat} {b : List Nat} {o1 o2 : Obj} {vs : List Value} (hA : Sl w G 3 1 vA Q.length (Q.map atOf))
    (h1 : vs.length = Q.length) (h2 : Sl w G 33 1 vD Q.length vs) (h3 : ∀ k (h : k < vs.length), ∃ q, Q[k]? = some q ∧ q.2.length = 128 ∧ Sl w G 5 1 vs[k] 128 (q.2.map u8))
    (h5 : Sl w F5 5 1 v5 128 (b.map u8)) (hb : b.length = 128)
    (ownA : w3.ownsRow 0 3 1 vA' (Q.length + 1) (Q.map atOf ++ [.int .i64 (y : Int)])) (gA : (w.alloc o1).grownBy w3 vA.ownBlock) (atA : vA'.ownBlock = vA.ownBlock ∨ vA'.ownBlock = some m1) (hm1 : (w.alloc o1).heap.size ≤ m1)
    (ownD : w5.ownsRow 0 33 1 vD' (Q.length + 1) (vs ++ [v5])) (gD : (w3.alloc o2).grownBy w5 vD.ownBlock) (atD : vD'.ownBlock = vD.ownBlock ∨ vD'.ownBlock = some m2) (hm2 : (w3.alloc o2).heap.size ≤ m2) :
    ∃ G', Dat w5 G' vA' vD' (Q ++ [(y, b)]) ∧ Adv (fun k => G k ∨ F5 k) w G' w5 := by
  have hbU : Bd (fun k => G k ∨ F5 k) w := by
    rintro k (hk | hk)
    · exact hA.bd k hk
    · exact h5.bd k hk
  have adv1 : Adv (fun k => G k ∨ F5 k) w (fun k => G k ∨ F5 k) (w.alloc o1) := (Adv.refl _ w).alloc o1
  have up1 : ∀ {e : TypeId} {size n : Nat} {v : Value} {xs : List Value}, Sl w (fun k => G k ∨ F5 k) e size v n xs → Sl (w.alloc o1) (fun k => G k ∨ F5 k) e size v n xs := fun h => h.keepH (fun k hk => Below.heap_alloc _ _ _ (h.bd k hk)) (by simp)
  have hA1 := up1 (hA.weak (fun _ h => .inl h) hbU)
  have h21 := up1 (h2.weak (fun _ h => .inl h) hbU)
  have h51 := up1 (h5.weak (fun _ h => .inr h) hbU)
  obtain ⟨sA, aA⟩ := sl_grown hA1 ownA gA atA hm1
  have h23 := h21.grown_other gA hA1.own (by decide)
  have h53 := h51.grown_other gA hA1.own (by decide)
  have rows3 : ∀ k (h : k < vs.length), ∃ q, Q[k]? = some q ∧ q.2.length = 128 ∧ Sl w3 (fun k => G k ∨ F5 k) 5 1 vs[k] 128 (q.2.map u8) := fun k hk => by
    obtain ⟨q, k1, k2, k3⟩ := h3 k hk
    exact ⟨q, k1, k2, (up1 (k3.weak (fun _ h => .inl h) hbU)).grown_other gA hA1.own (by decide)⟩
  obtain ⟨U, hU⟩ : ∃ U : Nat → Prop, U = fun j => (G j ∨ F5 j) ∨ vA'.ownBlock = some j := ⟨_, rfl⟩
  have sA' : Sl w3 U 3 1 vA' (Q.length + 1) (Q.map atOf ++ [.int .i64 (y : Int)]) := by rw [hU]; exact sA
  have aA' : Adv (fun k => G k ∨ F5 k) w U w3 := by rw [hU]; exact adv1.trans aA
  have inU : ∀ k, (G k ∨ F5 k) → U k := fun k hk => by rw [hU]; exact .inl hk
  have up3 : ∀ {e : TypeId} {size n : Nat} {v : Value} {xs : List Value}, Sl w3 (fun k => G k ∨ F5 k) e size v n xs → Sl (w3.alloc o2) U e size v n xs := fun h => (h.weak inU sA'.bd).keepH (fun k hk => Below.heap_alloc _ _ _ (sA'.bd k hk)) (by simp)
  have h24 := up3 h23
  have sA4 : Sl (w3.alloc o2) U 3 1 vA' (Q.length + 1) (Q.map atOf ++ [.int .i64 (y : Int)]) := sA'.keepH (fun k hk => Below.heap_alloc _ _ _ (sA'.bd k hk)) (by simp)
  obtain ⟨sD, aD⟩ := sl_grown h24 ownD gD atD hm2
  refine ⟨fun j => U j ∨ vD'.ownBlock = some j, ⟨?_, vs ++ [v5], by simp [h1], ?_, fun k hk => ?_⟩, ?_⟩
  · rw [List.length_append, List.length_singleton, List.map_append]
    exact (sA4.grown_other gD h24.own (by decide)).weak (fun _ h => .inl h) sD.bd
  · rw [List.length_append, List.length_singleton]
    exact sD
  · rw [List.length_append, List.length_singleton] at hk
    by_cases hlt : k < vs.length
    · obtain ⟨q, k1, k2, k3⟩ := rows3 k hlt
      rw [List.getElem_append_left hlt]
      refine ⟨q, ?_, k2, ((up3 k3).grown_other gD h24.own (by decide)).weak (fun _ h => .inl h) sD.bd⟩
      rw [List.getElem?_append_left (by omega)]
      exact k1
    · have e : k = vs.length := by omega
      subst e
      rw [List.getElem_append_right (Nat.le_refl _)]
      refine ⟨(y, b), ?_, hb, ?_⟩
      · rw [h1, List.getElem?_append_right (Nat.le_refl _)]; simp
      · simpa using ((up3 h53).grown_other gD h24.own (by decide)).weak (fun _ h => .inl h) sD.bd
  · have hA4 : Adv U w3 U (w3.alloc o2) := (Adv.refl U w3).alloc o2
    exact aA'.trans (hA4.trans aD)

/-- a slice's front, its end -/
theorem Rd.front8 {w : World} {g c n t : Nat} {l : List Nat} (h : Rd w 1 (.slice (some ⟨g, 0, none⟩) n c) n (l.map u8)) (ht : t ≤ n) : Rd w 1 (.slice (some ⟨g, 0, none⟩) t c) t ((l.take t).map u8) := by
  obtain ⟨A, c', e, h1, h2, h3, h4, h5⟩ := h
  injection e with e1 e2 e3
  subst e1 e3
  have hl : l.length = n := by simpa using h3
  refine ⟨_, c, rfl, by omega, h2, by simp; omega, fun h => (by cases h), fun hn => ?_⟩
  obtain ⟨ad, e, hb, hc⟩ := h5 (by omega)
  injection e with e
  subst e
  refine ⟨_, rfl, hb, fun j u hu => hc j u ?_⟩
  rw [List.map_take, List.getElem?_take] at hu
  split at hu
  · exact hu
  · cases hu
theorem Rd.back8 {w : World} {g c n t : Nat} {l : List Nat} (h : Rd w 1 (.slice (some ⟨g, 0, none⟩) n c) n (l.map u8)) (ht : t < n) : Rd w 1 (.slice (some ⟨g, t, none⟩) (n - t) (c - t)) (n - t) ((l.drop t).map u8) := by
  obtain ⟨A, c', e, h1, h2, h3, h4, h5⟩ := h
  injection e with e1 e2 e3
  subst e1 e3
  have hl : l.length = n := by simpa using h3
  refine ⟨_, c - t, rfl, by omega, by omega, by simp; omega, fun h => (by cases h), fun hn => ?_⟩
  obtain ⟨ad, e, hb, hc⟩ := h5 (by omega)
  injection e with e
  subst e
  refine ⟨_, rfl, hb, fun j u hu => ?_⟩
  rw [List.map_drop, List.getElem?_drop] at hu
  have := hc (t + j) u hu
  rw [add_none] at this ⊢
  rw [Nat.zero_add] at this
  exact this
end Go.Proofs.Ytochmeibmjfnnaa
