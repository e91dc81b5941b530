/- Cut: the document's. -/
import Derived.Test.YtlpdpbhnfhihjaaMgK
namespace Go.Proofs.Ytlpdpbhnfhihjaa
open Go.RowKit

theorem lsl_grown {e : TypeId} {size : Nat} {w2 w3 : World} {F : Nat → Prop} {v v' : Value} {k n m : Nat} {xs ys : List Value} (hS : Sl w2 F e size v k xs) (hown : w3.ownsRow 0 e size v' n ys) (hg : w2.grownBy w3 v.ownBlock)
    (hat : v'.ownBlock = v.ownBlock ∨ v'.ownBlock = some m) (hm : w2.heap.size ≤ m) : Sl w3 (fun j => F j ∨ v'.ownBlock = some j) e size v' n ys ∧ Adv F w2 (fun j => F j ∨ v'.ownBlock = some j) w3 := by
  have hF' : ∀ j, (F j ∨ v'.ownBlock = some j) → F j ∨ w2.heap.size ≤ j := by
    rintro j (h | h)
    · exact .inl h
    · rcases hat with e | e
      · exact .inl (hS.inF j (by rw [← e]; exact h))
      · rw [e] at h; injection h with h; right; omega
  have hA : Adv F w2 (fun j => F j ∨ v'.ownBlock = some j) w3 := by
    have h1 := (Adv.refl F w2).grown hg (fun j hj => .inl (hS.inF j hj))
    exact ⟨h1.os, h1.tape, h1.output, h1.size, h1.block, hF'⟩
  refine ⟨⟨hown, fun j hj => .inr hj, ?_⟩, hA⟩
  rintro j (h | h)
  · exact Nat.lt_of_lt_of_le (hS.bd j h) hA.size
  · exact (hown.lt j h).2

def lsv (z : Nat) : Value := .slice (some ⟨z, 0, none⟩) 128 128
/-- Sectors that were read, one behind the other. -/
structure LSecs (w : World) (G : Nat → Prop) (v : Value) (L : List (List Nat)) : Prop where
  ex : ∃ zs : List Nat, zs.length = L.length ∧ Sl w G 33 1 v L.length (zs.map lsv) ∧ ∀ i (h : i < zs.length), ∃ r, L[i]? = some r ∧ r.length = 128 ∧ Blk w zs[i] 70 (r.map u8).toArray ∧ G zs[i]

theorem lstep_append_own {w : World} {ops : Array Oper} {o : Oper} {a : Act} {K : Act → World → Prop} {Q : Exit → Act → World → Prop} {E : Prop} (hgd : o.guard = none) (s x : Operand) (t e : TypeId)
    (ho : o.op = .call { callee := .builtin .append, args := #[s, x], argTypes := #[t, t] }) (ht : Try.prog.underlying t = some (.slice e)) {z : Value} {size bytes : Nat} (hi : (Try.prog.info? e).map (fun i => (i.zero, i.size, i.bytes)) = some (some z, size, bytes)) (hzs : z.cells.size = size) (hsz : 0 < size)
    {v : Value} {n : Nat} {xs : List Value} (hs : a.eval s = v) (hown : w.ownsRow 0 e size v n xs) (ad : Addr) (m c : Nat) (hx : a.eval x = .slice (some ad) m c) (news : List Value) (hl : news.length = m * size) (hnews : ∀ j u, news[j]? = some u → w.cell? (ad.add j) = some u) (h1 : ∀ u ∈ news, u.oneCell' = true)
    (h63 : n + m ≤ maxLen) (hb : (n + m) * bytes ≤ 140737488355328)
    (h : ∀ v' w', w'.ownsRow 0 e size v' (n + m) (xs ++ news) → w.grownBy w' v.ownBlock → (v'.ownBlock = v.ownBlock ∨ v'.ownBlock = some w.heap.size) → K (a.put o.dst v') w') :
    if Region.wanted o (yielded ops a.tmps) = true then Oper.wp Try.prog o a w K Q else E := by
  rw [if_pos (by simp [Region.wanted, hgd])]
  obtain ⟨i0, hi0, hz0, hz1, hz2⟩ := info_parts hi
  obtain ⟨v', w', hrun, h2, h3, _, h5⟩ := run_append_own_at (P := Try.prog) w 0 t o.type e i0 z size bytes ht hi0 hz0 hz1 hz2 hzs hsz v n xs hown ad m c news hl hnews h1 h63 hb (Nat.zero_le _)
  unfold Oper.wp execOp
  simp only [ho, resolve, invoke, builtin, Sem.run_bind, Sem.run_pure, Result.andThen_ok, List.map_toArray, List.map_cons, List.map_nil, hs, hx, hrun]
  exact h v' w' h2 h3 h5
theorem lop_append_own {w : World} {ops : Array Oper} {rest : List Oper} {o : Oper} {a : Act} {Q : Exit → Act → World → Prop} (hgd : o.guard = none) (s x : Operand) (t e : TypeId)
    (ho : o.op = .call { callee := .builtin .append, args := #[s, x], argTypes := #[t, t] }) (ht : Try.prog.underlying t = some (.slice e)) {z : Value} {size bytes : Nat} (hi : (Try.prog.info? e).map (fun i => (i.zero, i.size, i.bytes)) = some (some z, size, bytes)) (hzs : z.cells.size = size) (hsz : 0 < size)
    {v : Value} {n : Nat} {xs : List Value} (hs : a.eval s = v) (hown : w.ownsRow 0 e size v n xs) (ad : Addr) (m c : Nat) (hx : a.eval x = .slice (some ad) m c) (news : List Value) (hl : news.length = m * size) (hnews : ∀ j u, news[j]? = some u → w.cell? (ad.add j) = some u) (h1 : ∀ u ∈ news, u.oneCell' = true)
    (h63 : n + m ≤ maxLen) (hb : (n + m) * bytes ≤ 140737488355328)
    (h : ∀ v' w', w'.ownsRow 0 e size v' (n + m) (xs ++ news) → w.grownBy w' v.ownBlock → (v'.ownBlock = v.ownBlock ∨ v'.ownBlock = some w.heap.size) → wpList Try.prog ops Q rest (a.put o.dst v') w') : wpList Try.prog ops Q (o :: rest) a w := by
  refine wpList_plain hgd fun K hK => ?_
  have h0 := lstep_append_own (ops := ops) (K := K) (Q := Q) (E := True) hgd s x t e ho ht hi hzs hsz hs hown ad m c hx news hl hnews h1 h63 hb (fun v' w' h1 h2 h3 => hK _ _ (h v' w' h1 h2 h3))
  rwa [if_pos (by simp [Region.wanted, hgd])] at h0


def rcells (q : Pc × Value) : List Value := [.int .u64 (q.1.e : Int), .int .u64 (q.1.c : Int), .bool q.1.f, .bool q.1.g, q.2]
theorem flat5 (f : Pc × Value → List Value) (hf : ∀ x, (f x).length = 5) : ∀ (l : List (Pc × Value)) (i j : Nat) (hi : i < l.length), j < 5 → (l.flatMap f)[i * 5 + j]? = (f l[i])[j]?
  | x :: l, 0, j, _, hj => by
    rw [List.flatMap_cons, List.getElem?_append_left (by rw [hf]; omega)]; simp
  | x :: l, i + 1, j, hi, hj => by
    have e : (i + 1) * 5 + j = 5 + (i * 5 + j) := by omega
    rw [List.flatMap_cons, List.getElem?_append_right (by rw [hf]; omega), e, hf, show 5 + (i * 5 + j) - 5 = i * 5 + j by omega]
    exact flat5 f hf l i j (by simpa using hi) hj
theorem flat5_len (f : Pc × Value → List Value) (hf : ∀ x, (f x).length = 5) : ∀ l : List (Pc × Value), (l.flatMap f).length = l.length * 5
  | [] => rfl
  | x :: l => by rw [List.flatMap_cons, List.length_append, hf, flat5_len f hf l, List.length_cons]; omega

section
variable {W w w' : World} {P : Nat → Pc} {k : Nat} {vo : Value}
end
theorem In.of_rd {w : World} {v : Value} {l : List Nat} (h : Rd w 1 v l.length (l.map u8)) (hl : ∀ x ∈ l, x < 256) : In w v l :=
  ⟨h, fun b hb hn => by
    obtain ⟨b', o, c, e, hb', _, _⟩ := h.adr hn
    subst e
    simp [Value.ownBlock] at hb
    omega, hl⟩

def NRel (m : Nat) (t8 : Value) : Prop := ∃ k : Nat, 1 ≤ k ∧ k ≤ needN m ∧ t8 = .int .i64 (k : Int)
theorem rone {e : Nat} {cI : Int} {f g : Bool} {a : Option Addr} {d q : Nat} : ∀ u ∈ [Value.int .u64 (e : Int), .int .u64 cI, .bool f, .bool g, .slice a d q], u.oneCell' = true := by
  intro u hu
  simp at hu
  rcases hu with rfl | rfl | rfl | rfl | rfl <;> rfl
theorem In.rd2 {w : World} {v : Value} {n : Nat} {l : List Nat} (h : In w v l) (hn : n = l.length := by assumption) : Rd w 1 v n (l.map u8) := by rw [hn]; exact h.rd
theorem rc_left {w : World} {A : Option Addr} {n k q : Nat} {D l : List Nat} (h : Rd w 1 (.slice A n q) (D.drop 106).length ((D.drop 106).map u8)) (hn : l.drop ((k + 1) * 106) = D.drop 106) :
    n = (l.drop ((k + 1) * 106)).length ∧ Rd w 1 (.slice A (l.drop ((k + 1) * 106)).length q) (l.drop ((k + 1) * 106)).length ((l.drop ((k + 1) * 106)).map u8) := by
  have hh := h
  obtain ⟨_, _, e, _⟩ := hh
  injection e with _ e2 _
  rw [hn]
  refine ⟨e2, ?_⟩
  rw [e2] at h
  exact h
theorem slice_of {w : World} {e : TypeId} {size n : Nat} {v : Value} {xs : List Value} (h : w.ownsRow 0 e size v n xs) : ∃ a k, v = .slice a n k := by
  rcases h.2 with ⟨rfl, rfl⟩ | ⟨_, _, _, rfl, _⟩ <;> exact ⟨_, _, rfl⟩
/-- what is left behind one more piece -/
theorem rest_rd {w : World} {A : Option Addr} {q d : Nat} {D : List Nat} (h : Rd w 1 (.slice A D.length q) D.length (D.map u8)) (hd : d = min 106 D.length) : Rd w 1 (.slice (cutAt A d q) (D.length - d) (q - d)) (D.drop 106).length ((D.drop 106).map u8) := by
  have h1 := h.back (n := d) (by omega)
  have e : D.drop d = D.drop 106 := by
    by_cases hl : D.length ≤ 106
    · rw [List.drop_of_length_le (by omega), List.drop_of_length_le (by omega)]
    · rw [hd, Nat.min_eq_left (by omega)]
  rw [e] at h1
  rw [show (D.drop 106).length = D.length - d by rw [List.length_drop]; omega]
  exact h1
end Go.Proofs.Ytlpdpbhnfhihjaa
