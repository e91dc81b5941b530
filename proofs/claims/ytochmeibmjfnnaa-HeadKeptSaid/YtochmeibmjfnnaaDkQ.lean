/- All sectors of a disk: sectors. -/
import Derived.Test.YtochmeibmjfnnaaDkY
namespace Go.Proofs.Ytochmeibmjfnnaa
open Go.RowKit

theorem infoBytes : (Try.prog.info? 33).map (fun i => (i.zero, i.size, i.bytes)) = some (some (.slice none 0 0), 1, 24) := by kernel_rfl

theorem sl_grown {e : TypeId} {size : Nat} {w2 w3 : World} {F : Nat → Prop} {v v' : Value} {k n m : Nat} {xs ys : List Value} (hS : Sl w2 F e size v k xs) (hown : w3.ownsRow 0 e size v' n ys) (hg : w2.grownBy w3 v.ownBlock)
    (hat : v'.ownBlock = v.ownBlock ∨ v'.ownBlock = some m) (hm : w2.heap.size ≤ m) : Sl w3 (fun j => F j ∨ v'.ownBlock = some j) e size v' n ys ∧ Adv F w2 (fun j => F j ∨ v'.ownBlock = some j) w3 := by
  have hF' : ∀ j, (F j ∨ v'.ownBlock = some j) → F j ∨ w2.heap.size ≤ j := by
    rintro j (h | h)
    · exact .inl h
    · rcases hat with e | e
      · exact .inl (hS.inF j (by rw [← e]; exact h))
      · rw [e] at h; injection h with h; right; omega
  have hA : Adv F w2 (fun j => F j ∨ v'.ownBlock = some j) w3 := by
    have h1 := (Adv.refl F w2).grown hg (fun j hj => .inl (hS.inF j hj))
    exact ⟨h1.os, h1.tape, h1.output, h1.size, h1.block, hF'⟩
  refine ⟨⟨hown, fun j hj => .inr hj, ?_⟩, hA⟩
  rintro j (h | h)
  · exact Nat.lt_of_lt_of_le (hS.bd j h) hA.size
  · exact (hown.lt j h).2

def sv (z : Nat) : Value := .slice (some ⟨z, 0, none⟩) 128 128
/-- Sectors that were read, one behind the other. -/
structure Secs (w : World) (G : Nat → Prop) (v : Value) (L : List (List Nat)) : Prop where
  ex : ∃ zs : List Nat, zs.length = L.length ∧ Sl w G 33 1 v L.length (zs.map sv) ∧ ∀ i (h : i < zs.length), ∃ r, L[i]? = some r ∧ r.length = 128 ∧ Blk w zs[i] 71 (r.map u8).toArray ∧ G zs[i]

theorem Secs.bd {w : World} {G : Nat → Prop} {v : Value} {L : List (List Nat)} (h : Secs w G v L) : Bd G w := by
  obtain ⟨_, _, h, _⟩ := h.ex
  exact h.bd
theorem Secs.far {w w' : World} {F F' G : Nat → Prop} {v : Value} {L : List (List Nat)} (h : Secs w G v L) (ha : Adv F w F' w') (hs : Sep F G) : Secs w' G v L := by
  obtain ⟨zs, h1, h2, h3⟩ := h.ex
  refine ⟨zs, h1, h2.far ha hs, fun i hi => ?_⟩
  obtain ⟨r, k1, k2, k3, k4⟩ := h3 i hi
  exact ⟨r, k1, k2, k3.keep (ha.far hs h2.bd _ k4), k4⟩
theorem Secs.nil (w : World) : Secs w Nul (.slice none 0 0) [] := ⟨[], rfl, Sl.nil _ _ _, fun i hi => absurd hi (by simp)⟩
theorem Secs.at_ {w : World} {G : Nat → Prop} {v : Value} {L : List (List Nat)} (h : Secs w G v L) {i : Nat} (hi : i < L.length) :
    ∃ g c z, v = .slice (some ⟨g, 0, none⟩) L.length c ∧ G g ∧ w.cell? ⟨g, i, none⟩ = some (sv z) ∧ G z ∧ Rd w 1 (sv z) 128 ((L.getD i []).map u8) ∧ (L.getD i []).length = 128 := by
  obtain ⟨zs, h1, h2, h3⟩ := h.ex
  obtain ⟨g, c, rfl, hg, _⟩ := h2.form (by omega)
  obtain ⟨r, k1, k2, k3, k4⟩ := h3 i (by omega)
  have e : L.getD i [] = r := by rw [List.getD_eq_getElem?_getD, k1]; rfl
  refine ⟨g, c, zs[i], rfl, hg, ?_, k4, by rw [e]; exact k3.rd8 k2, by rw [e]; exact k2⟩
  rw [h2.own.cellAt i (by omega), List.getElem?_map, List.getElem?_eq_getElem (by omega)]; rfl
theorem Secs.snoc {w1 w2 w3 : World} {G : Nat → Prop} {v v' : Value} {L : List (List Nat)} {r : List Nat} {z m : Nat} {zs : List Nat} {o : Obj} (h1 : zs.length = L.length) (h2 : Sl w1 G 33 1 v L.length (zs.map sv)) (h3 : ∀ i (h : i < zs.length), ∃ r, L[i]? = some r ∧ r.length = 128 ∧ Blk w1 zs[i] 71 (r.map u8).toArray ∧ G zs[i])
    (hz : Blk w2 z 71 (r.map u8).toArray) (hr : r.length = 128) (ha : Adv Nul w1 (fun k => k = z) w2) (hown : w3.ownsRow 0 33 1 v' (L.length + 1) (zs.map sv ++ [sv z])) (hg : (w2.alloc o).grownBy w3 v.ownBlock) (hat : v'.ownBlock = v.ownBlock ∨ v'.ownBlock = some m) (hm : (w2.alloc o).heap.size ≤ m) :
    Secs w3 (fun k => (G k ∨ k = z) ∨ v'.ownBlock = some k) v' (L ++ [r]) ∧ Adv G w1 (fun k => (G k ∨ k = z) ∨ v'.ownBlock = some k) w3 := by
  have hA2 : Adv Nul w1 (fun k => k = z) (w2.alloc o) := ha.alloc o
  have hS2 : Sl (w2.alloc o) (fun k => G k ∨ k = z) 33 1 v L.length (zs.map sv) := by
    have h := h2.far hA2 (fun _ h _ => h)
    refine ⟨h.own, fun k hk => .inl (h.inF k hk), ?_⟩
    rintro k (hk | rfl)
    · exact h.bd k hk
    · exact (hz.alloc o).lt
  obtain ⟨g1, g2⟩ := sl_grown hS2 hown hg hat hm
  have hA : Adv G w1 (fun k => G k ∨ k = z) (w2.alloc o) := ⟨hA2.os, hA2.tape, hA2.output, hA2.size, fun k hk _ => hA2.block k hk (fun h => h), fun k hk => by
    rcases hk with hk | hk
    · exact .inl hk
    · exact .inr (hA2.new_at hk)⟩
  have far : ∀ y l, Blk (w2.alloc o) y 71 l → Blk w3 y 71 l := fun y l hy => hy.keep (hg.block y hy.lt (fun e => own_blk_ne hS2.own hy (by decide) e.symm))
  refine ⟨⟨zs ++ [z], by simp [h1], ?_, fun i hi => ?_⟩, hA.trans g2⟩
  · rw [List.length_append, List.length_singleton, List.map_append]
    exact g1
  · rw [List.length_append, List.length_singleton] at hi
    by_cases hlt : i < zs.length
    · obtain ⟨r', k1, k2, k3, k4⟩ := h3 i hlt
      rw [List.getElem_append_left hlt]
      refine ⟨r', ?_, k2, far _ _ (k3.keep (hA2.block _ k3.lt (fun h => h))), .inl (.inl k4)⟩
      rw [List.getElem?_append_left (by omega)]
      exact k1
    · have e : i = zs.length := by omega
      subst e
      rw [List.getElem_append_right (Nat.le_refl _)]
      refine ⟨r, ?_, hr, ?_, .inl (.inr ?_)⟩
      · rw [h1, List.getElem?_append_right (Nat.le_refl _)]; simp
      · simpa using far _ _ (hz.alloc o)
      · simp

def SeRel (w : World) (L : List (List Nat)) (t3 t4 : Value) (wr : World) : Prop :=
  ∃ k G, t4 = .int .i64 ((k : Nat) : Int) ∧ k ≤ 6 ∧ Secs wr G t3 (L.take k) ∧ Adv Nul w G wr
end Go.Proofs.Ytochmeibmjfnnaa
