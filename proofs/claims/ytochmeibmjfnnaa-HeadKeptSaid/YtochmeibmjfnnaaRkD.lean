/- The document's own disk: what a round of Crash leaves. -/
import Derived.Test.YtochmeibmjfnnaaRkN
import Derived.Test.YtochmeibmjfnnaaDkE
namespace Go.Proofs.Ytochmeibmjfnnaa
open Go.RowKit

theorem RkI.keepH {w w' : World} {G : Nat → Prop} {c n : Nat} {vL vQ : Value} {ls : List Value} {ps : List (Nat × Value)} {s : DS} (h : RkI w G c n vL vQ ls ps s) (hk : ∀ k, G k → w'.heap[k]? = w.heap[k]?) (hs : w.heap.size ≤ w'.heap.size) : RkI w' G c n vL vQ ls ps s :=
  ⟨h.ok, h.blk.keep (hk _ h.inG), h.l.keepH hk hs, h.rows.mono (fun _ _ _ k => k.keepH hk hs), h.q.keepH hk hs, h.que.mono (fun _ _ _ k => k.keepH hk hs), h.inG⟩

theorem RkI.crashAt {w w9 w10 : World} {G F9 : Nat → Prop} {c n gL cap a m : Nat} {vQ v9 v10 : Value} {ls : List Value} {ps : List (Nat × Value)} {s : DS} {xs : List Value} {r : List Nat} (h : RkI w G c n (.slice (some ⟨gL, 0, none⟩) n cap) vQ ls ps s) (a9 : Adv Nul w F9 w9) (h9 : Sl w9 F9 5 1 v9 m xs) (ha : a < n)
    (hown : w10.ownsRow 0 5 1 v10 128 (r.map u8)) (hr : r.length = 128) (hg : w9.grownBy w10 v9.ownBlock) (hat : v10.ownBlock = v9.ownBlock ∨ v10.ownBlock = some w9.heap.size) :
    (∃ A k l, v10 = .slice A k l) ∧ (∀ j, G j → w10.heap[j]? = w.heap[j]?) ∧ (∀ j, G j → j ≠ gL → (w10.setCell ⟨gL, a, none⟩ v10).heap[j]? = w.heap[j]?) ∧ (∃ u, w10.cell? ⟨gL, a, none⟩ = some u) ∧ w10.frozen? ⟨gL, a, none⟩ = false ∧
    ∃ G', RkI (w10.setCell ⟨gL, a, none⟩ v10) G' c n (.slice (some ⟨gL, 0, none⟩) n cap) vQ (ls.set a v10) ps { s with L := s.L.set a r } ∧ Adv G w G' (w10.setCell ⟨gL, a, none⟩ v10) := by
  obtain ⟨g1, g2⟩ := sl_grown h9 hown hg hat (Nat.le_refl _)
  have hk : ∀ j, G j → w10.heap[j]? = w.heap[j]? := fun j hj => by
    have hjw := h.bd j hj
    rw [hg.block j (Nat.lt_of_lt_of_le hjw a9.size) (fun e => by have := a9.new_at (h9.inF j e.symm); omega), a9.block j hjw (fun x => x)]
  have hR := h.keepH hk (Nat.le_trans a9.size g2.size)
  obtain ⟨U, hU⟩ : ∃ U : Nat → Prop, U = fun j => G j ∨ (F9 j ∨ v10.ownBlock = some j) := ⟨_, rfl⟩
  have hbU : Bd U w10 := by
    rw [hU]
    exact bd_or hR.bd g1.bd
  have hRU := hR.weak (U := U) (fun j hj => by rw [hU]; exact .inl hj) hbU
  have hvU := g1.weak (G := U) (fun j hj => by rw [hU]; exact .inr hj) hbU
  obtain ⟨r1, r2, r3, r4⟩ := hRU.setL ha hvU hr
  have a10 : Adv G w U w10 := by
    refine ⟨g2.os.trans a9.os, g2.tape.trans a9.tape, g2.output.trans a9.output, Nat.le_trans a9.size g2.size, fun j hj hn => ?_, fun j hj => ?_⟩
    · rw [hg.block j (Nat.lt_of_lt_of_le hj a9.size) (fun e => by have := a9.new_at (h9.inF j e.symm); omega), a9.block j hj (fun x => x)]
    · rw [hU] at hj
      rcases hj with hj | hj | hj
      · exact .inl hj
      · exact .inr (a9.new_at hj)
      · rcases hat with e | e
        · exact .inr (a9.new_at (h9.inF j (by rw [← e]; exact hj)))
        · rw [e] at hj
          injection hj with hj
          have := a9.size
          exact .inr (by omega)
  refine ⟨?_, hk, fun j hj hne => by rw [heap_setCell_other w10 _ j _ hne]; exact hk j hj, r3, r4, U, r1, a10.trans r2⟩
  rcases hown.2 with ⟨rfl, _⟩ | ⟨_, _, _, rfl, _⟩ <;> exact ⟨_, _, _, rfl⟩

/-- behind a place: what is left of a slice -/
theorem Rd.rest8 {w : World} {g c t : Nat} {l : List Nat} (h : Rd w 1 (.slice (some ⟨g, 0, none⟩) 128 c) 128 (l.map u8)) (ht : t ≤ 128) (A : Option Addr) (hA : A = if c = t then some ⟨g, 0, none⟩ else some ⟨g, t, none⟩) : Rd w 1 (.slice A (128 - t) (c - t)) (128 - t) ((l.drop t).map u8) := by
  by_cases hlt : t < 128
  · have hc : ¬ c = t := by obtain ⟨_, _, e, h1, _⟩ := h; injection e with _ _ e; omega
    rw [if_neg hc] at hA
    subst hA
    exact h.back8 hlt
  · obtain rfl : t = 128 := by omega
    have hl : l.length = 128 := by obtain ⟨_, _, _, _, _, h, _⟩ := h; simpa using h
    have hm : c ≤ maxLen := by obtain ⟨_, _, e, _, h2, _⟩ := h; injection e with _ _ e; omega
    refine ⟨A, c - 128, rfl, by omega, by omega, by simp [hl], fun hn => ?_, fun hn => absurd hn (by omega)⟩
    rw [hA] at hn
    split at hn <;> cases hn
end Go.Proofs.Ytochmeibmjfnnaa
