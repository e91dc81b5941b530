/- Pieces compared; ends of a sector; parts of bytes that can be read. -/
import Derived.Test.YtochmeibmjfnnaaLpX
namespace Go.Proofs.Ytochmeibmjfnnaa
open Go.RowKit

theorem Rd.sub {w : World} {b o n c : Nat} {l : List Nat} (h : Rd w 1 (.slice (some ⟨b, o, none⟩) n c) n (l.map u8)) (s m c' : Nat) (hs : s + m ≤ n) (hc : m ≤ c') (hc' : c' ≤ maxLen) : Rd w 1 (.slice (some ⟨b, o + s, none⟩) m c') m (((l.drop s).take m).map u8) := by
  have hl : l.length = n := by obtain ⟨_, _, _, _, _, h, _⟩ := h; simpa using h
  refine ⟨_, c', rfl, hc, hc', by simp; omega, fun e => (by cases e), fun h0 => ?_⟩
  obtain ⟨b', o', e, hb, hcell⟩ := h.cells (by omega) (by decide)
  injection e with e
  injection e with e1 e2
  subst e1 e2
  refine ⟨_, rfl, hb, fun j u hu => ?_⟩
  rw [List.map_take, List.getElem?_take] at hu
  split at hu
  · rw [add_none, Nat.add_assoc]
    exact hcell (s + j) u (by rw [List.map_drop, List.getElem?_drop] at hu; exact hu)
  · cases hu
theorem Rd.drew {w : World} {v : Value} {n : Nat} {xs : List Value} (h : Rd w 1 v n xs) : Rd w.drew 1 v n xs := h
theorem Rd.len8 {w : World} {v : Value} {n : Nat} {l : List Nat} (h : Rd w 1 v n (l.map u8)) : l.length = n := by obtain ⟨_, _, _, _, _, h, _⟩ := h; simpa using h
theorem Rd.adr {w : World} {v : Value} {n : Nat} {l : List Nat} (h : Rd w 1 v n (l.map u8)) (hn : 0 < n) : ∃ b o c, v = .slice (some ⟨b, o, none⟩) n c ∧ b < w.heap.size ∧ n ≤ c ∧ c ≤ maxLen := by
  obtain ⟨A, c, rfl, h1, h2⟩ := h.form
  obtain ⟨b, o, rfl, hb, _⟩ := h.cells hn (by decide)
  exact ⟨b, o, c, rfl, hb, h1, h2⟩
theorem Rd.at8 {w : World} {b o n c : Nat} {l : List Nat} (h : Rd w 1 (.slice (some ⟨b, o, none⟩) n c) n (l.map u8)) {k : Nat} (hk : k < n) : w.cell? ⟨b, o + k, none⟩ = some (.int .u8 ((l.getD k 0 : Nat) : Int)) := by
  have hl := h.len8
  obtain ⟨b', o', e, hb, hcell⟩ := h.cells (by omega) (by decide)
  injection e with e
  injection e with e1 e2
  subst e1 e2
  rw [hcell k (u8 (l.getD k 0)) (by rw [List.getElem?_map, List.getD_eq_getElem?_getD, List.getElem?_eq_getElem (by omega)]; rfl)]
  rfl
end Go.Proofs.Ytochmeibmjfnnaa
