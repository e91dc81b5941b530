/- Join: the document's. -/
import Derived.Test.YtlpdpbhnfhihjaaLjJ
namespace Go.Proofs.Ytlpdpbhnfhihjaa
open Go.RowKit

def fullB (n i d : Nat) : Bool := decide (d = 106 ∨ (i = n - 1 ∧ d < 106 ∧ (0 < d ∨ i = 0)))
/-- the loop that adds up -/
def RJoinL (w : World) (ps : List Pc) (t5 t4 : Value) (wr : World) : Prop :=
  ∃ k m A q F, k ≤ ps.length ∧ t5 = .int .i64 ((k : Nat) : Int) ∧ t4 = .slice A m q ∧ m = (allD (ps.take k)).length ∧ m ≤ k * 106 ∧ Sl wr F 5 1 (.slice A m q) m ((allD (ps.take k)).map u8) ∧ (∀ i (h : i < ps.length), i < k → goodAt ps.length (hdP ps).e (hdP ps).c i ps[i]) ∧ Adv Nul w F wr
/-- the cells that one round reads -/
structure RjE (wr : World) (z b1 o1 pe pn e0 c0 d q1 : Nat) (pf pg : Bool) (a1 : Option Addr) : Prop where
  z0 : wr.cell? ⟨z, 0, none⟩ = some (.int .u64 (pe : Int))
  z1 : wr.cell? ⟨z, 1, none⟩ = some (.int .u64 (pn : Int))
  z2 : wr.cell? ⟨z, 2, none⟩ = some (.bool pf)
  z3 : wr.cell? ⟨z, 3, none⟩ = some (.bool pg)
  z4 : wr.cell? ⟨z, 4, none⟩ = some (.slice a1 d q1)
  f0 : wr.cell? ⟨b1, o1, none⟩ = some (.int .u64 (e0 : Int))
  f1 : wr.cell? ⟨b1, o1 + 1, none⟩ = some (.int .u64 (c0 : Int))
theorem hd0 {ps : List Pc} (h : 0 < ps.length) : ps[0] = hdP ps := by
  have h1 : ps ≠ [] := fun e => by rw [e] at h; exact absurd h (by decide)
  obtain ⟨p, t, rfl⟩ := List.exists_cons_of_ne_nil h1
  rfl

theorem rj_end {wr : World} {F : Nat → Prop} {v : Value} {ps : List Pc} {k m : Nat} (hN : k = ps.length) (hs : Sl wr F 5 1 v m ((allD (ps.take k)).map u8)) : Sl wr F 5 1 v m ((allD ps).map u8) := by
  rw [hN, List.take_length] at hs
  exact hs
end Go.Proofs.Ytlpdpbhnfhihjaa
