/- Lists of pairs of numbers that came in: of no type. -/
import Derived.Test.YtmefpafjcafgnaaDoorBase
import Derived.Deep.Slices
import Derived.Deep.Fields
namespace Go.Proofs.YtmefpafjcafgnaaDoor
open Go.ChangeShapes Go.WideShapes Go.ChangeAt Go.RowKit Go.Deep

structure Prs (w : World) (A : Option Addr) (c m : Nat) (ds : List (Int × Int)) : Prop where
  len : ds.length = m
  cap : m ≤ c ∧ c ≤ maxLen
  at_ : 0 < m → ∃ b o, A = some ⟨b, o, none⟩ ∧ b < w.heap.size ∧ ∀ i (h : i < ds.length), w.cell? ⟨b, o + i * 2, none⟩ = some (.int .i64 ds[i].1) ∧ w.cell? ⟨b, o + i * 2 + 1, none⟩ = some (.int .i64 ds[i].2)
def PrsIn (w : World) (v : Value) : Prop := ∃ A c m ds, v = .slice A m c ∧ Prs w A c m ds
theorem Prs.cells {w wr : World} {A : Option Addr} {c m i : Nat} {ds : List (Int × Int)} {F : Nat → Prop} (h : Prs w A c m ds) (a : Adv Nul w F wr) (hi : i < m) :
    ∃ b o x y, A = some ⟨b, o, none⟩ ∧ b < w.heap.size ∧ wr.cell? ⟨b, o + i * 2, none⟩ = some (.int .i64 x) ∧ wr.cell? ⟨b, o + i * 2 + 1, none⟩ = some (.int .i64 y) ∧ ∀ w' F', Adv Nul w F' w' → w'.cell? ⟨b, o + i * 2 + 1, none⟩ = some (.int .i64 y) := by
  obtain ⟨b, o, e, hb, hc⟩ := h.at_ (by omega)
  have hl := h.len
  have hk : ∀ w' F', Adv Nul w F' w' → ∀ j, w'.cell? ⟨b, j, none⟩ = w.cell? ⟨b, j, none⟩ := fun w' F' a' j => World.cell?_of_block (w := w) (a'.block b hb (fun h => h))
  refine ⟨b, o, (ds[i]'(by omega)).1, (ds[i]'(by omega)).2, e, hb, ?_, ?_, fun w' F' a' => ?_⟩
  · rw [hk wr F a]; exact (hc i (by omega)).1
  · rw [hk wr F a]; exact (hc i (by omega)).2
  · rw [hk w' F' a']; exact (hc i (by omega)).2

theorem pr_list {α : Type} {Q : Nat → α → Prop} : ∀ n : Nat, (∀ i, i < n → ∃ d, Q i d) → ∃ ds : List α, ds.length = n ∧ ∀ i (h : i < ds.length), Q i ds[i]
  | 0, _ => ⟨[], rfl, fun i h => absurd h (by simp)⟩
  | n + 1, H => by
    obtain ⟨ds, hl, hd⟩ := pr_list n (fun i hi => H i (by omega))
    obtain ⟨d, hq⟩ := H n (by omega)
    refine ⟨ds ++ [d], by simp [hl], fun i h => ?_⟩
    rw [List.length_append, List.length_singleton] at h
    by_cases hi : i < ds.length
    · rw [List.getElem_append_left hi]; exact hd i hi
    · have e : i = n := by omega
      subst e
      rw [List.getElem_append_right (by omega)]
      simpa using hq
theorem Prs.both {w : World} {A : Option Addr} {c m i : Nat} {ds : List (Int × Int)} (h : Prs w A c m ds) (hi : i < m) :
    ∃ b o x y, A = some ⟨b, o, none⟩ ∧ ∀ w' F', Adv Nul w F' w' → w'.cell? ⟨b, o + i * 2, none⟩ = some (.int .i64 x) ∧ w'.cell? ⟨b, o + i * 2 + 1, none⟩ = some (.int .i64 y) := by
  obtain ⟨b, o, e, hb, hc⟩ := h.at_ (by omega)
  have hl := h.len
  have hk : ∀ w' F', Adv Nul w F' w' → ∀ j, w'.cell? ⟨b, j, none⟩ = w.cell? ⟨b, j, none⟩ := fun w' F' a' j => World.cell?_of_block (w := w) (a'.block b hb (fun h => h))
  refine ⟨b, o, (ds[i]'(by omega)).1, (ds[i]'(by omega)).2, e, fun w' F' a' => ⟨?_, ?_⟩⟩
  · rw [hk w' F' a']; exact (hc i (by omega)).1
  · rw [hk w' F' a']; exact (hc i (by omega)).2
end Go.Proofs.YtmefpafjcafgnaaDoor
