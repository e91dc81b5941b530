/- Lists of pairs of numbers that came in. -/
import Derived.Test.YtekafclhddhnpaaAqL
import Derived.Deep.Slices
import Derived.Deep.Fields
namespace Go.Proofs.Ytekafclhddhnpaa
open Go.ChangeShapes Go.WideShapes Go.ChangeAt Go.RowKit Go.Deep

structure Prs (w : World) (A : Option Addr) (c m : Nat) (ds : List (Int × Int)) : Prop where
  len : ds.length = m
  cap : m ≤ c ∧ c ≤ maxLen
  at_ : 0 < m → ∃ b o, A = some ⟨b, o, none⟩ ∧ b < w.heap.size ∧ ∀ i (h : i < ds.length), w.cell? ⟨b, o + i * 2, none⟩ = some (.int .i64 ds[i].1) ∧ w.cell? ⟨b, o + i * 2 + 1, none⟩ = some (.int .i64 ds[i].2)
def PrsIn (w : World) (v : Value) : Prop := ∃ A c m ds, v = .slice A m c ∧ Prs w A c m ds
theorem Prs.cells {w wr : World} {A : Option Addr} {c m i : Nat} {ds : List (Int × Int)} {F : Nat → Prop} (h : Prs w A c m ds) (a : Adv Nul w F wr) (hi : i < m) :
    ∃ b o x y, A = some ⟨b, o, none⟩ ∧ b < w.heap.size ∧ wr.cell? ⟨b, o + i * 2, none⟩ = some (.int .i64 x) ∧ wr.cell? ⟨b, o + i * 2 + 1, none⟩ = some (.int .i64 y) ∧ ∀ w' F', Adv Nul w F' w' → w'.cell? ⟨b, o + i * 2 + 1, none⟩ = some (.int .i64 y) := by
  obtain ⟨b, o, e, hb, hc⟩ := h.at_ (by omega)
  have hl := h.len
  have hk : ∀ w' F', Adv Nul w F' w' → ∀ j, w'.cell? ⟨b, j, none⟩ = w.cell? ⟨b, j, none⟩ := fun w' F' a' j => World.cell?_of_block (w := w) (a'.block b hb (fun h => h))
  refine ⟨b, o, (ds[i]'(by omega)).1, (ds[i]'(by omega)).2, e, hb, ?_, ?_, fun w' F' a' => ?_⟩
  · rw [hk wr F a]; exact (hc i (by omega)).1
  · rw [hk wr F a]; exact (hc i (by omega)).2
  · rw [hk w' F' a']; exact (hc i (by omega)).2

theorem pr_list {α : Type} {Q : Nat → α → Prop} : ∀ n : Nat, (∀ i, i < n → ∃ d, Q i d) → ∃ ds : List α, ds.length = n ∧ ∀ i (h : i < ds.length), Q i ds[i]
  | 0, _ => ⟨[], rfl, fun i h => absurd h (by simp)⟩
  | n + 1, H => by
    obtain ⟨ds, hl, hd⟩ := pr_list n (fun i hi => H i (by omega))
    obtain ⟨d, hq⟩ := H n (by omega)
    refine ⟨ds ++ [d], by simp [hl], fun i h => ?_⟩
    rw [List.length_append, List.length_singleton] at h
    by_cases hi : i < ds.length
    · rw [List.getElem_append_left hi]; exact hd i hi
    · have e : i = n := by omega
      subst e
      rw [List.getElem_append_right (by omega)]
      simpa using hq
theorem prCells : Try.prog.cellsOf 31 = 2 := by kernel_rfl
theorem prInt : Try.prog.cellsOf 3 = 1 := by kernel_rfl
theorem open_pr {H : Type} {enc : TypeId × Value → H} {W : World} {n : Nat} {cs : List Value} {x : DataW H × List MemPlace} (h : DataW.trod enc Try.prog W 0 (fun _ => true) true n 31 cs = some x) : ∃ d : Int × Int, cs = [.int .i64 d.1, .int .i64 d.2] := by
  obtain ⟨xs, m, _, _, hlen, hxl, hf⟩ := DataW.trod_struct Try.underlying31 h
  rw [prCells] at hlen
  match cs, hlen with
  | [c0, c1], _ =>
    match xs, hxl with
    | [y0, y1], _ =>
      have f0 := hf 0 _ rfl
      have f1 := hf 1 _ rfl
      change DataW.trod enc Try.prog W 0 (fun _ => true) true m 3 ((([c0, c1] : List Value).drop 0).take (Try.prog.cellsOf 3)) = some y0 at f0
      change DataW.trod enc Try.prog W 0 (fun _ => true) true m 3 ((([c0, c1] : List Value).drop 1).take (Try.prog.cellsOf 3)) = some y1 at f1
      rw [prInt] at f0 f1
      obtain ⟨a0, e0, _, _⟩ := DataW.trod_int Try.underlying3 f0
      obtain ⟨a1, e1, _, _⟩ := DataW.trod_int Try.underlying3 f1
      simp at e0 e1
      subst e0 e1
      exact ⟨(a0, a1), rfl⟩
theorem open_prs {H : Type} {enc : TypeId × Value → H} {W : World} {base : Nat} {r : Reach} {v : Value} {d : DataW H} {p : List MemPlace} (hv : Value.okWide Try.prog W r base 22 v) (h : DataW.Trod enc Try.prog W 0 (fun _ => true) true 22 v d p) : PrsIn W v := by
  obtain ⟨a, len, cap, rfl⟩ := okWide_slice Try.underlying22 hv
  obtain ⟨fuel, hf⟩ := h
  rcases open_slice Try.underlying22 hf with ⟨hcs, _⟩ | ⟨x, l, c, m, n, D, Pl, hcs, _, hl, hm, hmm, _, hi⟩
  · simp [Value.cells] at hcs
    obtain ⟨rfl, rfl, rfl⟩ := hcs
    exact ⟨none, 0, 0, [], rfl, rfl, ⟨Nat.le_refl _, Nat.zero_le _⟩, fun hn => absurd hn (by simp)⟩
  · simp [Value.cells] at hcs
    obtain ⟨rfl, rfl, rfl⟩ := hcs
    simp only [if_true] at hmm
    have H1 : ∀ i, i < len → ∃ d : Int × Int, W.cell? (x.add (i * 2)) = some (.int .i64 d.1) ∧ W.cell? (x.add (i * 2 + 1)) = some (.int .i64 d.2) := by
      intro i hil
      obtain ⟨cs', hc, ht⟩ := hi i (by omega)
      rw [prCells] at hc
      obtain ⟨d, rfl⟩ := open_pr ht
      obtain ⟨_, _, hat⟩ := World.cells?_some hc
      refine ⟨d, ?_, ?_⟩
      · have := hat 0 (by decide)
        rw [Go.Deep.add_add] at this
        exact this
      · have := hat 1 (by decide)
        rw [Go.Deep.add_add] at this
        exact this
    obtain ⟨ds, hdl, hd⟩ := pr_list len H1
    refine ⟨some x, cap, len, ds, rfl, hdl, ⟨by omega, hm⟩, fun hn => ?_⟩
    have h0 := (hd 0 (by omega)).1
    have hlt := World.block_lt_of_cell? _ _ h0
    obtain ⟨b, o, spot⟩ := x
    have hspot : spot = none := by simpa [Addr.add] using World.cell?_spot h0
    subst hspot
    rw [add_block] at hlt
    refine ⟨b, o, rfl, hlt, fun i h => ?_⟩
    have := hd i h
    rw [add_none, add_none, ← Nat.add_assoc] at this
    exact this
end Go.Proofs.Ytekafclhddhnpaa
