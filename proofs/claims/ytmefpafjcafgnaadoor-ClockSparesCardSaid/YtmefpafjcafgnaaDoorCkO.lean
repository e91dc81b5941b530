/- Lists of pairs of numbers that came in. -/
import Derived.Test.YtmefpafjcafgnaaDoorPrs
import Derived.Deep.Slices
import Derived.Deep.Fields
namespace Go.Proofs.YtmefpafjcafgnaaDoor
open Go.ChangeShapes Go.WideShapes Go.ChangeAt Go.RowKit Go.Deep

theorem kprCells : Tryd.prog.cellsOf 31 = 2 := by kernel_rfl
theorem kprInt : Tryd.prog.cellsOf 3 = 1 := by kernel_rfl
theorem open_kpr {H : Type} {enc : TypeId × Value → H} {W : World} {n : Nat} {cs : List Value} {x : DataW H × List MemPlace} (h : DataW.trod enc Tryd.prog W 0 (fun _ => true) true n 31 cs = some x) : ∃ d : Int × Int, cs = [.int .i64 d.1, .int .i64 d.2] := by
  obtain ⟨xs, m, _, _, hlen, hxl, hf⟩ := DataW.trod_struct Tryd.underlying31 h
  rw [kprCells] at hlen
  match cs, hlen with
  | [c0, c1], _ =>
    match xs, hxl with
    | [y0, y1], _ =>
      have f0 := hf 0 _ rfl
      have f1 := hf 1 _ rfl
      change DataW.trod enc Tryd.prog W 0 (fun _ => true) true m 3 ((([c0, c1] : List Value).drop 0).take (Tryd.prog.cellsOf 3)) = some y0 at f0
      change DataW.trod enc Tryd.prog W 0 (fun _ => true) true m 3 ((([c0, c1] : List Value).drop 1).take (Tryd.prog.cellsOf 3)) = some y1 at f1
      rw [kprInt] at f0 f1
      obtain ⟨a0, e0, _, _⟩ := DataW.trod_int Tryd.underlying3 f0
      obtain ⟨a1, e1, _, _⟩ := DataW.trod_int Tryd.underlying3 f1
      simp at e0 e1
      subst e0 e1
      exact ⟨(a0, a1), rfl⟩
theorem open_kprs {H : Type} {enc : TypeId × Value → H} {W : World} {base : Nat} {r : Reach} {v : Value} {d : DataW H} {p : List MemPlace} (hv : Value.okWide Tryd.prog W r base 22 v) (h : DataW.Trod enc Tryd.prog W 0 (fun _ => true) true 22 v d p) : PrsIn W v := by
  obtain ⟨a, len, cap, rfl⟩ := okWide_slice Tryd.underlying22 hv
  obtain ⟨fuel, hf⟩ := h
  rcases open_slice Tryd.underlying22 hf with ⟨hcs, _⟩ | ⟨x, l, c, m, n, D, Pl, hcs, _, hl, hm, hmm, _, hi⟩
  · simp [Value.cells] at hcs
    obtain ⟨rfl, rfl, rfl⟩ := hcs
    exact ⟨none, 0, 0, [], rfl, rfl, ⟨Nat.le_refl _, Nat.zero_le _⟩, fun hn => absurd hn (by simp)⟩
  · simp [Value.cells] at hcs
    obtain ⟨rfl, rfl, rfl⟩ := hcs
    simp only [if_true] at hmm
    have H1 : ∀ i, i < len → ∃ d : Int × Int, W.cell? (x.add (i * 2)) = some (.int .i64 d.1) ∧ W.cell? (x.add (i * 2 + 1)) = some (.int .i64 d.2) := by
      intro i hil
      obtain ⟨cs', hc, ht⟩ := hi i (by omega)
      rw [kprCells] at hc
      obtain ⟨d, rfl⟩ := open_kpr ht
      obtain ⟨_, _, hat⟩ := World.cells?_some hc
      refine ⟨d, ?_, ?_⟩
      · have := hat 0 (by decide)
        rw [Go.Deep.add_add] at this
        exact this
      · have := hat 1 (by decide)
        rw [Go.Deep.add_add] at this
        exact this
    obtain ⟨ds, hdl, hd⟩ := pr_list len H1
    refine ⟨some x, cap, len, ds, rfl, hdl, ⟨by omega, hm⟩, fun hn => ?_⟩
    have h0 := (hd 0 (by omega)).1
    have hlt := World.block_lt_of_cell? _ _ h0
    obtain ⟨b, o, spot⟩ := x
    have hspot : spot = none := by simpa [Addr.add] using World.cell?_spot h0
    subst hspot
    rw [add_block] at hlt
    refine ⟨b, o, rfl, hlt, fun i h => ?_⟩
    have := hd i h
    rw [add_none, add_none, ← Nat.add_assoc] at this
    exact this
end Go.Proofs.YtmefpafjcafgnaaDoor
