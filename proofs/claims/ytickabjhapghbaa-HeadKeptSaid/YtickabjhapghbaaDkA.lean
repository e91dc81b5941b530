/- The statements' lists of calls on a disk. -/
import Derived.Test.YtickabjhapghbaaDkM
import Derived.Test.YtickabjhapghbaaR01
import Derived.Deep.Slices
import Derived.Deep.Fields
import Derived.ChangeArms
namespace Go.Proofs.Ytickabjhapghbaa
open Go.ChangeShapes Go.WideShapes Go.ChangeAt Go.RowKit Go.Deep

structure DkDo where
  kind : Int
  a : Int
  n : Int
  bv : Value
  b : List Nat
  short : Bool
  kv : Value
  ks : List Int
def DkDo.cells (d : DkDo) : List Value := [.int .i64 d.kind, .int .i64 d.a, .int .i64 d.n, d.bv, .bool d.short, d.kv]
structure DkDo.fit (W : World) (d : DkDo) : Prop where
  b : In W d.bv d.b
  k : Rd W 1 d.kv d.ks.length (d.ks.map (Value.int .i64))
  kold : ∀ b, d.kv.ownBlock = some b → 0 < d.ks.length → b < W.heap.size
  na : d.a < 9223372036854775808
  nn : d.n < 9223372036854775808
structure DkDosIn (W : World) (v : Value) (ds : List DkDo) : Prop where
  rd : Rd W 6 v ds.length (ds.flatMap DkDo.cells)
  fit : ∀ d ∈ ds, d.fit W

set_option maxRecDepth 3000 in
theorem Rd.far_old {W w : World} {size n : Nat} {v : Value} {xs : List Value} (h : Rd W size v n xs) (hb : Below W.heap.size W w) : Rd w size v n xs := h.below hb (fun _ _ _ hl => hl)
set_option maxRecDepth 3000 in
theorem DkDo.fit.far {W w : World} {d : DkDo} (h : d.fit W) (hb : Below W.heap.size W w) : d.fit w :=
  ⟨h.b.far hb, h.k.far_old hb, fun b hb' hn => Nat.lt_of_lt_of_le (h.kold b hb' hn) hb.size, h.na, h.nn⟩
set_option maxRecDepth 3000 in
theorem DkDosIn.far {W w : World} {v : Value} {ds : List DkDo} (h : DkDosIn W v ds) (hb : Below W.heap.size W w) : DkDosIn w v ds := ⟨h.rd.far_old hb, fun d hd => (h.fit d hd).far hb⟩

set_option maxRecDepth 3000 in
theorem DkDosIn.at_ {W : World} {v : Value} {ds : List DkDo} (h : DkDosIn W v ds) {k : Nat} (hk : k < ds.length) :
    ∃ b o c, v = .slice (some ⟨b, o, none⟩) ds.length c ∧ b < W.heap.size ∧ W.cell? ⟨b, o + k * 6, none⟩ = some (.int .i64 ds[k].kind) ∧ W.cell? ⟨b, o + k * 6 + 1, none⟩ = some (.int .i64 ds[k].a) ∧ W.cell? ⟨b, o + k * 6 + 2, none⟩ = some (.int .i64 ds[k].n) ∧
      W.cell? ⟨b, o + k * 6 + 3, none⟩ = some ds[k].bv ∧ W.cell? ⟨b, o + k * 6 + 4, none⟩ = some (.bool ds[k].short) ∧ W.cell? ⟨b, o + k * 6 + 5, none⟩ = some ds[k].kv := by
  obtain ⟨A, c, rfl, _, _⟩ := h.rd.form
  obtain ⟨b, o, rfl, hb, hc⟩ := h.rd.cells (by omega) (by decide)
  have H : ∀ j u, j < 6 → (ds[k].cells)[j]? = some u → W.cell? ⟨b, o + k * 6 + j, none⟩ = some u := fun j u hj hu => by
    rw [Nat.add_assoc]
    refine hc _ _ ?_
    rw [flat_at DkDo.cells 6 ds (fun _ _ => rfl) k j hk hj]
    exact hu
  exact ⟨b, o, c, rfl, hb, H 0 _ (by decide) rfl, H 1 _ (by decide) rfl, H 2 _ (by decide) rfl, H 3 _ (by decide) rfl, H 4 _ (by decide) rfl, H 5 _ (by decide) rfl⟩

set_option maxRecDepth 3000 in
/-- a slice of integers in a struct's field -/
theorem open_cell_ints {H : Type} {enc : TypeId × Value → H} {P : Program} {W : World} {t e : TypeId} {k : IntKind} {fuel : Nat} {v : Value} {x : DataW H × List MemPlace} (ht : P.underlying t = some (.slice e)) (he : P.underlying e = some (.int k)) (hc : P.cellsOf e = 1)
    (hf : DataW.trod enc P W 0 (fun _ => true) true fuel t [v] = some x) :
    ∃ (n : Nat) (zs : List Int), Rd W 1 v n (zs.map (Value.int k)) ∧ zs.length = n ∧ (∀ z ∈ zs, (Lit.int k z).wf = true) ∧ (∀ b, v.ownBlock = some b → 0 < n → b < W.heap.size) := by
  rcases open_ints ht he hc hf with ⟨hcs, _⟩ | ⟨x, l, c, zs, hcs, _, hl, hm, hz, _, hcell, hwz⟩
  · simp at hcs
    subst hcs
    exact ⟨0, [], ⟨none, 0, rfl, Nat.le_refl _, Nat.zero_le _, rfl, fun _ => rfl, fun hn => absurd hn (by omega)⟩, rfl, fun _ hz => by simp at hz, fun b hb => by simp [Value.ownBlock] at hb⟩
  · simp at hcs
    subst hcs
    have hz' : zs.length = c := by simpa using hz
    have hlt : 0 < l → x.block < W.heap.size := fun hn => by
      have h := World.block_lt_of_cell? _ _ (hcell 0 (by omega))
      rwa [add_block] at h
    refine ⟨l, zs.take l, ⟨some x, c, rfl, hl, hm, by simp; omega, fun hn => (by cases hn), fun hn => ⟨x, rfl, hlt hn, fun j u hu => ?_⟩⟩, by simp; omega, fun z hzz => hwz z (List.mem_of_mem_take hzz), fun b hb hn => ?_⟩
    · obtain ⟨h1, h2, rfl⟩ := getD_map_int k zs l j u hu
      exact hcell j (by omega)
    · have : x.block = b := by simpa [Value.ownBlock] using hb
      rw [← this]; exact hlt hn

set_option maxRecDepth 3000 in
theorem cellsDkDo : Try.prog.cellsOf 34 = 6 := by kernel_rfl
set_option maxRecDepth 3000 in
theorem cellsInt : Try.prog.cellsOf 3 = 1 := by kernel_rfl
set_option maxRecDepth 3000 in
theorem cellsBytes : Try.prog.cellsOf 30 = 1 := by kernel_rfl
set_option maxRecDepth 3000 in
theorem cellsBool : Try.prog.cellsOf 4 = 1 := by kernel_rfl
set_option maxRecDepth 3000 in
theorem cellsInts : Try.prog.cellsOf 32 = 1 := by kernel_rfl
set_option maxRecDepth 3000 in
theorem i64_wf {x : Int} (h : (Lit.int .i64 x).wf = true) : x < 9223372036854775808 := by
  have hb := bounds_i64 h
  omega

set_option maxRecDepth 3000 in
/-- a struct's cells -/
theorem open_dkdo {H : Type} {enc : TypeId × Value → H} {W : World} {n : Nat} {cs : List Value} {x : DataW H × List MemPlace} (h : DataW.trod enc Try.prog W 0 (fun _ => true) true n 34 cs = some x) :
    ∃ d : DkDo, cs = d.cells ∧ d.fit W := by
  obtain ⟨xs, m, _, _, hlen, hxl, hf⟩ := DataW.trod_struct Try.underlying34 h
  rw [cellsDkDo] at hlen
  match cs, hlen with
  | [c0, c1, c2, c3, c4, c5], _ =>
    match xs, hxl with
    | [y0, y1, y2, y3, y4, y5], _ =>
      have f0 := hf 0 _ rfl
      have f1 := hf 1 _ rfl
      have f2 := hf 2 _ rfl
      have f3 := hf 3 _ rfl
      have f4 := hf 4 _ rfl
      have f5 := hf 5 _ rfl
      change DataW.trod enc Try.prog W 0 (fun _ => true) true m 3 ((([c0, c1, c2, c3, c4, c5] : List Value).drop 0).take (Try.prog.cellsOf 3)) = some y0 at f0
      change DataW.trod enc Try.prog W 0 (fun _ => true) true m 3 ((([c0, c1, c2, c3, c4, c5] : List Value).drop 1).take (Try.prog.cellsOf 3)) = some y1 at f1
      change DataW.trod enc Try.prog W 0 (fun _ => true) true m 3 ((([c0, c1, c2, c3, c4, c5] : List Value).drop 2).take (Try.prog.cellsOf 3)) = some y2 at f2
      change DataW.trod enc Try.prog W 0 (fun _ => true) true m 30 ((([c0, c1, c2, c3, c4, c5] : List Value).drop 3).take (Try.prog.cellsOf 30)) = some y3 at f3
      change DataW.trod enc Try.prog W 0 (fun _ => true) true m 4 ((([c0, c1, c2, c3, c4, c5] : List Value).drop 4).take (Try.prog.cellsOf 4)) = some y4 at f4
      change DataW.trod enc Try.prog W 0 (fun _ => true) true m 32 ((([c0, c1, c2, c3, c4, c5] : List Value).drop 5).take (Try.prog.cellsOf 32)) = some y5 at f5
      rw [cellsInt] at f0 f1 f2
      rw [cellsBytes] at f3
      rw [cellsBool] at f4
      rw [cellsInts] at f5
      obtain ⟨a0, e0, _, _⟩ := DataW.trod_int Try.underlying3 f0
      obtain ⟨a1, e1, _, w1⟩ := DataW.trod_int Try.underlying3 f1
      obtain ⟨a2, e2, _, w2⟩ := DataW.trod_int Try.underlying3 f2
      obtain ⟨l, hl⟩ := In.of_rd_ints (open_cell_ints Try.underlying30 Try.underlying5 (by kernel_rfl) (v := c3) f3)
      obtain ⟨a4, e4, _⟩ := DataW.trod_bool Try.underlying4 f4
      obtain ⟨nk, ks, k1, k2, _, k4⟩ := open_cell_ints Try.underlying32 Try.underlying3 cellsInt (v := c5) f5
      simp at e0 e1 e2 e4
      subst e0 e1 e2 e4 k2
      exact ⟨⟨a0, a1, a2, c3, l, a4, c5, ks⟩, rfl, hl, k1, k4, i64_wf w1, i64_wf w2⟩

set_option maxRecDepth 3000 in
theorem open_dkdos {H : Type} {enc : TypeId × Value → H} {W : World} {base : Nat} {r : Reach} {v : Value} {d : DataW H} {p : List MemPlace} (hv : Value.okWide Try.prog W r base 22 v) (h : DataW.Trod enc Try.prog W 0 (fun _ => true) true 22 v d p) : ∃ ds, DkDosIn W v ds := by
  obtain ⟨a, len, cap, rfl⟩ := okWide_slice Try.underlying22 hv
  obtain ⟨fuel, hf⟩ := h
  rcases open_slice Try.underlying22 hf with ⟨hcs, _⟩ | ⟨x, l, c, m, n, D, Pl, hcs, _, hl, hm, hmm, _, hi⟩
  · simp [Value.cells] at hcs
    obtain ⟨rfl, rfl, rfl⟩ := hcs
    exact ⟨[], ⟨⟨none, 0, rfl, Nat.le_refl _, Nat.zero_le _, rfl, fun _ => rfl, fun hn => absurd hn (by simp)⟩, fun _ hz => by simp at hz⟩⟩
  · simp [Value.cells] at hcs
    obtain ⟨rfl, rfl, rfl⟩ := hcs
    simp only [if_true] at hmm
    have H1 : ∀ i, i < len → ∃ d : DkDo, (∀ j, j < 6 → W.cell? (x.add (i * 6 + j)) = d.cells[j]?) ∧ d.fit W := by
      intro i hil
      obtain ⟨cs', hc, ht⟩ := hi i (by omega)
      rw [cellsDkDo] at hc
      obtain ⟨d, rfl, h1⟩ := open_dkdo ht
      obtain ⟨_, _, hat⟩ := World.cells?_some hc
      refine ⟨d, fun j hj => ?_, h1⟩
      rw [← hat j hj, Go.Deep.add_add]
    obtain ⟨ds, hdl, hd⟩ : ∃ ds : List DkDo, ds.length = len ∧ ∀ i (h : i < ds.length), (∀ j, j < 6 → W.cell? (x.add (i * 6 + j)) = ds[i].cells[j]?) ∧ ds[i].fit W := by
      clear hi hf
      have : ∀ n : Nat, (∀ i, i < n → ∃ d : DkDo, (∀ j, j < 6 → W.cell? (x.add (i * 6 + j)) = d.cells[j]?) ∧ d.fit W) → ∃ ds : List DkDo, ds.length = n ∧ ∀ i (h : i < ds.length), (∀ j, j < 6 → W.cell? (x.add (i * 6 + j)) = ds[i].cells[j]?) ∧ ds[i].fit W := by
        intro n
        induction n with
        | zero => exact fun _ => ⟨[], rfl, fun i h => absurd h (by simp)⟩
        | succ n ih =>
          intro H
          obtain ⟨ds, hl, hd⟩ := ih (fun i hi => H i (by omega))
          obtain ⟨d, hq⟩ := H n (by omega)
          refine ⟨ds ++ [d], by simp [hl], fun i h => ?_⟩
          rw [List.length_append, List.length_singleton] at h
          by_cases hi : i < ds.length
          · rw [List.getElem_append_left hi]; exact hd i hi
          · have e : i = n := by omega
            subst e
            rw [List.getElem_append_right (by omega)]
            simpa [hl] using hq
      exact this len H1
    have hfl : (ds.flatMap DkDo.cells).length = ds.length * 6 := flat_length DkDo.cells 6 ds (fun _ _ => rfl)
    refine ⟨ds, ⟨⟨some x, cap, by rw [hdl], by omega, hm, hfl, fun hn => (by cases hn), fun hn => ⟨x, rfl, ?_, ?_⟩⟩, ?_⟩⟩
    · have h0 := (hd 0 hn).1 0 (by decide)
      have := World.block_lt_of_cell? _ _ (h0.trans rfl)
      rwa [add_block] at this
    · intro j u hu
      have hjl : j < (ds.flatMap DkDo.cells).length := (List.getElem?_eq_some_iff.1 hu).1
      rw [hfl] at hjl
      have hk : j / 6 < ds.length := by omega
      have hj6 : j % 6 < 6 := by omega
      have e : j = j / 6 * 6 + j % 6 := by omega
      rw [e] at hu ⊢
      rw [(hd (j / 6) hk).1 (j % 6) hj6, ← hu, flat_at DkDo.cells 6 ds (fun _ _ => rfl) (j / 6) (j % 6) hk hj6]
    · intro d hdm
      obtain ⟨i, hi2, rfl⟩ := List.getElem_of_mem hdm
      exact (hd i hi2).2

set_option maxRecDepth 3000 in
theorem open_keep {H : Type} {enc : TypeId × Value → H} {W : World} {base : Nat} {r : Reach} {v : Value} {d : DataW H} {p : List MemPlace} (hv : Value.okWide Try.prog W r base 32 v) (h : DataW.Trod enc Try.prog W 0 (fun _ => true) true 32 v d p) :
    ∃ ks : List Int, Rd W 1 v ks.length (ks.map (Value.int .i64)) ∧ (∀ b, v.ownBlock = some b → 0 < ks.length → b < W.heap.size) := by
  obtain ⟨n, zs, h1, h2, _, h4⟩ := open_rd_ints Try.underlying32 Try.underlying3 cellsInt hv h
  subst h2
  exact ⟨zs, h1, h4⟩
end Go.Proofs.Ytickabjhapghbaa
