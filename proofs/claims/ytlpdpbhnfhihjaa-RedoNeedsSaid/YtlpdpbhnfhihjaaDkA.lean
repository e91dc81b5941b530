/- The statements' lists of calls on a disk. -/
import Derived.Test.YtlpdpbhnfhihjaaDkM
import Derived.Test.YtlpdpbhnfhihjaaR01
import Derived.Deep.Slices
import Derived.Deep.Fields
import Derived.ChangeArms
namespace Go.Proofs.Ytlpdpbhnfhihjaa
open Go.ChangeShapes Go.WideShapes Go.ChangeAt Go.RowKit Go.Deep

structure DkDo where
  kind : Int
  a : Int
  n : Int
  bv : Value
  b : List Nat
  short : Bool
  kv : Value
  ks : List Int
def DkDo.cells (d : DkDo) : List Value := [.int .i64 d.kind, .int .i64 d.a, .int .i64 d.n, d.bv, .bool d.short, d.kv]
structure DkDo.fit (W : World) (d : DkDo) : Prop where
  b : In W d.bv d.b
  k : Rd W 1 d.kv d.ks.length (d.ks.map (Value.int .i64))
  kold : ∀ b, d.kv.ownBlock = some b → 0 < d.ks.length → b < W.heap.size
  na : d.a < 9223372036854775808
  nn : d.n < 9223372036854775808
structure DkDosIn (W : World) (v : Value) (ds : List DkDo) : Prop where
  rd : Rd W 6 v ds.length (ds.flatMap DkDo.cells)
  fit : ∀ d ∈ ds, d.fit W

set_option maxRecDepth 3000 in
theorem Rd.far_old {W w : World} {size n : Nat} {v : Value} {xs : List Value} (h : Rd W size v n xs) (hb : Below W.heap.size W w) : Rd w size v n xs := h.below hb (fun _ _ _ hl => hl)
set_option maxRecDepth 3000 in
theorem DkDo.fit.far {W w : World} {d : DkDo} (h : d.fit W) (hb : Below W.heap.size W w) : d.fit w :=
  ⟨h.b.far hb, h.k.far_old hb, fun b hb' hn => Nat.lt_of_lt_of_le (h.kold b hb' hn) hb.size, h.na, h.nn⟩
set_option maxRecDepth 3000 in
theorem DkDosIn.far {W w : World} {v : Value} {ds : List DkDo} (h : DkDosIn W v ds) (hb : Below W.heap.size W w) : DkDosIn w v ds := ⟨h.rd.far_old hb, fun d hd => (h.fit d hd).far hb⟩

set_option maxRecDepth 3000 in
theorem DkDosIn.at_ {W : World} {v : Value} {ds : List DkDo} (h : DkDosIn W v ds) {k : Nat} (hk : k < ds.length) :
    ∃ b o c, v = .slice (some ⟨b, o, none⟩) ds.length c ∧ b < W.heap.size ∧ W.cell? ⟨b, o + k * 6, none⟩ = some (.int .i64 ds[k].kind) ∧ W.cell? ⟨b, o + k * 6 + 1, none⟩ = some (.int .i64 ds[k].a) ∧ W.cell? ⟨b, o + k * 6 + 2, none⟩ = some (.int .i64 ds[k].n) ∧
      W.cell? ⟨b, o + k * 6 + 3, none⟩ = some ds[k].bv ∧ W.cell? ⟨b, o + k * 6 + 4, none⟩ = some (.bool ds[k].short) ∧ W.cell? ⟨b, o + k * 6 + 5, none⟩ = some ds[k].kv := by
  obtain ⟨A, c, rfl, _, _⟩ := h.rd.form
  obtain ⟨b, o, rfl, hb, hc⟩ := h.rd.cells (by omega) (by decide)
  have H : ∀ j u, j < 6 → (ds[k].cells)[j]? = some u → W.cell? ⟨b, o + k * 6 + j, none⟩ = some u := fun j u hj hu => by
    rw [Nat.add_assoc]
    refine hc _ _ ?_
    rw [flat_at DkDo.cells 6 ds (fun _ _ => rfl) k j hk hj]
    exact hu
  exact ⟨b, o, c, rfl, hb, H 0 _ (by decide) rfl, H 1 _ (by decide) rfl, H 2 _ (by decide) rfl, H 3 _ (by decide) rfl, H 4 _ (by decide) rfl, H 5 _ (by decide) rfl⟩

set_option maxRecDepth 3000 in
/-- a slice of integers in a struct's field -/
theorem open_cell_ints {H : Type} {enc : TypeId × Value → H} {P : Program} {W : World} {t e : TypeId} {k : IntKind} {fuel : Nat} {v : Value} {x : DataW H × List MemPlace} (ht : P.underlying t = some (.slice e)) (he : P.underlying e = some (.int k)) (hc : P.cellsOf e = 1)
    (hf : DataW.trod enc P W 0 (fun _ => true) true fuel t [v] = some x) :
    ∃ (n : Nat) (zs : List Int), Rd W 1 v n (zs.map (Value.int k)) ∧ zs.length = n ∧ (∀ z ∈ zs, (Lit.int k z).wf = true) ∧ (∀ b, v.ownBlock = some b → 0 < n → b < W.heap.size) := by
  rcases open_ints ht he hc hf with ⟨hcs, _⟩ | ⟨x, l, c, zs, hcs, _, hl, hm, hz, _, hcell, hwz⟩
  · simp at hcs
    subst hcs
    exact ⟨0, [], ⟨none, 0, rfl, Nat.le_refl _, Nat.zero_le _, rfl, fun _ => rfl, fun hn => absurd hn (by omega)⟩, rfl, fun _ hz => by simp at hz, fun b hb => by simp [Value.ownBlock] at hb⟩
  · simp at hcs
    subst hcs
    have hz' : zs.length = c := by simpa using hz
    have hlt : 0 < l → x.block < W.heap.size := fun hn => by
      have h := World.block_lt_of_cell? _ _ (hcell 0 (by omega))
      rwa [add_block] at h
    refine ⟨l, zs.take l, ⟨some x, c, rfl, hl, hm, by simp; omega, fun hn => (by cases hn), fun hn => ⟨x, rfl, hlt hn, fun j u hu => ?_⟩⟩, by simp; omega, fun z hzz => hwz z (List.mem_of_mem_take hzz), fun b hb hn => ?_⟩
    · obtain ⟨h1, h2, rfl⟩ := getD_map_int k zs l j u hu
      exact hcell j (by omega)
    · have : x.block = b := by simpa [Value.ownBlock] using hb
      rw [← this]; exact hlt hn

set_option maxRecDepth 3000 in
theorem cellsInt : Try.prog.cellsOf 3 = 1 := by kernel_rfl
set_option maxRecDepth 3000 in
theorem cellsBytes : Try.prog.cellsOf 33 = 1 := by kernel_rfl
set_option maxRecDepth 3000 in
theorem cellsBool : Try.prog.cellsOf 4 = 1 := by kernel_rfl
set_option maxRecDepth 3000 in
theorem cellsInts : Try.prog.cellsOf 38 = 1 := by kernel_rfl
set_option maxRecDepth 3000 in
theorem i64_wf {x : Int} (h : (Lit.int .i64 x).wf = true) : x < 9223372036854775808 := by
  have hb := bounds_i64 h
  omega

set_option maxRecDepth 3000 in
theorem open_keep {H : Type} {enc : TypeId × Value → H} {W : World} {base : Nat} {r : Reach} {v : Value} {d : DataW H} {p : List MemPlace} (hv : Value.okWide Try.prog W r base 38 v) (h : DataW.Trod enc Try.prog W 0 (fun _ => true) true 38 v d p) :
    ∃ ks : List Int, Rd W 1 v ks.length (ks.map (Value.int .i64)) ∧ (∀ b, v.ownBlock = some b → 0 < ks.length → b < W.heap.size) := by
  obtain ⟨n, zs, h1, h2, _, h4⟩ := open_rd_ints Try.underlying38 Try.underlying3 cellsInt hv h
  subst h2
  exact ⟨zs, h1, h4⟩
end Go.Proofs.Ytlpdpbhnfhihjaa
