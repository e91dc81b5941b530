/- Entries and rows of bytes that came in. -/
import Derived.Test.YtpgeebhepegpaaaDrL
import Derived.Deep.Slices
import Derived.Deep.Fields
import Derived.ChangeArms
namespace Go.Proofs.Ytpgeebhepegpaaa
open Go.ChangeShapes Go.WideShapes Go.ChangeAt Go.RowKit Go.Deep

set_option maxRecDepth 3000 in
theorem w_list_of {α : Type} {Q : Nat → α → Prop} : ∀ n : Nat, (∀ i, i < n → ∃ d, Q i d) → ∃ ds : List α, ds.length = n ∧ ∀ i (h : i < ds.length), Q i ds[i]
  | 0, _ => ⟨[], rfl, fun i h => absurd h (by simp)⟩
  | n + 1, H => by
    obtain ⟨ds, hl, hd⟩ := w_list_of n (fun i hi => H i (by omega))
    obtain ⟨d, hq⟩ := H n (by omega)
    refine ⟨ds ++ [d], by simp [hl], fun i h => ?_⟩
    rw [List.length_append, List.length_singleton] at h
    by_cases hi : i < ds.length
    · rw [List.getElem_append_left hi]; exact hd i hi
    · have e : i = n := by omega
      subst e
      rw [List.getElem_append_right (by omega)]
      simpa using hq
set_option maxRecDepth 3000 in
theorem w_cell_ints {H : Type} {enc : TypeId × Value → H} {P : Program} {W : World} {t e : TypeId} {k : IntKind} {fuel : Nat} {v : Value} {x : DataW H × List MemPlace} (ht : P.underlying t = some (.slice e)) (he : P.underlying e = some (.int k)) (hc : P.cellsOf e = 1)
    (hf : DataW.trod enc P W 0 (fun _ => true) true fuel t [v] = some x) :
    ∃ (n : Nat) (zs : List Int), Rd W 1 v n (zs.map (Value.int k)) ∧ zs.length = n ∧ (∀ z ∈ zs, (Lit.int k z).wf = true) ∧ (∀ b, v.ownBlock = some b → 0 < n → b < W.heap.size) := by
  rcases open_ints ht he hc hf with ⟨hcs, _⟩ | ⟨x, l, c, zs, hcs, _, hl, hm, hz, _, hcell, hwz⟩
  · simp at hcs
    subst hcs
    exact ⟨0, [], ⟨none, 0, rfl, Nat.le_refl _, Nat.zero_le _, rfl, fun _ => rfl, fun hn => absurd hn (by omega)⟩, rfl, fun _ hz => by simp at hz, fun b hb => by simp [Value.ownBlock] at hb⟩
  · simp at hcs
    subst hcs
    have hz' : zs.length = c := by simpa using hz
    have hlt : 0 < l → x.block < W.heap.size := fun hn => by
      have h := World.block_lt_of_cell? _ _ (hcell 0 (by omega))
      rwa [add_block] at h
    refine ⟨l, zs.take l, ⟨some x, c, rfl, hl, hm, by simp; omega, fun hn => (by cases hn), fun hn => ⟨x, rfl, hlt hn, fun j u hu => ?_⟩⟩, by simp; omega, fun z hzz => hwz z (List.mem_of_mem_take hzz), fun b hb hn => ?_⟩
    · obtain ⟨h1, h2, rfl⟩ := getD_map_int k zs l j u hu
      exact hcell j (by omega)
    · have : x.block = b := by simpa [Value.ownBlock] using hb
      rw [← this]; exact hlt hn

set_option maxRecDepth 3000 in
theorem w_cellsEntry : Try.prog.cellsOf 54 = 4 := by kernel_rfl
set_option maxRecDepth 3000 in
theorem w_cellsFile : Try.prog.cellsOf 25 = 2 := by kernel_rfl
set_option maxRecDepth 3000 in
theorem w_cellsInt : Try.prog.cellsOf 3 = 1 := by kernel_rfl
set_option maxRecDepth 3000 in
theorem w_cellsString : Try.prog.cellsOf 9 = 1 := by kernel_rfl
set_option maxRecDepth 3000 in
theorem w_cellsBytes : Try.prog.cellsOf 38 = 1 := by kernel_rfl
set_option maxRecDepth 3000 in
/-- an entry's cells -/
theorem open_en {H : Type} {enc : TypeId × Value → H} {W : World} {n : Nat} {cs : List Value} {x : DataW H × List MemPlace} (h : DataW.trod enc Try.prog W 0 (fun _ => true) true n 54 cs = some x) :
    ∃ e : En, cs = ec e ∧ e.s.size ≤ maxLen := by
  obtain ⟨xs, m, _, _, hlen, hxl, hf⟩ := DataW.trod_struct Try.underlying54 h
  rw [w_cellsEntry] at hlen
  match cs, hlen with
  | [c0, c1, c2, c3], _ =>
    match xs, hxl with
    | [y0, y1, y2], _ =>
      have f0 := hf 0 _ rfl
      have f1 := hf 1 _ rfl
      have f2 := hf 2 _ rfl
      change DataW.trod enc Try.prog W 0 (fun _ => true) true m 9 ((([c0, c1, c2, c3] : List Value).drop 0).take (Try.prog.cellsOf 9)) = some y0 at f0
      change DataW.trod enc Try.prog W 0 (fun _ => true) true m 25 ((([c0, c1, c2, c3] : List Value).drop 1).take (Try.prog.cellsOf 25)) = some y1 at f1
      change DataW.trod enc Try.prog W 0 (fun _ => true) true m 3 ((([c0, c1, c2, c3] : List Value).drop 3).take (Try.prog.cellsOf 3)) = some y2 at f2
      rw [w_cellsString] at f0
      rw [w_cellsFile] at f1
      rw [w_cellsInt] at f2
      obtain ⟨s, e0, _, hs⟩ := DataW.trod_string Try.underlying9 f0
      obtain ⟨zs, m1, _, _, _, hzl, hg⟩ := DataW.trod_struct Try.underlying25 f1
      obtain ⟨a3, e3, _, _⟩ := DataW.trod_int Try.underlying3 f2
      match zs, hzl with
      | [z0, z1], _ =>
        have g0 := hg 0 _ rfl
        have g1 := hg 1 _ rfl
        change DataW.trod enc Try.prog W 0 (fun _ => true) true m1 3 ((([c1, c2] : List Value).drop 0).take (Try.prog.cellsOf 3)) = some z0 at g0
        change DataW.trod enc Try.prog W 0 (fun _ => true) true m1 3 ((([c1, c2] : List Value).drop 1).take (Try.prog.cellsOf 3)) = some z1 at g1
        rw [w_cellsInt] at g0 g1
        obtain ⟨a1, e1, _, _⟩ := DataW.trod_int Try.underlying3 g0
        obtain ⟨a2, e2, _, _⟩ := DataW.trod_int Try.underlying3 g1
        simp at e0 e1 e2 e3
        subst e0 e1 e2 e3
        exact ⟨⟨s, a1, a2, a3⟩, rfl, hs⟩
def EnA (v : Value) : Prop := ∃ e : En, v = .agg (ec e).toArray ∧ e.s.size ≤ maxLen
set_option maxRecDepth 3000 in
theorem open_entry {H : Type} {enc : TypeId × Value → H} {W : World} {base : Nat} {r : Reach} {v : Value} {d : DataW H} {p : List MemPlace} (hv : Value.okWide Try.prog W r base 54 v) (h : DataW.Trod enc Try.prog W 0 (fun _ => true) true 54 v d p) : EnA v := by
  obtain ⟨cs, rfl, _⟩ := okWide_struct Try.underlying54 hv
  obtain ⟨fuel, hf⟩ := h
  obtain ⟨e, h1, h2⟩ := open_en hf
  have h1' : cs.toList = ec e := h1
  exact ⟨e, by rw [← h1'], h2⟩
set_option maxRecDepth 3000 in
theorem open_entries {H : Type} {enc : TypeId × Value → H} {W : World} {base : Nat} {r : Reach} {v : Value} {d : DataW H} {p : List MemPlace} (hv : Value.okWide Try.prog W r base 26 v) (h : DataW.Trod enc Try.prog W 0 (fun _ => true) true 26 v d p) : ∃ l, EnR7 W v l := by
  obtain ⟨a, len, cap, rfl⟩ := okWide_slice Try.underlying26 hv
  obtain ⟨fuel, hf⟩ := h
  rcases open_slice Try.underlying26 hf with ⟨hcs, _⟩ | ⟨x, l, c, m, n, D, Pl, hcs, _, hl, hm, hmm, _, hi⟩
  · simp [Value.cells] at hcs
    obtain ⟨rfl, rfl, rfl⟩ := hcs
    exact ⟨[], ⟨none, 0, rfl, Nat.le_refl _, Nat.zero_le _, rfl, fun _ => rfl, fun hn => absurd hn (by simp)⟩, fun _ hz => by simp at hz⟩
  · simp [Value.cells] at hcs
    obtain ⟨rfl, rfl, rfl⟩ := hcs
    simp only [if_true] at hmm
    have H1 : ∀ i, i < len → ∃ d : En, (∀ j, j < 4 → W.cell? (x.add (i * 4 + j)) = (ec d)[j]?) ∧ d.s.size ≤ maxLen := by
      intro i hil
      obtain ⟨cs', hc, ht⟩ := hi i (by omega)
      rw [w_cellsEntry] at hc
      obtain ⟨d, rfl, h1⟩ := open_en ht
      obtain ⟨_, _, hat⟩ := World.cells?_some hc
      refine ⟨d, fun j hj => ?_, h1⟩
      rw [← hat j hj, Go.Deep.add_add]
    obtain ⟨ds, hdl, hd⟩ := w_list_of len H1
    refine ⟨ds, ⟨some x, cap, by rw [hdl], by omega, hm, ecs_length _, fun hn => (by cases hn), fun hn => ⟨x, rfl, ?_, ?_⟩⟩, ?_⟩
    · have h0 := (hd 0 hn).1 0 (by decide)
      have := World.block_lt_of_cell? _ _ (h0.trans rfl)
      rwa [add_block] at this
    · intro j u hu
      have hjl : j < (ecs ds).length := (List.getElem?_eq_some_iff.1 hu).1
      rw [ecs_length] at hjl
      have hk : j / 4 < ds.length := by omega
      have hj4 : j % 4 < 4 := by omega
      have e : j = j / 4 * 4 + j % 4 := by omega
      rw [e] at hu ⊢
      rw [(hd (j / 4) hk).1 (j % 4) hj4, ← hu, ecs_at ds (j / 4) (j % 4) hj4 hk]
    · intro d hdm
      obtain ⟨i, hi2, rfl⟩ := List.getElem_of_mem hdm
      exact (hd i hi2).2
/-- rows that came in -/
structure RwI (w : World) (v : Value) (rs : List (List Nat)) : Prop where
  ex : ∃ cs : List Value, Rd w 1 v rs.length cs ∧ cs.length = rs.length ∧ ∀ (i : Nat) (c : Value) (r : List Nat), cs[i]? = some c → rs[i]? = some r → In w c r
set_option maxRecDepth 3000 in
theorem RwI.rd {w : World} {v : Value} {rs : List (List Nat)} (h : RwI w v rs) : RwD w v rs := by
  obtain ⟨cs, h1, h2, h3⟩ := h.ex
  exact ⟨cs, h1, h2, fun i c r hc hr => (h3 i c r hc hr).rd⟩
set_option maxRecDepth 3000 in
theorem RwI.all8 {w : World} {v : Value} {rs : List (List Nat)} (h : RwI w v rs) : All8 rs := by
  obtain ⟨cs, h1, h2, h3⟩ := h.ex
  intro r hr
  obtain ⟨i, hi, rfl⟩ := List.mem_iff_getElem.1 hr
  exact (h3 i _ _ (List.getElem?_eq_getElem (by omega)) (List.getElem?_eq_getElem hi)).lt
set_option maxRecDepth 3000 in
theorem open_rows {H : Type} {enc : TypeId × Value → H} {W : World} {base : Nat} {r : Reach} {v : Value} {d : DataW H} {p : List MemPlace} (hv : Value.okWide Try.prog W r base 109 v) (h : DataW.Trod enc Try.prog W 0 (fun _ => true) true 109 v d p) : ∃ l, RwI W v l := by
  obtain ⟨a, len, cap, rfl⟩ := okWide_slice Try.underlying109 hv
  obtain ⟨fuel, hf⟩ := h
  rcases open_slice Try.underlying109 hf with ⟨hcs, _⟩ | ⟨x, l, c, m, n, D, Pl, hcs, _, hl, hm, hmm, _, hi⟩
  · simp [Value.cells] at hcs
    obtain ⟨rfl, rfl, rfl⟩ := hcs
    exact ⟨[], [], ⟨none, 0, rfl, Nat.le_refl _, Nat.zero_le _, rfl, fun _ => rfl, fun hn => absurd hn (by simp)⟩, rfl, fun _ _ _ hc => by simp at hc⟩
  · simp [Value.cells] at hcs
    obtain ⟨rfl, rfl, rfl⟩ := hcs
    simp only [if_true] at hmm
    have H1 : ∀ i, i < len → ∃ d : Value × List Nat, W.cell? (x.add i) = some d.1 ∧ In W d.1 d.2 := by
      intro i hil
      obtain ⟨cs', hc, ht⟩ := hi i (by omega)
      rw [w_cellsBytes] at hc
      obtain ⟨hsz, _, hat⟩ := World.cells?_some hc
      match cs', hsz, ht, hat with
      | [c0], _, ht, hat =>
        obtain ⟨l, hl⟩ := In.of_rd_ints (w_cell_ints Try.underlying38 Try.underlying5 (by kernel_rfl) (v := c0) ht)
        have h0 := hat 0 (by decide)
        rw [Go.Deep.add_add] at h0
        refine ⟨(c0, l), ?_, hl⟩
        simpa using h0
    obtain ⟨ds, hdl, hd⟩ := w_list_of len H1
    refine ⟨ds.map Prod.snd, ds.map Prod.fst, ⟨some x, cap, by simp [hdl], by simp; omega, hm, by simp, fun hn => (by cases hn), fun hn => ⟨x, rfl, ?_, ?_⟩⟩, by simp, ?_⟩
    · rw [List.length_map] at hn
      have := World.block_lt_of_cell? _ _ (hd 0 hn).1
      rwa [add_block] at this
    · intro j u hu
      rw [List.getElem?_map] at hu
      obtain ⟨dd, h1, rfl⟩ := Option.map_eq_some_iff.1 hu
      obtain ⟨hj, rfl⟩ := List.getElem?_eq_some_iff.1 h1
      exact (hd j hj).1
    · intro i c r hc hr
      rw [List.getElem?_map] at hc hr
      obtain ⟨dd, h1, rfl⟩ := Option.map_eq_some_iff.1 hc
      obtain ⟨hj, rfl⟩ := List.getElem?_eq_some_iff.1 h1
      rw [h1] at hr
      obtain rfl := Option.some.inj hr
      exact (hd i hj).2
end Go.Proofs.Ytpgeebhepegpaaa
