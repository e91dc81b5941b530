/- Slots and blocks that came in. Rows of structs that came in: opened. Law 15's calls: as they came in, the first few, one that puts. What a Put leaves of what was listed (arithmetic). For law 15's quota: what is listed lies still; what a Get tells; blocks that are alike. -/
import Derived.Test.YtcglfknkkeaegaaGreatDoorMq09
import Derived.Test.YtcglfknkkeaegaaGreatDoorMq02
import Derived.Test.YtcglfknkkeaegaaGreatDoorMq01
import Derived.ChangeArms
import Derived.Test.YtcglfknkkeaegaaGreatDoorMq16
import Derived.Test.YtcglfknkkeaegaaGreatDoorMq24
namespace Go.Proofs.YtcglfknkkeaegaaGreatDoor
open Go.ChangeShapes Go.WideShapes Go.ChangeAt Go.RowKit

set_option maxRecDepth 3000 in
theorem twf_of_i64 {x : Int} (h : (Lit.int .i64 x).wf = true) : -9223372036854775808 ≤ x ∧ x < 9223372036854775808 := by
  have := bounds_i64 h; omega
set_option maxRecDepth 3000 in
theorem twf_of_u64 {x : Int} (h : (Lit.int .u64 x).wf = true) : ∃ n : Nat, x = (n : Int) ∧ n < 18446744073709551616 := by
  have hb := bounds_u64 h
  exact ⟨x.toNat, by omega, by omega⟩
set_option maxRecDepth 3000 in
theorem open_fileT {H : Type} {enc : TypeId × Value → H} {W : World} {n : Nat} {cs : List Value} {x : DataW H × List MemPlace} (h : DataW.trod enc Tryz.prog W 0 (fun _ => true) true n 35 cs = some x) :
    ∃ i g : Int, cs = [.int .i64 i, .int .i64 g] ∧ (-9223372036854775808 ≤ i ∧ i < 9223372036854775808) ∧ (-9223372036854775808 ≤ g ∧ g < 9223372036854775808) := by
  obtain ⟨zs, m1, _, _, hlen, hzl, hg⟩ := DataW.trod_struct Tryz.underlying35 h
  rw [cellsF_] at hlen
  match cs, hlen with
  | [c1, c2], _ =>
    match zs, hzl with
    | [z0, z1], _ =>
      have g0 := hg 0 _ rfl
      have g1 := hg 1 _ rfl
      simp [cellsI_] at g0 g1
      obtain ⟨a1, e1, _, w1⟩ := DataW.trod_int Tryz.underlying3 g0
      obtain ⟨a2, e2, _, w2⟩ := DataW.trod_int Tryz.underlying3 g1
      simp at e1 e2
      subst e1 e2
      exact ⟨a1, a2, rfl, twf_of_i64 w1, twf_of_i64 w2⟩
set_option maxRecDepth 3000 in
theorem open_blockT {H : Type} {enc : TypeId × Value → H} {W : World} {n : Nat} {cs : List Value} {x : DataW H × List MemPlace} (h : DataW.trod enc Tryz.prog W 0 (fun _ => true) true n 37 cs = some x) :
    ∃ i g a : Int, cs = [.int .i64 i, .int .i64 g, .int .i64 a] ∧ (-9223372036854775808 ≤ i ∧ i < 9223372036854775808) ∧ (-9223372036854775808 ≤ g ∧ g < 9223372036854775808) ∧ (-9223372036854775808 ≤ a ∧ a < 9223372036854775808) := by
  obtain ⟨zs, m1, _, _, hlen, hzl, hg⟩ := DataW.trod_struct Tryz.underlying37 h
  rw [cellsB_] at hlen
  match cs, hlen with
  | [c1, c2, c3], _ =>
    match zs, hzl with
    | [z0, z1], _ =>
      have g0 := hg 0 _ rfl
      have g1 := hg 1 _ rfl
      simp [cellsI_, cellsF_] at g0 g1
      obtain ⟨i, g, e0, w0, w1⟩ := open_fileT g0
      obtain ⟨a, e1, _, w2⟩ := DataW.trod_int Tryz.underlying3 g1
      simp at e0 e1
      obtain ⟨rfl, rfl⟩ := e0
      subst e1
      exact ⟨i, g, a, rfl, w0, w1, twf_of_i64 w2⟩
set_option maxRecDepth 3000 in
theorem short70 (s : ByteArray) (w : World) (hs : s.size ≤ maxLen) :
    Calls Tryz.prog 32 #[.string s, .int .i64 70] w fun e w' => ∃ t : ByteArray, e = .returned (.string t) ∧ t.size ≤ 70 ∧ w = w' := by
  refine (short_any s 70 w (by decide) hs).mono ?_
  rintro e w' ⟨rfl, rfl⟩
  refine ⟨_, rfl, ?_, rfl⟩
  split
  · simp only [ByteArray.size_extract]; omega
  · omega
end Go.Proofs.YtcglfknkkeaegaaGreatDoor
namespace Go.Proofs.YtcglfknkkeaegaaGreatDoor
open Go.ChangeShapes Go.WideShapes Go.ChangeAt Go.RowKit Go.Deep

end Go.Proofs.YtcglfknkkeaegaaGreatDoor
namespace Go.Proofs.YtcglfknkkeaegaaGreatDoor
open Go.ChangeShapes Go.WideShapes Go.ChangeAt Go.RowKit Go.Maps Go.Deep
/-- a call -/
structure D15 where
  kind : Int
  n : Int
  x : Slt
  v : Nat
  kv : Value
def d15 (x : D15) : Array Value := #[.int .i64 x.kind, .int .i64 x.n, .bool x.x.u, .int .i64 x.x.i, .int .i64 x.x.g, .int .i64 x.x.a, .int .u64 (x.x.v : Int), .bool x.x.d, .string x.x.s, .int .u64 (x.v : Int), x.kv]
set_option maxRecDepth 3000 in
theorem d15_size (x : D15) : (d15 x).size = 11 := rfl
def cut15 (x : D15) (t : ByteArray) : D15 := { x with x := ⟨x.x.u, x.x.i, x.x.g, x.x.a, x.x.v, x.x.d, t⟩ }
def Fit15 (x : D15) : Prop := x.kv.oneCell' = true ∧ (∀ t : ByteArray, t.size ≤ 1000 → WfT (cut15 x t).x) ∧ x.x.s.size ≤ maxLen
def Ok15 (x : D15) : Prop := x.kv.oneCell' = true ∧ WfT x.x
set_option maxRecDepth 3000 in
theorem cells15 : Tryz.prog.cellsOf 43 = 11 := by kernel_rfl
set_option maxRecDepth 3000 in
theorem cells15k : Tryz.prog.cellsOf 41 = 1 := by kernel_rfl
set_option maxRecDepth 3000 in
theorem size15 : (Tryz.prog.info? 43).map (·.size) = some 11 := by kernel_rfl
set_option maxRecDepth 3000 in
theorem info15 : (Tryz.prog.info? 43).map (fun i => (i.zero, i.size, i.bytes)) = some (some (.agg #[.int .i64 0, .int .i64 0, .bool false, .int .i64 0, .int .i64 0, .int .i64 0, .int .u64 0, .bool false, .string ⟨#[]⟩, .int .u64 0, .slice none 0 0]), 11, 112) := by kernel_rfl
set_option maxRecDepth 3000 in
theorem d15_one {x : D15} (h : x.kv.oneCell' = true) : (d15 x).all (·.oneCell') = true := by
  rw [Array.all_eq_true_iff_forall_mem]
  intro u hu
  simp only [d15, List.mem_toArray, List.mem_cons, List.not_mem_nil, or_false] at hu
  rcases hu with rfl | rfl | rfl | rfl | rfl | rfl | rfl | rfl | rfl | rfl | rfl <;> first | rfl | exact h
set_option maxRecDepth 3000 in
theorem open_slotT {H : Type} {enc : TypeId × Value → H} {W : World} {n : Nat} {cs : List Value} {x : DataW H × List MemPlace} (h : DataW.trod enc Tryz.prog W 0 (fun _ => true) true n 40 cs = some x) :
    ∃ x : Slt, cs = (tc x).toList ∧ (∀ t : ByteArray, t.size ≤ 1000 → WfT ⟨x.u, x.i, x.g, x.a, x.v, x.d, t⟩) ∧ x.s.size ≤ maxLen := by
  obtain ⟨xs, m, _, _, hlen, hxl, hf⟩ := DataW.trod_struct Tryz.underlying40 h
  rw [cellsQT] at hlen
  match cs, hlen with
  | [c0, c1, c2, c3, c4, c5, c6], _ =>
    match xs, hxl with
    | [y0, y1, y2, y3, y4], _ =>
      have f0 := hf 0 _ rfl
      have f1 := hf 1 _ rfl
      have f2 := hf 2 _ rfl
      have f3 := hf 3 _ rfl
      have f4 := hf 4 _ rfl
      simp [cellsB_, cellsU_, cellsO_, cellsS_] at f0 f1 f2 f3 f4
      obtain ⟨u, e0, _⟩ := DataW.trod_bool Tryz.underlying4 f0
      obtain ⟨i, g, a, e1, w1, w2, w3⟩ := open_blockT f1
      obtain ⟨v, e2, _, w4⟩ := DataW.trod_int Tryz.underlying38 f2
      obtain ⟨d, e3, _⟩ := DataW.trod_bool Tryz.underlying4 f3
      obtain ⟨s, e4, _, hs⟩ := DataW.trod_string Tryz.underlying9 f4
      simp at e0 e1 e2 e3 e4
      obtain ⟨rfl, rfl, rfl⟩ := e1
      subst e0 e2 e3 e4
      obtain ⟨n, rfl, hn⟩ := twf_of_u64 w4
      exact ⟨⟨u, i, g, a, n, d, s⟩, rfl, fun t ht => ⟨w1, w2, w3, hn, ht⟩, hs⟩
set_option maxRecDepth 3000 in
theorem open_d15 {H : Type} {enc : TypeId × Value → H} {W : World} {n : Nat} {cs : List Value} {x : DataW H × List MemPlace} (h : DataW.trod enc Tryz.prog W 0 (fun _ => true) true n 43 cs = some x) :
    ∃ e : D15, cs = (d15 e).toList ∧ Fit15 e := by
  obtain ⟨xs, m, _, _, hlen, hxl, hf⟩ := DataW.trod_struct Tryz.underlying43 h
  rw [cells15] at hlen
  match cs, hlen with
  | [c0, c1, c2, c3, c4, c5, c6, c7, c8, c9, c10], _ =>
    match xs, hxl with
    | [y0, y1, y2, y3, y4], _ =>
      have f0 := hf 0 _ rfl
      have f1 := hf 1 _ rfl
      have f2 := hf 2 _ rfl
      have f3 := hf 3 _ rfl
      have f4 := hf 4 _ rfl
      simp [cellsI_, cellsQT, cellsU_, cells15k] at f0 f1 f2 f3 f4
      obtain ⟨a0, e0, _, _⟩ := DataW.trod_int Tryz.underlying3 f0
      obtain ⟨a1, e1, _, _⟩ := DataW.trod_int Tryz.underlying3 f1
      obtain ⟨s, e2, hs1, hs2⟩ := open_slotT f2
      obtain ⟨v, e3, _, w4⟩ := DataW.trod_int Tryz.underlying38 f3
      obtain ⟨nk, ks, k1, _, _, _⟩ := open_cell_ints Tryz.underlying41 Tryz.underlying3 cellsI_ (v := c10) f4
      obtain ⟨v, rfl, _⟩ := twf_of_u64 w4
      simp [tc] at e0 e1 e2 e3
      obtain ⟨q0, q1, q2, q3, q4, q5, q6⟩ := e2
      subst e0 e1 e3 q0 q1 q2 q3 q4 q5 q6
      refine ⟨⟨a0, a1, s, v, c10⟩, rfl, ?_, hs1, hs2⟩
      obtain ⟨A, c, e, _⟩ := k1.form
      show c10.oneCell' = true
      rw [e]
      rfl
def dcs15 (l : List D15) : List Value := l.flatMap (fun x => (d15 x).toList)
set_option maxRecDepth 3000 in
theorem dcs15_append (l m : List D15) : dcs15 (l ++ m) = dcs15 l ++ dcs15 m := by simp [dcs15]
set_option maxRecDepth 3000 in
theorem dcs15_one (x : D15) : dcs15 [x] = (d15 x).toList := by simp [dcs15]
/-- Calls that can be read. -/
structure Rs15 (w : World) (v : Value) (l : List D15) : Prop where
  rd : Rd w 11 v l.length (dcs15 l)
set_option maxRecDepth 3000 in
theorem open_d15s {H : Type} {enc : TypeId × Value → H} {W : World} {base : Nat} {r : Reach} {v : Value} {d : DataW H} {p : List MemPlace} (hv : Value.okWide Tryz.prog W r base 22 v) (h : DataW.Trod enc Tryz.prog W 0 (fun _ => true) true 22 v d p) : ∃ l, Rs15 W v l ∧ ∀ x ∈ l, Fit15 x := by
  obtain ⟨a, len, cap, rfl⟩ := okWide_slice Tryz.underlying22 hv
  obtain ⟨fuel, hf⟩ := h
  obtain ⟨l, h1, h2⟩ := open_cell_rows (fun x => (d15 x).toList) 11 Fit15 Tryz.underlying22 cells15 (by decide) (fun _ => rfl) (fun h => open_d15 h) (by simpa [Value.cells] using hf)
  exact ⟨l, ⟨h1⟩, h2⟩
section
variable {w w' : World} {v : Value} {l : List D15}
set_option maxRecDepth 3000 in
theorem Rs15.step {F : Nat → Prop} (h : Rs15 w v l) (ha : Adv Nul w F w') : Rs15 w' v l := ⟨h.rd.far (fun _ _ _ hl => ha.block _ hl (fun x => x)) ha.size⟩
set_option maxRecDepth 3000 in
theorem Rs15.form (h : Rs15 w v l) : ∃ A c, v = .slice A l.length c ∧ l.length ≤ c ∧ c ≤ maxLen := h.rd.form
set_option maxRecDepth 3000 in
theorem Rs15.range {A : Option Addr} {n c k : Nat} (h : Rs15 w (.slice A n c) l) (hn : n = l.length) (hk : k < l.length) : ∃ b o, A = some ⟨b, o, none⟩ ∧ b < w.heap.size ∧ w.rangeAt b (o + k * 11) (d15 l[k]).toList := by
  subst hn
  obtain ⟨b, o, rfl, hb, hc⟩ := h.rd.cells (by omega) (by decide)
  refine ⟨b, o, rfl, hb, fun j u hu => ?_⟩
  have hj : j < 11 := (List.getElem?_eq_some_iff.1 hu).1
  have := hc (k * 11 + j) u (by unfold dcs15; rw [flat_at (fun x => (d15 x).toList) 11 l (fun _ _ => rfl) k j hk hj]; exact hu)
  rw [← Nat.add_assoc] at this
  exact this
end
set_option maxRecDepth 3000 in
theorem Sl.rs15 {w : World} {F : Nat → Prop} {v : Value} {l : List D15} (h : Sl w F 43 11 v l.length (dcs15 l)) : Rs15 w v l := ⟨h.rd⟩
def FwW15 (w : World) (N n : Nat) (t5 t6 : Value) (wr : World) : Prop := ∃ (j : Nat) (m : List D15) (F : Nat → Prop), t6 = .int .i64 (j : Int) ∧ j ≤ N ∧ j ≤ n ∧ m.length = j ∧ (∀ x ∈ m, Ok15 x) ∧ Sl wr F 43 11 t5 j (dcs15 m) ∧ Adv Nul w F wr
def FwR15 (w : World) (n : Nat) (e : Ending) (w' : World) : Prop := ∃ v m F, e = .returned v ∧ m.length ≤ n ∧ (∀ x ∈ m, Ok15 x) ∧ Sl w' F 43 11 v m.length (dcs15 m) ∧ Adv Nul w F w'
set_option maxRecDepth 3000 in
set_option maxHeartbeats 6400000 in
theorem few15_any (v : Value) (l : List D15) (n : Nat) (hn : n ≤ 100) (w : World) (h : Rs15 w v l) (hf : ∀ x ∈ l, Fit15 x) : Calls Tryz.prog 8 #[v, .int .i64 (n : Int)] w (FwR15 w n) := by
  obtain ⟨A, c, rfl, hnc, hcm⟩ := h.form
  obtain ⟨N, hN⟩ : ∃ N, N = l.length := ⟨_, rfl⟩
  have hbig : (N : Int) ≤ 9223372036854775807 := by unfold maxLen at hcm; omega
  rw [← hN] at h ⊢
  have hn' : (n : Int) ≤ 100 := by omega
  have HR := Lib.hid h
  have HFI := Lib.hid hf
  have HN := Lib.hid hN
  have HNN := Lib.hid hn
  clear h hN hnc hcm hn hf
  go_enter Tryz.func8, Tryz.ntmps8
  go_wp2_with fail
  go_loopw [5, 6] (FwW15 w N n) (fun _ t _ => N - (intOf t).toNat)
  case atStart => exact ⟨0, [], Nul, rfl, Nat.zero_le _, Nat.zero_le _, rfl, fun x hx => absurd hx (by simp), Sl.nil _ _ _, Adv.refl _ _⟩
  case round =>
    obtain ⟨j, m, F, rfl, hj, hjn, hm, hok, hs, ha⟩ := hrel
    obtain ⟨A5, c5, rfl⟩ := hs.len_le
    have HS := Lib.hid hs
    have HA := Lib.hid ha
    have HM := Lib.hid hm
    have HOK := Lib.hid hok
    have hcase : (j < N ∧ j < n) ∨ ((j : Int) < N ∧ (n : Int) ≤ j ∧ j = n) ∨ ((N : Int) ≤ j ∧ j = N) := by omega
    rcases hcase with ⟨hlt, hjl⟩ | ⟨hlt, hle, hje⟩ | ⟨hle, hje⟩
    · have hjd : j < l.length := by rw [← HN.out]; exact hlt
      obtain ⟨x, hx⟩ : ∃ x, x = l[j] := ⟨_, rfl⟩
      obtain ⟨b, o, hA, _, hrg⟩ := (HR.out.step ha).range HN.out hjd
      rw [← hx] at hrg
      subst hA
      have hfx := HFI.out x (by rw [hx]; exact List.getElem_mem hjd)
      have HKV := Lib.hid hfx.1
      have HWF := Lib.hid hfx.2.1
      have HRG := Lib.hid hrg
      have HSH := Lib.hid (fun V => short70 x.x.s V hfx.2.2)
      have HLT := Lib.hid hlt
      have HJL := Lib.hid hjl
      have HK1 := Lib.hid (show j + 1 ≤ maxLen by have := HNN.out; unfold maxLen; omega)
      have HK2 := Lib.hid (show (j + 1) * 112 ≤ 140737488355328 by have := HNN.out; omega)
      have hlt' : (j : Int) < (N : Int) := by omega
      have hjl' : (j : Int) < (n : Int) := by omega
      clear hx hjd hrg hfx hlt hjl hj hjn hs ha hm hok
      go_upto_region 6 with (first
        | (refine gop_load (t := 43) (C := d15 x) rfl _ rfl b HRG.out rfl Tryz.underlying43 rfl size15 rfl ?_)
        | (refine kop_alloc rfl rfl info15 ?_; intro z7 w9 hz hb ha; have HZ7 := Lib.hid hz; have HB9 := Lib.hid hb; have HA9 := Lib.hid ha; clear hz hb ha)
        | (refine kop_store (t := 43) rfl _ _ rfl z7 HB9.out rfl rfl size15 rfl rfl (d15_one HKV.out) ?_; intro w10 hb ha; have HX10 := Lib.hid hb; have HA10 := Lib.hid (HA9.out.fresh HZ7.out ha); clear hb ha)
        | fail)
      have c8 : w10.cell? ⟨z7, 8, none⟩ = some (.string x.x.s) := HX10.out.cell 8
      have f8 : w10.frozen? ⟨z7, 8, none⟩ = false := HX10.out.frozen 8
      go_upto_region 7 with (first
        | (go_at_call 32; refine (HSH.out _).mono ?_; rintro e w11 ⟨t, rfl, ht, rfl⟩)
        | fail)
      obtain ⟨y, hy⟩ : ∃ y, y = cut15 x t := ⟨_, rfl⟩
      obtain ⟨W3, hW3⟩ : ∃ W, W = World.setCell w10 ⟨z7, 8, none⟩ (.string t) := ⟨_, rfl⟩
      have HX3 := Lib.hid (show Blk W3 z7 43 (d15 y) by rw [hW3, hy]; exact HX10.out.set_ 8 (.string t))
      have HA3 := Lib.hid (show Adv Nul wr Nul W3 by rw [hW3]; exact HA10.out.setCell (p := ⟨z7, 8, none⟩) (.inr HZ7.out) _)
      have HOY := Lib.hid (show Ok15 y by rw [hy]; exact ⟨HKV.out, HWF.out t (by omega)⟩)
      rw [← hW3]
      clear hW3 hy c8 f8 ht
      go_wp2_with (first
        | (refine kop_load (t := 43) rfl _ rfl z7 HX3.out rfl Tryz.underlying43 rfl size15 rfl ?_)
        | (refine kop_bslice rfl _ rfl Tryz.underlying22 info15 rfl (d15_size y) (by decide) (by decide) ?_; intro z8 w4 hy hb ha; have HYB := Lib.hid hb; have HA4 := Lib.hid (HA3.out.trans ha); have HU := Lib.hid (HS.out.far HA4.out (fun _ x _ => x)); clear hy hb ha)
        | (at_builtin; refine lop_append_own rfl (.tmp 29) (.tmp 31) 22 43 rfl Tryz.underlying22 info15 rfl (by decide) rfl HU.out.own ⟨z8, 0, none⟩ 1 1 rfl (d15 y).toList rfl (fun j u hj => by have h0 := Blk.range HYB.out j u hj; rw [Nat.zero_add] at h0; rw [add_none, Nat.zero_add]; exact h0) (by have h1 := d15_one HOY.out.1; exact fun u hu => (Array.all_eq_true_iff_forall_mem.1 h1) u (by simpa using hu)) HK1.out HK2.out ?_; intro v' w8 hown hg2 hat; obtain ⟨a8, k8, rfl⟩ := (slice_of hown); have HOWN := Lib.hid hown; have HG2 := Lib.hid hg2; have HAT := Lib.hid hat; clear hown hg2 hat)
        | fail)
      have hlt := HLT.out
      obtain ⟨F', hs', ha'⟩ := tgrown (m := w4.heap.size) HU.out (HA.out.over HA4.out) HOWN.out HG2.out HAT.out (Nat.le_refl _)
      refine ⟨⟨j + 1, m ++ [y], F', by go_num, by omega, HJL.out, by rw [List.length_append, HM.out]; rfl, fun z hz => ?_, ?_, ha'⟩, by simp [intOf]; omega⟩
      · rcases List.mem_append.1 hz with q | q
        · exact HOK.out z q
        · rw [List.mem_singleton.1 q]; exact HOY.out
      · rw [dcs15_append, dcs15_one]
        exact hs'
    · subst hje
      clear hj hjn hs ha hm hok
      go_wp2_with fail
      go_ret
      exact ⟨_, m, F, rfl, by rw [HM.out]; exact Nat.le_refl _, HOK.out, by rw [HM.out]; exact HS.out, HA.out⟩
    · have HJN := Lib.hid hjn
      subst hje
      clear hj hjn hs ha hm hok
      go_wp2_with fail
      go_ret
      exact ⟨_, m, F, rfl, by rw [HM.out]; exact HJN.out, HOK.out, by rw [HM.out]; exact HS.out, HA.out⟩
set_option maxRecDepth 3000 in
theorem Gd.kp {W w w' : World} {Z : Nat → Prop} {d c n N k num : Nat} {L : List Slt} {R : RgS} {F' : Nat → Prop} (h : Gd W w Z d c n N k L R num) (ha : Adv Nul w F' w') : KpZ Z w w' := fun z hz => ha.block z (h.zb z hz) (fun x => x)
set_option maxRecDepth 3000 in
theorem KpZ.trans {Z : Nat → Prop} {a b c : World} (h1 : KpZ Z a b) (h2 : KpZ Z b c) : KpZ Z a c := fun z hz => (h2 z hz).trans (h1 z hz)
def PutR15 (W w : World) (Z : Nat → Prop) (d c n N k : Nat) (A : PutA) (num : Nat) (e : Ending) (w' : World) : Prop := e = .returned (.int .i64 A.e) ∧ Gd W w' Z d c n N (k + 2) A.L A.R num ∧ KpZ Z w w'
set_option maxRecDepth 3000 in
set_option maxHeartbeats 3200000 in
theorem does15_put {W w : World} {Z : Nat → Prop} {d c n N k num : Nat} {L : List Slt} {R : RgS} (h : Gd W w Z d c n N k L R num) (hk : k ≤ 130) {x : D15} (hx : WfT x.x) (h1 : x.kv.oneCell' = true) (h0 : x.kind = 0) :
    Calls Tryz.prog 15 #[.pointer (some ⟨c, 0, none⟩), .agg (d15 x)] w (PutR15 W w Z d c n N k (putA15 L R x.x) num) := by
  have HP := Lib.hid (fun V (g : Gd W V Z d c n N k L R num) => g.put hk hx)
  have HG := Lib.hid h
  have HMI := Lib.hid (fun V => mine15_any x.x V)
  obtain ⟨A, hA⟩ : ∃ A, A = putA15 L R x.x := ⟨_, rfl⟩
  rw [← hA] at HP ⊢
  obtain ⟨kind, n0, y, v, kv⟩ := x
  simp only at h0 HP HMI
  subst h0
  obtain ⟨C, hC⟩ : ∃ C, C = d15 ⟨0, n0, y, v, kv⟩ := ⟨_, rfl⟩
  have HC0 := Lib.hid (show ∀ (z : Nat) (w' : World), Blk w' z 43 C → w'.cell? ⟨z, 0, none⟩ = some (.int .i64 0) from fun z w' h => by rw [hC] at h; exact h.cell 0)
  have HCS := Lib.hid (show ∀ (z : Nat) (w' : World), Blk w' z 43 C → w'.rangeAt z 2 (tc y).toList from fun z w' h => by
    rw [hC] at h
    intro j u hu
    have hj : j < 7 := (List.getElem?_eq_some_iff.1 hu).1
    rw [h.cell]
    match j, hj with
    | 0, _ => exact hu
    | 1, _ => exact hu
    | 2, _ => exact hu
    | 3, _ => exact hu
    | 4, _ => exact hu
    | 5, _ => exact hu
    | 6, _ => exact hu)
  rw [← hC]
  clear h hx h1 hC hA
  go_enter Tryz.func15, Tryz.ntmps15
  go_wp2_with (first
    | (refine kop_box rfl _ rfl rfl ?_; intro z w1 hz hb ha; have HB1 := Lib.hid hb; have HA1 := Lib.hid ha; have c0 := HC0.out z _ hb; clear hz hb ha)
    | (refine gop_load (t := 40) (C := tc y) rfl _ rfl z (HCS.out z _ HB1.out) rfl Tryz.underlying40 rfl sizeQT (tc_size y) ?_)
    | (go_at_call 14; refine (HMI.out _).mono ?_; rintro e w2 ⟨rfl, a2⟩; have HA2 := Lib.hid (HA1.out.trans a2); clear a2)
    | (go_at_call 34; refine (HP.out _ (HG.out.step HA2.out)).mono ?_; rintro e w3 ⟨rfl, g3, k3⟩; have HG3 := Lib.hid g3; have HK3 := Lib.hid ((HG.out.kp HA2.out).trans k3); clear g3 k3)
    | fail)
  go_ret
  exact ⟨rfl, HG3.out, HK3.out⟩
end Go.Proofs.YtcglfknkkeaegaaGreatDoor
namespace Go.Proofs.YtcglfknkkeaegaaGreatDoor
open Go.RowKit
set_option maxRecDepth 3000 in
theorem all_sort {L : List Slt} (h : WL L) (f : Slt → Bool) {k : Nat} (h1 : k < (allL L f).length) (h2 : k + 1 < (allL L f).length) : ordB (bkT (allL L f)[k]) (bkT (allL L f)[k + 1]) = -1 :=
  (lessB_iff _ _).1 (List.pairwise_iff_getElem.1 (all_srt h f) k (k + 1) h1 h2 (by omega))
set_option maxRecDepth 3000 in
theorem putA15_e {L : List Slt} {R : RgS} (h : PRg L R) (x : Slt) : (putA15 L R x).e = 0 ∨ (putA15 L R x).e = 2 ∨ ((putA15 L R x).e = 8 ∧ ∀ y ∈ L, y.d = true) := by
  unfold putA15
  by_cases hk : okT x
  · rw [if_pos hk]
    by_cases he : (plF L R (bkT x)).e = 0
    · rw [if_pos he]; exact .inl rfl
    · rw [if_neg he]
      refine .inr (.inr ⟨rfl, fun y hy => ?_⟩)
      obtain ⟨i, hi, rfl⟩ := List.getElem_of_mem hy
      exact (plF_full h he).2.2 i hi
  · rw [if_neg hk]; exact .inr (.inl rfl)
set_option maxRecDepth 3000 in
theorem isT_d {x : Slt} (h : isT x) (hd : x.d = true) : x.u = true := by
  rcases h with rfl | h
  · cases hd
  · exact h.1
set_option maxRecDepth 3000 in
/-- the error of a full cache: all is dirty -/
theorem putA_full {L : List Slt} {R : RgS} (h : PRg L R) {x : Slt} (he : (putA15 L R x).e = 8) : (allL L (fun y => y.d)).length = L.length := by
  rcases putA15_e h x with e | e | ⟨_, e⟩
  · rw [e] at he; exact absurd he (by decide)
  · rw [e] at he; exact absurd he (by decide)
  · unfold allL selL
    rw [srtT_len, List.filter_eq_self.2 (fun y hy => by simp [e y hy, isT_d (h.wl.is y hy) (e y hy)])]
/-- what a block has -/
def valL (L : List Slt) (b : Bk) : Slt := ((atL L b).map (fun i => L.getD i zeroT)).getD zeroT
set_option maxRecDepth 3000 in
theorem valL_some {L : List Slt} (h : WL L) {y : Slt} (hy : y ∈ L) (hu : y.u = true) : (atL L (bkT y)).isSome = true ∧ valL L (bkT y) = y := by
  obtain ⟨i, hi, rfl⟩ := List.getElem_of_mem hy
  have := (atL_some h).2 ⟨hi, hu, rfl⟩
  unfold valL
  rw [this]
  refine ⟨rfl, ?_⟩
  simp only [Option.map_some, Option.getD_some]
  rw [List.getD_eq_getElem?_getD, List.getElem?_eq_getElem hi]
  rfl
set_option maxRecDepth 3000 in
/-- what was dirty is still there, as it was but for the block itself -/
theorem putA_dirty {L : List Slt} {R : RgS} (h : PRg L R) (x : Slt) {y : Slt} (hy : y ∈ allL L (fun y => y.d)) :
    (atL (putA15 L R x).L (bkT y)).isSome = true ∧ (bkT y = bkT x ∨ valL (putA15 L R x).L (bkT y) = y) := by
  obtain ⟨h1, h2, h3⟩ := (all_mem h.wl).1 hy
  have hsame : (atL L (bkT y)).isSome = true ∧ (bkT y = bkT x ∨ valL L (bkT y) = y) := by
    obtain ⟨a, b⟩ := valL_some h.wl h1 h2
    exact ⟨a, .inr b⟩
  unfold putA15
  by_cases hk : okT x
  · rw [if_pos hk]
    by_cases he : (plF L R (bkT x)).e = 0
    · rw [if_pos he]
      obtain ⟨i, hi, hl, _, hd⟩ := plF_yes h hk he
      show (atL (L.set (plF L R (bkT x)).i.toNat x) (bkT y)).isSome = true ∧ (bkT y = bkT x ∨ valL (L.set (plF L R (bkT x)).i.toNat x) (bkT y) = y)
      rw [hi, Int.toNat_natCast]
      have hne : x ≠ zeroT := fun e => by rw [e] at hk; exact absurd hk.1 (by decide)
      have hwl := h.wl.lay hl
      by_cases hb : bkT y = bkT x
      · refine ⟨?_, .inl hb⟩
        rw [atL_lay h.wl hl hne, if_pos hb.symm]
        rfl
      · obtain ⟨j, hj, rfl⟩ := List.getElem_of_mem h1
        have hij : i ≠ j := fun e => by
          subst e
          have := hd hj hb
          rw [h3] at this
          cases this
        have hj2 : j < (L.set i x).length := by rw [List.length_set]; exact hj
        have hg : (L.set i x)[j] = L[j] := by rw [List.getElem_set, if_neg hij]
        have := valL_some hwl (y := L[j]) (by rw [← hg]; exact List.getElem_mem hj2) h2
        exact ⟨this.1, .inr this.2⟩
    · rw [if_neg he]; exact hsame
  · rw [if_neg hk]; exact hsame
end Go.Proofs.YtcglfknkkeaegaaGreatDoor
namespace Go.Proofs.YtcglfknkkeaegaaGreatDoor
open Go.ChangeShapes Go.WideShapes Go.ChangeAt Go.RowKit Go.Maps
set_option maxRecDepth 3000 in
theorem formed15 (x : Bk) : (Value.agg (bkc x)).formed Tryz.prog 37 = true := by
  unfold Value.formed
  simp only [Tryz.underlying37, cellsB_]
  rfl
set_option maxRecDepth 3000 in
theorem eq15_bk (x y : Bk) (hx : WfB x) (hy : WfB y) : ∀ w, (Op.equalIn 10000 37 (.agg (bkc x)) (.agg (bkc y))).run Tryz.prog w = .ok (decide (x = y)) w := by
  intro w
  obtain ⟨c, h1, h2⟩ := run_equalIn_deep (P := Tryz.prog) 9997 3 37 (by kernel_rfl) w 4 4 (.agg (bkc x)) (.agg (bkc y)) _ _ (formed15 x) (formed15 y) (tkey_block 1 _ _ _ (twf_i64 hx.i) (twf_i64 hx.g) (twf_i64 hx.a)) (tkey_block 1 _ _ _ (twf_i64 hy.i) (twf_i64 hy.g) (twf_i64 hy.a))
  rw [h1]
  have e : ([.int .i64 x.i, .int .i64 x.g, .int .i64 x.a] : List Lit) = [.int .i64 y.i, .int .i64 y.g, .int .i64 y.a] ↔ x = y := by
    constructor
    · intro h
      simp at h
      exact Bk.ext_ h
    · rintro rfl; rfl
  congr 1
  by_cases ho : x = y
  · rw [decide_eq_true ho, h2.2 (e.mpr ho)]
  · rw [decide_eq_false ho]
    cases c
    · rfl
    · exact absurd (e.mp (h2.1 rfl)) ho
set_option maxRecDepth 3000 in
theorem guard15B : Tryz.prog.eqGuardType Tryz.prog.depth 37 = false := by kernel_rfl
/-- what is listed: in a block of one's own -/
structure TBx (w : World) (A : Option Addr) (F : Nat → Prop) (l : List Slt) : Prop where
  ex : l = [] ∨ ∃ g cap, A = some ⟨g, 0, none⟩ ∧ F g ∧ TB w g cap l
set_option maxRecDepth 3000 in
theorem TBx.keep {w w' : World} {A : Option Addr} {F : Nat → Prop} {l : List Slt} (h : TBx w A F l) (hk : KpZ F w w') : TBx w' A F l := by
  rcases h.ex with e | ⟨g, cap, e, hF, t⟩
  · exact ⟨.inl e⟩
  · exact ⟨.inr ⟨g, cap, e, hF, t.keep (hk g hF)⟩⟩
set_option maxRecDepth 3000 in
theorem TBx.row {w : World} {A : Option Addr} {F : Nat → Prop} {l : List Slt} (h : TBx w A F l) (h0 : 0 < l.length) : ∃ g, A = some ⟨g, 0, none⟩ ∧ F g ∧ g < w.heap.size ∧ ∀ k (hk : k < l.length), w.rangeAt g (k * 7) (tc l[k]).toList := by
  rcases h.ex with e | ⟨g, cap, e, hF, t⟩
  · rw [e] at h0; exact absurd h0 (by simp)
  · exact ⟨g, e, hF, t.lt, fun k hk => t.row hk⟩
set_option maxRecDepth 3000 in
theorem row_bk {w : World} {g off : Nat} {x : Slt} (h : w.rangeAt g off (tc x).toList) : w.rangeAt g (off + 1) (bkc (bkT x)).toList := fun j v hv => by
  have hj : j < 3 := (List.getElem?_eq_some_iff.1 hv).1
  have := h (1 + j) v (by
    match j, hj with
    | 0, _ => exact hv
    | 1, _ => exact hv
    | 2, _ => exact hv)
  rwa [← Nat.add_assoc] at this
set_option maxRecDepth 3000 in
theorem row15_bk {w : World} {g off : Nat} {x : D15} (h : w.rangeAt g off (d15 x).toList) : w.rangeAt g (off + 3) (bkc (bkT x.x)).toList := fun j v hv => by
  have hj : j < 3 := (List.getElem?_eq_some_iff.1 hv).1
  have := h (3 + j) v (by
    match j, hj with
    | 0, _ => exact hv
    | 1, _ => exact hv
    | 2, _ => exact hv)
  rwa [← Nat.add_assoc] at this
set_option maxRecDepth 3000 in
theorem row15_kind {w : World} {g off : Nat} {x : D15} (h : w.rangeAt g off (d15 x).toList) : w.cell? ⟨g, off, none⟩ = some (.int .i64 x.kind) := h 0 _ rfl
set_option maxRecDepth 3000 in
theorem range15_keep {w w' : World} {b off : Nat} {vs : List Value} (h : w.rangeAt b off vs) (hk : w'.heap[b]? = w.heap[b]?) : w'.rangeAt b off vs := fun j v hv => (World.cell?_of_block (w := w) (a := ⟨b, off + j, none⟩) hk).trans (h j v hv)
set_option maxRecDepth 3000 in
theorem LisR.tbx {w w' : World} {l : List Slt} {e : Ending} (h : LisR w l e w') {n : Nat} (hn : n = l.length) : ∃ A c F, e = .returned (.slice A n c) ∧ TBx w' A F l ∧ (∀ j, F j → w.heap.size ≤ j ∧ j < w'.heap.size) ∧ Adv Nul w Nul w' := by
  obtain ⟨v, F, rfl, s, a⟩ := h
  subst hn
  obtain ⟨A, c, rfl⟩ := s.len_le
  refine ⟨A, c, F, rfl, ?_, fun j hj => ⟨?_, s.bd j hj⟩, a.nul⟩
  · cases l with
    | nil => exact ⟨.inl rfl⟩
    | cons x l =>
      obtain ⟨g, cap, e, hF, t⟩ := s.tb (by simp)
      injection e with e1 e2 e3
      exact ⟨.inr ⟨g, cap, e1, hF, t⟩⟩
  · rcases a.into j hj with x | x
    · exact x.elim
    · exact x
section
variable {W w w' : World} {Z : Nat → Prop} {d c n N k num : Nat} {L : List Slt} {R : RgS}
set_option maxRecDepth 3000 in
theorem Gd.get_y (h : Gd W w Z d c n N k L R num) {y : Slt} (hy : WfB (bkT y)) (hs : (atL L (bkT y)).isSome = true) :
    Calls Tryz.prog 12 #[.pointer (some ⟨c, 0, none⟩), .agg (bkc (bkT y))] w fun e w' => e = .returned (.tuple #[.agg (tc (valL L (bkT y))), .bool true]) ∧ (∃ R', Gd W w' Z d c n N k L R' num) ∧ KpZ Z w w' :=
  (h.get hy).mono (by
    rintro e w' ⟨rfl, g, q⟩
    exact ⟨by rw [hs]; rfl, ⟨_, g⟩, q⟩)
set_option maxRecDepth 3000 in
theorem Gd.get_x (h : Gd W w Z d c n N k L R num) {b : Bk} (hb : WfB b) :
    Calls Tryz.prog 12 #[.pointer (some ⟨c, 0, none⟩), .agg (bkc b)] w fun e w' => (∃ v, e = .returned v) ∧ (∃ R', Gd W w' Z d c n N k L R' num) :=
  (h.get hb).mono (by
    rintro e w' ⟨rfl, g, q⟩
    exact ⟨⟨_, rfl⟩, ⟨_, g⟩⟩)
end
/-! The loops. -/
def QtR (W : World) (d c m M : Nat) (t9 : Value) (wr : World) : Prop := ∃ (i : Nat) (L : List Slt) (R : RgS), t9 = .int .i64 (i : Int) ∧ i ≤ M ∧ Gd W wr Nul d c 20 (m + 24) (2 * i) L R 0 ∧ L.length = m
def QtO (w : World) (n : Nat) (t13 : Value) (wr : World) : Prop := ∃ k : Nat, t13 = .int .i64 ((k : Int) + 1) ∧ k ≤ n ∧ Adv Nul w Nul wr
def QtP (W w : World) (d c m K n : Nat) (L : List Slt) (Z : Nat → Prop) (t14 : Value) (wr : World) : Prop := ∃ (k : Nat) (R : RgS), t14 = .int .i64 (k : Int) ∧ k ≤ n ∧ Gd W wr Z d c 20 (m + 24) K L R 0 ∧ KpZ Z w wr
end Go.Proofs.YtcglfknkkeaegaaGreatDoor
