/- Slots and blocks that came in. -/
import Derived.Test.YtbjenpkgcdppaaaStA
import Derived.Test.YtbjenpkgcdppaaaStO
import Derived.Test.YtbjenpkgcdppaaaShort
import Derived.ChangeArms
namespace Go.Proofs.Ytbjenpkgcdppaaa
open Go.ChangeShapes Go.WideShapes Go.ChangeAt Go.RowKit

set_option maxRecDepth 3000 in
theorem twf_of_i64 {x : Int} (h : (Lit.int .i64 x).wf = true) : -9223372036854775808 ≤ x ∧ x < 9223372036854775808 := by
  have := bounds_i64 h; omega
set_option maxRecDepth 3000 in
theorem twf_of_u64 {x : Int} (h : (Lit.int .u64 x).wf = true) : ∃ n : Nat, x = (n : Int) ∧ n < 18446744073709551616 := by
  have hb := bounds_u64 h
  exact ⟨x.toNat, by omega, by omega⟩
set_option maxRecDepth 3000 in
theorem open_fileT {H : Type} {enc : TypeId × Value → H} {W : World} {n : Nat} {cs : List Value} {x : DataW H × List MemPlace} (h : DataW.trod enc Try.prog W 0 (fun _ => true) true n 23 cs = some x) :
    ∃ i g : Int, cs = [.int .i64 i, .int .i64 g] ∧ (-9223372036854775808 ≤ i ∧ i < 9223372036854775808) ∧ (-9223372036854775808 ≤ g ∧ g < 9223372036854775808) := by
  obtain ⟨zs, m1, _, _, hlen, hzl, hg⟩ := DataW.trod_struct Try.underlying23 h
  rw [cellsF_] at hlen
  match cs, hlen with
  | [c1, c2], _ =>
    match zs, hzl with
    | [z0, z1], _ =>
      have g0 := hg 0 _ rfl
      have g1 := hg 1 _ rfl
      simp [cellsI_] at g0 g1
      obtain ⟨a1, e1, _, w1⟩ := DataW.trod_int Try.underlying3 g0
      obtain ⟨a2, e2, _, w2⟩ := DataW.trod_int Try.underlying3 g1
      simp at e1 e2
      subst e1 e2
      exact ⟨a1, a2, rfl, twf_of_i64 w1, twf_of_i64 w2⟩
set_option maxRecDepth 3000 in
theorem open_blockT {H : Type} {enc : TypeId × Value → H} {W : World} {n : Nat} {cs : List Value} {x : DataW H × List MemPlace} (h : DataW.trod enc Try.prog W 0 (fun _ => true) true n 25 cs = some x) :
    ∃ i g a : Int, cs = [.int .i64 i, .int .i64 g, .int .i64 a] ∧ (-9223372036854775808 ≤ i ∧ i < 9223372036854775808) ∧ (-9223372036854775808 ≤ g ∧ g < 9223372036854775808) ∧ (-9223372036854775808 ≤ a ∧ a < 9223372036854775808) := by
  obtain ⟨zs, m1, _, _, hlen, hzl, hg⟩ := DataW.trod_struct Try.underlying25 h
  rw [cellsB_] at hlen
  match cs, hlen with
  | [c1, c2, c3], _ =>
    match zs, hzl with
    | [z0, z1], _ =>
      have g0 := hg 0 _ rfl
      have g1 := hg 1 _ rfl
      simp [cellsI_, cellsF_] at g0 g1
      obtain ⟨i, g, e0, w0, w1⟩ := open_fileT g0
      obtain ⟨a, e1, _, w2⟩ := DataW.trod_int Try.underlying3 g1
      simp at e0 e1
      obtain ⟨rfl, rfl⟩ := e0
      subst e1
      exact ⟨i, g, a, rfl, w0, w1, twf_of_i64 w2⟩
/-- A slot that came in: its text may be of any length. -/
def SArg (v : Value) : Prop := ∃ x : Slt, v = .agg (tc x) ∧ (∀ t : ByteArray, t.size ≤ 1000 → WfT ⟨x.u, x.i, x.g, x.a, x.v, x.d, t⟩) ∧ x.s.size ≤ maxLen
set_option maxRecDepth 3000 in
theorem open_slot {H : Type} {enc : TypeId × Value → H} {W : World} {base : Nat} {r : Reach} {v : Value} {d : DataW H} {p : List MemPlace} (hv : Value.okWide Try.prog W r base 28 v) (h : DataW.Trod enc Try.prog W 0 (fun _ => true) true 28 v d p) : SArg v := by
  obtain ⟨cs, rfl, _⟩ := okWide_struct Try.underlying28 hv
  obtain ⟨fuel, hf⟩ := h
  obtain ⟨xs, m, _, _, hlen, hxl, hf⟩ := DataW.trod_struct Try.underlying28 hf
  rw [cellsQT] at hlen
  have e : (Value.agg cs).cells.toList = cs.toList := rfl
  rw [e] at hlen hf
  obtain ⟨c, hc⟩ : ∃ c, c = cs.toList := ⟨_, rfl⟩
  rw [← hc] at hlen hf
  match c, hlen with
  | [c0, c1, c2, c3, c4, c5, c6], _ =>
    match xs, hxl with
    | [y0, y1, y2, y3, y4], _ =>
      have f0 := hf 0 _ rfl
      have f1 := hf 1 _ rfl
      have f2 := hf 2 _ rfl
      have f3 := hf 3 _ rfl
      have f4 := hf 4 _ rfl
      simp [cellsB_, cellsU_, cellsO_, cellsS_] at f0 f1 f2 f3 f4
      obtain ⟨u, e0, _⟩ := DataW.trod_bool Try.underlying4 f0
      obtain ⟨i, g, a, e1, w1, w2, w3⟩ := open_blockT f1
      obtain ⟨v, e2, _, w4⟩ := DataW.trod_int Try.underlying26 f2
      obtain ⟨d, e3, _⟩ := DataW.trod_bool Try.underlying4 f3
      obtain ⟨s, e4, _, hs⟩ := DataW.trod_string Try.underlying9 f4
      simp at e0 e1 e2 e3 e4
      obtain ⟨rfl, rfl, rfl⟩ := e1
      subst e0 e2 e3 e4
      obtain ⟨n, rfl, hn⟩ := twf_of_u64 w4
      refine ⟨⟨u, i, g, a, n, d, s⟩, ?_, fun t ht => ⟨w1, w2, w3, hn, ht⟩, hs⟩
      refine congrArg Value.agg (Array.ext' ?_)
      rw [← hc]
      rfl
/-- A block that came in. -/
def BArg (v : Value) : Prop := ∃ x : Bk, v = .agg (bkc x) ∧ (-9223372036854775808 ≤ x.i ∧ x.i < 9223372036854775808) ∧ (-9223372036854775808 ≤ x.g ∧ x.g < 9223372036854775808) ∧ (-9223372036854775808 ≤ x.a ∧ x.a < 9223372036854775808)
set_option maxRecDepth 3000 in
theorem open_block {H : Type} {enc : TypeId × Value → H} {W : World} {base : Nat} {r : Reach} {v : Value} {d : DataW H} {p : List MemPlace} (hv : Value.okWide Try.prog W r base 25 v) (h : DataW.Trod enc Try.prog W 0 (fun _ => true) true 25 v d p) : BArg v := by
  obtain ⟨cs, rfl, _⟩ := okWide_struct Try.underlying25 hv
  obtain ⟨fuel, hf⟩ := h
  obtain ⟨i, g, a, h1, w1, w2, w3⟩ := open_blockT hf
  have h1' : cs.toList = [.int .i64 i, .int .i64 g, .int .i64 a] := h1
  exact ⟨⟨i, g, a⟩, by rw [← Array.toArray_toList (xs := cs), h1']; rfl, w1, w2, w3⟩
set_option maxRecDepth 3000 in
theorem short70 (s : ByteArray) (w : World) (hs : s.size ≤ maxLen) :
    Calls Try.prog 7 #[.string s, .int .i64 70] w fun e w' => ∃ t : ByteArray, e = .returned (.string t) ∧ t.size ≤ 70 ∧ w = w' := by
  refine (short_any s 70 w (by decide) hs).mono ?_
  rintro e w' ⟨rfl, rfl⟩
  refine ⟨_, rfl, ?_, rfl⟩
  split
  · simp only [ByteArray.size_extract]; omega
  · omega
end Go.Proofs.Ytbjenpkgcdppaaa
