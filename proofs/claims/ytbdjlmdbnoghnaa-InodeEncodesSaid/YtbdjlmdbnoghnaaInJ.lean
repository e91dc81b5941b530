/- The statements of layer 8, walked. -/
import Derived.Test.YtbdjlmdbnoghnaaInI
namespace Go.Proofs.Ytbdjlmdbnoghnaa
open Go.ChangeShapes Go.WideShapes Go.ChangeAt Go.RowKit

theorem cellsInode : Try.prog.cellsOf 25 = 11 := by kernel_rfl
theorem cellsU64i : Try.prog.cellsOf 22 = 1 := by kernel_rfl
theorem wf_i64' {x : Int} (h : (Lit.int .i64 x).wf = true) : -9223372036854775808 ≤ x ∧ x < 9223372036854775808 := by
  have := bounds_i64 h; omega
theorem wf_u64' {x : Int} (h : (Lit.int .u64 x).wf = true) : ∃ n : Nat, x = (n : Int) ∧ n < 18446744073709551616 := by
  have hb := bounds_u64 h
  exact ⟨x.toNat, by omega, by omega⟩
/-- An inode that came in. -/
def IArg (v : Value) : Prop := ∃ x : Ino, v = .agg (ic x) ∧ WfI x
theorem open_eight {H : Type} {enc : TypeId × Value → H} {W : World} {n : Nat} {cs : List Value} {x : DataW H × List MemPlace} (h : DataW.trod enc Try.prog W 0 (fun _ => true) true n 23 cs = some x) :
    ∃ a : Nat → Int, cs = (arr a).toList ∧ WfA a := by
  obtain ⟨xs, m, _, _, hlen, hxl, hf⟩ := DataW.trod_array Try.underlying23 h
  rw [cells8] at hlen
  match cs, hlen with
  | [c0, c1, c2, c3, c4, c5, c6, c7], _ =>
    match xs, hxl with
    | [y0, y1, y2, y3, y4, y5, y6, y7], _ =>
      have f0 := hf 0 (by decide)
      have f1 := hf 1 (by decide)
      have f2 := hf 2 (by decide)
      have f3 := hf 3 (by decide)
      have f4 := hf 4 (by decide)
      have f5 := hf 5 (by decide)
      have f6 := hf 6 (by decide)
      have f7 := hf 7 (by decide)
      simp [cellsInt] at f0 f1 f2 f3 f4 f5 f6 f7
      obtain ⟨a0, e0, _, w0⟩ := DataW.trod_int Try.underlying3 f0
      obtain ⟨a1, e1, _, w1⟩ := DataW.trod_int Try.underlying3 f1
      obtain ⟨a2, e2, _, w2⟩ := DataW.trod_int Try.underlying3 f2
      obtain ⟨a3, e3, _, w3⟩ := DataW.trod_int Try.underlying3 f3
      obtain ⟨a4, e4, _, w4⟩ := DataW.trod_int Try.underlying3 f4
      obtain ⟨a5, e5, _, w5⟩ := DataW.trod_int Try.underlying3 f5
      obtain ⟨a6, e6, _, w6⟩ := DataW.trod_int Try.underlying3 f6
      obtain ⟨a7, e7, _, w7⟩ := DataW.trod_int Try.underlying3 f7
      simp at e0 e1 e2 e3 e4 e5 e6 e7
      subst e0 e1 e2 e3 e4 e5 e6 e7
      refine ⟨fun j => match j with | 0 => a0 | 1 => a1 | 2 => a2 | 3 => a3 | 4 => a4 | 5 => a5 | 6 => a6 | _ => a7, rfl, fun j hj => ?_⟩
      match j, hj with
      | 0, _ => exact wf_i64' w0
      | 1, _ => exact wf_i64' w1
      | 2, _ => exact wf_i64' w2
      | 3, _ => exact wf_i64' w3
      | 4, _ => exact wf_i64' w4
      | 5, _ => exact wf_i64' w5
      | 6, _ => exact wf_i64' w6
      | 7, _ => exact wf_i64' w7
theorem open_inode {H : Type} {enc : TypeId × Value → H} {W : World} {base : Nat} {r : Reach} {v : Value} {d : DataW H} {p : List MemPlace} (hv : Value.okWide Try.prog W r base 25 v) (h : DataW.Trod enc Try.prog W 0 (fun _ => true) true 25 v d p) : IArg v := by
  obtain ⟨cs, rfl, _⟩ := okWide_struct Try.underlying25 hv
  obtain ⟨fuel, hf⟩ := h
  obtain ⟨xs, m, _, _, hlen, hxl, hf⟩ := DataW.trod_struct Try.underlying25 hf
  rw [cellsInode] at hlen
  have e : (Value.agg cs).cells.toList = cs.toList := rfl
  rw [e] at hlen hf
  obtain ⟨c, hc⟩ : ∃ c, c = cs.toList := ⟨_, rfl⟩
  rw [← hc] at hlen hf
  match c, hlen with
  | [c0, c1, c2, c3, c4, c5, c6, c7, c8, c9, c10], _ =>
    match xs, hxl with
    | [y0, y1, y2, y3], _ =>
      have f0 := hf 0 _ rfl
      have f1 := hf 1 _ rfl
      have f2 := hf 2 _ rfl
      have f3 := hf 3 _ rfl
      simp [cellsInt, cellsU64i, cells8] at f0 f1 f2 f3
      obtain ⟨a0, e0, _, w0⟩ := DataW.trod_int Try.underlying3 f0
      obtain ⟨a1, e1, _, w1⟩ := DataW.trod_int Try.underlying3 f1
      obtain ⟨a2, e2, _, w2⟩ := DataW.trod_int Try.underlying22 f2
      obtain ⟨a, ha, hw⟩ := open_eight f3
      simp at e0 e1 e2
      subst e0 e1 e2
      obtain ⟨n, rfl, hn⟩ := wf_u64' w2
      refine ⟨⟨a0, a1, n, a⟩, ?_, ⟨wf_i64' w0, wf_i64' w1, hn, hw⟩⟩
      refine congrArg Value.agg (Array.ext' ?_)
      rw [← hc]
      show _ = Value.int .i64 a0 :: Value.int .i64 a1 :: Value.int .u64 (n : Int) :: (arr a).toList
      rw [← ha]

def x0 : Ino := ⟨2, 3, 9, fun i => if i = 0 then 5 else 0⟩
theorem x0_wf : WfI x0 := by
  refine ⟨by decide, by decide, by decide, fun j _ => ?_⟩
  show -9223372036854775808 ≤ (if j = 0 then (5 : Int) else 0) ∧ (if j = 0 then (5 : Int) else 0) < 9223372036854775808
  split <;> decide
theorem x0_ok : okI x0 := by decide
theorem x0_nz : (nzI x0 8).length = 1 := by decide
theorem dI_back {x : Ino} (hw : WfI x) (h : okI x) : ic (dI (secI x)) = ic x ∧ eI (secI x) = 0 := by
  obtain ⟨y, h1, h2⟩ := decI_back hw h
  unfold dI eI
  rw [h1]
  exact ⟨h2.ic, rfl⟩
theorem decode_back {x : Ino} (hw : WfI x) (h : okI x) (v : Value) (w : World) (hr : Rd w 1 v 128 ((secI x).map u8)) : Calls Try.prog 15 #[v] w fun e w' => e = .returned (.tuple #[.agg (ic x), .int .i64 0]) ∧ Adv Nul w Nul w' := by
  refine (decode_any v (secI x) w (by rw [secI_length]; exact hr) (secI_lt x)).mono ?_
  rintro e w' ⟨rfl, ha⟩
  obtain ⟨h1, h2⟩ := dI_back hw h
  rw [h1, h2]
  exact ⟨rfl, ha⟩

set_option maxRecDepth 3000 in
set_option maxHeartbeats 1600000 in
theorem lives8_any (w : World) : Calls Try.prog 13 #[] w fun e w' => e = .returned (.bool true) ∧ Adv Nul w Nul w' := by
  have HE := Lib.hid (fun w => (encode_any x0 x0_wf w).mono fun e w' (h : EncR w x0 e w') => h)
  have HU := Lib.hid (fun w => used_any x0 w)
  rw [x0_nz] at HU
  have hx : ic x0 = #[.int .i64 2, .int .i64 3, .int .u64 9, .int .i64 5, .int .i64 0, .int .i64 0, .int .i64 0, .int .i64 0, .int .i64 0, .int .i64 0, .int .i64 0] := rfl
  have HD := Lib.hid (fun v w hr => decode_back x0_wf x0_ok v w hr)
  rw [hx] at HE HU HD
  clear hx
  go_enter Try.func13, Try.ntmps13
  go_wp2_with (first
    | (go_at_call 6; refine (HE.out _).mono ?_; rintro e w1 ⟨A, m, c, F, rfl, a1, y1, _⟩; obtain ⟨rfl, s1⟩ := y1 x0_ok; rw [if_pos x0_ok]; have HS := Lib.hid s1; have HA1 := Lib.hid a1; clear a1 y1 s1)
    | (go_at_call 15; refine (HD.out _ _ HS.out.rd).mono ?_; rintro e w2 ⟨rfl, a2⟩; have HA2 := Lib.hid ((HA1.out.over a2).alloc (.cells #[.int .i64 2, .int .i64 3, .int .u64 9, .int .i64 5, .int .i64 0, .int .i64 0, .int .i64 0, .int .i64 0, .int .i64 0, .int .i64 0, .int .i64 0] 30)); clear a2)
    | (go_at_call 12; refine (HU.out _).mono ?_; rintro e w3 ⟨rfl, a3⟩; have HA3 := Lib.hid (HA2.out.over a3); clear a3)
    | fail)
  go_ret
  exact ⟨rfl, HA3.out.sub (fun _ h => h.elim)⟩
end Go.Proofs.Ytbdjlmdbnoghnaa
