/- Messages that came in; MsgIdle, walked. -/
import Derived.Test.YtpgeebhepegpaaaMsL
import Derived.Test.YtpgeebhepegpaaaDrW
import Derived.ChangeArms
namespace Go.Proofs.Ytpgeebhepegpaaa
open Go.ChangeShapes Go.WideShapes Go.ChangeAt Go.RowKit Go.Deep

set_option maxRecDepth 3000 in
theorem m_cellsE : Try.prog.cellsOf 26 = 1 := by kernel_rfl
set_option maxRecDepth 3000 in
theorem m_cellsF : Try.prog.cellsOf 25 = 2 := by kernel_rfl
set_option maxRecDepth 3000 in
theorem m_cellsI : Try.prog.cellsOf 3 = 1 := by kernel_rfl
set_option maxRecDepth 3000 in
theorem m_cellsU : Try.prog.cellsOf 22 = 1 := by kernel_rfl
set_option maxRecDepth 3000 in
theorem m_cellsS : Try.prog.cellsOf 9 = 1 := by kernel_rfl
set_option maxRecDepth 3000 in
theorem m_cellsR : Try.prog.cellsOf 23 = 1 := by kernel_rfl
set_option maxRecDepth 3000 in
theorem m_cellsM : Try.prog.cellsOf 28 = 18 := by kernel_rfl
set_option maxRecDepth 3000 in
theorem mwf_of_u64 {x : Int} (h : (Lit.int .u64 x).wf = true) : ∃ n : Nat, x = (n : Int) ∧ n < 18446744073709551616 := by
  have hb := bounds_u64 h
  exact ⟨x.toNat, by omega, by omega⟩
set_option maxRecDepth 3000 in
theorem open_fileM {H : Type} {enc : TypeId × Value → H} {W : World} {n : Nat} {cs : List Value} {x : DataW H × List MemPlace} (h : DataW.trod enc Try.prog W 0 (fun _ => true) true n 25 cs = some x) :
    ∃ i g : Int, cs = [.int .i64 i, .int .i64 g] := by
  obtain ⟨zs, m1, _, _, hlen, hzl, hg⟩ := DataW.trod_struct Try.underlying25 h
  rw [m_cellsF] at hlen
  match cs, hlen with
  | [c1, c2], _ =>
    match zs, hzl with
    | [z0, z1], _ =>
      have g0 := hg 0 _ rfl
      have g1 := hg 1 _ rfl
      simp [m_cellsI] at g0 g1
      obtain ⟨a1, e1, _, w1⟩ := DataW.trod_int Try.underlying3 g0
      obtain ⟨a2, e2, _, w2⟩ := DataW.trod_int Try.underlying3 g1
      simp at e1 e2
      subst e1 e2
      exact ⟨a1, a2, rfl⟩
set_option maxRecDepth 3000 in
theorem open_entriesM {H : Type} {enc : TypeId × Value → H} {W : World} {fuel : Nat} {v : Value} {x : DataW H × List MemPlace} (hf : DataW.trod enc Try.prog W 0 (fun _ => true) true fuel 26 [v] = some x) : ∃ l, EnR7 W v l := by
  rcases open_slice Try.underlying26 hf with ⟨hcs, _⟩ | ⟨x, l, c, m, n, D, Pl, hcs, _, hl, hm, hmm, _, hi⟩
  · simp at hcs
    subst hcs
    exact ⟨[], ⟨none, 0, rfl, Nat.le_refl _, Nat.zero_le _, rfl, fun _ => rfl, fun hn => absurd hn (by simp)⟩, fun _ hz => by simp at hz⟩
  · simp at hcs
    subst hcs
    simp only [if_true] at hmm
    have H1 : ∀ i, i < l → ∃ d : En, (∀ j, j < 4 → W.cell? (x.add (i * 4 + j)) = (ec d)[j]?) ∧ d.s.size ≤ maxLen := by
      intro i hil
      obtain ⟨cs', hc, ht⟩ := hi i (by omega)
      rw [w_cellsEntry] at hc
      obtain ⟨d, rfl, h1⟩ := open_en ht
      obtain ⟨_, _, hat⟩ := World.cells?_some hc
      refine ⟨d, fun j hj => ?_, h1⟩
      rw [← hat j hj, Go.Deep.add_add]
    obtain ⟨ds, hdl, hd⟩ := w_list_of l H1
    refine ⟨ds, ⟨some x, c, by rw [hdl], by omega, hm, ecs_length _, fun hn => (by cases hn), fun hn => ⟨x, rfl, ?_, ?_⟩⟩, ?_⟩
    · have h0 := (hd 0 hn).1 0 (by decide)
      have := World.block_lt_of_cell? _ _ (h0.trans rfl)
      rwa [add_block] at this
    · intro j u hu
      have hjl : j < (ecs ds).length := (List.getElem?_eq_some_iff.1 hu).1
      rw [ecs_length] at hjl
      have hk : j / 4 < ds.length := by omega
      have hj4 : j % 4 < 4 := by omega
      have e : j = j / 4 * 4 + j % 4 := by omega
      rw [e] at hu ⊢
      rw [(hd (j / 4) hk).1 (j % 4) hj4, ← hu, ecs_at ds (j / 4) (j % 4) hj4 hk]
    · intro d hdm
      obtain ⟨i, hi2, rfl⟩ := List.getElem_of_mem hdm
      exact (hd i hi2).2
/-- A message that came in. -/
def MArg (W : World) (v : Value) : Prop := ∃ (m : Ms) (sv : Value), v = .agg (mc m sv) ∧ WfAm m ∧ EnR7 W sv m.en
set_option maxRecDepth 3000 in
set_option maxHeartbeats 3200000 in
theorem open_msg {H : Type} {enc : TypeId × Value → H} {W : World} {base : Nat} {r : Reach} {v : Value} {d : DataW H} {p : List MemPlace} (hv : Value.okWide Try.prog W r base 28 v) (h : DataW.Trod enc Try.prog W 0 (fun _ => true) true 28 v d p) : MArg W v := by
  obtain ⟨cs, rfl, _⟩ := okWide_struct Try.underlying28 hv
  obtain ⟨fuel, hf⟩ := h
  obtain ⟨xs, mm, _, _, hlen, hxl, hf⟩ := DataW.trod_struct Try.underlying28 hf
  rw [m_cellsM] at hlen
  have e : (Value.agg cs).cells.toList = cs.toList := rfl
  rw [e] at hlen hf
  obtain ⟨c, hc⟩ : ∃ c, c = cs.toList := ⟨_, rfl⟩
  rw [← hc] at hlen hf
  match c, hlen with
  | [c0, c1, c2, c3, c4, c5, c6, c7, c8, c9, c10, c11, c12, c13, c14, c15, c16, c17], _ =>
    match xs, hxl with
    | [y0, y1, y2, y3, y4, y5, y6, y7, y8, y9, y10, y11, y12, y13, y14, y15], _ =>
      have f0 := hf 0 _ rfl
      have f1 := hf 1 _ rfl
      have f2 := hf 2 _ rfl
      have f3 := hf 3 _ rfl
      have f4 := hf 4 _ rfl
      have f5 := hf 5 _ rfl
      have f6 := hf 6 _ rfl
      have f7 := hf 7 _ rfl
      have f8 := hf 8 _ rfl
      have f9 := hf 9 _ rfl
      have f10 := hf 10 _ rfl
      have f11 := hf 11 _ rfl
      have f12 := hf 12 _ rfl
      have f13 := hf 13 _ rfl
      have f14 := hf 14 _ rfl
      have f15 := hf 15 _ rfl
      simp [m_cellsI, m_cellsU, m_cellsS, m_cellsR, m_cellsF, m_cellsE] at f0 f1 f2 f3 f4 f5 f6 f7 f8 f9 f10 f11 f12 f13 f14 f15
      clear hf
      obtain ⟨ty, e0, _, _⟩ := DataW.trod_int Try.underlying3 f0
      obtain ⟨cl, e1, _, _⟩ := DataW.trod_int Try.underlying3 f1
      obtain ⟨ss, e2, _, w2⟩ := DataW.trod_int Try.underlying22 f2
      obtain ⟨sq, e3, _, w3⟩ := DataW.trod_int Try.underlying22 f3
      obtain ⟨bo, e4, _, w4⟩ := DataW.trod_int Try.underlying22 f4
      obtain ⟨kd, e5, _, _⟩ := DataW.trod_int Try.underlying3 f5
      obtain ⟨er, e6, _, _⟩ := DataW.trod_int Try.underlying23 f6
      obtain ⟨fi, fg, e7⟩ := open_fileM f7
      obtain ⟨di, dg, e8⟩ := open_fileM f8
      obtain ⟨nm, e9, _, h9⟩ := DataW.trod_string Try.underlying9 f9
      obtain ⟨ot, e10, _, h10⟩ := DataW.trod_string Try.underlying9 f10
      obtain ⟨mo, e11, _, _⟩ := DataW.trod_int Try.underlying3 f11
      obtain ⟨at_, e12, _, _⟩ := DataW.trod_int Try.underlying3 f12
      obtain ⟨da, e13, _, h13⟩ := DataW.trod_string Try.underlying9 f13
      obtain ⟨ve, e14, _, w14⟩ := DataW.trod_int Try.underlying22 f14
      obtain ⟨l, hl⟩ := open_entriesM f15
      clear f0 f1 f2 f3 f4 f5 f6 f7 f8 f9 f10 f11 f12 f13 f14 f15
      simp at e0 e1 e2 e3 e4 e5 e6 e7 e8 e9 e10 e11 e12 e13 e14
      obtain ⟨rfl, rfl⟩ := e7
      obtain ⟨rfl, rfl⟩ := e8
      subst e0 e1 e2 e3 e4 e5 e6 e9 e10 e11 e12 e13 e14
      obtain ⟨nss, rfl, hss⟩ := mwf_of_u64 w2
      obtain ⟨nsq, rfl, hsq⟩ := mwf_of_u64 w3
      obtain ⟨nbo, rfl, hbo⟩ := mwf_of_u64 w4
      obtain ⟨nve, rfl, hve⟩ := mwf_of_u64 w14
      refine ⟨⟨ty, cl, nss, nsq, nbo, kd, er, fi, fg, di, dg, nm, ot, mo, at_, da, nve, l⟩, c17, ?_, ⟨hss, hsq, hbo, hve, h9, h10, h13⟩, hl⟩
      refine congrArg Value.agg (Array.ext' ?_)
      rw [← hc]
      rfl
set_option maxRecDepth 3000 in
set_option maxHeartbeats 1600000 in
theorem idle16_walk (w : World) (k : Int) (_ : (Lit.int .i64 k).wf = true) : Calls Try.prog 6 #[.int .i64 k] w fun e w' => e = .returned (.bool true) ∧ Below w.heap.size w w' := by
  obtain ⟨b, hb⟩ : ∃ b, b = decide (idleP k) := ⟨_, rfl⟩
  have HID := Lib.hid (fun w => show Calls Try.prog 20 #[.int .i64 k] w fun e w' => e = .returned (.bool b) ∧ w = w' by rw [hb]; exact idle_any k w)
  have HLV := Lib.hid (fun w => lives16_any w)
  by_cases h : 1 ≤ k ∧ k ≤ 14
  · rcases kinds14 h with rfl | rfl | rfl | rfl | rfl | rfl | rfl | rfl | rfl | rfl | rfl | rfl | rfl | rfl <;>
    · clear h
      cases b
      all_goals first
        | (exfalso; revert hb; decide)
        | (clear hb
           go_enter Try.func6, Try.ntmps6
           go_wp2_with (first
             | (go_at_call 20; refine (HID.out _).mono ?_; rintro x wx ⟨rfl, rfl⟩)
             | (go_at_call 15; refine (HLV.out _).mono ?_; rintro x w2 ⟨rfl, a2⟩; have HA := Lib.hid a2; clear a2)
             | fail)
           go_ret
           exact ⟨by first | rfl | simp, HA.out.toBelow⟩)
  · obtain rfl : b = false := hb.trans (decide_eq_false fun x => h ⟨x.1, x.2.1⟩)
    obtain ⟨b1, b2, b3, b4, b5, b6, b7, b8, b9, b10, b11, b12, b13, b14⟩ := kind_eqs h
    have hs : k < 1 ∨ 14 < k := by omega
    clear hb h
    rcases hs with h | h
    · go_enter Try.func6, Try.ntmps6
      go_wp2_with (first
        | (go_at_call 20; refine (HID.out _).mono ?_; rintro x wx ⟨rfl, rfl⟩)
        | (go_at_call 15; refine (HLV.out _).mono ?_; rintro x w2 ⟨rfl, a2⟩; have HA := Lib.hid a2; clear a2)
        | fail)
      go_ret
      exact ⟨by first | rfl | simp, HA.out.toBelow⟩
    · have h1 : 1 ≤ k := by omega
      go_enter Try.func6, Try.ntmps6
      go_wp2_with (first
        | (go_at_call 20; refine (HID.out _).mono ?_; rintro x wx ⟨rfl, rfl⟩)
        | (go_at_call 15; refine (HLV.out _).mono ?_; rintro x w2 ⟨rfl, a2⟩; have HA := Lib.hid a2; clear a2)
        | fail)
      go_ret
      exact ⟨by first | rfl | simp, HA.out.toBelow⟩
end Go.Proofs.Ytpgeebhepegpaaa
