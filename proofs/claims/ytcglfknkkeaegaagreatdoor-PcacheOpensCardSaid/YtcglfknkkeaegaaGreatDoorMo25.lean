/- A cache that Open did not make; Open with wrong arguments. Slots and blocks that came in. With which disks, rings, slots there is a cache; calls of none: the walk. Made by mkpku.py. -/
import Derived.Test.YtcglfknkkeaegaaGreatDoorMo24
import Derived.Test.YtcglfknkkeaegaaGreatDoorMo09
import Derived.Test.YtcglfknkkeaegaaGreatDoorMo02
import Derived.Test.YtcglfknkkeaegaaGreatDoorMo01
import Derived.ChangeArms
namespace Go.Proofs.YtcglfknkkeaegaaGreatDoor
open Go.ChangeShapes Go.WideShapes Go.ChangeAt Go.RowKit Go.Maps
section
variable {w : World} {v : Value}
set_option maxRecDepth 3000 in
theorem PNo.step {w' : World} {F' : Nat → Prop} (h : PNo w v) (ha : Adv Nul w F' w') : PNo w' v := by
  rcases h with h | ⟨c, h, h2⟩
  · exact .inl h
  · exact .inr ⟨c, h, (World.cell?_of_block (ha.block c (World.block_lt_of_cell? _ _ h2) (fun x => x))).trans h2⟩
set_option maxRecDepth 3000 in
theorem get_no15 (h : PNo w v) (b : Bk) : Calls Tryz.prog 12 #[v, .agg (bkc b)] w fun e w' => e = .returned (.tuple #[.agg (tc zeroT), .bool false]) ∧ Adv Nul w Nul w' := by
  have HM := Lib.hid (fun W (r : PNo W v) => pmade_no W v r)
  have HP := Lib.hid h
  have HZT := Lib.hid infoT
  have HBU := Lib.hid builtT
  obtain ⟨Z, hZ⟩ : ∃ C, C = tc zeroT := ⟨_, rfl⟩
  have HZS := Lib.hid (show Z.size = 7 by rw [hZ]; rfl)
  have HZ1 := Lib.hid (show Z.all (·.oneCell') = true by rw [hZ]; exact tc_one _)
  rw [← hZ] at HZT HBU ⊢
  clear hZ h
  go_enter Tryz.func12, Tryz.ntmps12
  go_wp2_with (first
    | (refine kop_box rfl _ rfl rfl ?_; intro z w1 hz hb ha; have HA1 := Lib.hid ha; clear hz hb ha)
    | (refine kop_alloc rfl rfl HZT.out ?_; intro y w2 hz hb ha; have HY := Lib.hid (Nat.le_trans HA1.out.size hz); have HYB := Lib.hid hb; have HA2 := Lib.hid (HA1.out.trans ha); have HM2 := Lib.hid (HM.out w2 (HP.out.step (HA1.out.trans ha))); clear hz hb ha)
    | (go_at_call 46; refine HM2.out.mono ?_; rintro e w3 ⟨rfl, rfl⟩)
    | (refine kop_zero HBU.out rfl rfl ?_)
    | (refine kop_store rfl _ _ rfl y HYB.out rfl rfl sizeT HZS.out HZS.out HZ1.out ?_; intro w4 hb ha; have HY4 := Lib.hid hb; have HA4 := Lib.hid (HA2.out.fresh HY.out ha); clear hb ha)
    | fail)
  exact bodyPost_ret (v := .tuple #[.agg Z, .bool false]) (kres2 (C := Z) rfl _ _ rfl rfl HY4.out Tryz.underlying44 rfl (by rw [HZS.out]; exact sizeT)) rfl ⟨rfl, HA4.out⟩
set_option maxRecDepth 3000 in
theorem put_no15 (h : PNo w v) (x : Slt) : Calls Tryz.prog 34 #[v, .agg (tc x)] w fun e w' => e = .returned (.int .i64 1) ∧ Adv Nul w Nul w' := by
  have HM := Lib.hid (fun W (r : PNo W v) => pmade_no W v r)
  have HP := Lib.hid h
  clear h
  go_enter Tryz.func34, Tryz.ntmps34
  go_wp2_with (first
    | (refine kop_box rfl _ rfl rfl ?_; intro z w1 hz hb ha; have HA1 := Lib.hid ha; have HM1 := Lib.hid (HM.out w1 (HP.out.step ha)); clear hz hb ha)
    | (go_at_call 46; refine HM1.out.mono ?_; rintro e w3 ⟨rfl, rfl⟩)
    | fail)
  go_ret
  exact ⟨rfl, HA1.out⟩
set_option maxRecDepth 3000 in
theorem drop_no15 (h : PNo w v) (b : Bk) : Calls Tryz.prog 35 #[v, .agg (bkc b)] w fun e w' => e = .returned (.int .i64 1) ∧ Adv Nul w Nul w' := by
  have HM := Lib.hid (fun W (r : PNo W v) => pmade_no W v r)
  have HP := Lib.hid h
  clear h
  go_enter Tryz.func35, Tryz.ntmps35
  go_wp2_with (first
    | (refine kop_box rfl _ rfl rfl ?_; intro z w1 hz hb ha; have HA1 := Lib.hid ha; have HM1 := Lib.hid (HM.out w1 (HP.out.step ha)); clear hz hb ha)
    | (go_at_call 46; refine HM1.out.mono ?_; rintro e w3 ⟨rfl, rfl⟩)
    | fail)
  go_ret
  exact ⟨rfl, HA1.out⟩
set_option maxRecDepth 3000 in
theorem dropfile_no15 (h : PNo w v) (i g : Int) : Calls Tryz.prog 36 #[v, .agg #[.int .i64 i, .int .i64 g]] w fun e w' => e = .returned (.int .i64 1) ∧ Adv Nul w Nul w' := by
  have HM := Lib.hid (fun W (r : PNo W v) => pmade_no W v r)
  have HP := Lib.hid h
  clear h
  go_enter Tryz.func36, Tryz.ntmps36
  go_wp2_with (first
    | (refine kop_box rfl _ rfl rfl ?_; intro z w1 hz hb ha; have HA1 := Lib.hid ha; have HM1 := Lib.hid (HM.out w1 (HP.out.step ha)); clear hz hb ha)
    | (go_at_call 46; refine HM1.out.mono ?_; rintro e w3 ⟨rfl, rfl⟩)
    | fail)
  go_ret
  exact ⟨rfl, HA1.out⟩
set_option maxRecDepth 3000 in
theorem retag_no15 (h : PNo w v) (i g : Int) (x : Int) : Calls Tryz.prog 37 #[v, .agg #[.int .i64 i, .int .i64 g], .int .u64 x] w fun e w' => e = .returned (.int .i64 1) ∧ Adv Nul w Nul w' := by
  have HM := Lib.hid (fun W (r : PNo W v) => pmade_no W v r)
  have HP := Lib.hid h
  clear h
  go_enter Tryz.func37, Tryz.ntmps37
  go_wp2_with (first
    | (refine kop_box rfl _ rfl rfl ?_; intro z w1 hz hb ha; have HA1 := Lib.hid ha; have HM1 := Lib.hid (HM.out w1 (HP.out.step ha)); clear hz hb ha)
    | (go_at_call 46; refine HM1.out.mono ?_; rintro e w3 ⟨rfl, rfl⟩)
    | fail)
  go_ret
  exact ⟨rfl, HA1.out⟩
set_option maxRecDepth 3000 in
theorem setnumber_no15 (h : PNo w v) (x : Int) : Calls Tryz.prog 38 #[v, .int .u64 x] w fun e w' => e = .returned (.int .i64 1) ∧ w = w' := by
  have HM := Lib.hid (pmade_no w v h)
  clear h
  go_enter Tryz.func38, Tryz.ntmps38
  go_wp2_with (first
    | (go_at_call 46; refine HM.out.mono ?_; rintro e w3 ⟨rfl, rfl⟩)
    | fail)
  go_ret
  exact ⟨rfl, rfl⟩
set_option maxRecDepth 3000 in
theorem sync_no15 (h : PNo w v) : Calls Tryz.prog 39 #[v] w fun e w' => e = .returned (.int .i64 1) ∧ w = w' := by
  have HM := Lib.hid (pmade_no w v h)
  clear h
  go_enter Tryz.func39, Tryz.ntmps39
  go_wp2_with (first
    | (go_at_call 46; refine HM.out.mono ?_; rintro e w3 ⟨rfl, rfl⟩)
    | fail)
  go_ret
  exact ⟨rfl, rfl⟩
set_option maxRecDepth 3000 in
theorem number_no15 (h : PNo w v) : Calls Tryz.prog 40 #[v] w fun e w' => e = .returned (.int .u64 0) ∧ w = w' := by
  have HM := Lib.hid (pmade_no w v h)
  clear h
  go_enter Tryz.func40, Tryz.ntmps40
  go_wp2_with (first
    | (go_at_call 46; refine HM.out.mono ?_; rintro e w3 ⟨rfl, rfl⟩)
    | fail)
  go_ret
  exact ⟨rfl, rfl⟩
set_option maxRecDepth 3000 in
theorem list_no15 (h : PNo w v) (f : Value) : Calls Tryz.prog 55 #[v, f] w fun e w' => e = .returned (.slice none 0 0) ∧ w = w' := by
  have HM := Lib.hid (pmade_no w v h)
  clear h
  go_enter Tryz.func55, Tryz.ntmps55
  go_wp2_with (first
    | (go_at_call 46; refine HM.out.mono ?_; rintro e w3 ⟨rfl, rfl⟩)
    | fail)
  go_ret
  exact ⟨rfl, rfl⟩
set_option maxRecDepth 3000 in
theorem all_no15 (h : PNo w v) : Calls Tryz.prog 30 #[v] w fun e w' => e = .returned (.slice none 0 0) ∧ w = w' := by
  have HL := Lib.hid (list_no15 h)
  clear h
  go_enter Tryz.func30, Tryz.ntmps30
  go_wp2_with (first
    | (go_at_call 55; refine (HL.out _).mono ?_; rintro e w3 ⟨rfl, rfl⟩)
    | fail)
  go_ret
  exact ⟨rfl, rfl⟩
set_option maxRecDepth 3000 in
theorem dirty_no15 (h : PNo w v) : Calls Tryz.prog 29 #[v] w fun e w' => e = .returned (.slice none 0 0) ∧ w = w' := by
  have HL := Lib.hid (list_no15 h)
  clear h
  go_enter Tryz.func29, Tryz.ntmps29
  go_wp2_with (first
    | (go_at_call 55; refine (HL.out _).mono ?_; rintro e w3 ⟨rfl, rfl⟩)
    | fail)
  go_ret
  exact ⟨rfl, rfl⟩
set_option maxRecDepth 3000 in
theorem of_no15 (h : PNo w v) (i g : Int) : Calls Tryz.prog 21 #[v, .agg #[.int .i64 i, .int .i64 g]] w fun e w' => e = .returned (.slice none 0 0) ∧ Adv Nul w Nul w' := by
  have HL := Lib.hid (fun W (r : PNo W v) => list_no15 r)
  have HP := Lib.hid h
  have HO := Lib.hid (pkof_any i g)
  clear h
  go_enter Tryz.func21, Tryz.ntmps21
  go_wp2_with (first
    | (go_at_call 56; refine (HO.out _).mono ?_; rintro e w1 ⟨z, rfl, -, -, a1⟩; have HA1 := Lib.hid (((Adv.refl Nul w).alloc _).trans a1); clear a1)
    | (go_at_call 55; refine (HL.out _ (HP.out.step HA1.out) _).mono ?_; rintro e w3 ⟨rfl, rfl⟩)
    | fail)
  go_ret
  exact ⟨rfl, HA1.out⟩
end
set_option maxRecDepth 3000 in
theorem open_nil15 (n s : Int) (w : World) : Calls Tryz.prog 10 #[.pointer none, .int .i64 n, .int .i64 s] w fun e w' => e = .returned (.tuple #[.pointer none, .int .i64 1]) ∧ w = w' := by
  have HS := Lib.hid (size_no (.pointer none) w (.inl rfl))
  go_enter Tryz.func10, Tryz.ntmps10
  go_wp2_with (first
    | (go_at_call 41; refine HS.out.mono ?_; rintro e w0 ⟨rfl, rfl⟩)
    | fail)
  go_ret2
  exact ⟨rfl, rfl⟩
/-- with these arguments there is a cache -/
def rightO (N : Nat) (n s : Int) : Prop := 20 ≤ n ∧ (1 ≤ s ∧ s ≤ 64) ∧ s ≤ (N : Int) - n - 3
set_option maxRecDepth 3000 in
set_option maxHeartbeats 1600000 in
theorem open_bad15 {w : World} {F : Nat → Prop} {d N : Nat} {s0 : DS} (n s : Int) (h : Dk w F d N s0) (hN : 1 ≤ N ∧ N ≤ 1100) (hr : -9223372036854775808 ≤ n ∧ n < 9223372036854775808) (hb : ¬ rightO N n s) :
    Calls Tryz.prog 10 #[.pointer (some ⟨d, 0, none⟩), .int .i64 n, .int .i64 s] w fun e w' => e = .returned (.tuple #[.pointer none, .int .i64 2]) ∧ Adv Nul w Nul w' := by
  have HSZ := Lib.hid (fun W (r : Dk W F d N s0) => size_dk d N F s0 W r)
  have HD := Lib.hid h
  have hN0 : ((N : Int) == 0) = false := by rw [beq_eq_false_iff_ne]; omega
  have hN1 : (N : Int) ≤ 1100 := by omega
  have hN2 : (1 : Int) ≤ (N : Int) := by omega
  by_cases h1 : 1 ≤ s ∧ s ≤ 64
  · obtain ⟨k, rfl⟩ : ∃ k : Nat, s = (k : Int) := ⟨s.toNat, by omega⟩
    have HNW := Lib.hid (cnew_yes k (by omega) (by omega))
    have hk64 : (k : Int) ≤ 64 := by omega
    have hk1 : (1 : Int) ≤ (k : Int) := by omega
    by_cases h2 : n < 20
    · clear h hb h1 hr hN
      go_enter Tryz.func10, Tryz.ntmps10
      go_wp2_with (first
        | (go_at_call 41; refine (HSZ.out _ HD.out).mono ?_; rintro e w0 ⟨rfl, rfl⟩)
        | (go_at_call 42; refine (HNW.out _).mono ?_; rintro e w1 ⟨r, rfl, h1, a1⟩; have HA1 := Lib.hid a1; clear h1 a1)
        | fail)
      go_ret2
      exact ⟨rfl, HA1.out.nul⟩
    · have h3 : (N : Int) - 2 - n < 1 + (k : Int) := by unfold rightO at hb; omega
      have h2' : 20 ≤ n := by omega
      have hw : IntKind.i64.wrap ((N : Int) - 2 - n) = (N : Int) - 2 - n := by rw [IntKind.wrap_i64]; omega
      clear h hb h1 hr hN h2
      go_enter Tryz.func10, Tryz.ntmps10
      go_wp2_with (first
        | (go_at_call 41; refine (HSZ.out _ HD.out).mono ?_; rintro e w0 ⟨rfl, rfl⟩)
        | (go_at_call 42; refine (HNW.out _).mono ?_; rintro e w1 ⟨r, rfl, h1, a1⟩; have HA1 := Lib.hid a1; have HD1 := Lib.hid (HD.out.far (adv_wk (G := Nul) a1) (fun _ x _ => x)); clear h1 a1)
        | (go_at_call 41; refine (HSZ.out _ HD1.out).mono ?_; rintro e w0 ⟨rfl, rfl⟩)
        | fail)
      go_ret2
      exact ⟨rfl, HA1.out.nul⟩
  · have HNW := Lib.hid (cnew_no s (by omega))
    clear h hb h1 hr hN
    go_enter Tryz.func10, Tryz.ntmps10
    go_wp2_with (first
      | (go_at_call 41; refine (HSZ.out _ HD.out).mono ?_; rintro e w0 ⟨rfl, rfl⟩)
      | (go_at_call 42; refine (HNW.out _).mono ?_; rintro e w1 ⟨rfl, rfl⟩)
      | fail)
    go_ret2
    exact ⟨rfl, Adv.refl _ _⟩
end Go.Proofs.YtcglfknkkeaegaaGreatDoor
namespace Go.Proofs.YtcglfknkkeaegaaGreatDoor
open Go.ChangeShapes Go.WideShapes Go.ChangeAt Go.RowKit

set_option maxRecDepth 3000 in
theorem twf_of_i64 {x : Int} (h : (Lit.int .i64 x).wf = true) : -9223372036854775808 ≤ x ∧ x < 9223372036854775808 := by
  have := bounds_i64 h; omega
set_option maxRecDepth 3000 in
theorem twf_of_u64 {x : Int} (h : (Lit.int .u64 x).wf = true) : ∃ n : Nat, x = (n : Int) ∧ n < 18446744073709551616 := by
  have hb := bounds_u64 h
  exact ⟨x.toNat, by omega, by omega⟩
set_option maxRecDepth 3000 in
theorem open_fileT {H : Type} {enc : TypeId × Value → H} {W : World} {n : Nat} {cs : List Value} {x : DataW H × List MemPlace} (h : DataW.trod enc Tryz.prog W 0 (fun _ => true) true n 35 cs = some x) :
    ∃ i g : Int, cs = [.int .i64 i, .int .i64 g] ∧ (-9223372036854775808 ≤ i ∧ i < 9223372036854775808) ∧ (-9223372036854775808 ≤ g ∧ g < 9223372036854775808) := by
  obtain ⟨zs, m1, _, _, hlen, hzl, hg⟩ := DataW.trod_struct Tryz.underlying35 h
  rw [cellsF_] at hlen
  match cs, hlen with
  | [c1, c2], _ =>
    match zs, hzl with
    | [z0, z1], _ =>
      have g0 := hg 0 _ rfl
      have g1 := hg 1 _ rfl
      simp [cellsI_] at g0 g1
      obtain ⟨a1, e1, _, w1⟩ := DataW.trod_int Tryz.underlying3 g0
      obtain ⟨a2, e2, _, w2⟩ := DataW.trod_int Tryz.underlying3 g1
      simp at e1 e2
      subst e1 e2
      exact ⟨a1, a2, rfl, twf_of_i64 w1, twf_of_i64 w2⟩
set_option maxRecDepth 3000 in
theorem open_blockT {H : Type} {enc : TypeId × Value → H} {W : World} {n : Nat} {cs : List Value} {x : DataW H × List MemPlace} (h : DataW.trod enc Tryz.prog W 0 (fun _ => true) true n 37 cs = some x) :
    ∃ i g a : Int, cs = [.int .i64 i, .int .i64 g, .int .i64 a] ∧ (-9223372036854775808 ≤ i ∧ i < 9223372036854775808) ∧ (-9223372036854775808 ≤ g ∧ g < 9223372036854775808) ∧ (-9223372036854775808 ≤ a ∧ a < 9223372036854775808) := by
  obtain ⟨zs, m1, _, _, hlen, hzl, hg⟩ := DataW.trod_struct Tryz.underlying37 h
  rw [cellsB_] at hlen
  match cs, hlen with
  | [c1, c2, c3], _ =>
    match zs, hzl with
    | [z0, z1], _ =>
      have g0 := hg 0 _ rfl
      have g1 := hg 1 _ rfl
      simp [cellsI_, cellsF_] at g0 g1
      obtain ⟨i, g, e0, w0, w1⟩ := open_fileT g0
      obtain ⟨a, e1, _, w2⟩ := DataW.trod_int Tryz.underlying3 g1
      simp at e0 e1
      obtain ⟨rfl, rfl⟩ := e0
      subst e1
      exact ⟨i, g, a, rfl, w0, w1, twf_of_i64 w2⟩
/-- A slot that came in: its text may be of any length. -/
def SArg (v : Value) : Prop := ∃ x : Slt, v = .agg (tc x) ∧ (∀ t : ByteArray, t.size ≤ 1000 → WfT ⟨x.u, x.i, x.g, x.a, x.v, x.d, t⟩) ∧ x.s.size ≤ maxLen
set_option maxRecDepth 3000 in
theorem open_slot {H : Type} {enc : TypeId × Value → H} {W : World} {base : Nat} {r : Reach} {v : Value} {d : DataW H} {p : List MemPlace} (hv : Value.okWide Tryz.prog W r base 40 v) (h : DataW.Trod enc Tryz.prog W 0 (fun _ => true) true 40 v d p) : SArg v := by
  obtain ⟨cs, rfl, _⟩ := okWide_struct Tryz.underlying40 hv
  obtain ⟨fuel, hf⟩ := h
  obtain ⟨xs, m, _, _, hlen, hxl, hf⟩ := DataW.trod_struct Tryz.underlying40 hf
  rw [cellsQT] at hlen
  have e : (Value.agg cs).cells.toList = cs.toList := rfl
  rw [e] at hlen hf
  obtain ⟨c, hc⟩ : ∃ c, c = cs.toList := ⟨_, rfl⟩
  rw [← hc] at hlen hf
  match c, hlen with
  | [c0, c1, c2, c3, c4, c5, c6], _ =>
    match xs, hxl with
    | [y0, y1, y2, y3, y4], _ =>
      have f0 := hf 0 _ rfl
      have f1 := hf 1 _ rfl
      have f2 := hf 2 _ rfl
      have f3 := hf 3 _ rfl
      have f4 := hf 4 _ rfl
      simp [cellsB_, cellsU_, cellsO_, cellsS_] at f0 f1 f2 f3 f4
      obtain ⟨u, e0, _⟩ := DataW.trod_bool Tryz.underlying4 f0
      obtain ⟨i, g, a, e1, w1, w2, w3⟩ := open_blockT f1
      obtain ⟨v, e2, _, w4⟩ := DataW.trod_int Tryz.underlying38 f2
      obtain ⟨d, e3, _⟩ := DataW.trod_bool Tryz.underlying4 f3
      obtain ⟨s, e4, _, hs⟩ := DataW.trod_string Tryz.underlying9 f4
      simp at e0 e1 e2 e3 e4
      obtain ⟨rfl, rfl, rfl⟩ := e1
      subst e0 e2 e3 e4
      obtain ⟨n, rfl, hn⟩ := twf_of_u64 w4
      refine ⟨⟨u, i, g, a, n, d, s⟩, ?_, fun t ht => ⟨w1, w2, w3, hn, ht⟩, hs⟩
      refine congrArg Value.agg (Array.ext' ?_)
      rw [← hc]
      rfl
set_option maxRecDepth 3000 in
theorem short70 (s : ByteArray) (w : World) (hs : s.size ≤ maxLen) :
    Calls Tryz.prog 32 #[.string s, .int .i64 70] w fun e w' => ∃ t : ByteArray, e = .returned (.string t) ∧ t.size ≤ 70 ∧ w = w' := by
  refine (short_any s 70 w (by decide) hs).mono ?_
  rintro e w' ⟨rfl, rfl⟩
  refine ⟨_, rfl, ?_, rfl⟩
  split
  · simp only [ByteArray.size_extract]; omega
  · omega
end Go.Proofs.YtcglfknkkeaegaaGreatDoor
namespace Go.Proofs.YtcglfknkkeaegaaGreatDoor
open Go.ChangeShapes Go.WideShapes Go.ChangeAt Go.RowKit Go.Maps
instance (N : Nat) (n s : Int) : Decidable (rightO N n s) := by unfold rightO; exact inferInstance
def OpnR15 (W : World) (n s : Int) (N : Nat) (t11 t12 : Value) (wr : World) : Prop := ∃ p e, t11 = .pointer p ∧ t12 = .int .i64 e ∧ ((rightO N n s ∧ (∃ a, p = some a) ∧ e = 0) ∨ (¬ rightO N n s ∧ p = none ∧ e = 2)) ∧ Adv Nul W Nul wr
def fbc (x : Slt) : Array Value := #[.int .i64 x.i, .int .i64 x.g]
set_option maxRecDepth 3000 in
theorem sizeF15 : (Tryz.prog.info? 35).map (·.size) = some 2 := by kernel_rfl
set_option maxRecDepth 3000 in
theorem infoF15 : (Tryz.prog.info? 35).map (fun i => (i.zero, i.size, i.bytes)) = some (some (.agg #[.int .i64 0, .int .i64 0]), 2, 16) := by kernel_rfl
set_option maxRecDepth 3000 in
theorem fbc_one (x : Slt) : (fbc x).all (·.oneCell') = true := by simp [fbc, Value.oneCell']
set_option maxRecDepth 3000 in
theorem Blk.tf1 {w : World} {z : Nat} {t : TypeId} {x : Slt} (h : Blk w z t (tc x)) : w.rangeAt z 1 (fbc x).toList := fun j v hv => by
  have hj : j < 2 := (List.getElem?_eq_some_iff.1 hv).1
  rw [h.cell]
  match j, hj with
  | 0, _ => exact hv
  | 1, _ => exact hv
def pcz : Array Value := #[.pointer none, .pointer none, .int .u64 0, .slice none 0 0, .map none]
set_option maxRecDepth 3000 in
theorem built_pcz : Tryz.prog.built 76 [] = some pcz := by kernel_rfl
/-- in the loop: no cache, the slot's box, and what lies in blocks of our own -/
structure OpS15 (W w : World) (v : Value) (z : Nat) (x : Slt) (L : List (Nat × TypeId × Array Value)) : Prop where
  no : PNo w v
  bz : Blk w z 40 (tc x)
  adv : Adv Nul W Nul w
  bl : ∀ p ∈ L, Blk w p.1 p.2.1 p.2.2
section
variable {W w w' : World} {v : Value} {z : Nat} {x : Slt} {L : List (Nat × TypeId × Array Value)}
set_option maxRecDepth 3000 in
theorem OpS15.step {F' : Nat → Prop} (h : OpS15 W w v z x L) (a : Adv Nul w F' w') : OpS15 W w' v z x L := ⟨h.no.step a, h.bz.over a, h.adv.trans a.nul, fun p hp => (h.bl p hp).over a⟩
set_option maxRecDepth 3000 in
theorem OpS15.put (h : OpS15 W w v z x L) {y : Nat} {t : TypeId} {cs : Array Value} (hb : Blk w y t cs) : OpS15 W w v z x ((y, t, cs) :: L) := ⟨h.no, h.bz, h.adv, fun p hp => by
  rcases List.mem_cons.1 hp with rfl | hp
  · exact hb
  · exact h.bl p hp⟩
set_option maxRecDepth 3000 in
theorem OpS15.k {y20 y18 : Nat} (h : OpS15 W w v z x [(y20, 35, fbc x), (y18, 44, tc zeroT)]) : (Blk w y18 44 (tc zeroT) ∧ Blk w z 40 (tc x)) ∧ Blk w y20 35 (fbc x) := ⟨⟨h.bl (y18, 44, tc zeroT) (by simp), h.bz⟩, h.bl (y20, 35, fbc x) (by simp)⟩
end
def OpnQ15 (W : World) (t16 : Value) (wr : World) : Prop := ∃ k : Nat, t16 = .int .i64 (k : Int) ∧ k ≤ 2 ∧ Adv Nul W Nul wr
set_option maxHeartbeats 25600000 in
set_option maxRecDepth 30000 in
theorem opens15_walk (w : World) (hT : Tz w) (sz : Int) (_ : (Lit.int .i64 sz).wf = true) (n : Int) (hn0 : (Lit.int .i64 n).wf = true) (s : Int) (hs0 : (Lit.int .i64 s).wf = true) (v0 : Value) (h0 : SArg v0) :
    Calls Tryz.prog 6 #[.int .i64 sz, .int .i64 n, .int .i64 s, v0] w fun e w' => e = .returned (.bool true) ∧ Below w.heap.size w w' := by
  obtain ⟨x0, rfl, hw0, hs1⟩ := h0
  obtain ⟨C0, hC0⟩ : ∃ C, C = tc x0 := ⟨_, rfl⟩
  have HSET := Lib.hid (show ∀ t : ByteArray, C0.setIfInBounds 6 (.string t) = tc ⟨x0.u, x0.i, x0.g, x0.a, x0.v, x0.d, t⟩ by rw [hC0]; exact fun t => rfl)
  have HC6 := Lib.hid (show ∀ (z : Nat) (w' : World), Blk w' z 40 C0 → w'.cell? ⟨z, 6, none⟩ = some (.string x0.s) from fun z w' h => by rw [hC0] at h; exact h.c7.all.2.2.2.2.2.2)
  have HW0 := Lib.hid hw0
  have HSH := Lib.hid (fun w => short70 x0.s w hs1)
  have HR := Lib.hid (show (-9223372036854775808 ≤ n ∧ n < 9223372036854775808) ∧ (-9223372036854775808 ≤ s ∧ s < 9223372036854775808) by have h1 := bounds_i64 hn0; have h2 := bounds_i64 hs0; omega)
  have HWI := Lib.hid (fun V => within_any sz 1 200 V (by decide))
  have HTZ := Lib.hid hT
  rw [← hC0]
  clear hC0 hw0 hs1 hn0 hs0 hT
  go_enter Tryz.func6, Tryz.ntmps6
  go_upto_region 3 with (first
    | (refine kop_box rfl _ rfl rfl ?_; intro z w1 hz hb ha; have HB1 := Lib.hid hb; have HA1 := Lib.hid ha; have HZN := Lib.hid hz; have c6 := HC6.out z _ hb; have f6 := hb.frozen 6; clear hz hb ha)
    | (go_at_call 7; refine (HWI.out _).mono ?_; rintro e w1 ⟨y, rfl, y1, y2, y3, rfl⟩; obtain ⟨N, rfl⟩ := Int.eq_ofNat_of_zero_le (show (0 : Int) ≤ y by omega); have HN := Lib.hid (show 1 ≤ N ∧ N ≤ 200 by omega); clear y1 y2 y3)
    | (go_at_call 32; refine (HSH.out _).mono ?_; rintro e w2 ⟨t, rfl, ht, rfl⟩)
    | fail)
  obtain ⟨x, hx⟩ : ∃ x : Slt, x = ⟨x0.u, x0.i, x0.g, x0.a, x0.v, x0.d, t⟩ := ⟨_, rfl⟩
  obtain ⟨W3, hW3⟩ : ∃ W, W = World.setCell w1 ⟨z, 6, none⟩ (.string t) := ⟨_, rfl⟩
  have HB3 := Lib.hid (show Blk W3 z 40 (tc x) by rw [hW3, hx, ← HSET.out t]; exact HB1.out.set_ 6 (.string t))
  have HA3 := Lib.hid (show Adv Nul w Nul W3 by rw [hW3]; exact HA1.out.setCell (p := ⟨z, 6, none⟩) (.inr HZN.out) _)
  have HT3 := Lib.hid (HTZ.out.far HA3.out (fun x => x))
  have H03 := Lib.hid (show 0 < W3.heap.size from Nat.lt_of_lt_of_le HTZ.out.lt HA3.out.size)
  rw [← hW3]
  clear hW3 hx c6 f6 ht HSET HW0 HC6 HB1 HSH HWI HA1 HZN HTZ
  go_upto_region 4 with (first
    | (go_at_call 9; refine (new_r N HN.out.1 (by have := HN.out.2; omega) _).mono ?_; rintro e w3 ⟨d, F, rfl, hd, ha⟩; have HD3 := Lib.hid hd; have HF3 := Lib.hid ha; clear hd ha)
    | fail)
  go_cut [11, 12] (fun t11 t12 w9 => OpnR15 W3 n s N t11 t12 w9)
  case first =>
    by_cases hb : rightO N n s
    · obtain ⟨k, rfl⟩ : ∃ k : Nat, n = (k : Int) := ⟨n.toNat, by have := hb.1; omega⟩
      obtain ⟨m, rfl⟩ : ∃ m : Nat, s = (m : Int) := ⟨s.toNat, by have := hb.2.1; omega⟩
      have hnm : 20 ≤ k ∧ (1 ≤ m ∧ m ≤ 64) ∧ k + 3 + m ≤ N := by unfold rightO at hb; omega
      have HO := Lib.hid (show Calls Tryz.prog 10 #[.pointer (some ⟨d, 0, none⟩), .int .i64 (k : Int), .int .i64 (m : Int)] w3 fun e w' => ∃ c, e = .returned (.tuple #[.pointer (some ⟨c, 0, none⟩), .int .i64 0]) ∧ Adv Nul W3 Nul w' by
        have hl : (List.replicate m zeroT).length = m := List.length_replicate
        have hnew := Lc.new (n := k) (N := N) (m := m) (by have := HN.out; omega)
        obtain ⟨V, txs, ar⟩ := hnew.ar
        have hop := open_good (L := List.replicate m zeroT) (num := 0) (rest := List.replicate (N - 3 - k - m) nou) HD3.out ar.sb_ hnm.1 (by rw [hl]; omega) (by rw [hl]; omega) (by have := HN.out; omega) (by have := ar.top hnew.nn; omega) (PRg.new hnm.2.1.1 hnm.2.1.2).wl (by omega) hnew.hm (HT3.out.far (adv_wk (G := Nul) HF3.out) (fun x => x)) (fun y => by rcases HF3.out.into 0 y with q | q; exact q.elim; have := H03.out; omega)
        rw [hl] at hop
        refine hop.mono ?_
        rintro e w' ⟨E, o⟩
        exact ⟨E.c, o.e, (HF3.out.trans o.adv).nul⟩)
      have HBB := Lib.hid hb
      clear hb hnm
      go_wp2_with (first
        | (go_at_call 10; refine HO.out.mono ?_; rintro e w4 ⟨c, rfl, a4⟩; have HA4 := Lib.hid a4; clear a4)
        | fail)
      go_meet
      exact ⟨_, _, rfl, rfl, .inl ⟨HBB.out, ⟨_, rfl⟩, rfl⟩, HA4.out⟩
    · have HO := Lib.hid (open_bad15 n s HD3.out (by have := HN.out; omega) HR.out.1 hb)
      have HBB := Lib.hid hb
      clear hb
      go_wp2_with (first
        | (go_at_call 10; refine HO.out.mono ?_; rintro e w4 ⟨rfl, ha⟩; have HA4 := Lib.hid (HF3.out.nul.trans ha); clear ha)
        | fail)
      go_meet
      exact ⟨_, _, rfl, rfl, .inr ⟨HBB.out, rfl, rfl⟩, HA4.out⟩
  case rest =>
  obtain ⟨p, e12, rfl, rfl, hpe, ha4⟩ := hcut
  have HPE := Lib.hid hpe
  have HA4 := Lib.hid ha4
  clear hpe ha4 HD3 HF3
  go_upto_region 5 with (fail)
  obtain ⟨B, hB⟩ : ∃ B, B = decide (rightO N n s) := ⟨_, rfl⟩
  have HB := Lib.hid hB
  clear hB
  go_cut [13] (fun t13 w9 => t13 = .bool B ∧ wc = w9)
  case first =>
    have q1 : IntKind.i64.wrap ((N : Int) - 4) = (N : Int) - 4 := by have := HN.out; rw [IntKind.wrap_i64]; omega
    by_cases h1 : 20 ≤ n
    · by_cases h2 : n ≤ (N : Int) - 4
      · have q2 : IntKind.i64.wrap ((N : Int) - n) = (N : Int) - n := by have := HN.out; rw [IntKind.wrap_i64]; omega
        have q3 : IntKind.i64.wrap ((N : Int) - n - 3) = (N : Int) - n - 3 := by have := HN.out; rw [IntKind.wrap_i64]; omega
        by_cases h3 : 1 ≤ s
        · by_cases h4 : s ≤ 64
          · by_cases h5 : s ≤ (N : Int) - n - 3
            · have HE := Lib.hid (show B = true by rw [HB.out]; exact decide_eq_true ⟨h1, ⟨h3, h4⟩, h5⟩)
              as_aux_lemma =>
                go_wp2_with fail
                go_meet
                exact ⟨by first | (rw [HE.out]; done) | (rw [HE.out]; simp; omega), rfl⟩
            · have HE := Lib.hid (show B = false by rw [HB.out]; exact decide_eq_false (fun h => h5 h.2.2))
              as_aux_lemma =>
                go_wp2_with fail
                go_meet
                exact ⟨by first | (rw [HE.out]; done) | (rw [HE.out]; simp; omega), rfl⟩
          · have HE := Lib.hid (show B = false by rw [HB.out]; exact decide_eq_false (fun h => h4 h.2.1.2))
            as_aux_lemma =>
              go_wp2_with fail
              go_meet
              exact ⟨by first | (rw [HE.out]; done) | (rw [HE.out]; simp; omega), rfl⟩
        · have HE := Lib.hid (show B = false by rw [HB.out]; exact decide_eq_false (fun h => h3 h.2.1.1))
          as_aux_lemma =>
            go_wp2_with fail
            go_meet
            exact ⟨by first | (rw [HE.out]; done) | (rw [HE.out]; simp; omega), rfl⟩
      · have HE := Lib.hid (show B = false by rw [HB.out]; exact decide_eq_false (fun h => h2 (by have := h.2.2; have := h.2.1.1; omega)))
        as_aux_lemma =>
          go_wp2_with fail
          go_meet
          exact ⟨by first | (rw [HE.out]; done) | (rw [HE.out]; simp; omega), rfl⟩
    · have HE := Lib.hid (show B = false by rw [HB.out]; exact decide_eq_false (fun h => h1 h.1))
      as_aux_lemma =>
        go_wp2_with fail
        go_meet
        exact ⟨by first | (rw [HE.out]; done) | (rw [HE.out]; simp; omega), rfl⟩
  case rest =>
  obtain ⟨rfl, rfl⟩ := hcut
  go_upto_region 6 with (fail)
  go_cut [80] (fun t80 w9 => t80 = .bool false ∧ wc = w9)
  case first =>
    rcases HPE.out with ⟨c1, ⟨a, rfl⟩, rfl⟩ | ⟨c1, rfl, rfl⟩
    · obtain rfl : B = true := by rw [HB.out]; exact decide_eq_true c1
      clear HPE HB c1
      as_aux_lemma =>
        go_wp2_with fail
        go_meet
        exact ⟨rfl, rfl⟩
    · obtain rfl : B = false := by rw [HB.out]; exact decide_eq_false c1
      clear HPE HB c1
      as_aux_lemma =>
        go_wp2_with fail
        go_meet
        exact ⟨rfl, rfl⟩
  case rest =>
  obtain ⟨rfl, rfl⟩ := hcut
  clear HPE HB HN HR
  go_wp2_with (first
    | (go_at_call 10; refine (open_nil15 n s _).mono ?_; rintro e w5 ⟨rfl, rfl⟩)
    | fail)
  go_loopw [16] (OpnQ15 W3) (fun t _ => 2 - (intOf t).toNat)
  case atStart => exact ⟨0, rfl, by omega, HA4.out⟩
  case round =>
    obtain ⟨k, rfl, hk, ha⟩ := hrel
    have HA := Lib.hid ha
    clear ha HA4
    by_cases hk2 : k < 2
    · have HBZ := Lib.hid (HB3.out.over HA.out)
      have hkI : (k : Int) < 2 := by omega
      have HK := Lib.hid hk2
      go_upto_if 98 with (fail)
      go_cut [16, 17] from 93 to 178 (fun t16 t17 w9 => t16 = .int .i64 (k : Int) ∧ PNo w9 t17 ∧ Adv Nul wr Nul w9)
      case first =>
        by_cases hk1 : k = 1
        · have hb1 : ((k : Int) == 1) = true := by rw [beq_iff_eq]; omega
          have HK1 := Lib.hid hk1
          clear hk1
          go_wp2_with (first
            | (refine kop_zero built_pcz rfl rfl ?_)
            | (refine kop_box (t := 76) rfl _ rfl rfl ?_; intro y w4 hz hb ha; have HZB := Lib.hid hb; have HZA := Lib.hid ha; clear hz hb ha)
            | fail)
          go_meet
          exact ⟨by rw [HK1.out] <;> rfl, .inr ⟨_, rfl, HZB.out.cell 0⟩, HZA.out⟩
        · have hb1 : ((k : Int) == 1) = false := by rw [beq_eq_false_iff_ne]; omega
          clear hk1
          as_aux_lemma =>
            go_wp2_with fail
            go_meet
            exact ⟨rfl, .inl rfl, Adv.refl _ _⟩
      case rest =>
      obtain ⟨rfl, hno, ha17⟩ := hcut
      have HS := Lib.hid (show OpS15 wr wc u17 z x [] from ⟨hno, HBZ.out.over ha17, ha17, fun p hp => by simp at hp⟩)
      clear hno ha17 HBZ
      as_aux_lemma =>
        go_upto_region 19 with (first
          | (refine gop_load (t := 37) (C := bkc (bkT x)) rfl _ rfl z (Blk.tb1 HS.out.bz) rfl Tryz.underlying37 rfl sizeBk rfl ?_)
          | (go_at_call 12; refine (get_no15 HS.out.no _).mono ?_; rintro e _ ⟨rfl, ha⟩; replace HS := Lib.hid (HS.out.step ha); clear ha)
          | (refine kop_alloc rfl rfl infoT ?_; intro y18 wa hz hb ha; have HZ := Lib.hid hz; have HB := Lib.hid hb; have HX := Lib.hid ha; clear hz hb ha)
          | (refine kop_store (t := 44) rfl _ _ rfl y18 HB.out rfl rfl sizeT (tc_size _) (tc_size _) (tc_one _) ?_; intro wb hb ha; replace HS := Lib.hid ((HS.out.step (HX.out.fresh HZ.out ha)).put hb); clear hb ha HZ HB HX)
          | (refine gop_load (t := 35) (C := fbc x) rfl _ rfl z (Blk.tf1 HS.out.bz) rfl Tryz.underlying35 rfl sizeF15 rfl ?_)
          | (refine kop_alloc rfl rfl infoF15 ?_; intro y20 wa hz hb ha; have HZ := Lib.hid hz; have HB := Lib.hid hb; have HX := Lib.hid ha; clear hz hb ha)
          | (refine kop_store (t := 35) rfl _ _ rfl y20 HB.out rfl rfl sizeF15 rfl rfl (fbc_one x) ?_; intro wb hb ha; replace HS := Lib.hid ((HS.out.step (HX.out.fresh HZ.out ha)).put hb); clear hb ha HZ HB HX)
          | fail)
        replace HS := Lib.hid (HS.out.step (Adv.refl Nul _).drew)
        have KK := Lib.hid HS.out.k
        refine rstart (S := (fun w' => (Blk w' y18 44 (tc zeroT) ∧ Blk w' z 40 (tc x)) ∧ Blk w' y20 35 (fbc x))) (by first | with_reducible exact KK.out) (fun hH => ?_)
        refine wpAnyH_take (i := 0) (oi := ⟨some 111, .load 44 (.tmp 18), 44, "law.go:256", #[], none⟩) (v := .agg (tc zeroT)) rfl (by kernel_rfl) (by kernel_rfl) (by kernel_rfl) (fun _ _ _ h => h) (kyl_load rfl (.tmp 18) rfl y18 rfl (fun _ h => h.1.1) Tryz.underlying44 rfl sizeT (tc_size _)) hH.out ?_
        simp only [Act.put, sA, sB, sC]
        refine rdy (i := 1) (oi := ⟨some 112, .call ⟨.value (.func 33), #[.tmp 111], #[44]⟩, 4, "law.go:256", #[⟨0, .data⟩], none⟩) (fun K hK => ?_)
        go_simp
        refine (free_any zeroT zeroT_wf _).mono ?_
        rintro e w9 ⟨rfl, ha⟩
        rw [decide_eq_true (Eq.refl zeroT)]
        replace HS := Lib.hid (HS.out.step ha)
        replace KK := Lib.hid HS.out.k
        clear ha
        go_wp2_with fail
        refine hK.out _ _ (by first | with_reducible exact KK.out) (fun hHeld => ?_)
        replace hH := Lib.hid hHeld
        clear hK K hHeld
        try simp only [Act.put, sA, sB, sC]
        refine tk (i := 2) (oi := ⟨some 113, .unOp .not 4 (.tmp 112), 4, "law.go:256", #[⟨1, .data⟩], none⟩) hH.out (by rintro w ⟨⟨s1, s2⟩, s3⟩; go_simp <;> with_reducible rfl) ?_
        simp only [Act.put, sA, sB, sC]
        refine tk (i := 3) (oi := ⟨some 114, .move (.tmp 113), 4, "law.go:256", #[⟨2, .data⟩, ⟨1, .chain⟩], none⟩) hH.out (by rintro w ⟨⟨s1, s2⟩, s3⟩; go_simp <;> with_reducible rfl) ?_
        simp only [Act.put, sA, sB, sC]
        refine tk (i := 4) (oi := { dst := some 115, op := .move (.tmp 19), type := 4, pos := "law.go:256", after := #[⟨3, .guard⟩], guard := some (3, false) }) hH.out (by rintro w ⟨⟨s1, s2⟩, s3⟩; go_simp <;> with_reducible rfl) ?_
        simp only [Act.put, sA, sB, sC]
        refine tk (i := 5) (oi := ⟨some 116, .pick (.tmp 114) (.const (Go.Value.bool true)) (.tmp 115), 4, "law.go:256", #[⟨3, .data⟩, ⟨4, .data⟩], none⟩) hH.out (by rintro w ⟨⟨s1, s2⟩, s3⟩; go_simp <;> with_reducible rfl) ?_
        simp only [Act.put, sA, sB, sC]
        refine tk (i := 6) (oi := ⟨some 117, .move (.tmp 116), 4, "law.go:256", #[⟨5, .data⟩, ⟨3, .chain⟩], none⟩) hH.out (by rintro w ⟨⟨s1, s2⟩, s3⟩; go_simp <;> with_reducible rfl) ?_
        simp only [Act.put, sA, sB, sC]
        refine tk (i := 7) (oi := { dst := some 118, op := .move (.tmp 17), type := 29, pos := "law.go:256", after := #[⟨6, .guard⟩], guard := some (6, false) }) hH.out (by rintro w ⟨⟨s1, s2⟩, s3⟩; go_simp <;> with_reducible rfl) ?_
        simp only [Act.put, sA, sB, sC]
        refine wpAnyH_take (i := 8) (oi := { dst := some 119, op := .load 40 (.tmp 7), type := 40, pos := "law.go:256", after := #[⟨6, .guard⟩], guard := some (6, false) }) (v := .agg (tc x)) rfl (by kernel_rfl) (by kernel_rfl) (by kernel_rfl) (fun _ _ _ h => h) (kyl_load rfl (.tmp 7) rfl z rfl (fun _ h => h.1.2) Tryz.underlying40 rfl sizeQT (tc_size _)) hH.out ?_
        simp only [Act.put, sA, sB, sC]
        refine tk (i := 11) (oi := { dst := some 122, op := .move (.tmp 15), type := 26, pos := "law.go:256", after := #[⟨6, .guard⟩], guard := some (6, false) }) hH.out (by rintro w ⟨⟨s1, s2⟩, s3⟩; go_simp <;> with_reducible rfl) ?_
        simp only [Act.put, sA, sB, sC]
        refine rdy (i := 9) (oi := { dst := some 120, op := .call ⟨.value (.func 14), #[.tmp 119], #[40]⟩, type := 44, pos := "law.go:256", after := #[⟨8, .data⟩, ⟨6, .chain⟩, ⟨6, .guard⟩], guard := some (6, false) }) (fun K hK => ?_)
        go_simp
        refine (mine15_any x _).mono ?_
        rintro e w9 ⟨rfl, ha⟩
        replace HS := Lib.hid (HS.out.step ha)
        replace KK := Lib.hid HS.out.k
        clear ha
        go_wp2_with fail
        refine hK.out _ _ (by first | with_reducible exact KK.out) (fun hHeld => ?_)
        replace hH := Lib.hid hHeld
        clear hK K hHeld
        try simp only [Act.put, sA, sB, sC]
        refine rdy (i := 10) (oi := { dst := some 121, op := .call ⟨.value (.func 34), #[.tmp 118, .tmp 120], #[29, 44]⟩, type := 26, pos := "law.go:256", after := #[⟨7, .data⟩, ⟨9, .data⟩, ⟨9, .chain⟩, ⟨6, .guard⟩], guard := some (6, false) }) (fun K hK => ?_)
        go_simp
        refine (put_no15 HS.out.no _).mono ?_
        rintro e w9 ⟨rfl, ha⟩
        replace HS := Lib.hid (HS.out.step ha)
        replace KK := Lib.hid HS.out.k
        clear ha
        go_wp2_with fail
        refine hK.out _ _ (by first | with_reducible exact KK.out) (fun hHeld => ?_)
        replace hH := Lib.hid hHeld
        clear hK K hHeld
        try simp only [Act.put, sA, sB, sC]
        refine tk (i := 12) (oi := { dst := some 123, op := .binOp .neq 26 (.tmp 121) (.tmp 122) 26, type := 4, pos := "law.go:256", after := #[⟨10, .data⟩, ⟨11, .data⟩, ⟨6, .guard⟩], guard := some (6, false) }) hH.out (by rintro w ⟨⟨s1, s2⟩, s3⟩; go_simp <;> with_reducible rfl) ?_
        simp only [Act.put, sA, sB, sC]
        refine tk (i := 13) (oi := ⟨some 124, .pick (.tmp 117) (.const (Go.Value.bool true)) (.tmp 123), 4, "law.go:256", #[⟨6, .data⟩, ⟨12, .data⟩], none⟩) hH.out (by rintro w ⟨⟨s1, s2⟩, s3⟩; go_simp <;> with_reducible rfl) ?_
        simp only [Act.put, sA, sB, sC]
        refine tk (i := 14) (oi := ⟨some 125, .move (.tmp 124), 4, "law.go:256", #[⟨13, .data⟩, ⟨10, .chain⟩], none⟩) hH.out (by rintro w ⟨⟨s1, s2⟩, s3⟩; go_simp <;> with_reducible rfl) ?_
        simp only [Act.put, sA, sB, sC]
        refine tk (i := 15) (oi := { dst := some 126, op := .move (.tmp 17), type := 29, pos := "law.go:256", after := #[⟨14, .guard⟩], guard := some (14, false) }) hH.out (by rintro w ⟨⟨s1, s2⟩, s3⟩; go_simp <;> with_reducible rfl) ?_
        simp only [Act.put, sA, sB, sC]
        refine tk (i := 16) (oi := { dst := some 127, op := .fieldAddr 40 (.tmp 7) 1, type := 0, pos := "law.go:256", after := #[⟨14, .guard⟩], guard := some (14, false) }) hH.out (by rintro w ⟨⟨s1, s2⟩, s3⟩; go_simp <;> with_reducible rfl) ?_
        simp only [Act.put, sA, sB, sC]
        refine wpAnyH_take (i := 17) (oi := { dst := some 128, op := .load 37 (.tmp 127), type := 37, pos := "law.go:256", after := #[⟨16, .data⟩, ⟨14, .guard⟩], guard := some (14, false) }) (v := .agg (bkc (bkT x))) rfl (by kernel_rfl) (by kernel_rfl) (by kernel_rfl) (fun _ _ _ h => h) (gyl_load rfl (.tmp 127) rfl z rfl (fun _ h => h.1.2.tb1) Tryz.underlying37 rfl sizeBk rfl) hH.out ?_
        simp only [Act.put, sA, sB, sC]
        refine tk (i := 19) (oi := { dst := some 130, op := .move (.tmp 15), type := 26, pos := "law.go:256", after := #[⟨14, .guard⟩], guard := some (14, false) }) hH.out (by rintro w ⟨⟨s1, s2⟩, s3⟩; go_simp <;> with_reducible rfl) ?_
        simp only [Act.put, sA, sB, sC]
        refine rdy (i := 18) (oi := { dst := some 129, op := .call ⟨.value (.func 35), #[.tmp 126, .tmp 128], #[29, 37]⟩, type := 26, pos := "law.go:256", after := #[⟨15, .data⟩, ⟨17, .data⟩, ⟨14, .chain⟩, ⟨14, .guard⟩], guard := some (14, false) }) (fun K hK => ?_)
        go_simp
        refine (drop_no15 HS.out.no _).mono ?_
        rintro e w9 ⟨rfl, ha⟩
        replace HS := Lib.hid (HS.out.step ha)
        replace KK := Lib.hid HS.out.k
        clear ha
        go_wp2_with fail
        refine hK.out _ _ (by first | with_reducible exact KK.out) (fun hHeld => ?_)
        replace hH := Lib.hid hHeld
        clear hK K hHeld
        try simp only [Act.put, sA, sB, sC]
        refine tk (i := 20) (oi := { dst := some 131, op := .binOp .neq 26 (.tmp 129) (.tmp 130) 26, type := 4, pos := "law.go:256", after := #[⟨18, .data⟩, ⟨19, .data⟩, ⟨14, .guard⟩], guard := some (14, false) }) hH.out (by rintro w ⟨⟨s1, s2⟩, s3⟩; go_simp <;> with_reducible rfl) ?_
        simp only [Act.put, sA, sB, sC]
        refine tk (i := 21) (oi := ⟨some 132, .pick (.tmp 125) (.const (Go.Value.bool true)) (.tmp 131), 4, "law.go:256", #[⟨14, .data⟩, ⟨20, .data⟩], none⟩) hH.out (by rintro w ⟨⟨s1, s2⟩, s3⟩; go_simp <;> with_reducible rfl) ?_
        simp only [Act.put, sA, sB, sC]
        refine tk (i := 22) (oi := ⟨some 133, .move (.tmp 132), 4, "law.go:256", #[⟨21, .data⟩, ⟨18, .chain⟩], none⟩) hH.out (by rintro w ⟨⟨s1, s2⟩, s3⟩; go_simp <;> with_reducible rfl) ?_
        simp only [Act.put, sA, sB, sC]
        refine tk (i := 23) (oi := { dst := some 134, op := .move (.tmp 17), type := 29, pos := "law.go:256", after := #[⟨22, .guard⟩], guard := some (22, false) }) hH.out (by rintro w ⟨⟨s1, s2⟩, s3⟩; go_simp <;> with_reducible rfl) ?_
        simp only [Act.put, sA, sB, sC]
        refine wpAnyH_take (i := 24) (oi := { dst := some 135, op := .load 35 (.tmp 20), type := 35, pos := "law.go:256", after := #[⟨22, .guard⟩], guard := some (22, false) }) (v := .agg (fbc x)) rfl (by kernel_rfl) (by kernel_rfl) (by kernel_rfl) (fun _ _ _ h => h) (kyl_load rfl (.tmp 20) rfl y20 rfl (fun _ h => h.2) Tryz.underlying35 rfl sizeF15 rfl) hH.out ?_
        simp only [Act.put, sA, sB, sC]
        refine tk (i := 26) (oi := { dst := some 137, op := .move (.tmp 15), type := 26, pos := "law.go:256", after := #[⟨22, .guard⟩], guard := some (22, false) }) hH.out (by rintro w ⟨⟨s1, s2⟩, s3⟩; go_simp <;> with_reducible rfl) ?_
        simp only [Act.put, sA, sB, sC]
        refine rdy (i := 25) (oi := { dst := some 136, op := .call ⟨.value (.func 36), #[.tmp 134, .tmp 135], #[29, 35]⟩, type := 26, pos := "law.go:256", after := #[⟨23, .data⟩, ⟨24, .data⟩, ⟨22, .chain⟩, ⟨22, .guard⟩], guard := some (22, false) }) (fun K hK => ?_)
        go_simp
        refine (dropfile_no15 HS.out.no _ _).mono ?_
        rintro e w9 ⟨rfl, ha⟩
        replace HS := Lib.hid (HS.out.step ha)
        replace KK := Lib.hid HS.out.k
        clear ha
        go_wp2_with fail
        refine hK.out _ _ (by first | with_reducible exact KK.out) (fun hHeld => ?_)
        replace hH := Lib.hid hHeld
        clear hK K hHeld
        try simp only [Act.put, sA, sB, sC]
        refine tk (i := 27) (oi := { dst := some 138, op := .binOp .neq 26 (.tmp 136) (.tmp 137) 26, type := 4, pos := "law.go:256", after := #[⟨25, .data⟩, ⟨26, .data⟩, ⟨22, .guard⟩], guard := some (22, false) }) hH.out (by rintro w ⟨⟨s1, s2⟩, s3⟩; go_simp <;> with_reducible rfl) ?_
        simp only [Act.put, sA, sB, sC]
        refine tk (i := 28) (oi := ⟨some 139, .pick (.tmp 133) (.const (Go.Value.bool true)) (.tmp 138), 4, "law.go:256", #[⟨22, .data⟩, ⟨27, .data⟩], none⟩) hH.out (by rintro w ⟨⟨s1, s2⟩, s3⟩; go_simp <;> with_reducible rfl) ?_
        simp only [Act.put, sA, sB, sC]
        refine tk (i := 29) (oi := ⟨some 140, .move (.tmp 139), 4, "law.go:256", #[⟨28, .data⟩, ⟨25, .chain⟩], none⟩) hH.out (by rintro w ⟨⟨s1, s2⟩, s3⟩; go_simp <;> with_reducible rfl) ?_
        simp only [Act.put, sA, sB, sC]
        refine tk (i := 30) (oi := { dst := some 141, op := .move (.tmp 17), type := 29, pos := "law.go:256", after := #[⟨29, .guard⟩], guard := some (29, false) }) hH.out (by rintro w ⟨⟨s1, s2⟩, s3⟩; go_simp <;> with_reducible rfl) ?_
        simp only [Act.put, sA, sB, sC]
        refine wpAnyH_take (i := 31) (oi := { dst := some 142, op := .load 35 (.tmp 20), type := 35, pos := "law.go:256", after := #[⟨29, .guard⟩], guard := some (29, false) }) (v := .agg (fbc x)) rfl (by kernel_rfl) (by kernel_rfl) (by kernel_rfl) (fun _ _ _ h => h) (kyl_load rfl (.tmp 20) rfl y20 rfl (fun _ h => h.2) Tryz.underlying35 rfl sizeF15 rfl) hH.out ?_
        simp only [Act.put, sA, sB, sC]
        refine tk (i := 33) (oi := { dst := some 144, op := .move (.tmp 15), type := 26, pos := "law.go:256", after := #[⟨29, .guard⟩], guard := some (29, false) }) hH.out (by rintro w ⟨⟨s1, s2⟩, s3⟩; go_simp <;> with_reducible rfl) ?_
        simp only [Act.put, sA, sB, sC]
        refine rdy (i := 32) (oi := { dst := some 143, op := .call ⟨.value (.func 37), #[.tmp 141, .tmp 142, .const (Go.Value.int Go.IntKind.u64 1)], #[29, 35, 38]⟩, type := 26, pos := "law.go:256", after := #[⟨30, .data⟩, ⟨31, .data⟩, ⟨29, .chain⟩, ⟨29, .guard⟩], guard := some (29, false) }) (fun K hK => ?_)
        go_simp
        refine (retag_no15 HS.out.no _ _ _).mono ?_
        rintro e w9 ⟨rfl, ha⟩
        replace HS := Lib.hid (HS.out.step ha)
        replace KK := Lib.hid HS.out.k
        clear ha
        go_wp2_with fail
        refine hK.out _ _ (by first | with_reducible exact KK.out) (fun hHeld => ?_)
        replace hH := Lib.hid hHeld
        clear hK K hHeld
        try simp only [Act.put, sA, sB, sC]
        refine tk (i := 34) (oi := { dst := some 145, op := .binOp .neq 26 (.tmp 143) (.tmp 144) 26, type := 4, pos := "law.go:256", after := #[⟨32, .data⟩, ⟨33, .data⟩, ⟨29, .guard⟩], guard := some (29, false) }) hH.out (by rintro w ⟨⟨s1, s2⟩, s3⟩; go_simp <;> with_reducible rfl) ?_
        simp only [Act.put, sA, sB, sC]
        refine tk (i := 35) (oi := ⟨some 146, .pick (.tmp 140) (.const (Go.Value.bool true)) (.tmp 145), 4, "law.go:256", #[⟨29, .data⟩, ⟨34, .data⟩], none⟩) hH.out (by rintro w ⟨⟨s1, s2⟩, s3⟩; go_simp <;> with_reducible rfl) ?_
        simp only [Act.put, sA, sB, sC]
        refine tk (i := 36) (oi := ⟨some 147, .move (.tmp 146), 4, "law.go:256", #[⟨35, .data⟩, ⟨32, .chain⟩], none⟩) hH.out (by rintro w ⟨⟨s1, s2⟩, s3⟩; go_simp <;> with_reducible rfl) ?_
        simp only [Act.put, sA, sB, sC]
        refine tk (i := 37) (oi := { dst := some 148, op := .move (.tmp 17), type := 29, pos := "law.go:256", after := #[⟨36, .guard⟩], guard := some (36, false) }) hH.out (by rintro w ⟨⟨s1, s2⟩, s3⟩; go_simp <;> with_reducible rfl) ?_
        simp only [Act.put, sA, sB, sC]
        refine tk (i := 39) (oi := { dst := some 150, op := .move (.tmp 15), type := 26, pos := "law.go:256", after := #[⟨36, .guard⟩], guard := some (36, false) }) hH.out (by rintro w ⟨⟨s1, s2⟩, s3⟩; go_simp <;> with_reducible rfl) ?_
        simp only [Act.put, sA, sB, sC]
        refine rdy (i := 38) (oi := { dst := some 149, op := .call ⟨.value (.func 38), #[.tmp 148, .const (Go.Value.int Go.IntKind.u64 1)], #[29, 38]⟩, type := 26, pos := "law.go:256", after := #[⟨37, .data⟩, ⟨36, .chain⟩, ⟨36, .guard⟩], guard := some (36, false) }) (fun K hK => ?_)
        go_simp
        refine (setnumber_no15 HS.out.no _).mono ?_
        rintro e w9 ⟨rfl, hw⟩
        subst hw
        go_wp2_with fail
        refine hK.out _ _ (by first | with_reducible exact KK.out) (fun hHeld => ?_)
        replace hH := Lib.hid hHeld
        clear hK K hHeld
        try simp only [Act.put, sA, sB, sC]
        refine tk (i := 40) (oi := { dst := some 151, op := .binOp .neq 26 (.tmp 149) (.tmp 150) 26, type := 4, pos := "law.go:256", after := #[⟨38, .data⟩, ⟨39, .data⟩, ⟨36, .guard⟩], guard := some (36, false) }) hH.out (by rintro w ⟨⟨s1, s2⟩, s3⟩; go_simp <;> with_reducible rfl) ?_
        simp only [Act.put, sA, sB, sC]
        refine tk (i := 41) (oi := ⟨some 152, .pick (.tmp 147) (.const (Go.Value.bool true)) (.tmp 151), 4, "law.go:256", #[⟨36, .data⟩, ⟨40, .data⟩], none⟩) hH.out (by rintro w ⟨⟨s1, s2⟩, s3⟩; go_simp <;> with_reducible rfl) ?_
        simp only [Act.put, sA, sB, sC]
        refine tk (i := 42) (oi := ⟨some 153, .move (.tmp 152), 4, "law.go:256", #[⟨41, .data⟩, ⟨38, .chain⟩], none⟩) hH.out (by rintro w ⟨⟨s1, s2⟩, s3⟩; go_simp <;> with_reducible rfl) ?_
        simp only [Act.put, sA, sB, sC]
        refine tk (i := 43) (oi := { dst := some 154, op := .move (.tmp 17), type := 29, pos := "law.go:256", after := #[⟨42, .guard⟩], guard := some (42, false) }) hH.out (by rintro w ⟨⟨s1, s2⟩, s3⟩; go_simp <;> with_reducible rfl) ?_
        simp only [Act.put, sA, sB, sC]
        refine tk (i := 45) (oi := { dst := some 156, op := .move (.tmp 15), type := 26, pos := "law.go:256", after := #[⟨42, .guard⟩], guard := some (42, false) }) hH.out (by rintro w ⟨⟨s1, s2⟩, s3⟩; go_simp <;> with_reducible rfl) ?_
        simp only [Act.put, sA, sB, sC]
        refine rdy (i := 44) (oi := { dst := some 155, op := .call ⟨.value (.func 39), #[.tmp 154], #[29]⟩, type := 26, pos := "law.go:256", after := #[⟨43, .data⟩, ⟨42, .chain⟩, ⟨42, .guard⟩], guard := some (42, false) }) (fun K hK => ?_)
        go_simp
        refine (sync_no15 HS.out.no).mono ?_
        rintro e w9 ⟨rfl, hw⟩
        subst hw
        go_wp2_with fail
        refine hK.out _ _ (by first | with_reducible exact KK.out) (fun hHeld => ?_)
        replace hH := Lib.hid hHeld
        clear hK K hHeld
        try simp only [Act.put, sA, sB, sC]
        refine tk (i := 46) (oi := { dst := some 157, op := .binOp .neq 26 (.tmp 155) (.tmp 156) 26, type := 4, pos := "law.go:256", after := #[⟨44, .data⟩, ⟨45, .data⟩, ⟨42, .guard⟩], guard := some (42, false) }) hH.out (by rintro w ⟨⟨s1, s2⟩, s3⟩; go_simp <;> with_reducible rfl) ?_
        simp only [Act.put, sA, sB, sC]
        refine tk (i := 47) (oi := ⟨some 158, .pick (.tmp 153) (.const (Go.Value.bool true)) (.tmp 157), 4, "law.go:256", #[⟨42, .data⟩, ⟨46, .data⟩], none⟩) hH.out (by rintro w ⟨⟨s1, s2⟩, s3⟩; go_simp <;> with_reducible rfl) ?_
        simp only [Act.put, sA, sB, sC]
        refine tk (i := 48) (oi := ⟨some 159, .move (.tmp 158), 4, "law.go:256", #[⟨47, .data⟩, ⟨44, .chain⟩], none⟩) hH.out (by rintro w ⟨⟨s1, s2⟩, s3⟩; go_simp <;> with_reducible rfl) ?_
        simp only [Act.put, sA, sB, sC]
        refine tk (i := 49) (oi := { dst := some 160, op := .move (.tmp 17), type := 29, pos := "law.go:256", after := #[⟨48, .guard⟩], guard := some (48, false) }) hH.out (by rintro w ⟨⟨s1, s2⟩, s3⟩; go_simp <;> with_reducible rfl) ?_
        simp only [Act.put, sA, sB, sC]
        refine tk (i := 52) (oi := { dst := some 163, op := .move (.tmp 17), type := 29, pos := "law.go:256", after := #[⟨48, .guard⟩], guard := some (48, false) }) hH.out (by rintro w ⟨⟨s1, s2⟩, s3⟩; go_simp <;> with_reducible rfl) ?_
        simp only [Act.put, sA, sB, sC]
        refine tk (i := 56) (oi := { dst := some 167, op := .move (.tmp 17), type := 29, pos := "law.go:256", after := #[⟨48, .guard⟩], guard := some (48, false) }) hH.out (by rintro w ⟨⟨s1, s2⟩, s3⟩; go_simp <;> with_reducible rfl) ?_
        simp only [Act.put, sA, sB, sC]
        refine wpAnyH_take (i := 57) (oi := { dst := some 168, op := .load 35 (.tmp 20), type := 35, pos := "law.go:256", after := #[⟨48, .guard⟩], guard := some (48, false) }) (v := .agg (fbc x)) rfl (by kernel_rfl) (by kernel_rfl) (by kernel_rfl) (fun _ _ _ h => h) (kyl_load rfl (.tmp 20) rfl y20 rfl (fun _ h => h.2) Tryz.underlying35 rfl sizeF15 rfl) hH.out ?_
        simp only [Act.put, sA, sB, sC]
        refine rdy (i := 50) (oi := { dst := some 161, op := .call ⟨.value (.func 29), #[.tmp 160], #[29]⟩, type := 57, pos := "law.go:256", after := #[⟨49, .data⟩, ⟨48, .chain⟩, ⟨48, .guard⟩], guard := some (48, false) }) (fun K hK => ?_)
        go_simp
        refine (dirty_no15 HS.out.no).mono ?_
        rintro e w9 ⟨rfl, hw⟩
        subst hw
        go_wp2_with fail
        refine hK.out _ _ (by first | with_reducible exact KK.out) (fun hHeld => ?_)
        replace hH := Lib.hid hHeld
        clear hK K hHeld
        try simp only [Act.put, sA, sB, sC]
        refine tk (i := 51) (oi := { dst := some 162, op := .call ⟨.builtin .len, #[.tmp 161], #[57]⟩, type := 3, pos := "law.go:256", after := #[⟨50, .data⟩, ⟨48, .guard⟩], guard := some (48, false) }) hH.out (by rintro w ⟨⟨s1, s2⟩, s3⟩; go_simp <;> with_reducible rfl) ?_
        simp only [Act.put, sA, sB, sC]
        refine rdy (i := 53) (oi := { dst := some 164, op := .call ⟨.value (.func 30), #[.tmp 163], #[29]⟩, type := 57, pos := "law.go:256", after := #[⟨52, .data⟩, ⟨50, .chain⟩, ⟨48, .guard⟩], guard := some (48, false) }) (fun K hK => ?_)
        go_simp
        refine (all_no15 HS.out.no).mono ?_
        rintro e w9 ⟨rfl, hw⟩
        subst hw
        go_wp2_with fail
        refine hK.out _ _ (by first | with_reducible exact KK.out) (fun hHeld => ?_)
        replace hH := Lib.hid hHeld
        clear hK K hHeld
        try simp only [Act.put, sA, sB, sC]
        refine tk (i := 54) (oi := { dst := some 165, op := .call ⟨.builtin .len, #[.tmp 164], #[57]⟩, type := 3, pos := "law.go:256", after := #[⟨53, .data⟩, ⟨48, .guard⟩], guard := some (48, false) }) hH.out (by rintro w ⟨⟨s1, s2⟩, s3⟩; go_simp <;> with_reducible rfl) ?_
        simp only [Act.put, sA, sB, sC]
        refine tk (i := 55) (oi := { dst := some 166, op := .binOp .add 3 (.tmp 162) (.tmp 165) 3, type := 3, pos := "law.go:256", after := #[⟨51, .data⟩, ⟨54, .data⟩, ⟨48, .guard⟩], guard := some (48, false) }) hH.out (by rintro w ⟨⟨s1, s2⟩, s3⟩; go_simp <;> with_reducible rfl) ?_
        simp only [Act.put, sA, sB, sC]
        refine rdy (i := 58) (oi := { dst := some 169, op := .call ⟨.value (.func 21), #[.tmp 167, .tmp 168], #[29, 35]⟩, type := 57, pos := "law.go:256", after := #[⟨56, .data⟩, ⟨57, .data⟩, ⟨53, .chain⟩, ⟨48, .guard⟩], guard := some (48, false) }) (fun K hK => ?_)
        go_simp
        refine (of_no15 HS.out.no _ _).mono ?_
        rintro e w9 ⟨rfl, ha⟩
        replace HS := Lib.hid (HS.out.step ha)
        replace KK := Lib.hid HS.out.k
        clear ha
        go_wp2_with fail
        refine hK.out _ _ (by first | with_reducible exact KK.out) (fun hHeld => ?_)
        replace hH := Lib.hid hHeld
        clear hK K hHeld
        try simp only [Act.put, sA, sB, sC]
        refine tk (i := 59) (oi := { dst := some 170, op := .call ⟨.builtin .len, #[.tmp 169], #[57]⟩, type := 3, pos := "law.go:256", after := #[⟨58, .data⟩, ⟨48, .guard⟩], guard := some (48, false) }) hH.out (by rintro w ⟨⟨s1, s2⟩, s3⟩; go_simp <;> with_reducible rfl) ?_
        simp only [Act.put, sA, sB, sC]
        refine tk (i := 60) (oi := { dst := some 171, op := .binOp .add 3 (.tmp 166) (.tmp 170) 3, type := 3, pos := "law.go:256", after := #[⟨55, .data⟩, ⟨59, .data⟩, ⟨48, .guard⟩], guard := some (48, false) }) hH.out (by rintro w ⟨⟨s1, s2⟩, s3⟩; go_simp <;> with_reducible rfl) ?_
        simp only [Act.put, sA, sB, sC]
        refine tk (i := 61) (oi := { dst := some 172, op := .binOp .gtr 3 (.tmp 171) (.const (Go.Value.int Go.IntKind.i64 0)) 3, type := 4, pos := "law.go:256", after := #[⟨60, .data⟩, ⟨48, .guard⟩], guard := some (48, false) }) hH.out (by rintro w ⟨⟨s1, s2⟩, s3⟩; go_simp <;> with_reducible rfl) ?_
        simp only [Act.put, sA, sB, sC]
        refine tk (i := 62) (oi := ⟨some 173, .pick (.tmp 159) (.const (Go.Value.bool true)) (.tmp 172), 4, "law.go:256", #[⟨48, .data⟩, ⟨61, .data⟩], none⟩) hH.out (by rintro w ⟨⟨s1, s2⟩, s3⟩; go_simp <;> with_reducible rfl) ?_
        simp only [Act.put, sA, sB, sC]
        refine tk (i := 63) (oi := ⟨some 174, .move (.tmp 173), 4, "law.go:256", #[⟨62, .data⟩, ⟨58, .chain⟩], none⟩) hH.out (by rintro w ⟨⟨s1, s2⟩, s3⟩; go_simp <;> with_reducible rfl) ?_
        simp only [Act.put, sA, sB, sC]
        refine tk (i := 64) (oi := { dst := some 175, op := .move (.tmp 17), type := 29, pos := "law.go:256", after := #[⟨63, .guard⟩], guard := some (63, false) }) hH.out (by rintro w ⟨⟨s1, s2⟩, s3⟩; go_simp <;> with_reducible rfl) ?_
        simp only [Act.put, sA, sB, sC]
        refine rdy (i := 65) (oi := { dst := some 176, op := .call ⟨.value (.func 40), #[.tmp 175], #[29]⟩, type := 38, pos := "law.go:256", after := #[⟨64, .data⟩, ⟨63, .chain⟩, ⟨63, .guard⟩], guard := some (63, false) }) (fun K hK => ?_)
        go_simp
        refine (number_no15 HS.out.no).mono ?_
        rintro e w9 ⟨rfl, hw⟩
        subst hw
        go_wp2_with fail
        refine hK.out _ _ (by first | with_reducible exact KK.out) (fun hHeld => ?_)
        replace hH := Lib.hid hHeld
        clear hK K hHeld
        try simp only [Act.put, sA, sB, sC]
        refine tk (i := 66) (oi := { dst := some 177, op := .binOp .neq 38 (.tmp 176) (.const (Go.Value.int Go.IntKind.u64 0)) 38, type := 4, pos := "law.go:256", after := #[⟨65, .data⟩, ⟨63, .guard⟩], guard := some (63, false) }) hH.out (by rintro w ⟨⟨s1, s2⟩, s3⟩; go_simp <;> with_reducible rfl) ?_
        simp only [Act.put, sA, sB, sC]
        refine tk (i := 67) (oi := ⟨some 178, .pick (.tmp 174) (.const (Go.Value.bool true)) (.tmp 177), 4, "law.go:256", #[⟨63, .data⟩, ⟨66, .data⟩], none⟩) hH.out (by rintro w ⟨⟨s1, s2⟩, s3⟩; go_simp <;> with_reducible rfl) ?_
        simp only [Act.put, sA, sB, sC]
        refine wpAnyH_done (by kernel_rfl) ?_ _
        go_wp2_with fail
        exact ⟨⟨k + 1, by simp, HK.out, HA.out.trans HS.out.adv⟩, by have := HK.out; simp [intOf] <;> omega⟩
    · obtain rfl : k = 2 := by omega
      clear hk hk2
      have HTE := Lib.hid (HT3.out.far HA.out (fun x => x))
      go_wp2_with (first
        | (go_at_call 23; refine (lives15_any _ HTE.out).mono ?_; rintro e w9 ⟨rfl, a9⟩; have HA9 := Lib.hid ((HA3.out.trans HA.out).trans a9); clear a9)
        | fail)
      go_ret
      exact ⟨rfl, HA9.out.toBelow⟩
end Go.Proofs.YtcglfknkkeaegaaGreatDoor
