/- The program's areRight: thirteen fields. -/
import Derived.Test.YtpgeebhepegpaaaMsB
import Derived.Test.YtpgeebhepegpaaaMsK
namespace Go.Proofs.Ytpgeebhepegpaaa
open Go.ChangeShapes Go.WideShapes Go.ChangeAt Go.RowKit

/-- sizes that may be -/
structure WfM (m : Ms) : Prop where
  ss : m.ss < 18446744073709551616
  sq : m.sq < 18446744073709551616
  bo : m.bo < 18446744073709551616
  ve : m.ve < 18446744073709551616
  nm : m.nm.size ≤ 1000
  ot : m.ot.size ≤ 1000
  da : m.da.size ≤ 1000
  en : m.en.length ≤ 1000
noncomputable def rowF (m : Ms) (k : Nat) : List Value := [.int .i64 ((2 ^ k : Nat) : Int), .bool (zf m k), .bool (rf m k)]
set_option maxRecDepth 3000 in
theorem rowsR_info : (Try.prog.info? 87).map (fun i => (i.zero, i.size, i.bytes)) = some (some (.agg #[.int .i64 0, .bool false, .bool false]), 3, 16) := by kernel_rfl
/-- the rows as the walk has them -/
def vsW (m : Ms) (r0 r1 r4 r5 r8 r12 : Bool) (n6 n7 : Int) (N : Nat) : List Value :=
  [.agg #[.int .i64 1, .bool ((m.sq : Int) == 0), .bool r0], .agg #[.int .i64 2, .bool ((m.bo : Int) == 0), .bool r1],
   .agg #[.int .i64 4, .bool (m.kd == 0), .bool (decide (1 ≤ m.kd) && decide (m.kd ≤ 14))], .agg #[.int .i64 8, .bool (m.er == 0), .bool (decide (0 ≤ m.er) && decide (m.er ≤ 25))],
   .agg #[.int .i64 16, .bool (decide (m.fi = 0) && decide (m.fg = 0)), .bool r4], .agg #[.int .i64 32, .bool (decide (m.di = 0) && decide (m.dg = 0)), .bool r5],
   .agg #[.int .i64 64, .bool m.nm.toList.isEmpty, .bool (n6 == 0)], .agg #[.int .i64 128, .bool m.ot.toList.isEmpty, .bool (n7 == 0)],
   .agg #[.int .i64 256, .bool (m.mo == 0), .bool r8], .agg #[.int .i64 512, .bool (m.at_ == 0), .bool (decide (0 ≤ m.at_) && decide (m.at_ < 8))],
   .agg #[.int .i64 1024, .bool m.da.toList.isEmpty, .bool (decide ((m.da.size : Int) ≤ 64))], .agg #[.int .i64 2048, .bool ((m.ve : Int) == 0), .bool (decide ((m.ve : Int) ≤ 1099511627775))],
   .agg #[.int .i64 4096, .bool ((N : Int) == 0), .bool r12]]
set_option maxRecDepth 3000 in
theorem isE (s : ByteArray) : s.toList.isEmpty = decide (s.size = 0) := by
  rw [Bool.eq_iff_iff, decide_eq_true_iff, List.isEmpty_iff, ← List.length_eq_zero_iff]
  have : s.toList.length = s.size := by rw [ByteArray.toList_eq, Array.length_toList]; rfl
  rw [this]
set_option maxRecDepth 3000 in
theorem natZ (n : Nat) : ((n : Int) == 0) = decide (n = 0) := by
  rw [Bool.eq_iff_iff, beq_iff_eq, decide_eq_true_iff]; omega
set_option maxRecDepth 3000 in
theorem intZ (n : Int) : (n == 0) = decide (n = 0) := by
  rw [Bool.eq_iff_iff, beq_iff_eq, decide_eq_true_iff]
set_option maxRecDepth 3000 in
theorem vsW_rows (m : Ms) (N : Nat) (n6 n7 : Int) (h6 : (n6 == 0) = rf m 6) (h7 : (n7 == 0) = rf m 7) (hN : N = m.en.length) :
    (vsW m (rf m 0) (rf m 1) (rf m 4) (rf m 5) (rf m 8) (rf m 12) n6 n7 N).flatMap (fun v => v.cells.toList) = (List.range 13).flatMap (rowF m) := by
  have e2 : (decide (1 ≤ m.kd) && decide (m.kd ≤ 14)) = rf m 2 := (Bool.decide_and _ _).symm
  have e3 : (decide (0 ≤ m.er) && decide (m.er ≤ 25)) = rf m 3 := (Bool.decide_and _ _).symm
  have e4 : (decide (m.fi = 0) && decide (m.fg = 0)) = zf m 4 := (Bool.decide_and _ _).symm
  have e5 : (decide (m.di = 0) && decide (m.dg = 0)) = zf m 5 := (Bool.decide_and _ _).symm
  have e9 : (decide (0 ≤ m.at_) && decide (m.at_ < 8)) = rf m 9 := (Bool.decide_and _ _).symm
  have e10 : decide ((m.da.size : Int) ≤ 64) = rf m 10 := by show _ = decide (m.da.size ≤ 64); rw [Bool.eq_iff_iff, decide_eq_true_iff, decide_eq_true_iff]; omega
  have e11 : decide ((m.ve : Int) ≤ 1099511627775) = rf m 11 := by show _ = decide (m.ve ≤ 1099511627775); rw [Bool.eq_iff_iff, decide_eq_true_iff, decide_eq_true_iff]; omega
  unfold vsW
  rw [e2, e3, e4, e5, e9, e10, e11, h6, h7, natZ, natZ, natZ, natZ, intZ, intZ, intZ, intZ, isE, isE, isE, hN]
  rfl
set_option maxRecDepth 3000 in
theorem rows_at (m : Ms) {w : World} {b : Nat} {t : TypeId} (h : Blk w b t ((List.range 13).flatMap (rowF m)).toArray) (k : Nat) (hk : k < 13) :
    w.cell? ⟨b, k * 3, none⟩ = some (.int .i64 ((2 ^ k : Nat) : Int)) ∧ w.cell? ⟨b, k * 3 + 1, none⟩ = some (.bool (zf m k)) ∧ w.cell? ⟨b, k * 3 + 2, none⟩ = some (.bool (rf m k)) := by
  have hc : k = 0 ∨ k = 1 ∨ k = 2 ∨ k = 3 ∨ k = 4 ∨ k = 5 ∨ k = 6 ∨ k = 7 ∨ k = 8 ∨ k = 9 ∨ k = 10 ∨ k = 11 ∨ k = 12 := by omega
  rcases hc with rfl | rfl | rfl | rfl | rfl | rfl | rfl | rfl | rfl | rfl | rfl | rfl | rfl <;> exact ⟨(h.cell _).trans rfl, (h.cell _).trans rfl, (h.cell _).trans rfl⟩
set_option maxRecDepth 3000 in
theorem and_bit (h k : Nat) (hh : h < 8192) (hk : k < 13) : (bits .and .i64 (h : Int) ((2 ^ k : Nat) : Int) != 0) = h.testBit k := by
  have hp : 2 ^ k < 2 ^ 13 := Nat.pow_lt_pow_right (by decide) hk
  have e : h &&& 2 ^ k = (h.testBit k).toNat * 2 ^ k := by
    apply Nat.eq_of_testBit_eq
    intro j
    rw [Nat.testBit_and, Nat.testBit_two_pow]
    by_cases ej : k = j
    · subst ej
      cases h.testBit k <;> simp
    · cases h.testBit k <;> simp [ej]
  rw [i64_and_nat _ _ (by omega) (by omega), e]
  have : 0 < 2 ^ k := Nat.two_pow_pos k
  cases h.testBit k
  · simp
  · simp only [Bool.toNat_true, Nat.one_mul]
    rw [bne_iff_ne]
    omega
set_option maxRecDepth 3000 in
theorem fhas_any (h k : Nat) (hh : h < 8192) (hk : k < 13) (w : World) : Calls Try.prog 63 #[.int .i64 (h : Int), .int .i64 ((2 ^ k : Nat) : Int)] w fun e w' => e = .returned (.bool (h.testBit k)) ∧ w = w' := by
  have hand := and_bit h k hh hk
  obtain ⟨p, hp⟩ : ∃ p : Int, p = ((2 ^ k : Nat) : Int) := ⟨_, rfl⟩
  obtain ⟨T, hT⟩ : ∃ T, T = h.testBit k := ⟨_, rfl⟩
  obtain ⟨g, hg⟩ : ∃ g : Int, g = (h : Int) := ⟨_, rfl⟩
  rw [← hp, ← hg, ← hT] at hand
  rw [← hp, ← hg, ← hT]
  clear hp hT hg hh hk
  go_enter Try.func63, Try.ntmps63
  go_wp2_with fail
  go_ret
  exact ⟨rfl, rfl⟩
open Classical in
set_option maxRecDepth 3000 in
theorem allF_of {m : Ms} {h : Nat} (a : allB m h = true) : allF m h := of_decide_eq_true a
open Classical in
set_option maxRecDepth 3000 in
theorem of_allF {m : Ms} {h : Nat} (a : allF m h) : allB m h = true := decide_eq_true a
def FlL (W : World) (b : Nat) (m : Ms) (h : Nat) (D : Array Value) (t : Value) (wr : World) : Prop := ∃ k : Nat, k ≤ 13 ∧ t = .int .i64 (k : Int) ∧ (∀ i, i < k → (if h.testBit i then rf m i else zf m i) = true) ∧ Blk wr b 87 D ∧ Adv Nul W Nul wr
set_option maxRecDepth 3000 in
set_option maxHeartbeats 3200000 in
theorem areright16_any (m : Ms) (v : Value) (h : Nat) (hh : h < 8192) (hm : WfM m) (w : World) (hE : EnR7 w v m.en) : Calls Try.prog 32 #[.agg (mc m v), .int .i64 (h : Int)] w fun e w' => e = .returned (.bool (allB m h)) ∧ Adv Nul w Nul w' := by
  obtain ⟨A, N, c, rfl, hN⟩ : ∃ A N c, v = .slice A N c ∧ N = m.en.length := by
    obtain ⟨A, c, e, _⟩ := hE.form
    exact ⟨A, _, c, e, rfl⟩
  obtain ⟨C, hC⟩ : ∃ C, C = mc m (.slice A N c) := ⟨_, rfl⟩
  have HC := Lib.hid (fun (z : Nat) (w' : World) (h : Blk w' z 28 C) => (show C18 w' z m (.slice A N c) from (show Blk w' z 28 (mc m (.slice A N c)) by rw [← hC]; exact h).c18))
  have HEN := Lib.hid hE
  have HN := Lib.hid hN
  have HM := Lib.hid hm
  rw [← hC]
  clear hC hE hN hm
  have HR0 := Lib.hid (fun w => show Calls Try.prog 31 #[.int .u64 (m.sq : Int)] w fun e w' => e = .returned (.bool (rf m 0)) ∧ w = w' from mcount_any m.sq w)
  have HR1 := Lib.hid (fun w => show Calls Try.prog 31 #[.int .u64 (m.bo : Int)] w fun e w' => e = .returned (.bool (rf m 1)) ∧ w = w' from mcount_any m.bo w)
  have HR4 := Lib.hid (fun w => show Calls Try.prog 59 #[.agg #[.int .i64 m.fi, .int .i64 m.fg]] w fun e w' => e = .returned (.bool (rf m 4)) ∧ Adv Nul w Nul w' from mfile_any m.fi m.fg w)
  have HR5 := Lib.hid (fun w => show Calls Try.prog 59 #[.agg #[.int .i64 m.di, .int .i64 m.dg]] w fun e w' => e = .returned (.bool (rf m 5)) ∧ Adv Nul w Nul w' from mfile_any m.di m.dg w)
  have HR8 := Lib.hid (fun w => show Calls Try.prog 61 #[.int .i64 m.mo] w fun e w' => e = .returned (.bool (rf m 8)) ∧ w = w' from mmode_any m.mo w)
  have HR12 := Lib.hid (fun w (h : EnR7 w (.slice A N c) m.en) => show Calls Try.prog 62 #[.slice A N c] w fun e w' => e = .returned (.bool (rf m 12)) ∧ Adv Nul w Nul w' from entries_ok m.en _ w h)
  obtain ⟨n6, hn6⟩ : ∃ n, n = chkV m.nm := ⟨_, rfl⟩
  obtain ⟨n7, hn7⟩ : ∃ n, n = chkV m.ot := ⟨_, rfl⟩
  have HR6 := Lib.hid (fun w => show Calls Try.prog 60 #[.string m.nm] w fun e w' => e = .returned (.int .i64 n6) ∧ Adv Nul w Nul w' from (check_any m.nm w (by have := HM.out.nm; unfold maxLen; omega)).mono fun e w' ⟨h1, h2⟩ => ⟨by rw [hn6]; exact h1, nadv h2⟩)
  have HR7 := Lib.hid (fun w => show Calls Try.prog 60 #[.string m.ot] w fun e w' => e = .returned (.int .i64 n7) ∧ Adv Nul w Nul w' from (check_any m.ot w (by have := HM.out.ot; unfold maxLen; omega)).mono fun e w' ⟨h1, h2⟩ => ⟨by rw [hn7]; exact h1, nadv h2⟩)
  have HV6 := Lib.hid (show (n6 == 0) = rf m 6 by rw [hn6]; unfold chkV; show _ = decide (Nam m.nm); by_cases hx : Nam m.nm <;> simp [hx])
  have HV7 := Lib.hid (show (n7 == 0) = rf m 7 by rw [hn7]; unfold chkV; show _ = decide (Nam m.ot); by_cases hx : Nam m.ot <;> simp [hx])
  clear hn6 hn7
  obtain ⟨r0, hr0⟩ : ∃ b, b = rf m 0 := ⟨_, rfl⟩
  obtain ⟨r1, hr1⟩ : ∃ b, b = rf m 1 := ⟨_, rfl⟩
  obtain ⟨r4, hr4⟩ : ∃ b, b = rf m 4 := ⟨_, rfl⟩
  obtain ⟨r5, hr5⟩ : ∃ b, b = rf m 5 := ⟨_, rfl⟩
  obtain ⟨r8, hr8⟩ : ∃ b, b = rf m 8 := ⟨_, rfl⟩
  obtain ⟨r12, hr12⟩ : ∃ b, b = rf m 12 := ⟨_, rfl⟩
  rw [← hr0] at HR0
  rw [← hr1] at HR1
  rw [← hr4] at HR4
  rw [← hr5] at HR5
  rw [← hr8] at HR8
  rw [← hr12] at HR12
  have HRR := Lib.hid (show r0 = rf m 0 ∧ r1 = rf m 1 ∧ r4 = rf m 4 ∧ r5 = rf m 5 ∧ r8 = rf m 8 ∧ r12 = rf m 12 from ⟨hr0, hr1, hr4, hr5, hr8, hr12⟩)
  clear hr0 hr1 hr4 hr5 hr8 hr12
  obtain ⟨B, hB⟩ : ∃ B, B = allB m h := ⟨_, rfl⟩
  rw [← hB]
  have HB := Lib.hid hB
  have HH := Lib.hid hh
  clear hB hh
  go_enter Try.func32, Try.ntmps32
  go_upto_region 1 with (first
    | (refine kop_box rfl _ rfl rfl ?_; intro z w1 hz hb ha; have HA1 := Lib.hid ha; have HB1 := Lib.hid hb; clear hz hb ha)
    | fail)
  have HA2 := Lib.hid (HA1.out.drew)
  have HB2 := Lib.hid (show Blk (World.drew w1) z 28 C from HB1.out)
  have K2 := Lib.hid (HC.out _ _ HB2.out)
  clear HB1
  refine rstart (S := (fun w' => C18 w' z m (.slice A N c))) (by first | with_reducible exact K9.out | with_reducible exact K8.out | with_reducible exact K7.out | with_reducible exact K6.out | with_reducible exact K5.out | with_reducible exact K4.out | with_reducible exact K2.out) (fun hH => ?_)
  refine tkA (i := 0) (oi := ⟨some 8, .fieldAddr 28 (.tmp 2) 3, 0, "msg.go:26", #[], none⟩) hH.out (by rintro w ⟨⟨s0, s1, s2, s3, s4, s5, s6⟩, ⟨s7, s8, s9, s10⟩, ⟨s11, s12, s13, s14, s15, s16, s17⟩⟩; go_simp <;> with_reducible rfl) ?_
  simp only [Act.put, sA, sB, sC]
  refine tkA (i := 1) (oi := ⟨some 9, .load 22 (.tmp 8), 22, "msg.go:26", #[⟨0, .data⟩], none⟩) hH.out (by rintro w ⟨⟨s0, s1, s2, s3, s4, s5, s6⟩, ⟨s7, s8, s9, s10⟩, ⟨s11, s12, s13, s14, s15, s16, s17⟩⟩; go_simp <;> with_reducible rfl) ?_
  simp only [Act.put, sA, sB, sC]
  refine tkA (i := 2) (oi := ⟨some 10, .binOp .eql 22 (.tmp 9) (.const (Go.Value.int Go.IntKind.u64 0)) 22, 4, "msg.go:26", #[⟨1, .data⟩], none⟩) hH.out (by rintro w ⟨⟨s0, s1, s2, s3, s4, s5, s6⟩, ⟨s7, s8, s9, s10⟩, ⟨s11, s12, s13, s14, s15, s16, s17⟩⟩; go_simp <;> with_reducible rfl) ?_
  simp only [Act.put, sA, sB, sC]
  refine tkA (i := 3) (oi := ⟨some 11, .fieldAddr 28 (.tmp 2) 3, 0, "msg.go:26", #[], none⟩) hH.out (by rintro w ⟨⟨s0, s1, s2, s3, s4, s5, s6⟩, ⟨s7, s8, s9, s10⟩, ⟨s11, s12, s13, s14, s15, s16, s17⟩⟩; go_simp <;> with_reducible rfl) ?_
  simp only [Act.put, sA, sB, sC]
  refine tkA (i := 4) (oi := ⟨some 12, .load 22 (.tmp 11), 22, "msg.go:26", #[⟨3, .data⟩], none⟩) hH.out (by rintro w ⟨⟨s0, s1, s2, s3, s4, s5, s6⟩, ⟨s7, s8, s9, s10⟩, ⟨s11, s12, s13, s14, s15, s16, s17⟩⟩; go_simp <;> with_reducible rfl) ?_
  simp only [Act.put, sA, sB, sC]
  refine tkA (i := 7) (oi := ⟨some 15, .fieldAddr 28 (.tmp 2) 4, 0, "msg.go:26", #[], none⟩) hH.out (by rintro w ⟨⟨s0, s1, s2, s3, s4, s5, s6⟩, ⟨s7, s8, s9, s10⟩, ⟨s11, s12, s13, s14, s15, s16, s17⟩⟩; go_simp <;> with_reducible rfl) ?_
  simp only [Act.put, sA, sB, sC]
  refine tkA (i := 8) (oi := ⟨some 16, .load 22 (.tmp 15), 22, "msg.go:26", #[⟨7, .data⟩], none⟩) hH.out (by rintro w ⟨⟨s0, s1, s2, s3, s4, s5, s6⟩, ⟨s7, s8, s9, s10⟩, ⟨s11, s12, s13, s14, s15, s16, s17⟩⟩; go_simp <;> with_reducible rfl) ?_
  simp only [Act.put, sA, sB, sC]
  refine tkA (i := 9) (oi := ⟨some 17, .binOp .eql 22 (.tmp 16) (.const (Go.Value.int Go.IntKind.u64 0)) 22, 4, "msg.go:26", #[⟨8, .data⟩], none⟩) hH.out (by rintro w ⟨⟨s0, s1, s2, s3, s4, s5, s6⟩, ⟨s7, s8, s9, s10⟩, ⟨s11, s12, s13, s14, s15, s16, s17⟩⟩; go_simp <;> with_reducible rfl) ?_
  simp only [Act.put, sA, sB, sC]
  refine tkA (i := 10) (oi := ⟨some 18, .fieldAddr 28 (.tmp 2) 4, 0, "msg.go:26", #[], none⟩) hH.out (by rintro w ⟨⟨s0, s1, s2, s3, s4, s5, s6⟩, ⟨s7, s8, s9, s10⟩, ⟨s11, s12, s13, s14, s15, s16, s17⟩⟩; go_simp <;> with_reducible rfl) ?_
  simp only [Act.put, sA, sB, sC]
  refine tkA (i := 11) (oi := ⟨some 19, .load 22 (.tmp 18), 22, "msg.go:26", #[⟨10, .data⟩], none⟩) hH.out (by rintro w ⟨⟨s0, s1, s2, s3, s4, s5, s6⟩, ⟨s7, s8, s9, s10⟩, ⟨s11, s12, s13, s14, s15, s16, s17⟩⟩; go_simp <;> with_reducible rfl) ?_
  simp only [Act.put, sA, sB, sC]
  refine tkA (i := 14) (oi := ⟨some 22, .fieldAddr 28 (.tmp 2) 5, 0, "msg.go:26", #[], none⟩) hH.out (by rintro w ⟨⟨s0, s1, s2, s3, s4, s5, s6⟩, ⟨s7, s8, s9, s10⟩, ⟨s11, s12, s13, s14, s15, s16, s17⟩⟩; go_simp <;> with_reducible rfl) ?_
  simp only [Act.put, sA, sB, sC]
  refine tkA (i := 15) (oi := ⟨some 23, .load 3 (.tmp 22), 3, "msg.go:26", #[⟨14, .data⟩], none⟩) hH.out (by rintro w ⟨⟨s0, s1, s2, s3, s4, s5, s6⟩, ⟨s7, s8, s9, s10⟩, ⟨s11, s12, s13, s14, s15, s16, s17⟩⟩; go_simp <;> with_reducible rfl) ?_
  simp only [Act.put, sA, sB, sC]
  refine tkA (i := 16) (oi := ⟨some 24, .binOp .eql 3 (.tmp 23) (.const (Go.Value.int Go.IntKind.i64 0)) 3, 4, "msg.go:26", #[⟨15, .data⟩], none⟩) hH.out (by rintro w ⟨⟨s0, s1, s2, s3, s4, s5, s6⟩, ⟨s7, s8, s9, s10⟩, ⟨s11, s12, s13, s14, s15, s16, s17⟩⟩; go_simp <;> with_reducible rfl) ?_
  simp only [Act.put, sA, sB, sC]
  refine tkA (i := 17) (oi := ⟨some 25, .fieldAddr 28 (.tmp 2) 5, 0, "msg.go:26", #[], none⟩) hH.out (by rintro w ⟨⟨s0, s1, s2, s3, s4, s5, s6⟩, ⟨s7, s8, s9, s10⟩, ⟨s11, s12, s13, s14, s15, s16, s17⟩⟩; go_simp <;> with_reducible rfl) ?_
  simp only [Act.put, sA, sB, sC]
  refine tkA (i := 18) (oi := ⟨some 26, .load 3 (.tmp 25), 3, "msg.go:26", #[⟨17, .data⟩], none⟩) hH.out (by rintro w ⟨⟨s0, s1, s2, s3, s4, s5, s6⟩, ⟨s7, s8, s9, s10⟩, ⟨s11, s12, s13, s14, s15, s16, s17⟩⟩; go_simp <;> with_reducible rfl) ?_
  simp only [Act.put, sA, sB, sC]
  refine tkA (i := 19) (oi := ⟨some 27, .binOp .geq 3 (.tmp 26) (.const (Go.Value.int Go.IntKind.i64 1)) 3, 4, "msg.go:26", #[⟨18, .data⟩], none⟩) hH.out (by rintro w ⟨⟨s0, s1, s2, s3, s4, s5, s6⟩, ⟨s7, s8, s9, s10⟩, ⟨s11, s12, s13, s14, s15, s16, s17⟩⟩; go_simp <;> with_reducible rfl) ?_
  simp only [Act.put, sA, sB, sC]
  refine tkA (i := 26) (oi := ⟨some 34, .fieldAddr 28 (.tmp 2) 6, 0, "msg.go:26", #[], none⟩) hH.out (by rintro w ⟨⟨s0, s1, s2, s3, s4, s5, s6⟩, ⟨s7, s8, s9, s10⟩, ⟨s11, s12, s13, s14, s15, s16, s17⟩⟩; go_simp <;> with_reducible rfl) ?_
  simp only [Act.put, sA, sB, sC]
  refine tkA (i := 27) (oi := ⟨some 35, .load 23 (.tmp 34), 23, "msg.go:26", #[⟨26, .data⟩], none⟩) hH.out (by rintro w ⟨⟨s0, s1, s2, s3, s4, s5, s6⟩, ⟨s7, s8, s9, s10⟩, ⟨s11, s12, s13, s14, s15, s16, s17⟩⟩; go_simp <;> with_reducible rfl) ?_
  simp only [Act.put, sA, sB, sC]
  refine tkA (i := 28) (oi := ⟨some 36, .binOp .eql 23 (.tmp 35) (.const (Go.Value.int Go.IntKind.i64 0)) 23, 4, "msg.go:26", #[⟨27, .data⟩], none⟩) hH.out (by rintro w ⟨⟨s0, s1, s2, s3, s4, s5, s6⟩, ⟨s7, s8, s9, s10⟩, ⟨s11, s12, s13, s14, s15, s16, s17⟩⟩; go_simp <;> with_reducible rfl) ?_
  simp only [Act.put, sA, sB, sC]
  refine tkA (i := 29) (oi := ⟨some 37, .fieldAddr 28 (.tmp 2) 6, 0, "msg.go:26", #[], none⟩) hH.out (by rintro w ⟨⟨s0, s1, s2, s3, s4, s5, s6⟩, ⟨s7, s8, s9, s10⟩, ⟨s11, s12, s13, s14, s15, s16, s17⟩⟩; go_simp <;> with_reducible rfl) ?_
  simp only [Act.put, sA, sB, sC]
  refine tkA (i := 30) (oi := ⟨some 38, .load 23 (.tmp 37), 23, "msg.go:26", #[⟨29, .data⟩], none⟩) hH.out (by rintro w ⟨⟨s0, s1, s2, s3, s4, s5, s6⟩, ⟨s7, s8, s9, s10⟩, ⟨s11, s12, s13, s14, s15, s16, s17⟩⟩; go_simp <;> with_reducible rfl) ?_
  simp only [Act.put, sA, sB, sC]
  refine tkA (i := 31) (oi := ⟨some 39, .binOp .geq 23 (.tmp 38) (.const (Go.Value.int Go.IntKind.i64 0)) 23, 4, "msg.go:26", #[⟨30, .data⟩], none⟩) hH.out (by rintro w ⟨⟨s0, s1, s2, s3, s4, s5, s6⟩, ⟨s7, s8, s9, s10⟩, ⟨s11, s12, s13, s14, s15, s16, s17⟩⟩; go_simp <;> with_reducible rfl) ?_
  simp only [Act.put, sA, sB, sC]
  refine tkA (i := 38) (oi := ⟨some 46, .fieldAddr 28 (.tmp 2) 7, 0, "msg.go:26", #[], none⟩) hH.out (by rintro w ⟨⟨s0, s1, s2, s3, s4, s5, s6⟩, ⟨s7, s8, s9, s10⟩, ⟨s11, s12, s13, s14, s15, s16, s17⟩⟩; go_simp <;> with_reducible rfl) ?_
  simp only [Act.put, sA, sB, sC]
  refine tkA (i := 39) (oi := ⟨some 47, .load 25 (.tmp 46), 25, "msg.go:26", #[⟨38, .data⟩], none⟩) hH.out (by rintro w ⟨⟨s0, s1, s2, s3, s4, s5, s6⟩, ⟨s7, s8, s9, s10⟩, ⟨s11, s12, s13, s14, s15, s16, s17⟩⟩; go_simp <;> with_reducible rfl) ?_
  simp only [Act.put, sA, sB, sC]
  refine tkA (i := 40) (oi := ⟨some 48, .build 25 #[], 25, "msg.go:26", #[], none⟩) hH.out (by rintro w ⟨⟨s0, s1, s2, s3, s4, s5, s6⟩, ⟨s7, s8, s9, s10⟩, ⟨s11, s12, s13, s14, s15, s16, s17⟩⟩; go_simp <;> with_reducible rfl) ?_
  simp only [Act.put, sA, sB, sC]
  refine tkmA (i := 41) (oi := ⟨some 49, .binOp .eql 25 (.tmp 47) (.tmp 48) 25, 4, "msg.go:26", #[⟨39, .data⟩, ⟨40, .data⟩], none⟩) (v := .bool (decide (m.fi = 0 ∧ m.fg = 0))) hH.out (yl_feq rfl (.tmp 47) (.tmp 48) rfl rfl rfl) ?_
  simp only [Act.put, sA, sB, sC]
  refine tkA (i := 42) (oi := ⟨some 50, .fieldAddr 28 (.tmp 2) 7, 0, "msg.go:26", #[], none⟩) hH.out (by rintro w ⟨⟨s0, s1, s2, s3, s4, s5, s6⟩, ⟨s7, s8, s9, s10⟩, ⟨s11, s12, s13, s14, s15, s16, s17⟩⟩; go_simp <;> with_reducible rfl) ?_
  simp only [Act.put, sA, sB, sC]
  refine tkA (i := 43) (oi := ⟨some 51, .load 25 (.tmp 50), 25, "msg.go:26", #[⟨42, .data⟩], none⟩) hH.out (by rintro w ⟨⟨s0, s1, s2, s3, s4, s5, s6⟩, ⟨s7, s8, s9, s10⟩, ⟨s11, s12, s13, s14, s15, s16, s17⟩⟩; go_simp <;> with_reducible rfl) ?_
  simp only [Act.put, sA, sB, sC]
  refine tkA (i := 46) (oi := ⟨some 54, .fieldAddr 28 (.tmp 2) 8, 0, "msg.go:26", #[], none⟩) hH.out (by rintro w ⟨⟨s0, s1, s2, s3, s4, s5, s6⟩, ⟨s7, s8, s9, s10⟩, ⟨s11, s12, s13, s14, s15, s16, s17⟩⟩; go_simp <;> with_reducible rfl) ?_
  simp only [Act.put, sA, sB, sC]
  refine tkA (i := 47) (oi := ⟨some 55, .load 25 (.tmp 54), 25, "msg.go:26", #[⟨46, .data⟩], none⟩) hH.out (by rintro w ⟨⟨s0, s1, s2, s3, s4, s5, s6⟩, ⟨s7, s8, s9, s10⟩, ⟨s11, s12, s13, s14, s15, s16, s17⟩⟩; go_simp <;> with_reducible rfl) ?_
  simp only [Act.put, sA, sB, sC]
  refine tkA (i := 48) (oi := ⟨some 56, .build 25 #[], 25, "msg.go:26", #[], none⟩) hH.out (by rintro w ⟨⟨s0, s1, s2, s3, s4, s5, s6⟩, ⟨s7, s8, s9, s10⟩, ⟨s11, s12, s13, s14, s15, s16, s17⟩⟩; go_simp <;> with_reducible rfl) ?_
  simp only [Act.put, sA, sB, sC]
  refine tkmA (i := 49) (oi := ⟨some 57, .binOp .eql 25 (.tmp 55) (.tmp 56) 25, 4, "msg.go:26", #[⟨47, .data⟩, ⟨48, .data⟩], none⟩) (v := .bool (decide (m.di = 0 ∧ m.dg = 0))) hH.out (yl_feq rfl (.tmp 55) (.tmp 56) rfl rfl rfl) ?_
  simp only [Act.put, sA, sB, sC]
  refine tkA (i := 50) (oi := ⟨some 58, .fieldAddr 28 (.tmp 2) 8, 0, "msg.go:26", #[], none⟩) hH.out (by rintro w ⟨⟨s0, s1, s2, s3, s4, s5, s6⟩, ⟨s7, s8, s9, s10⟩, ⟨s11, s12, s13, s14, s15, s16, s17⟩⟩; go_simp <;> with_reducible rfl) ?_
  simp only [Act.put, sA, sB, sC]
  refine tkA (i := 51) (oi := ⟨some 59, .load 25 (.tmp 58), 25, "msg.go:26", #[⟨50, .data⟩], none⟩) hH.out (by rintro w ⟨⟨s0, s1, s2, s3, s4, s5, s6⟩, ⟨s7, s8, s9, s10⟩, ⟨s11, s12, s13, s14, s15, s16, s17⟩⟩; go_simp <;> with_reducible rfl) ?_
  simp only [Act.put, sA, sB, sC]
  refine tkA (i := 54) (oi := ⟨some 62, .fieldAddr 28 (.tmp 2) 9, 0, "msg.go:26", #[], none⟩) hH.out (by rintro w ⟨⟨s0, s1, s2, s3, s4, s5, s6⟩, ⟨s7, s8, s9, s10⟩, ⟨s11, s12, s13, s14, s15, s16, s17⟩⟩; go_simp <;> with_reducible rfl) ?_
  simp only [Act.put, sA, sB, sC]
  refine tkA (i := 55) (oi := ⟨some 63, .load 9 (.tmp 62), 9, "msg.go:26", #[⟨54, .data⟩], none⟩) hH.out (by rintro w ⟨⟨s0, s1, s2, s3, s4, s5, s6⟩, ⟨s7, s8, s9, s10⟩, ⟨s11, s12, s13, s14, s15, s16, s17⟩⟩; go_simp <;> with_reducible rfl) ?_
  simp only [Act.put, sA, sB, sC]
  refine tkA (i := 56) (oi := ⟨some 64, .binOp .eql 9 (.tmp 63) (.const (Go.Value.string { data := #[] })) 9, 4, "msg.go:26", #[⟨55, .data⟩], none⟩) hH.out (by rintro w ⟨⟨s0, s1, s2, s3, s4, s5, s6⟩, ⟨s7, s8, s9, s10⟩, ⟨s11, s12, s13, s14, s15, s16, s17⟩⟩; go_simp <;> with_reducible rfl) ?_
  simp only [Act.put, sA, sB, sC]
  refine tkA (i := 57) (oi := ⟨some 65, .fieldAddr 28 (.tmp 2) 9, 0, "msg.go:26", #[], none⟩) hH.out (by rintro w ⟨⟨s0, s1, s2, s3, s4, s5, s6⟩, ⟨s7, s8, s9, s10⟩, ⟨s11, s12, s13, s14, s15, s16, s17⟩⟩; go_simp <;> with_reducible rfl) ?_
  simp only [Act.put, sA, sB, sC]
  refine tkA (i := 58) (oi := ⟨some 66, .load 9 (.tmp 65), 9, "msg.go:26", #[⟨57, .data⟩], none⟩) hH.out (by rintro w ⟨⟨s0, s1, s2, s3, s4, s5, s6⟩, ⟨s7, s8, s9, s10⟩, ⟨s11, s12, s13, s14, s15, s16, s17⟩⟩; go_simp <;> with_reducible rfl) ?_
  simp only [Act.put, sA, sB, sC]
  refine tkA (i := 62) (oi := ⟨some 70, .fieldAddr 28 (.tmp 2) 10, 0, "msg.go:26", #[], none⟩) hH.out (by rintro w ⟨⟨s0, s1, s2, s3, s4, s5, s6⟩, ⟨s7, s8, s9, s10⟩, ⟨s11, s12, s13, s14, s15, s16, s17⟩⟩; go_simp <;> with_reducible rfl) ?_
  simp only [Act.put, sA, sB, sC]
  refine tkA (i := 63) (oi := ⟨some 71, .load 9 (.tmp 70), 9, "msg.go:26", #[⟨62, .data⟩], none⟩) hH.out (by rintro w ⟨⟨s0, s1, s2, s3, s4, s5, s6⟩, ⟨s7, s8, s9, s10⟩, ⟨s11, s12, s13, s14, s15, s16, s17⟩⟩; go_simp <;> with_reducible rfl) ?_
  simp only [Act.put, sA, sB, sC]
  refine tkA (i := 64) (oi := ⟨some 72, .binOp .eql 9 (.tmp 71) (.const (Go.Value.string { data := #[] })) 9, 4, "msg.go:26", #[⟨63, .data⟩], none⟩) hH.out (by rintro w ⟨⟨s0, s1, s2, s3, s4, s5, s6⟩, ⟨s7, s8, s9, s10⟩, ⟨s11, s12, s13, s14, s15, s16, s17⟩⟩; go_simp <;> with_reducible rfl) ?_
  simp only [Act.put, sA, sB, sC]
  refine tkA (i := 65) (oi := ⟨some 73, .fieldAddr 28 (.tmp 2) 10, 0, "msg.go:26", #[], none⟩) hH.out (by rintro w ⟨⟨s0, s1, s2, s3, s4, s5, s6⟩, ⟨s7, s8, s9, s10⟩, ⟨s11, s12, s13, s14, s15, s16, s17⟩⟩; go_simp <;> with_reducible rfl) ?_
  simp only [Act.put, sA, sB, sC]
  refine tkA (i := 66) (oi := ⟨some 74, .load 9 (.tmp 73), 9, "msg.go:26", #[⟨65, .data⟩], none⟩) hH.out (by rintro w ⟨⟨s0, s1, s2, s3, s4, s5, s6⟩, ⟨s7, s8, s9, s10⟩, ⟨s11, s12, s13, s14, s15, s16, s17⟩⟩; go_simp <;> with_reducible rfl) ?_
  simp only [Act.put, sA, sB, sC]
  refine tkA (i := 70) (oi := ⟨some 78, .fieldAddr 28 (.tmp 2) 11, 0, "msg.go:26", #[], none⟩) hH.out (by rintro w ⟨⟨s0, s1, s2, s3, s4, s5, s6⟩, ⟨s7, s8, s9, s10⟩, ⟨s11, s12, s13, s14, s15, s16, s17⟩⟩; go_simp <;> with_reducible rfl) ?_
  simp only [Act.put, sA, sB, sC]
  refine tkA (i := 71) (oi := ⟨some 79, .load 3 (.tmp 78), 3, "msg.go:26", #[⟨70, .data⟩], none⟩) hH.out (by rintro w ⟨⟨s0, s1, s2, s3, s4, s5, s6⟩, ⟨s7, s8, s9, s10⟩, ⟨s11, s12, s13, s14, s15, s16, s17⟩⟩; go_simp <;> with_reducible rfl) ?_
  simp only [Act.put, sA, sB, sC]
  refine tkA (i := 72) (oi := ⟨some 80, .binOp .eql 3 (.tmp 79) (.const (Go.Value.int Go.IntKind.i64 0)) 3, 4, "msg.go:26", #[⟨71, .data⟩], none⟩) hH.out (by rintro w ⟨⟨s0, s1, s2, s3, s4, s5, s6⟩, ⟨s7, s8, s9, s10⟩, ⟨s11, s12, s13, s14, s15, s16, s17⟩⟩; go_simp <;> with_reducible rfl) ?_
  simp only [Act.put, sA, sB, sC]
  refine tkA (i := 73) (oi := ⟨some 81, .fieldAddr 28 (.tmp 2) 11, 0, "msg.go:26", #[], none⟩) hH.out (by rintro w ⟨⟨s0, s1, s2, s3, s4, s5, s6⟩, ⟨s7, s8, s9, s10⟩, ⟨s11, s12, s13, s14, s15, s16, s17⟩⟩; go_simp <;> with_reducible rfl) ?_
  simp only [Act.put, sA, sB, sC]
  refine tkA (i := 74) (oi := ⟨some 82, .load 3 (.tmp 81), 3, "msg.go:26", #[⟨73, .data⟩], none⟩) hH.out (by rintro w ⟨⟨s0, s1, s2, s3, s4, s5, s6⟩, ⟨s7, s8, s9, s10⟩, ⟨s11, s12, s13, s14, s15, s16, s17⟩⟩; go_simp <;> with_reducible rfl) ?_
  simp only [Act.put, sA, sB, sC]
  refine tkA (i := 77) (oi := ⟨some 85, .fieldAddr 28 (.tmp 2) 12, 0, "msg.go:26", #[], none⟩) hH.out (by rintro w ⟨⟨s0, s1, s2, s3, s4, s5, s6⟩, ⟨s7, s8, s9, s10⟩, ⟨s11, s12, s13, s14, s15, s16, s17⟩⟩; go_simp <;> with_reducible rfl) ?_
  simp only [Act.put, sA, sB, sC]
  refine tkA (i := 78) (oi := ⟨some 86, .load 3 (.tmp 85), 3, "msg.go:26", #[⟨77, .data⟩], none⟩) hH.out (by rintro w ⟨⟨s0, s1, s2, s3, s4, s5, s6⟩, ⟨s7, s8, s9, s10⟩, ⟨s11, s12, s13, s14, s15, s16, s17⟩⟩; go_simp <;> with_reducible rfl) ?_
  simp only [Act.put, sA, sB, sC]
  refine tkA (i := 79) (oi := ⟨some 87, .binOp .eql 3 (.tmp 86) (.const (Go.Value.int Go.IntKind.i64 0)) 3, 4, "msg.go:26", #[⟨78, .data⟩], none⟩) hH.out (by rintro w ⟨⟨s0, s1, s2, s3, s4, s5, s6⟩, ⟨s7, s8, s9, s10⟩, ⟨s11, s12, s13, s14, s15, s16, s17⟩⟩; go_simp <;> with_reducible rfl) ?_
  simp only [Act.put, sA, sB, sC]
  refine tkA (i := 80) (oi := ⟨some 88, .fieldAddr 28 (.tmp 2) 12, 0, "msg.go:26", #[], none⟩) hH.out (by rintro w ⟨⟨s0, s1, s2, s3, s4, s5, s6⟩, ⟨s7, s8, s9, s10⟩, ⟨s11, s12, s13, s14, s15, s16, s17⟩⟩; go_simp <;> with_reducible rfl) ?_
  simp only [Act.put, sA, sB, sC]
  refine tkA (i := 81) (oi := ⟨some 89, .load 3 (.tmp 88), 3, "msg.go:26", #[⟨80, .data⟩], none⟩) hH.out (by rintro w ⟨⟨s0, s1, s2, s3, s4, s5, s6⟩, ⟨s7, s8, s9, s10⟩, ⟨s11, s12, s13, s14, s15, s16, s17⟩⟩; go_simp <;> with_reducible rfl) ?_
  simp only [Act.put, sA, sB, sC]
  refine tkA (i := 82) (oi := ⟨some 90, .binOp .geq 3 (.tmp 89) (.const (Go.Value.int Go.IntKind.i64 0)) 3, 4, "msg.go:26", #[⟨81, .data⟩], none⟩) hH.out (by rintro w ⟨⟨s0, s1, s2, s3, s4, s5, s6⟩, ⟨s7, s8, s9, s10⟩, ⟨s11, s12, s13, s14, s15, s16, s17⟩⟩; go_simp <;> with_reducible rfl) ?_
  simp only [Act.put, sA, sB, sC]
  refine tkA (i := 89) (oi := ⟨some 97, .fieldAddr 28 (.tmp 2) 13, 0, "msg.go:26", #[], none⟩) hH.out (by rintro w ⟨⟨s0, s1, s2, s3, s4, s5, s6⟩, ⟨s7, s8, s9, s10⟩, ⟨s11, s12, s13, s14, s15, s16, s17⟩⟩; go_simp <;> with_reducible rfl) ?_
  simp only [Act.put, sA, sB, sC]
  refine tkA (i := 90) (oi := ⟨some 98, .load 9 (.tmp 97), 9, "msg.go:26", #[⟨89, .data⟩], none⟩) hH.out (by rintro w ⟨⟨s0, s1, s2, s3, s4, s5, s6⟩, ⟨s7, s8, s9, s10⟩, ⟨s11, s12, s13, s14, s15, s16, s17⟩⟩; go_simp <;> with_reducible rfl) ?_
  simp only [Act.put, sA, sB, sC]
  refine tkA (i := 91) (oi := ⟨some 99, .binOp .eql 9 (.tmp 98) (.const (Go.Value.string { data := #[] })) 9, 4, "msg.go:26", #[⟨90, .data⟩], none⟩) hH.out (by rintro w ⟨⟨s0, s1, s2, s3, s4, s5, s6⟩, ⟨s7, s8, s9, s10⟩, ⟨s11, s12, s13, s14, s15, s16, s17⟩⟩; go_simp <;> with_reducible rfl) ?_
  simp only [Act.put, sA, sB, sC]
  refine tkA (i := 92) (oi := ⟨some 100, .fieldAddr 28 (.tmp 2) 13, 0, "msg.go:26", #[], none⟩) hH.out (by rintro w ⟨⟨s0, s1, s2, s3, s4, s5, s6⟩, ⟨s7, s8, s9, s10⟩, ⟨s11, s12, s13, s14, s15, s16, s17⟩⟩; go_simp <;> with_reducible rfl) ?_
  simp only [Act.put, sA, sB, sC]
  refine tkA (i := 93) (oi := ⟨some 101, .load 9 (.tmp 100), 9, "msg.go:26", #[⟨92, .data⟩], none⟩) hH.out (by rintro w ⟨⟨s0, s1, s2, s3, s4, s5, s6⟩, ⟨s7, s8, s9, s10⟩, ⟨s11, s12, s13, s14, s15, s16, s17⟩⟩; go_simp <;> with_reducible rfl) ?_
  simp only [Act.put, sA, sB, sC]
  refine tkA (i := 94) (oi := ⟨some 102, .call ⟨.builtin .len, #[.tmp 101], #[9]⟩, 3, "msg.go:26", #[⟨93, .data⟩], none⟩) hH.out (by rintro w ⟨⟨s0, s1, s2, s3, s4, s5, s6⟩, ⟨s7, s8, s9, s10⟩, ⟨s11, s12, s13, s14, s15, s16, s17⟩⟩; go_simp <;> with_reducible rfl) ?_
  simp only [Act.put, sA, sB, sC]
  refine tkA (i := 95) (oi := ⟨some 103, .binOp .leq 3 (.tmp 102) (.const (Go.Value.int Go.IntKind.i64 64)) 3, 4, "msg.go:26", #[⟨94, .data⟩], none⟩) hH.out (by rintro w ⟨⟨s0, s1, s2, s3, s4, s5, s6⟩, ⟨s7, s8, s9, s10⟩, ⟨s11, s12, s13, s14, s15, s16, s17⟩⟩; go_simp <;> with_reducible rfl) ?_
  simp only [Act.put, sA, sB, sC]
  refine tkA (i := 96) (oi := ⟨some 104, .build 87 #[(0, .const (Go.Value.int Go.IntKind.i64 1024)), (1, .tmp 99), (2, .tmp 103)], 87, "msg.go:26", #[⟨91, .data⟩, ⟨95, .data⟩], none⟩) hH.out (by rintro w ⟨⟨s0, s1, s2, s3, s4, s5, s6⟩, ⟨s7, s8, s9, s10⟩, ⟨s11, s12, s13, s14, s15, s16, s17⟩⟩; go_simp <;> with_reducible rfl) ?_
  simp only [Act.put, sA, sB, sC]
  refine tkA (i := 97) (oi := ⟨some 105, .fieldAddr 28 (.tmp 2) 14, 0, "msg.go:26", #[], none⟩) hH.out (by rintro w ⟨⟨s0, s1, s2, s3, s4, s5, s6⟩, ⟨s7, s8, s9, s10⟩, ⟨s11, s12, s13, s14, s15, s16, s17⟩⟩; go_simp <;> with_reducible rfl) ?_
  simp only [Act.put, sA, sB, sC]
  refine tkA (i := 98) (oi := ⟨some 106, .load 22 (.tmp 105), 22, "msg.go:26", #[⟨97, .data⟩], none⟩) hH.out (by rintro w ⟨⟨s0, s1, s2, s3, s4, s5, s6⟩, ⟨s7, s8, s9, s10⟩, ⟨s11, s12, s13, s14, s15, s16, s17⟩⟩; go_simp <;> with_reducible rfl) ?_
  simp only [Act.put, sA, sB, sC]
  refine tkA (i := 99) (oi := ⟨some 107, .binOp .eql 22 (.tmp 106) (.const (Go.Value.int Go.IntKind.u64 0)) 22, 4, "msg.go:26", #[⟨98, .data⟩], none⟩) hH.out (by rintro w ⟨⟨s0, s1, s2, s3, s4, s5, s6⟩, ⟨s7, s8, s9, s10⟩, ⟨s11, s12, s13, s14, s15, s16, s17⟩⟩; go_simp <;> with_reducible rfl) ?_
  simp only [Act.put, sA, sB, sC]
  refine tkA (i := 100) (oi := ⟨some 108, .fieldAddr 28 (.tmp 2) 14, 0, "msg.go:26", #[], none⟩) hH.out (by rintro w ⟨⟨s0, s1, s2, s3, s4, s5, s6⟩, ⟨s7, s8, s9, s10⟩, ⟨s11, s12, s13, s14, s15, s16, s17⟩⟩; go_simp <;> with_reducible rfl) ?_
  simp only [Act.put, sA, sB, sC]
  refine tkA (i := 101) (oi := ⟨some 109, .load 22 (.tmp 108), 22, "msg.go:26", #[⟨100, .data⟩], none⟩) hH.out (by rintro w ⟨⟨s0, s1, s2, s3, s4, s5, s6⟩, ⟨s7, s8, s9, s10⟩, ⟨s11, s12, s13, s14, s15, s16, s17⟩⟩; go_simp <;> with_reducible rfl) ?_
  simp only [Act.put, sA, sB, sC]
  refine tkA (i := 102) (oi := ⟨some 110, .binOp .leq 22 (.tmp 109) (.const (Go.Value.int Go.IntKind.u64 1099511627775)) 22, 4, "msg.go:26", #[⟨101, .data⟩], none⟩) hH.out (by rintro w ⟨⟨s0, s1, s2, s3, s4, s5, s6⟩, ⟨s7, s8, s9, s10⟩, ⟨s11, s12, s13, s14, s15, s16, s17⟩⟩; go_simp <;> with_reducible rfl) ?_
  simp only [Act.put, sA, sB, sC]
  refine tkA (i := 103) (oi := ⟨some 111, .build 87 #[(0, .const (Go.Value.int Go.IntKind.i64 2048)), (1, .tmp 107), (2, .tmp 110)], 87, "msg.go:26", #[⟨99, .data⟩, ⟨102, .data⟩], none⟩) hH.out (by rintro w ⟨⟨s0, s1, s2, s3, s4, s5, s6⟩, ⟨s7, s8, s9, s10⟩, ⟨s11, s12, s13, s14, s15, s16, s17⟩⟩; go_simp <;> with_reducible rfl) ?_
  simp only [Act.put, sA, sB, sC]
  refine tkA (i := 104) (oi := ⟨some 112, .fieldAddr 28 (.tmp 2) 15, 0, "msg.go:26", #[], none⟩) hH.out (by rintro w ⟨⟨s0, s1, s2, s3, s4, s5, s6⟩, ⟨s7, s8, s9, s10⟩, ⟨s11, s12, s13, s14, s15, s16, s17⟩⟩; go_simp <;> with_reducible rfl) ?_
  simp only [Act.put, sA, sB, sC]
  refine tkA (i := 105) (oi := ⟨some 113, .load 26 (.tmp 112), 26, "msg.go:26", #[⟨104, .data⟩], none⟩) hH.out (by rintro w ⟨⟨s0, s1, s2, s3, s4, s5, s6⟩, ⟨s7, s8, s9, s10⟩, ⟨s11, s12, s13, s14, s15, s16, s17⟩⟩; go_simp <;> with_reducible rfl) ?_
  simp only [Act.put, sA, sB, sC]
  refine tkA (i := 106) (oi := ⟨some 114, .call ⟨.builtin .len, #[.tmp 113], #[26]⟩, 3, "msg.go:26", #[⟨105, .data⟩], none⟩) hH.out (by rintro w ⟨⟨s0, s1, s2, s3, s4, s5, s6⟩, ⟨s7, s8, s9, s10⟩, ⟨s11, s12, s13, s14, s15, s16, s17⟩⟩; go_simp <;> with_reducible rfl) ?_
  simp only [Act.put, sA, sB, sC]
  refine tkA (i := 107) (oi := ⟨some 115, .binOp .eql 3 (.tmp 114) (.const (Go.Value.int Go.IntKind.i64 0)) 3, 4, "msg.go:26", #[⟨106, .data⟩], none⟩) hH.out (by rintro w ⟨⟨s0, s1, s2, s3, s4, s5, s6⟩, ⟨s7, s8, s9, s10⟩, ⟨s11, s12, s13, s14, s15, s16, s17⟩⟩; go_simp <;> with_reducible rfl) ?_
  simp only [Act.put, sA, sB, sC]
  refine tkA (i := 108) (oi := ⟨some 116, .fieldAddr 28 (.tmp 2) 15, 0, "msg.go:26", #[], none⟩) hH.out (by rintro w ⟨⟨s0, s1, s2, s3, s4, s5, s6⟩, ⟨s7, s8, s9, s10⟩, ⟨s11, s12, s13, s14, s15, s16, s17⟩⟩; go_simp <;> with_reducible rfl) ?_
  simp only [Act.put, sA, sB, sC]
  refine tkA (i := 109) (oi := ⟨some 117, .load 26 (.tmp 116), 26, "msg.go:26", #[⟨108, .data⟩], none⟩) hH.out (by rintro w ⟨⟨s0, s1, s2, s3, s4, s5, s6⟩, ⟨s7, s8, s9, s10⟩, ⟨s11, s12, s13, s14, s15, s16, s17⟩⟩; go_simp <;> with_reducible rfl) ?_
  simp only [Act.put, sA, sB, sC]
  refine tkA (i := 114) (oi := ⟨some 122, .move (.const (Go.Value.int Go.IntKind.i64 0)), 3, "msg.go:26", #[], none⟩) hH.out (by rintro w ⟨⟨s0, s1, s2, s3, s4, s5, s6⟩, ⟨s7, s8, s9, s10⟩, ⟨s11, s12, s13, s14, s15, s16, s17⟩⟩; go_simp <;> with_reducible rfl) ?_
  simp only [Act.put, sA, sB, sC]
  refine rdyA (i := 5) (oi := ⟨some 13, .call ⟨.value (.func 31), #[.tmp 12], #[22]⟩, 4, "msg.go:30", #[⟨4, .data⟩], none⟩) (fun K hK => ?_)
  go_simp
  refine (HR0.out _).mono ?_
  rintro x w0 ⟨rfl, rfl⟩
  go_wp2_with fail
  refine hK.out _ _ (by first | with_reducible exact K9.out | with_reducible exact K8.out | with_reducible exact K7.out | with_reducible exact K6.out | with_reducible exact K5.out | with_reducible exact K4.out | with_reducible exact K2.out) (fun hHeld => ?_)
  replace hH := Lib.hid hHeld
  clear hK K hHeld
  try simp only [Act.put, sA, sB, sC]
  refine tkA (i := 6) (oi := ⟨some 14, .build 87 #[(0, .const (Go.Value.int Go.IntKind.i64 1)), (1, .tmp 10), (2, .tmp 13)], 87, "msg.go:26", #[⟨2, .data⟩, ⟨5, .data⟩], none⟩) hH.out (by rintro w ⟨⟨s0, s1, s2, s3, s4, s5, s6⟩, ⟨s7, s8, s9, s10⟩, ⟨s11, s12, s13, s14, s15, s16, s17⟩⟩; go_simp <;> with_reducible rfl) ?_
  simp only [Act.put, sA, sB, sC]
  refine rdyA (i := 12) (oi := ⟨some 20, .call ⟨.value (.func 31), #[.tmp 19], #[22]⟩, 4, "msg.go:31", #[⟨11, .data⟩, ⟨5, .chain⟩], none⟩) (fun K hK => ?_)
  go_simp
  refine (HR1.out _).mono ?_
  rintro x w0 ⟨rfl, rfl⟩
  go_wp2_with fail
  refine hK.out _ _ (by first | with_reducible exact K9.out | with_reducible exact K8.out | with_reducible exact K7.out | with_reducible exact K6.out | with_reducible exact K5.out | with_reducible exact K4.out | with_reducible exact K2.out) (fun hHeld => ?_)
  replace hH := Lib.hid hHeld
  clear hK K hHeld
  try simp only [Act.put, sA, sB, sC]
  refine tkA (i := 13) (oi := ⟨some 21, .build 87 #[(0, .const (Go.Value.int Go.IntKind.i64 2)), (1, .tmp 17), (2, .tmp 20)], 87, "msg.go:26", #[⟨9, .data⟩, ⟨12, .data⟩], none⟩) hH.out (by rintro w ⟨⟨s0, s1, s2, s3, s4, s5, s6⟩, ⟨s7, s8, s9, s10⟩, ⟨s11, s12, s13, s14, s15, s16, s17⟩⟩; go_simp <;> with_reducible rfl) ?_
  simp only [Act.put, sA, sB, sC]
  refine tkA (i := 20) (oi := ⟨some 28, .move (.tmp 27), 4, "msg.go:26", #[⟨19, .data⟩, ⟨12, .chain⟩], none⟩) hH.out (by rintro w ⟨⟨s0, s1, s2, s3, s4, s5, s6⟩, ⟨s7, s8, s9, s10⟩, ⟨s11, s12, s13, s14, s15, s16, s17⟩⟩; go_simp <;> with_reducible rfl) ?_
  simp only [Act.put, sA, sB, sC]
  refine tkgA (i := 21) (oi := { dst := some 29, op := .fieldAddr 28 (.tmp 2) 5, type := 0, pos := "msg.go:26", after := #[⟨20, .guard⟩], guard := some (20, true) }) (B := decide (1 ≤ m.kd)) (v1 := .pointer (some ⟨z, 5, none⟩)) hH.out (bst _) (by rintro hb w ⟨⟨s0, s1, s2, s3, s4, s5, s6⟩, ⟨s7, s8, s9, s10⟩, ⟨s11, s12, s13, s14, s15, s16, s17⟩⟩; skip; go_simp <;> with_reducible rfl) (fun v29 hv29 => ?_)
  simp only [Act.put, sA, sB, sC]
  refine tkgA (i := 22) (oi := { dst := some 30, op := .load 3 (.tmp 29), type := 3, pos := "msg.go:26", after := #[⟨21, .data⟩, ⟨20, .guard⟩], guard := some (20, true) }) (B := decide (1 ≤ m.kd)) (v1 := .int .i64 m.kd) hH.out (bst _) (by rintro hb w ⟨⟨s0, s1, s2, s3, s4, s5, s6⟩, ⟨s7, s8, s9, s10⟩, ⟨s11, s12, s13, s14, s15, s16, s17⟩⟩; have e := hv29.out hb; subst e; go_simp <;> with_reducible rfl) (fun v30 hv30 => ?_)
  simp only [Act.put, sA, sB, sC]
  refine tkgA (i := 23) (oi := { dst := some 31, op := .binOp .leq 3 (.tmp 30) (.const (Go.Value.int Go.IntKind.i64 14)) 3, type := 4, pos := "msg.go:26", after := #[⟨22, .data⟩, ⟨20, .guard⟩], guard := some (20, true) }) (B := decide (1 ≤ m.kd)) (v1 := .bool (decide (m.kd ≤ 14))) hH.out (bst _) (by rintro hb w ⟨⟨s0, s1, s2, s3, s4, s5, s6⟩, ⟨s7, s8, s9, s10⟩, ⟨s11, s12, s13, s14, s15, s16, s17⟩⟩; have e := hv30.out hb; subst e; go_simp <;> with_reducible rfl) (fun v31 hv31 => ?_)
  simp only [Act.put, sA, sB, sC]
  refine tkmA (i := 24) (oi := ⟨some 32, .pick (.tmp 28) (.tmp 31) (.const (Go.Value.bool false)), 4, "msg.go:26", #[⟨20, .data⟩, ⟨23, .data⟩], none⟩) (v := .bool (decide (1 ≤ m.kd) && decide (m.kd ≤ 14))) hH.out (yl_and rfl (.tmp 28) (.tmp 31) rfl rfl rfl hv31.out) ?_
  simp only [Act.put, sA, sB, sC]
  refine tkA (i := 25) (oi := ⟨some 33, .build 87 #[(0, .const (Go.Value.int Go.IntKind.i64 4)), (1, .tmp 24), (2, .tmp 32)], 87, "msg.go:26", #[⟨16, .data⟩, ⟨24, .data⟩], none⟩) hH.out (by rintro w ⟨⟨s0, s1, s2, s3, s4, s5, s6⟩, ⟨s7, s8, s9, s10⟩, ⟨s11, s12, s13, s14, s15, s16, s17⟩⟩; go_simp <;> with_reducible rfl) ?_
  simp only [Act.put, sA, sB, sC]
  refine tkA (i := 32) (oi := ⟨some 40, .move (.tmp 39), 4, "msg.go:26", #[⟨31, .data⟩, ⟨20, .chain⟩], none⟩) hH.out (by rintro w ⟨⟨s0, s1, s2, s3, s4, s5, s6⟩, ⟨s7, s8, s9, s10⟩, ⟨s11, s12, s13, s14, s15, s16, s17⟩⟩; go_simp <;> with_reducible rfl) ?_
  simp only [Act.put, sA, sB, sC]
  refine tkgA (i := 33) (oi := { dst := some 41, op := .fieldAddr 28 (.tmp 2) 6, type := 0, pos := "msg.go:26", after := #[⟨32, .guard⟩], guard := some (32, true) }) (B := decide (0 ≤ m.er)) (v1 := .pointer (some ⟨z, 6, none⟩)) hH.out (bst _) (by rintro hb w ⟨⟨s0, s1, s2, s3, s4, s5, s6⟩, ⟨s7, s8, s9, s10⟩, ⟨s11, s12, s13, s14, s15, s16, s17⟩⟩; skip; go_simp <;> with_reducible rfl) (fun v41 hv41 => ?_)
  simp only [Act.put, sA, sB, sC]
  refine tkgA (i := 34) (oi := { dst := some 42, op := .load 23 (.tmp 41), type := 23, pos := "msg.go:26", after := #[⟨33, .data⟩, ⟨32, .guard⟩], guard := some (32, true) }) (B := decide (0 ≤ m.er)) (v1 := .int .i64 m.er) hH.out (bst _) (by rintro hb w ⟨⟨s0, s1, s2, s3, s4, s5, s6⟩, ⟨s7, s8, s9, s10⟩, ⟨s11, s12, s13, s14, s15, s16, s17⟩⟩; have e := hv41.out hb; subst e; go_simp <;> with_reducible rfl) (fun v42 hv42 => ?_)
  simp only [Act.put, sA, sB, sC]
  refine tkgA (i := 35) (oi := { dst := some 43, op := .binOp .leq 23 (.tmp 42) (.const (Go.Value.int Go.IntKind.i64 25)) 23, type := 4, pos := "msg.go:26", after := #[⟨34, .data⟩, ⟨32, .guard⟩], guard := some (32, true) }) (B := decide (0 ≤ m.er)) (v1 := .bool (decide (m.er ≤ 25))) hH.out (bst _) (by rintro hb w ⟨⟨s0, s1, s2, s3, s4, s5, s6⟩, ⟨s7, s8, s9, s10⟩, ⟨s11, s12, s13, s14, s15, s16, s17⟩⟩; have e := hv42.out hb; subst e; go_simp <;> with_reducible rfl) (fun v43 hv43 => ?_)
  simp only [Act.put, sA, sB, sC]
  refine tkmA (i := 36) (oi := ⟨some 44, .pick (.tmp 40) (.tmp 43) (.const (Go.Value.bool false)), 4, "msg.go:26", #[⟨32, .data⟩, ⟨35, .data⟩], none⟩) (v := .bool (decide (0 ≤ m.er) && decide (m.er ≤ 25))) hH.out (yl_and rfl (.tmp 40) (.tmp 43) rfl rfl rfl hv43.out) ?_
  simp only [Act.put, sA, sB, sC]
  refine tkA (i := 37) (oi := ⟨some 45, .build 87 #[(0, .const (Go.Value.int Go.IntKind.i64 8)), (1, .tmp 36), (2, .tmp 44)], 87, "msg.go:26", #[⟨28, .data⟩, ⟨36, .data⟩], none⟩) hH.out (by rintro w ⟨⟨s0, s1, s2, s3, s4, s5, s6⟩, ⟨s7, s8, s9, s10⟩, ⟨s11, s12, s13, s14, s15, s16, s17⟩⟩; go_simp <;> with_reducible rfl) ?_
  simp only [Act.put, sA, sB, sC]
  refine rdyA (i := 44) (oi := ⟨some 52, .call ⟨.value (.func 59), #[.tmp 51], #[25]⟩, 4, "msg.go:34", #[⟨43, .data⟩, ⟨32, .chain⟩], none⟩) (fun K hK => ?_)
  go_simp
  refine (HR4.out _).mono ?_
  rintro x w4 ⟨rfl, a4⟩
  have HA4 := Lib.hid (HA2.out.trans a4)
  have HB4 := Lib.hid (HB2.out.over a4)
  have K4 := Lib.hid (HC.out _ _ HB4.out)
  clear a4
  go_wp2_with fail
  refine hK.out _ _ (by first | with_reducible exact K9.out | with_reducible exact K8.out | with_reducible exact K7.out | with_reducible exact K6.out | with_reducible exact K5.out | with_reducible exact K4.out | with_reducible exact K2.out) (fun hHeld => ?_)
  replace hH := Lib.hid hHeld
  clear hK K hHeld
  try simp only [Act.put, sA, sB, sC]
  refine tkA (i := 45) (oi := ⟨some 53, .build 87 #[(0, .const (Go.Value.int Go.IntKind.i64 16)), (1, .tmp 49), (2, .tmp 52)], 87, "msg.go:26", #[⟨41, .data⟩, ⟨44, .data⟩], none⟩) hH.out (by rintro w ⟨⟨s0, s1, s2, s3, s4, s5, s6⟩, ⟨s7, s8, s9, s10⟩, ⟨s11, s12, s13, s14, s15, s16, s17⟩⟩; go_simp <;> with_reducible rfl) ?_
  simp only [Act.put, sA, sB, sC]
  refine rdyA (i := 52) (oi := ⟨some 60, .call ⟨.value (.func 59), #[.tmp 59], #[25]⟩, 4, "msg.go:35", #[⟨51, .data⟩, ⟨44, .chain⟩], none⟩) (fun K hK => ?_)
  go_simp
  refine (HR5.out _).mono ?_
  rintro x w5 ⟨rfl, a5⟩
  have HA5 := Lib.hid (HA4.out.trans a5)
  have HB5 := Lib.hid (HB4.out.over a5)
  have K5 := Lib.hid (HC.out _ _ HB5.out)
  clear a5
  go_wp2_with fail
  refine hK.out _ _ (by first | with_reducible exact K9.out | with_reducible exact K8.out | with_reducible exact K7.out | with_reducible exact K6.out | with_reducible exact K5.out | with_reducible exact K4.out | with_reducible exact K2.out) (fun hHeld => ?_)
  replace hH := Lib.hid hHeld
  clear hK K hHeld
  try simp only [Act.put, sA, sB, sC]
  refine tkA (i := 53) (oi := ⟨some 61, .build 87 #[(0, .const (Go.Value.int Go.IntKind.i64 32)), (1, .tmp 57), (2, .tmp 60)], 87, "msg.go:26", #[⟨49, .data⟩, ⟨52, .data⟩], none⟩) hH.out (by rintro w ⟨⟨s0, s1, s2, s3, s4, s5, s6⟩, ⟨s7, s8, s9, s10⟩, ⟨s11, s12, s13, s14, s15, s16, s17⟩⟩; go_simp <;> with_reducible rfl) ?_
  simp only [Act.put, sA, sB, sC]
  refine rdyA (i := 59) (oi := ⟨some 67, .call ⟨.value (.func 60), #[.tmp 66], #[9]⟩, 23, "msg.go:36", #[⟨58, .data⟩, ⟨52, .chain⟩], none⟩) (fun K hK => ?_)
  go_simp
  refine (HR6.out _).mono ?_
  rintro x w6 ⟨rfl, a6⟩
  have HA6 := Lib.hid (HA5.out.trans a6)
  have HB6 := Lib.hid (HB5.out.over a6)
  have K6 := Lib.hid (HC.out _ _ HB6.out)
  clear a6
  go_wp2_with fail
  refine hK.out _ _ (by first | with_reducible exact K9.out | with_reducible exact K8.out | with_reducible exact K7.out | with_reducible exact K6.out | with_reducible exact K5.out | with_reducible exact K4.out | with_reducible exact K2.out) (fun hHeld => ?_)
  replace hH := Lib.hid hHeld
  clear hK K hHeld
  try simp only [Act.put, sA, sB, sC]
  refine tkA (i := 60) (oi := ⟨some 68, .binOp .eql 23 (.tmp 67) (.const (Go.Value.int Go.IntKind.i64 0)) 23, 4, "msg.go:26", #[⟨59, .data⟩], none⟩) hH.out (by rintro w ⟨⟨s0, s1, s2, s3, s4, s5, s6⟩, ⟨s7, s8, s9, s10⟩, ⟨s11, s12, s13, s14, s15, s16, s17⟩⟩; go_simp <;> with_reducible rfl) ?_
  simp only [Act.put, sA, sB, sC]
  refine tkA (i := 61) (oi := ⟨some 69, .build 87 #[(0, .const (Go.Value.int Go.IntKind.i64 64)), (1, .tmp 64), (2, .tmp 68)], 87, "msg.go:26", #[⟨56, .data⟩, ⟨60, .data⟩], none⟩) hH.out (by rintro w ⟨⟨s0, s1, s2, s3, s4, s5, s6⟩, ⟨s7, s8, s9, s10⟩, ⟨s11, s12, s13, s14, s15, s16, s17⟩⟩; go_simp <;> with_reducible rfl) ?_
  simp only [Act.put, sA, sB, sC]
  refine rdyA (i := 67) (oi := ⟨some 75, .call ⟨.value (.func 60), #[.tmp 74], #[9]⟩, 23, "msg.go:37", #[⟨66, .data⟩, ⟨59, .chain⟩], none⟩) (fun K hK => ?_)
  go_simp
  refine (HR7.out _).mono ?_
  rintro x w7 ⟨rfl, a7⟩
  have HA7 := Lib.hid (HA6.out.trans a7)
  have HB7 := Lib.hid (HB6.out.over a7)
  have K7 := Lib.hid (HC.out _ _ HB7.out)
  clear a7
  go_wp2_with fail
  refine hK.out _ _ (by first | with_reducible exact K9.out | with_reducible exact K8.out | with_reducible exact K7.out | with_reducible exact K6.out | with_reducible exact K5.out | with_reducible exact K4.out | with_reducible exact K2.out) (fun hHeld => ?_)
  replace hH := Lib.hid hHeld
  clear hK K hHeld
  try simp only [Act.put, sA, sB, sC]
  refine tkA (i := 68) (oi := ⟨some 76, .binOp .eql 23 (.tmp 75) (.const (Go.Value.int Go.IntKind.i64 0)) 23, 4, "msg.go:26", #[⟨67, .data⟩], none⟩) hH.out (by rintro w ⟨⟨s0, s1, s2, s3, s4, s5, s6⟩, ⟨s7, s8, s9, s10⟩, ⟨s11, s12, s13, s14, s15, s16, s17⟩⟩; go_simp <;> with_reducible rfl) ?_
  simp only [Act.put, sA, sB, sC]
  refine tkA (i := 69) (oi := ⟨some 77, .build 87 #[(0, .const (Go.Value.int Go.IntKind.i64 128)), (1, .tmp 72), (2, .tmp 76)], 87, "msg.go:26", #[⟨64, .data⟩, ⟨68, .data⟩], none⟩) hH.out (by rintro w ⟨⟨s0, s1, s2, s3, s4, s5, s6⟩, ⟨s7, s8, s9, s10⟩, ⟨s11, s12, s13, s14, s15, s16, s17⟩⟩; go_simp <;> with_reducible rfl) ?_
  simp only [Act.put, sA, sB, sC]
  refine rdyA (i := 75) (oi := ⟨some 83, .call ⟨.value (.func 61), #[.tmp 82], #[3]⟩, 4, "msg.go:38", #[⟨74, .data⟩, ⟨67, .chain⟩], none⟩) (fun K hK => ?_)
  go_simp
  refine (HR8.out _).mono ?_
  rintro x w0 ⟨rfl, rfl⟩
  go_wp2_with fail
  refine hK.out _ _ (by first | with_reducible exact K9.out | with_reducible exact K8.out | with_reducible exact K7.out | with_reducible exact K6.out | with_reducible exact K5.out | with_reducible exact K4.out | with_reducible exact K2.out) (fun hHeld => ?_)
  replace hH := Lib.hid hHeld
  clear hK K hHeld
  try simp only [Act.put, sA, sB, sC]
  refine tkA (i := 76) (oi := ⟨some 84, .build 87 #[(0, .const (Go.Value.int Go.IntKind.i64 256)), (1, .tmp 80), (2, .tmp 83)], 87, "msg.go:26", #[⟨72, .data⟩, ⟨75, .data⟩], none⟩) hH.out (by rintro w ⟨⟨s0, s1, s2, s3, s4, s5, s6⟩, ⟨s7, s8, s9, s10⟩, ⟨s11, s12, s13, s14, s15, s16, s17⟩⟩; go_simp <;> with_reducible rfl) ?_
  simp only [Act.put, sA, sB, sC]
  refine tkA (i := 83) (oi := ⟨some 91, .move (.tmp 90), 4, "msg.go:26", #[⟨82, .data⟩, ⟨75, .chain⟩], none⟩) hH.out (by rintro w ⟨⟨s0, s1, s2, s3, s4, s5, s6⟩, ⟨s7, s8, s9, s10⟩, ⟨s11, s12, s13, s14, s15, s16, s17⟩⟩; go_simp <;> with_reducible rfl) ?_
  simp only [Act.put, sA, sB, sC]
  refine tkgA (i := 84) (oi := { dst := some 92, op := .fieldAddr 28 (.tmp 2) 12, type := 0, pos := "msg.go:26", after := #[⟨83, .guard⟩], guard := some (83, true) }) (B := decide (0 ≤ m.at_)) (v1 := .pointer (some ⟨z, 14, none⟩)) hH.out (bst _) (by rintro hb w ⟨⟨s0, s1, s2, s3, s4, s5, s6⟩, ⟨s7, s8, s9, s10⟩, ⟨s11, s12, s13, s14, s15, s16, s17⟩⟩; skip; go_simp <;> with_reducible rfl) (fun v92 hv92 => ?_)
  simp only [Act.put, sA, sB, sC]
  refine tkgA (i := 85) (oi := { dst := some 93, op := .load 3 (.tmp 92), type := 3, pos := "msg.go:26", after := #[⟨84, .data⟩, ⟨83, .guard⟩], guard := some (83, true) }) (B := decide (0 ≤ m.at_)) (v1 := .int .i64 m.at_) hH.out (bst _) (by rintro hb w ⟨⟨s0, s1, s2, s3, s4, s5, s6⟩, ⟨s7, s8, s9, s10⟩, ⟨s11, s12, s13, s14, s15, s16, s17⟩⟩; have e := hv92.out hb; subst e; go_simp <;> with_reducible rfl) (fun v93 hv93 => ?_)
  simp only [Act.put, sA, sB, sC]
  refine tkgA (i := 86) (oi := { dst := some 94, op := .binOp .lss 3 (.tmp 93) (.const (Go.Value.int Go.IntKind.i64 8)) 3, type := 4, pos := "msg.go:26", after := #[⟨85, .data⟩, ⟨83, .guard⟩], guard := some (83, true) }) (B := decide (0 ≤ m.at_)) (v1 := .bool (decide (m.at_ < 8))) hH.out (bst _) (by rintro hb w ⟨⟨s0, s1, s2, s3, s4, s5, s6⟩, ⟨s7, s8, s9, s10⟩, ⟨s11, s12, s13, s14, s15, s16, s17⟩⟩; have e := hv93.out hb; subst e; go_simp <;> with_reducible rfl) (fun v94 hv94 => ?_)
  simp only [Act.put, sA, sB, sC]
  refine tkmA (i := 87) (oi := ⟨some 95, .pick (.tmp 91) (.tmp 94) (.const (Go.Value.bool false)), 4, "msg.go:26", #[⟨83, .data⟩, ⟨86, .data⟩], none⟩) (v := .bool (decide (0 ≤ m.at_) && decide (m.at_ < 8))) hH.out (yl_and rfl (.tmp 91) (.tmp 94) rfl rfl rfl hv94.out) ?_
  simp only [Act.put, sA, sB, sC]
  refine tkA (i := 88) (oi := ⟨some 96, .build 87 #[(0, .const (Go.Value.int Go.IntKind.i64 512)), (1, .tmp 87), (2, .tmp 95)], 87, "msg.go:26", #[⟨79, .data⟩, ⟨87, .data⟩], none⟩) hH.out (by rintro w ⟨⟨s0, s1, s2, s3, s4, s5, s6⟩, ⟨s7, s8, s9, s10⟩, ⟨s11, s12, s13, s14, s15, s16, s17⟩⟩; go_simp <;> with_reducible rfl) ?_
  simp only [Act.put, sA, sB, sC]
  refine rdyA (i := 110) (oi := ⟨some 118, .call ⟨.value (.func 62), #[.tmp 117], #[26]⟩, 4, "msg.go:42", #[⟨109, .data⟩, ⟨83, .chain⟩], none⟩) (fun K hK => ?_)
  go_simp
  refine (HR12.out _ (HEN.out.step HA7.out)).mono ?_
  rintro x w8 ⟨rfl, a8⟩
  have HA8 := Lib.hid (HA7.out.trans a8)
  have HB8 := Lib.hid (HB7.out.over a8)
  have K8 := Lib.hid (HC.out _ _ HB8.out)
  clear a8
  go_wp2_with fail
  refine hK.out _ _ (by first | with_reducible exact K9.out | with_reducible exact K8.out | with_reducible exact K7.out | with_reducible exact K6.out | with_reducible exact K5.out | with_reducible exact K4.out | with_reducible exact K2.out) (fun hHeld => ?_)
  replace hH := Lib.hid hHeld
  clear hK K hHeld
  try simp only [Act.put, sA, sB, sC]
  refine tkA (i := 111) (oi := ⟨some 119, .build 87 #[(0, .const (Go.Value.int Go.IntKind.i64 4096)), (1, .tmp 115), (2, .tmp 118)], 87, "msg.go:26", #[⟨107, .data⟩, ⟨110, .data⟩], none⟩) hH.out (by rintro w ⟨⟨s0, s1, s2, s3, s4, s5, s6⟩, ⟨s7, s8, s9, s10⟩, ⟨s11, s12, s13, s14, s15, s16, s17⟩⟩; go_simp <;> with_reducible rfl) ?_
  simp only [Act.put, sA, sB, sC]
  refine rdyA (i := 112) (oi := ⟨some 120, .buildSlice 91 13 #[(0, .tmp 14), (1, .tmp 21), (2, .tmp 33), (3, .tmp 45), (4, .tmp 53), (5, .tmp 61), (6, .tmp 69), (7, .tmp 77), (8, .tmp 84), (9, .tmp 96), (10, .tmp 104), (11, .tmp 111), (12, .tmp 119)], 91, "msg.go:26", #[⟨6, .data⟩, ⟨13, .data⟩, ⟨25, .data⟩, ⟨37, .data⟩, ⟨45, .data⟩, ⟨53, .data⟩, ⟨61, .data⟩, ⟨69, .data⟩, ⟨76, .data⟩, ⟨88, .data⟩, ⟨96, .data⟩, ⟨103, .data⟩, ⟨111, .data⟩], none⟩) (fun K hK => ?_)
  refine kst_brows (vs := vsW m r0 r1 r4 r5 r8 r12 n6 n7 N) rfl rfl rfl rowsR_info (by decide) (by decide) (by decide) (by kernel_rfl) (by simp [vsW, Value.cells]) rfl (fun b w9 hb hB ha => ?_)
  have HBB := Lib.hid (Nat.le_trans HA8.out.size hb)
  have HR9 := Lib.hid (show Blk w9 b 87 ((List.range 13).flatMap (rowF m)).toArray from by rw [← vsW_rows m N n6 n7 HV6.out HV7.out HN.out]; obtain ⟨e0, e1, e4, e5, e8, e12⟩ := HRR.out; rw [← e0, ← e1, ← e4, ← e5, ← e8, ← e12]; exact hB)
  have HA9 := Lib.hid (HA8.out.trans ha)
  have K9 := Lib.hid (HC.out _ _ (HB8.out.over ha))
  clear hb hB ha
  refine hK.out _ _ (by first | with_reducible exact K9.out | with_reducible exact K8.out | with_reducible exact K7.out | with_reducible exact K6.out | with_reducible exact K5.out | with_reducible exact K4.out | with_reducible exact K2.out) (fun hHeld => ?_)
  replace hH := Lib.hid hHeld
  clear hK K hHeld
  try simp only [Act.put, sA, sB, sC]
  refine tkA (i := 113) (oi := ⟨some 121, .call ⟨.builtin .len, #[.tmp 120], #[91]⟩, 3, "msg.go:26", #[⟨112, .data⟩], none⟩) hH.out (by rintro w ⟨⟨s0, s1, s2, s3, s4, s5, s6⟩, ⟨s7, s8, s9, s10⟩, ⟨s11, s12, s13, s14, s15, s16, s17⟩⟩; go_simp <;> with_reducible rfl) ?_
  simp only [Act.put, sA, sB, sC]
  refine wpAnyH_done (by as_aux_lemma => kernel_rfl) ?_ _
  obtain ⟨D, hD⟩ : ∃ D, D = ((List.range 13).flatMap (rowF m)).toArray := ⟨_, rfl⟩
  have HD := Lib.hid (show ∀ w', Blk w' b 87 D → Blk w' b 87 ((List.range 13).flatMap (rowF m)).toArray from fun w' x => by rw [← hD]; exact x)
  rw [← hD] at HR9
  clear hD
  clear HR0 HR1 HR4 HR5 HR6 HR7 HR8 HR12 HV6 HV7 HRR K2 K4 K5 K6 K7 K8 K9 hH
  go_wp2_with fail
  go_loopw [122] (FlL w b m h D) (fun t _ => 13 - (intOf t).toNat)
  case atStart => exact ⟨0, Nat.zero_le _, rfl, fun i hi => absurd hi (Nat.not_lt_zero _), HR9.out, HA9.out⟩
  case round =>
    obtain ⟨k, hk, rfl, hall, hb, ha⟩ := hrel
    have HALL := Lib.hid hall
    have HBk := Lib.hid hb
    have HAk := Lib.hid ha
    clear hall hb ha
    by_cases hlt : k < 13
    · obtain ⟨g0, g1, g2⟩ := rows_at m (HD.out _ HBk.out) k hlt
      have HAS := Lib.hid (fun w => fhas_any h k HH.out hlt w)
      obtain ⟨p, hp⟩ : ∃ p : Int, p = ((2 ^ k : Nat) : Int) := ⟨_, rfl⟩
      obtain ⟨T, hT⟩ : ∃ T, T = h.testBit k := ⟨_, rfl⟩
      obtain ⟨Z, hZ⟩ : ∃ T, T = zf m k := ⟨_, rfl⟩
      obtain ⟨R, hR⟩ : ∃ T, T = rf m k := ⟨_, rfl⟩
      rw [← hp] at g0 HAS
      rw [← hT] at HAS
      rw [← hZ] at g1
      rw [← hR] at g2
      have HNO := Lib.hid (show (if T then R else Z) = false → B = false from fun hx => by
        rw [HB.out]
        cases hb : allB m h
        · rfl
        · have hq : (if h.testBit k then rf m k else zf m k) = true := (allF_of hb) k hlt
          rw [← hT, ← hZ, ← hR, hx] at hq
          cases hq)
      have HYES := Lib.hid (show (if T then R else Z) = true → ∀ i, i < k + 1 → (if h.testBit i then rf m i else zf m i) = true from fun hx i hi => by
        by_cases e : i = k
        · rw [e, ← hT, ← hZ, ← hR]; exact hx
        · exact HALL.out i (by omega))
      have hki : (k : Int) < 13 := by omega
      have HLT := Lib.hid hlt
      have HAW := Lib.hid (HAk.out.alloc (.cells #[.int .i64 p, .bool Z, .bool R] 87))
      have HBW := Lib.hid (HBk.out.alloc (.cells #[.int .i64 p, .bool Z, .bool R] 87))
      clear hp hT hZ hR hlt hk
      cases T with
      | true =>
        cases R with
        | true =>
          go_wp2_with (first
            | (go_at_call 63; refine (HAS.out _).mono ?_; rintro x w9 ⟨rfl, rfl⟩)
            | fail)
          exact ⟨⟨k + 1, HLT.out, by go_num, HYES.out rfl, HBW.out, HAW.out⟩, by have := HLT.out; simp [intOf] <;> omega⟩
        | false =>
          obtain rfl := HNO.out rfl
          go_wp2_with (first
            | (go_at_call 63; refine (HAS.out _).mono ?_; rintro x w9 ⟨rfl, rfl⟩)
            | fail)
          go_ret
          exact ⟨rfl, HAW.out⟩
      | false =>
        cases Z with
        | true =>
          go_wp2_with (first
            | (go_at_call 63; refine (HAS.out _).mono ?_; rintro x w9 ⟨rfl, rfl⟩)
            | fail)
          exact ⟨⟨k + 1, HLT.out, by go_num, HYES.out rfl, HBW.out, HAW.out⟩, by have := HLT.out; simp [intOf] <;> omega⟩
        | false =>
          obtain rfl := HNO.out rfl
          go_wp2_with (first
            | (go_at_call 63; refine (HAS.out _).mono ?_; rintro x w9 ⟨rfl, rfl⟩)
            | fail)
          go_ret
          exact ⟨rfl, HAW.out⟩
    · obtain rfl : k = 13 := by omega
      obtain rfl : B = true := by rw [HB.out]; exact of_allF HALL.out
      clear hlt hk
      go_wp2_with fail
      go_ret
      exact ⟨rfl, HAk.out⟩
end Go.Proofs.Ytpgeebhepegpaaa
