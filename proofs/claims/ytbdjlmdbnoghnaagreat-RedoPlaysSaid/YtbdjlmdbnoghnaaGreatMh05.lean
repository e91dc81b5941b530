/- ATOMIC SECTORS: a sector torn between two pieces. Which piece bytes are: the document's Unseal. Plain arithmetic for the reader. Plain arithmetic of heads. -/
import Derived.Test.YtbdjlmdbnoghnaaGreatMh04
import Derived.Deep.DeepCutAuto
import Derived.Test.YtbdjlmdbnoghnaaGreatMh00
namespace Go.Proofs.YtbdjlmdbnoghnaaGreat
open Go.RowKit

theorem Rd.drewN {w : World} {v : Value} {n : Nat} {xs : List Value} (h : Rd w 1 v n xs) (k : Nat) : Rd (w.drewN k) 1 v n xs := h
def sealE (p : Pc) : Int := if p.ok then 0 else 2
def SealO (w : World) (p : Pc) (x : Ending) (w' : World) : Prop :=
  ∃ A m k F, x = .returned (.tuple #[.slice A m k, .int .i64 (sealE p)]) ∧ Adv Nul w F w' ∧ (p.ok → m = 128 ∧ Sl w' F 5 1 (.slice A 128 k) 128 ((sealL p).map u8)) ∧ (¬ p.ok → A = none ∧ m = 0 ∧ k = 0)
theorem seal_any (p : Pc) (v : Value) (w : World) (hv : Rd w 1 v p.d.length (p.d.map u8)) (hd : ∀ x ∈ p.d, x < 256) :
    Calls Tryz.prog 79 #[.agg #[.int .u64 (p.e : Int), .int .u64 (p.c : Int), .bool p.f, .bool p.g, v]] w (SealO w p) := by
  by_cases h : p.ok
  · refine (seal_ok p v w h hv hd).mono ?_
    rintro x w' ⟨v', F, rfl, h1, a1⟩
    obtain ⟨A, k, rfl, _, _⟩ := h1.form0
    exact ⟨A, 128, k, F, by rw [sealE, if_pos h], a1, fun _ => ⟨rfl, h1⟩, fun h' => absurd h h'⟩
  · refine (seal_no p v w h hv).mono ?_
    rintro x w' ⟨rfl, a1⟩
    exact ⟨none, 0, 0, Nul, by rw [sealE, if_neg h], a1, fun h' => absurd h' h, fun _ => ⟨rfl, rfl, rfl⟩⟩
theorem rseal_any (p : Pc) (v : Value) (w : World) (hv : Rd w 1 v p.d.length (p.d.map u8)) (hd : ∀ x ∈ p.d, x < 256) :
    Calls Tryz.prog 51 #[.agg #[.int .u64 (p.e : Int), .int .u64 (p.c : Int), .bool p.f, .bool p.g, v]] w (SealO w p) := by
  by_cases h : p.ok
  · refine (rseal_ok p v w h hv hd).mono ?_
    rintro x w' ⟨v', F, rfl, h1, a1⟩
    obtain ⟨A, k, rfl, _, _⟩ := h1.form0
    exact ⟨A, 128, k, F, by rw [sealE, if_pos h], a1, fun _ => ⟨rfl, h1⟩, fun h' => absurd h h'⟩
  · refine (rseal_no p v w h hv).mono ?_
    rintro x w' ⟨rfl, a1⟩
    exact ⟨none, 0, 0, Nul, by rw [sealE, if_neg h], a1, fun h' => absurd h' h, fun _ => ⟨rfl, rfl, rfl⟩⟩
end Go.Proofs.YtbdjlmdbnoghnaaGreat
namespace Go.Proofs.YtbdjlmdbnoghnaaGreat
open Go.RowKit

theorem run_quo64 (w : World) (s d : Nat) (hd : 0 < d) (hs : s < 18446744073709551616) : (binOp .quo 49 (.int .u64 s) (.int .u64 d)).run Tryz.prog w = .ok (.int .u64 ((s / d : Nat) : Int)) w := by
  have h0 : ¬ d = 0 := by omega
  have h1 : s / d ≤ s := Nat.div_le_self s d
  have h2 : (s : Int) / (d : Int) = ((s / d : Nat) : Int) := (Int.natCast_ediv s d).symm
  simp only [go_sem]
  simp [h0]
  rw [h2]
  obtain ⟨q, hq⟩ : ∃ q, q = s / d := ⟨_, rfl⟩
  rw [← hq] at h1 ⊢
  rw [IntKind.wrap_u64]
  omega
theorem run_rem64 (w : World) (s d : Nat) (hd : 0 < d) : (binOp .rem 49 (.int .u64 s) (.int .u64 d)).run Tryz.prog w = .ok (.int .u64 ((s % d : Nat) : Int)) w := by
  have h0 : ¬ d = 0 := by omega
  simp [go_sem, h0]
  exact Int.tmod_eq_emod_of_nonneg (by omega)
theorem y_quo {ops : Array Oper} {S : World → Prop} {op : Oper} {a : Act} {t : TypeId} (hw : Region.wanted op (yielded ops a.tmps) = true) (x y : Operand) (ho : op.op = .binOp .quo 49 x y t) (s d q : Nat) (hd : 0 < d) (hs : s < 18446744073709551616) (hx : a.eval x = .int .u64 (s : Int)) (hy : a.eval y = .int .u64 (d : Int)) (hq : q = s / d) :
    YieldsIf Tryz.prog ops S op (.int .u64 (q : Int)) a := .inl ⟨hw, fun w _ => by
  subst hq
  unfold execOp
  simp only [ho, hx, hy, Sem.run_bind, Sem.run_pure, eqGuard, ite_self, run_quo64 w s d hd hs, Result.andThen_ok]⟩
theorem y_rem {ops : Array Oper} {S : World → Prop} {op : Oper} {a : Act} {t : TypeId} (hw : Region.wanted op (yielded ops a.tmps) = true) (x y : Operand) (ho : op.op = .binOp .rem 49 x y t) (s d q : Nat) (hd : 0 < d) (_hs : s < 18446744073709551616) (hx : a.eval x = .int .u64 (s : Int)) (hy : a.eval y = .int .u64 (d : Int)) (hq : q = s % d) :
    YieldsIf Tryz.prog ops S op (.int .u64 (q : Int)) a := .inl ⟨hw, fun w _ => by
  subst hq
  unfold execOp
  simp only [ho, hx, hy, Sem.run_bind, Sem.run_pure, eqGuard, ite_self, run_rem64 w s d hd, Result.andThen_ok]⟩
theorem Blk.drewN {w : World} {g : Nat} {t : TypeId} {cs : Array Value} (h : Blk w g t cs) (n : Nat) : Blk (w.drewN n) g t cs := h
theorem u8_odd (x : Nat) : ((x : Int).tmod 2 == 1) = (x % 2 == 1) := by
  rw [Int.tmod_eq_emod_of_nonneg (by omega), Bool.eq_iff_iff, beq_iff_eq, beq_iff_eq]; omega
theorem u8_big (x : Nat) (h : x ≤ 3) : decide (1 < (x : Int)) = (x / 2 % 2 == 1) := by
  rw [Bool.eq_iff_iff, beq_iff_eq, decide_eq_true_iff]; omega

set_option maxRecDepth 3000 in
theorem runseal_bad (v : Value) (n : Nat) (l : List Nat) (w : World) (h : Rd w 1 v n (l.map u8)) (hb : n ≠ 128 ∨ 3 < l.getD 8 0 ∨ 106 < l.getD 9 0) :
    Calls Tryz.prog 71 #[v] w (UnR w l) := by
  have hll := h.len8
  have hw : ¬ Whole l := fun h => by
    obtain ⟨h1, h2, h3⟩ := h
    have h8 : l.getD 8 0 ≤ 3 := by
      rw [← h3, sealL_8]
      have := flg_lt (dec l).f (dec l).g
      omega
    omega
  obtain ⟨A, c, rfl, hnc, hcm⟩ := h.form
  unfold maxLen at hcm
  have HW := Lib.hid hw
  by_cases hn : n = 128
  · subst hn
    obtain ⟨b, o, c', e, _, _, _⟩ := h.adr (by decide)
    injection e with e1 _ e3
    subst e1 e3
    have c8 := h.at8 (k := 8) (by decide)
    have c9 := h.at8 (k := 9) (by decide)
    obtain ⟨x, hx⟩ : ∃ x, x = l.getD 9 0 := ⟨_, rfl⟩
    obtain ⟨y, hy⟩ : ∃ x, x = l.getD 8 0 := ⟨_, rfl⟩
    rw [← hx] at c9 hb
    rw [← hy] at c8 hb
    clear hx hy
    by_cases hy3 : 3 < y
    · have hyI : (3 : Int) < (y : Int) := by omega
      clear h hll hw hb hy3
      go_enter Tryz.func71, Tryz.ntmps71
      go_wp2_with fail
      exact bodyPost_ret (v := .tuple #[.agg #[.int .u64 0, .int .u64 0, .bool false, .bool false, .slice none 0 0], .int .i64 4]) (by simp [results, Tryz.results71, go_sem]) rfl (UnR.none HW.out ((Adv.refl _ _).alloc _))
    · have hyI : (y : Int) ≤ 3 := by omega
      have hxI : (106 : Int) < (x : Int) := by omega
      clear h hll hw hb hy3
      go_enter Tryz.func71, Tryz.ntmps71
      go_wp2_with fail
      exact bodyPost_ret (v := .tuple #[.agg #[.int .u64 0, .int .u64 0, .bool false, .bool false, .slice none 0 0], .int .i64 4]) (by simp [results, Tryz.results71, go_sem]) rfl (UnR.none HW.out ((Adv.refl _ _).alloc _))
  · have hb : ((n : Int) != 128) = true := by rw [bne_iff_ne]; omega
    clear h hll hw hn
    go_enter Tryz.func71, Tryz.ntmps71
    go_wp2_with fail
    exact bodyPost_ret (v := .tuple #[.agg #[.int .u64 0, .int .u64 0, .bool false, .bool false, .slice none 0 0], .int .i64 4]) (by simp [results, Tryz.results71, go_sem]) rfl (UnR.none HW.out ((Adv.refl _ _).alloc _))

set_option maxRecDepth 3000 in
set_option maxHeartbeats 3200000 in
theorem runseal_len (v : Value) (l : List Nat) (w : World) (h : Rd w 1 v 128 (l.map u8)) (hl : ∀ x ∈ l, x < 256) (h9 : l.getD 9 0 ≤ 106) (hle8 : l.getD 8 0 ≤ 3) :
    Calls Tryz.prog 71 #[v] w (UnR w l) := by
  have hll := h.len8
  obtain ⟨b, o, c, rfl, hb, hnc, hcm⟩ := h.adr (by decide)
  have hok := dec_ok hll h9 hl
  have hdl : (dec l).d.length = l.getD 9 0 := by show ((l.drop 10).take (l.getD 9 0)).length = _; rw [List.length_take, List.length_drop]; omega
  have hdb : ∀ x ∈ (dec l).d, x < 256 := fun x hx => hl x (List.mem_of_mem_drop (List.mem_of_mem_take hx))
  have hx8 : l.getD 8 0 < 256 := by rw [List.getD_eq_getElem?_getD, List.getElem?_eq_getElem (by omega)]; exact hl _ (List.getElem_mem _)
  obtain ⟨z, hz⟩ : ∃ z, z = w.heap.size := ⟨_, rfl⟩
  obtain ⟨W, hW⟩ : ∃ W, W = w.alloc (.cells #[.int .u64 0, .int .u64 0, .bool false, .bool false, .slice none 0 0] 87) := ⟨_, rfl⟩
  have hZ : Blk W z 87 #[.int .u64 0, .int .u64 0, .bool false, .bool false, .slice none 0 0] := by rw [hW, hz]; exact Blk.new _ _ _
  have hA : Adv Nul w Nul W := by rw [hW]; exact (Adv.refl _ _).alloc _
  have hR : Rd W 1 (.slice (some ⟨b, o, none⟩) 128 c) 128 (l.map u8) := by rw [hW]; exact h.up _
  have hzb : b < z := by rw [hz]; exact hb
  have c8 := hR.at8 (k := 8) (by decide)
  have c9 := hR.at8 (k := 9) (by decide)
  have hr1 := hR.sub 0 8 c (by decide) (by omega) hcm
  rw [Nat.add_zero, List.drop_zero] at hr1
  have hr2 := hR.sub 10 (l.getD 9 0) (c - 10) (by omega) (by omega) (by omega)
  have hv8 : val (l.take 8) < 18446744073709551616 := by
    have := val_lt 8 (l.take 8) (by rw [List.length_take]; omega) (fun x hx => hl x (List.mem_of_mem_take hx))
    rwa [pow8] at this
  have hb0 := u8_odd (l.getD 8 0)
  have hb1 := u8_big (l.getD 8 0) hle8
  unfold maxLen at hcm
  obtain ⟨x8, h8⟩ : ∃ x, x = l.getD 8 0 := ⟨_, rfl⟩
  obtain ⟨x9, hx9⟩ : ∃ x, x = l.getD 9 0 := ⟨_, rfl⟩
  obtain ⟨s, hs⟩ : ∃ s, s = val (l.take 8) := ⟨_, rfl⟩
  obtain ⟨P, hP⟩ : ∃ P, P = dec l := ⟨_, rfl⟩
  have hPe : P.e = s / 1099511627776 := by rw [hP, hs]; rfl
  have hPc : P.c = s % 1099511627776 := by rw [hP, hs]; rfl
  have hPf : P.f = (x8 % 2 == 1) := by rw [hP, h8]; rfl
  have hPg : P.g = (x8 / 2 % 2 == 1) := by rw [hP, h8]; rfl
  have hPd : P.d = (l.drop 10).take x9 := by rw [hP, hx9]; rfl
  rw [← h8] at c8 hb0 hb1
  rw [← hx9] at c9 hr2 h9 hdl
  rw [← hs] at hv8
  rw [← hP] at hok hdl hdb
  rw [← hPf] at hb0
  rw [← hPg] at hb1
  rw [← hPd] at hr2
  have h9I : (x9 : Int) ≤ 106 := by omega
  have h8I : (x8 : Int) ≤ 3 := by omega
  obtain ⟨N, hN⟩ : ∃ N, N = 10 + x9 := ⟨_, rfl⟩
  have HN := Lib.hid hN
  have HNC := Lib.hid (show (N : Int) ≤ (c : Int) by omega)
  clear hN
  have hc10 : (10 : Int) ≤ (c : Int) := by omega
  have hc118 : (118 : Int) ≤ (c : Int) - 10 := by omega
  have hc128 : (128 : Int) ≤ (c : Int) := by omega
  have hcn : ¬ c = 10 := by omega
  have hx9c : (x9 : Int) ≤ (c : Int) - 10 := by omega
  have hx9n : x9 ≤ c - 10 := by omega
  have HW := Lib.hid hW
  have HZ := Lib.hid hZ
  have HA := Lib.hid hA
  have HR := Lib.hid hR
  have HR1 := Lib.hid hr1
  have HR2 := Lib.hid hr2
  have HS := Lib.hid hs
  have HV8 := Lib.hid hv8
  have HOK := Lib.hid hok
  have HDL := Lib.hid hdl
  have HDB := Lib.hid hdb
  have HL := Lib.hid hl
  have HP := Lib.hid hP
  obtain ⟨pe, hpe⟩ : ∃ x, x = P.e := ⟨_, rfl⟩
  obtain ⟨pn, hpn⟩ : ∃ x, x = P.c := ⟨_, rfl⟩
  have HPE := Lib.hid hpe
  have HPN := Lib.hid hpn
  have HPE' := Lib.hid (show pe = s / 1099511627776 by rw [hpe, hPe])
  have HPN' := Lib.hid (show pn = s % 1099511627776 by rw [hpn, hPc])
  have HX8 := Lib.hid h8
  have HX9 := Lib.hid hx9
  have H9B := Lib.hid (show x9 ≤ 1000000000 by omega)
  have HBW := Lib.hid (show b < W.heap.size from Nat.lt_of_lt_of_le hb hA.size)
  have K0 := Lib.hid (k89 hR.drew h8 hx9)
  have KA := Lib.hid (k89 (hR.up (.cells #[.int .u64 0, .int .u64 0, .bool false, .bool false, .slice none 0 0] 87)).drew h8 hx9)
  have HB0 := Lib.hid hb0
  have HB1 := Lib.hid hb1
  have HZZ := Lib.hid hz
  have HZB := Lib.hid hzb
  have H9 := Lib.hid h9
  clear h hl hll hb hnc hcm hok hdl hdb hx8 hW hZ hA hR hr1 hr2 hv8 hb0 hb1 h8 hx9 hs hP hPe hPc hPf hPg hPd h9 hz hzb hpe hpn
  go_enter Tryz.func71, Tryz.ntmps71
  go_upto_region 1 with (fail)
  rw [← HW.out, ← HZZ.out]
  go_wp2_with fail
  refine (rvalue_any _ 8 _ _ HR1.out (by decide) (fun x hx => HL.out x (List.mem_of_mem_take hx))).mono ?_
  rintro x w1 ⟨rfl, rfl⟩
  rw [← HS.out]
  go_upto_region 4 with (fail)
  go_cut [5] (fun t5 wr => MadeR W 87 P t5 wr)
  case first =>
    have hwa : IntKind.i64.wrap (x9 : Int) = (x9 : Int) := by rw [IntKind.wrap_i64]; omega
    have hwb : IntKind.i64.wrap (10 + (x9 : Int)) = (N : Int) := by rw [IntKind.wrap_i64]; have := HN.out; omega
    have hnc := HNC.out
    have hn10 : (10 : Int) ≤ (N : Int) := by have := HN.out; omega
    have hnm : max (N : Int) 0 = (N : Int) := by omega
    have hns : N - 10 = x9 := by have := HN.out; omega
    have hb0 := HB0.out
    have hb1 := HB1.out
    obtain ⟨f, hf⟩ : ∃ f, f = P.f := ⟨_, rfl⟩
    obtain ⟨g, hg⟩ : ∃ g, g = P.g := ⟨_, rfl⟩
    rw [← hf] at hb0
    rw [← hg] at hb1
    have HF := Lib.hid hf
    have HG := Lib.hid hg
    clear hf hg
    refine rstart (S := (fun w' => w'.cell? ⟨b, o + 8, none⟩ = some (.int .u8 (x8 : Int)) ∧ w'.cell? ⟨b, o + 9, none⟩ = some (.int .u8 (x9 : Int)))) (by first | with_reducible exact KE.out | with_reducible exact KD.out | with_reducible exact KC.out | with_reducible exact KA.out | with_reducible exact K0.out) (fun hH => ?_)
    refine tk (i := 0) (oi := ⟨some 27, .move (.tmp 4), 49, "ref.go:76", #[], none⟩) hH.out (by rintro w ⟨s0, s1⟩; go_simp <;> with_reducible rfl) ?_
    simp only [Act.put, sA, sB, sC]
    refine wpAnyH_take (i := 1) (oi := ⟨some 28, .binOp .quo 49 (.tmp 27) (.const (Go.Value.int Go.IntKind.u64 1099511627776)) 49, 49, "ref.go:76", #[⟨0, .data⟩], none⟩) (v := .int .u64 (pe : Int)) rfl (by kernel_rfl) (by kernel_rfl) (by kernel_rfl) (fun _ _ _ h => h) (y_quo rfl (.tmp 27) (.const (.int .u64 1099511627776)) rfl s 1099511627776 pe (by decide) HV8.out rfl rfl HPE'.out) hH.out ?_
    simp only [Act.put, sA, sB, sC]
    refine tk (i := 2) (oi := ⟨some 29, .move (.tmp 4), 49, "ref.go:76", #[], none⟩) hH.out (by rintro w ⟨s0, s1⟩; go_simp <;> with_reducible rfl) ?_
    simp only [Act.put, sA, sB, sC]
    refine wpAnyH_take (i := 3) (oi := ⟨some 30, .binOp .rem 49 (.tmp 29) (.const (Go.Value.int Go.IntKind.u64 1099511627776)) 49, 49, "ref.go:76", #[⟨2, .data⟩], none⟩) (v := .int .u64 (pn : Int)) rfl (by kernel_rfl) (by kernel_rfl) (by kernel_rfl) (fun _ _ _ h => h) (y_rem rfl (.tmp 29) (.const (.int .u64 1099511627776)) rfl s 1099511627776 pn (by decide) HV8.out rfl rfl HPN'.out) hH.out ?_
    simp only [Act.put, sA, sB, sC]
    refine tk (i := 4) (oi := ⟨some 31, .move (.tmp 0), 53, "ref.go:76", #[], none⟩) hH.out (by rintro w ⟨s0, s1⟩; go_simp <;> with_reducible rfl) ?_
    simp only [Act.put, sA, sB, sC]
    refine tk (i := 5) (oi := ⟨some 32, .indexAddr 53 (.tmp 31) (.const (Go.Value.int Go.IntKind.i64 8)), 0, "ref.go:76", #[⟨4, .data⟩], none⟩) hH.out (by rintro w ⟨s0, s1⟩; go_simp <;> with_reducible rfl) ?_
    simp only [Act.put, sA, sB, sC]
    refine tk (i := 6) (oi := ⟨some 33, .load 5 (.tmp 32), 5, "ref.go:76", #[⟨5, .data⟩], none⟩) hH.out (by rintro w ⟨s0, s1⟩; go_simp <;> with_reducible rfl) ?_
    simp only [Act.put, sA, sB, sC]
    refine tk (i := 7) (oi := ⟨some 34, .binOp .rem 5 (.tmp 33) (.const (Go.Value.int Go.IntKind.u8 2)) 5, 5, "ref.go:76", #[⟨6, .data⟩], none⟩) hH.out (by rintro w ⟨s0, s1⟩; go_simp <;> with_reducible rfl) ?_
    simp only [Act.put, sA, sB, sC]
    refine tk (i := 8) (oi := ⟨some 35, .binOp .eql 5 (.tmp 34) (.const (Go.Value.int Go.IntKind.u8 1)) 5, 4, "ref.go:76", #[⟨7, .data⟩], none⟩) hH.out (by rintro w ⟨s0, s1⟩; go_simp <;> with_reducible rfl) ?_
    simp only [Act.put, sA, sB, sC]
    refine tk (i := 9) (oi := ⟨some 36, .move (.tmp 0), 53, "ref.go:76", #[], none⟩) hH.out (by rintro w ⟨s0, s1⟩; go_simp <;> with_reducible rfl) ?_
    simp only [Act.put, sA, sB, sC]
    refine tk (i := 10) (oi := ⟨some 37, .indexAddr 53 (.tmp 36) (.const (Go.Value.int Go.IntKind.i64 8)), 0, "ref.go:76", #[⟨9, .data⟩], none⟩) hH.out (by rintro w ⟨s0, s1⟩; go_simp <;> with_reducible rfl) ?_
    simp only [Act.put, sA, sB, sC]
    refine tk (i := 11) (oi := ⟨some 38, .load 5 (.tmp 37), 5, "ref.go:76", #[⟨10, .data⟩], none⟩) hH.out (by rintro w ⟨s0, s1⟩; go_simp <;> with_reducible rfl) ?_
    simp only [Act.put, sA, sB, sC]
    refine tk (i := 12) (oi := ⟨some 39, .binOp .gtr 5 (.tmp 38) (.const (Go.Value.int Go.IntKind.u8 1)) 5, 4, "ref.go:76", #[⟨11, .data⟩], none⟩) hH.out (by rintro w ⟨s0, s1⟩; go_simp <;> with_reducible rfl) ?_
    simp only [Act.put, sA, sB, sC]
    refine tk (i := 13) (oi := ⟨some 40, .move (.tmp 0), 53, "ref.go:76", #[], none⟩) hH.out (by rintro w ⟨s0, s1⟩; go_simp <;> with_reducible rfl) ?_
    simp only [Act.put, sA, sB, sC]
    refine tk (i := 14) (oi := ⟨some 41, .move (.tmp 0), 53, "ref.go:76", #[], none⟩) hH.out (by rintro w ⟨s0, s1⟩; go_simp <;> with_reducible rfl) ?_
    simp only [Act.put, sA, sB, sC]
    refine tk (i := 15) (oi := ⟨some 42, .indexAddr 53 (.tmp 41) (.const (Go.Value.int Go.IntKind.i64 9)), 0, "ref.go:76", #[⟨14, .data⟩], none⟩) hH.out (by rintro w ⟨s0, s1⟩; go_simp <;> with_reducible rfl) ?_
    simp only [Act.put, sA, sB, sC]
    refine tk (i := 16) (oi := ⟨some 43, .load 5 (.tmp 42), 5, "ref.go:76", #[⟨15, .data⟩], none⟩) hH.out (by rintro w ⟨s0, s1⟩; go_simp <;> with_reducible rfl) ?_
    simp only [Act.put, sA, sB, sC]
    refine tk (i := 17) (oi := ⟨some 44, .convert 5 3 (.tmp 43), 3, "ref.go:76", #[⟨16, .data⟩], none⟩) hH.out (by rintro w ⟨s0, s1⟩; go_simp <;> with_reducible rfl) ?_
    simp only [Act.put, sA, sB, sC]
    refine tk (i := 18) (oi := ⟨some 45, .binOp .add 3 (.const (Go.Value.int Go.IntKind.i64 10)) (.tmp 44) 3, 3, "ref.go:76", #[⟨17, .data⟩], none⟩) hH.out (by rintro w ⟨s0, s1⟩; go_simp <;> with_reducible rfl) ?_
    simp only [Act.put, sA, sB, sC]
    refine tk (i := 19) (oi := ⟨some 46, .slice 53 (.tmp 40) (some (.const (Go.Value.int Go.IntKind.i64 10))) (some (.tmp 45)) none, 53, "ref.go:76", #[⟨13, .data⟩, ⟨18, .data⟩], none⟩) hH.out (by rintro w ⟨s0, s1⟩; go_simp <;> with_reducible rfl) ?_
    simp only [Act.put, sA, sB, sC]
    refine wpAnyH_ready (rs := [20, 22]) (by kernel_rfl) (by simp) ?_
    refine AllReadyH.cons (o := ⟨some 47, .call ⟨.value (.func 40), #[.tmp 46], #[53]⟩, 53, "ref.go:76", #[⟨19, .data⟩], none⟩) rfl (fun K hK => ?_) (AllReadyH.cons (o := ⟨some 5, .alloc 87, 0, "ref.go:76", #[], none⟩) rfl (fun K hK => ?_) AllReadyH.nil)
    · go_simp
      refine (copy_any _ x9 _ _ HR2.out.drew H9B.out).mono ?_
      rintro x wc ⟨vc, Fc, rfl, hc, ac⟩
      obtain ⟨Ac, cc, rfl, _, _⟩ := hc.form0
      have hrc := HR.out.drew.far (fun _ _ _ h => ac.block _ h (fun h => h)) ac.size
      have HRX := Lib.hid (hrc.up (.cells #[.int .u64 0, .int .u64 0, .bool false, .bool false, .slice none 0 0] 87))
      have KC := Lib.hid (k89 hrc HX8.out HX9.out)
      have KD := Lib.hid (k89 HRX.out HX8.out HX9.out)
      have HCS := Lib.hid (hc.lup1 (.cells #[.int .u64 0, .int .u64 0, .bool false, .bool false, .slice none 0 0] 87))
      have HCA := Lib.hid (Adv.of_drew (ac.alloc (.cells #[.int .u64 0, .int .u64 0, .bool false, .bool false, .slice none 0 0] 87)))
      have HZC := Lib.hid (Blk.new wc 87 #[.int .u64 0, .int .u64 0, .bool false, .bool false, .slice none 0 0])
      have HWZ := Lib.hid (show W.heap.size ≤ wc.heap.size from ac.size)
      have HBZ := Lib.hid (show b ≠ wc.heap.size by have := HBW.out; have := HWZ.out; omega)
      have HFZ := Lib.hid (show ∀ k, Fc k → k ≠ wc.heap.size from fun k hk e => by have := hc.bd k hk; omega)
      clear hrc hc ac
      go_wp2_with fail
      refine hK.out _ _ (by first | with_reducible exact KE.out | with_reducible exact KD.out | with_reducible exact KC.out | with_reducible exact KA.out | with_reducible exact K0.out) (fun hHeld => ?_)
      replace hH := Lib.hid hHeld
      clear hK K hHeld
      try simp only [Act.put, sA, sB, sC]
      refine tk (i := 21) (oi := ⟨some 48, .build 87 #[(0, .tmp 28), (1, .tmp 30), (2, .tmp 35), (3, .tmp 39), (4, .tmp 47)], 87, "ref.go:76", #[⟨1, .data⟩, ⟨3, .data⟩, ⟨8, .data⟩, ⟨12, .data⟩, ⟨20, .data⟩], none⟩) hH.out (by rintro w ⟨s0, s1⟩; go_simp <;> with_reducible rfl) ?_
      simp only [Act.put, sA, sB, sC]
      refine rdy (i := 22) (oi := ⟨some 5, .alloc 87, 0, "ref.go:76", #[], none⟩) (fun K hK => ?_)
      go_simp
      refine hK.out _ _ (by first | with_reducible exact KE.out | with_reducible exact KD.out | with_reducible exact KC.out | with_reducible exact KA.out | with_reducible exact K0.out) (fun hHeld => ?_)
      replace hH := Lib.hid hHeld
      clear hK K hHeld
      try simp only [Act.put, sA, sB, sC]
      refine rdy (i := 23) (oi := ⟨none, .store 87 (.tmp 5) (.tmp 48), 0, "ref.go:76", #[⟨22, .data⟩, ⟨21, .data⟩, ⟨20, .chain⟩, ⟨0, .phase⟩, ⟨1, .phase⟩, ⟨2, .phase⟩, ⟨3, .phase⟩, ⟨4, .phase⟩, ⟨5, .phase⟩, ⟨6, .phase⟩, ⟨7, .phase⟩, ⟨8, .phase⟩, ⟨9, .phase⟩, ⟨10, .phase⟩, ⟨11, .phase⟩, ⟨12, .phase⟩, ⟨13, .phase⟩, ⟨14, .phase⟩, ⟨15, .phase⟩, ⟨16, .phase⟩, ⟨17, .phase⟩, ⟨18, .phase⟩, ⟨19, .phase⟩, ⟨20, .phase⟩, ⟨21, .phase⟩, ⟨22, .phase⟩], none⟩) (fun K hK => ?_)
      refine st_store5 sizeRPiece rfl (.tmp 5) (.tmp 48) rfl _ _ (pc5 (pe : Int) (pn : Int) f g (.slice Ac x9 cc)) HZC.out rfl rfl (pc5_one _ _ _ _ _ _ _) rfl rfl ?_
      have KE := Lib.hid (k89 (HRX.out.put HBZ.out (pc5 (pe : Int) (pn : Int) f g (.slice Ac x9 cc)).toList) HX8.out HX9.out)
      have HFIN := Lib.hid (made_fin (P := P) HZC.out rfl HCS.out HDL.out HCA.out HWZ.out HFZ.out HPE.out HPN.out HF.out HG.out)
      refine hK.out _ _ (by first | with_reducible exact KE.out | with_reducible exact KD.out | with_reducible exact KC.out | with_reducible exact KA.out | with_reducible exact K0.out) (fun hHeld => ?_)
      replace hH := Lib.hid hHeld
      clear hK K hHeld
      try simp only [Act.put]
      refine wpAnyH_done (by kernel_rfl) ?_ _
      go_wp2_with fail
      go_meet
      exact HFIN.out
    · go_simp
      refine hK.out _ _ (by first | with_reducible exact KE.out | with_reducible exact KD.out | with_reducible exact KC.out | with_reducible exact KA.out | with_reducible exact K0.out) (fun hHeld => ?_)
      replace hH := Lib.hid hHeld
      clear hK K hHeld
      try simp only [Act.put, sA, sB, sC]
      refine rdy (i := 20) (oi := ⟨some 47, .call ⟨.value (.func 40), #[.tmp 46], #[53]⟩, 53, "ref.go:76", #[⟨19, .data⟩], none⟩) (fun K hK => ?_)
      go_simp
      refine (copy_any _ x9 _ _ (HR2.out.up (.cells #[.int .u64 0, .int .u64 0, .bool false, .bool false, .slice none 0 0] 87)).drew H9B.out).mono ?_
      rintro x wc ⟨vc, Fc, rfl, hc, ac⟩
      obtain ⟨Ac, cc, rfl, _, _⟩ := hc.form0
      have HRX := Lib.hid ((HR.out.up (.cells #[.int .u64 0, .int .u64 0, .bool false, .bool false, .slice none 0 0] 87)).drew.far (fun _ _ _ h => ac.block _ h (fun h => h)) ac.size)
      have KD := Lib.hid (k89 HRX.out HX8.out HX9.out)
      have HCS := Lib.hid hc
      have HCA := Lib.hid ((((Adv.refl Nul W).alloc (.cells #[.int .u64 0, .int .u64 0, .bool false, .bool false, .slice none 0 0] 87)).drew).over' ac)
      have HZC := Lib.hid ((Blk.new W 87 #[.int .u64 0, .int .u64 0, .bool false, .bool false, .slice none 0 0]).drew.keep (ac.block _ (Blk.new W 87 #[.int .u64 0, .int .u64 0, .bool false, .bool false, .slice none 0 0]).drew.lt (fun h => h)))
      have HWZ := Lib.hid (show W.heap.size ≤ W.heap.size from Nat.le_refl _)
      have HBZ := Lib.hid (show b ≠ W.heap.size from Nat.ne_of_lt HBW.out)
      have HFZ := Lib.hid (show ∀ k, Fc k → k ≠ W.heap.size from fun k hk e => by rcases ac.into k hk with h | h; exact h; simp at h; omega)
      clear hc ac
      go_wp2_with fail
      refine hK.out _ _ (by first | with_reducible exact KE.out | with_reducible exact KD.out | with_reducible exact KC.out | with_reducible exact KA.out | with_reducible exact K0.out) (fun hHeld => ?_)
      replace hH := Lib.hid hHeld
      clear hK K hHeld
      try simp only [Act.put, sA, sB, sC]
      refine tk (i := 21) (oi := ⟨some 48, .build 87 #[(0, .tmp 28), (1, .tmp 30), (2, .tmp 35), (3, .tmp 39), (4, .tmp 47)], 87, "ref.go:76", #[⟨1, .data⟩, ⟨3, .data⟩, ⟨8, .data⟩, ⟨12, .data⟩, ⟨20, .data⟩], none⟩) hH.out (by rintro w ⟨s0, s1⟩; go_simp <;> with_reducible rfl) ?_
      simp only [Act.put, sA, sB, sC]
      refine rdy (i := 23) (oi := ⟨none, .store 87 (.tmp 5) (.tmp 48), 0, "ref.go:76", #[⟨22, .data⟩, ⟨21, .data⟩, ⟨20, .chain⟩, ⟨0, .phase⟩, ⟨1, .phase⟩, ⟨2, .phase⟩, ⟨3, .phase⟩, ⟨4, .phase⟩, ⟨5, .phase⟩, ⟨6, .phase⟩, ⟨7, .phase⟩, ⟨8, .phase⟩, ⟨9, .phase⟩, ⟨10, .phase⟩, ⟨11, .phase⟩, ⟨12, .phase⟩, ⟨13, .phase⟩, ⟨14, .phase⟩, ⟨15, .phase⟩, ⟨16, .phase⟩, ⟨17, .phase⟩, ⟨18, .phase⟩, ⟨19, .phase⟩, ⟨20, .phase⟩, ⟨21, .phase⟩, ⟨22, .phase⟩], none⟩) (fun K hK => ?_)
      refine st_store5 sizeRPiece rfl (.tmp 5) (.tmp 48) rfl _ _ (pc5 (pe : Int) (pn : Int) f g (.slice Ac x9 cc)) HZC.out rfl rfl (pc5_one _ _ _ _ _ _ _) rfl rfl ?_
      have KE := Lib.hid (k89 (HRX.out.put HBZ.out (pc5 (pe : Int) (pn : Int) f g (.slice Ac x9 cc)).toList) HX8.out HX9.out)
      have HFIN := Lib.hid (made_fin (P := P) HZC.out rfl HCS.out HDL.out HCA.out HWZ.out HFZ.out HPE.out HPN.out HF.out HG.out)
      refine hK.out _ _ (by first | with_reducible exact KE.out | with_reducible exact KD.out | with_reducible exact KC.out | with_reducible exact KA.out | with_reducible exact K0.out) (fun hHeld => ?_)
      replace hH := Lib.hid hHeld
      clear hK K hHeld
      try simp only [Act.put]
      refine wpAnyH_done (by kernel_rfl) ?_ _
      go_wp2_with fail
      go_meet
      exact HFIN.out
  case rest =>
  obtain ⟨zp, a5, k5, F5, rfl, hB5, hS5, hA5⟩ := hcut
  have hz5 := HZ.out.keep (hA5.block z HZ.out.lt (fun h => h))
  have hr5 := HR.out.far (fun _ _ _ h => hA5.block _ h (fun h => h)) hA5.size
  have hzF : ∀ k, F5 k → k ≠ z := fun k hk e => by
    rcases hA5.into k hk with h | h
    · exact h
    · have := HZ.out.lt; omega
  obtain ⟨d0, d1, d2, d3, d4⟩ := hB5.five
  have hds := hS5.rd
  have HZ5 := Lib.hid hz5
  have HR5 := Lib.hid hr5
  have HZF := Lib.hid hzF
  have HB5 := Lib.hid hB5
  have HS5 := Lib.hid hS5
  have HA5 := Lib.hid (HA.out.trans hA5)
  have HDS := Lib.hid hds
  have HLL := Lib.hid (show w.heap.size ≤ z by have := HZZ.out; omega)
  clear hz5 hr5 hzF hB5 hS5 hA5 hds
  obtain ⟨q, hq⟩ : ∃ q, q = P.d.length := ⟨_, rfl⟩
  obtain ⟨pf, hpf⟩ : ∃ x, x = P.f := ⟨_, rfl⟩
  obtain ⟨pg, hpg⟩ : ∃ x, x = P.g := ⟨_, rfl⟩
  rw [← HPE.out] at d0
  rw [← HPN.out] at d1
  rw [← hpf] at d2
  rw [← hpg] at d3
  rw [← hq] at d4
  have hseal := rseal_ok P _ wc HOK.out HDS.out HDB.out
  rw [← HPE.out, ← HPN.out, ← hpf, ← hpg, ← hq] at hseal
  have HSEAL := Lib.hid hseal
  have HQ := Lib.hid hq
  have HPF := Lib.hid hpf
  have HPG := Lib.hid hpg
  clear hseal hq hpf hpg
  go_wp2_with fail
  refine (HSEAL.out).mono ?_
  rintro x w2 ⟨v2, F2, rfl, h2, a2⟩
  obtain ⟨g2, e2, rfl, _, _⟩ := h2.form0
  have hb2 := HB5.out.keep (a2.block zp HB5.out.lt (fun h => h))
  obtain ⟨d0, d1, d2, d3, d4⟩ := hb2.five
  rw [← HPE.out] at d0
  rw [← HPN.out] at d1
  rw [← HPF.out] at d2
  rw [← HPG.out] at d3
  rw [← HQ.out] at d4
  have HZ2 := Lib.hid (HZ5.out.keep (a2.block z HZ5.out.lt (fun h => h)))
  have HR2' := Lib.hid (HR5.out.far (fun _ _ _ h => a2.block _ h (fun h => h)) a2.size)
  have HS2 := Lib.hid (HS5.out.far a2 (fun _ h _ => h))
  have HA2 := Lib.hid (HA5.out.over a2)
  have HE2 := Lib.hid h2.rd
  have HSL := Lib.hid (sealL_lt HOK.out.2.2 HDB.out)
  clear h2 a2 hb2
  by_cases hw : sealL P = l
  · have HWH := Lib.hid (show Whole l from ⟨HR.out.len8, by rw [← HX9.out]; exact H9.out, by rw [← HP.out]; exact hw⟩)
    have HDC := Lib.hid (decide_eq_true (show l = sealL P from hw.symm))
    clear hw
    go_wp2_with (first
      | (go_at_call 24; refine (lsame_any _ _ 128 128 _ _ _ HR2'.out HE2.out).mono ?_; rintro x w3 ⟨rfl, n3, rfl⟩; rw [HDC.out])
      | (refine op_store5 sizeRPiece rfl (.tmp 2) (.tmp 63) rfl z _ (pc5 (pe : Int) (pn : Int) pf pg (.slice a5 q k5)) HZ2.out rfl rfl (pc5_one _ _ _ _ _ _ _) rfl rfl ?_)
      | fail)
    obtain ⟨hz0, hz1, hz2, hz3, hz4⟩ := ((HZ2.out.drewN n3).putAll (D := pc5 (pe : Int) (pn : Int) pf pg (.slice a5 q k5)) rfl).five
    have hfin : UnR w l (.returned (.tuple #[.agg #[.int .u64 (pe : Int), .int .u64 (pn : Int), .bool pf, .bool pg, .slice a5 q k5], .int .i64 0])) ((w2.drewN n3).setCells z 0 (pc5 (pe : Int) (pn : Int) pf pg (.slice a5 q k5)).toList) := by
      have hs := (HS2.out.far ((Adv.refl Nul w2).drewN n3) (fun _ h _ => h)).put HZF.out (pc5 (pe : Int) (pn : Int) pf pg (.slice a5 q k5)).toList
      have h := UnR.some HWH.out (by rw [← HP.out]; exact hs) (Adv.lsetCells _ 0 _ (HA2.out.drewN n3) (.inr HLL.out))
      rw [← HP.out, ← HPE.out, ← HPN.out, ← HPF.out, ← HPG.out, ← HQ.out] at h
      exact h
    exact bodyPost_ret (v := .tuple #[.agg #[.int .u64 (pe : Int), .int .u64 (pn : Int), .bool pf, .bool pg, .slice a5 q k5], .int .i64 0]) (by simp [results, Tryz.results71, go_sem, hz0, hz1, hz2, hz3, hz4]) rfl hfin
  · have HWH := Lib.hid (show ¬ Whole l from fun h => hw (by rw [HP.out]; exact h.2.2))
    have HDC := Lib.hid (decide_eq_false (show ¬ l = sealL P from fun h => hw h.symm))
    clear hw
    go_wp2_with (first
      | (go_at_call 24; refine (lsame_any _ _ 128 128 _ _ _ HR2'.out HE2.out).mono ?_; rintro x w3 ⟨rfl, n3, rfl⟩; rw [HDC.out])
      | (refine op_store5 sizeRPiece rfl (.tmp 2) (.tmp 62) rfl z _ (pc5 0 0 false false (.slice none 0 0)) HZ2.out rfl rfl (pc5_one _ _ _ _ _ _ _) rfl rfl ?_)
      | fail)
    obtain ⟨hz0, hz1, hz2, hz3, hz4⟩ := ((HZ2.out.drewN n3).putAll (D := pc5 0 0 false false (.slice none 0 0)) rfl).five
    have hfin := UnR.none HWH.out ((Adv.lsetCells (pc5 0 0 false false (.slice none 0 0)).toList 0 _ (HA2.out.drewN n3) (.inr HLL.out)).sub (G := Nul) (fun _ h => h.elim))
    exact bodyPost_ret (v := .tuple #[.agg #[.int .u64 0, .int .u64 0, .bool false, .bool false, .slice none 0 0], .int .i64 4]) (by simp [results, Tryz.results71, go_sem, hz0, hz1, hz2, hz3, hz4]) rfl hfin

theorem runseal_any (v : Value) (n : Nat) (l : List Nat) (w : World) (h : Rd w 1 v n (l.map u8)) (hl : ∀ x ∈ l, x < 256) : Calls Tryz.prog 71 #[v] w (UnR w l) := by
  by_cases hn : n = 128
  · subst hn
    by_cases h8 : l.getD 8 0 ≤ 3
    · by_cases h9 : l.getD 9 0 ≤ 106
      · exact runseal_len v l w h hl h9 h8
      · exact runseal_bad v _ l w h (.inr (.inr (by omega)))
    · exact runseal_bad v _ l w h (.inr (.inl (by omega)))
  · exact runseal_bad v n l w h (.inl hn)
end Go.Proofs.YtbdjlmdbnoghnaaGreat
namespace Go.Proofs.YtbdjlmdbnoghnaaGreat

theorem be_get : ∀ q V i, i < q → (be q V)[i]? = some (V / 256 ^ (q - 1 - i) % 256)
  | 0, _, _, h => absurd h (by omega)
  | q + 1, V, i, h => by
    simp only [be]
    rcases Nat.lt_or_ge i q with hi | hi
    · rw [List.getElem?_append_left (by rw [be_length]; exact hi), be_get q _ i hi]
      congr 2
      rw [Nat.div_div_eq_div_mul, Nat.mul_comm, ← Nat.pow_succ]
      congr 2
      omega
    · rw [List.getElem?_append_right (by rw [be_length]; exact hi), be_length]
      obtain rfl : i = q := by omega
      simp

/-- n bits of the 8q bits of V, from the bit at on -/
def bitsAt (q V at' n : Nat) : Nat := V / 2 ^ (8 * q - at' - n) % 2 ^ n

theorem bitsAt_lt (q V a n : Nat) : bitsAt q V a n < 2 ^ n := Nat.mod_lt _ (Nat.two_pow_pos _)
theorem bitsAt_zero (q V a : Nat) : bitsAt q V a 0 = 0 := by simp [bitsAt, Nat.mod_one]

theorem div_mod_split (W c k : Nat) : W % 2 ^ (c + k) = (W / 2 ^ k % 2 ^ c) * 2 ^ k + W % 2 ^ k := by
  rw [Nat.add_comm c k, Nat.pow_add, Nat.mod_mul, Nat.add_comm, Nat.mul_comm]

theorem bitsAt_split (q V a c k : Nat) (h : a + c + k ≤ 8 * q) : bitsAt q V a (c + k) = bitsAt q V a c * 2 ^ k + bitsAt q V (a + c) k := by
  unfold bitsAt
  rw [div_mod_split, Nat.div_div_eq_div_mul, ← Nat.pow_add, show 8 * q - a - (c + k) + k = 8 * q - a - c from by omega, show 8 * q - (a + c) - k = 8 * q - a - (c + k) from by omega]

theorem bitsAt_byte (q V a k : Nat) (hk : k ≤ 8 - a % 8) (h : a / 8 < q) : V / 256 ^ (q - 1 - a / 8) % 256 / 2 ^ (8 - a % 8 - k) % 2 ^ k = bitsAt q V a k := by
  have e256 : ∀ j, (256 : Nat) ^ j = 2 ^ (8 * j) := fun j => by rw [Nat.pow_mul]
  unfold bitsAt
  rw [e256, show (256 : Nat) = 2 ^ (8 - a % 8 - k) * 2 ^ (a % 8 + k) from by rw [← Nat.pow_add, show 8 - a % 8 - k + (a % 8 + k) = 8 from by omega]]
  rw [Nat.mod_mul_right_div_self, Nat.div_div_eq_div_mul, ← Nat.pow_add, Nat.pow_add 2 (a % 8) k, Nat.mod_mul_left_mod]
  congr 3
  omega

theorem or_sum (X p c k : Nat) (hX : X < 2 ^ c) (hp : p < 2 ^ k) (h : c + k ≤ 64) : (X * 2 ^ k % 18446744073709551616) ||| p = X * 2 ^ k + p := by
  have h1 : X * 2 ^ k < 2 ^ (c + k) := by rw [Nat.pow_add]; exact Nat.mul_lt_mul_of_pos_right hX (Nat.two_pow_pos _)
  have h2 : (2 : Nat) ^ (c + k) ≤ 2 ^ 64 := Nat.pow_le_pow_right (by decide) h
  rw [Nat.mod_eq_of_lt (by omega), Nat.mul_comm X, ← Nat.two_pow_add_eq_or_of_lt hp]
end Go.Proofs.YtbdjlmdbnoghnaaGreat
namespace Go.Proofs.YtbdjlmdbnoghnaaGreat

structure Hd where
  g : Nat
  t : Nat
  f : Nat
def hdata (h : Hd) : List Nat := be 8 (h.t * 16777216 + h.f)
def hPc (e : Nat) (h : Hd) : Pc := ⟨e, h.g, true, true, hdata h⟩
def hOk (e : Nat) (h : Hd) : Prop := (e ≤ 16777215 ∧ h.g ≤ 1099511627775) ∧ h.t < 1099511627776 ∧ h.f < 16777216
instance (e : Nat) (h : Hd) : Decidable (hOk e h) := by unfold hOk; exact inferInstance
def hSec (e : Nat) (h : Hd) : List Nat := sealL (hPc e h)
/-- the head that a sector is, if it is one's -/
def unHd (l : List Nat) : Option Hd := if Whole l ∧ (dec l).f = true ∧ (dec l).g = true ∧ (dec l).d.length = 8 then some ⟨(dec l).c, val (dec l).d / 16777216, val (dec l).d % 16777216⟩ else none

theorem hdata_length (h : Hd) : (hdata h).length = 8 := be_length 8 _
theorem hdata_lt (h : Hd) : ∀ x ∈ hdata h, x < 256 := fun x hx => be_lt 8 _ x hx
theorem hPc_ok {e : Nat} {h : Hd} (k : hOk e h) : (hPc e h).ok := ⟨k.1.1, k.1.2, by show (hdata h).length ≤ 106; rw [hdata_length]; decide⟩
/-- the bits that are read of a piece's bytes -/
theorem be_of_val {l : List Nat} (hl : ∀ x ∈ l, x < 256) : be l.length (val l) = l := be_val l.length l rfl hl
theorem val_lt8 {l : List Nat} (h8 : l.length = 8) (hl : ∀ x ∈ l, x < 256) : val l < 18446744073709551616 := by
  have h := val_lt 8 l h8 hl
  have e : (256 : Nat) ^ 8 = 18446744073709551616 := by decide
  rw [e] at h
  exact h
theorem bits_tail {V : Nat} (hV : V < 18446744073709551616) : bitsAt 8 V 0 40 = V / 16777216 := by
  unfold bitsAt
  have e : 2 ^ (8 * 8 - 0 - 40) = 16777216 := by decide
  have e2 : 2 ^ 40 = 1099511627776 := by decide
  rw [e, e2]
  omega
theorem bits_floor (V : Nat) : bitsAt 8 V 40 24 = V % 16777216 := by
  unfold bitsAt
  have e : 2 ^ (8 * 8 - 40 - 24) = 1 := by decide
  have e2 : 2 ^ 24 = 16777216 := by decide
  rw [e, e2, Nat.div_one]
theorem val5 {l : List Nat} (h8 : l.length = 8) (hl : ∀ x ∈ l, x < 256) : val (l.take 5) = val l / 16777216 ∧ val (l.drop 5) = val l % 16777216 := by
  have h := val_append (l.take 5) 3 (l.drop 5) (by simp [h8])
  rw [List.take_append_drop] at h
  have h2 := val_lt 3 (l.drop 5) (by simp [h8]) (fun x hx => hl x (List.mem_of_mem_drop hx))
  have e : (256 : Nat) ^ 3 = 16777216 := by decide
  rw [e] at h h2
  omega
theorem row64 (t f : Nat) : rowOf (t * 2 ^ 24 + f) 64 = be 8 (t * 16777216 + f) := by
  have e1 : qn 64 = 8 := by decide
  have e2 : pad 64 = 0 := by decide
  unfold rowOf
  rw [e1, e2, Nat.pow_zero, Nat.mul_one]
end Go.Proofs.YtbdjlmdbnoghnaaGreat
