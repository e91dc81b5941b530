/- The document's bytes of a message. -/
import Derived.Test.YtpgeebhepegpaaaMwC
import Derived.Test.YtpgeebhepegpaaaMsF
namespace Go.Proofs.Ytpgeebhepegpaaa
open Go.ChangeShapes Go.WideShapes Go.ChangeAt Go.RowKit

section
variable {ops : Array Oper} {rest : List Oper} {o : Oper} {a : Act} {w : World} {Q : Exit → Act → World → Prop}
set_option maxRecDepth 3000 in
theorem op_appw {V w1 : World} {A B : List Do} {v v2 : Value} (hgd : o.guard = none) (s x : Operand) (ho : o.op = .call { callee := .builtin .append, args := #[s, x], argTypes := #[38, 38] })
    (hs : a.eval s = v) (hx : a.eval x = v2) (hA : RI V A v w1) (hB : RI w1 B v2 w) (hn : lenOf A ≤ 1000000) (hb : lenOf B ≤ 1000000)
    (h : ∀ v' w', RI V (A ++ B) v' w' → wpList Try.prog ops Q rest (a.put o.dst v') w') : wpList Try.prog ops Q (o :: rest) a w := op_app hgd s x ho hs hx hA hB (by omega) h
set_option maxRecDepth 3000 in
/-- the same; blocks of another type stay -/
theorem op_appe {V w1 : World} {A B : List Do} {v v2 : Value} {y : Nat} {t : TypeId} {D : Array Value} (hgd : o.guard = none) (s x : Operand) (ho : o.op = .call { callee := .builtin .append, args := #[s, x], argTypes := #[38, 38] })
    (hs : a.eval s = v) (hx : a.eval x = v2) (hA : RI V A v w1) (hB : RI w1 B v2 w) (hn : lenOf A ≤ 1000000) (hb : lenOf B ≤ 1000000) (hy : Blk w y t D) (ht : 5 ≠ t)
    (h : ∀ v' w', RI V (A ++ B) v' w' → Blk w' y t D → wpList Try.prog ops Q rest (a.put o.dst v') w') : wpList Try.prog ops Q (o :: rest) a w := by
  obtain ⟨F2, l2, s2, b2, a2⟩ := hB
  obtain ⟨F, l, s1, b1, a1, hm⟩ := RowS.more hA s2 b2 a2
  refine wpList_append_rd hgd s x ho hs hx s1.own s2.rd (u8_one _) (by omega) fun v' w' hown hg hat => h v' w' ?_ ?_
  · have := hm v' w' hown hg hat
    unfold RI
    rw [numOf_app, lenOf_app]
    exact this
  · exact hy.keep (hg.block y hy.lt (fun e => own_blk_ne s1.own hy ht e.symm))
end
set_option maxRecDepth 3000 in
/-- a letter of a text -/
theorem has17_s {s : List Nat} (hs : ∀ x ∈ s, x < 256) (hl : s.length ≤ 900) (c : Nat) (w : World) : Calls Try.prog 44 #[.string (txt s), .int .u8 (c : Int)] w fun e w' => e = .returned (.bool (decide (c ∈ s))) ∧ w = w' := by
  rw [← hasB_txt s hs c]
  exact has17_any _ (by unfold txt; show (s.map UInt8.ofNat).toArray.size ≤ 1000; simp; omega) c w
set_option maxRecDepth 3000 in
theorem letM_ok (ty kd er : Int) : (∀ x ∈ letM ty kd er, x < 256) ∧ (letM ty kd er).length ≤ 4 := by
  unfold letM
  split
  · exact ⟨by decide, by decide⟩
  · split
    · exact ⟨by decide, by decide⟩
    · split
      · exact tolT_ok kd
      · exact askT_ok kd
set_option maxRecDepth 3000 in
theorem isM_let {m : Ms} (h : isM m = true) : m.ty = 3 ∨ m.er ≠ 0 ∨ (1 ≤ m.kd ∧ m.kd ≤ 14) := by
  by_cases t3 : m.ty = 3
  · exact .inl t3
  · unfold isM at h
    by_cases hc : 0 ≤ m.cl ∧ m.cl < 8 ∧ ctP m.ss
    · rw [if_neg (fun x => x hc), if_neg t3] at h
      by_cases h4 : rf m 0 = true ∧ rf m 2 = true ∧ 1 ≤ m.ty ∧ m.ty ≤ 2
      · exact .inr (.inr ((rf2_iff m).1 h4.2.1))
      · rw [if_pos h4] at h; cases h
    · rw [if_pos hc] at h; cases h
/-- while entries are laid -/
def EnL (V : World) (A : List Do) (l : List En) (t4 t6 : Value) (wr : World) : Prop := ∃ k : Nat, t6 = .int .i64 (k : Int) ∧ k ≤ l.length ∧ RI V (A ++ (l.take k).flatMap wiE) t4 wr
set_option maxRecDepth 3000 in
set_option maxHeartbeats 12800000 in
theorem q17encode_any (m : Ms) (v : Value) (hm : WfM m) (w : World) (hE : EnR7 w v m.en) : Calls Try.prog 22 #[.agg (mc m v)] w (EncM w m) := by
  obtain ⟨A, N, c, rfl, hN⟩ : ∃ A N c, v = .slice A N c ∧ N = m.en.length := by
    obtain ⟨A, c, e, _⟩ := hE.form
    exact ⟨A, _, c, e, rfl⟩
  have HIS := Lib.hid (fun w' (ha : Adv Nul w Nul w') => is16_any m _ hm w' (hE.step ha))
  have HFL := Lib.hid (fun (h : isM m = true) w' => fields17_any m (.slice A N c) (isM_let h) w')
  obtain ⟨C, hC⟩ : ∃ C, C = mc m (.slice A N c) := ⟨_, rfl⟩
  have HC := Lib.hid (fun (z : Nat) (w' : World) (h : Blk w' z 28 C) => (show C18 w' z m (.slice A N c) from (show Blk w' z 28 (mc m (.slice A N c)) by rw [← hC]; exact h).c18))
  have HCS := Lib.hid (show C.size = 18 by rw [hC]; rfl)
  have HEN := Lib.hid hE
  have HN := Lib.hid hN
  have HNO := Lib.hid (fun w' => @EncM.no w w' m)
  have HYES := Lib.hid (fun (w' : World) (F : Nat → Prop) (A : Option Addr) (n c : Nat) => @EncM.yes w w' m F A n c)
  rw [← hC] at HIS HFL ⊢
  clear hC hE hN hm
  cases hi : isM m
  · have HI := Lib.hid hi
    clear hi
    rw [HI.out] at HIS
    go_enter Try.func22, Try.ntmps22
    go_wp2_with (first
      | (refine kop_box rfl _ rfl rfl ?_; intro z w1 hz hb ha; have HBZ := Lib.hid hb; have HA := Lib.hid ha; clear hz hb ha)
      | (refine kop_load rfl _ rfl z HBZ.out rfl Try.underlying28 rfl sizeM HCS.out ?_)
      | (go_at_call 13; refine (HIS.out _ HA.out).mono ?_; rintro e w2 ⟨rfl, a2⟩; have HA2 := Lib.hid (HA.out.trans a2); clear a2)
      | fail)
    exact bodyPost_ret (v := .tuple #[.slice none 0 0, .int .i64 4]) (by simp [results, Try.results22, go_sem]) rfl (HNO.out _ HI.out HA2.out)
  · have HI := Lib.hid hi
    have HOK := Lib.hid (isM_okW hi)
    rw [hi] at HIS
    have J := Lib.hid (juW_of HOK.out.ju)
    have HF2 := Lib.hid (HFL.out hi)
    have HL8 := Lib.hid (wq_les (wq_len8 hi))
    have HL9 := Lib.hid (wiL_len hi)
    have HLT := Lib.hid (letM_ok m.ty m.kd m.er)
    have HWL := Lib.hid (show wiL m = wq8 m (letM m.ty m.kd m.er) ++ wf9 m (letM m.ty m.kd m.er) from by unfold wiL; rw [wq_all])
    obtain ⟨s, hs⟩ : ∃ s, s = letM m.ty m.kd m.er := ⟨_, rfl⟩
    rw [← hs] at J HF2 HL8 HLT HWL
    have HHAS := Lib.hid (fun c w => has17_s HLT.out.1 (Nat.le_trans HLT.out.2 (by decide)) c w)
    obtain ⟨sb, hsb⟩ : ∃ sb, sb = txt s := ⟨_, rfl⟩
    rw [← hsb] at HF2 HHAS
    clear hi hs hsb HFL HNO
    obtain ⟨x0, hx0⟩ : ∃ x, x = u64n m.ty := ⟨_, rfl⟩
    obtain ⟨x1, hx1⟩ : ∃ x, x = u64n m.cl := ⟨_, rfl⟩
    obtain ⟨x5, hx5⟩ : ∃ x, x = u64n m.kd := ⟨_, rfl⟩
    obtain ⟨x6, hx6⟩ : ∃ x, x = u64n m.er := ⟨_, rfl⟩
    have hc0 : IntKind.u64.wrap m.ty = (x0 : Int) := by rw [hx0, wrap_u64n]
    have hc1 : IntKind.u64.wrap m.cl = (x1 : Int) := by rw [hx1, wrap_u64n]
    have hc5 : IntKind.u64.wrap m.kd = (x5 : Int) := by rw [hx5, wrap_u64n]
    have hc6 : IntKind.u64.wrap m.er = (x6 : Int) := by rw [hx6, wrap_u64n]
    have HX := Lib.hid (show x0 < 2 ^ 2 ∧ x1 < 2 ^ 3 ∧ m.ss < 2 ^ 40 ∧ m.sq < 2 ^ 40 ∧ m.bo < 2 ^ 40 ∧ x5 < 2 ^ 4 ∧ x6 < 2 ^ 5 by rw [hx0, hx1, hx5, hx6]; exact HOK.out.h)
    have HWH := Lib.hid (show [itD 2 x0] ++ [itD 3 x1] ++ [itD 40 m.ss] ++ [itD 40 m.sq] ++ [itD 40 m.bo] ++ [itD 4 x5] ++ [itD 5 x6] = wiH m by rw [hx0, hx1, hx5, hx6]; rfl)
    clear hx0 hx1 hx5 hx6 HOK
    go_enter Try.func22, Try.ntmps22
    go_upto_region 3 with (first
      | (refine kop_box rfl _ rfl rfl ?_; intro z w1 hz hb ha; have HBZ := Lib.hid hb; have HA := Lib.hid ha; clear hz hb ha)
      | (refine kop_load rfl _ rfl z HBZ.out rfl Try.underlying28 rfl sizeM HCS.out ?_)
      | (go_at_call 13; refine (HIS.out _ HA.out).mono ?_; rintro e w2 ⟨rfl, a2⟩; have HA2 := Lib.hid (HA.out.trans a2); have HBZ2 := Lib.hid (HBZ.out.over a2); clear a2)
      | fail)
    have HK := Lib.hid (fun (w' : World) (h : Adv Nul w2 Nul w') => HC.out z w' (HBZ2.out.over h))
    have HKB := Lib.hid (fun (w' : World) (h : Adv Nul w2 Nul w') => HBZ2.out.over h)
    have HKE := Lib.hid (fun (w' : World) (h : Adv Nul w2 Nul w') => HEN.out.step (HA2.out.trans h))
    have K0 := Lib.hid (let c := HK.out _ (Adv.refl Nul w2).drew; And.intro c.a.1 c.a.2.1)
    clear HIS HBZ HBZ2 HA HC HEN
    refine rstart (S := (fun w' => w'.cell? ⟨z, 0, none⟩ = some (.int .i64 m.ty) ∧ w'.cell? ⟨z, 1, none⟩ = some (.int .i64 m.cl))) (by first | with_reducible exact K3.out | with_reducible exact K2.out | with_reducible exact K1.out | with_reducible exact K0.out) (fun hH => ?_)
    refine tk (i := 0) (oi := ⟨some 11, .fieldAddr 28 (.tmp 1) 0, 0, "ref.go:47", #[], none⟩) hH.out (by rintro w ⟨s0, s1⟩; go_simp <;> with_reducible rfl) ?_
    simp only [Act.put, sA, sB, sC]
    refine tk (i := 1) (oi := ⟨some 12, .load 3 (.tmp 11), 3, "ref.go:47", #[⟨0, .data⟩], none⟩) hH.out (by rintro w ⟨s0, s1⟩; go_simp <;> with_reducible rfl) ?_
    simp only [Act.put, sA, sB, sC]
    refine tk (i := 2) (oi := ⟨some 13, .convert 3 22 (.tmp 12), 22, "ref.go:47", #[⟨1, .data⟩], none⟩) hH.out (by rintro w ⟨s0, s1⟩; go_simp <;> with_reducible rfl) ?_
    simp only [Act.put, sA, sB, sC]
    refine tk (i := 4) (oi := ⟨some 15, .fieldAddr 28 (.tmp 1) 1, 0, "ref.go:47", #[], none⟩) hH.out (by rintro w ⟨s0, s1⟩; go_simp <;> with_reducible rfl) ?_
    simp only [Act.put, sA, sB, sC]
    refine tk (i := 5) (oi := ⟨some 16, .load 3 (.tmp 15), 3, "ref.go:47", #[⟨4, .data⟩], none⟩) hH.out (by rintro w ⟨s0, s1⟩; go_simp <;> with_reducible rfl) ?_
    simp only [Act.put, sA, sB, sC]
    refine tk (i := 6) (oi := ⟨some 17, .convert 3 22 (.tmp 16), 22, "ref.go:47", #[⟨5, .data⟩], none⟩) hH.out (by rintro w ⟨s0, s1⟩; go_simp <;> with_reducible rfl) ?_
    simp only [Act.put, sA, sB, sC]
    refine rdy (i := 3) (oi := ⟨some 14, .call ⟨.value (.func 42), #[.tmp 13, .const (Go.Value.int Go.IntKind.i64 2)], #[22, 3]⟩, 38, "ref.go:47", #[⟨2, .data⟩], none⟩) (fun K hK => ?_)
    go_simp
    refine (ri_bits x0 2 _ HX.out.1 (by decide)).mono ?_
    rintro e w3 ⟨v1, rfl, r1⟩
    have R1 := Lib.hid r1
    have A1 := Lib.hid ((Adv.refl Nul w2).drew.trans r1.adv)
    have K1 := Lib.hid (let c := HK.out _ A1.out; And.intro c.a.1 c.a.2.1)
    clear r1
    go_wp2_with fail
    refine hK.out _ _ (by first | with_reducible exact K3.out | with_reducible exact K2.out | with_reducible exact K1.out | with_reducible exact K0.out) (fun hHeld => ?_)
    replace hH := Lib.hid hHeld
    clear hK K hHeld
    try simp only [Act.put, sA, sB, sC]
    refine rdy (i := 7) (oi := ⟨some 18, .call ⟨.value (.func 42), #[.tmp 17, .const (Go.Value.int Go.IntKind.i64 3)], #[22, 3]⟩, 38, "ref.go:47", #[⟨6, .data⟩, ⟨3, .chain⟩], none⟩) (fun K hK => ?_)
    go_simp
    refine (ri_bits x1 3 _ HX.out.2.1 (by decide)).mono ?_
    rintro e w4 ⟨v2, rfl, r2⟩
    have R2 := Lib.hid r2
    have K2 := Lib.hid (let c := HK.out _ (A1.out.trans r2.adv); And.intro c.a.1 c.a.2.1)
    clear r2
    go_wp2_with fail
    refine hK.out _ _ (by first | with_reducible exact K3.out | with_reducible exact K2.out | with_reducible exact K1.out | with_reducible exact K0.out) (fun hHeld => ?_)
    replace hH := Lib.hid hHeld
    clear hK K hHeld
    try simp only [Act.put, sA, sB, sC]
    refine rdy (i := 8) (oi := ⟨some 19, .call ⟨.builtin .append, #[.tmp 14, .tmp 18], #[38, 38]⟩, 38, "ref.go:47", #[⟨3, .data⟩, ⟨7, .data⟩, ⟨7, .chain⟩], none⟩) (fun K hK => ?_)
    refine step_app rfl (.tmp 14) (.tmp 18) rfl rfl rfl R1.out R2.out (by simp [lenOf, itD_bits]) ?_
    intro v3 w5 r3
    have R3 := Lib.hid (r3.from_ (Adv.refl Nul w2).drew)
    have K3 := Lib.hid (let c := HK.out _ R3.out.adv; And.intro c.a.1 c.a.2.1)
    clear r3
    refine hK.out _ _ (by first | with_reducible exact K3.out | with_reducible exact K2.out | with_reducible exact K1.out | with_reducible exact K0.out) (fun hHeld => ?_)
    replace hH := Lib.hid hHeld
    clear hK K hHeld
    try simp only [Act.put, sA, sB, sC]
    refine tk (i := 9) (oi := ⟨some 4, .assign (.tmp 19), 38, "ref.go:47", #[⟨8, .data⟩, ⟨8, .chain⟩, ⟨0, .phase⟩, ⟨1, .phase⟩, ⟨2, .phase⟩, ⟨3, .phase⟩, ⟨4, .phase⟩, ⟨5, .phase⟩, ⟨6, .phase⟩, ⟨7, .phase⟩, ⟨8, .phase⟩], none⟩) hH.out (by rintro w ⟨s0, s1⟩; go_simp <;> with_reducible rfl) ?_
    simp only [Act.put, sA, sB, sC]
    refine wpAnyH_done (by kernel_rfl) ?_ _
    clear K0 K1 K2 K3 R1 R2 A1 hH hc0 hc1
    have R := R3
    clear R3
    go_upto_region 4 with (fail)
    have s := (HK.out _ R.out.adv).a.2.2.1
    go_upto_region 5 with (first
      | (go_at_call 42; refine (ri_bits m.ss 40 _ HX.out.2.2.1 (by decide)).mono ?_; rintro e w3 ⟨v1, rfl, r1⟩; have R1 := Lib.hid r1; clear r1)
      | (at_builtin; refine op_appw rfl (.tmp 20) (.tmp 23) rfl rfl rfl R.out R1.out (by simp [lenOf, itD_bits]) (by simp [lenOf, itD_bits]) ?_; intro v2 w4 r2; have R2 := Lib.hid r2; clear r2 R1 R)
      | fail)
    have R := R2
    clear R2 s
    have s := (HK.out _ R.out.adv).a.2.2.2.1
    go_upto_region 6 with (first
      | (go_at_call 42; refine (ri_bits m.sq 40 _ HX.out.2.2.2.1 (by decide)).mono ?_; rintro e w3 ⟨v1, rfl, r1⟩; have R1 := Lib.hid r1; clear r1)
      | (at_builtin; refine op_appw rfl (.tmp 25) (.tmp 28) rfl rfl rfl R.out R1.out (by simp [lenOf, itD_bits]) (by simp [lenOf, itD_bits]) ?_; intro v2 w4 r2; have R2 := Lib.hid r2; clear r2 R1 R)
      | fail)
    have R := R2
    clear R2 s
    have s := (HK.out _ R.out.adv).a.2.2.2.2.1
    go_upto_region 7 with (first
      | (go_at_call 42; refine (ri_bits m.bo 40 _ HX.out.2.2.2.2.1 (by decide)).mono ?_; rintro e w3 ⟨v1, rfl, r1⟩; have R1 := Lib.hid r1; clear r1)
      | (at_builtin; refine op_appw rfl (.tmp 30) (.tmp 33) rfl rfl rfl R.out R1.out (by simp [lenOf, itD_bits]) (by simp [lenOf, itD_bits]) ?_; intro v2 w4 r2; have R2 := Lib.hid r2; clear r2 R1 R)
      | fail)
    have R := R2
    clear R2 s
    have s := (HK.out _ R.out.adv).a.2.2.2.2.2.1
    go_upto_region 8 with (first
      | (go_at_call 42; refine (ri_bits x5 4 _ HX.out.2.2.2.2.2.1 (by decide)).mono ?_; rintro e w3 ⟨v1, rfl, r1⟩; have R1 := Lib.hid r1; clear r1)
      | (at_builtin; refine op_appw rfl (.tmp 35) (.tmp 39) rfl rfl rfl R.out R1.out (by simp [lenOf, itD_bits]) (by simp [lenOf, itD_bits]) ?_; intro v2 w4 r2; have R2 := Lib.hid r2; clear r2 R1 R)
      | fail)
    have R := R2
    clear R2 s
    have s := (HK.out _ R.out.adv).a.2.2.2.2.2.2
    go_upto_region 9 with (first
      | (go_at_call 42; refine (ri_bits x6 5 _ HX.out.2.2.2.2.2.2 (by decide)).mono ?_; rintro e w3 ⟨v1, rfl, r1⟩; have R1 := Lib.hid r1; clear r1)
      | (at_builtin; refine op_appw rfl (.tmp 41) (.tmp 45) rfl rfl rfl R.out R1.out (by simp [lenOf, itD_bits]) (by simp [lenOf, itD_bits]) ?_; intro v2 w4 r2; have R2 := Lib.hid r2; clear r2 R1 R)
      | fail)
    have R := R2
    clear R2 s
    rw [HWH.out] at R
    clear HWH HX hc5 hc6
    go_upto_region 10 with (first
      | (refine kop_load rfl _ rfl z (HKB.out _ R.out.adv) rfl Try.underlying28 rfl sizeM HCS.out ?_)
      | (go_at_call 43; refine (HF2.out _).mono ?_; rintro e w3 ⟨rfl, a3⟩; have R2 := Lib.hid (R.out.over a3); clear a3 R)
      | fail)
    have R := R2
    clear R2 HF2
    obtain ⟨b, hb⟩ : ∃ b, b = decide (102 ∈ s) := ⟨_, rfl⟩
    have HH := Lib.hid (HHAS.out 102)
    rw [← hb] at HH
    have HB := Lib.hid hb
    clear hb
    go_upto_if 50 with (first
      | (go_at_call 44; refine (HH.out _).mono ?_; rintro e w3 ⟨rfl, rfl⟩)
      | fail)
    clear HH
    go_cut [4] (fun t4 w9 => RI w2 (wq1 m s) t4 w9)
    case first =>
      have hb := HB.out
      by_cases hc : 102 ∈ s
      · obtain rfl : b = true := by rw [hb, decide_eq_true hc]
        have HJ := Lib.hid J.out.f
        rw [if_pos hc] at HJ
        have HW := Lib.hid (show wiH m ++ wiF m.fi m.fg = wq1 m s from by unfold wq1 wf1; rw [if_pos hc] <;> rfl)
        clear hb hc HB
        have c := HK.out _ R.out.adv
        have s0 := c.b.1
        have s1 := c.b.2.1
        clear c
        go_wp2_with (first
          | (go_at_call 45; refine (file17_any m.fi m.fg HJ.out _).mono ?_; rintro e w3 ⟨v1, rfl, r1⟩; have R1 := Lib.hid r1; clear r1)
          | (at_builtin; refine op_appw rfl (.tmp 51) (.tmp 54) rfl rfl rfl R.out R1.out (Nat.le_trans HL8.out.1 (by decide)) (by rw [len_wiF]; decide) ?_; intro v2 w4 r2; have R2 := Lib.hid r2; clear r2 R1)
          | fail)
        go_meet
        rw [← HW.out]
        exact R2.out
      · obtain rfl : b = false := by rw [hb, decide_eq_false hc]
        have HW := Lib.hid (show wiH m = wq1 m s from by unfold wq1 wf1; rw [if_neg hc, List.append_nil])
        clear hb hc HB
        go_wp2_with fail
        go_meet
        rw [← HW.out]
        exact R.out
    case rest =>
    have R2 := Lib.hid hcut
    clear hcut R HB
    have R := R2
    clear R2
    obtain ⟨b, hb⟩ : ∃ b, b = decide (100 ∈ s) := ⟨_, rfl⟩
    have HH := Lib.hid (HHAS.out 100)
    rw [← hb] at HH
    have HB := Lib.hid hb
    clear hb
    go_upto_if 57 with (first
      | (go_at_call 44; refine (HH.out _).mono ?_; rintro e w3 ⟨rfl, rfl⟩)
      | fail)
    clear HH
    go_cut [4] (fun t4 w9 => RI w2 (wq2 m s) t4 w9)
    case first =>
      have hb := HB.out
      by_cases hc : 100 ∈ s
      · obtain rfl : b = true := by rw [hb, decide_eq_true hc]
        have HJ := Lib.hid J.out.d
        rw [if_pos hc] at HJ
        have HW := Lib.hid (show wq1 m s ++ wiF m.di m.dg = wq2 m s from by unfold wq2 wf2; rw [if_pos hc] <;> rfl)
        clear hb hc HB
        have c := HK.out _ R.out.adv
        have s0 := c.b.2.2.1
        have s1 := c.b.2.2.2
        clear c
        go_wp2_with (first
          | (go_at_call 45; refine (file17_any m.di m.dg HJ.out _).mono ?_; rintro e w3 ⟨v1, rfl, r1⟩; have R1 := Lib.hid r1; clear r1)
          | (at_builtin; refine op_appw rfl (.tmp 58) (.tmp 61) rfl rfl rfl R.out R1.out (Nat.le_trans HL8.out.2.1 (by decide)) (by rw [len_wiF]; decide) ?_; intro v2 w4 r2; have R2 := Lib.hid r2; clear r2 R1)
          | fail)
        go_meet
        rw [← HW.out]
        exact R2.out
      · obtain rfl : b = false := by rw [hb, decide_eq_false hc]
        have HW := Lib.hid (show wq1 m s = wq2 m s from by unfold wq2 wf2; rw [if_neg hc, List.append_nil])
        clear hb hc HB
        go_wp2_with fail
        go_meet
        rw [← HW.out]
        exact R.out
    case rest =>
    have R2 := Lib.hid hcut
    clear hcut R HB
    have R := R2
    clear R2
    obtain ⟨b, hb⟩ : ∃ b, b = decide (110 ∈ s) := ⟨_, rfl⟩
    have HH := Lib.hid (HHAS.out 110)
    rw [← hb] at HH
    have HB := Lib.hid hb
    clear hb
    go_upto_if 64 with (first
      | (go_at_call 44; refine (HH.out _).mono ?_; rintro e w3 ⟨rfl, rfl⟩)
      | fail)
    clear HH
    go_cut [4] (fun t4 w9 => RI w2 (wq3 m s) t4 w9)
    case first =>
      have hb := HB.out
      by_cases hc : 110 ∈ s
      · obtain rfl : b = true := by rw [hb, decide_eq_true hc]
        have HJ := Lib.hid J.out.n
        rw [if_pos hc] at HJ
        have HW := Lib.hid (show wq2 m s ++ [txD m.nm] = wq3 m s from by unfold wq3 wf3; rw [if_pos hc] <;> rfl)
        clear hb hc HB
        have c := HK.out _ R.out.adv
        have s0 := c.c.1
        clear c
        go_wp2_with (first
          | (go_at_call 46; refine (ri_text m.nm _ (by have := HJ.out; omega)).mono ?_; rintro e w3 ⟨v1, rfl, r1⟩; have R1 := Lib.hid r1; clear r1)
          | (at_builtin; refine op_appw rfl (.tmp 65) (.tmp 68) rfl rfl rfl R.out R1.out (Nat.le_trans HL8.out.2.2.1 (by decide)) (by rw [len_tx]; have := HJ.out; omega) ?_; intro v2 w4 r2; have R2 := Lib.hid r2; clear r2 R1)
          | fail)
        go_meet
        rw [← HW.out]
        exact R2.out
      · obtain rfl : b = false := by rw [hb, decide_eq_false hc]
        have HW := Lib.hid (show wq2 m s = wq3 m s from by unfold wq3 wf3; rw [if_neg hc, List.append_nil])
        clear hb hc HB
        go_wp2_with fail
        go_meet
        rw [← HW.out]
        exact R.out
    case rest =>
    have R2 := Lib.hid hcut
    clear hcut R HB
    have R := R2
    clear R2
    obtain ⟨b, hb⟩ : ∃ b, b = decide (111 ∈ s) := ⟨_, rfl⟩
    have HH := Lib.hid (HHAS.out 111)
    rw [← hb] at HH
    have HB := Lib.hid hb
    clear hb
    go_upto_if 71 with (first
      | (go_at_call 44; refine (HH.out _).mono ?_; rintro e w3 ⟨rfl, rfl⟩)
      | fail)
    clear HH
    go_cut [4] (fun t4 w9 => RI w2 (wq4 m s) t4 w9)
    case first =>
      have hb := HB.out
      by_cases hc : 111 ∈ s
      · obtain rfl : b = true := by rw [hb, decide_eq_true hc]
        have HJ := Lib.hid J.out.o
        rw [if_pos hc] at HJ
        have HW := Lib.hid (show wq3 m s ++ [txD m.ot] = wq4 m s from by unfold wq4 wf4; rw [if_pos hc] <;> rfl)
        clear hb hc HB
        have c := HK.out _ R.out.adv
        have s0 := c.c.2.1
        clear c
        go_wp2_with (first
          | (go_at_call 46; refine (ri_text m.ot _ (by have := HJ.out; omega)).mono ?_; rintro e w3 ⟨v1, rfl, r1⟩; have R1 := Lib.hid r1; clear r1)
          | (at_builtin; refine op_appw rfl (.tmp 72) (.tmp 75) rfl rfl rfl R.out R1.out (Nat.le_trans HL8.out.2.2.2.1 (by decide)) (by rw [len_tx]; have := HJ.out; omega) ?_; intro v2 w4 r2; have R2 := Lib.hid r2; clear r2 R1)
          | fail)
        go_meet
        rw [← HW.out]
        exact R2.out
      · obtain rfl : b = false := by rw [hb, decide_eq_false hc]
        have HW := Lib.hid (show wq3 m s = wq4 m s from by unfold wq4 wf4; rw [if_neg hc, List.append_nil])
        clear hb hc HB
        go_wp2_with fail
        go_meet
        rw [← HW.out]
        exact R.out
    case rest =>
    have R2 := Lib.hid hcut
    clear hcut R HB
    have R := R2
    clear R2
    obtain ⟨b, hb⟩ : ∃ b, b = decide (107 ∈ s) := ⟨_, rfl⟩
    have HH := Lib.hid (HHAS.out 107)
    rw [← hb] at HH
    have HB := Lib.hid hb
    clear hb
    go_upto_if 78 with (first
      | (go_at_call 44; refine (HH.out _).mono ?_; rintro e w3 ⟨rfl, rfl⟩)
      | fail)
    clear HH
    go_cut [4] (fun t4 w9 => RI w2 (wq5 m s) t4 w9)
    case first =>
      have hb := HB.out
      by_cases hc : 107 ∈ s
      · obtain rfl : b = true := by rw [hb, decide_eq_true hc]
        have HJ := Lib.hid J.out.k
        rw [if_pos hc] at HJ
        have HW := Lib.hid (show wq4 m s ++ [itD 2 (u64n m.mo)] = wq5 m s from by unfold wq5 wf5; rw [if_pos hc] <;> rfl)
        clear hb hc HB
        have c := HK.out _ R.out.adv
        have s0 := c.c.2.2.1
        clear c
        obtain ⟨x, hx⟩ : ∃ x, x = u64n m.mo := ⟨_, rfl⟩
        have hcv : IntKind.u64.wrap m.mo = (x : Int) := by rw [hx, wrap_u64n]
        have HXB := Lib.hid (show x < 2 ^ 2 by rw [hx]; have := HJ.out; unfold moP at this; exact u64n_lt_of (n := 4) (by omega) (by omega) (by decide))
        rw [← hx] at HW
        clear hx
        go_wp2_with (first
          | (go_at_call 42; refine (ri_bits x 2 _ HXB.out (by decide)).mono ?_; rintro e w3 ⟨v1, rfl, r1⟩; have R1 := Lib.hid r1; clear r1)
          | (at_builtin; refine op_appw rfl (.tmp 79) (.tmp 83) rfl rfl rfl R.out R1.out (Nat.le_trans HL8.out.2.2.2.2.1 (by decide)) (by rw [len_it]; decide) ?_; intro v2 w4 r2; have R2 := Lib.hid r2; clear r2 R1)
          | fail)
        go_meet
        rw [← HW.out]
        exact R2.out
      · obtain rfl : b = false := by rw [hb, decide_eq_false hc]
        have HW := Lib.hid (show wq4 m s = wq5 m s from by unfold wq5 wf5; rw [if_neg hc, List.append_nil])
        clear hb hc HB
        go_wp2_with fail
        go_meet
        rw [← HW.out]
        exact R.out
    case rest =>
    have R2 := Lib.hid hcut
    clear hcut R HB
    have R := R2
    clear R2
    obtain ⟨b, hb⟩ : ∃ b, b = decide (97 ∈ s) := ⟨_, rfl⟩
    have HH := Lib.hid (HHAS.out 97)
    rw [← hb] at HH
    have HB := Lib.hid hb
    clear hb
    go_upto_if 86 with (first
      | (go_at_call 44; refine (HH.out _).mono ?_; rintro e w3 ⟨rfl, rfl⟩)
      | fail)
    clear HH
    go_cut [4] (fun t4 w9 => RI w2 (wq6 m s) t4 w9)
    case first =>
      have hb := HB.out
      by_cases hc : 97 ∈ s
      · obtain rfl : b = true := by rw [hb, decide_eq_true hc]
        have HJ := Lib.hid J.out.a
        rw [if_pos hc] at HJ
        have HW := Lib.hid (show wq5 m s ++ [itD 3 (u64n m.at_)] = wq6 m s from by unfold wq6 wf6; rw [if_pos hc] <;> rfl)
        clear hb hc HB
        have c := HK.out _ R.out.adv
        have s0 := c.c.2.2.2.1
        clear c
        obtain ⟨x, hx⟩ : ∃ x, x = u64n m.at_ := ⟨_, rfl⟩
        have hcv : IntKind.u64.wrap m.at_ = (x : Int) := by rw [hx, wrap_u64n]
        have HXB := Lib.hid (show x < 2 ^ 3 by rw [hx]; have := HJ.out; exact u64n_lt_of (n := 8) (by omega) (by omega) (by decide))
        rw [← hx] at HW
        clear hx
        go_wp2_with (first
          | (go_at_call 42; refine (ri_bits x 3 _ HXB.out (by decide)).mono ?_; rintro e w3 ⟨v1, rfl, r1⟩; have R1 := Lib.hid r1; clear r1)
          | (at_builtin; refine op_appw rfl (.tmp 87) (.tmp 91) rfl rfl rfl R.out R1.out (Nat.le_trans HL8.out.2.2.2.2.2.1 (by decide)) (by rw [len_it]; decide) ?_; intro v2 w4 r2; have R2 := Lib.hid r2; clear r2 R1)
          | fail)
        go_meet
        rw [← HW.out]
        exact R2.out
      · obtain rfl : b = false := by rw [hb, decide_eq_false hc]
        have HW := Lib.hid (show wq5 m s = wq6 m s from by unfold wq6 wf6; rw [if_neg hc, List.append_nil])
        clear hb hc HB
        go_wp2_with fail
        go_meet
        rw [← HW.out]
        exact R.out
    case rest =>
    have R2 := Lib.hid hcut
    clear hcut R HB
    have R := R2
    clear R2
    obtain ⟨b, hb⟩ : ∃ b, b = decide (116 ∈ s) := ⟨_, rfl⟩
    have HH := Lib.hid (HHAS.out 116)
    rw [← hb] at HH
    have HB := Lib.hid hb
    clear hb
    go_upto_if 94 with (first
      | (go_at_call 44; refine (HH.out _).mono ?_; rintro e w3 ⟨rfl, rfl⟩)
      | fail)
    clear HH
    go_cut [4] (fun t4 w9 => RI w2 (wq7 m s) t4 w9)
    case first =>
      have hb := HB.out
      by_cases hc : 116 ∈ s
      · obtain rfl : b = true := by rw [hb, decide_eq_true hc]
        have HJ := Lib.hid J.out.t
        rw [if_pos hc] at HJ
        have HW := Lib.hid (show wq6 m s ++ [txD m.da] = wq7 m s from by unfold wq7 wf7; rw [if_pos hc] <;> rfl)
        clear hb hc HB
        have c := HK.out _ R.out.adv
        have s0 := c.c.2.2.2.2.1
        clear c
        go_wp2_with (first
          | (go_at_call 46; refine (ri_text m.da _ (by have := HJ.out; omega)).mono ?_; rintro e w3 ⟨v1, rfl, r1⟩; have R1 := Lib.hid r1; clear r1)
          | (at_builtin; refine op_appw rfl (.tmp 95) (.tmp 98) rfl rfl rfl R.out R1.out (Nat.le_trans HL8.out.2.2.2.2.2.2.1 (by decide)) (by rw [len_tx]; have := HJ.out; omega) ?_; intro v2 w4 r2; have R2 := Lib.hid r2; clear r2 R1)
          | fail)
        go_meet
        rw [← HW.out]
        exact R2.out
      · obtain rfl : b = false := by rw [hb, decide_eq_false hc]
        have HW := Lib.hid (show wq6 m s = wq7 m s from by unfold wq7 wf7; rw [if_neg hc, List.append_nil])
        clear hb hc HB
        go_wp2_with fail
        go_meet
        rw [← HW.out]
        exact R.out
    case rest =>
    have R2 := Lib.hid hcut
    clear hcut R HB
    have R := R2
    clear R2
    obtain ⟨b, hb⟩ : ∃ b, b = decide (118 ∈ s) := ⟨_, rfl⟩
    have HH := Lib.hid (HHAS.out 118)
    rw [← hb] at HH
    have HB := Lib.hid hb
    clear hb
    go_upto_if 101 with (first
      | (go_at_call 44; refine (HH.out _).mono ?_; rintro e w3 ⟨rfl, rfl⟩)
      | fail)
    clear HH
    go_cut [4] (fun t4 w9 => RI w2 (wq8 m s) t4 w9)
    case first =>
      have hb := HB.out
      by_cases hc : 118 ∈ s
      · obtain rfl : b = true := by rw [hb, decide_eq_true hc]
        have HJ := Lib.hid J.out.v
        rw [if_pos hc] at HJ
        have HW := Lib.hid (show wq7 m s ++ [itD 40 m.ve] = wq8 m s from by unfold wq8 wf8; rw [if_pos hc] <;> rfl)
        clear hb hc HB
        have c := HK.out _ R.out.adv
        have s0 := c.c.2.2.2.2.2.1
        clear c
        go_wp2_with (first
          | (go_at_call 42; refine (ri_bits m.ve 40 _ (by have := HJ.out; omega) (by decide)).mono ?_; rintro e w3 ⟨v1, rfl, r1⟩; have R1 := Lib.hid r1; clear r1)
          | (at_builtin; refine op_appw rfl (.tmp 102) (.tmp 105) rfl rfl rfl R.out R1.out (Nat.le_trans HL8.out.2.2.2.2.2.2.2.1 (by decide)) (by rw [len_it]; decide) ?_; intro v2 w4 r2; have R2 := Lib.hid r2; clear r2 R1)
          | fail)
        go_meet
        rw [← HW.out]
        exact R2.out
      · obtain rfl : b = false := by rw [hb, decide_eq_false hc]
        have HW := Lib.hid (show wq7 m s = wq8 m s from by unfold wq8 wf8; rw [if_neg hc, List.append_nil])
        clear hb hc HB
        go_wp2_with fail
        go_meet
        rw [← HW.out]
        exact R.out
    case rest =>
    have R2 := Lib.hid hcut
    clear hcut R HB
    have R := R2
    clear R2
    obtain ⟨b, hb⟩ : ∃ b, b = decide (101 ∈ s) := ⟨_, rfl⟩
    have HH := Lib.hid (HHAS.out 101)
    rw [← hb] at HH
    have HB := Lib.hid hb
    clear hb
    go_upto_if 108 with (first
      | (go_at_call 44; refine (HH.out _).mono ?_; rintro e w3 ⟨rfl, rfl⟩)
      | fail)
    clear HH
    go_cut [4] (fun t4 w9 => RI w2 (wiL m) t4 w9)
    case first =>
      have hb := HB.out
      by_cases hc : 101 ∈ s
      · obtain rfl : b = true := by rw [hb, decide_eq_true hc]
        have HJ := Lib.hid J.out.e
        rw [if_pos hc, ← HN.out] at HJ
        have HLN := Lib.hid (fun k => wf9_len (by rw [← HWL.out]; exact HL9.out) hc k)
        rw [← HN.out] at HLN
        obtain ⟨AA, hAA⟩ : ∃ AA, AA = wq8 m s ++ [itD 5 N] := ⟨_, rfl⟩
        have HW := Lib.hid (show AA ++ (m.en.take N).flatMap wiE = wiL m from by rw [HWL.out, hAA, HN.out, List.take_length]; unfold wf9; rw [if_pos hc]; simp)
        have HAA := Lib.hid hAA
        rw [← hAA] at HLN
        clear hAA hb hc HB
        have c := HK.out _ R.out.adv
        have s0 := c.c.2.2.2.2.2.2
        clear c
        have hN24 : N ≤ 24 := HJ.out.2
        go_upto_region 28 with (first
          | (go_at_call 42; refine (ri_bits N 5 _ (by omega) (by decide)).mono ?_; rintro e w3 ⟨v1, rfl, r1⟩; have R1 := Lib.hid r1; clear r1)
          | (at_builtin; refine op_appw rfl (.tmp 109) (.tmp 114) rfl rfl rfl R.out R1.out (Nat.le_trans HL8.out.2.2.2.2.2.2.2.2 (by decide)) (by rw [len_it]; decide) ?_; intro v2 w4 r2; rw [← HAA.out] at r2; have R2 := Lib.hid r2; clear r2 R1)
          | fail)
        clear s0 R HAA HL8
        have R := R2
        clear R2
        go_wp2_with fail
        go_loopw [4, 6] (EnL w2 AA m.en) (fun _ t _ => N - (intOf t).toNat)
        case atStart => exact ⟨0, rfl, Nat.zero_le _, by rw [List.take_zero, List.flatMap_nil, List.append_nil]; exact R.out⟩
        case round =>
          obtain ⟨k, rfl, hk, hr⟩ := hrel
          rw [← HN.out] at hk
          have R3 := Lib.hid hr
          clear hr
          have c := HK.out _ R3.out.adv
          have s0 := c.c.2.2.2.2.2.2
          clear c
          by_cases hlt : k < N
          · have hkl : k < m.en.length := by rw [← HN.out]; exact hlt
            obtain ⟨b1, o1, rfl, hb1, g0, g1, g2, g3⟩ := (HKE.out _ R3.out.adv).at_ HN.out hkl
            have HNX := Lib.hid (wiE_next hkl)
            obtain ⟨e, he⟩ : ∃ e, e = m.en[k] := ⟨_, rfl⟩
            have HEK := Lib.hid (show okE e by rw [he]; exact HJ.out.1 _ (List.getElem_mem _))
            rw [← he] at g0 g1 g2 g3 HNX
            have HLK := Lib.hid (HLN.out k)
            have HLTk := Lib.hid hlt
            obtain ⟨AK, hAK⟩ : ∃ AK, AK = AA ++ (m.en.take k).flatMap wiE := ⟨_, rfl⟩
            have HAK := Lib.hid hAK
            rw [← hAK] at R3 HLK
            obtain ⟨y, hy⟩ : ∃ y, y = wr.heap.size := ⟨_, rfl⟩
            obtain ⟨V, hV⟩ : ∃ V, V = wr.alloc (.cells (ea e) 54) := ⟨_, rfl⟩
            have HAV := Lib.hid (show Adv Nul wr Nul V by rw [hV]; exact (Adv.refl _ _).alloc _)
            have HYB := Lib.hid (show Blk V y 54 (ea e) by rw [hV, hy]; exact Blk.new _ _ _)
            have HY4 := Lib.hid (fun (w' : World) (h : Adv Nul V Nul w') => (HYB.out.over h).e4.all)
            have HV := Lib.hid hV
            have HYY := Lib.hid hy
            clear hV hy hAK he hkl hb1
            obtain ⟨sz, i, g, kd⟩ := e
            simp only at g0 g1 g2 g3 HY4
            have HF := Lib.hid (show flP i g by obtain ⟨_, o1, o2, o3, o4, o5, o6⟩ := HEK.out; simp only at o1 o2 o3 o4; exact ⟨by omega, by omega, by omega, by omega⟩)
            have HSZ := Lib.hid (show sz.size ≤ 16 by have := (okE_size HEK.out).2; show sz.size ≤ 16; simp only at this; omega)
            obtain ⟨x, hx⟩ : ∃ x, x = u64n kd := ⟨_, rfl⟩
            have hcv : IntKind.u64.wrap kd = (x : Int) := by rw [hx, wrap_u64n]
            have HXB := Lib.hid (show x < 2 ^ 2 by rw [hx]; obtain ⟨_, o1, o2, o3, o4, o5, o6⟩ := HEK.out; simp only at o5 o6; exact u64n_lt_of (n := 4) (by omega) (by omega) (by decide))
            have HWE := Lib.hid (show [txD sz] ++ wiF i g ++ [itD 2 x] = wiE ⟨sz, i, g, kd⟩ from by rw [hx]; rfl)
            simp only [ea] at HV
            clear hx HEK hlt
            go_upto_region 32 with (fail)
            rw [← HV.out, ← HYY.out]
            clear g0 g1 g2 g3 HV HYY s0
            have R4 := Lib.hid (R3.out.over HAV.out)
            clear R3
            obtain ⟨t0, t1, t2, t3⟩ := HY4.out _ (Adv.refl Nul V)
            try simp only at t0 t1 t2 t3
            clear t1 t2 t3 HY4
            go_upto_region 33 with (first
              | (go_at_call 46; refine (ri_text sz _ (by have := HSZ.out; omega)).mono ?_; rintro e w3 ⟨v1, rfl, r1⟩; have R1 := Lib.hid r1; have HB1 := Lib.hid (HYB.out.over r1.adv); clear r1)
              | (at_builtin; refine op_appe rfl (.tmp 128) (.tmp 131) rfl rfl rfl R4.out R1.out (Nat.le_trans HLK.out (by decide)) (by rw [len_tx]; have := HSZ.out; omega) HB1.out (by decide) ?_; intro v2 w4 r2 b2; have R5 := Lib.hid r2; have HB5 := Lib.hid b2; clear r2 b2)
              | fail)
            clear t0 R4 R1 HB1
            obtain ⟨t0, t1, t2, t3⟩ := HB5.out.e4.all
            try simp only at t0 t1 t2 t3
            clear t0 t3
            go_upto_region 34 with (first
              | (go_at_call 45; refine (file17_any i g HF.out _).mono ?_; rintro e w5 ⟨v3, rfl, r1⟩; have R6 := Lib.hid r1; have HB6 := Lib.hid (HB5.out.over r1.adv); clear r1)
              | (at_builtin; refine op_appe rfl (.tmp 133) (.tmp 136) rfl rfl rfl R5.out R6.out (by have := HLK.out; have := HSZ.out; rw [lenOf_app, len_tx]; omega) (by rw [len_wiF]; decide) HB6.out (by decide) ?_; intro v4 w6 r2 b2; have R7 := Lib.hid r2; have HB7 := Lib.hid b2; clear r2 b2)
              | fail)
            clear t1 t2 R5 R6 HB5 HB6
            obtain ⟨t0, t1, t2, t3⟩ := HB7.out.e4.all
            try simp only at t0 t1 t2 t3
            clear t0 t1 t2
            go_wp2_with (first
              | (go_at_call 42; refine (ri_bits x 2 _ HXB.out (by decide)).mono ?_; rintro e w7 ⟨v5, rfl, r1⟩; have R8 := Lib.hid r1; clear r1)
              | (at_builtin; refine op_appw rfl (.tmp 138) (.tmp 142) rfl rfl rfl R7.out R8.out (by have := HLK.out; have := HSZ.out; rw [lenOf_app, lenOf_app, len_tx, len_wiF]; omega) (by rw [len_it]; decide) ?_; intro v6 w8 r2; have R9 := Lib.hid r2; clear r2)
              | fail)
            refine ⟨⟨k + 1, by go_num, by rw [← HN.out]; exact HLTk.out, ?_⟩, by have := HLTk.out; simp [intOf] <;> omega⟩
            have r := R9.out
            rw [HNX.out, ← List.append_assoc, ← HAK.out, ← HWE.out]
            simp only [List.append_assoc] at r ⊢
            exact r
          · obtain rfl : k = N := by omega
            clear hlt hk
            go_wp2_with fail
            go_meet
            rw [← HW.out]
            exact R3.out
      · obtain rfl : b = false := by rw [hb, decide_eq_false hc]
        have HW := Lib.hid (show wq8 m s = wiL m from by rw [HWL.out]; unfold wf9; rw [if_neg hc, List.append_nil])
        clear hb hc HB
        go_wp2_with fail
        go_meet
        rw [← HW.out]
        exact R.out
    case rest =>
    have R2 := Lib.hid hcut
    clear hcut R HB
    go_wp2_with (first
      | (go_at_call 47; refine (ri_bytes R2.out (Nat.le_trans HL9.out (by decide))).mono ?_; rintro e w9 ⟨v9, F9, rfl, s9, a9⟩; obtain ⟨A9, c9, rfl, _, _⟩ := s9.form0; have HS9 := Lib.hid s9; have HA9 := Lib.hid a9; clear s9 a9)
      | fail)
    exact bodyPost_ret (v := .tuple #[.slice A9 (qn (lenOf (wiL m))) c9, .int .i64 0]) (by simp [results, Try.results22, go_sem]) rfl (HYES.out _ _ _ _ _ HI.out (wiB_len m).symm HS9.out (HA2.out.trans HA9.out))
end Go.Proofs.Ytpgeebhepegpaaa
