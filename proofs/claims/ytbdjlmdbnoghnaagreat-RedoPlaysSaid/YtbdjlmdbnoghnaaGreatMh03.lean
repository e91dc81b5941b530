/- A piece's sector: the document's Seal; the program's, of what is no piece. Pieces handed over: mine, plain; structs stored whole. Pieces compared; ends of a sector; parts of bytes that can be read. -/
import Derived.Test.YtbdjlmdbnoghnaaGreatMh02
import Derived.Deep.DeepCutAuto
namespace Go.Proofs.YtbdjlmdbnoghnaaGreat
open Go.RowKit

set_option maxRecDepth 3000 in
theorem seal_no (p : Pc) (v : Value) (w : World) (hok : ¬ p.ok) (hv : Rd w 1 v p.d.length (p.d.map u8)) :
    Calls Tryz.prog 79 #[.agg #[.int .u64 (p.e : Int), .int .u64 (p.c : Int), .bool p.f, .bool p.g, v]] w fun e w' => e = .returned (.tuple #[.slice none 0 0, .int .i64 2]) ∧ Adv Nul w Nul w' := by
  obtain ⟨e, n, f, g, d⟩ := p
  obtain ⟨A, c, rfl, _, hcm⟩ := hv.form
  unfold maxLen at hcm
  by_cases hs : e ≤ 16777215 ∧ n ≤ 1099511627775
  · have hm : (106 : Int) < (d.length : Int) := by
      have : ¬ d.length ≤ 106 := fun h => hok ⟨hs.1, hs.2, h⟩
      omega
    obtain ⟨m, hmm⟩ : ∃ m, m = d.length := ⟨_, rfl⟩
    rw [← hmm] at hm
    simp only [← hmm]
    have HS := Lib.hid hs
    clear hs hok hv hmm hcm
    go_enter Tryz.func79, Tryz.ntmps79
    go_wp2_with (first
      | (go_at_call 105; refine (stampok e n HS.out.1 HS.out.2 _).mono ?_; rintro x w1 ⟨rfl, rfl⟩)
      | fail)
    go_ret2
    exact ⟨rfl, (Adv.refl _ _).alloc _⟩
  · have HS := Lib.hid hs
    clear hs hok hv hcm
    go_enter Tryz.func79, Tryz.ntmps79
    go_wp2_with (first
      | (go_at_call 105; refine (stampno e n HS.out _).mono ?_; rintro x w1 ⟨rfl, rfl⟩)
      | fail)
    go_ret2
    exact ⟨rfl, (Adv.refl _ _).alloc _⟩

set_option maxRecDepth 3000 in
theorem rseal_no (p : Pc) (v : Value) (w : World) (hok : ¬ p.ok) (hv : Rd w 1 v p.d.length (p.d.map u8)) :
    Calls Tryz.prog 51 #[.agg #[.int .u64 (p.e : Int), .int .u64 (p.c : Int), .bool p.f, .bool p.g, v]] w fun e w' => e = .returned (.tuple #[.slice none 0 0, .int .i64 2]) ∧ Adv Nul w Nul w' := by
  obtain ⟨e, n, f, g, d⟩ := p
  obtain ⟨A, c, rfl, _, hcm⟩ := hv.form
  unfold maxLen at hcm
  obtain ⟨m, hmm⟩ : ∃ m, m = d.length := ⟨_, rfl⟩
  have hok2 : ¬ (e ≤ 16777215 ∧ n ≤ 1099511627775 ∧ m ≤ 106) := by rw [hmm]; exact hok
  simp only [← hmm] at hcm ⊢
  clear hok hv hmm
  by_cases h1 : e ≤ 16777215
  · by_cases h2 : n ≤ 1099511627775
    · have hmI : (106 : Int) < (m : Int) := by
        have : ¬ m ≤ 106 := fun h => hok2 ⟨h1, h2, h⟩
        omega
      have h1I : (e : Int) ≤ 16777215 := by omega
      have h2I : (n : Int) ≤ 1099511627775 := by omega
      clear hok2 h1 h2 hcm
      go_enter Tryz.func51, Tryz.ntmps51
      go_wp2_with fail
      go_ret2
      exact ⟨rfl, (Adv.refl _ _).alloc _⟩
    · have h1I : (e : Int) ≤ 16777215 := by omega
      have h2I : (1099511627775 : Int) < (n : Int) := by omega
      clear hok2 h1 h2 hcm
      go_enter Tryz.func51, Tryz.ntmps51
      go_wp2_with fail
      go_ret2
      exact ⟨rfl, (Adv.refl _ _).alloc _⟩
  · have h1I : (16777215 : Int) < (e : Int) := by omega
    clear hok2 h1 hcm
    go_enter Tryz.func51, Tryz.ntmps51
    go_wp2_with fail
    go_ret2
    exact ⟨rfl, (Adv.refl _ _).alloc _⟩

theorem Rd.adv' {w w' : World} {F F' : Nat → Prop} {size n : Nat} {v : Value} {xs : List Value} (h : Rd w size v n xs) (ha : Adv F w F' w') (hs : ∀ k, v.ownBlock = some k → ¬ F k) : Rd w' size v n xs :=
  h.far (fun k hk _ hl => ha.block k hl (hs k hk)) ha.size
theorem Adv.sep_of {w w1 : World} {F G : Nat → Prop} {e : TypeId} {size n : Nat} {v : Value} {xs : List Value} (h : Adv Nul w1 F w) (hs : Sl w1 G e size v n xs) : ∀ k, v.ownBlock = some k → ¬ F k := fun k hk hF => by
  rcases h.into k hF with h1 | h1
  · exact h1
  · exact absurd (hs.bd k (hs.inF k hk)) (by omega)
theorem sealed {e n y : Nat} {f g : Bool} {d Y : List Nat} (hY : Y = front ⟨e, n, f, g, d⟩) (hy : y = fnum (fsum (0, 0) (front ⟨e, n, f, g, d⟩))) : (Y.map u8 ++ (be 4 y).map u8) ++ (be 8 (stamp e n)).map u8 = (sealL ⟨e, n, f, g, d⟩).map u8 := by
  rw [hY, hy, ← List.map_append, ← List.map_append, sealL, List.append_assoc]
def OutR (w : World) (x : List Nat) (n : Nat) (t : Value) (wr : World) : Prop := ∃ a k F, t = .slice a n k ∧ Sl wr F 5 1 (.slice a n k) n (x.map u8) ∧ Adv Nul w F wr
theorem Sl.lup1 {w : World} {F : Nat → Prop} {e : TypeId} {size n : Nat} {v : Value} {xs : List Value} (h : Sl w F e size v n xs) (o : Obj) : Sl (w.alloc o) F e size v n xs :=
  ⟨own_keep h.own fun k hk => Below.heap_alloc _ _ _ (h.bd k (h.inF k hk)), h.inF, fun k hk => Nat.lt_of_lt_of_le (h.bd k hk) (by simp)⟩
theorem Adv.over' {F' : Nat → Prop} {w w1 w2 : World} (h : Adv Nul w Nul w1) (k : Adv Nul w1 F' w2) : Adv Nul w F' w2 := h.trans k
def FillRel (w : World) (x : List Nat) (n : Nat) (t : Value) (wr : World) : Prop :=
  ∃ k F, x.length ≤ k ∧ k ≤ n ∧ Sl wr F 5 1 t k ((x ++ List.replicate (k - x.length) 0).map u8) ∧ Adv Nul w F wr

theorem grow_rd {w wr w1 : World} {F : Nat → Prop} {v v' : Value} {k m n : Nat} {xs ys : List Value} (hS : Sl wr F 5 1 v k xs) (ha : Adv Nul w F wr) (hown : w1.ownsRow 0 5 1 v' n ys) (hg : wr.grownBy w1 v.ownBlock)
    (hat : v'.ownBlock = v.ownBlock ∨ v'.ownBlock = some m) (hm : wr.heap.size ≤ m) : ∃ F', Sl w1 F' 5 1 v' n ys ∧ Adv Nul w F' w1 := by
  obtain ⟨a, _, c⟩ := own_grown hS ha hown hg hat hm
  exact ⟨_, a, c⟩
theorem two_new (w : World) (x y : Nat) : Rd (w.alloc (.cells #[.int .u8 (x : Int), .int .u8 (y : Int)] 5)) 1 (.slice (some ⟨w.heap.size, 0, none⟩) 2 2) 2 ([x, y].map u8) := by
  refine ⟨_, _, rfl, by decide, by unfold maxLen; decide, rfl, fun h => (by cases h), fun _ => ⟨_, rfl, by simp, fun j u hu => ?_⟩⟩
  rw [add_none, Nat.zero_add, (Blk.new w 5 #[.int .u8 (x : Int), .int .u8 (y : Int)]).cell j, List.getElem?_toArray]
  exact hu

set_option maxRecDepth 3000 in
set_option maxHeartbeats 3200000 in
theorem rseal_ok (p : Pc) (v : Value) (w : World) (hok : p.ok) (hv : Rd w 1 v p.d.length (p.d.map u8)) (hd : ∀ x ∈ p.d, x < 256) :
    Calls Tryz.prog 51 #[.agg #[.int .u64 (p.e : Int), .int .u64 (p.c : Int), .bool p.f, .bool p.g, v]] w fun e w' =>
      ∃ v' F, e = .returned (.tuple #[v', .int .i64 0]) ∧ Sl w' F 5 1 v' 128 ((sealL p).map u8) ∧ Adv Nul w F w' := by
  obtain ⟨i0, hi, hz0, hz1, hz2⟩ := info_parts Tryz.infoU8
  obtain ⟨e, n, f, g, d⟩ := p
  obtain ⟨he, hc, hm⟩ := hok
  simp only at he hc hm hv hd
  obtain ⟨A, c, rfl, hmc, hcm⟩ := hv.form
  obtain ⟨b, hb⟩ : ∃ b, b = w.heap.size := ⟨_, rfl⟩
  obtain ⟨m, hmm⟩ : ∃ m, m = d.length := ⟨_, rfl⟩
  simp only [← hmm] at hm hv ⊢
  obtain ⟨W, hW⟩ : ∃ W, W = w.alloc (.cells #[.int .u64 (e : Int), .int .u64 (n : Int), .bool f, .bool g, .slice A m c] 87) := ⟨_, rfl⟩
  have hB : Blk W b 87 #[.int .u64 (e : Int), .int .u64 (n : Int), .bool f, .bool g, .slice A m c] := by rw [hW, hb]; exact Blk.new _ _ _
  have hV : Rd W 1 (.slice A m c) m (d.map u8) := by rw [hW]; exact hv.up _
  have hA : Adv Nul w Nul W := by rw [hW]; exact (Adv.refl _ _).alloc _
  have c0 := hB.cell 0
  have c1 := hB.cell 1
  have c4 := hB.cell 4
  have h1I : (e : Int) ≤ 16777215 := by omega
  have h2I : (n : Int) ≤ 1099511627775 := by omega
  have hmI : (m : Int) ≤ 106 := by omega
  have hst : (e : Int) * 1099511627776 + (n : Int) = ((stamp e n : Nat) : Int) := by simp [stamp]
  have HW := Lib.hid hW
  have HB := Lib.hid hB
  have HV := Lib.hid hV
  have HA := Lib.hid hA
  have HE := Lib.hid he
  have HC := Lib.hid hc
  have HM := Lib.hid hm
  have HD := Lib.hid hd
  have HMM := Lib.hid hmm
  have HBB := Lib.hid hb
  have HST := Lib.hid hst
  clear hW hB hV hA he hc hm hd hmm hv hb hmc hcm hst
  go_enter Tryz.func51, Tryz.ntmps51
  go_wp2_with fail
  rw [← HW.out, ← HBB.out]
  rw [HST.out]
  refine (rnumber_any (stamp e n) 8 W (stamp_lt HE.out HC.out) (by decide) (by decide)).mono ?_
  rintro x w1 ⟨vs, Fs, rfl, hs, as0⟩
  obtain ⟨As, cs, rfl, _, _⟩ := hs.form0
  have hB1 := HB.out.keep (as0.block b HB.out.lt (fun h => h))
  have c2 := hB1.cell 2
  have c3 := hB1.cell 3
  have c4 := hB1.cell 4
  have HB1 := Lib.hid hB1
  have HV1 := Lib.hid (HV.out.far (fun _ _ _ h => as0.block _ h (fun h => h)) as0.size)
  have HS := Lib.hid hs
  have HAS := Lib.hid (HA.out.trans as0)
  clear hs as0 hB1 c0 c1
  go_upto_if 29 with (fail)
  go_cut [5] (fun t5 w => t5 = .int .u8 ((flg f false : Nat) : Int) ∧ w = w1)
  case first =>
    cases f <;> (go_wp2_with fail; go_meet; exact ⟨rfl, rfl⟩)
  case rest =>
  obtain ⟨rfl, rfl⟩ := hcut
  go_upto_if 31 with (fail)
  go_cut [5] (fun t5 w => t5 = .int .u8 ((flg f g : Nat) : Int) ∧ w = wc)
  case first =>
    cases f <;> cases g <;> (go_wp2_with fail; go_meet; exact ⟨rfl, rfl⟩)
  case rest =>
  obtain ⟨rfl, rfl⟩ := hcut
  obtain ⟨w1, rfl⟩ : ∃ w1, w1 = wc := ⟨_, rfl⟩
  go_upto_region 9 with (fail)
  go_cut [6] (fun t6 wr => OutR w1 (be 8 (stamp e n) ++ [flg f g, m]) 10 t6 wr)
  case first =>
    have hmwr : IntKind.u8.wrap (m : Int) = (m : Int) := by rw [IntKind.wrap_u8]; omega
    have HSTD := Lib.hid HS.out.drew.rd
    have HSTE := Lib.hid ((HS.out.drew.lup1 (.cells #[.int .u8 ((flg f g : Nat) : Int), .int .u8 (m : Int)] 5)).rd)
    have HAB := Lib.hid (((Adv.refl Nul w1).drew).alloc (.cells #[.int .u8 ((flg f g : Nat) : Int), .int .u8 (m : Int)] 5))
    have KB := Lib.hid ((HB1.out.drew.alloc (.cells #[.int .u8 ((flg f g : Nat) : Int), .int .u8 (m : Int)] 5)).cell 4)
    clear c2 c3
    refine rstart (S := (fun w' => w'.cell? ⟨b, 4, none⟩ = some (.slice A m c))) (by first | exact c4 | exact K4.out | exact K5.out | exact K6.out | exact KB.out) (fun hH => ?_)
    refine tk (i := 0) (oi := ⟨some 34, .move (.tmp 4), 53, "ref.go:61", #[], none⟩) hH.out (by rintro w s0; go_simp <;> with_reducible rfl) ?_
    simp only [Act.put, sA, sB, sC]
    refine tk (i := 2) (oi := ⟨some 36, .move (.tmp 5), 5, "ref.go:61", #[], none⟩) hH.out (by rintro w s0; go_simp <;> with_reducible rfl) ?_
    simp only [Act.put, sA, sB, sC]
    refine tk (i := 3) (oi := ⟨some 37, .fieldAddr 87 (.tmp 1) 4, 0, "ref.go:61", #[], none⟩) hH.out (by rintro w s0; go_simp <;> with_reducible rfl) ?_
    simp only [Act.put, sA, sB, sC]
    refine tk (i := 4) (oi := ⟨some 38, .load 53 (.tmp 37), 53, "ref.go:61", #[⟨3, .data⟩], none⟩) hH.out (by rintro w s0; go_simp <;> with_reducible rfl) ?_
    simp only [Act.put, sA, sB, sC]
    refine tk (i := 5) (oi := ⟨some 39, .call ⟨.builtin .len, #[.tmp 38], #[53]⟩, 3, "ref.go:61", #[⟨4, .data⟩], none⟩) hH.out (by rintro w s0; go_simp <;> with_reducible rfl) ?_
    simp only [Act.put, sA, sB, sC]
    refine tk (i := 6) (oi := ⟨some 40, .convert 3 5 (.tmp 39), 5, "ref.go:61", #[⟨5, .data⟩], none⟩) hH.out (by rintro w s0; go_simp <;> with_reducible rfl) ?_
    simp only [Act.put, sA, sB, sC]
    refine wpAnyH_ready (rs := [1, 7]) (by kernel_rfl) (by simp) ?_
    refine AllReadyH.cons (o := ⟨some 35, .call ⟨.value (.func 40), #[.tmp 34], #[53]⟩, 53, "ref.go:61", #[⟨0, .data⟩], none⟩) rfl (fun K hK => ?_) (AllReadyH.cons (o := ⟨some 41, .buildSlice 53 2 #[(0, .tmp 36), (1, .tmp 40)], 53, "ref.go:61", #[⟨2, .data⟩, ⟨6, .data⟩], none⟩) rfl (fun K hK => ?_) AllReadyH.nil)
    · go_simp
      first
      | (refine (copy_any _ 8 _ _ HSTD.out (by decide)).mono ?_; rintro x wc ⟨vc, Fc, rfl, hc, ac⟩; obtain ⟨Ac, cc, rfl, _, _⟩ := hc.form0; have HCS := Lib.hid (hc.lup1 (.cells #[.int .u8 ((flg f g : Nat) : Int), .int .u8 (m : Int)] 5)); have HCA := Lib.hid (Adv.of_drew (ac.alloc (.cells #[.int .u8 ((flg f g : Nat) : Int), .int .u8 (m : Int)] 5))); have HOW := Lib.hid HCS.out.own; have HSRC := Lib.hid (two_new wc (flg f g) m); have K4 := Lib.hid ((HB1.out.keep (ac.block b HB1.out.lt (fun h => h))).cell 4); have K5 := Lib.hid ((HB1.out.keep (HCA.out.block b HB1.out.lt (fun h => h))).cell 4); clear hc ac)
      | (refine (copy_any _ 8 _ _ HSTE.out (by decide)).mono ?_; rintro x wc ⟨vc, Fc, rfl, hc, ac⟩; obtain ⟨Ac, cc, rfl, _, _⟩ := hc.form0; have HCS := Lib.hid hc; have HCA := Lib.hid (HAB.out.over' ac); have HOW := Lib.hid HCS.out.own; have HSRC := Lib.hid ((two_new w1.drew (flg f g) m).far (fun _ _ _ h => ac.block _ h (fun h => h)) ac.size); have K4 := Lib.hid ((HB1.out.keep (HCA.out.block b HB1.out.lt (fun h => h))).cell 4); have K5 := K4; clear hc ac)
      go_wp2_with fail
      refine hK.out _ _ (by first | exact c4 | exact K4.out | exact K5.out | exact K6.out | exact KB.out) (fun hHeld => ?_)
      replace hH := Lib.hid hHeld
      clear hK K hHeld
      try simp only [Act.put, sA, sB, sC]
      refine rdy (i := 7) (oi := ⟨some 41, .buildSlice 53 2 #[(0, .tmp 36), (1, .tmp 40)], 53, "ref.go:61", #[⟨2, .data⟩, ⟨6, .data⟩], none⟩) (fun K hK => ?_)
      go_simp
      refine hK.out _ _ (by first | exact c4 | exact K4.out | exact K5.out | exact K6.out | exact KB.out) (fun hHeld => ?_)
      replace hH := Lib.hid hHeld
      clear hK K hHeld
      try simp only [Act.put, sA, sB, sC]
      refine rdy (i := 8) (oi := ⟨some 42, .call ⟨.builtin .append, #[.tmp 35, .tmp 41], #[53, 53]⟩, 53, "ref.go:61", #[⟨1, .data⟩, ⟨7, .data⟩, ⟨1, .chain⟩], none⟩) (fun K hK => ?_)
      refine step_append_rd rfl (.tmp 35) (.tmp 41) rfl rfl rfl HOW.out HSRC.out (u8_one _) (by decide) ?_
      intro v6 w6 hown hg hat
      obtain ⟨F6, h6, a6⟩ := grow_rd HCS.out HCA.out hown hg hat (Nat.le_refl _)
      obtain ⟨A6, c6, rfl, _, _⟩ := h6.form0
      have H6 := Lib.hid h6
      have A6' := Lib.hid a6
      have K6 := Lib.hid (((HB1.out).keep (a6.block b HB1.out.lt (fun h => h))).cell 4)
      clear hown hg hat h6 a6
      refine hK.out _ _ (by first | exact c4 | exact K4.out | exact K5.out | exact K6.out | exact KB.out) (fun hHeld => ?_)
      replace hH := Lib.hid hHeld
      clear hK K hHeld
      try simp only [Act.put, sA, sB, sC]
      refine tk (i := 9) (oi := ⟨some 6, .assign (.tmp 42), 53, "ref.go:61", #[⟨8, .data⟩, ⟨8, .chain⟩, ⟨0, .phase⟩, ⟨1, .phase⟩, ⟨2, .phase⟩, ⟨3, .phase⟩, ⟨4, .phase⟩, ⟨5, .phase⟩, ⟨6, .phase⟩, ⟨7, .phase⟩, ⟨8, .phase⟩], none⟩) hH.out (by rintro w s0; go_simp <;> with_reducible rfl) ?_
      simp only [Act.put, sA, sB, sC]
      refine wpAnyH_done (by kernel_rfl) ?_ _
      go_wp2_with fail
      go_meet
      exact ⟨_, _, F6, rfl, H6.out, A6'.out⟩
    · go_simp
      refine hK.out _ _ (by first | exact c4 | exact K4.out | exact K5.out | exact K6.out | exact KB.out) (fun hHeld => ?_)
      replace hH := Lib.hid hHeld
      clear hK K hHeld
      try simp only [Act.put, sA, sB, sC]
      refine rdy (i := 1) (oi := ⟨some 35, .call ⟨.value (.func 40), #[.tmp 34], #[53]⟩, 53, "ref.go:61", #[⟨0, .data⟩], none⟩) (fun K hK => ?_)
      go_simp
      first
      | (refine (copy_any _ 8 _ _ HSTD.out (by decide)).mono ?_; rintro x wc ⟨vc, Fc, rfl, hc, ac⟩; obtain ⟨Ac, cc, rfl, _, _⟩ := hc.form0; have HCS := Lib.hid (hc.lup1 (.cells #[.int .u8 ((flg f g : Nat) : Int), .int .u8 (m : Int)] 5)); have HCA := Lib.hid (Adv.of_drew (ac.alloc (.cells #[.int .u8 ((flg f g : Nat) : Int), .int .u8 (m : Int)] 5))); have HOW := Lib.hid HCS.out.own; have HSRC := Lib.hid (two_new wc (flg f g) m); have K4 := Lib.hid ((HB1.out.keep (ac.block b HB1.out.lt (fun h => h))).cell 4); have K5 := Lib.hid ((HB1.out.keep (HCA.out.block b HB1.out.lt (fun h => h))).cell 4); clear hc ac)
      | (refine (copy_any _ 8 _ _ HSTE.out (by decide)).mono ?_; rintro x wc ⟨vc, Fc, rfl, hc, ac⟩; obtain ⟨Ac, cc, rfl, _, _⟩ := hc.form0; have HCS := Lib.hid hc; have HCA := Lib.hid (HAB.out.over' ac); have HOW := Lib.hid HCS.out.own; have HSRC := Lib.hid ((two_new w1.drew (flg f g) m).far (fun _ _ _ h => ac.block _ h (fun h => h)) ac.size); have K4 := Lib.hid ((HB1.out.keep (HCA.out.block b HB1.out.lt (fun h => h))).cell 4); have K5 := K4; clear hc ac)
      go_wp2_with fail
      refine hK.out _ _ (by first | exact c4 | exact K4.out | exact K5.out | exact K6.out | exact KB.out) (fun hHeld => ?_)
      replace hH := Lib.hid hHeld
      clear hK K hHeld
      try simp only [Act.put, sA, sB, sC]
      refine rdy (i := 8) (oi := ⟨some 42, .call ⟨.builtin .append, #[.tmp 35, .tmp 41], #[53, 53]⟩, 53, "ref.go:61", #[⟨1, .data⟩, ⟨7, .data⟩, ⟨1, .chain⟩], none⟩) (fun K hK => ?_)
      refine step_append_rd rfl (.tmp 35) (.tmp 41) rfl rfl rfl HOW.out HSRC.out (u8_one _) (by decide) ?_
      intro v6 w6 hown hg hat
      obtain ⟨F6, h6, a6⟩ := grow_rd HCS.out HCA.out hown hg hat (Nat.le_refl _)
      obtain ⟨A6, c6, rfl, _, _⟩ := h6.form0
      have H6 := Lib.hid h6
      have A6' := Lib.hid a6
      have K6 := Lib.hid (((HB1.out).keep (a6.block b HB1.out.lt (fun h => h))).cell 4)
      clear hown hg hat h6 a6
      refine hK.out _ _ (by first | exact c4 | exact K4.out | exact K5.out | exact K6.out | exact KB.out) (fun hHeld => ?_)
      replace hH := Lib.hid hHeld
      clear hK K hHeld
      try simp only [Act.put, sA, sB, sC]
      refine tk (i := 9) (oi := ⟨some 6, .assign (.tmp 42), 53, "ref.go:61", #[⟨8, .data⟩, ⟨8, .chain⟩, ⟨0, .phase⟩, ⟨1, .phase⟩, ⟨2, .phase⟩, ⟨3, .phase⟩, ⟨4, .phase⟩, ⟨5, .phase⟩, ⟨6, .phase⟩, ⟨7, .phase⟩, ⟨8, .phase⟩], none⟩) hH.out (by rintro w s0; go_simp <;> with_reducible rfl) ?_
      simp only [Act.put, sA, sB, sC]
      refine wpAnyH_done (by kernel_rfl) ?_ _
      go_wp2_with fail
      go_meet
      exact ⟨_, _, F6, rfl, H6.out, A6'.out⟩
  case rest =>
  obtain ⟨a6, k6, F6, rfl, h6, a6'⟩ := hcut
  have c4 := (HB1.out.keep (a6'.block b HB1.out.lt (fun h => h))).cell 4
  have HV6 := Lib.hid (HV1.out.far (fun _ _ _ h => a6'.block _ h (fun h => h)) a6'.size)
  have H6 := Lib.hid h6
  have A6 := Lib.hid a6'
  have H10 := Lib.hid (show 10 + m ≤ 1000000000 by have := HM.out; omega)
  clear h6 a6' c2 c3
  go_wp2_with (first
    | (at_builtin; refine wpList_append_rd rfl (.tmp 43) (.tmp 45) rfl rfl rfl H6.out.own HV6.out (u8_one _) H10.out ?_; intro v7 w7 hown hg hat; obtain ⟨F7, h7, a7⟩ := grow_rd H6.out A6.out hown hg hat (Nat.le_refl _); obtain ⟨A7, c7, rfl, _, _⟩ := h7.form0; have H7 := Lib.hid h7; have A7' := Lib.hid a7; clear hown hg hat h7 a7)
    | fail)
  obtain ⟨X, hX⟩ : ∃ X, X = (be 8 (stamp e n) ++ [flg f g, m]) ++ d := ⟨_, rfl⟩
  have hXl : X.length = 10 + m := by rw [hX, HMM.out]; simp [be_length]; omega
  have h7x := H7.out
  rw [← List.map_append, ← hX] at h7x
  have HXL := Lib.hid hXl
  have HX := Lib.hid hX
  have H7X := Lib.hid h7x
  clear hX hXl h7x H7
  go_loopw [6] (FillRel w1 X 116) (fun t _ => 116 - lenOf' t)
  case atStart => exact ⟨10 + m, F7, by rw [HXL.out]; exact Nat.le_refl _, by have := HM.out; omega, by rw [HXL.out, Nat.sub_self, List.replicate_zero, List.append_nil]; exact H7X.out, A7'.out⟩
  case round =>
    obtain ⟨k, F, hlo, hk, hS, hA⟩ := hrel
    obtain ⟨a5, c5, rfl, _, _⟩ := hS.form0
    have hown := hS.own
    have HSS := Lib.hid hS
    have HAA := Lib.hid hA
    have HLO := Lib.hid hlo
    clear hS hA hlo
    by_cases hlt : k < 116
    · have hki : (k : Int) < 116 := by omega
      have HLT := Lib.hid hlt
      clear hlt hk
      go_wp2_with (first
        | (at_builtin; refine wpList_append_own_at _ rfl (.tmp 50) (.tmp 51) 53 rfl 0 5 i0 (.int .u8 0) 1 1 Tryz.underlying53 hi hz0 hz1 hz2 rfl (by decide) (.slice a5 k c5) k _ rfl (hown.alloc _) ⟨wr.heap.size, 0, none⟩ 1 1 [_] rfl rfl (cell_one_new _ _ _) ?d2 ?d3 ?d4 (Nat.zero_le _) ?d5)
        | fail)
      case d2 => first | rfl | (intro u hu; simp at hu; subst hu; rfl)
      case d3 => have := HLT.out; unfold maxLen; omega
      case d4 => have := HLT.out; omega
      case d5 =>
        intro v' w2 hown1 hg1 _ hat1
        obtain ⟨h1, h2⟩ := one_grown HSS.out HAA.out hown1 hg1 hat1 (by omega)
        obtain ⟨a8, c8, rfl, _, _⟩ := h1.form0
        have H1 := Lib.hid h1
        have H2 := Lib.hid h2
        clear h1 h2 hown1 hg1 hat1 hown
        go_wp2
        have hlt := HLT.out
        refine ⟨⟨k + 1, _, by have := HLO.out; omega, by omega, ?_, H2.out⟩, by simp [lenOf']; omega⟩
        have e := HLO.out
        rw [show k + 1 - X.length = (k - X.length) + 1 by omega, List.replicate_succ']
        simp only [List.map_append, List.map_replicate, List.map_cons, List.map_nil]
        have h := H1.out
        try simp only [List.map_append, List.map_replicate, List.append_assoc] at h
        try simp only [List.append_assoc]
        exact h
    · obtain rfl : k = 116 := by omega
      have hfr : X ++ List.replicate (116 - X.length) 0 = front ⟨e, n, f, g, d⟩ := by
        rw [HXL.out, HX.out, show 116 - (10 + m) = 106 - d.length by have := HMM.out; omega, HMM.out]
        simp [front]
      have hS := HSS.out
      rw [hfr] at hS
      obtain ⟨Y, hY⟩ : ∃ Y, Y = front ⟨e, n, f, g, d⟩ := ⟨_, rfl⟩
      have hYl : Y.length = 116 := by rw [hY]; exact front_length (by rw [← HMM.out]; exact HM.out)
      have hY2 : ∀ x ∈ Y, x < 256 := by rw [hY]; exact front_lt (by rw [← HMM.out]; exact HM.out) HD.out
      rw [← hY] at hS
      have hrd := hS.rdl hYl.symm
      obtain ⟨y, hy⟩ : ∃ y, y = fnum (fsum (fof 0) Y) := ⟨_, rfl⟩
      have hyl : y < 4294967296 := by rw [hy]; exact fnum_lt _ (fsum_ok _ _ (fof_ok 0))
      have hyI : (y : Int) < 4294967296 := by omega
      have HY := Lib.hid hY
      have HYL := Lib.hid hYl
      have HY2 := Lib.hid hY2
      have HRD := Lib.hid hrd
      have HYE := Lib.hid hy
      have HYB := Lib.hid hyl
      have HSY := Lib.hid hS
      clear hfr hS hY hYl hY2 hrd hy hyl hown hlt hk HSS
      go_wp2_with fail
      refine (radd_any 0 _ Y _ (by decide) HRD.out HY2.out).mono ?_
      rintro x w2 ⟨rfl, rfl⟩
      rw [← HYE.out]
      go_wp2_with fail
      refine (rnumber_any y 4 _ (by have := HYB.out; omega) (by decide) (by decide)).mono ?_
      rintro x w2 ⟨v2, F2, rfl, h2, b2⟩
      obtain ⟨a2, c2, rfl, _, _⟩ := h2.form0
      have hSY2 := HSY.out.far b2 (fun _ h _ => h)
      have hAA2 := HAA.out.over b2
      have hST2 := (HS.out.far HAA.out (fun _ h _ => h)).far b2 (fun _ h _ => h)
      have H2 := Lib.hid h2
      have HSY2 := Lib.hid hSY2
      have HAA2 := Lib.hid hAA2
      have HST2 := Lib.hid hST2
      clear h2 b2 hSY2 hAA2 hST2
      go_wp2_with (first
        | (at_builtin; refine wpList_append_rd rfl (.tmp 53) (.tmp 57) rfl rfl rfl HSY2.out.own H2.out.rd (u8_one _) (by decide) ?_; intro v3 w3 hown hg hat; obtain ⟨F3, h3, a3⟩ := grow_rd HSY2.out HAA2.out hown hg hat (Nat.le_refl _); have b3 := (own_grown HSY2.out HAA2.out hown hg hat (Nat.le_refl _)).2.1; obtain ⟨A3, c3, rfl, _, _⟩ := h3.form0; have H3 := Lib.hid h3; have A3' := Lib.hid a3; have HST3 := Lib.hid (HST2.out.rd.adv' b3 (HAA2.out.sep_of HS.out)); clear hown hg hat h3 a3 b3)
        | (at_builtin; refine wpList_append_rd rfl (.tmp 59) (.tmp 60) rfl rfl rfl H3.out.own HST3.out (u8_one _) (by decide) ?_; intro v4 w4 hown hg hat; obtain ⟨F4, h4, a4⟩ := grow_rd H3.out A3'.out hown hg hat (Nat.le_refl _); obtain ⟨A4, c4, rfl, _, _⟩ := h4.form0; have H4 := Lib.hid h4; have A4' := Lib.hid a4; clear hown hg hat h4 a4)
        | fail)
      go_ret2
      have h := H4.out
      have e9 := sealed (e := e) (n := n) (f := f) (g := g) (d := d) (Y := Y) (y := y) HY.out (by rw [HYE.out, fof_zero, HY.out])
      rw [e9] at h
      have hA := HAS.out.trans (A4'.out.weak (fun _ h => h.elim))
      first
        | exact ⟨_, _, rfl, h, hA⟩
        | exact ⟨_, rfl, _, h, hA⟩
end Go.Proofs.YtbdjlmdbnoghnaaGreat
namespace Go.Proofs.YtbdjlmdbnoghnaaGreat
open Go.RowKit

theorem Blk.lsetCells {g : Nat} {t : TypeId} : ∀ (vs : List Value) (o : Nat) (w : World) (cs : Array Value), Blk w g t cs → ∃ cs', Blk (w.setCells g o vs) g t cs' ∧ cs'.size = cs.size
  | [], _, _, cs, h => ⟨cs, h, rfl⟩
  | v :: r, o, w, cs, h => by
    rw [World.setCells]
    obtain ⟨cs', h1, h2⟩ := Blk.lsetCells r (o + 1) _ _ (h.set_ o v)
    exact ⟨cs', h1, by rw [h2]; simp⟩


theorem Blk.putAll {w : World} {g : Nat} {t : TypeId} {C D : Array Value} (h : Blk w g t C) (hs : D.size = C.size) : Blk (w.setCells g 0 D.toList) g t D := by
  obtain ⟨C', h1, h2⟩ := Blk.lsetCells D.toList 0 w C h
  have e : C' = D := by
    apply Array.ext (by omega)
    intro k hk1 hk2
    have hin := World.cell?_setCells_in g D.toList 0 w (fun j hj => by
      rw [h.cell (0 + j), Nat.zero_add, Array.getElem?_eq_getElem (by simp at hj; omega)]; rfl) k (by simpa using hk2)
    rw [Nat.zero_add, h1.cell k, Array.getElem?_eq_getElem hk1] at hin
    simpa using hin
  rw [← e]; rw [e] at h1 ⊢; exact h1
theorem Blk.five {w : World} {b : Nat} {t : TypeId} {a0 a1 a2 a3 a4 : Value} (h : Blk w b t #[a0, a1, a2, a3, a4]) : w.cell? ⟨b, 0, none⟩ = some a0 ∧ w.cell? ⟨b, 1, none⟩ = some a1 ∧ w.cell? ⟨b, 2, none⟩ = some a2 ∧ w.cell? ⟨b, 3, none⟩ = some a3 ∧ w.cell? ⟨b, 4, none⟩ = some a4 :=
  ⟨h.cell 0, h.cell 1, h.cell 2, h.cell 3, h.cell 4⟩
theorem Blk.there {w : World} {g : Nat} {t : TypeId} {C : Array Value} (h : Blk w g t C) : w.there g 0 C.size := fun j hj =>
  ⟨by rw [h.cell (0 + j), Nat.zero_add, Array.getElem?_eq_getElem hj]; rfl, h.frozen (0 + j)⟩
theorem sizePiece : (Tryz.prog.info? 96).map (·.size) = some 5 := by kernel_rfl
theorem sizeRPiece : (Tryz.prog.info? 87).map (·.size) = some 5 := by kernel_rfl
def pc5 (e c : Int) (f g : Bool) (v : Value) : Array Value := #[.int .u64 e, .int .u64 c, .bool f, .bool g, v]
theorem pc5_one (e c : Int) (f g : Bool) (A : Option Addr) (m k : Nat) : (pc5 e c f g (.slice A m k)).all (·.oneCell') = true := by simp [pc5, Value.oneCell']
theorem st_store5 {ops : Array Oper} {o : Oper} {a : Act} {w : World} {Q : Exit → Act → World → Prop} {K : Act → World → Prop} {E : Prop} {t t' : TypeId} (hsz : (Tryz.prog.info? t).map (·.size) = some 5) (hgd : o.guard = none) (x y : Operand) (ho : o.op = .store t x y)
    (z : Nat) (C D : Array Value) (hB : Blk w z t' C) (hC : C.size = 5) (hD : D.size = 5) (h1 : D.all (·.oneCell') = true) (hx : a.eval x = .pointer (some ⟨z, 0, none⟩)) (hy : a.eval y = .agg D)
    (h : K (a.put o.dst undef) (w.setCells z 0 D.toList)) : if Region.wanted o (yielded ops a.tmps) = true then Oper.wp Tryz.prog o a w K Q else E := by
  rw [if_pos (by simp [Region.wanted, hgd])]
  refine wp_store_mid t x y ho z 0 D hx hy ?_ (by rw [hsz, hD]) h1 h
  have := hB.there
  rw [hC] at this
  rw [hD]; exact this
end Go.Proofs.YtbdjlmdbnoghnaaGreat
namespace Go.Proofs.YtbdjlmdbnoghnaaGreat
open Go.RowKit

theorem Rd.sub {w : World} {b o n c : Nat} {l : List Nat} (h : Rd w 1 (.slice (some ⟨b, o, none⟩) n c) n (l.map u8)) (s m c' : Nat) (hs : s + m ≤ n) (hc : m ≤ c') (hc' : c' ≤ maxLen) : Rd w 1 (.slice (some ⟨b, o + s, none⟩) m c') m (((l.drop s).take m).map u8) := by
  have hl : l.length = n := by obtain ⟨_, _, _, _, _, h, _⟩ := h; simpa using h
  refine ⟨_, c', rfl, hc, hc', by simp; omega, fun e => (by cases e), fun h0 => ?_⟩
  obtain ⟨b', o', e, hb, hcell⟩ := h.cells (by omega) (by decide)
  injection e with e
  injection e with e1 e2
  subst e1 e2
  refine ⟨_, rfl, hb, fun j u hu => ?_⟩
  rw [List.map_take, List.getElem?_take] at hu
  split at hu
  · rw [add_none, Nat.add_assoc]
    exact hcell (s + j) u (by rw [List.map_drop, List.getElem?_drop] at hu; exact hu)
  · cases hu
theorem Rd.drew {w : World} {v : Value} {n : Nat} {xs : List Value} (h : Rd w 1 v n xs) : Rd w.drew 1 v n xs := h
theorem Rd.len8 {w : World} {v : Value} {n : Nat} {l : List Nat} (h : Rd w 1 v n (l.map u8)) : l.length = n := by obtain ⟨_, _, _, _, _, h, _⟩ := h; simpa using h
theorem Rd.adr {w : World} {v : Value} {n : Nat} {l : List Nat} (h : Rd w 1 v n (l.map u8)) (hn : 0 < n) : ∃ b o c, v = .slice (some ⟨b, o, none⟩) n c ∧ b < w.heap.size ∧ n ≤ c ∧ c ≤ maxLen := by
  obtain ⟨A, c, rfl, h1, h2⟩ := h.form
  obtain ⟨b, o, rfl, hb, _⟩ := h.cells hn (by decide)
  exact ⟨b, o, c, rfl, hb, h1, h2⟩
theorem Rd.at8 {w : World} {b o n c : Nat} {l : List Nat} (h : Rd w 1 (.slice (some ⟨b, o, none⟩) n c) n (l.map u8)) {k : Nat} (hk : k < n) : w.cell? ⟨b, o + k, none⟩ = some (.int .u8 ((l.getD k 0 : Nat) : Int)) := by
  have hl := h.len8
  obtain ⟨b', o', e, hb, hcell⟩ := h.cells (by omega) (by decide)
  injection e with e
  injection e with e1 e2
  subst e1 e2
  rw [hcell k (u8 (l.getD k 0)) (by rw [List.getElem?_map, List.getD_eq_getElem?_getD, List.getElem?_eq_getElem (by omega)]; rfl)]
  rfl

set_option maxRecDepth 3000 in
set_option maxHeartbeats 800000 in
theorem ends_any (v : Value) (l : List Nat) (w : World) (h : Rd w 1 v 128 (l.map u8)) (hl : ∀ x ∈ l, x < 256) :
    Calls Tryz.prog 64 #[v] w fun x w' => x = .returned (.tuple #[.int .u64 ((val (l.take 8) / 1099511627776 : Nat) : Int), .int .u64 ((val (l.drop 120) / 1099511627776 : Nat) : Int)]) ∧ ∃ k, w' = w.drewN k := by
  have hll := h.len8
  obtain ⟨b, o, c, rfl, _, hnc, hcm⟩ := h.adr (by decide)
  have h1 := h.sub 0 8 c (by decide) (by omega) hcm
  have h2 := h.sub 120 8 (c - 120) (by decide) (by omega) (by omega)
  rw [Nat.add_zero, List.drop_zero] at h1
  rw [List.take_of_length_le (by simp; omega)] at h2
  unfold maxLen at hcm
  have H1 := Lib.hid h1
  have H2 := Lib.hid h2
  have L1 := Lib.hid (show ∀ x ∈ l.take 8, x < 256 from fun x hx => hl x (List.mem_of_mem_take hx))
  have L2 := Lib.hid (show ∀ x ∈ l.drop 120, x < 256 from fun x hx => hl x (List.mem_of_mem_drop hx))
  have hc120 : (120 : Int) ≤ (c : Int) := by omega
  have hc8 : (8 : Int) ≤ (c : Int) := by omega
  have hc1 : (128 : Int) ≤ (c : Int) := by omega
  have hcn : ¬ c = 120 := by omega
  clear h hl hll h1 h2 hnc
  obtain ⟨a, ha⟩ : ∃ a, a = val (l.take 8) := ⟨_, rfl⟩
  obtain ⟨d, hd⟩ : ∃ d, d = val (l.drop 120) := ⟨_, rfl⟩
  have HA := Lib.hid ha
  have HD := Lib.hid hd
  rw [← ha, ← hd]
  clear ha hd
  go_enter Tryz.func64, Tryz.ntmps64
  go_wp2_with fail
  refine rstart (S := (fun _ => True)) (by first | trivial) (fun hH => ?_)
  refine tk (i := 0) (oi := ⟨some 7, .move (.tmp 0), 53, "lap.go:104", #[], none⟩) hH.out (by rintro w _; go_simp <;> with_reducible rfl) ?_
  simp only [Act.put, sA, sB, sC]
  refine tk (i := 1) (oi := ⟨some 8, .slice 53 (.tmp 7) none (some (.const (Go.Value.int Go.IntKind.i64 8))) none, 53, "lap.go:104", #[⟨0, .data⟩], none⟩) hH.out (by rintro w _; go_simp <;> with_reducible rfl) ?_
  simp only [Act.put, sA, sB, sC]
  refine tk (i := 4) (oi := ⟨some 11, .move (.tmp 0), 53, "lap.go:104", #[], none⟩) hH.out (by rintro w _; go_simp <;> with_reducible rfl) ?_
  simp only [Act.put, sA, sB, sC]
  refine tk (i := 5) (oi := ⟨some 12, .slice 53 (.tmp 11) (some (.const (Go.Value.int Go.IntKind.i64 120))) none none, 53, "lap.go:104", #[⟨4, .data⟩], none⟩) hH.out (by rintro w _; go_simp <;> with_reducible rfl) ?_
  simp only [Act.put, sA, sB, sC]
  refine rdy (i := 2) (oi := ⟨some 9, .call ⟨.value (.func 93), #[.tmp 8], #[53]⟩, 49, "lap.go:104", #[⟨1, .data⟩], none⟩) (fun K hK => ?_)
  go_simp
  refine (number_any _ 8 _ _ H1.out.drew (by decide) L1.out).mono ?_
  rintro x w1 ⟨rfl, rfl⟩
  rw [← HA.out]
  go_wp2_with fail
  refine hK.out _ _ (by first | trivial) (fun hHeld => ?_)
  replace hH := Lib.hid hHeld
  clear hK K hHeld
  try simp only [Act.put, sA, sB, sC]
  refine rdy (i := 3) (oi := ⟨some 10, .call ⟨.value (.func 92), #[.tmp 9], #[49]⟩, 49, "lap.go:104", #[⟨2, .data⟩, ⟨2, .chain⟩], none⟩) (fun K hK => ?_)
  go_simp
  refine (epoch_any a _).mono ?_
  rintro x w1 ⟨rfl, rfl⟩
  go_wp2_with fail
  refine hK.out _ _ (by first | trivial) (fun hHeld => ?_)
  replace hH := Lib.hid hHeld
  clear hK K hHeld
  try simp only [Act.put, sA, sB, sC]
  refine rdy (i := 6) (oi := ⟨some 13, .call ⟨.value (.func 93), #[.tmp 12], #[53]⟩, 49, "lap.go:104", #[⟨5, .data⟩, ⟨3, .chain⟩], none⟩) (fun K hK => ?_)
  go_simp
  refine (number_any _ 8 _ _ H2.out.drew (by decide) L2.out).mono ?_
  rintro x w1 ⟨rfl, rfl⟩
  rw [← HD.out]
  go_wp2_with fail
  refine hK.out _ _ (by first | trivial) (fun hHeld => ?_)
  replace hH := Lib.hid hHeld
  clear hK K hHeld
  try simp only [Act.put, sA, sB, sC]
  refine rdy (i := 7) (oi := ⟨some 14, .call ⟨.value (.func 92), #[.tmp 13], #[49]⟩, 49, "lap.go:104", #[⟨6, .data⟩, ⟨6, .chain⟩], none⟩) (fun K hK => ?_)
  go_simp
  refine (epoch_any d _).mono ?_
  rintro x w1 ⟨rfl, rfl⟩
  go_wp2_with fail
  refine hK.out _ _ (by first | trivial) (fun hHeld => ?_)
  replace hH := Lib.hid hHeld
  clear hK K hHeld
  try simp only [Act.put, sA, sB, sC]
  refine tk (i := 8) (oi := ⟨some 2, .assign (.tmp 10), 49, "lap.go:104", #[⟨3, .data⟩, ⟨7, .chain⟩, ⟨0, .phase⟩, ⟨1, .phase⟩, ⟨2, .phase⟩, ⟨3, .phase⟩, { on := 4, ground := Go.Ground.textOnly Go.Departure.lateStores }, { on := 5, ground := Go.Ground.textOnly Go.Departure.lateStoresUnsure }, { on := 6, ground := Go.Ground.textOnly Go.Departure.lateStoresUnsure }, { on := 7, ground := Go.Ground.textOnly Go.Departure.lateStoresUnsure }], none⟩) hH.out (by rintro w _; go_simp <;> with_reducible rfl) ?_
  simp only [Act.put, sA, sB, sC]
  refine tk (i := 9) (oi := ⟨some 3, .assign (.tmp 14), 49, "lap.go:104", #[⟨7, .data⟩, ⟨8, .chain⟩, ⟨0, .phase⟩, ⟨1, .phase⟩, ⟨2, .phase⟩, ⟨3, .phase⟩, ⟨4, .phase⟩, ⟨5, .phase⟩, ⟨6, .phase⟩, ⟨7, .phase⟩, ⟨8, .phase⟩], none⟩) hH.out (by rintro w _; go_simp <;> with_reducible rfl) ?_
  simp only [Act.put, sA, sB, sC]
  refine wpAnyH_done (by kernel_rfl) ?_ _
  go_wp2_with fail
  go_ret2
  exact ⟨rfl, 1, rfl⟩
end Go.Proofs.YtbdjlmdbnoghnaaGreat
