/- MsgSame, walked. (Made by mkmsq.py.) -/
import Derived.Test.YtpgeebhepegpaaaMsO
import Derived.Test.YtpgeebhepegpaaaMsH
namespace Go.Proofs.Ytpgeebhepegpaaa
open Go.ChangeShapes Go.WideShapes Go.ChangeAt Go.RowKit

set_option maxRecDepth 3000 in
theorem EnO.put2 {w V wr w1 w2 : World} {l : List En} {v : Value} {z y : Nat} (h : EnO V l v wr) (hV : Adv Nul w Nul V) (hz : w.heap.size ≤ z) (hzV : z < V.heap.size) (hy : w.heap.size ≤ y) (hyV : y < V.heap.size) (k1 : Adv (One z) wr (One z) w1) (k2 : Adv (One y) w1 (One y) w2) : EnO w l v w2 :=
  (h.putz hV hz hzV k1).far1 hy (fun j hj e => by have := h.new_ j hj; omega) k2
set_option maxRecDepth 3000 in
theorem kst_loadM {ops : Array Oper} {o : Oper} {a : Act} {w : World} {K : Act → World → Prop} {Q : Exit → Act → World → Prop} {E : Prop} {t t' : TypeId} {C : Array Value} {n : Nat} {d : TypeDesc} (hgd : o.guard = none) (x : Operand) (ho : o.op = .load t x) (z : Nat) (hB : Blk w z t' C) (hx : a.eval x = .pointer (some ⟨z, 0, none⟩))
    (hu : Try.prog.underlying t = some d) (hd : d.isRow = true) (hs : (Try.prog.info? t).map (·.size) = some n) (hC : C.size = n) (h : K (a.put o.dst (.agg C)) w) : if Region.wanted o (yielded ops a.tmps) = true then Oper.wp Try.prog o a w K Q else E := by
  have hw : Region.wanted o (yielded ops a.tmps) = true := by simp [Region.wanted, hgd]
  rw [if_pos hw]
  rcases kyl_load (S := fun w' => w' = w) hw x ho z hx (fun w' e => by rw [e]; exact hB) hu hd hs hC with ⟨_, h1⟩ | ⟨h2, _⟩
  · unfold Oper.wp
    rw [h1 w rfl]
    exact h
  · rw [hw] at h2; cases h2
set_option maxRecDepth 3000 in
theorem yl_same {ops : Array Oper} {S : World → Prop} {o : Oper} {a : Act} {ty : TypeId} {X : Bool} (hw : Region.wanted o (yielded ops a.tmps) = true) (x y : Operand) (ho : o.op = .binOp .eql 4 x y ty) (hx : a.eval x = .bool X) (hy : a.eval y = .bool X) : YieldsIf Try.prog ops S o (.bool true) a := .inl ⟨hw, fun w _ => by
  unfold execOp
  simp only [ho, hx, hy]
  cases X <;> go_simp⟩
/-- both short, in their boxes -/
def ShS (w : World) (z y : Nat) (sa sb : Ms) (wx : World) : Prop := ∃ Aa na ca Ab nb cb, Blk wx z 28 (mc sa (.slice Aa na ca)) ∧ Blk wx y 28 (mc sb (.slice Ab nb cb)) ∧ EnR7 wx (.slice Aa na ca) sa.en ∧ EnR7 wx (.slice Ab nb cb) sb.en ∧ Adv Nul w Nul wx
set_option maxRecDepth 3000 in
set_option maxHeartbeats 6400000 in
theorem same16_walk (w : World) (v0 : Value) (h0 : MArg w v0) (v1 : Value) (h1 : MArg w v1) : Calls Try.prog 4 #[v0, v1] w fun e w' => e = .returned (.bool true) ∧ Below w.heap.size w w' := by
  obtain ⟨ma, va, rfl, hma, hEa⟩ := h0
  obtain ⟨mb, vb, rfl, hmb, hEb⟩ := h1
  obtain ⟨sa, hsa⟩ : ∃ s, s = shM ma := ⟨_, rfl⟩
  obtain ⟨sb, hsb⟩ : ∃ s, s = shM mb := ⟨_, rfl⟩
  have hwa : WfM sa := by rw [hsa]; exact hma.short
  have HS1 := Lib.hid (fun (w' : World) (a : Adv Nul w Nul w') => short_s hsa va hma w' (hEa.step a))
  have HS2 := Lib.hid (fun (w' : World) (a : Adv Nul w Nul w') => short_s hsb vb hmb w' (hEb.step a))
  have HS3A := Lib.hid (fun v w' => short_again hsa hwa v w')
  have HLV := Lib.hid (fun w => lives16_any w)
  obtain ⟨Ca, hCa⟩ : ∃ C, C = mc ma va := ⟨_, rfl⟩
  obtain ⟨Cb, hCb⟩ : ∃ C, C = mc mb vb := ⟨_, rfl⟩
  have HCaS := Lib.hid (show Ca.size = 18 by rw [hCa]; rfl)
  have HCbS := Lib.hid (show Cb.size = 18 by rw [hCb]; rfl)
  rw [← hCa] at HS1 ⊢
  rw [← hCb] at HS2 ⊢
  clear hCa hCb hma hmb hEa hEb hsa hsb hwa
  go_enter Try.func4, Try.ntmps4
  go_upto_region 1 with (first
    | (refine kop_box rfl _ rfl rfl ?_; intro z w1 hz hb ha; have HA1 := Lib.hid ((Adv.refl Nul w).trans ha); have HZW := Lib.hid hz; have HB1 := Lib.hid hb; clear hz hb ha)
    | (refine kop_box rfl _ rfl rfl ?_; intro y w2 hz hb ha; have HA2 := Lib.hid (HA1.out.trans ha); have HYW := Lib.hid (Nat.le_trans HA1.out.size hz); have HY2 := Lib.hid hb; have HZ2 := Lib.hid (HB1.out.over ha); have HZY := Lib.hid (show z ≠ y from fun e => by have := HB1.out.lt; omega); clear hz hb ha HB1)
    | fail)
  try simp only [Act.put, sA, sB, sC]
  go_cut [8] (fun t wx => ShS w z y sa sb wx)
  case first =>
    as_aux_lemma =>
    have HA0 := Lib.hid HA2.out.drew
    have HZ0 := Lib.hid (show Blk w2.drew z 28 Ca from HZ2.out)
    have HY0 := Lib.hid (show Blk w2.drew y 28 Cb from HY2.out)
    clear HA1 HA2 HZ2 HY2
    refine rstart (S := (fun _ => True)) (by first | exact True.intro) (fun hH => ?_)
    refine wpAnyH_ready (rs := [0, 2]) (by kernel_rfl) (by simp) ?_
    refine AllReadyH.cons (o := ⟨some 5, .load 28 (.tmp 2), 28, "law.go:49", #[], none⟩) rfl (fun K hK => ?_) (AllReadyH.cons (o := ⟨some 7, .load 28 (.tmp 3), 28, "law.go:49", #[], none⟩) rfl (fun K hK => ?_) (AllReadyH.nil))
    · refine kst_loadM rfl _ rfl z HZ0.out rfl Try.underlying28 rfl sizeM HCaS.out ?_
      refine hK.out _ _ (by first | exact True.intro) (fun hHeld => ?_)
      replace hH := Lib.hid hHeld
      clear hK K hHeld
      try simp only [Act.put, sA, sB, sC]
      refine wpAnyH_ready (rs := [1, 2]) (by kernel_rfl) (by simp) ?_
      refine AllReadyH.cons (o := ⟨some 6, .call ⟨.value (.func 11), #[.tmp 5], #[28]⟩, 28, "law.go:49", #[⟨0, .data⟩], none⟩) rfl (fun K hK => ?_) (AllReadyH.cons (o := ⟨some 7, .load 28 (.tmp 3), 28, "law.go:49", #[], none⟩) rfl (fun K hK => ?_) (AllReadyH.nil))
      · go_simp
        refine (HS1.out _ HA0.out).mono ?_
        rintro x wa ⟨Aa, na, ca, rfl, he⟩
        have HEa := Lib.hid he
        have HZa := Lib.hid (HZ0.out.over he.adv)
        have HYa := Lib.hid (HY0.out.over he.adv)
        have HAa := Lib.hid (HA0.out.trans he.adv)
        obtain ⟨C1, hC1⟩ : ∃ C, C = mc sa (.slice Aa na ca) := ⟨_, rfl⟩
        rw [← hC1]
        have HC1 := Lib.hid hC1
        have HC1S := Lib.hid (show C1.size = 18 by rw [hC1]; rfl)
        have HC1O := Lib.hid (show C1.all (·.oneCell') = true by rw [hC1]; exact mc_one _ _ _ _)
        clear hC1
        clear he
        go_wp2_with fail
        refine hK.out _ _ (by first | exact True.intro) (fun hHeld => ?_)
        replace hH := Lib.hid hHeld
        clear hK K hHeld
        try simp only [Act.put, sA, sB, sC]
        refine rdy (i := 2) (oi := ⟨some 7, .load 28 (.tmp 3), 28, "law.go:49", #[], none⟩) (fun K hK => ?_)
        refine kst_loadM rfl _ rfl y HYa.out rfl Try.underlying28 rfl sizeM HCbS.out ?_
        refine hK.out _ _ (by first | exact True.intro) (fun hHeld => ?_)
        replace hH := Lib.hid hHeld
        clear hK K hHeld
        try simp only [Act.put, sA, sB, sC]
        refine rdy (i := 3) (oi := ⟨some 8, .call ⟨.value (.func 11), #[.tmp 7], #[28]⟩, 28, "law.go:49", #[⟨2, .data⟩, ⟨1, .chain⟩], none⟩) (fun K hK => ?_)
        go_simp
        refine (HS2.out _ HAa.out).mono ?_
        rintro x wb ⟨Ab, nb, cb, rfl, he⟩
        have HEb := Lib.hid he
        have HZb := Lib.hid (HZa.out.over he.adv)
        have HYb := Lib.hid (HYa.out.over he.adv)
        have HAb := Lib.hid (HAa.out.trans he.adv)
        have HEb' := Lib.hid (HEa.out.step he.adv)
        obtain ⟨C2, hC2⟩ : ∃ C, C = mc sb (.slice Ab nb cb) := ⟨_, rfl⟩
        rw [← hC2]
        have HC2 := Lib.hid hC2
        have HC2S := Lib.hid (show C2.size = 18 by rw [hC2]; rfl)
        have HC2O := Lib.hid (show C2.all (·.oneCell') = true by rw [hC2]; exact mc_one _ _ _ _)
        clear hC2
        clear he
        go_wp2_with fail
        refine hK.out _ _ (by first | exact True.intro) (fun hHeld => ?_)
        replace hH := Lib.hid hHeld
        clear hK K hHeld
        try simp only [Act.put, sA, sB, sC]
        refine rdy (i := 4) (oi := ⟨none, .store 28 (.tmp 2) (.tmp 6), 0, "law.go:49", #[⟨1, .data⟩, ⟨3, .chain⟩, ⟨0, .phase⟩, ⟨1, .phase⟩, { on := 2, ground := Go.Ground.textOnly Go.Departure.lateStores }, { on := 3, ground := Go.Ground.textOnly Go.Departure.lateStoresUnsure }], none⟩) (fun K hK => ?_)
        refine kst_store rfl _ _ rfl z HZb.out rfl rfl sizeM HC1S.out HCaS.out HC1O.out (fun wc hb ha => ?_)
        have HZc := Lib.hid hb
        have HYc := Lib.hid (HYb.out.far1 ha HZY.out.symm)
        have HAc := Lib.hid (HAb.out.fresh HZW.out ha)
        have HKc := Lib.hid ha
        clear hb ha
        refine hK.out _ _ (by first | exact True.intro) (fun hHeld => ?_)
        replace hH := Lib.hid hHeld
        clear hK K hHeld
        try simp only [Act.put]
        refine rdy (i := 5) (oi := ⟨none, .store 28 (.tmp 3) (.tmp 8), 0, "law.go:49", #[⟨3, .data⟩, ⟨4, .chain⟩, ⟨0, .phase⟩, ⟨1, .phase⟩, ⟨2, .phase⟩, ⟨3, .phase⟩, ⟨4, .phase⟩], none⟩) (fun K hK => ?_)
        refine kst_store rfl _ _ rfl y HYc.out rfl rfl sizeM HC2S.out HCbS.out HC2O.out (fun wd hb ha => ?_)
        have HYd := Lib.hid hb
        have HZd := Lib.hid (HZc.out.far1 ha HZY.out)
        have HAd := Lib.hid (HAc.out.fresh HYW.out ha)
        have HKd := Lib.hid ha
        clear hb ha
        refine hK.out _ _ (by first | exact True.intro) (fun hHeld => ?_)
        replace hH := Lib.hid hHeld
        clear hK K hHeld
        try simp only [Act.put]
        refine wpAnyH_done (by kernel_rfl) ?_ _
        go_wp2_with fail
        go_meet
        exact ⟨Aa, na, ca, Ab, nb, cb, by rw [← HC1.out]; exact HZd.out, by rw [← HC2.out]; exact HYd.out, (HEb'.out.put2 HA0.out HZW.out HZ0.out.lt HYW.out HY0.out.lt HKc.out HKd.out).rd, (HEb.out.put2 HAa.out HZW.out HZa.out.lt HYW.out HYa.out.lt HKc.out HKd.out).rd, HAd.out⟩
      · refine kst_loadM rfl _ rfl y HY0.out rfl Try.underlying28 rfl sizeM HCbS.out ?_
        refine hK.out _ _ (by first | exact True.intro) (fun hHeld => ?_)
        replace hH := Lib.hid hHeld
        clear hK K hHeld
        try simp only [Act.put, sA, sB, sC]
        refine rdy (i := 1) (oi := ⟨some 6, .call ⟨.value (.func 11), #[.tmp 5], #[28]⟩, 28, "law.go:49", #[⟨0, .data⟩], none⟩) (fun K hK => ?_)
        go_simp
        refine (HS1.out _ HA0.out).mono ?_
        rintro x wa ⟨Aa, na, ca, rfl, he⟩
        have HEa := Lib.hid he
        have HZa := Lib.hid (HZ0.out.over he.adv)
        have HYa := Lib.hid (HY0.out.over he.adv)
        have HAa := Lib.hid (HA0.out.trans he.adv)
        obtain ⟨C1, hC1⟩ : ∃ C, C = mc sa (.slice Aa na ca) := ⟨_, rfl⟩
        rw [← hC1]
        have HC1 := Lib.hid hC1
        have HC1S := Lib.hid (show C1.size = 18 by rw [hC1]; rfl)
        have HC1O := Lib.hid (show C1.all (·.oneCell') = true by rw [hC1]; exact mc_one _ _ _ _)
        clear hC1
        clear he
        go_wp2_with fail
        refine hK.out _ _ (by first | exact True.intro) (fun hHeld => ?_)
        replace hH := Lib.hid hHeld
        clear hK K hHeld
        try simp only [Act.put, sA, sB, sC]
        refine rdy (i := 3) (oi := ⟨some 8, .call ⟨.value (.func 11), #[.tmp 7], #[28]⟩, 28, "law.go:49", #[⟨2, .data⟩, ⟨1, .chain⟩], none⟩) (fun K hK => ?_)
        go_simp
        refine (HS2.out _ HAa.out).mono ?_
        rintro x wb ⟨Ab, nb, cb, rfl, he⟩
        have HEb := Lib.hid he
        have HZb := Lib.hid (HZa.out.over he.adv)
        have HYb := Lib.hid (HYa.out.over he.adv)
        have HAb := Lib.hid (HAa.out.trans he.adv)
        have HEb' := Lib.hid (HEa.out.step he.adv)
        obtain ⟨C2, hC2⟩ : ∃ C, C = mc sb (.slice Ab nb cb) := ⟨_, rfl⟩
        rw [← hC2]
        have HC2 := Lib.hid hC2
        have HC2S := Lib.hid (show C2.size = 18 by rw [hC2]; rfl)
        have HC2O := Lib.hid (show C2.all (·.oneCell') = true by rw [hC2]; exact mc_one _ _ _ _)
        clear hC2
        clear he
        go_wp2_with fail
        refine hK.out _ _ (by first | exact True.intro) (fun hHeld => ?_)
        replace hH := Lib.hid hHeld
        clear hK K hHeld
        try simp only [Act.put, sA, sB, sC]
        refine rdy (i := 4) (oi := ⟨none, .store 28 (.tmp 2) (.tmp 6), 0, "law.go:49", #[⟨1, .data⟩, ⟨3, .chain⟩, ⟨0, .phase⟩, ⟨1, .phase⟩, { on := 2, ground := Go.Ground.textOnly Go.Departure.lateStores }, { on := 3, ground := Go.Ground.textOnly Go.Departure.lateStoresUnsure }], none⟩) (fun K hK => ?_)
        refine kst_store rfl _ _ rfl z HZb.out rfl rfl sizeM HC1S.out HCaS.out HC1O.out (fun wc hb ha => ?_)
        have HZc := Lib.hid hb
        have HYc := Lib.hid (HYb.out.far1 ha HZY.out.symm)
        have HAc := Lib.hid (HAb.out.fresh HZW.out ha)
        have HKc := Lib.hid ha
        clear hb ha
        refine hK.out _ _ (by first | exact True.intro) (fun hHeld => ?_)
        replace hH := Lib.hid hHeld
        clear hK K hHeld
        try simp only [Act.put]
        refine rdy (i := 5) (oi := ⟨none, .store 28 (.tmp 3) (.tmp 8), 0, "law.go:49", #[⟨3, .data⟩, ⟨4, .chain⟩, ⟨0, .phase⟩, ⟨1, .phase⟩, ⟨2, .phase⟩, ⟨3, .phase⟩, ⟨4, .phase⟩], none⟩) (fun K hK => ?_)
        refine kst_store rfl _ _ rfl y HYc.out rfl rfl sizeM HC2S.out HCbS.out HC2O.out (fun wd hb ha => ?_)
        have HYd := Lib.hid hb
        have HZd := Lib.hid (HZc.out.far1 ha HZY.out)
        have HAd := Lib.hid (HAc.out.fresh HYW.out ha)
        have HKd := Lib.hid ha
        clear hb ha
        refine hK.out _ _ (by first | exact True.intro) (fun hHeld => ?_)
        replace hH := Lib.hid hHeld
        clear hK K hHeld
        try simp only [Act.put]
        refine wpAnyH_done (by kernel_rfl) ?_ _
        go_wp2_with fail
        go_meet
        exact ⟨Aa, na, ca, Ab, nb, cb, by rw [← HC1.out]; exact HZd.out, by rw [← HC2.out]; exact HYd.out, (HEb'.out.put2 HA0.out HZW.out HZ0.out.lt HYW.out HY0.out.lt HKc.out HKd.out).rd, (HEb.out.put2 HAa.out HZW.out HZa.out.lt HYW.out HYa.out.lt HKc.out HKd.out).rd, HAd.out⟩
    · refine kst_loadM rfl _ rfl y HY0.out rfl Try.underlying28 rfl sizeM HCbS.out ?_
      refine hK.out _ _ (by first | exact True.intro) (fun hHeld => ?_)
      replace hH := Lib.hid hHeld
      clear hK K hHeld
      try simp only [Act.put, sA, sB, sC]
      refine rdy (i := 0) (oi := ⟨some 5, .load 28 (.tmp 2), 28, "law.go:49", #[], none⟩) (fun K hK => ?_)
      refine kst_loadM rfl _ rfl z HZ0.out rfl Try.underlying28 rfl sizeM HCaS.out ?_
      refine hK.out _ _ (by first | exact True.intro) (fun hHeld => ?_)
      replace hH := Lib.hid hHeld
      clear hK K hHeld
      try simp only [Act.put, sA, sB, sC]
      refine rdy (i := 1) (oi := ⟨some 6, .call ⟨.value (.func 11), #[.tmp 5], #[28]⟩, 28, "law.go:49", #[⟨0, .data⟩], none⟩) (fun K hK => ?_)
      go_simp
      refine (HS1.out _ HA0.out).mono ?_
      rintro x wa ⟨Aa, na, ca, rfl, he⟩
      have HEa := Lib.hid he
      have HZa := Lib.hid (HZ0.out.over he.adv)
      have HYa := Lib.hid (HY0.out.over he.adv)
      have HAa := Lib.hid (HA0.out.trans he.adv)
      obtain ⟨C1, hC1⟩ : ∃ C, C = mc sa (.slice Aa na ca) := ⟨_, rfl⟩
      rw [← hC1]
      have HC1 := Lib.hid hC1
      have HC1S := Lib.hid (show C1.size = 18 by rw [hC1]; rfl)
      have HC1O := Lib.hid (show C1.all (·.oneCell') = true by rw [hC1]; exact mc_one _ _ _ _)
      clear hC1
      clear he
      go_wp2_with fail
      refine hK.out _ _ (by first | exact True.intro) (fun hHeld => ?_)
      replace hH := Lib.hid hHeld
      clear hK K hHeld
      try simp only [Act.put, sA, sB, sC]
      refine rdy (i := 3) (oi := ⟨some 8, .call ⟨.value (.func 11), #[.tmp 7], #[28]⟩, 28, "law.go:49", #[⟨2, .data⟩, ⟨1, .chain⟩], none⟩) (fun K hK => ?_)
      go_simp
      refine (HS2.out _ HAa.out).mono ?_
      rintro x wb ⟨Ab, nb, cb, rfl, he⟩
      have HEb := Lib.hid he
      have HZb := Lib.hid (HZa.out.over he.adv)
      have HYb := Lib.hid (HYa.out.over he.adv)
      have HAb := Lib.hid (HAa.out.trans he.adv)
      have HEb' := Lib.hid (HEa.out.step he.adv)
      obtain ⟨C2, hC2⟩ : ∃ C, C = mc sb (.slice Ab nb cb) := ⟨_, rfl⟩
      rw [← hC2]
      have HC2 := Lib.hid hC2
      have HC2S := Lib.hid (show C2.size = 18 by rw [hC2]; rfl)
      have HC2O := Lib.hid (show C2.all (·.oneCell') = true by rw [hC2]; exact mc_one _ _ _ _)
      clear hC2
      clear he
      go_wp2_with fail
      refine hK.out _ _ (by first | exact True.intro) (fun hHeld => ?_)
      replace hH := Lib.hid hHeld
      clear hK K hHeld
      try simp only [Act.put, sA, sB, sC]
      refine rdy (i := 4) (oi := ⟨none, .store 28 (.tmp 2) (.tmp 6), 0, "law.go:49", #[⟨1, .data⟩, ⟨3, .chain⟩, ⟨0, .phase⟩, ⟨1, .phase⟩, { on := 2, ground := Go.Ground.textOnly Go.Departure.lateStores }, { on := 3, ground := Go.Ground.textOnly Go.Departure.lateStoresUnsure }], none⟩) (fun K hK => ?_)
      refine kst_store rfl _ _ rfl z HZb.out rfl rfl sizeM HC1S.out HCaS.out HC1O.out (fun wc hb ha => ?_)
      have HZc := Lib.hid hb
      have HYc := Lib.hid (HYb.out.far1 ha HZY.out.symm)
      have HAc := Lib.hid (HAb.out.fresh HZW.out ha)
      have HKc := Lib.hid ha
      clear hb ha
      refine hK.out _ _ (by first | exact True.intro) (fun hHeld => ?_)
      replace hH := Lib.hid hHeld
      clear hK K hHeld
      try simp only [Act.put]
      refine rdy (i := 5) (oi := ⟨none, .store 28 (.tmp 3) (.tmp 8), 0, "law.go:49", #[⟨3, .data⟩, ⟨4, .chain⟩, ⟨0, .phase⟩, ⟨1, .phase⟩, ⟨2, .phase⟩, ⟨3, .phase⟩, ⟨4, .phase⟩], none⟩) (fun K hK => ?_)
      refine kst_store rfl _ _ rfl y HYc.out rfl rfl sizeM HC2S.out HCbS.out HC2O.out (fun wd hb ha => ?_)
      have HYd := Lib.hid hb
      have HZd := Lib.hid (HZc.out.far1 ha HZY.out)
      have HAd := Lib.hid (HAc.out.fresh HYW.out ha)
      have HKd := Lib.hid ha
      clear hb ha
      refine hK.out _ _ (by first | exact True.intro) (fun hHeld => ?_)
      replace hH := Lib.hid hHeld
      clear hK K hHeld
      try simp only [Act.put]
      refine wpAnyH_done (by kernel_rfl) ?_ _
      go_wp2_with fail
      go_meet
      exact ⟨Aa, na, ca, Ab, nb, cb, by rw [← HC1.out]; exact HZd.out, by rw [← HC2.out]; exact HYd.out, (HEb'.out.put2 HA0.out HZW.out HZ0.out.lt HYW.out HY0.out.lt HKc.out HKd.out).rd, (HEb.out.put2 HAa.out HZW.out HZa.out.lt HYW.out HYa.out.lt HKc.out HKd.out).rd, HAd.out⟩
  case rest =>
  rename_i Kx hKx
  refine hKx _ _ ?_
  clear hKx
  obtain ⟨Aa, na, ca, Ab, nb, cb, hz, hy, ea, eb, ha⟩ := hcut
  obtain ⟨C1, hC1⟩ : ∃ C, C = mc sa (.slice Aa na ca) := ⟨_, rfl⟩
  obtain ⟨C2, hC2⟩ : ∃ C, C = mc sb (.slice Ab nb cb) := ⟨_, rfl⟩
  rw [← hC1] at hz
  rw [← hC2] at hy
  have HC1 := Lib.hid hC1
  have HC2 := Lib.hid hC2
  have HC1S := Lib.hid (show C1.size = 18 by rw [hC1]; rfl)
  have HC2S := Lib.hid (show C2.size = 18 by rw [hC2]; rfl)
  have HBz := Lib.hid hz
  have HBy := Lib.hid hy
  have HEz := Lib.hid ea
  have HEy := Lib.hid eb
  have HAW := Lib.hid ha
  clear hz hy ea eb ha hC1 hC2 HS1 HS2
  obtain ⟨X, hX⟩ : ∃ X, X = sameB sa sb := ⟨_, rfl⟩
  have HSM := Lib.hid (fun w' (a : Adv Nul wc Nul w') => show Calls Try.prog 16 #[.agg C1, .agg C2] w' fun e w'' => e = .returned (.bool X) ∧ Adv Nul w' Nul w'' by rw [HC1.out, HC2.out, hX]; exact msame_any sa sb _ _ w' (HEz.out.step a) (HEy.out.step a))
  have HSQ := Lib.hid (fun w' (a : Adv Nul wc Nul w') => show Calls Try.prog 17 #[.agg C1, .agg C2] w' fun e w'' => e = .returned (.bool X) ∧ Adv Nul w' Nul w'' by rw [HC1.out, HC2.out, hX]; exact qsame16_any sa sb _ _ w' (HEz.out.step a) (HEy.out.step a))
  have HS3 := Lib.hid (fun w' (a : Adv Nul wc Nul w') => show Calls Try.prog 11 #[.agg C1] w' fun e w'' => ∃ A n c, e = .returned (.agg (mc sa (.slice A n c))) ∧ EnO w' sa.en (.slice A n c) w'' by rw [HC1.out]; exact HS3A.out _ _ (HEz.out.step a))
  clear hX HS3A
  go_upto_region 2 with fail
  have HQ0 := Lib.hid ((Adv.refl Nul wc).drew)
  have K0 := Lib.hid (show Blk (World.drew wc) z 28 C1 ∧ Blk (World.drew wc) y 28 C2 from ⟨HBz.out, HBy.out⟩)
  refine rstart (S := (fun w' => Blk w' z 28 C1 ∧ Blk w' y 28 C2)) (by first | with_reducible exact K5.out | with_reducible exact K4.out | with_reducible exact K3.out | with_reducible exact K2.out | with_reducible exact K1.out | with_reducible exact K0.out) (fun hH => ?_)
  refine wpAnyH_take (i := 0) (oi := ⟨some 9, .load 28 (.tmp 2), 28, "law.go:50", #[], none⟩) (v := .agg C1) rfl (by kernel_rfl) (by kernel_rfl) (by kernel_rfl) (fun _ _ _ h => h) (kyl_load rfl (.tmp 2) rfl z rfl (fun _ h => h.1) Try.underlying28 rfl sizeM HC1S.out) hH.out ?_
  simp only [Act.put, sA, sB, sC]
  refine wpAnyH_take (i := 1) (oi := ⟨some 10, .load 28 (.tmp 3), 28, "law.go:50", #[], none⟩) (v := .agg C2) rfl (by kernel_rfl) (by kernel_rfl) (by kernel_rfl) (fun _ _ _ h => h) (kyl_load rfl (.tmp 3) rfl y rfl (fun _ h => h.2) Try.underlying28 rfl sizeM HC2S.out) hH.out ?_
  simp only [Act.put, sA, sB, sC]
  refine wpAnyH_take (i := 3) (oi := ⟨some 12, .load 28 (.tmp 2), 28, "law.go:50", #[], none⟩) (v := .agg C1) rfl (by kernel_rfl) (by kernel_rfl) (by kernel_rfl) (fun _ _ _ h => h) (kyl_load rfl (.tmp 2) rfl z rfl (fun _ h => h.1) Try.underlying28 rfl sizeM HC1S.out) hH.out ?_
  simp only [Act.put, sA, sB, sC]
  refine wpAnyH_take (i := 4) (oi := ⟨some 13, .load 28 (.tmp 3), 28, "law.go:50", #[], none⟩) (v := .agg C2) rfl (by kernel_rfl) (by kernel_rfl) (by kernel_rfl) (fun _ _ _ h => h) (kyl_load rfl (.tmp 3) rfl y rfl (fun _ h => h.2) Try.underlying28 rfl sizeM HC2S.out) hH.out ?_
  simp only [Act.put, sA, sB, sC]
  refine rdy (i := 2) (oi := ⟨some 11, .call ⟨.value (.func 16), #[.tmp 9, .tmp 10], #[28, 28]⟩, 4, "law.go:50", #[⟨0, .data⟩, ⟨1, .data⟩], none⟩) (fun K hK => ?_)
  go_simp
  refine (HSM.out _ HQ0.out).mono ?_
  rintro x q1 ⟨rfl, a9⟩
  have HQ1 := Lib.hid (HQ0.out.trans a9)
  have K1 := Lib.hid (show Blk q1 z 28 C1 ∧ Blk q1 y 28 C2 from ⟨HBz.out.over HQ1.out, HBy.out.over HQ1.out⟩)
  clear a9
  go_wp2_with fail
  refine hK.out _ _ (by first | with_reducible exact K5.out | with_reducible exact K4.out | with_reducible exact K3.out | with_reducible exact K2.out | with_reducible exact K1.out | with_reducible exact K0.out) (fun hHeld => ?_)
  replace hH := Lib.hid hHeld
  clear hK K hHeld
  try simp only [Act.put, sA, sB, sC]
  refine rdy (i := 5) (oi := ⟨some 14, .call ⟨.value (.func 17), #[.tmp 12, .tmp 13], #[28, 28]⟩, 4, "law.go:50", #[⟨3, .data⟩, ⟨4, .data⟩, ⟨2, .chain⟩], none⟩) (fun K hK => ?_)
  go_simp
  refine (HSQ.out _ HQ1.out).mono ?_
  rintro x q2 ⟨rfl, a9⟩
  have HQ2 := Lib.hid (HQ1.out.trans a9)
  have K2 := Lib.hid (show Blk q2 z 28 C1 ∧ Blk q2 y 28 C2 from ⟨HBz.out.over HQ2.out, HBy.out.over HQ2.out⟩)
  clear a9
  go_wp2_with fail
  refine hK.out _ _ (by first | with_reducible exact K5.out | with_reducible exact K4.out | with_reducible exact K3.out | with_reducible exact K2.out | with_reducible exact K1.out | with_reducible exact K0.out) (fun hHeld => ?_)
  replace hH := Lib.hid hHeld
  clear hK K hHeld
  try simp only [Act.put, sA, sB, sC]
  refine wpAnyH_take (i := 6) (oi := ⟨some 15, .binOp .eql 4 (.tmp 11) (.tmp 14) 4, 4, "law.go:50", #[⟨2, .data⟩, ⟨5, .data⟩], none⟩) (v := .bool true) rfl (by kernel_rfl) (by kernel_rfl) (by kernel_rfl) (fun _ _ _ h => h) (yl_same rfl (.tmp 11) (.tmp 14) rfl rfl rfl) hH.out ?_
  simp only [Act.put, sA, sB, sC]
  refine tk (i := 7) (oi := ⟨some 16, .move (.tmp 15), 4, "law.go:50", #[⟨6, .data⟩, ⟨5, .chain⟩], none⟩) hH.out (by rintro w ⟨sb0, sb1⟩; go_simp <;> with_reducible rfl) ?_
  simp only [Act.put, sA, sB, sC]
  refine wpAnyH_take (i := 8) (oi := { dst := some 17, op := .load 28 (.tmp 2), type := 28, pos := "law.go:50", after := #[⟨7, .guard⟩], guard := some (7, true) }) (v := .agg C1) rfl (by kernel_rfl) (by kernel_rfl) (by kernel_rfl) (fun _ _ _ h => h) (kyl_load rfl (.tmp 2) rfl z rfl (fun _ h => h.1) Try.underlying28 rfl sizeM HC1S.out) hH.out ?_
  simp only [Act.put, sA, sB, sC]
  refine wpAnyH_take (i := 9) (oi := { dst := some 18, op := .load 28 (.tmp 2), type := 28, pos := "law.go:50", after := #[⟨7, .guard⟩], guard := some (7, true) }) (v := .agg C1) rfl (by kernel_rfl) (by kernel_rfl) (by kernel_rfl) (fun _ _ _ h => h) (kyl_load rfl (.tmp 2) rfl z rfl (fun _ h => h.1) Try.underlying28 rfl sizeM HC1S.out) hH.out ?_
  simp only [Act.put, sA, sB, sC]
  refine rdy (i := 10) (oi := { dst := some 19, op := .call ⟨.value (.func 11), #[.tmp 18], #[28]⟩, type := 28, pos := "law.go:50", after := #[⟨9, .data⟩, ⟨7, .chain⟩, ⟨7, .guard⟩], guard := some (7, true) }) (fun K hK => ?_)
  go_simp
  refine (HS3.out _ HQ2.out).mono ?_
  rintro x q3 ⟨A3, n3, c3, rfl, he⟩
  have HE3 := Lib.hid he
  have a9 := he.adv
  clear he
  obtain ⟨C3, hC3⟩ : ∃ C, C = mc sa (.slice A3 n3 c3) := ⟨_, rfl⟩
  rw [← hC3]
  have HC3 := Lib.hid hC3
  clear hC3
  have HQ3 := Lib.hid (HQ2.out.trans a9)
  have K3 := Lib.hid (show Blk q3 z 28 C1 ∧ Blk q3 y 28 C2 from ⟨HBz.out.over HQ3.out, HBy.out.over HQ3.out⟩)
  clear a9
  go_wp2_with fail
  refine hK.out _ _ (by first | with_reducible exact K5.out | with_reducible exact K4.out | with_reducible exact K3.out | with_reducible exact K2.out | with_reducible exact K1.out | with_reducible exact K0.out) (fun hHeld => ?_)
  replace hH := Lib.hid hHeld
  clear hK K hHeld
  try simp only [Act.put, sA, sB, sC]
  refine rdy (i := 11) (oi := { dst := some 20, op := .call ⟨.value (.func 16), #[.tmp 17, .tmp 19], #[28, 28]⟩, type := 4, pos := "law.go:50", after := #[⟨8, .data⟩, ⟨10, .data⟩, ⟨10, .chain⟩, ⟨7, .guard⟩], guard := some (7, true) }) (fun K hK => ?_)
  go_simp
  have HSS := Lib.hid (show ∀ w', EnR7 w' (.slice Aa na ca) sa.en → EnR7 w' (.slice A3 n3 c3) sa.en → Calls Try.prog 16 #[.agg C1, .agg C3] w' fun e w'' => e = .returned (.bool true) ∧ Adv Nul w' Nul w'' from fun w' h1 h2 => by rw [HC1.out, HC3.out, ← sameB_self sa]; exact msame_any sa sa _ _ w' h1 h2)
  refine (HSS.out _ (HEz.out.step HQ3.out) HE3.out.rd).mono ?_
  rintro x q4 ⟨rfl, a9⟩
  have HQ4 := Lib.hid (HQ3.out.trans a9)
  have K4 := Lib.hid (show Blk q4 z 28 C1 ∧ Blk q4 y 28 C2 from ⟨HBz.out.over HQ4.out, HBy.out.over HQ4.out⟩)
  clear a9 HSM HSQ HSS
  go_wp2_with fail
  refine hK.out _ _ (by first | with_reducible exact K5.out | with_reducible exact K4.out | with_reducible exact K3.out | with_reducible exact K2.out | with_reducible exact K1.out | with_reducible exact K0.out) (fun hHeld => ?_)
  replace hH := Lib.hid hHeld
  clear hK K hHeld
  try simp only [Act.put, sA, sB, sC]
  refine tk (i := 12) (oi := ⟨some 21, .pick (.tmp 16) (.tmp 20) (.const (Go.Value.bool false)), 4, "law.go:50", #[⟨7, .data⟩, ⟨11, .data⟩], none⟩) hH.out (by rintro w ⟨sb0, sb1⟩; go_simp <;> with_reducible rfl) ?_
  simp only [Act.put, sA, sB, sC]
  refine tk (i := 13) (oi := ⟨some 22, .move (.tmp 21), 4, "law.go:50", #[⟨12, .data⟩, ⟨11, .chain⟩], none⟩) hH.out (by rintro w ⟨sb0, sb1⟩; go_simp <;> with_reducible rfl) ?_
  simp only [Act.put, sA, sB, sC]
  refine rdy (i := 14) (oi := { dst := some 23, op := .call ⟨.value (.func 15), #[], #[]⟩, type := 4, pos := "law.go:50", after := #[⟨13, .chain⟩, ⟨13, .guard⟩], guard := some (13, true) }) (fun K hK => ?_)
  go_simp
  refine (HLV.out _).mono ?_
  rintro x q5 ⟨rfl, a9⟩
  have HQ5 := Lib.hid (HQ4.out.trans a9)
  have K5 := Lib.hid (show Blk q5 z 28 C1 ∧ Blk q5 y 28 C2 from ⟨HBz.out.over HQ5.out, HBy.out.over HQ5.out⟩)
  clear a9
  go_wp2_with fail
  refine hK.out _ _ (by first | with_reducible exact K5.out | with_reducible exact K4.out | with_reducible exact K3.out | with_reducible exact K2.out | with_reducible exact K1.out | with_reducible exact K0.out) (fun hHeld => ?_)
  replace hH := Lib.hid hHeld
  clear hK K hHeld
  try simp only [Act.put, sA, sB, sC]
  refine tk (i := 15) (oi := ⟨some 24, .pick (.tmp 22) (.tmp 23) (.const (Go.Value.bool false)), 4, "law.go:50", #[⟨13, .data⟩, ⟨14, .data⟩], none⟩) hH.out (by rintro w ⟨sb0, sb1⟩; go_simp <;> with_reducible rfl) ?_
  simp only [Act.put, sA, sB, sC]
  refine tk (i := 16) (oi := ⟨some 4, .assign (.tmp 24), 4, "law.go:50", #[⟨15, .data⟩, ⟨14, .chain⟩, ⟨0, .phase⟩, ⟨1, .phase⟩, ⟨2, .phase⟩, ⟨3, .phase⟩, ⟨4, .phase⟩, ⟨5, .phase⟩, ⟨6, .phase⟩, ⟨7, .phase⟩, ⟨8, .phase⟩, ⟨9, .phase⟩, ⟨10, .phase⟩, ⟨11, .phase⟩, ⟨12, .phase⟩, ⟨13, .phase⟩, ⟨14, .phase⟩, ⟨15, .phase⟩], none⟩) hH.out (by rintro w ⟨sb0, sb1⟩; go_simp <;> with_reducible rfl) ?_
  simp only [Act.put, sA, sB, sC]
  refine wpAnyH_done (by kernel_rfl) ?_ _
  go_wp2_with fail
  go_ret
  exact ⟨by first | rfl | simp, (HAW.out.trans HQ5.out).toBelow⟩
end Go.Proofs.Ytpgeebhepegpaaa
