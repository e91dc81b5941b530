/- The statement's Short: a message whose texts and lists are none too long. -/
import Derived.Test.YtpgeebhepegpaaaMsC
import Derived.Test.YtpgeebhepegpaaaDrS
import Derived.StillTailTactics
namespace Go.Proofs.Ytpgeebhepegpaaa
open Go.ChangeShapes Go.WideShapes Go.ChangeAt Go.RowKit

def cut70 (s : ByteArray) : ByteArray := if 70 < s.size then s.extract 0 70 else s
set_option maxRecDepth 3000 in
theorem cut70_size (s : ByteArray) : (cut70 s).size ≤ 70 := by
  unfold cut70
  split
  · simp only [ByteArray.size_extract]; omega
  · omega
def shM (m : Ms) : Ms := { m with nm := cut20 m.nm, ot := cut20 m.ot, da := cut70 m.da, en := fewL 26 m.en }
/-- numbers that may be, sizes of any -/
structure WfAm (m : Ms) : Prop where
  ss : m.ss < 18446744073709551616
  sq : m.sq < 18446744073709551616
  bo : m.bo < 18446744073709551616
  ve : m.ve < 18446744073709551616
  nm : m.nm.size ≤ maxLen
  ot : m.ot.size ≤ maxLen
  da : m.da.size ≤ maxLen
set_option maxRecDepth 3000 in
theorem WfAm.short {m : Ms} (h : WfAm m) : WfM (shM m) := ⟨h.ss, h.sq, h.bo, h.ve, Nat.le_trans (cut20_size _) (by decide), Nat.le_trans (cut20_size _) (by decide), Nat.le_trans (cut70_size _) (by decide), by show (fewL 26 m.en).length ≤ 1000; rw [fewL_length]; omega⟩
set_option maxRecDepth 3000 in
theorem WfM.any {m : Ms} (h : WfM m) : WfAm m := ⟨h.ss, h.sq, h.bo, h.ve, by have := h.nm; unfold maxLen; omega, by have := h.ot; unfold maxLen; omega, by have := h.da; unfold maxLen; omega⟩
set_option maxRecDepth 3000 in
theorem cut20_id {s : ByteArray} (h : s.size ≤ 20) : cut20 s = s := if_neg (by omega)
set_option maxRecDepth 3000 in
theorem cut70_id {s : ByteArray} (h : s.size ≤ 70) : cut70 s = s := if_neg (by omega)
set_option maxRecDepth 3000 in
theorem cutE7_twice (e : En) : cutE7 (cutE7 e) = cutE7 e := by
  unfold cutE7
  simp only [cut20_id (cut20_size e.s)]
set_option maxRecDepth 3000 in
theorem shM_twice (m : Ms) : shM (shM m) = shM m := by
  have e1 : fewL 26 (fewL 26 m.en) = fewL 26 m.en := by
    unfold fewL
    rw [← List.map_take, List.take_take, List.map_map, Nat.min_self]
    exact List.map_congr_left fun e _ => cutE7_twice e
  unfold shM
  simp only [cut20_id (cut20_size _), cut70_id (cut70_size _), e1]
set_option maxRecDepth 3000 in
theorem EnO.fromM {w w0 w1 : World} {l : List En} {v : Value} (h : EnO w0 l v w1) (ha : Adv Nul w Nul w0) : EnO w l v w1 := by
  obtain ⟨F, h1, h2⟩ := h.ex
  exact ⟨⟨F, h1, ha.trans h2⟩, h.sz⟩
set_option maxRecDepth 3000 in
theorem EnO.far1 {w wr w' : World} {l : List En} {v : Value} {u : Nat} (h : EnO w l v wr) (hu : w.heap.size ≤ u) (hn : ∀ j, v.ownBlock = some j → j ≠ u) (k : Adv (One u) wr (One u) w') : EnO w l v w' := by
  obtain ⟨F, h1, h2⟩ := h.ex
  refine ⟨⟨fun j => v.ownBlock = some j, ⟨own_keep h1.own (fun j hj => k.block j (h1.bd j (h1.inF j hj)) (fun e => hn j hj e)), fun j hj => hj, fun j hj => Nat.lt_of_lt_of_le (h1.bd j (h1.inF j hj)) k.size⟩, ?_⟩, h.sz⟩
  exact ⟨k.os.trans h2.os, k.tape.trans h2.tape, k.output.trans h2.output, Nat.le_trans h2.size k.size, fun i hi hx => (k.block i (Nat.lt_of_lt_of_le hi h2.size) (fun e => by unfold One at e; omega)).trans (h2.block i hi hx), fun j hj => (h2.into j (h1.inF j hj)).elim (fun x => x.elim) .inr⟩
set_option maxRecDepth 3000 in
theorem EnO.new_ {V wr : World} {l : List En} {v : Value} (h : EnO V l v wr) : ∀ j, v.ownBlock = some j → V.heap.size ≤ j := fun j hj => by
  obtain ⟨F, h1, h2⟩ := h.ex
  exact (h2.into j (h1.inF j hj)).elim (fun x => x.elim) id
set_option maxRecDepth 3000 in
theorem EnO.putz {w V wr w' : World} {l : List En} {v : Value} {z : Nat} (h : EnO V l v wr) (hV : Adv Nul w Nul V) (hz : w.heap.size ≤ z) (hzV : z < V.heap.size) (k : Adv (One z) wr (One z) w') : EnO w l v w' := by
  obtain ⟨F, h1, h2⟩ := h.ex
  have hF : ∀ j, F j → V.heap.size ≤ j := fun j hj => (h2.into j hj).elim (fun x => x.elim) id
  have hB : ∀ j, F j → w'.heap[j]? = wr.heap[j]? := fun j hj => k.block j (h1.bd j hj) (fun e => by have := hF j hj; unfold One at e; omega)
  refine ⟨⟨F, ⟨own_keep h1.own (fun j hj => hB j (h1.inF j hj)), h1.inF, fun j hj => Nat.lt_of_lt_of_le (h1.bd j hj) k.size⟩, ?_⟩, h.sz⟩
  have h3 := hV.trans h2
  exact ⟨k.os.trans h3.os, k.tape.trans h3.tape, k.output.trans h3.output, Nat.le_trans h3.size k.size, fun i hi hn => (k.block i (Nat.lt_of_lt_of_le hi h3.size) (fun e => by unfold One at e; omega)).trans (h3.block i hi hn), fun j hj => .inr (Nat.le_trans hV.size (hF j hj))⟩
def ShR (w : World) (m : Ms) (e : Ending) (w' : World) : Prop := ∃ v, e = .returned (.agg (mc (shM m) v)) ∧ EnO w (fewL 26 m.en) v w'
set_option maxRecDepth 3000 in
set_option maxHeartbeats 6400000 in
theorem short16_any (m : Ms) (v : Value) (hm : WfAm m) (w : World) (hE : EnR7 w v m.en) : Calls Try.prog 11 #[.agg (mc m v)] w (ShR w m) := by
  obtain ⟨A, N, c, rfl, hN, hcm⟩ : ∃ A N c, v = .slice A N c ∧ N = m.en.length ∧ c ≤ maxLen ∧ N ≤ c := by
    obtain ⟨A, c, e, h1, h2⟩ := hE.form
    exact ⟨A, _, c, e, rfl, h2, h1⟩
  have hbig : (N : Int) ≤ 9223372036854775807 := by unfold maxLen at hcm; omega
  have HI := Lib.hid infoM
  have HS20 := Lib.hid (fun (w : World) => (short20 m.nm w hm.nm).mono fun e w' h => (show e = .returned (.string (cut20 m.nm)) ∧ w' = w from ⟨h.1, h.2.symm⟩))
  have HO20 := Lib.hid (fun (w : World) => (short20 m.ot w hm.ot).mono fun e w' h => (show e = .returned (.string (cut20 m.ot)) ∧ w' = w from ⟨h.1, h.2.symm⟩))
  have HS70 := Lib.hid (fun (w : World) => (short_any m.da 70 w (by decide) hm.da).mono fun e w' h => (show e = .returned (.string (cut70 m.da)) ∧ w' = w from ⟨h.1, h.2.symm⟩))
  obtain ⟨C, hC⟩ : ∃ C, C = mc m (.slice A N c) := ⟨_, rfl⟩
  have HC := Lib.hid hC
  obtain ⟨Z, hZ⟩ : ∃ C, C = mc ms0 nilV := ⟨_, rfl⟩
  have HZS := Lib.hid (show Z.size = 18 by rw [hZ]; rfl)
  rw [← hZ] at HI
  rw [← hC]
  have HEN := Lib.hid hE
  have HN := Lib.hid hN
  clear hC hZ hE hN hcm hm
  go_enter Try.func11, Try.ntmps11
  go_upto_region 1 with (first
    | (refine kop_box rfl _ rfl rfl ?_; intro z w1 hz hb ha; have HA1 := Lib.hid ((Adv.refl Nul w).trans ha); have HB1 := Lib.hid hb; have HZ1 := Lib.hid hz; clear hz hb ha)
    | (refine kop_alloc rfl rfl HI.out ?_; intro u w2 hz hb ha; have HU2 := Lib.hid (Nat.le_trans HA1.out.size hz); have HBU := Lib.hid hb; have HA2 := Lib.hid (HA1.out.trans ha); have HB2 := Lib.hid (HB1.out.over ha); have HZU := Lib.hid (show z ≠ u from fun e => by have := HB1.out.lt; omega); clear hz hb ha)
    | fail)
  have HBz := Lib.hid (show Blk w2 z 28 (mc m (.slice A N c)) by rw [← HC.out]; exact HB2.out)
  obtain ⟨⟨s0, s1, s2, s3, s4, s5, s6⟩, ⟨s7, s8, s9, s10⟩, ⟨s11, s12, s13, s14, s15, s16, s17⟩⟩ := HBz.out.c18
  obtain ⟨V, hV⟩ : ∃ V, V = ((w2.drew.setCell ⟨z, 11, none⟩ (.string (cut20 m.nm))).setCell ⟨z, 12, none⟩ (.string (cut20 m.ot))).setCell ⟨z, 15, none⟩ (.string (cut70 m.da)) := ⟨_, rfl⟩
  have HBV := Lib.hid (show Blk V z 28 (mc { m with nm := cut20 m.nm, ot := cut20 m.ot, da := cut70 m.da } (.slice A N c)) by
    rw [hV]
    exact ((show Blk w2.drew z 28 (mc m (.slice A N c)) from HBz.out).set_ 11 (.string (cut20 m.nm)) |>.set_ 12 (.string (cut20 m.ot)) |>.set_ 15 (.string (cut70 m.da))))
  have HUV := Lib.hid (show Blk V u 28 Z by
    rw [hV]
    exact (((show Blk w2.drew u 28 Z from HBU.out).far (p := ⟨z, 11, none⟩) HZU.out.symm _).far (p := ⟨z, 12, none⟩) HZU.out.symm _).far (p := ⟨z, 15, none⟩) HZU.out.symm _)
  have HAV := Lib.hid (show Adv Nul w Nul V by
    rw [hV]
    exact ((HA2.out.drew.setCell (p := ⟨z, 11, none⟩) (.inr HZ1.out) _).setCell (p := ⟨z, 12, none⟩) (.inr HZ1.out) _).setCell (p := ⟨z, 15, none⟩) (.inr HZ1.out) _)
  have HV := Lib.hid hV
  have f11 : w2.frozen? ⟨z, 11, none⟩ = false := HBz.out.frozen 11
  have f12 : w2.frozen? ⟨z, 12, none⟩ = false := HBz.out.frozen 12
  have f15 : w2.frozen? ⟨z, 15, none⟩ = false := HBz.out.frozen 15
  clear hV s0 s1 s2 s3 s4 s5 s6 s7 s8 s9 s10 s13 s14 s16 s17
  try simp only [Act.put, sA, sB, sC]
  go_cut [14] (fun t wx => t = .string (cut70 m.da) ∧ wx = V)
  case first =>
    as_aux_lemma =>
    refine rstart (S := (fun _ => True)) (by first | exact True.intro) (fun hH => ?_)
    refine tk (i := 0) (oi := ⟨some 6, .fieldAddr 28 (.tmp 1) 9, 0, "law.go:27", #[], none⟩) hH.out (by rintro w s0; go_simp <;> with_reducible rfl) ?_
    simp only [Act.put, sA, sB, sC]
    refine tk (i := 3) (oi := ⟨some 9, .fieldAddr 28 (.tmp 1) 10, 0, "law.go:27", #[], none⟩) hH.out (by rintro w s0; go_simp <;> with_reducible rfl) ?_
    simp only [Act.put, sA, sB, sC]
    refine tk (i := 6) (oi := ⟨some 12, .fieldAddr 28 (.tmp 1) 13, 0, "law.go:27", #[], none⟩) hH.out (by rintro w s0; go_simp <;> with_reducible rfl) ?_
    simp only [Act.put, sA, sB, sC]
    refine wpAnyH_ready (rs := [1, 4, 7]) (by kernel_rfl) (by simp) ?_
    refine AllReadyH.cons (o := ⟨some 7, .load 9 (.tmp 6), 9, "law.go:27", #[⟨0, .data⟩], none⟩) rfl (fun K hK => ?_) (AllReadyH.cons (o := ⟨some 10, .load 9 (.tmp 9), 9, "law.go:27", #[⟨3, .data⟩], none⟩) rfl (fun K hK => ?_) (AllReadyH.cons (o := ⟨some 13, .load 9 (.tmp 12), 9, "law.go:27", #[⟨6, .data⟩], none⟩) rfl (fun K hK => ?_) (AllReadyH.nil)))
    · go_simp
      refine hK.out _ _ (by first | exact True.intro) (fun hHeld => ?_)
      replace hH := Lib.hid hHeld
      clear hK K hHeld
      try simp only [Act.put, sA, sB, sC]
      refine wpAnyH_ready (rs := [2, 4, 7]) (by kernel_rfl) (by simp) ?_
      refine AllReadyH.cons (o := ⟨some 8, .call ⟨.value (.func 29), #[.tmp 7, .const (Go.Value.int Go.IntKind.i64 20)], #[9, 3]⟩, 9, "law.go:27", #[⟨1, .data⟩], none⟩) rfl (fun K hK => ?_) (AllReadyH.cons (o := ⟨some 10, .load 9 (.tmp 9), 9, "law.go:27", #[⟨3, .data⟩], none⟩) rfl (fun K hK => ?_) (AllReadyH.cons (o := ⟨some 13, .load 9 (.tmp 12), 9, "law.go:27", #[⟨6, .data⟩], none⟩) rfl (fun K hK => ?_) (AllReadyH.nil)))
      · go_simp
        refine (HS20.out _).mono ?_
        rintro r w11 ⟨rfl, rfl⟩
        go_wp2_with fail
        refine hK.out _ _ (by first | exact True.intro) (fun hHeld => ?_)
        replace hH := Lib.hid hHeld
        clear hK K hHeld
        try simp only [Act.put, sA, sB, sC]
        refine wpAnyH_ready (rs := [4, 7]) (by kernel_rfl) (by simp) ?_
        refine AllReadyH.cons (o := ⟨some 10, .load 9 (.tmp 9), 9, "law.go:27", #[⟨3, .data⟩], none⟩) rfl (fun K hK => ?_) (AllReadyH.cons (o := ⟨some 13, .load 9 (.tmp 12), 9, "law.go:27", #[⟨6, .data⟩], none⟩) rfl (fun K hK => ?_) (AllReadyH.nil))
        · go_simp
          refine hK.out _ _ (by first | exact True.intro) (fun hHeld => ?_)
          replace hH := Lib.hid hHeld
          clear hK K hHeld
          try simp only [Act.put, sA, sB, sC]
          refine wpAnyH_ready (rs := [5, 7]) (by kernel_rfl) (by simp) ?_
          refine AllReadyH.cons (o := ⟨some 11, .call ⟨.value (.func 29), #[.tmp 10, .const (Go.Value.int Go.IntKind.i64 20)], #[9, 3]⟩, 9, "law.go:27", #[⟨4, .data⟩, ⟨2, .chain⟩], none⟩) rfl (fun K hK => ?_) (AllReadyH.cons (o := ⟨some 13, .load 9 (.tmp 12), 9, "law.go:27", #[⟨6, .data⟩], none⟩) rfl (fun K hK => ?_) (AllReadyH.nil))
          · go_simp
            refine (HO20.out _).mono ?_
            rintro r w11 ⟨rfl, rfl⟩
            go_wp2_with fail
            refine hK.out _ _ (by first | exact True.intro) (fun hHeld => ?_)
            replace hH := Lib.hid hHeld
            clear hK K hHeld
            try simp only [Act.put, sA, sB, sC]
            refine rdy (i := 7) (oi := ⟨some 13, .load 9 (.tmp 12), 9, "law.go:27", #[⟨6, .data⟩], none⟩) (fun K hK => ?_)
            go_simp
            refine hK.out _ _ (by first | exact True.intro) (fun hHeld => ?_)
            replace hH := Lib.hid hHeld
            clear hK K hHeld
            try simp only [Act.put, sA, sB, sC]
            refine tk (i := 9) (oi := ⟨some 15, .fieldAddr 28 (.tmp 1) 9, 0, "law.go:27", #[⟨0, .phase⟩, ⟨1, .phase⟩, ⟨2, .phase⟩, ⟨3, .phase⟩, ⟨4, .phase⟩, { on := 5, ground := Go.Ground.textOnly Go.Departure.lateStoresUnsure }, ⟨6, .phase⟩, ⟨7, .phase⟩, { on := 8, ground := Go.Ground.textOnly Go.Departure.lateStoresUnsure }], none⟩) hH.out (by rintro w s0; go_simp <;> with_reducible rfl) ?_
            simp only [Act.put, sA, sB, sC]
            refine rdy (i := 8) (oi := ⟨some 14, .call ⟨.value (.func 29), #[.tmp 13, .const (Go.Value.int Go.IntKind.i64 70)], #[9, 3]⟩, 9, "law.go:27", #[⟨7, .data⟩, ⟨5, .chain⟩], none⟩) (fun K hK => ?_)
            go_simp
            refine (HS70.out _).mono ?_
            rintro r w11 ⟨rfl, rfl⟩
            go_wp2_with fail
            refine hK.out _ _ (by first | exact True.intro) (fun hHeld => ?_)
            replace hH := Lib.hid hHeld
            clear hK K hHeld
            try simp only [Act.put, sA, sB, sC]
            refine rdy (i := 10) (oi := ⟨none, .store 9 (.tmp 15) (.tmp 8), 0, "law.go:27", #[⟨9, .data⟩, ⟨2, .data⟩, ⟨8, .chain⟩, ⟨0, .phase⟩, ⟨1, .phase⟩, ⟨2, .phase⟩, ⟨3, .phase⟩, ⟨4, .phase⟩, { on := 5, ground := Go.Ground.textOnly Go.Departure.lateStoresUnsure }, ⟨6, .phase⟩, ⟨7, .phase⟩, { on := 8, ground := Go.Ground.textOnly Go.Departure.lateStoresUnsure }], none⟩) (fun K hK => ?_)
            go_simp
            refine hK.out _ _ (by first | exact True.intro) (fun hHeld => ?_)
            replace hH := Lib.hid hHeld
            clear hK K hHeld
            try simp only [Act.put]
            refine tk (i := 11) (oi := ⟨some 16, .fieldAddr 28 (.tmp 1) 10, 0, "law.go:27", #[⟨0, .phase⟩, ⟨1, .phase⟩, ⟨2, .phase⟩, ⟨3, .phase⟩, ⟨4, .phase⟩, ⟨5, .phase⟩, ⟨6, .phase⟩, ⟨7, .phase⟩, { on := 8, ground := Go.Ground.textOnly Go.Departure.lateStoresUnsure }, ⟨9, .phase⟩, ⟨10, .phase⟩], none⟩) hH.out (by rintro w s0; go_simp <;> with_reducible rfl) ?_
            simp only [Act.put, sA, sB, sC]
            refine rdy (i := 12) (oi := ⟨none, .store 9 (.tmp 16) (.tmp 11), 0, "law.go:27", #[⟨11, .data⟩, ⟨5, .data⟩, ⟨10, .chain⟩, ⟨0, .phase⟩, ⟨1, .phase⟩, ⟨2, .phase⟩, ⟨3, .phase⟩, ⟨4, .phase⟩, ⟨5, .phase⟩, ⟨6, .phase⟩, ⟨7, .phase⟩, { on := 8, ground := Go.Ground.textOnly Go.Departure.lateStoresUnsure }, ⟨9, .phase⟩, ⟨10, .phase⟩], none⟩) (fun K hK => ?_)
            go_simp
            refine hK.out _ _ (by first | exact True.intro) (fun hHeld => ?_)
            replace hH := Lib.hid hHeld
            clear hK K hHeld
            try simp only [Act.put]
            refine tk (i := 13) (oi := ⟨some 17, .fieldAddr 28 (.tmp 1) 13, 0, "law.go:27", #[⟨0, .phase⟩, ⟨1, .phase⟩, ⟨2, .phase⟩, ⟨3, .phase⟩, ⟨4, .phase⟩, ⟨5, .phase⟩, ⟨6, .phase⟩, ⟨7, .phase⟩, ⟨8, .phase⟩, ⟨9, .phase⟩, ⟨10, .phase⟩, ⟨11, .phase⟩, ⟨12, .phase⟩], none⟩) hH.out (by rintro w s0; go_simp <;> with_reducible rfl) ?_
            simp only [Act.put, sA, sB, sC]
            refine rdy (i := 14) (oi := ⟨none, .store 9 (.tmp 17) (.tmp 14), 0, "law.go:27", #[⟨13, .data⟩, ⟨8, .data⟩, ⟨12, .chain⟩, ⟨0, .phase⟩, ⟨1, .phase⟩, ⟨2, .phase⟩, ⟨3, .phase⟩, ⟨4, .phase⟩, ⟨5, .phase⟩, ⟨6, .phase⟩, ⟨7, .phase⟩, ⟨8, .phase⟩, ⟨9, .phase⟩, ⟨10, .phase⟩, ⟨11, .phase⟩, ⟨12, .phase⟩], none⟩) (fun K hK => ?_)
            go_simp
            refine hK.out _ _ (by first | exact True.intro) (fun hHeld => ?_)
            replace hH := Lib.hid hHeld
            clear hK K hHeld
            try simp only [Act.put]
            refine wpAnyH_done (by kernel_rfl) ?_ _
            go_wp2_with fail
            go_meet
            exact ⟨rfl, HV.out.symm⟩
          · go_simp
            refine hK.out _ _ (by first | exact True.intro) (fun hHeld => ?_)
            replace hH := Lib.hid hHeld
            clear hK K hHeld
            try simp only [Act.put, sA, sB, sC]
            refine tk (i := 9) (oi := ⟨some 15, .fieldAddr 28 (.tmp 1) 9, 0, "law.go:27", #[⟨0, .phase⟩, ⟨1, .phase⟩, ⟨2, .phase⟩, ⟨3, .phase⟩, ⟨4, .phase⟩, { on := 5, ground := Go.Ground.textOnly Go.Departure.lateStoresUnsure }, ⟨6, .phase⟩, ⟨7, .phase⟩, { on := 8, ground := Go.Ground.textOnly Go.Departure.lateStoresUnsure }], none⟩) hH.out (by rintro w s0; go_simp <;> with_reducible rfl) ?_
            simp only [Act.put, sA, sB, sC]
            refine rdy (i := 5) (oi := ⟨some 11, .call ⟨.value (.func 29), #[.tmp 10, .const (Go.Value.int Go.IntKind.i64 20)], #[9, 3]⟩, 9, "law.go:27", #[⟨4, .data⟩, ⟨2, .chain⟩], none⟩) (fun K hK => ?_)
            go_simp
            refine (HO20.out _).mono ?_
            rintro r w11 ⟨rfl, rfl⟩
            go_wp2_with fail
            refine hK.out _ _ (by first | exact True.intro) (fun hHeld => ?_)
            replace hH := Lib.hid hHeld
            clear hK K hHeld
            try simp only [Act.put, sA, sB, sC]
            refine rdy (i := 8) (oi := ⟨some 14, .call ⟨.value (.func 29), #[.tmp 13, .const (Go.Value.int Go.IntKind.i64 70)], #[9, 3]⟩, 9, "law.go:27", #[⟨7, .data⟩, ⟨5, .chain⟩], none⟩) (fun K hK => ?_)
            go_simp
            refine (HS70.out _).mono ?_
            rintro r w11 ⟨rfl, rfl⟩
            go_wp2_with fail
            refine hK.out _ _ (by first | exact True.intro) (fun hHeld => ?_)
            replace hH := Lib.hid hHeld
            clear hK K hHeld
            try simp only [Act.put, sA, sB, sC]
            refine rdy (i := 10) (oi := ⟨none, .store 9 (.tmp 15) (.tmp 8), 0, "law.go:27", #[⟨9, .data⟩, ⟨2, .data⟩, ⟨8, .chain⟩, ⟨0, .phase⟩, ⟨1, .phase⟩, ⟨2, .phase⟩, ⟨3, .phase⟩, ⟨4, .phase⟩, { on := 5, ground := Go.Ground.textOnly Go.Departure.lateStoresUnsure }, ⟨6, .phase⟩, ⟨7, .phase⟩, { on := 8, ground := Go.Ground.textOnly Go.Departure.lateStoresUnsure }], none⟩) (fun K hK => ?_)
            go_simp
            refine hK.out _ _ (by first | exact True.intro) (fun hHeld => ?_)
            replace hH := Lib.hid hHeld
            clear hK K hHeld
            try simp only [Act.put]
            refine tk (i := 11) (oi := ⟨some 16, .fieldAddr 28 (.tmp 1) 10, 0, "law.go:27", #[⟨0, .phase⟩, ⟨1, .phase⟩, ⟨2, .phase⟩, ⟨3, .phase⟩, ⟨4, .phase⟩, ⟨5, .phase⟩, ⟨6, .phase⟩, ⟨7, .phase⟩, { on := 8, ground := Go.Ground.textOnly Go.Departure.lateStoresUnsure }, ⟨9, .phase⟩, ⟨10, .phase⟩], none⟩) hH.out (by rintro w s0; go_simp <;> with_reducible rfl) ?_
            simp only [Act.put, sA, sB, sC]
            refine rdy (i := 12) (oi := ⟨none, .store 9 (.tmp 16) (.tmp 11), 0, "law.go:27", #[⟨11, .data⟩, ⟨5, .data⟩, ⟨10, .chain⟩, ⟨0, .phase⟩, ⟨1, .phase⟩, ⟨2, .phase⟩, ⟨3, .phase⟩, ⟨4, .phase⟩, ⟨5, .phase⟩, ⟨6, .phase⟩, ⟨7, .phase⟩, { on := 8, ground := Go.Ground.textOnly Go.Departure.lateStoresUnsure }, ⟨9, .phase⟩, ⟨10, .phase⟩], none⟩) (fun K hK => ?_)
            go_simp
            refine hK.out _ _ (by first | exact True.intro) (fun hHeld => ?_)
            replace hH := Lib.hid hHeld
            clear hK K hHeld
            try simp only [Act.put]
            refine tk (i := 13) (oi := ⟨some 17, .fieldAddr 28 (.tmp 1) 13, 0, "law.go:27", #[⟨0, .phase⟩, ⟨1, .phase⟩, ⟨2, .phase⟩, ⟨3, .phase⟩, ⟨4, .phase⟩, ⟨5, .phase⟩, ⟨6, .phase⟩, ⟨7, .phase⟩, ⟨8, .phase⟩, ⟨9, .phase⟩, ⟨10, .phase⟩, ⟨11, .phase⟩, ⟨12, .phase⟩], none⟩) hH.out (by rintro w s0; go_simp <;> with_reducible rfl) ?_
            simp only [Act.put, sA, sB, sC]
            refine rdy (i := 14) (oi := ⟨none, .store 9 (.tmp 17) (.tmp 14), 0, "law.go:27", #[⟨13, .data⟩, ⟨8, .data⟩, ⟨12, .chain⟩, ⟨0, .phase⟩, ⟨1, .phase⟩, ⟨2, .phase⟩, ⟨3, .phase⟩, ⟨4, .phase⟩, ⟨5, .phase⟩, ⟨6, .phase⟩, ⟨7, .phase⟩, ⟨8, .phase⟩, ⟨9, .phase⟩, ⟨10, .phase⟩, ⟨11, .phase⟩, ⟨12, .phase⟩], none⟩) (fun K hK => ?_)
            go_simp
            refine hK.out _ _ (by first | exact True.intro) (fun hHeld => ?_)
            replace hH := Lib.hid hHeld
            clear hK K hHeld
            try simp only [Act.put]
            refine wpAnyH_done (by kernel_rfl) ?_ _
            go_wp2_with fail
            go_meet
            exact ⟨rfl, HV.out.symm⟩
        · go_simp
          refine hK.out _ _ (by first | exact True.intro) (fun hHeld => ?_)
          replace hH := Lib.hid hHeld
          clear hK K hHeld
          try simp only [Act.put, sA, sB, sC]
          refine rdy (i := 4) (oi := ⟨some 10, .load 9 (.tmp 9), 9, "law.go:27", #[⟨3, .data⟩], none⟩) (fun K hK => ?_)
          go_simp
          refine hK.out _ _ (by first | exact True.intro) (fun hHeld => ?_)
          replace hH := Lib.hid hHeld
          clear hK K hHeld
          try simp only [Act.put, sA, sB, sC]
          refine tk (i := 9) (oi := ⟨some 15, .fieldAddr 28 (.tmp 1) 9, 0, "law.go:27", #[⟨0, .phase⟩, ⟨1, .phase⟩, ⟨2, .phase⟩, ⟨3, .phase⟩, ⟨4, .phase⟩, { on := 5, ground := Go.Ground.textOnly Go.Departure.lateStoresUnsure }, ⟨6, .phase⟩, ⟨7, .phase⟩, { on := 8, ground := Go.Ground.textOnly Go.Departure.lateStoresUnsure }], none⟩) hH.out (by rintro w s0; go_simp <;> with_reducible rfl) ?_
          simp only [Act.put, sA, sB, sC]
          refine rdy (i := 5) (oi := ⟨some 11, .call ⟨.value (.func 29), #[.tmp 10, .const (Go.Value.int Go.IntKind.i64 20)], #[9, 3]⟩, 9, "law.go:27", #[⟨4, .data⟩, ⟨2, .chain⟩], none⟩) (fun K hK => ?_)
          go_simp
          refine (HO20.out _).mono ?_
          rintro r w11 ⟨rfl, rfl⟩
          go_wp2_with fail
          refine hK.out _ _ (by first | exact True.intro) (fun hHeld => ?_)
          replace hH := Lib.hid hHeld
          clear hK K hHeld
          try simp only [Act.put, sA, sB, sC]
          refine rdy (i := 8) (oi := ⟨some 14, .call ⟨.value (.func 29), #[.tmp 13, .const (Go.Value.int Go.IntKind.i64 70)], #[9, 3]⟩, 9, "law.go:27", #[⟨7, .data⟩, ⟨5, .chain⟩], none⟩) (fun K hK => ?_)
          go_simp
          refine (HS70.out _).mono ?_
          rintro r w11 ⟨rfl, rfl⟩
          go_wp2_with fail
          refine hK.out _ _ (by first | exact True.intro) (fun hHeld => ?_)
          replace hH := Lib.hid hHeld
          clear hK K hHeld
          try simp only [Act.put, sA, sB, sC]
          refine rdy (i := 10) (oi := ⟨none, .store 9 (.tmp 15) (.tmp 8), 0, "law.go:27", #[⟨9, .data⟩, ⟨2, .data⟩, ⟨8, .chain⟩, ⟨0, .phase⟩, ⟨1, .phase⟩, ⟨2, .phase⟩, ⟨3, .phase⟩, ⟨4, .phase⟩, { on := 5, ground := Go.Ground.textOnly Go.Departure.lateStoresUnsure }, ⟨6, .phase⟩, ⟨7, .phase⟩, { on := 8, ground := Go.Ground.textOnly Go.Departure.lateStoresUnsure }], none⟩) (fun K hK => ?_)
          go_simp
          refine hK.out _ _ (by first | exact True.intro) (fun hHeld => ?_)
          replace hH := Lib.hid hHeld
          clear hK K hHeld
          try simp only [Act.put]
          refine tk (i := 11) (oi := ⟨some 16, .fieldAddr 28 (.tmp 1) 10, 0, "law.go:27", #[⟨0, .phase⟩, ⟨1, .phase⟩, ⟨2, .phase⟩, ⟨3, .phase⟩, ⟨4, .phase⟩, ⟨5, .phase⟩, ⟨6, .phase⟩, ⟨7, .phase⟩, { on := 8, ground := Go.Ground.textOnly Go.Departure.lateStoresUnsure }, ⟨9, .phase⟩, ⟨10, .phase⟩], none⟩) hH.out (by rintro w s0; go_simp <;> with_reducible rfl) ?_
          simp only [Act.put, sA, sB, sC]
          refine rdy (i := 12) (oi := ⟨none, .store 9 (.tmp 16) (.tmp 11), 0, "law.go:27", #[⟨11, .data⟩, ⟨5, .data⟩, ⟨10, .chain⟩, ⟨0, .phase⟩, ⟨1, .phase⟩, ⟨2, .phase⟩, ⟨3, .phase⟩, ⟨4, .phase⟩, ⟨5, .phase⟩, ⟨6, .phase⟩, ⟨7, .phase⟩, { on := 8, ground := Go.Ground.textOnly Go.Departure.lateStoresUnsure }, ⟨9, .phase⟩, ⟨10, .phase⟩], none⟩) (fun K hK => ?_)
          go_simp
          refine hK.out _ _ (by first | exact True.intro) (fun hHeld => ?_)
          replace hH := Lib.hid hHeld
          clear hK K hHeld
          try simp only [Act.put]
          refine tk (i := 13) (oi := ⟨some 17, .fieldAddr 28 (.tmp 1) 13, 0, "law.go:27", #[⟨0, .phase⟩, ⟨1, .phase⟩, ⟨2, .phase⟩, ⟨3, .phase⟩, ⟨4, .phase⟩, ⟨5, .phase⟩, ⟨6, .phase⟩, ⟨7, .phase⟩, ⟨8, .phase⟩, ⟨9, .phase⟩, ⟨10, .phase⟩, ⟨11, .phase⟩, ⟨12, .phase⟩], none⟩) hH.out (by rintro w s0; go_simp <;> with_reducible rfl) ?_
          simp only [Act.put, sA, sB, sC]
          refine rdy (i := 14) (oi := ⟨none, .store 9 (.tmp 17) (.tmp 14), 0, "law.go:27", #[⟨13, .data⟩, ⟨8, .data⟩, ⟨12, .chain⟩, ⟨0, .phase⟩, ⟨1, .phase⟩, ⟨2, .phase⟩, ⟨3, .phase⟩, ⟨4, .phase⟩, ⟨5, .phase⟩, ⟨6, .phase⟩, ⟨7, .phase⟩, ⟨8, .phase⟩, ⟨9, .phase⟩, ⟨10, .phase⟩, ⟨11, .phase⟩, ⟨12, .phase⟩], none⟩) (fun K hK => ?_)
          go_simp
          refine hK.out _ _ (by first | exact True.intro) (fun hHeld => ?_)
          replace hH := Lib.hid hHeld
          clear hK K hHeld
          try simp only [Act.put]
          refine wpAnyH_done (by kernel_rfl) ?_ _
          go_wp2_with fail
          go_meet
          exact ⟨rfl, HV.out.symm⟩
      · go_simp
        refine hK.out _ _ (by first | exact True.intro) (fun hHeld => ?_)
        replace hH := Lib.hid hHeld
        clear hK K hHeld
        try simp only [Act.put, sA, sB, sC]
        refine wpAnyH_ready (rs := [2, 7]) (by kernel_rfl) (by simp) ?_
        refine AllReadyH.cons (o := ⟨some 8, .call ⟨.value (.func 29), #[.tmp 7, .const (Go.Value.int Go.IntKind.i64 20)], #[9, 3]⟩, 9, "law.go:27", #[⟨1, .data⟩], none⟩) rfl (fun K hK => ?_) (AllReadyH.cons (o := ⟨some 13, .load 9 (.tmp 12), 9, "law.go:27", #[⟨6, .data⟩], none⟩) rfl (fun K hK => ?_) (AllReadyH.nil))
        · go_simp
          refine (HS20.out _).mono ?_
          rintro r w11 ⟨rfl, rfl⟩
          go_wp2_with fail
          refine hK.out _ _ (by first | exact True.intro) (fun hHeld => ?_)
          replace hH := Lib.hid hHeld
          clear hK K hHeld
          try simp only [Act.put, sA, sB, sC]
          refine wpAnyH_ready (rs := [5, 7]) (by kernel_rfl) (by simp) ?_
          refine AllReadyH.cons (o := ⟨some 11, .call ⟨.value (.func 29), #[.tmp 10, .const (Go.Value.int Go.IntKind.i64 20)], #[9, 3]⟩, 9, "law.go:27", #[⟨4, .data⟩, ⟨2, .chain⟩], none⟩) rfl (fun K hK => ?_) (AllReadyH.cons (o := ⟨some 13, .load 9 (.tmp 12), 9, "law.go:27", #[⟨6, .data⟩], none⟩) rfl (fun K hK => ?_) (AllReadyH.nil))
          · go_simp
            refine (HO20.out _).mono ?_
            rintro r w11 ⟨rfl, rfl⟩
            go_wp2_with fail
            refine hK.out _ _ (by first | exact True.intro) (fun hHeld => ?_)
            replace hH := Lib.hid hHeld
            clear hK K hHeld
            try simp only [Act.put, sA, sB, sC]
            refine rdy (i := 7) (oi := ⟨some 13, .load 9 (.tmp 12), 9, "law.go:27", #[⟨6, .data⟩], none⟩) (fun K hK => ?_)
            go_simp
            refine hK.out _ _ (by first | exact True.intro) (fun hHeld => ?_)
            replace hH := Lib.hid hHeld
            clear hK K hHeld
            try simp only [Act.put, sA, sB, sC]
            refine tk (i := 9) (oi := ⟨some 15, .fieldAddr 28 (.tmp 1) 9, 0, "law.go:27", #[⟨0, .phase⟩, ⟨1, .phase⟩, ⟨2, .phase⟩, ⟨3, .phase⟩, ⟨4, .phase⟩, { on := 5, ground := Go.Ground.textOnly Go.Departure.lateStoresUnsure }, ⟨6, .phase⟩, ⟨7, .phase⟩, { on := 8, ground := Go.Ground.textOnly Go.Departure.lateStoresUnsure }], none⟩) hH.out (by rintro w s0; go_simp <;> with_reducible rfl) ?_
            simp only [Act.put, sA, sB, sC]
            refine rdy (i := 8) (oi := ⟨some 14, .call ⟨.value (.func 29), #[.tmp 13, .const (Go.Value.int Go.IntKind.i64 70)], #[9, 3]⟩, 9, "law.go:27", #[⟨7, .data⟩, ⟨5, .chain⟩], none⟩) (fun K hK => ?_)
            go_simp
            refine (HS70.out _).mono ?_
            rintro r w11 ⟨rfl, rfl⟩
            go_wp2_with fail
            refine hK.out _ _ (by first | exact True.intro) (fun hHeld => ?_)
            replace hH := Lib.hid hHeld
            clear hK K hHeld
            try simp only [Act.put, sA, sB, sC]
            refine rdy (i := 10) (oi := ⟨none, .store 9 (.tmp 15) (.tmp 8), 0, "law.go:27", #[⟨9, .data⟩, ⟨2, .data⟩, ⟨8, .chain⟩, ⟨0, .phase⟩, ⟨1, .phase⟩, ⟨2, .phase⟩, ⟨3, .phase⟩, ⟨4, .phase⟩, { on := 5, ground := Go.Ground.textOnly Go.Departure.lateStoresUnsure }, ⟨6, .phase⟩, ⟨7, .phase⟩, { on := 8, ground := Go.Ground.textOnly Go.Departure.lateStoresUnsure }], none⟩) (fun K hK => ?_)
            go_simp
            refine hK.out _ _ (by first | exact True.intro) (fun hHeld => ?_)
            replace hH := Lib.hid hHeld
            clear hK K hHeld
            try simp only [Act.put]
            refine tk (i := 11) (oi := ⟨some 16, .fieldAddr 28 (.tmp 1) 10, 0, "law.go:27", #[⟨0, .phase⟩, ⟨1, .phase⟩, ⟨2, .phase⟩, ⟨3, .phase⟩, ⟨4, .phase⟩, ⟨5, .phase⟩, ⟨6, .phase⟩, ⟨7, .phase⟩, { on := 8, ground := Go.Ground.textOnly Go.Departure.lateStoresUnsure }, ⟨9, .phase⟩, ⟨10, .phase⟩], none⟩) hH.out (by rintro w s0; go_simp <;> with_reducible rfl) ?_
            simp only [Act.put, sA, sB, sC]
            refine rdy (i := 12) (oi := ⟨none, .store 9 (.tmp 16) (.tmp 11), 0, "law.go:27", #[⟨11, .data⟩, ⟨5, .data⟩, ⟨10, .chain⟩, ⟨0, .phase⟩, ⟨1, .phase⟩, ⟨2, .phase⟩, ⟨3, .phase⟩, ⟨4, .phase⟩, ⟨5, .phase⟩, ⟨6, .phase⟩, ⟨7, .phase⟩, { on := 8, ground := Go.Ground.textOnly Go.Departure.lateStoresUnsure }, ⟨9, .phase⟩, ⟨10, .phase⟩], none⟩) (fun K hK => ?_)
            go_simp
            refine hK.out _ _ (by first | exact True.intro) (fun hHeld => ?_)
            replace hH := Lib.hid hHeld
            clear hK K hHeld
            try simp only [Act.put]
            refine tk (i := 13) (oi := ⟨some 17, .fieldAddr 28 (.tmp 1) 13, 0, "law.go:27", #[⟨0, .phase⟩, ⟨1, .phase⟩, ⟨2, .phase⟩, ⟨3, .phase⟩, ⟨4, .phase⟩, ⟨5, .phase⟩, ⟨6, .phase⟩, ⟨7, .phase⟩, ⟨8, .phase⟩, ⟨9, .phase⟩, ⟨10, .phase⟩, ⟨11, .phase⟩, ⟨12, .phase⟩], none⟩) hH.out (by rintro w s0; go_simp <;> with_reducible rfl) ?_
            simp only [Act.put, sA, sB, sC]
            refine rdy (i := 14) (oi := ⟨none, .store 9 (.tmp 17) (.tmp 14), 0, "law.go:27", #[⟨13, .data⟩, ⟨8, .data⟩, ⟨12, .chain⟩, ⟨0, .phase⟩, ⟨1, .phase⟩, ⟨2, .phase⟩, ⟨3, .phase⟩, ⟨4, .phase⟩, ⟨5, .phase⟩, ⟨6, .phase⟩, ⟨7, .phase⟩, ⟨8, .phase⟩, ⟨9, .phase⟩, ⟨10, .phase⟩, ⟨11, .phase⟩, ⟨12, .phase⟩], none⟩) (fun K hK => ?_)
            go_simp
            refine hK.out _ _ (by first | exact True.intro) (fun hHeld => ?_)
            replace hH := Lib.hid hHeld
            clear hK K hHeld
            try simp only [Act.put]
            refine wpAnyH_done (by kernel_rfl) ?_ _
            go_wp2_with fail
            go_meet
            exact ⟨rfl, HV.out.symm⟩
          · go_simp
            refine hK.out _ _ (by first | exact True.intro) (fun hHeld => ?_)
            replace hH := Lib.hid hHeld
            clear hK K hHeld
            try simp only [Act.put, sA, sB, sC]
            refine tk (i := 9) (oi := ⟨some 15, .fieldAddr 28 (.tmp 1) 9, 0, "law.go:27", #[⟨0, .phase⟩, ⟨1, .phase⟩, ⟨2, .phase⟩, ⟨3, .phase⟩, ⟨4, .phase⟩, { on := 5, ground := Go.Ground.textOnly Go.Departure.lateStoresUnsure }, ⟨6, .phase⟩, ⟨7, .phase⟩, { on := 8, ground := Go.Ground.textOnly Go.Departure.lateStoresUnsure }], none⟩) hH.out (by rintro w s0; go_simp <;> with_reducible rfl) ?_
            simp only [Act.put, sA, sB, sC]
            refine rdy (i := 5) (oi := ⟨some 11, .call ⟨.value (.func 29), #[.tmp 10, .const (Go.Value.int Go.IntKind.i64 20)], #[9, 3]⟩, 9, "law.go:27", #[⟨4, .data⟩, ⟨2, .chain⟩], none⟩) (fun K hK => ?_)
            go_simp
            refine (HO20.out _).mono ?_
            rintro r w11 ⟨rfl, rfl⟩
            go_wp2_with fail
            refine hK.out _ _ (by first | exact True.intro) (fun hHeld => ?_)
            replace hH := Lib.hid hHeld
            clear hK K hHeld
            try simp only [Act.put, sA, sB, sC]
            refine rdy (i := 8) (oi := ⟨some 14, .call ⟨.value (.func 29), #[.tmp 13, .const (Go.Value.int Go.IntKind.i64 70)], #[9, 3]⟩, 9, "law.go:27", #[⟨7, .data⟩, ⟨5, .chain⟩], none⟩) (fun K hK => ?_)
            go_simp
            refine (HS70.out _).mono ?_
            rintro r w11 ⟨rfl, rfl⟩
            go_wp2_with fail
            refine hK.out _ _ (by first | exact True.intro) (fun hHeld => ?_)
            replace hH := Lib.hid hHeld
            clear hK K hHeld
            try simp only [Act.put, sA, sB, sC]
            refine rdy (i := 10) (oi := ⟨none, .store 9 (.tmp 15) (.tmp 8), 0, "law.go:27", #[⟨9, .data⟩, ⟨2, .data⟩, ⟨8, .chain⟩, ⟨0, .phase⟩, ⟨1, .phase⟩, ⟨2, .phase⟩, ⟨3, .phase⟩, ⟨4, .phase⟩, { on := 5, ground := Go.Ground.textOnly Go.Departure.lateStoresUnsure }, ⟨6, .phase⟩, ⟨7, .phase⟩, { on := 8, ground := Go.Ground.textOnly Go.Departure.lateStoresUnsure }], none⟩) (fun K hK => ?_)
            go_simp
            refine hK.out _ _ (by first | exact True.intro) (fun hHeld => ?_)
            replace hH := Lib.hid hHeld
            clear hK K hHeld
            try simp only [Act.put]
            refine tk (i := 11) (oi := ⟨some 16, .fieldAddr 28 (.tmp 1) 10, 0, "law.go:27", #[⟨0, .phase⟩, ⟨1, .phase⟩, ⟨2, .phase⟩, ⟨3, .phase⟩, ⟨4, .phase⟩, ⟨5, .phase⟩, ⟨6, .phase⟩, ⟨7, .phase⟩, { on := 8, ground := Go.Ground.textOnly Go.Departure.lateStoresUnsure }, ⟨9, .phase⟩, ⟨10, .phase⟩], none⟩) hH.out (by rintro w s0; go_simp <;> with_reducible rfl) ?_
            simp only [Act.put, sA, sB, sC]
            refine rdy (i := 12) (oi := ⟨none, .store 9 (.tmp 16) (.tmp 11), 0, "law.go:27", #[⟨11, .data⟩, ⟨5, .data⟩, ⟨10, .chain⟩, ⟨0, .phase⟩, ⟨1, .phase⟩, ⟨2, .phase⟩, ⟨3, .phase⟩, ⟨4, .phase⟩, ⟨5, .phase⟩, ⟨6, .phase⟩, ⟨7, .phase⟩, { on := 8, ground := Go.Ground.textOnly Go.Departure.lateStoresUnsure }, ⟨9, .phase⟩, ⟨10, .phase⟩], none⟩) (fun K hK => ?_)
            go_simp
            refine hK.out _ _ (by first | exact True.intro) (fun hHeld => ?_)
            replace hH := Lib.hid hHeld
            clear hK K hHeld
            try simp only [Act.put]
            refine tk (i := 13) (oi := ⟨some 17, .fieldAddr 28 (.tmp 1) 13, 0, "law.go:27", #[⟨0, .phase⟩, ⟨1, .phase⟩, ⟨2, .phase⟩, ⟨3, .phase⟩, ⟨4, .phase⟩, ⟨5, .phase⟩, ⟨6, .phase⟩, ⟨7, .phase⟩, ⟨8, .phase⟩, ⟨9, .phase⟩, ⟨10, .phase⟩, ⟨11, .phase⟩, ⟨12, .phase⟩], none⟩) hH.out (by rintro w s0; go_simp <;> with_reducible rfl) ?_
            simp only [Act.put, sA, sB, sC]
            refine rdy (i := 14) (oi := ⟨none, .store 9 (.tmp 17) (.tmp 14), 0, "law.go:27", #[⟨13, .data⟩, ⟨8, .data⟩, ⟨12, .chain⟩, ⟨0, .phase⟩, ⟨1, .phase⟩, ⟨2, .phase⟩, ⟨3, .phase⟩, ⟨4, .phase⟩, ⟨5, .phase⟩, ⟨6, .phase⟩, ⟨7, .phase⟩, ⟨8, .phase⟩, ⟨9, .phase⟩, ⟨10, .phase⟩, ⟨11, .phase⟩, ⟨12, .phase⟩], none⟩) (fun K hK => ?_)
            go_simp
            refine hK.out _ _ (by first | exact True.intro) (fun hHeld => ?_)
            replace hH := Lib.hid hHeld
            clear hK K hHeld
            try simp only [Act.put]
            refine wpAnyH_done (by kernel_rfl) ?_ _
            go_wp2_with fail
            go_meet
            exact ⟨rfl, HV.out.symm⟩
        · go_simp
          refine hK.out _ _ (by first | exact True.intro) (fun hHeld => ?_)
          replace hH := Lib.hid hHeld
          clear hK K hHeld
          try simp only [Act.put, sA, sB, sC]
          refine rdy (i := 2) (oi := ⟨some 8, .call ⟨.value (.func 29), #[.tmp 7, .const (Go.Value.int Go.IntKind.i64 20)], #[9, 3]⟩, 9, "law.go:27", #[⟨1, .data⟩], none⟩) (fun K hK => ?_)
          go_simp
          refine (HS20.out _).mono ?_
          rintro r w11 ⟨rfl, rfl⟩
          go_wp2_with fail
          refine hK.out _ _ (by first | exact True.intro) (fun hHeld => ?_)
          replace hH := Lib.hid hHeld
          clear hK K hHeld
          try simp only [Act.put, sA, sB, sC]
          refine tk (i := 9) (oi := ⟨some 15, .fieldAddr 28 (.tmp 1) 9, 0, "law.go:27", #[⟨0, .phase⟩, ⟨1, .phase⟩, ⟨2, .phase⟩, ⟨3, .phase⟩, ⟨4, .phase⟩, { on := 5, ground := Go.Ground.textOnly Go.Departure.lateStoresUnsure }, ⟨6, .phase⟩, ⟨7, .phase⟩, { on := 8, ground := Go.Ground.textOnly Go.Departure.lateStoresUnsure }], none⟩) hH.out (by rintro w s0; go_simp <;> with_reducible rfl) ?_
          simp only [Act.put, sA, sB, sC]
          refine rdy (i := 5) (oi := ⟨some 11, .call ⟨.value (.func 29), #[.tmp 10, .const (Go.Value.int Go.IntKind.i64 20)], #[9, 3]⟩, 9, "law.go:27", #[⟨4, .data⟩, ⟨2, .chain⟩], none⟩) (fun K hK => ?_)
          go_simp
          refine (HO20.out _).mono ?_
          rintro r w11 ⟨rfl, rfl⟩
          go_wp2_with fail
          refine hK.out _ _ (by first | exact True.intro) (fun hHeld => ?_)
          replace hH := Lib.hid hHeld
          clear hK K hHeld
          try simp only [Act.put, sA, sB, sC]
          refine rdy (i := 8) (oi := ⟨some 14, .call ⟨.value (.func 29), #[.tmp 13, .const (Go.Value.int Go.IntKind.i64 70)], #[9, 3]⟩, 9, "law.go:27", #[⟨7, .data⟩, ⟨5, .chain⟩], none⟩) (fun K hK => ?_)
          go_simp
          refine (HS70.out _).mono ?_
          rintro r w11 ⟨rfl, rfl⟩
          go_wp2_with fail
          refine hK.out _ _ (by first | exact True.intro) (fun hHeld => ?_)
          replace hH := Lib.hid hHeld
          clear hK K hHeld
          try simp only [Act.put, sA, sB, sC]
          refine rdy (i := 10) (oi := ⟨none, .store 9 (.tmp 15) (.tmp 8), 0, "law.go:27", #[⟨9, .data⟩, ⟨2, .data⟩, ⟨8, .chain⟩, ⟨0, .phase⟩, ⟨1, .phase⟩, ⟨2, .phase⟩, ⟨3, .phase⟩, ⟨4, .phase⟩, { on := 5, ground := Go.Ground.textOnly Go.Departure.lateStoresUnsure }, ⟨6, .phase⟩, ⟨7, .phase⟩, { on := 8, ground := Go.Ground.textOnly Go.Departure.lateStoresUnsure }], none⟩) (fun K hK => ?_)
          go_simp
          refine hK.out _ _ (by first | exact True.intro) (fun hHeld => ?_)
          replace hH := Lib.hid hHeld
          clear hK K hHeld
          try simp only [Act.put]
          refine tk (i := 11) (oi := ⟨some 16, .fieldAddr 28 (.tmp 1) 10, 0, "law.go:27", #[⟨0, .phase⟩, ⟨1, .phase⟩, ⟨2, .phase⟩, ⟨3, .phase⟩, ⟨4, .phase⟩, ⟨5, .phase⟩, ⟨6, .phase⟩, ⟨7, .phase⟩, { on := 8, ground := Go.Ground.textOnly Go.Departure.lateStoresUnsure }, ⟨9, .phase⟩, ⟨10, .phase⟩], none⟩) hH.out (by rintro w s0; go_simp <;> with_reducible rfl) ?_
          simp only [Act.put, sA, sB, sC]
          refine rdy (i := 12) (oi := ⟨none, .store 9 (.tmp 16) (.tmp 11), 0, "law.go:27", #[⟨11, .data⟩, ⟨5, .data⟩, ⟨10, .chain⟩, ⟨0, .phase⟩, ⟨1, .phase⟩, ⟨2, .phase⟩, ⟨3, .phase⟩, ⟨4, .phase⟩, ⟨5, .phase⟩, ⟨6, .phase⟩, ⟨7, .phase⟩, { on := 8, ground := Go.Ground.textOnly Go.Departure.lateStoresUnsure }, ⟨9, .phase⟩, ⟨10, .phase⟩], none⟩) (fun K hK => ?_)
          go_simp
          refine hK.out _ _ (by first | exact True.intro) (fun hHeld => ?_)
          replace hH := Lib.hid hHeld
          clear hK K hHeld
          try simp only [Act.put]
          refine tk (i := 13) (oi := ⟨some 17, .fieldAddr 28 (.tmp 1) 13, 0, "law.go:27", #[⟨0, .phase⟩, ⟨1, .phase⟩, ⟨2, .phase⟩, ⟨3, .phase⟩, ⟨4, .phase⟩, ⟨5, .phase⟩, ⟨6, .phase⟩, ⟨7, .phase⟩, ⟨8, .phase⟩, ⟨9, .phase⟩, ⟨10, .phase⟩, ⟨11, .phase⟩, ⟨12, .phase⟩], none⟩) hH.out (by rintro w s0; go_simp <;> with_reducible rfl) ?_
          simp only [Act.put, sA, sB, sC]
          refine rdy (i := 14) (oi := ⟨none, .store 9 (.tmp 17) (.tmp 14), 0, "law.go:27", #[⟨13, .data⟩, ⟨8, .data⟩, ⟨12, .chain⟩, ⟨0, .phase⟩, ⟨1, .phase⟩, ⟨2, .phase⟩, ⟨3, .phase⟩, ⟨4, .phase⟩, ⟨5, .phase⟩, ⟨6, .phase⟩, ⟨7, .phase⟩, ⟨8, .phase⟩, ⟨9, .phase⟩, ⟨10, .phase⟩, ⟨11, .phase⟩, ⟨12, .phase⟩], none⟩) (fun K hK => ?_)
          go_simp
          refine hK.out _ _ (by first | exact True.intro) (fun hHeld => ?_)
          replace hH := Lib.hid hHeld
          clear hK K hHeld
          try simp only [Act.put]
          refine wpAnyH_done (by kernel_rfl) ?_ _
          go_wp2_with fail
          go_meet
          exact ⟨rfl, HV.out.symm⟩
      · go_simp
        refine hK.out _ _ (by first | exact True.intro) (fun hHeld => ?_)
        replace hH := Lib.hid hHeld
        clear hK K hHeld
        try simp only [Act.put, sA, sB, sC]
        refine wpAnyH_ready (rs := [2, 4]) (by kernel_rfl) (by simp) ?_
        refine AllReadyH.cons (o := ⟨some 8, .call ⟨.value (.func 29), #[.tmp 7, .const (Go.Value.int Go.IntKind.i64 20)], #[9, 3]⟩, 9, "law.go:27", #[⟨1, .data⟩], none⟩) rfl (fun K hK => ?_) (AllReadyH.cons (o := ⟨some 10, .load 9 (.tmp 9), 9, "law.go:27", #[⟨3, .data⟩], none⟩) rfl (fun K hK => ?_) (AllReadyH.nil))
        · go_simp
          refine (HS20.out _).mono ?_
          rintro r w11 ⟨rfl, rfl⟩
          go_wp2_with fail
          refine hK.out _ _ (by first | exact True.intro) (fun hHeld => ?_)
          replace hH := Lib.hid hHeld
          clear hK K hHeld
          try simp only [Act.put, sA, sB, sC]
          refine rdy (i := 4) (oi := ⟨some 10, .load 9 (.tmp 9), 9, "law.go:27", #[⟨3, .data⟩], none⟩) (fun K hK => ?_)
          go_simp
          refine hK.out _ _ (by first | exact True.intro) (fun hHeld => ?_)
          replace hH := Lib.hid hHeld
          clear hK K hHeld
          try simp only [Act.put, sA, sB, sC]
          refine tk (i := 9) (oi := ⟨some 15, .fieldAddr 28 (.tmp 1) 9, 0, "law.go:27", #[⟨0, .phase⟩, ⟨1, .phase⟩, ⟨2, .phase⟩, ⟨3, .phase⟩, ⟨4, .phase⟩, { on := 5, ground := Go.Ground.textOnly Go.Departure.lateStoresUnsure }, ⟨6, .phase⟩, ⟨7, .phase⟩, { on := 8, ground := Go.Ground.textOnly Go.Departure.lateStoresUnsure }], none⟩) hH.out (by rintro w s0; go_simp <;> with_reducible rfl) ?_
          simp only [Act.put, sA, sB, sC]
          refine rdy (i := 5) (oi := ⟨some 11, .call ⟨.value (.func 29), #[.tmp 10, .const (Go.Value.int Go.IntKind.i64 20)], #[9, 3]⟩, 9, "law.go:27", #[⟨4, .data⟩, ⟨2, .chain⟩], none⟩) (fun K hK => ?_)
          go_simp
          refine (HO20.out _).mono ?_
          rintro r w11 ⟨rfl, rfl⟩
          go_wp2_with fail
          refine hK.out _ _ (by first | exact True.intro) (fun hHeld => ?_)
          replace hH := Lib.hid hHeld
          clear hK K hHeld
          try simp only [Act.put, sA, sB, sC]
          refine rdy (i := 8) (oi := ⟨some 14, .call ⟨.value (.func 29), #[.tmp 13, .const (Go.Value.int Go.IntKind.i64 70)], #[9, 3]⟩, 9, "law.go:27", #[⟨7, .data⟩, ⟨5, .chain⟩], none⟩) (fun K hK => ?_)
          go_simp
          refine (HS70.out _).mono ?_
          rintro r w11 ⟨rfl, rfl⟩
          go_wp2_with fail
          refine hK.out _ _ (by first | exact True.intro) (fun hHeld => ?_)
          replace hH := Lib.hid hHeld
          clear hK K hHeld
          try simp only [Act.put, sA, sB, sC]
          refine rdy (i := 10) (oi := ⟨none, .store 9 (.tmp 15) (.tmp 8), 0, "law.go:27", #[⟨9, .data⟩, ⟨2, .data⟩, ⟨8, .chain⟩, ⟨0, .phase⟩, ⟨1, .phase⟩, ⟨2, .phase⟩, ⟨3, .phase⟩, ⟨4, .phase⟩, { on := 5, ground := Go.Ground.textOnly Go.Departure.lateStoresUnsure }, ⟨6, .phase⟩, ⟨7, .phase⟩, { on := 8, ground := Go.Ground.textOnly Go.Departure.lateStoresUnsure }], none⟩) (fun K hK => ?_)
          go_simp
          refine hK.out _ _ (by first | exact True.intro) (fun hHeld => ?_)
          replace hH := Lib.hid hHeld
          clear hK K hHeld
          try simp only [Act.put]
          refine tk (i := 11) (oi := ⟨some 16, .fieldAddr 28 (.tmp 1) 10, 0, "law.go:27", #[⟨0, .phase⟩, ⟨1, .phase⟩, ⟨2, .phase⟩, ⟨3, .phase⟩, ⟨4, .phase⟩, ⟨5, .phase⟩, ⟨6, .phase⟩, ⟨7, .phase⟩, { on := 8, ground := Go.Ground.textOnly Go.Departure.lateStoresUnsure }, ⟨9, .phase⟩, ⟨10, .phase⟩], none⟩) hH.out (by rintro w s0; go_simp <;> with_reducible rfl) ?_
          simp only [Act.put, sA, sB, sC]
          refine rdy (i := 12) (oi := ⟨none, .store 9 (.tmp 16) (.tmp 11), 0, "law.go:27", #[⟨11, .data⟩, ⟨5, .data⟩, ⟨10, .chain⟩, ⟨0, .phase⟩, ⟨1, .phase⟩, ⟨2, .phase⟩, ⟨3, .phase⟩, ⟨4, .phase⟩, ⟨5, .phase⟩, ⟨6, .phase⟩, ⟨7, .phase⟩, { on := 8, ground := Go.Ground.textOnly Go.Departure.lateStoresUnsure }, ⟨9, .phase⟩, ⟨10, .phase⟩], none⟩) (fun K hK => ?_)
          go_simp
          refine hK.out _ _ (by first | exact True.intro) (fun hHeld => ?_)
          replace hH := Lib.hid hHeld
          clear hK K hHeld
          try simp only [Act.put]
          refine tk (i := 13) (oi := ⟨some 17, .fieldAddr 28 (.tmp 1) 13, 0, "law.go:27", #[⟨0, .phase⟩, ⟨1, .phase⟩, ⟨2, .phase⟩, ⟨3, .phase⟩, ⟨4, .phase⟩, ⟨5, .phase⟩, ⟨6, .phase⟩, ⟨7, .phase⟩, ⟨8, .phase⟩, ⟨9, .phase⟩, ⟨10, .phase⟩, ⟨11, .phase⟩, ⟨12, .phase⟩], none⟩) hH.out (by rintro w s0; go_simp <;> with_reducible rfl) ?_
          simp only [Act.put, sA, sB, sC]
          refine rdy (i := 14) (oi := ⟨none, .store 9 (.tmp 17) (.tmp 14), 0, "law.go:27", #[⟨13, .data⟩, ⟨8, .data⟩, ⟨12, .chain⟩, ⟨0, .phase⟩, ⟨1, .phase⟩, ⟨2, .phase⟩, ⟨3, .phase⟩, ⟨4, .phase⟩, ⟨5, .phase⟩, ⟨6, .phase⟩, ⟨7, .phase⟩, ⟨8, .phase⟩, ⟨9, .phase⟩, ⟨10, .phase⟩, ⟨11, .phase⟩, ⟨12, .phase⟩], none⟩) (fun K hK => ?_)
          go_simp
          refine hK.out _ _ (by first | exact True.intro) (fun hHeld => ?_)
          replace hH := Lib.hid hHeld
          clear hK K hHeld
          try simp only [Act.put]
          refine wpAnyH_done (by kernel_rfl) ?_ _
          go_wp2_with fail
          go_meet
          exact ⟨rfl, HV.out.symm⟩
        · go_simp
          refine hK.out _ _ (by first | exact True.intro) (fun hHeld => ?_)
          replace hH := Lib.hid hHeld
          clear hK K hHeld
          try simp only [Act.put, sA, sB, sC]
          refine rdy (i := 2) (oi := ⟨some 8, .call ⟨.value (.func 29), #[.tmp 7, .const (Go.Value.int Go.IntKind.i64 20)], #[9, 3]⟩, 9, "law.go:27", #[⟨1, .data⟩], none⟩) (fun K hK => ?_)
          go_simp
          refine (HS20.out _).mono ?_
          rintro r w11 ⟨rfl, rfl⟩
          go_wp2_with fail
          refine hK.out _ _ (by first | exact True.intro) (fun hHeld => ?_)
          replace hH := Lib.hid hHeld
          clear hK K hHeld
          try simp only [Act.put, sA, sB, sC]
          refine tk (i := 9) (oi := ⟨some 15, .fieldAddr 28 (.tmp 1) 9, 0, "law.go:27", #[⟨0, .phase⟩, ⟨1, .phase⟩, ⟨2, .phase⟩, ⟨3, .phase⟩, ⟨4, .phase⟩, { on := 5, ground := Go.Ground.textOnly Go.Departure.lateStoresUnsure }, ⟨6, .phase⟩, ⟨7, .phase⟩, { on := 8, ground := Go.Ground.textOnly Go.Departure.lateStoresUnsure }], none⟩) hH.out (by rintro w s0; go_simp <;> with_reducible rfl) ?_
          simp only [Act.put, sA, sB, sC]
          refine rdy (i := 5) (oi := ⟨some 11, .call ⟨.value (.func 29), #[.tmp 10, .const (Go.Value.int Go.IntKind.i64 20)], #[9, 3]⟩, 9, "law.go:27", #[⟨4, .data⟩, ⟨2, .chain⟩], none⟩) (fun K hK => ?_)
          go_simp
          refine (HO20.out _).mono ?_
          rintro r w11 ⟨rfl, rfl⟩
          go_wp2_with fail
          refine hK.out _ _ (by first | exact True.intro) (fun hHeld => ?_)
          replace hH := Lib.hid hHeld
          clear hK K hHeld
          try simp only [Act.put, sA, sB, sC]
          refine rdy (i := 8) (oi := ⟨some 14, .call ⟨.value (.func 29), #[.tmp 13, .const (Go.Value.int Go.IntKind.i64 70)], #[9, 3]⟩, 9, "law.go:27", #[⟨7, .data⟩, ⟨5, .chain⟩], none⟩) (fun K hK => ?_)
          go_simp
          refine (HS70.out _).mono ?_
          rintro r w11 ⟨rfl, rfl⟩
          go_wp2_with fail
          refine hK.out _ _ (by first | exact True.intro) (fun hHeld => ?_)
          replace hH := Lib.hid hHeld
          clear hK K hHeld
          try simp only [Act.put, sA, sB, sC]
          refine rdy (i := 10) (oi := ⟨none, .store 9 (.tmp 15) (.tmp 8), 0, "law.go:27", #[⟨9, .data⟩, ⟨2, .data⟩, ⟨8, .chain⟩, ⟨0, .phase⟩, ⟨1, .phase⟩, ⟨2, .phase⟩, ⟨3, .phase⟩, ⟨4, .phase⟩, { on := 5, ground := Go.Ground.textOnly Go.Departure.lateStoresUnsure }, ⟨6, .phase⟩, ⟨7, .phase⟩, { on := 8, ground := Go.Ground.textOnly Go.Departure.lateStoresUnsure }], none⟩) (fun K hK => ?_)
          go_simp
          refine hK.out _ _ (by first | exact True.intro) (fun hHeld => ?_)
          replace hH := Lib.hid hHeld
          clear hK K hHeld
          try simp only [Act.put]
          refine tk (i := 11) (oi := ⟨some 16, .fieldAddr 28 (.tmp 1) 10, 0, "law.go:27", #[⟨0, .phase⟩, ⟨1, .phase⟩, ⟨2, .phase⟩, ⟨3, .phase⟩, ⟨4, .phase⟩, ⟨5, .phase⟩, ⟨6, .phase⟩, ⟨7, .phase⟩, { on := 8, ground := Go.Ground.textOnly Go.Departure.lateStoresUnsure }, ⟨9, .phase⟩, ⟨10, .phase⟩], none⟩) hH.out (by rintro w s0; go_simp <;> with_reducible rfl) ?_
          simp only [Act.put, sA, sB, sC]
          refine rdy (i := 12) (oi := ⟨none, .store 9 (.tmp 16) (.tmp 11), 0, "law.go:27", #[⟨11, .data⟩, ⟨5, .data⟩, ⟨10, .chain⟩, ⟨0, .phase⟩, ⟨1, .phase⟩, ⟨2, .phase⟩, ⟨3, .phase⟩, ⟨4, .phase⟩, ⟨5, .phase⟩, ⟨6, .phase⟩, ⟨7, .phase⟩, { on := 8, ground := Go.Ground.textOnly Go.Departure.lateStoresUnsure }, ⟨9, .phase⟩, ⟨10, .phase⟩], none⟩) (fun K hK => ?_)
          go_simp
          refine hK.out _ _ (by first | exact True.intro) (fun hHeld => ?_)
          replace hH := Lib.hid hHeld
          clear hK K hHeld
          try simp only [Act.put]
          refine tk (i := 13) (oi := ⟨some 17, .fieldAddr 28 (.tmp 1) 13, 0, "law.go:27", #[⟨0, .phase⟩, ⟨1, .phase⟩, ⟨2, .phase⟩, ⟨3, .phase⟩, ⟨4, .phase⟩, ⟨5, .phase⟩, ⟨6, .phase⟩, ⟨7, .phase⟩, ⟨8, .phase⟩, ⟨9, .phase⟩, ⟨10, .phase⟩, ⟨11, .phase⟩, ⟨12, .phase⟩], none⟩) hH.out (by rintro w s0; go_simp <;> with_reducible rfl) ?_
          simp only [Act.put, sA, sB, sC]
          refine rdy (i := 14) (oi := ⟨none, .store 9 (.tmp 17) (.tmp 14), 0, "law.go:27", #[⟨13, .data⟩, ⟨8, .data⟩, ⟨12, .chain⟩, ⟨0, .phase⟩, ⟨1, .phase⟩, ⟨2, .phase⟩, ⟨3, .phase⟩, ⟨4, .phase⟩, ⟨5, .phase⟩, ⟨6, .phase⟩, ⟨7, .phase⟩, ⟨8, .phase⟩, ⟨9, .phase⟩, ⟨10, .phase⟩, ⟨11, .phase⟩, ⟨12, .phase⟩], none⟩) (fun K hK => ?_)
          go_simp
          refine hK.out _ _ (by first | exact True.intro) (fun hHeld => ?_)
          replace hH := Lib.hid hHeld
          clear hK K hHeld
          try simp only [Act.put]
          refine wpAnyH_done (by kernel_rfl) ?_ _
          go_wp2_with fail
          go_meet
          exact ⟨rfl, HV.out.symm⟩
    · go_simp
      refine hK.out _ _ (by first | exact True.intro) (fun hHeld => ?_)
      replace hH := Lib.hid hHeld
      clear hK K hHeld
      try simp only [Act.put, sA, sB, sC]
      refine wpAnyH_ready (rs := [1, 7]) (by kernel_rfl) (by simp) ?_
      refine AllReadyH.cons (o := ⟨some 7, .load 9 (.tmp 6), 9, "law.go:27", #[⟨0, .data⟩], none⟩) rfl (fun K hK => ?_) (AllReadyH.cons (o := ⟨some 13, .load 9 (.tmp 12), 9, "law.go:27", #[⟨6, .data⟩], none⟩) rfl (fun K hK => ?_) (AllReadyH.nil))
      · go_simp
        refine hK.out _ _ (by first | exact True.intro) (fun hHeld => ?_)
        replace hH := Lib.hid hHeld
        clear hK K hHeld
        try simp only [Act.put, sA, sB, sC]
        refine wpAnyH_ready (rs := [2, 7]) (by kernel_rfl) (by simp) ?_
        refine AllReadyH.cons (o := ⟨some 8, .call ⟨.value (.func 29), #[.tmp 7, .const (Go.Value.int Go.IntKind.i64 20)], #[9, 3]⟩, 9, "law.go:27", #[⟨1, .data⟩], none⟩) rfl (fun K hK => ?_) (AllReadyH.cons (o := ⟨some 13, .load 9 (.tmp 12), 9, "law.go:27", #[⟨6, .data⟩], none⟩) rfl (fun K hK => ?_) (AllReadyH.nil))
        · go_simp
          refine (HS20.out _).mono ?_
          rintro r w11 ⟨rfl, rfl⟩
          go_wp2_with fail
          refine hK.out _ _ (by first | exact True.intro) (fun hHeld => ?_)
          replace hH := Lib.hid hHeld
          clear hK K hHeld
          try simp only [Act.put, sA, sB, sC]
          refine wpAnyH_ready (rs := [5, 7]) (by kernel_rfl) (by simp) ?_
          refine AllReadyH.cons (o := ⟨some 11, .call ⟨.value (.func 29), #[.tmp 10, .const (Go.Value.int Go.IntKind.i64 20)], #[9, 3]⟩, 9, "law.go:27", #[⟨4, .data⟩, ⟨2, .chain⟩], none⟩) rfl (fun K hK => ?_) (AllReadyH.cons (o := ⟨some 13, .load 9 (.tmp 12), 9, "law.go:27", #[⟨6, .data⟩], none⟩) rfl (fun K hK => ?_) (AllReadyH.nil))
          · go_simp
            refine (HO20.out _).mono ?_
            rintro r w11 ⟨rfl, rfl⟩
            go_wp2_with fail
            refine hK.out _ _ (by first | exact True.intro) (fun hHeld => ?_)
            replace hH := Lib.hid hHeld
            clear hK K hHeld
            try simp only [Act.put, sA, sB, sC]
            refine rdy (i := 7) (oi := ⟨some 13, .load 9 (.tmp 12), 9, "law.go:27", #[⟨6, .data⟩], none⟩) (fun K hK => ?_)
            go_simp
            refine hK.out _ _ (by first | exact True.intro) (fun hHeld => ?_)
            replace hH := Lib.hid hHeld
            clear hK K hHeld
            try simp only [Act.put, sA, sB, sC]
            refine tk (i := 9) (oi := ⟨some 15, .fieldAddr 28 (.tmp 1) 9, 0, "law.go:27", #[⟨0, .phase⟩, ⟨1, .phase⟩, ⟨2, .phase⟩, ⟨3, .phase⟩, ⟨4, .phase⟩, { on := 5, ground := Go.Ground.textOnly Go.Departure.lateStoresUnsure }, ⟨6, .phase⟩, ⟨7, .phase⟩, { on := 8, ground := Go.Ground.textOnly Go.Departure.lateStoresUnsure }], none⟩) hH.out (by rintro w s0; go_simp <;> with_reducible rfl) ?_
            simp only [Act.put, sA, sB, sC]
            refine rdy (i := 8) (oi := ⟨some 14, .call ⟨.value (.func 29), #[.tmp 13, .const (Go.Value.int Go.IntKind.i64 70)], #[9, 3]⟩, 9, "law.go:27", #[⟨7, .data⟩, ⟨5, .chain⟩], none⟩) (fun K hK => ?_)
            go_simp
            refine (HS70.out _).mono ?_
            rintro r w11 ⟨rfl, rfl⟩
            go_wp2_with fail
            refine hK.out _ _ (by first | exact True.intro) (fun hHeld => ?_)
            replace hH := Lib.hid hHeld
            clear hK K hHeld
            try simp only [Act.put, sA, sB, sC]
            refine rdy (i := 10) (oi := ⟨none, .store 9 (.tmp 15) (.tmp 8), 0, "law.go:27", #[⟨9, .data⟩, ⟨2, .data⟩, ⟨8, .chain⟩, ⟨0, .phase⟩, ⟨1, .phase⟩, ⟨2, .phase⟩, ⟨3, .phase⟩, ⟨4, .phase⟩, { on := 5, ground := Go.Ground.textOnly Go.Departure.lateStoresUnsure }, ⟨6, .phase⟩, ⟨7, .phase⟩, { on := 8, ground := Go.Ground.textOnly Go.Departure.lateStoresUnsure }], none⟩) (fun K hK => ?_)
            go_simp
            refine hK.out _ _ (by first | exact True.intro) (fun hHeld => ?_)
            replace hH := Lib.hid hHeld
            clear hK K hHeld
            try simp only [Act.put]
            refine tk (i := 11) (oi := ⟨some 16, .fieldAddr 28 (.tmp 1) 10, 0, "law.go:27", #[⟨0, .phase⟩, ⟨1, .phase⟩, ⟨2, .phase⟩, ⟨3, .phase⟩, ⟨4, .phase⟩, ⟨5, .phase⟩, ⟨6, .phase⟩, ⟨7, .phase⟩, { on := 8, ground := Go.Ground.textOnly Go.Departure.lateStoresUnsure }, ⟨9, .phase⟩, ⟨10, .phase⟩], none⟩) hH.out (by rintro w s0; go_simp <;> with_reducible rfl) ?_
            simp only [Act.put, sA, sB, sC]
            refine rdy (i := 12) (oi := ⟨none, .store 9 (.tmp 16) (.tmp 11), 0, "law.go:27", #[⟨11, .data⟩, ⟨5, .data⟩, ⟨10, .chain⟩, ⟨0, .phase⟩, ⟨1, .phase⟩, ⟨2, .phase⟩, ⟨3, .phase⟩, ⟨4, .phase⟩, ⟨5, .phase⟩, ⟨6, .phase⟩, ⟨7, .phase⟩, { on := 8, ground := Go.Ground.textOnly Go.Departure.lateStoresUnsure }, ⟨9, .phase⟩, ⟨10, .phase⟩], none⟩) (fun K hK => ?_)
            go_simp
            refine hK.out _ _ (by first | exact True.intro) (fun hHeld => ?_)
            replace hH := Lib.hid hHeld
            clear hK K hHeld
            try simp only [Act.put]
            refine tk (i := 13) (oi := ⟨some 17, .fieldAddr 28 (.tmp 1) 13, 0, "law.go:27", #[⟨0, .phase⟩, ⟨1, .phase⟩, ⟨2, .phase⟩, ⟨3, .phase⟩, ⟨4, .phase⟩, ⟨5, .phase⟩, ⟨6, .phase⟩, ⟨7, .phase⟩, ⟨8, .phase⟩, ⟨9, .phase⟩, ⟨10, .phase⟩, ⟨11, .phase⟩, ⟨12, .phase⟩], none⟩) hH.out (by rintro w s0; go_simp <;> with_reducible rfl) ?_
            simp only [Act.put, sA, sB, sC]
            refine rdy (i := 14) (oi := ⟨none, .store 9 (.tmp 17) (.tmp 14), 0, "law.go:27", #[⟨13, .data⟩, ⟨8, .data⟩, ⟨12, .chain⟩, ⟨0, .phase⟩, ⟨1, .phase⟩, ⟨2, .phase⟩, ⟨3, .phase⟩, ⟨4, .phase⟩, ⟨5, .phase⟩, ⟨6, .phase⟩, ⟨7, .phase⟩, ⟨8, .phase⟩, ⟨9, .phase⟩, ⟨10, .phase⟩, ⟨11, .phase⟩, ⟨12, .phase⟩], none⟩) (fun K hK => ?_)
            go_simp
            refine hK.out _ _ (by first | exact True.intro) (fun hHeld => ?_)
            replace hH := Lib.hid hHeld
            clear hK K hHeld
            try simp only [Act.put]
            refine wpAnyH_done (by kernel_rfl) ?_ _
            go_wp2_with fail
            go_meet
            exact ⟨rfl, HV.out.symm⟩
          · go_simp
            refine hK.out _ _ (by first | exact True.intro) (fun hHeld => ?_)
            replace hH := Lib.hid hHeld
            clear hK K hHeld
            try simp only [Act.put, sA, sB, sC]
            refine tk (i := 9) (oi := ⟨some 15, .fieldAddr 28 (.tmp 1) 9, 0, "law.go:27", #[⟨0, .phase⟩, ⟨1, .phase⟩, ⟨2, .phase⟩, ⟨3, .phase⟩, ⟨4, .phase⟩, { on := 5, ground := Go.Ground.textOnly Go.Departure.lateStoresUnsure }, ⟨6, .phase⟩, ⟨7, .phase⟩, { on := 8, ground := Go.Ground.textOnly Go.Departure.lateStoresUnsure }], none⟩) hH.out (by rintro w s0; go_simp <;> with_reducible rfl) ?_
            simp only [Act.put, sA, sB, sC]
            refine rdy (i := 5) (oi := ⟨some 11, .call ⟨.value (.func 29), #[.tmp 10, .const (Go.Value.int Go.IntKind.i64 20)], #[9, 3]⟩, 9, "law.go:27", #[⟨4, .data⟩, ⟨2, .chain⟩], none⟩) (fun K hK => ?_)
            go_simp
            refine (HO20.out _).mono ?_
            rintro r w11 ⟨rfl, rfl⟩
            go_wp2_with fail
            refine hK.out _ _ (by first | exact True.intro) (fun hHeld => ?_)
            replace hH := Lib.hid hHeld
            clear hK K hHeld
            try simp only [Act.put, sA, sB, sC]
            refine rdy (i := 8) (oi := ⟨some 14, .call ⟨.value (.func 29), #[.tmp 13, .const (Go.Value.int Go.IntKind.i64 70)], #[9, 3]⟩, 9, "law.go:27", #[⟨7, .data⟩, ⟨5, .chain⟩], none⟩) (fun K hK => ?_)
            go_simp
            refine (HS70.out _).mono ?_
            rintro r w11 ⟨rfl, rfl⟩
            go_wp2_with fail
            refine hK.out _ _ (by first | exact True.intro) (fun hHeld => ?_)
            replace hH := Lib.hid hHeld
            clear hK K hHeld
            try simp only [Act.put, sA, sB, sC]
            refine rdy (i := 10) (oi := ⟨none, .store 9 (.tmp 15) (.tmp 8), 0, "law.go:27", #[⟨9, .data⟩, ⟨2, .data⟩, ⟨8, .chain⟩, ⟨0, .phase⟩, ⟨1, .phase⟩, ⟨2, .phase⟩, ⟨3, .phase⟩, ⟨4, .phase⟩, { on := 5, ground := Go.Ground.textOnly Go.Departure.lateStoresUnsure }, ⟨6, .phase⟩, ⟨7, .phase⟩, { on := 8, ground := Go.Ground.textOnly Go.Departure.lateStoresUnsure }], none⟩) (fun K hK => ?_)
            go_simp
            refine hK.out _ _ (by first | exact True.intro) (fun hHeld => ?_)
            replace hH := Lib.hid hHeld
            clear hK K hHeld
            try simp only [Act.put]
            refine tk (i := 11) (oi := ⟨some 16, .fieldAddr 28 (.tmp 1) 10, 0, "law.go:27", #[⟨0, .phase⟩, ⟨1, .phase⟩, ⟨2, .phase⟩, ⟨3, .phase⟩, ⟨4, .phase⟩, ⟨5, .phase⟩, ⟨6, .phase⟩, ⟨7, .phase⟩, { on := 8, ground := Go.Ground.textOnly Go.Departure.lateStoresUnsure }, ⟨9, .phase⟩, ⟨10, .phase⟩], none⟩) hH.out (by rintro w s0; go_simp <;> with_reducible rfl) ?_
            simp only [Act.put, sA, sB, sC]
            refine rdy (i := 12) (oi := ⟨none, .store 9 (.tmp 16) (.tmp 11), 0, "law.go:27", #[⟨11, .data⟩, ⟨5, .data⟩, ⟨10, .chain⟩, ⟨0, .phase⟩, ⟨1, .phase⟩, ⟨2, .phase⟩, ⟨3, .phase⟩, ⟨4, .phase⟩, ⟨5, .phase⟩, ⟨6, .phase⟩, ⟨7, .phase⟩, { on := 8, ground := Go.Ground.textOnly Go.Departure.lateStoresUnsure }, ⟨9, .phase⟩, ⟨10, .phase⟩], none⟩) (fun K hK => ?_)
            go_simp
            refine hK.out _ _ (by first | exact True.intro) (fun hHeld => ?_)
            replace hH := Lib.hid hHeld
            clear hK K hHeld
            try simp only [Act.put]
            refine tk (i := 13) (oi := ⟨some 17, .fieldAddr 28 (.tmp 1) 13, 0, "law.go:27", #[⟨0, .phase⟩, ⟨1, .phase⟩, ⟨2, .phase⟩, ⟨3, .phase⟩, ⟨4, .phase⟩, ⟨5, .phase⟩, ⟨6, .phase⟩, ⟨7, .phase⟩, ⟨8, .phase⟩, ⟨9, .phase⟩, ⟨10, .phase⟩, ⟨11, .phase⟩, ⟨12, .phase⟩], none⟩) hH.out (by rintro w s0; go_simp <;> with_reducible rfl) ?_
            simp only [Act.put, sA, sB, sC]
            refine rdy (i := 14) (oi := ⟨none, .store 9 (.tmp 17) (.tmp 14), 0, "law.go:27", #[⟨13, .data⟩, ⟨8, .data⟩, ⟨12, .chain⟩, ⟨0, .phase⟩, ⟨1, .phase⟩, ⟨2, .phase⟩, ⟨3, .phase⟩, ⟨4, .phase⟩, ⟨5, .phase⟩, ⟨6, .phase⟩, ⟨7, .phase⟩, ⟨8, .phase⟩, ⟨9, .phase⟩, ⟨10, .phase⟩, ⟨11, .phase⟩, ⟨12, .phase⟩], none⟩) (fun K hK => ?_)
            go_simp
            refine hK.out _ _ (by first | exact True.intro) (fun hHeld => ?_)
            replace hH := Lib.hid hHeld
            clear hK K hHeld
            try simp only [Act.put]
            refine wpAnyH_done (by kernel_rfl) ?_ _
            go_wp2_with fail
            go_meet
            exact ⟨rfl, HV.out.symm⟩
        · go_simp
          refine hK.out _ _ (by first | exact True.intro) (fun hHeld => ?_)
          replace hH := Lib.hid hHeld
          clear hK K hHeld
          try simp only [Act.put, sA, sB, sC]
          refine rdy (i := 2) (oi := ⟨some 8, .call ⟨.value (.func 29), #[.tmp 7, .const (Go.Value.int Go.IntKind.i64 20)], #[9, 3]⟩, 9, "law.go:27", #[⟨1, .data⟩], none⟩) (fun K hK => ?_)
          go_simp
          refine (HS20.out _).mono ?_
          rintro r w11 ⟨rfl, rfl⟩
          go_wp2_with fail
          refine hK.out _ _ (by first | exact True.intro) (fun hHeld => ?_)
          replace hH := Lib.hid hHeld
          clear hK K hHeld
          try simp only [Act.put, sA, sB, sC]
          refine tk (i := 9) (oi := ⟨some 15, .fieldAddr 28 (.tmp 1) 9, 0, "law.go:27", #[⟨0, .phase⟩, ⟨1, .phase⟩, ⟨2, .phase⟩, ⟨3, .phase⟩, ⟨4, .phase⟩, { on := 5, ground := Go.Ground.textOnly Go.Departure.lateStoresUnsure }, ⟨6, .phase⟩, ⟨7, .phase⟩, { on := 8, ground := Go.Ground.textOnly Go.Departure.lateStoresUnsure }], none⟩) hH.out (by rintro w s0; go_simp <;> with_reducible rfl) ?_
          simp only [Act.put, sA, sB, sC]
          refine rdy (i := 5) (oi := ⟨some 11, .call ⟨.value (.func 29), #[.tmp 10, .const (Go.Value.int Go.IntKind.i64 20)], #[9, 3]⟩, 9, "law.go:27", #[⟨4, .data⟩, ⟨2, .chain⟩], none⟩) (fun K hK => ?_)
          go_simp
          refine (HO20.out _).mono ?_
          rintro r w11 ⟨rfl, rfl⟩
          go_wp2_with fail
          refine hK.out _ _ (by first | exact True.intro) (fun hHeld => ?_)
          replace hH := Lib.hid hHeld
          clear hK K hHeld
          try simp only [Act.put, sA, sB, sC]
          refine rdy (i := 8) (oi := ⟨some 14, .call ⟨.value (.func 29), #[.tmp 13, .const (Go.Value.int Go.IntKind.i64 70)], #[9, 3]⟩, 9, "law.go:27", #[⟨7, .data⟩, ⟨5, .chain⟩], none⟩) (fun K hK => ?_)
          go_simp
          refine (HS70.out _).mono ?_
          rintro r w11 ⟨rfl, rfl⟩
          go_wp2_with fail
          refine hK.out _ _ (by first | exact True.intro) (fun hHeld => ?_)
          replace hH := Lib.hid hHeld
          clear hK K hHeld
          try simp only [Act.put, sA, sB, sC]
          refine rdy (i := 10) (oi := ⟨none, .store 9 (.tmp 15) (.tmp 8), 0, "law.go:27", #[⟨9, .data⟩, ⟨2, .data⟩, ⟨8, .chain⟩, ⟨0, .phase⟩, ⟨1, .phase⟩, ⟨2, .phase⟩, ⟨3, .phase⟩, ⟨4, .phase⟩, { on := 5, ground := Go.Ground.textOnly Go.Departure.lateStoresUnsure }, ⟨6, .phase⟩, ⟨7, .phase⟩, { on := 8, ground := Go.Ground.textOnly Go.Departure.lateStoresUnsure }], none⟩) (fun K hK => ?_)
          go_simp
          refine hK.out _ _ (by first | exact True.intro) (fun hHeld => ?_)
          replace hH := Lib.hid hHeld
          clear hK K hHeld
          try simp only [Act.put]
          refine tk (i := 11) (oi := ⟨some 16, .fieldAddr 28 (.tmp 1) 10, 0, "law.go:27", #[⟨0, .phase⟩, ⟨1, .phase⟩, ⟨2, .phase⟩, ⟨3, .phase⟩, ⟨4, .phase⟩, ⟨5, .phase⟩, ⟨6, .phase⟩, ⟨7, .phase⟩, { on := 8, ground := Go.Ground.textOnly Go.Departure.lateStoresUnsure }, ⟨9, .phase⟩, ⟨10, .phase⟩], none⟩) hH.out (by rintro w s0; go_simp <;> with_reducible rfl) ?_
          simp only [Act.put, sA, sB, sC]
          refine rdy (i := 12) (oi := ⟨none, .store 9 (.tmp 16) (.tmp 11), 0, "law.go:27", #[⟨11, .data⟩, ⟨5, .data⟩, ⟨10, .chain⟩, ⟨0, .phase⟩, ⟨1, .phase⟩, ⟨2, .phase⟩, ⟨3, .phase⟩, ⟨4, .phase⟩, ⟨5, .phase⟩, ⟨6, .phase⟩, ⟨7, .phase⟩, { on := 8, ground := Go.Ground.textOnly Go.Departure.lateStoresUnsure }, ⟨9, .phase⟩, ⟨10, .phase⟩], none⟩) (fun K hK => ?_)
          go_simp
          refine hK.out _ _ (by first | exact True.intro) (fun hHeld => ?_)
          replace hH := Lib.hid hHeld
          clear hK K hHeld
          try simp only [Act.put]
          refine tk (i := 13) (oi := ⟨some 17, .fieldAddr 28 (.tmp 1) 13, 0, "law.go:27", #[⟨0, .phase⟩, ⟨1, .phase⟩, ⟨2, .phase⟩, ⟨3, .phase⟩, ⟨4, .phase⟩, ⟨5, .phase⟩, ⟨6, .phase⟩, ⟨7, .phase⟩, ⟨8, .phase⟩, ⟨9, .phase⟩, ⟨10, .phase⟩, ⟨11, .phase⟩, ⟨12, .phase⟩], none⟩) hH.out (by rintro w s0; go_simp <;> with_reducible rfl) ?_
          simp only [Act.put, sA, sB, sC]
          refine rdy (i := 14) (oi := ⟨none, .store 9 (.tmp 17) (.tmp 14), 0, "law.go:27", #[⟨13, .data⟩, ⟨8, .data⟩, ⟨12, .chain⟩, ⟨0, .phase⟩, ⟨1, .phase⟩, ⟨2, .phase⟩, ⟨3, .phase⟩, ⟨4, .phase⟩, ⟨5, .phase⟩, ⟨6, .phase⟩, ⟨7, .phase⟩, ⟨8, .phase⟩, ⟨9, .phase⟩, ⟨10, .phase⟩, ⟨11, .phase⟩, ⟨12, .phase⟩], none⟩) (fun K hK => ?_)
          go_simp
          refine hK.out _ _ (by first | exact True.intro) (fun hHeld => ?_)
          replace hH := Lib.hid hHeld
          clear hK K hHeld
          try simp only [Act.put]
          refine wpAnyH_done (by kernel_rfl) ?_ _
          go_wp2_with fail
          go_meet
          exact ⟨rfl, HV.out.symm⟩
      · go_simp
        refine hK.out _ _ (by first | exact True.intro) (fun hHeld => ?_)
        replace hH := Lib.hid hHeld
        clear hK K hHeld
        try simp only [Act.put, sA, sB, sC]
        refine rdy (i := 1) (oi := ⟨some 7, .load 9 (.tmp 6), 9, "law.go:27", #[⟨0, .data⟩], none⟩) (fun K hK => ?_)
        go_simp
        refine hK.out _ _ (by first | exact True.intro) (fun hHeld => ?_)
        replace hH := Lib.hid hHeld
        clear hK K hHeld
        try simp only [Act.put, sA, sB, sC]
        refine rdy (i := 2) (oi := ⟨some 8, .call ⟨.value (.func 29), #[.tmp 7, .const (Go.Value.int Go.IntKind.i64 20)], #[9, 3]⟩, 9, "law.go:27", #[⟨1, .data⟩], none⟩) (fun K hK => ?_)
        go_simp
        refine (HS20.out _).mono ?_
        rintro r w11 ⟨rfl, rfl⟩
        go_wp2_with fail
        refine hK.out _ _ (by first | exact True.intro) (fun hHeld => ?_)
        replace hH := Lib.hid hHeld
        clear hK K hHeld
        try simp only [Act.put, sA, sB, sC]
        refine tk (i := 9) (oi := ⟨some 15, .fieldAddr 28 (.tmp 1) 9, 0, "law.go:27", #[⟨0, .phase⟩, ⟨1, .phase⟩, ⟨2, .phase⟩, ⟨3, .phase⟩, ⟨4, .phase⟩, { on := 5, ground := Go.Ground.textOnly Go.Departure.lateStoresUnsure }, ⟨6, .phase⟩, ⟨7, .phase⟩, { on := 8, ground := Go.Ground.textOnly Go.Departure.lateStoresUnsure }], none⟩) hH.out (by rintro w s0; go_simp <;> with_reducible rfl) ?_
        simp only [Act.put, sA, sB, sC]
        refine rdy (i := 5) (oi := ⟨some 11, .call ⟨.value (.func 29), #[.tmp 10, .const (Go.Value.int Go.IntKind.i64 20)], #[9, 3]⟩, 9, "law.go:27", #[⟨4, .data⟩, ⟨2, .chain⟩], none⟩) (fun K hK => ?_)
        go_simp
        refine (HO20.out _).mono ?_
        rintro r w11 ⟨rfl, rfl⟩
        go_wp2_with fail
        refine hK.out _ _ (by first | exact True.intro) (fun hHeld => ?_)
        replace hH := Lib.hid hHeld
        clear hK K hHeld
        try simp only [Act.put, sA, sB, sC]
        refine rdy (i := 8) (oi := ⟨some 14, .call ⟨.value (.func 29), #[.tmp 13, .const (Go.Value.int Go.IntKind.i64 70)], #[9, 3]⟩, 9, "law.go:27", #[⟨7, .data⟩, ⟨5, .chain⟩], none⟩) (fun K hK => ?_)
        go_simp
        refine (HS70.out _).mono ?_
        rintro r w11 ⟨rfl, rfl⟩
        go_wp2_with fail
        refine hK.out _ _ (by first | exact True.intro) (fun hHeld => ?_)
        replace hH := Lib.hid hHeld
        clear hK K hHeld
        try simp only [Act.put, sA, sB, sC]
        refine rdy (i := 10) (oi := ⟨none, .store 9 (.tmp 15) (.tmp 8), 0, "law.go:27", #[⟨9, .data⟩, ⟨2, .data⟩, ⟨8, .chain⟩, ⟨0, .phase⟩, ⟨1, .phase⟩, ⟨2, .phase⟩, ⟨3, .phase⟩, ⟨4, .phase⟩, { on := 5, ground := Go.Ground.textOnly Go.Departure.lateStoresUnsure }, ⟨6, .phase⟩, ⟨7, .phase⟩, { on := 8, ground := Go.Ground.textOnly Go.Departure.lateStoresUnsure }], none⟩) (fun K hK => ?_)
        go_simp
        refine hK.out _ _ (by first | exact True.intro) (fun hHeld => ?_)
        replace hH := Lib.hid hHeld
        clear hK K hHeld
        try simp only [Act.put]
        refine tk (i := 11) (oi := ⟨some 16, .fieldAddr 28 (.tmp 1) 10, 0, "law.go:27", #[⟨0, .phase⟩, ⟨1, .phase⟩, ⟨2, .phase⟩, ⟨3, .phase⟩, ⟨4, .phase⟩, ⟨5, .phase⟩, ⟨6, .phase⟩, ⟨7, .phase⟩, { on := 8, ground := Go.Ground.textOnly Go.Departure.lateStoresUnsure }, ⟨9, .phase⟩, ⟨10, .phase⟩], none⟩) hH.out (by rintro w s0; go_simp <;> with_reducible rfl) ?_
        simp only [Act.put, sA, sB, sC]
        refine rdy (i := 12) (oi := ⟨none, .store 9 (.tmp 16) (.tmp 11), 0, "law.go:27", #[⟨11, .data⟩, ⟨5, .data⟩, ⟨10, .chain⟩, ⟨0, .phase⟩, ⟨1, .phase⟩, ⟨2, .phase⟩, ⟨3, .phase⟩, ⟨4, .phase⟩, ⟨5, .phase⟩, ⟨6, .phase⟩, ⟨7, .phase⟩, { on := 8, ground := Go.Ground.textOnly Go.Departure.lateStoresUnsure }, ⟨9, .phase⟩, ⟨10, .phase⟩], none⟩) (fun K hK => ?_)
        go_simp
        refine hK.out _ _ (by first | exact True.intro) (fun hHeld => ?_)
        replace hH := Lib.hid hHeld
        clear hK K hHeld
        try simp only [Act.put]
        refine tk (i := 13) (oi := ⟨some 17, .fieldAddr 28 (.tmp 1) 13, 0, "law.go:27", #[⟨0, .phase⟩, ⟨1, .phase⟩, ⟨2, .phase⟩, ⟨3, .phase⟩, ⟨4, .phase⟩, ⟨5, .phase⟩, ⟨6, .phase⟩, ⟨7, .phase⟩, ⟨8, .phase⟩, ⟨9, .phase⟩, ⟨10, .phase⟩, ⟨11, .phase⟩, ⟨12, .phase⟩], none⟩) hH.out (by rintro w s0; go_simp <;> with_reducible rfl) ?_
        simp only [Act.put, sA, sB, sC]
        refine rdy (i := 14) (oi := ⟨none, .store 9 (.tmp 17) (.tmp 14), 0, "law.go:27", #[⟨13, .data⟩, ⟨8, .data⟩, ⟨12, .chain⟩, ⟨0, .phase⟩, ⟨1, .phase⟩, ⟨2, .phase⟩, ⟨3, .phase⟩, ⟨4, .phase⟩, ⟨5, .phase⟩, ⟨6, .phase⟩, ⟨7, .phase⟩, ⟨8, .phase⟩, ⟨9, .phase⟩, ⟨10, .phase⟩, ⟨11, .phase⟩, ⟨12, .phase⟩], none⟩) (fun K hK => ?_)
        go_simp
        refine hK.out _ _ (by first | exact True.intro) (fun hHeld => ?_)
        replace hH := Lib.hid hHeld
        clear hK K hHeld
        try simp only [Act.put]
        refine wpAnyH_done (by kernel_rfl) ?_ _
        go_wp2_with fail
        go_meet
        exact ⟨rfl, HV.out.symm⟩
    · go_simp
      refine hK.out _ _ (by first | exact True.intro) (fun hHeld => ?_)
      replace hH := Lib.hid hHeld
      clear hK K hHeld
      try simp only [Act.put, sA, sB, sC]
      refine wpAnyH_ready (rs := [1, 4]) (by kernel_rfl) (by simp) ?_
      refine AllReadyH.cons (o := ⟨some 7, .load 9 (.tmp 6), 9, "law.go:27", #[⟨0, .data⟩], none⟩) rfl (fun K hK => ?_) (AllReadyH.cons (o := ⟨some 10, .load 9 (.tmp 9), 9, "law.go:27", #[⟨3, .data⟩], none⟩) rfl (fun K hK => ?_) (AllReadyH.nil))
      · go_simp
        refine hK.out _ _ (by first | exact True.intro) (fun hHeld => ?_)
        replace hH := Lib.hid hHeld
        clear hK K hHeld
        try simp only [Act.put, sA, sB, sC]
        refine wpAnyH_ready (rs := [2, 4]) (by kernel_rfl) (by simp) ?_
        refine AllReadyH.cons (o := ⟨some 8, .call ⟨.value (.func 29), #[.tmp 7, .const (Go.Value.int Go.IntKind.i64 20)], #[9, 3]⟩, 9, "law.go:27", #[⟨1, .data⟩], none⟩) rfl (fun K hK => ?_) (AllReadyH.cons (o := ⟨some 10, .load 9 (.tmp 9), 9, "law.go:27", #[⟨3, .data⟩], none⟩) rfl (fun K hK => ?_) (AllReadyH.nil))
        · go_simp
          refine (HS20.out _).mono ?_
          rintro r w11 ⟨rfl, rfl⟩
          go_wp2_with fail
          refine hK.out _ _ (by first | exact True.intro) (fun hHeld => ?_)
          replace hH := Lib.hid hHeld
          clear hK K hHeld
          try simp only [Act.put, sA, sB, sC]
          refine rdy (i := 4) (oi := ⟨some 10, .load 9 (.tmp 9), 9, "law.go:27", #[⟨3, .data⟩], none⟩) (fun K hK => ?_)
          go_simp
          refine hK.out _ _ (by first | exact True.intro) (fun hHeld => ?_)
          replace hH := Lib.hid hHeld
          clear hK K hHeld
          try simp only [Act.put, sA, sB, sC]
          refine tk (i := 9) (oi := ⟨some 15, .fieldAddr 28 (.tmp 1) 9, 0, "law.go:27", #[⟨0, .phase⟩, ⟨1, .phase⟩, ⟨2, .phase⟩, ⟨3, .phase⟩, ⟨4, .phase⟩, { on := 5, ground := Go.Ground.textOnly Go.Departure.lateStoresUnsure }, ⟨6, .phase⟩, ⟨7, .phase⟩, { on := 8, ground := Go.Ground.textOnly Go.Departure.lateStoresUnsure }], none⟩) hH.out (by rintro w s0; go_simp <;> with_reducible rfl) ?_
          simp only [Act.put, sA, sB, sC]
          refine rdy (i := 5) (oi := ⟨some 11, .call ⟨.value (.func 29), #[.tmp 10, .const (Go.Value.int Go.IntKind.i64 20)], #[9, 3]⟩, 9, "law.go:27", #[⟨4, .data⟩, ⟨2, .chain⟩], none⟩) (fun K hK => ?_)
          go_simp
          refine (HO20.out _).mono ?_
          rintro r w11 ⟨rfl, rfl⟩
          go_wp2_with fail
          refine hK.out _ _ (by first | exact True.intro) (fun hHeld => ?_)
          replace hH := Lib.hid hHeld
          clear hK K hHeld
          try simp only [Act.put, sA, sB, sC]
          refine rdy (i := 8) (oi := ⟨some 14, .call ⟨.value (.func 29), #[.tmp 13, .const (Go.Value.int Go.IntKind.i64 70)], #[9, 3]⟩, 9, "law.go:27", #[⟨7, .data⟩, ⟨5, .chain⟩], none⟩) (fun K hK => ?_)
          go_simp
          refine (HS70.out _).mono ?_
          rintro r w11 ⟨rfl, rfl⟩
          go_wp2_with fail
          refine hK.out _ _ (by first | exact True.intro) (fun hHeld => ?_)
          replace hH := Lib.hid hHeld
          clear hK K hHeld
          try simp only [Act.put, sA, sB, sC]
          refine rdy (i := 10) (oi := ⟨none, .store 9 (.tmp 15) (.tmp 8), 0, "law.go:27", #[⟨9, .data⟩, ⟨2, .data⟩, ⟨8, .chain⟩, ⟨0, .phase⟩, ⟨1, .phase⟩, ⟨2, .phase⟩, ⟨3, .phase⟩, ⟨4, .phase⟩, { on := 5, ground := Go.Ground.textOnly Go.Departure.lateStoresUnsure }, ⟨6, .phase⟩, ⟨7, .phase⟩, { on := 8, ground := Go.Ground.textOnly Go.Departure.lateStoresUnsure }], none⟩) (fun K hK => ?_)
          go_simp
          refine hK.out _ _ (by first | exact True.intro) (fun hHeld => ?_)
          replace hH := Lib.hid hHeld
          clear hK K hHeld
          try simp only [Act.put]
          refine tk (i := 11) (oi := ⟨some 16, .fieldAddr 28 (.tmp 1) 10, 0, "law.go:27", #[⟨0, .phase⟩, ⟨1, .phase⟩, ⟨2, .phase⟩, ⟨3, .phase⟩, ⟨4, .phase⟩, ⟨5, .phase⟩, ⟨6, .phase⟩, ⟨7, .phase⟩, { on := 8, ground := Go.Ground.textOnly Go.Departure.lateStoresUnsure }, ⟨9, .phase⟩, ⟨10, .phase⟩], none⟩) hH.out (by rintro w s0; go_simp <;> with_reducible rfl) ?_
          simp only [Act.put, sA, sB, sC]
          refine rdy (i := 12) (oi := ⟨none, .store 9 (.tmp 16) (.tmp 11), 0, "law.go:27", #[⟨11, .data⟩, ⟨5, .data⟩, ⟨10, .chain⟩, ⟨0, .phase⟩, ⟨1, .phase⟩, ⟨2, .phase⟩, ⟨3, .phase⟩, ⟨4, .phase⟩, ⟨5, .phase⟩, ⟨6, .phase⟩, ⟨7, .phase⟩, { on := 8, ground := Go.Ground.textOnly Go.Departure.lateStoresUnsure }, ⟨9, .phase⟩, ⟨10, .phase⟩], none⟩) (fun K hK => ?_)
          go_simp
          refine hK.out _ _ (by first | exact True.intro) (fun hHeld => ?_)
          replace hH := Lib.hid hHeld
          clear hK K hHeld
          try simp only [Act.put]
          refine tk (i := 13) (oi := ⟨some 17, .fieldAddr 28 (.tmp 1) 13, 0, "law.go:27", #[⟨0, .phase⟩, ⟨1, .phase⟩, ⟨2, .phase⟩, ⟨3, .phase⟩, ⟨4, .phase⟩, ⟨5, .phase⟩, ⟨6, .phase⟩, ⟨7, .phase⟩, ⟨8, .phase⟩, ⟨9, .phase⟩, ⟨10, .phase⟩, ⟨11, .phase⟩, ⟨12, .phase⟩], none⟩) hH.out (by rintro w s0; go_simp <;> with_reducible rfl) ?_
          simp only [Act.put, sA, sB, sC]
          refine rdy (i := 14) (oi := ⟨none, .store 9 (.tmp 17) (.tmp 14), 0, "law.go:27", #[⟨13, .data⟩, ⟨8, .data⟩, ⟨12, .chain⟩, ⟨0, .phase⟩, ⟨1, .phase⟩, ⟨2, .phase⟩, ⟨3, .phase⟩, ⟨4, .phase⟩, ⟨5, .phase⟩, ⟨6, .phase⟩, ⟨7, .phase⟩, ⟨8, .phase⟩, ⟨9, .phase⟩, ⟨10, .phase⟩, ⟨11, .phase⟩, ⟨12, .phase⟩], none⟩) (fun K hK => ?_)
          go_simp
          refine hK.out _ _ (by first | exact True.intro) (fun hHeld => ?_)
          replace hH := Lib.hid hHeld
          clear hK K hHeld
          try simp only [Act.put]
          refine wpAnyH_done (by kernel_rfl) ?_ _
          go_wp2_with fail
          go_meet
          exact ⟨rfl, HV.out.symm⟩
        · go_simp
          refine hK.out _ _ (by first | exact True.intro) (fun hHeld => ?_)
          replace hH := Lib.hid hHeld
          clear hK K hHeld
          try simp only [Act.put, sA, sB, sC]
          refine rdy (i := 2) (oi := ⟨some 8, .call ⟨.value (.func 29), #[.tmp 7, .const (Go.Value.int Go.IntKind.i64 20)], #[9, 3]⟩, 9, "law.go:27", #[⟨1, .data⟩], none⟩) (fun K hK => ?_)
          go_simp
          refine (HS20.out _).mono ?_
          rintro r w11 ⟨rfl, rfl⟩
          go_wp2_with fail
          refine hK.out _ _ (by first | exact True.intro) (fun hHeld => ?_)
          replace hH := Lib.hid hHeld
          clear hK K hHeld
          try simp only [Act.put, sA, sB, sC]
          refine tk (i := 9) (oi := ⟨some 15, .fieldAddr 28 (.tmp 1) 9, 0, "law.go:27", #[⟨0, .phase⟩, ⟨1, .phase⟩, ⟨2, .phase⟩, ⟨3, .phase⟩, ⟨4, .phase⟩, { on := 5, ground := Go.Ground.textOnly Go.Departure.lateStoresUnsure }, ⟨6, .phase⟩, ⟨7, .phase⟩, { on := 8, ground := Go.Ground.textOnly Go.Departure.lateStoresUnsure }], none⟩) hH.out (by rintro w s0; go_simp <;> with_reducible rfl) ?_
          simp only [Act.put, sA, sB, sC]
          refine rdy (i := 5) (oi := ⟨some 11, .call ⟨.value (.func 29), #[.tmp 10, .const (Go.Value.int Go.IntKind.i64 20)], #[9, 3]⟩, 9, "law.go:27", #[⟨4, .data⟩, ⟨2, .chain⟩], none⟩) (fun K hK => ?_)
          go_simp
          refine (HO20.out _).mono ?_
          rintro r w11 ⟨rfl, rfl⟩
          go_wp2_with fail
          refine hK.out _ _ (by first | exact True.intro) (fun hHeld => ?_)
          replace hH := Lib.hid hHeld
          clear hK K hHeld
          try simp only [Act.put, sA, sB, sC]
          refine rdy (i := 8) (oi := ⟨some 14, .call ⟨.value (.func 29), #[.tmp 13, .const (Go.Value.int Go.IntKind.i64 70)], #[9, 3]⟩, 9, "law.go:27", #[⟨7, .data⟩, ⟨5, .chain⟩], none⟩) (fun K hK => ?_)
          go_simp
          refine (HS70.out _).mono ?_
          rintro r w11 ⟨rfl, rfl⟩
          go_wp2_with fail
          refine hK.out _ _ (by first | exact True.intro) (fun hHeld => ?_)
          replace hH := Lib.hid hHeld
          clear hK K hHeld
          try simp only [Act.put, sA, sB, sC]
          refine rdy (i := 10) (oi := ⟨none, .store 9 (.tmp 15) (.tmp 8), 0, "law.go:27", #[⟨9, .data⟩, ⟨2, .data⟩, ⟨8, .chain⟩, ⟨0, .phase⟩, ⟨1, .phase⟩, ⟨2, .phase⟩, ⟨3, .phase⟩, ⟨4, .phase⟩, { on := 5, ground := Go.Ground.textOnly Go.Departure.lateStoresUnsure }, ⟨6, .phase⟩, ⟨7, .phase⟩, { on := 8, ground := Go.Ground.textOnly Go.Departure.lateStoresUnsure }], none⟩) (fun K hK => ?_)
          go_simp
          refine hK.out _ _ (by first | exact True.intro) (fun hHeld => ?_)
          replace hH := Lib.hid hHeld
          clear hK K hHeld
          try simp only [Act.put]
          refine tk (i := 11) (oi := ⟨some 16, .fieldAddr 28 (.tmp 1) 10, 0, "law.go:27", #[⟨0, .phase⟩, ⟨1, .phase⟩, ⟨2, .phase⟩, ⟨3, .phase⟩, ⟨4, .phase⟩, ⟨5, .phase⟩, ⟨6, .phase⟩, ⟨7, .phase⟩, { on := 8, ground := Go.Ground.textOnly Go.Departure.lateStoresUnsure }, ⟨9, .phase⟩, ⟨10, .phase⟩], none⟩) hH.out (by rintro w s0; go_simp <;> with_reducible rfl) ?_
          simp only [Act.put, sA, sB, sC]
          refine rdy (i := 12) (oi := ⟨none, .store 9 (.tmp 16) (.tmp 11), 0, "law.go:27", #[⟨11, .data⟩, ⟨5, .data⟩, ⟨10, .chain⟩, ⟨0, .phase⟩, ⟨1, .phase⟩, ⟨2, .phase⟩, ⟨3, .phase⟩, ⟨4, .phase⟩, ⟨5, .phase⟩, ⟨6, .phase⟩, ⟨7, .phase⟩, { on := 8, ground := Go.Ground.textOnly Go.Departure.lateStoresUnsure }, ⟨9, .phase⟩, ⟨10, .phase⟩], none⟩) (fun K hK => ?_)
          go_simp
          refine hK.out _ _ (by first | exact True.intro) (fun hHeld => ?_)
          replace hH := Lib.hid hHeld
          clear hK K hHeld
          try simp only [Act.put]
          refine tk (i := 13) (oi := ⟨some 17, .fieldAddr 28 (.tmp 1) 13, 0, "law.go:27", #[⟨0, .phase⟩, ⟨1, .phase⟩, ⟨2, .phase⟩, ⟨3, .phase⟩, ⟨4, .phase⟩, ⟨5, .phase⟩, ⟨6, .phase⟩, ⟨7, .phase⟩, ⟨8, .phase⟩, ⟨9, .phase⟩, ⟨10, .phase⟩, ⟨11, .phase⟩, ⟨12, .phase⟩], none⟩) hH.out (by rintro w s0; go_simp <;> with_reducible rfl) ?_
          simp only [Act.put, sA, sB, sC]
          refine rdy (i := 14) (oi := ⟨none, .store 9 (.tmp 17) (.tmp 14), 0, "law.go:27", #[⟨13, .data⟩, ⟨8, .data⟩, ⟨12, .chain⟩, ⟨0, .phase⟩, ⟨1, .phase⟩, ⟨2, .phase⟩, ⟨3, .phase⟩, ⟨4, .phase⟩, ⟨5, .phase⟩, ⟨6, .phase⟩, ⟨7, .phase⟩, ⟨8, .phase⟩, ⟨9, .phase⟩, ⟨10, .phase⟩, ⟨11, .phase⟩, ⟨12, .phase⟩], none⟩) (fun K hK => ?_)
          go_simp
          refine hK.out _ _ (by first | exact True.intro) (fun hHeld => ?_)
          replace hH := Lib.hid hHeld
          clear hK K hHeld
          try simp only [Act.put]
          refine wpAnyH_done (by kernel_rfl) ?_ _
          go_wp2_with fail
          go_meet
          exact ⟨rfl, HV.out.symm⟩
      · go_simp
        refine hK.out _ _ (by first | exact True.intro) (fun hHeld => ?_)
        replace hH := Lib.hid hHeld
        clear hK K hHeld
        try simp only [Act.put, sA, sB, sC]
        refine rdy (i := 1) (oi := ⟨some 7, .load 9 (.tmp 6), 9, "law.go:27", #[⟨0, .data⟩], none⟩) (fun K hK => ?_)
        go_simp
        refine hK.out _ _ (by first | exact True.intro) (fun hHeld => ?_)
        replace hH := Lib.hid hHeld
        clear hK K hHeld
        try simp only [Act.put, sA, sB, sC]
        refine rdy (i := 2) (oi := ⟨some 8, .call ⟨.value (.func 29), #[.tmp 7, .const (Go.Value.int Go.IntKind.i64 20)], #[9, 3]⟩, 9, "law.go:27", #[⟨1, .data⟩], none⟩) (fun K hK => ?_)
        go_simp
        refine (HS20.out _).mono ?_
        rintro r w11 ⟨rfl, rfl⟩
        go_wp2_with fail
        refine hK.out _ _ (by first | exact True.intro) (fun hHeld => ?_)
        replace hH := Lib.hid hHeld
        clear hK K hHeld
        try simp only [Act.put, sA, sB, sC]
        refine tk (i := 9) (oi := ⟨some 15, .fieldAddr 28 (.tmp 1) 9, 0, "law.go:27", #[⟨0, .phase⟩, ⟨1, .phase⟩, ⟨2, .phase⟩, ⟨3, .phase⟩, ⟨4, .phase⟩, { on := 5, ground := Go.Ground.textOnly Go.Departure.lateStoresUnsure }, ⟨6, .phase⟩, ⟨7, .phase⟩, { on := 8, ground := Go.Ground.textOnly Go.Departure.lateStoresUnsure }], none⟩) hH.out (by rintro w s0; go_simp <;> with_reducible rfl) ?_
        simp only [Act.put, sA, sB, sC]
        refine rdy (i := 5) (oi := ⟨some 11, .call ⟨.value (.func 29), #[.tmp 10, .const (Go.Value.int Go.IntKind.i64 20)], #[9, 3]⟩, 9, "law.go:27", #[⟨4, .data⟩, ⟨2, .chain⟩], none⟩) (fun K hK => ?_)
        go_simp
        refine (HO20.out _).mono ?_
        rintro r w11 ⟨rfl, rfl⟩
        go_wp2_with fail
        refine hK.out _ _ (by first | exact True.intro) (fun hHeld => ?_)
        replace hH := Lib.hid hHeld
        clear hK K hHeld
        try simp only [Act.put, sA, sB, sC]
        refine rdy (i := 8) (oi := ⟨some 14, .call ⟨.value (.func 29), #[.tmp 13, .const (Go.Value.int Go.IntKind.i64 70)], #[9, 3]⟩, 9, "law.go:27", #[⟨7, .data⟩, ⟨5, .chain⟩], none⟩) (fun K hK => ?_)
        go_simp
        refine (HS70.out _).mono ?_
        rintro r w11 ⟨rfl, rfl⟩
        go_wp2_with fail
        refine hK.out _ _ (by first | exact True.intro) (fun hHeld => ?_)
        replace hH := Lib.hid hHeld
        clear hK K hHeld
        try simp only [Act.put, sA, sB, sC]
        refine rdy (i := 10) (oi := ⟨none, .store 9 (.tmp 15) (.tmp 8), 0, "law.go:27", #[⟨9, .data⟩, ⟨2, .data⟩, ⟨8, .chain⟩, ⟨0, .phase⟩, ⟨1, .phase⟩, ⟨2, .phase⟩, ⟨3, .phase⟩, ⟨4, .phase⟩, { on := 5, ground := Go.Ground.textOnly Go.Departure.lateStoresUnsure }, ⟨6, .phase⟩, ⟨7, .phase⟩, { on := 8, ground := Go.Ground.textOnly Go.Departure.lateStoresUnsure }], none⟩) (fun K hK => ?_)
        go_simp
        refine hK.out _ _ (by first | exact True.intro) (fun hHeld => ?_)
        replace hH := Lib.hid hHeld
        clear hK K hHeld
        try simp only [Act.put]
        refine tk (i := 11) (oi := ⟨some 16, .fieldAddr 28 (.tmp 1) 10, 0, "law.go:27", #[⟨0, .phase⟩, ⟨1, .phase⟩, ⟨2, .phase⟩, ⟨3, .phase⟩, ⟨4, .phase⟩, ⟨5, .phase⟩, ⟨6, .phase⟩, ⟨7, .phase⟩, { on := 8, ground := Go.Ground.textOnly Go.Departure.lateStoresUnsure }, ⟨9, .phase⟩, ⟨10, .phase⟩], none⟩) hH.out (by rintro w s0; go_simp <;> with_reducible rfl) ?_
        simp only [Act.put, sA, sB, sC]
        refine rdy (i := 12) (oi := ⟨none, .store 9 (.tmp 16) (.tmp 11), 0, "law.go:27", #[⟨11, .data⟩, ⟨5, .data⟩, ⟨10, .chain⟩, ⟨0, .phase⟩, ⟨1, .phase⟩, ⟨2, .phase⟩, ⟨3, .phase⟩, ⟨4, .phase⟩, ⟨5, .phase⟩, ⟨6, .phase⟩, ⟨7, .phase⟩, { on := 8, ground := Go.Ground.textOnly Go.Departure.lateStoresUnsure }, ⟨9, .phase⟩, ⟨10, .phase⟩], none⟩) (fun K hK => ?_)
        go_simp
        refine hK.out _ _ (by first | exact True.intro) (fun hHeld => ?_)
        replace hH := Lib.hid hHeld
        clear hK K hHeld
        try simp only [Act.put]
        refine tk (i := 13) (oi := ⟨some 17, .fieldAddr 28 (.tmp 1) 13, 0, "law.go:27", #[⟨0, .phase⟩, ⟨1, .phase⟩, ⟨2, .phase⟩, ⟨3, .phase⟩, ⟨4, .phase⟩, ⟨5, .phase⟩, ⟨6, .phase⟩, ⟨7, .phase⟩, ⟨8, .phase⟩, ⟨9, .phase⟩, ⟨10, .phase⟩, ⟨11, .phase⟩, ⟨12, .phase⟩], none⟩) hH.out (by rintro w s0; go_simp <;> with_reducible rfl) ?_
        simp only [Act.put, sA, sB, sC]
        refine rdy (i := 14) (oi := ⟨none, .store 9 (.tmp 17) (.tmp 14), 0, "law.go:27", #[⟨13, .data⟩, ⟨8, .data⟩, ⟨12, .chain⟩, ⟨0, .phase⟩, ⟨1, .phase⟩, ⟨2, .phase⟩, ⟨3, .phase⟩, ⟨4, .phase⟩, ⟨5, .phase⟩, ⟨6, .phase⟩, ⟨7, .phase⟩, ⟨8, .phase⟩, ⟨9, .phase⟩, ⟨10, .phase⟩, ⟨11, .phase⟩, ⟨12, .phase⟩], none⟩) (fun K hK => ?_)
        go_simp
        refine hK.out _ _ (by first | exact True.intro) (fun hHeld => ?_)
        replace hH := Lib.hid hHeld
        clear hK K hHeld
        try simp only [Act.put]
        refine wpAnyH_done (by kernel_rfl) ?_ _
        go_wp2_with fail
        go_meet
        exact ⟨rfl, HV.out.symm⟩
  case rest =>
  obtain ⟨rfl, hwx⟩ := hcut
  replace hwx := hwx.symm
  subst hwx
  clear f11 f12 f15 s11 s12 s15 HS20 HO20 HS70
  obtain ⟨q0, q1, q2, q3, q4, q5, q6⟩ := HBV.out.c18.a
  have q17 := HBV.out.cell 17
  clear q0 q1 q2 q3 q4 q5 q6
  simp only [mc, List.getElem?_toArray, List.getElem?_cons_zero, List.getElem?_cons_succ] at q17
  have HM17 := Lib.hid (fun w' (a : Adv Nul V Nul w') => show w'.cell? ⟨z, 17, none⟩ = some (.slice A N c) from ((HBV.out.over a).cell 17))
  go_wp2_with fail
  go_loopw [3, 4] (FwL7 V m.en 26) (fun _ t _ => N - (intOf t).toNat)
  case atStart => exact ⟨0, rfl, Nat.zero_le _, Nat.zero_le _, by simp only [fewL, List.take_zero, List.map_nil]; exact EnO.nil V⟩
  case round =>
    obtain ⟨j, rfl, hj, hjn, hE⟩ := hrel
    rw [← HN.out] at hj
    have hlen : (fewL j m.en).length = j := by rw [fewL_length, ← HN.out]; omega
    obtain ⟨A5, c5, rfl⟩ := hE.form
    rw [hlen] at hE ⊢
    have HE := Lib.hid hE
    have HL := Lib.hid hlen
    have r17 := HM17.out wr HE.out.adv
    clear hE hlen q17
    have hcase : (j < N ∧ j < 26) ∨ ((j : Int) < N ∧ (26 : Int) ≤ j ∧ j = 26) ∨ ((N : Int) ≤ j ∧ j = N) := by omega
    rcases hcase with ⟨hlt, hjl⟩ | ⟨hlt, hle, hje⟩ | ⟨hle, hje⟩
    · have hjd : j < m.en.length := by rw [← HN.out]; exact hlt
      obtain ⟨b, o, rfl, hb, g0, g1, g2, g3⟩ := (HEN.out.step (HAV.out.trans HE.out.adv)).at_ HN.out hjd
      obtain ⟨e, he⟩ : ∃ e, e = m.en[j] := ⟨_, rfl⟩
      have hsz : e.s.size ≤ maxLen := by rw [he]; exact HEN.out.sz _ (List.getElem_mem _)
      have HF := Lib.hid (show fewL (j + 1) m.en = fewL j m.en ++ [cutE7 e] by unfold fewL; rw [List.take_succ_eq_append_getElem hjd, List.map_append, he]; rfl)
      rw [← he] at g0 g1 g2 g3
      have HLT := Lib.hid hlt
      have HJL := Lib.hid hjl
      have hlt' : (j : Int) < (N : Int) := by omega
      have hjl' : (j : Int) < 26 := by omega
      clear he hjd hb
      obtain ⟨s, i, g, k⟩ := e
      simp only at g0 g1 g2 g3 hsz
      have hmore := HE.out.more (m := [cutE7 ⟨s, i, g, k⟩]) (fun e he => by
        rw [List.mem_singleton.1 he]
        have := cut20_size s
        show (cut20 s).size ≤ maxLen
        unfold maxLen; omega)
      have hA2 := ((Adv.refl Nul wr).alloc (.cells (ea ⟨cut20 s, i, g, k⟩) 54)).alloc (.cells (ea ⟨cut20 s, i, g, k⟩) 54)
      have hown := own_keep hmore.1 (fun q hq => hA2.block q (hmore.1.lt q hq).2 (fun x => x))
      rw [HL.out] at hown
      have hrd : Rd ((wr.alloc (.cells (ea ⟨cut20 s, i, g, k⟩) 54)).alloc (.cells (ea ⟨cut20 s, i, g, k⟩) 54)) 4 (.slice (some ⟨wr.heap.size + 1, 0, none⟩) 1 1) 1 (ec ⟨cut20 s, i, g, k⟩) := by
        have := rd_one (wr.alloc (.cells (ea ⟨cut20 s, i, g, k⟩) 54)) ⟨cut20 s, i, g, k⟩
        rwa [World.size_alloc] at this
      have HMORE := Lib.hid hmore.2
      have HA2' := Lib.hid hA2
      clear hmore hA2
      go_wp2_with (first
        | (go_at_call 29; refine (short20 _ _ hsz).mono ?_; rintro x w1 ⟨rfl, rfl⟩)
        | (at_builtin; refine wpList_append_en rfl (.tmp 38) (.tmp 40) rfl rfl rfl hown hrd (ec_one _) (by have := HJL.out; omega) ?c5)
        | fail)
      case c5 =>
        intro v' w5 hown5 hg5 hat5
        have hp := HMORE.out _ v' w5 HA2'.out (by rw [ecs_one_eq, HL.out]; exact hown5) hg5 (by simpa [ea] using hat5)
        rw [← HF.out] at hp
        have HP := Lib.hid hp
        obtain ⟨A6, c6, rfl⟩ := hp.form
        clear hp hown5 hg5 hat5 hown hrd
        go_wp2_with fail
        exact ⟨⟨j + 1, by go_num, by rw [← HN.out]; exact HLT.out, HJL.out, HP.out⟩, by have := HLT.out; simp [intOf] <;> omega⟩
    · subst hje
      clear hj hjn
      have HWB := Lib.hid (HBV.out.over HE.out.adv)
      have HWU := Lib.hid (HUV.out.over HE.out.adv)
      have q17' : wr.cell? ⟨z, 17, none⟩ = some (.slice A N c) := HWB.out.cell 17
      have f17 : wr.frozen? ⟨z, 17, none⟩ = false := HWB.out.frozen 17
      go_upto_region 10 with fail
      obtain ⟨W1, hW1⟩ : ∃ W1, W1 = wr.setCell ⟨z, 17, none⟩ (.slice A5 26 c5) := ⟨_, rfl⟩
      have HB1' := Lib.hid (show Blk W1 z 28 (mc (shM m) (.slice A5 26 c5)) by rw [hW1]; unfold shM; exact HWB.out.set_ 17 _)
      have HU1 := Lib.hid (show Blk W1 u 28 Z by rw [hW1]; exact HWU.out.far (p := ⟨z, 17, none⟩) HZU.out.symm _)
      have HK1 := Lib.hid (show Adv (One z) wr (One z) W1 by rw [hW1]; exact (Adv.refl (One z) wr).setCell (p := ⟨z, 17, none⟩) (.inl (show One z z from rfl)) _)
      have HEW := Lib.hid (show EnO w (fewL 26 m.en) (.slice A5 26 c5) W1 from (HE.out).putz HAV.out HZ1.out HBV.out.lt HK1.out)
      have HNU := Lib.hid (show ∀ k, Value.ownBlock (.slice A5 26 c5) = some k → k ≠ u from fun k hk e => by have h1 := HE.out.new_ k hk; have h2 := HUV.out.lt; omega)
      rw [← hW1]
      clear hW1 q17' f17 HWB HWU
      obtain ⟨D, hD⟩ : ∃ D, D = mc (shM m) (.slice A5 26 c5) := ⟨_, rfl⟩
      have HD := Lib.hid hD
      rw [← hD] at HB1'
      have HDS := Lib.hid (show D.size = 18 by rw [hD]; rfl)
      have HD1 := Lib.hid (show D.all (·.oneCell') = true by rw [hD]; exact mc_one _ _ _ _)
      clear hD
      go_wp2_with (first
        | (refine kop_load (t := 28) rfl _ rfl z HB1'.out rfl Try.underlying28 rfl sizeM HDS.out ?_)
        | (refine kop_store (t := 28) rfl _ _ rfl u HU1.out rfl rfl sizeM HDS.out HZS.out HD1.out ?_; intro w9 hb ha; have HB9 := Lib.hid hb; have HA9 := Lib.hid ha; clear hb ha)
        | fail)
      exact bodyPost_ret (kresM rfl _ _ rfl HB9.out Try.underlying28 rfl (by rw [sizeM, HDS.out])) rfl ⟨.slice A5 26 c5, by rw [HD.out], HEW.out.far1 HU2.out HNU.out HA9.out⟩
    · have HF := Lib.hid (show fewL 26 m.en = fewL j m.en by unfold fewL; rw [List.take_of_length_le (by rw [← HN.out]; omega), List.take_of_length_le (by rw [← HN.out]; omega)])
      subst hje
      clear hj hjn
      have HWB := Lib.hid (HBV.out.over HE.out.adv)
      have HWU := Lib.hid (HUV.out.over HE.out.adv)
      have q17' : wr.cell? ⟨z, 17, none⟩ = some (.slice A j c) := HWB.out.cell 17
      have f17 : wr.frozen? ⟨z, 17, none⟩ = false := HWB.out.frozen 17
      go_upto_region 10 with fail
      obtain ⟨W1, hW1⟩ : ∃ W1, W1 = wr.setCell ⟨z, 17, none⟩ (.slice A5 j c5) := ⟨_, rfl⟩
      have HB1' := Lib.hid (show Blk W1 z 28 (mc (shM m) (.slice A5 j c5)) by rw [hW1]; unfold shM; exact HWB.out.set_ 17 _)
      have HU1 := Lib.hid (show Blk W1 u 28 Z by rw [hW1]; exact HWU.out.far (p := ⟨z, 17, none⟩) HZU.out.symm _)
      have HK1 := Lib.hid (show Adv (One z) wr (One z) W1 by rw [hW1]; exact (Adv.refl (One z) wr).setCell (p := ⟨z, 17, none⟩) (.inl (show One z z from rfl)) _)
      have HEW := Lib.hid (show EnO w (fewL 26 m.en) (.slice A5 j c5) W1 from ((show EnO V (fewL 26 m.en) (.slice A5 j c5) wr from by rw [HF.out]; exact HE.out)).putz HAV.out HZ1.out HBV.out.lt HK1.out)
      have HNU := Lib.hid (show ∀ k, Value.ownBlock (.slice A5 j c5) = some k → k ≠ u from fun k hk e => by have h1 := HE.out.new_ k hk; have h2 := HUV.out.lt; omega)
      rw [← hW1]
      clear hW1 q17' f17 HWB HWU
      obtain ⟨D, hD⟩ : ∃ D, D = mc (shM m) (.slice A5 j c5) := ⟨_, rfl⟩
      have HD := Lib.hid hD
      rw [← hD] at HB1'
      have HDS := Lib.hid (show D.size = 18 by rw [hD]; rfl)
      have HD1 := Lib.hid (show D.all (·.oneCell') = true by rw [hD]; exact mc_one _ _ _ _)
      clear hD
      go_wp2_with (first
        | (refine kop_load (t := 28) rfl _ rfl z HB1'.out rfl Try.underlying28 rfl sizeM HDS.out ?_)
        | (refine kop_store (t := 28) rfl _ _ rfl u HU1.out rfl rfl sizeM HDS.out HZS.out HD1.out ?_; intro w9 hb ha; have HB9 := Lib.hid hb; have HA9 := Lib.hid ha; clear hb ha)
        | fail)
      exact bodyPost_ret (kresM rfl _ _ rfl HB9.out Try.underlying28 rfl (by rw [sizeM, HDS.out])) rfl ⟨.slice A5 j c5, by rw [HD.out], HEW.out.far1 HU2.out HNU.out HA9.out⟩
end Go.Proofs.Ytpgeebhepegpaaa
