/- SlotDecodes and SlotBack, walked. -/
import Derived.Test.YtbjenpkgcdppaaaStQ
import Derived.Test.YtbjenpkgcdppaaaStH
namespace Go.Proofs.Ytbjenpkgcdppaaa
open Go.ChangeShapes Go.WideShapes Go.ChangeAt Go.RowKit

set_option maxRecDepth 3000 in
/-- what Cut answers of what came in ahead of a world lies ahead of it, too -/
theorem cut_old (v : Value) (l : List Nat) (n B : Nat) (w : World) (h : In w v l) (hB : ∀ b, v.ownBlock = some b → 0 < l.length → b < B) (hn : n ≤ 1000000000) :
    Calls Try.prog 14 #[v, .int .i64 n] w fun e w' => ∃ k A c m, e = .returned (.slice A m c) ∧ m ≤ n ∧ InN w (.slice A m c) m k ∧ (∀ b, (Value.slice A m c).ownBlock = some b → 0 < m → b < B) ∧ w = w' := by
  obtain ⟨A, c, rfl, hlc, hcm⟩ := h.rd.form
  unfold maxLen at hcm
  obtain ⟨m, hm⟩ : ∃ m, m = l.length := ⟨_, rfl⟩
  by_cases hlt : n < m
  · obtain ⟨b, o, rfl, hb, hc⟩ := h.rd.cells (by omega) (by decide)
    have hin : In w (.slice (some ⟨b, o, none⟩) n c) (l.take n) := by
      have e : (l.take n).length = n := by simp; omega
      refine ⟨⟨_, c, by rw [e], by omega, by unfold maxLen; omega, by simp, fun h => (by cases h), fun _ => ⟨_, rfl, hb, fun j u hu => ?_⟩⟩, fun k hk _ => ?_, fun x hx => h.lt x (List.mem_of_mem_take hx)⟩
      · rw [add_none]
        refine hc j u ?_
        rw [List.map_take, List.getElem?_take] at hu
        split at hu
        · exact hu
        · cases hu
      · have : b = k := by simpa [Value.ownBlock] using hk
        omega
    have HI := Lib.hid (hin.num (m := n) (by simp; omega))
    have HO := Lib.hid (show ∀ k, (Value.slice (some ⟨b, o, none⟩) n c).ownBlock = some k → 0 < n → k < B from fun k hk _ => hB k (by simpa [Value.ownBlock] using hk) (by omega))
    rw [← hm] at hlc ⊢
    clear hin h hc hm hB
    go_enter Try.func14, Try.ntmps14
    go_wp2
    go_ret
    exact ⟨_, _, _, _, rfl, Nat.le_refl _, HI.out, HO.out, rfl⟩
  · have hi := h.num hm
    rw [← hm] at hB hi hlc ⊢
    have HI := Lib.hid hi
    have HO := Lib.hid (show ∀ k, (Value.slice A m c).ownBlock = some k → 0 < m → k < B from fun k hk h0 => hB k hk h0)
    have HL := Lib.hid (show m ≤ n by omega)
    clear h hm hB hi
    go_enter Try.func14, Try.ntmps14
    go_wp2
    go_ret
    exact ⟨_, _, _, _, rfl, HL.out, HI.out, HO.out, rfl⟩

set_option maxRecDepth 3000 in
set_option maxHeartbeats 3200000 in
theorem decodes14_walk (w : World) (v0 : Value) (h0 : ∃ l, In w v0 l) : Calls Try.prog 4 #[v0] w fun e w' => e = .returned (.bool true) ∧ Below w.heap.size w w' := by
  obtain ⟨l0, hl0⟩ := h0
  have HCUT := Lib.hid (cut_form v0 l0 140 w hl0 (by decide))
  clear hl0
  go_enter Try.func4, Try.ntmps4
  go_upto_region 2 with (first
    | (go_at_call 14; refine HCUT.out.mono ?_; rintro e w1 ⟨l, A, c, m, rfl, hm, hin, rfl⟩; have HIN := Lib.hid hin; have HM140 := Lib.hid hm; clear hin hm)
    | fail)
  have HP := Lib.hid (fun w' (ha : Adv Nul w Nul w') => sdecode_any _ l w' (HIN.out.far ha.toBelow).rdl HIN.out.lt)
  have HQ := Lib.hid (fun w' (ha : Adv Nul w Nul w') => qsdecode_any _ l w' ⟨(HIN.out.far ha.toBelow).rdl, fun b hb hl => (HIN.out.far ha.toBelow).old b hb (by rw [HIN.out.len]; exact hl), HIN.out.lt⟩ (by rw [← HIN.out.len]; exact HM140.out))
  unfold DecT at HP HQ
  have hwf := dT_wf l
  obtain ⟨x, hx⟩ : ∃ x, x = dT l := ⟨_, rfl⟩
  obtain ⟨E, hE0⟩ : ∃ E, E = eT l := ⟨_, rfl⟩
  rw [← hx] at HP HQ hwf
  rw [← hE0] at HP HQ
  have HM := Lib.hid (mine14_any x)
  have HE := Lib.hid (eq_tslot x x hwf hwf)
  rw [decide_eq_true (Eq.refl x)] at HE
  obtain ⟨C, hC⟩ : ∃ C, C = tc x := ⟨_, rfl⟩
  have HCS := Lib.hid (show C.size = 7 by rw [hC]; rfl)
  have HC1 := Lib.hid (show C.all (·.oneCell') = true by rw [hC]; exact tc_one _)
  obtain ⟨Z, hZ⟩ : ∃ C, C = tc zeroT := ⟨_, rfl⟩
  have HZS := Lib.hid (show Z.size = 7 by rw [hZ]; rfl)
  have HI := Lib.hid infoT
  have HIQ := Lib.hid infoQT
  rw [← hZ] at HI HIQ
  rw [← hC] at HP HQ HM HE
  clear hx hE0 hwf hC hZ
  go_upto_region 4 with (first
    | (go_at_call 15; refine (HP.out _ (Adv.refl _ _).drew).mono ?_; rintro e w2 ⟨rfl, a2⟩; have HA2 := Lib.hid ((Adv.refl Nul w).drew.trans a2); clear a2)
    | (go_at_call 15; refine (HP.out _ (Adv.refl _ _)).mono ?_; rintro e w2 ⟨rfl, a2⟩; have HA2 := Lib.hid a2; clear a2)
    | (refine kop_alloc rfl rfl HI.out ?_; intro u w3 hz hb ha; have HUU := Lib.hid (Nat.le_trans HA2.out.size hz); have HB3 := Lib.hid hb; have HA3 := Lib.hid (HA2.out.trans ha); clear hz hb ha)
    | (refine kop_store rfl _ _ rfl u HB3.out rfl rfl sizeT HCS.out HZS.out HC1.out ?_; intro w4 hb ha; have HB4 := Lib.hid hb; have HA4 := Lib.hid (HA3.out.fresh HUU.out ha); clear hb ha HB3)
    | (go_at_call 16; refine (HQ.out _ HA4.out).mono ?_; rintro e w5 ⟨rfl, a5⟩; have HA5 := Lib.hid (HA4.out.trans a5); have HB5 := Lib.hid (HB4.out.over a5); clear a5)
    | (refine kop_alloc rfl rfl HIQ.out ?_; intro q w6 hz hb ha; have HQQ := Lib.hid (Nat.le_trans HA5.out.size hz); have HB6 := Lib.hid hb; have HU6 := Lib.hid (HB5.out.over ha); have HNE := Lib.hid (show u ≠ q from fun e => by have := HB5.out.lt; omega); have HA6 := Lib.hid (HA5.out.trans ha); clear hz hb ha)
    | (refine kop_store rfl _ _ rfl q HB6.out rfl rfl sizeQT HCS.out HZS.out HC1.out ?_; intro w8 hb ha; have HB8 := Lib.hid hb; have HU8 := Lib.hid (HU6.out.far1 ha HNE.out); have HA8 := Lib.hid (HA6.out.fresh HQQ.out ha); clear hb ha HB6 HU6)
    | fail)
  have K0 := Lib.hid (show Blk (World.drew w8) u 34 C ∧ Blk (World.drew w8) q 28 C from ⟨HU8.out, HB8.out⟩)
  refine rstart (S := (fun w' => Blk w' u 34 C ∧ Blk w' q 28 C)) (by first | with_reducible exact K2.out | with_reducible exact K1.out | with_reducible exact K0.out) (fun hH => ?_)
  refine wpAnyH_take (i := 0) (oi := ⟨some 19, .load 34 (.tmp 3), 34, "law.go:37", #[], none⟩) (v := .agg C) rfl (by kernel_rfl) (by kernel_rfl) (by kernel_rfl) (fun _ _ _ h => h) (kyl_load rfl (.tmp 3) rfl u rfl (fun _ h => h.1) Try.underlying34 rfl sizeT HCS.out) hH.out ?_
  simp only [Act.put, sA, sB, sC]
  refine wpAnyH_take (i := 1) (oi := ⟨some 20, .load 28 (.tmp 5), 28, "law.go:37", #[], none⟩) (v := .agg C) rfl (by kernel_rfl) (by kernel_rfl) (by kernel_rfl) (fun _ _ _ h => h) (kyl_load rfl (.tmp 5) rfl q rfl (fun _ h => h.2) Try.underlying28 rfl sizeQT HCS.out) hH.out ?_
  simp only [Act.put, sA, sB, sC]
  refine rdy (i := 2) (oi := ⟨some 21, .call ⟨.value (.func 9), #[.tmp 20], #[28]⟩, 34, "law.go:37", #[⟨1, .data⟩], none⟩) (fun K hK => ?_)
  go_simp
  refine (HM.out _).mono ?_
  rintro e w9 ⟨rfl, a9⟩
  have HA9 := Lib.hid (HA8.out.drew.trans a9)
  have K1 := Lib.hid (show Blk w9 u 34 C ∧ Blk w9 q 28 C from ⟨HU8.out.drew.over a9, HB8.out.drew.over a9⟩)
  clear a9
  go_wp2_with fail
  refine hK.out _ _ (by first | with_reducible exact K2.out | with_reducible exact K1.out | with_reducible exact K0.out) (fun hHeld => ?_)
  replace hH := Lib.hid hHeld
  clear hK K hHeld
  try simp only [Act.put, sA, sB, sC]
  refine wpAnyH_take (i := 3) (oi := ⟨some 22, .binOp .eql 34 (.tmp 19) (.tmp 21) 34, 4, "law.go:37", #[⟨0, .data⟩, ⟨2, .data⟩], none⟩) (v := .bool true) rfl (by kernel_rfl) (by kernel_rfl) (by kernel_rfl) (fun _ _ _ h => h) (kyl_eqs HE.out guardT rfl (.tmp 19) (.tmp 21) rfl rfl rfl) hH.out ?_
  simp only [Act.put, sA, sB, sC]
  refine tk (i := 4) (oi := ⟨some 23, .move (.tmp 22), 4, "law.go:37", #[⟨3, .data⟩, ⟨2, .chain⟩], none⟩) hH.out (by rintro w ⟨hU, hQ⟩; go_simp <;> with_reducible rfl) ?_
  simp only [Act.put, sA, sB, sC]
  refine tk (i := 5) (oi := { dst := some 24, op := .move (.tmp 4), type := 31, pos := "law.go:37", after := #[⟨4, .guard⟩], guard := some (4, true) }) hH.out (by rintro w ⟨hU, hQ⟩; go_simp <;> with_reducible rfl) ?_
  simp only [Act.put, sA, sB, sC]
  refine tk (i := 6) (oi := { dst := some 25, op := .move (.tmp 6), type := 3, pos := "law.go:37", after := #[⟨4, .guard⟩], guard := some (4, true) }) hH.out (by rintro w ⟨hU, hQ⟩; go_simp <;> with_reducible rfl) ?_
  simp only [Act.put, sA, sB, sC]
  refine tk (i := 7) (oi := { dst := some 26, op := .binOp .eql 3 (.tmp 24) (.tmp 25) 3, type := 4, pos := "law.go:37", after := #[⟨5, .data⟩, ⟨6, .data⟩, ⟨4, .guard⟩], guard := some (4, true) }) hH.out (by rintro w ⟨hU, hQ⟩; go_simp <;> with_reducible rfl) ?_
  simp only [Act.put, sA, sB, sC]
  refine tk (i := 8) (oi := ⟨some 27, .pick (.tmp 23) (.tmp 26) (.const (Go.Value.bool false)), 4, "law.go:37", #[⟨4, .data⟩, ⟨7, .data⟩], none⟩) hH.out (by rintro w ⟨hU, hQ⟩; go_simp <;> with_reducible rfl) ?_
  simp only [Act.put, sA, sB, sC]
  refine tk (i := 9) (oi := ⟨some 28, .move (.tmp 27), 4, "law.go:37", #[⟨8, .data⟩, ⟨4, .chain⟩], none⟩) hH.out (by rintro w ⟨hU, hQ⟩; go_simp <;> with_reducible rfl) ?_
  simp only [Act.put, sA, sB, sC]
  refine rdy (i := 10) (oi := { dst := some 29, op := .call ⟨.value (.func 13), #[], #[]⟩, type := 4, pos := "law.go:37", after := #[⟨9, .chain⟩, ⟨9, .guard⟩], guard := some (9, true) }) (fun K hK => ?_)
  go_simp
  refine (lives14_any _).mono ?_
  rintro e w10 ⟨rfl, a10⟩
  have HA10 := Lib.hid (HA9.out.trans a10)
  have K2 := Lib.hid (show Blk w10 u 34 C ∧ Blk w10 q 28 C from ⟨K1.out.1.over a10, K1.out.2.over a10⟩)
  clear a10
  go_wp2_with fail
  refine hK.out _ _ (by first | with_reducible exact K2.out | with_reducible exact K1.out | with_reducible exact K0.out) (fun hHeld => ?_)
  replace hH := Lib.hid hHeld
  clear hK K hHeld
  try simp only [Act.put, sA, sB, sC]
  refine tk (i := 11) (oi := ⟨some 30, .pick (.tmp 28) (.tmp 29) (.const (Go.Value.bool false)), 4, "law.go:37", #[⟨9, .data⟩, ⟨10, .data⟩], none⟩) hH.out (by rintro w ⟨hU, hQ⟩; go_simp <;> with_reducible rfl) ?_
  simp only [Act.put, sA, sB, sC]
  refine tk (i := 12) (oi := ⟨some 2, .assign (.tmp 30), 4, "law.go:37", #[⟨11, .data⟩, ⟨10, .chain⟩, ⟨0, .phase⟩, ⟨1, .phase⟩, ⟨2, .phase⟩, ⟨3, .phase⟩, ⟨4, .phase⟩, ⟨5, .phase⟩, ⟨6, .phase⟩, ⟨7, .phase⟩, ⟨8, .phase⟩, ⟨9, .phase⟩, ⟨10, .phase⟩, ⟨11, .phase⟩], none⟩) hH.out (by rintro w ⟨hU, hQ⟩; go_simp <;> with_reducible rfl) ?_
  simp only [Act.put, sA, sB, sC]
  refine wpAnyH_done (by kernel_rfl) ?_ _
  go_wp2_with fail
  go_ret
  exact ⟨by first | rfl | simp, HA10.out.toBelow⟩


set_option maxRecDepth 3000 in
set_option maxHeartbeats 3200000 in
theorem back14_walk (w : World) (v0 : Value) (h0 : SArg v0) (v1 : Value) (h1 : ∃ l, In w v1 l) : Calls Try.prog 5 #[v0, v1] w fun e w' => e = .returned (.bool true) ∧ Below w.heap.size w w' := by
  obtain ⟨x0, rfl, hw0, hs0⟩ := h0
  obtain ⟨l0, hl0⟩ := h1
  have HCUT := Lib.hid (fun w' (hb : Below w.heap.size w w') => cut_old v1 l0 140 w.heap.size w' (hl0.far hb) hl0.old (by decide))
  obtain ⟨C0, hC0⟩ : ∃ C, C = tc x0 := ⟨_, rfl⟩
  have HSET := Lib.hid (show ∀ t : ByteArray, C0.setIfInBounds 6 (.string t) = tc ⟨x0.u, x0.i, x0.g, x0.a, x0.v, x0.d, t⟩ by rw [hC0]; exact fun t => rfl)
  have HC6 := Lib.hid (show ∀ (z : Nat) (w' : World), Blk w' z 28 C0 → w'.cell? ⟨z, 6, none⟩ = some (.string x0.s) from fun z w' h => by rw [hC0] at h; exact h.c7.all.2.2.2.2.2.2)
  have HW0 := Lib.hid hw0
  have HSH := Lib.hid (fun w => short70 x0.s w hs0)
  rw [← hC0]
  clear hC0 hw0 hs0 hl0
  go_enter Try.func5, Try.ntmps5
  go_upto_region 2 with (first
    | (refine kop_box rfl _ rfl rfl ?_; intro z w1 hz hb ha; have HB1 := Lib.hid hb; have HA1 := Lib.hid ha; have HZN := Lib.hid hz; have c6 := HC6.out z _ hb; have f6 := hb.frozen 6; clear hz hb ha)
    | (go_at_call 7; refine (HSH.out _).mono ?_; rintro e w2 ⟨t, rfl, ht, rfl⟩)
    | (go_at_call 14; refine (HCUT.out _ HA1.out.toBelow).mono ?_; rintro e w2 ⟨l, A, c, m, rfl, hm, hin, hold, rfl⟩; have HIN := Lib.hid hin; have HOLD := Lib.hid hold; clear hin hm hold)
    | fail)
  obtain ⟨x, hx⟩ : ∃ x : Slt, x = ⟨x0.u, x0.i, x0.g, x0.a, x0.v, x0.d, t⟩ := ⟨_, rfl⟩
  have hwf : WfT x := by rw [hx]; exact HW0.out t (by omega)
  obtain ⟨C, hC⟩ : ∃ C, C = tc x := ⟨_, rfl⟩
  obtain ⟨W3, hW3⟩ : ∃ W, W = World.setCell w1 ⟨z, 6, none⟩ (.string t) := ⟨_, rfl⟩
  have HB3 := Lib.hid (show Blk W3 z 28 C by rw [hW3, hC, hx, ← HSET.out t]; exact HB1.out.set_ 6 (.string t))
  have HA3 := Lib.hid (show Adv Nul w Nul W3 by rw [hW3]; exact HA1.out.setCell (p := ⟨z, 6, none⟩) (.inr HZN.out) _)
  have HRL := Lib.hid (show ∀ w', Adv Nul W3 Nul w' → Rd w' 1 (.slice A m c) m (l.map u8) from fun w' ha => by
    refine HIN.out.rd.far (fun k hk h0 hlt => ?_) (by have := ha.size; rw [hW3] at this; simpa using this)
    have hkw := HOLD.out k hk h0
    have h3 : W3.heap[k]? = w1.heap[k]? := by rw [hW3]; exact heap_setCell_other w1 ⟨z, 6, none⟩ k _ (by have := HZN.out; show k ≠ z; omega)
    exact (ha.block k (Nat.lt_of_lt_of_le hkw HA3.out.size) (fun h => h)).trans h3)
  have HLEN := Lib.hid HIN.out.len
  have HDL := Lib.hid (fun w' (ha : Adv Nul W3 Nul w') => sdecode_any (.slice A m c) l w' (by rw [← HLEN.out]; exact HRL.out w' ha) HIN.out.lt)
  unfold DecT at HDL
  have hdw := dT_wf l
  have HEV := Lib.hid (show (eT l = 0 ∧ secT (dT l) = l) ∨ eT l = 4 by
    cases hd : decT l with
    | none => exact .inr (dT_no hd).2
    | some y => exact .inl ⟨(dT_yes hd).2, by rw [(dT_yes hd).1]; exact (decT_some hd).2⟩)
  have HLI := Lib.hid (show isT (dT l) by
    cases hd : decT l with
    | none => rw [(dT_no hd).1]; exact .inl rfl
    | some y => rw [(dT_yes hd).1]; exact (decT_some hd).1)
  have HEL := Lib.hid (sencode_any (dT l) hdw)
  obtain ⟨D, hD⟩ : ∃ C, C = tc (dT l) := ⟨_, rfl⟩
  obtain ⟨d, hdd⟩ : ∃ d, d = dT l := ⟨_, rfl⟩
  obtain ⟨el, hel⟩ : ∃ d, d = eT l := ⟨_, rfl⟩
  have HDS := Lib.hid (show D.size = 7 by rw [hD]; rfl)
  have HD1 := Lib.hid (show D.all (·.oneCell') = true by rw [hD]; exact tc_one _)
  rw [← hD] at HEL HDL
  rw [← hdd] at HEL HLI HEV
  rw [← hel] at HDL HEV
  have HCS := Lib.hid (show C.size = 7 by rw [hC]; rfl)
  have HC1 := Lib.hid (show C.all (·.oneCell') = true by rw [hC]; exact tc_one _)
  have HM := Lib.hid (mine14_any x)
  have HEN := Lib.hid (sencode_any x hwf)
  have HDB := Lib.hid (fun (ho : isT x) v w hr => sdecode_back ho v w hr)
  have hE := eq_tslot x x hwf hwf
  rw [decide_eq_true (Eq.refl x)] at hE
  obtain ⟨Z, hZ⟩ : ∃ C, C = tc zeroT := ⟨_, rfl⟩
  have HZS := Lib.hid (show Z.size = 7 by rw [hZ]; rfl)
  have HI := Lib.hid infoT
  rw [← hZ] at HI
  rw [← hC] at hE HM HEN HDB
  have HE := Lib.hid hE
  rw [← hW3]
  clear hW3 hx hC hE hZ hwf c6 f6 ht HSET HW0 HC6 HB1 hdw hD hdd hel HCUT
  by_cases ho : isT x
  · have HOK := Lib.hid ho
    clear ho
    go_upto_region 5 with (first
      | (refine kop_load rfl _ rfl z HB3.out rfl Try.underlying28 rfl sizeQT HCS.out ?_)
      | (go_at_call 9; refine (HM.out _).mono ?_; rintro e w4 ⟨rfl, a4⟩; have HA4 := Lib.hid ((Adv.refl Nul W3).trans a4); have HB4 := Lib.hid (HB3.out.over a4); clear a4)
      | (go_at_call 8; refine (HEN.out _).mono ?_; rintro e w5 ⟨A5, m5, k5, F5, rfl, a5, y5, _⟩; obtain ⟨rfl, s5⟩ := y5 HOK.out; rw [if_pos HOK.out]; have HS5 := Lib.hid s5; have HA5 := Lib.hid (HA4.out.trans a5).nul; have HB5 := Lib.hid (HB4.out.over a5); clear a5 y5 s5)
      | (go_at_call 15; refine (HDB.out HOK.out _ _ HS5.out.rd).mono ?_; rintro e w6 ⟨rfl, a6⟩; have HA6 := Lib.hid (HA5.out.trans a6); have HB6 := Lib.hid (HB5.out.over a6); clear a6)
      | (refine kop_alloc rfl rfl HI.out ?_; intro u w7 hz hb ha; have HUU := Lib.hid (Nat.le_trans HA6.out.size hz); have HU7 := Lib.hid hb; have HB7 := Lib.hid (HB6.out.over ha); have HNE := Lib.hid (show z ≠ u from fun e => by have := HB6.out.lt; omega); have HA7 := Lib.hid (HA6.out.trans ha); clear hz hb ha)
      | (refine kop_store rfl _ _ rfl u HU7.out rfl rfl sizeT HCS.out HZS.out HC1.out ?_; intro w8 hb ha; have HU8 := Lib.hid hb; have HB8 := Lib.hid (HB7.out.far1 ha HNE.out); have HA8 := Lib.hid (HA7.out.fresh HUU.out ha); clear hb ha HU7 HB7)
      | fail)
    have K0 := Lib.hid (show Blk (World.drew w8) u 34 C ∧ Blk (World.drew w8) z 28 C from ⟨HU8.out, HB8.out⟩)
    refine rstart (S := (fun w' => Blk w' u 34 C ∧ Blk w' z 28 C)) (by first | with_reducible exact K1.out | with_reducible exact K0.out) (fun hH => ?_)
    refine tk (i := 0) (oi := ⟨some 32, .move (.tmp 8), 31, "law.go:46", #[], none⟩) hH.out (by rintro w ⟨hU, hB⟩; go_simp <;> with_reducible rfl) ?_
    simp only [Act.put, sA, sB, sC]
    refine tk (i := 1) (oi := ⟨some 33, .binOp .neq 31 (.tmp 32) (.const (Go.Value.int Go.IntKind.i64 0)) 31, 4, "law.go:46", #[⟨0, .data⟩], none⟩) hH.out (by rintro w ⟨hU, hB⟩; go_simp <;> with_reducible rfl) ?_
    simp only [Act.put, sA, sB, sC]
    refine tk (i := 2) (oi := ⟨some 34, .move (.tmp 33), 4, "law.go:46", #[⟨1, .data⟩], none⟩) hH.out (by rintro w ⟨hU, hB⟩; go_simp <;> with_reducible rfl) ?_
    simp only [Act.put, sA, sB, sC]
    refine wpAnyH_take (i := 3) (oi := { dst := some 35, op := .load 34 (.tmp 7), type := 34, pos := "law.go:46", after := #[⟨2, .guard⟩], guard := some (2, false) }) (v := .agg C) rfl (by kernel_rfl) (by kernel_rfl) (by kernel_rfl) (fun _ _ _ h => h) (kyl_load rfl (.tmp 7) rfl u rfl (fun _ h => h.1) Try.underlying34 rfl sizeT HCS.out) hH.out ?_
    simp only [Act.put, sA, sB, sC]
    refine wpAnyH_take (i := 4) (oi := { dst := some 36, op := .load 28 (.tmp 2), type := 28, pos := "law.go:46", after := #[⟨2, .guard⟩], guard := some (2, false) }) (v := .agg C) rfl (by kernel_rfl) (by kernel_rfl) (by kernel_rfl) (fun _ _ _ h => h) (kyl_load rfl (.tmp 2) rfl z rfl (fun _ h => h.2) Try.underlying28 rfl sizeQT HCS.out) hH.out ?_
    simp only [Act.put, sA, sB, sC]
    refine rdy (i := 5) (oi := { dst := some 37, op := .call ⟨.value (.func 9), #[.tmp 36], #[28]⟩, type := 34, pos := "law.go:46", after := #[⟨4, .data⟩, ⟨2, .chain⟩, ⟨2, .guard⟩], guard := some (2, false) }) (fun K hK => ?_)
    go_simp
    refine (HM.out _).mono ?_
    rintro e w9 ⟨rfl, a9⟩
    have HA9 := Lib.hid (HA8.out.drew.trans a9)
    have K1 := Lib.hid (show Blk w9 u 34 C ∧ Blk w9 z 28 C from ⟨HU8.out.drew.over a9, HB8.out.drew.over a9⟩)
    clear a9
    go_wp2_with fail
    refine hK.out _ _ (by first | with_reducible exact K1.out | with_reducible exact K0.out) (fun hHeld => ?_)
    replace hH := Lib.hid hHeld
    clear hK K hHeld
    try simp only [Act.put, sA, sB, sC]
    refine wpAnyH_take (i := 6) (oi := { dst := some 38, op := .binOp .neq 34 (.tmp 35) (.tmp 37) 34, type := 4, pos := "law.go:46", after := #[⟨3, .data⟩, ⟨5, .data⟩, ⟨2, .guard⟩], guard := some (2, false) }) (v := .bool (!true)) rfl (by kernel_rfl) (by kernel_rfl) (by kernel_rfl) (fun _ _ _ h => h) (kyl_neqs HE.out guardT rfl (.tmp 35) (.tmp 37) rfl rfl rfl) hH.out ?_
    simp only [Act.put, sA, sB, sC]
    refine tk (i := 7) (oi := ⟨some 39, .pick (.tmp 34) (.const (Go.Value.bool true)) (.tmp 38), 4, "law.go:46", #[⟨2, .data⟩, ⟨6, .data⟩], none⟩) hH.out (by rintro w ⟨hU, hB⟩; go_simp <;> with_reducible rfl) ?_
    simp only [Act.put, sA, sB, sC]
    refine wpAnyH_done (by kernel_rfl) ?_ _
    clear K0 K1 HU8 HB8 HB3 HB4 HB5 HB6 HE HM HEN HDB HS5
    rcases HEV.out with ⟨he, hs⟩ | he
    · subst he
      have HLS := Lib.hid hs
      clear hs
      go_wp2_with (first
        | (go_at_call 15; refine (HDL.out _ HA9.out).mono ?_; rintro e y1 ⟨rfl, b1⟩; have HY1 := Lib.hid (HA9.out.trans b1); clear b1)
        | (refine kop_alloc rfl rfl HI.out ?_; intro q y2 hz hb ha; have HQQ := Lib.hid (Nat.le_trans HY1.out.size hz); have HQ2 := Lib.hid hb; have HY2 := Lib.hid (HY1.out.trans ha); clear hz hb ha)
        | (refine kop_store rfl _ _ rfl q HQ2.out rfl rfl sizeT HDS.out HZS.out HD1.out ?_; intro y3 hb ha; have HQ3 := Lib.hid hb; have HY3 := Lib.hid (HY2.out.fresh HQQ.out ha); clear hb ha HQ2)
        | (refine kop_load rfl _ rfl q HQ3.out rfl Try.underlying34 rfl sizeT HDS.out ?_)
        | (go_at_call 8; refine (HEL.out _).mono ?_; rintro e y4 ⟨A4, m4, k4, G4, rfl, b4, z4, _⟩; obtain ⟨rfl, t4⟩ := z4 HLI.out; rw [if_pos HLI.out]; have HT4 := Lib.hid t4; have HY4 := Lib.hid (HY3.out.trans b4).nul; clear b4 z4 t4)
        | (go_at_call 11; refine (isame_any _ _ _ _ _ _ _ HT4.out.rd (HRL.out _ HY4.out)).mono ?_; rintro e y5 ⟨rfl, j5, rfl⟩; rw [decide_eq_true HLS.out]; have HY5 := Lib.hid (HY4.out.drewN j5))
        | (go_at_call 13; refine (lives14_any _).mono ?_; rintro e y6 ⟨rfl, b6⟩; have HY6 := Lib.hid (HY5.out.trans b6); clear b6)
        | fail)
      go_ret
      exact ⟨rfl, (HA3.out.trans HY6.out).toBelow⟩
    · subst he
      go_wp2_with (first
        | (go_at_call 15; refine (HDL.out _ HA9.out).mono ?_; rintro e y1 ⟨rfl, b1⟩; have HY1 := Lib.hid (HA9.out.trans b1); clear b1)
        | (refine kop_alloc rfl rfl HI.out ?_; intro q y2 hz hb ha; have HQQ := Lib.hid (Nat.le_trans HY1.out.size hz); have HQ2 := Lib.hid hb; have HY2 := Lib.hid (HY1.out.trans ha); clear hz hb ha)
        | (refine kop_store rfl _ _ rfl q HQ2.out rfl rfl sizeT HDS.out HZS.out HD1.out ?_; intro y3 hb ha; have HQ3 := Lib.hid hb; have HY3 := Lib.hid (HY2.out.fresh HQQ.out ha); clear hb ha HQ2)
        | (refine kop_load rfl _ rfl q HQ3.out rfl Try.underlying34 rfl sizeT HDS.out ?_)
        | (go_at_call 8; refine (HEL.out _).mono ?_; rintro e y4 ⟨A4, m4, k4, G4, rfl, b4, z4, _⟩; obtain ⟨rfl, t4⟩ := z4 HLI.out; rw [if_pos HLI.out]; have HT4 := Lib.hid t4; have HY4 := Lib.hid (HY3.out.trans b4).nul; clear b4 z4 t4)
        | (go_at_call 13; refine (lives14_any _).mono ?_; rintro e y6 ⟨rfl, b6⟩; have HY6 := Lib.hid (HY4.out.trans b6); clear b6)
        | fail)
      go_ret
      exact ⟨rfl, (HA3.out.trans HY6.out).toBelow⟩
  · have HOK := Lib.hid ho
    clear ho
    go_upto_region 7 with (first
      | (refine kop_load rfl _ rfl z HB3.out rfl Try.underlying28 rfl sizeQT HCS.out ?_)
      | (go_at_call 9; refine (HM.out _).mono ?_; rintro e w4 ⟨rfl, a4⟩; have HA4 := Lib.hid ((Adv.refl Nul W3).trans a4); clear a4)
      | (go_at_call 8; refine (HEN.out _).mono ?_; rintro e w5 ⟨A5, m5, k5, F5, rfl, a5, y5, _⟩; rw [if_neg HOK.out]; have HA5 := Lib.hid (HA4.out.trans a5).nul; clear a5 y5)
      | fail)
    clear HB3 HE HM HEN HDB
    rcases HEV.out with ⟨he, hs⟩ | he
    · subst he
      have HLS := Lib.hid hs
      clear hs
      go_wp2_with (first
        | (go_at_call 15; refine (HDL.out _ HA5.out).mono ?_; rintro e y1 ⟨rfl, b1⟩; have HY1 := Lib.hid (HA5.out.trans b1); clear b1)
        | (refine kop_alloc rfl rfl HI.out ?_; intro q y2 hz hb ha; have HQQ := Lib.hid (Nat.le_trans HY1.out.size hz); have HQ2 := Lib.hid hb; have HY2 := Lib.hid (HY1.out.trans ha); clear hz hb ha)
        | (refine kop_store rfl _ _ rfl q HQ2.out rfl rfl sizeT HDS.out HZS.out HD1.out ?_; intro y3 hb ha; have HQ3 := Lib.hid hb; have HY3 := Lib.hid (HY2.out.fresh HQQ.out ha); clear hb ha HQ2)
        | (refine kop_load rfl _ rfl q HQ3.out rfl Try.underlying34 rfl sizeT HDS.out ?_)
        | (go_at_call 8; refine (HEL.out _).mono ?_; rintro e y4 ⟨A4, m4, k4, G4, rfl, b4, z4, _⟩; obtain ⟨rfl, t4⟩ := z4 HLI.out; rw [if_pos HLI.out]; have HT4 := Lib.hid t4; have HY4 := Lib.hid (HY3.out.trans b4).nul; clear b4 z4 t4)
        | (go_at_call 11; refine (isame_any _ _ _ _ _ _ _ HT4.out.rd (HRL.out _ HY4.out)).mono ?_; rintro e y5 ⟨rfl, j5, rfl⟩; rw [decide_eq_true HLS.out]; have HY5 := Lib.hid (HY4.out.drewN j5))
        | (go_at_call 13; refine (lives14_any _).mono ?_; rintro e y6 ⟨rfl, b6⟩; have HY6 := Lib.hid (HY5.out.trans b6); clear b6)
        | fail)
      go_ret
      exact ⟨rfl, (HA3.out.trans HY6.out).toBelow⟩
    · subst he
      go_wp2_with (first
        | (go_at_call 15; refine (HDL.out _ HA5.out).mono ?_; rintro e y1 ⟨rfl, b1⟩; have HY1 := Lib.hid (HA5.out.trans b1); clear b1)
        | (refine kop_alloc rfl rfl HI.out ?_; intro q y2 hz hb ha; have HQQ := Lib.hid (Nat.le_trans HY1.out.size hz); have HQ2 := Lib.hid hb; have HY2 := Lib.hid (HY1.out.trans ha); clear hz hb ha)
        | (refine kop_store rfl _ _ rfl q HQ2.out rfl rfl sizeT HDS.out HZS.out HD1.out ?_; intro y3 hb ha; have HQ3 := Lib.hid hb; have HY3 := Lib.hid (HY2.out.fresh HQQ.out ha); clear hb ha HQ2)
        | (refine kop_load rfl _ rfl q HQ3.out rfl Try.underlying34 rfl sizeT HDS.out ?_)
        | (go_at_call 8; refine (HEL.out _).mono ?_; rintro e y4 ⟨A4, m4, k4, G4, rfl, b4, z4, _⟩; obtain ⟨rfl, t4⟩ := z4 HLI.out; rw [if_pos HLI.out]; have HT4 := Lib.hid t4; have HY4 := Lib.hid (HY3.out.trans b4).nul; clear b4 z4 t4)
        | (go_at_call 13; refine (lives14_any _).mono ?_; rintro e y6 ⟨rfl, b6⟩; have HY6 := Lib.hid (HY4.out.trans b6); clear b6)
        | fail)
      go_ret
      exact ⟨rfl, (HA3.out.trans HY6.out).toBelow⟩
end Go.Proofs.Ytbjenpkgcdppaaa
