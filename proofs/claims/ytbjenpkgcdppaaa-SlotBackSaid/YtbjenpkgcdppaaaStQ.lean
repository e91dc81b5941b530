/- SlotEncodes, walked. -/
import Derived.Test.YtbjenpkgcdppaaaStP
import Derived.Test.YtbjenpkgcdppaaaStF
import Derived.Test.YtbjenpkgcdppaaaStL
namespace Go.Proofs.Ytbjenpkgcdppaaa
open Go.ChangeShapes Go.WideShapes Go.ChangeAt Go.RowKit

def encTL (x : Slt) : List Nat := if isT x then secT x else []
def encTE (x : Slt) : Int := if isT x then 0 else 2
set_option maxRecDepth 3000 in
theorem EncT.same {w w' : World} {x : Slt} {e : Ending} (h : EncT w x e w') : ∃ A m k, e = .returned (.tuple #[.slice A m k, .int .i64 (encTE x)]) ∧ Rd w' 1 (.slice A m k) m ((encTL x).map u8) ∧ Adv Nul w Nul w' := by
  obtain ⟨A, m, k, F, rfl, h1, h2, h3⟩ := h
  by_cases ho : isT x
  · obtain ⟨rfl, hs⟩ := h2 ho
    exact ⟨A, _, k, rfl, by unfold encTL; rw [if_pos ho]; exact hs.rd, h1.nul⟩
  · obtain ⟨rfl, rfl, rfl⟩ := h3 ho
    exact ⟨none, 0, 0, rfl, by unfold encTL; rw [if_neg ho]; exact (Sl.nil w' 5 1).rd, h1.nul⟩
set_option maxRecDepth 3000 in
theorem rd_nul {w w' : World} {v : Value} {n : Nat} {xs : List Value} (h : Rd w 1 v n xs) (ha : Adv Nul w Nul w') : Rd w' 1 v n xs := h.far (fun k _ _ hk => ha.block k hk (fun h => h)) ha.size
set_option maxRecDepth 3000 in
theorem tc_set (x : Slt) (t : ByteArray) : (tc x).setIfInBounds 6 (.string t) = tc ⟨x.u, x.i, x.g, x.a, x.v, x.d, t⟩ := rfl
set_option maxRecDepth 3000 in
set_option maxHeartbeats 3200000 in
theorem encodes14_walk (w : World) (v0 : Value) (h0 : SArg v0) : Calls Try.prog 3 #[v0] w fun e w' => e = .returned (.bool true) ∧ Below w.heap.size w w' := by
  obtain ⟨x0, rfl, hw0, hs0⟩ := h0
  obtain ⟨C0, hC0⟩ : ∃ C, C = tc x0 := ⟨_, rfl⟩
  have HC0S := Lib.hid (show C0.size = 7 by rw [hC0]; rfl)
  have HSET := Lib.hid (show ∀ t : ByteArray, C0.setIfInBounds 6 (.string t) = tc ⟨x0.u, x0.i, x0.g, x0.a, x0.v, x0.d, t⟩ by rw [hC0]; exact fun t => rfl)
  have HC6 := Lib.hid (show ∀ (z : Nat) (w' : World), Blk w' z 28 C0 → w'.cell? ⟨z, 6, none⟩ = some (.string x0.s) from fun z w' h => by rw [hC0] at h; exact h.c7.all.2.2.2.2.2.2)
  have HW0 := Lib.hid hw0
  have HSH := Lib.hid (fun w => short70 x0.s w hs0)
  rw [← hC0]
  clear hC0 hw0 hs0
  go_enter Try.func3, Try.ntmps3
  go_upto_region 2 with (first
    | (refine kop_box rfl _ rfl rfl ?_; intro z w1 hz hb ha; have HB1 := Lib.hid hb; have HA1 := Lib.hid ha; have HZN := Lib.hid hz; have c6 := HC6.out z _ hb; have f6 := hb.frozen 6; clear hz hb ha)
    | (go_at_call 7; refine (HSH.out _).mono ?_; rintro e w2 ⟨t, rfl, ht, rfl⟩)
    | fail)
  obtain ⟨x, hx⟩ : ∃ x : Slt, x = ⟨x0.u, x0.i, x0.g, x0.a, x0.v, x0.d, t⟩ := ⟨_, rfl⟩
  have hwf : WfT x := by rw [hx]; exact HW0.out t (by omega)
  obtain ⟨C, hC⟩ : ∃ C, C = tc x := ⟨_, rfl⟩
  obtain ⟨W3, hW3⟩ : ∃ W, W = World.setCell w1 ⟨z, 6, none⟩ (.string t) := ⟨_, rfl⟩
  have HB3 := Lib.hid (show Blk W3 z 28 C by rw [hW3, hC, hx, ← HSET.out t]; exact HB1.out.set_ 6 (.string t))
  have HA3 := Lib.hid (show Adv Nul w Nul W3 by rw [hW3]; exact HA1.out.setCell (p := ⟨z, 6, none⟩) (.inr HZN.out) _)
  have HCS := Lib.hid (show C.size = 7 by rw [hC]; rfl)
  have HM := Lib.hid (mine14_any x)
  have HEN := Lib.hid (fun w => (sencode_any x hwf w).mono fun _ _ h => h.same)
  have HEQ := Lib.hid (fun w => (qsencode_any x hwf w).mono fun _ _ h => h.same)
  have HF := Lib.hid (free_any x hwf)
  have hE := eq_qslot x zeroT hwf zeroT_wf
  obtain ⟨B, hB⟩ : ∃ B, B = decide (x = zeroT) := ⟨_, rfl⟩
  obtain ⟨L, hL⟩ : ∃ L, L = encTL x := ⟨_, rfl⟩
  obtain ⟨E, hE0⟩ : ∃ E, E = encTE x := ⟨_, rfl⟩
  obtain ⟨Z, hZ⟩ : ∃ C, C = tc zeroT := ⟨_, rfl⟩
  have HBU := Lib.hid builtQT
  rw [← hZ] at hE HBU
  rw [← hB] at hE HF
  rw [← hC] at hE HM HEN HEQ HF
  rw [← hL, ← hE0] at HEN HEQ
  have HE := Lib.hid hE
  rw [← hW3]
  clear hW3 hx hC hB hL hE0 hE hZ hwf c6 f6 ht HSET HW0 HC6 HC0S HB1
  go_upto_region 4 with (first
    | (refine kop_load rfl _ rfl z HB3.out rfl Try.underlying28 rfl sizeQT HCS.out ?_)
    | (go_at_call 9; refine (HM.out _).mono ?_; rintro e w4 ⟨rfl, a4⟩; have HA4 := Lib.hid (HA3.out.trans a4); have HB4 := Lib.hid (HB3.out.over a4); clear a4 HB3)
    | (go_at_call 8; refine (HEN.out _).mono ?_; rintro e w7 ⟨A7, m7, c7, rfl, r7, a7⟩; have HA7 := Lib.hid (HA4.out.trans a7); have HB7 := Lib.hid (HB4.out.over a7); have HR := Lib.hid r7; clear a7 r7 HB4)
    | (refine kop_load rfl _ rfl z HB7.out rfl Try.underlying28 rfl sizeQT HCS.out ?_)
    | (go_at_call 10; refine (HEQ.out _).mono ?_; rintro e w8 ⟨A8, m8, c8, rfl, r8, a8⟩; have HA8 := Lib.hid (HA7.out.trans a8); have HB8 := Lib.hid (HB7.out.over a8); have HR8 := Lib.hid r8; have HR7 := Lib.hid (rd_nul HR.out a8); clear a8 r8 HB7 HR)
    | fail)
  have K0 := Lib.hid (show Blk (World.drew w8) z 28 C from HB8.out)
  refine rstart (S := (fun w' => Blk w' z 28 C)) (by first | with_reducible exact K4.out | with_reducible exact K3.out | with_reducible exact K2.out | with_reducible exact K1.out | with_reducible exact K0.out) (fun hH => ?_)
  refine tk (i := 0) (oi := ⟨some 22, .move (.tmp 3), 30, "law.go:29", #[], none⟩) hH.out (by rintro w hB; go_simp <;> with_reducible rfl) ?_
  simp only [Act.put, sA, sB, sC]
  refine tk (i := 1) (oi := ⟨some 23, .move (.tmp 5), 30, "law.go:29", #[], none⟩) hH.out (by rintro w hB; go_simp <;> with_reducible rfl) ?_
  simp only [Act.put, sA, sB, sC]
  refine rdy (i := 2) (oi := ⟨some 24, .call ⟨.value (.func 11), #[.tmp 22, .tmp 23], #[30, 30]⟩, 4, "law.go:29", #[⟨0, .data⟩, ⟨1, .data⟩], none⟩) (fun K hK => ?_)
  go_simp
  refine (isame_any _ _ _ _ _ _ _ (rd_nul HR7.out (Adv.refl Nul w8).drew) (rd_nul HR8.out (Adv.refl Nul w8).drew)).mono ?_
  rintro e w9 ⟨rfl, j9, rfl⟩
  rw [decide_eq_true (Eq.refl L)]
  have HA9 := Lib.hid (HA8.out.drewN (1 + j9))
  have K1 := Lib.hid (show Blk (World.drewN w8 (1 + j9)) z 28 C from HB8.out)
  go_wp2_with fail
  refine hK.out _ _ (by first | with_reducible exact K4.out | with_reducible exact K3.out | with_reducible exact K2.out | with_reducible exact K1.out | with_reducible exact K0.out) (fun hHeld => ?_)
  replace hH := Lib.hid hHeld
  clear hK K hHeld
  try simp only [Act.put, sA, sB, sC]
  refine tk (i := 3) (oi := ⟨some 25, .move (.tmp 24), 4, "law.go:29", #[⟨2, .data⟩, ⟨2, .chain⟩], none⟩) hH.out (by rintro w hB; go_simp <;> with_reducible rfl) ?_
  simp only [Act.put, sA, sB, sC]
  refine tk (i := 4) (oi := { dst := some 26, op := .move (.tmp 4), type := 31, pos := "law.go:29", after := #[⟨3, .guard⟩], guard := some (3, true) }) hH.out (by rintro w hB; go_simp <;> with_reducible rfl) ?_
  simp only [Act.put, sA, sB, sC]
  refine tk (i := 5) (oi := { dst := some 27, op := .move (.tmp 6), type := 3, pos := "law.go:29", after := #[⟨3, .guard⟩], guard := some (3, true) }) hH.out (by rintro w hB; go_simp <;> with_reducible rfl) ?_
  simp only [Act.put, sA, sB, sC]
  refine tk (i := 6) (oi := { dst := some 28, op := .binOp .eql 3 (.tmp 26) (.tmp 27) 3, type := 4, pos := "law.go:29", after := #[⟨4, .data⟩, ⟨5, .data⟩, ⟨3, .guard⟩], guard := some (3, true) }) hH.out (by rintro w hB; go_simp <;> with_reducible rfl) ?_
  simp only [Act.put, sA, sB, sC]
  refine tk (i := 7) (oi := ⟨some 29, .pick (.tmp 25) (.tmp 28) (.const (Go.Value.bool false)), 4, "law.go:29", #[⟨3, .data⟩, ⟨6, .data⟩], none⟩) hH.out (by rintro w hB; go_simp <;> with_reducible rfl) ?_
  simp only [Act.put, sA, sB, sC]
  refine tk (i := 8) (oi := ⟨some 30, .move (.tmp 29), 4, "law.go:29", #[⟨7, .data⟩, ⟨3, .chain⟩], none⟩) hH.out (by rintro w hB; go_simp <;> with_reducible rfl) ?_
  simp only [Act.put, sA, sB, sC]
  refine wpAnyH_take (i := 9) (oi := { dst := some 31, op := .load 28 (.tmp 1), type := 28, pos := "law.go:29", after := #[⟨8, .guard⟩], guard := some (8, true) }) (v := .agg C) rfl (by kernel_rfl) (by kernel_rfl) (by kernel_rfl) (fun _ _ _ h => h) (kyl_load rfl (.tmp 1) rfl z rfl (fun _ h => h) Try.underlying28 rfl sizeQT HCS.out) hH.out ?_
  simp only [Act.put, sA, sB, sC]
  refine wpAnyH_take (i := 12) (oi := { dst := some 34, op := .load 28 (.tmp 1), type := 28, pos := "law.go:29", after := #[⟨8, .guard⟩], guard := some (8, true) }) (v := .agg C) rfl (by kernel_rfl) (by kernel_rfl) (by kernel_rfl) (fun _ _ _ h => h) (kyl_load rfl (.tmp 1) rfl z rfl (fun _ h => h) Try.underlying28 rfl sizeQT HCS.out) hH.out ?_
  simp only [Act.put, sA, sB, sC]
  refine wpAnyH_take (i := 13) (oi := { dst := some 35, op := .build 28 #[], type := 28, pos := "law.go:29", after := #[⟨8, .guard⟩], guard := some (8, true) }) (v := .agg Z) rfl (by kernel_rfl) (by kernel_rfl) (by kernel_rfl) (fun _ _ _ h => h) (kyl_zero HBU.out rfl rfl) hH.out ?_
  simp only [Act.put, sA, sB, sC]
  refine wpAnyH_take (i := 14) (oi := { dst := some 36, op := .binOp .eql 28 (.tmp 34) (.tmp 35) 28, type := 4, pos := "law.go:29", after := #[⟨12, .data⟩, ⟨13, .data⟩, ⟨8, .guard⟩], guard := some (8, true) }) (v := .bool B) rfl (by kernel_rfl) (by kernel_rfl) (by kernel_rfl) (fun _ _ _ h => h) (kyl_eqs HE.out guardQT rfl (.tmp 34) (.tmp 35) rfl rfl rfl) hH.out ?_
  simp only [Act.put, sA, sB, sC]
  refine rdy (i := 10) (oi := { dst := some 32, op := .call ⟨.value (.func 9), #[.tmp 31], #[28]⟩, type := 34, pos := "law.go:29", after := #[⟨9, .data⟩, ⟨8, .chain⟩, ⟨8, .guard⟩], guard := some (8, true) }) (fun K hK => ?_)
  go_simp
  refine (HM.out _).mono ?_
  rintro e w10 ⟨rfl, a10⟩
  have HA10 := Lib.hid (HA9.out.trans a10)
  have K2 := Lib.hid (K1.out.over a10)
  clear a10
  go_wp2_with fail
  refine hK.out _ _ (by first | with_reducible exact K4.out | with_reducible exact K3.out | with_reducible exact K2.out | with_reducible exact K1.out | with_reducible exact K0.out) (fun hHeld => ?_)
  replace hH := Lib.hid hHeld
  clear hK K hHeld
  try simp only [Act.put, sA, sB, sC]
  refine rdy (i := 11) (oi := { dst := some 33, op := .call ⟨.value (.func 12), #[.tmp 32], #[34]⟩, type := 4, pos := "law.go:29", after := #[⟨10, .data⟩, ⟨10, .chain⟩, ⟨8, .guard⟩], guard := some (8, true) }) (fun K hK => ?_)
  go_simp
  refine (HF.out _).mono ?_
  rintro e w11 ⟨rfl, a11⟩
  have HA11 := Lib.hid (HA10.out.trans a11)
  have K3 := Lib.hid (K2.out.over a11)
  clear a11
  go_wp2_with fail
  refine hK.out _ _ (by first | with_reducible exact K4.out | with_reducible exact K3.out | with_reducible exact K2.out | with_reducible exact K1.out | with_reducible exact K0.out) (fun hHeld => ?_)
  replace hH := Lib.hid hHeld
  clear hK K hHeld
  try simp only [Act.put, sA, sB, sC]
  refine tk (i := 15) (oi := { dst := some 37, op := .binOp .eql 4 (.tmp 33) (.tmp 36) 4, type := 4, pos := "law.go:29", after := #[⟨11, .data⟩, ⟨14, .data⟩, ⟨8, .guard⟩], guard := some (8, true) }) hH.out (by rintro w hB; go_simp <;> with_reducible rfl) ?_
  simp only [Act.put, sA, sB, sC]
  refine tk (i := 16) (oi := ⟨some 38, .pick (.tmp 30) (.tmp 37) (.const (Go.Value.bool false)), 4, "law.go:29", #[⟨8, .data⟩, ⟨15, .data⟩], none⟩) hH.out (by rintro w hB; go_simp <;> with_reducible rfl) ?_
  simp only [Act.put, sA, sB, sC]
  refine tk (i := 17) (oi := ⟨some 39, .move (.tmp 38), 4, "law.go:29", #[⟨16, .data⟩, ⟨11, .chain⟩], none⟩) hH.out (by rintro w hB; go_simp <;> with_reducible rfl) ?_
  simp only [Act.put, sA, sB, sC]
  refine rdy (i := 18) (oi := { dst := some 40, op := .call ⟨.value (.func 13), #[], #[]⟩, type := 4, pos := "law.go:29", after := #[⟨17, .chain⟩, ⟨17, .guard⟩], guard := some (17, true) }) (fun K hK => ?_)
  go_simp
  refine (lives14_any _).mono ?_
  rintro e w12 ⟨rfl, a12⟩
  have HA12 := Lib.hid (HA11.out.trans a12)
  have K4 := Lib.hid (K3.out.over a12)
  clear a12
  go_wp2_with fail
  refine hK.out _ _ (by first | with_reducible exact K4.out | with_reducible exact K3.out | with_reducible exact K2.out | with_reducible exact K1.out | with_reducible exact K0.out) (fun hHeld => ?_)
  replace hH := Lib.hid hHeld
  clear hK K hHeld
  try simp only [Act.put, sA, sB, sC]
  refine tk (i := 19) (oi := ⟨some 41, .pick (.tmp 39) (.tmp 40) (.const (Go.Value.bool false)), 4, "law.go:29", #[⟨17, .data⟩, ⟨18, .data⟩], none⟩) hH.out (by rintro w hB; go_simp <;> with_reducible rfl) ?_
  simp only [Act.put, sA, sB, sC]
  refine tk (i := 20) (oi := ⟨some 2, .assign (.tmp 41), 4, "law.go:29", #[⟨19, .data⟩, ⟨18, .chain⟩, ⟨0, .phase⟩, ⟨1, .phase⟩, ⟨2, .phase⟩, ⟨3, .phase⟩, ⟨4, .phase⟩, ⟨5, .phase⟩, ⟨6, .phase⟩, ⟨7, .phase⟩, ⟨8, .phase⟩, ⟨9, .phase⟩, ⟨10, .phase⟩, ⟨11, .phase⟩, ⟨12, .phase⟩, ⟨13, .phase⟩, ⟨14, .phase⟩, ⟨15, .phase⟩, ⟨16, .phase⟩, ⟨17, .phase⟩, ⟨18, .phase⟩, ⟨19, .phase⟩], none⟩) hH.out (by rintro w hB; go_simp <;> with_reducible rfl) ?_
  simp only [Act.put, sA, sB, sC]
  refine wpAnyH_done (by kernel_rfl) ?_ _
  go_wp2_with fail
  go_ret
  exact ⟨by first | rfl | simp, HA12.out.toBelow⟩
end Go.Proofs.Ytbjenpkgcdppaaa
