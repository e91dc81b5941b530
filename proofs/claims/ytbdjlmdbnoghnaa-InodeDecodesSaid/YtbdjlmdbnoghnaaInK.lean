/- The statements of layer 8, walked: InodeEncodes, InodeDecodes, InodeBack. -/
import Derived.Test.YtbdjlmdbnoghnaaInJ
namespace Go.Proofs.Ytbdjlmdbnoghnaa
open Go.ChangeShapes Go.WideShapes Go.ChangeAt Go.RowKit

def encL (x : Ino) : List Nat := if okI x then secI x else []
def encE (x : Ino) : Int := if okI x then 0 else 2
theorem EncR.same {w w' : World} {x : Ino} {e : Ending} (h : EncR w x e w') : ∃ A m k, e = .returned (.tuple #[.slice A m k, .int .i64 (encE x)]) ∧ Rd w' 1 (.slice A m k) m ((encL x).map u8) ∧ Adv Nul w Nul w' := by
  obtain ⟨A, m, k, F, rfl, h1, h2, h3⟩ := h
  by_cases ho : okI x
  · obtain ⟨rfl, hs⟩ := h2 ho
    exact ⟨A, _, k, rfl, by unfold encL; rw [if_pos ho]; exact hs.rd, h1.sub (fun _ h => h.elim)⟩
  · obtain ⟨rfl, rfl, rfl⟩ := h3 ho
    exact ⟨none, 0, 0, rfl, by unfold encL; rw [if_neg ho]; exact (Sl.nil w' 5 1).rd, h1.sub (fun _ h => h.elim)⟩
theorem InN.toIn {W : World} {v : Value} {m : Nat} {l : List Nat} (h : InN W v m l) : In W v l := ⟨h.rdl, fun b hb hl => h.old b hb (by rw [h.len]; exact hl), h.lt⟩
theorem rd_up {w w' : World} {v : Value} {n : Nat} {xs : List Value} (h : Rd w 1 v n xs) (ha : Adv Nul w Nul w') : Rd w' 1 v n xs := h.far (fun k _ _ hk => ha.block k hk (fun h => h)) ha.size
theorem dI_wf (l : List Nat) : WfI (dI l) := by
  unfold dI decI
  split
  · exact prt_wf _
  · exact ⟨by decide, by decide, by decide, fun _ _ => ⟨show (-9223372036854775808 : Int) ≤ 0 by decide, show (0 : Int) < 9223372036854775808 by decide⟩⟩

set_option maxRecDepth 3000 in
set_option maxHeartbeats 3200000 in
theorem encodes_walk (w : World) (v0 : Value) (h0 : IArg v0) : Calls Try.prog 3 #[v0] w fun e w' => e = .returned (.bool true) ∧ Below w.heap.size w w' := by
  obtain ⟨x, rfl, hx⟩ := h0
  obtain ⟨i0, hi, hz0, hz1, hz2⟩ := info_parts infoInt
  obtain ⟨y, hy⟩ : ∃ y, y = w.heap.size := ⟨_, rfl⟩
  obtain ⟨V, hV⟩ : ∃ V, V = w.alloc (.cells (ic x) 25) := ⟨_, rfl⟩
  have HY := Lib.hid (show Blk V y 25 (ic x) by rw [hV, hy]; exact Blk.new _ _ _)
  have HA := Lib.hid (show Adv Nul w Nul V by rw [hV]; exact (Adv.refl _ _).alloc _)
  have HV := Lib.hid hV
  have HYY := Lib.hid hy
  have HX := Lib.hid (fun (w' : World) (h : Adv Nul V Nul w') => (HY.out.keep (h.block y HY.out.lt (fun h => h))).c11)
  have HM := Lib.hid (mine_any x)
  have HE := Lib.hid (fun w => (encode_any x hx w).mono fun _ _ h => h.same)
  have HQ := Lib.hid (fun w => (qencode_any x hx w).mono fun _ _ h => h.same)
  have HP := Lib.hid (places_any x)
  have HU := Lib.hid (used_any x)
  obtain ⟨L, hL⟩ : ∃ L, L = encL x := ⟨_, rfl⟩
  obtain ⟨E, hE⟩ : ∃ E, E = encE x := ⟨_, rfl⟩
  obtain ⟨nz, hnz⟩ : ∃ nz, nz = nzI x 8 := ⟨_, rfl⟩
  rw [← hL, ← hE] at HE HQ
  rw [← hnz] at HP HU
  have HNZ := Lib.hid hnz
  obtain ⟨s0, s1, s2, s3, s4, s5, s6, s7, s8, s9, s10⟩ := HY.out.c11.all
  clear hV hy hx hL hE hnz
  obtain ⟨k, g, v, a⟩ := x
  simp only [ic] at HV HM HE HQ HP HU ⊢
  simp only at s0 s1 s2 s3 s4 s5 s6 s7 s8 s9 s10
  go_enter Try.func3, Try.ntmps3
  go_upto_region 1 with (fail)
  rw [← HV.out, ← HYY.out]
  go_upto_region 2 with (first
    | (go_at_call 7; refine (HM.out _).mono ?_; rintro e w1 ⟨rfl, a1⟩; have HA1 := Lib.hid a1; clear a1)
    | (go_at_call 6; refine (HE.out _).mono ?_; rintro e w2 ⟨A2, m2, c2, rfl, r2, a2⟩; have HA2 := Lib.hid (HA1.out.trans a2); have HR2 := Lib.hid r2; clear r2 a2)
    | fail)
  obtain ⟨s0, s1, s2, s3, s4, s5, s6, s7, s8, s9, s10⟩ := (HX.out _ HA2.out).all
  simp only at s0 s1 s2 s3 s4 s5 s6 s7 s8 s9 s10
  go_upto_region 3 with (first
    | (go_at_call 8; refine (HQ.out _).mono ?_; rintro e w3 ⟨A3, m3, c3, rfl, r3, a3⟩; have HA3 := Lib.hid (HA2.out.trans a3); have HR3 := Lib.hid r3; replace HR2 := Lib.hid (rd_up HR2.out a3); clear r3 a3)
    | fail)
  go_wp2_with fail
  go_loopw [7, 8] (NzL w3 ⟨k, g, v, a⟩) (fun _ t _ => 8 - (intOf t).toNat)
  case atStart => exact ⟨0, Nul, rfl, Nat.zero_le _, Sl.nil _ _ _, Adv.refl _ _⟩
  case round =>
    obtain ⟨j, F, rfl, hj, hS, hA⟩ := hrel
    obtain ⟨A7, c7, rfl, _, _⟩ := hS.form0
    have HS := Lib.hid hS
    have HAR := Lib.hid hA
    have HAV := Lib.hid (HA3.out.trans (hA.sub (G := Nul) (fun _ h => h.elim)))
    have hown := hS.own
    have hle := nzI_le ⟨k, g, v, a⟩ j
    obtain ⟨n, hn⟩ : ∃ n, n = (nzI ⟨k, g, v, a⟩ j).length := ⟨_, rfl⟩
    rw [← hn] at hown hle ⊢
    have HN := Lib.hid hn
    clear hS hA hn
    by_cases hlt : j < 8
    · have hij := c11_at (HX.out _ HAV.out) j hlt
      simp only at hij
      have HLT := Lib.hid hlt
      by_cases h0 : a j = 0
      · have H0 := Lib.hid h0
        rw [h0] at hij
        clear h0 hown hle
        go_wp2_with fail
        refine ⟨⟨j + 1, F, by simp, HLT.out, ?_, HAR.out⟩, by have := HLT.out; simp [intOf] <;> omega⟩
        rw [HN.out, nz_no H0.out]
        rw [HN.out] at *
        exact HS.out
      · have H0 := Lib.hid h0
        obtain ⟨z, hz⟩ : ∃ z, z = a j := ⟨_, rfl⟩
        rw [← hz] at hij h0
        have HZ := Lib.hid hz
        have hn7 : n ≤ 8 := by omega
        clear hz hle
        go_wp2_with (first
          | (at_builtin; refine wpList_append_own_at _ rfl (.tmp 29) (.tmp 34) 34 rfl 0 3 i0 (.int .i64 0) 1 8 Try.underlying34 hi hz0 hz1 hz2 rfl (by decide) (.slice A7 n c7) n _ rfl (hown.alloc _) ⟨wr.heap.size, 0, none⟩ 1 1 [.int .i64 z] rfl rfl (cell_one_new _ _ _) ?c2 ?c3 ?c4 (Nat.zero_le _) ?c5)
          | fail)
        case c2 => intro u hu; simp at hu; subst hu; rfl
        case c3 => unfold maxLen; omega
        case c4 => omega
        case c5 =>
          intro v' w4 hown1 hg1 _ hat1
          have hS2 := HS.out
          rw [← HN.out] at hS2
          obtain ⟨h3, a3⟩ := one_grownE hS2 HAR.out hown1 hg1 hat1 (by omega)
          rw [HN.out, HZ.out] at h3
          have H3 := Lib.hid (nz_sl (x := ⟨k, g, v, a⟩) H0.out h3)
          have A3' := Lib.hid a3
          clear h3 a3 hown1 hg1 hat1 hown hS2
          go_wp2_with fail
          exact ⟨⟨j + 1, _, by simp, HLT.out, H3.out, A3'.out⟩, by have := HLT.out; simp [intOf] <;> omega⟩
    · obtain rfl : j = 8 := by omega
      have hs := HS.out
      rw [← HN.out, ← HNZ.out] at hs
      have hnl : nz.length = n := by rw [HNZ.out]; exact HN.out.symm
      rw [hnl] at HP HU
      have HS7 := Lib.hid hs
      have HR2' := Lib.hid (rd_up HR2.out (HAR.out.sub (G := Nul) (fun _ h => h.elim)))
      have HR3' := Lib.hid (rd_up HR3.out (HAR.out.sub (G := Nul) (fun _ h => h.elim)))
      obtain ⟨s0, s1, s2, s3, s4, s5, s6, s7, s8, s9, s10⟩ := (HX.out _ HAV.out).all
      simp only at s0 s1 s2 s3 s4 s5 s6 s7 s8 s9 s10
      clear hj hlt hown hle hs hnl
      have HAD := Lib.hid HAV.out
      have HSD := Lib.hid HS7.out.rd
      go_wp2_with (first
        | (go_at_call 9; refine (isame_any _ _ _ _ _ _ _ HR2'.out HR3'.out).mono ?_; rintro e w5 ⟨rfl, q5, rfl⟩; rw [decide_eq_true (Eq.refl L)]; replace HAD := Lib.hid (HAD.out.drewN q5); replace HSD := Lib.hid (rd_up HSD.out ((Adv.refl Nul _).drewN q5)))
        | (go_at_call 7; refine (HM.out _).mono ?_; rintro e w6 ⟨rfl, a6⟩; replace HAD := Lib.hid (HAD.out.trans a6); replace HSD := Lib.hid (rd_up HSD.out a6); obtain ⟨s0, s1, s2, s3, s4, s5, s6, s7, s8, s9, s10⟩ := (HX.out _ HAD.out).all; simp only at s0 s1 s2 s3 s4 s5 s6 s7 s8 s9 s10; clear a6)
        | (go_at_call 11; refine (HP.out _).mono ?_; rintro e w7 ⟨v7, F7, rfl, p7, a7⟩; obtain ⟨A8, c8, rfl, _, _⟩ := p7.form0; replace HAD := Lib.hid (HAD.out.trans (a7.sub (G := Nul) (fun _ h => h.elim))); replace HSD := Lib.hid (rd_up HSD.out (a7.sub (G := Nul) (fun _ h => h.elim))); have HP7 := Lib.hid p7.rd; obtain ⟨s0, s1, s2, s3, s4, s5, s6, s7, s8, s9, s10⟩ := (HX.out _ HAD.out).all; simp only at s0 s1 s2 s3 s4 s5 s6 s7 s8 s9 s10; clear a7 p7)
        | (go_at_call 10; refine (same_ints _ _ _ _ _ HP7.out HSD.out).mono ?_; rintro e w8 ⟨rfl, q8, rfl⟩; replace HAD := Lib.hid (HAD.out.drewN q8); replace HSD := Lib.hid (rd_up HSD.out ((Adv.refl Nul _).drewN q8)); obtain ⟨s0, s1, s2, s3, s4, s5, s6, s7, s8, s9, s10⟩ := (HX.out _ HAD.out).all; simp only at s0 s1 s2 s3 s4 s5 s6 s7 s8 s9 s10)
        | (go_at_call 12; refine (HU.out _).mono ?_; rintro e w9 ⟨rfl, a9⟩; replace HAD := Lib.hid (HAD.out.trans a9); clear a9)
        | (go_at_call 13; refine (lives8_any _).mono ?_; rintro e w10 ⟨rfl, a10⟩; replace HAD := Lib.hid (HAD.out.trans a10); clear a10)
        | fail)
      go_ret
      exact ⟨rfl, (HA.out.trans HAD.out).toBelow⟩

set_option maxRecDepth 3000 in
set_option maxHeartbeats 3200000 in
theorem decodes_walk (w : World) (v0 : Value) (h0 : ∃ l, In w v0 l) : Calls Try.prog 4 #[v0] w fun e w' => e = .returned (.bool true) ∧ Below w.heap.size w w' := by
  obtain ⟨l0, hl0⟩ := h0
  have HCUT := Lib.hid (cut_form v0 l0 140 w hl0 (by decide))
  clear hl0
  go_enter Try.func4, Try.ntmps4
  go_upto_region 2 with (first
    | (go_at_call 14; refine HCUT.out.mono ?_; rintro e w1 ⟨l, A, c, m, rfl, _, hin, rfl⟩; have HIN := Lib.hid hin; clear hin)
    | fail)
  have HP := Lib.hid (fun w' (ha : Adv Nul w Nul w') => decode_any _ l w' (HIN.out.far ha.toBelow).rdl HIN.out.lt)
  have HQ := Lib.hid (fun w' (ha : Adv Nul w Nul w') => qdecode_any _ l w' (HIN.out.far ha.toBelow).toIn)
  unfold DecR at HP HQ
  have hwf := (dI_wf l).a
  obtain ⟨X, hX⟩ : ∃ X, X = dI l := ⟨_, rfl⟩
  obtain ⟨E, hE0⟩ : ∃ E, E = eI l := ⟨_, rfl⟩
  rw [← hX] at HP HQ hwf
  rw [← hE0] at HP HQ
  have HM := Lib.hid (mine_any X)
  obtain ⟨cc, hcc, hE⟩ := eq_arr X.a X.a hwf hwf
  obtain rfl : cc = true := hcc.mpr ⟨rfl, rfl, rfl, rfl, rfl, rfl, rfl, rfl⟩
  clear hX hE0 hwf hcc
  obtain ⟨k, g, v, a⟩ := X
  simp only [ic] at HP HQ HM
  simp only [arr] at hE
  go_upto_region 4 with (first
    | (go_at_call 15; refine (HP.out _ (Adv.refl _ _).drew).mono ?_; rintro e w2 ⟨rfl, a2⟩; have HA2 := Lib.hid ((Adv.refl Nul w).drew.trans a2); clear a2)
    | (go_at_call 15; refine (HP.out _ (Adv.refl _ _)).mono ?_; rintro e w2 ⟨rfl, a2⟩; have HA2 := Lib.hid a2; clear a2)
    | (go_at_call 16; refine (HQ.out _ (HA2.out.alloc (.cells #[.int .i64 k, .int .i64 g, .int .u64 (v : Int), .int .i64 (a 0), .int .i64 (a 1), .int .i64 (a 2), .int .i64 (a 3), .int .i64 (a 4), .int .i64 (a 5), .int .i64 (a 6), .int .i64 (a 7)] 30))).mono ?_; rintro e w3 ⟨rfl, a3⟩; have HA3 := Lib.hid ((HA2.out.alloc (.cells #[.int .i64 k, .int .i64 g, .int .u64 (v : Int), .int .i64 (a 0), .int .i64 (a 1), .int .i64 (a 2), .int .i64 (a 3), .int .i64 (a 4), .int .i64 (a 5), .int .i64 (a 6), .int .i64 (a 7)] 30)).trans a3); have HB0 := Lib.hid ((Blk.new w2 30 (ic ⟨k, g, v, a⟩)).keep (a3.block _ (Blk.new w2 30 (ic ⟨k, g, v, a⟩)).lt (fun h => h))); clear a3)
    | fail)
  have HB1' := Lib.hid (HB0.out.alloc (.cells (ic ⟨k, g, v, a⟩) 25))
  have HB2' := Lib.hid (Blk.new w3 25 (ic ⟨k, g, v, a⟩))
  have HA4 := Lib.hid (HA3.out.alloc (.cells (ic ⟨k, g, v, a⟩) 25))
  obtain ⟨b1, hb1⟩ : ∃ b, b = w2.heap.size := ⟨_, rfl⟩
  obtain ⟨b2, hb2⟩ : ∃ b, b = w3.heap.size := ⟨_, rfl⟩
  obtain ⟨W3, hW3⟩ : ∃ W, W = w3.alloc (.cells #[.int .i64 k, .int .i64 g, .int .u64 (v : Int), .int .i64 (a 0), .int .i64 (a 1), .int .i64 (a 2), .int .i64 (a 3), .int .i64 (a 4), .int .i64 (a 5), .int .i64 (a 6), .int .i64 (a 7)] 25) := ⟨_, rfl⟩
  have hW3' : W3 = w3.alloc (.cells (ic ⟨k, g, v, a⟩) 25) := hW3
  have HB1 := Lib.hid (show Blk W3 b1 30 (ic ⟨k, g, v, a⟩) by rw [hW3', hb1]; exact HB1'.out)
  have HB2 := Lib.hid (show Blk W3 b2 25 (ic ⟨k, g, v, a⟩) by rw [hW3', hb2]; exact HB2'.out)
  have HA3' := Lib.hid (show Adv Nul w Nul W3 by rw [hW3']; exact HA4.out)
  rw [← hb1, ← hb2, ← hW3]
  clear hb1 hb2 hW3 hW3' HB1' HB2' HA4 HA3 HA2 HB0
  have K0 := Lib.hid (show (World.cell? W3.drew ⟨b1, 0, none⟩ = some (.int .i64 k) ∧ World.cell? W3.drew ⟨b1, 1, none⟩ = some (.int .i64 g) ∧ World.cell? W3.drew ⟨b1, 2, none⟩ = some (.int .u64 (v : Int)) ∧ World.cell? W3.drew ⟨b1, 3, none⟩ = some (.int .i64 (a 0)) ∧ World.cell? W3.drew ⟨b1, 4, none⟩ = some (.int .i64 (a 1)) ∧ World.cell? W3.drew ⟨b1, 5, none⟩ = some (.int .i64 (a 2)) ∧ World.cell? W3.drew ⟨b1, 6, none⟩ = some (.int .i64 (a 3)) ∧ World.cell? W3.drew ⟨b1, 7, none⟩ = some (.int .i64 (a 4)) ∧ World.cell? W3.drew ⟨b1, 8, none⟩ = some (.int .i64 (a 5)) ∧ World.cell? W3.drew ⟨b1, 9, none⟩ = some (.int .i64 (a 6)) ∧ World.cell? W3.drew ⟨b1, 10, none⟩ = some (.int .i64 (a 7))) ∧ (World.cell? W3.drew ⟨b2, 0, none⟩ = some (.int .i64 k) ∧ World.cell? W3.drew ⟨b2, 1, none⟩ = some (.int .i64 g) ∧ World.cell? W3.drew ⟨b2, 2, none⟩ = some (.int .u64 (v : Int)) ∧ World.cell? W3.drew ⟨b2, 3, none⟩ = some (.int .i64 (a 0)) ∧ World.cell? W3.drew ⟨b2, 4, none⟩ = some (.int .i64 (a 1)) ∧ World.cell? W3.drew ⟨b2, 5, none⟩ = some (.int .i64 (a 2)) ∧ World.cell? W3.drew ⟨b2, 6, none⟩ = some (.int .i64 (a 3)) ∧ World.cell? W3.drew ⟨b2, 7, none⟩ = some (.int .i64 (a 4)) ∧ World.cell? W3.drew ⟨b2, 8, none⟩ = some (.int .i64 (a 5)) ∧ World.cell? W3.drew ⟨b2, 9, none⟩ = some (.int .i64 (a 6)) ∧ World.cell? W3.drew ⟨b2, 10, none⟩ = some (.int .i64 (a 7))) from ⟨(HB1.out.drew).c11.all, (HB2.out.drew).c11.all⟩)
  refine wp_region_held_drew (S := (fun w' => (w'.cell? ⟨b1, 0, none⟩ = some (.int .i64 k) ∧ w'.cell? ⟨b1, 1, none⟩ = some (.int .i64 g) ∧ w'.cell? ⟨b1, 2, none⟩ = some (.int .u64 (v : Int)) ∧ w'.cell? ⟨b1, 3, none⟩ = some (.int .i64 (a 0)) ∧ w'.cell? ⟨b1, 4, none⟩ = some (.int .i64 (a 1)) ∧ w'.cell? ⟨b1, 5, none⟩ = some (.int .i64 (a 2)) ∧ w'.cell? ⟨b1, 6, none⟩ = some (.int .i64 (a 3)) ∧ w'.cell? ⟨b1, 7, none⟩ = some (.int .i64 (a 4)) ∧ w'.cell? ⟨b1, 8, none⟩ = some (.int .i64 (a 5)) ∧ w'.cell? ⟨b1, 9, none⟩ = some (.int .i64 (a 6)) ∧ w'.cell? ⟨b1, 10, none⟩ = some (.int .i64 (a 7))) ∧ (w'.cell? ⟨b2, 0, none⟩ = some (.int .i64 k) ∧ w'.cell? ⟨b2, 1, none⟩ = some (.int .i64 g) ∧ w'.cell? ⟨b2, 2, none⟩ = some (.int .u64 (v : Int)) ∧ w'.cell? ⟨b2, 3, none⟩ = some (.int .i64 (a 0)) ∧ w'.cell? ⟨b2, 4, none⟩ = some (.int .i64 (a 1)) ∧ w'.cell? ⟨b2, 5, none⟩ = some (.int .i64 (a 2)) ∧ w'.cell? ⟨b2, 6, none⟩ = some (.int .i64 (a 3)) ∧ w'.cell? ⟨b2, 7, none⟩ = some (.int .i64 (a 4)) ∧ w'.cell? ⟨b2, 8, none⟩ = some (.int .i64 (a 5)) ∧ w'.cell? ⟨b2, 9, none⟩ = some (.int .i64 (a 6)) ∧ w'.cell? ⟨b2, 10, none⟩ = some (.int .i64 (a 7))))) (by kernel_rfl) (by first | with_reducible exact K2.out | with_reducible exact K1.out | with_reducible exact K0.out) (fun hHeld => ?_)
  clear hHeld
  refine wpAnyH_take (i := 0) (oi := ⟨some 19, .load 30 (.tmp 3), 30, "law.go:41", #[], none⟩) (v := ?_) rfl (by kernel_rfl) (by kernel_rfl) (by kernel_rfl) (fun _ _ _ h => h) (Or.inl ⟨by rfl, ?_⟩) (by first | with_reducible exact K2.out | with_reducible exact K1.out | with_reducible exact K0.out) ?_
  rotate_left
  · (intro w hSw; obtain ⟨⟨s0, s1, s2, s3, s4, s5, s6, s7, s8, s9, s10⟩, ⟨r0, r1, r2, r3, r4, r5, r6, r7, r8, r9, r10⟩⟩ := hSw; go_simp <;> with_reducible rfl)
  simp only [Act.put, List.setIfInBounds_toArray, List.set_cons_zero, List.set_cons_succ]
  refine wpAnyH_take (i := 1) (oi := ⟨some 20, .load 25 (.tmp 5), 25, "law.go:41", #[], none⟩) (v := ?_) rfl (by kernel_rfl) (by kernel_rfl) (by kernel_rfl) (fun _ _ _ h => h) (Or.inl ⟨by rfl, ?_⟩) (by first | with_reducible exact K2.out | with_reducible exact K1.out | with_reducible exact K0.out) ?_
  rotate_left
  · (intro w hSw; obtain ⟨⟨s0, s1, s2, s3, s4, s5, s6, s7, s8, s9, s10⟩, ⟨r0, r1, r2, r3, r4, r5, r6, r7, r8, r9, r10⟩⟩ := hSw; go_simp <;> with_reducible rfl)
  simp only [Act.put, List.setIfInBounds_toArray, List.set_cons_zero, List.set_cons_succ]
  refine wpAnyH_ready (rs := [2]) (by kernel_rfl) (by simp) ?_
  refine AllReadyH.cons (o := ⟨some 21, .call { callee := Go.Callee.value (.func 7), args := #[Go.Operand.tmp 20], argTypes := #[25] }, 30, "law.go:41", #[⟨1, .data⟩], none⟩) rfl (fun K hK => ?_) AllReadyH.nil
  go_simp
  refine (HM.out _).mono ?_
  rintro x w5 ⟨rfl, a5⟩
  have HA5 := Lib.hid ((Adv.refl Nul W3).drew.trans a5)
  have K1 := Lib.hid (show ((w5).cell? ⟨b1, 0, none⟩ = some (.int .i64 k) ∧ (w5).cell? ⟨b1, 1, none⟩ = some (.int .i64 g) ∧ (w5).cell? ⟨b1, 2, none⟩ = some (.int .u64 (v : Int)) ∧ (w5).cell? ⟨b1, 3, none⟩ = some (.int .i64 (a 0)) ∧ (w5).cell? ⟨b1, 4, none⟩ = some (.int .i64 (a 1)) ∧ (w5).cell? ⟨b1, 5, none⟩ = some (.int .i64 (a 2)) ∧ (w5).cell? ⟨b1, 6, none⟩ = some (.int .i64 (a 3)) ∧ (w5).cell? ⟨b1, 7, none⟩ = some (.int .i64 (a 4)) ∧ (w5).cell? ⟨b1, 8, none⟩ = some (.int .i64 (a 5)) ∧ (w5).cell? ⟨b1, 9, none⟩ = some (.int .i64 (a 6)) ∧ (w5).cell? ⟨b1, 10, none⟩ = some (.int .i64 (a 7))) ∧ ((w5).cell? ⟨b2, 0, none⟩ = some (.int .i64 k) ∧ (w5).cell? ⟨b2, 1, none⟩ = some (.int .i64 g) ∧ (w5).cell? ⟨b2, 2, none⟩ = some (.int .u64 (v : Int)) ∧ (w5).cell? ⟨b2, 3, none⟩ = some (.int .i64 (a 0)) ∧ (w5).cell? ⟨b2, 4, none⟩ = some (.int .i64 (a 1)) ∧ (w5).cell? ⟨b2, 5, none⟩ = some (.int .i64 (a 2)) ∧ (w5).cell? ⟨b2, 6, none⟩ = some (.int .i64 (a 3)) ∧ (w5).cell? ⟨b2, 7, none⟩ = some (.int .i64 (a 4)) ∧ (w5).cell? ⟨b2, 8, none⟩ = some (.int .i64 (a 5)) ∧ (w5).cell? ⟨b2, 9, none⟩ = some (.int .i64 (a 6)) ∧ (w5).cell? ⟨b2, 10, none⟩ = some (.int .i64 (a 7))) from ⟨(HB1.out.keep (HA5.out.block b1 HB1.out.lt (fun h => h))).c11.all, (HB2.out.keep (HA5.out.block b2 HB2.out.lt (fun h => h))).c11.all⟩)
  clear a5
  go_wp2_with fail
  refine hK.out _ _ (by first | with_reducible exact K2.out | with_reducible exact K1.out | with_reducible exact K0.out) (fun hHeld => ?_)
  clear hK K hHeld
  try simp only [Act.put, List.setIfInBounds_toArray, List.set_cons_zero, List.set_cons_succ]
  refine wpAnyH_take (i := 3) (oi := ⟨some 22, .binOp Go.BinOp.eql 30 (.tmp 19) (.tmp 21) 30, 4, "law.go:41", #[⟨0, .data⟩, ⟨2, .data⟩], none⟩) (v := ?_) rfl (by kernel_rfl) (by kernel_rfl) (by kernel_rfl) (fun _ _ _ h => h) (Or.inl ⟨by rfl, ?_⟩) (by first | with_reducible exact K2.out | with_reducible exact K1.out | with_reducible exact K0.out) ?_
  rotate_left
  · (intro w hSw; obtain ⟨⟨s0, s1, s2, s3, s4, s5, s6, s7, s8, s9, s10⟩, ⟨r0, r1, r2, r3, r4, r5, r6, r7, r8, r9, r10⟩⟩ := hSw; go_simp <;> with_reducible rfl)
  simp only [Act.put, List.setIfInBounds_toArray, List.set_cons_zero, List.set_cons_succ]
  refine wpAnyH_take (i := 4) (oi := ⟨some 23, .move (.tmp 22), 4, "law.go:41", #[⟨3, .data⟩, ⟨2, .chain⟩], none⟩) (v := ?_) rfl (by kernel_rfl) (by kernel_rfl) (by kernel_rfl) (fun _ _ _ h => h) (Or.inl ⟨by rfl, ?_⟩) (by first | with_reducible exact K2.out | with_reducible exact K1.out | with_reducible exact K0.out) ?_
  rotate_left
  · (intro w hSw; obtain ⟨⟨s0, s1, s2, s3, s4, s5, s6, s7, s8, s9, s10⟩, ⟨r0, r1, r2, r3, r4, r5, r6, r7, r8, r9, r10⟩⟩ := hSw; go_simp <;> with_reducible rfl)
  simp only [Act.put, List.setIfInBounds_toArray, List.set_cons_zero, List.set_cons_succ]
  refine wpAnyH_take (i := 5) (oi := { dst := some 24, op := .move (.tmp 4), type := 27, pos := "law.go:41", after := #[⟨4, .guard⟩], guard := some (4, true) }) (v := ?_) rfl (by kernel_rfl) (by kernel_rfl) (by kernel_rfl) (fun _ _ _ h => h) (Or.inl ⟨by rfl, ?_⟩) (by first | with_reducible exact K2.out | with_reducible exact K1.out | with_reducible exact K0.out) ?_
  rotate_left
  · (intro w hSw; obtain ⟨⟨s0, s1, s2, s3, s4, s5, s6, s7, s8, s9, s10⟩, ⟨r0, r1, r2, r3, r4, r5, r6, r7, r8, r9, r10⟩⟩ := hSw; go_simp <;> with_reducible rfl)
  simp only [Act.put, List.setIfInBounds_toArray, List.set_cons_zero, List.set_cons_succ]
  refine wpAnyH_take (i := 6) (oi := { dst := some 25, op := .move (.tmp 6), type := 3, pos := "law.go:41", after := #[⟨4, .guard⟩], guard := some (4, true) }) (v := ?_) rfl (by kernel_rfl) (by kernel_rfl) (by kernel_rfl) (fun _ _ _ h => h) (Or.inl ⟨by rfl, ?_⟩) (by first | with_reducible exact K2.out | with_reducible exact K1.out | with_reducible exact K0.out) ?_
  rotate_left
  · (intro w hSw; obtain ⟨⟨s0, s1, s2, s3, s4, s5, s6, s7, s8, s9, s10⟩, ⟨r0, r1, r2, r3, r4, r5, r6, r7, r8, r9, r10⟩⟩ := hSw; go_simp <;> with_reducible rfl)
  simp only [Act.put, List.setIfInBounds_toArray, List.set_cons_zero, List.set_cons_succ]
  refine wpAnyH_take (i := 7) (oi := { dst := some 26, op := .binOp Go.BinOp.eql 3 (.tmp 24) (.tmp 25) 3, type := 4, pos := "law.go:41", after := #[⟨5, .data⟩, ⟨6, .data⟩, ⟨4, .guard⟩], guard := some (4, true) }) (v := ?_) rfl (by kernel_rfl) (by kernel_rfl) (by kernel_rfl) (fun _ _ _ h => h) (Or.inl ⟨by rfl, ?_⟩) (by first | with_reducible exact K2.out | with_reducible exact K1.out | with_reducible exact K0.out) ?_
  rotate_left
  · (intro w hSw; obtain ⟨⟨s0, s1, s2, s3, s4, s5, s6, s7, s8, s9, s10⟩, ⟨r0, r1, r2, r3, r4, r5, r6, r7, r8, r9, r10⟩⟩ := hSw; go_simp <;> with_reducible rfl)
  simp only [Act.put, List.setIfInBounds_toArray, List.set_cons_zero, List.set_cons_succ]
  refine wpAnyH_take (i := 8) (oi := ⟨some 27, .pick (.tmp 23) (.tmp 26) (.const (Go.Value.bool false)), 4, "law.go:41", #[⟨4, .data⟩, ⟨7, .data⟩], none⟩) (v := ?_) rfl (by kernel_rfl) (by kernel_rfl) (by kernel_rfl) (fun _ _ _ h => h) (Or.inl ⟨by rfl, ?_⟩) (by first | with_reducible exact K2.out | with_reducible exact K1.out | with_reducible exact K0.out) ?_
  rotate_left
  · (intro w hSw; obtain ⟨⟨s0, s1, s2, s3, s4, s5, s6, s7, s8, s9, s10⟩, ⟨r0, r1, r2, r3, r4, r5, r6, r7, r8, r9, r10⟩⟩ := hSw; go_simp <;> with_reducible rfl)
  simp only [Act.put, List.setIfInBounds_toArray, List.set_cons_zero, List.set_cons_succ]
  refine wpAnyH_take (i := 9) (oi := ⟨some 28, .move (.tmp 27), 4, "law.go:41", #[⟨8, .data⟩, ⟨4, .chain⟩], none⟩) (v := ?_) rfl (by kernel_rfl) (by kernel_rfl) (by kernel_rfl) (fun _ _ _ h => h) (Or.inl ⟨by rfl, ?_⟩) (by first | with_reducible exact K2.out | with_reducible exact K1.out | with_reducible exact K0.out) ?_
  rotate_left
  · (intro w hSw; obtain ⟨⟨s0, s1, s2, s3, s4, s5, s6, s7, s8, s9, s10⟩, ⟨r0, r1, r2, r3, r4, r5, r6, r7, r8, r9, r10⟩⟩ := hSw; go_simp <;> with_reducible rfl)
  simp only [Act.put, List.setIfInBounds_toArray, List.set_cons_zero, List.set_cons_succ]
  refine wpAnyH_ready (rs := [10]) (by kernel_rfl) (by simp) ?_
  refine AllReadyH.cons (o := { dst := some 29, op := .call { callee := Go.Callee.value (.func 13), args := #[], argTypes := #[] }, type := 4, pos := "law.go:41", after := #[⟨9, .chain⟩, ⟨9, .guard⟩], guard := some (9, true) }) rfl (fun K hK => ?_) AllReadyH.nil
  go_simp
  refine (lives8_any _).mono ?_
  rintro x w6 ⟨rfl, a6⟩
  have HA6 := Lib.hid (HA5.out.trans a6)
  have K2 := Lib.hid (show ((w6).cell? ⟨b1, 0, none⟩ = some (.int .i64 k) ∧ (w6).cell? ⟨b1, 1, none⟩ = some (.int .i64 g) ∧ (w6).cell? ⟨b1, 2, none⟩ = some (.int .u64 (v : Int)) ∧ (w6).cell? ⟨b1, 3, none⟩ = some (.int .i64 (a 0)) ∧ (w6).cell? ⟨b1, 4, none⟩ = some (.int .i64 (a 1)) ∧ (w6).cell? ⟨b1, 5, none⟩ = some (.int .i64 (a 2)) ∧ (w6).cell? ⟨b1, 6, none⟩ = some (.int .i64 (a 3)) ∧ (w6).cell? ⟨b1, 7, none⟩ = some (.int .i64 (a 4)) ∧ (w6).cell? ⟨b1, 8, none⟩ = some (.int .i64 (a 5)) ∧ (w6).cell? ⟨b1, 9, none⟩ = some (.int .i64 (a 6)) ∧ (w6).cell? ⟨b1, 10, none⟩ = some (.int .i64 (a 7))) ∧ ((w6).cell? ⟨b2, 0, none⟩ = some (.int .i64 k) ∧ (w6).cell? ⟨b2, 1, none⟩ = some (.int .i64 g) ∧ (w6).cell? ⟨b2, 2, none⟩ = some (.int .u64 (v : Int)) ∧ (w6).cell? ⟨b2, 3, none⟩ = some (.int .i64 (a 0)) ∧ (w6).cell? ⟨b2, 4, none⟩ = some (.int .i64 (a 1)) ∧ (w6).cell? ⟨b2, 5, none⟩ = some (.int .i64 (a 2)) ∧ (w6).cell? ⟨b2, 6, none⟩ = some (.int .i64 (a 3)) ∧ (w6).cell? ⟨b2, 7, none⟩ = some (.int .i64 (a 4)) ∧ (w6).cell? ⟨b2, 8, none⟩ = some (.int .i64 (a 5)) ∧ (w6).cell? ⟨b2, 9, none⟩ = some (.int .i64 (a 6)) ∧ (w6).cell? ⟨b2, 10, none⟩ = some (.int .i64 (a 7))) from ⟨(HB1.out.keep (HA6.out.block b1 HB1.out.lt (fun h => h))).c11.all, (HB2.out.keep (HA6.out.block b2 HB2.out.lt (fun h => h))).c11.all⟩)
  clear a6
  go_wp2_with fail
  refine hK.out _ _ (by first | with_reducible exact K2.out | with_reducible exact K1.out | with_reducible exact K0.out) (fun hHeld => ?_)
  clear hK K hHeld
  try simp only [Act.put, List.setIfInBounds_toArray, List.set_cons_zero, List.set_cons_succ]
  refine wpAnyH_take (i := 11) (oi := ⟨some 30, .pick (.tmp 28) (.tmp 29) (.const (Go.Value.bool false)), 4, "law.go:41", #[⟨9, .data⟩, ⟨10, .data⟩], none⟩) (v := ?_) rfl (by kernel_rfl) (by kernel_rfl) (by kernel_rfl) (fun _ _ _ h => h) (Or.inl ⟨by rfl, ?_⟩) (by first | with_reducible exact K2.out | with_reducible exact K1.out | with_reducible exact K0.out) ?_
  rotate_left
  · (intro w hSw; obtain ⟨⟨s0, s1, s2, s3, s4, s5, s6, s7, s8, s9, s10⟩, ⟨r0, r1, r2, r3, r4, r5, r6, r7, r8, r9, r10⟩⟩ := hSw; go_simp <;> with_reducible rfl)
  simp only [Act.put, List.setIfInBounds_toArray, List.set_cons_zero, List.set_cons_succ]
  refine wpAnyH_take (i := 12) (oi := ⟨some 2, .assign (.tmp 30), 4, "law.go:41", #[⟨11, .data⟩, ⟨10, .chain⟩, ⟨0, .phase⟩, ⟨1, .phase⟩, ⟨2, .phase⟩, ⟨3, .phase⟩, ⟨4, .phase⟩, ⟨5, .phase⟩, ⟨6, .phase⟩, ⟨7, .phase⟩, ⟨8, .phase⟩, ⟨9, .phase⟩, ⟨10, .phase⟩, ⟨11, .phase⟩], none⟩) (v := ?_) rfl (by kernel_rfl) (by kernel_rfl) (by kernel_rfl) (fun _ _ _ h => h) (Or.inl ⟨by rfl, ?_⟩) (by first | with_reducible exact K2.out | with_reducible exact K1.out | with_reducible exact K0.out) ?_
  rotate_left
  · (intro w hSw; obtain ⟨⟨s0, s1, s2, s3, s4, s5, s6, s7, s8, s9, s10⟩, ⟨r0, r1, r2, r3, r4, r5, r6, r7, r8, r9, r10⟩⟩ := hSw; go_simp <;> with_reducible rfl)
  simp only [Act.put, List.setIfInBounds_toArray, List.set_cons_zero, List.set_cons_succ]
  refine wpAnyH_done (by kernel_rfl) ?_ _
  go_wp2_with fail
  go_ret
  exact ⟨rfl, (HA3'.out.trans HA6.out).toBelow⟩
end Go.Proofs.Ytbdjlmdbnoghnaa
