/- The statement HeadKept. -/
import Derived.Test.YtochmeibmjfnnaaMgH
import Derived.Test.YtochmeibmjfnnaaMgG
import Derived.Deep.DeepCutAuto
namespace Go.Proofs.Ytochmeibmjfnnaa
open Go.RowKit

/-- the program's disk, and the two heads beside it -/
structure KW (w wr : World) (d : Nat) (s : DS) (F : Nat → Prop) (ys ym : Nat) (sure mayb : Hd) : Prop where
  dk : Dk wr F d 2 s
  by_ : Blk wr ys 38 (h3 (sure.g : Int) (sure.t : Int) (sure.f : Int))
  bm : Blk wr ym 38 (h3 (mayb.g : Int) (mayb.t : Int) (mayb.f : Int))
  fy : ¬ F ys
  fm : ¬ F ym
  ne : ys ≠ ym
  ad : Adv Nul w (fun j => F j ∨ j = ys ∨ j = ym) wr
  new : w.heap.size ≤ ys ∧ w.heap.size ≤ ym
section
variable {w wr w' : World} {d ys ym : Nat} {s s' : DS} {F F' : Nat → Prop} {sure mayb h : Hd}
theorem KW.far (k : KW w wr d s F ys ym sure mayb) (ha : Adv Nul wr Nul w') : KW w w' d s F ys ym sure mayb :=
  ⟨k.dk.far ha (fun _ h _ => h), k.by_.keep (ha.block ys k.by_.lt (fun h => h)), k.bm.keep (ha.block ym k.bm.lt (fun h => h)), k.fy, k.fm, k.ne, k.ad.over ha, k.new⟩
theorem KW.drew (k : KW w wr d s F ys ym sure mayb) : KW w wr.drew d s F ys ym sure mayb := k.far (Adv.refl Nul wr).drew
theorem KW.moved (k : KW w wr d s F ys ym sure mayb) (h1 : Dk w' F' d 2 s') (a1 : Adv F wr F' w') : KW w w' d s' F' ys ym sure mayb :=
  ⟨h1, k.by_.keep (a1.block ys k.by_.lt k.fy), k.bm.keep (a1.block ym k.bm.lt k.fm), fun hf => by
    rcases a1.into ys hf with h | h
    · exact k.fy h
    · have := k.by_.lt; omega, fun hf => by
    rcases a1.into ym hf with h | h
    · exact k.fm h
    · have := k.bm.lt; omega, k.ne, k.ad.trans a1.side, k.new⟩
theorem KW.setS (k : KW w wr d s F ys ym sure mayb) : KW w (wr.setCells ys 0 (h3 (h.g : Int) (h.t : Int) (h.f : Int)).toList) d s F ys ym h mayb :=
  have a1 : Adv (fun j => j = ys) wr (fun j => j = ys) (wr.setCells ys 0 (h3 (h.g : Int) (h.t : Int) (h.f : Int)).toList) := Adv.lsetCells _ 0 _ (Adv.refl _ _) (.inl rfl)
  ⟨k.dk.far a1 (fun _ e hf => k.fy (e ▸ hf)), k.by_.putAll rfl, k.bm.keep (lsetCells_heap ys k.ne.symm _ 0 _), k.fy, k.fm, k.ne, Adv.lsetCells _ 0 _ k.ad (.inr k.new.1), k.new⟩
theorem KW.setM (k : KW w wr d s F ys ym sure mayb) : KW w (wr.setCells ym 0 (h3 (h.g : Int) (h.t : Int) (h.f : Int)).toList) d s F ys ym sure h :=
  have a1 : Adv (fun j => j = ym) wr (fun j => j = ym) (wr.setCells ym 0 (h3 (h.g : Int) (h.t : Int) (h.f : Int)).toList) := Adv.lsetCells _ 0 _ (Adv.refl _ _) (.inl rfl)
  ⟨k.dk.far a1 (fun _ e hf => k.fm (e ▸ hf)), k.by_.keep (lsetCells_heap ym k.ne _ 0 _), k.bm.putAll rfl, k.fy, k.fm, k.ne, Adv.lsetCells _ 0 _ k.ad (.inr k.new.2), k.new⟩
end
def KRel (w : World) (d ys ym : Nat) (t10 t7 t8 t9 : Value) (wr : World) : Prop :=
  ∃ (k : Nat) (s : DS) (sure mayb : Hd) (has doubt : Bool) (e : Nat) (q : Option Hd) (F : Nat → Prop), t10 = .int .i64 (k : Int) ∧ t7 = .bool has ∧ t8 = .bool doubt ∧ t9 = .int .u64 (e : Int) ∧ k ≤ 40 ∧ 1 ≤ e ∧ e ≤ k + 1 ∧ sure.g ≤ k ∧
    SBw s ∧ KInv s sure has e q ∧ (∀ h, q = some h → doubt = true ∧ mayb = h) ∧ KW w wr d s F ys ym sure mayb
theorem KInv.few {s : DS} {sure : Hd} {has : Bool} {e : Nat} {q : Option Hd} (h : KInv s sure has e q) : s.Q.length ≤ 1 := by
  cases q with
  | none => rw [h.qn rfl]; exact Nat.zero_le _
  | some x => rw [(h.qs x rfl).1]; exact Nat.le_refl _
theorem Dk.dd {w : World} {F : Nat → Prop} {d n : Nat} {s : DS} (h : Dk w F d n s) : s.dead = true → s.fuse = some 0 := h.1.dd
theorem kw_crash {w wr : World} {d ys ym : Nat} {s : DS} {F : Nat → Prop} {sure mayb : Hd} (h : KW w wr d s F ys ym sure mayb) {m : Nat} {vk : Value} {ks : List Int} (torn : Int) (hk : Rd w 1 vk m (ks.map (Value.int .i64))) (ho : ∀ b, vk.ownBlock = some b → 0 < m → b < w.heap.size) :
    Calls Try.prog 16 #[.pointer (some ⟨d, 0, none⟩), vk, .int .i64 torn] wr fun e w' => e = .returned (.tuple #[]) ∧ KW w w' d (crashS s ks torn) F ys ym sure mayb := by
  refine (crash_dk d 2 m vk F s ks torn wr h.dk (hk.below h.ad.toBelow (fun k h1 h2 _ => ho k h1 h2)) (fun k h1 h2 hF => by
    have h3 := ho k h1 h2
    rcases h.ad.into k (.inl hF) with h4 | h4
    · exact h4
    · omega)).mono ?_
  rintro e w' ⟨rfl, h1, a1⟩
  exact ⟨rfl, h.moved h1 a1⟩
theorem three_at {w w' : World} {ys b i j : Nat} {u1 u2 u3 : Value} (ha : Adv Nul w Nul w') (hy : ys < w.heap.size) (hb : b < w.heap.size) (h : w.cell? ⟨ys, 0, none⟩ = some u1 ∧ w.cell? ⟨b, i, none⟩ = some u2 ∧ w.cell? ⟨b, j, none⟩ = some u3) :
    w'.cell? ⟨ys, 0, none⟩ = some u1 ∧ w'.cell? ⟨b, i, none⟩ = some u2 ∧ w'.cell? ⟨b, j, none⟩ = some u3 :=
  ⟨(World.cell?_of_block (ha.block ys hy (fun x => x))).trans h.1, (World.cell?_of_block (ha.block b hb (fun x => x))).trans h.2.1, (World.cell?_of_block (ha.block b hb (fun x => x))).trans h.2.2⟩
theorem khd_fin {w wr : World} {d ys ym : Nat} {s : DS} {F : Nat → Prop} {sure mayb : Hd} (k : KW w wr d s F ys ym sure mayb) (g t f : Nat) :
    Blk (((wr.alloc (.cells #[.int .u64 0, .int .u64 0, .int .u64 0] 38)).drew).setCells wr.heap.size 0 (h3 (g : Int) (t : Int) (f : Int)).toList) wr.heap.size 38 (h3 (g : Int) (t : Int) (f : Int)) ∧
    Adv Nul wr Nul (((wr.alloc (.cells #[.int .u64 0, .int .u64 0, .int .u64 0] 38)).drew).setCells wr.heap.size 0 (h3 (g : Int) (t : Int) (f : Int)).toList) ∧
    KW w (((wr.alloc (.cells #[.int .u64 0, .int .u64 0, .int .u64 0] 38)).drew).setCells wr.heap.size 0 (h3 (g : Int) (t : Int) (f : Int)).toList) d s F ys ym sure mayb := by
  have h1 : Adv Nul wr Nul (((wr.alloc (.cells #[.int .u64 0, .int .u64 0, .int .u64 0] 38)).drew).setCells wr.heap.size 0 (h3 (g : Int) (t : Int) (f : Int)).toList) := Adv.lsetCells _ 0 _ (((Adv.refl Nul wr).alloc _).drew) (.inr (Nat.le_refl _))
  exact ⟨(Blk.new wr 38 #[.int .u64 0, .int .u64 0, .int .u64 0]).drew.putAll rfl, h1, k.far h1⟩
theorem and_255 (s : Nat) (h : s < 18446744073709551616) : bits .and .u64 (s : Int) 255 = ((s % 256 : Nat) : Int) := by
  have h1 := u64_and_nat s 255 h (by decide)
  rw [Nat.and_two_pow_sub_one_eq_mod s 8] at h1
  exact h1

set_option maxRecDepth 4000 in
set_option linter.unusedVariables false in
set_option maxHeartbeats 6400000 in
theorem hkept_walk (w : World) (v : Value) (h : ∃ ds, HDosIn w v ds) :
    Calls Try.prog 4 #[v] w fun e w' => e = .returned (.bool true) ∧ Below w.heap.size w w' := by
  obtain ⟨ds, h⟩ := h
  obtain ⟨A, cap, rfl, _, hcm⟩ := h.rd.form
  have HD := Lib.hid h
  obtain ⟨m, hm⟩ : ∃ m, m = ds.length := ⟨_, rfl⟩
  have HM := Lib.hid hm
  rw [← hm]
  have HN1 := Lib.hid (new_r 2 (by decide) (by decide))
  clear h hm hcm
  go_enter Try.func4, Try.ntmps4
  go_wp2_with fail
  refine (HN1.out _).mono ?_
  rintro e w1 ⟨d, F, rfl, h1, a1⟩
  have H1 := Lib.hid h1
  have A1 := Lib.hid a1
  clear h1 a1
  obtain ⟨ys, hys⟩ : ∃ y, y = w1.heap.size := ⟨_, rfl⟩
  obtain ⟨V, hV⟩ : ∃ V, V = (w1.alloc (.cells #[.int .u64 0, .int .u64 0, .int .u64 0] 38)).alloc (.cells #[.int .u64 0, .int .u64 0, .int .u64 0] 38) := ⟨_, rfl⟩
  have HV := Lib.hid hV
  have HYS := Lib.hid hys
  have HK0 := Lib.hid (show KW w V d (newS 2) F ys (ys + 1) hZ hZ from by
    have hadv : Adv Nul w1 Nul V := by rw [hV]; exact ((Adv.refl _ _).alloc _).alloc _
    refine ⟨H1.out.far hadv (fun _ h _ => h), ?_, ?_, ?_, ?_, by omega, ?_, ?_⟩
    · rw [hV, hys]; exact (Blk.new _ _ _).alloc _
    · have h2 := Blk.new (w1.alloc (.cells #[.int .u64 0, .int .u64 0, .int .u64 0] 38)) 38 #[.int .u64 0, .int .u64 0, .int .u64 0]
      rw [hV, hys]; have h2' : Blk ((w1.alloc (.cells #[.int .u64 0, .int .u64 0, .int .u64 0] 38)).alloc (.cells #[.int .u64 0, .int .u64 0, .int .u64 0] 38)) (w1.heap.size + 1) 38 #[.int .u64 0, .int .u64 0, .int .u64 0] := by simpa using h2
      exact h2'
    · exact fun hf => by have := H1.out.bd ys hf; omega
    · exact fun hf => by have := H1.out.bd _ hf; omega
    · have ha := A1.out
      refine ⟨hadv.os.trans ha.os, hadv.tape.trans ha.tape, hadv.output.trans ha.output, Nat.le_trans ha.size hadv.size, fun j hj hn => (hadv.block j (Nat.lt_of_lt_of_le hj ha.size) (fun x => x)).trans (ha.block j hj hn), fun j hj => ?_⟩
      rcases hj with h | h | h
      · exact ha.into j h
      · right; have := ha.size; omega
      · right; have := ha.size; omega
    · have := A1.out.size
      omega)
  clear hV hys
  go_upto_region 5 with (fail)
  rw [← HV.out, ← HYS.out]
  go_wp2_with fail
  go_loopw [10, 7, 8, 9] (KRel w d ys (ys + 1)) (fun t _ _ _ _ => 40 - (intOf t).toNat)
  case atStart => exact ⟨0, newS 2, hZ, hZ, false, false, 1, none, F, rfl, rfl, rfl, rfl, by omega, by omega, by omega, Nat.le_refl _, SBw.new 2, KInv.new, fun h hq => by simp at hq, HK0.out⟩
  case round =>
    obtain ⟨k, s, ⟨sg, st, sf⟩, ⟨mg, mt, mf⟩, has, doubt, e, q, F, rfl, rfl, rfl, rfl, hk, he1, hek, hgk, hsb, hki, hdm, hw⟩ := hrel
    simp only at hgk
    have HW := Lib.hid hw
    have HSB := Lib.hid hsb
    have HKI := Lib.hid hki
    have HDM := Lib.hid hdm
    have HE := Lib.hid (show 1 ≤ e ∧ e ≤ k + 1 from ⟨he1, hek⟩)
    have HGK := Lib.hid hgk
    have HFEW := Lib.hid hki.few
    have HBL := Lib.hid hw.ad.toBelow
    clear H1 A1 HN1 HK0 HV HYS he1 hek hgk hsb hki hdm hw
    by_cases hgo : k < m ∧ k < 40
    · obtain ⟨hkm, hk40⟩ := hgo
      have hlt : k < ds.length := by have := HM.out; omega
      obtain ⟨b, o, c', e', hnine⟩ := HD.out.nine hlt
      have hbw : b < w.heap.size := by
        have h1 := (hnine w (Below.refl _ _)).c0
        exact World.block_lt_of_cell? _ _ h1
      rw [← HM.out] at e'
      injection e' with e1 e2 e3
      subst e1
      subst e3
      have hfit := HD.out.fit _ (List.getElem_mem hlt)
      obtain ⟨x, hx⟩ : ∃ x, x = ds[k] := ⟨_, rfl⟩
      rw [← hx] at hnine hfit
      obtain ⟨xk, xa, xn, xe, ⟨xg, xt, xf⟩, bv, xb, kv, ks⟩ := x
      obtain ⟨hfb, hfk, hfo, hfna, hfnn, hft, hff⟩ := hfit
      simp only at hfb hfk hfo hfna hfnn hft hff
      obtain ⟨ak, ck, rfl, _, _⟩ := hfk.form
      obtain ⟨mk, hmk⟩ : ∃ mk, mk = ks.length := ⟨_, rfl⟩
      rw [← hmk] at hfk hfo hnine
      have HNI := Lib.hid hnine
      have HKS := Lib.hid hfk
      have HKO := Lib.hid hfo
      have HNN := Lib.hid hfnn
      have n0 := (hnine _ HBL.out).c0
      simp only at n0
      have hki : (k : Int) < (m : Int) := by omega
      have hki2 : (k : Int) < 40 := by omega
      have HK40 := Lib.hid hk40
      have HLB := Lib.hid (Nat.lt_of_lt_of_le hbw HBL.out.size)
      obtain ⟨tt, htt⟩ : ∃ t, t = xt % 1099511627776 := ⟨_, rfl⟩
      obtain ⟨ff, hff'⟩ : ∃ t, t = xf % 256 := ⟨_, rfl⟩
      have y1 : bits .and .u64 (xt : Int) 1099511627775 = (tt : Int) := by rw [htt]; exact stamp_and xt hft
      have y2 : bits .and .u64 (xf : Int) 255 = (ff : Int) := by rw [hff']; exact and_255 xf hff
      have y3 : IntKind.u64.wrap ((sg : Int) + 1) = ((sg + 1 : Nat) : Int) := by rw [IntKind.wrap_u64]; have := HGK.out; omega
      have HTT := Lib.hid (show tt < 1099511627776 by omega)
      have HFF := Lib.hid (show ff < 256 by omega)
      clear hnine hfb hfk hfo hfna hfnn hft hff hmk hbw hx hlt hk hk40 hkm e2 htt hff'
      go_upto_region 10 with (fail)
      go_cut [37] (fun t37 wr' => t37 = .int .i64 xk ∧ wr = wr')
      case first =>
        go_wp2_with fail
        go_meet
        exact ⟨rfl, rfl⟩
      case rest =>
      obtain ⟨rfl, rfl⟩ := hcut
      rename_i Kx hKx
      refine hKx _ _ ?_
      by_cases q0 : xk = 0
      · have p0 : (xk == 0) = true := by simp [q0]
        clear q0
        as_aux_lemma =>
          have K0 := Lib.hid (show wr.cell? ⟨ys, 0, none⟩ = some (.int .u64 (sg : Int)) ∧ wr.cell? ⟨b, o + k * 9 + 5, none⟩ = some (.int .u64 (xt : Int)) ∧ wr.cell? ⟨b, o + k * 9 + 6, none⟩ = some (.int .u64 (xf : Int)) from ⟨HW.out.by_.three.1, (HNI.out _ HBL.out).c5, (HNI.out _ HBL.out).c6⟩)
          have K1 := Lib.hid (three_at (Adv.refl Nul wr).drew HW.out.by_.lt HLB.out K0.out)
          have hok : hOk e ⟨sg + 1, tt, ff⟩ := ⟨⟨by have := HE.out; have := HK40.out; omega, by have := HGK.out; have := HK40.out; show sg + 1 ≤ _; omega⟩, HTT.out, by have := HFF.out; show ff < _; omega⟩
          have HOK := Lib.hid hok
          clear hok
          go_upto_region 12 with (fail)
          refine wp_region_held_drew (S := (fun w' => w'.cell? ⟨ys, 0, none⟩ = some (.int .u64 (sg : Int)) ∧ w'.cell? ⟨b, o + k * 9 + 5, none⟩ = some (.int .u64 (xt : Int)) ∧ w'.cell? ⟨b, o + k * 9 + 6, none⟩ = some (.int .u64 (xf : Int)))) (by kernel_rfl) (by first | with_reducible exact K3.out | with_reducible exact K2.out | with_reducible exact K1.out) (fun hHeld => ?_)
          clear hHeld
          refine wpAnyH_take (i := 0) (oi := ⟨some 40, .fieldAddr 38 (.tmp 5) 0, 0, "law.go:78", #[], none⟩) (v := ?_) rfl (by kernel_rfl) (by kernel_rfl) (by kernel_rfl) (fun _ _ _ h => h) (Or.inl ⟨by rfl, ?_⟩) (by first | with_reducible exact K3.out | with_reducible exact K2.out | with_reducible exact K1.out) ?_
          rotate_left
          · (intro w hSw; obtain ⟨z0, z1, z2⟩ := hSw; go_simp <;> with_reducible rfl)
          simp only [Act.put, List.setIfInBounds_toArray, List.set_cons_zero, List.set_cons_succ]
          refine wpAnyH_take (i := 1) (oi := ⟨some 41, .load 30 (.tmp 40), 30, "law.go:78", #[⟨0, .data⟩], none⟩) (v := ?_) rfl (by kernel_rfl) (by kernel_rfl) (by kernel_rfl) (fun _ _ _ h => h) (Or.inl ⟨by rfl, ?_⟩) (by first | with_reducible exact K3.out | with_reducible exact K2.out | with_reducible exact K1.out) ?_
          rotate_left
          · (intro w hSw; obtain ⟨z0, z1, z2⟩ := hSw; go_simp <;> with_reducible rfl)
          simp only [Act.put, List.setIfInBounds_toArray, List.set_cons_zero, List.set_cons_succ]
          refine wpAnyH_take (i := 2) (oi := ⟨some 42, .binOp Go.BinOp.add 30 (.tmp 41) (.const (Go.Value.int Go.IntKind.u64 1)) 30, 30, "law.go:78", #[⟨1, .data⟩], none⟩) (v := ?_) rfl (by kernel_rfl) (by kernel_rfl) (by kernel_rfl) (fun _ _ _ h => h) (Or.inl ⟨by rfl, ?_⟩) (by first | with_reducible exact K3.out | with_reducible exact K2.out | with_reducible exact K1.out) ?_
          rotate_left
          · (intro w hSw; obtain ⟨z0, z1, z2⟩ := hSw; go_simp <;> with_reducible rfl)
          simp only [Act.put, List.setIfInBounds_toArray, List.set_cons_zero, List.set_cons_succ]
          refine wpAnyH_take (i := 3) (oi := ⟨some 43, .move (.tmp 0), 22, "law.go:78", #[], none⟩) (v := ?_) rfl (by kernel_rfl) (by kernel_rfl) (by kernel_rfl) (fun _ _ _ h => h) (Or.inl ⟨by rfl, ?_⟩) (by first | with_reducible exact K3.out | with_reducible exact K2.out | with_reducible exact K1.out) ?_
          rotate_left
          · (intro w hSw; obtain ⟨z0, z1, z2⟩ := hSw; go_simp <;> with_reducible rfl)
          simp only [Act.put, List.setIfInBounds_toArray, List.set_cons_zero, List.set_cons_succ]
          refine wpAnyH_take (i := 4) (oi := ⟨some 44, .move (.tmp 10), 3, "law.go:78", #[], none⟩) (v := ?_) rfl (by kernel_rfl) (by kernel_rfl) (by kernel_rfl) (fun _ _ _ h => h) (Or.inl ⟨by rfl, ?_⟩) (by first | with_reducible exact K3.out | with_reducible exact K2.out | with_reducible exact K1.out) ?_
          rotate_left
          · (intro w hSw; obtain ⟨z0, z1, z2⟩ := hSw; go_simp <;> with_reducible rfl)
          simp only [Act.put, List.setIfInBounds_toArray, List.set_cons_zero, List.set_cons_succ]
          refine wpAnyH_take (i := 5) (oi := ⟨some 45, .indexAddr 22 (.tmp 43) (.tmp 44), 0, "law.go:78", #[⟨3, .data⟩, ⟨4, .data⟩], none⟩) (v := ?_) rfl (by kernel_rfl) (by kernel_rfl) (by kernel_rfl) (fun _ _ _ h => h) (Or.inl ⟨by rfl, ?_⟩) (by first | with_reducible exact K3.out | with_reducible exact K2.out | with_reducible exact K1.out) ?_
          rotate_left
          · (intro w hSw; obtain ⟨z0, z1, z2⟩ := hSw; go_simp <;> with_reducible rfl)
          simp only [Act.put, List.setIfInBounds_toArray, List.set_cons_zero, List.set_cons_succ]
          refine wpAnyH_take (i := 6) (oi := ⟨some 46, .fieldAddr 36 (.tmp 45) 4, 0, "law.go:78", #[⟨5, .data⟩], none⟩) (v := ?_) rfl (by kernel_rfl) (by kernel_rfl) (by kernel_rfl) (fun _ _ _ h => h) (Or.inl ⟨by rfl, ?_⟩) (by first | with_reducible exact K3.out | with_reducible exact K2.out | with_reducible exact K1.out) ?_
          rotate_left
          · (intro w hSw; obtain ⟨z0, z1, z2⟩ := hSw; go_simp <;> with_reducible rfl)
          simp only [Act.put, List.setIfInBounds_toArray, List.set_cons_zero, List.set_cons_succ]
          refine wpAnyH_take (i := 7) (oi := ⟨some 47, .fieldAddr 32 (.tmp 46) 1, 0, "law.go:78", #[⟨6, .data⟩], none⟩) (v := ?_) rfl (by kernel_rfl) (by kernel_rfl) (by kernel_rfl) (fun _ _ _ h => h) (Or.inl ⟨by rfl, ?_⟩) (by first | with_reducible exact K3.out | with_reducible exact K2.out | with_reducible exact K1.out) ?_
          rotate_left
          · (intro w hSw; obtain ⟨z0, z1, z2⟩ := hSw; go_simp <;> with_reducible rfl)
          simp only [Act.put, List.setIfInBounds_toArray, List.set_cons_zero, List.set_cons_succ]
          refine wpAnyH_take (i := 8) (oi := ⟨some 48, .load 30 (.tmp 47), 30, "law.go:78", #[⟨7, .data⟩], none⟩) (v := ?_) rfl (by kernel_rfl) (by kernel_rfl) (by kernel_rfl) (fun _ _ _ h => h) (Or.inl ⟨by rfl, ?_⟩) (by first | with_reducible exact K3.out | with_reducible exact K2.out | with_reducible exact K1.out) ?_
          rotate_left
          · (intro w hSw; obtain ⟨z0, z1, z2⟩ := hSw; go_simp <;> with_reducible rfl)
          simp only [Act.put, List.setIfInBounds_toArray, List.set_cons_zero, List.set_cons_succ]
          refine wpAnyH_take (i := 9) (oi := ⟨some 49, .binOp Go.BinOp.and 30 (.tmp 48) (.const (Go.Value.int Go.IntKind.u64 1099511627775)) 30, 30, "law.go:78", #[⟨8, .data⟩], none⟩) (v := ?_) rfl (by kernel_rfl) (by kernel_rfl) (by kernel_rfl) (fun _ _ _ h => h) (Or.inl ⟨by rfl, ?_⟩) (by first | with_reducible exact K3.out | with_reducible exact K2.out | with_reducible exact K1.out) ?_
          rotate_left
          · (intro w hSw; obtain ⟨z0, z1, z2⟩ := hSw; go_simp <;> with_reducible rfl)
          simp only [Act.put, List.setIfInBounds_toArray, List.set_cons_zero, List.set_cons_succ]
          refine wpAnyH_take (i := 10) (oi := ⟨some 50, .move (.tmp 0), 22, "law.go:78", #[], none⟩) (v := ?_) rfl (by kernel_rfl) (by kernel_rfl) (by kernel_rfl) (fun _ _ _ h => h) (Or.inl ⟨by rfl, ?_⟩) (by first | with_reducible exact K3.out | with_reducible exact K2.out | with_reducible exact K1.out) ?_
          rotate_left
          · (intro w hSw; obtain ⟨z0, z1, z2⟩ := hSw; go_simp <;> with_reducible rfl)
          simp only [Act.put, List.setIfInBounds_toArray, List.set_cons_zero, List.set_cons_succ]
          refine wpAnyH_take (i := 11) (oi := ⟨some 51, .move (.tmp 10), 3, "law.go:78", #[], none⟩) (v := ?_) rfl (by kernel_rfl) (by kernel_rfl) (by kernel_rfl) (fun _ _ _ h => h) (Or.inl ⟨by rfl, ?_⟩) (by first | with_reducible exact K3.out | with_reducible exact K2.out | with_reducible exact K1.out) ?_
          rotate_left
          · (intro w hSw; obtain ⟨z0, z1, z2⟩ := hSw; go_simp <;> with_reducible rfl)
          simp only [Act.put, List.setIfInBounds_toArray, List.set_cons_zero, List.set_cons_succ]
          refine wpAnyH_take (i := 12) (oi := ⟨some 52, .indexAddr 22 (.tmp 50) (.tmp 51), 0, "law.go:78", #[⟨10, .data⟩, ⟨11, .data⟩], none⟩) (v := ?_) rfl (by kernel_rfl) (by kernel_rfl) (by kernel_rfl) (fun _ _ _ h => h) (Or.inl ⟨by rfl, ?_⟩) (by first | with_reducible exact K3.out | with_reducible exact K2.out | with_reducible exact K1.out) ?_
          rotate_left
          · (intro w hSw; obtain ⟨z0, z1, z2⟩ := hSw; go_simp <;> with_reducible rfl)
          simp only [Act.put, List.setIfInBounds_toArray, List.set_cons_zero, List.set_cons_succ]
          refine wpAnyH_take (i := 13) (oi := ⟨some 53, .fieldAddr 36 (.tmp 52) 4, 0, "law.go:78", #[⟨12, .data⟩], none⟩) (v := ?_) rfl (by kernel_rfl) (by kernel_rfl) (by kernel_rfl) (fun _ _ _ h => h) (Or.inl ⟨by rfl, ?_⟩) (by first | with_reducible exact K3.out | with_reducible exact K2.out | with_reducible exact K1.out) ?_
          rotate_left
          · (intro w hSw; obtain ⟨z0, z1, z2⟩ := hSw; go_simp <;> with_reducible rfl)
          simp only [Act.put, List.setIfInBounds_toArray, List.set_cons_zero, List.set_cons_succ]
          refine wpAnyH_take (i := 14) (oi := ⟨some 54, .fieldAddr 32 (.tmp 53) 2, 0, "law.go:78", #[⟨13, .data⟩], none⟩) (v := ?_) rfl (by kernel_rfl) (by kernel_rfl) (by kernel_rfl) (fun _ _ _ h => h) (Or.inl ⟨by rfl, ?_⟩) (by first | with_reducible exact K3.out | with_reducible exact K2.out | with_reducible exact K1.out) ?_
          rotate_left
          · (intro w hSw; obtain ⟨z0, z1, z2⟩ := hSw; go_simp <;> with_reducible rfl)
          simp only [Act.put, List.setIfInBounds_toArray, List.set_cons_zero, List.set_cons_succ]
          refine wpAnyH_take (i := 15) (oi := ⟨some 55, .load 30 (.tmp 54), 30, "law.go:78", #[⟨14, .data⟩], none⟩) (v := ?_) rfl (by kernel_rfl) (by kernel_rfl) (by kernel_rfl) (fun _ _ _ h => h) (Or.inl ⟨by rfl, ?_⟩) (by first | with_reducible exact K3.out | with_reducible exact K2.out | with_reducible exact K1.out) ?_
          rotate_left
          · (intro w hSw; obtain ⟨z0, z1, z2⟩ := hSw; go_simp <;> with_reducible rfl)
          simp only [Act.put, List.setIfInBounds_toArray, List.set_cons_zero, List.set_cons_succ]
          refine wpAnyH_take (i := 16) (oi := ⟨some 56, .binOp Go.BinOp.and 30 (.tmp 55) (.const (Go.Value.int Go.IntKind.u64 255)) 30, 30, "law.go:78", #[⟨15, .data⟩], none⟩) (v := ?_) rfl (by kernel_rfl) (by kernel_rfl) (by kernel_rfl) (fun _ _ _ h => h) (Or.inl ⟨by rfl, ?_⟩) (by first | with_reducible exact K3.out | with_reducible exact K2.out | with_reducible exact K1.out) ?_
          rotate_left
          · (intro w hSw; obtain ⟨z0, z1, z2⟩ := hSw; go_simp <;> with_reducible rfl)
          simp only [Act.put, List.setIfInBounds_toArray, List.set_cons_zero, List.set_cons_succ]
          refine wpAnyH_take (i := 17) (oi := ⟨some 57, .build 38 #[(0, Go.Operand.tmp 42), (1, Go.Operand.tmp 49), (2, Go.Operand.tmp 56)], 38, "law.go:78", #[⟨2, .data⟩, ⟨9, .data⟩, ⟨16, .data⟩], none⟩) (v := ?_) rfl (by kernel_rfl) (by kernel_rfl) (by kernel_rfl) (fun _ _ _ h => h) (Or.inl ⟨by rfl, ?_⟩) (by first | with_reducible exact K3.out | with_reducible exact K2.out | with_reducible exact K1.out) ?_
          rotate_left
          · (intro w hSw; obtain ⟨z0, z1, z2⟩ := hSw; go_simp <;> with_reducible rfl)
          simp only [Act.put, List.setIfInBounds_toArray, List.set_cons_zero, List.set_cons_succ]
          refine wpAnyH_ready (rs := [18]) (by kernel_rfl) (by simp) ?_
          refine AllReadyH.cons (o := ⟨some 11, .alloc 38, 0, "law.go:78", #[], none⟩) rfl (fun K hK => ?_) AllReadyH.nil
          go_simp
          have HB0 := Lib.hid (Blk.drew (Blk.new wr 38 #[.int .u64 0, .int .u64 0, .int .u64 0]))
          have K2 := Lib.hid (three_at ((Adv.refl Nul wr).alloc (.cells #[.int .u64 0, .int .u64 0, .int .u64 0] 38)).drew HW.out.by_.lt HLB.out K0.out)
          refine hK.out _ _ (by first | with_reducible exact K3.out | with_reducible exact K2.out | with_reducible exact K1.out) (fun hHeld => ?_)
          clear hK K hHeld
          try simp only [Act.put, List.setIfInBounds_toArray, List.set_cons_zero, List.set_cons_succ]
          refine wpAnyH_ready (rs := [19]) (by kernel_rfl) (by simp) ?_
          refine AllReadyH.cons (o := ⟨none, .store 38 (.tmp 11) (.tmp 57), 0, "law.go:78", #[⟨18, .data⟩, ⟨17, .data⟩, ⟨0, .phase⟩, ⟨1, .phase⟩, ⟨2, .phase⟩, ⟨3, .phase⟩, ⟨4, .phase⟩, ⟨5, .phase⟩, ⟨6, .phase⟩, ⟨7, .phase⟩, ⟨8, .phase⟩, ⟨9, .phase⟩, ⟨10, .phase⟩, ⟨11, .phase⟩, ⟨12, .phase⟩, ⟨13, .phase⟩, ⟨14, .phase⟩, ⟨15, .phase⟩, ⟨16, .phase⟩, ⟨17, .phase⟩, ⟨18, .phase⟩], none⟩) rfl (fun K hK => ?_) AllReadyH.nil
          refine st_store3 sizeHead rfl (.tmp 11) (.tmp 57) rfl _ _ (h3 ((sg + 1 : Nat) : Int) (tt : Int) (ff : Int)) HB0.out rfl rfl (h3_one _ _ _) rfl rfl ?_
          have HFIN := Lib.hid (khd_fin HW.out (sg + 1) tt ff)
          have K3 := Lib.hid (three_at HFIN.out.2.1 HW.out.by_.lt HLB.out K0.out)
          refine hK.out _ _ (by first | with_reducible exact K3.out | with_reducible exact K2.out | with_reducible exact K1.out) (fun hHeld => ?_)
          clear hK K hHeld
          try simp only [Act.put]
          refine wpAnyH_done (by kernel_rfl) ?_ _
          obtain ⟨hbu, ha1, hk1⟩ := HFIN.out
          obtain ⟨u, hu⟩ : ∃ u, u = wr.heap.size := ⟨_, rfl⟩
          have hfu : ¬ F u := fun hf => by have := HW.out.dk.bd u hf; omega
          have hule : w.heap.size ≤ u := by rw [hu]; exact HBL.out.size
          rw [← hu] at hbu ha1 hk1 ⊢
          obtain ⟨V1, hV1⟩ : ∃ V1, V1 = ((wr.alloc (.cells #[.int .u64 0, .int .u64 0, .int .u64 0] 38)).drew).setCells u 0 (h3 ((sg + 1 : Nat) : Int) (tt : Int) (ff : Int)).toList := ⟨_, rfl⟩
          rw [← hV1] at hbu ha1 hk1
          have HV1 := Lib.hid hV1
          have HU := Lib.hid hbu
          have HK1 := Lib.hid hk1
          have HFU := Lib.hid hfu
          clear hbu ha1 hk1 hfu hule hV1 hu
          go_upto_region 13 with (fail)
          rw [← HV1.out]
          obtain ⟨lv, hlv⟩ : ∃ lv, lv = !s.dead := ⟨_, rfl⟩
          have hli := live_dk d 2 F s V1 HK1.out.dk
          rw [← hlv] at hli
          have HLI := Lib.hid hli
          have hsv := HKI.out.save (h := ⟨sg + 1, tt, ff⟩) HOK.out rfl HK1.out.dk.dd
          have hcall := hsave_dk d 2 F s 0 e ⟨sg + 1, tt, ff⟩ V1 HK1.out.dk (by have := HFEW.out; omega) (by decide) (by decide) (by have := HTT.out; show tt < _; omega) (by have := HFF.out; show ff < _; omega)
          have hsb1 := HSB.out.save 2 0 e ⟨sg + 1, tt, ff⟩
          obtain ⟨r, hr⟩ : ∃ r, r = saveS s 2 0 e ⟨sg + 1, tt, ff⟩ := ⟨_, rfl⟩
          rw [← hr] at hsv hcall hsb1
          obtain ⟨s1, E1⟩ := r
          simp only at hsv hcall hsb1
          have HCALL := Lib.hid hcall
          have HSV := Lib.hid hsv
          have HSB1 := Lib.hid hsb1
          have HLV := Lib.hid hlv
          clear hli hsv hcall hsb1 hr hlv
          go_wp2_with fail
          refine HLI.out.mono ?_
          rintro x w5 ⟨rfl, rfl⟩
          obtain ⟨u0, u1, u2⟩ := HU.out.three
          go_wp2_with fail
          refine HCALL.out.mono ?_
          rintro x w6 ⟨rfl, F', h1, a1⟩
          have HK2 := Lib.hid (HK1.out.moved h1 a1)
          have HU2 := Lib.hid (HU.out.keep (a1.block u HU.out.lt HFU.out))
          clear h1 a1 u0 u1 u2
          obtain ⟨u0, u1, u2⟩ := HU2.out.three
          rcases HSV.out with ⟨e0, k0⟩ | ⟨e7, hl, k1⟩ | ⟨e7, hl, k1⟩
          · subst e0
            have HKN := Lib.hid k0
            clear k0
            go_wp2_with (first
              | (refine op_store3 sizeHead rfl (.tmp 5) (.tmp 66) rfl ys _ (h3 ((sg + 1 : Nat) : Int) (tt : Int) (ff : Int)) HK2.out.by_ rfl rfl (h3_one _ _ _) rfl rfl ?_)
              | fail)
            have hk40 := HK40.out
            have he := HE.out
            have hg := HGK.out
            exact ⟨⟨k + 1, s1, ⟨sg + 1, tt, ff⟩, ⟨mg, mt, mf⟩, true, doubt, e, none, F', by simp, rfl, rfl, rfl, by omega, by omega, by omega, by simp only; omega, HSB1.out, HKN.out, fun h hq => by simp at hq, HK2.out.setS (h := ⟨sg + 1, tt, ff⟩)⟩, by simp [intOf]; omega⟩
          · subst e7
            obtain rfl : lv = true := by rw [HLV.out, hl]; rfl
            have HKN := Lib.hid k1
            clear k1 hl
            go_wp2_with (first
              | (refine op_store3 sizeHead rfl (.tmp 6) (.tmp 72) rfl (ys + 1) _ (h3 ((sg + 1 : Nat) : Int) (tt : Int) (ff : Int)) HK2.out.bm rfl rfl (h3_one _ _ _) rfl rfl ?_)
              | fail)
            have hk40 := HK40.out
            have he := HE.out
            have hg := HGK.out
            rcases HKN.out with k2 | k2
            · exact ⟨⟨k + 1, s1, ⟨sg, st, sf⟩, ⟨sg + 1, tt, ff⟩, has, true, e, none, F', by simp, rfl, rfl, rfl, by omega, by omega, by omega, by simp only; omega, HSB1.out, k2, fun h hq => by simp at hq, HK2.out.setM (h := ⟨sg + 1, tt, ff⟩)⟩, by simp [intOf]; omega⟩
            · exact ⟨⟨k + 1, s1, ⟨sg, st, sf⟩, ⟨sg + 1, tt, ff⟩, has, true, e, _, F', by simp, rfl, rfl, rfl, by omega, by omega, by omega, by simp only; omega, HSB1.out, k2, fun h hq => ⟨rfl, by injection hq⟩, HK2.out.setM (h := ⟨sg + 1, tt, ff⟩)⟩, by simp [intOf]; omega⟩
          · subst e7
            obtain rfl : lv = false := by rw [HLV.out, hl]; rfl
            have HKN := Lib.hid k1
            clear k1 hl
            go_wp2_with fail
            have hk40 := HK40.out
            have he := HE.out
            have hg := HGK.out
            exact ⟨⟨k + 1, s1, ⟨sg, st, sf⟩, ⟨mg, mt, mf⟩, has, doubt, e, q, F', by simp, rfl, rfl, rfl, by omega, by omega, by omega, by simp only; omega, HSB1.out, HKN.out, HDM.out, HK2.out⟩, by simp [intOf]; omega⟩
      · by_cases q2 : xk = 2
        · have p0 : (xk == 0) = false := by simp [q0]
          have p2 : (xk == 2) = true := by simp [q2]
          clear q0 q2
          as_aux_lemma =>
            have n2 := (HNI.out _ HBL.out).c2
            simp only at n2
            have hcall := fuse_r d 2 F s xn wr HW.out.dk HNN.out
            have hsb1 := HSB.out.fuse xn
            have hki1 := HKI.out.fuse xn
            obtain ⟨s1, hs1⟩ : ∃ s1, s1 = (fuseS s xn).1 := ⟨_, rfl⟩
            rw [← hs1] at hcall hsb1 hki1
            have HCALL := Lib.hid hcall
            have HSB1 := Lib.hid hsb1
            have HKN := Lib.hid hki1
            clear hcall hsb1 hki1 hs1
            go_wp2_with fail
            refine HCALL.out.mono ?_
            rintro x w6 ⟨rfl, h1, a1⟩
            have HK2 := Lib.hid (HW.out.moved h1 a1)
            clear h1 a1
            go_wp2_with fail
            have hk40 := HK40.out
            have he := HE.out
            have hg := HGK.out
            exact ⟨⟨k + 1, s1, ⟨sg, st, sf⟩, ⟨mg, mt, mf⟩, has, doubt, e, q, F, by simp, rfl, rfl, rfl, by omega, by omega, by omega, by simp only; omega, HSB1.out, HKN.out, HDM.out, HK2.out⟩, by simp [intOf]; omega⟩
        · by_cases q3 : xk = 3
          · have p0 : (xk == 0) = false := by simp [q0]
            have p2 : (xk == 2) = false := by simp [q2]
            have p3 : (xk == 3) = true := by simp [q3]
            clear q0 q2 q3
            as_aux_lemma =>
              have hcr := fun w' (h : KW w w' d s F ys (ys + 1) ⟨sg, st, sf⟩ ⟨mg, mt, mf⟩) => kw_crash h xn HKS.out HKO.out
              have HCR := Lib.hid hcr
              have hsb1 := HSB.out.crash ks xn
              have hkc := HKI.out.crash (by have := HE.out; have := HK40.out; omega) ks xn
              obtain ⟨s1, hs1⟩ : ∃ s1, s1 = crashS s ks xn := ⟨_, rfl⟩
              rw [← hs1] at hcr hsb1 hkc
              have HCR := Lib.hid hcr
              have HSB1 := Lib.hid hsb1
              obtain ⟨⟨ng, nt, nf⟩, has', hk', hld, hor⟩ := hkc
              have HKN := Lib.hid hk'
              have HLD := Lib.hid hld
              have HOR := Lib.hid hor
              have y4 : IntKind.u64.wrap ((e : Int) + 1) = ((e + 1 : Nat) : Int) := by rw [IntKind.wrap_u64]; have := HE.out; have := HK40.out; omega
              clear hcr hsb1 hk' hld hor hs1
              go_upto_region 22 with (fail)
              refine wp_region_held_drew (S := (fun w' => w'.cell? ⟨b, o + k * 9 + 8, none⟩ = some (.slice ak mk ck) ∧ w'.cell? ⟨b, o + k * 9 + 2, none⟩ = some (.int .i64 xn))) (by kernel_rfl) (by first | exact ⟨(HNI.out _ HBL2.out).c8, (HNI.out _ HBL2.out).c2⟩ | exact ⟨(HNI.out _ HBL.out.drew).c8, (HNI.out _ HBL.out.drew).c2⟩) (fun hHeld => ?_)
              clear hHeld
              refine wpAnyH_take (i := 0) (oi := ⟨some 84, .move (.tmp 3), 23, "law.go:89", #[], none⟩) (v := ?_) rfl (by kernel_rfl) (by kernel_rfl) (by kernel_rfl) (fun _ _ _ h => h) (Or.inl ⟨by rfl, ?_⟩) (by first | exact ⟨(HNI.out _ HBL2.out).c8, (HNI.out _ HBL2.out).c2⟩ | exact ⟨(HNI.out _ HBL.out.drew).c8, (HNI.out _ HBL.out.drew).c2⟩) ?_
              rotate_left
              · (intro w hSw; obtain ⟨z0, z1⟩ := hSw; go_simp <;> with_reducible rfl)
              simp only [Act.put, List.setIfInBounds_toArray, List.set_cons_zero, List.set_cons_succ]
              refine wpAnyH_take (i := 1) (oi := ⟨some 85, .move (.tmp 0), 22, "law.go:89", #[], none⟩) (v := ?_) rfl (by kernel_rfl) (by kernel_rfl) (by kernel_rfl) (fun _ _ _ h => h) (Or.inl ⟨by rfl, ?_⟩) (by first | exact ⟨(HNI.out _ HBL2.out).c8, (HNI.out _ HBL2.out).c2⟩ | exact ⟨(HNI.out _ HBL.out.drew).c8, (HNI.out _ HBL.out.drew).c2⟩) ?_
              rotate_left
              · (intro w hSw; obtain ⟨z0, z1⟩ := hSw; go_simp <;> with_reducible rfl)
              simp only [Act.put, List.setIfInBounds_toArray, List.set_cons_zero, List.set_cons_succ]
              refine wpAnyH_take (i := 2) (oi := ⟨some 86, .move (.tmp 10), 3, "law.go:89", #[], none⟩) (v := ?_) rfl (by kernel_rfl) (by kernel_rfl) (by kernel_rfl) (fun _ _ _ h => h) (Or.inl ⟨by rfl, ?_⟩) (by first | exact ⟨(HNI.out _ HBL2.out).c8, (HNI.out _ HBL2.out).c2⟩ | exact ⟨(HNI.out _ HBL.out.drew).c8, (HNI.out _ HBL.out.drew).c2⟩) ?_
              rotate_left
              · (intro w hSw; obtain ⟨z0, z1⟩ := hSw; go_simp <;> with_reducible rfl)
              simp only [Act.put, List.setIfInBounds_toArray, List.set_cons_zero, List.set_cons_succ]
              refine wpAnyH_take (i := 3) (oi := ⟨some 87, .indexAddr 22 (.tmp 85) (.tmp 86), 0, "law.go:89", #[⟨1, .data⟩, ⟨2, .data⟩], none⟩) (v := ?_) rfl (by kernel_rfl) (by kernel_rfl) (by kernel_rfl) (fun _ _ _ h => h) (Or.inl ⟨by rfl, ?_⟩) (by first | exact ⟨(HNI.out _ HBL2.out).c8, (HNI.out _ HBL2.out).c2⟩ | exact ⟨(HNI.out _ HBL.out.drew).c8, (HNI.out _ HBL.out.drew).c2⟩) ?_
              rotate_left
              · (intro w hSw; obtain ⟨z0, z1⟩ := hSw; go_simp <;> with_reducible rfl)
              simp only [Act.put, List.setIfInBounds_toArray, List.set_cons_zero, List.set_cons_succ]
              refine wpAnyH_take (i := 4) (oi := ⟨some 88, .fieldAddr 36 (.tmp 87) 6, 0, "law.go:89", #[⟨3, .data⟩], none⟩) (v := ?_) rfl (by kernel_rfl) (by kernel_rfl) (by kernel_rfl) (fun _ _ _ h => h) (Or.inl ⟨by rfl, ?_⟩) (by first | exact ⟨(HNI.out _ HBL2.out).c8, (HNI.out _ HBL2.out).c2⟩ | exact ⟨(HNI.out _ HBL.out.drew).c8, (HNI.out _ HBL.out.drew).c2⟩) ?_
              rotate_left
              · (intro w hSw; obtain ⟨z0, z1⟩ := hSw; go_simp <;> with_reducible rfl)
              simp only [Act.put, List.setIfInBounds_toArray, List.set_cons_zero, List.set_cons_succ]
              refine wpAnyH_take (i := 5) (oi := ⟨some 89, .load 34 (.tmp 88), 34, "law.go:89", #[⟨4, .data⟩], none⟩) (v := ?_) rfl (by kernel_rfl) (by kernel_rfl) (by kernel_rfl) (fun _ _ _ h => h) (Or.inl ⟨by rfl, ?_⟩) (by first | exact ⟨(HNI.out _ HBL2.out).c8, (HNI.out _ HBL2.out).c2⟩ | exact ⟨(HNI.out _ HBL.out.drew).c8, (HNI.out _ HBL.out.drew).c2⟩) ?_
              rotate_left
              · (intro w hSw; obtain ⟨z0, z1⟩ := hSw; go_simp <;> with_reducible rfl)
              simp only [Act.put, List.setIfInBounds_toArray, List.set_cons_zero, List.set_cons_succ]
              refine wpAnyH_take (i := 6) (oi := ⟨some 90, .move (.tmp 0), 22, "law.go:89", #[], none⟩) (v := ?_) rfl (by kernel_rfl) (by kernel_rfl) (by kernel_rfl) (fun _ _ _ h => h) (Or.inl ⟨by rfl, ?_⟩) (by first | exact ⟨(HNI.out _ HBL2.out).c8, (HNI.out _ HBL2.out).c2⟩ | exact ⟨(HNI.out _ HBL.out.drew).c8, (HNI.out _ HBL.out.drew).c2⟩) ?_
              rotate_left
              · (intro w hSw; obtain ⟨z0, z1⟩ := hSw; go_simp <;> with_reducible rfl)
              simp only [Act.put, List.setIfInBounds_toArray, List.set_cons_zero, List.set_cons_succ]
              refine wpAnyH_take (i := 7) (oi := ⟨some 91, .move (.tmp 10), 3, "law.go:89", #[], none⟩) (v := ?_) rfl (by kernel_rfl) (by kernel_rfl) (by kernel_rfl) (fun _ _ _ h => h) (Or.inl ⟨by rfl, ?_⟩) (by first | exact ⟨(HNI.out _ HBL2.out).c8, (HNI.out _ HBL2.out).c2⟩ | exact ⟨(HNI.out _ HBL.out.drew).c8, (HNI.out _ HBL.out.drew).c2⟩) ?_
              rotate_left
              · (intro w hSw; obtain ⟨z0, z1⟩ := hSw; go_simp <;> with_reducible rfl)
              simp only [Act.put, List.setIfInBounds_toArray, List.set_cons_zero, List.set_cons_succ]
              refine wpAnyH_take (i := 8) (oi := ⟨some 92, .indexAddr 22 (.tmp 90) (.tmp 91), 0, "law.go:89", #[⟨6, .data⟩, ⟨7, .data⟩], none⟩) (v := ?_) rfl (by kernel_rfl) (by kernel_rfl) (by kernel_rfl) (fun _ _ _ h => h) (Or.inl ⟨by rfl, ?_⟩) (by first | exact ⟨(HNI.out _ HBL2.out).c8, (HNI.out _ HBL2.out).c2⟩ | exact ⟨(HNI.out _ HBL.out.drew).c8, (HNI.out _ HBL.out.drew).c2⟩) ?_
              rotate_left
              · (intro w hSw; obtain ⟨z0, z1⟩ := hSw; go_simp <;> with_reducible rfl)
              simp only [Act.put, List.setIfInBounds_toArray, List.set_cons_zero, List.set_cons_succ]
              refine wpAnyH_take (i := 9) (oi := ⟨some 93, .fieldAddr 36 (.tmp 92) 2, 0, "law.go:89", #[⟨8, .data⟩], none⟩) (v := ?_) rfl (by kernel_rfl) (by kernel_rfl) (by kernel_rfl) (fun _ _ _ h => h) (Or.inl ⟨by rfl, ?_⟩) (by first | exact ⟨(HNI.out _ HBL2.out).c8, (HNI.out _ HBL2.out).c2⟩ | exact ⟨(HNI.out _ HBL.out.drew).c8, (HNI.out _ HBL.out.drew).c2⟩) ?_
              rotate_left
              · (intro w hSw; obtain ⟨z0, z1⟩ := hSw; go_simp <;> with_reducible rfl)
              simp only [Act.put, List.setIfInBounds_toArray, List.set_cons_zero, List.set_cons_succ]
              refine wpAnyH_take (i := 10) (oi := ⟨some 94, .load 3 (.tmp 93), 3, "law.go:89", #[⟨9, .data⟩], none⟩) (v := ?_) rfl (by kernel_rfl) (by kernel_rfl) (by kernel_rfl) (fun _ _ _ h => h) (Or.inl ⟨by rfl, ?_⟩) (by first | exact ⟨(HNI.out _ HBL2.out).c8, (HNI.out _ HBL2.out).c2⟩ | exact ⟨(HNI.out _ HBL.out.drew).c8, (HNI.out _ HBL.out.drew).c2⟩) ?_
              rotate_left
              · (intro w hSw; obtain ⟨z0, z1⟩ := hSw; go_simp <;> with_reducible rfl)
              simp only [Act.put, List.setIfInBounds_toArray, List.set_cons_zero, List.set_cons_succ]
              refine wpAnyH_ready (rs := [11]) (by kernel_rfl) (by simp) ?_
              refine AllReadyH.cons (o := ⟨some 95, .call { callee := Go.Callee.value (.func 16), args := #[Go.Operand.tmp 84, Go.Operand.tmp 89, Go.Operand.tmp 94], argTypes := #[23, 34, 3] }, 0, "law.go:89", #[⟨0, .data⟩, ⟨5, .data⟩, ⟨10, .data⟩], none⟩) rfl (fun K hK => ?_) AllReadyH.nil
              go_simp
              refine (HCR.out _ (HW.out.drew)).mono ?_
              rintro x w4 ⟨rfl, k4⟩
              have KW4 := Lib.hid k4
              have HBL2 := Lib.hid k4.ad.toBelow
              clear k4
              go_wp2_with fail
              refine hK.out _ _ (by first | exact ⟨(HNI.out _ HBL2.out).c8, (HNI.out _ HBL2.out).c2⟩ | exact ⟨(HNI.out _ HBL.out.drew).c8, (HNI.out _ HBL.out.drew).c2⟩) (fun hHeld => ?_)
              clear hK K hHeld
              try simp only [Act.put, List.setIfInBounds_toArray, List.set_cons_zero, List.set_cons_succ]
              refine wpAnyH_done (by kernel_rfl) ?_ _
              have hload := hload_dk d 2 F s1 0 w4 KW4.out.dk (HSB1.out.sb 2) (by decide) (by decide) (by decide)
              have hans : (ldO s1 2 0).getD hZ = ⟨ng, nt, nf⟩ ∧ (ldO s1 2 0).isSome = has' := by
                rw [HLD.out]
                cases hh : has' with
                | true => exact ⟨rfl, rfl⟩
                | false =>
                  obtain ⟨_, _, _, _, _, hsy⟩ := HKN.out.sec
                  exact ⟨(hsy.2 hh).symm, rfl⟩
              have hload2 : Calls Try.prog 18 #[.pointer (some ⟨d, 0, none⟩), .int .i64 0] w4 fun x w' => x = .returned (.tuple #[.agg #[.int .u64 (ng : Int), .int .u64 (nt : Int), .int .u64 (nf : Int)], .bool has', .int .i64 0]) ∧ Adv Nul w4 Nul w' := hload.mono (by
                rintro x w' ⟨h1, h2⟩
                refine ⟨?_, h2⟩
                rw [h1.eq, hans.1, hans.2]
                rfl)
              have HLOAD := Lib.hid hload2
              clear hload hload2 hans
              go_wp2_with fail
              refine HLOAD.out.mono ?_
              rintro x w5 ⟨rfl, a5⟩
              obtain ⟨u, hu⟩ : ∃ u, u = w5.heap.size := ⟨_, rfl⟩
              obtain ⟨V5, hV5⟩ : ∃ V1, V1 = w5.alloc (.cells #[.int .u64 (ng : Int), .int .u64 (nt : Int), .int .u64 (nf : Int)] 38) := ⟨_, rfl⟩
              have HU := Lib.hid (show Blk V5 u 38 #[.int .u64 (ng : Int), .int .u64 (nt : Int), .int .u64 (nf : Int)] by rw [hV5, hu]; exact Blk.new _ _ _)
              have HK5 := Lib.hid (show KW w V5 d s1 F ys (ys + 1) ⟨sg, st, sf⟩ ⟨mg, mt, mf⟩ by rw [hV5]; exact KW4.out.far (a5.alloc _))
              have HV5 := Lib.hid hV5
              have HUU := Lib.hid hu
              clear a5 hu hV5
              go_upto_region 24 with (fail)
              rw [← HV5.out, ← HUU.out]
              obtain ⟨u0, u1, u2⟩ := HU.out.three
              obtain ⟨v0, v1, v2⟩ := HK5.out.by_.three
              obtain ⟨m0, m1, m2⟩ := HK5.out.bm.three
              simp only at v0 v1 v2 m0 m1 m2
              rcases HOR.out with ⟨e1, e2⟩ | ⟨e1, e2⟩
              · injection e1 with e1 e3 e4
                subst e1 e2 e3 e4
                have HGL := Lib.hid (show ng ≤ k + 1 by have := HGK.out; omega)
                cases has' with
                | false =>
                  go_wp2_with (first
                    | (refine op_store3 sizeHead rfl (.tmp 5) (.tmp 127) rfl ys _ (h3 (ng : Int) (nt : Int) (nf : Int)) HK5.out.by_ rfl rfl (h3_one _ _ _) rfl rfl ?_)
                    | fail)
                  have hk40 := HK40.out
                  have he := HE.out
                  have hg := HGL.out
                  exact ⟨⟨k + 1, s1, ⟨ng, nt, nf⟩, ⟨mg, mt, mf⟩, false, false, e + 1, none, F, by simp, rfl, rfl, by first | rfl | simp, by omega, by omega, by omega, hg, HSB1.out, HKN.out, fun h hq => by simp at hq, HK5.out.setS (h := ⟨ng, nt, nf⟩)⟩, by simp [intOf]; omega⟩
                | true =>
                  go_wp2_with (first
                    | (refine op_store3 sizeHead rfl (.tmp 5) (.tmp 127) rfl ys _ (h3 (ng : Int) (nt : Int) (nf : Int)) HK5.out.by_ rfl rfl (h3_one _ _ _) rfl rfl ?_)
                    | fail)
                  have hk40 := HK40.out
                  have he := HE.out
                  have hg := HGL.out
                  exact ⟨⟨k + 1, s1, ⟨ng, nt, nf⟩, ⟨mg, mt, mf⟩, true, false, e + 1, none, F, by simp, rfl, rfl, by first | rfl | simp, by omega, by omega, by omega, hg, HSB1.out, HKN.out, fun h hq => by simp at hq, HK5.out.setS (h := ⟨ng, nt, nf⟩)⟩, by simp [intOf]; omega⟩
              · subst e2
                obtain ⟨hd, hm⟩ := HDM.out _ e1
                subst hd
                injection hm with hm1 hm2 hm3
                have hg0 := (HKI.out.qs _ e1).2.2.1
                simp only at hg0
                have HGL := Lib.hid (show ng ≤ k + 1 by have := HGK.out; omega)
                have hne : ((ng : Int) == (sg : Int)) = false := by rw [beq_eq_false_iff_ne]; omega
                subst hm1 hm2 hm3
                clear e1 hg0
                cases has with
                | false =>
                  go_wp2_with (first
                    | (refine op_store3 sizeHead rfl (.tmp 5) (.tmp 127) rfl ys _ (h3 (mg : Int) (mt : Int) (mf : Int)) HK5.out.by_ rfl rfl (h3_one _ _ _) rfl rfl ?_)
                    | fail)
                  have hk40 := HK40.out
                  have he := HE.out
                  have hg := HGL.out
                  exact ⟨⟨k + 1, s1, ⟨mg, mt, mf⟩, ⟨mg, mt, mf⟩, true, false, e + 1, none, F, by simp, rfl, rfl, by first | rfl | simp, by omega, by omega, by omega, hg, HSB1.out, HKN.out, fun h hq => by simp at hq, HK5.out.setS (h := ⟨mg, mt, mf⟩)⟩, by simp [intOf]; omega⟩
                | true =>
                  go_wp2_with (first
                    | (refine op_store3 sizeHead rfl (.tmp 5) (.tmp 127) rfl ys _ (h3 (mg : Int) (mt : Int) (mf : Int)) HK5.out.by_ rfl rfl (h3_one _ _ _) rfl rfl ?_)
                    | fail)
                  have hk40 := HK40.out
                  have he := HE.out
                  have hg := HGL.out
                  exact ⟨⟨k + 1, s1, ⟨mg, mt, mf⟩, ⟨mg, mt, mf⟩, true, false, e + 1, none, F, by simp, rfl, rfl, by first | rfl | simp, by omega, by omega, by omega, hg, HSB1.out, HKN.out, fun h hq => by simp at hq, HK5.out.setS (h := ⟨mg, mt, mf⟩)⟩, by simp [intOf]; omega⟩
          · have p0 : (xk == 0) = false := by simp [q0]
            have p2 : (xk == 2) = false := by simp [q2]
            have p3 : (xk == 3) = false := by simp [q3]
            clear q0 q2 q3
            go_wp2_with fail
            have hk40 := HK40.out
            have he := HE.out
            have hg := HGK.out
            exact ⟨⟨k + 1, s, ⟨sg, st, sf⟩, ⟨mg, mt, mf⟩, has, doubt, e, q, F, by simp, rfl, rfl, rfl, by omega, by omega, by omega, by simp only; omega, HSB.out, HKI.out, HDM.out, HW.out⟩, by simp [intOf]; omega⟩
    · have HEND := Lib.hid HBL.out
      rcases Nat.lt_or_ge k m with h1 | h1
      · have h2 : k = 40 := by omega
        subst h2
        have h3 : ((40 : Nat) : Int) < (m : Int) := by omega
        clear hgo h1
        go_wp2_with fail
        refine (hlives_any _).mono ?_
        rintro e w1 ⟨rfl, h1⟩
        have HL := Lib.hid h1
        clear h1
        go_wp2_with fail
        go_ret
        exact ⟨rfl, HEND.out.trans ⟨HL.out.os, HL.out.tape, HL.out.output, HL.out.size, fun j hj => HL.out.block j (Nat.lt_of_lt_of_le hj HEND.out.size) (fun h => h)⟩⟩
      · have h3 : (m : Int) ≤ (k : Int) := by omega
        clear hgo h1
        go_wp2_with fail
        refine (hlives_any _).mono ?_
        rintro e w1 ⟨rfl, h1⟩
        have HL := Lib.hid h1
        clear h1
        go_wp2_with fail
        go_ret
        exact ⟨rfl, HEND.out.trans ⟨HL.out.os, HL.out.tape, HL.out.output, HL.out.size, fun j hj => HL.out.block j (Nat.lt_of_lt_of_le hj HEND.out.size) (fun h => h)⟩⟩
end Go.Proofs.Ytochmeibmjfnnaa
