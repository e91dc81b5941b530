/- The statement HeadPlays. -/
import Derived.Test.YtochmeibmjfnnaaMgG
import Derived.Deep.DeepCutAuto
namespace Go.Proofs.Ytochmeibmjfnnaa
open Go.RowKit

theorem Blk.nine_cells {w : World} {p : Nat} {t : TypeId} {a0 a1 a2 a3 a4 a5 a6 a7 a8 : Value} (h : Blk w p t #[a0, a1, a2, a3, a4, a5, a6, a7, a8]) :
    w.cell? ⟨p, 0, none⟩ = some a0 ∧ w.cell? ⟨p, 1, none⟩ = some a1 ∧ w.cell? ⟨p, 2, none⟩ = some a2 ∧ w.cell? ⟨p, 3, none⟩ = some a3 ∧ w.cell? ⟨p, 4, none⟩ = some a4 ∧ w.cell? ⟨p, 5, none⟩ = some a5 ∧ w.cell? ⟨p, 6, none⟩ = some a6 ∧ w.cell? ⟨p, 7, none⟩ = some a7 ∧ w.cell? ⟨p, 8, none⟩ = some a8 :=
  ⟨h.cell 0, h.cell 1, h.cell 2, h.cell 3, h.cell 4, h.cell 5, h.cell 6, h.cell 7, h.cell 8⟩
theorem Blk.two_cells {w : World} {p : Nat} {t : TypeId} {a0 a1 a2 a3 a4 a5 a6 a7 a8 : Value} (h : Blk w p t #[a0, a1, a2, a3, a4, a5, a6, a7, a8]) :
    w.cell? ⟨p, 1, none⟩ = some a1 ∧ w.cell? ⟨p, 7, none⟩ = some a7 := ⟨h.cell 1, h.cell 7⟩
theorem mix_rload2 {w0 w : World} {d c n : Nat} {s t : DS} (h : Mix w0 w d c n s t) (at_ : Int) (hsb : SBw t) (hq : t.Q.length ≤ 1000000) (hn : n ≤ 4096) (hn1 : 1 ≤ n) :
    Calls Try.prog 19 #[.pointer (some ⟨c, 0, none⟩), .int .i64 at_] w fun x w' => x = .returned (.tuple #[hv ((ldO t n at_).getD hZ), .bool (ldO t n at_).isSome, .int .i64 (ldE n at_)]) ∧ Adv Nul w Nul w' := by
  obtain ⟨F, G, hdk, hr, s1, ha⟩ := h
  refine (rload_dk c n G t at_ w hr (hsb.sb n) hq hn hn1).mono ?_
  rintro x w' ⟨h1, a1⟩
  exact ⟨h1.eq, a1⟩
def HPlyRel (w : World) (d c : Nat) (t : Value) (wr : World) : Prop :=
  ∃ k s, t = .int .i64 ((k : Nat) : Int) ∧ k ≤ 30 ∧ s.Q.length ≤ k ∧ SBw s ∧ Mix w wr d c 5 s s
def HMid (w : World) (d c k : Nat) (wr : World) : Prop := ∃ s1, Mix w wr d c 5 s1 s1 ∧ SBw s1 ∧ s1.Q.length ≤ k + 1

set_option maxRecDepth 4000 in
set_option linter.unusedVariables false in
set_option maxHeartbeats 6400000 in
theorem hplays_walk (w : World) (at_ : Int) (hwf : (Lit.int .i64 at_).wf = true) (v : Value) (h : ∃ ds, HDosIn w v ds) :
    Calls Try.prog 3 #[.int .i64 at_, v] w fun e w' => e = .returned (.bool true) ∧ Below w.heap.size w w' := by
  obtain ⟨ds, h⟩ := h
  obtain ⟨A, cap, rfl, _, hcm⟩ := h.rd.form
  have HAT := Lib.hid (i64_both hwf)
  have HD := Lib.hid h
  obtain ⟨m, hm⟩ : ∃ m, m = ds.length := ⟨_, rfl⟩
  have HM := Lib.hid hm
  rw [← hm]
  have HN1 := Lib.hid (new_r 5 (by decide) (by decide))
  have HN2 := Lib.hid (rnew_r 5 (by decide) (by decide))
  clear h hm hwf hcm
  go_enter Try.func3, Try.ntmps3
  go_wp2_with fail
  refine (HN1.out _).mono ?_
  rintro e w1 ⟨d, F, rfl, h1, a1⟩
  have H1 := Lib.hid h1
  have A1 := Lib.hid a1
  clear h1 a1
  go_wp2_with fail
  refine (HN2.out _).mono ?_
  rintro e w2 ⟨c, G, rfl, h2, a2⟩
  have HX0 := Lib.hid (Mix.new H1.out A1.out h2 a2)
  clear h2 a2
  go_wp2_with fail
  go_loopw [9] (HPlyRel w d c) (fun t _ => 30 - (intOf t).toNat)
  case atStart => exact ⟨0, newS 5, rfl, by omega, by simp [newS], SBw.new 5, HX0.out⟩
  case round =>
    obtain ⟨k, s, rfl, hk, hq, hsb, hx⟩ := hrel
    clear HX0 H1 A1 HN1 HN2
    have HXM := Lib.hid hx
    have HQK := Lib.hid hq
    have HQ := Lib.hid (show s.Q.length ≤ 1000 by omega)
    have HSB := Lib.hid hsb
    clear hx hq hsb
    by_cases hgo : k < m ∧ k < 30
    · obtain ⟨hkm, hk40⟩ := hgo
      have hlt : k < ds.length := by have := HM.out; omega
      obtain ⟨b, o, c', e, hnine⟩ := HD.out.nine hlt
      rw [← HM.out] at e
      injection e with e1 e2 e3
      subst e1
      subst e3
      have hfit := HD.out.fit _ (List.getElem_mem hlt)
      obtain ⟨x, hx⟩ : ∃ x, x = ds[k] := ⟨_, rfl⟩
      rw [← hx] at hnine hfit
      obtain ⟨xk, xa, xn, xe, ⟨xg, xt, xf⟩, bv, xb, kv, ks⟩ := x
      obtain ⟨hfb, hfk, hfo, hfna, hfnn, hft, hff⟩ := hfit
      simp only at hfb hfk hfo hfna hfnn hft hff
      obtain ⟨ab, cb, rfl, _, _⟩ := hfb.rd.form
      obtain ⟨ak, ck, rfl, _, _⟩ := hfk.form
      obtain ⟨mb, hmb⟩ : ∃ mb, mb = xb.length := ⟨_, rfl⟩
      obtain ⟨mk, hmk⟩ : ∃ mk, mk = ks.length := ⟨_, rfl⟩
      have hn0 := hnine _ HXM.out.below
      simp only [← hmb, ← hmk] at hn0 hfk hfo
      have hinb : In w (.slice ab mb cb) xb := by rw [hmb]; exact hfb
      have HINB := Lib.hid hinb
      have HKS := Lib.hid hfk
      have HKO := Lib.hid hfo
      have HNN := Lib.hid hfnn
      have HTT := Lib.hid hft
      have HFF := Lib.hid hff
      have hki : (k : Int) < (m : Int) := by omega
      have hki2 : (k : Int) < 30 := by omega
      have HK30 := Lib.hid hk40
      obtain ⟨p, hp⟩ : ∃ p, p = wr.heap.size := ⟨_, rfl⟩
      obtain ⟨V, hV⟩ : ∃ V, V = wr.alloc (.cells (#[.int .i64 xk, .int .i64 xa, .int .i64 xn, .int .u64 (xe : Int), .int .u64 (xg : Int), .int .u64 (xt : Int), .int .u64 (xf : Int), .slice ab mb cb, .slice ak mk ck]) 36) := ⟨_, rfl⟩
      have HX := Lib.hid (show Mix2 w V d c 5 s s p (#[.int .i64 xk, .int .i64 xa, .int .i64 xn, .int .u64 (xe : Int), .int .u64 (xg : Int), .int .u64 (xt : Int), .int .u64 (xf : Int), .slice ab mb cb, .slice ak mk ck]) from Mix2.of HXM.out (by rw [hV, hp]; exact Blk.new _ _ _) (by rw [hV]; exact (Adv.refl Nul wr).alloc _) (by rw [hp]; exact Nat.le_refl _))
      have HV := Lib.hid hV
      have HP := Lib.hid hp
      obtain ⟨n0, n1, n2, n3, n4, n5, n6, n7, n8⟩ := hn0
      simp only at n0 n1 n2 n3 n4 n5 n6 n7 n8
      clear hnine hfb hfk hfo hfna hfnn hft hff hmb hmk hinb hx hp hV hlt hk hk40 hkm e2
      go_upto_region 9 with (fail)
      rw [← HV.out, ← HP.out]
      obtain ⟨c0, c1, c2, c3, c4, c5, c6, c7, c8⟩ := HX.out.blk.nine_cells
      clear n0 n1 n2 n3 n4 n5 n6 n7 n8
      go_cut [43] (fun t43 wr => t43 = .int .i64 xk ∧ V = wr)
      case first =>
        go_wp2_with fail
        go_meet
        exact ⟨rfl, rfl⟩
      case rest =>
      obtain ⟨rfl, rfl⟩ := hcut
      rename_i Kx hKx
      refine hKx _ _ ?_
      go_cut [84] (fun t84 wr => HMid w d c k wr)
      case first =>
        by_cases q0 : xk = 0
        · have p0 : (xk == 0) = true := by simp [q0]
          clear q0
          as_aux_lemma =>
            obtain ⟨s1, hs1⟩ : ∃ s1, s1 = (saveS s 5 xa xe ⟨xg, xt, xf⟩).1 := ⟨_, rfl⟩
            obtain ⟨e1, he1⟩ : ∃ e1, e1 = (saveS s 5 xa xe ⟨xg, xt, xf⟩).2 := ⟨_, rfl⟩
            have hw1 := fun w' (h : Mix2 w w' d c 5 s s p (#[.int .i64 xk, .int .i64 xa, .int .i64 xn, .int .u64 (xe : Int), .int .u64 (xg : Int), .int .u64 (xt : Int), .int .u64 (xf : Int), .slice ab mb cb, .slice ak mk ck])) => mix2_save h xa xe ⟨xg, xt, xf⟩ (by have := HQ.out; omega) (by decide) (by decide) HTT.out HFF.out
            have hw2 := fun w' (h : Mix2 w w' d c 5 (saveS s 5 xa xe ⟨xg, xt, xf⟩).1 s p (#[.int .i64 xk, .int .i64 xa, .int .i64 xn, .int .u64 (xe : Int), .int .u64 (xg : Int), .int .u64 (xt : Int), .int .u64 (xf : Int), .slice ab mb cb, .slice ak mk ck])) => mix2_rsave h xa xe ⟨xg, xt, xf⟩ (by have := HQ.out; omega) (by decide) (by decide) HTT.out HFF.out
            have hfew := few_save s 5 xa xe ⟨xg, xt, xf⟩
            have hsb := HSB.out.save 5 xa xe ⟨xg, xt, xf⟩
            simp only at hw1 hw2
            rw [← hs1] at hw1 hw2 hfew hsb
            rw [← he1] at hw1 hw2
            have HW1 := Lib.hid hw1
            have HW2 := Lib.hid hw2
            have HFEW := Lib.hid (show s1.Q.length ≤ k + 1 by have := HQK.out; omega)
            have HSB1 := Lib.hid hsb
            have hee : (e1 == e1) = true := by simp
            clear hw1 hw2 hfew hsb hs1 he1
            go_wp2_with fail
            refine (HW1.out _ HX.out).mono ?_
            rintro x w4 ⟨rfl, h4⟩
            have MW := Lib.hid h4
            clear h4 c0 c1 c2 c3 c4 c5 c6 c7 c8
            obtain ⟨c0, c1, c2, c3, c4, c5, c6, c7, c8⟩ := MW.out.blk.nine_cells
            go_wp2_with fail
            refine (HW2.out _ MW.out).mono ?_
            rintro x w5 ⟨rfl, h5⟩
            have MV := Lib.hid h5.mix
            clear h5 c0 c1 c2 c3 c4 c5 c6 c7 c8
            go_wp2_with fail
            go_meet
            exact ⟨s1, MV.out, HSB1.out, HFEW.out⟩
        · by_cases q1 : xk = 1
          · have p1 : (xk == 1) = true := by simp [q1]
            have p0 : (xk == 0) = false := by simp [q0]
            clear q0 q1
            as_aux_lemma =>
              obtain ⟨a', ha'⟩ : ∃ a', a' = clampI xa 0 4 := ⟨_, rfl⟩
              have hcl := fun w => within_at xa 0 4 w
              rw [← ha'] at hcl
              have HCL := Lib.hid hcl
              obtain ⟨s1, hs1⟩ : ∃ s1, s1 = (writeS s a' (sec xb)).1 := ⟨_, rfl⟩
              have hsec := fun w' (h : Below w.heap.size w w') => sector_any (.slice ab mb cb) xb w' (HINB.out.far h)
              have hw1 := fun w1 w' B v (h : Mix2 w w1 d c 5 s s p (#[.int .i64 xk, .int .i64 xa, .int .i64 xn, .int .u64 (xe : Int), .int .u64 (xg : Int), .int .u64 (xt : Int), .int .u64 (xf : Int), .slice ab mb cb, .slice ak mk ck])) (hv : Sl w' B 5 1 v 128 ((sec xb).map Go.Proofs.Ytochmeibmjfnnaa.u8)) (hb : Adv Nul w1 B w') => mix2_write h hv hb a' (by have := HQ.out; omega)
              have hw2 := fun w1 w' B v (h : Mix2 w w1 d c 5 (writeS s a' (sec xb)).1 s p (#[.int .i64 xk, .int .i64 xa, .int .i64 xn, .int .u64 (xe : Int), .int .u64 (xg : Int), .int .u64 (xt : Int), .int .u64 (xf : Int), .slice ab mb cb, .slice ak mk ck])) (hv : Sl w' B 5 1 v 128 ((sec xb).map Go.Proofs.Ytochmeibmjfnnaa.u8)) (hb : Adv Nul w1 B w') => mix2_rwrite h hv hb a' (by have := HQ.out; omega)
              have hfew := few_write s a' (sec xb)
              have hsb := HSB.out.write a' (sec_b HINB.out.lt)
              rw [← hs1] at hw1 hw2 hfew hsb
              have HSEC := Lib.hid hsec
              have HW1 := Lib.hid hw1
              have HW2 := Lib.hid hw2
              have HFEW := Lib.hid (show s1.Q.length ≤ k + 1 by have := HQK.out; omega)
              have HSB1 := Lib.hid hsb
              have HXD := Lib.hid (HX.out.far (Adv.refl Nul _).drew)
              have K0 := Lib.hid (HXD.out.blk.two_cells)
              clear hcl ha' hsec hw1 hw2 hfew hsb hs1 c0 c1 c2 c3 c4 c5 c6 c7 c8
              go_wp2_with fail
              refine wp_region_held_drew (S := (fun w' => w'.cell? ⟨p, 1, none⟩ = some (.int .i64 xa) ∧ w'.cell? ⟨p, 7, none⟩ = some (.slice ab mb cb))) (by kernel_rfl) (by first | with_reducible exact K11.out | with_reducible exact K10.out | with_reducible exact K9.out | with_reducible exact K8.out | with_reducible exact K7.out | with_reducible exact K6.out | with_reducible exact K0.out) (fun hHeld => ?_)
              clear hHeld
              refine wpAnyH_take (i := 0) (oi := ⟨some 86, .move (.tmp 5), 23, "law.go:48", #[], none⟩) (v := ?_) rfl (by kernel_rfl) (by kernel_rfl) (by kernel_rfl) (fun _ _ _ h => h) (Or.inl ⟨by rfl, ?_⟩) (by first | with_reducible exact K11.out | with_reducible exact K10.out | with_reducible exact K9.out | with_reducible exact K8.out | with_reducible exact K7.out | with_reducible exact K6.out | with_reducible exact K0.out) ?_
              rotate_left
              · (intro w hSw; obtain ⟨z0, z1⟩ := hSw; go_simp <;> with_reducible rfl)
              simp only [Act.put, List.setIfInBounds_toArray, List.set_cons_zero, List.set_cons_succ]
              refine wpAnyH_take (i := 1) (oi := ⟨some 87, .fieldAddr 36 (.tmp 10) 1, 0, "law.go:48", #[], none⟩) (v := ?_) rfl (by kernel_rfl) (by kernel_rfl) (by kernel_rfl) (fun _ _ _ h => h) (Or.inl ⟨by rfl, ?_⟩) (by first | with_reducible exact K11.out | with_reducible exact K10.out | with_reducible exact K9.out | with_reducible exact K8.out | with_reducible exact K7.out | with_reducible exact K6.out | with_reducible exact K0.out) ?_
              rotate_left
              · (intro w hSw; obtain ⟨z0, z1⟩ := hSw; go_simp <;> with_reducible rfl)
              simp only [Act.put, List.setIfInBounds_toArray, List.set_cons_zero, List.set_cons_succ]
              refine wpAnyH_take (i := 2) (oi := ⟨some 88, .load 3 (.tmp 87), 3, "law.go:48", #[⟨1, .data⟩], none⟩) (v := ?_) rfl (by kernel_rfl) (by kernel_rfl) (by kernel_rfl) (fun _ _ _ h => h) (Or.inl ⟨by rfl, ?_⟩) (by first | with_reducible exact K11.out | with_reducible exact K10.out | with_reducible exact K9.out | with_reducible exact K8.out | with_reducible exact K7.out | with_reducible exact K6.out | with_reducible exact K0.out) ?_
              rotate_left
              · (intro w hSw; obtain ⟨z0, z1⟩ := hSw; go_simp <;> with_reducible rfl)
              simp only [Act.put, List.setIfInBounds_toArray, List.set_cons_zero, List.set_cons_succ]
              refine wpAnyH_take (i := 4) (oi := ⟨some 90, .fieldAddr 36 (.tmp 10) 5, 0, "law.go:48", #[], none⟩) (v := ?_) rfl (by kernel_rfl) (by kernel_rfl) (by kernel_rfl) (fun _ _ _ h => h) (Or.inl ⟨by rfl, ?_⟩) (by first | with_reducible exact K11.out | with_reducible exact K10.out | with_reducible exact K9.out | with_reducible exact K8.out | with_reducible exact K7.out | with_reducible exact K6.out | with_reducible exact K0.out) ?_
              rotate_left
              · (intro w hSw; obtain ⟨z0, z1⟩ := hSw; go_simp <;> with_reducible rfl)
              simp only [Act.put, List.setIfInBounds_toArray, List.set_cons_zero, List.set_cons_succ]
              refine wpAnyH_take (i := 5) (oi := ⟨some 91, .load 33 (.tmp 90), 33, "law.go:48", #[⟨4, .data⟩], none⟩) (v := ?_) rfl (by kernel_rfl) (by kernel_rfl) (by kernel_rfl) (fun _ _ _ h => h) (Or.inl ⟨by rfl, ?_⟩) (by first | with_reducible exact K11.out | with_reducible exact K10.out | with_reducible exact K9.out | with_reducible exact K8.out | with_reducible exact K7.out | with_reducible exact K6.out | with_reducible exact K0.out) ?_
              rotate_left
              · (intro w hSw; obtain ⟨z0, z1⟩ := hSw; go_simp <;> with_reducible rfl)
              simp only [Act.put, List.setIfInBounds_toArray, List.set_cons_zero, List.set_cons_succ]
              refine wpAnyH_ready (rs := [3]) (by kernel_rfl) (by simp) ?_
              refine AllReadyH.cons (o := ⟨some 89, .call { callee := Go.Callee.value (.func 11), args := #[Go.Operand.tmp 88, Go.Operand.const (Go.Value.int Go.IntKind.i64 0), Go.Operand.const (Go.Value.int Go.IntKind.i64 4)], argTypes := #[3, 3, 3] }, 3, "law.go:48", #[⟨2, .data⟩], none⟩) rfl (fun K hK => ?_) AllReadyH.nil
              go_simp
              refine (HCL.out _).mono ?_
              rintro x wz ⟨rfl, rfl⟩
              go_wp2_with fail
              refine hK.out _ _ (by first | with_reducible exact K11.out | with_reducible exact K10.out | with_reducible exact K9.out | with_reducible exact K8.out | with_reducible exact K7.out | with_reducible exact K6.out | with_reducible exact K0.out) (fun hHeld => ?_)
              clear hK K hHeld
              try simp only [Act.put, List.setIfInBounds_toArray, List.set_cons_zero, List.set_cons_succ]
              refine wpAnyH_ready (rs := [6]) (by kernel_rfl) (by simp) ?_
              refine AllReadyH.cons (o := ⟨some 92, .call { callee := Go.Callee.value (.func 12), args := #[Go.Operand.tmp 91], argTypes := #[33] }, 33, "law.go:48", #[⟨5, .data⟩, ⟨3, .chain⟩], none⟩) rfl (fun K hK => ?_) AllReadyH.nil
              go_simp
              refine (HSEC.out _ HXD.out.mix.below).mono ?_
              rintro x w6 ⟨v6, F6, rfl, s6', a6⟩
              obtain ⟨aa6, kk6, rfl, _, _⟩ := s6'.form0
              have HS6 := Lib.hid s6'
              have HA6 := Lib.hid a6
              have K6 := Lib.hid ((HXD.out.far (a6.sub (G := Nul) (fun _ x => x.elim))).blk.two_cells)
              clear s6' a6
              go_wp2_with fail
              refine hK.out _ _ (by first | with_reducible exact K11.out | with_reducible exact K10.out | with_reducible exact K9.out | with_reducible exact K8.out | with_reducible exact K7.out | with_reducible exact K6.out | with_reducible exact K0.out) (fun hHeld => ?_)
              clear hK K hHeld
              try simp only [Act.put, List.setIfInBounds_toArray, List.set_cons_zero, List.set_cons_succ]
              refine wpAnyH_ready (rs := [7]) (by kernel_rfl) (by simp) ?_
              refine AllReadyH.cons (o := ⟨some 93, .call { callee := Go.Callee.value (.func 10), args := #[Go.Operand.tmp 86, Go.Operand.tmp 89, Go.Operand.tmp 92], argTypes := #[23, 3, 33] }, 24, "law.go:48", #[⟨0, .data⟩, ⟨3, .data⟩, ⟨6, .data⟩, ⟨6, .chain⟩], none⟩) rfl (fun K hK => ?_) AllReadyH.nil
              go_simp
              refine (HW1.out _ _ _ _ HXD.out HS6.out HA6.out).mono ?_
              rintro x w7 ⟨rfl, h7⟩
              have MW := Lib.hid h7
              have K7 := Lib.hid (h7.blk.two_cells)
              clear h7
              go_wp2_with fail
              refine hK.out _ _ (by first | with_reducible exact K11.out | with_reducible exact K10.out | with_reducible exact K9.out | with_reducible exact K8.out | with_reducible exact K7.out | with_reducible exact K6.out | with_reducible exact K0.out) (fun hHeld => ?_)
              clear hK K hHeld
              try simp only [Act.put, List.setIfInBounds_toArray, List.set_cons_zero, List.set_cons_succ]
              refine wpAnyH_done (by kernel_rfl) ?_ _
              have HXE := Lib.hid (MW.out.far (Adv.refl Nul _).drew)
              have K8 := Lib.hid (HXE.out.blk.two_cells)
              go_wp2_with fail
              refine wp_region_held_drew (S := (fun w' => w'.cell? ⟨p, 1, none⟩ = some (.int .i64 xa) ∧ w'.cell? ⟨p, 7, none⟩ = some (.slice ab mb cb))) (by kernel_rfl) (by first | with_reducible exact K11.out | with_reducible exact K10.out | with_reducible exact K9.out | with_reducible exact K8.out | with_reducible exact K7.out | with_reducible exact K6.out | with_reducible exact K0.out) (fun hHeld => ?_)
              clear hHeld
              refine wpAnyH_take (i := 0) (oi := ⟨some 94, .move (.tmp 7), 27, "law.go:49", #[], none⟩) (v := ?_) rfl (by kernel_rfl) (by kernel_rfl) (by kernel_rfl) (fun _ _ _ h => h) (Or.inl ⟨by rfl, ?_⟩) (by first | with_reducible exact K11.out | with_reducible exact K10.out | with_reducible exact K9.out | with_reducible exact K8.out | with_reducible exact K7.out | with_reducible exact K6.out | with_reducible exact K0.out) ?_
              rotate_left
              · (intro w hSw; obtain ⟨z0, z1⟩ := hSw; go_simp <;> with_reducible rfl)
              simp only [Act.put, List.setIfInBounds_toArray, List.set_cons_zero, List.set_cons_succ]
              refine wpAnyH_take (i := 1) (oi := ⟨some 95, .fieldAddr 36 (.tmp 10) 1, 0, "law.go:49", #[], none⟩) (v := ?_) rfl (by kernel_rfl) (by kernel_rfl) (by kernel_rfl) (fun _ _ _ h => h) (Or.inl ⟨by rfl, ?_⟩) (by first | with_reducible exact K11.out | with_reducible exact K10.out | with_reducible exact K9.out | with_reducible exact K8.out | with_reducible exact K7.out | with_reducible exact K6.out | with_reducible exact K0.out) ?_
              rotate_left
              · (intro w hSw; obtain ⟨z0, z1⟩ := hSw; go_simp <;> with_reducible rfl)
              simp only [Act.put, List.setIfInBounds_toArray, List.set_cons_zero, List.set_cons_succ]
              refine wpAnyH_take (i := 2) (oi := ⟨some 96, .load 3 (.tmp 95), 3, "law.go:49", #[⟨1, .data⟩], none⟩) (v := ?_) rfl (by kernel_rfl) (by kernel_rfl) (by kernel_rfl) (fun _ _ _ h => h) (Or.inl ⟨by rfl, ?_⟩) (by first | with_reducible exact K11.out | with_reducible exact K10.out | with_reducible exact K9.out | with_reducible exact K8.out | with_reducible exact K7.out | with_reducible exact K6.out | with_reducible exact K0.out) ?_
              rotate_left
              · (intro w hSw; obtain ⟨z0, z1⟩ := hSw; go_simp <;> with_reducible rfl)
              simp only [Act.put, List.setIfInBounds_toArray, List.set_cons_zero, List.set_cons_succ]
              refine wpAnyH_take (i := 4) (oi := ⟨some 98, .fieldAddr 36 (.tmp 10) 5, 0, "law.go:49", #[], none⟩) (v := ?_) rfl (by kernel_rfl) (by kernel_rfl) (by kernel_rfl) (fun _ _ _ h => h) (Or.inl ⟨by rfl, ?_⟩) (by first | with_reducible exact K11.out | with_reducible exact K10.out | with_reducible exact K9.out | with_reducible exact K8.out | with_reducible exact K7.out | with_reducible exact K6.out | with_reducible exact K0.out) ?_
              rotate_left
              · (intro w hSw; obtain ⟨z0, z1⟩ := hSw; go_simp <;> with_reducible rfl)
              simp only [Act.put, List.setIfInBounds_toArray, List.set_cons_zero, List.set_cons_succ]
              refine wpAnyH_take (i := 5) (oi := ⟨some 99, .load 33 (.tmp 98), 33, "law.go:49", #[⟨4, .data⟩], none⟩) (v := ?_) rfl (by kernel_rfl) (by kernel_rfl) (by kernel_rfl) (fun _ _ _ h => h) (Or.inl ⟨by rfl, ?_⟩) (by first | with_reducible exact K11.out | with_reducible exact K10.out | with_reducible exact K9.out | with_reducible exact K8.out | with_reducible exact K7.out | with_reducible exact K6.out | with_reducible exact K0.out) ?_
              rotate_left
              · (intro w hSw; obtain ⟨z0, z1⟩ := hSw; go_simp <;> with_reducible rfl)
              simp only [Act.put, List.setIfInBounds_toArray, List.set_cons_zero, List.set_cons_succ]
              refine wpAnyH_ready (rs := [3]) (by kernel_rfl) (by simp) ?_
              refine AllReadyH.cons (o := ⟨some 97, .call { callee := Go.Callee.value (.func 11), args := #[Go.Operand.tmp 96, Go.Operand.const (Go.Value.int Go.IntKind.i64 0), Go.Operand.const (Go.Value.int Go.IntKind.i64 4)], argTypes := #[3, 3, 3] }, 3, "law.go:49", #[⟨2, .data⟩], none⟩) rfl (fun K hK => ?_) AllReadyH.nil
              go_simp
              refine (HCL.out _).mono ?_
              rintro x wz ⟨rfl, rfl⟩
              go_wp2_with fail
              refine hK.out _ _ (by first | with_reducible exact K11.out | with_reducible exact K10.out | with_reducible exact K9.out | with_reducible exact K8.out | with_reducible exact K7.out | with_reducible exact K6.out | with_reducible exact K0.out) (fun hHeld => ?_)
              clear hK K hHeld
              try simp only [Act.put, List.setIfInBounds_toArray, List.set_cons_zero, List.set_cons_succ]
              refine wpAnyH_ready (rs := [6]) (by kernel_rfl) (by simp) ?_
              refine AllReadyH.cons (o := ⟨some 100, .call { callee := Go.Callee.value (.func 12), args := #[Go.Operand.tmp 99], argTypes := #[33] }, 33, "law.go:49", #[⟨5, .data⟩, ⟨3, .chain⟩], none⟩) rfl (fun K hK => ?_) AllReadyH.nil
              go_simp
              refine (HSEC.out _ HXE.out.mix.below).mono ?_
              rintro x w9 ⟨v9, F9, rfl, s9', a9⟩
              obtain ⟨aa9, kk9, rfl, _, _⟩ := s9'.form0
              have HS9 := Lib.hid s9'
              have HA9 := Lib.hid a9
              have K9 := Lib.hid ((HXE.out.far (a9.sub (G := Nul) (fun _ x => x.elim))).blk.two_cells)
              clear s9' a9
              go_wp2_with fail
              refine hK.out _ _ (by first | with_reducible exact K11.out | with_reducible exact K10.out | with_reducible exact K9.out | with_reducible exact K8.out | with_reducible exact K7.out | with_reducible exact K6.out | with_reducible exact K0.out) (fun hHeld => ?_)
              clear hK K hHeld
              try simp only [Act.put, List.setIfInBounds_toArray, List.set_cons_zero, List.set_cons_succ]
              refine wpAnyH_ready (rs := [7]) (by kernel_rfl) (by simp) ?_
              refine AllReadyH.cons (o := ⟨some 101, .call { callee := Go.Callee.value (.func 13), args := #[Go.Operand.tmp 94, Go.Operand.tmp 97, Go.Operand.tmp 100], argTypes := #[27, 3, 33] }, 3, "law.go:49", #[⟨0, .data⟩, ⟨3, .data⟩, ⟨6, .data⟩, ⟨6, .chain⟩], none⟩) rfl (fun K hK => ?_) AllReadyH.nil
              go_simp
              refine (HW2.out _ _ _ _ HXE.out HS9.out HA9.out).mono ?_
              rintro x w10 ⟨rfl, h10⟩
              have MV := Lib.hid h10
              have K10 := Lib.hid (h10.blk.two_cells)
              clear h10
              go_wp2_with fail
              refine hK.out _ _ (by first | with_reducible exact K11.out | with_reducible exact K10.out | with_reducible exact K9.out | with_reducible exact K8.out | with_reducible exact K7.out | with_reducible exact K6.out | with_reducible exact K0.out) (fun hHeld => ?_)
              clear hK K hHeld
              try simp only [Act.put, List.setIfInBounds_toArray, List.set_cons_zero, List.set_cons_succ]
              refine wpAnyH_done (by kernel_rfl) ?_ _
              go_wp2_with fail
              go_meet
              exact ⟨s1, MV.out.mix, HSB1.out, HFEW.out⟩
          · by_cases q2 : xk = 2
            · have p2 : (xk == 2) = true := by simp [q2]
              have p0 : (xk == 0) = false := by simp [q0]
              have p1 : (xk == 1) = false := by simp [q1]
              clear q0 q1 q2
              as_aux_lemma =>
                obtain ⟨s1, hs1⟩ : ∃ s1, s1 = (fuseS s xn).1 := ⟨_, rfl⟩
                have hw1 := fun w' (h : Mix2 w w' d c 5 s s p (#[.int .i64 xk, .int .i64 xa, .int .i64 xn, .int .u64 (xe : Int), .int .u64 (xg : Int), .int .u64 (xt : Int), .int .u64 (xf : Int), .slice ab mb cb, .slice ak mk ck])) => mix2_fuse h xn HNN.out
                have hw2 := fun w' (h : Mix2 w w' d c 5 ((fuseS s xn).1) s p (#[.int .i64 xk, .int .i64 xa, .int .i64 xn, .int .u64 (xe : Int), .int .u64 (xg : Int), .int .u64 (xt : Int), .int .u64 (xf : Int), .slice ab mb cb, .slice ak mk ck])) => mix2_rarm h xn HNN.out
                have hfew := few_fuse s xn
                have hsb := HSB.out.fuse xn
                rw [← hs1] at hw1 hw2 hfew hsb
                have HW1 := Lib.hid hw1
                have HW2 := Lib.hid hw2
                have HFEW := Lib.hid (show s1.Q.length ≤ k + 1 by have := HQK.out; omega)
                have HSB1 := Lib.hid hsb
                clear hw1 hw2 hfew hsb hs1
                go_wp2_with fail
                refine (HW1.out _ HX.out).mono ?_
                rintro x w4 ⟨rfl, h4⟩
                have MW := Lib.hid h4
                clear h4 c0 c1 c2 c3 c4 c5 c6 c7 c8
                obtain ⟨c0, c1, c2, c3, c4, c5, c6, c7, c8⟩ := MW.out.blk.nine_cells
                go_wp2_with fail
                refine (HW2.out _ MW.out).mono ?_
                rintro x w5 ⟨rfl, h5⟩
                have MV := Lib.hid h5.mix
                clear h5 c0 c1 c2 c3 c4 c5 c6 c7 c8
                go_wp2_with fail
                go_meet
                exact ⟨s1, MV.out, HSB1.out, HFEW.out⟩
            · have q0' : (xk == 0) = false := by simp [q0]
              have q1' : (xk == 1) = false := by simp [q1]
              have q2' : (xk == 2) = false := by simp [q2]
              clear q0 q1 q2
              as_aux_lemma =>
                obtain ⟨s1, hs1⟩ : ∃ s1, s1 = crashS s ks xn := ⟨_, rfl⟩
                have hw1 := fun w' (h : Mix2 w w' d c 5 s s p (#[.int .i64 xk, .int .i64 xa, .int .i64 xn, .int .u64 (xe : Int), .int .u64 (xg : Int), .int .u64 (xt : Int), .int .u64 (xf : Int), .slice ab mb cb, .slice ak mk ck])) => mix2_crash h xn HKS.out HKO.out
                have hw2 := fun w' (h : Mix2 w w' d c 5 (crashS s ks xn) s p (#[.int .i64 xk, .int .i64 xa, .int .i64 xn, .int .u64 (xe : Int), .int .u64 (xg : Int), .int .u64 (xt : Int), .int .u64 (xf : Int), .slice ab mb cb, .slice ak mk ck])) => mix2_rcrash h xn HKS.out HKO.out (by decide) (by have := HQ.out; omega)
                have hfew := few_crash s ks xn
                have hsb := HSB.out.crash ks xn
                rw [← hs1] at hw1 hw2 hfew hsb
                have HW1 := Lib.hid hw1
                have HW2 := Lib.hid hw2
                have HFEW := Lib.hid (show s1.Q.length ≤ k + 1 by have := HQK.out; omega)
                have HSB1 := Lib.hid hsb
                clear hw1 hw2 hfew hsb hs1
                go_wp2_with fail
                refine (HW1.out _ HX.out).mono ?_
                rintro x w4 ⟨rfl, h4⟩
                have MW := Lib.hid h4
                clear h4 c0 c1 c2 c3 c4 c5 c6 c7 c8
                obtain ⟨c0, c1, c2, c3, c4, c5, c6, c7, c8⟩ := MW.out.blk.nine_cells
                go_wp2_with fail
                refine (HW2.out _ MW.out).mono ?_
                rintro x w5 ⟨rfl, h5⟩
                have MV := Lib.hid h5.mix
                clear h5 c0 c1 c2 c3 c4 c5 c6 c7 c8
                go_wp2_with fail
                go_meet
                exact ⟨s1, MV.out, HSB1.out, HFEW.out⟩
      case rest =>
      obtain ⟨s1, hm1, hb1, hq1⟩ := hcut
      have HM1 := Lib.hid hm1
      have hsz : s1.Q.length ≤ 1000000 := by have := HK30.out; omega
      have hl1 := fun w' (h : Mix w w' d c 5 s1 s1) => mix_hload h at_ hb1 (by decide) HAT.out.1 HAT.out.2
      have hl2 := fun w' (h : Mix w w' d c 5 s1 s1) => mix_rload2 h at_ hb1 hsz (by decide) (by decide)
      have HB1 := Lib.hid hb1
      have HQ1 := Lib.hid hq1
      obtain ⟨O, hO⟩ : ∃ O, O = ldO s1 5 at_ := ⟨_, rfl⟩
      obtain ⟨E, hE⟩ : ∃ O, O = ldE 5 at_ := ⟨_, rfl⟩
      rw [← hO, ← hE] at hl1 hl2
      obtain ⟨og, hog⟩ : ∃ x, x = (O.getD hZ).g := ⟨_, rfl⟩
      obtain ⟨ot, hot⟩ : ∃ x, x = (O.getD hZ).t := ⟨_, rfl⟩
      obtain ⟨of', hof⟩ : ∃ x, x = (O.getD hZ).f := ⟨_, rfl⟩
      obtain ⟨ob, hob⟩ : ∃ x, x = O.isSome := ⟨_, rfl⟩
      unfold hv at hl1 hl2
      rw [← hog, ← hot, ← hof, ← hob] at hl1 hl2
      have HL1' := Lib.hid hl1
      have HL2' := Lib.hid hl2
      have r1 : ((og : Int) == (og : Int)) = true := by simp
      have r2 : ((ot : Int) == (ot : Int)) = true := by simp
      have r3 : ((of' : Int) == (of' : Int)) = true := by simp
      have r4 : (E == E) = true := by simp
      have r5 : (ob == ob) = true := by simp
      clear hm1 hb1 hq1 hsz hl1 hl2 hO hE hog hot hof hob c0 c1 c2 c3 c4 c5 c6 c7 c8
      go_wp2_with fail
      refine (HL1'.out _ HM1.out).mono ?_
      rintro x w6 ⟨rfl, h6⟩
      obtain ⟨y1, hy1⟩ : ∃ y, y = w6.heap.size := ⟨_, rfl⟩
      obtain ⟨w7, hw7⟩ : ∃ w7, w7 = w6.alloc (.cells #[.int .u64 (og : Int), .int .u64 (ot : Int), .int .u64 (of' : Int)] 38) := ⟨_, rfl⟩
      have HY1 := Lib.hid (show Blk w7 y1 38 #[.int .u64 (og : Int), .int .u64 (ot : Int), .int .u64 (of' : Int)] by rw [hw7, hy1]; exact Blk.new _ _ _)
      have HM7 := Lib.hid (show Mix w w7 d c 5 s1 s1 by rw [hw7]; exact h6.far ((Adv.refl Nul w6).alloc _))
      have HW7 := Lib.hid hw7
      have HYY := Lib.hid hy1
      clear h6 hy1 hw7
      go_upto_region 23 with (fail)
      rw [← HW7.out, ← HYY.out]
      obtain ⟨z0, z1, z2⟩ := HY1.out.three
      go_wp2_with fail
      refine (HL2'.out _ HM7.out).mono ?_
      rintro x w8 ⟨rfl, a8⟩
      obtain ⟨y2, hy2⟩ : ∃ y, y = w8.heap.size := ⟨_, rfl⟩
      obtain ⟨w9, hw9⟩ : ∃ w7, w7 = w8.alloc (.cells #[.int .u64 (og : Int), .int .u64 (ot : Int), .int .u64 (of' : Int)] 32) := ⟨_, rfl⟩
      have hadv : Adv Nul w7 Nul w9 := by rw [hw9]; exact a8.alloc _
      have HY2 := Lib.hid (show Blk w9 y2 32 #[.int .u64 (og : Int), .int .u64 (ot : Int), .int .u64 (of' : Int)] by rw [hw9, hy2]; exact Blk.new _ _ _)
      have HY1' := Lib.hid (HY1.out.keep (hadv.block y1 HY1.out.lt (fun h => h)))
      have HM9 := Lib.hid (HM7.out.far hadv)
      have HW9 := Lib.hid hw9
      have HYZ := Lib.hid hy2
      clear hadv hw9 hy2 a8 z0 z1 z2
      go_upto_region 24 with (fail)
      rw [← HW9.out, ← HYZ.out]
      obtain ⟨z0, z1, z2⟩ := HY1'.out.three
      obtain ⟨x0, x1, x2⟩ := HY2.out.three
      go_wp2_with fail
      have hk30 := HK30.out
      exact ⟨⟨k + 1, s1, by simp, by omega, HQ1.out, HB1.out, HM9.out⟩, by simp [intOf]; omega⟩
    · have HEND := Lib.hid HXM.out.below
      rcases Nat.lt_or_ge k m with h1 | h1
      · have h2 : k = 30 := by omega
        subst h2
        have h3 : ((30 : Nat) : Int) < (m : Int) := by omega
        clear hgo h1
        go_wp2_with fail
        refine (hlives_any _).mono ?_
        rintro e w1 ⟨rfl, h1⟩
        have HL := Lib.hid h1
        clear h1
        go_wp2_with fail
        go_ret
        exact ⟨rfl, HEND.out.trans ⟨HL.out.os, HL.out.tape, HL.out.output, HL.out.size, fun j hj => HL.out.block j (Nat.lt_of_lt_of_le hj HEND.out.size) (fun h => h)⟩⟩
      · have h3 : (m : Int) ≤ (k : Int) := by omega
        clear hgo h1
        go_wp2_with fail
        refine (hlives_any _).mono ?_
        rintro e w1 ⟨rfl, h1⟩
        have HL := Lib.hid h1
        clear h1
        go_wp2_with fail
        go_ret
        exact ⟨rfl, HEND.out.trans ⟨HL.out.os, HL.out.tape, HL.out.output, HL.out.size, fun j hj => HL.out.block j (Nat.lt_of_lt_of_le hj HEND.out.size) (fun h => h)⟩⟩
end Go.Proofs.Ytochmeibmjfnnaa
